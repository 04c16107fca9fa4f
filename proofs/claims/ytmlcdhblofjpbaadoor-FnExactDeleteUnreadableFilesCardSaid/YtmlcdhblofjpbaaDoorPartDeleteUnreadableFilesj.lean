/- Texts joined: ValidDi In Bits Fmt Frows FmtRows FmtPages FitsDisk VQ CopyT Ck DOp. -/
import Derived.Test.YtmlcdhblofjpbaaDoorPartDeleteUnreadableFilesi
import Derived.Deep.CutRange
import Derived.WalkKit
import Derived.Laws.BitsAllLaws
import Derived.Laws.BitsLemmas
import Derived.IntWalk
import Derived.Deep.RegionHeld3
import Derived.Lib.Hide
/- The program's CountPages, isValidFile and IsValidDisk, by contract. -/
namespace Go.Proofs.YtmlcdhblofjpbaaDoor
open Go.RowKit
set_option linter.unusedVariables false

set_option maxRecDepth 100000 in
theorem icountp (a : Option Addr) (n c : Nat) (X : DiskD) (w : World) (h : diskRep.inn w X ((a, n, c), ())) (hw : wtDisk X ≤ 1000000000) :
    Calls Tryd.prog 80 #[.agg #[.slice a n c, .int .i64 X.fNextName]] w fun e w' => e = .returned (.int .i64 (DiskD.count X.fFiles : Nat)) ∧ Below w.heap.size w w' := by
  obtain ⟨W, hW⟩ : ∃ W, W = w.alloc (.cells #[.slice a n c, .int .i64 X.fNextName] 55) := ⟨_, rfl⟩
  have hb : Below w.heap.size w W := by rw [hW]; exact (Below.refl _ _).alloc (Nat.le_refl _) _
  have HB := Lib.hid hb
  have HI := Lib.hid (disk_in (h.keep hb)).1
  have HL := Lib.hid (disk_len h).1
  have hnm := (disk_len h).2
  unfold maxLen at hnm
  have HC := Lib.hid (Nat.le_trans (DiskD.count_wt X.fFiles) (show wtFiles X.fFiles ≤ 1000000000 from hw))
  have c0 : W.cell? ⟨w.heap.size, 0, none⟩ = some (.slice a n c) := by rw [hW]; simp
  clear h hb
  go_enter Tryd.func80, Tryd.ntmps80
  go_upto_region 2 with fail
  rw [← hW]
  clear hW
  go_wp2_with fail
  go_loopw [3, 9] (fun q i wr => ∃ (t m : Nat), q = .int .i64 m ∧ i = .int .i64 t ∧ t ≤ n ∧ Hid (m = DiskD.count (X.fFiles.take t)) ∧ Hid (Kept W.heap.size W wr)) (fun _ i _ => n - (intOf i).toNat)
  case atStart => exact ⟨0, 0, rfl, rfl, Nat.zero_le _, rfl, Kept.refl (Nat.le_refl _)⟩
  case round =>
    obtain ⟨t, m, rfl, rfl, ht, hm, hk⟩ := hrel
    by_cases hlt : t < n
    · have htl : t < X.fFiles.length := by have := HL.out; omega
      have hp : X.fFiles[t]? = some X.fFiles[t] := by simp [htl]
      obtain ⟨b, o, hd, rfl, hbl, hce, hin⟩ := HI.out.el hp
      have hnx := DiskD.count_next X.fFiles t htl
      have hle := DiskD.count_take X.fFiles (t + 1)
      have hcc := HC.out
      obtain ⟨f, hf⟩ : ∃ f, f = X.fFiles[t] := ⟨_, rfl⟩
      rw [← hf] at hce hin hnx
      obtain ⟨x0, x1, x2, x3⟩ := f
      obtain ⟨⟨a1, n1, k1⟩, ⟨⟩⟩ := hd
      obtain ⟨r0, ⟨h1, hc1⟩, r2, -⟩ := hin
      have d0 : wr.cell? ⟨b, o + t * 4, none⟩ = some (.int .i64 x0) := hk.out.cell hbl (hce 0 _ rfl)
      have d1 : wr.cell? ⟨b, o + t * 4 + 1, none⟩ = some (.slice a1 n1 k1) := hk.out.cell hbl (hce 1 _ rfl)
      have d2 : wr.cell? ⟨b, o + t * 4 + 2, none⟩ = some (.int .i64 x2) := hk.out.cell hbl (hce 2 _ rfl)
      have d3 : wr.cell? ⟨b, o + t * 4 + 3, none⟩ = some (.bool x3) := hk.out.cell hbl (hce 3 _ rfl)
      have hn1 : x1.length = n1 := h1.1
      have hnx' : DiskD.count (X.fFiles.take (t + 1)) = m + n1 := by rw [hnx, ← hm.out, ← hn1]
      have hsm : m + n1 ≤ 1000000000 := by omega
      have HNX := Lib.hid hnx'
      have KA := Lib.hid (hk.out.alloc (.cells #[.int .i64 x0, .slice a1 n1 k1, .int .i64 x2, .bool x3] 102))
      clear hf hp hce h1 hc1 r0 r2 hnx hle hcc hn1 hnx'
      go_wp2_with fail
      go_roundw
      case rel => exact ⟨t + 1, m + n1, by go_num, by go_num, by omega, HNX.out.symm, KA⟩
      case measure => simp [intOf]; omega
    · have hkk : X.fFiles.take t = X.fFiles := List.take_of_length_le (by have := HL.out; omega)
      rw [hkk] at hm
      have KB := Lib.hid (HB.out.trans (hk.out.1.mono HB.out.size))
      clear hkk
      go_wp2_with fail
      go_ret
      exact ⟨by rw [hm.out]; rfl, KB.out⟩
theorem all_next (P : List (List R)) {t : Nat} {p : List R} (h : P[t]? = some p) : R.allPages (P.take (t + 1)) = (R.allPages (P.take t) && R.pageOk p) := by
  have ht := idx_lt h
  rw [List.getElem?_eq_getElem ht] at h
  rw [List.take_succ_eq_append_getElem ht, Option.some.inj h]
  simp [R.allPages]
theorem all_bad (P : List (List R)) {t : Nat} {p : List R} (h : P[t]? = some p) (hp : R.pageOk p = false) : R.allPages P = false := by
  unfold R.allPages
  rw [List.all_eq_false]
  exact ⟨p, List.mem_of_getElem? h, by rw [hp]; simp⟩
set_option maxRecDepth 100000 in
set_option maxHeartbeats 1000000 in
theorem ivalidfile (x0 : Int) (a1 : Option Addr) (n1 k1 : Nat) (x1 : List (List R)) (x2 : Int) (x3 : Bool) (w : World) (h : SeqIn pageRep w a1 n1 x1) (hf : x1.flatten.length ≤ 1000000000) :
    Calls Tryd.prog 81 #[.agg #[.int .i64 x0, .slice a1 n1 k1, .int .i64 x2, .bool x3]] w fun e w' => e = .returned (.bool (FileD.ok ⟨x0, x1, x2, x3⟩)) ∧ Below w.heap.size w w' := by
  obtain ⟨W, hW⟩ : ∃ W, W = w.alloc (.cells #[.int .i64 x0, .slice a1 n1 k1, .int .i64 x2, .bool x3] 102) := ⟨_, rfl⟩
  have hb : Below w.heap.size w W := by rw [hW]; exact (Below.refl _ _).alloc (Nat.le_refl _) _
  have k0 : W.heap[w.heap.size]? = some (.cells #[.int .i64 x0, .slice a1 n1 k1, .int .i64 x2, .bool x3] 102 (0, 0)) := by rw [hW]; exact heap_alloc_new _ _
  have HB := Lib.hid hb
  have HI := Lib.hid (h.keep hb)
  have HL := Lib.hid h.1
  have hnm := h.2.1
  unfold maxLen at hnm
  have HF := Lib.hid hf
  have HV := Lib.hid (show FileD.ok ⟨x0, x1, x2, x3⟩ = (R.allPages x1 && (x3 || decide (x2 = 0))) from rfl)
  have e1 := box_cell k0 1 _ rfl
  have e2 := box_cell k0 2 _ rfl
  have e3 := box_cell k0 3 _ rfl
  clear h hb k0 hf
  go_enter Tryd.func81, Tryd.ntmps81
  go_upto_region 1 with fail
  rw [← hW]
  clear hW
  by_cases hbad : x3 = false ∧ x2 ≠ 0
  · obtain ⟨rfl, hne⟩ := hbad
    have hne2 : (x2 != 0) = true := by simpa using hne
    have HN := Lib.hid (show FileD.ok ⟨x0, x1, x2, false⟩ = false by rw [HV.out, decide_eq_false hne]; simp)
    go_wp2_with fail
    go_ret
    exact ⟨by rw [HN.out]; rfl, HB.out⟩
  have HW : Hid (FileD.ok ⟨x0, x1, x2, x3⟩ = R.allPages x1) := Lib.hid (by
    rw [HV.out]
    cases x3 with
    | true => simp
    | false =>
      have : x2 = 0 := by
        by_cases h1 : x2 = 0
        · exact h1
        · exact absurd ⟨rfl, h1⟩ hbad
      rw [decide_eq_true this]; simp)
  have hst : (x3 = true) ∨ (x3 = false ∧ x2 = 0) := by
    cases x3 with
    | true => exact .inl rfl
    | false => exact .inr ⟨rfl, by
        by_cases h1 : x2 = 0
        · exact h1
        · exact absurd ⟨rfl, h1⟩ hbad⟩
  clear hbad
  rcases hst with rfl | ⟨rfl, rfl⟩
  all_goals (
    go_wp2_with fail
    go_loopw [16] (fun i wr => ∃ (t : Nat), i = .int .i64 t ∧ t ≤ n1 ∧ Hid (R.allPages (x1.take t) = true) ∧ Hid (Kept W.heap.size W wr)) (fun i _ => n1 - (intOf i).toNat)
    case atStart => exact ⟨0, rfl, Nat.zero_le _, rfl, Kept.refl (Nat.le_refl _)⟩
    case round =>
      obtain ⟨t, rfl, ht, hall, hk⟩ := hrel
      by_cases hlt : t < n1
      · have htl : t < x1.length := by have := HL.out; omega
        obtain ⟨p, hp⟩ : ∃ p, x1[t]? = some p := ⟨x1[t], by simp [htl]⟩
        obtain ⟨b, o, d, k, m, rfl, hbl, hce, hin, -⟩ := HI.out.at hp
        have HP := Lib.hid hp
        have d0 : wr.cell? ⟨b, o + t, none⟩ = some (.slice d k m) := hk.out.cell hbl hce
        have hkn : k ≤ 1000000000 := by
          have h1 := flat_mem x1 t htl
          have h2 : x1[t] = p := by rw [List.getElem?_eq_getElem htl] at hp; exact Option.some.inj hp
          rw [h2] at h1
          have h3 := hin.1
          have h4 := HF.out
          omega
        have KA := Lib.hid (hk.out.alloc (.cells #[.slice d k m] 72))
        have PIN := Lib.hid (hin.keep KA.out.1)
        clear hp hce hin
        go_wp2_with fail
        refine (ivalidpage d k m p _ PIN.out (by omega)).mono ?_
        rintro e w5 ⟨rfl, b5⟩
        have K5 := Lib.hid (KA.out.below b5)
        have KB := Lib.hid (HB.out.trans (K5.out.1.mono HB.out.size))
        clear b5
        cases hpo : R.pageOk p with
        | false =>
          have HN := Lib.hid (HW.out.trans (all_bad x1 HP.out hpo))
          clear hpo
          go_wp2_with fail
          go_ret
          exact ⟨by rw [HN.out]; rfl, KB.out⟩
        | true =>
          have HN := Lib.hid (show R.allPages (x1.take (t + 1)) = true by rw [all_next x1 HP.out, hall.out, hpo]; rfl)
          clear hpo
          go_wp2_with fail
          go_roundw
          case rel => exact ⟨t + 1, by go_num, by omega, HN, K5⟩
          case measure => simp [intOf]; omega
      · have hkk : x1.take t = x1 := List.take_of_length_le (by have := HL.out; omega)
        rw [hkk] at hall
        have KB := Lib.hid (HB.out.trans (hk.out.1.mono HB.out.size))
        have HN := Lib.hid (HW.out.trans hall.out)
        clear hkk
        go_wp2_with fail
        go_ret
        exact ⟨by rw [HN.out]; rfl, KB.out⟩)
/-- Whether one file passes the program's test: its name is not below 'low'. -/
theorem okat_low {nx lo : Int} {F : List FileD} {t : Nat} {f : FileD} (hf : F[t]? = some f) (hlo : lo = DiskD.low F t) : DiskD.okAt nx F t = (decide (lo ≤ f.fName) && decide (f.fName < nx) && f.ok) := by
  rw [DiskD.okAt_some hf, hlo, Bool.decide_and]
set_option maxRecDepth 100000 in
set_option maxHeartbeats 2000000 in
theorem iokdisk (a : Option Addr) (n c : Nat) (X : DiskD) (w : World) (h : diskRep.inn w X ((a, n, c), ())) (hw : wtDisk X ≤ 1000000000) :
    Calls Tryd.prog 41 #[.agg #[.slice a n c, .int .i64 X.fNextName]] w fun e w' => e = .returned (.bool (DiskD.okD X)) ∧ Below w.heap.size w w' := by
  obtain ⟨W, hW⟩ : ∃ W, W = w.alloc (.cells #[.slice a n c, .int .i64 X.fNextName] 55) := ⟨_, rfl⟩
  have hb : Below w.heap.size w W := by rw [hW]; exact (Below.refl _ _).alloc (Nat.le_refl _) _
  have k0 : W.heap[w.heap.size]? = some (.cells #[.slice a n c, .int .i64 X.fNextName] 55 (0, 0)) := by rw [hW]; exact heap_alloc_new _ _
  have HB := Lib.hid hb
  have HX := Lib.hid (h.keep hb)
  have HI := Lib.hid (disk_in (h.keep hb)).1
  have HL := Lib.hid (disk_len h).1
  have hnm := (disk_len h).2
  unfold maxLen at hnm
  have HW := Lib.hid hw
  have FF : Hid (∀ v, Kept W.heap.size W v → v.cell? ⟨w.heap.size, 0, none⟩ = some (.slice a n c) ∧ v.cell? ⟨w.heap.size, 1, none⟩ = some (.int .i64 X.fNextName)) := Lib.hid fun v hv =>
    ⟨hv.cell (lt_of_block k0) (box_cell k0 0 _ rfl), hv.cell (lt_of_block k0) (box_cell k0 1 _ rfl)⟩
  obtain ⟨p0, p1⟩ := FF.out W (Kept.refl (Nat.le_refl _))
  clear h hb k0 hw
  go_enter Tryd.func41, Tryd.ntmps41
  go_upto_region 1 with fail
  rw [← hW]
  clear hW
  go_wp2_with fail
  refine (iup X.fNextName 1000 W).mono ?_
  rintro e w1 ⟨rfl, rfl⟩
  cases hN : decide (0 ≤ X.fNextName ∧ X.fNextName ≤ 1000) with
  | false =>
    have HV := Lib.hid (show DiskD.okD X = false by unfold DiskD.okD; rw [hN]; rfl)
    clear hN
    go_wp2_with fail
    go_ret
    exact ⟨by rw [HV.out]; rfl, HB.out⟩
  | true =>
    have HG := Lib.hid (of_decide_eq_true hN)
    clear hN
    go_wp2_with fail
    clear p0 p1
    refine (icountp a n c X W HX.out HW.out).mono ?_
    rintro e w2 ⟨rfl, b2⟩
    have K2 : Hid (Kept W.heap.size W w2) := Lib.hid ⟨b2, b2.size⟩
    obtain ⟨p0, p1⟩ := FF.out _ K2.out
    clear b2
    obtain ⟨m, hm⟩ : ∃ m, m = DiskD.count X.fFiles := ⟨_, rfl⟩
    rw [← hm]
    by_cases h40 : 40 < (m : Int)
    · have HV := Lib.hid (show DiskD.okD X = false by unfold DiskD.okD; rw [decide_eq_false (p := DiskD.count X.fFiles ≤ 40) (by omega)]; simp)
      have KB := Lib.hid (HB.out.trans (K2.out.1.mono HB.out.size))
      clear hm
      go_wp2_with fail
      go_ret
      exact ⟨by rw [HV.out]; rfl, KB.out⟩
    have HC := Lib.hid (show DiskD.count X.fFiles ≤ 40 by omega)
    have h40' : decide (40 < (m : Int)) = false := decide_eq_false h40
    have h40'' : decide (40 < m) = false := decide_eq_false (by omega)
    clear hm
    go_wp2_with fail
    clear p0 p1
    go_loopw [3, 18] (fun q i wr => ∃ (t : Nat) (lo : Int), q = .int .i64 lo ∧ i = .int .i64 t ∧ t ≤ n ∧ 0 ≤ lo ∧ lo ≤ 1000 ∧ Hid (lo = DiskD.low X.fFiles t) ∧ Hid (∀ s, s < t → DiskD.okAt X.fNextName X.fFiles s = true) ∧ Hid (Kept W.heap.size W wr)) (fun _ i _ => n - (intOf i).toNat)
    case atStart => exact ⟨0, 0, rfl, rfl, Nat.zero_le _, by omega, by omega, rfl, fun s hs => absurd hs (Nat.not_lt_zero _), K2⟩
    case round =>
      obtain ⟨t, lo, rfl, rfl, ht, hlo0, hlo1, hlow, hall, hk⟩ := hrel
      obtain ⟨p0, p1⟩ := FF.out wr hk.out
      by_cases hlt : t < n
      · have htl : t < X.fFiles.length := by have := HL.out; omega
        obtain ⟨f, hf⟩ : ∃ f, X.fFiles[t]? = some f := ⟨X.fFiles[t], by simp [htl]⟩
        obtain ⟨b, o, hd, rfl, hbl, hce, hin⟩ := HI.out.el hf
        have HF := Lib.hid hf
        have HFLAT : Hid (f.fPages.flatten.length ≤ 1000000000) := by
          have h1 := wt_file_at X.fFiles t htl
          have h2 := HW.out
          have h3 : X.fFiles[t] = f := by rw [List.getElem?_eq_getElem htl] at hf; exact Option.some.inj hf
          rw [h3] at h1
          have h4 : f.fPages.flatten.length ≤ wtFile f := flat_wt f.fPages
          have h5 : wtDisk X = wtFiles X.fFiles := rfl
          exact Lib.hid (by omega)
        have OK := Lib.hid (okat_low (nx := X.fNextName) hf hlow.out)
        obtain ⟨x0, x1, x2, x3⟩ := f
        obtain ⟨⟨a1, n1, k1⟩, ⟨⟩⟩ := hd
        have IN := Lib.hid hin.2.1.1
        have d0 : wr.cell? ⟨b, o + t * 4, none⟩ = some (.int .i64 x0) := hk.out.cell hbl (hce 0 _ rfl)
        have d1 : wr.cell? ⟨b, o + t * 4 + 1, none⟩ = some (.slice a1 n1 k1) := hk.out.cell hbl (hce 1 _ rfl)
        have d2 : wr.cell? ⟨b, o + t * 4 + 2, none⟩ = some (.int .i64 x2) := hk.out.cell hbl (hce 2 _ rfl)
        have d3 : wr.cell? ⟨b, o + t * 4 + 3, none⟩ = some (.bool x3) := hk.out.cell hbl (hce 3 _ rfl)
        obtain ⟨w3, hw3⟩ : ∃ u, u = wr.alloc (.cells #[.int .i64 x0, .slice a1 n1 k1, .int .i64 x2, .bool x3] 102) := ⟨_, rfl⟩
        obtain ⟨xg, hxg⟩ : ∃ g, g = wr.heap.size := ⟨_, rfl⟩
        have b3 : Below wr.heap.size wr w3 := by rw [hw3]; exact (Below.refl _ _).alloc (Nat.le_refl _) _
        have X3 : Hid (w3.heap[xg]? = some (.cells #[.int .i64 x0, .slice a1 n1 k1, .int .i64 x2, .bool x3] 102 (0, 0))) := Lib.hid (by rw [hw3, hxg]; exact heap_alloc_new _ _)
        have K3 := Lib.hid (hk.out.below b3)
        have KB := Lib.hid (HB.out.trans (K3.out.1.mono HB.out.size))
        have NO : Hid (DiskD.okAt X.fNextName X.fFiles t = false → DiskD.okD X = false) := Lib.hid fun h1 => DiskD.okD_bad htl h1
        clear b3 hce hin hf
        go_upto_region 7 with fail
        rw [← hxg, ← hw3]
        clear hw3 hxg d0 d1 d2 d3 p0 p1
        obtain ⟨p0, p1⟩ := FF.out w3 K3.out
        have e0 := box_cell X3.out 0 _ rfl
        have e1 := box_cell X3.out 1 _ rfl
        have e2 := box_cell X3.out 2 _ rfl
        have e3 := box_cell X3.out 3 _ rfl
        by_cases hlo : x0 < lo
        · have HN := Lib.hid (NO.out (by rw [OK.out, decide_eq_false (show ¬ lo ≤ x0 by omega)]; rfl))
          go_wp2_with fail
          go_ret
          exact ⟨by rw [HN.out]; rfl, KB.out⟩
        by_cases hnx : X.fNextName ≤ x0
        · have HN := Lib.hid (NO.out (by rw [OK.out, decide_eq_false (show ¬ x0 < X.fNextName by omega), Bool.and_false]; rfl))
          have hlo' : decide (x0 < lo) = false := decide_eq_false hlo
          go_wp2_with fail
          go_ret
          exact ⟨by rw [HN.out]; rfl, KB.out⟩
        have hlo' : decide (x0 < lo) = false := decide_eq_false hlo
        have hnx' : decide (X.fNextName ≤ x0) = false := decide_eq_false hnx
        have OK2 : Hid (DiskD.okAt X.fNextName X.fFiles t = FileD.ok ⟨x0, x1, x2, x3⟩) := Lib.hid (by rw [OK.out, decide_eq_true (show lo ≤ x0 by omega), decide_eq_true (show x0 < X.fNextName by omega)]; rfl)
        have HR : Hid (lo ≤ x0 ∧ x0 < X.fNextName) := Lib.hid ⟨by omega, by omega⟩
        clear hlo hnx
        go_wp2_with fail
        clear p0 p1 e0 e1 e2 e3
        refine (ivalidfile x0 a1 n1 k1 x1 x2 x3 w3 ((show SeqIn pageRep W a1 n1 x1 from IN.out).keep K3.out.1) HFLAT.out).mono ?_
        rintro e w4 ⟨rfl, b4⟩
        have K4 := Lib.hid (K3.out.below b4)
        have KB4 := Lib.hid (HB.out.trans (K4.out.1.mono HB.out.size))
        have X4 := Lib.hid ((b4.block _ (lt_of_block X3.out)).trans X3.out)
        have e0 := box_cell X4.out 0 _ rfl
        clear b4
        cases hfo : FileD.ok ⟨x0, x1, x2, x3⟩ with
        | false =>
          have HN := Lib.hid (NO.out (by rw [OK2.out, hfo]))
          clear hfo
          go_wp2_with fail
          go_ret
          exact ⟨by rw [HN.out]; rfl, KB4.out⟩
        | true =>
          have HN := Lib.hid (ok_next hall.out (by rw [OK2.out, hfo]))
          have HLN := Lib.hid (show x0 + 1 = DiskD.low X.fFiles (t + 1) by rw [DiskD.low_next HF.out])
          have hr1 := HR.out.1
          have hr2 := HR.out.2
          have hg2 := HG.out.2
          clear hfo
          go_wp2_with fail
          go_roundw
          case rel => exact ⟨t + 1, x0 + 1, by go_num, by go_num, by omega, by omega, by omega, HLN, HN, K4⟩
          case measure => simp [intOf]; omega
      · have htn : t = n := by omega
        have HV := Lib.hid (show DiskD.okD X = true by
          rw [DiskD.okD_all fun s hs => hall.out s (by have := HL.out; omega), decide_eq_true HG.out, decide_eq_true HC.out]; rfl)
        have KB := Lib.hid (HB.out.trans (hk.out.1.mono HB.out.size))
        clear htn
        go_wp2_with fail
        go_ret
        exact ⟨by rw [HV.out]; rfl, KB.out⟩
end Go.Proofs.YtmlcdhblofjpbaaDoor
/- The reference's l1In, by contract; a string's ending. -/
namespace Go.Proofs.YtmlcdhblofjpbaaDoor
open Go.RowKit

theorem in_yes (x lo hi : Int) (w : World) (h1 : lo ≤ x) (h2 : x ≤ hi) : Calls Tryd.prog 66 #[.int .i64 x, .int .i64 lo, .int .i64 hi] w fun e w' => e = .returned (.bool true) ∧ w = w' := by
  go_enter Tryd.func66, Tryd.ntmps66
  go_wp2
  go_ret
  exact ⟨rfl, rfl⟩
theorem in_no (x lo hi : Int) (w : World) (h : x < lo ∨ hi < x) : Calls Tryd.prog 66 #[.int .i64 x, .int .i64 lo, .int .i64 hi] w fun e w' => e = .returned (.bool false) ∧ w = w' := by
  by_cases h1 : x < lo
  · go_enter Tryd.func66, Tryd.ntmps66
    go_wp2
    go_ret
    exact ⟨rfl, rfl⟩
  · have h2 : hi < x := by omega
    have h3 : lo ≤ x := by omega
    have hd : decide (x ≤ hi) = false := by simpa using h2
    clear h1 h
    go_enter Tryd.func66, Tryd.ntmps66
    go_wp2
    go_ret
    exact ⟨rfl, rfl⟩

theorem ret_str {a b : List UInt8} (h : a = b) : Ending.returned (.string ⟨a.toArray⟩) = .returned (.string ⟨b.toArray⟩) := by rw [h]
end Go.Proofs.YtmlcdhblofjpbaaDoor
/- What '&', '|' and '<<' of the program's integers are on numbers that are not below zero; no function of the program. -/
namespace Go.Proofs.YtmlcdhblofjpbaaDoor
open Go.RowKit

theorem toNat_bv (a : Nat) (ha : a < 9223372036854775808) : (BitVec.ofInt 64 (a : Int)).toNat = a := by
  rw [BitVec.ofInt_natCast, BitVec.toNat_ofNat]; omega
theorem and64 (a b : Nat) (ha : a < 9223372036854775808) (hb : b < 9223372036854775808) : bits .and .i64 (a : Int) (b : Int) = ((a &&& b : Nat) : Int) := by
  have hx : a &&& b < 2 ^ 63 := Nat.and_lt_two_pow _ (by omega)
  show IntKind.i64.wrap ((BitVec.ofInt 64 (a : Int) &&& BitVec.ofInt 64 (b : Int)).toNat : Int) = _
  rw [BitVec.toNat_and, toNat_bv a ha, toNat_bv b hb, IntKind.wrap_i64]; omega
theorem or64 (a b : Nat) (ha : a < 9223372036854775808) (hb : b < 9223372036854775808) : bits .or .i64 (a : Int) (b : Int) = ((a ||| b : Nat) : Int) := by
  have hx : a ||| b < 2 ^ 63 := Nat.or_lt_two_pow (by omega) (by omega)
  show IntKind.i64.wrap ((BitVec.ofInt 64 (a : Int) ||| BitVec.ofInt 64 (b : Int)).toNat : Int) = _
  rw [BitVec.toNat_or, toNat_bv a ha, toNat_bv b hb, IntKind.wrap_i64]; omega
theorem xor64 (a b : Nat) (ha : a < 9223372036854775808) (hb : b < 9223372036854775808) : bits .xor .i64 (a : Int) (b : Int) = ((a ^^^ b : Nat) : Int) := by
  have hx : a ^^^ b < 2 ^ 63 := Nat.xor_lt_two_pow (by omega) (by omega)
  show IntKind.i64.wrap ((BitVec.ofInt 64 (a : Int) ^^^ BitVec.ofInt 64 (b : Int)).toNat : Int) = _
  rw [BitVec.toNat_xor, toNat_bv a ha, toNat_bv b hb, IntKind.wrap_i64]; omega
/-- A high part and a low part that do not meet: '|' is '+'. -/
theorem or_high (k a b : Nat) (hb : b < 2 ^ k) : (2 ^ k * a) ||| b = 2 ^ k * a + b := (Nat.two_pow_add_eq_or_of_lt hb a).symm
theorem low7 (m : Int) (h0 : 0 ≤ m) (h1 : m < 9223372036854775808) : bits .and .i64 m 127 = m % 128 := by
  obtain ⟨n, rfl⟩ : ∃ n : Nat, m = (n : Int) := ⟨m.toNat, by omega⟩
  have := and64 n 127 (by omega) (by omega)
  rw [show ((127 : Nat) : Int) = 127 from rfl] at this
  rw [this, show (127 : Nat) = 2 ^ 7 - 1 from rfl, Nat.and_two_pow_sub_one_eq_mod]
  omega
theorem high7 (m : Int) (h0 : 0 ≤ m) (h1 : m < 128) : bits .or .i64 m 128 = 128 + m := by
  obtain ⟨n, rfl⟩ : ∃ n : Nat, m = (n : Int) := ⟨m.toNat, by omega⟩
  have := or64 n 128 (by omega) (by omega)
  rw [show ((128 : Nat) : Int) = 128 from rfl] at this
  rw [this, Nat.or_comm, show (128 : Nat) = 2 ^ 7 * 1 from rfl, or_high 7 1 n (by omega)]
  omega
theorem low7_u8 (x : Int) (h0 : 0 ≤ x) (h1 : x < 256) : bits .and .u8 x 127 = x % 128 := bits_mask .u8 8 (by decide) wraps_u8 7 (by decide) x h0 h1
/-- 'v | int(c&127) << (7*k)' where v lies below 2^(7*k): the next seven bits. -/
theorem or_group (v c : Int) (k : Nat) (h7 : k < 7) (hv0 : 0 ≤ v) (hv : v < 2 ^ (7 * k)) (hc0 : 0 ≤ c) (hc : c < 256) :
    bits .or .i64 v (wrap64 (wrap64 (bits .and .u8 c 127) * 2 ^ (7 * k))) = v + 2 ^ (7 * k) * (c % 128) := by
  obtain ⟨V, rfl⟩ : ∃ V : Nat, v = (V : Int) := ⟨v.toNat, by omega⟩
  obtain ⟨C, rfl⟩ : ∃ C : Nat, c = (C : Int) := ⟨c.toNat, by omega⟩
  have hp : (2 : Nat) ^ (7 * k) ≤ 2 ^ 42 := Nat.pow_le_pow_right (by decide) (by omega)
  have hV : V < 2 ^ (7 * k) := by exact_mod_cast hv
  obtain ⟨p, hpe⟩ : ∃ p : Nat, p = 2 ^ (7 * k) := ⟨_, rfl⟩
  have hpi : (2 : Int) ^ (7 * k) = (p : Int) := by rw [hpe]; exact_mod_cast rfl
  rw [low7_u8 _ (by omega) (by omega), hpi]
  have hm : C % 128 * p ≤ 127 * p := Nat.mul_le_mul_right p (by omega)
  have e1 : wrap64 ((C : Int) % 128) = ((C % 128 : Nat) : Int) := by rw [IntWalk.wrap64_in _ ⟨by omega, by omega⟩]; omega
  have e2 : ((C % 128 : Nat) : Int) * (p : Int) = ((C % 128 * p : Nat) : Int) := by rw [Int.natCast_mul]
  rw [e1, e2, IntWalk.wrap64_in _ ⟨by omega, by omega⟩, or64 _ _ (by omega) (by omega), Nat.or_comm]
  have := or_high (7 * k) (C % 128) V (by omega)
  rw [← hpe] at this
  rw [show C % 128 * p = p * (C % 128) from Nat.mul_comm _ _, this, Int.natCast_add, Int.natCast_mul, show ((C % 128 : Nat) : Int) = (C : Int) % 128 by omega, Int.add_comm]
theorem low4_u8 (x : Int) (h0 : 0 ≤ x) (h1 : x < 256) : bits .and .u8 x 15 = x % 16 := bits_mask .u8 8 (by decide) wraps_u8 4 (by decide) x h0 h1
/-- 'v<<8 | b'. -/
theorem or_byte (v b : Int) (h0 : 0 ≤ v) (h1 : v < 281474976710656) (hb0 : 0 ≤ b) (hb : b < 256) : bits .or .i64 (v * 256) b = v * 256 + b := by
  obtain ⟨V, rfl⟩ : ∃ V : Nat, v = (V : Int) := ⟨v.toNat, by omega⟩
  obtain ⟨B, rfl⟩ : ∃ B : Nat, b = (B : Int) := ⟨b.toNat, by omega⟩
  have := or64 (2 ^ 8 * V) B (by omega) (by omega)
  rw [or_high 8 V B (by omega)] at this
  rw [show (V : Int) * 256 = ((2 ^ 8 * V : Nat) : Int) by omega, this]
  omega
end Go.Proofs.YtmlcdhblofjpbaaDoor
/- FormatInt of the reference: the decimal numeral of every integer. -/
namespace Go.Proofs.YtmlcdhblofjpbaaDoor
open Go.RowKit Num Dec

theorem str_cat (b : UInt8) (l : List UInt8) : (⟨[b].toArray⟩ : ByteArray) ++ ⟨l.toArray⟩ = ⟨(b :: l).toArray⟩ := ByteArray.mk_append_mk [b] l

theorem sfmt_zero (w : World) : Calls Tryd.prog 60 #[.int .i64 0] w fun e w' => e = .returned (.string ⟨(Lib.itoa 0).toArray⟩) ∧ Below w.heap.size w w' := by
  rw [itoa_zero]
  go_enter Tryd.func60, Tryd.ntmps60
  go_wp2
  go_ret
  exact ⟨rfl, Below.refl _ _⟩

set_option maxRecDepth 100000 in
theorem sfmt_pos (n : Int) (w : World) (h0 : 0 < n) (h63 : n ≤ 9223372036854775807) :
    Calls Tryd.prog 60 #[.int .i64 n] w fun e w' => e = .returned (.string ⟨(Lib.itoa n).toArray⟩) ∧ Below w.heap.size w w' := by
  rw [itoa_pos n h0]
  have hlen := dd_length_le n.toNat (by omega)
  have hz : (n == 0) = false := by rw [beq_eq_false_iff_ne]; omega
  have hneg : decide (n < 0) = false := by simp; omega
  go_enter Tryd.func60, Tryd.ntmps60
  go_wp2
  go_loopw [0, 3, 5] (fun m o _ wr => ∃ (x : Int) (out : List UInt8), m = .int .i64 x ∧ o = .string ⟨out.toArray⟩ ∧ 0 ≤ x ∧ x ≤ 9223372036854775807 ∧ Hid (dd n.toNat = dd x.toNat ++ out) ∧ Below w.heap.size w wr) (fun m _ _ _ => (intOf m).toNat)
  case atStart => exact ⟨n, [], rfl, rfl, by omega, h63, by show _ = _; simp, Below.refl _ _⟩
  case round =>
    obtain ⟨x, out, rfl, rfl, hx0, hx1, hD, hb⟩ := hrel
    have hol : out.length ≤ 20 := by have := congrArg List.length hD.out; rw [List.length_append] at this; omega
    by_cases hx : x = 0
    · have hout := hD.out
      rw [hx] at hout
      have HO : Hid (dd n.toNat = out) := hout
      have ht : (x != 0) = false := by rw [bne_eq_false_iff_eq]; exact hx
      clear hx hout
      go_wp2_with fail
      go_ret
      exact ⟨ret_str HO.out.symm, hb⟩
    · have ht : (x != 0) = true := by rw [bne_iff_ne]; exact hx
      have hxp : 0 < x := by omega
      clear hx
      obtain ⟨b, hb8⟩ : ∃ b : UInt8, b = UInt8.ofNat (48 + x.toNat % 10) := ⟨_, rfl⟩
      have hone := one_string wr (48 + x % 10) b (by rw [hb8, UInt8.toNat_ofNat']; omega)
      have HB := Lib.hid hb8
      clear hb8
      have hdec : ¬ x % 10 < 0 := by omega
      go_wp2_with fail
      go_roundw
      case rel =>
        refine ⟨x / 10, b :: out, rfl, by exact congrArg Value.string (str_cat _ _), by omega, by omega, ?_, hb.alloc hb.size _⟩
        show _ = _
        rw [hD.out, dd_step x.toNat (by omega), ← HB.out, show (x / 10).toNat = x.toNat / 10 by omega, List.append_assoc]; rfl
      case measure => simp [intOf]; omega

set_option maxRecDepth 100000 in
theorem sfmt_neg (n : Int) (w : World) (h0 : n < 0) (h63 : -9223372036854775808 ≤ n) :
    Calls Tryd.prog 60 #[.int .i64 n] w fun e w' => e = .returned (.string ⟨(Lib.itoa n).toArray⟩) ∧ Below w.heap.size w w' := by
  rw [itoa_neg n h0]
  have hlen := dd_length_le n.natAbs (by omega)
  have hz : (n == 0) = false := by rw [beq_eq_false_iff_ne]; omega
  have hneg : decide (n < 0) = true := by simpa using h0
  go_enter Tryd.func60, Tryd.ntmps60
  go_wp2
  go_loopw [0, 3, 5] (fun m o _ wr => ∃ (x : Int) (out : List UInt8), m = .int .i64 x ∧ o = .string ⟨out.toArray⟩ ∧ x ≤ 0 ∧ -9223372036854775808 ≤ x ∧ Hid (dd n.natAbs = dd x.natAbs ++ out) ∧ Below w.heap.size w wr) (fun m _ _ _ => (intOf m).natAbs)
  case atStart => exact ⟨n, [], rfl, rfl, by omega, h63, by show _ = _; simp, Below.refl _ _⟩
  case round =>
    obtain ⟨x, out, rfl, rfl, hx0, hx1, hD, hb⟩ := hrel
    have hol : out.length ≤ 20 := by have := congrArg List.length hD.out; rw [List.length_append] at this; omega
    by_cases hx : x = 0
    · have hout := hD.out
      rw [hx] at hout
      have HO : Hid (dd n.natAbs = out) := hout
      have ht : (x != 0) = false := by rw [bne_eq_false_iff_eq]; exact hx
      clear hx hout
      go_wp2_with fail
      go_ret
      exact ⟨by rw [HO.out]; exact congrArg (fun z => Ending.returned (Value.string z)) (str_cat 45 out), hb⟩
    · have ht : (x != 0) = true := by rw [bne_iff_ne]; exact hx
      have hxp : x < 0 := by omega
      clear hx
      obtain ⟨u, hu⟩ : ∃ u : Nat, x = -(u : Int) := ⟨x.natAbs, by omega⟩
      obtain ⟨b, hb8⟩ : ∃ b : UInt8, b = UInt8.ofNat (48 + u % 10) := ⟨_, rfl⟩
      obtain ⟨r, hr⟩ : ∃ r : Int, r = ((u % 10 : Nat) : Int) := ⟨_, rfl⟩
      obtain ⟨q, hq⟩ : ∃ q : Int, q = -((u / 10 : Nat) : Int) := ⟨_, rfl⟩
      have hmod : x.tmod 10 = -r := by rw [hu, hr, Int.neg_tmod, Int.ofNat_tmod]; rfl
      have hdiv : x.tdiv 10 = q := by rw [hu, hq, Int.neg_tdiv, Int.ofNat_tdiv]; rfl
      have hone := one_string wr (48 + r) b (by rw [hb8, hr, UInt8.toNat_ofNat']; omega)
      have hr0 : 0 ≤ r := by omega
      have hr1 : r ≤ 9 := by omega
      have hq0 : q ≤ 0 := by omega
      have hq1 : -922337203685477580 ≤ q := by omega
      have hqx : q.natAbs < x.natAbs := by omega
      have HB := Lib.hid hb8
      have HR := Lib.hid hr
      have HQ := Lib.hid hq
      have HU := Lib.hid hu
      clear hb8 hr hq hu
      by_cases hr2 : r = 0
      · have hmod0 : x.tmod 10 = 0 := by rw [hmod, hr2]; rfl
        have hone0 := one_string wr 48 b (by rw [HB.out, UInt8.toNat_ofNat']; have := HR.out; omega)
        clear hmod hone hr2 hr0 hr1
        go_wp2_with fail
        go_roundw
        case rel =>
          refine ⟨q, b :: out, rfl, by exact congrArg Value.string (str_cat _ _), hq0, by omega, ?_, hb.alloc hb.size _⟩
          show _ = _
          have h1 := HU.out
          have h2 := HQ.out
          rw [hD.out, dd_step x.natAbs (by omega), show x.natAbs = u by omega, ← HB.out, show q.natAbs = u / 10 by omega, List.append_assoc]; rfl
        case measure => simp [intOf]; omega
      · have hneg1 : decide (-r < 0) = true := by simp; omega
        go_wp2_with fail
        go_roundw
        case rel =>
          refine ⟨q, b :: out, rfl, by exact congrArg Value.string (str_cat _ _), hq0, by omega, ?_, hb.alloc hb.size _⟩
          show _ = _
          have h1 := HU.out
          have h2 := HQ.out
          rw [hD.out, dd_step x.natAbs (by omega), show x.natAbs = u by omega, ← HB.out, show q.natAbs = u / 10 by omega, List.append_assoc]; rfl
        case measure => simp [intOf]; omega
theorem sfmt (n : Int) (w : World) (h0 : -9223372036854775808 ≤ n) (h1 : n ≤ 9223372036854775807) :
    Calls Tryd.prog 60 #[.int .i64 n] w fun e w' => e = .returned (.string ⟨(Lib.itoa n).toArray⟩) ∧ Below w.heap.size w w' := by
  by_cases hz : n = 0
  · subst hz; exact sfmt_zero w
  · by_cases hp : 0 < n
    · exact sfmt_pos n w hp h1
    · exact sfmt_neg n w (by omega) h0
end Go.Proofs.YtmlcdhblofjpbaaDoor
/- The reference's FormatRow, by contract. -/
namespace Go.Proofs.YtmlcdhblofjpbaaDoor
open Go.RowKit Go.Lib

/-- The row lies in its box, and what was there at w's time is as it was. -/
structure Boxed (w : World) (r : R) (v : World) : Prop where
  c0 : v.cell? ⟨w.heap.size, 0, none⟩ = some (.int .i64 r.key)
  c1 : v.cell? ⟨w.heap.size, 1, none⟩ = some (.int .i64 r.value)
  c2 : v.cell? ⟨w.heap.size, 2, none⟩ = some (.int .i64 r.width)
  old : Below w.heap.size w v
  big : w.heap.size < v.heap.size
theorem Boxed.drew {w v : World} {r : R} (h : Boxed w r v) : Boxed w r v.drew := ⟨h.c0, h.c1, h.c2, h.old.drew, h.big⟩
theorem Boxed.next {w v v' : World} {r : R} (h : Boxed w r v) (hb : Below v.heap.size v v') : Boxed w r v' :=
  ⟨(hb.cell h.big).trans h.c0, (hb.cell h.big).trans h.c1, (hb.cell h.big).trans h.c2, h.old.trans (hb.mono (Nat.le_of_lt h.big)), Nat.lt_of_lt_of_le h.big hb.size⟩
theorem boxed_start {w w' : World} {r : R} {t : TypeId} (hb : Below (w.alloc (.cells #[.int .i64 r.key, .int .i64 r.value, .int .i64 r.width] t)).heap.size (w.alloc (.cells #[.int .i64 r.key, .int .i64 r.value, .int .i64 r.width] t)) w') : Boxed w r w' := by
  obtain ⟨⟨c0, c1, c2⟩, b⟩ := box_row (r := r) hb
  exact ⟨c0, by simpa using c1, by simpa using c2, b, box_lt hb⟩
theorem Boxed.facts {w v : World} {r : R} (h : Boxed w r v) : v.cell? ⟨w.heap.size, 0, none⟩ = some (.int .i64 r.key) ∧ v.cell? ⟨w.heap.size, 1, none⟩ = some (.int .i64 r.value) ∧ v.cell? ⟨w.heap.size, 2, none⟩ = some (.int .i64 r.width) ∧ Hid (Boxed w r v) := ⟨h.c0, h.c1, h.c2, h⟩
theorem fmt_str (a b c : List UInt8) : (⟨a.toArray⟩ : ByteArray) ++ ⟨#[46]⟩ ++ ⟨b.toArray⟩ ++ ⟨#[46]⟩ ++ ⟨c.toArray⟩ = ⟨(a ++ 46 :: (b ++ 46 :: c)).toArray⟩ := by
  have e : (⟨#[46]⟩ : ByteArray) = ⟨[46].toArray⟩ := rfl
  rw [e, ByteArray.mk_append_mk, ByteArray.mk_append_mk, ByteArray.mk_append_mk, ByteArray.mk_append_mk]
  simp
set_option maxRecDepth 100000 in
theorem sfrow (r : R) (w : World) : Calls Tryd.prog 157 #[r.val] w fun e w' => e = .returned (.string ⟨r.fmt.toArray⟩) ∧ Below w.heap.size w w' := by
  have HV := Lib.hid (svalid r)
  cases hok : r.ok with
  | false =>
    have hf : r.fmt = [] := by unfold R.fmt; rw [hok]; rfl
    have HF := Lib.hid hf
    rw [hok] at HV
    clear hf hok
    unfold R.val at HV ⊢
    go_enter Tryd.func157, Tryd.ntmps157
    go_wp2_with fail
    refine (HV.out _).mono ?_
    rintro e w1 ⟨rfl, b1⟩
    have HB := Lib.hid (boxed_start b1)
    clear b1
    go_wp2_with fail
    go_ret
    exact ⟨by rw [HF.out]; rfl, HB.out.old⟩
  | true =>
    have hf : r.fmt = itoa r.key ++ 46 :: (itoa r.value ++ 46 :: itoa r.width) := by unfold R.fmt; rw [hok]; rfl
    have HF := Lib.hid hf
    have hk := R.ok_iff.1 hok
    have l0 := dd_small r.key (by omega) (by omega)
    have l1 := dd_small r.value (by omega) (by omega)
    have l2 := dd_small r.width (by omega) (by omega)
    have F0 := Lib.hid fun w => sfmt r.key w (by omega) (by omega)
    have F1 := Lib.hid fun w => sfmt r.value w (by omega) (by omega)
    have F2 := Lib.hid fun w => sfmt r.width w (by omega) (by omega)
    rw [hok] at HV
    clear hf hok hk
    obtain ⟨a, ha⟩ : ∃ a, a = itoa r.key := ⟨_, rfl⟩
    obtain ⟨b, hb⟩ : ∃ a, a = itoa r.value := ⟨_, rfl⟩
    obtain ⟨c, hc⟩ : ∃ a, a = itoa r.width := ⟨_, rfl⟩
    rw [← ha] at F0 HF l0
    rw [← hb] at F1 HF l1
    rw [← hc] at F2 HF l2
    clear ha hb hc
    have n0 : ¬ 9223372036854775807 < a.length + 1 := by omega
    have n1 : ¬ 9223372036854775807 < a.length + 1 + b.length := by omega
    have n2 : ¬ 9223372036854775807 < a.length + 1 + b.length + 1 := by omega
    have n3 : ¬ 9223372036854775807 < a.length + 1 + b.length + 1 + c.length := by omega
    unfold R.val at HV ⊢
    go_enter Tryd.func157, Tryd.ntmps157
    go_wp2_with fail
    refine (HV.out _).mono ?_
    rintro e w1 ⟨rfl, b1⟩
    have HB := Lib.hid (boxed_start b1).drew
    have hb := boxed_start b1
    obtain ⟨c0, c1, c2, _, _⟩ := hb
    clear b1
    go_wp2_with fail
    go_region_held3 (fun v => v.cell? ⟨w.heap.size, 0, none⟩ = some (.int .i64 r.key) ∧ v.cell? ⟨w.heap.size, 1, none⟩ = some (.int .i64 r.value) ∧ v.cell? ⟨w.heap.size, 2, none⟩ = some (.int .i64 r.width) ∧ Hid (Boxed w r v)) (first | assumption | exact HB.out.facts | exact (Boxed.next (Hid.out (And.right (And.right (And.right (by assumption))))) (by assumption)).facts) (first | (go_at_call_of 60 r.key; refine (F0.out _).mono ?_; rintro e w' ⟨rfl, b2⟩) | (go_at_call_of 60 r.value; refine (F1.out _).mono ?_; rintro e w' ⟨rfl, b2⟩) | (go_at_call_of 60 r.width; refine (F2.out _).mono ?_; rintro e w' ⟨rfl, b2⟩))
    have hold := (Hid.out (And.right (And.right (And.right (by assumption : _ ∧ _ ∧ _ ∧ Hid (Boxed w r w'))))) : Boxed w r w').old
    go_wp2_with fail
    go_ret
    exact ⟨by rw [HF.out, ← fmt_str]; rfl, hold⟩
end Go.Proofs.YtmlcdhblofjpbaaDoor
/- The reference's FormatRows, by contract. -/
namespace Go.Proofs.YtmlcdhblofjpbaaDoor
open Go.RowKit Go.Lib

theorem cat3 (a b : List UInt8) : (⟨a.toArray⟩ : ByteArray) ++ ⟨#[32]⟩ ++ ⟨b.toArray⟩ = ⟨(a ++ [32] ++ b).toArray⟩ := by
  have e : (⟨#[32]⟩ : ByteArray) = ⟨[32].toArray⟩ := rfl
  rw [e, ByteArray.mk_append_mk, ByteArray.mk_append_mk]
set_option maxRecDepth 100000 in
theorem sfrows (a : Option Addr) (len cap : Nat) (L : List R) (w : World) (h : IsRows w a len L) (hlen : len ≤ 1000000000000) :
    Calls Tryd.prog 135 #[.slice a len cap] w fun e w' => e = .returned (.string ⟨(fmtRows L).toArray⟩) ∧ Below w.heap.size w w' := by
  have HI := Lib.hid h
  obtain ⟨hl, hwf, hc⟩ := h
  have HL := Lib.hid hl
  have HC := Lib.hid hc
  clear hl hwf hc
  go_enter Tryd.func135, Tryd.ntmps135
  go_wp2_with fail
  go_loopw [3, 4] (fun n i wr => ∃ (k : Nat) (x : List UInt8), n = .string ⟨x.toArray⟩ ∧ i = .int .i64 k ∧ k ≤ len ∧ Hid (x = join ((L.take k).map R.fmt) [32]) ∧ Hid (k = 0 ∨ okRows L = true) ∧ Hid (Below w.heap.size w wr)) (fun _ i _ => len - (RowKit.intOf i).toNat)
  case atStart => exact ⟨0, [], rfl, rfl, Nat.zero_le _, rfl, .inl rfl, Below.refl _ _⟩
  case round =>
    obtain ⟨k, x, rfl, rfl, hk, hx, hor, hb⟩ := hrel
    by_cases hlt : k < len
    · obtain ⟨b, o, rfl, hbl, hc⟩ : ∃ b o : Nat, a = some ⟨b, o, none⟩ ∧ b < w.heap.size ∧ ∀ t, t < len → RowAt w b (o + t * 3) (L.getD t R.zero) := by
        rcases HC.out with h0 | h0
        · omega
        · exact h0
      obtain ⟨r, hr⟩ : ∃ r, r = L.getD k R.zero := ⟨_, rfl⟩
      have hcr : RowAt w b (o + k * 3) r := by rw [hr]; exact hc k hlt
      have HCR := Lib.hid hcr
      have HR := Lib.hid hr
      clear hr hc hcr
      go_wp2_with fail
      refine (sare _ len cap L _ (HI.out.keep hb.out) (by omega)).mono ?_
      rintro e w1 ⟨rfl, b1⟩
      have B1 := Lib.hid (hb.out.trans (b1.mono hb.out.size))
      clear b1
      obtain ⟨c0, c1, c2⟩ := HCR.out.below B1.out hbl
      cases hok : okRows L with
      | false =>
        have hk0 : k = 0 := by rcases hor.out with h | h; exact h; rw [hok] at h; cases h
        subst hk0
        have hx0 : x = [] := hx.out
        subst hx0
        have HF : Hid (fmtRows L = []) := by show _ = _; unfold fmtRows; rw [hok]; rfl
        clear hok
        go_wp2_with fail
        go_ret
        exact ⟨by rw [HF.out]; rfl, B1.out⟩
      | true =>
        have h24 := okRows_length hok
        have hxl : x.length ≤ 216 := by
          rw [hx.out]
          have := join_fmt_length (L.take k)
          rw [List.length_take] at this
          omega
        have HN := Lib.hid (join_next L k (by rw [HL.out]; exact hlt))
        rw [← HR.out] at HN
        have hfl := fmt_length r
        have HOK := Lib.hid hok
        clear hok
        by_cases hk0 : k = 0
        · subst hk0
          have hx0 : x = [] := hx.out
          subst hx0
          simp only [Nat.zero_mul, Nat.add_zero] at c0 c1 c2
          go_wp2_with fail
          refine (sfrow r _).mono ?_
          rintro e w2 ⟨rfl, b2⟩
          have B2 := Lib.hid (B1.out.trans (b2.mono B1.out.size))
          clear b2
          have n1 : ¬ 9223372036854775807 < r.fmt.length := by omega
          go_wp2_with fail
          go_roundw
          case rel =>
            refine ⟨1, r.fmt, by first | rfl | simp, rfl, by omega, ?_, .inr HOK.out, B2⟩
            show _ = _
            have := HN.out
            rw [if_pos trivial] at this
            exact this.symm
          case measure => simp [RowKit.intOf]; omega
        · have hpos : (0 : Int) < k := by omega
          have n0 : ¬ 9223372036854775807 < x.length + 1 := by omega
          go_wp2_with fail
          refine (sfrow r _).mono ?_
          rintro e w2 ⟨rfl, b2⟩
          have B2 := Lib.hid (B1.out.trans (b2.mono B1.out.size))
          have n1 : ¬ 9223372036854775807 < x.length + 1 + r.fmt.length := by omega
          clear b2
          go_wp2_with fail
          go_roundw
          case rel =>
            refine ⟨k + 1, x ++ [32] ++ r.fmt, by rw [← cat3], by go_num, by omega, ?_, .inr HOK.out, B2⟩
            show _ = _
            rw [HN.out, if_neg hk0, hx.out]
          case measure => simp [RowKit.intOf]; omega
    · have hkl : k = len := by omega
      have hfin : fmtRows L = x := by
        have hx' := hx.out
        rw [hkl, ← HL.out, List.take_length] at hx'
        rcases hor.out with h | h
        · have : L = [] := List.eq_nil_of_length_eq_zero (by rw [HL.out]; omega)
          subst this
          rw [hx']; rfl
        · unfold fmtRows; rw [if_pos h, hx']
      have HA := Lib.hid hfin
      have hd : decide ((k : Int) < (len : Int)) = false := decide_eq_false (by omega)
      clear hfin hkl
      go_wp2_with fail
      go_ret
      exact ⟨by rw [HA.out]; rfl, hb.out⟩
end Go.Proofs.YtmlcdhblofjpbaaDoor
/- The reference's FormatPages (and its check of all pages), by contract. -/
namespace Go.Proofs.YtmlcdhblofjpbaaDoor
open Go.RowKit Go.Lib

theorem cat_page (a b : List UInt8) : ((⟨a.toArray⟩ : ByteArray) ++ ⟨#[91]⟩ ++ ⟨b.toArray⟩) ++ ⟨#[93]⟩ = ⟨(a ++ (91 :: (b ++ [93]))).toArray⟩ := by
  have e : (⟨#[91]⟩ : ByteArray) = ⟨[91].toArray⟩ := rfl
  have e2 : (⟨#[93]⟩ : ByteArray) = ⟨[93].toArray⟩ := rfl
  rw [e, e2, ByteArray.mk_append_mk, ByteArray.mk_append_mk, ByteArray.mk_append_mk]
  congr 1
  simp
theorem txt_length (P : List (List R)) : (P.flatMap R.pageTxt).length ≤ 218 * P.length := by
  induction P with
  | nil => simp
  | cons p P ih =>
    have h1 := fmtRows_length p
    rw [List.flatMap_cons, List.length_append, List.length_cons]
    have : (R.pageTxt p).length = (fmtRows p).length + 2 := by simp [R.pageTxt]
    omega
theorem txt_next (P : List (List R)) (t : Nat) (ht : t < P.length) : (P.take (t + 1)).flatMap R.pageTxt = (P.take t).flatMap R.pageTxt ++ (91 :: (fmtRows P[t] ++ [93])) := by
  rw [List.take_succ_eq_append_getElem ht, List.flatMap_append, List.flatMap_singleton]
  rfl
set_option maxRecDepth 100000 in
theorem sfpages (a : Option Addr) (n c : Nat) (P : List (List R)) (w : World) (h : SeqIn pageRep w a n P) (hn : n ≤ 1000000000) (hf : P.flatten.length ≤ 1000000000000) :
    Calls Tryd.prog 108 #[.slice a n c] w fun e w' => e = .returned (.string ⟨(R.fmtPages P).toArray⟩) ∧ Below w.heap.size w w' := by
  have HL := Lib.hid h.1
  have HI := Lib.hid h
  have HFL := Lib.hid hf
  obtain ⟨N, hN⟩ : ∃ N, N = P.flatten.length := ⟨_, rfl⟩
  rw [← hN] at hf
  have HN := Lib.hid hN
  clear h hN
  go_enter Tryd.func108, Tryd.ntmps108
  go_wp2_with fail
  go_loopw [3, 4] (fun s i wr => ∃ (t : Nat) (x : List UInt8), s = .string ⟨x.toArray⟩ ∧ i = .int .i64 t ∧ t ≤ n ∧ Hid (x = (P.take t).flatMap R.pageTxt) ∧ Hid (t = 0 ∨ R.allPages P = true) ∧ Hid (Below w.heap.size w wr)) (fun _ i _ => n - (RowKit.intOf i).toNat)
  case atStart => exact ⟨0, [], rfl, rfl, Nat.zero_le _, rfl, .inl rfl, Below.refl _ _⟩
  case round =>
    obtain ⟨t, x, rfl, rfl, ht, hx, hor, hb⟩ := hrel
    by_cases hlt : t < n
    · have htl : t < P.length := by have := HL.out; omega
      go_wp2_with fail
      refine (sallpages a n c P _ (HI.out.keep hb.out) HFL.out).mono ?_
      rintro e w1 ⟨rfl, b1⟩
      have B1 := Lib.hid (hb.out.trans (b1.mono hb.out.size))
      clear b1
      cases hok : R.allPages P with
      | false =>
        have hk0 : t = 0 := by rcases hor.out with h | h; exact h; rw [hok] at h; cases h
        subst hk0
        have hx0 : x = [] := hx.out
        subst hx0
        have HF : Hid (R.fmtPages P = []) := by show _ = _; unfold R.fmtPages; rw [hok]; rfl
        clear hok
        go_wp2_with fail
        go_ret
        exact ⟨by rw [HF.out]; rfl, B1.out⟩
      | true =>
        have hp : P[t]? = some P[t] := by simp [htl]
        obtain ⟨b, o, d, k, m, rfl, hbl, hcell, hin, -⟩ := (HI.out.keep B1.out).at hp
        have hkn : k ≤ 1000000000000 := by
          have h1 := flat_mem P t htl
          rw [hin.1, ← HN.out] at h1
          omega
        have hxl : x.length ≤ 218000000000 := by
          have h2 := txt_length (P.take t)
          rw [← hx.out, List.length_take] at h2
          omega
        have HNX := Lib.hid (txt_next P t htl)
        obtain ⟨p, hpp⟩ : ∃ p, p = P[t] := ⟨_, rfl⟩
        rw [← hpp] at hin HNX
        have hpl := fmtRows_length p
        have IN := Lib.hid (rows_in hin)
        have HOK := Lib.hid hok
        have n0 : ¬ 9223372036854775807 < x.length + 1 := by omega
        clear hok hin hp hpp
        go_wp2_with fail
        refine (sfrows d k m p _ IN.out hkn).mono ?_
        rintro e w2 ⟨rfl, b2⟩
        have B2 := Lib.hid (B1.out.trans (b2.mono B1.out.size))
        obtain ⟨z, hz⟩ : ∃ z, z = fmtRows p := ⟨_, rfl⟩
        rw [← hz] at HNX hpl ⊢
        clear b2 hz
        have n1 : ¬ 9223372036854775807 < x.length + 1 + z.length := by omega
        have n2 : ¬ 9223372036854775807 < x.length + 1 + z.length + 1 := by omega
        go_wp2_with fail
        rw [cat_page]
        go_roundw
        case rel => exact ⟨t + 1, _, rfl, by go_num, by omega, (by show _ = _; rw [HNX.out, hx.out]), .inr HOK.out, B2⟩
        case measure => simp [RowKit.intOf]; omega
    · have hkl : t = n := by omega
      have hfin : R.fmtPages P = x := by
        unfold R.fmtPages
        rcases hor.out with h0 | h0
        · have hP : P = [] := List.eq_nil_of_length_eq_zero (by have := HL.out; omega)
          rw [hx.out, hP, List.take_nil]
          rfl
        · rw [if_pos h0, hx.out, hkl, List.take_of_length_le (by have := HL.out; omega)]
      have HF := Lib.hid hfin
      clear hfin hkl
      go_wp2_with fail
      go_ret
      exact ⟨by rw [HF.out]; rfl, hb.out⟩
end Go.Proofs.YtmlcdhblofjpbaaDoor
/- Disks told by trees, for contracts over shapes; the contracts of chapters 4 and 6 that answer plain values, told by trees. -/
namespace Go.Proofs.YtmlcdhblofjpbaaDoor
open Go Go.RowKit V
set_option linter.unusedVariables false
def goodPage (p : List R) : Prop := ∀ r ∈ p, r.wf
def goodFile (x : FileD) : Prop := I64 x.fName ∧ (∀ p ∈ x.fPages, goodPage p) ∧ I64 x.fChecksum ∧ True
def goodDisk (x : DiskD) : Prop := (∀ f ∈ x.fFiles, goodFile f) ∧ I64 x.fNextName ∧ True
theorem fitsRow : Fits rowRep tRow R.wf := Fits.row
theorem fitsPage : Fits pageRep tPage goodPage := Fits.slice 41 fitsRow
theorem fitsFile : Fits fileRep tFile goodFile := Fits.via (fun x : FileD => (x.fName, x.fPages, x.fChecksum, x.fSealed, ())) (Fits.int (Fits.seq 72 fitsPage (Fits.int (Fits.bool Fits.fin))))
theorem fitsDisk : Fits diskRep tDisk goodDisk := Fits.via (fun x : DiskD => (x.fFiles, x.fNextName, ())) (Fits.seq 102 fitsFile (Fits.int Fits.fin))
theorem vokdisk_s (X : DiskD) (hX : goodDisk X) (hw : wtDisk X ≤ 1000000000) : VC Tryd.prog 42 [(true, tDisk X)] false [(false, [.lit (.bool (DiskD.okD X))])] :=
  VC.shape1 fitsDisk hX (ag := true) rfl fun w k h => sokdisk k.1.1 k.1.2.1 k.1.2.2 X w h hw
theorem vokdisk_i (X : DiskD) (hX : goodDisk X) (hw : wtDisk X ≤ 1000000000) : VC Tryd.prog 41 [(true, tDisk X)] false [(false, [.lit (.bool (DiskD.okD X))])] :=
  VC.shape1 fitsDisk hX (ag := true) rfl fun w k h => iokdisk k.1.1 k.1.2.1 k.1.2.2 X w h hw
theorem vat_s (X : DiskD) (name : Int) (hX : goodDisk X) : VC Tryd.prog 106 [(true, tDisk X), (false, [.lit (.int .i64 name)])] false [(false, [.lit (.int .i64 (DiskD.atI X.fFiles name))])] :=
  VC.shape2 fitsDisk hX (ag := true) rfl fun w k h => sat k.1.1 k.1.2.1 k.1.2.2 X name w h
theorem vfpages_s (P : List (List R)) (hP : ∀ p ∈ P, goodPage p) (hn : P.length ≤ 1000000000) (hf : P.flatten.length ≤ 1000000000000) : VC Tryd.prog 108 [(false, [.seq 72 (P.map tPage)])] false [(false, [.lit (.string ⟨(R.fmtPages P).toArray⟩)])] :=
  VC.shape1 (Fits.slice 72 fitsPage) hP (ag := false) rfl fun w k h => by
    have e : k.2.1 = P.length := h.1.1.symm
    exact sfpages k.1 k.2.1 k.2.2 P w h.1 (by omega) hf
end Go.Proofs.YtmlcdhblofjpbaaDoor
/- States told by trees: comparisons with nil, calls that write into what they are lent and answer nothing. -/
namespace Go.Proofs.YtmlcdhblofjpbaaDoor.V
open Go Go.RowKit
set_option linter.unusedVariables false
variable {P : Program} {E : Env} {N nb : Nat} {σ σ' τ : VS} {o : Oper} {a : Act} {w : World} {G : Ghost} {Q : Exit → Act → World → Prop} {K : Act → World → Prop}
/-- The call turns the lent objects from ls into ls', whatever the memory. -/
def VU (P : Program) (f : FuncId) (ins : List (Bool × List AC)) (ls ls' : List T) : Prop :=
  ∀ (w : World) (lv : Nat → Value) (F : Nat → Nat → Prop) (hF : ∀ i b, i < ls.length → F i b → b < w.heap.size) (vs : List Value), (∀ i t, ls[i]? = some t → Own w 0 t (lv i) (F i) ∧ ∃ ty es, t = .seq ty es) → (∀ i j b, i < ls.length → j < ls.length → i ≠ j → F i b → ¬ F j b) → ArgsM (Env.lend w lv F ls.length hF) ins vs →
    Calls P f vs.toArray w fun e w' => (∃ v, e = .returned v ∧ Same (Env.lend w lv F ls.length hF) (Env.lend w lv F ls.length hF).w0 w') ∧ Lents (Env.lend w lv F ls.length hF) ls' w'
/-- A call that writes into objects of the caller's, its answer not wanted. -/
theorem ok_callU {d : Nat} {f : FuncId} {xs : List Operand} {ats : Array TypeId} {ins : List (Bool × List AC)} {ls ls' : List T} {is : List Nat} (ho : o.op = .call { callee := .value (.func f), args := xs.toArray, argTypes := ats }) (hb : ∃ fn c, P.funcs[f]? = some fn ∧ fn.body = some c ∧ fn.name ≠ "runtime.NumGoroutine")
    (hc : VU P f ins ls ls') (hx : σ.argsM (is.map .hd) xs ins) (hi : σ.lentIs is ls ls') (hnd : is.Nodup) (hd : o.dst = some d) (hdN : d < N) : OpOk P E N σ o ((σ.setobs is ls').put d (V.one .dead)) :=
  fun a w G K Q h k => by
    obtain ⟨fn, c, h1, h2, h2'⟩ := hb
    obtain ⟨l1, l2, l3⟩ := lentIs_get hi
    obtain ⟨F, hFd⟩ : ∃ F : Nat → Nat → Prop, F = fun q => G.ft (is.getD q 0) := ⟨_, rfl⟩
    obtain ⟨lv, hlv⟩ : ∃ lv : Nat → Value, lv = fun q => G.vl (is.getD q 0) := ⟨_, rfl⟩
    have hat : ∀ q i, is[q]? = some i → F q = G.ft i ∧ lv q = G.vl i := fun q i hq => by rw [hFd, hlv]; simp [List.getD, hq]
    have hin : ∀ q, q < ls.length → ∃ i ver t t', is[q]? = some i ∧ ls[q]? = some t ∧ ls'[q]? = some t' ∧ σ.ob i = some (ver, t) ∧ (∃ ty es, t' = .seq ty es) ∧ F q = G.ft i ∧ lv q = G.vl i := fun q hq => by
      obtain ⟨i, ver, t', e1, e2, e3, e4⟩ := l3 q ls[q] (List.getElem?_eq_getElem hq)
      exact ⟨i, ver, ls[q], t', e1, List.getElem?_eq_getElem hq, e2, e3, e4, hat q i e1⟩
    have hF : ∀ q b, q < ls.length → F q b → (E.B ≤ b ∨ E.ln b) ∧ b < w.heap.size := fun q b hq hb => by
      obtain ⟨i, ver, t, t', e1, e2, e3, e4, e5, e6, e7⟩ := hin q hq
      rw [e6] at hb
      exact h.ftlt i b (by rw [e4]; simp) hb
    have hinj : ∀ q q' i, is[q]? = some i → is[q']? = some i → q = q' := fun q q' i h1 h2 => by
      rcases Nat.lt_trichotomy q q' with hlt | he | hgt
      · exact absurd rfl (by
          have := (List.pairwise_iff_getElem.1 hnd) q q' (get_lt h1) (get_lt h2) hlt
          rw [List.getElem?_eq_getElem (get_lt h1)] at h1
          rw [List.getElem?_eq_getElem (get_lt h2)] at h2
          rw [Option.some.inj h1, Option.some.inj h2] at this
          exact this)
      · exact he
      · exact absurd rfl (by
          have := (List.pairwise_iff_getElem.1 hnd) q' q (get_lt h2) (get_lt h1) hgt
          rw [List.getElem?_eq_getElem (get_lt h1)] at h1
          rw [List.getElem?_eq_getElem (get_lt h2)] at h2
          rw [Option.some.inj h1, Option.some.inj h2] at this
          exact this)
    have hcall := hc w lv F (fun q b hq hb => (hF q b hq hb).2) (xs.map a.eval) (fun q t hq => by
      obtain ⟨i, ver, t', e1, e2, e3, e4⟩ := l3 q t hq
      obtain ⟨-, e5, e6⟩ := h.objs i ver t e3
      rw [(hat q i e1).1, (hat q i e1).2]
      exact ⟨e5, e6⟩) (fun q q' b hq hq' hne hb => by
      obtain ⟨i, ver, t, t', e1, e2, e3, e4, e5, e6, e7⟩ := hin q hq
      obtain ⟨i', ver', s, s', f1, f2, f3, f4, f5, f6, f7⟩ := hin q' hq'
      rw [e6] at hb
      rw [f6]
      refine h.disj i i' b (by rw [e4]; simp) (by rw [f4]; simp) (fun e => hne ?_) hb
      subst e
      exact hinj q q' i e1 f1) (h.argsM (fun q x u hq hu => by
      rw [List.getElem?_map] at hq
      obtain ⟨i, e1, e2⟩ := Option.map_eq_some_iff.1 hq
      subst e2
      exact ⟨by show q < ls.length; rw [← l1]; exact get_lt e1, by rw [hu.1.2]; exact (hat q i e1).2.symm⟩) hx)
    have hrun : (execOp a.eval o).run P w = .ok (.enter f (xs.map a.eval).toArray) w := by
      simp [execOp, ho, resolve, Act.eval, Deferred.ofValue, invoke, callFunc, h1, h2, h2', Result.andThen]
    unfold Oper.wp
    rw [hrun]
    refine hcall.mono fun e w' ⟨⟨v, he, hsame⟩, F', o', d', l'⟩ => ?_
    subst he
    have hsm : Same E w w' := ⟨hsame.os, hsame.tape, hsame.output, hsame.size, fun b hb => hsame.block b ⟨Nat.lt_of_lt_of_le hb.1 h.low, fun ⟨q, hq, hqb⟩ => (hF q b hq hqb).1.elim (fun h1 => by have := hb.1; omega) hb.2⟩⟩
    obtain ⟨s1, s2, s3⟩ := setobs_same (is := is) (ts := ls') (σ := σ)
    have hmem : ∀ i, i ∈ is → ∃ q t t' ver, is[q]? = some i ∧ ls[q]? = some t ∧ ls'[q]? = some t' ∧ σ.ob i = some (ver, t) ∧ (∃ ty es, t' = .seq ty es) ∧ (σ.setobs is ls').ob i = some (ver + 1, t') := fun i hi => by
      obtain ⟨q, hq, rfl⟩ := List.getElem_of_mem hi
      obtain ⟨i', ver, t, t', e1, e2, e3, e4, e5, -⟩ := hin q (by omega)
      have : is[q] = i' := by rw [List.getElem?_eq_getElem hq] at e1; exact Option.some.inj e1
      subst this
      exact ⟨q, t, t', ver, e1, e2, e3, e4, e5, by rw [setobs_at hnd e1 e3, e4]; rfl⟩
    have hturn := h.turn (σ' := σ.setobs is ls') (w' := w') (G' := ⟨G.β, G.vl, fun i b => (i ∉ is ∧ G.ft i b) ∨ ∃ q, is[q]? = some i ∧ F' q b⟩) (fun b => ∃ q, q < ls.length ∧ F q b) s1 s2 rfl hsm (fun b hb hnD => hsame.block b ⟨hb, hnD⟩) (fun b hb ⟨q, hq, hqb⟩ => by
      obtain ⟨i, ver, t, t', e1, e2, e3, e4, e5, e6, e7⟩ := hin q hq
      rw [e6] at hqb
      exact h.boxft b i hb (by rw [e4]; simp) hqb) (Nat.le_of_eq s3.symm) (fun i hi => rfl) (fun i v' t' hv' => ?_) (fun i j b hi hj hij hbi hbj => ?_)
    · rw [hd]
      exact k _ _ _ (hturn.1.put hdN (vone.2 ⟨trivial, .inl rfl⟩))
    · by_cases him : i ∈ is
      · obtain ⟨q, t, t2, ver, e1, e2, e3, e4, e5, e6⟩ := hmem i him
        rw [e6] at hv'
        cases hv'
        have hq := get_lt e3
        have hqi : ∀ b, ((i ∉ is ∧ G.ft i b) ∨ ∃ q, is[q]? = some i ∧ F' q b) → F' q b := fun b hb => by
          rcases hb with ⟨hb, -⟩ | ⟨q', f1, f2⟩
          · exact absurd him hb
          · rw [hinj q q' i e1 f1]; exact f2
        refine .inr ⟨by rw [s3]; exact (h.objs i ver t e4).1, fun _ => ⟨ver, t, e4, Nat.lt_succ_self _⟩, ?_, e5, fun b hb => ?_, fun b hb c hc e => ?_⟩
        · have := o' q t' e3
          rw [show (Env.lend w lv F ls.length _).lv q = G.vl i from (hat q i e1).2] at this
          exact this.mono fun b hb => .inr ⟨q, e1, hb⟩
        · obtain ⟨m1, m2⟩ := l' q b hq (hqi b hb)
          refine ⟨?_, m2⟩
          rcases m1 with m1 | ⟨q', m1, m3⟩
          · exact .inl (Nat.le_trans h.low m1)
          · exact (hF q' b m1 m3).1
        · obtain ⟨m1, m2⟩ := l' q b hq (hqi b hb)
          rcases m1 with m1 | ⟨q', m1, m3⟩
          · exact (h.fresh m1).2 c hc e
          · obtain ⟨i', ver', s, s', f1, f2, f3, f4, f5, f6, f7⟩ := hin q' m1
            rw [f6, ← e] at m3
            exact h.boxft c i' hc (by rw [f4]; simp) m3
      · rw [setobs_far him] at hv'
        refine .inl ⟨hv', fun b => ⟨fun hb => ?_, fun hb => .inl ⟨him, hb⟩⟩, fun b hb ⟨q, hq, hqb⟩ => ?_⟩
        · rcases hb with hb | ⟨q, f1, -⟩
          · exact hb.2
          · exact absurd (get_mem f1) him
        · obtain ⟨i', ver', s, s', f1, f2, f3, f4, f5, f6, f7⟩ := hin q hq
          rw [f6] at hqb
          exact h.disj i i' b (by rw [hv']; simp) (by rw [f4]; simp) (fun e => him (by rw [e]; exact get_mem f1)) hb hqb
    · have key : ∀ i q b, is[q]? = some i → F' q b → ∀ j, j ∉ is → σ.ob j ≠ none → ¬ G.ft j b := fun i q b e1 e2 j hj1 hj2 hjb => by
        have hq : q < ls'.length := by have := get_lt e1; omega
        obtain ⟨m1, m2⟩ := l' q b hq e2
        rcases m1 with m1 | ⟨q', m1, m3⟩
        · have := (h.ftlt j b hj2 hjb).2
          have m1' : w.heap.size ≤ b := m1
          omega
        · obtain ⟨i', ver', s, s', f1, f2, f3, f4, f5, f6, f7⟩ := hin q' m1
          rw [f6] at m3
          exact h.disj j i' b hj2 (by rw [f4]; simp) (fun e => hj1 (by rw [e]; exact get_mem f1)) hjb m3
      rcases hbi with ⟨hi1, hi2⟩ | ⟨q, hi1, hi2⟩ <;> rcases hbj with ⟨hj1, hj2⟩ | ⟨q', hj1, hj2⟩
      · rw [setobs_far hi1] at hi
        rw [setobs_far hj1] at hj
        exact h.disj i j b hi hj hij hi2 hj2
      · rw [setobs_far hi1] at hi
        exact key j q' b hj1 hj2 i hi1 hi hi2
      · rw [setobs_far hj1] at hj
        exact key i q b hi1 hi2 j hj1 hj hj2
      · have hq : q < ls'.length := by have := get_lt hi1; omega
        have hq' : q' < ls'.length := by have := get_lt hj1; omega
        exact d' q q' b hq hq' (fun e => hij (by subst e; rw [hi1] at hj1; exact Option.some.inj hj1)) hi2 hj2
theorem flat_sub {fs : List (List T)} (h : Flat fs) (l n : Nat) : Flat ((fs.take n).drop l) := fun k e j t h1 h2 => by
  rw [List.getElem?_drop, List.getElem?_take] at h1
  split at h1
  · exact h _ e j t h1 h2
  · cases h1
theorem flat_app {fs gs : List (List T)} (h : Flat fs) (k : Flat gs) : Flat (fs ++ gs) := fun q e j t h1 h2 => by
  rcases cat_el h1 with ⟨-, h3⟩ | ⟨-, h3⟩
  · exact h q e j t h3 h2
  · exact k _ e j t h3 h2
theorem flat_one {ts : List T} (h : ts.all isLit = true) : Flat [ts] := flat_of (f := fun _ : Unit => ts) (fun _ => h) [()]
/-- A slice that is read is compared with nil: nil only where it is empty. -/
theorem SV.isnil {d : Nat} {x y : Operand} {ty : TypeId} {es : List (List T)} {rest : List Oper} {ops : Array Oper} (hx : σ.ev x = V.one (.ro (.seq ty es))) (hy : σ.ev y = V.one (.sc (.slice none 0 0))) (hd : o.dst = some d) (hdN : d < N) (hg : o.guard = none)
    (hrun : ∀ (ρ : Operand → Value) (ad : Option Addr) (n c : Nat) (w : World), ρ x = .slice ad n c → ρ y = .slice none 0 0 → (execOp ρ o).run P w = .ok (.value (.bool ad.isNone)) w)
    (ht : es = [] → SV E N (σ.put d (V.one (.sc (.bool true)))) (wpList P ops Q rest)) (hf : SV E N (σ.put d (V.one (.sc (.bool false)))) (wpList P ops Q rest)) : SV E N σ (wpList P ops Q (o :: rest)) := fun a w G hr => by
  have h1 := hr.ev x
  rw [hx, vone] at h1
  have h2 := hr.sc hy
  have h3 : Inn E.old w (.seq ty es) (a.eval x) := h1.1
  cases hv : a.eval x with
  | slice ad n c =>
    rw [hv] at h3
    refine wpList_step fun K hK => ?_
    rw [if_pos (by simp [Region.wanted, hg])]
    refine wp_value (v := .bool ad.isNone) (w' := w) (hrun _ ad n c w hv h2) ?_
    rw [hd]
    cases ad with
    | none =>
      have he : es = [] := by
        cases h3 with
        | seq n' hp hz hn hc hm h0 => have := h0 rfl; subst this; exact List.eq_nil_of_length_eq_zero (by omega)
      exact hK _ _ (ht he _ _ G (hr.put hdN (vone.2 ⟨rfl, .inr rfl⟩)))
    | some ad => exact hK _ _ (hf _ _ G (hr.put hdN (vone.2 ⟨rfl, .inr rfl⟩)))
  | _ => rw [hv] at h3; cases h3
/-- An empty slice that a constant gave, in a box, is an object. -/
theorem SV.nlscb {b j kk n : Nat} {ty ty' : TypeId} {xs : List Leaf} (hb : σ.bs[b]? = some (ty', xs)) (hk : σ.nx = kk) (hj : xs[j]? = some (.sc (.slice none 0 0))) (hp : 0 < n) (hz : Sz ty n) {ys : List Leaf} (hy : xs.set j (.hd kk) = ys) (k : SV E N ((σ.new (.seq ty [])).setb b ty' ys) K) : SV E N σ K := fun a w G h => by
  subst hk
  subst hy
  obtain ⟨hB, us, h1, h2, h3⟩ := h.boxes b ty' xs hb
  have hjl := get_lt hj
  obtain ⟨⟨h4, -⟩, -⟩ := h3 j _ us[j] hj (List.getElem?_eq_getElem (by omega))
  obtain ⟨G', k1, k2, hβ, k3⟩ := h.newnil hp hz
  have h4' : us[j] = .slice none 0 0 := h4
  have k4 := k1.setbox (b := b) (ty := ty') (xs := xs) (xs' := xs.set j (.hd σ.nx)) (us' := us) (w' := w) hb (Same.refl _ _) (fun _ _ => rfl) (by rw [hβ]; exact h1) (by simpa using h2) (fun q x u hq hu => by
    by_cases hqj : j = q
    · subst hqj
      rw [List.getElem?_set_self hjl] at hq
      have hu' : us[j] = u := by rw [List.getElem?_eq_getElem (by omega)] at hu; exact Option.some.inj hu
      rw [← Option.some.inj hq, ← hu', h4']
      exact ⟨⟨⟨Nat.lt_succ_self _, k2.symm⟩, .inr rfl⟩, rfl⟩
    · rw [List.getElem?_set_ne hqj] at hq
      exact ⟨k3 x u (h3 q x u hq hu).1, (h3 q x u hq hu).2⟩)
  exact k a w G' k4
end Go.Proofs.YtmlcdhblofjpbaaDoor.V
/- The reference's copy of a disk: told by trees. -/
namespace Go.Proofs.YtmlcdhblofjpbaaDoor
open Go Go.RowKit V
set_option linter.unusedVariables false
set_option maxRecDepth 100000 in
set_option maxHeartbeats 2000000 in
theorem vcopy_s (X : DiskD) (hL : wtDisk X ≤ 1000000000) : VC Tryd.prog 70 [(true, tDisk X)] false [(true, tDisk X)] := by
  refine VC.enter Tryd.func70 rfl Tryd.ntmps70 (Nat.le_of_ble_eq_true rfl) fun E hE => ?_
  have hFL : X.fFiles.length ≤ 1000000000 := by have h4 := wt_file_len X.fFiles; have h8 : wtDisk X = wtFiles X.fFiles := rfl; omega
  refine SV.seq' ?_
  refine SV.region ?_
  refine SV.op (OpMk.ok (ok_box (kk := 0) (ag := true) (xs := [.ro _, .sc _]) rfl rfl rfl (fun h => by cases h) rfl rfl (Nat.le_of_ble_eq_true rfl))) rfl ?_
  refine SV.op (OpMk.ok (ok_alloc (kk := 1) (xs := [.nl _, .sc _]) rfl rfl zero_impl_Disk ⟨rfl, ⟨4, by decide, sz_impl_File⟩, rfl, rfl, trivial⟩ rfl (Nat.le_of_ble_eq_true rfl))) rfl ?_
  refine SV.nil ?_
  refine SV.tn ?_
  refine SV.seq' ?_
  refine SV.region ?_
  refine SV.op (OpL.ok (nb := 2) (ok_field_bp (b := 0) (o' := 0) (off := 1) rfl rfl fld_impl_Disk_1) rfl (Nat.le_of_ble_eq_true rfl)) rfl ?_
  refine SV.op (OpL.ok (nb := 2) (ok_load_bp (b := 0) (i := 1) (ag := false) (m := 1) (ys := [.sc _]) rfl rfl rfl agg_int sz_int (fun _ => rfl) rfl rfl (Nat.le_of_ble_eq_true rfl)) rfl (Nat.le_of_ble_eq_true rfl)) rfl ?_
  refine SV.op (OpL.ok (nb := 2) (ok_build (zs := [.nl _, .sc _]) (ys := [.nl _, .sc _]) (qs := [(1, [.sc _])]) (pl := fun i => ([(0, 1), (1, 1)] : List (Nat × Nat))[i]?) rfl zero_impl_Disk ⟨rfl, ⟨4, by decide, sz_impl_File⟩, rfl, rfl, trivial⟩ ⟨⟨rfl, false, rfl, (fun _ => rfl), rfl⟩, trivial⟩ bld_impl_Disk rfl) rfl (Nat.le_of_ble_eq_true rfl)) rfl ?_
  refine SV.op (OpMk.ok (ok_alloc (kk := 2) (xs := [.nl _, .sc _]) rfl rfl zero_impl_Disk ⟨rfl, ⟨4, by decide, sz_impl_File⟩, rfl, rfl, trivial⟩ rfl (Nat.le_of_ble_eq_true rfl))) rfl ?_
  refine SV.op (ok_store_bp (b := 2) (i := 0) (m := 2) (ag := true) (zs := [.nl _, .sc _]) (ys := [.nl _, .sc _]) rfl rfl rfl rfl sz_impl_Disk (fun h => by cases h) rfl (Nat.le_of_ble_eq_true rfl) rfl rfl rfl) rfl ?_
  refine SV.nil ?_
  refine SV.tn ?_
  refine SV.seq' ?_
  refine SV.seq' ?_
  refine SV.region ?_
  refine SV.op (OpL.ok (nb := 3) (ok_move (v := V.one (.sc _)) (.inr rfl) rfl) rfl (Nat.le_of_ble_eq_true rfl)) rfl ?_
  refine SV.nil ?_
  refine SV.tn ?_
  refine SV.block ?_
  refine SV.nlbox (b := 2) (j := 0) (kk := 0) rfl rfl rfl (ys := [.hd 0, .sc _]) rfl ?_
  refine SV.loopF (X := Nat) (fun (σ : VS) t => ((((((((VS.nil.new (.seq 102 ((X.fFiles.take t).map tFile))).box 55 [σ.bl 0 0, σ.bl 0 1]).box 55 [σ.bl 1 0, σ.bl 1 1]).box 55 [.hd 0, σ.bl 2 1]).put 1 (V.flat false [.bp 0 0])).put 2 (V.flat false [.bp 1 0])).put 3 (V.flat false [.bp 2 0])).put 4 (V.flat false [.sc (.int .i64 ((t : Int)))]))) (fun t => t ≤ X.fFiles.length) (fun t => X.fFiles.length - t) ?_ ?_
  · skip
    refine SV.again (fun i => [0].getD i 0) 0 ((by first | exact Nat.zero_le _ | (refine ⟨Nat.zero_le _, ?_⟩; simp; done) | (simp; done) | omega)) (pins hE rfl rfl) (VS.le.mk' (le_put (le_put (le_put (le_put (le_box (le_box (le_box (le_new le_nil)))) (V.le.keep (ag := false) (xs := [.bp 0 0]) (ys := [.bp 0 0]) rfl rfl ⟨⟨rfl, (Nat.le_of_ble_eq_true rfl)⟩, trivial⟩)) (V.le.keep (ag := false) (xs := [.bp 1 0]) (ys := [.bp 1 0]) rfl rfl ⟨⟨rfl, (Nat.le_of_ble_eq_true rfl)⟩, trivial⟩)) (V.le.keep (ag := false) (xs := [.bp 2 0]) (ys := [.bp 2 0]) rfl rfl ⟨⟨rfl, (Nat.le_of_ble_eq_true rfl)⟩, trivial⟩)) (V.le.keep (ag := false) (xs := [.sc _]) (ys := [.sc _]) rfl rfl ⟨(by first | rfl | (show Leaf.sc _ = Leaf.sc _; refine congrArg Leaf.sc ?_; first | rfl | go_num | (simp [cntAll]; done)) | (simp [cntAll]; done) | (simp; omega)), trivial⟩)) ⟨⟨rfl, ⟨rfl, rfl, trivial⟩⟩, ⟨⟨rfl, ⟨rfl, rfl, trivial⟩⟩, ⟨⟨rfl, ⟨⟨rfl, (Nat.le_of_ble_eq_true rfl), (Nat.le_of_ble_eq_true rfl)⟩, rfl, trivial⟩⟩, trivial⟩⟩⟩ ⟨.inr ⟨_, _, rfl, ?ob1_0, (Nat.le_of_ble_eq_true rfl)⟩, trivial⟩ (new_ob nil_ob) (fun i j hi hj e => inj_list (l := [0]) (by decide) i j hi hj e))
    case ob1_0 =>
      show some (T.seq _ _) = some (T.seq _ _)
      first | rfl | exact congrArg some (congrArg (T.seq _) (by simp))
  · rintro t ht
    refine SV.seq' ?_
    refine SV.seq' ?_
    refine SV.region ?_
    refine SV.op (OpL.ok (nb := 3) (ok_move (v := V.one (.sc _)) (.inl rfl) rfl) rfl (Nat.le_of_ble_eq_true rfl)) rfl ?_
    refine SV.op (OpL.ok (nb := 3) (ok_field_bp (b := 0) (o' := 0) (off := 0) rfl rfl fld_impl_Disk_0) rfl (Nat.le_of_ble_eq_true rfl)) rfl ?_
    refine SV.op (OpL.ok (nb := 3) (ok_load_bp (b := 0) (i := 0) (ag := false) (m := 1) (ys := [.ro _]) rfl rfl rfl agg_s_impl_File sz_s_impl_File (fun _ => rfl) rfl rfl (Nat.le_of_ble_eq_true rfl)) rfl (Nat.le_of_ble_eq_true rfl)) rfl ?_
    refine SV.op (OpL.ok (nb := 3) (ok_len (lf := .ro _) rfl elt_impl_File.und rfl rfl) rfl (Nat.le_of_ble_eq_true rfl)) rfl ?_
    refine SV.op (OpL.ok (nb := 3) (ok_s2 (x := .tmp 10) (x' := .tmp 13) (VScal.one rfl) (VScal.one rfl) (fun ρ h1 h2 w => by go_simp; (try go_bits); with_reducible rfl) rfl) rfl (Nat.le_of_ble_eq_true rfl)) rfl ?_
    refine SV.nil ?_
    refine SV.tn ?_
    refine SV.cond rfl (fun hc0 => ?_) (fun hc0 => ?_)
    · skip   -- c0.T
      have htl : t < X.fFiles.length := by simpa using hc0
      have hx : X.fFiles[t]? = some X.fFiles[t] := by simp [htl]
      have hPL : X.fFiles[t].fPages.length ≤ 1000000000 := by have h1 := wt_file_at X.fFiles t htl; have h4 := wt_page_len X.fFiles[t].fPages; have h8 : wtDisk X = wtFiles X.fFiles := rfl; have h9 : wtFile X.fFiles[t] = wtPages X.fFiles[t].fPages := rfl; omega
      refine SV.skip ?_
      refine SV.tn ?_
      refine SV.seq' ?_
      refine SV.block ?_
      refine SV.seq' ?_
      refine SV.draw [.q 0, .q 1, .q 2, .q 3, .q 4, .q 5, .q 6, .q 7, .q 8, .q 9, .q 10, .q 11, .q 12, .q 13, .q 14, .q 15, .q 16, .q 17, .q 18, .m 19] [20] (by kernel_rfl) (by kernel_rfl) ?_
      refine DW.q rfl (ok_field_bp (b := 0) (o' := 0) (off := 0) rfl rfl fld_impl_Disk_0) rfl rfl (Nat.le_of_ble_eq_true rfl) (fun _ _ _ _ h => h) ?_
      refine DW.q rfl (ok_load_bp (b := 0) (i := 0) (ag := false) (m := 1) (ys := [.ro _]) rfl rfl rfl agg_s_impl_File sz_s_impl_File (fun _ => rfl) rfl rfl (Nat.le_of_ble_eq_true rfl)) rfl rfl (Nat.le_of_ble_eq_true rfl) (fun _ _ _ _ h => h) ?_
      refine DW.q rfl (ok_move (v := V.one (.sc _)) (.inl rfl) rfl) rfl rfl (Nat.le_of_ble_eq_true rfl) (fun _ _ _ _ h => h) ?_
      refine DW.q rfl (ok_index (n := 4) (lf := .ro _) rfl elt_impl_File.und sz_impl_File rfl rfl rfl (map_at (by assumption))) rfl rfl (Nat.le_of_ble_eq_true rfl) (fun _ _ _ _ h => h) ?_
      refine DW.q rfl (ok_field_el (p := .rp _) (off := 0) rfl rfl rfl fld_impl_File_0) rfl rfl (Nat.le_of_ble_eq_true rfl) (fun _ _ _ _ h => h) ?_
      refine DW.q rfl (ok_load_rp (ag := false) (m := 1) (ys := [.sc _]) rfl rfl agg_int sz_int (fun _ => rfl) (Nat.le_of_ble_eq_true rfl) rfl) rfl rfl (Nat.le_of_ble_eq_true rfl) (fun _ _ _ _ h => h) ?_
      refine DW.q rfl (ok_field_bp (b := 0) (o' := 0) (off := 0) rfl rfl fld_impl_Disk_0) rfl rfl (Nat.le_of_ble_eq_true rfl) (fun _ _ _ _ h => h) ?_
      refine DW.q rfl (ok_load_bp (b := 0) (i := 0) (ag := false) (m := 1) (ys := [.ro _]) rfl rfl rfl agg_s_impl_File sz_s_impl_File (fun _ => rfl) rfl rfl (Nat.le_of_ble_eq_true rfl)) rfl rfl (Nat.le_of_ble_eq_true rfl) (fun _ _ _ _ h => h) ?_
      refine DW.q rfl (ok_move (v := V.one (.sc _)) (.inl rfl) rfl) rfl rfl (Nat.le_of_ble_eq_true rfl) (fun _ _ _ _ h => h) ?_
      refine DW.q rfl (ok_index (n := 4) (lf := .ro _) rfl elt_impl_File.und sz_impl_File rfl rfl rfl (map_at (by assumption))) rfl rfl (Nat.le_of_ble_eq_true rfl) (fun _ _ _ _ h => h) ?_
      refine DW.q rfl (ok_field_el (p := .rp _) (off := 2) rfl rfl rfl fld_impl_File_2) rfl rfl (Nat.le_of_ble_eq_true rfl) (fun _ _ _ _ h => h) ?_
      refine DW.q rfl (ok_load_rp (ag := false) (m := 1) (ys := [.sc _]) rfl rfl agg_int sz_int (fun _ => rfl) (Nat.le_of_ble_eq_true rfl) rfl) rfl rfl (Nat.le_of_ble_eq_true rfl) (fun _ _ _ _ h => h) ?_
      refine DW.q rfl (ok_field_bp (b := 0) (o' := 0) (off := 0) rfl rfl fld_impl_Disk_0) rfl rfl (Nat.le_of_ble_eq_true rfl) (fun _ _ _ _ h => h) ?_
      refine DW.q rfl (ok_load_bp (b := 0) (i := 0) (ag := false) (m := 1) (ys := [.ro _]) rfl rfl rfl agg_s_impl_File sz_s_impl_File (fun _ => rfl) rfl rfl (Nat.le_of_ble_eq_true rfl)) rfl rfl (Nat.le_of_ble_eq_true rfl) (fun _ _ _ _ h => h) ?_
      refine DW.q rfl (ok_move (v := V.one (.sc _)) (.inl rfl) rfl) rfl rfl (Nat.le_of_ble_eq_true rfl) (fun _ _ _ _ h => h) ?_
      refine DW.q rfl (ok_index (n := 4) (lf := .ro _) rfl elt_impl_File.und sz_impl_File rfl rfl rfl (map_at (by assumption))) rfl rfl (Nat.le_of_ble_eq_true rfl) (fun _ _ _ _ h => h) ?_
      refine DW.q rfl (ok_field_el (p := .rp _) (off := 3) rfl rfl rfl fld_impl_File_3) rfl rfl (Nat.le_of_ble_eq_true rfl) (fun _ _ _ _ h => h) ?_
      refine DW.q rfl (ok_load_rp (ag := false) (m := 1) (ys := [.sc _]) rfl rfl agg_bool sz_bool (fun _ => rfl) (Nat.le_of_ble_eq_true rfl) rfl) rfl rfl (Nat.le_of_ble_eq_true rfl) (fun _ _ _ _ h => h) ?_
      refine DW.q rfl (ok_build (zs := [.sc _, .nl _, .sc _, .sc _]) (ys := [.sc _, .nl _, .sc _, .sc _]) (qs := [(0, [.sc _]), (2, [.sc _]), (3, [.sc _])]) (pl := fun i => ([(0, 1), (1, 1), (2, 1), (3, 1)] : List (Nat × Nat))[i]?) rfl zero_impl_File ⟨rfl, rfl, rfl, ⟨1, by decide, sz_impl_Page⟩, rfl, rfl, rfl, rfl, trivial⟩ ⟨⟨rfl, false, rfl, (fun _ => rfl), rfl⟩, ⟨rfl, false, rfl, (fun _ => rfl), rfl⟩, ⟨rfl, false, rfl, (fun _ => rfl), rfl⟩, trivial⟩ bld_impl_File rfl) rfl rfl (Nat.le_of_ble_eq_true rfl) (fun _ _ _ _ h => h) ?_
      refine DW.m [] rfl (ok_alloc (kk := 3) (xs := [.sc _, .nl _, .sc _, .sc _]) rfl rfl zero_impl_File ⟨rfl, rfl, rfl, ⟨1, by decide, sz_impl_Page⟩, rfl, rfl, rfl, rfl, trivial⟩ rfl (Nat.le_of_ble_eq_true rfl)) rfl (Nat.le_of_ble_eq_true rfl) (Nat.le_of_ble_eq_true rfl) (.inl rfl) (fun j hj => by cases hj) ?_
      refine DW.stores ?_
      refine SV.z rfl (ok_store_bp (b := 3) (i := 0) (m := 4) (ag := true) (zs := [.sc _, .nl _, .sc _, .sc _]) (ys := [.sc _, .nl _, .sc _, .sc _]) rfl rfl rfl rfl sz_impl_File (fun h => by cases h) rfl (Nat.le_of_ble_eq_true rfl) rfl rfl rfl) rfl ?_
      refine SV.zend ?_
      refine SV.tn ?_
      refine SV.seq' ?_
      refine SV.seq' ?_
      refine SV.region ?_
      refine SV.op (OpL.ok (nb := 4) (ok_move (v := V.one (.sc _)) (.inr rfl) rfl) rfl (Nat.le_of_ble_eq_true rfl)) rfl ?_
      refine SV.nil ?_
      refine SV.tn ?_
      refine SV.block ?_
      refine SV.nlbox (b := 3) (j := 1) (kk := 1) rfl rfl rfl (ys := [.sc _, .hd 1, .sc _, .sc _]) rfl ?_
      refine SV.loopF (X := Nat) (fun (σ : VS) q => ((((((((((((VS.nil.new (σ.tree 0)).new (.seq 72 ((X.fFiles[t].fPages.take q).map tPage))).box 55 [σ.bl 0 0, σ.bl 0 1]).box 55 [σ.bl 1 0, σ.bl 1 1]).box 55 [.hd 0, σ.bl 2 1]).box 102 [σ.bl 3 0, .hd 1, σ.bl 3 2, σ.bl 3 3]).put 1 (V.flat false [.bp 0 0])).put 2 (V.flat false [.bp 1 0])).put 3 (V.flat false [.bp 2 0])).put 4 (σ.tm 4)).put 5 (V.flat false [.bp 3 0])).put 6 (V.flat false [.sc (.int .i64 ((q : Int)))]))) (fun q => q ≤ X.fFiles[t].fPages.length) (fun q => X.fFiles[t].fPages.length - q) ?_ ?_
      · skip
        refine SV.again (fun i => [0, 1].getD i 0) 0 ((by first | exact Nat.zero_le _ | (refine ⟨Nat.zero_le _, ?_⟩; simp; done) | (simp; done) | omega)) (pins hE rfl rfl) (VS.le.mk' (le_put (le_put (le_put (le_put (le_put (le_put (le_box (le_box (le_box (le_box (le_new (le_new le_nil)))))) (V.le.keep (ag := false) (xs := [.bp 0 0]) (ys := [.bp 0 0]) rfl rfl ⟨⟨rfl, (Nat.le_of_ble_eq_true rfl)⟩, trivial⟩)) (V.le.keep (ag := false) (xs := [.bp 1 0]) (ys := [.bp 1 0]) rfl rfl ⟨⟨rfl, (Nat.le_of_ble_eq_true rfl)⟩, trivial⟩)) (V.le.keep (ag := false) (xs := [.bp 2 0]) (ys := [.bp 2 0]) rfl rfl ⟨⟨rfl, (Nat.le_of_ble_eq_true rfl)⟩, trivial⟩)) (V.le.keep (ag := false) (xs := [.sc _]) (ys := [.sc _]) rfl rfl ⟨rfl, trivial⟩)) (V.le.keep (ag := false) (xs := [.bp 3 0]) (ys := [.bp 3 0]) rfl rfl ⟨⟨rfl, (Nat.le_of_ble_eq_true rfl)⟩, trivial⟩)) (V.le.keep (ag := false) (xs := [.sc _]) (ys := [.sc _]) rfl rfl ⟨(by first | rfl | (show Leaf.sc _ = Leaf.sc _; refine congrArg Leaf.sc ?_; first | rfl | go_num | (simp [cntAll]; done)) | (simp [cntAll]; done) | (simp; omega)), trivial⟩)) ⟨⟨rfl, ⟨rfl, rfl, trivial⟩⟩, ⟨⟨rfl, ⟨rfl, rfl, trivial⟩⟩, ⟨⟨rfl, ⟨⟨rfl, (Nat.le_of_ble_eq_true rfl), (Nat.le_of_ble_eq_true rfl)⟩, rfl, trivial⟩⟩, ⟨⟨rfl, ⟨rfl, ⟨rfl, (Nat.le_of_ble_eq_true rfl), (Nat.le_of_ble_eq_true rfl)⟩, rfl, rfl, trivial⟩⟩, trivial⟩⟩⟩⟩ ⟨.inr ⟨_, _, rfl, ?ob2_1, (Nat.le_of_ble_eq_true rfl)⟩, ⟨.inr ⟨_, _, rfl, rfl, (Nat.le_of_ble_eq_true rfl)⟩, trivial⟩⟩ (new_ob (new_ob nil_ob)) (fun i j hi hj e => inj_list (l := [0, 1]) (by decide) i j hi hj e))
        case ob2_1 =>
          show some (T.seq _ _) = some (T.seq _ _)
          first | rfl | exact congrArg some (congrArg (T.seq _) (by simp))
      · rintro q hq
        refine SV.seq' ?_
        refine SV.seq' ?_
        refine SV.region ?_
        refine SV.op (OpL.ok (nb := 4) (ok_move (v := V.one (.sc _)) (.inl rfl) rfl) rfl (Nat.le_of_ble_eq_true rfl)) rfl ?_
        refine SV.op (OpL.ok (nb := 4) (ok_field_bp (b := 0) (o' := 0) (off := 0) rfl rfl fld_impl_Disk_0) rfl (Nat.le_of_ble_eq_true rfl)) rfl ?_
        refine SV.op (OpL.ok (nb := 4) (ok_load_bp (b := 0) (i := 0) (ag := false) (m := 1) (ys := [.ro _]) rfl rfl rfl agg_s_impl_File sz_s_impl_File (fun _ => rfl) rfl rfl (Nat.le_of_ble_eq_true rfl)) rfl (Nat.le_of_ble_eq_true rfl)) rfl ?_
        refine SV.op (OpL.ok (nb := 4) (ok_move (v := V.one (.sc _)) (.inl rfl) rfl) rfl (Nat.le_of_ble_eq_true rfl)) rfl ?_
        refine SV.op (OpL.ok (nb := 4) (ok_index (n := 4) (lf := .ro _) rfl elt_impl_File.und sz_impl_File rfl rfl rfl (map_at (by assumption))) rfl (Nat.le_of_ble_eq_true rfl)) rfl ?_
        refine SV.op (OpL.ok (nb := 4) (ok_field_el (p := .rp _) (off := 1) rfl rfl rfl fld_impl_File_1) rfl (Nat.le_of_ble_eq_true rfl)) rfl ?_
        refine SV.op (OpL.ok (nb := 4) (ok_load_rp (ag := false) (m := 1) (ys := [.ro _]) rfl rfl agg_s_impl_Page sz_s_impl_Page (fun _ => rfl) (Nat.le_of_ble_eq_true rfl) rfl) rfl (Nat.le_of_ble_eq_true rfl)) rfl ?_
        refine SV.op (OpL.ok (nb := 4) (ok_len (lf := .ro _) rfl elt_impl_Page.und rfl rfl) rfl (Nat.le_of_ble_eq_true rfl)) rfl ?_
        refine SV.op (OpL.ok (nb := 4) (ok_s2 (x := .tmp 36) (x' := .tmp 43) (VScal.one rfl) (VScal.one rfl) (fun ρ h1 h2 w => by go_simp; (try go_bits); with_reducible rfl) rfl) rfl (Nat.le_of_ble_eq_true rfl)) rfl ?_
        refine SV.nil ?_
        refine SV.tn ?_
        refine SV.cond rfl (fun hc1 => ?_) (fun hc1 => ?_)
        · skip   -- c1.T
          have hql : q < X.fFiles[t].fPages.length := by simpa using hc1
          have hp : X.fFiles[t].fPages[q]? = some X.fFiles[t].fPages[q] := by simp [hql]
          have hPR : X.fFiles[t].fPages[q].length ≤ 1000000000 := by have h0 := wtAll_at wtPage X.fFiles[t].fPages q hql; have h1 := wt_file_at X.fFiles t htl; have h8 : wtDisk X = wtFiles X.fFiles := rfl; have h9 : wtFile X.fFiles[t] = wtAll wtPage X.fFiles[t].fPages := rfl; have h10 : wtPage X.fFiles[t].fPages[q] = X.fFiles[t].fPages[q].length := rfl; omega
          refine SV.skip ?_
          refine SV.tn ?_
          refine SV.seq' ?_
          refine SV.block ?_
          refine SV.draw [.q 0, .q 1, .q 3, .q 4, .q 5, .q 6, .q 7, .q 8, .q 9, .q 10, .q 11, .q 12, .m 2, .m 13, .q 14, .m 15, .m 16, .q 17] [18] (by kernel_rfl) (by kernel_rfl) ?_
          refine DW.q rfl (ok_field_bp (b := 3) (o' := 0) (off := 1) rfl rfl fld_impl_File_1) rfl rfl (Nat.le_of_ble_eq_true rfl) (fun _ _ _ _ h => h) ?_
          refine DW.q rfl (ok_load_bp (b := 3) (i := 1) (ag := false) (m := 1) (ys := [.hd 1]) rfl rfl rfl agg_s_impl_Page sz_s_impl_Page (fun _ => rfl) rfl rfl (Nat.le_of_ble_eq_true rfl)) rfl rfl (Nat.le_of_ble_eq_true rfl) (fun _ _ _ _ h => h) ?_
          refine DW.q rfl (ok_field_bp (b := 0) (o' := 0) (off := 0) rfl rfl fld_impl_Disk_0) rfl rfl (Nat.le_of_ble_eq_true rfl) (fun _ _ _ _ h => h) ?_
          refine DW.q rfl (ok_load_bp (b := 0) (i := 0) (ag := false) (m := 1) (ys := [.ro _]) rfl rfl rfl agg_s_impl_File sz_s_impl_File (fun _ => rfl) rfl rfl (Nat.le_of_ble_eq_true rfl)) rfl rfl (Nat.le_of_ble_eq_true rfl) (fun _ _ _ _ h => h) ?_
          refine DW.q rfl (ok_move (v := V.one (.sc _)) (.inl rfl) rfl) rfl rfl (Nat.le_of_ble_eq_true rfl) (fun _ _ _ _ h => h) ?_
          refine DW.q rfl (ok_index (n := 4) (lf := .ro _) rfl elt_impl_File.und sz_impl_File rfl rfl rfl (map_at (by assumption))) rfl rfl (Nat.le_of_ble_eq_true rfl) (fun _ _ _ _ h => h) ?_
          refine DW.q rfl (ok_field_el (p := .rp _) (off := 1) rfl rfl rfl fld_impl_File_1) rfl rfl (Nat.le_of_ble_eq_true rfl) (fun _ _ _ _ h => h) ?_
          refine DW.q rfl (ok_load_rp (ag := false) (m := 1) (ys := [.ro _]) rfl rfl agg_s_impl_Page sz_s_impl_Page (fun _ => rfl) (Nat.le_of_ble_eq_true rfl) rfl) rfl rfl (Nat.le_of_ble_eq_true rfl) (fun _ _ _ _ h => h) ?_
          refine DW.q rfl (ok_move (v := V.one (.sc _)) (.inl rfl) rfl) rfl rfl (Nat.le_of_ble_eq_true rfl) (fun _ _ _ _ h => h) ?_
          refine DW.q rfl (ok_index (n := 1) (lf := .ro _) rfl elt_impl_Page.und sz_impl_Page rfl rfl rfl (map_at (by assumption))) rfl rfl (Nat.le_of_ble_eq_true rfl) (fun _ _ _ _ h => h) ?_
          refine DW.q rfl (ok_field_el (p := .rp _) (off := 0) rfl rfl rfl fld_impl_Page_0) rfl rfl (Nat.le_of_ble_eq_true rfl) (fun _ _ _ _ h => h) ?_
          refine DW.q rfl (ok_load_rp (ag := false) (m := 1) (ys := [.ro _]) rfl rfl agg_s_impl_Row sz_s_impl_Row (fun _ => rfl) (Nat.le_of_ble_eq_true rfl) rfl) rfl rfl (Nat.le_of_ble_eq_true rfl) (fun _ _ _ _ h => h) ?_
          refine DW.m [2] rfl (ok_lit0 (kk := 2) elt_impl_Row rfl rfl rfl (Nat.le_of_ble_eq_true rfl)) rfl (Nat.le_of_ble_eq_true rfl) (Nat.le_of_ble_eq_true rfl) (.inl rfl) (fun j hj => by
              simp only [List.mem_cons, List.not_mem_nil, or_false] at hj
              rcases hj with rfl
              · exact .inr ⟨(Nat.le_of_ble_eq_true rfl), (Nat.le_of_ble_eq_true rfl), .inl rfl⟩) ?_
          refine DW.m [3, 2] rfl (ok_append_ro (kk := 3) elt_impl_Row (ls := .hd 2) (lx := .ro _) rfl rfl rfl rfl rfl rfl (flat_impl_Row _) (by first | omega | (simp only [List.length_map]; omega) | (simp; done) | (simp; omega)) rfl (Nat.le_of_ble_eq_true rfl)) rfl (Nat.le_of_ble_eq_true rfl) (Nat.le_of_ble_eq_true rfl) (.inr ⟨2, rfl, .inl (by decide)⟩) (fun j hj => by
              simp only [List.mem_cons, List.not_mem_nil, or_false] at hj
              rcases hj with rfl | rfl
              · exact .inr ⟨(Nat.le_of_ble_eq_true rfl), (Nat.le_of_ble_eq_true rfl), .inr ⟨2, rfl, by decide⟩⟩
              · exact .inl (by decide)) ?_
          refine DW.q rfl (ok_build (zs := [.nl _]) (ys := [.hd 3]) (qs := [(0, [.hd 3])]) (pl := fun i => ([(0, 1)] : List (Nat × Nat))[i]?) rfl zero_impl_Page ⟨rfl, ⟨3, by decide, sz_impl_Row⟩, trivial⟩ ⟨⟨rfl, false, rfl, (fun _ => rfl), rfl⟩, trivial⟩ bld_impl_Page rfl) rfl rfl (Nat.le_of_ble_eq_true rfl) (fun _ _ _ _ h => h) ?_
          refine DW.m [4, 3, 2] rfl (ok_lit1 (kk := 4) elt_impl_Page (ag := true) (xs := [.hd 3]) rfl rfl rfl rfl (fun h => by cases h) (outs_c rfl outs_n) (by simp [two]) rfl (Nat.le_of_ble_eq_true rfl)) rfl (Nat.le_of_ble_eq_true rfl) (Nat.le_of_ble_eq_true rfl) (.inl rfl) (fun j hj => by
              simp only [List.mem_cons, List.not_mem_nil, or_false] at hj
              rcases hj with rfl | rfl | rfl
              · exact .inr ⟨(Nat.le_of_ble_eq_true rfl), (Nat.le_of_ble_eq_true rfl), .inl rfl⟩
              · exact .inl (by decide)
              · exact .inl (by decide)) ?_
          refine DW.m [4, 3, 2] rfl (ok_append (kk := 5) elt_impl_Page (ls := .hd 1) (lx := .hd 4) rfl rfl rfl rfl rfl rfl (by intro i h1 h2; cases h1; cases h2) (by first | omega | (simp only [List.length_map]; omega) | (simp; done) | (simp; omega)) rfl (Nat.le_of_ble_eq_true rfl)) rfl (Nat.le_of_ble_eq_true rfl) (Nat.le_of_ble_eq_true rfl) (.inr ⟨1, rfl, .inr ⟨(Nat.le_of_ble_eq_true rfl), rfl⟩⟩) (fun j hj => by
              simp only [List.mem_cons, List.not_mem_nil, or_false] at hj
              rcases hj with rfl | rfl | rfl
              · exact .inl (by decide)
              · exact .inl (by decide)
              · exact .inl (by decide)) ?_
          refine DW.q rfl (ok_field_bp (b := 3) (o' := 0) (off := 1) rfl rfl fld_impl_File_1) rfl rfl (Nat.le_of_ble_eq_true rfl) (fun _ _ _ _ h => h) ?_
          refine DW.stores ?_
          refine SV.z rfl (ok_store_bp (b := 3) (i := 1) (m := 1) (ag := false) (zs := [.hd 5]) (ys := [.sc _, .hd 5, .sc _, .sc _]) rfl rfl rfl rfl sz_s_impl_Page (fun _ => rfl) rfl (Nat.le_of_ble_eq_true rfl) rfl rfl rfl) rfl ?_
          refine SV.zend ?_
          refine SV.bn ?_
          refine SV.tn ?_
          refine SV.region ?_
          refine SV.op (OpL.ok (nb := 4) (ok_move (v := V.one (.sc _)) (.inl rfl) rfl) rfl (Nat.le_of_ble_eq_true rfl)) rfl ?_
          refine SV.op (OpL.ok (nb := 4) (ok_s2 (x := .tmp 45) (x' := .const ((Value.int IntKind.i64 1))) (VScal.one rfl) (VScal.one rfl) (fun ρ h1 h2 w => by go_simp; (try go_bits); with_reducible rfl) rfl) rfl (Nat.le_of_ble_eq_true rfl)) rfl ?_
          refine SV.op (OpL.ok (nb := 4) (ok_move (v := V.one (.sc _)) (.inr rfl) rfl) rfl (Nat.le_of_ble_eq_true rfl)) rfl ?_
          refine SV.nil ?_
          refine SV.tn ?_
          refine SV.again (fun i => [0, 5].getD i 0) (q + 1) (⟨by omega, by omega⟩) (pins hE rfl rfl) (VS.le.mk' (le_put (le_put (le_put (le_put (le_put (le_put (le_box (le_box (le_box (le_box (le_new (le_new le_nil)))))) (V.le.keep (ag := false) (xs := [.bp 0 0]) (ys := [.bp 0 0]) rfl rfl ⟨⟨rfl, (Nat.le_of_ble_eq_true rfl)⟩, trivial⟩)) (V.le.keep (ag := false) (xs := [.bp 1 0]) (ys := [.bp 1 0]) rfl rfl ⟨⟨rfl, (Nat.le_of_ble_eq_true rfl)⟩, trivial⟩)) (V.le.keep (ag := false) (xs := [.bp 2 0]) (ys := [.bp 2 0]) rfl rfl ⟨⟨rfl, (Nat.le_of_ble_eq_true rfl)⟩, trivial⟩)) (V.le.keep (ag := false) (xs := [.sc _]) (ys := [.sc _]) rfl rfl ⟨rfl, trivial⟩)) (V.le.keep (ag := false) (xs := [.bp 3 0]) (ys := [.bp 3 0]) rfl rfl ⟨⟨rfl, (Nat.le_of_ble_eq_true rfl)⟩, trivial⟩)) (V.le.keep (ag := false) (xs := [.sc _]) (ys := [.sc _]) rfl rfl ⟨(by first | rfl | (show Leaf.sc _ = Leaf.sc _; refine congrArg Leaf.sc ?_; first | rfl | go_num | (simp [cntAll]; done)) | (simp [cntAll]; done) | (simp; omega)), trivial⟩)) ⟨⟨rfl, ⟨rfl, rfl, trivial⟩⟩, ⟨⟨rfl, ⟨rfl, rfl, trivial⟩⟩, ⟨⟨rfl, ⟨⟨rfl, (Nat.le_of_ble_eq_true rfl), (Nat.le_of_ble_eq_true rfl)⟩, rfl, trivial⟩⟩, ⟨⟨rfl, ⟨rfl, ⟨rfl, (Nat.le_of_ble_eq_true rfl), (Nat.le_of_ble_eq_true rfl)⟩, rfl, rfl, trivial⟩⟩, trivial⟩⟩⟩⟩ ⟨.inr ⟨_, _, rfl, ?ob3_1, (Nat.le_of_ble_eq_true rfl)⟩, ⟨.inr ⟨_, _, rfl, rfl, (Nat.le_of_ble_eq_true rfl)⟩, trivial⟩⟩ (new_ob (new_ob nil_ob)) (fun i j hi hj e => inj_list (l := [0, 5]) (by decide) i j hi hj e))
          case ob3_1 =>
            show some (T.seq _ _) = some (T.seq _ _)
            rw [List.take_succ_eq_append_getElem hql, List.map_append]
            first | rfl | (simp [tPage]; done)
        · skip   -- c1.F
          have hqe : X.fFiles[t].fPages.take q = X.fFiles[t].fPages := by have : ¬ q < X.fFiles[t].fPages.length := (by simpa using hc1); exact List.take_of_length_le (by omega)
          refine SV.exit ?_
          refine SV.te ?_
          refine SV.te ?_
          refine SV.bh ?_
          refine SV.tn ?_
          refine SV.region ?_
          refine SV.op (OpL.ok (nb := 4) (ok_field_bp (b := 2) (o' := 0) (off := 0) rfl rfl fld_impl_Disk_0) rfl (Nat.le_of_ble_eq_true rfl)) rfl ?_
          refine SV.op (OpL.ok (nb := 4) (ok_load_bp (b := 2) (i := 0) (ag := false) (m := 1) (ys := [.hd 0]) rfl rfl rfl agg_s_impl_File sz_s_impl_File (fun _ => rfl) rfl rfl (Nat.le_of_ble_eq_true rfl)) rfl (Nat.le_of_ble_eq_true rfl)) rfl ?_
          refine SV.op (OpL.ok (nb := 4) (ok_load_bp (b := 3) (i := 0) (ag := true) (m := 4) (ys := [.sc _, .hd 1, .sc _, .sc _]) rfl rfl rfl agg_impl_File sz_impl_File (fun h => by cases h) rfl rfl (Nat.le_of_ble_eq_true rfl)) rfl (Nat.le_of_ble_eq_true rfl)) rfl ?_
          refine SV.op (OpMk.ok (ok_lit1 (kk := 2) elt_impl_File (ag := true) (xs := [.sc _, .hd 1, .sc _, .sc _]) rfl rfl rfl rfl (fun h => by cases h) (outs_c rfl (outs_c rfl (outs_c rfl (outs_c rfl outs_n)))) (by simp [two]) rfl (Nat.le_of_ble_eq_true rfl))) rfl ?_
          refine SV.op (OpMk.ok (ok_append (kk := 3) elt_impl_File (ls := .hd 0) (lx := .hd 2) rfl rfl rfl rfl rfl rfl (by intro i h1 h2; cases h1; cases h2) (by first | omega | (simp only [List.length_map]; omega) | (simp; done) | (simp; omega)) rfl (Nat.le_of_ble_eq_true rfl))) rfl ?_
          refine SV.op (OpL.ok (nb := 4) (ok_field_bp (b := 2) (o' := 0) (off := 0) rfl rfl fld_impl_Disk_0) rfl (Nat.le_of_ble_eq_true rfl)) rfl ?_
          refine SV.op (ok_store_bp (b := 2) (i := 0) (m := 1) (ag := false) (zs := [.hd 3]) (ys := [.hd 3, .sc _]) rfl rfl rfl rfl sz_s_impl_File (fun _ => rfl) rfl (Nat.le_of_ble_eq_true rfl) rfl rfl rfl) rfl ?_
          refine SV.nil ?_
          refine SV.bn ?_
          refine SV.tn ?_
          refine SV.region ?_
          refine SV.op (OpL.ok (nb := 4) (ok_move (v := V.one (.sc _)) (.inl rfl) rfl) rfl (Nat.le_of_ble_eq_true rfl)) rfl ?_
          refine SV.op (OpL.ok (nb := 4) (ok_s2 (x := .tmp 15) (x' := .const ((Value.int IntKind.i64 1))) (VScal.one rfl) (VScal.one rfl) (fun ρ h1 h2 w => by go_simp; (try go_bits); with_reducible rfl) rfl) rfl (Nat.le_of_ble_eq_true rfl)) rfl ?_
          refine SV.op (OpL.ok (nb := 4) (ok_move (v := V.one (.sc _)) (.inr rfl) rfl) rfl (Nat.le_of_ble_eq_true rfl)) rfl ?_
          refine SV.nil ?_
          refine SV.tn ?_
          refine SV.again (fun i => [3].getD i 0) (t + 1) (⟨by omega, by omega⟩) (pins hE rfl rfl) (VS.le.mk' (le_put (le_put (le_put (le_put (le_box (le_box (le_box (le_new le_nil)))) (V.le.keep (ag := false) (xs := [.bp 0 0]) (ys := [.bp 0 0]) rfl rfl ⟨⟨rfl, (Nat.le_of_ble_eq_true rfl)⟩, trivial⟩)) (V.le.keep (ag := false) (xs := [.bp 1 0]) (ys := [.bp 1 0]) rfl rfl ⟨⟨rfl, (Nat.le_of_ble_eq_true rfl)⟩, trivial⟩)) (V.le.keep (ag := false) (xs := [.bp 2 0]) (ys := [.bp 2 0]) rfl rfl ⟨⟨rfl, (Nat.le_of_ble_eq_true rfl)⟩, trivial⟩)) (V.le.keep (ag := false) (xs := [.sc _]) (ys := [.sc _]) rfl rfl ⟨(by first | rfl | (show Leaf.sc _ = Leaf.sc _; refine congrArg Leaf.sc ?_; first | rfl | go_num | (simp [cntAll]; done)) | (simp [cntAll]; done) | (simp; omega)), trivial⟩)) ⟨⟨rfl, ⟨rfl, rfl, trivial⟩⟩, ⟨⟨rfl, ⟨rfl, rfl, trivial⟩⟩, ⟨⟨rfl, ⟨⟨rfl, (Nat.le_of_ble_eq_true rfl), (Nat.le_of_ble_eq_true rfl)⟩, rfl, trivial⟩⟩, trivial⟩⟩⟩ ⟨.inr ⟨_, _, rfl, ?ob4_0, (Nat.le_of_ble_eq_true rfl)⟩, trivial⟩ (new_ob nil_ob) (fun i j hi hj e => inj_list (l := [3]) (by decide) i j hi hj e))
          case ob4_0 =>
            show some (T.seq _ _) = some (T.seq _ _)
            rw [List.take_succ_eq_append_getElem htl, List.map_append]
            first | rfl | (simp [tFile, hqe]; done)
    · skip   -- c0.F
      have hte : X.fFiles.take t = X.fFiles := by have : ¬ t < X.fFiles.length := (by simpa using hc0); exact List.take_of_length_le (by omega)
      refine SV.exit ?_
      refine SV.te ?_
      refine SV.te ?_
      refine SV.bh ?_
      refine SV.tn ?_
      refine SV.seq' ?_
      refine SV.region ?_
      refine SV.op (OpL.ok (nb := 3) (ok_load_bp (b := 2) (i := 0) (ag := true) (m := 2) (ys := [.hd 0, .sc _]) rfl rfl rfl agg_impl_Disk sz_impl_Disk (fun h => by cases h) rfl rfl (Nat.le_of_ble_eq_true rfl)) rfl (Nat.le_of_ble_eq_true rfl)) rfl ?_
      refine SV.op (ok_store_bp (b := 1) (i := 0) (m := 2) (ag := true) (zs := [.hd 0, .sc _]) (ys := [.hd 0, .sc _]) rfl rfl rfl rfl sz_impl_Disk (fun h => by cases h) rfl (Nat.le_of_ble_eq_true rfl) rfl rfl rfl) rfl ?_
      refine SV.nil ?_
      refine SV.tn ?_
      refine SV.ret ?_
      apply SV.done (hf := Tryd.results70) (ht := rfl) (he := .inl rfl)
      case hr => exact (ResAll.cons (ResOk.cell (b := 1) (ag := true) (xs := [.hd 0, .sc _]) rfl rfl agg_impl_Disk sz_impl_Disk (fun h => by cases h)) ResAll.nil')
      case h2 => simp [two]
      refine ⟨rfl, ⟨?_, ?_, trivial⟩, trivial⟩ <;> first | (show some (T.seq _ _) = some (T.seq _ _); rw [hte]; done) | rfl
end Go.Proofs.YtmlcdhblofjpbaaDoor
/- ChecksumOf, the program's and the reference's, by contract. -/
namespace Go.Proofs.YtmlcdhblofjpbaaDoor
open Go.RowKit

theorem byte_at (s : ByteArray) (k : Nat) (h : k < s.size) : s.data.toList[k]'(by simpa using h) = s[k] := by simp; rfl
set_option maxRecDepth 100000 in
theorem scheck (s : ByteArray) (w : World) (hs : s.size ≤ 1000000000000) : Calls Tryd.prog 107 #[.string s] w fun e w' => e = .returned (.int .i64 (ck s.data.toList : Nat)) ∧ w = w' := by
  have HSL := Lib.hid (show s.data.toList.length = s.size by simp)
  go_enter Tryd.func107, Tryd.ntmps107
  go_wp2_with fail
  go_loopw [3, 4] (fun n i wr => ∃ (t m : Nat), n = .int .i64 m ∧ i = .int .i64 t ∧ t ≤ s.size ∧ m < 65521 ∧ Hid (m = ck (s.data.toList.take t)) ∧ Hid (w = wr)) (fun _ i _ => s.size - (intOf i).toNat)
  case atStart => exact ⟨0, 11, rfl, rfl, Nat.zero_le _, by omega, rfl, rfl⟩
  case round =>
    obtain ⟨t, m, rfl, rfl, ht, hm, hc, hw⟩ := hrel
    by_cases hlt : t < s.size
    · have hnx := ck_next s.data.toList t (by rw [HSL.out]; exact hlt)
      rw [byte_at s t hlt] at hnx
      have HNX := Lib.hid hnx
      have hb : s[t].toNat < 256 := UInt8.toNat_lt _
      clear hnx
      go_wp2_with fail
      go_roundw
      case rel => exact ⟨t + 1, _, rfl, by go_num, by omega, Nat.mod_lt _ (by decide), (by show _ = _; rw [HNX.out, ← hc.out]; rfl), hw⟩
      case measure => simp [intOf]; omega
    · have hk : s.data.toList.take t = s.data.toList := List.take_of_length_le (by rw [HSL.out]; omega)
      rw [hk] at hc
      clear hk
      go_wp2_with fail
      go_ret
      exact ⟨by rw [hc.out]; rfl, hw.out⟩
set_option maxRecDepth 100000 in
theorem icheck (s : ByteArray) (w : World) (hs : s.size ≤ 1000000000000) : Calls Tryd.prog 123 #[.string s] w fun e w' => e = .returned (.int .i64 (ck s.data.toList : Nat)) ∧ w = w' := by
  have HSL := Lib.hid (show s.data.toList.length = s.size by simp)
  go_enter Tryd.func123, Tryd.ntmps123
  go_wp2_with fail
  go_loopw [3, 7] (fun n i wr => ∃ (t m : Nat), n = .int .i64 m ∧ i = .int .i64 t ∧ t ≤ s.size ∧ m < 65521 ∧ Hid (m = ck (s.data.toList.take t)) ∧ Hid (w = wr)) (fun _ i _ => s.size - (intOf i).toNat)
  case atStart => exact ⟨0, 11, rfl, rfl, Nat.zero_le _, by omega, rfl, rfl⟩
  case round =>
    obtain ⟨t, m, rfl, rfl, ht, hm, hc, hw⟩ := hrel
    by_cases hlt : t < s.size
    · have hnx := ck_next s.data.toList t (by rw [HSL.out]; exact hlt)
      rw [byte_at s t hlt] at hnx
      have HNX := Lib.hid hnx
      have hb : s[t].toNat < 256 := UInt8.toNat_lt _
      clear hnx
      go_wp2_with fail
      go_roundw
      case rel => exact ⟨t + 1, _, rfl, by go_num, by omega, Nat.mod_lt _ (by decide), (by show _ = _; rw [HNX.out, ← hc.out]; unfold ckStep; rw [Nat.mul_comm m 37]; rfl), hw⟩
      case measure => simp [intOf]; omega
    · have hk : s.data.toList.take t = s.data.toList := List.take_of_length_le (by rw [HSL.out]; omega)
      rw [hk] at hc
      clear hk
      go_wp2_with fail
      go_ret
      exact ⟨by rw [hc.out]; rfl, hw.out⟩
end Go.Proofs.YtmlcdhblofjpbaaDoor
/- What an operation on a disk keeps while it runs: the arguments' boxes, and a copy of the disk in a box; no function of program or reference is walked here. -/
namespace Go.Proofs.YtmlcdhblofjpbaaDoor
open Go.RowKit
set_option linter.unusedVariables false

/-- The answer: a disk in memory of the call's own, and more. -/
def DiskAnd (Y : DiskD) (vs : List Value) (w : World) (e : Ending) (w' : World) : Prop :=
  ∃ (a : Option Addr) (n c : Nat) (G : List Nat), e = .returned (.tuple (.agg #[.slice a n c, .int .i64 Y.fNextName] :: vs).toArray) ∧ diskB.blk w' w.heap.size Y ((a, n, c), ()) G ∧ Below w.heap.size w w'
theorem emptyFile (w : World) (B : Nat) (x0 : Int) (h : I64 x0) : fileB.blk w B ⟨x0, [], 0, false⟩ ((none, 0, 0), ()) [] :=
  file_blk (ps := []) (Blk.nil _ _ _ _) h ⟨by decide, by decide⟩
/-- The blocks below W's are as they were; the copy lies in the box xb. -/
structure DOp (W : World) (xb : Nat) (vf : Value) (nx : Int) (fs : List (BEl fileB)) (v : World) : Prop where
  kept : Kept W.heap.size W v
  low : W.heap.size ≤ xb
  box : v.heap[xb]? = some (.cells #[vf, .int .i64 nx] 55 (0, 0))
  blk : Blk 102 fileB v W.heap.size vf fs
  out : xb ∉ blkOf vf ++ gsOf fs
theorem DOp.below {W v v' : World} {xb : Nat} {vf : Value} {nx : Int} {fs : List (BEl fileB)} (h : DOp W xb vf nx fs v) (hb : Below v.heap.size v v') : DOp W xb vf nx fs v' :=
  ⟨h.kept.below hb, h.low, (hb.block _ (lt_of_block h.box)).trans h.box, h.blk.below hb, h.out⟩
theorem DOp.drew {W v : World} {xb : Nat} {vf : Value} {nx : Int} {fs : List (BEl fileB)} (h : DOp W xb vf nx fs v) : DOp W xb vf nx fs v.drew := h.below (Below.refl _ _).drew
theorem DOp.x {W v : World} {xb : Nat} {vf : Value} {nx : Int} {fs : List (BEl fileB)} (h : DOp W xb vf nx fs v) : v.cell? ⟨xb, 0, none⟩ = some vf ∧ v.cell? ⟨xb, 1, none⟩ = some (.int .i64 nx) ∧ ∀ j, v.frozen? ⟨xb, j, none⟩ = false :=
  ⟨box_cell h.box 0 _ rfl, box_cell h.box 1 _ rfl, fun j => by simp [World.frozen?, h.box]⟩
/-- The copy, laid in a box behind the call that made it. -/
theorem dop_start {W w1 : World} {X : DiskD} {a : Option Addr} {n c : Nat} {G : List Nat} (h : diskB.blk w1 W.heap.size X ((a, n, c), ()) G) (hb : Below W.heap.size W w1) : ∃ fs : List (BEl fileB), n = fs.length ∧ X.fFiles = fs.map BEl.x ∧
    ∀ xb w2, xb = w1.heap.size → w2 = w1.alloc (.cells #[.slice a fs.length c, .int .i64 X.fNextName] 55) → DOp W xb (.slice a fs.length c) X.fNextName fs w2 := by
  obtain ⟨fs, hfs, hbl, -, -⟩ := of_disk_blk h
  obtain ⟨rfl, -⟩ := hbl.caps
  refine ⟨fs, rfl, hfs, fun xb w2 hx hw => ?_⟩
  have b2 : Below w1.heap.size w1 w2 := by rw [hw]; exact (Below.refl _ _).alloc (Nat.le_refl _) _
  refine ⟨⟨hb.trans (b2.mono hb.size), Nat.le_trans hb.size b2.size⟩, by rw [hx]; exact hb.size, by rw [hw, hx]; exact heap_alloc_new _ _, hbl.below b2, fun hm => by have := (hbl.lt xb hm).2; omega⟩
/-- The datum of a disk whose copy it is. -/
theorem DOp.disk {W v : World} {xb n c : Nat} {a : Option Addr} {X : DiskD} {fs : List (BEl fileB)} (h : DOp W xb (.slice a n c) X.fNextName fs v) (hx : X.fFiles = fs.map BEl.x) (hn : I64 X.fNextName) : diskB.blk v W.heap.size X ((a, n, c), ()) (blkOf (.slice a n c) ++ gsOf fs) := by
  have h1 := disk_blk h.blk hn
  rw [← hx] at h1
  exact h1
/-- The answer is laid in the result's box. -/
theorem disk_done {Y : DiskD} {vs : List Value} {w W w' : World} {a : Option Addr} {n c r : Nat} {G : List Nat} (hW : Below w.heap.size w W) (h : diskB.blk w' W.heap.size Y ((a, n, c), ()) G) (hb : Kept W.heap.size W w') (h1 : w.heap.size ≤ r) (h2 : r < W.heap.size) (u v : Value) :
    DiskAnd Y vs w (.returned (.tuple (.agg #[.slice a n c, .int .i64 Y.fNextName] :: vs).toArray)) ((w'.setCell ⟨r, 0, none⟩ u).setCell ⟨r, 1, none⟩ v) := by
  have hne : r ∉ G := fun hm => by have := (diskB.blk_lt h r hm).1; omega
  have hs := hW.size
  have hk : Kept w.heap.size w w' := ⟨hW.trans (hb.1.mono hs), Nat.le_trans hs hb.2⟩
  exact ⟨a, n, c, G, rfl, diskB.blk_mono (diskB.blk_keep h (((SameBlk.refl _ _).set _ hne).set _ hne)) hs, ((hk.set h1 _).set h1 _).1⟩
namespace DiskD
/-- What the file that an operation reaches has and no other file of the disk: the name. -/
theorem file_one {d : DiskD} {name : Int} {k : Nat} {f : FileD} (h : file d name = some (k, f)) : f.fName = name ∧ ∀ (s : Nat) (e : FileD), d.fFiles[s]? = some e → s ≠ k → e.fName ≠ name := by
  unfold file at h
  split at h
  · rename_i hok
    cases hat : at? d.fFiles name with
    | none => rw [hat] at h; cases h
    | some q =>
      rw [hat] at h
      obtain ⟨f', hf', hfn⟩ := at_some hat
      have h1 : (d.fFiles[q]?.map fun f => (q, f)) = some (k, f) := h
      rw [hf'] at h1
      cases h1
      refine ⟨hfn, fun s e hs hne he => ?_⟩
      have asc := (Ok.of hok).asc
      rcases Nat.lt_or_ge s k with h2 | h2
      · have := asc s k e f hs hf' h2; omega
      · have := asc k s f e hf' hs (by omega); omega
  · cases h
theorem create_none {d : DiskD} (h : okD d = false ∨ 1000 ≤ d.fNextName) : create d = none := by
  unfold create
  rw [if_neg]
  rcases h with h1 | h1
  · rw [h1]; simp
  · rw [decide_eq_false (by omega), Bool.and_false]; simp
theorem create_eq {d : DiskD} (h : okD d = true) (h1 : d.fNextName < 1000) : create d = some ⟨d.fFiles ++ [⟨d.fNextName, [], 0, false⟩], d.fNextName + 1⟩ := by
  unfold create
  rw [h, decide_eq_true h1]; rfl
theorem appendTo_none {d : DiskD} {name : Int} {p : List R} (h : file d name = none) : appendTo d name p = none := by unfold appendTo; rw [h]; rfl
theorem appendTo_eq {d : DiskD} {name : Int} {p : List R} {k : Nat} {f : FileD} (h : file d name = some (k, f)) : appendTo d name p = if !f.fSealed && R.pageOk p && decide (count d.fFiles ≠ 40) then some ⟨d.fFiles.set k { f with fPages := f.fPages ++ [p] }, d.fNextName⟩ else none := by unfold appendTo; rw [h]; rfl
theorem sealF_none {d : DiskD} {name : Int} (h : file d name = none) : sealF d name = none := by unfold sealF; rw [h]; rfl
theorem sealF_eq {d : DiskD} {name : Int} {k : Nat} {f : FileD} (h : file d name = some (k, f)) : sealF d name = if f.fSealed then none else some ⟨d.fFiles.set k { f with fChecksum := ck (R.fmtPages f.fPages), fSealed := true }, d.fNextName⟩ := by unfold sealF; rw [h]; rfl
theorem read_none {d : DiskD} {name : Int} (h : file d name = none) : read d name = none := by unfold read; rw [h]; rfl
theorem read_eq {d : DiskD} {name : Int} {k : Nat} {f : FileD} (h : file d name = some (k, f)) : read d name = if f.whole then some f.fPages.flatten else none := by unfold read; rw [h]; rfl
theorem delete_none {d : DiskD} {name : Int} (h : file d name = none) : delete d name = none := by unfold delete; rw [h]; rfl
theorem delete_eq {d : DiskD} {name : Int} {k : Nat} {f : FileD} (h : file d name = some (k, f)) : delete d name = some ⟨d.fFiles.eraseIdx k, d.fNextName⟩ := by unfold delete; rw [h]; rfl
end DiskD
end Go.Proofs.YtmlcdhblofjpbaaDoor
