/- Texts joined: Frows FmtRows FmtPages FitsDisk DOp BlkT PageIn CopyS CreateS ElIn Clone CopyI CreateI. -/
import Derived.Test.YtjdjceohlcimaaaGreatDoorPartDiskOperationse
import Derived.Deep.RegionHeld3
import Derived.Deep.AppendLies
import Derived.Deep.CutRange
import Derived.Lib.SliceRun
import Derived.Lib.Walk
/- The reference's FormatRow, by contract. -/
namespace Go.Proofs.YtjdjceohlcimaaaGreatDoor
open Go.RowKit Go.Lib
structure Boxed (w : World) (r : R) (v : World) : Prop where
  c0 : v.cell? ⟨w.heap.size, 0, none⟩ = some (.int .i64 r.key)
  c1 : v.cell? ⟨w.heap.size, 1, none⟩ = some (.int .i64 r.value)
  c2 : v.cell? ⟨w.heap.size, 2, none⟩ = some (.int .i64 r.width)
  old : Below w.heap.size w v
  big : w.heap.size < v.heap.size
theorem Boxed.drew {w v : World} {r : R} (h : Boxed w r v) : Boxed w r v.drew := ⟨h.c0, h.c1, h.c2, h.old.drew, h.big⟩
theorem Boxed.next {w v v' : World} {r : R} (h : Boxed w r v) (hb : Below v.heap.size v v') : Boxed w r v' :=
  ⟨(hb.cell h.big).trans h.c0, (hb.cell h.big).trans h.c1, (hb.cell h.big).trans h.c2, h.old.trans (hb.mono (Nat.le_of_lt h.big)), Nat.lt_of_lt_of_le h.big hb.size⟩
theorem boxed_start {w w' : World} {r : R} {t : TypeId} (hb : Below (w.alloc (.cells #[.int .i64 r.key, .int .i64 r.value, .int .i64 r.width] t)).heap.size (w.alloc (.cells #[.int .i64 r.key, .int .i64 r.value, .int .i64 r.width] t)) w') : Boxed w r w' := by
  obtain ⟨⟨c0, c1, c2⟩, b⟩ := box_row (r := r) hb
  exact ⟨c0, by simpa using c1, by simpa using c2, b, box_lt hb⟩
theorem Boxed.facts {w v : World} {r : R} (h : Boxed w r v) : v.cell? ⟨w.heap.size, 0, none⟩ = some (.int .i64 r.key) ∧ v.cell? ⟨w.heap.size, 1, none⟩ = some (.int .i64 r.value) ∧ v.cell? ⟨w.heap.size, 2, none⟩ = some (.int .i64 r.width) ∧ Hid (Boxed w r v) := ⟨h.c0, h.c1, h.c2, h⟩
theorem fmt_str (a b c : List UInt8) : (⟨a.toArray⟩ : ByteArray) ++ ⟨#[46]⟩ ++ ⟨b.toArray⟩ ++ ⟨#[46]⟩ ++ ⟨c.toArray⟩ = ⟨(a ++ 46 :: (b ++ 46 :: c)).toArray⟩ := by
  have e : (⟨#[46]⟩ : ByteArray) = ⟨[46].toArray⟩ := rfl
  rw [e, ByteArray.mk_append_mk, ByteArray.mk_append_mk, ByteArray.mk_append_mk, ByteArray.mk_append_mk]
  simp
set_option maxRecDepth 100000 in
theorem sfrow (r : R) (w : World) : Calls Tryz.prog 80 #[r.val] w fun e w' => e = .returned (.string ⟨r.fmt.toArray⟩) ∧ Below w.heap.size w w' := by
  have HV := Lib.hid (svalid r)
  cases hok : r.ok with
  | false =>
    have hf : r.fmt = [] := by unfold R.fmt; rw [hok]; rfl
    have HF := Lib.hid hf
    rw [hok] at HV
    clear hf hok
    unfold R.val at HV ⊢
    go_enter Tryz.func80, Tryz.ntmps80
    go_wp2_with fail
    refine (HV.out _).mono ?_
    rintro e w1 ⟨rfl, b1⟩
    have HB := Lib.hid (boxed_start b1)
    clear b1
    go_wp2_with fail
    go_ret
    exact ⟨by rw [HF.out]; rfl, HB.out.old⟩
  | true =>
    have hf : r.fmt = itoa r.key ++ 46 :: (itoa r.value ++ 46 :: itoa r.width) := by unfold R.fmt; rw [hok]; rfl
    have HF := Lib.hid hf
    have hk := R.ok_iff.1 hok
    have l0 := dd_small r.key (by omega) (by omega)
    have l1 := dd_small r.value (by omega) (by omega)
    have l2 := dd_small r.width (by omega) (by omega)
    have F0 := Lib.hid fun w => sfmt r.key w (by omega) (by omega)
    have F1 := Lib.hid fun w => sfmt r.value w (by omega) (by omega)
    have F2 := Lib.hid fun w => sfmt r.width w (by omega) (by omega)
    rw [hok] at HV
    clear hf hok hk
    obtain ⟨a, ha⟩ : ∃ a, a = itoa r.key := ⟨_, rfl⟩
    obtain ⟨b, hb⟩ : ∃ a, a = itoa r.value := ⟨_, rfl⟩
    obtain ⟨c, hc⟩ : ∃ a, a = itoa r.width := ⟨_, rfl⟩
    rw [← ha] at F0 HF l0
    rw [← hb] at F1 HF l1
    rw [← hc] at F2 HF l2
    clear ha hb hc
    have n0 : ¬ 9223372036854775807 < a.length + 1 := by omega
    have n1 : ¬ 9223372036854775807 < a.length + 1 + b.length := by omega
    have n2 : ¬ 9223372036854775807 < a.length + 1 + b.length + 1 := by omega
    have n3 : ¬ 9223372036854775807 < a.length + 1 + b.length + 1 + c.length := by omega
    unfold R.val at HV ⊢
    go_enter Tryz.func80, Tryz.ntmps80
    go_wp2_with fail
    refine (HV.out _).mono ?_
    rintro e w1 ⟨rfl, b1⟩
    have HB := Lib.hid (boxed_start b1).drew
    have hb := boxed_start b1
    obtain ⟨c0, c1, c2, _, _⟩ := hb
    clear b1
    go_wp2_with fail
    go_region_held3 (fun v => v.cell? ⟨w.heap.size, 0, none⟩ = some (.int .i64 r.key) ∧ v.cell? ⟨w.heap.size, 1, none⟩ = some (.int .i64 r.value) ∧ v.cell? ⟨w.heap.size, 2, none⟩ = some (.int .i64 r.width) ∧ Hid (Boxed w r v)) (first | assumption | exact HB.out.facts | exact (Boxed.next (Hid.out (And.right (And.right (And.right (by assumption))))) (by assumption)).facts) (first | (go_at_call_of 85 r.key; refine (F0.out _).mono ?_; rintro e w' ⟨rfl, b2⟩) | (go_at_call_of 85 r.value; refine (F1.out _).mono ?_; rintro e w' ⟨rfl, b2⟩) | (go_at_call_of 85 r.width; refine (F2.out _).mono ?_; rintro e w' ⟨rfl, b2⟩))
    have hold := (Hid.out (And.right (And.right (And.right (by assumption : _ ∧ _ ∧ _ ∧ Hid (Boxed w r w'))))) : Boxed w r w').old
    go_wp2_with fail
    go_ret
    exact ⟨by rw [HF.out, ← fmt_str]; rfl, hold⟩
end Go.Proofs.YtjdjceohlcimaaaGreatDoor
/- The reference's FormatRows, by contract. -/
namespace Go.Proofs.YtjdjceohlcimaaaGreatDoor
open Go.RowKit Go.Lib
theorem cat3 (a b : List UInt8) : (⟨a.toArray⟩ : ByteArray) ++ ⟨#[32]⟩ ++ ⟨b.toArray⟩ = ⟨(a ++ [32] ++ b).toArray⟩ := by
  have e : (⟨#[32]⟩ : ByteArray) = ⟨[32].toArray⟩ := rfl
  rw [e, ByteArray.mk_append_mk, ByteArray.mk_append_mk]
set_option maxRecDepth 100000 in
theorem sfrows (a : Option Addr) (len cap : Nat) (L : List R) (w : World) (h : IsRows w a len L) (hlen : len ≤ 1000000000000) :
    Calls Tryz.prog 66 #[.slice a len cap] w fun e w' => e = .returned (.string ⟨(fmtRows L).toArray⟩) ∧ Below w.heap.size w w' := by
  have HI := Lib.hid h
  obtain ⟨hl, hwf, hc⟩ := h
  have HL := Lib.hid hl
  have HC := Lib.hid hc
  clear hl hwf hc
  go_enter Tryz.func66, Tryz.ntmps66
  go_wp2_with fail
  go_loopw [3, 4] (fun n i wr => ∃ (k : Nat) (x : List UInt8), n = .string ⟨x.toArray⟩ ∧ i = .int .i64 k ∧ k ≤ len ∧ Hid (x = join ((L.take k).map R.fmt) [32]) ∧ Hid (k = 0 ∨ okRows L = true) ∧ Hid (Below w.heap.size w wr)) (fun _ i _ => len - (RowKit.intOf i).toNat)
  case atStart => exact ⟨0, [], rfl, rfl, Nat.zero_le _, rfl, .inl rfl, Below.refl _ _⟩
  case round =>
    obtain ⟨k, x, rfl, rfl, hk, hx, hor, hb⟩ := hrel
    by_cases hlt : k < len
    · obtain ⟨b, o, rfl, hbl, hc⟩ : ∃ b o : Nat, a = some ⟨b, o, none⟩ ∧ b < w.heap.size ∧ ∀ t, t < len → RowAt w b (o + t * 3) (L.getD t R.zero) := by
        rcases HC.out with h0 | h0
        · omega
        · exact h0
      obtain ⟨r, hr⟩ : ∃ r, r = L.getD k R.zero := ⟨_, rfl⟩
      have hcr : RowAt w b (o + k * 3) r := by rw [hr]; exact hc k hlt
      have HCR := Lib.hid hcr
      have HR := Lib.hid hr
      clear hr hc hcr
      go_wp2_with fail
      refine (sare _ len cap L _ (HI.out.keep hb.out) (by omega)).mono ?_
      rintro e w1 ⟨rfl, b1⟩
      have B1 := Lib.hid (hb.out.trans (b1.mono hb.out.size))
      clear b1
      obtain ⟨c0, c1, c2⟩ := HCR.out.below B1.out hbl
      cases hok : okRows L with
      | false =>
        have hk0 : k = 0 := by rcases hor.out with h | h; exact h; rw [hok] at h; cases h
        subst hk0
        have hx0 : x = [] := hx.out
        subst hx0
        have HF : Hid (fmtRows L = []) := by show _ = _; unfold fmtRows; rw [hok]; rfl
        clear hok
        go_wp2_with fail
        go_ret
        exact ⟨by rw [HF.out]; rfl, B1.out⟩
      | true =>
        have h24 := okRows_length hok
        have hxl : x.length ≤ 216 := by
          rw [hx.out]
          have := join_fmt_length (L.take k)
          rw [List.length_take] at this
          omega
        have HN := Lib.hid (join_next L k (by rw [HL.out]; exact hlt))
        rw [← HR.out] at HN
        have hfl := fmt_length r
        have HOK := Lib.hid hok
        clear hok
        by_cases hk0 : k = 0
        · subst hk0
          have hx0 : x = [] := hx.out
          subst hx0
          simp only [Nat.zero_mul, Nat.add_zero] at c0 c1 c2
          go_wp2_with fail
          refine (sfrow r _).mono ?_
          rintro e w2 ⟨rfl, b2⟩
          have B2 := Lib.hid (B1.out.trans (b2.mono B1.out.size))
          clear b2
          have n1 : ¬ 9223372036854775807 < r.fmt.length := by omega
          go_wp2_with fail
          go_roundw
          case rel =>
            refine ⟨1, r.fmt, by first | rfl | simp, rfl, by omega, ?_, .inr HOK.out, B2⟩
            show _ = _
            have := HN.out
            rw [if_pos trivial] at this
            exact this.symm
          case measure => simp [RowKit.intOf]; omega
        · have hpos : (0 : Int) < k := by omega
          have n0 : ¬ 9223372036854775807 < x.length + 1 := by omega
          go_wp2_with fail
          refine (sfrow r _).mono ?_
          rintro e w2 ⟨rfl, b2⟩
          have B2 := Lib.hid (B1.out.trans (b2.mono B1.out.size))
          have n1 : ¬ 9223372036854775807 < x.length + 1 + r.fmt.length := by omega
          clear b2
          go_wp2_with fail
          go_roundw
          case rel =>
            refine ⟨k + 1, x ++ [32] ++ r.fmt, by rw [← cat3], by go_num, by omega, ?_, .inr HOK.out, B2⟩
            show _ = _
            rw [HN.out, if_neg hk0, hx.out]
          case measure => simp [RowKit.intOf]; omega
    · have hkl : k = len := by omega
      have hfin : fmtRows L = x := by
        have hx' := hx.out
        rw [hkl, ← HL.out, List.take_length] at hx'
        rcases hor.out with h | h
        · have : L = [] := List.eq_nil_of_length_eq_zero (by rw [HL.out]; omega)
          subst this
          rw [hx']; rfl
        · unfold fmtRows; rw [if_pos h, hx']
      have HA := Lib.hid hfin
      have hd : decide ((k : Int) < (len : Int)) = false := decide_eq_false (by omega)
      clear hfin hkl
      go_wp2_with fail
      go_ret
      exact ⟨by rw [HA.out]; rfl, hb.out⟩
end Go.Proofs.YtjdjceohlcimaaaGreatDoor
/- The reference's FormatPages (and its check of all pages), by contract. -/
namespace Go.Proofs.YtjdjceohlcimaaaGreatDoor
open Go.RowKit Go.Lib
theorem cat_page (a b : List UInt8) : ((⟨a.toArray⟩ : ByteArray) ++ ⟨#[91]⟩ ++ ⟨b.toArray⟩) ++ ⟨#[93]⟩ = ⟨(a ++ (91 :: (b ++ [93]))).toArray⟩ := by
  have e : (⟨#[91]⟩ : ByteArray) = ⟨[91].toArray⟩ := rfl
  have e2 : (⟨#[93]⟩ : ByteArray) = ⟨[93].toArray⟩ := rfl
  rw [e, e2, ByteArray.mk_append_mk, ByteArray.mk_append_mk, ByteArray.mk_append_mk]
  congr 1
  simp
theorem txt_length (P : List (List R)) : (P.flatMap R.pageTxt).length ≤ 218 * P.length := by
  induction P with
  | nil => simp
  | cons p P ih =>
    have h1 := fmtRows_length p
    rw [List.flatMap_cons, List.length_append, List.length_cons]
    have : (R.pageTxt p).length = (fmtRows p).length + 2 := by simp [R.pageTxt]
    omega
theorem txt_next (P : List (List R)) (t : Nat) (ht : t < P.length) : (P.take (t + 1)).flatMap R.pageTxt = (P.take t).flatMap R.pageTxt ++ (91 :: (fmtRows P[t] ++ [93])) := by
  rw [List.take_succ_eq_append_getElem ht, List.flatMap_append, List.flatMap_singleton]
  rfl
set_option maxRecDepth 100000 in
theorem sfpages (a : Option Addr) (n c : Nat) (P : List (List R)) (w : World) (h : SeqIn pageRep w a n P) (hn : n ≤ 1000000000) (hf : P.flatten.length ≤ 1000000000000) :
    Calls Tryz.prog 39 #[.slice a n c] w fun e w' => e = .returned (.string ⟨(R.fmtPages P).toArray⟩) ∧ Below w.heap.size w w' := by
  have HL := Lib.hid h.1
  have HI := Lib.hid h
  have HFL := Lib.hid hf
  obtain ⟨N, hN⟩ : ∃ N, N = P.flatten.length := ⟨_, rfl⟩
  rw [← hN] at hf
  have HN := Lib.hid hN
  clear h hN
  go_enter Tryz.func39, Tryz.ntmps39
  go_wp2_with fail
  go_loopw [3, 4] (fun s i wr => ∃ (t : Nat) (x : List UInt8), s = .string ⟨x.toArray⟩ ∧ i = .int .i64 t ∧ t ≤ n ∧ Hid (x = (P.take t).flatMap R.pageTxt) ∧ Hid (t = 0 ∨ R.allPages P = true) ∧ Hid (Below w.heap.size w wr)) (fun _ i _ => n - (RowKit.intOf i).toNat)
  case atStart => exact ⟨0, [], rfl, rfl, Nat.zero_le _, rfl, .inl rfl, Below.refl _ _⟩
  case round =>
    obtain ⟨t, x, rfl, rfl, ht, hx, hor, hb⟩ := hrel
    by_cases hlt : t < n
    · have htl : t < P.length := by have := HL.out; omega
      go_wp2_with fail
      refine (sallpages a n c P _ (HI.out.keep hb.out) HFL.out).mono ?_
      rintro e w1 ⟨rfl, b1⟩
      have B1 := Lib.hid (hb.out.trans (b1.mono hb.out.size))
      clear b1
      cases hok : R.allPages P with
      | false =>
        have hk0 : t = 0 := by rcases hor.out with h | h; exact h; rw [hok] at h; cases h
        subst hk0
        have hx0 : x = [] := hx.out
        subst hx0
        have HF : Hid (R.fmtPages P = []) := by show _ = _; unfold R.fmtPages; rw [hok]; rfl
        clear hok
        go_wp2_with fail
        go_ret
        exact ⟨by rw [HF.out]; rfl, B1.out⟩
      | true =>
        have hp : P[t]? = some P[t] := by simp [htl]
        obtain ⟨b, o, d, k, m, rfl, hbl, hcell, hin, -⟩ := (HI.out.keep B1.out).at hp
        have hkn : k ≤ 1000000000000 := by
          have h1 := flat_mem P t htl
          rw [hin.1, ← HN.out] at h1
          omega
        have hxl : x.length ≤ 218000000000 := by
          have h2 := txt_length (P.take t)
          rw [← hx.out, List.length_take] at h2
          omega
        have HNX := Lib.hid (txt_next P t htl)
        obtain ⟨p, hpp⟩ : ∃ p, p = P[t] := ⟨_, rfl⟩
        rw [← hpp] at hin HNX
        have hpl := fmtRows_length p
        have IN := Lib.hid (rows_in hin)
        have HOK := Lib.hid hok
        have n0 : ¬ 9223372036854775807 < x.length + 1 := by omega
        clear hok hin hp hpp
        go_wp2_with fail
        refine (sfrows d k m p _ IN.out hkn).mono ?_
        rintro e w2 ⟨rfl, b2⟩
        have B2 := Lib.hid (B1.out.trans (b2.mono B1.out.size))
        obtain ⟨z, hz⟩ : ∃ z, z = fmtRows p := ⟨_, rfl⟩
        rw [← hz] at HNX hpl ⊢
        clear b2 hz
        have n1 : ¬ 9223372036854775807 < x.length + 1 + z.length := by omega
        have n2 : ¬ 9223372036854775807 < x.length + 1 + z.length + 1 := by omega
        go_wp2_with fail
        rw [cat_page]
        go_roundw
        case rel => exact ⟨t + 1, _, rfl, by go_num, by omega, (by show _ = _; rw [HNX.out, hx.out]), .inr HOK.out, B2⟩
        case measure => simp [RowKit.intOf]; omega
    · have hkl : t = n := by omega
      have hfin : R.fmtPages P = x := by
        unfold R.fmtPages
        rcases hor.out with h0 | h0
        · have hP : P = [] := List.eq_nil_of_length_eq_zero (by have := HL.out; omega)
          rw [hx.out, hP, List.take_nil]
          rfl
        · rw [if_pos h0, hx.out, hkl, List.take_of_length_le (by have := HL.out; omega)]
      have HF := Lib.hid hfin
      clear hfin hkl
      go_wp2_with fail
      go_ret
      exact ⟨by rw [HF.out]; rfl, hb.out⟩
end Go.Proofs.YtjdjceohlcimaaaGreatDoor
/- Disks told by trees, for contracts over shapes; the contracts of chapters 4 and 6 that answer plain values, told by trees. -/
namespace Go.Proofs.YtjdjceohlcimaaaGreatDoor
open Go Go.RowKit V
set_option linter.unusedVariables false
def goodPage (p : List R) : Prop := ∀ r ∈ p, r.wf
def goodFile (x : FileD) : Prop := I64 x.fName ∧ (∀ p ∈ x.fPages, goodPage p) ∧ I64 x.fChecksum ∧ True
def goodDisk (x : DiskD) : Prop := (∀ f ∈ x.fFiles, goodFile f) ∧ I64 x.fNextName ∧ True
theorem fitsRow : Fits rowRep tRow R.wf := Fits.row
theorem fitsPage : Fits pageRep tPage goodPage := Fits.slice 72 fitsRow
theorem fitsFile : Fits fileRep tFile goodFile := Fits.via (fun x : FileD => (x.fName, x.fPages, x.fChecksum, x.fSealed, ())) (Fits.int (Fits.seq 29 fitsPage (Fits.int (Fits.bool Fits.fin))))
theorem fitsDisk : Fits diskRep tDisk goodDisk := Fits.via (fun x : DiskD => (x.fFiles, x.fNextName, ())) (Fits.seq 58 fitsFile (Fits.int Fits.fin))
theorem vokdisk_s (X : DiskD) (hX : goodDisk X) (hw : wtDisk X ≤ 1000000000) : VC Tryz.prog 35 [(true, tDisk X)] false [(false, [.lit (.bool (DiskD.okD X))])] :=
  VC.shape1 fitsDisk hX (ag := true) rfl fun w k h => sokdisk k.1.1 k.1.2.1 k.1.2.2 X w h hw
theorem vokdisk_i (X : DiskD) (hX : goodDisk X) (hw : wtDisk X ≤ 1000000000) : VC Tryz.prog 22 [(true, tDisk X)] false [(false, [.lit (.bool (DiskD.okD X))])] :=
  VC.shape1 fitsDisk hX (ag := true) rfl fun w k h => iokdisk k.1.1 k.1.2.1 k.1.2.2 X w h hw
theorem vat_s (X : DiskD) (name : Int) (hX : goodDisk X) : VC Tryz.prog 34 [(true, tDisk X), (false, [.lit (.int .i64 name)])] false [(false, [.lit (.int .i64 (DiskD.atI X.fFiles name))])] :=
  VC.shape2 fitsDisk hX (ag := true) rfl fun w k h => sat k.1.1 k.1.2.1 k.1.2.2 X name w h
theorem vfpages_s (P : List (List R)) (hP : ∀ p ∈ P, goodPage p) (hn : P.length ≤ 1000000000) (hf : P.flatten.length ≤ 1000000000000) : VC Tryz.prog 39 [(false, [.seq 29 (P.map tPage)])] false [(false, [.lit (.string ⟨(R.fmtPages P).toArray⟩)])] :=
  VC.shape1 (Fits.slice 29 fitsPage) hP (ag := false) rfl fun w k h => by
    have e : k.2.1 = P.length := h.1.1.symm
    exact sfpages k.1 k.2.1 k.2.2 P w h.1 (by omega) hf
end Go.Proofs.YtjdjceohlcimaaaGreatDoor
/- What an operation on a disk keeps while it runs: the arguments' boxes, and a copy of the disk in a box; no function of program or reference is walked here. -/
namespace Go.Proofs.YtjdjceohlcimaaaGreatDoor
open Go.RowKit
set_option linter.unusedVariables false
def DiskAnd (Y : DiskD) (vs : List Value) (w : World) (e : Ending) (w' : World) : Prop :=
  ∃ (a : Option Addr) (n c : Nat) (G : List Nat), e = .returned (.tuple (.agg #[.slice a n c, .int .i64 Y.fNextName] :: vs).toArray) ∧ diskB.blk w' w.heap.size Y ((a, n, c), ()) G ∧ Below w.heap.size w w'
theorem emptyFile (w : World) (B : Nat) (x0 : Int) (h : I64 x0) : fileB.blk w B ⟨x0, [], 0, false⟩ ((none, 0, 0), ()) [] :=
  file_blk (ps := []) (Blk.nil _ _ _ _) h ⟨by decide, by decide⟩
structure DOp (W : World) (xb : Nat) (vf : Value) (nx : Int) (fs : List (BEl fileB)) (v : World) : Prop where
  kept : Kept W.heap.size W v
  low : W.heap.size ≤ xb
  box : v.heap[xb]? = some (.cells #[vf, .int .i64 nx] 26 (0, 0))
  blk : Blk 58 fileB v W.heap.size vf fs
  out : xb ∉ blkOf vf ++ gsOf fs
theorem DOp.below {W v v' : World} {xb : Nat} {vf : Value} {nx : Int} {fs : List (BEl fileB)} (h : DOp W xb vf nx fs v) (hb : Below v.heap.size v v') : DOp W xb vf nx fs v' :=
  ⟨h.kept.below hb, h.low, (hb.block _ (lt_of_block h.box)).trans h.box, h.blk.below hb, h.out⟩
theorem DOp.drew {W v : World} {xb : Nat} {vf : Value} {nx : Int} {fs : List (BEl fileB)} (h : DOp W xb vf nx fs v) : DOp W xb vf nx fs v.drew := h.below (Below.refl _ _).drew
theorem DOp.x {W v : World} {xb : Nat} {vf : Value} {nx : Int} {fs : List (BEl fileB)} (h : DOp W xb vf nx fs v) : v.cell? ⟨xb, 0, none⟩ = some vf ∧ v.cell? ⟨xb, 1, none⟩ = some (.int .i64 nx) ∧ ∀ j, v.frozen? ⟨xb, j, none⟩ = false :=
  ⟨box_cell h.box 0 _ rfl, box_cell h.box 1 _ rfl, fun j => by simp [World.frozen?, h.box]⟩
theorem dop_start {W w1 : World} {X : DiskD} {a : Option Addr} {n c : Nat} {G : List Nat} (h : diskB.blk w1 W.heap.size X ((a, n, c), ()) G) (hb : Below W.heap.size W w1) : ∃ fs : List (BEl fileB), n = fs.length ∧ X.fFiles = fs.map BEl.x ∧
    ∀ xb w2, xb = w1.heap.size → w2 = w1.alloc (.cells #[.slice a fs.length c, .int .i64 X.fNextName] 26) → DOp W xb (.slice a fs.length c) X.fNextName fs w2 := by
  obtain ⟨fs, hfs, hbl, -, -⟩ := of_disk_blk h
  obtain ⟨rfl, -⟩ := hbl.caps
  refine ⟨fs, rfl, hfs, fun xb w2 hx hw => ?_⟩
  have b2 : Below w1.heap.size w1 w2 := by rw [hw]; exact (Below.refl _ _).alloc (Nat.le_refl _) _
  refine ⟨⟨hb.trans (b2.mono hb.size), Nat.le_trans hb.size b2.size⟩, by rw [hx]; exact hb.size, by rw [hw, hx]; exact heap_alloc_new _ _, hbl.below b2, fun hm => by have := (hbl.lt xb hm).2; omega⟩
theorem DOp.disk {W v : World} {xb n c : Nat} {a : Option Addr} {X : DiskD} {fs : List (BEl fileB)} (h : DOp W xb (.slice a n c) X.fNextName fs v) (hx : X.fFiles = fs.map BEl.x) (hn : I64 X.fNextName) : diskB.blk v W.heap.size X ((a, n, c), ()) (blkOf (.slice a n c) ++ gsOf fs) := by
  have h1 := disk_blk h.blk hn
  rw [← hx] at h1
  exact h1
theorem disk_done {Y : DiskD} {vs : List Value} {w W w' : World} {a : Option Addr} {n c r : Nat} {G : List Nat} (hW : Below w.heap.size w W) (h : diskB.blk w' W.heap.size Y ((a, n, c), ()) G) (hb : Kept W.heap.size W w') (h1 : w.heap.size ≤ r) (h2 : r < W.heap.size) (u v : Value) :
    DiskAnd Y vs w (.returned (.tuple (.agg #[.slice a n c, .int .i64 Y.fNextName] :: vs).toArray)) ((w'.setCell ⟨r, 0, none⟩ u).setCell ⟨r, 1, none⟩ v) := by
  have hne : r ∉ G := fun hm => by have := (diskB.blk_lt h r hm).1; omega
  have hs := hW.size
  have hk : Kept w.heap.size w w' := ⟨hW.trans (hb.1.mono hs), Nat.le_trans hs hb.2⟩
  exact ⟨a, n, c, G, rfl, diskB.blk_mono (diskB.blk_keep h (((SameBlk.refl _ _).set _ hne).set _ hne)) hs, ((hk.set h1 _).set h1 _).1⟩
namespace DiskD
theorem file_one {d : DiskD} {name : Int} {k : Nat} {f : FileD} (h : file d name = some (k, f)) : f.fName = name ∧ ∀ (s : Nat) (e : FileD), d.fFiles[s]? = some e → s ≠ k → e.fName ≠ name := by
  unfold file at h
  split at h
  · rename_i hok
    cases hat : at? d.fFiles name with
    | none => rw [hat] at h; cases h
    | some q =>
      rw [hat] at h
      obtain ⟨f', hf', hfn⟩ := at_some hat
      have h1 : (d.fFiles[q]?.map fun f => (q, f)) = some (k, f) := h
      rw [hf'] at h1
      cases h1
      refine ⟨hfn, fun s e hs hne he => ?_⟩
      have asc := (Ok.of hok).asc
      rcases Nat.lt_or_ge s k with h2 | h2
      · have := asc s k e f hs hf' h2; omega
      · have := asc k s f e hf' hs (by omega); omega
  · cases h
theorem create_none {d : DiskD} (h : okD d = false ∨ 1000 ≤ d.fNextName) : create d = none := by
  unfold create
  rw [if_neg]
  rcases h with h1 | h1
  · rw [h1]; simp
  · rw [decide_eq_false (by omega), Bool.and_false]; simp
theorem create_eq {d : DiskD} (h : okD d = true) (h1 : d.fNextName < 1000) : create d = some ⟨d.fFiles ++ [⟨d.fNextName, [], 0, false⟩], d.fNextName + 1⟩ := by
  unfold create
  rw [h, decide_eq_true h1]; rfl
theorem appendTo_none {d : DiskD} {name : Int} {p : List R} (h : file d name = none) : appendTo d name p = none := by unfold appendTo; rw [h]; rfl
theorem appendTo_eq {d : DiskD} {name : Int} {p : List R} {k : Nat} {f : FileD} (h : file d name = some (k, f)) : appendTo d name p = if !f.fSealed && R.pageOk p && decide (count d.fFiles ≠ 40) then some ⟨d.fFiles.set k { f with fPages := f.fPages ++ [p] }, d.fNextName⟩ else none := by unfold appendTo; rw [h]; rfl
theorem sealF_none {d : DiskD} {name : Int} (h : file d name = none) : sealF d name = none := by unfold sealF; rw [h]; rfl
theorem sealF_eq {d : DiskD} {name : Int} {k : Nat} {f : FileD} (h : file d name = some (k, f)) : sealF d name = if f.fSealed then none else some ⟨d.fFiles.set k { f with fChecksum := ck (R.fmtPages f.fPages), fSealed := true }, d.fNextName⟩ := by unfold sealF; rw [h]; rfl
theorem read_none {d : DiskD} {name : Int} (h : file d name = none) : read d name = none := by unfold read; rw [h]; rfl
theorem read_eq {d : DiskD} {name : Int} {k : Nat} {f : FileD} (h : file d name = some (k, f)) : read d name = if f.whole then some f.fPages.flatten else none := by unfold read; rw [h]; rfl
theorem delete_none {d : DiskD} {name : Int} (h : file d name = none) : delete d name = none := by unfold delete; rw [h]; rfl
theorem delete_eq {d : DiskD} {name : Int} {k : Nat} {f : FileD} (h : file d name = some (k, f)) : delete d name = some ⟨d.fFiles.eraseIdx k, d.fNextName⟩ := by unfold delete; rw [h]; rfl
end DiskD
end Go.Proofs.YtjdjceohlcimaaaGreatDoor
/- Slices in blocks of the call's own, told by trees: the old contracts' answers serve callers by trees. -/
namespace Go.Proofs.YtjdjceohlcimaaaGreatDoor
open Go Go.RowKit V
set_option linter.unusedVariables false
structure BTree {α : Type} (s : BRep α) (tf : α → List T) (p : Nat) : Prop where
  len : ∀ x, (tf x).length = s.rep.size
  own : ∀ {w : World} {B : Nat} {x : α} {h : s.rep.H} {G : List Nat}, s.blk w B x h G → ∀ (j : Nat) (t : T) (u : Value), (tf x)[j]? = some t → (s.rep.cells x h)[j]? = some u → V.Own w 0 t u (fun b => j = p ∧ b ∈ G)
theorem BTree.one {α : Type} {s : BRep α} {tf : α → List T} {p : Nat} (ht : BTree s tf p) {w : World} {B : Nat} {x : α} {h : s.rep.H} {G : List Nat} (hb : s.blk w B x h G) : ∀ u ∈ s.rep.cells x h, u.oneCell' = true := fun u hu => by
  obtain ⟨j, hj, rfl⟩ := List.getElem_of_mem hu
  have hjt : j < (tf x).length := by rw [ht.len, ← s.rep.len x h]; exact hj
  exact (ht.own hb j _ _ (List.getElem?_eq_getElem hjt) (List.getElem?_eq_getElem hj)).one
theorem gs_once {α : Type} {s : BRep α} {es : List (BEl s)} (hn : (gsOf es).Nodup) {i j : Nat} {e f : BEl s} (hi : es[i]? = some e) (hj : es[j]? = some f) {b : Nat} (he : b ∈ e.G) (hf : b ∈ f.G) : i = j := by
  have hp := (List.pairwise_iff_getElem.1 ((List.pairwise_flatMap.1 hn).2))
  have hil := V.get_lt hi
  have hjl := V.get_lt hj
  rw [List.getElem?_eq_getElem hil] at hi
  rw [List.getElem?_eq_getElem hjl] at hj
  cases hi
  cases hj
  rcases Nat.lt_trichotomy i j with h | h | h
  · exact absurd rfl (hp i j hil hjl h b he b hf)
  · exact h
  · exact absurd rfl (hp j i hjl hil h b hf b he)
theorem own_blk {α : Type} {s : BRep α} {tf : α → List T} {p : Nat} (ht : BTree s tf p) {Ty : TypeId} (hz : Sz Ty s.rep.size) (hpos : 0 < s.rep.size) {w : World} {B : Nat} {v : Value} {es : List (BEl s)} (h : Blk Ty s w B v es) :
    V.Own w 0 (.seq Ty ((es.map BEl.x).map tf)) v (fun b => b ∈ blkOf v ++ gsOf es) := by
  have hnd := List.nodup_append.1 h.nodup
  have hdm : ∀ k j, j < s.rep.size → (k * s.rep.size + j) / s.rep.size = k ∧ (k * s.rep.size + j) % s.rep.size = j := fun k j hj => by
    constructor
    · rw [Nat.mul_comm, Nat.mul_add_div hpos, Nat.div_eq_of_lt hj, Nat.add_zero]
    · rw [Nat.mul_comm, Nat.mul_add_mod, Nat.mod_eq_of_lt hj]
  refine .seq s.rep.size hpos hz (fun e he => ?_) (bcells es) (by rw [List.length_map, List.length_map]; exact ownsRow_mono h.own (Nat.zero_le _)) (fun i b => ∃ e, es[i / s.rep.size]? = some e ∧ i % s.rep.size = p ∧ b ∈ e.G) (fun k e' j t u h1 h2 h3 => ?_) (fun u hu => ?_) (fun b hb => ?_) (fun i b hb => ?_) (fun i b hb hv => ?_) fun i j b hi hj => ?_
  · obtain ⟨x, -, rfl⟩ := List.mem_map.1 he
    exact ht.len x
  · rw [List.getElem?_map, List.getElem?_map, Option.map_map] at h1
    obtain ⟨e, he, rfl⟩ := Option.map_eq_some_iff.1 h1
    have hj : j < s.rep.size := by rw [← ht.len e.x]; exact V.get_lt h2
    have hjc : j < (s.rep.cells e.x e.h).length := by rw [s.rep.len]; exact hj
    have h4 := bcells_get es k e he j _ (List.getElem?_eq_getElem hjc)
    rw [h3] at h4
    refine (ht.own (h.all e (List.mem_of_getElem? he)) j t u h2 (by rw [h4]; exact List.getElem?_eq_getElem hjc)).mono fun b hb => ?_
    obtain ⟨d1, d2⟩ := hdm k j hj
    exact ⟨e, by rw [d1]; exact he, by rw [d2]; exact hb.1, hb.2⟩
  · obtain ⟨e, he, hu⟩ := List.mem_flatMap.1 hu
    exact ht.one (h.all e he) u hu
  · exact List.mem_append_left _ (blkOf_mem.2 hb)
  · obtain ⟨e, he, -, hb⟩ := hb
    exact List.mem_append_right _ (mem_gs.2 ⟨e, List.mem_of_getElem? he, hb⟩)
  · obtain ⟨e, he, -, hb⟩ := hb
    exact hnd.2.2 b (blkOf_mem.2 hv) b (mem_gs.2 ⟨e, List.mem_of_getElem? he, hb⟩) rfl
  · obtain ⟨e, he, hp1, hb⟩ := hi
    obtain ⟨f, hf, hp2, hb'⟩ := hj
    have := gs_once hnd.2.1 he hf hb hb'
    rw [← Nat.div_add_mod i s.rep.size, ← Nat.div_add_mod j s.rep.size, this, hp1, hp2]
theorem rowBT : BTree rowB tRow 0 := ⟨fun _ => rfl, fun {w B x h G} hb j t u h1 h2 => by
  have h2' : [Value.int .i64 x.key, .int .i64 x.value, .int .i64 x.width][j]? = some u := h2
  match j, h1, h2' with
  | 0, h1, h2' => cases h1; cases h2'; exact .lit rfl
  | 1, h1, h2' => cases h1; cases h2'; exact .lit rfl
  | 2, h1, h2' => cases h1; cases h2'; exact .lit rfl⟩
theorem seqBT {α : Type} {s : BRep α} {tf : α → List T} {p : Nat} (ht : BTree s tf p) {Ty : TypeId} (hz : Sz Ty s.rep.size) (hpos : 0 < s.rep.size) : BTree (seqB Ty s) (fun xs => [.seq Ty (xs.map tf)]) 0 := ⟨fun _ => rfl, fun {w B x h G} hb j t u h1 h2 => by
  obtain ⟨es, rfl, h3, rfl⟩ := hb
  have h2' : [Value.slice h.1 h.2.1 h.2.2][j]? = some u := h2
  match j, h1, h2' with
  | 0, h1, h2' =>
    cases h1
    cases h2'
    exact (own_blk ht hz hpos h3).mono fun b hb => ⟨rfl, hb⟩⟩
theorem pageBT : BTree rowsB tPage 0 := seqBT rowBT sz_impl_Row (by decide)
theorem fileBT : BTree fileB tFile 1 := ⟨fun _ => rfl, fun {w B x h G} hb j t u h1 h2 => by
  obtain ⟨⟨a, n, c⟩, ⟨⟩⟩ := h
  obtain ⟨ps, e1, h3, rfl, -⟩ := of_file_blk hb
  have h2' : [Value.int .i64 x.fName, .slice a n c, .int .i64 x.fChecksum, .bool x.fSealed][j]? = some u := h2
  match j, h1, h2' with
  | 0, h1, h2' => cases h1; cases h2'; exact .lit rfl
  | 1, h1, h2' =>
    cases h1
    cases h2'
    rw [e1]
    exact (own_blk pageBT sz_impl_Page (by decide) h3).mono fun b hb => ⟨rfl, hb⟩
  | 2, h1, h2' => cases h1; cases h2'; exact .lit rfl
  | 3, h1, h2' => cases h1; cases h2'; exact .lit rfl⟩
theorem own_disk {w : World} {B n c : Nat} {a : Option Addr} {Y : DiskD} {G : List Nat} (h : diskB.blk w B Y ((a, n, c), ()) G) : V.Own w 0 (.seq 58 (Y.fFiles.map tFile)) (.slice a n c) (fun b => b ∈ G) ∧ ∀ b ∈ G, B ≤ b ∧ b < w.heap.size := by
  have hlt := diskB.blk_lt h
  obtain ⟨fs, e1, h3, rfl, -⟩ := of_disk_blk h
  rw [e1]
  exact ⟨own_blk fileBT sz_impl_File (by decide) h3, hlt⟩
theorem gives_disk {Y : DiskD} {vs : List Value} {w : World} {e : Ending} {w' : World} (hv : ∀ u ∈ vs, u.oneCell' = true) (h : DiskAnd Y vs w e w') : V.Gives (Env.of w) true ((true, tDisk Y) :: vs.map fun u => (false, [T.lit u])) e w' := by
  obtain ⟨a, n, c, G, rfl, hb, hB⟩ := h
  obtain ⟨ho, hlt⟩ := own_disk hb
  refine ⟨[.slice a n c, .int .i64 Y.fNextName] :: vs.map fun u => [u], fun q j b => q = 0 ∧ j = 0 ∧ b ∈ G, by simp, ?_, fun q ag ts us hq hu => ?_, fun q j q' j' b hb hb' => ⟨hb.1.trans hb'.1.symm, hb.2.1.trans hb'.2.1.symm⟩, fun q j b hb => ⟨.inl (hlt b hb.2.2).1, (hlt b hb.2.2).2⟩, .of_below hB⟩
  · have hz : ∀ ys : List Value, List.zipWith (fun (r : Bool × List T) us => cval r.1 us) (ys.map fun u => (false, [T.lit u])) (ys.map fun u => [u]) = ys := fun ys => by
      induction ys with
      | nil => rfl
      | cons y ys ih => show cval false [y] :: _ = _; rw [ih]; rfl
    show Ending.returned _ = Ending.returned (vval true (cval true [.slice a n c, .int .i64 Y.fNextName] :: List.zipWith _ _ _))
    rw [hz]
    rfl
  · match q, hq, hu with
    | 0, hq, hu =>
      cases hq
      cases hu
      refine ⟨rfl, fun j t u h1 h2 => ?_⟩
      match j, h1, h2 with
      | 0, h1, h2 => cases h1; cases h2; exact ho.mono fun b hb => ⟨rfl, rfl, hb⟩
      | 1, h1, h2 => cases h1; cases h2; exact .lit rfl
    | q + 1, hq, hu =>
      rw [List.getElem?_cons_succ, List.getElem?_map] at hq hu
      obtain ⟨y, hy, h3⟩ := Option.map_eq_some_iff.1 hq
      obtain ⟨y', hy', rfl⟩ := Option.map_eq_some_iff.1 hu
      rw [hy] at hy'
      cases hy'
      cases h3
      refine ⟨rfl, fun j t u h1 h2 => ?_⟩
      match j, h1, h2 with
      | 0, h1, h2 => cases h1; cases h2; exact .lit (hv y (List.mem_of_getElem? hy))
end Go.Proofs.YtjdjceohlcimaaaGreatDoor
/- One page more, its rows in a block of their own, onto pages of the call's own; no function of program or reference is walked here. -/
namespace Go.Proofs.YtjdjceohlcimaaaGreatDoor
open Go.RowKit
set_option linter.unusedVariables false
structure PageIn (B : Nat) (wr : World) (y : Value) (ps : List (BEl rowsB)) (p : List R) (a6 : Option Addr) (m c6 : Nat) (w6 : World) : Prop where
  kept : Kept wr.heap.size wr w6
  rows : rowsB.blk w6 wr.heap.size p (a6, m, c6) (blkOf (.slice a6 m c6))
  old : Blk 29 rowsB wr B y ps
  low : B ≤ wr.heap.size
  few : ps.length + 1 ≤ 1000000000000
theorem PageIn.cells {B : Nat} {wr : World} {y : Value} {ps : List (BEl rowsB)} {p : List R} {a6 : Option Addr} {m c6 : Nat} {w6 : World} (h : PageIn B wr y ps p a6 m c6 w6) : ∀ (j : Nat) (u : Value), (rowsB.rep.cells p (a6, m, c6))[j]? = some u → (w6.alloc (.cells #[.slice a6 m c6] 29)).cell? ((⟨w6.heap.size, 0, none⟩ : Addr).add j) = some u :=
  World.news_of_block (w := (w6.alloc (.cells #[.slice a6 m c6] 29))) (cs := #[.slice a6 m c6]) (heap_alloc_new w6 _)
theorem PageIn.k7 {B : Nat} {wr : World} {y : Value} {ps : List (BEl rowsB)} {p : List R} {a6 : Option Addr} {m c6 : Nat} {w6 : World} (h : PageIn B wr y ps p a6 m c6 w6) : Kept wr.heap.size wr (w6.alloc (.cells #[.slice a6 m c6] 29)) := h.kept.alloc _
theorem PageIn.pages {B : Nat} {wr : World} {y : Value} {ps : List (BEl rowsB)} {p : List R} {a6 : Option Addr} {m c6 : Nat} {w6 : World} (h : PageIn B wr y ps p a6 m c6 w6) : Blk 29 rowsB (w6.alloc (.cells #[.slice a6 m c6] 29)) B y ps := h.old.below h.k7.1
theorem PageIn.elem {B : Nat} {wr : World} {y : Value} {ps : List (BEl rowsB)} {p : List R} {a6 : Option Addr} {m c6 : Nat} {w6 : World} (h : PageIn B wr y ps p a6 m c6 w6) : rowsB.blk (w6.alloc (.cells #[.slice a6 m c6] 29)) B p (a6, m, c6) (blkOf (.slice a6 m c6)) :=
  rowsB.blk_mono (rowsB.blk_below h.rows (show Below w6.heap.size w6 (w6.alloc (.cells #[.slice a6 m c6] 29)) from (Below.refl _ _).alloc (Nat.le_refl _) _)) h.low
theorem PageIn.apart {B : Nat} {wr : World} {y : Value} {ps : List (BEl rowsB)} {p : List R} {a6 : Option Addr} {m c6 : Nat} {w6 : World} (h : PageIn B wr y ps p a6 m c6 w6) : ∀ b ∈ blkOf (.slice a6 m c6), b ∉ blkOf y ++ gsOf ps := fun b hb hm => by
  have h1 := (rowsB.blk_lt h.rows b hb).1
  have h2 := (h.old.lt b hm).2
  omega
theorem PageIn.base {B : Nat} {wr : World} {y : Value} {ps : List (BEl rowsB)} {p : List R} {a6 : Option Addr} {m c6 : Nat} {w6 : World} (h : PageIn B wr y ps p a6 m c6 w6) : B ≤ (w6.alloc (.cells #[.slice a6 m c6] 29)).heap.size := Nat.le_trans h.low h.k7.2
theorem PageIn.next {B : Nat} {wr : World} {y : Value} {ps : List (BEl rowsB)} {p : List R} {a6 : Option Addr} {m c6 g7 c7 : Nat} {w6 w7 : World} (h : PageIn B wr y ps p a6 m c6 w6)
    (hm : Blk 29 rowsB w7 B (.slice (some ⟨g7, 0, none⟩) (ps.length + 1) c7) (ps ++ [⟨p, (a6, m, c6), blkOf (.slice a6 m c6)⟩])) (hg : (w6.alloc (.cells #[.slice a6 m c6] 29)).grownBy w7 y.ownBlock) :
    Hid (Kept B wr w7 ∧ Blk 29 rowsB w7 B (.slice (some ⟨g7, 0, none⟩) (ps.length + 1) c7) (ps ++ [⟨p, (a6, m, c6), blkOf (.slice a6 m c6)⟩])) :=
  ⟨(h.k7.mono h.low).grown hg (blk_row h.old), hm⟩
theorem page_in {B : Nat} {wr : World} {y : Value} {ps : List (BEl rowsB)} {p : List R} {m : Nat} {v6 : Value} {w6 : World} (hm : Mine w6 wr.heap.size v6 ([] ++ p)) (hg : ((wr.alloc (.cells #[] 72)).drew).grownBy w6 (Value.slice (some ⟨wr.heap.size, 0, none⟩) 0 0).ownBlock)
    (hl : p.length = m) (hwf : ∀ r ∈ p, r.wf) (old : Blk 29 rowsB wr B y ps) (low : B ≤ wr.heap.size) (few : ps.length + 1 ≤ 1000000000000) : ∃ a6 c6, v6 = .slice a6 m c6 ∧ PageIn B wr y ps p a6 m c6 w6 := by
  rw [List.nil_append] at hm
  obtain ⟨a6, c6, rfl⟩ := hm.slice
  rw [hl] at hm ⊢
  exact ⟨a6, c6, rfl, ⟨(show Kept wr.heap.size wr (wr.alloc (.cells #[] 72)).drew from (Kept.refl (Nat.le_refl _)).drew.alloc _).grown hg (fun k hk => by
    simp [Value.ownBlock] at hk; omega), seq_of_mine hm hwf, old, low, few⟩⟩
end Go.Proofs.YtjdjceohlcimaaaGreatDoor
/- The reference's l6Copy, by contract. -/
namespace Go.Proofs.YtjdjceohlcimaaaGreatDoor
open Go.RowKit
set_option linter.unusedVariables false
set_option maxRecDepth 100000 in
set_option maxHeartbeats 4000000 in
theorem scopy (a : Option Addr) (n c : Nat) (X : DiskD) (w : World) (h : diskRep.inn w X ((a, n, c), ())) (hw : wtDisk X ≤ 1000000000) :
    Calls Tryz.prog 33 #[.agg #[.slice a n c, .int .i64 X.fNextName]] w (GivesDisk X w) := by
  have hnx := (disk_in h).2.2
  obtain ⟨W, hW⟩ : ∃ W, W = ((w.alloc (.cells #[.slice a n c, .int .i64 X.fNextName] 26)).alloc (.cells #[.slice none 0 0, .int .i64 0] 26)).alloc (.cells #[.slice none 0 0, .int .i64 X.fNextName] 26) := ⟨_, rfl⟩
  obtain ⟨hz, b0, k0, k1, k2⟩ := boxes3 w W hW
  have HZ := Lib.hid hz
  have B0 := Lib.hid b0
  have K0 := Lib.hid k0
  have K1 := Lib.hid k1
  have K2 := Lib.hid k2
  have HI := Lib.hid (disk_in h).1
  have HL := Lib.hid (disk_len h).1
  have HW := Lib.hid hw
  have HNX := Lib.hid hnx
  have hnm := (disk_len h).2
  unfold maxLen at hnm
  obtain ⟨nx, hnx'⟩ : ∃ nx, nx = X.fNextName := ⟨_, rfl⟩
  rw [← hnx'] at hW K0 K2 HNX ⊢
  have HE := Lib.hid hnx'
  have c0 : W.cell? ⟨w.heap.size, 0, none⟩ = some (.slice a n c) := box_cell K0.out 0 _ rfl
  clear h hz b0 k0 k1 k2 hnx hw hnx'
  go_enter Tryz.func33, Tryz.ntmps33
  go_wp2_with fail
  rw [← hW]
  clear hW
  go_loopw [4] (fun i wr => ∃ (t : Nat) (v : Value) (es : List (BEl fileB)), i = .int .i64 t ∧ t ≤ n ∧ Hid (es.map BEl.x = X.fFiles.take t) ∧ Hid (Kept (w.heap.size + 2) W wr) ∧ Hid (wr.heap[w.heap.size + 2]? = some (.cells #[v, .int .i64 nx] 26 (0, 0))) ∧ Hid (Blk 58 fileB wr (w.heap.size + 3) v es)) (fun i _ => n - (intOf i).toNat)
  case atStart => exact ⟨0, _, [], rfl, Nat.zero_le _, (show _ = _ from rfl), Kept.refl (by have := HZ.out; omega), K2, Blk.nil _ _ _ _⟩
  case round =>
    obtain ⟨t, v, es, rfl, ht, hes, hkp, hbx, hbl⟩ := hrel
    have hz := HZ.out
    have KW : Hid (∀ v, Kept (w.heap.size + 2) W v → Kept w.heap.size w v) := Lib.hid fun v hv => ⟨B0.out.trans (hv.1.mono (by omega)), Nat.le_trans (by omega) hv.2⟩
    have KC : Hid (∀ v, Kept (w.heap.size + 2) W v → v.cell? ⟨w.heap.size, 0, none⟩ = some (.slice a n c)) := Lib.hid fun v hv => hv.cell (by omega) (box_cell K0.out 0 _ rfl)
    have c0 := KC.out _ hkp.out
    by_cases hlt : t < n
    · have htl : t < X.fFiles.length := by have := HL.out; omega
      obtain ⟨f, hf⟩ : ∃ f, X.fFiles[t]? = some f := ⟨X.fFiles[t], by simp [htl]⟩
      obtain ⟨b, o, hd, rfl, hbl', hce, hin⟩ := HI.out.el hf
      have HF := Lib.hid hf
      obtain ⟨x0, x1, x2, x3⟩ := f
      obtain ⟨⟨a1, n1, k1⟩, ⟨⟩⟩ := hd
      obtain ⟨r0, ⟨h1, hc1⟩, r2, -⟩ := hin
      have IN := Lib.hid h1
      have R0 := Lib.hid r0
      have R2 := Lib.hid r2
      have KS : Hid (∀ v, Kept (w.heap.size + 2) W v → v.cell? ⟨w.heap.size, 0, none⟩ = some (.slice (some ⟨b, o, none⟩) n c) ∧ v.cell? ⟨b, o + t * 4, none⟩ = some (.int .i64 x0) ∧ v.cell? ⟨b, o + t * 4 + 2, none⟩ = some (.int .i64 x2) ∧ v.cell? ⟨b, o + t * 4 + 3, none⟩ = some (.bool x3) ∧ Hid (Kept (w.heap.size + 2) W v)) := Lib.hid fun v hv =>
        ⟨KC.out v hv, (KW.out v hv).cell hbl' (hce 0 _ rfl), (KW.out v hv).cell hbl' (hce 2 _ rfl), (KW.out v hv).cell hbl' (hce 3 _ rfl), hv⟩
      have KP : Hid (∀ v, Kept (w.heap.size + 2) W v → v.cell? ⟨b, o + t * 4 + 1, none⟩ = some (.slice a1 n1 k1)) := Lib.hid fun v hv => (KW.out v hv).cell hbl' (hce 1 _ rfl)
      have c0' := (KS.out _ hkp.out).1
      clear h1 r0 r2 hce hf hc1 c0
      obtain ⟨w5, hw5⟩ : ∃ v, v = (wr.alloc (.cells #[.int .i64 x0, .slice none 0 0, .int .i64 x2, .bool x3] 58)).drew := ⟨_, rfl⟩
      obtain ⟨fb, hfb⟩ : ∃ g, g = wr.heap.size := ⟨_, rfl⟩
      have hfl : w.heap.size + 3 ≤ fb := by have := lt_of_block hbx.out; omega
      have b5 : Below wr.heap.size wr w5 := by rw [hw5]; exact ((Below.refl _ _).alloc (Nat.le_refl _) _).drew
      have k5 : w5.heap[fb]? = some (.cells #[.int .i64 x0, .slice none 0 0, .int .i64 x2, .bool x3] 58 (0, 0)) := by rw [hw5, hfb]; exact heap_alloc_new _ _
      have F5 := Lib.hid k5
      have KP5 := Lib.hid (hkp.out.below b5)
      have hbx5 := Lib.hid ((b5.block _ (lt_of_block hbx.out)).trans hbx.out)
      have hbl5 := Lib.hid (hbl.out.below b5)
      have hll5 : Hid (∀ g ∈ blkOf v ++ gsOf es, g < fb) := Lib.hid fun g hg => by rw [hfb]; exact (hbl.out.lt g hg).2
      have HF5 := Lib.hid (lt_of_block k5)
      have HFB := Lib.hid hfb
      clear b5 k5
      go_wp2_with fail
      refine region_plan (Kept (w.heap.size + 2) W) (Pl.of [.q 0, .q 1, .q 2, .q 3, .q 4, .q 5, .q 6, .q 7, .q 8, .q 9, .q 10, .q 11, .q 12, .q 13, .q 14, .q 15, .q 16, .q 17, .q 18, .m 19]) [20] (by kernel_rfl) (by kernel_rfl) hkp.out.drew (fun hHeld => ?_)
      first | (refine pi_take (v := ?pv1_0) rfl (fun _ _ _ h => h) (by rfl) (fun v hv => ?pr1_0) ?rest1_0; case pr1_0 => (obtain ⟨d0, d1, d2, d3, -⟩ := KS.out v hv; go_simp; first | done | with_reducible rfl)) | (refine pi_pass rfl (fun _ _ _ h => h) (by rfl) ?_)
      try simp only [Act.put, List.setIfInBounds_toArray, List.set_cons_zero, List.set_cons_succ]
      first | (refine pi_take (v := ?pv1_1) rfl (fun _ _ _ h => h) (by rfl) (fun v hv => ?pr1_1) ?rest1_1; case pr1_1 => (obtain ⟨d0, d1, d2, d3, -⟩ := KS.out v hv; go_simp; first | done | with_reducible rfl)) | (refine pi_pass rfl (fun _ _ _ h => h) (by rfl) ?_)
      try simp only [Act.put, List.setIfInBounds_toArray, List.set_cons_zero, List.set_cons_succ]
      first | (refine pi_take (v := ?pv1_2) rfl (fun _ _ _ h => h) (by rfl) (fun v hv => ?pr1_2) ?rest1_2; case pr1_2 => (obtain ⟨d0, d1, d2, d3, -⟩ := KS.out v hv; go_simp; first | done | with_reducible rfl)) | (refine pi_pass rfl (fun _ _ _ h => h) (by rfl) ?_)
      try simp only [Act.put, List.setIfInBounds_toArray, List.set_cons_zero, List.set_cons_succ]
      first | (refine pi_take (v := ?pv1_3) rfl (fun _ _ _ h => h) (by rfl) (fun v hv => ?pr1_3) ?rest1_3; case pr1_3 => (obtain ⟨d0, d1, d2, d3, -⟩ := KS.out v hv; go_simp; first | done | with_reducible rfl)) | (refine pi_pass rfl (fun _ _ _ h => h) (by rfl) ?_)
      try simp only [Act.put, List.setIfInBounds_toArray, List.set_cons_zero, List.set_cons_succ]
      first | (refine pi_take (v := ?pv1_4) rfl (fun _ _ _ h => h) (by rfl) (fun v hv => ?pr1_4) ?rest1_4; case pr1_4 => (obtain ⟨d0, d1, d2, d3, -⟩ := KS.out v hv; go_simp; first | done | with_reducible rfl)) | (refine pi_pass rfl (fun _ _ _ h => h) (by rfl) ?_)
      try simp only [Act.put, List.setIfInBounds_toArray, List.set_cons_zero, List.set_cons_succ]
      first | (refine pi_take (v := ?pv1_5) rfl (fun _ _ _ h => h) (by rfl) (fun v hv => ?pr1_5) ?rest1_5; case pr1_5 => (obtain ⟨d0, d1, d2, d3, -⟩ := KS.out v hv; go_simp; first | done | with_reducible rfl)) | (refine pi_pass rfl (fun _ _ _ h => h) (by rfl) ?_)
      try simp only [Act.put, List.setIfInBounds_toArray, List.set_cons_zero, List.set_cons_succ]
      first | (refine pi_take (v := ?pv1_6) rfl (fun _ _ _ h => h) (by rfl) (fun v hv => ?pr1_6) ?rest1_6; case pr1_6 => (obtain ⟨d0, d1, d2, d3, -⟩ := KS.out v hv; go_simp; first | done | with_reducible rfl)) | (refine pi_pass rfl (fun _ _ _ h => h) (by rfl) ?_)
      try simp only [Act.put, List.setIfInBounds_toArray, List.set_cons_zero, List.set_cons_succ]
      first | (refine pi_take (v := ?pv1_7) rfl (fun _ _ _ h => h) (by rfl) (fun v hv => ?pr1_7) ?rest1_7; case pr1_7 => (obtain ⟨d0, d1, d2, d3, -⟩ := KS.out v hv; go_simp; first | done | with_reducible rfl)) | (refine pi_pass rfl (fun _ _ _ h => h) (by rfl) ?_)
      try simp only [Act.put, List.setIfInBounds_toArray, List.set_cons_zero, List.set_cons_succ]
      first | (refine pi_take (v := ?pv1_8) rfl (fun _ _ _ h => h) (by rfl) (fun v hv => ?pr1_8) ?rest1_8; case pr1_8 => (obtain ⟨d0, d1, d2, d3, -⟩ := KS.out v hv; go_simp; first | done | with_reducible rfl)) | (refine pi_pass rfl (fun _ _ _ h => h) (by rfl) ?_)
      try simp only [Act.put, List.setIfInBounds_toArray, List.set_cons_zero, List.set_cons_succ]
      first | (refine pi_take (v := ?pv1_9) rfl (fun _ _ _ h => h) (by rfl) (fun v hv => ?pr1_9) ?rest1_9; case pr1_9 => (obtain ⟨d0, d1, d2, d3, -⟩ := KS.out v hv; go_simp; first | done | with_reducible rfl)) | (refine pi_pass rfl (fun _ _ _ h => h) (by rfl) ?_)
      try simp only [Act.put, List.setIfInBounds_toArray, List.set_cons_zero, List.set_cons_succ]
      first | (refine pi_take (v := ?pv1_10) rfl (fun _ _ _ h => h) (by rfl) (fun v hv => ?pr1_10) ?rest1_10; case pr1_10 => (obtain ⟨d0, d1, d2, d3, -⟩ := KS.out v hv; go_simp; first | done | with_reducible rfl)) | (refine pi_pass rfl (fun _ _ _ h => h) (by rfl) ?_)
      try simp only [Act.put, List.setIfInBounds_toArray, List.set_cons_zero, List.set_cons_succ]
      first | (refine pi_take (v := ?pv1_11) rfl (fun _ _ _ h => h) (by rfl) (fun v hv => ?pr1_11) ?rest1_11; case pr1_11 => (obtain ⟨d0, d1, d2, d3, -⟩ := KS.out v hv; go_simp; first | done | with_reducible rfl)) | (refine pi_pass rfl (fun _ _ _ h => h) (by rfl) ?_)
      try simp only [Act.put, List.setIfInBounds_toArray, List.set_cons_zero, List.set_cons_succ]
      first | (refine pi_take (v := ?pv1_12) rfl (fun _ _ _ h => h) (by rfl) (fun v hv => ?pr1_12) ?rest1_12; case pr1_12 => (obtain ⟨d0, d1, d2, d3, -⟩ := KS.out v hv; go_simp; first | done | with_reducible rfl)) | (refine pi_pass rfl (fun _ _ _ h => h) (by rfl) ?_)
      try simp only [Act.put, List.setIfInBounds_toArray, List.set_cons_zero, List.set_cons_succ]
      first | (refine pi_take (v := ?pv1_13) rfl (fun _ _ _ h => h) (by rfl) (fun v hv => ?pr1_13) ?rest1_13; case pr1_13 => (obtain ⟨d0, d1, d2, d3, -⟩ := KS.out v hv; go_simp; first | done | with_reducible rfl)) | (refine pi_pass rfl (fun _ _ _ h => h) (by rfl) ?_)
      try simp only [Act.put, List.setIfInBounds_toArray, List.set_cons_zero, List.set_cons_succ]
      first | (refine pi_take (v := ?pv1_14) rfl (fun _ _ _ h => h) (by rfl) (fun v hv => ?pr1_14) ?rest1_14; case pr1_14 => (obtain ⟨d0, d1, d2, d3, -⟩ := KS.out v hv; go_simp; first | done | with_reducible rfl)) | (refine pi_pass rfl (fun _ _ _ h => h) (by rfl) ?_)
      try simp only [Act.put, List.setIfInBounds_toArray, List.set_cons_zero, List.set_cons_succ]
      first | (refine pi_take (v := ?pv1_15) rfl (fun _ _ _ h => h) (by rfl) (fun v hv => ?pr1_15) ?rest1_15; case pr1_15 => (obtain ⟨d0, d1, d2, d3, -⟩ := KS.out v hv; go_simp; first | done | with_reducible rfl)) | (refine pi_pass rfl (fun _ _ _ h => h) (by rfl) ?_)
      try simp only [Act.put, List.setIfInBounds_toArray, List.set_cons_zero, List.set_cons_succ]
      first | (refine pi_take (v := ?pv1_16) rfl (fun _ _ _ h => h) (by rfl) (fun v hv => ?pr1_16) ?rest1_16; case pr1_16 => (obtain ⟨d0, d1, d2, d3, -⟩ := KS.out v hv; go_simp; first | done | with_reducible rfl)) | (refine pi_pass rfl (fun _ _ _ h => h) (by rfl) ?_)
      try simp only [Act.put, List.setIfInBounds_toArray, List.set_cons_zero, List.set_cons_succ]
      first | (refine pi_take (v := ?pv1_17) rfl (fun _ _ _ h => h) (by rfl) (fun v hv => ?pr1_17) ?rest1_17; case pr1_17 => (obtain ⟨d0, d1, d2, d3, -⟩ := KS.out v hv; go_simp; first | done | with_reducible rfl)) | (refine pi_pass rfl (fun _ _ _ h => h) (by rfl) ?_)
      try simp only [Act.put, List.setIfInBounds_toArray, List.set_cons_zero, List.set_cons_succ]
      first | (refine pi_take (v := ?pv1_18) rfl (fun _ _ _ h => h) (by rfl) (fun v hv => ?pr1_18) ?rest1_18; case pr1_18 => (obtain ⟨d0, d1, d2, d3, -⟩ := KS.out v hv; go_simp; first | done | with_reducible rfl)) | (refine pi_pass rfl (fun _ _ _ h => h) (by rfl) ?_)
      try simp only [Act.put, List.setIfInBounds_toArray, List.set_cons_zero, List.set_cons_succ]
      refine pi_step rfl (fun K hK => ?_)
      go_simp
      refine hK.out _ _ (by exact hHeld.alloc _) (fun hHeld2 => ?_)
      clear hK K hHeld
      have hHeld := hHeld2
      clear hHeld2
      try simp only [Act.put, List.setIfInBounds_toArray, List.set_cons_zero, List.set_cons_succ]
      refine pi_end ?_
      refine z_step rfl (fun K hK => ?_)
      go_simp
      refine hK.out _ _ ?_
      clear hK K
      try simp only [Act.put, List.setIfInBounds_toArray, List.set_cons_zero, List.set_cons_succ]
      refine z_end ?_
      clear hHeld
      rw [← hfb, ← hw5]
      clear hw5 hfb
      clear c0'
      have c1 := (KS.out _ KP5.out).1
      have c2 := KP.out _ KP5.out
      go_wp2_with fail
      clear c1 c2
      go_loopw [6] (fun i wr => ∃ (k : Nat) (y : Value) (ps : List (BEl rowsB)), i = .int .i64 k ∧ k ≤ n1 ∧ Hid (ps.map BEl.x = x1.take k) ∧ Hid (Kept fb w5 wr) ∧ Hid (wr.heap[fb]? = some (.cells #[.int .i64 x0, y, .int .i64 x2, .bool x3] 58 (0, 0))) ∧ Hid (Blk 29 rowsB wr (fb + 1) y ps)) (fun i _ => n1 - (intOf i).toNat)
      case atStart => exact ⟨0, _, [], rfl, Nat.zero_le _, (show _ = _ from rfl), Kept.refl (Nat.le_of_lt HF5.out), F5, Blk.nil _ _ _ _⟩
      case round =>
        obtain ⟨k, y, ps, rfl, hk, hps, hkq, hfx, hpl⟩ := hrel
        have KW2 : Hid (∀ v, Kept fb w5 v → Kept (w.heap.size + 2) W v) := Lib.hid fun v hv => KP5.out.trans (hv.mono (by omega))
        have c1 := (KS.out _ (KW2.out _ hkq.out)).1
        have c2 := KP.out _ (KW2.out _ hkq.out)
        by_cases hklt : k < n1
        · have hkl : k < x1.length := by have := IN.out.1; omega
          obtain ⟨p, hp⟩ : ∃ p, x1[k]? = some p := ⟨x1[k], by simp [hkl]⟩
          obtain ⟨b1, o1, d, m, q, rfl, hb1, hcp, hpin, hdq⟩ := IN.out.at hp
          have HP := Lib.hid hp
          have PIN := Lib.hid hpin
          have hml : m ≤ 1000000000 := by
            have h1 := wt_file_at X.fFiles t htl
            have h2 := HW.out
            have h3 : X.fFiles[t] = ⟨x0, x1, x2, x3⟩ := by have := HF.out; rw [List.getElem?_eq_getElem htl] at this; exact Option.some.inj this
            rw [h3] at h1
            have h4 := wt_page_at x1 k hkl
            have h5 : x1[k] = p := by rw [List.getElem?_eq_getElem hkl] at hp; exact Option.some.inj hp
            rw [h5] at h4
            have h6 : wtPage p = p.length := rfl
            have h7 : wtFile ⟨x0, x1, x2, x3⟩ = wtPages x1 := rfl
            have h8 : wtDisk X = wtFiles X.fFiles := rfl
            have h9 := hpin.1
            omega
          have hpsl : ps.length = k := by
            have := congrArg List.length hps.out
            rw [List.length_map, List.length_take] at this
            omega
          have hn1 : n1 ≤ 1000000000 := by
            have h1 := wt_file_at X.fFiles t htl
            have h2 := HW.out
            have h3 : X.fFiles[t] = ⟨x0, x1, x2, x3⟩ := by have := HF.out; rw [List.getElem?_eq_getElem htl] at this; exact Option.some.inj this
            rw [h3] at h1
            have h4 := wt_page_len x1
            have h7 : wtFile ⟨x0, x1, x2, x3⟩ = wtPages x1 := rfl
            have h8 : wtDisk X = wtFiles X.fFiles := rfl
            have h9 := IN.out.1
            omega
          have hfl2 : fb + 1 ≤ wr.heap.size := by have := lt_of_block hfx.out; omega
          have hfw : fb ≤ wr.heap.size := by omega
          have KS2 : Hid (∀ v, Kept (fb + 1) wr v → v.cell? ⟨fb, 1, none⟩ = some y ∧ v.cell? ⟨w.heap.size, 0, none⟩ = some (.slice (some ⟨b, o, none⟩) n c) ∧ v.cell? ⟨b, o + t * 4 + 1, none⟩ = some (.slice (some ⟨b1, o1, none⟩) n1 k1) ∧ v.cell? ⟨b1, o1 + k, none⟩ = some (.slice d m q)) := Lib.hid fun v hv =>
            have hv' := KW2.out v (hkq.out.trans (hv.mono (Nat.le_succ _)))
            ⟨hv.cell (Nat.lt_succ_self _) (box_cell hfx.out 1 _ rfl), (KS.out v hv').1, KP.out v hv', (KW.out v hv').cell hb1 hcp⟩
          have hz2 := (Below.refl wr.heap.size wr).alloc (Nat.le_refl _) (.cells #[] 72)
          have MZ := Lib.hid (mine_zero wr wr.heap.size (Nat.le_refl _))
          have KZ := Lib.hid (show Kept wr.heap.size wr (wr.alloc (.cells #[] 72)).drew from (Kept.refl (Nat.le_refl _)).drew.alloc _)
          have RZ : Hid (IsRows (wr.alloc (.cells #[] 72)).drew d m p) := Lib.hid ((rows_in PIN.out).keep (KW.out _ (KW2.out _ (hkq.out.trans (KZ.out.mono hfw)))).1)
          have HBZ : Hid (wr.heap.size ≤ (wr.alloc (.cells #[] 72)).drew.heap.size) := Lib.hid KZ.out.1.size
          have HMZ : Hid (([] : List R).length + m ≤ 1000000000000) := Lib.hid (by simp; omega)
          have HWF := Lib.hid (rows_in hpin).2.1
          have HPE : Hid (p.length = m) := Lib.hid hpin.1
          have HFEW : Hid (ps.length + 1 ≤ 1000000000000) := Lib.hid (by omega)
          have HD := Lib.hid hdq
          have c3 := (KS2.out _ (Kept.refl hfl2)).2.2.2
          clear hp hcp hpin hdq
          go_wp2_with fail
          clear c1 c2 c3
          refine region_plan (Kept (fb + 1) wr) (Pl.of [.q 0, .q 1, .q 3, .q 4, .q 5, .q 6, .q 7, .q 8, .q 9, .q 10, .q 11, .q 12, .m 2, .m 13, .q 14, .m 15, .m 16, .q 17]) [18] (by kernel_rfl) (by kernel_rfl) (Kept.refl hfl2).drew (fun hHeld => ?_)
          first | (refine pi_take (v := ?pv2_0) rfl (fun _ _ _ h => h) (by rfl) (fun v hv => ?pr2_0) ?rest2_0; case pr2_0 => (obtain ⟨d0, d1, d2, d3⟩ := KS2.out v hv; go_simp; first | done | with_reducible rfl)) | (refine pi_pass rfl (fun _ _ _ h => h) (by rfl) ?_)
          try simp only [Act.put, List.setIfInBounds_toArray, List.set_cons_zero, List.set_cons_succ]
          first | (refine pi_take (v := ?pv2_1) rfl (fun _ _ _ h => h) (by rfl) (fun v hv => ?pr2_1) ?rest2_1; case pr2_1 => (obtain ⟨d0, d1, d2, d3⟩ := KS2.out v hv; go_simp; first | done | with_reducible rfl)) | (refine pi_pass rfl (fun _ _ _ h => h) (by rfl) ?_)
          try simp only [Act.put, List.setIfInBounds_toArray, List.set_cons_zero, List.set_cons_succ]
          first | (refine pi_take (v := ?pv2_3) rfl (fun _ _ _ h => h) (by rfl) (fun v hv => ?pr2_3) ?rest2_3; case pr2_3 => (obtain ⟨d0, d1, d2, d3⟩ := KS2.out v hv; go_simp; first | done | with_reducible rfl)) | (refine pi_pass rfl (fun _ _ _ h => h) (by rfl) ?_)
          try simp only [Act.put, List.setIfInBounds_toArray, List.set_cons_zero, List.set_cons_succ]
          first | (refine pi_take (v := ?pv2_4) rfl (fun _ _ _ h => h) (by rfl) (fun v hv => ?pr2_4) ?rest2_4; case pr2_4 => (obtain ⟨d0, d1, d2, d3⟩ := KS2.out v hv; go_simp; first | done | with_reducible rfl)) | (refine pi_pass rfl (fun _ _ _ h => h) (by rfl) ?_)
          try simp only [Act.put, List.setIfInBounds_toArray, List.set_cons_zero, List.set_cons_succ]
          first | (refine pi_take (v := ?pv2_5) rfl (fun _ _ _ h => h) (by rfl) (fun v hv => ?pr2_5) ?rest2_5; case pr2_5 => (obtain ⟨d0, d1, d2, d3⟩ := KS2.out v hv; go_simp; first | done | with_reducible rfl)) | (refine pi_pass rfl (fun _ _ _ h => h) (by rfl) ?_)
          try simp only [Act.put, List.setIfInBounds_toArray, List.set_cons_zero, List.set_cons_succ]
          first | (refine pi_take (v := ?pv2_6) rfl (fun _ _ _ h => h) (by rfl) (fun v hv => ?pr2_6) ?rest2_6; case pr2_6 => (obtain ⟨d0, d1, d2, d3⟩ := KS2.out v hv; go_simp; first | done | with_reducible rfl)) | (refine pi_pass rfl (fun _ _ _ h => h) (by rfl) ?_)
          try simp only [Act.put, List.setIfInBounds_toArray, List.set_cons_zero, List.set_cons_succ]
          first | (refine pi_take (v := ?pv2_7) rfl (fun _ _ _ h => h) (by rfl) (fun v hv => ?pr2_7) ?rest2_7; case pr2_7 => (obtain ⟨d0, d1, d2, d3⟩ := KS2.out v hv; go_simp; first | done | with_reducible rfl)) | (refine pi_pass rfl (fun _ _ _ h => h) (by rfl) ?_)
          try simp only [Act.put, List.setIfInBounds_toArray, List.set_cons_zero, List.set_cons_succ]
          first | (refine pi_take (v := ?pv2_8) rfl (fun _ _ _ h => h) (by rfl) (fun v hv => ?pr2_8) ?rest2_8; case pr2_8 => (obtain ⟨d0, d1, d2, d3⟩ := KS2.out v hv; go_simp; first | done | with_reducible rfl)) | (refine pi_pass rfl (fun _ _ _ h => h) (by rfl) ?_)
          try simp only [Act.put, List.setIfInBounds_toArray, List.set_cons_zero, List.set_cons_succ]
          first | (refine pi_take (v := ?pv2_9) rfl (fun _ _ _ h => h) (by rfl) (fun v hv => ?pr2_9) ?rest2_9; case pr2_9 => (obtain ⟨d0, d1, d2, d3⟩ := KS2.out v hv; go_simp; first | done | with_reducible rfl)) | (refine pi_pass rfl (fun _ _ _ h => h) (by rfl) ?_)
          try simp only [Act.put, List.setIfInBounds_toArray, List.set_cons_zero, List.set_cons_succ]
          first | (refine pi_take (v := ?pv2_10) rfl (fun _ _ _ h => h) (by rfl) (fun v hv => ?pr2_10) ?rest2_10; case pr2_10 => (obtain ⟨d0, d1, d2, d3⟩ := KS2.out v hv; go_simp; first | done | with_reducible rfl)) | (refine pi_pass rfl (fun _ _ _ h => h) (by rfl) ?_)
          try simp only [Act.put, List.setIfInBounds_toArray, List.set_cons_zero, List.set_cons_succ]
          first | (refine pi_take (v := ?pv2_11) rfl (fun _ _ _ h => h) (by rfl) (fun v hv => ?pr2_11) ?rest2_11; case pr2_11 => (obtain ⟨d0, d1, d2, d3⟩ := KS2.out v hv; go_simp; first | done | with_reducible rfl)) | (refine pi_pass rfl (fun _ _ _ h => h) (by rfl) ?_)
          try simp only [Act.put, List.setIfInBounds_toArray, List.set_cons_zero, List.set_cons_succ]
          first | (refine pi_take (v := ?pv2_12) rfl (fun _ _ _ h => h) (by rfl) (fun v hv => ?pr2_12) ?rest2_12; case pr2_12 => (obtain ⟨d0, d1, d2, d3⟩ := KS2.out v hv; go_simp; first | done | with_reducible rfl)) | (refine pi_pass rfl (fun _ _ _ h => h) (by rfl) ?_)
          try simp only [Act.put, List.setIfInBounds_toArray, List.set_cons_zero, List.set_cons_succ]
          refine pi_step rfl (fun K hK => ?_)
          go_simp
          refine hK.out _ _ (by first | exact hS7.out.1 | exact hS6.out.kept.mono hfl2 | exact hHeld.alloc _) (fun hHeld2 => ?_)
          clear hK K hHeld
          have hHeld := hHeld2
          clear hHeld2
          try simp only [Act.put, List.setIfInBounds_toArray, List.set_cons_zero, List.set_cons_succ]
          refine pi_step rfl (fun K hK => ?_)
          first | (first | (refine step_appendRows (M := []) (L := p) (w := (wr.alloc (.cells #[] 72)).drew) (.tmp 49) (.tmp 59) d m q (by rfl) (by rfl) (by rfl) (by rfl) MZ.out.drew RZ.out HD.out HBZ.out HMZ.out ?_; intro v6 w6 hm6 hg6; obtain ⟨a6, c6, rfl, hP6⟩ := page_in (B := fb + 1) hm6 hg6 HPE.out HWF.out hpl.out hfl2 HFEW.out; have hS6 := Lib.hid hP6; clear hm6 hg6 hP6) | (refine step_pushE pageE (w := w6.alloc (.cells #[.slice a6 m c6] 29)) (es := ps) (v := y) ⟨p, (a6, m, c6), blkOf (.slice a6 m c6)⟩ (.tmp 48) (.tmp 62) ⟨w6.heap.size, 0, none⟩ (by rfl) (by rfl) (by rfl) (by rfl) hS6.out.cells hS6.out.pages hS6.out.elem hS6.out.apart hS6.out.base hS6.out.few ?_; intro g7 c7 w7 hm7 hg7 hat7; have hS7 := hS6.out.next hm7 hg7; have cy7 := (KS2.out _ hS7.out.1).1; have fz7 : w7.frozen? ⟨fb, 1, none⟩ = false := hS7.out.1.frozen (Nat.lt_succ_self _) (by simp [World.frozen?, hfx.out]); clear hm7 hg7 hat7)) | (go_simp; first | (refine step_appendRows (M := []) (L := p) (w := (wr.alloc (.cells #[] 72)).drew) (.tmp 49) (.tmp 59) d m q (by rfl) (by rfl) (by rfl) (by rfl) MZ.out.drew RZ.out HD.out HBZ.out HMZ.out ?_; intro v6 w6 hm6 hg6; obtain ⟨a6, c6, rfl, hP6⟩ := page_in (B := fb + 1) hm6 hg6 HPE.out HWF.out hpl.out hfl2 HFEW.out; have hS6 := Lib.hid hP6; clear hm6 hg6 hP6) | (refine step_pushE pageE (w := w6.alloc (.cells #[.slice a6 m c6] 29)) (es := ps) (v := y) ⟨p, (a6, m, c6), blkOf (.slice a6 m c6)⟩ (.tmp 48) (.tmp 62) ⟨w6.heap.size, 0, none⟩ (by rfl) (by rfl) (by rfl) (by rfl) hS6.out.cells hS6.out.pages hS6.out.elem hS6.out.apart hS6.out.base hS6.out.few ?_; intro g7 c7 w7 hm7 hg7 hat7; have hS7 := hS6.out.next hm7 hg7; have cy7 := (KS2.out _ hS7.out.1).1; have fz7 : w7.frozen? ⟨fb, 1, none⟩ = false := hS7.out.1.frozen (Nat.lt_succ_self _) (by simp [World.frozen?, hfx.out]); clear hm7 hg7 hat7))
          refine hK.out _ _ (by first | exact hS7.out.1 | exact hS6.out.kept.mono hfl2 | exact hHeld.alloc _) (fun hHeld2 => ?_)
          clear hK K hHeld
          have hHeld := hHeld2
          clear hHeld2
          try simp only [Act.put, List.setIfInBounds_toArray, List.set_cons_zero, List.set_cons_succ]
          first | (refine pi_take (v := ?pv2_14) rfl (fun _ _ _ h => h) (by rfl) (fun v hv => ?pr2_14) ?rest2_14; case pr2_14 => (obtain ⟨d0, d1, d2, d3⟩ := KS2.out v hv; go_simp; first | done | with_reducible rfl)) | (refine pi_pass rfl (fun _ _ _ h => h) (by rfl) ?_)
          try simp only [Act.put, List.setIfInBounds_toArray, List.set_cons_zero, List.set_cons_succ]
          refine pi_step rfl (fun K hK => ?_)
          go_simp
          refine hK.out _ _ (by first | exact hS7.out.1 | exact hS6.out.kept.mono hfl2 | exact hHeld.alloc _) (fun hHeld2 => ?_)
          clear hK K hHeld
          have hHeld := hHeld2
          clear hHeld2
          try simp only [Act.put, List.setIfInBounds_toArray, List.set_cons_zero, List.set_cons_succ]
          refine pi_step rfl (fun K hK => ?_)
          first | (first | (refine step_appendRows (M := []) (L := p) (w := (wr.alloc (.cells #[] 72)).drew) (.tmp 49) (.tmp 59) d m q (by rfl) (by rfl) (by rfl) (by rfl) MZ.out.drew RZ.out HD.out HBZ.out HMZ.out ?_; intro v6 w6 hm6 hg6; obtain ⟨a6, c6, rfl, hP6⟩ := page_in (B := fb + 1) hm6 hg6 HPE.out HWF.out hpl.out hfl2 HFEW.out; have hS6 := Lib.hid hP6; clear hm6 hg6 hP6) | (refine step_pushE pageE (w := w6.alloc (.cells #[.slice a6 m c6] 29)) (es := ps) (v := y) ⟨p, (a6, m, c6), blkOf (.slice a6 m c6)⟩ (.tmp 48) (.tmp 62) ⟨w6.heap.size, 0, none⟩ (by rfl) (by rfl) (by rfl) (by rfl) hS6.out.cells hS6.out.pages hS6.out.elem hS6.out.apart hS6.out.base hS6.out.few ?_; intro g7 c7 w7 hm7 hg7 hat7; have hS7 := hS6.out.next hm7 hg7; have cy7 := (KS2.out _ hS7.out.1).1; have fz7 : w7.frozen? ⟨fb, 1, none⟩ = false := hS7.out.1.frozen (Nat.lt_succ_self _) (by simp [World.frozen?, hfx.out]); clear hm7 hg7 hat7)) | (go_simp; first | (refine step_appendRows (M := []) (L := p) (w := (wr.alloc (.cells #[] 72)).drew) (.tmp 49) (.tmp 59) d m q (by rfl) (by rfl) (by rfl) (by rfl) MZ.out.drew RZ.out HD.out HBZ.out HMZ.out ?_; intro v6 w6 hm6 hg6; obtain ⟨a6, c6, rfl, hP6⟩ := page_in (B := fb + 1) hm6 hg6 HPE.out HWF.out hpl.out hfl2 HFEW.out; have hS6 := Lib.hid hP6; clear hm6 hg6 hP6) | (refine step_pushE pageE (w := w6.alloc (.cells #[.slice a6 m c6] 29)) (es := ps) (v := y) ⟨p, (a6, m, c6), blkOf (.slice a6 m c6)⟩ (.tmp 48) (.tmp 62) ⟨w6.heap.size, 0, none⟩ (by rfl) (by rfl) (by rfl) (by rfl) hS6.out.cells hS6.out.pages hS6.out.elem hS6.out.apart hS6.out.base hS6.out.few ?_; intro g7 c7 w7 hm7 hg7 hat7; have hS7 := hS6.out.next hm7 hg7; have cy7 := (KS2.out _ hS7.out.1).1; have fz7 : w7.frozen? ⟨fb, 1, none⟩ = false := hS7.out.1.frozen (Nat.lt_succ_self _) (by simp [World.frozen?, hfx.out]); clear hm7 hg7 hat7))
          refine hK.out _ _ (by first | exact hS7.out.1 | exact hS6.out.kept.mono hfl2 | exact hHeld.alloc _) (fun hHeld2 => ?_)
          clear hK K hHeld
          have hHeld := hHeld2
          clear hHeld2
          try simp only [Act.put, List.setIfInBounds_toArray, List.set_cons_zero, List.set_cons_succ]
          first | (refine pi_take (v := ?pv2_17) rfl (fun _ _ _ h => h) (by rfl) (fun v hv => ?pr2_17) ?rest2_17; case pr2_17 => (obtain ⟨d0, d1, d2, d3⟩ := KS2.out v hv; go_simp; first | done | with_reducible rfl)) | (refine pi_pass rfl (fun _ _ _ h => h) (by rfl) ?_)
          try simp only [Act.put, List.setIfInBounds_toArray, List.set_cons_zero, List.set_cons_succ]
          refine pi_end ?_
          refine z_step rfl (fun K hK => ?_)
          go_simp
          refine hK.out _ _ ?_
          clear hK K
          try simp only [Act.put, List.setIfInBounds_toArray, List.set_cons_zero, List.set_cons_succ]
          refine z_end ?_
          clear hHeld
          have HS7 := hS7
          obtain ⟨k7, bl7⟩ := hS7.out
          have hb7 : w7.heap[fb]? = some (.cells #[.int .i64 x0, y, .int .i64 x2, .bool x3] 58 (0, 0)) := k7.heap (Nat.lt_succ_self _) hfx.out
          have R1 := Lib.hid (map_next (e := (⟨p, (a6, m, c6), blkOf (.slice a6 m c6)⟩ : BEl rowsB)) hps.out HP.out rfl)
          have R2 : Hid (Kept fb w5 (w7.setCell ⟨fb, 1, none⟩ (.slice (some ⟨g7, 0, none⟩) (ps.length + 1) c7))) := Lib.hid (hkq.out.trans ((k7.mono (Nat.le_succ _)).set (Nat.le_refl _) _))
          have R3 : Hid ((w7.setCell ⟨fb, 1, none⟩ (.slice (some ⟨g7, 0, none⟩) (ps.length + 1) c7)).heap[fb]? = some (.cells #[.int .i64 x0, .slice (some ⟨g7, 0, none⟩) (ps.length + 1) c7, .int .i64 x2, .bool x3] 58 (0, 0))) := Lib.hid (blk_put hb7 rfl)
          have R4 : Hid (Blk 29 rowsB (w7.setCell ⟨fb, 1, none⟩ (.slice (some ⟨g7, 0, none⟩) (ps.length + 1) c7)) (fb + 1) (.slice (some ⟨g7, 0, none⟩) (ps.length + 1) c7) (ps ++ [⟨p, (a6, m, c6), blkOf (.slice a6 m c6)⟩])) := Lib.hid (bl7.put _ fun b hb => by have := (bl7.lt b hb).1; omega)
          rw [hpsl] at R2 R3 R4
          clear k7 bl7 hb7 hS7 cy7 fz7
          go_wp2_with fail
          go_roundw
          case rel => exact ⟨k + 1, _, _, by go_num, by omega, R1, R2, R3, R4⟩
          case measure => simp [intOf]; omega
        · have hkn : k = n1 := by omega
          have hx1 : ps.map BEl.x = x1 := by
            have := hps.out
            rw [hkn, List.take_of_length_le (by have := IN.out.1; omega)] at this
            exact this
          have kx := KP5.out.trans (hkq.out.mono (by omega))
          have hbxw : wr.heap[w.heap.size + 2]? = some (.cells #[v, .int .i64 nx] 26 (0, 0)) := hkq.out.heap (by omega) hbx5.out
          obtain ⟨a7, c7, rfl, -⟩ := hpl.out.slice
          have FB := Lib.hid (file_blk (x3 := x3) hpl.out R0.out R2.out)
          rw [hx1] at FB
          have BV := Lib.hid (hbl5.out.kept hkq.out hll5.out)
          have hfl2 : fb < wr.heap.size := lt_of_block hfx.out
          have hes1 : es.length = t := by
            have := congrArg List.length hes.out
            rw [List.length_map, List.length_take] at this
            omega
          have hnl : n ≤ 1000000000 := by
            have h2 := HW.out
            have h4 := wt_file_len X.fFiles
            have h8 : wtDisk X = wtFiles X.fFiles := rfl
            have h9 := HL.out
            omega
          obtain ⟨N, hN⟩ : ∃ N, N = wr.heap.size := ⟨_, rfl⟩
          obtain ⟨w8, hw8⟩ : ∃ u, u = wr.alloc (.cells #[.int .i64 x0, .slice a7 ps.length c7, .int .i64 x2, .bool x3] 58) := ⟨_, rfl⟩
          have b8 : Below wr.heap.size wr w8 := by rw [hw8]; exact (Below.refl _ _).alloc (Nat.le_refl _) _
          have n8 : w8.heap[N]? = some (.cells #[.int .i64 x0, .slice a7 ps.length c7, .int .i64 x2, .bool x3] 58 (0, 0)) := by rw [hw8, hN]; exact heap_alloc_new _ _
          have N8 := Lib.hid n8
          have BV8 := Lib.hid (BV.out.below b8)
          have FB8 := Lib.hid (fileB.blk_mono (B' := w.heap.size + 3) (fileB.blk_below FB.out b8) (by omega))
          have FD8 : Hid (∀ b ∈ blkOf (.slice a7 ps.length c7) ++ gsOf ps, b ∉ blkOf v ++ gsOf es) := Lib.hid fun b hb hm => by
            have h1 := (hpl.out.lt b hb).1
            have h2 := hll5.out b hm
            omega
          have K8 := Lib.hid (kx.below b8)
          have hbx8 := Lib.hid ((b8.block _ (lt_of_block hbxw)).trans hbxw)
          have S8 : Hid (w.heap.size + 3 ≤ w8.heap.size) := Lib.hid (by have := b8.size; omega)
          have c1 := (KS.out _ kx).1
          have c2 := KP.out _ kx
          have e0 : wr.cell? ⟨w.heap.size + 2, 0, none⟩ = some v := box_cell hbxw 0 _ rfl
          have f0 := box_cell hfx.out 0 _ rfl
          have f1 := box_cell hfx.out 1 _ rfl
          have f2 := box_cell hfx.out 2 _ rfl
          have f3 := box_cell hfx.out 3 _ rfl
          clear b8 n8 hbxw kx
          rw [hN] at N8
          have LE8 : Hid (es.length + 1 ≤ 1000000000000) := Lib.hid (by omega)
          go_wp2_with (at_builtin; rw [← hw8]; refine wpList_pushE fileE (w := w8) (es := es) (v := v) ⟨⟨x0, x1, x2, x3⟩, ((a7, ps.length, c7), ()), blkOf (.slice a7 ps.length c7) ++ gsOf ps⟩ (.tmp 66) (.tmp 68) wr.heap.size rfl rfl rfl rfl N8.out rfl BV8.out FB8.out FD8.out S8.out LE8.out ?_; intro g9 c9 w9 hm9 hg9 hat9; have hb9 := (hg9.block _ (lt_of_block hbx8.out) (fun e => by have := blk_row BV8.out _ e.symm; omega)).trans hbx8.out; have cx9 : w9.cell? ⟨w.heap.size + 1 + 1, 0, none⟩ = some v := box_cell hb9 0 _ rfl; have fz9 : w9.frozen? ⟨w.heap.size + 1 + 1, 0, none⟩ = false := (by simp [World.frozen?, hb9]); have K9 := Lib.hid (K8.out.grown hg9 fun k hk => Nat.le_trans (by omega) (blk_row BV8.out k hk)); have M9 := Lib.hid hm9; have HB9 := Lib.hid hb9; clear hm9 hg9 hat9 hb9)
          have HES := Lib.hid (map_next (e := (⟨⟨x0, x1, x2, x3⟩, ((a7, ps.length, c7), ()), blkOf (.slice a7 ps.length c7) ++ gsOf ps⟩ : BEl fileB)) hes.out HF.out rfl)
          have K10 : Hid (Kept (w.heap.size + 2) W (w9.setCell ⟨w.heap.size + 2, 0, none⟩ (.slice (some ⟨g9, 0, none⟩) (es.length + 1) c9))) := Lib.hid (K9.out.set (Nat.le_refl _) _)
          have HB10 : Hid ((w9.setCell ⟨w.heap.size + 2, 0, none⟩ (.slice (some ⟨g9, 0, none⟩) (es.length + 1) c9)).heap[w.heap.size + 2]? = some (.cells #[.slice (some ⟨g9, 0, none⟩) (es.length + 1) c9, .int .i64 nx] 26 (0, 0))) := Lib.hid (blk_put HB9.out rfl)
          have M10 : Hid (Blk 58 fileB (w9.setCell ⟨w.heap.size + 2, 0, none⟩ (.slice (some ⟨g9, 0, none⟩) (es.length + 1) c9)) (w.heap.size + 3) (.slice (some ⟨g9, 0, none⟩) (es.length + 1) c9) (es ++ [⟨⟨x0, x1, x2, x3⟩, ((a7, ps.length, c7), ()), blkOf (.slice a7 ps.length c7) ++ gsOf ps⟩])) := Lib.hid (M9.out.put _ fun b hb => by have := (M9.out.lt b hb).1; omega)
          rw [hes1] at K10 HB10 M10
          go_roundw
          case rel => exact ⟨t + 1, _, _, by go_num, by omega, HES, K10, HB10, M10⟩
          case measure => simp [intOf]; omega
    · have hkl : t = n := by omega
      have hx1 : es.map BEl.x = X.fFiles := by
        have := hes.out
        rw [hkl, List.take_of_length_le (by have := HL.out; omega)] at this
        exact this
      have HX1 := Lib.hid hx1
      obtain ⟨a9, c9, rfl, -⟩ := hbl.out.slice
      have e0 : wr.cell? ⟨w.heap.size + 2, 0, none⟩ = some (.slice a9 es.length c9) := box_cell hbx.out 0 _ rfl
      have e1 : wr.cell? ⟨w.heap.size + 2, 1, none⟩ = some (.int .i64 nx) := box_cell hbx.out 1 _ rfl
      have hr := hkp.out.heap (b := w.heap.size + 1) (by omega) K1.out
      have r0 := box_cell hr 0 _ rfl
      have r1 := box_cell hr 1 _ rfl
      have r2 : ∀ j, wr.frozen? ⟨w.heap.size + 1, j, none⟩ = false := fun j => by simp [World.frozen?, hr]
      clear hx1 hr
      have BF := Lib.hid fun (u : World) (hu : SameBlk (blkOf (.slice a9 es.length c9) ++ gsOf es) wr u) => (show diskB.blk u w.heap.size X ((a9, es.length, c9), ()) (blkOf (.slice a9 es.length c9) ++ gsOf es) from by
        have h1 := disk_blk ((hbl.out.keep hu).mono (B' := w.heap.size) (by omega)) HNX.out
        have e2 : (⟨es.map BEl.x, nx⟩ : DiskD) = X := by rw [HX1.out, HE.out]
        rw [e2] at h1
        exact h1)
      have NE : Hid (w.heap.size + 1 ∉ blkOf (.slice a9 es.length c9) ++ gsOf es) := Lib.hid fun hm => by have := (hbl.out.lt _ hm).1; omega
      have KB := Lib.hid (KW.out _ hkp.out)
      go_wp2_with fail
      refine bodyPost_ret (v := .agg #[.slice a9 es.length c9, .int .i64 nx]) (by simp [results, Tryz.results33, go_sem, *]) rfl ⟨a9, es.length, c9, _, by rw [HE.out], BF.out _ (((SameBlk.refl _ _).set _ NE.out).set _ NE.out), ((KB.out.set (by simp only []; omega) _).set (by simp only []; omega) _).1⟩
end Go.Proofs.YtjdjceohlcimaaaGreatDoor
/- The reference's CreateFile, by contract. -/
namespace Go.Proofs.YtjdjceohlcimaaaGreatDoor
open Go.RowKit
set_option linter.unusedVariables false
theorem disk_doneC {Y : DiskD} {vs : List Value} {w w' : World} {a : Option Addr} {n c r : Nat} {G : List Nat} (h : diskB.blk w' (w.heap.size + 2) Y ((a, n, c), ()) G) (hb : Kept w.heap.size w w') (hr : r = w.heap.size + 1) (u v : Value) :
    DiskAnd Y vs w (.returned (.tuple (.agg #[.slice a n c, .int .i64 Y.fNextName] :: vs).toArray)) ((w'.setCell ⟨r, 0, none⟩ u).setCell ⟨r, 1, none⟩ v) := by
  have hne : r ∉ G := fun hm => by have := (diskB.blk_lt h r hm).1; omega
  exact ⟨a, n, c, G, rfl, diskB.blk_mono (diskB.blk_keep h (((SameBlk.refl _ _).set _ hne).set _ hne)) (by omega), ((hb.set (by simp only []; omega) _).set (by simp only []; omega) _).1⟩
set_option maxRecDepth 100000 in
set_option maxHeartbeats 1000000 in
theorem screate0 (a : Option Addr) (n c : Nat) (X : DiskD) (w : World) (h : diskRep.inn w X ((a, n, c), ())) (hw : wtDisk X ≤ 1000000000) (Y : DiskD) (q : Int) (b : Bool)
    (HN : Hid (DiskD.okD X = false ∨ 1000 ≤ X.fNextName → Y = X ∧ q = 0 ∧ b = false)) (HY : Hid (DiskD.okD X = true → X.fNextName < 1000 → Y = ⟨X.fFiles ++ [⟨X.fNextName, [], 0, false⟩], X.fNextName + 1⟩ ∧ q = X.fNextName ∧ b = true)) :
    Calls Tryz.prog 52 #[.agg #[.slice a n c, .int .i64 X.fNextName]] w (DiskAnd Y [.int .i64 q, .bool b] w) := by
  obtain ⟨W, hW⟩ : ∃ W, W = (w.alloc (.cells #[.slice a n c, .int .i64 X.fNextName] 26)).alloc (.cells #[.slice none 0 0, .int .i64 0] 26) := ⟨_, rfl⟩
  obtain ⟨b0, k0, k1⟩ := boxes2 w W hW
  have hz : W.heap.size = w.heap.size + 2 := by rw [hW]; simp
  have HZ := Lib.hid hz
  have B0 := Lib.hid b0
  have K0 := Lib.hid k0
  have K1 := Lib.hid k1
  have HI := Lib.hid (h.keep b0)
  have HW := Lib.hid hw
  have HNX := Lib.hid (disk_in h).2.2
  have hnl : n ≤ 1000000000 := by
    have h4 := wt_file_len X.fFiles
    have h8 : wtDisk X = wtFiles X.fFiles := rfl
    have h9 := (disk_len h).1
    omega
  have HL := Lib.hid (disk_len h).1
  clear h b0 k0 k1 hz hw
  go_enter Tryz.func52, Tryz.ntmps52
  go_wp2_with fail
  rw [← hW]
  clear hW
  refine (scopy a n c X W HI.out HW.out).mono ?_
  rintro e w1 ⟨a1, n1, c1, G1, rfl, hd1, b1⟩
  obtain ⟨fs, hfs, hbl, hG, -⟩ := of_disk_blk hd1
  obtain ⟨rfl, -⟩ := hbl.caps
  have HD1 := Lib.hid hd1
  have HBL := Lib.hid hbl
  have HFS := Lib.hid hfs
  have KW1 : Hid (Kept (w.heap.size + 2) W w1) := Lib.hid ⟨b1.mono (by have := HZ.out; omega), by have := b1.size; have := HZ.out; omega⟩
  have I1 := Lib.hid (HI.out.keep b1)
  obtain ⟨xb, hxb⟩ : ∃ g, g = w1.heap.size := ⟨_, rfl⟩
  obtain ⟨w2, hw2⟩ : ∃ u, u = w1.alloc (.cells #[.slice a1 fs.length c1, .int .i64 X.fNextName] 26) := ⟨_, rfl⟩
  have b2 : Below w1.heap.size w1 w2 := by rw [hw2]; exact (Below.refl _ _).alloc (Nat.le_refl _) _
  have x2 : w2.heap[xb]? = some (.cells #[.slice a1 fs.length c1, .int .i64 X.fNextName] 26 (0, 0)) := by rw [hw2, hxb]; exact heap_alloc_new _ _
  have X2 := Lib.hid x2
  have HXL : Hid (w.heap.size + 2 ≤ xb ∧ ∀ g ∈ blkOf (.slice a1 fs.length c1) ++ gsOf fs, g < xb) := Lib.hid ⟨by rw [hxb]; exact KW1.out.2, fun g hg => by rw [hxb]; exact (hbl.lt g hg).2⟩
  have KW2 := Lib.hid (KW1.out.below b2)
  have HBL2 := Lib.hid (hbl.below b2)
  have I2 := Lib.hid (I1.out.keep b2)
  have PP : Hid (∀ v, Kept (w.heap.size + 2) W v → v.cell? ⟨w.heap.size, 0, none⟩ = some (.slice a n c) ∧ v.cell? ⟨w.heap.size, 1, none⟩ = some (.int .i64 X.fNextName)) := Lib.hid fun v hv => ⟨hv.cell (by omega) (box_cell K0.out 0 _ rfl), hv.cell (by omega) (box_cell K0.out 1 _ rfl)⟩
  obtain ⟨p0, p1⟩ := PP.out _ KW2.out
  clear hd1 hbl hfs b1 b2 x2 hG
  go_upto_region 2 with fail
  rw [← hxb, ← hw2]
  clear hw2 hxb
  go_wp2_with fail
  clear p0 p1
  refine (sokdisk a n c X w2 I2.out HW.out).mono ?_
  rintro e w3 ⟨rfl, b3⟩
  have KW3 := Lib.hid (KW2.out.below b3)
  have HBL3 := Lib.hid (HBL2.out.below b3)
  have X3 := Lib.hid ((b3.block _ (lt_of_block X2.out)).trans X2.out)
  obtain ⟨p0, p1⟩ := PP.out _ KW3.out
  clear b3
  have RS : Hid (w3.heap[w.heap.size + 1]? = some (.cells #[.slice none 0 0, .int .i64 0] 26 (0, 0))) := Lib.hid (KW3.out.heap (by omega) K1.out)
  have r0 := box_cell RS.out 0 _ rfl
  have r1 := box_cell RS.out 1 _ rfl
  have rf : ∀ j, w3.frozen? ⟨w.heap.size + 1, j, none⟩ = false := fun j => by simp [World.frozen?, RS.out]
  have x0 := box_cell X3.out 0 _ rfl
  have x1 := box_cell X3.out 1 _ rfl
  have xf : ∀ j, w3.frozen? ⟨xb, j, none⟩ = false := fun j => by simp [World.frozen?, X3.out]
  have KK : Hid (∀ v, Kept (w.heap.size + 2) W v → Kept w.heap.size w v) := Lib.hid fun v hv => ⟨B0.out.trans (hv.1.mono (by omega)), Nat.le_trans (by omega) hv.2⟩
  by_cases hno : DiskD.okD X = false ∨ 1000 ≤ X.fNextName
  · obtain ⟨rfl, rfl, rfl⟩ := HN.out hno
    have DD : Hid (diskB.blk w3 (w.heap.size + 2) Y ((a1, fs.length, c1), ()) (blkOf (.slice a1 fs.length c1) ++ gsOf fs)) := Lib.hid (by
      have h1 := disk_blk ((HBL3.out).mono (B' := w.heap.size + 2) (by have := HZ.out; omega)) HNX.out
      rw [← HFS.out] at h1
      exact h1)
    have KW := Lib.hid (KK.out _ KW3.out)
    cases hok : DiskD.okD Y with
    | false =>
      clear hok hno
      go_wp2_with fail
      refine bodyPost_ret (v := .tuple #[.agg #[.slice a1 fs.length c1, .int .i64 Y.fNextName], .int .i64 0, .bool false]) (by simp [results, Tryz.results52, go_sem, *]) rfl ?_
      exact disk_doneC (vs := [.int .i64 0, .bool false]) DD.out KW.out rfl _ _
    | true =>
      have hlt : 1000 ≤ Y.fNextName := by
        rcases hno with h1 | h1
        · rw [hok] at h1; cases h1
        · exact h1
      clear hok hno
      go_wp2_with fail
      refine bodyPost_ret (v := .tuple #[.agg #[.slice a1 fs.length c1, .int .i64 Y.fNextName], .int .i64 0, .bool false]) (by simp [results, Tryz.results52, go_sem, *]) rfl ?_
      exact disk_doneC (vs := [.int .i64 0, .bool false]) DD.out KW.out rfl _ _
  · have hok : DiskD.okD X = true := by
      cases h1 : DiskD.okD X with
      | true => rfl
      | false => exact absurd (.inl h1) hno
    have hlt : X.fNextName < 1000 := by
      by_cases h1 : 1000 ≤ X.fNextName
      · exact absurd (.inr h1) hno
      · omega
    obtain ⟨rfl, rfl, rfl⟩ := HY.out hok hlt
    have hlo := (DiskD.Ok.of hok).lo
    have hnge : decide (1000 ≤ X.fNextName) = false := decide_eq_false (by omega)
    rw [hok]
    have HOK := Lib.hid hok
    clear hno hok
    have hl1 : fs.length = X.fFiles.length := by rw [HFS.out, List.length_map]
    have HFL : Hid (fs.length + 1 ≤ 1000000000000) := Lib.hid (by have := HL.out; omega)
    have EF := Lib.hid (emptyFile (w3.alloc (.cells #[.int .i64 X.fNextName, .slice none 0 0, .int .i64 0, .bool false] 58)) W.heap.size X.fNextName HNX.out)
    have HBA := Lib.hid (HBL3.out.below (show Below w3.heap.size w3 (w3.alloc (.cells #[.int .i64 X.fNextName, .slice none 0 0, .int .i64 0, .bool false] 58)) from (Below.refl _ _).alloc (Nat.le_refl _) _))
    have HSA : Hid (W.heap.size ≤ (w3.alloc (.cells #[.int .i64 X.fNextName, .slice none 0 0, .int .i64 0, .bool false] 58)).heap.size) := Lib.hid (by simp; have := KW3.out.2; have := HZ.out; omega)
    clear hl1
    go_wp2_with (at_builtin; refine wpList_pushE fileE (w := w3.alloc (.cells #[.int .i64 X.fNextName, .slice none 0 0, .int .i64 0, .bool false] 58)) (es := fs) (v := .slice a1 fs.length c1) ⟨⟨X.fNextName, [], 0, false⟩, ((none, 0, 0), ()), []⟩ (.tmp 18) (.tmp 22) w3.heap.size rfl rfl rfl rfl (heap_alloc_new _ _) rfl HBA.out EF.out (fun b hb => by cases hb) HSA.out HFL.out ?_; intro g4 c4 w4 hm4 hg4 hat4; have KW4 := Lib.hid ((KW3.out.alloc _).grown hg4 fun k hk => Nat.le_trans (by have := HZ.out; omega) (blk_row HBA.out k hk)); have hx4 := (hg4.block xb (Nat.lt_of_lt_of_le (lt_of_block X3.out) (by simp)) (fun e => by have := (HXL.out.2 xb (List.mem_append_left _ (blkOf_mem.2 e.symm))); omega)).trans ((Below.heap_alloc _ _ _ (lt_of_block X3.out)).trans X3.out); have X4 := Lib.hid hx4; have M4 := Lib.hid hm4; have NE4 := Lib.hid (push_ne (n := fs.length + 1) (c := c4) (e := (⟨⟨X.fNextName, [], 0, false⟩, ((none, 0, 0), ()), []⟩ : BEl fileB)) hat4 (fun hm => by have := HXL.out.2 xb hm; omega) (Nat.lt_of_lt_of_le (lt_of_block X3.out) (by simp)) (fun hm => by cases hm)); obtain ⟨q0, q1⟩ := PP.out _ KW4.out; have y0 := box_cell X4.out 0 _ rfl; have y1 := box_cell X4.out 1 _ rfl; have yf : ∀ j, w4.frozen? ⟨xb, j, none⟩ = false := (fun j => by simp [World.frozen?, X4.out]); have RS4 := Lib.hid (KW4.out.heap (b := w.heap.size + 1) (by omega) K1.out); have s0 := box_cell RS4.out 0 _ rfl; have s1 := box_cell RS4.out 1 _ rfl; have sf : ∀ j, w4.frozen? ⟨w.heap.size + 1, j, none⟩ = false := (fun j => by simp [World.frozen?, RS4.out]); clear hm4 hg4 hat4 hx4 p0 p1 x0 x1 xf r0 r1 rf)
    obtain ⟨w6, hw6⟩ : ∃ u, u = (w4.setCell ⟨xb, 0, none⟩ (.slice (some ⟨g4, 0, none⟩) (fs.length + 1) c4)).setCell ⟨xb, 1, none⟩ (.int .i64 (X.fNextName + 1)) := ⟨_, rfl⟩
    have X6 : Hid (w6.heap[xb]? = some (.cells #[.slice (some ⟨g4, 0, none⟩) (fs.length + 1) c4, .int .i64 (X.fNextName + 1)] 26 (0, 0))) := Lib.hid (by rw [hw6]; exact blk_put (blk_put X4.out rfl) rfl)
    have M6 := Lib.hid (M4.out.keep (((SameBlk.refl _ _).set (g := xb) (i := 0) (.slice (some ⟨g4, 0, none⟩) (fs.length + 1) c4) NE4.out).set (g := xb) (i := 1) (.int .i64 (X.fNextName + 1)) NE4.out))
    have K6 : Hid (Kept (w.heap.size + 2) W w6) := Lib.hid (by rw [hw6]; exact (KW4.out.set HXL.out.1 _).set HXL.out.1 _)
    rw [← hw6] at M6 ⊢
    clear hw6 q0 q1 y0 y1 yf s0 s1 sf
    obtain ⟨p0, p1⟩ := PP.out _ K6.out
    have x0 := box_cell X6.out 0 _ rfl
    have x1 := box_cell X6.out 1 _ rfl
    have RS := Lib.hid (K6.out.heap (b := w.heap.size + 1) (by omega) K1.out)
    have r0 := box_cell RS.out 0 _ rfl
    have r1 := box_cell RS.out 1 _ rfl
    have rf : ∀ j, w6.frozen? ⟨w.heap.size + 1, j, none⟩ = false := fun j => by simp [World.frozen?, RS.out]
    have hxl := HXL.out.1
    have DD : Hid (diskB.blk w6.drew (w.heap.size + 2) ⟨X.fFiles ++ [⟨X.fNextName, [], 0, false⟩], X.fNextName + 1⟩ ((some ⟨g4, 0, none⟩, fs.length + 1, c4), ()) (blkOf (.slice (some ⟨g4, 0, none⟩) (fs.length + 1) c4) ++ gsOf (fs ++ [(⟨⟨X.fNextName, [], 0, false⟩, ((none, 0, 0), ()), []⟩ : BEl fileB)]))) := Lib.hid (by
      have h1 := disk_blk (nx := X.fNextName + 1) ((M6.out).mono (B' := w.heap.size + 2) (by have := HZ.out; omega)) (by unfold I64; omega)
      rw [List.map_append, ← HFS.out] at h1
      exact diskB.blk_below h1 (Below.refl _ _).drew)
    have KW := Lib.hid (KK.out _ K6.out).drew
    refine region_plan (fun v => v.cell? ⟨xb, 0, none⟩ = some (.slice (some ⟨g4, 0, none⟩) (fs.length + 1) c4) ∧ v.cell? ⟨xb, 1, none⟩ = some (.int .i64 (X.fNextName + 1)) ∧ v.cell? ⟨w.heap.size, 1, none⟩ = some (.int .i64 X.fNextName)) (Pl.of [.q 0, .q 1, .q 2, .m 3, .q 4, .q 5]) [] (by kernel_rfl) (by kernel_rfl) ⟨x0, x1, p1⟩ (fun hHeld => ?_)
    first | (refine pi_take (v := ?pv1_0) rfl (fun _ _ _ h => h) (by rfl) (fun v hv => ?pr1_0) ?rest1_0; case pr1_0 => (obtain ⟨d0, d1, d2⟩ := hv; go_simp; first | done | with_reducible rfl)) | (refine pi_pass rfl (fun _ _ _ h => h) (by rfl) ?_)
    try simp only [Act.put, List.setIfInBounds_toArray, List.set_cons_zero, List.set_cons_succ]
    first | (refine pi_take (v := ?pv1_1) rfl (fun _ _ _ h => h) (by rfl) (fun v hv => ?pr1_1) ?rest1_1; case pr1_1 => (obtain ⟨d0, d1, d2⟩ := hv; go_simp; first | done | with_reducible rfl)) | (refine pi_pass rfl (fun _ _ _ h => h) (by rfl) ?_)
    try simp only [Act.put, List.setIfInBounds_toArray, List.set_cons_zero, List.set_cons_succ]
    first | (refine pi_take (v := ?pv1_2) rfl (fun _ _ _ h => h) (by rfl) (fun v hv => ?pr1_2) ?rest1_2; case pr1_2 => (obtain ⟨d0, d1, d2⟩ := hv; go_simp; first | done | with_reducible rfl)) | (refine pi_pass rfl (fun _ _ _ h => h) (by rfl) ?_)
    try simp only [Act.put, List.setIfInBounds_toArray, List.set_cons_zero, List.set_cons_succ]
    refine pi_step rfl (fun K hK => ?_)
    go_simp
    refine hK.out _ _ (by exact ⟨cell_out (cell_out hHeld.1 (by omega)) (by omega), cell_out (cell_out hHeld.2.1 (by omega)) (by omega), cell_out (cell_out hHeld.2.2 (by omega)) (by omega)⟩) (fun hHeld2 => ?_)
    clear hK K hHeld
    have hHeld := hHeld2
    clear hHeld2
    try simp only [Act.put, List.setIfInBounds_toArray, List.set_cons_zero, List.set_cons_succ]
    first | (refine pi_take (v := ?pv1_4) rfl (fun _ _ _ h => h) (by rfl) (fun v hv => ?pr1_4) ?rest1_4; case pr1_4 => (obtain ⟨d0, d1, d2⟩ := hv; go_simp; first | done | with_reducible rfl)) | (refine pi_pass rfl (fun _ _ _ h => h) (by rfl) ?_)
    try simp only [Act.put, List.setIfInBounds_toArray, List.set_cons_zero, List.set_cons_succ]
    first | (refine pi_take (v := ?pv1_5) rfl (fun _ _ _ h => h) (by rfl) (fun v hv => ?pr1_5) ?rest1_5; case pr1_5 => (obtain ⟨d0, d1, d2⟩ := hv; go_simp; first | done | with_reducible rfl)) | (refine pi_pass rfl (fun _ _ _ h => h) (by rfl) ?_)
    try simp only [Act.put, List.setIfInBounds_toArray, List.set_cons_zero, List.set_cons_succ]
    refine pi_end ?_
    refine z_end ?_
    clear hHeld
    go_wp2_with fail
    refine bodyPost_ret (v := .tuple #[.agg #[.slice (some ⟨g4, 0, none⟩) (fs.length + 1) c4, .int .i64 (X.fNextName + 1)], .int .i64 X.fNextName, .bool true]) (by simp [results, Tryz.results52, go_sem, *]) rfl ?_
    exact disk_doneC (Y := ⟨X.fFiles ++ [⟨X.fNextName, [], 0, false⟩], X.fNextName + 1⟩) (vs := [.int .i64 X.fNextName, .bool true]) DD.out KW.out rfl _ _
theorem screate (a : Option Addr) (n c : Nat) (X : DiskD) (w : World) (h : diskRep.inn w X ((a, n, c), ())) (hw : wtDisk X ≤ 1000000000) :
    Calls Tryz.prog 52 #[.agg #[.slice a n c, .int .i64 X.fNextName]] w (DiskAnd ((DiskD.create X).getD X) [.int .i64 (if (DiskD.create X).isSome then X.fNextName else 0), .bool (DiskD.create X).isSome] w) := by
  refine screate0 a n c X w h hw _ _ _ (fun hno => ?_) (fun hok hlt => ?_)
  · rw [DiskD.create_none hno]; exact ⟨rfl, rfl, rfl⟩
  · rw [DiskD.create_eq hok hlt]; exact ⟨rfl, rfl, rfl⟩
end Go.Proofs.YtjdjceohlcimaaaGreatDoor
/- One element more, made by a call in memory of its own, onto elements of the call's own; no function of program or reference is walked here. -/
namespace Go.Proofs.YtjdjceohlcimaaaGreatDoor
open Go.RowKit
set_option linter.unusedVariables false
structure ElIn {α : Type} (T : TypeId) (s : BRep α) (B : Nat) (wr : World) (y : Value) (es : List (BEl s)) (e : BEl s) (w6 : World) : Prop where
  kept : Kept wr.heap.size wr w6
  el : s.blk w6 wr.heap.size e.x e.h e.G
  old : Blk T s wr B y es
  low : B ≤ wr.heap.size
  few : es.length + 1 ≤ 1000000000000
theorem ElIn.cells {α : Type} {T : TypeId} {s : BRep α} {B : Nat} {wr : World} {y : Value} {es : List (BEl s)} {e : BEl s} {w6 : World} (h : ElIn T s B wr y es e w6) {cs : Array Value} (hc : cs.toList = s.rep.cells e.x e.h) : ∀ (j : Nat) (u : Value), (s.rep.cells e.x e.h)[j]? = some u → (w6.alloc (.cells cs T)).cell? ((⟨w6.heap.size, 0, none⟩ : Addr).add j) = some u := by
  rw [← hc]
  exact World.news_of_block (w := (w6.alloc (.cells cs T))) (cs := cs) (heap_alloc_new w6 _)
theorem ElIn.next_k {α : Type} {T : TypeId} {s : BRep α} {B : Nat} {wr : World} {y : Value} {es : List (BEl s)} {e : BEl s} {w6 : World} (h : ElIn T s B wr y es e w6) (o : Obj) : Kept wr.heap.size wr (w6.alloc o) := h.kept.alloc _
theorem ElIn.pages {α : Type} {T : TypeId} {s : BRep α} {B : Nat} {wr : World} {y : Value} {es : List (BEl s)} {e : BEl s} {w6 : World} (h : ElIn T s B wr y es e w6) (o : Obj) : Blk T s (w6.alloc o) B y es := h.old.below (h.next_k o).1
theorem ElIn.elem {α : Type} {T : TypeId} {s : BRep α} {B : Nat} {wr : World} {y : Value} {es : List (BEl s)} {e : BEl s} {w6 : World} (h : ElIn T s B wr y es e w6) (o : Obj) : s.blk (w6.alloc o) B e.x e.h e.G :=
  s.blk_mono (s.blk_below h.el (show Below w6.heap.size w6 (w6.alloc o) from (Below.refl _ _).alloc (Nat.le_refl _) _)) h.low
theorem ElIn.apart {α : Type} {T : TypeId} {s : BRep α} {B : Nat} {wr : World} {y : Value} {es : List (BEl s)} {e : BEl s} {w6 : World} (h : ElIn T s B wr y es e w6) : ∀ b ∈ e.G, b ∉ blkOf y ++ gsOf es := fun b hb hm => by
  have h1 := (s.blk_lt h.el b hb).1
  have h2 := (h.old.lt b hm).2
  omega
theorem ElIn.base {α : Type} {T : TypeId} {s : BRep α} {B : Nat} {wr : World} {y : Value} {es : List (BEl s)} {e : BEl s} {w6 : World} (h : ElIn T s B wr y es e w6) (o : Obj) : B ≤ (w6.alloc o).heap.size := Nat.le_trans h.low (h.next_k o).2
end Go.Proofs.YtjdjceohlcimaaaGreatDoor
/- The library's slices.Clone at rows, by contract. -/
namespace Go.Proofs.YtjdjceohlcimaaaGreatDoor
open Go.RowKit
theorem Mine.own {w : World} {B : Nat} {v : Value} {L : List R} (h : Mine w B v L) : ∀ k, v.ownBlock = some k → B ≤ k := fun k hk => (World.ownsRow.lt h k hk).1
set_option maxRecDepth 100000 in
theorem clone_some (ad : Addr) (len cap : Nat) (L : List R) (w : World) (hl : L.length = len) (hc : ∀ j u, (cells3 L)[j]? = some u → w.cell? (ad.add j) = some u) (hlen : len ≤ 100000000000) :
    Calls Tryz.prog 60 #[.slice (some ad) len cap] w fun e w' => ∃ v', e = .returned v' ∧ Mine w' w.heap.size v' L ∧ Below w.heap.size w w' := by
  have q22 : ∀ (w : World) (a : Option Addr) (n c n' c' : Nat), (binOp .eql 27 (.slice a n c) (.slice none n' c')).run Tryz.prog w = .ok (.bool a.isNone) w := fun w a n c n' c' => Lib.run_eql_slice_nil w _ _ a n c n' c' Tryz.underlying27
  have HL := Lib.hid hl
  have HC := Lib.hid hc
  clear hl hc
  have hz : Mine (w.alloc (.cells #[] 72)) w.heap.size (.slice (some ⟨w.heap.size, 0, none⟩) 0 0) [] := World.ownsRow_made w #[] 0 (Nat.le_refl _) (Nat.zero_le _) (by simp)
  have HZ := Lib.hid hz
  clear hz
  go_enter Tryz.func60, Tryz.ntmps60
  go_wp2_with (at_builtin; refine wpList_appendR (L := L) _ _ ad len cap rfl rfl rfl rfl HZ.out HL.out ?qc2 ?qc6 ?qc4 ?_)
  case qc2 =>
    intro j u hj
    exact Lib.cell?_alloc_some _ (HC.out j u hj)
  case qc6 => simp
  case qc4 => simp; omega
  intro v' w1 hown hgrow hnil
  have HO := Lib.hid hown
  have HB := Lib.hid (((Below.refl w.heap.size w).alloc (Nat.le_refl _) _).grown hgrow (by simp) (by intro k hk; simp [Value.ownBlock] at hk; omega))
  clear hown hgrow hnil
  go_wp2_with fail
  go_ret
  exact ⟨v', rfl, HO.out, HB.out⟩
theorem clone_none (n c : Nat) (w : World) : Calls Tryz.prog 60 #[.slice none n c] w fun e w' => e = .returned (.slice none 0 0) ∧ w' = w := by
  have q22 : ∀ (w : World) (a : Option Addr) (n c n' c' : Nat), (binOp .eql 27 (.slice a n c) (.slice none n' c')).run Tryz.prog w = .ok (.bool a.isNone) w := fun w a n c n' c' => Lib.run_eql_slice_nil w _ _ a n c n' c' Tryz.underlying27
  go_enter Tryz.func60, Tryz.ntmps60
  go_wp2
  go_ret
  exact ⟨rfl, rfl⟩
theorem clone (a : Option Addr) (len cap : Nat) (L : List R) (w : World) (h : IsRows w a len L) (hlen : len ≤ 100000000000) :
    Calls Tryz.prog 60 #[.slice a len cap] w fun e w' => ∃ v', e = .returned v' ∧ Mine w' w.heap.size v' L ∧ Below w.heap.size w w' := by
  obtain ⟨ad, ha, hc⟩ := h.cell
  rcases a with _ | ad'
  · have h0 : len = 0 := by
      rcases Nat.eq_zero_or_pos len with h0 | h0
      · exact h0
      · exact absurd (ha h0) (by simp)
    have hL : L = [] := List.eq_nil_of_length_eq_zero (by rw [h.1, h0])
    refine (clone_none len cap w).mono ?_
    rintro e w' ⟨rfl, rfl⟩
    exact ⟨_, rfl, hL ▸ mine_none _ _, Below.refl _ _⟩
  · refine clone_some ad' len cap L w h.1 (fun j u hj => ?_) hlen
    have hjl : j < L.length * 3 := by have := (List.getElem?_eq_some_iff.1 hj).1; rwa [cells3_length] at this
    have : ad' = ad := by injection ha (by have := h.1; omega)
    rw [this]
    exact hc j u hj
end Go.Proofs.YtjdjceohlcimaaaGreatDoor
/- The program's clonePage, cloneFile and cloneDisk, by contract. -/
namespace Go.Proofs.YtjdjceohlcimaaaGreatDoor
open Go.RowKit
set_option linter.unusedVariables false
def GivesPage (p : List R) (w : World) (e : Ending) (w' : World) : Prop := ∃ (a : Option Addr) (c : Nat), e = .returned (.agg #[.slice a p.length c]) ∧ rowsB.blk w' w.heap.size p (a, p.length, c) (blkOf (.slice a p.length c)) ∧ Below w.heap.size w w'
set_option maxRecDepth 100000 in
theorem iclonepage (d : Option Addr) (k m : Nat) (p : List R) (w : World) (h : SeqIn rowRep w d k p) (hk : k ≤ 100000000000) : Calls Tryz.prog 32 #[.agg #[.slice d k m]] w (GivesPage p w) := by
  obtain ⟨W, hW⟩ : ∃ W, W = (w.alloc (.cells #[.slice d k m] 29)).alloc (.cells #[.slice none 0 0] 29) := ⟨_, rfl⟩
  obtain ⟨b0, k0, k1⟩ := boxes2 w W hW
  have hz : W.heap.size = w.heap.size + 2 := by rw [hW]; simp
  have HZ := Lib.hid hz
  have B0 := Lib.hid b0
  have HI := Lib.hid ((rows_in h).keep b0)
  have HWF := Lib.hid (rows_in h).2.1
  have HK1 := Lib.hid k1
  have p0 := box_cell k0 0 _ rfl
  clear h b0 k0 k1 hz
  go_enter Tryz.func32, Tryz.ntmps32
  go_upto_region 1 with fail
  rw [← hW]
  clear hW
  go_wp2_with fail
  clear p0
  refine (clone d k m p W HI.out hk).mono ?_
  rintro e w1 ⟨v, rfl, hm, b1⟩
  obtain ⟨a1, c1, rfl⟩ := hm.slice
  have hr := (b1.block _ (lt_of_block HK1.out)).trans HK1.out
  have HM := Lib.hid (seq_of_mine hm HWF.out)
  have B1 := Lib.hid b1
  have r0 := box_cell hr 0 _ rfl
  have rf : ∀ j, w1.frozen? ⟨w.heap.size + 1, j, none⟩ = false := fun j => by simp [World.frozen?, hr]
  clear hm b1 hr
  go_wp2_with fail
  refine bodyPost_ret (v := .agg #[.slice a1 p.length c1]) (by simp [results, Tryz.results32, go_sem, *]) rfl ⟨a1, c1, rfl, ?_, ?_⟩
  · refine rowsB.blk_mono (rowsB.blk_keep HM.out ((SameBlk.refl _ _).set _ fun hmm => ?_)) B0.out.size
    have := (rowsB.blk_lt HM.out _ hmm).1
    have := HZ.out
    omega
  · exact (B0.out.trans (B1.out.mono B0.out.size)).setCell (by simp only []; omega) _
def GivesFile (f : FileD) (w : World) (e : Ending) (w' : World) : Prop := ∃ (a : Option Addr) (n c : Nat) (G : List Nat), e = .returned (.agg #[.int .i64 f.fName, .slice a n c, .int .i64 f.fChecksum, .bool f.fSealed]) ∧ fileB.blk w' w.heap.size f ((a, n, c), ()) G ∧ Below w.heap.size w w'
set_option maxRecDepth 100000 in
set_option maxHeartbeats 2000000 in
theorem iclonefile (x0 : Int) (a1 : Option Addr) (n1 k1 : Nat) (x1 : List (List R)) (x2 : Int) (x3 : Bool) (w : World) (h : SeqIn pageRep w a1 n1 x1) (h0 : I64 x0) (h2 : I64 x2) (hw : wtPages x1 ≤ 1000000000) :
    Calls Tryz.prog 57 #[.agg #[.int .i64 x0, .slice a1 n1 k1, .int .i64 x2, .bool x3]] w (GivesFile ⟨x0, x1, x2, x3⟩ w) := by
  obtain ⟨W, hW⟩ : ∃ W, W = ((w.alloc (.cells #[.int .i64 x0, .slice a1 n1 k1, .int .i64 x2, .bool x3] 58)).alloc (.cells #[.int .i64 0, .slice none 0 0, .int .i64 0, .bool false] 58)).alloc (.cells #[.int .i64 x0, .slice none 0 0, .int .i64 x2, .bool x3] 58) := ⟨_, rfl⟩
  obtain ⟨hz, b0, q0, q1, q2⟩ := boxes3 w W hW
  have HZ := Lib.hid hz
  have B0 := Lib.hid b0
  have K1 := Lib.hid q1
  have K2 := Lib.hid q2
  have HI := Lib.hid h
  have HL := Lib.hid h.1
  have HW := Lib.hid hw
  have H0 := Lib.hid h0
  have H2 := Lib.hid h2
  have hn1 : n1 ≤ 1000000000 := by have h4 := wt_page_len x1; have h5 := h.1; omega
  have PP := Lib.hid (box_cell q0 1 _ rfl)
  clear h h0 h2 hw b0 q0 q1 q2 hz
  go_enter Tryz.func57, Tryz.ntmps57
  go_wp2_with fail
  rw [← hW]
  clear hW
  go_loopw [11] (fun i wr => ∃ (t : Nat) (y : Value) (ps : List (BEl rowsB)), i = .int .i64 t ∧ t ≤ n1 ∧ Hid (ps.map BEl.x = x1.take t) ∧ Hid (Kept (w.heap.size + 2) W wr) ∧ Hid (wr.heap[w.heap.size + 2]? = some (.cells #[.int .i64 x0, y, .int .i64 x2, .bool x3] 58 (0, 0))) ∧ Hid (Blk 29 rowsB wr (w.heap.size + 3) y ps)) (fun i _ => n1 - (intOf i).toNat)
  case atStart => exact ⟨0, _, [], rfl, Nat.zero_le _, (show _ = _ from rfl), Kept.refl (by have := HZ.out; omega), K2, Blk.nil _ _ _ _⟩
  case round =>
    obtain ⟨t, y, ps, rfl, ht, hps, hk, hbx, hbl⟩ := hrel
    have hz := HZ.out
    have KW : Hid (∀ v, Kept (w.heap.size + 2) W v → Kept w.heap.size w v) := Lib.hid fun v hv => ⟨B0.out.trans (hv.1.mono (by omega)), Nat.le_trans (by omega) hv.2⟩
    have hpsl : ps.length = t := by
      have := congrArg List.length hps.out
      rw [List.length_map, List.length_take, HL.out] at this
      omega
    by_cases hlt : t < n1
    · have htl : t < x1.length := by have := HL.out; omega
      obtain ⟨p, hp⟩ : ∃ p, x1[t]? = some p := ⟨x1[t], by simp [htl]⟩
      obtain ⟨b, o, d, k, m, rfl, hbl', hce, hin, -⟩ := HI.out.at hp
      have HP := Lib.hid hp
      have hk1 : k ≤ 1000000000 := by
        have h1 := wt_page_at x1 t htl
        have h2 : x1[t] = p := by rw [List.getElem?_eq_getElem htl] at hp; exact Option.some.inj hp
        rw [h2] at h1
        have h3 : wtPage p = p.length := rfl
        have h4 := hin.1
        have h5 := HW.out
        omega
      have d0 : wr.cell? ⟨b, o + t, none⟩ = some (.slice d k m) := (KW.out _ hk.out).cell hbl' hce
      obtain ⟨w5, hw5⟩ : ∃ u, u = wr.alloc (.cells #[.slice d k m] 29) := ⟨_, rfl⟩
      obtain ⟨pb, hpb⟩ : ∃ g, g = wr.heap.size := ⟨_, rfl⟩
      have b5 : Below wr.heap.size wr w5 := by rw [hw5]; exact (Below.refl _ _).alloc (Nat.le_refl _) _
      have hx5 : w5.heap[pb]? = some (.cells #[.slice d k m] 29 (0, 0)) := by rw [hw5, hpb]; exact heap_alloc_new _ _
      have X5 := Lib.hid hx5
      have K5 := Lib.hid (hk.out.below b5)
      have C5 := Lib.hid ((b5.block _ (lt_of_block hbx.out)).trans hbx.out)
      have M5 := Lib.hid (hbl.out.below b5)
      have PL : Hid (w.heap.size + 3 ≤ pb ∧ ∀ z ∈ blkOf y ++ gsOf ps, z < pb) := Lib.hid ⟨by have := lt_of_block hbx.out; omega, fun z hz => by rw [hpb]; exact (hbl.out.lt z hz).2⟩
      have PIN := Lib.hid (hin.keep (KW.out _ K5.out).1)
      have HPE : Hid (p.length = k) := Lib.hid hin.1
      have HFEW : Hid (ps.length + 1 ≤ 1000000000000) := Lib.hid (by omega)
      have HLOW : Hid (w.heap.size + 3 ≤ w5.heap.size) := Lib.hid (by have := lt_of_block hx5; have := PL.out.1; omega)
      have SS : Hid (∀ v, Kept w5.heap.size w5 v → v.cell? ⟨w.heap.size + 2, 1, none⟩ = some y ∧ v.cell? ⟨pb, 0, none⟩ = some (.slice d k m)) := Lib.hid fun v hv => ⟨hv.cell (lt_of_block C5.out) (box_cell C5.out 1 _ rfl), hv.cell (lt_of_block X5.out) (box_cell X5.out 0 _ rfl)⟩
      have CC : Hid (∀ v, Kept w5.heap.size w5 v → Calls Tryz.prog 32 #[.agg #[.slice d k m]] v fun e v' => ∃ (a6 : Option Addr) (c6 : Nat), e = .returned (.agg #[.slice a6 k c6]) ∧ PageIn (w.heap.size + 3) w5 y ps p a6 k c6 v') := Lib.hid fun v hv =>
        (iclonepage d k m p v (PIN.out.keep hv.1) (by omega)).mono fun e v' ⟨a6, c6, he, hr, hb⟩ => by
          rw [HPE.out] at he hr
          exact ⟨a6, c6, he, ⟨hv.below hb, rowsB.blk_mono hr hv.2, M5.out, HLOW.out, HFEW.out⟩⟩
      have AFT : Hid (∀ (a6 : Option Addr) (c6 : Nat) (v6 v7 : World), PageIn (w.heap.size + 3) w5 y ps p a6 k c6 v6 → (v6.alloc (.cells #[.slice a6 k c6] 29)).grownBy v7 y.ownBlock → (v7.cell? ⟨w.heap.size + 2, 1, none⟩ = some y ∧ v7.cell? ⟨pb, 0, none⟩ = some (.slice d k m)) ∧ v7.heap[w.heap.size + 2]? = some (.cells #[.int .i64 x0, y, .int .i64 x2, .bool x3] 58 (0, 0)) ∧ Kept (w.heap.size + 2) W v7) := Lib.hid fun a6 c6 v6 v7 hP hg => by
        have hk7 := hP.k7
        have hrow := blk_row M5.out
        have hy : ∀ z, y.ownBlock = some z → z < pb := fun z hz => PL.out.2 z (List.mem_append_left _ (blkOf_mem.2 hz))
        have h1 := (hg.block (w.heap.size + 2) (Nat.lt_of_lt_of_le (lt_of_block C5.out) hk7.2) (fun e => by have := hrow _ e.symm; omega)).trans (hk7.heap (lt_of_block C5.out) C5.out)
        have h2 := (hg.block pb (Nat.lt_of_lt_of_le (lt_of_block X5.out) hk7.2) (fun e => by have := hy _ e.symm; omega)).trans (hk7.heap (lt_of_block X5.out) X5.out)
        exact ⟨⟨box_cell h1 1 _ rfl, box_cell h2 0 _ rfl⟩, h1, K5.out.trans ((hk7.mono (by have := HLOW.out; omega)).grown hg fun z hz => by have := hrow z hz; omega)⟩
      clear b5 hx5 hp hce hin
      go_upto_region 6 with fail
      rw [← hpb, ← hw5]
      clear hw5 hpb d0
      refine region_plan (fun v => v.cell? ⟨w.heap.size + 2, 1, none⟩ = some y ∧ v.cell? ⟨pb, 0, none⟩ = some (.slice d k m)) (Pl.of [.q 0, .q 1, .q 2, .m 3, .m 4, .m 5, .q 6]) [7] (by kernel_rfl) (by kernel_rfl) (SS.out _ (Kept.refl (Nat.le_refl _)).drew) (fun hHeld => ?_)
      first | (refine pi_take (v := ?pv1_0) rfl (fun _ _ _ h => h) (by rfl) (fun v hv => ?pr1_0) ?rest1_0; case pr1_0 => (obtain ⟨u0, u1⟩ := hv; go_simp; first | done | with_reducible rfl)) | (refine pi_pass rfl (fun _ _ _ h => h) (by rfl) ?_)
      try simp only [Act.put, List.setIfInBounds_toArray, List.set_cons_zero, List.set_cons_succ]
      first | (refine pi_take (v := ?pv1_1) rfl (fun _ _ _ h => h) (by rfl) (fun v hv => ?pr1_1) ?rest1_1; case pr1_1 => (obtain ⟨u0, u1⟩ := hv; go_simp; first | done | with_reducible rfl)) | (refine pi_pass rfl (fun _ _ _ h => h) (by rfl) ?_)
      try simp only [Act.put, List.setIfInBounds_toArray, List.set_cons_zero, List.set_cons_succ]
      first | (refine pi_take (v := ?pv1_2) rfl (fun _ _ _ h => h) (by rfl) (fun v hv => ?pr1_2) ?rest1_2; case pr1_2 => (obtain ⟨u0, u1⟩ := hv; go_simp; first | done | with_reducible rfl)) | (refine pi_pass rfl (fun _ _ _ h => h) (by rfl) ?_)
      try simp only [Act.put, List.setIfInBounds_toArray, List.set_cons_zero, List.set_cons_succ]
      refine pi_step rfl (fun K hK => ?_)
      first | (first | (go_at_call 32; refine (CC.out _ (Kept.refl (Nat.le_refl _)).drew).mono ?_; rintro e w7 ⟨a7, c7, rfl, hP7⟩; have hS7 := Lib.hid hP7; clear hP7) | (refine step_pushE pageE (w := w7.alloc (.cells #[.slice a7 k c7] 29)) (es := ps) (v := y) ⟨p, (a7, k, c7), blkOf (.slice a7 k c7)⟩ (.tmp 16) (.tmp 19) ⟨w7.heap.size, 0, none⟩ (by rfl) (by rfl) (by rfl) (by rfl) hS7.out.cells hS7.out.pages hS7.out.elem hS7.out.apart hS7.out.base hS7.out.few ?_; intro g8 c8 w8 hm8 hg8 hat8; have hT8 := Lib.hid (AFT.out a7 c7 w7 w8 hS7.out hg8); have hM8 := Lib.hid hm8; obtain ⟨u0, -⟩ := hT8.out.1; have u1 : w8.frozen? ⟨w.heap.size + 2, 1, none⟩ = false := (by simp [World.frozen?, hT8.out.2.1]); clear hm8 hg8 hat8)) | (go_simp; first | (go_at_call 32; refine (CC.out _ (Kept.refl (Nat.le_refl _)).drew).mono ?_; rintro e w7 ⟨a7, c7, rfl, hP7⟩; have hS7 := Lib.hid hP7; clear hP7) | (refine step_pushE pageE (w := w7.alloc (.cells #[.slice a7 k c7] 29)) (es := ps) (v := y) ⟨p, (a7, k, c7), blkOf (.slice a7 k c7)⟩ (.tmp 16) (.tmp 19) ⟨w7.heap.size, 0, none⟩ (by rfl) (by rfl) (by rfl) (by rfl) hS7.out.cells hS7.out.pages hS7.out.elem hS7.out.apart hS7.out.base hS7.out.few ?_; intro g8 c8 w8 hm8 hg8 hat8; have hT8 := Lib.hid (AFT.out a7 c7 w7 w8 hS7.out hg8); have hM8 := Lib.hid hm8; obtain ⟨u0, -⟩ := hT8.out.1; have u1 : w8.frozen? ⟨w.heap.size + 2, 1, none⟩ = false := (by simp [World.frozen?, hT8.out.2.1]); clear hm8 hg8 hat8))
      refine hK.out _ _ (by first | exact hT8.out.1 | exact SS.out _ hS7.out.k7 | exact SS.out _ hS7.out.kept) (fun hHeld2 => ?_)
      clear hK K hHeld
      have hHeld := hHeld2
      clear hHeld2
      try simp only [Act.put, List.setIfInBounds_toArray, List.set_cons_zero, List.set_cons_succ]
      refine pi_step rfl (fun K hK => ?_)
      go_simp
      refine hK.out _ _ (by first | exact hT8.out.1 | exact SS.out _ hS7.out.k7 | exact SS.out _ hS7.out.kept) (fun hHeld2 => ?_)
      clear hK K hHeld
      have hHeld := hHeld2
      clear hHeld2
      try simp only [Act.put, List.setIfInBounds_toArray, List.set_cons_zero, List.set_cons_succ]
      refine pi_step rfl (fun K hK => ?_)
      first | (first | (go_at_call 32; refine (CC.out _ (Kept.refl (Nat.le_refl _)).drew).mono ?_; rintro e w7 ⟨a7, c7, rfl, hP7⟩; have hS7 := Lib.hid hP7; clear hP7) | (refine step_pushE pageE (w := w7.alloc (.cells #[.slice a7 k c7] 29)) (es := ps) (v := y) ⟨p, (a7, k, c7), blkOf (.slice a7 k c7)⟩ (.tmp 16) (.tmp 19) ⟨w7.heap.size, 0, none⟩ (by rfl) (by rfl) (by rfl) (by rfl) hS7.out.cells hS7.out.pages hS7.out.elem hS7.out.apart hS7.out.base hS7.out.few ?_; intro g8 c8 w8 hm8 hg8 hat8; have hT8 := Lib.hid (AFT.out a7 c7 w7 w8 hS7.out hg8); have hM8 := Lib.hid hm8; obtain ⟨u0, -⟩ := hT8.out.1; have u1 : w8.frozen? ⟨w.heap.size + 2, 1, none⟩ = false := (by simp [World.frozen?, hT8.out.2.1]); clear hm8 hg8 hat8)) | (go_simp; first | (go_at_call 32; refine (CC.out _ (Kept.refl (Nat.le_refl _)).drew).mono ?_; rintro e w7 ⟨a7, c7, rfl, hP7⟩; have hS7 := Lib.hid hP7; clear hP7) | (refine step_pushE pageE (w := w7.alloc (.cells #[.slice a7 k c7] 29)) (es := ps) (v := y) ⟨p, (a7, k, c7), blkOf (.slice a7 k c7)⟩ (.tmp 16) (.tmp 19) ⟨w7.heap.size, 0, none⟩ (by rfl) (by rfl) (by rfl) (by rfl) hS7.out.cells hS7.out.pages hS7.out.elem hS7.out.apart hS7.out.base hS7.out.few ?_; intro g8 c8 w8 hm8 hg8 hat8; have hT8 := Lib.hid (AFT.out a7 c7 w7 w8 hS7.out hg8); have hM8 := Lib.hid hm8; obtain ⟨u0, -⟩ := hT8.out.1; have u1 : w8.frozen? ⟨w.heap.size + 2, 1, none⟩ = false := (by simp [World.frozen?, hT8.out.2.1]); clear hm8 hg8 hat8))
      refine hK.out _ _ (by first | exact hT8.out.1 | exact SS.out _ hS7.out.k7 | exact SS.out _ hS7.out.kept) (fun hHeld2 => ?_)
      clear hK K hHeld
      have hHeld := hHeld2
      clear hHeld2
      try simp only [Act.put, List.setIfInBounds_toArray, List.set_cons_zero, List.set_cons_succ]
      first | (refine pi_take (v := ?pv1_6) rfl (fun _ _ _ h => h) (by rfl) (fun v hv => ?pr1_6) ?rest1_6; case pr1_6 => (obtain ⟨u0, u1⟩ := hv; go_simp; first | done | with_reducible rfl)) | (refine pi_pass rfl (fun _ _ _ h => h) (by rfl) ?_)
      try simp only [Act.put, List.setIfInBounds_toArray, List.set_cons_zero, List.set_cons_succ]
      refine pi_end ?_
      refine z_step rfl (fun K hK => ?_)
      go_simp
      refine hK.out _ _ ?_
      clear hK K
      try simp only [Act.put, List.setIfInBounds_toArray, List.set_cons_zero, List.set_cons_succ]
      refine z_end ?_
      clear hHeld
      have R1 := Lib.hid (map_next (e := (⟨p, (a7, k, c7), blkOf (.slice a7 k c7)⟩ : BEl rowsB)) hps.out HP.out rfl)
      have hT := hT8.out.2
      have R2 : Hid (Kept (w.heap.size + 2) W (w8.setCell ⟨w.heap.size + 2, 1, none⟩ (.slice (some ⟨g8, 0, none⟩) (ps.length + 1) c8))) := Lib.hid (hT.2.set (Nat.le_refl _) _)
      have R3 : Hid ((w8.setCell ⟨w.heap.size + 2, 1, none⟩ (.slice (some ⟨g8, 0, none⟩) (ps.length + 1) c8)).heap[w.heap.size + 2]? = some (.cells #[.int .i64 x0, .slice (some ⟨g8, 0, none⟩) (ps.length + 1) c8, .int .i64 x2, .bool x3] 58 (0, 0))) := Lib.hid (blk_put hT.1 rfl)
      have R4 : Hid (Blk 29 rowsB (w8.setCell ⟨w.heap.size + 2, 1, none⟩ (.slice (some ⟨g8, 0, none⟩) (ps.length + 1) c8)) (w.heap.size + 3) (.slice (some ⟨g8, 0, none⟩) (ps.length + 1) c8) (ps ++ [⟨p, (a7, k, c7), blkOf (.slice a7 k c7)⟩])) := Lib.hid (hM8.out.put _ fun b hb => by have := (hM8.out.lt b hb).1; omega)
      rw [hpsl] at R2 R3 R4
      clear hT hT8 hM8 u0 u1
      go_wp2_with fail
      go_roundw
      case rel => exact ⟨t + 1, _, _, by go_num, by omega, R1, R2, R3, R4⟩
      case measure => simp [intOf]; omega
    · have hkl : t = n1 := by omega
      have hx1 : ps.map BEl.x = x1 := by
        have := hps.out
        rw [hkl, List.take_of_length_le (by have := HL.out; omega)] at this
        exact this
      obtain ⟨a9, c9, rfl, -⟩ := hbl.out.slice
      have e0 := box_cell hbx.out 0 _ rfl
      have e1 := box_cell hbx.out 1 _ rfl
      have e2 := box_cell hbx.out 2 _ rfl
      have e3 := box_cell hbx.out 3 _ rfl
      have hr := hk.out.heap (b := w.heap.size + 1) (by omega) K1.out
      have r0 := box_cell hr 0 _ rfl
      have r1 := box_cell hr 1 _ rfl
      have r2 := box_cell hr 2 _ rfl
      have r3 := box_cell hr 3 _ rfl
      have rf : ∀ j, wr.frozen? ⟨w.heap.size + 1, j, none⟩ = false := fun j => by simp [World.frozen?, hr]
      have FB := Lib.hid (file_blk (x3 := x3) hbl.out H0.out H2.out)
      rw [hx1] at FB
      have NE : Hid (w.heap.size + 1 ∉ blkOf (.slice a9 ps.length c9) ++ gsOf ps) := Lib.hid fun hm => by have := (hbl.out.lt _ hm).1; omega
      have KB := Lib.hid (KW.out _ hk.out)
      clear hx1 hr
      go_wp2_with fail
      refine bodyPost_ret (v := .agg #[.int .i64 x0, .slice a9 ps.length c9, .int .i64 x2, .bool x3]) (by simp [results, Tryz.results57, go_sem, *]) rfl ⟨a9, ps.length, c9, blkOf (.slice a9 ps.length c9) ++ gsOf ps, rfl, ?_, ?_⟩
      · exact fileB.blk_mono (fileB.blk_keep FB.out (((((SameBlk.refl _ _).set _ NE.out).set _ NE.out).set _ NE.out).set _ NE.out)) (by omega)
      · exact ((((KB.out.set (by simp only []; omega) _).set (by simp only []; omega) _).set (by simp only []; omega) _).set (by simp only []; omega) _).1
set_option maxRecDepth 100000 in
set_option maxHeartbeats 2000000 in
theorem iclonedisk (a : Option Addr) (n c : Nat) (X : DiskD) (w : World) (h : diskRep.inn w X ((a, n, c), ())) (hw : wtDisk X ≤ 1000000000) :
    Calls Tryz.prog 29 #[.agg #[.slice a n c, .int .i64 X.fNextName]] w (GivesDisk X w) := by
  have hnx := (disk_in h).2.2
  obtain ⟨nx, hnx'⟩ : ∃ nx, nx = X.fNextName := ⟨_, rfl⟩
  rw [← hnx'] at hnx ⊢
  obtain ⟨W, hW⟩ : ∃ W, W = ((w.alloc (.cells #[.slice a n c, .int .i64 nx] 26)).alloc (.cells #[.slice none 0 0, .int .i64 0] 26)).alloc (.cells #[.slice none 0 0, .int .i64 nx] 26) := ⟨_, rfl⟩
  obtain ⟨hz, b0, q0, q1, q2⟩ := boxes3 w W hW
  have HZ := Lib.hid hz
  have B0 := Lib.hid b0
  have K1 := Lib.hid q1
  have K2 := Lib.hid q2
  have HI := Lib.hid (disk_in h).1
  have HL := Lib.hid (disk_len h).1
  have HW := Lib.hid hw
  have HNX := Lib.hid hnx
  have HE := Lib.hid hnx'
  have hn1 : n ≤ 1000000000 := by
    have h2 := hw
    have h4 := wt_file_len X.fFiles
    have h8 : wtDisk X = wtFiles X.fFiles := rfl
    have h9 := HL.out
    omega
  have PP := Lib.hid (box_cell q0 0 _ rfl)
  clear h hnx hw b0 q0 q1 q2 hz hnx'
  go_enter Tryz.func29, Tryz.ntmps29
  go_wp2_with fail
  rw [← hW]
  clear hW
  go_loopw [12] (fun i wr => ∃ (t : Nat) (y : Value) (es : List (BEl fileB)), i = .int .i64 t ∧ t ≤ n ∧ Hid (es.map BEl.x = X.fFiles.take t) ∧ Hid (Kept (w.heap.size + 2) W wr) ∧ Hid (wr.heap[w.heap.size + 2]? = some (.cells #[y, .int .i64 nx] 26 (0, 0))) ∧ Hid (Blk 58 fileB wr (w.heap.size + 3) y es)) (fun i _ => n - (intOf i).toNat)
  case atStart => exact ⟨0, _, [], rfl, Nat.zero_le _, (show _ = _ from rfl), Kept.refl (by have := HZ.out; omega), K2, Blk.nil _ _ _ _⟩
  case round =>
    obtain ⟨t, y, es, rfl, ht, hes, hk, hbx, hbl⟩ := hrel
    have hz := HZ.out
    have KW : Hid (∀ v, Kept (w.heap.size + 2) W v → Kept w.heap.size w v) := Lib.hid fun v hv => ⟨B0.out.trans (hv.1.mono (by omega)), Nat.le_trans (by omega) hv.2⟩
    have hesl : es.length = t := by
      have := congrArg List.length hes.out
      rw [List.length_map, List.length_take, HL.out] at this
      omega
    by_cases hlt : t < n
    · have htl : t < X.fFiles.length := by have := HL.out; omega
      obtain ⟨f, hf⟩ : ∃ f, X.fFiles[t]? = some f := ⟨X.fFiles[t], by simp [htl]⟩
      obtain ⟨b, o, hd, rfl, hbl', hce, hin⟩ := HI.out.el hf
      have HF := Lib.hid hf
      have hwf : wtFile f ≤ 1000000000 := by
        have h1 := wt_file_at X.fFiles t htl
        have h2 : X.fFiles[t] = f := by rw [List.getElem?_eq_getElem htl] at hf; exact Option.some.inj hf
        rw [h2] at h1
        have h5 := HW.out
        have h8 : wtDisk X = wtFiles X.fFiles := rfl
        omega
      obtain ⟨x0, x1, x2, x3⟩ := f
      obtain ⟨⟨fa, fn, fk⟩, ⟨⟩⟩ := hd
      obtain ⟨r0, ⟨h1, hc1⟩, r2, -⟩ := hin
      have d0 : wr.cell? ⟨b, o + t * 4, none⟩ = some (.int .i64 x0) := (KW.out _ hk.out).cell hbl' (hce 0 _ rfl)
      have d1 : wr.cell? ⟨b, o + t * 4 + 1, none⟩ = some (.slice fa fn fk) := (KW.out _ hk.out).cell hbl' (hce 1 _ rfl)
      have d2 : wr.cell? ⟨b, o + t * 4 + 2, none⟩ = some (.int .i64 x2) := (KW.out _ hk.out).cell hbl' (hce 2 _ rfl)
      have d3 : wr.cell? ⟨b, o + t * 4 + 3, none⟩ = some (.bool x3) := (KW.out _ hk.out).cell hbl' (hce 3 _ rfl)
      obtain ⟨w5, hw5⟩ : ∃ u, u = wr.alloc (.cells #[.int .i64 x0, .slice fa fn fk, .int .i64 x2, .bool x3] 58) := ⟨_, rfl⟩
      obtain ⟨pb, hpb⟩ : ∃ g, g = wr.heap.size := ⟨_, rfl⟩
      have b5 : Below wr.heap.size wr w5 := by rw [hw5]; exact (Below.refl _ _).alloc (Nat.le_refl _) _
      have hx5 : w5.heap[pb]? = some (.cells #[.int .i64 x0, .slice fa fn fk, .int .i64 x2, .bool x3] 58 (0, 0)) := by rw [hw5, hpb]; exact heap_alloc_new _ _
      have X5 := Lib.hid hx5
      have K5 := Lib.hid (hk.out.below b5)
      have C5 := Lib.hid ((b5.block _ (lt_of_block hbx.out)).trans hbx.out)
      have M5 := Lib.hid (hbl.out.below b5)
      have PL : Hid (w.heap.size + 3 ≤ pb ∧ ∀ z ∈ blkOf y ++ gsOf es, z < pb) := Lib.hid ⟨by have := lt_of_block hbx.out; omega, fun z hz => by rw [hpb]; exact (hbl.out.lt z hz).2⟩
      have PIN := Lib.hid (h1.keep (KW.out _ K5.out).1)
      have R0 := Lib.hid r0
      have R2 := Lib.hid r2
      have HFEW : Hid (es.length + 1 ≤ 1000000000000) := Lib.hid (by omega)
      have HLOW : Hid (w.heap.size + 3 ≤ w5.heap.size) := Lib.hid (by have := lt_of_block hx5; have := PL.out.1; omega)
      have HWF : Hid (wtPages x1 ≤ 1000000000) := Lib.hid hwf
      have SS : Hid (∀ v, Kept w5.heap.size w5 v → v.cell? ⟨w.heap.size + 2, 0, none⟩ = some y ∧ v.cell? ⟨pb, 0, none⟩ = some (.int .i64 x0) ∧ v.cell? ⟨pb, 1, none⟩ = some (.slice fa fn fk) ∧ v.cell? ⟨pb, 2, none⟩ = some (.int .i64 x2) ∧ v.cell? ⟨pb, 3, none⟩ = some (.bool x3)) := Lib.hid fun v hv => ⟨hv.cell (lt_of_block C5.out) (box_cell C5.out 0 _ rfl), hv.cell (lt_of_block X5.out) (box_cell X5.out 0 _ rfl), hv.cell (lt_of_block X5.out) (box_cell X5.out 1 _ rfl), hv.cell (lt_of_block X5.out) (box_cell X5.out 2 _ rfl), hv.cell (lt_of_block X5.out) (box_cell X5.out 3 _ rfl)⟩
      have CC : Hid (∀ v, Kept w5.heap.size w5 v → Calls Tryz.prog 57 #[.agg #[.int .i64 x0, .slice fa fn fk, .int .i64 x2, .bool x3]] v fun e v' => ∃ (a6 : Option Addr) (n6 c6 : Nat) (G6 : List Nat), e = .returned (.agg #[.int .i64 x0, .slice a6 n6 c6, .int .i64 x2, .bool x3]) ∧ Hid (fileB.blk v' w5.heap.size ⟨x0, x1, x2, x3⟩ ((a6, n6, c6), ()) G6) ∧ Hid (Kept w5.heap.size w5 v')) := Lib.hid fun v hv =>
        (iclonefile x0 fa fn fk x1 x2 x3 v (PIN.out.keep hv.1) R0.out R2.out HWF.out).mono fun e v' ⟨a6, n6, c6, G6, he, hr, hb⟩ => ⟨a6, n6, c6, G6, he, Lib.hid (fileB.blk_mono hr hv.2), Lib.hid (hv.below hb)⟩
      have AFT : Hid (∀ (v6 v7 : World), Kept w5.heap.size w5 v6 → v6.grownBy v7 y.ownBlock → (v7.cell? ⟨w.heap.size + 2, 0, none⟩ = some y ∧ v7.cell? ⟨pb, 0, none⟩ = some (.int .i64 x0) ∧ v7.cell? ⟨pb, 1, none⟩ = some (.slice fa fn fk) ∧ v7.cell? ⟨pb, 2, none⟩ = some (.int .i64 x2) ∧ v7.cell? ⟨pb, 3, none⟩ = some (.bool x3)) ∧ v7.heap[w.heap.size + 2]? = some (.cells #[y, .int .i64 nx] 26 (0, 0)) ∧ Kept (w.heap.size + 2) W v7) := Lib.hid fun v6 v7 hk7 hg => by
        have hrow := blk_row M5.out
        have hy : ∀ z, y.ownBlock = some z → z < pb := fun z hz => PL.out.2 z (List.mem_append_left _ (blkOf_mem.2 hz))
        have h1 := (hg.block (w.heap.size + 2) (Nat.lt_of_lt_of_le (lt_of_block C5.out) hk7.2) (fun e => by have := hrow _ e.symm; omega)).trans (hk7.heap (lt_of_block C5.out) C5.out)
        have h2 := (hg.block pb (Nat.lt_of_lt_of_le (lt_of_block X5.out) hk7.2) (fun e => by have := hy _ e.symm; omega)).trans (hk7.heap (lt_of_block X5.out) X5.out)
        exact ⟨⟨box_cell h1 0 _ rfl, box_cell h2 0 _ rfl, box_cell h2 1 _ rfl, box_cell h2 2 _ rfl, box_cell h2 3 _ rfl⟩, h1, K5.out.trans ((hk7.mono (by have := HLOW.out; omega)).grown hg fun z hz => by have := hrow z hz; omega)⟩
      clear b5 hx5 hf hce h1 hc1 r0 r2 hwf
      go_upto_region 5 with fail
      rw [← hpb, ← hw5]
      clear hw5 hpb d0 d1 d2 d3
      refine region_plan (fun v => v.cell? ⟨w.heap.size + 2, 0, none⟩ = some y ∧ v.cell? ⟨pb, 0, none⟩ = some (.int .i64 x0) ∧ v.cell? ⟨pb, 1, none⟩ = some (.slice fa fn fk) ∧ v.cell? ⟨pb, 2, none⟩ = some (.int .i64 x2) ∧ v.cell? ⟨pb, 3, none⟩ = some (.bool x3)) (Pl.of [.q 0, .q 1, .q 2, .m 3, .m 4, .m 5, .q 6]) [7] (by kernel_rfl) (by kernel_rfl) (SS.out _ (Kept.refl (Nat.le_refl _)).drew) (fun hHeld => ?_)
      first | (refine pi_take (v := ?pv2_0) rfl (fun _ _ _ h => h) (by rfl) (fun v hv => ?pr2_0) ?rest2_0; case pr2_0 => (obtain ⟨u0, u1, u2, u3, u4⟩ := hv; go_simp; first | done | with_reducible rfl)) | (refine pi_pass rfl (fun _ _ _ h => h) (by rfl) ?_)
      try simp only [Act.put, List.setIfInBounds_toArray, List.set_cons_zero, List.set_cons_succ]
      first | (refine pi_take (v := ?pv2_1) rfl (fun _ _ _ h => h) (by rfl) (fun v hv => ?pr2_1) ?rest2_1; case pr2_1 => (obtain ⟨u0, u1, u2, u3, u4⟩ := hv; go_simp; first | done | with_reducible rfl)) | (refine pi_pass rfl (fun _ _ _ h => h) (by rfl) ?_)
      try simp only [Act.put, List.setIfInBounds_toArray, List.set_cons_zero, List.set_cons_succ]
      first | (refine pi_take (v := ?pv2_2) rfl (fun _ _ _ h => h) (by rfl) (fun v hv => ?pr2_2) ?rest2_2; case pr2_2 => (obtain ⟨u0, u1, u2, u3, u4⟩ := hv; go_simp; first | done | with_reducible rfl)) | (refine pi_pass rfl (fun _ _ _ h => h) (by rfl) ?_)
      try simp only [Act.put, List.setIfInBounds_toArray, List.set_cons_zero, List.set_cons_succ]
      refine pi_step rfl (fun K hK => ?_)
      first | (first | (go_at_call 57; refine (CC.out _ (Kept.refl (Nat.le_refl _)).drew).mono ?_; rintro e w7 ⟨a7, n7, c7, G7, rfl, hB7, hK7⟩; have hE7 := Lib.hid (show ElIn 58 fileB (w.heap.size + 3) w5 y es ⟨⟨x0, x1, x2, x3⟩, ((a7, n7, c7), ()), G7⟩ w7 from ⟨hK7.out, hB7.out, M5.out, HLOW.out, HFEW.out⟩)) | (refine step_pushE fileE (w := w7.alloc (.cells #[.int .i64 x0, .slice a7 n7 c7, .int .i64 x2, .bool x3] 58)) (es := es) (v := y) ⟨⟨x0, x1, x2, x3⟩, ((a7, n7, c7), ()), G7⟩ (.tmp 17) (.tmp 20) ⟨w7.heap.size, 0, none⟩ (by rfl) (by rfl) (by rfl) (by rfl) (hE7.out.cells rfl) (hE7.out.pages _) (hE7.out.elem _) hE7.out.apart (hE7.out.base _) hE7.out.few ?_; intro g8 c8 w8 hm8 hg8 hat8; have hT8 := Lib.hid (AFT.out _ w8 (hK7.out.alloc _) hg8); have hM8 := Lib.hid hm8; obtain ⟨u0, -⟩ := hT8.out.1; have u1 : w8.frozen? ⟨w.heap.size + 2, 0, none⟩ = false := (by simp [World.frozen?, hT8.out.2.1]); clear hm8 hg8 hat8)) | (go_simp; first | (go_at_call 57; refine (CC.out _ (Kept.refl (Nat.le_refl _)).drew).mono ?_; rintro e w7 ⟨a7, n7, c7, G7, rfl, hB7, hK7⟩; have hE7 := Lib.hid (show ElIn 58 fileB (w.heap.size + 3) w5 y es ⟨⟨x0, x1, x2, x3⟩, ((a7, n7, c7), ()), G7⟩ w7 from ⟨hK7.out, hB7.out, M5.out, HLOW.out, HFEW.out⟩)) | (refine step_pushE fileE (w := w7.alloc (.cells #[.int .i64 x0, .slice a7 n7 c7, .int .i64 x2, .bool x3] 58)) (es := es) (v := y) ⟨⟨x0, x1, x2, x3⟩, ((a7, n7, c7), ()), G7⟩ (.tmp 17) (.tmp 20) ⟨w7.heap.size, 0, none⟩ (by rfl) (by rfl) (by rfl) (by rfl) (hE7.out.cells rfl) (hE7.out.pages _) (hE7.out.elem _) hE7.out.apart (hE7.out.base _) hE7.out.few ?_; intro g8 c8 w8 hm8 hg8 hat8; have hT8 := Lib.hid (AFT.out _ w8 (hK7.out.alloc _) hg8); have hM8 := Lib.hid hm8; obtain ⟨u0, -⟩ := hT8.out.1; have u1 : w8.frozen? ⟨w.heap.size + 2, 0, none⟩ = false := (by simp [World.frozen?, hT8.out.2.1]); clear hm8 hg8 hat8))
      refine hK.out _ _ (by first | exact hT8.out.1 | exact SS.out _ hK7.out | exact SS.out _ (hK7.out.alloc _)) (fun hHeld2 => ?_)
      clear hK K hHeld
      have hHeld := hHeld2
      clear hHeld2
      try simp only [Act.put, List.setIfInBounds_toArray, List.set_cons_zero, List.set_cons_succ]
      refine pi_step rfl (fun K hK => ?_)
      go_simp
      refine hK.out _ _ (by first | exact hT8.out.1 | exact SS.out _ hK7.out | exact SS.out _ (hK7.out.alloc _)) (fun hHeld2 => ?_)
      clear hK K hHeld
      have hHeld := hHeld2
      clear hHeld2
      try simp only [Act.put, List.setIfInBounds_toArray, List.set_cons_zero, List.set_cons_succ]
      refine pi_step rfl (fun K hK => ?_)
      first | (first | (go_at_call 57; refine (CC.out _ (Kept.refl (Nat.le_refl _)).drew).mono ?_; rintro e w7 ⟨a7, n7, c7, G7, rfl, hB7, hK7⟩; have hE7 := Lib.hid (show ElIn 58 fileB (w.heap.size + 3) w5 y es ⟨⟨x0, x1, x2, x3⟩, ((a7, n7, c7), ()), G7⟩ w7 from ⟨hK7.out, hB7.out, M5.out, HLOW.out, HFEW.out⟩)) | (refine step_pushE fileE (w := w7.alloc (.cells #[.int .i64 x0, .slice a7 n7 c7, .int .i64 x2, .bool x3] 58)) (es := es) (v := y) ⟨⟨x0, x1, x2, x3⟩, ((a7, n7, c7), ()), G7⟩ (.tmp 17) (.tmp 20) ⟨w7.heap.size, 0, none⟩ (by rfl) (by rfl) (by rfl) (by rfl) (hE7.out.cells rfl) (hE7.out.pages _) (hE7.out.elem _) hE7.out.apart (hE7.out.base _) hE7.out.few ?_; intro g8 c8 w8 hm8 hg8 hat8; have hT8 := Lib.hid (AFT.out _ w8 (hK7.out.alloc _) hg8); have hM8 := Lib.hid hm8; obtain ⟨u0, -⟩ := hT8.out.1; have u1 : w8.frozen? ⟨w.heap.size + 2, 0, none⟩ = false := (by simp [World.frozen?, hT8.out.2.1]); clear hm8 hg8 hat8)) | (go_simp; first | (go_at_call 57; refine (CC.out _ (Kept.refl (Nat.le_refl _)).drew).mono ?_; rintro e w7 ⟨a7, n7, c7, G7, rfl, hB7, hK7⟩; have hE7 := Lib.hid (show ElIn 58 fileB (w.heap.size + 3) w5 y es ⟨⟨x0, x1, x2, x3⟩, ((a7, n7, c7), ()), G7⟩ w7 from ⟨hK7.out, hB7.out, M5.out, HLOW.out, HFEW.out⟩)) | (refine step_pushE fileE (w := w7.alloc (.cells #[.int .i64 x0, .slice a7 n7 c7, .int .i64 x2, .bool x3] 58)) (es := es) (v := y) ⟨⟨x0, x1, x2, x3⟩, ((a7, n7, c7), ()), G7⟩ (.tmp 17) (.tmp 20) ⟨w7.heap.size, 0, none⟩ (by rfl) (by rfl) (by rfl) (by rfl) (hE7.out.cells rfl) (hE7.out.pages _) (hE7.out.elem _) hE7.out.apart (hE7.out.base _) hE7.out.few ?_; intro g8 c8 w8 hm8 hg8 hat8; have hT8 := Lib.hid (AFT.out _ w8 (hK7.out.alloc _) hg8); have hM8 := Lib.hid hm8; obtain ⟨u0, -⟩ := hT8.out.1; have u1 : w8.frozen? ⟨w.heap.size + 2, 0, none⟩ = false := (by simp [World.frozen?, hT8.out.2.1]); clear hm8 hg8 hat8))
      refine hK.out _ _ (by first | exact hT8.out.1 | exact SS.out _ hK7.out | exact SS.out _ (hK7.out.alloc _)) (fun hHeld2 => ?_)
      clear hK K hHeld
      have hHeld := hHeld2
      clear hHeld2
      try simp only [Act.put, List.setIfInBounds_toArray, List.set_cons_zero, List.set_cons_succ]
      first | (refine pi_take (v := ?pv2_6) rfl (fun _ _ _ h => h) (by rfl) (fun v hv => ?pr2_6) ?rest2_6; case pr2_6 => (obtain ⟨u0, u1, u2, u3, u4⟩ := hv; go_simp; first | done | with_reducible rfl)) | (refine pi_pass rfl (fun _ _ _ h => h) (by rfl) ?_)
      try simp only [Act.put, List.setIfInBounds_toArray, List.set_cons_zero, List.set_cons_succ]
      refine pi_end ?_
      refine z_step rfl (fun K hK => ?_)
      go_simp
      refine hK.out _ _ ?_
      clear hK K
      try simp only [Act.put, List.setIfInBounds_toArray, List.set_cons_zero, List.set_cons_succ]
      refine z_end ?_
      clear hHeld
      have R1 := Lib.hid (map_next (e := (⟨⟨x0, x1, x2, x3⟩, ((a7, n7, c7), ()), G7⟩ : BEl fileB)) hes.out HF.out rfl)
      have hT := hT8.out.2
      have R2 : Hid (Kept (w.heap.size + 2) W (w8.setCell ⟨w.heap.size + 2, 0, none⟩ (.slice (some ⟨g8, 0, none⟩) (es.length + 1) c8))) := Lib.hid (hT.2.set (Nat.le_refl _) _)
      have R3 : Hid ((w8.setCell ⟨w.heap.size + 2, 0, none⟩ (.slice (some ⟨g8, 0, none⟩) (es.length + 1) c8)).heap[w.heap.size + 2]? = some (.cells #[.slice (some ⟨g8, 0, none⟩) (es.length + 1) c8, .int .i64 nx] 26 (0, 0))) := Lib.hid (blk_put hT.1 rfl)
      have R4 : Hid (Blk 58 fileB (w8.setCell ⟨w.heap.size + 2, 0, none⟩ (.slice (some ⟨g8, 0, none⟩) (es.length + 1) c8)) (w.heap.size + 3) (.slice (some ⟨g8, 0, none⟩) (es.length + 1) c8) (es ++ [⟨⟨x0, x1, x2, x3⟩, ((a7, n7, c7), ()), G7⟩])) := Lib.hid (hM8.out.put _ fun b hb => by have := (hM8.out.lt b hb).1; omega)
      rw [hesl] at R2 R3 R4
      clear hT hT8 hM8 u0 u1
      go_wp2_with fail
      go_roundw
      case rel => exact ⟨t + 1, _, _, by go_num, by omega, R1, R2, R3, R4⟩
      case measure => simp [intOf]; omega
    · have hkl : t = n := by omega
      have hx1 : es.map BEl.x = X.fFiles := by
        have := hes.out
        rw [hkl, List.take_of_length_le (by have := HL.out; omega)] at this
        exact this
      obtain ⟨a9, c9, rfl, -⟩ := hbl.out.slice
      have e0 := box_cell hbx.out 0 _ rfl
      have e1 := box_cell hbx.out 1 _ rfl
      have hr := hk.out.heap (b := w.heap.size + 1) (by omega) K1.out
      have r0 := box_cell hr 0 _ rfl
      have r1 := box_cell hr 1 _ rfl
      have rf : ∀ j, wr.frozen? ⟨w.heap.size + 1, j, none⟩ = false := fun j => by simp [World.frozen?, hr]
      have FB := Lib.hid (disk_blk hbl.out HNX.out)
      rw [hx1, show (⟨X.fFiles, nx⟩ : DiskD) = X by rw [HE.out]] at FB
      have NE : Hid (w.heap.size + 1 ∉ blkOf (.slice a9 es.length c9) ++ gsOf es) := Lib.hid fun hm => by have := (hbl.out.lt _ hm).1; omega
      have KB := Lib.hid (KW.out _ hk.out)
      clear hx1 hr
      go_wp2_with fail
      refine bodyPost_ret (v := .agg #[.slice a9 es.length c9, .int .i64 nx]) (by simp [results, Tryz.results29, go_sem, *]) rfl ⟨a9, es.length, c9, blkOf (.slice a9 es.length c9) ++ gsOf es, by rw [HE.out], ?_, ?_⟩
      · exact diskB.blk_mono (diskB.blk_keep FB.out (((SameBlk.refl _ _).set _ NE.out).set _ NE.out)) (by omega)
      · exact ((KB.out.set (by simp only []; omega) _).set (by simp only []; omega) _).1
end Go.Proofs.YtjdjceohlcimaaaGreatDoor
/- The program's CreateFile, by contract. -/
namespace Go.Proofs.YtjdjceohlcimaaaGreatDoor
open Go.RowKit
set_option linter.unusedVariables false
end Go.Proofs.YtjdjceohlcimaaaGreatDoor
