/- Texts joined: FmtRows FmtPages ProwsM ParsePS ParsePi Frowi FmtRowi Build FmtPagei OverS PackS SameRows Only Draw. -/
import Derived.Test.YtoiobaiiammehaaGreatDoorPartPagePackingc
import Derived.Deep.RegionHeld3
import Derived.Shelf.Strings.Builder2
import Derived.Deep.QuietTactic
import Derived.BigQuiet
import Derived.StillTailTactics
import Derived.Laws.StructEq
import Derived.Test.YtoiobaiiammehaaGreatDoorProg
import Derived.WalkKit
import Derived.Below
import Derived.Lib.Hide
import Derived.OwnWalk
import Derived.OpenShut
/- The reference's FormatRows, by contract. -/
namespace Go.Proofs.YtoiobaiiammehaaGreatDoor
open Go.RowKit Go.Lib

theorem cat3 (a b : List UInt8) : (⟨a.toArray⟩ : ByteArray) ++ ⟨#[32]⟩ ++ ⟨b.toArray⟩ = ⟨(a ++ [32] ++ b).toArray⟩ := by
  have e : (⟨#[32]⟩ : ByteArray) = ⟨[32].toArray⟩ := rfl
  rw [e, ByteArray.mk_append_mk, ByteArray.mk_append_mk]
set_option maxRecDepth 100000 in
theorem sfrows (a : Option Addr) (len cap : Nat) (L : List R) (w : World) (h : IsRows w a len L) (hlen : len ≤ 1000000000000) :
    Calls Tryz.prog 42 #[.slice a len cap] w fun e w' => e = .returned (.string ⟨(fmtRows L).toArray⟩) ∧ Below w.heap.size w w' := by
  have HI := Lib.hid h
  obtain ⟨hl, hwf, hc⟩ := h
  have HL := Lib.hid hl
  have HC := Lib.hid hc
  clear hl hwf hc
  go_enter Tryz.func42, Tryz.ntmps42
  go_wp2_with fail
  go_loopw [3, 4] (fun n i wr => ∃ (k : Nat) (x : List UInt8), n = .string ⟨x.toArray⟩ ∧ i = .int .i64 k ∧ k ≤ len ∧ Hid (x = join ((L.take k).map R.fmt) [32]) ∧ Hid (k = 0 ∨ okRows L = true) ∧ Hid (Below w.heap.size w wr)) (fun _ i _ => len - (RowKit.intOf i).toNat)
  case atStart => exact ⟨0, [], rfl, rfl, Nat.zero_le _, rfl, .inl rfl, Below.refl _ _⟩
  case round =>
    obtain ⟨k, x, rfl, rfl, hk, hx, hor, hb⟩ := hrel
    by_cases hlt : k < len
    · obtain ⟨b, o, rfl, hbl, hc⟩ : ∃ b o : Nat, a = some ⟨b, o, none⟩ ∧ b < w.heap.size ∧ ∀ t, t < len → RowAt w b (o + t * 3) (L.getD t R.zero) := by
        rcases HC.out with h0 | h0
        · omega
        · exact h0
      obtain ⟨r, hr⟩ : ∃ r, r = L.getD k R.zero := ⟨_, rfl⟩
      have hcr : RowAt w b (o + k * 3) r := by rw [hr]; exact hc k hlt
      have HCR := Lib.hid hcr
      have HR := Lib.hid hr
      clear hr hc hcr
      go_wp2_with fail
      refine (sare _ len cap L _ (HI.out.keep hb.out) (by omega)).mono ?_
      rintro e w1 ⟨rfl, b1⟩
      have B1 := Lib.hid (hb.out.trans (b1.mono hb.out.size))
      clear b1
      obtain ⟨c0, c1, c2⟩ := HCR.out.below B1.out hbl
      cases hok : okRows L with
      | false =>
        have hk0 : k = 0 := by rcases hor.out with h | h; exact h; rw [hok] at h; cases h
        subst hk0
        have hx0 : x = [] := hx.out
        subst hx0
        have HF : Hid (fmtRows L = []) := by show _ = _; unfold fmtRows; rw [hok]; rfl
        clear hok
        go_wp2_with fail
        go_ret
        exact ⟨by rw [HF.out]; rfl, B1.out⟩
      | true =>
        have h24 := okRows_length hok
        have hxl : x.length ≤ 216 := by
          rw [hx.out]
          have := join_fmt_length (L.take k)
          rw [List.length_take] at this
          omega
        have HN := Lib.hid (join_next L k (by rw [HL.out]; exact hlt))
        rw [← HR.out] at HN
        have hfl := fmt_length r
        have HOK := Lib.hid hok
        clear hok
        by_cases hk0 : k = 0
        · subst hk0
          have hx0 : x = [] := hx.out
          subst hx0
          simp only [Nat.zero_mul, Nat.add_zero] at c0 c1 c2
          go_wp2_with fail
          refine (sfrow r _).mono ?_
          rintro e w2 ⟨rfl, b2⟩
          have B2 := Lib.hid (B1.out.trans (b2.mono B1.out.size))
          clear b2
          have n1 : ¬ 9223372036854775807 < r.fmt.length := by omega
          go_wp2_with fail
          go_roundw
          case rel =>
            refine ⟨1, r.fmt, by first | rfl | simp, rfl, by omega, ?_, .inr HOK.out, B2⟩
            show _ = _
            have := HN.out
            rw [if_pos trivial] at this
            exact this.symm
          case measure => simp [RowKit.intOf]; omega
        · have hpos : (0 : Int) < k := by omega
          have n0 : ¬ 9223372036854775807 < x.length + 1 := by omega
          go_wp2_with fail
          refine (sfrow r _).mono ?_
          rintro e w2 ⟨rfl, b2⟩
          have B2 := Lib.hid (B1.out.trans (b2.mono B1.out.size))
          have n1 : ¬ 9223372036854775807 < x.length + 1 + r.fmt.length := by omega
          clear b2
          go_wp2_with fail
          go_roundw
          case rel =>
            refine ⟨k + 1, x ++ [32] ++ r.fmt, by rw [← cat3], by go_num, by omega, ?_, .inr HOK.out, B2⟩
            show _ = _
            rw [HN.out, if_neg hk0, hx.out]
          case measure => simp [RowKit.intOf]; omega
    · have hkl : k = len := by omega
      have hfin : fmtRows L = x := by
        have hx' := hx.out
        rw [hkl, ← HL.out, List.take_length] at hx'
        rcases hor.out with h | h
        · have : L = [] := List.eq_nil_of_length_eq_zero (by rw [HL.out]; omega)
          subst this
          rw [hx']; rfl
        · unfold fmtRows; rw [if_pos h, hx']
      have HA := Lib.hid hfin
      have hd : decide ((k : Int) < (len : Int)) = false := decide_eq_false (by omega)
      clear hfin hkl
      go_wp2_with fail
      go_ret
      exact ⟨by rw [HA.out]; rfl, hb.out⟩
end Go.Proofs.YtoiobaiiammehaaGreatDoor
/- The reference's FormatPages (and its check of all pages), by contract. -/
namespace Go.Proofs.YtoiobaiiammehaaGreatDoor
open Go.RowKit Go.Lib

set_option maxRecDepth 100000 in
theorem sallpages (a : Option Addr) (n c : Nat) (P : List (List R)) (w : World) (h : SeqIn pageRep w a n P) (hf : P.flatten.length ≤ 1000000000000) :
    Calls Tryz.prog 38 #[.slice a n c] w fun e w' => e = .returned (.bool (R.allPages P)) ∧ Below w.heap.size w w' := by
  have HL := Lib.hid h.1
  have hm := h.2.1
  unfold maxLen at hm
  have HI := Lib.hid h
  obtain ⟨N, hN⟩ : ∃ N, N = P.flatten.length := ⟨_, rfl⟩
  rw [← hN] at hf
  have HN := Lib.hid hN
  clear h hN
  go_enter Tryz.func38, Tryz.ntmps38
  go_wp2_with fail
  go_loopw [3] (fun i wr => ∃ t : Nat, i = .int .i64 t ∧ t ≤ n ∧ Hid (R.allPages (P.take t) = true) ∧ Hid (Below w.heap.size w wr)) (fun i _ => n - (RowKit.intOf i).toNat)
  case atStart => exact ⟨0, rfl, Nat.zero_le _, (show R.allPages (P.take 0) = true by simp [R.allPages]), Below.refl _ _⟩
  case round =>
    obtain ⟨t, rfl, ht, hok, hb⟩ := hrel
    by_cases hlt : t < n
    · have htl : t < P.length := by have := HL.out; omega
      have hp : P[t]? = some P[t] := by simp [htl]
      obtain ⟨b, o, d, k, m, rfl, hbl, hcell, hin, -⟩ := (HI.out.keep hb.out).at hp
      have hkn : k ≤ 1000000000000 := by
        have h1 := flat_mem P t htl
        rw [hin.1, ← HN.out] at h1
        omega
      have IN := Lib.hid hin
      have HT := Lib.hid (R.allPages_take htl)
      have HBAD := Lib.hid (R.allPages_bad t htl)
      obtain ⟨p, hpp⟩ : ∃ p, p = P[t] := ⟨_, rfl⟩
      rw [← hpp] at IN HT HBAD
      clear hin hp hpp
      go_wp2_with fail
      refine (svalidpage d k m p _ IN.out hkn).mono ?_
      rintro e w1 ⟨rfl, b1⟩
      have B1 := Lib.hid (hb.out.trans (b1.mono hb.out.size))
      clear b1
      cases hv : R.pageOk p with
      | false =>
        have HF := Lib.hid (HBAD.out hv)
        clear hv
        go_wp2_with fail
        go_ret
        exact ⟨by rw [HF.out]; rfl, B1.out⟩
      | true =>
        have HV := Lib.hid hv
        clear hv
        go_wp2_with fail
        go_roundw
        case rel => exact ⟨t + 1, by go_num, by omega, (by show _ = _; rw [HT.out, hok.out, HV.out]; rfl), B1⟩
        case measure => simp [RowKit.intOf]; omega
    · have hkl : t = n := by omega
      have hall : R.allPages P = true := by
        have := hok.out
        rw [hkl, List.take_of_length_le (by have := HL.out; omega)] at this
        exact this
      have HA := Lib.hid hall
      clear hall hkl
      go_wp2_with fail
      go_ret
      exact ⟨by rw [HA.out]; rfl, hb.out⟩
theorem cat_page (a b : List UInt8) : ((⟨a.toArray⟩ : ByteArray) ++ ⟨#[91]⟩ ++ ⟨b.toArray⟩) ++ ⟨#[93]⟩ = ⟨(a ++ (91 :: (b ++ [93]))).toArray⟩ := by
  have e : (⟨#[91]⟩ : ByteArray) = ⟨[91].toArray⟩ := rfl
  have e2 : (⟨#[93]⟩ : ByteArray) = ⟨[93].toArray⟩ := rfl
  rw [e, e2, ByteArray.mk_append_mk, ByteArray.mk_append_mk, ByteArray.mk_append_mk]
  congr 1
  simp
theorem txt_length (P : List (List R)) : (P.flatMap R.pageTxt).length ≤ 218 * P.length := by
  induction P with
  | nil => simp
  | cons p P ih =>
    have h1 := fmtRows_length p
    rw [List.flatMap_cons, List.length_append, List.length_cons]
    have : (R.pageTxt p).length = (fmtRows p).length + 2 := by simp [R.pageTxt]
    omega
theorem txt_next (P : List (List R)) (t : Nat) (ht : t < P.length) : (P.take (t + 1)).flatMap R.pageTxt = (P.take t).flatMap R.pageTxt ++ (91 :: (fmtRows P[t] ++ [93])) := by
  rw [List.take_succ_eq_append_getElem ht, List.flatMap_append, List.flatMap_singleton]
  rfl
set_option maxRecDepth 100000 in
theorem sfpages (a : Option Addr) (n c : Nat) (P : List (List R)) (w : World) (h : SeqIn pageRep w a n P) (hn : n ≤ 1000000000) (hf : P.flatten.length ≤ 1000000000000) :
    Calls Tryz.prog 19 #[.slice a n c] w fun e w' => e = .returned (.string ⟨(R.fmtPages P).toArray⟩) ∧ Below w.heap.size w w' := by
  have HL := Lib.hid h.1
  have HI := Lib.hid h
  have HFL := Lib.hid hf
  obtain ⟨N, hN⟩ : ∃ N, N = P.flatten.length := ⟨_, rfl⟩
  rw [← hN] at hf
  have HN := Lib.hid hN
  clear h hN
  go_enter Tryz.func19, Tryz.ntmps19
  go_wp2_with fail
  go_loopw [3, 4] (fun s i wr => ∃ (t : Nat) (x : List UInt8), s = .string ⟨x.toArray⟩ ∧ i = .int .i64 t ∧ t ≤ n ∧ Hid (x = (P.take t).flatMap R.pageTxt) ∧ Hid (t = 0 ∨ R.allPages P = true) ∧ Hid (Below w.heap.size w wr)) (fun _ i _ => n - (RowKit.intOf i).toNat)
  case atStart => exact ⟨0, [], rfl, rfl, Nat.zero_le _, rfl, .inl rfl, Below.refl _ _⟩
  case round =>
    obtain ⟨t, x, rfl, rfl, ht, hx, hor, hb⟩ := hrel
    by_cases hlt : t < n
    · have htl : t < P.length := by have := HL.out; omega
      go_wp2_with fail
      refine (sallpages a n c P _ (HI.out.keep hb.out) HFL.out).mono ?_
      rintro e w1 ⟨rfl, b1⟩
      have B1 := Lib.hid (hb.out.trans (b1.mono hb.out.size))
      clear b1
      cases hok : R.allPages P with
      | false =>
        have hk0 : t = 0 := by rcases hor.out with h | h; exact h; rw [hok] at h; cases h
        subst hk0
        have hx0 : x = [] := hx.out
        subst hx0
        have HF : Hid (R.fmtPages P = []) := by show _ = _; unfold R.fmtPages; rw [hok]; rfl
        clear hok
        go_wp2_with fail
        go_ret
        exact ⟨by rw [HF.out]; rfl, B1.out⟩
      | true =>
        have hp : P[t]? = some P[t] := by simp [htl]
        obtain ⟨b, o, d, k, m, rfl, hbl, hcell, hin, -⟩ := (HI.out.keep B1.out).at hp
        have hkn : k ≤ 1000000000000 := by
          have h1 := flat_mem P t htl
          rw [hin.1, ← HN.out] at h1
          omega
        have hxl : x.length ≤ 218000000000 := by
          have h2 := txt_length (P.take t)
          rw [← hx.out, List.length_take] at h2
          omega
        have HNX := Lib.hid (txt_next P t htl)
        obtain ⟨p, hpp⟩ : ∃ p, p = P[t] := ⟨_, rfl⟩
        rw [← hpp] at hin HNX
        have hpl := fmtRows_length p
        have IN := Lib.hid (rows_in hin)
        have HOK := Lib.hid hok
        have n0 : ¬ 9223372036854775807 < x.length + 1 := by omega
        clear hok hin hp hpp
        go_wp2_with fail
        refine (sfrows d k m p _ IN.out hkn).mono ?_
        rintro e w2 ⟨rfl, b2⟩
        have B2 := Lib.hid (B1.out.trans (b2.mono B1.out.size))
        obtain ⟨z, hz⟩ : ∃ z, z = fmtRows p := ⟨_, rfl⟩
        rw [← hz] at HNX hpl ⊢
        clear b2 hz
        have n1 : ¬ 9223372036854775807 < x.length + 1 + z.length := by omega
        have n2 : ¬ 9223372036854775807 < x.length + 1 + z.length + 1 := by omega
        go_wp2_with fail
        rw [cat_page]
        go_roundw
        case rel => exact ⟨t + 1, _, rfl, by go_num, by omega, (by show _ = _; rw [HNX.out, hx.out]), .inr HOK.out, B2⟩
        case measure => simp [RowKit.intOf]; omega
    · have hkl : t = n := by omega
      have hfin : R.fmtPages P = x := by
        unfold R.fmtPages
        rcases hor.out with h0 | h0
        · have hP : P = [] := List.eq_nil_of_length_eq_zero (by have := HL.out; omega)
          rw [hx.out, hP, List.take_nil]
          rfl
        · rw [if_pos h0, hx.out, hkl, List.take_of_length_le (by have := HL.out; omega)]
      have HF := Lib.hid hfin
      clear hfin hkl
      go_wp2_with fail
      go_ret
      exact ⟨by rw [HF.out]; rfl, hb.out⟩
end Go.Proofs.YtoiobaiiammehaaGreatDoor
/- The reference's ParseRows, by contract: the rows in memory of the call's own. -/
namespace Go.Proofs.YtoiobaiiammehaaGreatDoor
open Go.RowKit

/-- What ParseRows answers: a slice in memory of its own, and whether. -/
def RowsGive (l : List UInt8) (w : World) (e : Ending) (w' : World) : Prop := ∃ a n c F, e = .returned (.tuple #[.slice a n c, .bool (parseRows l).isSome]) ∧ SeqOwn rowRep w' w.heap.size a n ((parseRows l).getD []) F ∧ (a = none → c = 0)
theorem rowsgive_no {l : List UInt8} {w w' : World} {x : Addr} {cap : Nat} (h : parseRows l = none) : RowsGive l w (.returned (.tuple #[.slice (some x) 0 cap, .bool false])) w' := by
  refine ⟨some x, 0, cap, [], ?_, ?_, fun e => by cases e⟩
  · rw [h]; rfl
  · rw [h]; exact ⟨rfl, Nat.zero_le _, .inl ⟨rfl, rfl⟩⟩
theorem rowsgive_yes {l : List UInt8} {w w' : World} {a : Option Addr} {n cap : Nat} {M : List R} (h : parseRows l = some M) (ho : Mine w' w.heap.size (.slice a n cap) M) (hwf : ∀ r ∈ M, r.wf) (hn : n ≤ maxLen) : RowsGive l w (.returned (.tuple #[.slice a n cap, .bool true])) w' := by
  obtain ⟨F, hF⟩ := mine_own ho hwf hn
  refine ⟨a, n, cap, F, ?_, ?_, fun e => ?_⟩
  · rw [h]; rfl
  · rw [h]; exact hF
  · subst e
    by_cases hz : Value.slice none n cap = .slice none 0 0
    · injection hz with _ _ e3
    · obtain ⟨g, c', e, -, -⟩ := ho.addr hz
      injection e with e1
      cases e1
set_option maxRecDepth 100000 in
theorem sprowsM_some (s : ByteArray) (hs : s.size ≤ 1000000000) (hpos : s.data.toList ≠ []) (w : World) : Calls Tryz.prog 37 #[.string s] w fun e w' => RowsGive s.data.toList w e w' ∧ Below w.heap.size w w' := by
  have hsl : s.data.toList.length = s.size := by simp
  have hsne : (s.toList == []) = false := by rw [beq_eq_false_iff_ne, ByteArray.toList_eq]; exact hpos
  have HP := Lib.hid hpos
  have hcl := Cut.cut_length 32 s.data.toList
  rw [hsl] at hcl
  have hmem : ∀ (t : Nat) (ht : t < (Cut.cut 32 s.data.toList).length), (Cut.cut 32 s.data.toList)[t].length ≤ s.size := by
    intro t ht
    have hj := Cut.join_cut 32 s.data.toList
    rw [← hsl]
    conv => rhs; rw [← hj]
    exact Cut.join_mem_length _ [32] _ (List.getElem_mem ht)
  have HM := Lib.hid hmem
  obtain ⟨ps, hps⟩ : ∃ ps, ps = Cut.cut 32 s.data.toList := ⟨_, rfl⟩
  have HBAD := Lib.hid (parseRows_bad s.data.toList hpos)
  have HALL := Lib.hid (parseRows_all s.data.toList hpos)
  rw [← hps] at HM hcl HBAD HALL
  have HC := Lib.hid hps
  clear hps hsl hmem hpos
  have hb0 : Below w.heap.size w (w.alloc (.cells #[] 34)) := (Below.refl _ _).alloc (Nat.le_refl _) _
  have HO0 := Lib.hid (World.ownsRow_made (e := 34) (size := 3) (base := w.heap.size) w #[] 0 (Nat.le_refl _) (by unfold maxLen; omega) rfl)
  have HB0 := Lib.hid hb0
  clear hb0
  go_enter Tryz.func37, Tryz.ntmps37
  go_wp2_with fail
  refine (scut s 32 32 rfl (by omega) _).mono ?_
  rintro e w1 ⟨g, cap, rfl, hg, hst, b1⟩
  rw [← HC.out] at hst ⊢
  have HO1 := Lib.hid (own_below HO0.out b1)
  have HB1 := Lib.hid (HB0.out.trans (b1.mono HB0.out.size))
  have HS1 := Lib.hid hst
  clear b1 hst
  go_wp2_with fail
  go_loopw [4, 6] (fun v i wr => ∃ (k : Nat) (x : Value) (M : List R), i = .int .i64 k ∧ x = v ∧ k ≤ ps.length ∧ Hid (M.length = k) ∧ Hid (readAll (ps.take k) = some M) ∧ Hid (wr.ownsRow w.heap.size 34 3 x M.length (cells3 M)) ∧ Hid (IsStrs wr g ps) ∧ Hid (Below w.heap.size w wr)) (fun _ i _ => ps.length - (intOf i).toNat)
  case atStart => exact ⟨0, _, [], rfl, rfl, Nat.zero_le _, rfl, rfl, HO1, HS1, HB1⟩
  case round =>
    obtain ⟨k, x, M, rfl, rfl, hk, hml, hread, hown, hst, hb⟩ := hrel
    have hsz := hb.out.size
    by_cases hlt : k < ps.length
    · have hc : wr.cell? ⟨g, k, none⟩ = some (.string ⟨ps[k].toArray⟩) := hst.out.2 k hlt
      obtain ⟨p, hp⟩ : ∃ p, p = ps[k] := ⟨_, rfl⟩
      rw [← hp] at hc
      have hpl : p.length ≤ s.size := by rw [hp]; exact HM.out k hlt
      have HN := Lib.hid (readAll_next ps k hlt M hread.out)
      have HB := Lib.hid (HBAD.out k hlt)
      rw [← hp] at HN HB
      clear hp
      have PR := Lib.hid (sprow ⟨p.toArray⟩ (by simp [ByteArray.size]; omega))
      unfold RowAns at PR
      have hpd : (⟨p.toArray⟩ : ByteArray).data.toList = p := by simp
      rw [hpd] at PR
      clear hpd
      cases hpr : parseRow p with
      | none =>
        rw [hpr] at PR HN
        have HNO := Lib.hid (HB.out hpr)
        clear hpr
        go_wp2_with fail
        refine (PR.out _).mono ?_
        rintro e w2 ⟨rfl, b2⟩
        have B2 := Lib.hid (hb.out.trans (b2.mono hsz))
        clear b2
        go_wp2_with fail
        go_ret2
        exact ⟨rowsgive_no HNO.out, (B2.out.alloc B2.out.size _).alloc (by have := B2.out.size; simp; omega) _⟩
      | some r =>
        rw [hpr] at PR HN
        simp only [Option.getD_some, Option.isSome_some] at PR
        clear hpr
        go_wp2_with fail
        refine (PR.out _).mono ?_
        rintro e w2 ⟨rfl, b2⟩
        have B2 := Lib.hid (hb.out.trans (b2.mono hsz))
        have O2 := Lib.hid (own_below hown.out b2)
        have S2 := Lib.hid (hst.out.keep b2)
        clear b2
        have O3 := Lib.hid (O2.out.alloc (.cells #[.int .i64 r.key, .int .i64 r.value, .int .i64 r.width] 34))
        have hB : w.heap.size ≤ (w2.alloc (.cells #[.int .i64 r.key, .int .i64 r.value, .int .i64 r.width] 34)).heap.size := by have := B2.out.size; simp; omega
        have hbox : Below w2.heap.size w2 (w2.alloc (.cells #[.int .i64 r.key, .int .i64 r.value, .int .i64 r.width] 34)) := (Below.refl _ _).alloc (Nat.le_refl _) _
        have S3 := Lib.hid (S2.out.keep hbox)
        have B3 := Lib.hid (B2.out.trans (hbox.mono B2.out.size))
        clear hbox
        go_wp2_with (at_builtin; refine wpList_pushR (.tmp 33) (.tmp 35) r (w2.heap.size + 1) (by simp) rfl rfl rfl rfl O3.out hB (by have := hml.out; omega) ?_; intro v4 w4 hown4 hb4 hrest4)
        have S4 : IsStrs w4 g ps := by
          obtain ⟨⟨cs, fz, hcs⟩, -⟩ := S3.out
          exact S3.out.same (hrest4 g S3.out.lt (own_apart O3.out hcs))
        go_roundw
        case rel =>
          refine ⟨k + 1, _, M ++ [r], by go_num, rfl, by omega, ?_, HN.out, hown4, S4, B3.out.trans hb4⟩
          show _ = _
          rw [List.length_append, hml.out]; rfl
        case measure => simp [intOf]; omega
    · have hkl : k = ps.length := by omega
      have hall : readAll ps = some M := by have := hread.out; rwa [hkl, List.take_length] at this
      have HAN := Lib.hid (HALL.out M hall)
      have HWF := Lib.hid (readAll_wf hall)
      obtain ⟨a', cap', rfl, hrows⟩ := rows_of_own hown.out HWF.out
      have HROWS := Lib.hid hrows
      have hd : decide ((k : Int) < (ps.length : Int)) = false := decide_eq_false (by omega)
      have hml' : M.length ≤ 1000000001 := by have := hml.out; omega
      clear hkl hall hrows
      go_wp2_with fail
      refine (sare a' M.length cap' M _ HROWS.out (by omega)).mono ?_
      rintro e w2 ⟨rfl, b2⟩
      have B2 := Lib.hid (hb.out.trans (b2.mono hsz))
      have R2 := Lib.hid (own_below hown.out b2)
      clear b2
      cases hok : okRows M with
      | false =>
        rw [hok] at HAN
        clear hok
        go_wp2_with fail
        go_ret2
        exact ⟨rowsgive_no (by rw [HAN.out]; rfl), B2.out.alloc B2.out.size _⟩
      | true =>
        rw [hok] at HAN
        clear hok
        go_wp2_with fail
        go_ret2
        exact ⟨rowsgive_yes (by rw [HAN.out]; rfl) R2.out HWF.out (by unfold maxLen; omega), B2.out⟩
set_option maxRecDepth 100000 in
theorem sprowsM_none (s : ByteArray) (h0 : s.data.toList = []) (w : World) : Calls Tryz.prog 37 #[.string s] w fun e w' => RowsGive s.data.toList w e w' ∧ Below w.heap.size w w' := by
  have hsz : s.size = 0 := by have : s.data.toList.length = s.size := by simp
                              rw [h0] at this; simpa using this.symm
  have hs0 : s = ⟨#[]⟩ := by
    apply ByteArray.ext
    apply Array.toList_inj.1
    exact h0
  have HY := Lib.hid fun (x : Addr) (cap : Nat) (w' : World) => (show RowsGive s.data.toList w (.returned (.tuple #[.slice (some x) 0 cap, .bool true])) w' from ⟨some x, 0, cap, [], by rw [h0]; rfl, by rw [h0]; exact ⟨rfl, Nat.zero_le _, .inl ⟨rfl, rfl⟩⟩, fun e => by cases e⟩)
  have hcut : Cut.cut 32 s.data.toList = [[]] := by rw [h0]; rfl
  have HC := Lib.hid hcut
  have hsc := fun v => scut s 32 32 rfl (by omega) v
  rw [hcut] at hsc
  have HS := Lib.hid hsc
  clear hcut h0 hsc
  subst hs0
  go_enter Tryz.func37, Tryz.ntmps37
  go_wp2_with fail
  refine (HS.out _).mono ?_
  rintro e w1 ⟨g, cap, rfl, hg, hst, b1⟩
  have hb0 : Below w.heap.size w (w.alloc (.cells #[] 34)) := (Below.refl _ _).alloc (Nat.le_refl _) _
  have B1 := Lib.hid (hb0.trans (b1.mono (by simp)))
  clear b1 hb0 hst
  go_wp2_with fail
  refine wp_loop_rounds 1 ?_
  rw [rounds_succ]
  go_wp2_with fail
  refine (sare _ 0 0 [] _ ⟨rfl, (fun r hr => by cases hr), .inl rfl⟩ (by omega)).mono ?_
  rintro e w2 ⟨rfl, b2⟩
  have B2 := Lib.hid (B1.out.trans (b2.mono B1.out.size))
  clear b2
  go_wp2_with fail
  go_ret2
  exact ⟨HY.out _ _ _, B2.out⟩
theorem sprowsM (s : ByteArray) (hs : s.size ≤ 1000000000) (w : World) : Calls Tryz.prog 37 #[.string s] w fun e w' => RowsGive s.data.toList w e w' ∧ Below w.heap.size w w' := by
  by_cases h : s.data.toList = []
  · exact sprowsM_none s h w
  · exact sprowsM_some s hs h w
end Go.Proofs.YtoiobaiiammehaaGreatDoor
/- The reference's ParsePages, by contract. -/
namespace Go.Proofs.YtoiobaiiammehaaGreatDoor
open Go.RowKit Go.Lib

theorem heads_apart {w : World} {B g : Nat} {v : Value} {cs : List Value} {xs : Array Value} {fz : Nat × Nat} (h : Heads w B v cs) (hg : w.heap[g]? = some (.cells xs 9 fz)) : v.ownBlock ≠ some g := by
  intro e
  obtain ⟨h1, ⟨rfl, h0⟩ | ⟨g', cap, cur, rfl, hB, hh, -⟩⟩ := h
  · simp [Value.ownBlock] at e
  · simp only [Value.ownBlock] at e
    injection e with e
    subst e
    rw [hh] at hg
    simp at hg
/-- What ParsePages answers: a slice in memory of its own, and whether. -/
def PagesGive (l : List UInt8) (w : World) (e : Ending) (w' : World) : Prop := ∃ a n c F, e = .returned (.tuple #[.slice a n c, .bool (R.parsePages l).isSome]) ∧ SeqOwn pageRep w' w.heap.size a n ((R.parsePages l).getD []) F ∧ Below w.heap.size w w'
theorem pagesgive_no {l : List UInt8} {w w' : World} {a : Option Addr} {cap : Nat} (h : R.parsePages l = none) (hb : Below w.heap.size w w') : PagesGive l w (.returned (.tuple #[.slice a 0 cap, .bool false])) w' := by
  refine ⟨a, 0, cap, [], ?_, ?_, hb⟩
  · rw [h]; rfl
  · rw [h]; exact ⟨rfl, Nat.zero_le _, .inl ⟨rfl, rfl⟩⟩
theorem pagesgive_yes {l : List UInt8} {w w' : World} {a : Option Addr} {n cap : Nat} {P : List (List R)} {F : List Reg} (h : R.parsePages l = some P) (ho : SeqOwn pageRep w' w.heap.size a n P F) (hb : Below w.heap.size w w') : PagesGive l w (.returned (.tuple #[.slice a n cap, .bool true])) w' := by
  refine ⟨a, n, cap, F, ?_, ?_, hb⟩
  · rw [h]; rfl
  · rw [h]; exact ho
theorem parsePages_bad {l : List UInt8} (t : Nat) (ht0 : t < (Cut.cut 93 l).length) (ht : t + 1 < (Cut.cut 93 l).length) (h : R.readPage (Cut.cut 93 l)[t] = none) : R.parsePages l = none := by
  unfold R.parsePages
  have hd : t < (Cut.cut 93 l).dropLast.length := by rw [List.length_dropLast]; omega
  have := R.readPages_bad (Cut.cut 93 l).dropLast t hd (by rw [List.getElem_dropLast]; exact h)
  rw [this]
theorem parsePages_all {l : List UInt8} {P : List (List R)} (h : R.readPages (Cut.cut 93 l).dropLast = some P) : R.parsePages l = if R.allPages P && decide (R.fmtPages P = l) then some P else none := by
  unfold R.parsePages
  rw [h]
/-- What the loop keeps. -/
structure Reads (w : World) (g : Nat) (ps : List (List UInt8)) (v : Value) (es : List (El pageRep)) (wr : World) : Prop where
  old : Below w.heap.size w wr
  heads : Heads wr w.heap.size v (cellsOf es)
  pages : OwnAll pageRep wr w.heap.size es
  away : ∀ e ∈ es, ∀ y ∈ e.F, v.ownBlock ≠ some y.b
  strs : IsStrs wr g ps
theorem Reads.keep {w wr wr' : World} {g : Nat} {ps : List (List UInt8)} {v : Value} {es : List (El pageRep)} (h : Reads w g ps v es wr) (hb : Below wr.heap.size wr wr') : Reads w g ps v es wr' :=
  ⟨h.old.trans (hb.mono h.old.size), h.heads.keep hb, h.pages.keep hb, h.away, h.strs.keep hb⟩
/-- One page more. -/
theorem Reads.push {w wr w2 w4 : World} {g g4 n c n4 c4 : Nat} {a : Option Addr} {ps : List (List UInt8)} {v : Value} {es : List (El pageRep)} {M : List R} {F : List Reg} (h : Reads w g ps v es wr) (hb : Below wr.heap.size wr w2) (hF : SeqOwn rowRep w2 wr.heap.size a n M F) (hc : a = none → c = 0)
    (hh : Heads w4 w.heap.size (.slice (some ⟨g4, 0, none⟩) n4 c4) (cellsOf es ++ [.slice a n c])) (hg : w2.grownBy w4 v.ownBlock) (hat : v.ownBlock = some g4 ∨ w2.heap.size ≤ g4) :
    ∃ e : El pageRep, e.x = M ∧ Reads w g ps (.slice (some ⟨g4, 0, none⟩) n4 c4) (es ++ [e]) w4 := by
  have h2 := h.keep hb
  have hpush := h.pages.push (e := ⟨M, (a, n, c), F⟩) hb ⟨hF, hc⟩ h.old.size (Nat.le_refl _)
  have haw : ∀ e ∈ es ++ [(⟨M, (a, n, c), F⟩ : El pageRep)], ∀ y ∈ e.F, v.ownBlock ≠ some y.b := fun e he y hy => by
    rcases List.mem_append.1 he with he | he
    · exact h.away e he y hy
    · rw [List.mem_singleton.1 he] at hy
      intro e2
      have h1 := (h.heads.own _ e2).2
      have h3 := (hF.lt y hy).1
      omega
  refine ⟨⟨M, (a, n, c), F⟩, rfl, ?_⟩
  exact {
    old := h2.old.grown hg h2.old.size (fun k hk => (h2.heads.own k hk).1)
    heads := by rw [cellsOf_snoc]; exact hh
    pages := hpush.stay fun e he => Stay.of_grown hg (fun y hy => (pageRep.own_lt (hpush.1 e he) y hy).2) (fun y hy => haw e he y hy)
    away := fun e he y hy => by
      simp only [Value.ownBlock]
      intro e2
      injection e2 with e2
      rcases hat with hat | hat
      · exact haw e he y hy (by rw [hat, e2])
      · have := (pageRep.own_lt (hpush.1 e he) y hy).2
        omega
    strs := by
      obtain ⟨⟨cs, fz, hcs⟩, -⟩ := h2.strs
      exact h2.strs.same (hg.block g (lt_of_block hcs) (fun e => heads_apart h2.heads hcs e.symm)) }
set_option maxRecDepth 100000 in
set_option maxHeartbeats 2000000 in
theorem sppages (s : ByteArray) (hs : s.size ≤ 2000000) (w : World) : Calls Tryz.prog 15 #[.string s] w (PagesGive s.data.toList w) := by
  have hsl : s.data.toList.length = s.size := by simp
  have hcl := Cut.cut_length 93 s.data.toList
  rw [hsl] at hcl
  have hmem : ∀ (t : Nat) (ht : t < (Cut.cut 93 s.data.toList).length), (Cut.cut 93 s.data.toList)[t].length ≤ s.size := by
    intro t ht
    have hj := Cut.join_cut 93 s.data.toList
    rw [← hsl]
    conv => rhs; rw [← hj]
    exact Cut.join_mem_length _ [93] _ (List.getElem_mem ht)
  have HM := Lib.hid hmem
  have hne := Cut.cut_ne 93 s.data.toList
  obtain ⟨ps, hps⟩ : ∃ ps, ps = Cut.cut 93 s.data.toList := ⟨_, rfl⟩
  have HBAD := Lib.hid (fun t => @parsePages_bad s.data.toList t)
  have HALL := Lib.hid (fun P => @parsePages_all s.data.toList P)
  rw [← hps] at HM hcl HBAD HALL hne
  have hps1 : 1 ≤ ps.length := List.length_pos_iff.2 hne
  have HC := Lib.hid hps
  have be := (Below.refl w.heap.size w).alloc (Nat.le_refl _) (.cells #[] 31)
  have H0 := Lib.hid (heads_zero w w.heap.size (Nat.le_refl _))
  have B0 := Lib.hid be
  clear hps hsl hmem hne be
  go_enter Tryz.func15, Tryz.ntmps15
  go_wp2_with fail
  refine (scut s 93 93 rfl (by omega) _).mono ?_
  rintro e w1 ⟨g, cap, rfl, hg, hst, b1⟩
  rw [← HC.out] at hst ⊢
  have R0 : Hid (Reads w g ps (.slice (some ⟨w.heap.size, 0, none⟩) 0 0) [] w1) := ⟨B0.out.trans (b1.mono B0.out.size), H0.out.keep b1, OwnAll.nil _ _ _, fun e he => (by cases he), hst⟩
  clear b1 hst H0 B0
  go_wp2_with fail
  go_loopw [4, 6] (fun v i wr => ∃ (t : Nat) (y : Value) (es : List (El pageRep)), y = v ∧ i = .int .i64 t ∧ t + 1 ≤ ps.length ∧ Hid (R.readPages (ps.take t) = some (es.map El.x)) ∧ Hid (Reads w g ps y es wr)) (fun _ i _ => ps.length - (RowKit.intOf i).toNat)
  case atStart => exact ⟨0, _, [], rfl, rfl, by omega, rfl, R0⟩
  case round =>
    obtain ⟨t, y, es, rfl, rfl, ht, hread, hR⟩ := hrel
    have hsz : w.heap.size ≤ wr.heap.size := hR.out.old.size
    have hel : es.length = t := by
      have h1 := R.readPages_length hread.out
      rw [List.length_map, List.length_take] at h1
      omega
    by_cases hlt : t + 1 < ps.length
    · have htl : t < ps.length := by omega
      have hc : wr.cell? ⟨g, t, none⟩ = some (.string ⟨ps[t].toArray⟩) := hR.out.strs.2 t htl
      have hi0 : (0 : Int) ≤ (t : Int) := by omega
      have hi1 : (t : Int) < (ps.length : Int) := by omega
      have hi2 : (t : Int) + 1 < (ps.length : Int) := by omega
      obtain ⟨p, hp⟩ : ∃ p, p = ps[t] := ⟨_, rfl⟩
      rw [← hp] at hc
      have hpl : p.length ≤ s.size := by rw [hp]; exact HM.out t htl
      have HN := Lib.hid (R.readPages_next ps t htl _ hread.out)
      have HB := Lib.hid (HBAD.out t htl hlt)
      rw [← hp] at HN HB
      clear hp
      cases p with
      | nil =>
        have HNO := Lib.hid (HB.out rfl)
        clear HN HB
        go_wp2_with fail
        go_ret2
        exact pagesgive_no HNO.out (hR.out.old.alloc hsz _)
      | cons x q =>
        have hg0 : ∀ (h : 0 < (⟨(x :: q).toArray⟩ : ByteArray).size), (⟨(x :: q).toArray⟩ : ByteArray)[0]'h = x := fun h => rfl
        by_cases hx : x = 91
        · subst hx
          have PR := Lib.hid (sprowsM ⟨q.toArray⟩ (by simp [ByteArray.size]; simp at hpl; omega))
          have hpd : (⟨q.toArray⟩ : ByteArray).data.toList = q := by simp
          rw [hpd] at PR
          have hex : (⟨(91 :: q).toArray⟩ : ByteArray).extract 1 (q.length + 1) = ⟨q.toArray⟩ := by rw [piece]; simp
          have hrd : R.readPage (91 :: q) = parseRows q := rfl
          rw [hrd] at HN HB
          clear hpd hrd
          go_wp2_with fail
          refine (PR.out _).mono ?_
          rintro e w2 ⟨⟨a2, n2, c2, F2, rfl, ho2, hc2⟩, b2⟩
          have R2 := Lib.hid (hR.out.keep b2)
          have O2 := Lib.hid ho2
          have B2 := Lib.hid b2
          have hz2 : w.heap.size ≤ w2.heap.size := R2.out.old.size
          clear b2 ho2 hex hg0
          cases hpr : parseRows q with
          | none =>
            have HNO := Lib.hid (HB.out hpr)
            clear hpr HN HB
            go_wp2_with fail
            go_ret2
            exact pagesgive_no HNO.out (R2.out.old.alloc hz2 _)
          | some M =>
            rw [hpr] at HN O2
            have hrm : Hid (SeqOwn rowRep w2 wr.heap.size a2 n2 M F2) := O2
            have HH2 := Lib.hid R2.out.heads
            have hcl2 : (cellsOf es).length = es.length := by rw [cellsOf_length]; exact Nat.mul_one _
            have hlen2 : (cellsOf es).length + 1 ≤ 1000000000000 := by omega
            clear hpr O2
            go_wp2_with (at_builtin; refine wpList_pushP (.tmp 45) (.tmp 48) w2.heap.size rfl rfl rfl rfl rfl HH2.out hz2 hlen2 rfl ?_; intro g4 c4 w4 hh4 hg4 hat4)
            obtain ⟨e4, he4, R4⟩ := hR.out.push B2.out hrm.out hc2 hh4 hg4 hat4
            rw [hcl2, hel] at R4
            have HR4 := Lib.hid R4
            clear R4 hh4 hg4 hat4
            go_roundw
            case rel =>
              refine ⟨t + 1, _, es ++ [e4], rfl, by go_num, by omega, ?_, HR4⟩
              show _ = _
              rw [HN.out, List.map_append]
              simp [he4]
            case measure => simp [RowKit.intOf]; omega
        · have hrd : R.readPage (x :: q) = none := by
            unfold R.readPage
            split
            · rename_i h1; injection h1 with h1; exact absurd h1 hx
            · rfl
          have HNO := Lib.hid (HB.out hrd)
          clear hrd HN HB
          have hxb : ((x.toNat : Int) == 91) = false := by
            rw [beq_eq_false_iff_ne]
            intro e
            apply hx
            apply UInt8.toNat_inj.1
            have : x.toNat = 91 := by omega
            rw [this]; rfl
          go_wp2_with fail
          go_ret2
          exact pagesgive_no HNO.out (hR.out.old.alloc hsz _)
    · have hkl : t + 1 = ps.length := by omega
      have hdl : ps.take t = ps.dropLast := by rw [List.dropLast_eq_take]; congr 1; omega
      obtain ⟨P, hP⟩ : ∃ P, P = es.map El.x := ⟨_, rfl⟩
      have hrd := hread.out
      rw [hdl, ← hP] at hrd
      have HAN := Lib.hid (HALL.out P hrd)
      obtain ⟨ay, cy, hy⟩ := hR.out.heads.slice
      have hcl2 : (cellsOf es).length = es.length := by rw [cellsOf_length]; exact Nat.mul_one _
      rw [hcl2, hel] at hy
      have hfin : ∃ F, SeqOwn pageRep wr w.heap.size ay t P F := by
        obtain ⟨F, hF⟩ := pages_done (a := ay) (n := t) (c := cy) (by rw [← hy]; exact hR.out.heads) hR.out.pages (fun e he y hy2 => by rw [← hy]; exact hR.out.away e he y hy2) (by unfold maxLen; omega)
        exact ⟨F, by rw [hP]; exact hF⟩
      obtain ⟨F, hF⟩ := hfin
      have HF := Lib.hid hF
      have HOLD := Lib.hid hR.out.old
      subst hy
      have hi2 : ¬ ((t : Int) + 1 < (ps.length : Int)) := by omega
      have hfl : Hid (P.flatten.length ≤ 1000000000000) := by
        have h1 := R.readPages_flat hrd
        have h2 : P.length = t := by rw [hP, List.length_map, hel]
        show _ ≤ _
        omega
      clear hdl hrd hP hF hkl hR hread
      go_wp2_with fail
      refine (sallpages ay t cy P _ HF.out.inn hfl.out).mono ?_
      rintro e w2 ⟨rfl, b2⟩
      have F2 := Lib.hid (HF.out.keep b2)
      have B2 := Lib.hid (HOLD.out.trans (b2.mono hsz))
      have hz2 : w.heap.size ≤ w2.heap.size := B2.out.size
      clear b2 HF HOLD
      cases hok : R.allPages P with
      | false =>
        have HNO := Lib.hid (show R.parsePages s.data.toList = none by rw [HAN.out, hok]; rfl)
        clear hok
        go_wp2_with fail
        go_ret2
        exact pagesgive_no HNO.out (B2.out.alloc hz2 _)
      | true =>
        have HOK := Lib.hid hok
        clear hok
        go_wp2_with fail
        refine (sfpages ay t cy P _ F2.out.inn (by omega) hfl.out).mono ?_
        rintro e w3 ⟨rfl, b3⟩
        have F3 := Lib.hid (F2.out.keep b3)
        have B3 := Lib.hid (B2.out.trans (b3.mono hz2))
        have hz3 : w.heap.size ≤ w3.heap.size := B3.out.size
        clear b3 F2 B2
        by_cases hf : R.fmtPages P = s.data.toList
        · have HY := Lib.hid (show R.parsePages s.data.toList = some P by rw [HAN.out, HOK.out, decide_eq_true hf]; rfl)
          have hf2 : (⟨(R.fmtPages P).toArray⟩ : ByteArray) = s := by rw [hf]
          rw [hf2]
          clear hf hf2
          go_wp2_with fail
          go_ret2
          exact pagesgive_yes HY.out F3.out B3.out
        · have HNO := Lib.hid (show R.parsePages s.data.toList = none by rw [HAN.out, HOK.out, decide_eq_false hf]; rfl)
          have hd : ((R.fmtPages P) == s.toList) = false := by
            rw [beq_eq_false_iff_ne, ByteArray.toList_eq]
            exact hf
          clear hf
          go_wp2_with fail
          go_ret2
          exact pagesgive_no HNO.out (B3.out.alloc hz3 _)
end Go.Proofs.YtoiobaiiammehaaGreatDoor
/- The program's ParsePages, by contract. -/
namespace Go.Proofs.YtoiobaiiammehaaGreatDoor
open Go.RowKit Go.Lib

/-- What parseFirstPage answers of a text that is not empty. -/
def FrontAns (l : List UInt8) (w : World) (e : Ending) (w' : World) : Prop :=
  (R.parsePages l = none ∧ e = .returned (.tuple #[.agg #[.slice none 0 0], .string ⟨#[]⟩, .bool false])) ∨
    ∃ (M : List R) (t : List UInt8) (a : Option Addr) (n c : Nat) (F : List Reg), e = .returned (.tuple #[.agg #[.slice a n c], .string ⟨t.toArray⟩, .bool true]) ∧ t.length < l.length ∧ R.parsePages l = (R.parsePages t).map (M :: ·) ∧ SeqOwn rowRep w' w.heap.size a n M F ∧ (a = none → c = 0)
theorem own_seq {w : World} {B : Nat} {a : Option Addr} {n : Nat} {M : List R} (h : OwnRows w B a n M) (hwf : ∀ r ∈ M, r.wf) (hn : n ≤ 24) (h0 : 0 < n) : (∃ F, SeqOwn rowRep w B a n M F) ∧ a ≠ none := by
  obtain ⟨hl, h1 | ⟨g, rfl, hg, hb⟩⟩ := h
  · omega
  · obtain ⟨F, hF, -⟩ := rows_own (mine_of_block hb hg hl (by unfold maxLen; omega)) hwf (by unfold maxLen; omega)
    exact ⟨⟨F, hF⟩, by simp⟩
set_option maxRecDepth 100000 in
theorem ipfront (s : ByteArray) (hs : s.size ≤ 4000000000) (hne : s.data.toList ≠ []) (w : World) (hm : Mx w) (hL : Tab w ∧ Syn w) :
    Calls Tryz.prog 35 #[.string s] w fun e w' => FrontAns s.data.toList w e w' ∧ Below w.heap.size w w' := by
  have HM := Lib.hid hm
  have HL := Lib.hid hL
  have b0 := (Below.refl w.heap.size w).alloc (Nat.le_refl _) (.cells #[.slice none 0 0] 31)
  have B0 := Lib.hid b0
  have C0 := Lib.hid (heap_alloc_new w (.cells #[.slice none 0 0] 31))
  have HS0 := Lib.hid (show w.heap.size < (w.alloc (.cells #[.slice none 0 0] 31)).heap.size by simp)
  have HNE := Lib.hid hne
  clear hm hL b0 hne
  go_enter Tryz.func35, Tryz.ntmps35
  go_wp2_with fail
  refine (cutpre s 91 _).mono ?_
  rintro e w1 ⟨rfl, hor⟩
  rcases hor with ⟨hno, rfl⟩ | ⟨q, hq, rfl⟩
  · have HNO := Lib.hid (R.front_no1 HNE.out hno)
    clear hno
    go_wp2_with fail
    refine (cutsign s 93 _ (HM.out.stay B0.out) (by omega)).mono ?_
    rintro e w2 ⟨b2, hor2⟩
    have B2 := Lib.hid (B0.out.trans (b2.mono B0.out.size))
    have q2 := (b2.block _ HS0.out).trans C0.out
    have c2 : w2.cell? ⟨w.heap.size, 0, none⟩ = some (.slice none 0 0) := by simp [World.cell?, q2]
    have f2 : w2.frozen? ⟨w.heap.size, 0, none⟩ = false := by simp [World.frozen?, q2]
    clear b2 q2
    rcases hor2 with ⟨-, rfl⟩ | ⟨x, y, -, -, rfl⟩
    all_goals
      go_wp2_with fail
      refine bodyPost_ret (v := .tuple #[.agg #[.slice none 0 0], .string ⟨#[]⟩, .bool false]) (by simp [results, Tryz.results35, go_sem, *]) rfl ⟨.inl ⟨HNO.out, rfl⟩, B2.out.setCell (p := ⟨w.heap.size, 0, none⟩) (Nat.le_refl _) _⟩
  · have HQ := Lib.hid hq
    clear hq
    have hql : q.length < 4000000000 := by
      have h1 : s.data.toList.length = s.size := by simp
      rw [HQ.out, List.length_cons] at h1
      omega
    go_wp2_with fail
    refine (cutsign ⟨q.toArray⟩ 93 _ (HM.out.stay B0.out) (by simp [ByteArray.size]; omega)).mono ?_
    rintro e w2 ⟨b2, hor2⟩
    have hqd : (⟨q.toArray⟩ : ByteArray).data.toList = q := by simp
    rw [hqd] at hor2
    have B2 := Lib.hid (B0.out.trans (b2.mono B0.out.size))
    have q2 := (b2.block _ HS0.out).trans C0.out
    have C2 := Lib.hid q2
    have c2 : w2.cell? ⟨w.heap.size, 0, none⟩ = some (.slice none 0 0) := by simp [World.cell?, q2]
    have f2 : w2.frozen? ⟨w.heap.size, 0, none⟩ = false := by simp [World.frozen?, q2]
    clear b2 q2 hqd
    rcases hor2 with ⟨hno, rfl⟩ | ⟨x, y, hxy, hx, rfl⟩
    · have HNO := Lib.hid (show R.parsePages s.data.toList = none by rw [HQ.out]; exact R.front_no2 hno)
      clear hno
      go_wp2_with fail
      refine bodyPost_ret (v := .tuple #[.agg #[.slice none 0 0], .string ⟨#[]⟩, .bool false]) (by simp [results, Tryz.results35, go_sem, *]) rfl ⟨.inl ⟨HNO.out, rfl⟩, B2.out.setCell (p := ⟨w.heap.size, 0, none⟩) (Nat.le_refl _) _⟩
    · have HXY := Lib.hid (show s.data.toList = 91 :: (x ++ 93 :: y) by rw [HQ.out, hxy])
      have HX := Lib.hid hx
      have hxl : x.length + y.length + 1 = q.length := by rw [hxy]; simp; omega
      have hxd : (⟨x.toArray⟩ : ByteArray).data.toList = x := by simp
      have PR := Lib.hid (iprows ⟨x.toArray⟩ (by simp [ByteArray.size]; omega) w2 (HM.out.stay B2.out) (laid_stay HL.out B2.out))
      rw [hxd] at PR
      clear hxy hx hxd
      go_wp2_with fail
      refine PR.out.mono ?_
      rintro e w3 ⟨⟨a, n, c, rfl, hn, ho⟩, b3⟩
      have hs2 : w.heap.size < w2.heap.size := lt_of_block C2.out
      have B3 := Lib.hid (B2.out.trans (b3.mono B2.out.size))
      have q3 := (b3.block _ hs2).trans C2.out
      have b4 := (Below.refl w3.heap.size w3).alloc (Nat.le_refl _) (.cells #[.slice a n c] 31)
      have hs3 : w.heap.size < w3.heap.size := lt_of_block q3
      have q4 := (b4.block _ hs3).trans q3
      have c4 : (w3.alloc (.cells #[.slice a n c] 31)).cell? ⟨w.heap.size, 0, none⟩ = some (.slice none 0 0) := by simp [World.cell?, q4]
      have f4 : (w3.alloc (.cells #[.slice a n c] 31)).frozen? ⟨w.heap.size, 0, none⟩ = false := by simp [World.frozen?, q4]
      have B4 := Lib.hid (B3.out.trans (b4.mono B3.out.size))
      have C4 := Lib.hid q4
      have D4 := Lib.hid (heap_alloc_new w3 (.cells #[.slice a n c] 31))
      have O3 := Lib.hid ho
      have K4 := Lib.hid b4
      have hs4 : w3.heap.size < (w3.alloc (.cells #[.slice a n c] 31)).heap.size := by simp
      have c3 : w3.cell? ⟨w.heap.size, 0, none⟩ = some (.slice none 0 0) := by simp [World.cell?, q3]
      clear b4 q3 q4 ho PR c2 f2
      cases hpr : parseRows x with
      | none =>
        have HNO := Lib.hid (show R.parsePages s.data.toList = none by rw [HXY.out]; exact R.front_no3 HX.out (fun M h => by rw [hpr] at h; cases h))
        clear hpr O3
        go_wp2_with fail
        refine bodyPost_ret (v := .tuple #[.agg #[.slice none 0 0], .string ⟨#[]⟩, .bool false]) (by simp [results, Tryz.results35, go_sem, *]) rfl ⟨.inl ⟨HNO.out, rfl⟩, (B3.out.setCell (p := ⟨w.heap.size, 0, none⟩) (Nat.le_refl _) _).alloc (by have := B3.out.size; simpa using this) _⟩
      | some M =>
        clear c3
        rw [hpr] at O3
        have hrm : Hid (OwnRows w3 w2.heap.size a n M) := O3
        have HWF := Lib.hid (parseRows_wf hpr)
        have HPR := Lib.hid hpr
        have I4 := Lib.hid (SeqIn.keep (in_rows (hrm.out.rows HWF.out) (by unfold maxLen; omega)) K4.out)
        clear hpr
        go_wp2_with fail
        refine (ivalidpage a n c M _ I4.out (by omega)).mono ?_
        rintro e w5 ⟨rfl, b5⟩
        have B5 := Lib.hid (B4.out.trans (b5.mono B4.out.size))
        have K5 := Lib.hid (K4.out.trans (b5.mono (Nat.le_of_lt hs4)))
        have q5 := (b5.block _ (Nat.lt_trans hs3 hs4)).trans C4.out
        have c5 : w5.cell? ⟨w.heap.size, 0, none⟩ = some (.slice none 0 0) := by simp [World.cell?, q5]
        have f5 : w5.frozen? ⟨w.heap.size, 0, none⟩ = false := by simp [World.frozen?, q5]
        have p5 := (b5.block _ hs4).trans D4.out
        have d5 : w5.cell? ⟨w3.heap.size, 0, none⟩ = some (.slice a n c) := by simp [World.cell?, p5]
        clear b5 q5 p5 c4 f4
        cases hv : R.pageOk M with
        | false =>
          have HNO := Lib.hid (show R.parsePages s.data.toList = none by rw [HXY.out]; exact R.front_no3 HX.out (fun M' h => by rw [HPR.out] at h; injection h with h; rw [← h]; exact hv))
          clear hv
          go_wp2_with fail
          refine bodyPost_ret (v := .tuple #[.agg #[.slice none 0 0], .string ⟨#[]⟩, .bool false]) (by simp [results, Tryz.results35, go_sem, *]) rfl ⟨.inl ⟨HNO.out, rfl⟩, B5.out.setCell (p := ⟨w.heap.size, 0, none⟩) (Nat.le_refl _) _⟩
        | true =>
          have hn0 : 0 < n := by
            rcases Nat.eq_zero_or_pos n with h0 | h0
            · have hM : M = [] := List.eq_nil_of_length_eq_zero (by rw [hrm.out.1, h0])
              rw [hM] at hv
              cases hv
            · exact h0
          obtain ⟨⟨F, hF⟩, han⟩ := own_seq hrm.out HWF.out hn hn0
          have hfin : SeqOwn rowRep (w5.setCell ⟨w.heap.size, 0, none⟩ (.slice a n c)) w.heap.size a n M F :=
            ((hF.keep K5.out).stay ((Stay.refl F w5).set _ fun y hy e => by have := (hF.lt y hy).1; omega)).mono (Nat.le_of_lt hs2)
          have HFIN := Lib.hid hfin
          have HY := Lib.hid (show R.parsePages s.data.toList = (R.parsePages y).map (M :: ·) by rw [HXY.out]; exact R.front_yes hv HPR.out)
          have HYL := Lib.hid (show y.length < s.data.toList.length by rw [HXY.out]; simp; omega)
          have HAN := Lib.hid han
          clear hv hfin hF han
          go_wp2_with fail
          refine bodyPost_ret (v := .tuple #[.agg #[.slice a n c], .string ⟨y.toArray⟩, .bool true]) (by simp [results, Tryz.results35, go_sem, *]) rfl ⟨.inr ⟨M, y, a, n, c, F, rfl, HYL.out, HY.out, HFIN.out, fun h => absurd h HAN.out⟩, B5.out.setCell (p := ⟨w.heap.size, 0, none⟩) (Nat.le_refl _) _⟩
/-- What the loop keeps. -/
structure Takes (w : World) (v : Value) (es : List (El pageRep)) (wr : World) : Prop where
  old : Below w.heap.size w wr
  heads : Heads wr w.heap.size v (cellsOf es)
  pages : OwnAll pageRep wr w.heap.size es
  away : ∀ e ∈ es, ∀ y ∈ e.F, v.ownBlock ≠ some y.b
theorem Takes.keep {w wr wr' : World} {v : Value} {es : List (El pageRep)} (h : Takes w v es wr) (hb : Below wr.heap.size wr wr') : Takes w v es wr' :=
  ⟨h.old.trans (hb.mono h.old.size), h.heads.keep hb, h.pages.keep hb, h.away⟩
/-- One page more. -/
theorem Takes.push {w wr w2 w4 : World} {g4 n c n4 c4 : Nat} {a : Option Addr} {v : Value} {es : List (El pageRep)} {M : List R} {F : List Reg} (h : Takes w v es wr) (hb : Below wr.heap.size wr w2) (hF : SeqOwn rowRep w2 wr.heap.size a n M F) (hc : a = none → c = 0)
    (hh : Heads w4 w.heap.size (.slice (some ⟨g4, 0, none⟩) n4 c4) (cellsOf es ++ [.slice a n c])) (hg : w2.grownBy w4 v.ownBlock) (hat : v.ownBlock = some g4 ∨ w2.heap.size ≤ g4) :
    ∃ e : El pageRep, e.x = M ∧ Takes w (.slice (some ⟨g4, 0, none⟩) n4 c4) (es ++ [e]) w4 := by
  have h2 := h.keep hb
  have hpush := h.pages.push (e := ⟨M, (a, n, c), F⟩) hb ⟨hF, hc⟩ h.old.size (Nat.le_refl _)
  have haw : ∀ e ∈ es ++ [(⟨M, (a, n, c), F⟩ : El pageRep)], ∀ y ∈ e.F, v.ownBlock ≠ some y.b := fun e he y hy => by
    rcases List.mem_append.1 he with he | he
    · exact h.away e he y hy
    · rw [List.mem_singleton.1 he] at hy
      intro e2
      have h1 := (h.heads.own _ e2).2
      have h3 := (hF.lt y hy).1
      omega
  refine ⟨⟨M, (a, n, c), F⟩, rfl, ?_⟩
  exact {
    old := h2.old.grown hg h2.old.size (fun k hk => (h2.heads.own k hk).1)
    heads := by rw [cellsOf_snoc]; exact hh
    pages := hpush.stay fun e he => Stay.of_grown hg (fun y hy => (pageRep.own_lt (hpush.1 e he) y hy).2) (fun y hy => haw e he y hy)
    away := fun e he y hy => by
      simp only [Value.ownBlock]
      intro e2
      injection e2 with e2
      rcases hat with hat | hat
      · exact haw e he y hy (by rw [hat, e2])
      · have := (pageRep.own_lt (hpush.1 e he) y hy).2
        omega }
theorem heads_nil (w : World) (B : Nat) : Heads w B (.slice none 0 0) [] := ⟨rfl, .inl ⟨rfl, rfl⟩⟩
def strLen : Value → Nat
  | .string s => s.size
  | _ => 0
set_option maxRecDepth 100000 in
theorem ippages (s : ByteArray) (hs : s.size ≤ 2000000) (w : World) (hm : Mx w) (hL : Tab w ∧ Syn w) : Calls Tryz.prog 14 #[.string s] w (PagesGive s.data.toList w) := by
  have HM := Lib.hid hm
  have HL := Lib.hid hL
  have hsl : s.data.toList.length = s.size := by simp
  obtain ⟨l0, hl0⟩ : ∃ l0, l0 = s.data.toList := ⟨_, rfl⟩
  have hs0 : s = ⟨l0.toArray⟩ := by rw [hl0]
  rw [← hl0] at hsl ⊢
  have HLN := Lib.hid (show l0.length ≤ 2000000 by omega)
  subst hs0
  clear hm hL hl0 hsl hs
  have T0 : Hid (Takes w (.slice none 0 0) [] w) := ⟨Below.refl _ _, heads_nil _ _, OwnAll.nil _ _ _, fun e he => by cases he⟩
  go_enter Tryz.func14, Tryz.ntmps14
  go_wp2_with fail
  go_loopw [0, 4] (fun u v wr => ∃ (l : List UInt8) (y : Value) (es : List (El pageRep)), u = .string ⟨l.toArray⟩ ∧ y = v ∧ Hid (l.length + es.length ≤ l0.length) ∧ Hid (R.parsePages l0 = (R.parsePages l).map (es.map El.x ++ ·)) ∧ Hid (Takes w y es wr)) (fun u _ _ => strLen u)
  case atStart => exact ⟨l0, _, [], rfl, rfl, Nat.le_refl _, (by show _ = _; simp), T0⟩
  case round =>
    obtain ⟨l, y, es, rfl, rfl, hle, hpl, hT⟩ := hrel
    have hsz : w.heap.size ≤ wr.heap.size := hT.out.old.size
    have hlen : l.length ≤ 2000000 := by have := hle.out; have := HLN.out; omega
    have hel : es.length ≤ 2000000 := by have := hle.out; have := HLN.out; omega
    have hcl : (cellsOf es).length = es.length := by rw [cellsOf_length]; exact Nat.mul_one _
    have hld : (⟨l.toArray⟩ : ByteArray).data.toList = l := by simp
    by_cases hne : l = []
    · subst hne
      obtain ⟨ay, cy, rfl⟩ := hT.out.heads.slice
      have hfin : PagesGive l0 w (.returned (.tuple #[.slice ay (cellsOf es).length cy, .bool true])) wr := by
        obtain ⟨F, hF⟩ := pages_done hT.out.heads hT.out.pages hT.out.away (by unfold maxLen; omega)
        exact pagesgive_yes (by rw [hpl.out, R.parsePages_nil]; simp) hF hT.out.old
      have HFIN := Lib.hid hfin
      clear hfin hld
      go_wp2_with fail
      go_ret2
      exact HFIN.out
    · have hbne : l.isEmpty = false := by simpa using hne
      have FR := Lib.hid (ipfront ⟨l.toArray⟩ (by simp [ByteArray.size]; omega) (by rw [hld]; exact hne) wr (HM.out.stay hT.out.old) (laid_stay HL.out hT.out.old))
      rw [hld] at FR
      clear hld hne
      go_wp2_with fail
      refine FR.out.mono ?_
      rintro e w1 ⟨hans, b1⟩
      have T1 := Lib.hid (hT.out.keep b1)
      have B1 := Lib.hid b1
      clear b1 FR
      rcases hans with ⟨hno, rfl⟩ | ⟨M, t, a, n, c, F, rfl, htl, hmap, hF, hac⟩
      · have HNO := Lib.hid (show R.parsePages l0 = none by rw [hpl.out, hno]; rfl)
        clear hno
        go_wp2_with fail
        go_ret2
        exact pagesgive_no HNO.out (T1.out.old.alloc T1.out.old.size _)
      · have HF := Lib.hid hF
        have HAC := Lib.hid hac
        have HMP := Lib.hid (show R.parsePages l0 = (R.parsePages t).map (es.map El.x ++ [M] ++ ·) by rw [hpl.out, hmap, Option.map_map]; congr 1; funext x; simp)
        have HH1 := Lib.hid T1.out.heads
        have hs1 : w.heap.size ≤ w1.heap.size := T1.out.old.size
        have bx := (Below.refl w1.heap.size w1).alloc (Nat.le_refl _) (.cells #[.slice a n c] 31)
        have BX := Lib.hid (B1.out.trans (bx.mono B1.out.size))
        have HHX := Lib.hid (HH1.out.keep bx)
        have FX := Lib.hid (HF.out.keep bx)
        have hsx : w.heap.size ≤ (w1.alloc (.cells #[.slice a n c] 31)).heap.size := by simp; omega
        clear hF hac hmap bx
        go_wp2_with (at_builtin; refine wpList_pushP (.tmp 18) (.tmp 20) (w1.heap.size + 1) (by simp) rfl rfl rfl rfl HHX.out hsx (by omega) rfl ?_; intro g4 c4 w4 hh4 hg4 hat4)
        obtain ⟨e4, he4, T4⟩ := hT.out.push BX.out FX.out HAC.out hh4 hg4 hat4
        rw [hcl] at T4
        have HT4 := Lib.hid T4
        have HE4 := Lib.hid he4
        clear T4 hh4 hg4 hat4 he4
        go_wp2_with fail
        go_roundw
        case rel => exact ⟨t, _, es ++ [e4], rfl, rfl, (by show _ ≤ _; rw [List.length_append, List.length_singleton]; have := hle.out; omega), (by show _ = _; rw [HMP.out, List.map_append, List.map_singleton, HE4.out]), HT4⟩
        case measure => simp [strLen, ByteArray.size]; omega
end Go.Proofs.YtoiobaiiammehaaGreatDoor
/- The program's FormatRow, by contract. -/
namespace Go.Proofs.YtoiobaiiammehaaGreatDoor
open Go.RowKit Go.Lib

/-- The row lies in its box, and the table of powers of ten as the library lays it. -/
def BoxedT (w : World) (r : R) (v : World) : Prop := Boxed w r v ∧ Tab v
theorem BoxedT.facts {w v : World} {r : R} (h : BoxedT w r v) : v.cell? ⟨w.heap.size, 0, none⟩ = some (.int .i64 r.key) ∧ v.cell? ⟨w.heap.size, 1, none⟩ = some (.int .i64 r.value) ∧ v.cell? ⟨w.heap.size, 2, none⟩ = some (.int .i64 r.width) ∧ Hid (BoxedT w r v) := ⟨h.1.c0, h.1.c1, h.1.c2, h⟩
theorem boxed_tab {w w' : World} {r : R} {t : TypeId} (hb : Below (w.alloc (.cells #[.int .i64 r.key, .int .i64 r.value, .int .i64 r.width] t)).heap.size (w.alloc (.cells #[.int .i64 r.key, .int .i64 r.value, .int .i64 r.width] t)) w') (ht : Tab w) : BoxedT w r w'.drew :=
  ⟨(boxed_start hb).drew, ht.stay (boxed_start hb).drew.old⟩
theorem ifmt_keep (w : World) (r : R) (n : Int) (v : World) (h0 : -9223372036854775808 ≤ n) (h1 : n ≤ 9223372036854775807) (hv : Hid (BoxedT w r v)) :
    Calls Tryz.prog 67 #[.int .i64 n] v fun e v' => e = .returned (.string ⟨(itoa n).toArray⟩) ∧ Hid (BoxedT w r v') :=
  (ifmt n v h0 h1 hv.out.2).mono fun _ _ ⟨he, hb⟩ => ⟨he, hv.out.1.next hb, hv.out.2.stay hb⟩
set_option maxRecDepth 100000 in
theorem ifrow (r : R) (w : World) (ht : Tab w) : Calls Tryz.prog 55 #[r.val] w fun e w' => e = .returned (.string ⟨r.fmt.toArray⟩) ∧ Below w.heap.size w w' := by
  have HV := Lib.hid (ivalid r)
  have HT := Lib.hid ht
  clear ht
  cases hok : r.ok with
  | false =>
    have hf : r.fmt = [] := by unfold R.fmt; rw [hok]; rfl
    have HF := Lib.hid hf
    rw [hok] at HV
    clear hf hok
    unfold R.val at HV ⊢
    go_enter Tryz.func55, Tryz.ntmps55
    go_wp2_with fail
    refine (HV.out _).mono ?_
    rintro e w1 ⟨rfl, b1⟩
    have HB := Lib.hid (boxed_start b1)
    clear b1
    go_wp2_with fail
    go_ret
    exact ⟨by rw [HF.out]; rfl, HB.out.old⟩
  | true =>
    have hf : r.fmt = itoa r.key ++ 46 :: (itoa r.value ++ 46 :: itoa r.width) := by unfold R.fmt; rw [hok]; rfl
    have HF := Lib.hid hf
    have hk := R.ok_iff.1 hok
    have l0 := dd_small r.key (by omega) (by omega)
    have l1 := dd_small r.value (by omega) (by omega)
    have l2 := dd_small r.width (by omega) (by omega)
    have F0 := Lib.hid fun v hv => ifmt_keep w r r.key v (by omega) (by omega) hv
    have F1 := Lib.hid fun v hv => ifmt_keep w r r.value v (by omega) (by omega) hv
    have F2 := Lib.hid fun v hv => ifmt_keep w r r.width v (by omega) (by omega) hv
    rw [hok] at HV
    clear hf hok hk
    obtain ⟨a, ha⟩ : ∃ a, a = itoa r.key := ⟨_, rfl⟩
    obtain ⟨b, hb⟩ : ∃ a, a = itoa r.value := ⟨_, rfl⟩
    obtain ⟨c, hc⟩ : ∃ a, a = itoa r.width := ⟨_, rfl⟩
    rw [← ha] at F0 HF l0
    rw [← hb] at F1 HF l1
    rw [← hc] at F2 HF l2
    clear ha hb hc
    have n0 : ¬ 9223372036854775807 < a.length + 1 := by omega
    have n1 : ¬ 9223372036854775807 < a.length + 1 + b.length := by omega
    have n2 : ¬ 9223372036854775807 < a.length + 1 + b.length + 1 := by omega
    have n3 : ¬ 9223372036854775807 < a.length + 1 + b.length + 1 + c.length := by omega
    unfold R.val at HV ⊢
    go_enter Tryz.func55, Tryz.ntmps55
    go_wp2_with fail
    refine (HV.out _).mono ?_
    rintro e w1 ⟨rfl, b1⟩
    have HB := Lib.hid (boxed_tab b1 HT.out)
    have hb := boxed_start b1
    obtain ⟨c0, c1, c2, _, _⟩ := hb
    clear b1
    go_wp2_with fail
    go_region_held3 (fun v => v.cell? ⟨w.heap.size, 0, none⟩ = some (.int .i64 r.key) ∧ v.cell? ⟨w.heap.size, 1, none⟩ = some (.int .i64 r.value) ∧ v.cell? ⟨w.heap.size, 2, none⟩ = some (.int .i64 r.width) ∧ Hid (BoxedT w r v)) (first | assumption | exact HB.out.facts | exact BoxedT.facts (Hid.out (by assumption))) (first | (go_at_call_of 67 r.key; refine (F0.out _ (And.right (And.right (And.right (by first | assumption | exact HB.out.facts))))).mono ?_; rintro e w' ⟨rfl, b2⟩) | (go_at_call_of 67 r.value; refine (F1.out _ (And.right (And.right (And.right (by first | assumption | exact HB.out.facts))))).mono ?_; rintro e w' ⟨rfl, b2⟩) | (go_at_call_of 67 r.width; refine (F2.out _ (And.right (And.right (And.right (by first | assumption | exact HB.out.facts))))).mono ?_; rintro e w' ⟨rfl, b2⟩))
    have hold := (Hid.out (And.right (And.right (And.right (by assumption : _ ∧ _ ∧ _ ∧ Hid (BoxedT w r w'))))) : BoxedT w r w').1.old
    go_wp2_with fail
    go_ret
    exact ⟨by rw [HF.out, ← fmt_str]; rfl, hold⟩
end Go.Proofs.YtoiobaiiammehaaGreatDoor
/- The program's FormatRows, by contract. -/
namespace Go.Proofs.YtoiobaiiammehaaGreatDoor
open Go.RowKit Go.Lib

theorem join_rows {w : World} {g len : Nat} {L : List R} {t : TypeId} (h : w.heap[g]? = some (.cells (strs (L.map R.fmt)).toArray t (0, 0))) (hl : L.length = len) (h24 : L.length ≤ 24) :
    Calls Tryz.prog 56 #[.slice (some ⟨g, 0, none⟩) len len, .string ⟨#[32]⟩] w fun e w' => e = .returned (.string ⟨(join (L.map R.fmt) [32]).toArray⟩) ∧ Below w.heap.size w w' := by
  have hx : ((L.map R.fmt).map fun p => (⟨p.toArray⟩ : ByteArray)).length = len := by simp [hl]
  have hd : ((L.map R.fmt).map fun p => (⟨p.toArray⟩ : ByteArray)).map (·.data.toList) = L.map R.fmt := by simp
  have hj := join_fmt_length L
  have hc := Tryz.strings_Join g 0 len ((L.map R.fmt).map fun p => ⟨p.toArray⟩) ⟨#[32]⟩ w (fun j x hx => by
    rw [Nat.zero_add]
    rw [List.getElem?_map] at hx
    obtain ⟨y, hy, rfl⟩ := Option.map_eq_some_iff.1 hx
    obtain ⟨hjl, rfl⟩ := List.getElem?_eq_some_iff.1 hy
    exact (strs_block h j hjl).1) (lt_of_block h) (by rw [hx]; omega) (by rw [hx]; exact Nat.le_refl _) (by rw [hd]; show (join (L.map R.fmt) [32]).length ≤ _; omega)
  rw [hx, hd] at hc
  exact hc
set_option maxRecDepth 100000 in
theorem ifrows (a : Option Addr) (len cap : Nat) (L : List R) (w : World) (h : IsRows w a len L) (hlen : len ≤ 1000000000000) (ht : Tab w) :
    Calls Tryz.prog 40 #[.slice a len cap] w fun e w' => e = .returned (.string ⟨(fmtRows L).toArray⟩) ∧ Below w.heap.size w w' := by
  have HI := Lib.hid h
  obtain ⟨hl, hwf, hc⟩ := h
  have HL := Lib.hid hl
  have HC := Lib.hid hc
  have HT := Lib.hid ht
  clear hl hwf hc ht
  have hmk := run_make_strs len hlen
  go_enter Tryz.func40, Tryz.ntmps40
  go_wp2_with fail
  refine (iare _ len cap L _ HI.out (by omega)).mono ?_
  rintro e w0 ⟨rfl, b0⟩
  have B0 := Lib.hid b0
  have T0 := Lib.hid (HT.out.stay b0)
  clear b0
  cases hok : okRows L with
  | false =>
    have HF : Hid (fmtRows L = []) := by show _ = _; unfold fmtRows; rw [hok]; rfl
    clear hok hmk
    go_wp2_with fail
    go_ret
    exact ⟨by rw [HF.out]; rfl, B0.out⟩
  | true =>
    have HF : Hid (fmtRows L = join (L.map R.fmt) [32]) := by show _ = _; unfold fmtRows; rw [if_pos hok]
    have h24 := okRows_length hok
    have hl24 : len ≤ 24 := by rw [← HL.out]; exact h24
    clear hok h24
    have hbw : Below w0.heap.size w0 (w0.alloc (.cells (strs (List.replicate len [])).toArray 9)) := (Below.refl _ _).alloc (Nat.le_refl _) _
    have hgw : (w0.alloc (.cells (strs (List.replicate len [])).toArray 9)).heap[w0.heap.size]? = some (.cells (strs (List.replicate len [])).toArray 9 (0, 0)) := heap_alloc_new w0 _
    have BA := Lib.hid (B0.out.trans (hbw.mono B0.out.size))
    have GA := Lib.hid hgw
    have hle := B0.out.size
    clear hbw hgw
    go_wp2_with fail
    clear hmk
    go_loopw [14] (fun i wr => ∃ k : Nat, i = .int .i64 k ∧ k ≤ len ∧ Hid (wr.heap[w0.heap.size]? = some (.cells (strs ((L.take k).map R.fmt ++ List.replicate (len - k) [])).toArray 9 (0, 0))) ∧ Hid (Below w.heap.size w wr)) (fun i _ => len - (RowKit.intOf i).toNat)
    case atStart => exact ⟨0, rfl, Nat.zero_le _, GA, BA⟩
    case round =>
      obtain ⟨k, rfl, hk, hg, hb⟩ := hrel
      have htab := Lib.hid (HT.out.stay hb.out)
      by_cases hlt : k < len
      · obtain ⟨b, o, rfl, hbl, hc⟩ : ∃ b o : Nat, a = some ⟨b, o, none⟩ ∧ b < w.heap.size ∧ ∀ t, t < len → RowAt w b (o + t * 3) (L.getD t R.zero) := by
          rcases HC.out with h0 | h0
          · omega
          · exact h0
        obtain ⟨r, hr⟩ : ∃ r, r = L.getD k R.zero := ⟨_, rfl⟩
        have hat : RowAt wr b (o + k * 3) r := by rw [hr]; exact (hc k hlt).below hb.out hbl
        obtain ⟨c0, c1, c2⟩ := hat
        have HR := Lib.hid hr
        clear hr hc
        have hba : Below wr.heap.size wr (wr.alloc (.cells #[.int .i64 r.key, .int .i64 r.value, .int .i64 r.width] 34)) := (Below.refl _ _).alloc (Nat.le_refl _) _
        have T1 := Lib.hid (htab.out.stay hba)
        clear hba
        go_wp2_with fail
        refine (ifrow r _ T1.out).mono ?_
        rintro e w1 ⟨rfl, b1⟩
        have hgl : w0.heap.size < wr.heap.size := lt_of_block hg.out
        have b2 := (box_row (r := r) b1).2
        have hg1 : w1.heap[w0.heap.size]? = some (.cells (strs ((L.take k).map R.fmt ++ List.replicate (len - k) [])).toArray 9 (0, 0)) := (b2.block _ hgl).trans hg.out
        have HG1 := Lib.hid hg1
        have B1 := Lib.hid (hb.out.trans (b2.mono hb.out.size))
        obtain ⟨d0, f0⟩ := strs_block hg1 k (by simp [HL.out]; omega)
        clear hg1 b1 b2 hgl
        go_wp2_with fail
        go_roundw
        case rel =>
          refine ⟨k + 1, by go_num, by omega, ?_, B1.out.setCell (p := ⟨w0.heap.size, k, none⟩) hle _⟩
          show _ = _
          rw [strs_set HG1.out k, set_next' ((L.take k).map R.fmt) [] len k r.fmt hlt (by simp [HL.out]; omega)]
          have hkl : k < L.length := by rw [HL.out]; exact hlt
          have e3 : r = L[k] := by rw [HR.out]; simp [List.getD, hkl]
          rw [List.take_succ_eq_append_getElem hkl, List.map_append, List.map_cons, List.map_nil, ← e3]
        case measure => simp [RowKit.intOf]; omega
      · have hkl : k = len := by omega
        have hfin : wr.heap[w0.heap.size]? = some (.cells (strs (L.map R.fmt)).toArray 9 (0, 0)) := by
          rw [hg.out, hkl, ← HL.out, List.take_length, Nat.sub_self]; simp
        have HJ := Lib.hid (join_rows hfin HL.out (by rw [HL.out]; exact hl24))
        clear hfin hkl
        go_wp2_with fail
        refine HJ.out.mono ?_
        rintro e w1 ⟨rfl, b1⟩
        go_wp2_with fail
        go_ret
        exact ⟨by rw [HF.out]; rfl, hb.out.trans (b1.mono hb.out.size)⟩
end Go.Proofs.YtoiobaiiammehaaGreatDoor
/- strings.Builder over the program: copyCheck and WriteString walked here (their text in this program is not the library's laid one to the sign), String by the library's contract. -/
namespace Go.Proofs.YtoiobaiiammehaaGreatDoor
open Go Go.RowKit Go.Shelf

abbrev IsB (B b : Nat) (bs : List Value) (w : World) : Prop := Lib.IsBuilder 63 5 B b bs w
theorem owns_keep {w w' : World} {B : Nat} {e : TypeId} {k n : Nat} {v : Value} {xs : List Value} (h : w.ownsRow B e k v n xs) (hb : Below w.heap.size w w') : w'.ownsRow B e k v n xs := by
  obtain ⟨h1, h0 | ⟨g, cap, cur, hv, hB, hh, h2⟩⟩ := h
  · exact ⟨h1, .inl h0⟩
  · exact ⟨h1, .inr ⟨g, cap, cur, hv, hB, (hb.block g (lt_of_block hh)).trans hh, h2⟩⟩
theorem isb_keep {B b : Nat} {bs : List Value} {w w' : World} (h : IsB B b bs w) (hb : Below w.heap.size w w') : IsB B b bs w' := by
  have key : ∀ p, Lib.BuilderAt 63 5 B b p bs w → Lib.BuilderAt 63 5 B b p bs w' := by
    rintro p ⟨hB, v, hh, hown, hne⟩
    exact ⟨hB, v, (hb.block b (lt_of_block hh)).trans hh, owns_keep hown hb, hne⟩
  exact h.imp (key _) (key _)
theorem isb_new (w : World) : IsB w.heap.size w.heap.size [] (w.alloc (.cells #[.pointer none, .slice none 0 0] 63)) :=
  .inl ⟨Nat.le_refl _, _, heap_alloc_new w _, ⟨rfl, .inl ⟨rfl, rfl⟩⟩, by simp [Value.ownBlock]⟩
theorem bInfo : (Tryz.prog.info? 63).map (·.size) = some 2 := by kernel_rfl
theorem bLies : liesAt Tryz.prog Tryz.prog.depth 63 (2 / Tryz.prog.cellsOf 63) 0 63 1 = true := by kernel_rfl
theorem byteInfo : (Tryz.prog.info? 5).map (fun i => (i.zero, i.size, i.bytes)) = some (some (.int .u8 0), 1, 1) := by kernel_rfl
set_option maxRecDepth 100000 in
theorem copycheck_used (b : Nat) (w : World) (h0 : w.cell? ⟨b, 0, none⟩ = some (.pointer (some ⟨b, 0, none⟩))) :
    Calls Tryz.prog 54 #[.pointer (some ⟨b, 0, none⟩)] w fun e w' => e = .returned (.tuple #[]) ∧ w' = w := by
  obtain ⟨j, hj, _⟩ := Option.map_eq_some_iff.1 bInfo
  go_enter Tryz.func54, Tryz.ntmps54
  go_wp2
  rw [Lib.run_neq_ptr_same w _ Tryz.underlying61 hj]
  go_wp2
  go_end0
  exact ⟨rfl, rfl⟩
set_option maxRecDepth 100000 in
theorem copycheck_fresh (b : Nat) (w : World) (h0 : w.cell? ⟨b, 0, none⟩ = some (.pointer none)) (hsh : w.shape? b = some (63, 2)) (hfz : w.frozen? ⟨b, 0, none⟩ = false) :
    Calls Tryz.prog 54 #[.pointer (some ⟨b, 0, none⟩)] w fun e w' => e = .returned (.tuple #[]) ∧ w' = w.setCell ⟨b, 0, none⟩ (.pointer (some ⟨b, 0, none⟩)) := by
  obtain ⟨j, hj, hjs⟩ := Option.map_eq_some_iff.1 bInfo
  go_enter Tryz.func54, Tryz.ntmps54
  go_wp2
  rw [Lib.run_to_unsafe w ⟨b, 0, none⟩ Tryz.underlying61 Tryz.underlying93 hj (by rw [hjs]; decide) hsh (Nat.zero_lt_succ 1)]
  simp only [Result.andThen]
  rw [Oper.upon_value]
  go_wp2
  rw [run_callFunc_extern Tryz.func66 (by kernel_rfl) (by kernel_rfl) (by kernel_rfl) (e := Extern.AbiNoEscape.same) (by kernel_rfl)]
  rw [Lib.run_noEscape]
  simp only [Result.andThen]
  rw [Oper.upon_value]
  go_wp2
  rw [Lib.run_from_unsafe w ⟨b, 0, none⟩ Tryz.underlying93 Tryz.underlying61 hj hsh bLies]
  simp only [Result.andThen]
  rw [Oper.upon_value]
  go_wp2
  go_end0
  exact ⟨rfl, rfl⟩
theorem copycheck (B b : Nat) (bs : List Value) (w : World) (h : IsB B b bs w) :
    Calls Tryz.prog 54 #[.pointer (some ⟨b, 0, none⟩)] w fun e w' => e = .returned (.tuple #[]) ∧ (Lib.BuilderAt 63 5 B b (.pointer (some ⟨b, 0, none⟩)) bs w' ∧ Below B w w') := by
  rcases h with h | h
  · refine (copycheck_fresh b w h.cell0 h.shape h.frozen0).mono ?_
    rintro e w' ⟨rfl, rfl⟩
    exact ⟨rfl, h.used _, (Below.refl B w).setCell (p := ⟨b, 0, none⟩) h.1 _⟩
  · refine (copycheck_used b w h.cell0).mono ?_
    rintro e w' ⟨rfl, rfl⟩
    exact ⟨rfl, h, Below.refl B _⟩
set_option maxRecDepth 100000 in
theorem writestr (B b : Nat) (bs : List Value) (s : ByteArray) (w : World) (h : IsB B b bs w) (hlen : bs.length + s.size ≤ 140737488355328) (hBw : B ≤ w.heap.size) :
    Calls Tryz.prog 39 #[.pointer (some ⟨b, 0, none⟩), .string s] w fun e w' => e = .returned (.tuple #[.int .i64 s.size, .nilIface]) ∧ (IsB B b (bs ++ Lib.strCells s) w' ∧ Below B w w') := by
  obtain ⟨i0, hi, hz0, hz1, hz2⟩ := info_parts byteInfo
  go_enter Tryz.func39, Tryz.ntmps39
  go_wp2_with fail
  refine (copycheck B b bs _ h).mono ?_
  rintro e w1 ⟨rfl, h1, hb1⟩
  obtain ⟨hB, v, hbk, hown, hne⟩ := h1
  have c0 : w1.cell? ⟨b, 0, none⟩ = some (.pointer (some ⟨b, 0, none⟩)) := by rw [Lib.cell_of_heap hbk]; rfl
  have c1 : w1.cell? ⟨b, 1, none⟩ = some v := by rw [Lib.cell_of_heap hbk]; rfl
  go_wp2_with (at_builtin; refine Lib.wpList_append_own_string _ rfl _ _ 22 9 rfl B 5 i0 Tryz.underlying22 Tryz.underlying9 hi hz0 hz1 hz2 _ _ _ rfl hown s rfl ?c3 ?c4 ?c5 ?_)
  case c3 => unfold maxLen; omega
  case c4 => omega
  case c5 => have := hb1.size; omega
  intro v' w2 hown' hgrow _
  have hlt : b < w1.heap.size := lt_of_block hbk
  have hb2 : w2.heap[b]? = some (.cells #[.pointer (some ⟨b, 0, none⟩), v] 63 (0, 0)) := by
    rw [hgrow.block b hlt (fun e => hne e.symm)]
    exact hbk
  have d0 : w2.cell? ⟨b, 0, none⟩ = some (.pointer (some ⟨b, 0, none⟩)) := by rw [Lib.cell_of_heap hb2]; rfl
  have d1 : w2.cell? ⟨b, 1, none⟩ = some v := by rw [Lib.cell_of_heap hb2]; rfl
  have f1 : w2.frozen? ⟨b, 1, none⟩ = false := Lib.frozen_of_heap hb2 1
  obtain ⟨ao, n', cap, rfl⟩ : ∃ ao n' cap, v' = .slice ao n' cap := by
    rcases hown'.2 with ⟨hv, _⟩ | ⟨g, cap, cur, hv, _⟩
    · exact ⟨_, _, _, hv⟩
    · exact ⟨_, _, _, hv⟩
  go_wp2
  go_ret2
  refine ⟨rfl, .inr ?_, ?_⟩
  · exact Lib.BuilderAt.put hB hb2 (bs' := bs ++ Lib.strCells s) (by simpa [Lib.strCells_length] using hown') (by decide)
  · exact (hb1.grown hgrow (by have := hb1.size; omega) (fun k hk => (hown.lt k hk).1)).setCell (p := ⟨b, 1, none⟩) hB _
theorem strcells (l : List UInt8) : Lib.strCells ⟨l.toArray⟩ = Lib.byteCells l := by
  first | rfl | simp [Lib.strCells, Lib.byteCells]
theorem buildstr (B b : Nat) (l : List UInt8) (w : World) (h : IsB B b (Lib.byteCells l) w) (hB : B ≤ w.heap.size) :
    Calls Tryz.prog 41 #[.pointer (some ⟨b, 0, none⟩)] w fun e w' => e = .returned (.string ⟨l.toArray⟩) ∧ Below B w w' := Tryz.Builder_String_any B b l w h hB
end Go.Proofs.YtoiobaiiammehaaGreatDoor
/- The program's FormatPages, by contract. -/
namespace Go.Proofs.YtoiobaiiammehaaGreatDoor
open Go.RowKit Go.Lib

theorem txt_page (b : List UInt8) : ((⟨#[91]⟩ : ByteArray) ++ ⟨b.toArray⟩) ++ ⟨#[93]⟩ = ⟨(91 :: (b ++ [93])).toArray⟩ := by
  have e : (⟨#[91]⟩ : ByteArray) = ⟨[91].toArray⟩ := rfl
  have e2 : (⟨#[93]⟩ : ByteArray) = ⟨[93].toArray⟩ := rfl
  rw [e, e2, ByteArray.mk_append_mk, ByteArray.mk_append_mk]
  congr 1
theorem txt_len (P : List (List R)) : (P.flatMap R.pageTxt).length ≤ 218 * P.length := by
  induction P with
  | nil => simp
  | cons p P ih =>
    have h1 := fmtRows_length p
    rw [List.flatMap_cons, List.length_append, List.length_cons]
    have : (R.pageTxt p).length = (fmtRows p).length + 2 := by simp [R.pageTxt]
    omega
theorem txt_step (P : List (List R)) (t : Nat) (ht : t < P.length) : (P.take (t + 1)).flatMap R.pageTxt = (P.take t).flatMap R.pageTxt ++ (91 :: (fmtRows P[t] ++ [93])) := by
  rw [List.take_succ_eq_append_getElem ht, List.flatMap_append, List.flatMap_singleton]
  rfl
theorem bytecells_app (a b : List UInt8) : Lib.byteCells a ++ Lib.byteCells b = Lib.byteCells (a ++ b) := by simp [Lib.byteCells]
set_option maxRecDepth 100000 in
theorem ifpages (a : Option Addr) (n c : Nat) (P : List (List R)) (w : World) (h : SeqIn pageRep w a n P) (hn : n ≤ 1000000000) (hf : P.flatten.length ≤ 1000000000000) (ht : Tab w) :
    Calls Tryz.prog 16 #[.slice a n c] w fun e w' => e = .returned (.string ⟨(R.fmtPages P).toArray⟩) ∧ Below w.heap.size w w' := by
  have HL := Lib.hid h.1
  have HI := Lib.hid h
  have HT := Lib.hid ht
  obtain ⟨N, hN⟩ : ∃ N, N = P.flatten.length := ⟨_, rfl⟩
  rw [← hN] at hf
  have HN := Lib.hid hN
  have S0 := Lib.hid (isb_new w)
  have B0 := Lib.hid ((Below.refl w.heap.size w).alloc (Nat.le_refl _) (.cells #[.pointer none, .slice none 0 0] 63))
  clear h hN ht
  go_enter Tryz.func16, Tryz.ntmps16
  go_wp2_with fail
  go_loopw [8] (fun i wr => ∃ t : Nat, i = .int .i64 t ∧ t ≤ n ∧ Hid (R.allPages (P.take t) = true) ∧ Hid (IsB w.heap.size w.heap.size (Lib.byteCells ((P.take t).flatMap R.pageTxt)) wr) ∧ Hid (Below w.heap.size w wr)) (fun i _ => n - (RowKit.intOf i).toNat)
  case atStart => exact ⟨0, rfl, Nat.zero_le _, (show R.allPages (P.take 0) = true by simp [R.allPages]), S0, B0⟩
  case round =>
    obtain ⟨t, rfl, ht, hok, hS, hb⟩ := hrel
    have hsz : w.heap.size ≤ wr.heap.size := hb.out.size
    by_cases hlt : t < n
    · have htl : t < P.length := by have := HL.out; omega
      have hp : P[t]? = some P[t] := by simp [htl]
      obtain ⟨b, o, d, k, m, rfl, hbl, hcell, hin, -⟩ := (HI.out.keep hb.out).at hp
      have hkn : k ≤ 1000000000000 := by
        have h1 := flat_mem P t htl
        rw [hin.1, ← HN.out] at h1
        omega
      have hxl : ((P.take t).flatMap R.pageTxt).length ≤ 218000000000 := by
        have h2 := txt_len (P.take t)
        rw [List.length_take] at h2
        omega
      have HXL := Lib.hid hxl
      have HNX := Lib.hid (txt_step P t htl)
      have HTK := Lib.hid (R.allPages_take htl)
      have HBAD := Lib.hid (R.allPages_bad t htl)
      obtain ⟨p, hpp⟩ : ∃ p, p = P[t] := ⟨_, rfl⟩
      rw [← hpp] at hin HNX HTK HBAD
      have bx := (Below.refl wr.heap.size wr).alloc (Nat.le_refl _) (.cells #[.slice d k m] 31)
      have IX := Lib.hid (hin.keep bx)
      have SX := Lib.hid (isb_keep hS.out bx)
      have BX := Lib.hid (hb.out.trans (bx.mono hsz))
      have CX := Lib.hid (heap_alloc_new wr (.cells #[.slice d k m] 31))
      have hlx : wr.heap.size < (wr.alloc (.cells #[.slice d k m] 31)).heap.size := by simp
      clear hin hp hpp bx hxl
      go_wp2_with fail
      refine (ivalidpage d k m p _ IX.out hkn).mono ?_
      rintro e w1 ⟨rfl, b1⟩
      have B1 := Lib.hid (BX.out.trans (b1.mono BX.out.size))
      have I1 := Lib.hid (IX.out.keep b1)
      have S1 := Lib.hid (isb_keep SX.out b1)
      have q1 := (b1.block _ hlx).trans CX.out
      have c1 : w1.cell? ⟨wr.heap.size, 0, none⟩ = some (.slice d k m) := by simp [World.cell?, q1]
      clear b1 q1
      cases hv : R.pageOk p with
      | false =>
        have HF := Lib.hid (show R.fmtPages P = [] by unfold R.fmtPages; rw [HBAD.out hv]; rfl)
        clear hv
        go_wp2_with fail
        go_ret
        exact ⟨by rw [HF.out]; rfl, B1.out⟩
      | true =>
        have HV := Lib.hid hv
        clear hv
        go_wp2_with fail
        refine (ifrows d k m p _ (rows_in I1.out) hkn (HT.out.stay B1.out)).mono ?_
        rintro e w2 ⟨rfl, b2⟩
        have B2 := Lib.hid (B1.out.trans (b2.mono B1.out.size))
        have S2 := Lib.hid (isb_keep S1.out b2)
        have hpl := fmtRows_length p
        obtain ⟨z, hz⟩ : ∃ z, z = fmtRows p := ⟨_, rfl⟩
        rw [← hz] at HNX hpl ⊢
        clear b2 hz
        have n1 : ¬ 9223372036854775807 < 1 + z.length := by omega
        have n2 : ¬ 9223372036854775807 < 1 + z.length + 1 := by omega
        go_wp2_with fail
        rw [txt_page]
        have hsl : (⟨(91 :: (z ++ [93])).toArray⟩ : ByteArray).size = z.length + 2 := by simp [ByteArray.size]
        refine (writestr w.heap.size w.heap.size _ ⟨(91 :: (z ++ [93])).toArray⟩ w2 S2.out (by rw [hsl, Lib.byteCells_length]; have := HXL.out; omega) B2.out.size).mono ?_
        rintro e w3 ⟨rfl, hS3, b3⟩
        rw [strcells, bytecells_app, ← HNX.out] at hS3
        have S3 := Lib.hid hS3
        have B3 := Lib.hid (B2.out.trans b3)
        clear hS3 b3 hsl
        go_wp2_with fail
        go_roundw
        case rel => exact ⟨t + 1, by go_num, by omega, (by show _ = _; rw [HTK.out, hok.out, HV.out]; rfl), S3, B3⟩
        case measure => simp [RowKit.intOf]; omega
    · have hkl : t = n := by omega
      have htk : P.take t = P := by rw [hkl, List.take_of_length_le (by have := HL.out; omega)]
      rw [htk] at hok hS
      have HF := Lib.hid (show R.fmtPages P = P.flatMap R.pageTxt by unfold R.fmtPages; rw [if_pos hok.out])
      clear hkl htk
      go_wp2_with fail
      refine (buildstr w.heap.size w.heap.size _ wr hS.out hsz).mono ?_
      rintro e w1 ⟨rfl, b1⟩
      have B1 := Lib.hid (hb.out.trans b1)
      clear b1
      go_wp2_with fail
      go_ret
      exact ⟨by rw [HF.out]; rfl, B1.out⟩
end Go.Proofs.YtoiobaiiammehaaGreatDoor
/- The reference's WouldOverflow, by contract. -/
namespace Go.Proofs.YtoiobaiiammehaaGreatDoor
open Go.RowKit

set_option maxRecDepth 100000 in
theorem soverflow (a : Option Addr) (n c : Nat) (p : List R) (r : R) (hr : r.wf) (w : World) (h : SeqIn rowRep w a n p) (hn : n ≤ 1000000000000) :
    Calls Tryz.prog 25 #[.agg #[.slice a n c], .agg #[.int .i64 r.key, .int .i64 r.value, .int .i64 r.width]] w fun e w' => e = .returned (.bool (decide (8 < total p + r.cost))) ∧ Below w.heap.size w w' := by
  obtain ⟨W, hW⟩ : ∃ W, W = (w.alloc (.cells #[.slice a n c] 31)).alloc (.cells #[.int .i64 r.key, .int .i64 r.value, .int .i64 r.width] 34) := ⟨_, rfl⟩
  have hs1 : (w.alloc (.cells #[.slice a n c] 31)).heap.size = w.heap.size + 1 := by simp
  have hs2 : W.heap.size = w.heap.size + 2 := by rw [hW]; simp
  have b0 : Below w.heap.size w W := by rw [hW]; exact ((Below.refl _ _).alloc (Nat.le_refl _) _).alloc (by simp) _
  have k0 : W.heap[w.heap.size]? = some (.cells #[.slice a n c] 31 (0, 0)) := by rw [hW]; exact (Below.heap_alloc _ _ _ (by simp)).trans (heap_alloc_new _ _)
  have k1 : W.heap[w.heap.size + 1]? = some (.cells #[.int .i64 r.key, .int .i64 r.value, .int .i64 r.width] 34 (0, 0)) := by rw [hW, ← hs1]; exact heap_alloc_new _ _
  have HI := Lib.hid (rows_in (h.keep b0))
  have B0 := Lib.hid b0
  have HK := Lib.hid fun v (hv : Below W.heap.size W v) => (show v.cell? ⟨w.heap.size, 0, none⟩ = some (.slice a n c) ∧ RowAt v (w.heap.size + 1) 0 r from by
    have q0 := (hv.block w.heap.size (by omega)).trans k0
    have q1 := (hv.block (w.heap.size + 1) (by omega)).trans k1
    exact ⟨by simp [World.cell?, q0], by simp [World.cell?, q1], by simp [World.cell?, q1], by simp [World.cell?, q1]⟩)
  have HT := total_range p
  have HCR := r.cost_range
  have hpl := h.1
  have C1 := Lib.hid fun v (hv : Below W.heap.size W v) => (stotal a n c p v (HI.out.keep hv) (by omega)).mono fun e v' (h : e = .returned (.int .i64 (total p)) ∧ Below v.heap.size v v') => (⟨h.1, hv.trans (h.2.mono hv.size)⟩ : e = .returned (.int .i64 (total p)) ∧ Below W.heap.size W v')
  have C2 := Lib.hid fun v (hv : Below W.heap.size W v) => (scost r hr v).mono fun e v' (h : e = .returned (.int .i64 r.cost) ∧ Below v.heap.size v v') => (⟨h.1, hv.trans (h.2.mono hv.size)⟩ : e = .returned (.int .i64 r.cost) ∧ Below W.heap.size W v')
  obtain ⟨T, hT⟩ : ∃ T, T = total p := ⟨_, rfl⟩
  obtain ⟨K, hK⟩ : ∃ K, K = r.cost := ⟨_, rfl⟩
  unfold R.val at C2
  rw [← hT] at C1 HT ⊢
  rw [← hK] at C2 HCR ⊢
  clear hT hK b0 k0 k1 h hs1 hs2
  go_enter Tryz.func25, Tryz.ntmps25
  go_wp2_with fail
  rw [← hW]
  clear hW
  refine region_class (Below W.heap.size W) (by kernel_rfl) (by kernel_rfl) (Below.refl _ _).drew ?_
  repeat (first | go_big_quiet_skip | (go_big_quiet_want; go_big_quiet_op; first | go_big_quiet_on | (apply Exists.intro; refine ⟨fun v hv => ?_, ?_⟩; (focus (first | exact rfl | ((first | (go_at_call 29; exact C1.out v hv) | (go_at_call 46; exact C2.out v hv)); done) | ((obtain ⟨d0, d1, d2, d3⟩ := HK.out v hv); go_simp; done) | ((obtain ⟨d0, d1, d2, d3⟩ := HK.out v hv); go_simp; exact rfl) | ((obtain ⟨d0, d1, d2, d3⟩ := HK.out v hv); go_simp; exact ⟨rfl, rfl⟩))); go_big_quiet_on)))
  refine wpQuiet_nil ?_
  intro v hv
  go_wp2_with fail
  go_ret
  exact ⟨rfl, B0.out.trans (hv.mono B0.out.size)⟩
end Go.Proofs.YtoiobaiiammehaaGreatDoor
/- The reference's PackPages, by contract. -/
namespace Go.Proofs.YtoiobaiiammehaaGreatDoor
open Go.RowKit

/-- A page's head, as a value. -/
def El.v (e : El pageRep) : Value := .slice e.h.1 e.h.2.1 e.h.2.2
/-- What the loop of PackPages keeps: the page that is being filled lies in the variable's block, its rows in a block of their own; the full pages' heads in another; the full pages' rows apart from all of these. -/
structure Fills (w : World) (B G : Nat) (s : List (List R) × List R) (v : Value) (es : List (El pageRep)) (wr : World) (vp : Value) : Prop where
  old : Below B w wr
  var : wr.heap[G]? = some (.cells #[vp] 31 (0, 0))
  low : B ≤ G
  rows : Mine wr B vp s.2
  heads : Heads wr B v (cellsOf es)
  pages : OwnAll pageRep wr B es
  list : es.map El.x = s.1
  vG : v.ownBlock ≠ some G
  pG : vp.ownBlock ≠ some G
  pv : ∀ k, vp.ownBlock = some k → v.ownBlock ≠ some k
  away : ∀ e ∈ es, ∀ y ∈ e.F, y.b ≠ G ∧ v.ownBlock ≠ some y.b ∧ vp.ownBlock ≠ some y.b
  wf : ∀ r ∈ s.2, r.wf
  whole : ∀ e ∈ es, Mine wr B e.v e.x ∧ ∀ k, e.v.ownBlock = some k → k ≠ G ∧ v.ownBlock ≠ some k ∧ vp.ownBlock ≠ some k
theorem Fills.keep {w wr wr' : World} {B G : Nat} {s : List (List R) × List R} {v vp : Value} {es : List (El pageRep)} (h : Fills w B G s v es wr vp) (hb : Below wr.heap.size wr wr') (hB : B ≤ wr.heap.size) : Fills w B G s v es wr' vp :=
  ⟨h.old.trans (hb.mono hB), (hb.block G (lt_of_block h.var)).trans h.var, h.low, h.rows.keep hb, h.heads.keep hb, h.pages.keep hb, h.list, h.vG, h.pG, h.pv, h.away, h.wf, fun e he => ⟨(h.whole e he).1.keep hb, (h.whole e he).2⟩⟩
/-- The page is full: its head is appended. -/
theorem Fills.push {w wr w' : World} {B G g gp np cp : Nat} {s : List (List R) × List R} {v : Value} {es : List (El pageRep)} (h : Fills w B G s v es wr (.slice (some ⟨gp, 0, none⟩) np cp)) (hm : np ≤ maxLen)
    (hg : wr.grownBy w' v.ownBlock) (hat : v.ownBlock = some g ∨ wr.heap.size ≤ g) :
    ∃ e : El pageRep, cellsOf (es ++ [e]) = cellsOf es ++ [.slice (some ⟨gp, 0, none⟩) np cp] ∧ OwnAll pageRep w' B (es ++ [e]) ∧ (es ++ [e]).map El.x = s.1 ++ [s.2] ∧ g ≠ G ∧ (∀ f ∈ es ++ [e], ∀ y ∈ f.F, y.b ≠ G ∧ y.b ≠ g) ∧ ∀ f ∈ es ++ [e], Mine w' B f.v f.x ∧ ∀ k, f.v.ownBlock = some k → k ≠ G ∧ k ≠ g := by
  have hGl := lt_of_block h.var
  have hgpl : gp < wr.heap.size := (World.ownsRow.lt h.rows gp rfl).2
  have hgG : g ≠ G := by
    rcases hat with hat | hat
    · intro e; exact h.vG (by rw [hat, e])
    · omega
  have hrows' : Mine w' B (.slice (some ⟨gp, 0, none⟩) np cp) s.2 := h.rows.grown hg fun k hk => h.pv k hk
  obtain ⟨F, hF, hFb⟩ := rows_own hrows' h.wf hm
  have hgpG : gp ≠ G := fun e => h.pG (by rw [← e]; rfl)
  have hgpg : gp ≠ g := by
    rcases hat with hat | hat
    · intro e; exact h.pv gp rfl (by rw [hat, e])
    · omega
  have hes' : OwnAll pageRep w' B es := h.pages.stay fun e he => Stay.of_grown hg (fun y hy => (pageRep.own_lt (h.pages.1 e he) y hy).2) (fun y hy => (h.away e he y hy).2.1)
  refine ⟨⟨s.2, (some ⟨gp, 0, none⟩, np, cp), F⟩, by rw [cellsOf_snoc]; rfl, ⟨fun e he => ?_, ?_⟩, by rw [List.map_append, h.list]; rfl, hgG, fun e he y hy => ?_, fun e he => ?_⟩
  · rcases List.mem_append.1 he with he | he
    · exact hes'.1 e he
    · rw [List.mem_singleton.1 he]; exact ⟨hF, fun e => by cases e⟩
  · rw [List.pairwise_append]
    refine ⟨hes'.2, List.pairwise_singleton _ _, fun e he f hf x hx y hy => .inl ?_⟩
    rw [List.mem_singleton.1 hf] at hy
    rw [hFb y hy]
    intro e2
    exact (h.away e he x hx).2.2 (by rw [e2]; rfl)
  · rcases List.mem_append.1 he with he | he
    · refine ⟨(h.away e he y hy).1, fun e2 => ?_⟩
      have hyl := (pageRep.own_lt (h.pages.1 e he) y hy).2
      rcases hat with hat | hat
      · exact (h.away e he y hy).2.1 (by rw [hat, e2])
      · omega
    · rw [List.mem_singleton.1 he] at hy
      rw [hFb y hy]
      exact ⟨hgpG, hgpg⟩
  · rcases List.mem_append.1 he with he | he
    · obtain ⟨h1, h2⟩ := h.whole e he
      refine ⟨h1.grown hg fun k hk => (h2 k hk).2.1, fun k hk => ⟨(h2 k hk).1, fun e2 => ?_⟩⟩
      rcases hat with hat | hat
      · exact (h2 k hk).2.1 (by rw [hat, e2])
      · have := (World.ownsRow.lt h1 k hk).2
        omega
    · rw [List.mem_singleton.1 he]
      refine ⟨hrows', fun k hk => ?_⟩
      have hk' : gp = k := by simp only [El.v, Value.ownBlock] at hk; injection hk
      rw [← hk']
      exact ⟨hgpG, hgpg⟩
/-- .. and the variable is emptied. -/
theorem Fills.full {w wr w' : World} {B G g n c gp np cp : Nat} {s : List (List R) × List R} {v : Value} {es : List (El pageRep)} (h : Fills w B G s v es wr (.slice (some ⟨gp, 0, none⟩) np cp)) (hB : B ≤ wr.heap.size) (hm : np ≤ maxLen)
    (hh : Heads w' B (.slice (some ⟨g, 0, none⟩) n c) (cellsOf es ++ [.slice (some ⟨gp, 0, none⟩) np cp])) (hg : wr.grownBy w' v.ownBlock) (hat : v.ownBlock = some g ∨ wr.heap.size ≤ g) :
    ∃ e : El pageRep, Fills w B G (s.1 ++ [s.2], []) (.slice (some ⟨g, 0, none⟩) n c) (es ++ [e]) (w'.setCell ⟨G, 0, none⟩ (.slice none 0 0)) (.slice none 0 0) := by
  obtain ⟨e, hcs, hall, hli, hgG, haw, hwh⟩ := h.push hm hg hat
  have hblk := (hg.block G (lt_of_block h.var) (fun e => h.vG e.symm)).trans h.var
  refine ⟨e, ?_⟩
  exact {
    old := (h.old.grown hg hB (fun k hk => (h.heads.own k hk).1)).setCell h.low _
    var := Joins.block_setCell hblk (i := 0) _
    low := h.low
    rows := mine_none _ _
    heads := by
      rw [hcs]
      exact hh.far fun k hk _ => Below.heap_setCell w' ⟨G, 0, none⟩ _ k (fun e => by simp only [Value.ownBlock] at hk; injection hk with hk; exact hgG (hk.trans e))
    pages := hall.stay fun e he => (Stay.refl _ _).set _ fun y hy => (haw e he y hy).1
    list := hli
    vG := by simp only [Value.ownBlock]; intro e; injection e with e; exact hgG e
    pG := by simp [Value.ownBlock]
    pv := fun k hk => by simp [Value.ownBlock] at hk
    away := fun e he y hy => by
      refine ⟨(haw e he y hy).1, ?_, by simp [Value.ownBlock]⟩
      simp only [Value.ownBlock]
      intro e2
      injection e2 with e2
      exact (haw e he y hy).2 e2.symm
    wf := fun r hr => by cases hr
    whole := fun f hf => by
      obtain ⟨h1, h2⟩ := hwh f hf
      refine ⟨h1.grown (row := some G) ⟨rfl, rfl, rfl, by simp [World.setCell], fun k _ hne => Below.heap_setCell w' ⟨G, 0, none⟩ _ k (fun e => hne (by rw [e]))⟩ fun k hk e => ?_, fun k hk => ⟨(h2 k hk).1, ?_, by simp [Value.ownBlock]⟩⟩
      · injection e with e
        exact (h2 k hk).1 e.symm
      · simp only [Value.ownBlock]
        intro e2
        injection e2 with e2
        exact (h2 k hk).2 e2.symm }
/-- One row more on the page that is being filled. -/
theorem Fills.more {w wr w' : World} {B G g n c : Nat} {s : List (List R) × List R} {v vp : Value} {es : List (El pageRep)} {r : R} (h : Fills w B G s v es wr vp) (hB : B ≤ wr.heap.size) (hr : r.wf)
    (hh : Mine w' B (.slice (some ⟨g, 0, none⟩) n c) (s.2 ++ [r])) (hg : wr.grownBy w' vp.ownBlock) (hat : vp.ownBlock = some g ∨ wr.heap.size ≤ g) :
    Fills w B G (s.1, s.2 ++ [r]) v es (w'.setCell ⟨G, 0, none⟩ (.slice (some ⟨g, 0, none⟩) n c)) (.slice (some ⟨g, 0, none⟩) n c) := by
  have hGl := lt_of_block h.var
  have hgG : g ≠ G := by
    rcases hat with hat | hat
    · intro e; exact h.pG (by rw [hat, e])
    · omega
  have hblk := (hg.block G hGl (fun e => h.pG e.symm)).trans h.var
  have hvg : ∀ k, v.ownBlock = some k → vp.ownBlock ≠ some k := fun k hk e => h.pv k e hk
  exact {
    old := (h.old.grown hg hB (fun k hk => (World.ownsRow.lt h.rows k hk).1)).setCell h.low _
    var := Joins.block_setCell hblk (i := 0) _
    low := h.low
    rows := by
      refine hh.grown (row := some G) ⟨rfl, rfl, rfl, by simp [World.setCell], fun k _ hne => Below.heap_setCell w' ⟨G, 0, none⟩ _ k (fun e => hne (by rw [e]))⟩ fun k hk e => ?_
      simp only [Value.ownBlock] at hk
      injection hk with hk
      injection e with e
      exact hgG (hk.trans e.symm)
    heads := by
      have h1 : Heads w' B v (cellsOf es) := h.heads.far fun k hk hlt => hg.block k hlt (fun e => hvg k hk e.symm)
      exact h1.far fun k hk _ => Below.heap_setCell w' ⟨G, 0, none⟩ _ k (fun e => h.vG (by rw [hk, e]))
    pages := (h.pages.stay fun e he => Stay.of_grown hg (fun y hy => (pageRep.own_lt (h.pages.1 e he) y hy).2) (fun y hy => (h.away e he y hy).2.2)).stay fun e he => (Stay.refl _ _).set _ fun y hy => (h.away e he y hy).1
    list := h.list
    vG := h.vG
    pG := by simp only [Value.ownBlock]; intro e; injection e with e; exact hgG e
    pv := fun k hk e => by
      simp only [Value.ownBlock] at hk
      injection hk with hk
      rcases hat with hat | hat
      · exact h.pv g hat (by rw [e, hk])
      · have := (h.heads.own k e).2
        omega
    away := fun e he y hy => by
      refine ⟨(h.away e he y hy).1, (h.away e he y hy).2.1, ?_⟩
      simp only [Value.ownBlock]
      intro e2
      injection e2 with e2
      rcases hat with hat | hat
      · exact (h.away e he y hy).2.2 (by rw [hat, e2])
      · have := (pageRep.own_lt (h.pages.1 e he) y hy).2
        omega
    wf := fun q hq => by
      rcases List.mem_append.1 hq with hq | hq
      · exact h.wf q hq
      · rw [List.mem_singleton.1 hq]; exact hr
    whole := fun f hf => by
      obtain ⟨h1, h2⟩ := h.whole f hf
      have h3 := h1.grown hg fun k hk => (h2 k hk).2.2
      refine ⟨h3.grown (row := some G) ⟨rfl, rfl, rfl, by simp [World.setCell], fun k _ hne => Below.heap_setCell w' ⟨G, 0, none⟩ _ k (fun e => hne (by rw [e]))⟩ fun k hk e => ?_, fun k hk => ⟨(h2 k hk).1, (h2 k hk).2.1, ?_⟩⟩
      · injection e with e
        exact (h2 k hk).1 e.symm
      · simp only [Value.ownBlock]
        intro e2
        injection e2 with e2
        rcases hat with hat | hat
        · exact (h2 k hk).2.2 (by rw [hat, e2])
        · have := (World.ownsRow.lt h1 k hk).2
          omega }
/-- What PackPages answers: the heads in a block of their own, and each page's rows in one. -/
def PackAns (xs : List (List R)) (w : World) (e : Ending) (w' : World) : Prop :=
  ∃ (x : Option Addr) (k m : Nat) (es : List (El pageRep)), e = .returned (.slice x k m) ∧ k = es.length ∧ Heads w' w.heap.size (.slice x k m) (cellsOf es) ∧ OwnAll pageRep w' w.heap.size es ∧ es.map El.x = xs ∧ (∀ e ∈ es, ∀ y ∈ e.F, (Value.slice x k m).ownBlock ≠ some y.b) ∧
    (∀ e ∈ es, Mine w' w.heap.size e.v e.x ∧ ∀ j, e.v.ownBlock = some j → (Value.slice x k m).ownBlock ≠ some j) ∧ Below w.heap.size w w'
set_option maxRecDepth 100000 in
set_option maxHeartbeats 2000000 in
theorem spackW (a : Option Addr) (n c : Nat) (L : List R) (w : World) (h : IsRows w a n L) (hn : n ≤ 1000000000) : Calls Tryz.prog 7 #[.slice a n c] w (PackAns (R.pack L) w) := by
  have HL := Lib.hid h.1
  have HW := Lib.hid h.2.1
  have be := (Below.refl w.heap.size w).alloc (Nat.le_refl _) (.cells #[] 31)
  have H0 := Lib.hid (heads_zero w w.heap.size (Nat.le_refl _))
  have R0 := Lib.hid (h.keep be)
  have HI := Lib.hid h
  have B0 := Lib.hid be
  clear h be
  go_enter Tryz.func7, Tryz.ntmps7
  go_wp2_with fail
  refine (sare a n c L _ R0.out (by omega)).mono ?_
  rintro e w1 ⟨rfl, b1⟩
  have B1 := Lib.hid (B0.out.trans (b1.mono B0.out.size))
  have H1 := Lib.hid (H0.out.keep b1)
  clear b1 R0 H0
  cases hok : okRows L with
  | false =>
    have HP := Lib.hid (R.pack_bad hok)
    clear hok
    go_wp2_with fail
    go_ret
    exact ⟨_, _, _, [], rfl, rfl, H1.out, OwnAll.nil _ _ _, by rw [HP.out]; rfl, fun e he => (by cases he), fun e he => (by cases he), B1.out⟩
  | true =>
    have HP := Lib.hid (R.pack_eq hok)
    obtain ⟨G, hG⟩ : ∃ G, G = w1.heap.size := ⟨_, rfl⟩
    have hb2 := (Below.refl w1.heap.size w1).alloc (Nat.le_refl _) (.cells #[.slice none 0 0] 31)
    have hv2 := heap_alloc_new w1 (.cells #[.slice none 0 0] 31)
    have hwl : w.heap.size ≤ w1.heap.size := B1.out.size
    have hsl : w.heap.size < G := by rw [hG]; exact H1.out.own w.heap.size rfl |>.2
    have F0 : Hid (Fills w w.heap.size G (R.packSt (L.take 0)) (.slice (some ⟨w.heap.size, 0, none⟩) 0 0) [] (w1.alloc (.cells #[.slice none 0 0] 31)) (.slice none 0 0)) := {
      old := B1.out.trans (hb2.mono hwl)
      var := by rw [hG]; exact hv2
      low := by omega
      rows := mine_none _ _
      heads := H1.out.keep hb2
      pages := OwnAll.nil _ _ _
      list := rfl
      vG := by simp only [Value.ownBlock]; intro e; injection e with e; omega
      pG := by simp [Value.ownBlock]
      pv := fun k hk => by simp [Value.ownBlock] at hk
      away := fun e he => by cases he
      wf := fun r hr => by cases hr
      whole := fun e he => by cases he }
    have HG := Lib.hid hG
    clear hok hb2 hv2
    go_wp2_with fail
    rw [← hG]
    clear hG
    go_loopw [3, 5] (fun v i wr => ∃ (k : Nat) (es : List (El pageRep)) (vp y : Value), y = v ∧ i = .int .i64 k ∧ k ≤ n ∧ Hid (Fills w w.heap.size G (R.packSt (L.take k)) y es wr vp)) (fun _ i _ => n - (intOf i).toNat)
    case atStart => exact ⟨0, [], _, _, rfl, rfl, Nat.zero_le _, F0⟩
    case round =>
      obtain ⟨k, es, vp, y, rfl, rfl, hk, hF⟩ := hrel
      obtain ⟨v0, hv0⟩ : ∃ v0, v0 = wr := ⟨_, rfl⟩
      subst hv0
      obtain ⟨s, hs⟩ : ∃ s, s = R.packSt (L.take k) := ⟨_, rfl⟩
      rw [← hs] at hF
      obtain ⟨ap, cp, rfl⟩ := hF.out.rows.slice
      obtain ⟨np, hnp⟩ : ∃ np, np = s.2.length := ⟨_, rfl⟩
      rw [← hnp] at hF
      have hold := hF.out.old
      have hvar := hF.out.var
      have hvl : w.heap.size ≤ v0.heap.size := hold.size
      have cG : v0.cell? ⟨G, 0, none⟩ = some (.slice ap np cp) := by simp [World.cell?, hvar]
      have fG : v0.frozen? ⟨G, 0, none⟩ = false := by simp [World.frozen?, hvar]
      have hsz := R.packSt_sizes (L.take k)
      rw [← hs, List.length_take, HL.out, ← hnp, ← hF.out.list, List.length_map] at hsz
      have HKP : Hid (k < n → R.packSt (L.take (k + 1)) = R.packStep s (L.getD k R.zero)) := fun hk => by rw [hs]; exact R.packSt_next L k (by have := HL.out; omega)
      have hsum := total_range s.2
      have HNP := Lib.hid hnp
      have HS := Lib.hid hs
      have HOLD := Lib.hid hold
      have HF := Lib.hid hF.out
      clear hs hold hF hnp
      by_cases hlt : k < n
      · obtain ⟨b, o, rfl, hbl, hat⟩ := HI.out.at hlt
        obtain ⟨r, hr⟩ : ∃ r, r = L.getD k R.zero := ⟨_, rfl⟩
        have hrw : r.wf := by rw [hr]; exact HI.out.wf k hlt
        rw [← hr] at hat HKP
        have HST := Lib.hid (HKP.out hlt)
        have hcr := r.cost_range
        have HAT := Lib.hid hat
        obtain ⟨c0, c1, c2⟩ := HAT.out.below HOLD.out hbl
        clear hat
        have PR := Lib.hid (SeqIn.keep (w' := v0.drew) (in_rows ((HF.out.rows).rows HF.out.wf) (by unfold maxLen; omega)) (Below.refl v0.heap.size v0).drew)
        have hi0 : (0 : Int) ≤ (k : Int) := by omega
        have hi1 : (k : Int) < (n : Int) := by omega
        clear hr HKP
        go_wp2_with fail
        go_still_tail 5, (by kernel_rfl)
        go_wp2_with fail
        refine (soverflow ap np cp s.2 r hrw v0.drew PR.out (by omega)).mono ?_
        rintro e w3 ⟨rfl, b3⟩
        have bb3 : Below v0.heap.size v0 w3 := (Below.refl v0.heap.size v0).drew.trans b3
        have F3 := Lib.hid (HF.out.keep bb3 hvl)
        have hvl3 : w.heap.size ≤ w3.heap.size := Nat.le_trans hvl bb3.size
        clear b3 bb3 cG fG hvar c0 c1 c2 HF PR HOLD
        have hvar3 := F3.out.var
        have hGl3 := lt_of_block hvar3
        have cG3 : w3.cell? ⟨G, 0, none⟩ = some (.slice ap np cp) := by simp [World.cell?, hvar3]
        have fG3 : w3.frozen? ⟨G, 0, none⟩ = false := by simp [World.frozen?, hvar3]
        by_cases hov : 8 < total s.2 + r.cost
        · rw [decide_eq_true hov]
          have HOV := Lib.hid hov
          have hnp0 : np ≠ 0 := by
            intro e
            have h2 : s.2.length = 0 := by rw [← HNP.out]; exact e
            rw [h2] at hsum
            omega
          obtain ⟨gp, rfl⟩ : ∃ gp, ap = some ⟨gp, 0, none⟩ := by
            obtain ⟨gp, c', e, -, -⟩ := F3.out.rows.addr (by intro e; injection e with _ e2 _; exact hnp0 e2)
            injection e with e1 _ _
            exact ⟨gp, e1⟩
          have hcl : (cellsOf es).length = es.length := by rw [cellsOf_length]; exact Nat.mul_one _
          have HH3 := Lib.hid F3.out.heads
          have hvG := F3.out.vG
          clear hov hsum
          go_wp2_with (at_builtin; refine wpList_pushP (.tmp 24) (.tmp 26) w3.heap.size rfl rfl rfl rfl rfl HH3.out hvl3 (by omega) rfl ?_; intro g4 c4 w4 hh4 hg4 hat4; have hv4 := (hg4.block G hGl3 (fun e => hvG e.symm)).trans hvar3; have cG4 : w4.cell? ⟨G, 0, none⟩ = some (.slice (some ⟨gp, 0, none⟩) np cp) := (by simp [World.cell?, hv4]); have fG4 : w4.frozen? ⟨G, 0, none⟩ = false := (by simp [World.frozen?, hv4]))
          obtain ⟨e4, F4⟩ := F3.out.full hvl3 (by unfold maxLen; omega) hh4 hg4 hat4
          have hold4 := F4.old
          obtain ⟨w5, hw5⟩ : ∃ w5, w5 = w4.setCell ⟨G, 0, none⟩ (.slice none 0 0) := ⟨_, rfl⟩
          rw [← hw5] at F4 hold4 ⊢
          have F5 := F4
          have hold5 := hold4
          clear F4 hold4 hw5 hh4 hg4 hat4 hv4
          obtain ⟨d0, d1, d2⟩ := HAT.out.below hold5 hbl
          have hvar5 := F5.var
          have hGl5 := lt_of_block hvar5
          have cG5 : w5.cell? ⟨G, 0, none⟩ = some (.slice none 0 0) := by simp [World.cell?, hvar5]
          have fG5 : w5.frozen? ⟨G, 0, none⟩ = false := by simp [World.frozen?, hvar5]
          have hvl5 : w.heap.size ≤ w5.heap.size := hold5.size
          have bx : Below w5.heap.size w5 (w5.alloc (.cells #[.int .i64 r.key, .int .i64 r.value, .int .i64 r.width] 34)).drew := ((Below.refl _ _).alloc (Nat.le_refl _) _).drew
          have F6 := Lib.hid (F5.keep bx hvl5)
          have M6 := Lib.hid F6.out.rows
          have hvar6 : (w5.alloc (.cells #[.int .i64 r.key, .int .i64 r.value, .int .i64 r.width] 34)).drew.heap[G]? = some (.cells #[.slice none 0 0] 31 (0, 0)) := F6.out.var
          have hGl6 := lt_of_block hvar6
          have hpG := F6.out.pG
          have HC6 := Lib.hid (World.news_of_block (w := (w5.alloc (.cells #[.int .i64 r.key, .int .i64 r.value, .int .i64 r.width] 34)).drew) (heap_alloc_new w5 (.cells #[.int .i64 r.key, .int .i64 r.value, .int .i64 r.width] 34)))
          have HV6 := Lib.hid hvar6
          have HPG := Lib.hid hpG
          have HGL6 := Lib.hid hGl6
          have hvl6 : w.heap.size ≤ ((w5.alloc (.cells #[.int .i64 r.key, .int .i64 r.value, .int .i64 r.width] 34)).drew).heap.size := F6.out.old.size
          have HVL6 := Lib.hid hvl6
          have hln : ([] : List R).length + 1 ≤ 1000000000000 := by simp
          clear F5 hold5 bx hvar5 hvar6 hpG hGl6 hvl6
          go_region_law (refine step_pushM (w := (w5.alloc (.cells #[.int .i64 r.key, .int .i64 r.value, .int .i64 r.width] 34)).drew) (M := ([] : List R)) (.tmp 30) (.tmp 35) ⟨w5.heap.size, 0, none⟩ r rfl rfl rfl rfl M6.out HC6.out HVL6.out hln ?_; intro g6 c6 w6 hm6 hg6 hat6; have hv6 := (hg6.block G HGL6.out (fun e => HPG.out e.symm)).trans HV6.out; have cG6 : w6.cell? ⟨G, 0, none⟩ = some (.slice none 0 0) := (by simp [World.cell?, hv6]); have fG6 : w6.frozen? ⟨G, 0, none⟩ = false := (by simp [World.frozen?, hv6]))
          all_goals
            have F7 := Lib.hid (F6.out.more HVL6.out hrw hm6 hg6 hat6)
            clear hm6 hg6 hat6 hv6
            go_wp2_with fail
            go_roundw
            case rel => exact ⟨k + 1, _, _, _, rfl, by go_num, by omega, by show Fills _ _ _ (R.packSt (L.take (k + 1))) _ _ _ _; rw [HST.out]; unfold R.packStep; rw [if_pos HOV.out]; have h7 := F7.out; simp only [List.length_nil, List.nil_append, Nat.zero_add, hcl] at h7; exact h7⟩
            case measure => simp [intOf]; omega
        · rw [decide_eq_false hov]
          have HOV := Lib.hid hov
          clear hov hsum
          go_wp2_with fail
          obtain ⟨w5, hw5⟩ : ∃ w5, w5 = w3 := ⟨_, rfl⟩
          subst hw5
          have F5 := F3.out
          have hold5 := F5.old
          obtain ⟨d0, d1, d2⟩ := HAT.out.below hold5 hbl
          have hvar5 := F5.var
          have hGl5 := lt_of_block hvar5
          have cG5 : w5.cell? ⟨G, 0, none⟩ = some (.slice ap np cp) := by simp [World.cell?, hvar5]
          have fG5 : w5.frozen? ⟨G, 0, none⟩ = false := by simp [World.frozen?, hvar5]
          have hvl5 : w.heap.size ≤ w5.heap.size := hold5.size
          have bx : Below w5.heap.size w5 (w5.alloc (.cells #[.int .i64 r.key, .int .i64 r.value, .int .i64 r.width] 34)).drew := ((Below.refl _ _).alloc (Nat.le_refl _) _).drew
          have F6 := Lib.hid (F5.keep bx hvl5)
          have M6 := Lib.hid F6.out.rows
          have hvar6 : (w5.alloc (.cells #[.int .i64 r.key, .int .i64 r.value, .int .i64 r.width] 34)).drew.heap[G]? = some (.cells #[.slice ap np cp] 31 (0, 0)) := F6.out.var
          have hGl6 := lt_of_block hvar6
          have hpG := F6.out.pG
          have HC6 := Lib.hid (World.news_of_block (w := (w5.alloc (.cells #[.int .i64 r.key, .int .i64 r.value, .int .i64 r.width] 34)).drew) (heap_alloc_new w5 (.cells #[.int .i64 r.key, .int .i64 r.value, .int .i64 r.width] 34)))
          have HV6 := Lib.hid hvar6
          have HPG := Lib.hid hpG
          have HGL6 := Lib.hid hGl6
          have hvl6 : w.heap.size ≤ ((w5.alloc (.cells #[.int .i64 r.key, .int .i64 r.value, .int .i64 r.width] 34)).drew).heap.size := F6.out.old.size
          have HVL6 := Lib.hid hvl6
          have hln : s.2.length + 1 ≤ 1000000000000 := by rw [← HNP.out]; omega
          clear F5 hold5 bx hvar5 hvar6 hpG hGl6 hvl6
          go_region_law (refine step_pushM (w := (w5.alloc (.cells #[.int .i64 r.key, .int .i64 r.value, .int .i64 r.width] 34)).drew) (M := s.2) (.tmp 30) (.tmp 35) ⟨w5.heap.size, 0, none⟩ r rfl rfl rfl rfl M6.out HC6.out HVL6.out hln ?_; intro g6 c6 w6 hm6 hg6 hat6; have hv6 := (hg6.block G HGL6.out (fun e => HPG.out e.symm)).trans HV6.out; have cG6 : w6.cell? ⟨G, 0, none⟩ = some (.slice ap np cp) := (by simp [World.cell?, hv6]); have fG6 : w6.frozen? ⟨G, 0, none⟩ = false := (by simp [World.frozen?, hv6]))
          all_goals
            have F7 := Lib.hid (F6.out.more HVL6.out hrw hm6 hg6 hat6)
            clear hm6 hg6 hat6 hv6
            go_wp2_with fail
            go_roundw
            case rel => exact ⟨k + 1, _, _, _, rfl, by go_num, by omega, by show Fills _ _ _ (R.packSt (L.take (k + 1))) _ _ _ _; rw [HST.out]; unfold R.packStep; rw [if_neg (by have := HOV.out; omega)]; exact F7.out⟩
            case measure => simp [intOf]; omega
      · have hkn : k = n := by omega
        have hst : s = R.packSt L := by rw [HS.out, hkn, List.take_of_length_le (by have := HL.out; omega)]
        have HST := Lib.hid hst
        have hcl : (cellsOf es).length = es.length := by rw [cellsOf_length]; exact Nat.mul_one _
        clear hst hkn hsum HKP
        rcases Nat.eq_zero_or_pos np with h0 | h0
        · subst h0
          have hnil : s.2 = [] := List.eq_nil_of_length_eq_zero HNP.out.symm
          obtain ⟨ay, cy, hy⟩ := HF.out.heads.slice
          have hfin : PackAns (R.pack L) w (.returned (.slice ay (cellsOf es).length cy)) v0 := by
            refine ⟨ay, _, cy, es, rfl, hcl, by rw [← hy]; exact HF.out.heads, HF.out.pages, ?_, fun e he y hy2 => by rw [← hy]; exact (HF.out.away e he y hy2).2.1, fun e he => ⟨(HF.out.whole e he).1, fun j hj => by rw [← hy]; exact ((HF.out.whole e he).2 j hj).2.1⟩, HOLD.out⟩
            rw [HP.out, ← HST.out]
            unfold R.packEnd
            rw [if_pos hnil, ← HF.out.list]
          have HFIN := Lib.hid hfin
          clear hfin hnil
          subst hy
          go_wp2_with fail
          go_ret
          exact HFIN.out
        · obtain ⟨gp, rfl⟩ : ∃ gp, ap = some ⟨gp, 0, none⟩ := by
            obtain ⟨gp, c', e, -, -⟩ := HF.out.rows.addr (by intro e; injection e with _ e2 _; omega)
            injection e with e1 _ _
            exact ⟨gp, e1⟩
          have HH3 := Lib.hid HF.out.heads
          have hpos : (0 : Int) < (np : Int) := by omega
          go_wp2_with (at_builtin; refine wpList_pushP (.tmp 42) (.tmp 44) v0.heap.size rfl rfl rfl rfl rfl HH3.out hvl (by omega) rfl ?_; intro g4 c4 w4 hh4 hg4 hat4)
          have hfin : PackAns (R.pack L) w (.returned (.slice (some ⟨g4, 0, none⟩) ((cellsOf es).length + 1) c4)) w4 := by
            obtain ⟨e4, hcs, hall, hli, hgG, haw, hwh⟩ := HF.out.push (by unfold maxLen; omega) hg4 hat4
            have hne : ∀ k, k ≠ g4 → (Value.slice (some ⟨g4, 0, none⟩) ((cellsOf es).length + 1) c4).ownBlock ≠ some k := fun k hk e2 => by
              simp only [Value.ownBlock] at e2
              injection e2 with e2
              exact hk e2.symm
            refine ⟨_, _, c4, es ++ [e4], rfl, by rw [List.length_append, hcl]; rfl, by rw [hcs]; exact hh4, hall, ?_, fun e he y hy2 => hne _ (haw e he y hy2).2, fun e he => ⟨(hwh e he).1, fun j hj => hne j ((hwh e he).2 j hj).2⟩, HF.out.old.grown hg4 hvl (fun k hk => (HF.out.heads.own k hk).1)⟩
            have hnil : ¬ s.2 = [] := by
              intro e
              have h2 := HNP.out
              rw [e] at h2
              simp at h2
              omega
            rw [HP.out, ← HST.out]
            unfold R.packEnd
            rw [if_neg hnil, ← hli]
          rw [hcl] at hfin
          have HFIN := Lib.hid hfin
          clear hfin hh4 hg4 hat4
          go_ret
          exact HFIN.out
theorem spack (a : Option Addr) (n c : Nat) (L : List R) (w : World) (h : IsRows w a n L) (hn : n ≤ 1000000000) :
    Calls Tryz.prog 7 #[.slice a n c] w fun e w' => ∃ x k m F, e = .returned (.slice x k m) ∧ SeqOwn pageRep w' w.heap.size x k (R.pack L) F ∧ Below w.heap.size w w' :=
  (spackW a n c L w h hn).mono fun e w' ⟨x, k, m, es, he, hk, hh, hall, hli, hne, _, hb⟩ => by
    have hln := congrArg List.length hli
    rw [List.length_map] at hln
    have := R.pack_length (L := L)
    have := h.1
    obtain ⟨F, hF⟩ := pages_done hh hall hne (by unfold maxLen; omega)
    exact ⟨x, k, m, F, he, by rw [← hli]; exact hF, hb⟩
end Go.Proofs.YtoiobaiiammehaaGreatDoor
/- The laws' comparison of two slices of rows by '!=' on the structs (sameRows), by contract: where both read as the same rows. -/
namespace Go.Proofs.YtoiobaiiammehaaGreatDoor
open Go.RowKit

theorem row_neq (a b : R) (w : World) : (binOp .neq 34 (.agg #[.int .i64 a.key, .int .i64 a.value, .int .i64 a.width]) (.agg #[.int .i64 b.key, .int .i64 b.value, .int .i64 b.width])).run Tryz.prog w = .ok (.bool (!decide (a = b))) w := by
  have h1 : (Op.equalIn 10000 34 (.agg #[.int .i64 a.key, .int .i64 a.value, .int .i64 a.width]) (.agg #[.int .i64 b.key, .int .i64 b.value, .int .i64 b.width])).run Tryz.prog w = .ok (decide (a = b)) w := by
    rw [run_equalIn_agg w 9999 34 _ _ (by kernel_rfl) (by kernel_rfl)]
    obtain ⟨k, v, d⟩ := a
    obtain ⟨k', v', d'⟩ := b
    have e : decide (R.mk k v d = R.mk k' v' d') = decide (k = k' ∧ v = v' ∧ d = d') := by simp
    rw [e]
    by_cases hk : k = k' <;> by_cases hv : v = v' <;> by_cases hd : d = d' <;> simp [go_sem, Tryz.underlying34, Tryz.underlying3, hk, hv, hd]
  rw [run_neq_struct, h1]
  rfl
set_option maxRecDepth 100000 in
theorem samerows (a a' : Option Addr) (len cap len' cap' : Nat) (L : List R) (w : World) (h : IsRows w a len L) (h' : IsRows w a' len' L) (hlen : len ≤ 9223372036854775807) :
    Calls Tryz.prog 17 #[.slice a len cap, .slice a' len' cap'] w fun e w' => e = .returned (.bool true) ∧ Below w.heap.size w w' := by
  obtain ⟨hl, -, hc⟩ := h
  obtain ⟨hl', -, hc'⟩ := h'
  obtain rfl : len = len' := hl.symm.trans hl'
  have HC := Lib.hid hc
  have HC' := Lib.hid hc'
  clear hl hc hl' hc'
  go_enter Tryz.func17, Tryz.ntmps17
  go_wp2_with fail
  go_loopw [5] (fun i wr => ∃ k : Nat, i = .int .i64 k ∧ k ≤ len ∧ Hid (Below w.heap.size w wr)) (fun i _ => len - (intOf i).toNat)
  case atStart => exact ⟨0, rfl, Nat.zero_le _, Below.refl _ _⟩
  case round =>
    obtain ⟨k, rfl, hk, hb⟩ := hrel
    by_cases hlt : k < len
    · obtain ⟨b, o, rfl, hbl, hc⟩ : ∃ b o : Nat, a = some ⟨b, o, none⟩ ∧ b < w.heap.size ∧ ∀ t, t < len → RowAt w b (o + t * 3) (L.getD t R.zero) := by
        rcases HC.out with h0 | h0
        · omega
        · exact h0
      obtain ⟨b', o', rfl, hbl', hc'⟩ : ∃ b o : Nat, a' = some ⟨b, o, none⟩ ∧ b < w.heap.size ∧ ∀ t, t < len → RowAt w b (o + t * 3) (L.getD t R.zero) := by
        rcases HC'.out with h0 | h0
        · omega
        · exact h0
      obtain ⟨r, hr⟩ : ∃ r, r = L.getD k R.zero := ⟨_, rfl⟩
      have hat : RowAt wr b (o + k * 3) r := by rw [hr]; exact (hc k hlt).below hb.out hbl
      have hat' : RowAt wr b' (o' + k * 3) r := by rw [hr]; exact (hc' k hlt).below hb.out hbl'
      obtain ⟨c0, c1, c2⟩ := hat
      obtain ⟨d0, d1, d2⟩ := hat'
      clear hr hc hc'
      go_wp2_with fail
      go_still_tail 8, (by kernel_rfl)
      go_wp2_with fail
      go_roundw
      case rel => exact ⟨k + 1, by go_num, by omega, hb.out.drew⟩
      case measure => simp [intOf]; omega
    · go_wp2_with fail
      go_ret
      exact ⟨rfl, hb.out⟩
end Go.Proofs.YtoiobaiiammehaaGreatDoor
/- What changes one block alone; no function of program or reference is walked here. -/
namespace Go.Proofs.YtoiobaiiammehaaGreatDoor
open Go.RowKit

/-- Only block c has changed, and what is new. -/
def Only (c : Nat) (w w' : World) : Prop := w.grownBy w' (some c)
theorem Only.refl (c : Nat) (w : World) : Only c w w := World.grownBy.refl w _
theorem Only.trans {c : Nat} {a b d : World} (h : Only c a b) (k : Only c b d) : Only c a d :=
  ⟨k.os.trans h.os, k.tape.trans h.tape, k.output.trans h.output, Nat.le_trans h.size k.size, fun i hi hne => (k.block i (Nat.lt_of_lt_of_le hi h.size) hne).trans (h.block i hi hne)⟩
theorem Only.drew {c : Nat} {a w : World} (h : Only c a w) : Only c a w.drew := ⟨h.os, h.tape, h.output, h.size, h.block⟩
theorem Only.drewN {c : Nat} {a w : World} (h : Only c a w) (n : Nat) : Only c a (w.drewN n) := ⟨h.os, h.tape, h.output, h.size, h.block⟩
theorem Only.alloc {c : Nat} {a w : World} (h : Only c a w) (o : Obj) : Only c a (w.alloc o) :=
  ⟨h.os, h.tape, h.output, Nat.le_trans h.size (by simp), fun i hi hne => (Below.heap_alloc w o i (Nat.lt_of_lt_of_le hi h.size)).trans (h.block i hi hne)⟩
theorem Only.setCell {c : Nat} {a w : World} (h : Only c a w) (i : Nat) (u : Value) : Only c a (w.setCell ⟨c, i, none⟩ u) :=
  ⟨h.os, h.tape, h.output, by simpa [World.setCell] using h.size, fun k hk hne => (Below.heap_setCell w ⟨c, i, none⟩ u k (fun e => hne (by rw [e]))).trans (h.block k hk hne)⟩
theorem Only.of_below {c : Nat} {a w : World} (h : Below a.heap.size a w) : Only c a w := ⟨h.os, h.tape, h.output, h.size, fun i hi _ => h.block i hi⟩
/-- A step that keeps all that was there at a's time. -/
theorem Only.step {c : Nat} {a b d : World} (h : Only c a b) (k : Below a.heap.size b d) : Only c a d :=
  ⟨k.os.trans h.os, k.tape.trans h.tape, k.output.trans h.output, Nat.le_trans h.size k.size, fun i hi hne => (k.block i hi).trans (h.block i hi hne)⟩
theorem Only.below {c B : Nat} {a b : World} (h : Only c a b) (hB : B ≤ a.heap.size) (hc : B ≤ c) : Below B a b :=
  ⟨h.os, h.tape, h.output, h.size, fun i hi => h.block i (Nat.lt_of_lt_of_le hi hB) (fun e => by injection e with e; omega)⟩

end Go.Proofs.YtoiobaiiammehaaGreatDoor
/- The reader of the drawn code (l1New, l1Byte, l1Below): what it answers and what it leaves alone. -/
namespace Go.Proofs.YtoiobaiiammehaaGreatDoor
open Go.RowKit

/-- What the walk is told of a slice of integers that came in: nil, or a row of cells. -/
def IsRow (k : IntKind) (w : World) (a : Option Addr) (len cap : Nat) (zs : List Int) : Prop :=
  (a = none ∧ len = 0 ∧ cap = 0 ∧ zs = []) ∨
  ∃ x, a = some x ∧ len ≤ cap ∧ cap ≤ maxLen ∧ zs.length = cap ∧ (∀ i, i < zs.length → w.cell? (x.add i) = some (.int k (zs.getD i 0))) ∧ ∀ n ∈ zs, (Lit.int k n).wf = true

/-- The cursor at block c over the code (a, len, cap, zs): σ.1 bytes are read, σ.2 is what it has mixed. -/
structure Cur (a : Option Addr) (len cap : Nat) (zs : List Int) (σ : Int × Int) (w : World) (c : Nat) : Prop where
  row : IsRow .u8 w a len cap zs
  apart : ∀ x, a = some x → 0 < cap → x.block ≠ c
  low : 0 ≤ σ.1
  high : σ.1 ≤ len
  cell : w.heap[c]? = some (.cells #[.slice a len cap, .int .i64 σ.1, .int .i64 σ.2] 72 (0, 0))
theorem IsRow.keep {k : IntKind} {w w' : World} {a : Option Addr} {len cap : Nat} {zs : List Int} (h : IsRow k w a len cap zs) (hk : ∀ x, a = some x → 0 < cap → x.block < w.heap.size → w'.heap[x.block]? = w.heap[x.block]?) : IsRow k w' a len cap zs := by
  rcases h with h | ⟨x, rfl, h1, h2, h3, h4, h5⟩
  · exact .inl h
  · refine .inr ⟨x, rfl, h1, h2, h3, fun i hi => ?_, h5⟩
    have hc := h4 i hi
    have hb : (x.add i).block = x.block := by by_cases h0 : i = 0 <;> simp [Addr.add, h0]
    rw [← hc]
    have hlt : x.block < w.heap.size := by rw [← hb]; exact World.block_lt_of_cell? w _ hc
    exact World.cell?_of_block (by rw [hb]; exact hk x rfl (by omega) hlt)
theorem Cur.lt {a : Option Addr} {len cap : Nat} {zs : List Int} {σ : Int × Int} {w : World} {c : Nat} (h : Cur a len cap zs σ w c) : c < w.heap.size := by
  have hb := h.cell
  rcases Nat.lt_or_ge c w.heap.size with hlt | hge
  · exact hlt
  · rw [Array.getElem?_eq_none hge] at hb; cases hb
/-- Whatever keeps all that was there keeps the cursor. -/
theorem Cur.below {a : Option Addr} {len cap : Nat} {zs : List Int} {σ : Int × Int} {w w' : World} {c B : Nat} (h : Cur a len cap zs σ w c) (hb : Below B w w') (hc : c < B) (ha : ∀ x, a = some x → 0 < cap → x.block < B) : Cur a len cap zs σ w' c :=
  ⟨h.row.keep fun x hx hp _ => hb.block x.block (ha x hx hp), h.apart, h.low, h.high, (hb.block c hc).trans h.cell⟩
theorem Cur.same {a : Option Addr} {len cap : Nat} {zs : List Int} {σ : Int × Int} {w w' : World} {c : Nat} (h : Cur a len cap zs σ w c) (hh : w'.heap = w.heap) : Cur a len cap zs σ w' c :=
  ⟨h.row.keep fun x _ _ _ => by rw [hh], h.apart, h.low, h.high, by rw [hh]; exact h.cell⟩
theorem Cur.alloc {a : Option Addr} {len cap : Nat} {zs : List Int} {σ : Int × Int} {w : World} {c : Nat} (h : Cur a len cap zs σ w c) (o : Obj) : Cur a len cap zs σ (w.alloc o) c :=
  ⟨h.row.keep fun x _ _ hlt => Below.heap_alloc w o x.block hlt, h.apart, h.low, h.high, (Below.heap_alloc w o c h.lt).trans h.cell⟩
/-- The cursor itself is moved on. -/
theorem Cur.only {a : Option Addr} {len cap : Nat} {zs : List Int} {σ : Int × Int} {w w' : World} {c : Nat} (h : Cur a len cap zs σ w c) (ho : Only c w w') (τ : Int × Int) (h1 : 0 ≤ τ.1) (h2 : τ.1 ≤ len)
    (hb : w'.heap[c]? = some (.cells #[.slice a len cap, .int .i64 τ.1, .int .i64 τ.2] 72 (0, 0))) : Cur a len cap zs τ w' c :=
  ⟨h.row.keep fun x hx hp hlt => ho.block x.block hlt (fun e => h.apart x hx hp (by injection e)), h.apart, h1, h2, hb⟩

theorem and255 (y : Int) : 0 ≤ bits .and .i64 y 255 ∧ bits .and .i64 y 255 ≤ 255 := by
  show 0 ≤ IntKind.i64.wrap ((BitVec.ofInt 64 y &&& BitVec.ofInt 64 255).toNat : Int) ∧ IntKind.i64.wrap ((BitVec.ofInt 64 y &&& BitVec.ofInt 64 255).toNat : Int) ≤ 255
  have h : (BitVec.ofInt 64 y &&& BitVec.ofInt 64 255).toNat ≤ 255 := by
    rw [BitVec.toNat_and]
    exact Nat.le_trans Nat.and_le_right (by decide)
  rw [IntKind.wrap_i64]
  omega
end Go.Proofs.YtoiobaiiammehaaGreatDoor
