/- The program's ParseRow, by contract. -/
import Derived.Test.YtoiobaiiammehaaDoorSplitN
import Derived.Test.YtoiobaiiammehaaDoorProws
import Derived.Test.YtoiobaiiammehaaDoorParsei
import Derived.Test.YtoiobaiiammehaaDoorValidi
namespace Go.Proofs.YtoiobaiiammehaaDoor
open Go.RowKit Go.Lib Dec

set_option maxRecDepth 100000 in
theorem iprow_other (s : ByteArray) (hs : s.size ≤ 4000000000) (w : World) (hm : Mx w) (h3 : (Cut.cut 46 s.data.toList).length ≠ 3) : Calls Tryd.prog 58 #[.string s] w fun e w' => RowAns s.data.toList e ∧ Below w.heap.size w w' := by
  have HP := Lib.hid (rowans_no (parseRow_other _ h3))
  have V0 := Lib.hid (Var3.made w R.zero)
  have hba : Below w.heap.size w (w.alloc (.cells #[.int .i64 0, .int .i64 0, .int .i64 0] 65)) := (Below.refl _ _).alloc (Nat.le_refl _) _
  have HM := Lib.hid (hm.stay hba)
  have BA := Lib.hid hba
  clear hba hm
  go_enter Tryd.func58, Tryd.ntmps58
  go_wp2_with fail
  refine (splitn_sign s 46 4 _ HM.out (by omega) (by omega) (by omega)).mono ?_
  rintro e w1 ⟨len, cap, rfl, b1, hor⟩
  have hd : ((len : Int) == 3) = false := by
    rw [beq_eq_false_iff_ne]
    rcases hor with ⟨_, h, _⟩ | ⟨_, h⟩ <;> omega
  have V1 := V0.out.keep b1
  obtain ⟨c0, c1, c2⟩ := V1.cells
  obtain ⟨f0, f1, f2⟩ := V1.free
  have B1 := Lib.hid (BA.out.trans (b1.mono BA.out.size))
  clear b1 V1 hor
  go_wp2_with fail
  refine bodyPost_ret (v := .tuple #[.agg #[.int .i64 0, .int .i64 0, .int .i64 0], .bool false]) (by simp [results, Tryd.results58, go_sem, *]) rfl ⟨HP.out, below_set3 B1.out (Nat.le_refl _) _ _ _ _ _ _⟩
theorem iparse_piece (a : List UInt8) (w : World) (h : Tab w ∧ Syn w) : Calls Tryd.prog 66 #[.string ⟨a.toArray⟩] w fun e w' => e = .returned (.tuple #[.int .i64 ((parse a).getD 0), .bool (parse a).isSome]) ∧ Below w.heap.size w w' :=
  (iparse ⟨a.toArray⟩ w h.1 h.2).mono fun e w' ⟨h, hb⟩ => ⟨by simpa [ParAns] using h, hb⟩
set_option maxRecDepth 100000 in
theorem iprow_three (s : ByteArray) (hs : s.size ≤ 4000000000) (w : World) (hm : Mx w) (hL : Tab w ∧ Syn w) (a b c : List UInt8) (h3 : Cut.cut 46 s.data.toList = [a, b, c]) : Calls Tryd.prog 58 #[.string s] w fun e w' => RowAns s.data.toList e ∧ Below w.heap.size w w' := by
  have HR := Lib.hid (parseRow_pieces h3)
  have PA := Lib.hid (iparse_piece a)
  have PB := Lib.hid (iparse_piece b)
  have PC := Lib.hid (iparse_piece c)
  obtain ⟨x, hx⟩ : ∃ x, x = (parse a).getD 0 := ⟨_, rfl⟩
  obtain ⟨y, hy⟩ : ∃ x, x = (parse b).getD 0 := ⟨_, rfl⟩
  obtain ⟨z, hz⟩ : ∃ x, x = (parse c).getD 0 := ⟨_, rfl⟩
  obtain ⟨p, hp⟩ : ∃ x, x = (parse a).isSome := ⟨_, rfl⟩
  obtain ⟨q, hq⟩ : ∃ x, x = (parse b).isSome := ⟨_, rfl⟩
  obtain ⟨r, hr⟩ : ∃ x, x = (parse c).isSome := ⟨_, rfl⟩
  rw [← hx, ← hp] at PA
  rw [← hy, ← hq] at PB
  rw [← hz, ← hr] at PC
  rw [← hx, ← hy, ← hz, ← hp, ← hq, ← hr] at HR
  clear hx hy hz hp hq hr
  have H3 := Lib.hid h3
  clear h3
  have V0 := Lib.hid (Var3.made w R.zero)
  have hba : Below w.heap.size w (w.alloc (.cells #[.int .i64 0, .int .i64 0, .int .i64 0] 65)) := (Below.refl _ _).alloc (Nat.le_refl _) _
  have HM := Lib.hid (hm.stay hba)
  have L0 := Lib.hid (laid_stay hL hba)
  have BA := Lib.hid hba
  clear hba hm hL
  go_enter Tryd.func58, Tryd.ntmps58
  go_wp2_with fail
  refine (splitn_sign s 46 4 _ HM.out (by omega) (by omega) (by omega)).mono ?_
  rintro e w1 ⟨len, cap, rfl, b1, hor⟩
  rw [H3.out] at hor
  obtain ⟨g, hg⟩ : ∃ g, g = (w.alloc (.cells #[.int .i64 0, .int .i64 0, .int .i64 0] 65)).heap.size := ⟨_, rfl⟩
  rw [← hg] at hor ⊢
  have HG := Lib.hid hg
  clear hg
  obtain ⟨rfl, hst⟩ : len = 3 ∧ IsStrs w1 g [a, b, c] := by
    rcases hor with ⟨_, h, hst⟩ | ⟨h, _⟩
    · exact ⟨h, hst⟩
    · simp at h
  have V1 := Lib.hid (V0.out.keep b1)
  have B1 := Lib.hid (BA.out.trans (b1.mono BA.out.size))
  have L1 := Lib.hid (laid_stay L0.out b1)
  have S1 := Lib.hid hst
  have s0 : w1.cell? ⟨g, 0, none⟩ = some (.string ⟨a.toArray⟩) := hst.2 0 (by simp)
  clear b1 hor hst
  go_wp2_with fail
  refine (PA.out _ L1.out).mono ?_
  rintro e w2 ⟨rfl, b2⟩
  have V2 := Lib.hid (V1.out.keep b2)
  have B2 := Lib.hid (B1.out.trans (b2.mono B1.out.size))
  have L2 := Lib.hid (laid_stay L1.out b2)
  have S2 := Lib.hid (S1.out.keep b2)
  have s1 : w2.cell? ⟨g, 1, none⟩ = some (.string ⟨b.toArray⟩) := S2.out.2 1 (by simp)
  clear b2 s0
  go_wp2_with fail
  refine (PB.out _ L2.out).mono ?_
  rintro e w3 ⟨rfl, b3⟩
  have V3 := Lib.hid (V2.out.keep b3)
  have B3 := Lib.hid (B2.out.trans (b3.mono B2.out.size))
  have L3 := Lib.hid (laid_stay L2.out b3)
  have S3 := Lib.hid (S2.out.keep b3)
  have s2 : w3.cell? ⟨g, 2, none⟩ = some (.string ⟨c.toArray⟩) := S3.out.2 2 (by simp)
  clear b3 s1
  go_wp2_with fail
  refine (PC.out _ L3.out).mono ?_
  rintro e w4 ⟨rfl, b4⟩
  have V4 := Lib.hid (V3.out.keep b4)
  have B4 := Lib.hid (B3.out.trans (b4.mono B3.out.size))
  clear b4 s2
  have hbb : Below w4.heap.size w4 (w4.alloc (.cells #[.int .i64 x, .int .i64 y, .int .i64 z] 65)) := (Below.refl _ _).alloc (Nat.le_refl _) _
  have V5 := Lib.hid (V4.out.keep hbb)
  have B5 := Lib.hid (B4.out.trans (hbb.mono B4.out.size))
  have X5 : Hid (Var3 (w4.alloc (.cells #[.int .i64 x, .int .i64 y, .int .i64 z] 65)) w4.heap.size ⟨x, y, z⟩) := Var3.made w4 ⟨x, y, z⟩
  clear hbb
  cases p with
  | false =>
    have HA := Lib.hid (rowans_no (l := s.data.toList) (by rw [HR.out]; simp))
    obtain ⟨d0, d1, d2⟩ := V5.out.cells
    obtain ⟨f0, f1, f2⟩ := V5.out.free
    go_wp2_with fail
    refine bodyPost_ret (v := .tuple #[.agg #[.int .i64 0, .int .i64 0, .int .i64 0], .bool false]) (by simp [results, Tryd.results58, go_sem, *]) rfl ⟨HA.out, below_set3 B5.out (Nat.le_refl _) _ _ _ _ _ _⟩
  | true =>
    cases q with
    | false =>
      have HA := Lib.hid (rowans_no (l := s.data.toList) (by rw [HR.out]; simp))
      obtain ⟨d0, d1, d2⟩ := V5.out.cells
      obtain ⟨f0, f1, f2⟩ := V5.out.free
      go_wp2_with fail
      refine bodyPost_ret (v := .tuple #[.agg #[.int .i64 0, .int .i64 0, .int .i64 0], .bool false]) (by simp [results, Tryd.results58, go_sem, *]) rfl ⟨HA.out, below_set3 B5.out (Nat.le_refl _) _ _ _ _ _ _⟩
    | true =>
      cases r with
      | false =>
        have HA := Lib.hid (rowans_no (l := s.data.toList) (by rw [HR.out]; simp))
        obtain ⟨d0, d1, d2⟩ := V5.out.cells
        obtain ⟨f0, f1, f2⟩ := V5.out.free
        go_wp2_with fail
        refine bodyPost_ret (v := .tuple #[.agg #[.int .i64 0, .int .i64 0, .int .i64 0], .bool false]) (by simp [results, Tryd.results58, go_sem, *]) rfl ⟨HA.out, below_set3 B5.out (Nat.le_refl _) _ _ _ _ _ _⟩
      | true =>
        have HV := Lib.hid (ivalid ⟨x, y, z⟩)
        obtain ⟨c0, c1, c2⟩ := X5.out.cells
        go_wp2_with fail
        refine (HV.out _).mono ?_
        rintro e w5 ⟨rfl, b5⟩
        have V6 := Lib.hid (V5.out.keep b5)
        have B6 := Lib.hid (B5.out.trans (b5.mono B5.out.size))
        have X6 := Lib.hid (X5.out.keep b5)
        obtain ⟨d0, d1, d2⟩ := V6.out.cells
        obtain ⟨f0, f1, f2⟩ := V6.out.free
        obtain ⟨e0, e1, e2⟩ := X6.out.cells
        clear b5 c0 c1 c2
        cases hv : R.ok ⟨x, y, z⟩ with
        | false =>
          have HA := Lib.hid (rowans_no (l := s.data.toList) (by rw [HR.out, hv]; simp))
          clear hv
          go_wp2_with fail
          refine bodyPost_ret (v := .tuple #[.agg #[.int .i64 0, .int .i64 0, .int .i64 0], .bool false]) (by simp [results, Tryd.results58, go_sem, *]) rfl ⟨HA.out, below_set3 B6.out (Nat.le_refl _) _ _ _ _ _ _⟩
        | true =>
          have HA := Lib.hid (rowans_yes (l := s.data.toList) (r := ⟨x, y, z⟩) (by rw [HR.out, hv]; simp))
          clear hv
          go_wp2_with fail
          refine bodyPost_ret (v := .tuple #[.agg #[.int .i64 x, .int .i64 y, .int .i64 z], .bool true]) (by simp [results, Tryd.results58, go_sem, *]) rfl ⟨HA.out, below_set3 B6.out (Nat.le_refl _) _ _ _ _ _ _⟩
theorem iprow (s : ByteArray) (hs : s.size ≤ 4000000000) (w : World) (hm : Mx w) (hL : Tab w ∧ Syn w) : Calls Tryd.prog 58 #[.string s] w fun e w' => RowAns s.data.toList e ∧ Below w.heap.size w w' := by
  by_cases h3 : (Cut.cut 46 s.data.toList).length = 3
  · match h : Cut.cut 46 s.data.toList, h3 with
    | [a, b, c], _ => exact iprow_three s hs w hm hL a b c h
  · exact iprow_other s hs w hm h3
end Go.Proofs.YtoiobaiiammehaaDoor
