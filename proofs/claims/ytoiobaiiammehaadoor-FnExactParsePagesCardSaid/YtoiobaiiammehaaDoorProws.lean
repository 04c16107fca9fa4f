/- The reference's ParseRow, by contract. -/
import Derived.Test.YtoiobaiiammehaaDoorCuts
import Derived.Test.YtoiobaiiammehaaDoorBlock
import Derived.Test.YtoiobaiiammehaaDoorParses
import Derived.Test.YtoiobaiiammehaaDoorFrows
namespace Go.Proofs.YtoiobaiiammehaaDoor
open Go.RowKit Go.Lib Dec

/-- What ParseRow answers. -/
def RowAns (l : List UInt8) (e : Ending) : Prop := e = .returned (.tuple #[.agg #[.int .i64 ((parseRow l).getD R.zero).key, .int .i64 ((parseRow l).getD R.zero).value, .int .i64 ((parseRow l).getD R.zero).width], .bool (parseRow l).isSome])
theorem rowans_no {l : List UInt8} (h : parseRow l = none) : RowAns l (.returned (.tuple #[.agg #[.int .i64 0, .int .i64 0, .int .i64 0], .bool false])) := by unfold RowAns; rw [h]; rfl
theorem rowans_yes {l : List UInt8} {r : R} (h : parseRow l = some r) : RowAns l (.returned (.tuple #[.agg #[.int .i64 r.key, .int .i64 r.value, .int .i64 r.width], .bool true])) := by unfold RowAns; rw [h]; rfl
set_option maxRecDepth 100000 in
theorem sprow_other (s : ByteArray) (hs : s.size ≤ 1000000000000) (w : World) (h3 : (Cut.cut 46 s.data.toList).length ≠ 3) : Calls Tryd.prog 39 #[.string s] w fun e w' => RowAns s.data.toList e ∧ Below w.heap.size w w' := by
  have HP := Lib.hid (rowans_no (parseRow_other _ h3))
  have V0 := Lib.hid (Var3.made w R.zero)
  have hd : (((Cut.cut 46 s.data.toList).length : Int) == 3) = false := by rw [beq_eq_false_iff_ne]; omega
  go_enter Tryd.func39, Tryd.ntmps39
  go_wp2_with fail
  refine (scut s 46 46 rfl hs _).mono ?_
  rintro e w1 ⟨g, cap, rfl, hg, hst, b1⟩
  have V1 := V0.out.keep b1
  obtain ⟨c0, c1, c2⟩ := V1.cells
  obtain ⟨f0, f1, f2⟩ := V1.free
  have B1 := Lib.hid (((Below.refl w.heap.size w).alloc (Nat.le_refl _) (.cells #[.int .i64 R.zero.key, .int .i64 R.zero.value, .int .i64 R.zero.width] 65)).trans (b1.mono (by simp)))
  clear b1 V1
  go_wp2_with fail
  refine bodyPost_ret (v := .tuple #[.agg #[.int .i64 0, .int .i64 0, .int .i64 0], .bool false]) (by simp [results, Tryd.results39, go_sem, *]) rfl ⟨HP.out, below_set3 B1.out (Nat.le_refl _) _ _ _ _ _ _⟩
theorem sparse_piece (a : List UInt8) (ha : a.length ≤ 1000000000000) (w : World) : Calls Tryd.prog 54 #[.string ⟨a.toArray⟩] w fun e w' => e = .returned (.tuple #[.int .i64 ((parse a).getD 0), .bool (parse a).isSome]) ∧ Below w.heap.size w w' :=
  (sparse ⟨a.toArray⟩ (by unfold maxLen; simp [ByteArray.size]; omega) w).mono fun e w' ⟨h, hb⟩ => ⟨by simpa [ParAns] using h, hb⟩
set_option maxRecDepth 100000 in
theorem sprow_three (s : ByteArray) (hs : s.size ≤ 1000000000000) (w : World) (a b c : List UInt8) (h3 : Cut.cut 46 s.data.toList = [a, b, c]) : Calls Tryd.prog 39 #[.string s] w fun e w' => RowAns s.data.toList e ∧ Below w.heap.size w w' := by
  have H3 := Lib.hid h3
  have hal : a.length ≤ 1000000000000 ∧ b.length ≤ 1000000000000 ∧ c.length ≤ 1000000000000 := by
    have e := congrArg List.length (parseRow_three h3)
    simp only [List.length_append, List.length_cons] at e
    have : s.data.toList.length = s.size := by simp
    omega
  obtain ⟨ha, hb, hc⟩ := hal
  have PA := Lib.hid (sparse_piece a ha)
  have PB := Lib.hid (sparse_piece b hb)
  have PC := Lib.hid (sparse_piece c hc)
  obtain ⟨x, hx⟩ : ∃ x, x = (parse a).getD 0 := ⟨_, rfl⟩
  obtain ⟨y, hy⟩ : ∃ x, x = (parse b).getD 0 := ⟨_, rfl⟩
  obtain ⟨z, hz⟩ : ∃ x, x = (parse c).getD 0 := ⟨_, rfl⟩
  have ht : threeRow s.data.toList = ⟨x, y, z⟩ := by unfold threeRow; rw [h3, hx, hy, hz]; rfl
  have HT := Lib.hid ht
  rw [← hx] at PA
  rw [← hy] at PB
  rw [← hz] at PC
  clear hx hy hz h3 ht ha hb hc
  have V0 := Lib.hid (Var3.made w R.zero)
  go_enter Tryd.func39, Tryd.ntmps39
  go_wp2_with fail
  refine (scut s 46 46 rfl hs _).mono ?_
  rintro e w1 ⟨g, cap, rfl, hg, hst, b1⟩
  rw [H3.out] at hst ⊢
  have V1 := Lib.hid (V0.out.keep b1)
  have B1 := Lib.hid (((Below.refl w.heap.size w).alloc (Nat.le_refl _) (.cells #[.int .i64 R.zero.key, .int .i64 R.zero.value, .int .i64 R.zero.width] 65)).trans (b1.mono (by simp)))
  have S1 := Lib.hid hst
  have hgl : g < w1.heap.size := hst.lt
  have s0 : (w1.alloc (.cells #[.int .i64 0, .int .i64 0, .int .i64 0] 65)).cell? ⟨g, 0, none⟩ = some (.string ⟨a.toArray⟩) := (World.cell?_alloc_old w1 _ _ (Nat.ne_of_lt hgl)).trans (hst.2 0 (by simp))
  have hba : Below w1.heap.size w1 (w1.alloc (.cells #[.int .i64 0, .int .i64 0, .int .i64 0] 65)) := (Below.refl _ _).alloc (Nat.le_refl _) _
  have hsa : w1.heap.size < (w1.alloc (.cells #[.int .i64 0, .int .i64 0, .int .i64 0] 65)).heap.size := by simp
  have VA := Lib.hid (V1.out.keep hba)
  have SA := Lib.hid (hst.keep hba)
  have BA := Lib.hid (B1.out.trans (hba.mono B1.out.size))
  have XA : Hid (Var3 (w1.alloc (.cells #[.int .i64 0, .int .i64 0, .int .i64 0] 65)) w1.heap.size R.zero) := Var3.made w1 R.zero
  have N1 : Hid (w.heap.size < w1.heap.size) := V1.out.lt
  clear b1 hst hba
  go_wp2_with fail
  refine (PA.out _).mono ?_
  rintro e w2 ⟨rfl, b2⟩
  have V2 := Lib.hid (VA.out.keep b2)
  have S2 := Lib.hid (SA.out.keep b2)
  have B2 := Lib.hid (BA.out.trans (b2.mono BA.out.size))
  have X2 := Lib.hid (XA.out.keep b2)
  obtain ⟨c0, c1, c2⟩ := X2.out.cells
  obtain ⟨f0, f1, f2⟩ := X2.out.free
  have s1 : w2.cell? ⟨g, 1, none⟩ = some (.string ⟨b.toArray⟩) := S2.out.2 1 (by simp)
  clear b2 s0
  go_wp2_with fail
  have hne : g ≠ w1.heap.size := Nat.ne_of_lt hgl
  have hne0 : w.heap.size ≠ w1.heap.size := Nat.ne_of_lt N1.out
  have SB := Lib.hid (S2.out.other (i := 0) hne (.int .i64 x))
  have VB := Lib.hid (V2.out.other (i := 0) hne0 (.int .i64 x))
  have XB := Lib.hid (X2.out.set0 x)
  have BB := Lib.hid (B2.out.setCell (p := ⟨w1.heap.size, 0, none⟩) (Nat.le_of_lt N1.out) (.int .i64 x))
  clear c0 c1 c2 f0 f1 f2 s1
  refine (PB.out _).mono ?_
  rintro e w3 ⟨rfl, b3⟩
  have V3 := Lib.hid (VB.out.keep b3)
  have S3 := Lib.hid (SB.out.keep b3)
  have B3 := Lib.hid (BB.out.trans (b3.mono BB.out.size))
  have X3 := Lib.hid (XB.out.keep b3)
  obtain ⟨c0, c1, c2⟩ := X3.out.cells
  obtain ⟨f0, f1, f2⟩ := X3.out.free
  have s2 : w3.cell? ⟨g, 2, none⟩ = some (.string ⟨c.toArray⟩) := S3.out.2 2 (by simp)
  clear b3
  go_wp2_with fail
  have SC := Lib.hid (S3.out.other (i := 1) hne (.int .i64 y))
  have VC := Lib.hid (V3.out.other (i := 1) hne0 (.int .i64 y))
  have XC := Lib.hid (X3.out.set1 y)
  have BC := Lib.hid (B3.out.setCell (p := ⟨w1.heap.size, 1, none⟩) (Nat.le_of_lt N1.out) (.int .i64 y))
  clear c0 c1 c2 f0 f1 f2 s2
  refine (PC.out _).mono ?_
  rintro e w4 ⟨rfl, b4⟩
  have V4 := Lib.hid (VC.out.keep b4)
  have B4 := Lib.hid (BC.out.trans (b4.mono BC.out.size))
  have X4 := Lib.hid (XC.out.keep b4)
  obtain ⟨c0, c1, c2⟩ := X4.out.cells
  obtain ⟨f0, f1, f2⟩ := X4.out.free
  clear b4
  go_wp2_with fail
  have VD := Lib.hid (V4.out.other (i := 2) hne0 (.int .i64 z))
  have XD := Lib.hid (X4.out.set2 z)
  have BD := Lib.hid (B4.out.setCell (p := ⟨w1.heap.size, 2, none⟩) (Nat.le_of_lt N1.out) (.int .i64 z))
  clear c0 c1 c2 f0 f1 f2
  refine (sfrow ⟨x, y, z⟩ _).mono ?_
  rintro e w5 ⟨rfl, b5⟩
  have V5 := Lib.hid (VD.out.keep b5)
  have B5 := Lib.hid (BD.out.trans (b5.mono BD.out.size))
  have X5 := Lib.hid (XD.out.keep b5)
  clear b5
  obtain ⟨c0, c1, c2⟩ := X5.out.cells
  obtain ⟨d0, d1, d2⟩ := V5.out.cells
  obtain ⟨f0, f1, f2⟩ := V5.out.free
  by_cases hf : (⟨(R.fmt ⟨x, y, z⟩).toArray⟩ : ByteArray) = s
  · have hans := parseRow_yes s.data.toList (by rw [H3.out]; rfl) (by rw [HT.out, ← hf])
    rw [HT.out] at hans
    have HA := Lib.hid (rowans_yes hans)
    rw [hf]
    clear hans hf
    go_wp2_with fail
    refine bodyPost_ret (v := .tuple #[.agg #[.int .i64 x, .int .i64 y, .int .i64 z], .bool true]) (by simp [results, Tryd.results39, go_sem, *]) rfl ⟨HA.out, below_set3 B5.out (Nat.le_refl _) _ _ _ _ _ _⟩
  · have hans := parseRow_no s.data.toList (by rw [HT.out]; intro e; apply hf; rw [e])
    have HA := Lib.hid (rowans_no hans)
    have hd : ((R.fmt ⟨x, y, z⟩) == s.toList) = false := by
      rw [beq_eq_false_iff_ne, ByteArray.toList_eq]
      intro e
      apply hf
      rw [e]
    clear hans hf
    go_wp2_with fail
    refine bodyPost_ret (v := .tuple #[.agg #[.int .i64 0, .int .i64 0, .int .i64 0], .bool false]) (by simp [results, Tryd.results39, go_sem, *]) rfl ⟨HA.out, below_set3 B5.out (Nat.le_refl _) _ _ _ _ _ _⟩
theorem sprow (s : ByteArray) (hs : s.size ≤ 1000000000000) (w : World) : Calls Tryd.prog 39 #[.string s] w fun e w' => RowAns s.data.toList e ∧ Below w.heap.size w w' := by
  by_cases h3 : (Cut.cut 46 s.data.toList).length = 3
  · match h : Cut.cut 46 s.data.toList, h3 with
    | [a, b, c], _ => exact sprow_three s hs w a b c h
  · exact sprow_other s hs w h3
end Go.Proofs.YtoiobaiiammehaaDoor
