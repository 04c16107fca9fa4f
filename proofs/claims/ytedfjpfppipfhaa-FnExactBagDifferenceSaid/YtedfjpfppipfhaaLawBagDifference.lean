/- Proved: for every two slices of rows the law FnExactBagDifference returns true: the program's BagDifference answers as the reference's, leaves its arguments alone, and answers in memory of its own that a later call does not touch (the law itself answers true above 2^20 rows). No condition. -/
import Derived.Test.YtedfjpfppipfhaaRows
import Derived.Test.YtedfjpfppipfhaaMark
import Derived.Test.YtedfjpfppipfhaaEqRows
import Derived.Test.YtedfjpfppipfhaaOpenRow
import Derived.Test.YtedfjpfppipfhaaToRow
import Derived.Test.YtedfjpfppipfhaaBags
import Derived.Test.YtedfjpfppipfhaaBagi
import Derived.ProofKit
import Derived.OpenShut
import Derived.ShutString
import Derived.ChangeOld
namespace Go.Proofs.Ytedfjpfppipfhaa.FnExactBagDifference
open Go.ChangeShapes Go.WideShapes Go.ChangeAt Go.RowKit
open Go.ChangeMaps (open_string shut_string)
set_option linter.unusedVariables false

set_option maxRecDepth 100000 in
set_option maxHeartbeats 1000000 in
theorem walk (a : Option Addr) (len cap : Nat) (L : List R) (hl : len ≤ maxLen) (w : World) (h : IsRows w a len L) (a' : Option Addr) (len' cap' : Nat) (L' : List R) (hl' : len' ≤ maxLen) (h' : IsRows w a' len' L') : Calls Try.prog 9 #[.slice a len cap, .slice a' len' cap'] w fun e w' => e = .returned (.bool true) ∧ Below w.heap.size w w' := by
  unfold maxLen at hl hl'
  have HI := Lib.hid h
  have HW := Lib.hid h.2.1
  have HL := Lib.hid h.1
  have HI' := Lib.hid h'
  have HW' := Lib.hid h'.2.1
  have HL' := Lib.hid h'.1
  clear h h'
  by_cases hbig : 1048576 < len
  · go_enter Try.func9, Try.ntmps9
    go_wp2_with fail
    refine (sz_no a len cap 1048576 _ (by omega) hl (by omega)).mono ?_
    rintro e w1 ⟨rfl, rfl⟩
    go_wp2_with fail
    go_ret
    exact ⟨rfl, Below.refl _ _⟩
  by_cases hbig' : 1048576 < len + len'
  · go_enter Try.func9, Try.ntmps9
    go_wp2_with fail
    refine (sz_ok a len cap 1048576 _ (by omega) (by omega)).mono ?_
    rintro e w1 ⟨rfl, rfl⟩
    have hz : ¬ ((1048576 : Int) - len < 0) := by omega
    go_wp2_with fail
    refine (sz_no a' len' cap' (1048576 - len) _ (by omega) hl' (by omega)).mono ?_
    rintro e w1 ⟨rfl, rfl⟩
    go_wp2_with fail
    go_ret
    exact ⟨rfl, Below.refl _ _⟩
  have SP := Lib.hid fun (a1 : Option Addr) (c1 : Nat) (a2 : Option Addr) (c2 : Nat) (v : World) (h1 : IsRows v a1 len L) (h2 : IsRows v a2 len' L') => sbagdif a1 a2 len c1 len' c2 L L' v h1 h2 (by omega) (by omega)
  have IP := Lib.hid fun (a1 : Option Addr) (c1 : Nat) (a2 : Option Addr) (c2 : Nat) (v : World) (h1 : IsRows v a1 len L) (h2 : IsRows v a2 len' L') => ibagdif a1 a2 len c1 len' c2 L L' v h1 h2 (by omega) (by omega)
  obtain ⟨Y, hY⟩ : ∃ Y, Y = R.dif L L' := ⟨_, rfl⟩
  rw [← hY] at SP IP
  have HYW : Hid (∀ r ∈ Y, r.wf) := Lib.hid (by rw [hY]; exact R.dif_wf HW.out)
  have hyl : Y.length ≤ 1048576 := by rw [hY]; have := R.dif_length L L'; have := HL.out; omega
  clear hY
  have B0 := Lib.hid (Below.refl w.heap.size w)
  go_enter Try.func9, Try.ntmps9
  go_wp2_with fail
  refine (sz_ok a len cap 1048576 _ (by omega) (by omega)).mono ?_
  rintro e v0 ⟨rfl, rfl⟩
  have hz : ¬ ((1048576 : Int) - len < 0) := by omega
  go_wp2_with fail
  refine (sz_ok a' len' cap' (1048576 - len) _ (by omega) (by omega)).mono ?_
  rintro e v0 ⟨rfl, rfl⟩
  have hz' : ¬ ((1048576 : Int) - len - len' < 0) := by omega
  go_wp2_with fail
  refine (copyrows a len cap L _ (HI.out.keep B0.out) (by omega)).mono ?_
  rintro e w1 ⟨g1, rfl, m1, b1⟩
  have B1 := Lib.hid (B0.out.trans (b1.mono B0.out.size))
  have S0_1 := Lib.hid m1
  clear b1 m1
  go_wp2_with fail
  refine (copyrows a' len' cap' L' _ (HI'.out.keep B1.out) (by omega)).mono ?_
  rintro e w2 ⟨g2, rfl, m2, b2⟩
  have S0_2 := Lib.hid (S0_1.out.keep b2)
  have B2 := Lib.hid (B1.out.trans (b2.mono B1.out.size))
  have S1_2 := Lib.hid m2
  have ap_S0_S1 := Lib.hid (S0_1.out.apart m2 (Nat.le_refl _) (Nat.le_refl _))
  clear b2 m2
  go_wp2_with fail
  refine (SP.out _ _ _ _ _ (S0_2.out.rows HW.out) (S1_2.out.rows HW'.out)).mono ?_
  rintro e w3 ⟨z3, rfl, m3, b3⟩
  obtain ⟨az, cz, rfl⟩ := m3.slice
  have S0_3 := Lib.hid (S0_2.out.keep b3)
  have S1_3 := Lib.hid (S1_2.out.keep b3)
  have B3 := Lib.hid (B2.out.trans (b3.mono B2.out.size))
  have Z_3 := Lib.hid m3
  have ap_S0_Z := Lib.hid (S0_2.out.apart m3 (Nat.le_refl _) (Nat.le_refl _))
  have ap_S1_Z := Lib.hid (S1_2.out.apart m3 (Nat.le_refl _) (Nat.le_refl _))
  clear b3 m3
  go_wp2_with fail
  refine (copyrows a len cap L _ (HI.out.keep B3.out) (by omega)).mono ?_
  rintro e w4 ⟨g4, rfl, m4, b4⟩
  have Z_4 := Lib.hid (Z_3.out.keep b4)
  have B4 := Lib.hid (B3.out.trans (b4.mono B3.out.size))
  have X0_4 := Lib.hid m4
  have ap_Z_X0 := Lib.hid (Z_3.out.apart m4 (Nat.le_refl _) (Nat.le_refl _))
  clear b4 m4
  go_wp2_with fail
  refine (copyrows a' len' cap' L' _ (HI'.out.keep B4.out) (by omega)).mono ?_
  rintro e w5 ⟨g5, rfl, m5, b5⟩
  have Z_5 := Lib.hid (Z_4.out.keep b5)
  have X0_5 := Lib.hid (X0_4.out.keep b5)
  have B5 := Lib.hid (B4.out.trans (b5.mono B4.out.size))
  have X1_5 := Lib.hid m5
  have ap_Z_X1 := Lib.hid (Z_4.out.apart m5 (Nat.le_refl _) (Nat.le_refl _))
  have ap_X0_X1 := Lib.hid (X0_4.out.apart m5 (Nat.le_refl _) (Nat.le_refl _))
  clear b5 m5
  go_wp2_with fail
  refine (IP.out _ _ _ _ _ (X0_5.out.rows HW.out) (X1_5.out.rows HW'.out)).mono ?_
  rintro e w6 ⟨z6, rfl, m6, b6⟩
  obtain ⟨ag, cg, rfl⟩ := m6.slice
  have Z_6 := Lib.hid (Z_5.out.keep b6)
  have X0_6 := Lib.hid (X0_5.out.keep b6)
  have X1_6 := Lib.hid (X1_5.out.keep b6)
  have B6 := Lib.hid (B5.out.trans (b6.mono B5.out.size))
  have G_6 := Lib.hid m6
  have ap_Z_G := Lib.hid (Z_5.out.apart m6 (Nat.le_refl _) (Nat.le_refl _))
  have ap_X0_G := Lib.hid (X0_5.out.apart m6 (Nat.le_refl _) (Nat.le_refl _))
  have ap_X1_G := Lib.hid (X1_5.out.apart m6 (Nat.le_refl _) (Nat.le_refl _))
  clear b6 m6
  go_wp2_with fail
  refine (eqrows _ _ _ _ _ _ Y Y _ (G_6.out.rows HYW.out) (Z_6.out.rows HYW.out) (by omega) (by omega)).mono ?_
  rintro e w7 ⟨rfl, b7⟩
  rw [decide_eq_true (rfl : Y = Y)]
  have Z_7 := Lib.hid (Z_6.out.keep b7)
  have X0_7 := Lib.hid (X0_6.out.keep b7)
  have X1_7 := Lib.hid (X1_6.out.keep b7)
  have G_7 := Lib.hid (G_6.out.keep b7)
  have B7 := Lib.hid (B6.out.trans (b7.mono B6.out.size))
  clear b7
  go_wp2_with fail
  refine (copyrows a len cap L _ (HI.out.keep B7.out) (by omega)).mono ?_
  rintro e w8 ⟨g8, rfl, m8, b8⟩
  have Z_8 := Lib.hid (Z_7.out.keep b8)
  have X0_8 := Lib.hid (X0_7.out.keep b8)
  have X1_8 := Lib.hid (X1_7.out.keep b8)
  have G_8 := Lib.hid (G_7.out.keep b8)
  have B8 := Lib.hid (B7.out.trans (b8.mono B7.out.size))
  have C0_8 := Lib.hid m8
  have ap_Z_C0 := Lib.hid (Z_7.out.apart m8 (Nat.le_refl _) (Nat.le_refl _))
  have ap_X0_C0 := Lib.hid (X0_7.out.apart m8 (Nat.le_refl _) (Nat.le_refl _))
  have ap_X1_C0 := Lib.hid (X1_7.out.apart m8 (Nat.le_refl _) (Nat.le_refl _))
  have ap_G_C0 := Lib.hid (G_7.out.apart m8 (Nat.le_refl _) (Nat.le_refl _))
  clear b8 m8
  go_wp2_with fail
  refine (eqrows _ _ _ _ _ _ L L _ (X0_8.out.rows HW.out) (C0_8.out.rows HW.out) (by omega) (by omega)).mono ?_
  rintro e w9 ⟨rfl, b9⟩
  rw [decide_eq_true (rfl : L = L)]
  have Z_9 := Lib.hid (Z_8.out.keep b9)
  have X0_9 := Lib.hid (X0_8.out.keep b9)
  have X1_9 := Lib.hid (X1_8.out.keep b9)
  have G_9 := Lib.hid (G_8.out.keep b9)
  have C0_9 := Lib.hid (C0_8.out.keep b9)
  have B9 := Lib.hid (B8.out.trans (b9.mono B8.out.size))
  clear b9
  go_wp2_with fail
  refine (copyrows a' len' cap' L' _ (HI'.out.keep B9.out) (by omega)).mono ?_
  rintro e w10 ⟨g10, rfl, m10, b10⟩
  have Z_10 := Lib.hid (Z_9.out.keep b10)
  have X0_10 := Lib.hid (X0_9.out.keep b10)
  have X1_10 := Lib.hid (X1_9.out.keep b10)
  have G_10 := Lib.hid (G_9.out.keep b10)
  have B10 := Lib.hid (B9.out.trans (b10.mono B9.out.size))
  have C1_10 := Lib.hid m10
  have ap_Z_C1 := Lib.hid (Z_9.out.apart m10 (Nat.le_refl _) (Nat.le_refl _))
  have ap_X0_C1 := Lib.hid (X0_9.out.apart m10 (Nat.le_refl _) (Nat.le_refl _))
  have ap_X1_C1 := Lib.hid (X1_9.out.apart m10 (Nat.le_refl _) (Nat.le_refl _))
  have ap_G_C1 := Lib.hid (G_9.out.apart m10 (Nat.le_refl _) (Nat.le_refl _))
  clear b10 m10
  go_wp2_with fail
  refine (eqrows _ _ _ _ _ _ L' L' _ (X1_10.out.rows HW'.out) (C1_10.out.rows HW'.out) (by omega) (by omega)).mono ?_
  rintro e w11 ⟨rfl, b11⟩
  rw [decide_eq_true (rfl : L' = L')]
  have Z_11 := Lib.hid (Z_10.out.keep b11)
  have X0_11 := Lib.hid (X0_10.out.keep b11)
  have X1_11 := Lib.hid (X1_10.out.keep b11)
  have G_11 := Lib.hid (G_10.out.keep b11)
  have C1_11 := Lib.hid (C1_10.out.keep b11)
  have B11 := Lib.hid (B10.out.trans (b11.mono B10.out.size))
  clear b11
  have hk1 : ¬ ((1 : Int) + 3 * (len : Int) < 0) := by omega
  have hk2 : ¬ ((1 : Int) + 3 * (len : Int) + 3 * (len' : Int) < 0) := by omega
  go_wp2_with fail
  refine (mark _ _ _ _ L (1) _ X0_11.out (by omega) (by omega) (by omega)).mono ?_
  rintro e w12 ⟨rfl, m12, g12⟩
  have Z_12 := Lib.hid (Z_11.out.grown g12 ap_Z_X0.out)
  have X1_12 := Lib.hid (X1_11.out.grown g12 (apart_symm ap_X0_X1.out))
  have G_12 := Lib.hid (G_11.out.grown g12 (apart_symm ap_X0_G.out))
  have B12 := Lib.hid (B11.out.grown g12 B11.out.size (fun k hk => Nat.le_trans B3.out.size (X0_11.out.own' k hk)))
  have X0_12 := Lib.hid m12
  clear m12 g12
  go_wp2_with fail
  refine (mark _ _ _ _ L' (1 + 3 * len) _ X1_12.out (by omega) (by omega) (by omega)).mono ?_
  rintro e w13 ⟨rfl, m13, g13⟩
  have Z_13 := Lib.hid (Z_12.out.grown g13 ap_Z_X1.out)
  have X0_13 := Lib.hid (X0_12.out.grown g13 ap_X0_X1.out)
  have G_13 := Lib.hid (G_12.out.grown g13 (apart_symm ap_X1_G.out))
  have B13 := Lib.hid (B12.out.grown g13 B12.out.size (fun k hk => Nat.le_trans B4.out.size (X1_12.out.own' k hk)))
  have X1_13 := Lib.hid m13
  clear m13 g13
  go_wp2_with fail
  refine (eqrows _ _ _ _ _ _ Y Y _ (G_13.out.rows HYW.out) (Z_13.out.rows HYW.out) (by omega) (by omega)).mono ?_
  rintro e w14 ⟨rfl, b14⟩
  rw [decide_eq_true (rfl : Y = Y)]
  have Z_14 := Lib.hid (Z_13.out.keep b14)
  have G_14 := Lib.hid (G_13.out.keep b14)
  have B14 := Lib.hid (B13.out.trans (b14.mono B13.out.size))
  clear b14
  have hk3 : ¬ ((1 : Int) + 3 * (Y.length : Int) < 0) := by omega
  go_wp2_with fail
  refine (mark _ _ _ _ Y (1) _ G_14.out (by omega) (by omega) (by omega)).mono ?_
  rintro e w15 ⟨rfl, m15, g15⟩
  have Z_15 := Lib.hid (Z_14.out.grown g15 ap_Z_G.out)
  have B15 := Lib.hid (B14.out.grown g15 B14.out.size (fun k hk => Nat.le_trans B5.out.size (G_14.out.own' k hk)))
  have G_15 := Lib.hid m15
  clear m15 g15
  go_wp2_with fail
  refine (mine_held _ _ _ _ (1) _ G_15.out (by omega) (by omega) (by omega)).mono ?_
  rintro e w16 ⟨rfl, rfl⟩
  have Z_16 := Lib.hid Z_15.out
  have G_16 := Lib.hid G_15.out
  have B16 := Lib.hid B15.out
  go_wp2_with fail
  refine (copyrows a len cap L _ (HI.out.keep B16.out) (by omega)).mono ?_
  rintro e w17 ⟨g17, rfl, m17, b17⟩
  have Z_17 := Lib.hid (Z_16.out.keep b17)
  have G_17 := Lib.hid (G_16.out.keep b17)
  have B17 := Lib.hid (B16.out.trans (b17.mono B16.out.size))
  have D0_17 := Lib.hid m17
  have ap_Z_D0 := Lib.hid (Z_16.out.apart m17 (Nat.le_refl _) (Nat.le_refl _))
  have ap_G_D0 := Lib.hid (G_16.out.apart m17 (Nat.le_refl _) (Nat.le_refl _))
  clear b17 m17
  go_wp2_with fail
  refine (copyrows a' len' cap' L' _ (HI'.out.keep B17.out) (by omega)).mono ?_
  rintro e w18 ⟨g18, rfl, m18, b18⟩
  have Z_18 := Lib.hid (Z_17.out.keep b18)
  have G_18 := Lib.hid (G_17.out.keep b18)
  have D0_18 := Lib.hid (D0_17.out.keep b18)
  have B18 := Lib.hid (B17.out.trans (b18.mono B17.out.size))
  have D1_18 := Lib.hid m18
  have ap_Z_D1 := Lib.hid (Z_17.out.apart m18 (Nat.le_refl _) (Nat.le_refl _))
  have ap_G_D1 := Lib.hid (G_17.out.apart m18 (Nat.le_refl _) (Nat.le_refl _))
  have ap_D0_D1 := Lib.hid (D0_17.out.apart m18 (Nat.le_refl _) (Nat.le_refl _))
  clear b18 m18
  go_wp2_with fail
  refine (IP.out _ _ _ _ _ (D0_18.out.rows HW.out) (D1_18.out.rows HW'.out)).mono ?_
  rintro e w19 ⟨z19, rfl, m19, b19⟩
  obtain ⟨ah, ch, rfl⟩ := m19.slice
  have Z_19 := Lib.hid (Z_18.out.keep b19)
  have G_19 := Lib.hid (G_18.out.keep b19)
  have D0_19 := Lib.hid (D0_18.out.keep b19)
  have D1_19 := Lib.hid (D1_18.out.keep b19)
  have B19 := Lib.hid (B18.out.trans (b19.mono B18.out.size))
  have H_19 := Lib.hid m19
  have ap_Z_H := Lib.hid (Z_18.out.apart m19 (Nat.le_refl _) (Nat.le_refl _))
  have ap_G_H := Lib.hid (G_18.out.apart m19 (Nat.le_refl _) (Nat.le_refl _))
  have ap_D0_H := Lib.hid (D0_18.out.apart m19 (Nat.le_refl _) (Nat.le_refl _))
  have ap_D1_H := Lib.hid (D1_18.out.apart m19 (Nat.le_refl _) (Nat.le_refl _))
  clear b19 m19
  go_wp2_with fail
  refine (eqrows _ _ _ _ _ _ Y Y _ (H_19.out.rows HYW.out) (Z_19.out.rows HYW.out) (by omega) (by omega)).mono ?_
  rintro e w20 ⟨rfl, b20⟩
  rw [decide_eq_true (rfl : Y = Y)]
  have Z_20 := Lib.hid (Z_19.out.keep b20)
  have G_20 := Lib.hid (G_19.out.keep b20)
  have H_20 := Lib.hid (H_19.out.keep b20)
  have B20 := Lib.hid (B19.out.trans (b20.mono B19.out.size))
  clear b20
  go_wp2_with fail
  refine (mine_held _ _ _ _ (1) _ G_20.out (by omega) (by omega) (by omega)).mono ?_
  rintro e w21 ⟨rfl, rfl⟩
  have Z_21 := Lib.hid Z_20.out
  have G_21 := Lib.hid G_20.out
  have H_21 := Lib.hid H_20.out
  have B21 := Lib.hid B20.out
  go_wp2_with fail
  go_ret
  exact ⟨rfl, B21.out⟩

/-! ### The row's step -/
theorem own : ownKnob Try.prog.godebug = none := by kernel_rfl
theorem laidOut : laidOutB Try.prog = true := by kernel_rfl
set_option maxRecDepth 100000 in
theorem lifted (os : Os) (started : os.Started) (H : Type) (enc : TypeId × Value → H) :
    ReturnsInHanded {} Try.checked os 9 .any (Rows.fnExactBagDifferenceSpec.pre6 enc Try.prog Try.f9 Rows.fnExactBagDifferenceRow.domain false) (Rows.fnExactBagDifferenceSpec.post enc Try.prog Try.f9 false true false false) := by
  refine returnsInHanded_of_change (C := Try.checked) own started (by kernel_rfl) Try.func9
    (ChangeSpec.witness6 (enc := enc) (C := Try.checked) false ⟨#[], #[.slice none 0 0, .slice none 0 0], []⟩ 8 (by kernel_rfl) (by kernel_rfl) (by kernel_rfl) (by kernel_rfl)) ?_
  intro W base args ds gs before hval0 hW hcnd hsz
  have hval : ∀ (j : Nat) t v, Try.f9.params[j]? = some t → args[j]? = some v → Value.okWide Try.prog W .any base t v := hval0
  have hW' := hW
  obtain ⟨p, q, hA0, hV, rfl, hfz, hnd⟩ := hW
  have hA : DataW.TrodAll enc Try.prog W 0 (fun _ => true) true Try.f9.params.toList args.toList ds p := hA0
  rw [Try.params9] at hA hval
  obtain ⟨v0, vs0, d0, ds0, p0, q0, hargs, rfl, rfl, h0, r0⟩ := trodAll_cons hA
  obtain ⟨v1, vs1, d1, ds1, p1, q1, rfl, rfl, rfl, h1, r1⟩ := trodAll_cons r0
  obtain ⟨rfl, rfl, rfl⟩ := trodAll_nil r1
  obtain rfl : args = #[v0, v1] := by cases args; simp_all
  obtain ⟨rfl, rfl⟩ := trodVars_none hV
  obtain ⟨a0, len0, cap0, rfl⟩ := okWide_slice Try.underlying38 (hval 0 38 v0 rfl rfl)
  have k0 := h0
  have lt0 : ∀ x ∈ p0, x.block < W.heap.size := by obtain ⟨m, hm⟩ := k0; exact DataW.trod_lt m _ _ _ hm
  obtain ⟨m0, L0, w0⟩ := open_rows h0
  obtain ⟨a1, len1, cap1, rfl⟩ := okWide_slice Try.underlying38 (hval 1 38 v1 rfl rfl)
  have k1 := h1
  have lt1 : ∀ x ∈ p1, x.block < W.heap.size := by obtain ⟨m, hm⟩ := k1; exact DataW.trod_lt m _ _ _ hm
  obtain ⟨m1, L1, w1⟩ := open_rows h1
  clear hA0 hval0
  refine (walk a0 len0 cap0 L0 m0 W w0 a1 len1 cap1 L1 m1 w1).mono fun e W' ⟨he, bel⟩ => ?_
  subst he
  exact ⟨_, rfl, _, _, _, [], _, [], hW', trodAll_mk1 (shut_bool Try.underlying4 _), (trodAll_cons_mk (Below.trod laidOut (by kernel_rfl) (of_decide_eq_true (by kernel_rfl)) k0 bel lt0) (trodAll_cons_mk (Below.trod laidOut (by kernel_rfl) (of_decide_eq_true (by kernel_rfl)) k1 bel lt1) trodAll_mk0)), rfl, bel.frame _, fun h => by cases h⟩
theorem over : Rows.fnExactBagDifferenceRow.holds Try.pinned (OpenSpec.ofChange Rows.fnExactBagDifferenceSpec) :=
  OpenClaim.holds_of_wide 9 Try.f9 rfl rfl rfl rfl rfl rfl rfl ⟨rfl, rfl, rfl, rfl, rfl⟩ rfl rfl rfl rfl rfl (by kernel_rfl) Try.func9 (by kernel_rfl)
    (of_decide_eq_true (by kernel_rfl)) (by unfold Func.isWrapper; first | (rw [if_pos (by decide +kernel)]; kernel_rfl) | (rw [if_neg (by decide +kernel)]; exact ⟨rfl, rfl⟩))
    (fun os started H enc _ => lifted os started H enc)
/-- The statement. -/
theorem proved : Rows.FnExactBagDifferenceSaid := over
#print axioms proved
end Go.Proofs.Ytedfjpfppipfhaa.FnExactBagDifference
