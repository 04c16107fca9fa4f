/- Proved: for every slice of rows the law FnExactSortRows returns true: the program's SortRows answers as the reference's, leaves its arguments alone, and answers in memory of its own that a later call does not touch (the law itself answers true above 2^20 rows). No condition. -/
import Derived.Test.YtedfjpfppipfhaaRows
import Derived.Test.YtedfjpfppipfhaaMark
import Derived.Test.YtedfjpfppipfhaaEqRows
import Derived.Test.YtedfjpfppipfhaaOpenRow
import Derived.Test.YtedfjpfppipfhaaToRow
import Derived.Test.YtedfjpfppipfhaaSorti
import Derived.ProofKit
import Derived.OpenShut
import Derived.ShutString
import Derived.ChangeOld
namespace Go.Proofs.Ytedfjpfppipfhaa.FnExactSortRows
open Go.ChangeShapes Go.WideShapes Go.ChangeAt Go.RowKit
open Go.ChangeMaps (open_string shut_string)
set_option linter.unusedVariables false

set_option maxRecDepth 100000 in
set_option maxHeartbeats 1000000 in
theorem walk (a : Option Addr) (len cap : Nat) (L : List R) (hl : len ≤ maxLen) (w : World) (h : IsRows w a len L) : Calls Try.prog 5 #[.slice a len cap] w fun e w' => e = .returned (.bool true) ∧ Below w.heap.size w w' := by
  unfold maxLen at hl
  have HI := Lib.hid h
  have HW := Lib.hid h.2.1
  have HL := Lib.hid h.1
  clear h
  by_cases hbig : 1048576 < len
  · go_enter Try.func5, Try.ntmps5
    go_wp2_with fail
    refine (sz_no a len cap 1048576 _ (by omega) hl (by omega)).mono ?_
    rintro e w1 ⟨rfl, rfl⟩
    go_wp2_with fail
    go_ret
    exact ⟨rfl, Below.refl _ _⟩
  have SP := Lib.hid fun (a1 : Option Addr) (c1 : Nat) (v : World) (h1 : IsRows v a1 len L) => ssortv a1 len c1 L v h1 (by omega)
  have IP := Lib.hid fun (a1 : Option Addr) (c1 : Nat) (v : World) (h1 : IsRows v a1 len L) => isort a1 len c1 L v h1 (by omega)
  obtain ⟨Y, hY⟩ : ∃ Y, Y = R.sort L := ⟨_, rfl⟩
  rw [← hY] at SP IP
  have HYW : Hid (∀ r ∈ Y, r.wf) := Lib.hid (by rw [hY]; exact R.sort_wf HW.out)
  have hyl : Y.length ≤ 1048576 := by rw [hY]; rw [R.sort_length]; have := HL.out; omega
  clear hY
  have B0 := Lib.hid (Below.refl w.heap.size w)
  go_enter Try.func5, Try.ntmps5
  go_wp2_with fail
  refine (sz_ok a len cap 1048576 _ (by omega) (by omega)).mono ?_
  rintro e v0 ⟨rfl, rfl⟩
  have hz : ¬ ((1048576 : Int) - len < 0) := by omega
  go_wp2_with fail
  refine (copyrows a len cap L _ (HI.out.keep B0.out) (by omega)).mono ?_
  rintro e w1 ⟨g1, rfl, m1, b1⟩
  have B1 := Lib.hid (B0.out.trans (b1.mono B0.out.size))
  have S0_1 := Lib.hid m1
  clear b1 m1
  go_wp2_with fail
  refine (SP.out _ _ _ (S0_1.out.rows HW.out)).mono ?_
  rintro e w2 ⟨z2, rfl, m2, b2⟩
  obtain ⟨az, cz, rfl⟩ := m2.slice
  have S0_2 := Lib.hid (S0_1.out.keep b2)
  have B2 := Lib.hid (B1.out.trans (b2.mono B1.out.size))
  have Z_2 := Lib.hid m2
  have ap_S0_Z := Lib.hid (S0_1.out.apart m2 (Nat.le_refl _) (Nat.le_refl _))
  clear b2 m2
  go_wp2_with fail
  refine (copyrows a len cap L _ (HI.out.keep B2.out) (by omega)).mono ?_
  rintro e w3 ⟨g3, rfl, m3, b3⟩
  have Z_3 := Lib.hid (Z_2.out.keep b3)
  have B3 := Lib.hid (B2.out.trans (b3.mono B2.out.size))
  have X0_3 := Lib.hid m3
  have ap_Z_X0 := Lib.hid (Z_2.out.apart m3 (Nat.le_refl _) (Nat.le_refl _))
  clear b3 m3
  go_wp2_with fail
  refine (IP.out _ _ _ (X0_3.out.rows HW.out)).mono ?_
  rintro e w4 ⟨z4, rfl, m4, b4⟩
  obtain ⟨ag, cg, rfl⟩ := m4.slice
  have Z_4 := Lib.hid (Z_3.out.keep b4)
  have X0_4 := Lib.hid (X0_3.out.keep b4)
  have B4 := Lib.hid (B3.out.trans (b4.mono B3.out.size))
  have G_4 := Lib.hid m4
  have ap_Z_G := Lib.hid (Z_3.out.apart m4 (Nat.le_refl _) (Nat.le_refl _))
  have ap_X0_G := Lib.hid (X0_3.out.apart m4 (Nat.le_refl _) (Nat.le_refl _))
  clear b4 m4
  go_wp2_with fail
  refine (eqrows _ _ _ _ _ _ Y Y _ (G_4.out.rows HYW.out) (Z_4.out.rows HYW.out) (by omega) (by omega)).mono ?_
  rintro e w5 ⟨rfl, b5⟩
  rw [decide_eq_true (rfl : Y = Y)]
  have Z_5 := Lib.hid (Z_4.out.keep b5)
  have X0_5 := Lib.hid (X0_4.out.keep b5)
  have G_5 := Lib.hid (G_4.out.keep b5)
  have B5 := Lib.hid (B4.out.trans (b5.mono B4.out.size))
  clear b5
  go_wp2_with fail
  refine (copyrows a len cap L _ (HI.out.keep B5.out) (by omega)).mono ?_
  rintro e w6 ⟨g6, rfl, m6, b6⟩
  have Z_6 := Lib.hid (Z_5.out.keep b6)
  have X0_6 := Lib.hid (X0_5.out.keep b6)
  have G_6 := Lib.hid (G_5.out.keep b6)
  have B6 := Lib.hid (B5.out.trans (b6.mono B5.out.size))
  have C0_6 := Lib.hid m6
  have ap_Z_C0 := Lib.hid (Z_5.out.apart m6 (Nat.le_refl _) (Nat.le_refl _))
  have ap_X0_C0 := Lib.hid (X0_5.out.apart m6 (Nat.le_refl _) (Nat.le_refl _))
  have ap_G_C0 := Lib.hid (G_5.out.apart m6 (Nat.le_refl _) (Nat.le_refl _))
  clear b6 m6
  go_wp2_with fail
  refine (eqrows _ _ _ _ _ _ L L _ (X0_6.out.rows HW.out) (C0_6.out.rows HW.out) (by omega) (by omega)).mono ?_
  rintro e w7 ⟨rfl, b7⟩
  rw [decide_eq_true (rfl : L = L)]
  have Z_7 := Lib.hid (Z_6.out.keep b7)
  have X0_7 := Lib.hid (X0_6.out.keep b7)
  have G_7 := Lib.hid (G_6.out.keep b7)
  have C0_7 := Lib.hid (C0_6.out.keep b7)
  have B7 := Lib.hid (B6.out.trans (b7.mono B6.out.size))
  clear b7
  have hk1 : ¬ ((1 : Int) + 3 * (len : Int) < 0) := by omega
  go_wp2_with fail
  refine (mark _ _ _ _ L (1) _ X0_7.out (by omega) (by omega) (by omega)).mono ?_
  rintro e w8 ⟨rfl, m8, g8⟩
  have Z_8 := Lib.hid (Z_7.out.grown g8 ap_Z_X0.out)
  have G_8 := Lib.hid (G_7.out.grown g8 (apart_symm ap_X0_G.out))
  have B8 := Lib.hid (B7.out.grown g8 B7.out.size (fun k hk => Nat.le_trans B2.out.size (X0_7.out.own' k hk)))
  have X0_8 := Lib.hid m8
  clear m8 g8
  go_wp2_with fail
  refine (eqrows _ _ _ _ _ _ Y Y _ (G_8.out.rows HYW.out) (Z_8.out.rows HYW.out) (by omega) (by omega)).mono ?_
  rintro e w9 ⟨rfl, b9⟩
  rw [decide_eq_true (rfl : Y = Y)]
  have Z_9 := Lib.hid (Z_8.out.keep b9)
  have G_9 := Lib.hid (G_8.out.keep b9)
  have B9 := Lib.hid (B8.out.trans (b9.mono B8.out.size))
  clear b9
  have hk3 : ¬ ((1 : Int) + 3 * (Y.length : Int) < 0) := by omega
  go_wp2_with fail
  refine (mark _ _ _ _ Y (1) _ G_9.out (by omega) (by omega) (by omega)).mono ?_
  rintro e w10 ⟨rfl, m10, g10⟩
  have Z_10 := Lib.hid (Z_9.out.grown g10 ap_Z_G.out)
  have B10 := Lib.hid (B9.out.grown g10 B9.out.size (fun k hk => Nat.le_trans B3.out.size (G_9.out.own' k hk)))
  have G_10 := Lib.hid m10
  clear m10 g10
  go_wp2_with fail
  refine (mine_held _ _ _ _ (1) _ G_10.out (by omega) (by omega) (by omega)).mono ?_
  rintro e w11 ⟨rfl, rfl⟩
  have Z_11 := Lib.hid Z_10.out
  have G_11 := Lib.hid G_10.out
  have B11 := Lib.hid B10.out
  go_wp2_with fail
  refine (copyrows a len cap L _ (HI.out.keep B11.out) (by omega)).mono ?_
  rintro e w12 ⟨g12, rfl, m12, b12⟩
  have Z_12 := Lib.hid (Z_11.out.keep b12)
  have G_12 := Lib.hid (G_11.out.keep b12)
  have B12 := Lib.hid (B11.out.trans (b12.mono B11.out.size))
  have D0_12 := Lib.hid m12
  have ap_Z_D0 := Lib.hid (Z_11.out.apart m12 (Nat.le_refl _) (Nat.le_refl _))
  have ap_G_D0 := Lib.hid (G_11.out.apart m12 (Nat.le_refl _) (Nat.le_refl _))
  clear b12 m12
  go_wp2_with fail
  refine (IP.out _ _ _ (D0_12.out.rows HW.out)).mono ?_
  rintro e w13 ⟨z13, rfl, m13, b13⟩
  obtain ⟨ah, ch, rfl⟩ := m13.slice
  have Z_13 := Lib.hid (Z_12.out.keep b13)
  have G_13 := Lib.hid (G_12.out.keep b13)
  have D0_13 := Lib.hid (D0_12.out.keep b13)
  have B13 := Lib.hid (B12.out.trans (b13.mono B12.out.size))
  have H_13 := Lib.hid m13
  have ap_Z_H := Lib.hid (Z_12.out.apart m13 (Nat.le_refl _) (Nat.le_refl _))
  have ap_G_H := Lib.hid (G_12.out.apart m13 (Nat.le_refl _) (Nat.le_refl _))
  have ap_D0_H := Lib.hid (D0_12.out.apart m13 (Nat.le_refl _) (Nat.le_refl _))
  clear b13 m13
  go_wp2_with fail
  refine (eqrows _ _ _ _ _ _ Y Y _ (H_13.out.rows HYW.out) (Z_13.out.rows HYW.out) (by omega) (by omega)).mono ?_
  rintro e w14 ⟨rfl, b14⟩
  rw [decide_eq_true (rfl : Y = Y)]
  have Z_14 := Lib.hid (Z_13.out.keep b14)
  have G_14 := Lib.hid (G_13.out.keep b14)
  have H_14 := Lib.hid (H_13.out.keep b14)
  have B14 := Lib.hid (B13.out.trans (b14.mono B13.out.size))
  clear b14
  go_wp2_with fail
  refine (mine_held _ _ _ _ (1) _ G_14.out (by omega) (by omega) (by omega)).mono ?_
  rintro e w15 ⟨rfl, rfl⟩
  have Z_15 := Lib.hid Z_14.out
  have G_15 := Lib.hid G_14.out
  have H_15 := Lib.hid H_14.out
  have B15 := Lib.hid B14.out
  go_wp2_with fail
  go_ret
  exact ⟨rfl, B15.out⟩

/-! ### The row's step -/
theorem own : ownKnob Try.prog.godebug = none := by kernel_rfl
theorem laidOut : laidOutB Try.prog = true := by kernel_rfl
set_option maxRecDepth 100000 in
theorem lifted (os : Os) (started : os.Started) (H : Type) (enc : TypeId × Value → H) :
    ReturnsInHanded {} Try.checked os 5 .any (Rows.fnExactSortRowsSpec.pre6 enc Try.prog Try.f5 Rows.fnExactSortRowsRow.domain false) (Rows.fnExactSortRowsSpec.post enc Try.prog Try.f5 false true false false) := by
  refine returnsInHanded_of_change (C := Try.checked) own started (by kernel_rfl) Try.func5
    (ChangeSpec.witness6 (enc := enc) (C := Try.checked) false ⟨#[], #[.slice none 0 0], []⟩ 8 (by kernel_rfl) (by kernel_rfl) (by kernel_rfl) (by kernel_rfl)) ?_
  intro W base args ds gs before hval0 hW hcnd hsz
  have hval : ∀ (j : Nat) t v, Try.f5.params[j]? = some t → args[j]? = some v → Value.okWide Try.prog W .any base t v := hval0
  have hW' := hW
  obtain ⟨p, q, hA0, hV, rfl, hfz, hnd⟩ := hW
  have hA : DataW.TrodAll enc Try.prog W 0 (fun _ => true) true Try.f5.params.toList args.toList ds p := hA0
  rw [Try.params5] at hA hval
  obtain ⟨v0, vs0, d0, ds0, p0, q0, hargs, rfl, rfl, h0, r0⟩ := trodAll_cons hA
  obtain ⟨rfl, rfl, rfl⟩ := trodAll_nil r0
  obtain rfl : args = #[v0] := by cases args; simp_all
  obtain ⟨rfl, rfl⟩ := trodVars_none hV
  obtain ⟨a0, len0, cap0, rfl⟩ := okWide_slice Try.underlying38 (hval 0 38 v0 rfl rfl)
  have k0 := h0
  have lt0 : ∀ x ∈ p0, x.block < W.heap.size := by obtain ⟨m, hm⟩ := k0; exact DataW.trod_lt m _ _ _ hm
  obtain ⟨m0, L0, w0⟩ := open_rows h0
  clear hA0 hval0
  refine (walk a0 len0 cap0 L0 m0 W w0).mono fun e W' ⟨he, bel⟩ => ?_
  subst he
  exact ⟨_, rfl, _, _, _, [], _, [], hW', trodAll_mk1 (shut_bool Try.underlying4 _), (trodAll_cons_mk (Below.trod laidOut (by kernel_rfl) (of_decide_eq_true (by kernel_rfl)) k0 bel lt0) trodAll_mk0), rfl, bel.frame _, fun h => by cases h⟩
theorem over : Rows.fnExactSortRowsRow.holds Try.pinned (OpenSpec.ofChange Rows.fnExactSortRowsSpec) :=
  OpenClaim.holds_of_wide 5 Try.f5 rfl rfl rfl rfl rfl rfl rfl ⟨rfl, rfl, rfl, rfl, rfl⟩ rfl rfl rfl rfl rfl (by kernel_rfl) Try.func5 (by kernel_rfl)
    (of_decide_eq_true (by kernel_rfl)) (by unfold Func.isWrapper; first | (rw [if_pos (by decide +kernel)]; kernel_rfl) | (rw [if_neg (by decide +kernel)]; exact ⟨rfl, rfl⟩))
    (fun os started H enc _ => lifted os started H enc)
/-- The statement. -/
theorem proved : Rows.FnExactSortRowsSaid := over
#print axioms proved
end Go.Proofs.Ytedfjpfppipfhaa.FnExactSortRows
