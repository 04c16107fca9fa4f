/- Proved: for every two slices of rows the law FnExactEqualBags returns true: the program's EqualBags answers as the reference's and leaves its arguments alone (the law itself answers true above 2^20 rows). No condition. -/
import Derived.Test.YtedfjpfppipfhaaRows
import Derived.Test.YtedfjpfppipfhaaMark
import Derived.Test.YtedfjpfppipfhaaEqRows
import Derived.Test.YtedfjpfppipfhaaOpenRow
import Derived.Test.YtedfjpfppipfhaaToRow
import Derived.Test.YtedfjpfppipfhaaBags
import Derived.Test.YtedfjpfppipfhaaBagi
import Derived.ProofKit
import Derived.OpenShut
import Derived.ShutString
import Derived.ChangeOld
namespace Go.Proofs.Ytedfjpfppipfhaa.FnExactEqualBags
open Go.ChangeShapes Go.WideShapes Go.ChangeAt Go.RowKit
open Go.ChangeMaps (open_string shut_string)
set_option linter.unusedVariables false

set_option maxRecDepth 100000 in
set_option maxHeartbeats 1000000 in
theorem walk (a : Option Addr) (len cap : Nat) (L : List R) (hl : len ≤ maxLen) (w : World) (h : IsRows w a len L) (a' : Option Addr) (len' cap' : Nat) (L' : List R) (hl' : len' ≤ maxLen) (h' : IsRows w a' len' L') : Calls Try.prog 7 #[.slice a len cap, .slice a' len' cap'] w fun e w' => e = .returned (.bool true) ∧ Below w.heap.size w w' := by
  unfold maxLen at hl hl'
  have HI := Lib.hid h
  have HW := Lib.hid h.2.1
  have HL := Lib.hid h.1
  have HI' := Lib.hid h'
  have HW' := Lib.hid h'.2.1
  have HL' := Lib.hid h'.1
  clear h h'
  by_cases hbig : 1048576 < len
  · go_enter Try.func7, Try.ntmps7
    go_wp2_with fail
    refine (sz_no a len cap 1048576 _ (by omega) hl (by omega)).mono ?_
    rintro e w1 ⟨rfl, rfl⟩
    go_wp2_with fail
    go_ret
    exact ⟨rfl, Below.refl _ _⟩
  by_cases hbig' : 1048576 < len + len'
  · go_enter Try.func7, Try.ntmps7
    go_wp2_with fail
    refine (sz_ok a len cap 1048576 _ (by omega) (by omega)).mono ?_
    rintro e w1 ⟨rfl, rfl⟩
    have hz : ¬ ((1048576 : Int) - len < 0) := by omega
    go_wp2_with fail
    refine (sz_no a' len' cap' (1048576 - len) _ (by omega) hl' (by omega)).mono ?_
    rintro e w1 ⟨rfl, rfl⟩
    go_wp2_with fail
    go_ret
    exact ⟨rfl, Below.refl _ _⟩
  have SP := Lib.hid fun (a1 : Option Addr) (c1 : Nat) (a2 : Option Addr) (c2 : Nat) (v : World) (h1 : IsRows v a1 len L) (h2 : IsRows v a2 len' L') => seqbags a1 a2 len c1 len' c2 L L' v h1 h2 (by omega) (by omega)
  have IP := Lib.hid fun (a1 : Option Addr) (c1 : Nat) (a2 : Option Addr) (c2 : Nat) (v : World) (h1 : IsRows v a1 len L) (h2 : IsRows v a2 len' L') => ieqbags a1 a2 len c1 len' c2 L L' v h1 h2 (by omega) (by omega)
  obtain ⟨Y, hY⟩ : ∃ Y, Y = R.eqBags L L' := ⟨_, rfl⟩
  rw [← hY] at SP IP
  clear hY
  have B0 := Lib.hid (Below.refl w.heap.size w)
  go_enter Try.func7, Try.ntmps7
  go_wp2_with fail
  refine (sz_ok a len cap 1048576 _ (by omega) (by omega)).mono ?_
  rintro e v0 ⟨rfl, rfl⟩
  have hz : ¬ ((1048576 : Int) - len < 0) := by omega
  go_wp2_with fail
  refine (sz_ok a' len' cap' (1048576 - len) _ (by omega) (by omega)).mono ?_
  rintro e v0 ⟨rfl, rfl⟩
  have hz' : ¬ ((1048576 : Int) - len - len' < 0) := by omega
  go_wp2_with fail
  refine (copyrows a len cap L _ (HI.out.keep B0.out) (by omega)).mono ?_
  rintro e w1 ⟨g1, rfl, m1, b1⟩
  have B1 := Lib.hid (B0.out.trans (b1.mono B0.out.size))
  have S0_1 := Lib.hid m1
  clear b1 m1
  go_wp2_with fail
  refine (copyrows a' len' cap' L' _ (HI'.out.keep B1.out) (by omega)).mono ?_
  rintro e w2 ⟨g2, rfl, m2, b2⟩
  have S0_2 := Lib.hid (S0_1.out.keep b2)
  have B2 := Lib.hid (B1.out.trans (b2.mono B1.out.size))
  have S1_2 := Lib.hid m2
  have ap_S0_S1 := Lib.hid (S0_1.out.apart m2 (Nat.le_refl _) (Nat.le_refl _))
  clear b2 m2
  go_wp2_with fail
  refine (SP.out _ _ _ _ _ (S0_2.out.rows HW.out) (S1_2.out.rows HW'.out)).mono ?_
  rintro e w3 ⟨rfl, b3⟩
  have S0_3 := Lib.hid (S0_2.out.keep b3)
  have S1_3 := Lib.hid (S1_2.out.keep b3)
  have B3 := Lib.hid (B2.out.trans (b3.mono B2.out.size))
  clear b3
  go_wp2_with fail
  refine (copyrows a len cap L _ (HI.out.keep B3.out) (by omega)).mono ?_
  rintro e w4 ⟨g4, rfl, m4, b4⟩
  have B4 := Lib.hid (B3.out.trans (b4.mono B3.out.size))
  have X0_4 := Lib.hid m4
  clear b4 m4
  go_wp2_with fail
  refine (copyrows a' len' cap' L' _ (HI'.out.keep B4.out) (by omega)).mono ?_
  rintro e w5 ⟨g5, rfl, m5, b5⟩
  have X0_5 := Lib.hid (X0_4.out.keep b5)
  have B5 := Lib.hid (B4.out.trans (b5.mono B4.out.size))
  have X1_5 := Lib.hid m5
  have ap_X0_X1 := Lib.hid (X0_4.out.apart m5 (Nat.le_refl _) (Nat.le_refl _))
  clear b5 m5
  go_wp2_with fail
  refine (IP.out _ _ _ _ _ (X0_5.out.rows HW.out) (X1_5.out.rows HW'.out)).mono ?_
  rintro e w6 ⟨rfl, b6⟩
  have X0_6 := Lib.hid (X0_5.out.keep b6)
  have X1_6 := Lib.hid (X1_5.out.keep b6)
  have B6 := Lib.hid (B5.out.trans (b6.mono B5.out.size))
  clear b6
  go_wp2_with fail
  refine (copyrows a len cap L _ (HI.out.keep B6.out) (by omega)).mono ?_
  rintro e w7 ⟨g7, rfl, m7, b7⟩
  have X0_7 := Lib.hid (X0_6.out.keep b7)
  have X1_7 := Lib.hid (X1_6.out.keep b7)
  have B7 := Lib.hid (B6.out.trans (b7.mono B6.out.size))
  have C0_7 := Lib.hid m7
  have ap_X0_C0 := Lib.hid (X0_6.out.apart m7 (Nat.le_refl _) (Nat.le_refl _))
  have ap_X1_C0 := Lib.hid (X1_6.out.apart m7 (Nat.le_refl _) (Nat.le_refl _))
  clear b7 m7
  go_wp2_with fail
  refine (eqrows _ _ _ _ _ _ L L _ (X0_7.out.rows HW.out) (C0_7.out.rows HW.out) (by omega) (by omega)).mono ?_
  rintro e w8 ⟨rfl, b8⟩
  rw [decide_eq_true (rfl : L = L)]
  have X0_8 := Lib.hid (X0_7.out.keep b8)
  have X1_8 := Lib.hid (X1_7.out.keep b8)
  have C0_8 := Lib.hid (C0_7.out.keep b8)
  have B8 := Lib.hid (B7.out.trans (b8.mono B7.out.size))
  clear b8
  go_wp2_with fail
  refine (copyrows a' len' cap' L' _ (HI'.out.keep B8.out) (by omega)).mono ?_
  rintro e w9 ⟨g9, rfl, m9, b9⟩
  have X0_9 := Lib.hid (X0_8.out.keep b9)
  have X1_9 := Lib.hid (X1_8.out.keep b9)
  have B9 := Lib.hid (B8.out.trans (b9.mono B8.out.size))
  have C1_9 := Lib.hid m9
  have ap_X0_C1 := Lib.hid (X0_8.out.apart m9 (Nat.le_refl _) (Nat.le_refl _))
  have ap_X1_C1 := Lib.hid (X1_8.out.apart m9 (Nat.le_refl _) (Nat.le_refl _))
  clear b9 m9
  go_wp2_with fail
  refine (eqrows _ _ _ _ _ _ L' L' _ (X1_9.out.rows HW'.out) (C1_9.out.rows HW'.out) (by omega) (by omega)).mono ?_
  rintro e w10 ⟨rfl, b10⟩
  rw [decide_eq_true (rfl : L' = L')]
  have X0_10 := Lib.hid (X0_9.out.keep b10)
  have X1_10 := Lib.hid (X1_9.out.keep b10)
  have C1_10 := Lib.hid (C1_9.out.keep b10)
  have B10 := Lib.hid (B9.out.trans (b10.mono B9.out.size))
  clear b10
  go_wp2_with fail
  go_ret
  exact ⟨rfl, B10.out⟩

/-! ### The row's step -/
theorem own : ownKnob Try.prog.godebug = none := by kernel_rfl
theorem laidOut : laidOutB Try.prog = true := by kernel_rfl
set_option maxRecDepth 100000 in
theorem lifted (os : Os) (started : os.Started) (H : Type) (enc : TypeId × Value → H) :
    ReturnsInHanded {} Try.checked os 7 .any (Rows.fnExactEqualBagsSpec.pre6 enc Try.prog Try.f7 Rows.fnExactEqualBagsRow.domain false) (Rows.fnExactEqualBagsSpec.post enc Try.prog Try.f7 false true false false) := by
  refine returnsInHanded_of_change (C := Try.checked) own started (by kernel_rfl) Try.func7
    (ChangeSpec.witness6 (enc := enc) (C := Try.checked) false ⟨#[], #[.slice none 0 0, .slice none 0 0], []⟩ 8 (by kernel_rfl) (by kernel_rfl) (by kernel_rfl) (by kernel_rfl)) ?_
  intro W base args ds gs before hval0 hW hcnd hsz
  have hval : ∀ (j : Nat) t v, Try.f7.params[j]? = some t → args[j]? = some v → Value.okWide Try.prog W .any base t v := hval0
  have hW' := hW
  obtain ⟨p, q, hA0, hV, rfl, hfz, hnd⟩ := hW
  have hA : DataW.TrodAll enc Try.prog W 0 (fun _ => true) true Try.f7.params.toList args.toList ds p := hA0
  rw [Try.params7] at hA hval
  obtain ⟨v0, vs0, d0, ds0, p0, q0, hargs, rfl, rfl, h0, r0⟩ := trodAll_cons hA
  obtain ⟨v1, vs1, d1, ds1, p1, q1, rfl, rfl, rfl, h1, r1⟩ := trodAll_cons r0
  obtain ⟨rfl, rfl, rfl⟩ := trodAll_nil r1
  obtain rfl : args = #[v0, v1] := by cases args; simp_all
  obtain ⟨rfl, rfl⟩ := trodVars_none hV
  obtain ⟨a0, len0, cap0, rfl⟩ := okWide_slice Try.underlying38 (hval 0 38 v0 rfl rfl)
  have k0 := h0
  have lt0 : ∀ x ∈ p0, x.block < W.heap.size := by obtain ⟨m, hm⟩ := k0; exact DataW.trod_lt m _ _ _ hm
  obtain ⟨m0, L0, w0⟩ := open_rows h0
  obtain ⟨a1, len1, cap1, rfl⟩ := okWide_slice Try.underlying38 (hval 1 38 v1 rfl rfl)
  have k1 := h1
  have lt1 : ∀ x ∈ p1, x.block < W.heap.size := by obtain ⟨m, hm⟩ := k1; exact DataW.trod_lt m _ _ _ hm
  obtain ⟨m1, L1, w1⟩ := open_rows h1
  clear hA0 hval0
  refine (walk a0 len0 cap0 L0 m0 W w0 a1 len1 cap1 L1 m1 w1).mono fun e W' ⟨he, bel⟩ => ?_
  subst he
  exact ⟨_, rfl, _, _, _, [], _, [], hW', trodAll_mk1 (shut_bool Try.underlying4 _), (trodAll_cons_mk (Below.trod laidOut (by kernel_rfl) (of_decide_eq_true (by kernel_rfl)) k0 bel lt0) (trodAll_cons_mk (Below.trod laidOut (by kernel_rfl) (of_decide_eq_true (by kernel_rfl)) k1 bel lt1) trodAll_mk0)), rfl, bel.frame _, fun h => by cases h⟩
theorem over : Rows.fnExactEqualBagsRow.holds Try.pinned (OpenSpec.ofChange Rows.fnExactEqualBagsSpec) :=
  OpenClaim.holds_of_wide 7 Try.f7 rfl rfl rfl rfl rfl rfl rfl ⟨rfl, rfl, rfl, rfl, rfl⟩ rfl rfl rfl rfl rfl (by kernel_rfl) Try.func7 (by kernel_rfl)
    (of_decide_eq_true (by kernel_rfl)) (by unfold Func.isWrapper; first | (rw [if_pos (by decide +kernel)]; kernel_rfl) | (rw [if_neg (by decide +kernel)]; exact ⟨rfl, rfl⟩))
    (fun os started H enc _ => lifted os started H enc)
/-- The statement. -/
theorem proved : Rows.FnExactEqualBagsSaid := over
#print axioms proved
end Go.Proofs.Ytedfjpfppipfhaa.FnExactEqualBags
