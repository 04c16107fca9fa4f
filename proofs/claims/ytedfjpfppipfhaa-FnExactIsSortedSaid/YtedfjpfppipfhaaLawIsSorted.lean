/- Proved: for every slice of rows the law FnExactIsSorted returns true: the program's IsSorted answers as the reference's and leaves its argument alone (the law itself answers true above 2^20 rows). No condition. -/
import Derived.Test.YtedfjpfppipfhaaRows
import Derived.Test.YtedfjpfppipfhaaMark
import Derived.Test.YtedfjpfppipfhaaEqRows
import Derived.Test.YtedfjpfppipfhaaOpenRow
import Derived.Test.YtedfjpfppipfhaaToRow
import Derived.Test.YtedfjpfppipfhaaAsc
import Derived.ProofKit
import Derived.OpenShut
import Derived.ShutString
import Derived.ChangeOld
namespace Go.Proofs.Ytedfjpfppipfhaa.FnExactIsSorted
open Go.ChangeShapes Go.WideShapes Go.ChangeAt Go.RowKit
open Go.ChangeMaps (open_string shut_string)
set_option linter.unusedVariables false

set_option maxRecDepth 100000 in
set_option maxHeartbeats 1000000 in
theorem walk (a : Option Addr) (len cap : Nat) (L : List R) (hl : len ≤ maxLen) (w : World) (h : IsRows w a len L) : Calls Try.prog 6 #[.slice a len cap] w fun e w' => e = .returned (.bool true) ∧ Below w.heap.size w w' := by
  unfold maxLen at hl
  have HI := Lib.hid h
  have HW := Lib.hid h.2.1
  have HL := Lib.hid h.1
  clear h
  by_cases hbig : 1048576 < len
  · go_enter Try.func6, Try.ntmps6
    go_wp2_with fail
    refine (sz_no a len cap 1048576 _ (by omega) hl (by omega)).mono ?_
    rintro e w1 ⟨rfl, rfl⟩
    go_wp2_with fail
    go_ret
    exact ⟨rfl, Below.refl _ _⟩
  have SP := Lib.hid fun (a1 : Option Addr) (c1 : Nat) (v : World) (h1 : IsRows v a1 len L) => sasc a1 len c1 L v h1 (by omega)
  have IP := Lib.hid fun (a1 : Option Addr) (c1 : Nat) (v : World) (h1 : IsRows v a1 len L) => iasc a1 len c1 L v h1 (by omega)
  obtain ⟨Y, hY⟩ : ∃ Y, Y = R.asc L := ⟨_, rfl⟩
  rw [← hY] at SP IP
  clear hY
  have B0 := Lib.hid (Below.refl w.heap.size w)
  go_enter Try.func6, Try.ntmps6
  go_wp2_with fail
  refine (sz_ok a len cap 1048576 _ (by omega) (by omega)).mono ?_
  rintro e v0 ⟨rfl, rfl⟩
  have hz : ¬ ((1048576 : Int) - len < 0) := by omega
  go_wp2_with fail
  refine (copyrows a len cap L _ (HI.out.keep B0.out) (by omega)).mono ?_
  rintro e w1 ⟨g1, rfl, m1, b1⟩
  have B1 := Lib.hid (B0.out.trans (b1.mono B0.out.size))
  have S0_1 := Lib.hid m1
  clear b1 m1
  go_wp2_with fail
  refine (SP.out _ _ _ (S0_1.out.rows HW.out)).mono ?_
  rintro e w2 ⟨rfl, b2⟩
  have S0_2 := Lib.hid (S0_1.out.keep b2)
  have B2 := Lib.hid (B1.out.trans (b2.mono B1.out.size))
  clear b2
  go_wp2_with fail
  refine (copyrows a len cap L _ (HI.out.keep B2.out) (by omega)).mono ?_
  rintro e w3 ⟨g3, rfl, m3, b3⟩
  have B3 := Lib.hid (B2.out.trans (b3.mono B2.out.size))
  have X0_3 := Lib.hid m3
  clear b3 m3
  go_wp2_with fail
  refine (IP.out _ _ _ (X0_3.out.rows HW.out)).mono ?_
  rintro e w4 ⟨rfl, b4⟩
  have X0_4 := Lib.hid (X0_3.out.keep b4)
  have B4 := Lib.hid (B3.out.trans (b4.mono B3.out.size))
  clear b4
  go_wp2_with fail
  refine (copyrows a len cap L _ (HI.out.keep B4.out) (by omega)).mono ?_
  rintro e w5 ⟨g5, rfl, m5, b5⟩
  have X0_5 := Lib.hid (X0_4.out.keep b5)
  have B5 := Lib.hid (B4.out.trans (b5.mono B4.out.size))
  have C0_5 := Lib.hid m5
  have ap_X0_C0 := Lib.hid (X0_4.out.apart m5 (Nat.le_refl _) (Nat.le_refl _))
  clear b5 m5
  go_wp2_with fail
  refine (eqrows _ _ _ _ _ _ L L _ (X0_5.out.rows HW.out) (C0_5.out.rows HW.out) (by omega) (by omega)).mono ?_
  rintro e w6 ⟨rfl, b6⟩
  rw [decide_eq_true (rfl : L = L)]
  have X0_6 := Lib.hid (X0_5.out.keep b6)
  have C0_6 := Lib.hid (C0_5.out.keep b6)
  have B6 := Lib.hid (B5.out.trans (b6.mono B5.out.size))
  clear b6
  go_wp2_with fail
  go_ret
  exact ⟨rfl, B6.out⟩

/-! ### The row's step -/
theorem own : ownKnob Try.prog.godebug = none := by kernel_rfl
theorem laidOut : laidOutB Try.prog = true := by kernel_rfl
set_option maxRecDepth 100000 in
theorem lifted (os : Os) (started : os.Started) (H : Type) (enc : TypeId × Value → H) :
    ReturnsInHanded {} Try.checked os 6 .any (Rows.fnExactIsSortedSpec.pre6 enc Try.prog Try.f6 Rows.fnExactIsSortedRow.domain false) (Rows.fnExactIsSortedSpec.post enc Try.prog Try.f6 false true false false) := by
  refine returnsInHanded_of_change (C := Try.checked) own started (by kernel_rfl) Try.func6
    (ChangeSpec.witness6 (enc := enc) (C := Try.checked) false ⟨#[], #[.slice none 0 0], []⟩ 8 (by kernel_rfl) (by kernel_rfl) (by kernel_rfl) (by kernel_rfl)) ?_
  intro W base args ds gs before hval0 hW hcnd hsz
  have hval : ∀ (j : Nat) t v, Try.f6.params[j]? = some t → args[j]? = some v → Value.okWide Try.prog W .any base t v := hval0
  have hW' := hW
  obtain ⟨p, q, hA0, hV, rfl, hfz, hnd⟩ := hW
  have hA : DataW.TrodAll enc Try.prog W 0 (fun _ => true) true Try.f6.params.toList args.toList ds p := hA0
  rw [Try.params6] at hA hval
  obtain ⟨v0, vs0, d0, ds0, p0, q0, hargs, rfl, rfl, h0, r0⟩ := trodAll_cons hA
  obtain ⟨rfl, rfl, rfl⟩ := trodAll_nil r0
  obtain rfl : args = #[v0] := by cases args; simp_all
  obtain ⟨rfl, rfl⟩ := trodVars_none hV
  obtain ⟨a0, len0, cap0, rfl⟩ := okWide_slice Try.underlying38 (hval 0 38 v0 rfl rfl)
  have k0 := h0
  have lt0 : ∀ x ∈ p0, x.block < W.heap.size := by obtain ⟨m, hm⟩ := k0; exact DataW.trod_lt m _ _ _ hm
  obtain ⟨m0, L0, w0⟩ := open_rows h0
  clear hA0 hval0
  refine (walk a0 len0 cap0 L0 m0 W w0).mono fun e W' ⟨he, bel⟩ => ?_
  subst he
  exact ⟨_, rfl, _, _, _, [], _, [], hW', trodAll_mk1 (shut_bool Try.underlying4 _), (trodAll_cons_mk (Below.trod laidOut (by kernel_rfl) (of_decide_eq_true (by kernel_rfl)) k0 bel lt0) trodAll_mk0), rfl, bel.frame _, fun h => by cases h⟩
theorem over : Rows.fnExactIsSortedRow.holds Try.pinned (OpenSpec.ofChange Rows.fnExactIsSortedSpec) :=
  OpenClaim.holds_of_wide 6 Try.f6 rfl rfl rfl rfl rfl rfl rfl ⟨rfl, rfl, rfl, rfl, rfl⟩ rfl rfl rfl rfl rfl (by kernel_rfl) Try.func6 (by kernel_rfl)
    (of_decide_eq_true (by kernel_rfl)) (by unfold Func.isWrapper; first | (rw [if_pos (by decide +kernel)]; kernel_rfl) | (rw [if_neg (by decide +kernel)]; exact ⟨rfl, rfl⟩))
    (fun os started H enc _ => lifted os started H enc)
/-- The statement. -/
theorem proved : Rows.FnExactIsSortedSaid := over
#print axioms proved
end Go.Proofs.Ytedfjpfppipfhaa.FnExactIsSorted
