/- Proved: for every slice of rows the law FnExactAllSameKey returns true: the program's AllSameKey answers as the reference's and leaves its argument alone (the law itself answers true above 2^20 rows). No condition. -/
import Derived.Test.YtcfemlnicpeagaaRows
import Derived.Test.YtcfemlnicpeagaaSzSRow
import Derived.Test.YtcfemlnicpeagaaToSRow
import Derived.Test.YtcfemlnicpeagaaEqSRow
import Derived.Test.YtcfemlnicpeagaaMkSRow
import Derived.Test.YtcfemlnicpeagaaOpRows
import Derived.Test.YtcfemlnicpeagaaSame
import Derived.ProofKit
import Derived.OpenShut
import Derived.ShutString
import Derived.ChangeOld
namespace Go.Proofs.Ytcfemlnicpeagaa.FnExactAllSameKey
open Go Go.ChangeShapes Go.WideShapes Go.ChangeAt Go.RowKit
open Go.ChangeMaps (open_string shut_string)
set_option linter.unusedVariables false

def Ans (Y0 : Bool) (v : World) (e : Ending) (v' : World) : Prop := e = .returned (.bool Y0) ∧ Below v.heap.size v v'
set_option maxRecDepth 100000 in
set_option maxHeartbeats 2000000 in
theorem walk (a0 : Option Addr) (n0 c0 : Nat) (X0 : List R) (w : World) (h0 : SeqIn rowRep w a0 n0 X0) : Calls Try.prog 6 #[.slice a0 n0 c0] w fun e w' => e = .returned (.bool true) ∧ Below w.heap.size w w' := by
  have HI0 := Lib.hid h0
  clear h0
  obtain ⟨z0, hz0⟩ : ∃ z, z = szR 1048576 (wtRows X0) := ⟨_, rfl⟩
  have HZ0 := Lib.hid hz0
  clear hz0
  have B0 := Lib.hid (Below.refl w.heap.size w)
  go_enter Try.func6, Try.ntmps6
  go_wp2_with fail
  refine (szS_row a0 n0 c0 X0 1048576 _ (HI0.out.keep B0.out) (by omega) (by omega)).mono ?_
  rintro e w1 ⟨rfl, b1⟩
  rw [← HZ0.out]
  have B1 := Lib.hid (B0.out.trans (b1.mono B0.out.size))
  clear b1
  by_cases hz0 : z0 < 0
  · go_wp2_with fail
    go_ret
    exact ⟨rfl, B1.out⟩
  obtain ⟨u0, e0⟩ := sz_step HZ0.out (by omega)
  have HA : Hid (wtRows X0 ≤ 1048576 ∧ rowsMk.cnt X0 ≤ 64 * wtRows X0) := Lib.hid ⟨by omega, cnt_rows X0⟩
  clear u0 e0
  have SP := Lib.hid fun (p0 : Option Addr) (d0 : Nat) (v : World) (h0 : SeqIn rowRep v p0 n0 X0) => (show Calls Try.prog 21 #[.slice p0 n0 d0] v (Ans (R.same X0) v) from ssame p0 n0 d0 X0 v (rows_in h0) (by have h1 := HA.out; have h2 : X0.length = n0 := h0.1; have h3 : wtRows X0 = X0.length := rfl; omega))
  have IP := Lib.hid fun (p0 : Option Addr) (d0 : Nat) (v : World) (h0 : SeqIn rowRep v p0 n0 X0) => (show Calls Try.prog 20 #[.slice p0 n0 d0] v (Ans (R.same X0) v) from isame p0 n0 d0 X0 v (rows_in h0) (by have h1 := HA.out; have h2 : X0.length = n0 := h0.1; have h3 : wtRows X0 = X0.length := rfl; omega))
  obtain ⟨Y0, hY0⟩ : ∃ Y, Y = R.same X0 := ⟨_, rfl⟩
  rw [← hY0] at SP IP
  clear hY0
  go_wp2_with fail
  refine (toS_row a0 n0 c0 X0 _ (HI0.out.keep B1.out) (by have := HA.out; omega)).mono ?_
  rintro e w2 ⟨g2, F2, rfl, m2_0, b2⟩
  have B2 := Lib.hid (B1.out.trans (b2.mono B1.out.size))
  have S0_2 := Lib.hid m2_0
  clear b2 m2_0
  go_wp2_with fail
  refine (SP.out _ _ _ S0_2.out.inn).mono ?_
  rintro e w3 ⟨rfl, b3⟩
  have S0_3 := Lib.hid (S0_2.out.keep b3)
  have B3 := Lib.hid (B2.out.trans (b3.mono B2.out.size))
  clear b3
  go_wp2_with fail
  refine (toS_row a0 n0 c0 X0 _ (HI0.out.keep B3.out) (by have := HA.out; omega)).mono ?_
  rintro e w4 ⟨g4, F4, rfl, m4_0, b4⟩
  have B4 := Lib.hid (B3.out.trans (b4.mono B3.out.size))
  have P0_4 := Lib.hid m4_0
  clear b4 m4_0
  go_wp2_with fail
  refine (IP.out _ _ _ P0_4.out.inn).mono ?_
  rintro e w5 ⟨rfl, b5⟩
  have P0_5 := Lib.hid (P0_4.out.keep b5)
  have B5 := Lib.hid (B4.out.trans (b5.mono B4.out.size))
  clear b5
  go_wp2_with fail
  refine (toS_row a0 n0 c0 X0 _ (HI0.out.keep B5.out) (by have := HA.out; omega)).mono ?_
  rintro e w6 ⟨g6, F6, rfl, m6_0, b6⟩
  have P0_6 := Lib.hid (P0_5.out.keep b6)
  have B6 := Lib.hid (B5.out.trans (b6.mono B5.out.size))
  have T0_6 := Lib.hid m6_0
  have ap_P0_T0 := Lib.hid (apart_new P0_5.out m6_0 (Nat.le_refl _))
  clear b6 m6_0
  go_wp2_with fail
  refine (eqS_row _ _ _ _ _ _ X0 X0 _ P0_6.out.inn T0_6.out.inn).mono ?_
  rintro e w7 ⟨rfl, b7⟩
  rw [decide_eq_true (rfl : X0 = X0)]
  have P0_7 := Lib.hid (P0_6.out.keep b7)
  have T0_7 := Lib.hid (T0_6.out.keep b7)
  have B7 := Lib.hid (B6.out.trans (b7.mono B6.out.size))
  clear b7
  go_wp2_with fail
  go_ret
  exact ⟨rfl, B7.out⟩

/-! ### The row's step -/
theorem own : ownKnob Try.prog.godebug = none := by kernel_rfl
theorem laidOut : laidOutB Try.prog = true := by kernel_rfl
set_option maxRecDepth 100000 in
theorem lifted (os : Os) (started : os.Started) (H : Type) (enc : TypeId × Value → H) :
    ReturnsInHanded {} Try.checked os 6 .any (Rows.fnExactAllSameKeySpec.pre6 enc Try.prog Try.f6 Rows.fnExactAllSameKeyRow.domain false) (Rows.fnExactAllSameKeySpec.post enc Try.prog Try.f6 false true false false) := by
  refine returnsInHanded_of_change (C := Try.checked) own started (by kernel_rfl) Try.func6
    (ChangeSpec.witness6 (enc := enc) (C := Try.checked) false ⟨#[], #[.slice none 0 0], []⟩ 8 (by kernel_rfl) (by kernel_rfl) (by kernel_rfl) (by kernel_rfl)) ?_
  intro W base args ds gs before hval0 hW hcnd hsz
  have hval : ∀ (j : Nat) t v, Try.f6.params[j]? = some t → args[j]? = some v → Value.okWide Try.prog W .any base t v := hval0
  have hW' := hW
  obtain ⟨p, q, hA0, hV, rfl, hfz, hnd⟩ := hW
  have hA : DataW.TrodAll enc Try.prog W 0 (fun _ => true) true Try.f6.params.toList args.toList ds p := hA0
  rw [Try.params6] at hA hval
  obtain ⟨v0, vs0, d0, ds0, p0, q0, hargs, rfl, rfl, h0, r0⟩ := trodAll_cons hA
  obtain ⟨rfl, rfl, rfl⟩ := trodAll_nil r0
  obtain rfl : args = #[v0] := by cases args; simp_all
  obtain ⟨rfl, rfl⟩ := trodVars_none hV
  obtain ⟨a0, len0, cap0, rfl⟩ := okWide_slice Try.underlying39 (hval 0 39 v0 rfl rfl)
  have k0 := h0
  have lt0 : ∀ x ∈ p0, x.block < W.heap.size := by obtain ⟨m, hm⟩ := k0; exact DataW.trod_lt m _ _ _ hm
  obtain ⟨L0, w0⟩ := Opens.rows.arg h0
  clear hA0 hval0
  refine (walk a0 len0 cap0 L0 W w0).mono fun e W' ⟨he, bel⟩ => ?_
  subst he
  exact ⟨_, rfl, _, _, _, [], _, [], hW', trodAll_mk1 (shut_bool Try.underlying4 _), (trodAll_cons_mk (Below.trod laidOut (by kernel_rfl) (of_decide_eq_true (by kernel_rfl)) k0 bel lt0) trodAll_mk0), rfl, bel.frame _, fun h => by cases h⟩
theorem over : Rows.fnExactAllSameKeyRow.holds Try.pinned (OpenSpec.ofChange Rows.fnExactAllSameKeySpec) :=
  OpenClaim.holds_of_wide 6 Try.f6 rfl rfl rfl rfl rfl rfl rfl ⟨rfl, rfl, rfl, rfl, rfl⟩ rfl rfl rfl rfl rfl (by kernel_rfl) Try.func6 (by kernel_rfl)
    (of_decide_eq_true (by kernel_rfl)) (by unfold Func.isWrapper; first | (rw [if_pos (by decide +kernel)]; kernel_rfl) | (rw [if_neg (by decide +kernel)]; exact ⟨rfl, rfl⟩))
    (fun os started H enc _ => lifted os started H enc)
/-- The statement. -/
theorem proved : Rows.FnExactAllSameKeySaid := over
#print axioms proved
end Go.Proofs.Ytcfemlnicpeagaa.FnExactAllSameKey
