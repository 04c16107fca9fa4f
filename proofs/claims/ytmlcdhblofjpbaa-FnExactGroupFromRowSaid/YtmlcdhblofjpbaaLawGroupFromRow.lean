/- Proved: for every row the law FnExactGroupFromRow returns true: the program's GroupFromRow answers as the reference's (the law itself answers true above 2^20). No condition. -/
import Derived.Test.YtmlcdhblofjpbaaRows
import Derived.Test.YtmlcdhblofjpbaaVOp
import Derived.Test.YtmlcdhblofjpbaaVWRow
import Derived.Test.YtmlcdhblofjpbaaVWGroup
import Derived.Test.YtmlcdhblofjpbaaVOpGroup
import Derived.Test.YtmlcdhblofjpbaaComb
import Derived.ProofKit
import Derived.OpenShut
import Derived.ShutString
import Derived.ChangeOld
namespace Go.Proofs.Ytmlcdhblofjpbaa.FnExactGroupFromRow
open Go Go.ChangeShapes Go.WideShapes Go.ChangeAt Go.RowKit
open V hiding T
open Go.ChangeMaps (open_string shut_string)
set_option linter.unusedVariables false
set_option maxRecDepth 100000 in
set_option maxHeartbeats 2000000 in
theorem vlaw (X0 : R) (Y0 : GroupD) (hs : VC Try.prog 17 [(true, tRow (X0))] false [(true, tGroup (Y0))]) (hi : VC Try.prog 19 [(true, tRow (X0))] false [(true, tGroup (Y0))]) (hY0 : wtGroup Y0 ≤ 300000000000) : VC Try.prog 4 [(true, uRow (X0))] false [(false, [.lit (.bool true)])] := by
  refine VC.enter Try.func4 rfl Try.ntmps4 (Nat.le_of_ble_eq_true rfl) fun E hE => ?_
  have hWv_Y0 : wtGroup Y0 = 0 := rfl
  have hYw0 := hY0
  refine SV.seq' ?_
  refine SV.region ?_
  refine SV.op (OpMk.ok (ok_box (kk := 0) (ag := true) (xs := [.sc _, .sc _, .sc _]) rfl rfl rfl (fun h => by cases h) rfl rfl (Nat.le_of_ble_eq_true rfl))) rfl ?_
  refine SV.op (OpL.ok (nb := 1) (ok_move (v := V.one (.sc _)) (.inr rfl) rfl) rfl (Nat.le_of_ble_eq_true rfl)) rfl ?_
  refine SV.nil ?_
  refine SV.tn ?_
  refine SV.seq' ?_
  refine SV.region ?_
  refine SV.op (OpL.ok (nb := 1) (ok_load_bp (b := 0) (i := 0) (ag := true) (m := 3) (ys := [.sc _, .sc _, .sc _]) rfl rfl rfl agg_laws_Row sz_laws_Row (fun h => by cases h) rfl rfl (Nat.le_of_ble_eq_true rfl)) rfl (Nat.le_of_ble_eq_true rfl)) rfl ?_
  refine SV.op (OpMk.ok (ok_call (ls := [(true, [.sc _, .sc _, .sc _])]) rfl rfl ⟨_, _, Try.func18, rfl, by decide⟩ (vto_row X0) ⟨⟨[.sc _, .sc _, .sc _], rfl, ⟨rfl, rfl, rfl, trivial⟩⟩, trivial⟩ rfl (Nat.le_of_ble_eq_true rfl))) rfl ?_
  refine SV.op (OpMk.ok (ok_call (ls := [(true, [.sc _, .sc _, .sc _, .sc _, .sc _])]) rfl rfl ⟨_, _, Try.func17, rfl, by decide⟩ (hs) ⟨⟨[.sc _, .sc _, .sc _], rfl, ⟨rfl, rfl, rfl, trivial⟩⟩, trivial⟩ rfl (Nat.le_of_ble_eq_true rfl))) rfl ?_
  refine SV.op (OpMk.ok (ok_alloc (kk := 1) (xs := [.sc _, .sc _, .sc _, .sc _, .sc _]) rfl rfl zero_impl_Group ⟨rfl, rfl, rfl, rfl, rfl, rfl, rfl, rfl, rfl, rfl, trivial⟩ rfl (Nat.le_of_ble_eq_true rfl))) rfl ?_
  refine SV.op (ok_store_bp (b := 1) (i := 0) (m := 5) (ag := true) (zs := [.sc _, .sc _, .sc _, .sc _, .sc _]) (ys := [.sc _, .sc _, .sc _, .sc _, .sc _]) rfl rfl rfl rfl sz_impl_Group (fun h => by cases h) rfl (Nat.le_of_ble_eq_true rfl) rfl rfl rfl) rfl ?_
  refine SV.nil ?_
  refine SV.tn ?_
  refine SV.seq' ?_
  refine SV.region ?_
  refine SV.op (OpL.ok (nb := 2) (ok_load_bp (b := 0) (i := 0) (ag := true) (m := 3) (ys := [.sc _, .sc _, .sc _]) rfl rfl rfl agg_laws_Row sz_laws_Row (fun h => by cases h) rfl rfl (Nat.le_of_ble_eq_true rfl)) rfl (Nat.le_of_ble_eq_true rfl)) rfl ?_
  refine SV.op (OpMk.ok (ok_call (ls := [(true, [.sc _, .sc _, .sc _])]) rfl rfl ⟨_, _, Try.func18, rfl, by decide⟩ (vto_row X0) ⟨⟨[.sc _, .sc _, .sc _], rfl, ⟨rfl, rfl, rfl, trivial⟩⟩, trivial⟩ rfl (Nat.le_of_ble_eq_true rfl))) rfl ?_
  refine SV.op (OpMk.ok (ok_call (ls := [(true, [.sc _, .sc _, .sc _, .sc _, .sc _])]) rfl rfl ⟨_, _, Try.func19, rfl, by decide⟩ (hi) ⟨⟨[.sc _, .sc _, .sc _], rfl, ⟨rfl, rfl, rfl, trivial⟩⟩, trivial⟩ rfl (Nat.le_of_ble_eq_true rfl))) rfl ?_
  refine SV.op (OpMk.ok (ok_alloc (kk := 2) (xs := [.sc _, .sc _, .sc _, .sc _, .sc _]) rfl rfl zero_impl_Group ⟨rfl, rfl, rfl, rfl, rfl, rfl, rfl, rfl, rfl, rfl, trivial⟩ rfl (Nat.le_of_ble_eq_true rfl))) rfl ?_
  refine SV.op (ok_store_bp (b := 2) (i := 0) (m := 5) (ag := true) (zs := [.sc _, .sc _, .sc _, .sc _, .sc _]) (ys := [.sc _, .sc _, .sc _, .sc _, .sc _]) rfl rfl rfl rfl sz_impl_Group (fun h => by cases h) rfl (Nat.le_of_ble_eq_true rfl) rfl rfl rfl) rfl ?_
  refine SV.nil ?_
  refine SV.tn ?_
  refine SV.seq' ?_
  refine SV.seq' ?_
  refine SV.region ?_
  refine SV.op (OpL.ok (nb := 3) (ok_load_bp (b := 2) (i := 0) (ag := true) (m := 5) (ys := [.sc _, .sc _, .sc _, .sc _, .sc _]) rfl rfl rfl agg_impl_Group sz_impl_Group (fun h => by cases h) rfl rfl (Nat.le_of_ble_eq_true rfl)) rfl (Nat.le_of_ble_eq_true rfl)) rfl ?_
  refine SV.op (OpL.ok (nb := 3) (ok_load_bp (b := 1) (i := 0) (ag := true) (m := 5) (ys := [.sc _, .sc _, .sc _, .sc _, .sc _]) rfl rfl rfl agg_impl_Group sz_impl_Group (fun h => by cases h) rfl rfl (Nat.le_of_ble_eq_true rfl)) rfl (Nat.le_of_ble_eq_true rfl)) rfl ?_
  refine SV.op (OpMk.ok (ok_call (ls := [(false, [.sc _])]) rfl rfl ⟨_, _, Try.func20, rfl, by decide⟩ (veq_group Y0 (by omega)) ⟨⟨[.sc _, .sc _, .sc _, .sc _, .sc _], rfl, ⟨rfl, rfl, rfl, rfl, rfl, trivial⟩⟩, ⟨[.sc _, .sc _, .sc _, .sc _, .sc _], rfl, ⟨rfl, rfl, rfl, rfl, rfl, trivial⟩⟩, trivial⟩ rfl (Nat.le_of_ble_eq_true rfl))) rfl ?_
  refine SV.op (OpL.ok (nb := 3) (ok_s1 (x := .tmp 13) (VScal.one rfl) (fun ρ h1 w => by go_simp; (try go_bits); with_reducible rfl) rfl) rfl (Nat.le_of_ble_eq_true rfl)) rfl ?_
  refine SV.nil ?_
  refine SV.tn ?_
  refine SV.cond rfl (fun hc0 => ?_) (fun hc0 => ?_)
  · skip   -- c0.T
    (exfalso; first | (simp at hc0; done) | (simp at hc0; omega))
  · skip   -- c0.F
    refine SV.skip ?_
    refine SV.tn ?_
    refine SV.seq' ?_
    refine SV.region ?_
    refine SV.op (OpL.ok (nb := 3) (ok_move (v := V.one (.sc _)) (.inr rfl) rfl) rfl (Nat.le_of_ble_eq_true rfl)) rfl ?_
    refine SV.nil ?_
    refine SV.tn ?_
    refine SV.ret ?_
    apply SV.done (hf := Try.results4) (ht := rfl) (he := .inl rfl)
    case hr => exact (ResAll.cons (ResOk.tmp (ag := false) (xs := [.sc _]) rfl) ResAll.nil')
    case h2 => simp [two]
    refine ⟨rfl, ⟨?_, trivial⟩, trivial⟩ <;> rfl
theorem walk (v0 : Value) (X0 : R) (w : World) (o0 : okRow X0) (g0 : ArgT w true (uRow X0) v0) : Calls Try.prog 4 #[v0] w fun e w' => e = .returned (.bool true) ∧ Below w.heap.size w w' :=
  VC.law (vlaw X0 (GroupD.ofRow X0) (vofrow_s X0) (vofrow_i X0) ((by show 0 ≤ _; omega))) (argsIn_cons g0 argsIn_nil)

/-! ### The row's step -/
theorem own : ownKnob Try.prog.godebug = none := by kernel_rfl
theorem laidOut : laidOutB Try.prog = true := by kernel_rfl
set_option maxRecDepth 100000 in
theorem lifted (os : Os) (started : os.Started) (H : Type) (enc : TypeId × Value → H) :
    ReturnsInHanded {} Try.checked os 4 .any (Rows.fnExactGroupFromRowSpec.pre6 enc Try.prog Try.f4 Rows.fnExactGroupFromRowRow.domain false) (Rows.fnExactGroupFromRowSpec.post enc Try.prog Try.f4 false true false false) := by
  refine returnsInHanded_of_change (C := Try.checked) own started (by kernel_rfl) Try.func4
    (ChangeSpec.witness6 (enc := enc) (C := Try.checked) false ⟨#[], #[.agg #[.int .i64 0, .int .i64 0, .int .i64 0]], []⟩ 8 (by kernel_rfl) (by kernel_rfl) (by kernel_rfl) (by kernel_rfl)) ?_
  intro W base args ds gs before hval0 hW hcnd hsz
  have hval : ∀ (j : Nat) t v, Try.f4.params[j]? = some t → args[j]? = some v → Value.okWide Try.prog W .any base t v := hval0
  have hW' := hW
  obtain ⟨p, q, hA0, hV, rfl, hfz, hnd⟩ := hW
  have hA : DataW.TrodAll enc Try.prog W 0 (fun _ => true) true Try.f4.params.toList args.toList ds p := hA0
  rw [Try.params4] at hA hval
  obtain ⟨v0, vs0, d0, ds0, p0, q0, hargs, rfl, rfl, h0, r0⟩ := trodAll_cons hA
  obtain ⟨rfl, rfl, rfl⟩ := trodAll_nil r0
  obtain rfl : args = #[v0] := by cases args; simp_all
  obtain ⟨rfl, rfl⟩ := trodVars_none hV
  have k0 := h0
  have lt0 : ∀ x ∈ p0, x.block < W.heap.size := by obtain ⟨m, hm⟩ := k0; exact DataW.trod_lt m _ _ _ hm
  obtain ⟨L0, o0, g0⟩ := OpensT.row.val Try.underlying34 (by kernel_rfl) (hval 0 34 v0 rfl rfl) h0
  clear hA0 hval0
  refine (walk v0 L0 W o0 g0).mono fun e W' ⟨he, bel⟩ => ?_
  subst he
  exact ⟨_, rfl, _, _, _, [], _, [], hW', trodAll_mk1 (shut_bool Try.underlying4 _), (trodAll_cons_mk (Below.trod laidOut (by kernel_rfl) (of_decide_eq_true (by kernel_rfl)) k0 bel lt0) trodAll_mk0), rfl, bel.frame _, fun h => by cases h⟩
theorem over : Rows.fnExactGroupFromRowRow.holds Try.pinned (OpenSpec.ofChange Rows.fnExactGroupFromRowSpec) :=
  OpenClaim.holds_of_wide 4 Try.f4 rfl rfl rfl rfl rfl rfl rfl ⟨rfl, rfl, rfl, rfl, rfl⟩ rfl rfl rfl rfl rfl (by kernel_rfl) Try.func4 (by kernel_rfl)
    (of_decide_eq_true (by kernel_rfl)) (by unfold Func.isWrapper; first | (rw [if_pos (by decide +kernel)]; kernel_rfl) | (rw [if_neg (by decide +kernel)]; exact ⟨rfl, rfl⟩))
    (fun os started H enc _ => lifted os started H enc)
/-- The statement. -/
theorem proved : Rows.FnExactGroupFromRowSaid := over
#print axioms proved
end Go.Proofs.Ytmlcdhblofjpbaa.FnExactGroupFromRow
