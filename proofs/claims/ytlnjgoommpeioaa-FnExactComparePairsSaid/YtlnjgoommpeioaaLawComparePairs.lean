/- Proved: for every two pairs the law FnExactComparePairs returns true: the program's ComparePairs answers as the reference's (the law itself answers true above 2^20). No condition. -/
import Derived.Test.YtlnjgoommpeioaaRows
import Derived.Test.YtlnjgoommpeioaaVOp
import Derived.Test.YtlnjgoommpeioaaVWPair
import Derived.Test.YtlnjgoommpeioaaVOpPair
import Derived.Test.YtlnjgoommpeioaaPCmp
import Derived.ProofKit
import Derived.OpenShut
import Derived.ShutString
import Derived.ChangeOld
namespace Go.Proofs.Ytlnjgoommpeioaa.FnExactComparePairs
open Go Go.ChangeShapes Go.WideShapes Go.ChangeAt Go.RowKit
open V hiding T
open Go.ChangeMaps (open_string shut_string)
set_option linter.unusedVariables false
set_option maxRecDepth 100000 in
set_option maxHeartbeats 2000000 in
theorem vlaw (X0 : PairD) (X1 : PairD) (Y0 : Int) (hs : VC Try.prog 22 [(true, tPair (X0)), (true, tPair (X1))] false [(false, [.lit (.int .i64 (Y0))])]) (hi : VC Try.prog 24 [(true, tPair (X0)), (true, tPair (X1))] false [(false, [.lit (.int .i64 (Y0))])]) : VC Try.prog 6 [(true, uPair (X0)), (true, uPair (X1))] false [(false, [.lit (.bool true)])] := by
  refine VC.enter Try.func6 rfl Try.ntmps6 (Nat.le_of_ble_eq_true rfl) fun E hE => ?_
  have hWv_X0 : wtPair X0 = 0 := rfl
  have hWv_X1 : wtPair X1 = 0 := rfl
  refine SV.seq' ?_
  refine SV.region ?_
  refine SV.op (OpMk.ok (ok_box (kk := 0) (ag := true) (xs := [.sc _, .sc _, .sc _, .sc _, .sc _, .sc _, .sc _]) rfl rfl rfl (fun h => by cases h) rfl rfl (Nat.le_of_ble_eq_true rfl))) rfl ?_
  refine SV.op (OpMk.ok (ok_box (kk := 1) (ag := true) (xs := [.sc _, .sc _, .sc _, .sc _, .sc _, .sc _, .sc _]) rfl rfl rfl (fun h => by cases h) rfl rfl (Nat.le_of_ble_eq_true rfl))) rfl ?_
  refine SV.op (OpL.ok (nb := 2) (ok_move (v := V.one (.sc _)) (.inr rfl) rfl) rfl (Nat.le_of_ble_eq_true rfl)) rfl ?_
  refine SV.nil ?_
  refine SV.tn ?_
  refine SV.seq' ?_
  refine SV.draw [.q 0, .q 2, .m 1, .m 3, .m 4, .q 5] [] (by kernel_rfl) (by kernel_rfl) ?_
  refine DW.q rfl (ok_load_bp (b := 0) (i := 0) (ag := true) (m := 7) (ys := [.sc _, .sc _, .sc _, .sc _, .sc _, .sc _, .sc _]) rfl rfl rfl agg_laws_Pair sz_laws_Pair (fun h => by cases h) rfl rfl (Nat.le_of_ble_eq_true rfl)) rfl rfl (Nat.le_of_ble_eq_true rfl) (fun _ _ _ _ h => h) ?_
  refine DW.q rfl (ok_load_bp (b := 1) (i := 0) (ag := true) (m := 7) (ys := [.sc _, .sc _, .sc _, .sc _, .sc _, .sc _, .sc _]) rfl rfl rfl agg_laws_Pair sz_laws_Pair (fun h => by cases h) rfl rfl (Nat.le_of_ble_eq_true rfl)) rfl rfl (Nat.le_of_ble_eq_true rfl) (fun _ _ _ _ h => h) ?_
  refine DW.m [] rfl (ok_call (ls := [(true, [.sc _, .sc _, .sc _, .sc _, .sc _, .sc _, .sc _])]) rfl rfl ⟨_, _, Try.func23, rfl, by decide⟩ (vto_pair X0 (by omega)) ⟨⟨[.sc _, .sc _, .sc _, .sc _, .sc _, .sc _, .sc _], rfl, ⟨rfl, rfl, rfl, rfl, rfl, rfl, rfl, trivial⟩⟩, trivial⟩ rfl (Nat.le_of_ble_eq_true rfl)) rfl (Nat.le_of_ble_eq_true rfl) (Nat.le_of_ble_eq_true rfl) (.inl rfl) (fun j hj => by cases hj) ?_
  refine DW.m [] rfl (ok_call (ls := [(true, [.sc _, .sc _, .sc _, .sc _, .sc _, .sc _, .sc _])]) rfl rfl ⟨_, _, Try.func23, rfl, by decide⟩ (vto_pair X1 (by omega)) ⟨⟨[.sc _, .sc _, .sc _, .sc _, .sc _, .sc _, .sc _], rfl, ⟨rfl, rfl, rfl, rfl, rfl, rfl, rfl, trivial⟩⟩, trivial⟩ rfl (Nat.le_of_ble_eq_true rfl)) rfl (Nat.le_of_ble_eq_true rfl) (Nat.le_of_ble_eq_true rfl) (.inl rfl) (fun j hj => by cases hj) ?_
  refine DW.m [] rfl (ok_call (ls := [(false, [.sc _])]) rfl rfl ⟨_, _, Try.func22, rfl, by decide⟩ (hs) ⟨⟨[.sc _, .sc _, .sc _, .sc _, .sc _, .sc _, .sc _], rfl, ⟨rfl, rfl, rfl, rfl, rfl, rfl, rfl, trivial⟩⟩, ⟨[.sc _, .sc _, .sc _, .sc _, .sc _, .sc _, .sc _], rfl, ⟨rfl, rfl, rfl, rfl, rfl, rfl, rfl, trivial⟩⟩, trivial⟩ rfl (Nat.le_of_ble_eq_true rfl)) rfl (Nat.le_of_ble_eq_true rfl) (Nat.le_of_ble_eq_true rfl) (.inl rfl) (fun j hj => by cases hj) ?_
  refine DW.q rfl (ok_move (v := V.one (.sc _)) (.inr rfl) rfl) rfl rfl (Nat.le_of_ble_eq_true rfl) (fun _ _ _ _ h => h) ?_
  refine DW.stores ?_
  refine SV.zend ?_
  refine SV.tn ?_
  refine SV.seq' ?_
  refine SV.draw [.q 0, .q 2, .m 1, .m 3, .m 4, .q 5] [] (by kernel_rfl) (by kernel_rfl) ?_
  refine DW.q rfl (ok_load_bp (b := 0) (i := 0) (ag := true) (m := 7) (ys := [.sc _, .sc _, .sc _, .sc _, .sc _, .sc _, .sc _]) rfl rfl rfl agg_laws_Pair sz_laws_Pair (fun h => by cases h) rfl rfl (Nat.le_of_ble_eq_true rfl)) rfl rfl (Nat.le_of_ble_eq_true rfl) (fun _ _ _ _ h => h) ?_
  refine DW.q rfl (ok_load_bp (b := 1) (i := 0) (ag := true) (m := 7) (ys := [.sc _, .sc _, .sc _, .sc _, .sc _, .sc _, .sc _]) rfl rfl rfl agg_laws_Pair sz_laws_Pair (fun h => by cases h) rfl rfl (Nat.le_of_ble_eq_true rfl)) rfl rfl (Nat.le_of_ble_eq_true rfl) (fun _ _ _ _ h => h) ?_
  refine DW.m [] rfl (ok_call (ls := [(true, [.sc _, .sc _, .sc _, .sc _, .sc _, .sc _, .sc _])]) rfl rfl ⟨_, _, Try.func23, rfl, by decide⟩ (vto_pair X0 (by omega)) ⟨⟨[.sc _, .sc _, .sc _, .sc _, .sc _, .sc _, .sc _], rfl, ⟨rfl, rfl, rfl, rfl, rfl, rfl, rfl, trivial⟩⟩, trivial⟩ rfl (Nat.le_of_ble_eq_true rfl)) rfl (Nat.le_of_ble_eq_true rfl) (Nat.le_of_ble_eq_true rfl) (.inl rfl) (fun j hj => by cases hj) ?_
  refine DW.m [] rfl (ok_call (ls := [(true, [.sc _, .sc _, .sc _, .sc _, .sc _, .sc _, .sc _])]) rfl rfl ⟨_, _, Try.func23, rfl, by decide⟩ (vto_pair X1 (by omega)) ⟨⟨[.sc _, .sc _, .sc _, .sc _, .sc _, .sc _, .sc _], rfl, ⟨rfl, rfl, rfl, rfl, rfl, rfl, rfl, trivial⟩⟩, trivial⟩ rfl (Nat.le_of_ble_eq_true rfl)) rfl (Nat.le_of_ble_eq_true rfl) (Nat.le_of_ble_eq_true rfl) (.inl rfl) (fun j hj => by cases hj) ?_
  refine DW.m [] rfl (ok_call (ls := [(false, [.sc _])]) rfl rfl ⟨_, _, Try.func24, rfl, by decide⟩ (hi) ⟨⟨[.sc _, .sc _, .sc _, .sc _, .sc _, .sc _, .sc _], rfl, ⟨rfl, rfl, rfl, rfl, rfl, rfl, rfl, trivial⟩⟩, ⟨[.sc _, .sc _, .sc _, .sc _, .sc _, .sc _, .sc _], rfl, ⟨rfl, rfl, rfl, rfl, rfl, rfl, rfl, trivial⟩⟩, trivial⟩ rfl (Nat.le_of_ble_eq_true rfl)) rfl (Nat.le_of_ble_eq_true rfl) (Nat.le_of_ble_eq_true rfl) (.inl rfl) (fun j hj => by cases hj) ?_
  refine DW.q rfl (ok_move (v := V.one (.sc _)) (.inr rfl) rfl) rfl rfl (Nat.le_of_ble_eq_true rfl) (fun _ _ _ _ h => h) ?_
  refine DW.stores ?_
  refine SV.zend ?_
  refine SV.tn ?_
  refine SV.seq' ?_
  refine SV.seq' ?_
  refine SV.region ?_
  refine SV.op (OpL.ok (nb := 2) (ok_move (v := V.one (.sc _)) (.inl rfl) rfl) rfl (Nat.le_of_ble_eq_true rfl)) rfl ?_
  refine SV.op (OpL.ok (nb := 2) (ok_move (v := V.one (.sc _)) (.inl rfl) rfl) rfl (Nat.le_of_ble_eq_true rfl)) rfl ?_
  refine SV.op (OpL.ok (nb := 2) (ok_s2 (x := .tmp 17) (x' := .tmp 18) (VScal.one rfl) (VScal.one rfl) (fun ρ h1 h2 w => by go_simp; (try go_bits); with_reducible rfl) rfl) rfl (Nat.le_of_ble_eq_true rfl)) rfl ?_
  refine SV.nil ?_
  refine SV.tn ?_
  refine SV.cond rfl (fun hc0 => ?_) (fun hc0 => ?_)
  · skip   -- c0.T
    (exfalso; first | (simp at hc0; done) | (simp at hc0; omega))
  · skip   -- c0.F
    refine SV.skip ?_
    refine SV.tn ?_
    refine SV.seq' ?_
    refine SV.region ?_
    refine SV.op (OpL.ok (nb := 2) (ok_move (v := V.one (.sc _)) (.inr rfl) rfl) rfl (Nat.le_of_ble_eq_true rfl)) rfl ?_
    refine SV.nil ?_
    refine SV.tn ?_
    refine SV.ret ?_
    apply SV.done (hf := Try.results6) (ht := rfl) (he := .inl rfl)
    case hr => exact (ResAll.cons (ResOk.tmp (ag := false) (xs := [.sc _]) rfl) ResAll.nil')
    case h2 => simp [two]
    refine ⟨rfl, ⟨?_, trivial⟩, trivial⟩ <;> rfl
theorem walk (v0 : Value) (X0 : PairD) (w : World) (o0 : okPair X0) (g0 : ArgT w true (uPair X0) v0) (v1 : Value) (X1 : PairD) (o1 : okPair X1) (g1 : ArgT w true (uPair X1) v1) : Calls Try.prog 6 #[v0, v1] w fun e w' => e = .returned (.bool true) ∧ Below w.heap.size w w' :=
  VC.law (vlaw X0 X1 (PairD.cmp X0 X1) (vpcmp_s X0 X1) (vpcmp_i X0 X1) ) (argsIn_cons g0 (argsIn_cons g1 argsIn_nil))

/-! ### The row's step -/
theorem own : ownKnob Try.prog.godebug = none := by kernel_rfl
theorem laidOut : laidOutB Try.prog = true := by kernel_rfl
set_option maxRecDepth 100000 in
theorem lifted (os : Os) (started : os.Started) (H : Type) (enc : TypeId × Value → H) :
    ReturnsInHanded {} Try.checked os 6 .any (Rows.fnExactComparePairsSpec.pre6 enc Try.prog Try.f6 Rows.fnExactComparePairsRow.domain false) (Rows.fnExactComparePairsSpec.post enc Try.prog Try.f6 false true false false) := by
  refine returnsInHanded_of_change (C := Try.checked) own started (by kernel_rfl) Try.func6
    (ChangeSpec.witness6 (enc := enc) (C := Try.checked) false ⟨#[], #[.agg #[.int .i64 0, .int .i64 0, .int .i64 0, .int .i64 0, .int .i64 0, .int .i64 0, .bool false], .agg #[.int .i64 0, .int .i64 0, .int .i64 0, .int .i64 0, .int .i64 0, .int .i64 0, .bool false]], []⟩ 8 (by kernel_rfl) (by kernel_rfl) (by kernel_rfl) (by kernel_rfl)) ?_
  intro W base args ds gs before hval0 hW hcnd hsz
  have hval : ∀ (j : Nat) t v, Try.f6.params[j]? = some t → args[j]? = some v → Value.okWide Try.prog W .any base t v := hval0
  have hW' := hW
  obtain ⟨p, q, hA0, hV, rfl, hfz, hnd⟩ := hW
  have hA : DataW.TrodAll enc Try.prog W 0 (fun _ => true) true Try.f6.params.toList args.toList ds p := hA0
  rw [Try.params6] at hA hval
  obtain ⟨v0, vs0, d0, ds0, p0, q0, hargs, rfl, rfl, h0, r0⟩ := trodAll_cons hA
  obtain ⟨v1, vs1, d1, ds1, p1, q1, rfl, rfl, rfl, h1, r1⟩ := trodAll_cons r0
  obtain ⟨rfl, rfl, rfl⟩ := trodAll_nil r1
  obtain rfl : args = #[v0, v1] := by cases args; simp_all
  obtain ⟨rfl, rfl⟩ := trodVars_none hV
  have k0 := h0
  have lt0 : ∀ x ∈ p0, x.block < W.heap.size := by obtain ⟨m, hm⟩ := k0; exact DataW.trod_lt m _ _ _ hm
  obtain ⟨L0, o0, g0⟩ := OpensT.pair.val Try.underlying44 (by kernel_rfl) (hval 0 44 v0 rfl rfl) h0
  have k1 := h1
  have lt1 : ∀ x ∈ p1, x.block < W.heap.size := by obtain ⟨m, hm⟩ := k1; exact DataW.trod_lt m _ _ _ hm
  obtain ⟨L1, o1, g1⟩ := OpensT.pair.val Try.underlying44 (by kernel_rfl) (hval 1 44 v1 rfl rfl) h1
  clear hA0 hval0
  refine (walk v0 L0 W o0 g0 v1 L1 o1 g1).mono fun e W' ⟨he, bel⟩ => ?_
  subst he
  exact ⟨_, rfl, _, _, _, [], _, [], hW', trodAll_mk1 (shut_bool Try.underlying4 _), (trodAll_cons_mk (Below.trod laidOut (by kernel_rfl) (of_decide_eq_true (by kernel_rfl)) k0 bel lt0) (trodAll_cons_mk (Below.trod laidOut (by kernel_rfl) (of_decide_eq_true (by kernel_rfl)) k1 bel lt1) trodAll_mk0)), rfl, bel.frame _, fun h => by cases h⟩
theorem over : Rows.fnExactComparePairsRow.holds Try.pinned (OpenSpec.ofChange Rows.fnExactComparePairsSpec) :=
  OpenClaim.holds_of_wide 6 Try.f6 rfl rfl rfl rfl rfl rfl rfl ⟨rfl, rfl, rfl, rfl, rfl⟩ rfl rfl rfl rfl rfl (by kernel_rfl) Try.func6 (by kernel_rfl)
    (of_decide_eq_true (by kernel_rfl)) (by unfold Func.isWrapper; first | (rw [if_pos (by decide +kernel)]; kernel_rfl) | (rw [if_neg (by decide +kernel)]; exact ⟨rfl, rfl⟩))
    (fun os started H enc _ => lifted os started H enc)
/-- The statement. -/
theorem proved : Rows.FnExactComparePairsSaid := over
#print axioms proved
end Go.Proofs.Ytlnjgoommpeioaa.FnExactComparePairs
