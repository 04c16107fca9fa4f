/- Proved: for every sorter the law FnExactIsValidSorter returns true: the program's IsValidSorter answers as the reference's, leaves its arguments alone (the law itself answers true above 2^20). No condition. -/
import Derived.Test.YtpnbnbhifpcelaaPartBg
import Derived.Test.YtpnbnbhifpcelaaRows
import Derived.ProofKit
import Derived.OpenShut
import Derived.ShutString
import Derived.ChangeOld
set_option linter.unusedSimpArgs false
set_option linter.unusedVariables false
namespace Go.Proofs.Ytpnbnbhifpcelaa.FnExactIsValidSorter
open Go Go.ChangeShapes Go.WideShapes Go.ChangeAt Go.RowKit
open V hiding T
open Go.ChangeMaps (open_string shut_string)
set_option linter.unusedVariables false
set_option maxRecDepth 100000 in
set_option maxHeartbeats 2000000 in
theorem vlaw (X0 : SorterD) (Y0 : Bool) (hs : wtSorter X0 ≤ 1048576 → VC Try.prog 27 [(true, tSorter (X0))] false [(false, [.lit (.bool (Y0))])]) (hi : wtSorter X0 ≤ 1048576 → VC Try.prog 28 [(true, tSorter (X0))] false [(false, [.lit (.bool (Y0))])]) : VC Try.prog 5 [(true, uSorter (X0))] false [(false, [.lit (.bool true)])] := by
  refine VC.enter Try.func5 rfl Try.ntmps5 (gle rfl) fun E hE => ?_
  have hC_X0_0 := cnt_rows X0.fInput
  have hC_X0_1 := cnt_rows X0.fHeap
  have hC_X0_2 := cnt_rows X0.fDeferred
  have hC_X0_3 := cnt_rows X0.fOutput
  have hC_X0_4 := cnt_runs X0.fRuns
  have hWv_X0 : wtSorter X0 = wtRows X0.fInput + wtRows X0.fHeap + wtRows X0.fDeferred + wtRows X0.fOutput + wtRuns X0.fRuns := rfl
  refine SV.seq' ?_
  refine SV.region ?_
  refine SV.op (OpMk.ok (ok_box (kk := 0) (ag := true) (xs := [.ro _, .sc _, .ro _, .ro _, .ro _, .ro _, .sc _, .sc _, .sc _, .sc _]) rfl rfl rfl (fun h => by cases h) rfl rfl (gle rfl))) rfl ?_
  refine SV.op (OpL.ok (nb := 1) (ok_move (v := V.one (.sc _)) (.inr rfl) rfl) rfl (gle rfl)) rfl ?_
  refine SV.nil ?_
  refine SV.tn ?_
  refine SV.seq' ?_
  refine SV.region ?_
  refine SV.op (OpL.ok (nb := 1) (ok_move (v := V.one (.sc _)) (.inr rfl) rfl) rfl (gle rfl)) rfl ?_
  refine SV.nil ?_
  refine SV.tn ?_
  refine SV.seq' ?_
  refine SV.region ?_
  refine SV.op (OpL.ok (nb := 1) (ok_load_bp (b := 0) (i := 0) (ag := true) (m := 10) (ys := [.ro _, .sc _, .ro _, .ro _, .ro _, .ro _, .sc _, .sc _, .sc _, .sc _]) rfl rfl rfl agg_laws_Sorter sz_laws_Sorter (fun h => by cases h) rfl rfl (gle rfl)) rfl (gle rfl)) rfl ?_
  refine SV.op (OpL.ok (nb := 1) (ok_move (v := V.one (.sc _)) (.inl rfl) rfl) rfl (gle rfl)) rfl ?_
  refine SV.op (OpMk.ok (ok_call (ls := [(false, [.sc _])]) rfl rfl ⟨_, _, Try.func23, rfl, by decide⟩ (vsz_sorter X0 (1048576) (by omega) (by omega)) ⟨⟨[.ro _, .sc _, .ro _, .ro _, .ro _, .ro _, .sc _, .sc _, .sc _, .sc _], rfl, ⟨rfl, rfl, rfl, rfl, rfl, rfl, rfl, rfl, rfl, rfl, trivial⟩⟩, ⟨[.sc _], rfl, ⟨rfl, trivial⟩⟩, trivial⟩ rfl (gle rfl))) rfl ?_
  refine SV.op (OpL.ok (nb := 1) (ok_move (v := V.one (.sc _)) (.inr rfl) rfl) rfl (gle rfl)) rfl ?_
  refine SV.nil ?_
  refine SV.tn ?_
  refine SV.seq' ?_
  refine SV.seq' ?_
  refine SV.region ?_
  refine SV.op (OpL.ok (nb := 1) (ok_move (v := V.one (.sc _)) (.inl rfl) rfl) rfl (gle rfl)) rfl ?_
  refine SV.op (OpL.ok (nb := 1) (ok_s2 (x := .tmp 10) (x' := .const ((Value.int IntKind.i64 0))) (VScal.one rfl) (VScal.one rfl) (fun ρ h1 h2 w => by go_simp; (try go_bits); with_reducible rfl) rfl) rfl (gle rfl)) rfl ?_
  refine SV.nil ?_
  refine SV.tn ?_
  refine SV.cond rfl (fun hc0 => ?_) (fun hc0 => ?_)
  · skip   -- c0.T
    have hs0 := sz_stop rfl (show szR (1048576) (wtSorter X0) < 0 by first | simpa using hc0 | simpa [szR] using hc0 | exact of_decide_eq_true hc0)
    refine SV.seq' ?_
    refine SV.region ?_
    refine SV.op (OpL.ok (nb := 1) (ok_move (v := V.one (.sc _)) (.inr rfl) rfl) rfl (gle rfl)) rfl ?_
    refine SV.nil ?_
    refine SV.tn ?_
    refine SV.ret ?_
    refine SV.tr ?_
    apply SV.done (hf := Try.results5) (ht := rfl) (he := .inl rfl)
    case hr => exact (ResAll.cons (ResOk.tmp (ag := false) (xs := [.sc _]) rfl) ResAll.nil')
    case h2 => simp [two]
    refine ⟨rfl, ⟨?_, trivial⟩, trivial⟩ <;> rfl
  · skip   -- c0.F
    have hs0 := sz_step rfl (show 0 ≤ szR (1048576) (wtSorter X0) by first | simpa using hc0 | simpa [szR] using hc0 | exact Int.not_lt.1 (of_decide_eq_false hc0))
    refine SV.skip ?_
    refine SV.tn ?_
    refine SV.seq' ?_
    refine SV.region ?_
    refine SV.op (OpL.ok (nb := 1) (ok_load_bp (b := 0) (i := 0) (ag := true) (m := 10) (ys := [.ro _, .sc _, .ro _, .ro _, .ro _, .ro _, .sc _, .sc _, .sc _, .sc _]) rfl rfl rfl agg_laws_Sorter sz_laws_Sorter (fun h => by cases h) rfl rfl (gle rfl)) rfl (gle rfl)) rfl ?_
    refine SV.op (OpMk.ok (ok_call (ls := [(true, [.hd 0, .sc _, .hd 1, .hd 2, .hd 3, .hd 4, .sc _, .sc _, .sc _, .sc _])]) rfl rfl ⟨_, _, Try.func25, rfl, by decide⟩ (vto_sorter X0 (by omega)) ⟨⟨[.ro _, .sc _, .ro _, .ro _, .ro _, .ro _, .sc _, .sc _, .sc _, .sc _], rfl, ⟨rfl, rfl, rfl, rfl, rfl, rfl, rfl, rfl, rfl, rfl, trivial⟩⟩, trivial⟩ rfl (gle rfl))) rfl ?_
    refine SV.op (OpMk.ok (ok_call (ls := [(false, [.sc _])]) rfl rfl ⟨_, _, Try.func27, rfl, by decide⟩ (hs (by omega)) ⟨⟨[.hd 0, .sc _, .hd 1, .hd 2, .hd 3, .hd 4, .sc _, .sc _, .sc _, .sc _], rfl, ⟨rfl, rfl, rfl, rfl, rfl, rfl, rfl, rfl, rfl, rfl, trivial⟩⟩, trivial⟩ rfl (gle rfl))) rfl ?_
    refine SV.op (OpL.ok (nb := 1) (ok_move (v := V.one (.sc _)) (.inr rfl) rfl) rfl (gle rfl)) rfl ?_
    refine SV.nil ?_
    refine SV.tn ?_
    refine SV.seq' ?_
    refine SV.region ?_
    refine SV.op (OpL.ok (nb := 1) (ok_load_bp (b := 0) (i := 0) (ag := true) (m := 10) (ys := [.ro _, .sc _, .ro _, .ro _, .ro _, .ro _, .sc _, .sc _, .sc _, .sc _]) rfl rfl rfl agg_laws_Sorter sz_laws_Sorter (fun h => by cases h) rfl rfl (gle rfl)) rfl (gle rfl)) rfl ?_
    refine SV.op (OpMk.ok (ok_call (ls := [(true, [.hd 5, .sc _, .hd 6, .hd 7, .hd 8, .hd 9, .sc _, .sc _, .sc _, .sc _])]) rfl rfl ⟨_, _, Try.func25, rfl, by decide⟩ (vto_sorter X0 (by omega)) ⟨⟨[.ro _, .sc _, .ro _, .ro _, .ro _, .ro _, .sc _, .sc _, .sc _, .sc _], rfl, ⟨rfl, rfl, rfl, rfl, rfl, rfl, rfl, rfl, rfl, rfl, trivial⟩⟩, trivial⟩ rfl (gle rfl))) rfl ?_
    refine SV.op (OpMk.ok (ok_alloc (kk := 1) (xs := [.nl _, .sc _, .nl _, .nl _, .nl _, .nl _, .sc _, .sc _, .sc _, .sc _]) rfl rfl zero_impl_Sorter ⟨rfl, ⟨3, by decide, sz_impl_Row⟩, rfl, rfl, rfl, ⟨3, by decide, sz_impl_Row⟩, rfl, ⟨3, by decide, sz_impl_Row⟩, rfl, ⟨3, by decide, sz_impl_Row⟩, rfl, ⟨1, by decide, sz_impl_Run⟩, rfl, rfl, rfl, rfl, rfl, rfl, rfl, rfl, trivial⟩ rfl (gle rfl))) rfl ?_
    refine SV.op (ok_store_bp (b := 1) (i := 0) (m := 10) (ag := true) (zs := [.hd 5, .sc _, .hd 6, .hd 7, .hd 8, .hd 9, .sc _, .sc _, .sc _, .sc _]) (ys := [.hd 5, .sc _, .hd 6, .hd 7, .hd 8, .hd 9, .sc _, .sc _, .sc _, .sc _]) rfl rfl rfl rfl sz_impl_Sorter (fun h => by cases h) rfl (gle rfl) rfl rfl rfl) rfl ?_
    refine SV.nil ?_
    refine SV.tn ?_
    refine SV.seq' ?_
    refine SV.region ?_
    refine SV.op (OpL.ok (nb := 2) (ok_load_bp (b := 1) (i := 0) (ag := true) (m := 10) (ys := [.hd 5, .sc _, .hd 6, .hd 7, .hd 8, .hd 9, .sc _, .sc _, .sc _, .sc _]) rfl rfl rfl agg_impl_Sorter sz_impl_Sorter (fun h => by cases h) rfl rfl (gle rfl)) rfl (gle rfl)) rfl ?_
    refine SV.op (OpMk.ok (ok_call (ls := [(false, [.sc _])]) rfl rfl ⟨_, _, Try.func28, rfl, by decide⟩ (hi (by omega)) ⟨⟨[.hd 5, .sc _, .hd 6, .hd 7, .hd 8, .hd 9, .sc _, .sc _, .sc _, .sc _], rfl, ⟨rfl, rfl, rfl, rfl, rfl, rfl, rfl, rfl, rfl, rfl, trivial⟩⟩, trivial⟩ rfl (gle rfl))) rfl ?_
    refine SV.op (OpL.ok (nb := 2) (ok_move (v := V.one (.sc _)) (.inr rfl) rfl) rfl (gle rfl)) rfl ?_
    refine SV.nil ?_
    refine SV.tn ?_
    refine SV.seq' ?_
    refine SV.seq' ?_
    refine SV.region ?_
    refine SV.op (OpL.ok (nb := 2) (ok_move (v := V.one (.sc _)) (.inl rfl) rfl) rfl (gle rfl)) rfl ?_
    refine SV.op (OpL.ok (nb := 2) (ok_move (v := V.one (.sc _)) (.inl rfl) rfl) rfl (gle rfl)) rfl ?_
    refine SV.op (OpL.ok (nb := 2) (ok_s2 (x := .tmp 19) (x' := .tmp 20) (VScal.one rfl) (VScal.one rfl) (fun ρ h1 h2 w => by go_simp; (try go_bits); with_reducible rfl) rfl) rfl (gle rfl)) rfl ?_
    refine SV.nil ?_
    refine SV.tn ?_
    refine SV.cond rfl (fun hc1 => ?_) (fun hc1 => ?_)
    · skip   -- c1.T
      (exfalso; first | (simp at hc1; done) | (simp at hc1; omega))
    · skip   -- c1.F
      refine SV.skip ?_
      refine SV.tn ?_
      refine SV.seq' ?_
      refine SV.seq' ?_
      refine SV.draw [.q 0, .q 1, .m 2, .m 3, .q 4] [] (by kernel_rfl) (by kernel_rfl) ?_
      refine DW.q rfl (ok_load_bp (b := 1) (i := 0) (ag := true) (m := 10) (ys := [.hd 5, .sc _, .hd 6, .hd 7, .hd 8, .hd 9, .sc _, .sc _, .sc _, .sc _]) rfl rfl rfl agg_impl_Sorter sz_impl_Sorter (fun h => by cases h) rfl rfl (gle rfl)) rfl rfl (gle rfl) (fun _ _ _ _ h => h) ?_
      refine DW.q rfl (ok_load_bp (b := 0) (i := 0) (ag := true) (m := 10) (ys := [.ro _, .sc _, .ro _, .ro _, .ro _, .ro _, .sc _, .sc _, .sc _, .sc _]) rfl rfl rfl agg_laws_Sorter sz_laws_Sorter (fun h => by cases h) rfl rfl (gle rfl)) rfl rfl (gle rfl) (fun _ _ _ _ h => h) ?_
      refine DW.m [10, 11, 12, 13, 14] rfl (ok_call (ls := [(true, [.hd 10, .sc _, .hd 11, .hd 12, .hd 13, .hd 14, .sc _, .sc _, .sc _, .sc _])]) rfl rfl ⟨_, _, Try.func25, rfl, by decide⟩ (vto_sorter X0 (by omega)) ⟨⟨[.ro _, .sc _, .ro _, .ro _, .ro _, .ro _, .sc _, .sc _, .sc _, .sc _], rfl, ⟨rfl, rfl, rfl, rfl, rfl, rfl, rfl, rfl, rfl, rfl, trivial⟩⟩, trivial⟩ rfl (gle rfl)) rfl (gle rfl) (gle rfl) (.inl rfl) (fun j hj => by
          simp only [List.mem_cons, List.not_mem_nil, or_false] at hj
          rcases hj with rfl | rfl | rfl | rfl | rfl
          · exact .inr ⟨(gle rfl), (gle rfl), .inl rfl⟩
          · exact .inr ⟨(gle rfl), (gle rfl), .inl rfl⟩
          · exact .inr ⟨(gle rfl), (gle rfl), .inl rfl⟩
          · exact .inr ⟨(gle rfl), (gle rfl), .inl rfl⟩
          · exact .inr ⟨(gle rfl), (gle rfl), .inl rfl⟩) ?_
      refine DW.m [10, 11, 12, 13, 14] rfl (ok_call (ls := [(false, [.sc _])]) rfl rfl ⟨_, _, Try.func18, rfl, by decide⟩ (veq_sorter X0 (by omega)) ⟨⟨[.hd 5, .sc _, .hd 6, .hd 7, .hd 8, .hd 9, .sc _, .sc _, .sc _, .sc _], rfl, ⟨rfl, rfl, rfl, rfl, rfl, rfl, rfl, rfl, rfl, rfl, trivial⟩⟩, ⟨[.hd 10, .sc _, .hd 11, .hd 12, .hd 13, .hd 14, .sc _, .sc _, .sc _, .sc _], rfl, ⟨rfl, rfl, rfl, rfl, rfl, rfl, rfl, rfl, rfl, rfl, trivial⟩⟩, trivial⟩ rfl (gle rfl)) rfl (gle rfl) (gle rfl) (.inl rfl) (fun j hj => by
          simp only [List.mem_cons, List.not_mem_nil, or_false] at hj
          rcases hj with rfl | rfl | rfl | rfl | rfl
          · exact .inl (by decide)
          · exact .inl (by decide)
          · exact .inl (by decide)
          · exact .inl (by decide)
          · exact .inl (by decide)) ?_
      refine DW.q rfl (ok_s1 (x := .tmp 25) (VScal.one rfl) (fun ρ h1 w => by go_simp; (try go_bits); with_reducible rfl) rfl) rfl rfl (gle rfl) (fun _ _ _ _ h => h) ?_
      refine DW.stores ?_
      refine SV.zend ?_
      refine SV.tn ?_
      refine SV.cond rfl (fun hc2 => ?_) (fun hc2 => ?_)
      · skip   -- c2.T
        (exfalso; first | (simp at hc2; done) | (simp at hc2; omega))
      · skip   -- c2.F
        refine SV.skip ?_
        refine SV.tn ?_
        refine SV.seq' ?_
        refine SV.region ?_
        refine SV.op (OpL.ok (nb := 2) (ok_move (v := V.one (.sc _)) (.inr rfl) rfl) rfl (gle rfl)) rfl ?_
        refine SV.nil ?_
        refine SV.tn ?_
        refine SV.ret ?_
        apply SV.done (hf := Try.results5) (ht := rfl) (he := .inl rfl)
        case hr => exact (ResAll.cons (ResOk.tmp (ag := false) (xs := [.sc _]) rfl) ResAll.nil')
        case h2 => simp [two]
        refine ⟨rfl, ⟨?_, trivial⟩, trivial⟩ <;> rfl
theorem walk (v0 : Value) (X0 : SorterD) (w : World) (o0 : okSorter X0) (g0 : ArgT w true (uSorter X0) v0) : Calls Try.prog 5 #[v0] w fun e w' => e = .returned (.bool true) ∧ Below w.heap.size w w' :=
  VC.law (vlaw X0 (SorterD.ok X0) (fun hw => vokS_s X0 (SorterD.Wf.of o0 (by omega))) (fun hw => vokS_i X0 (SorterD.Wf.of o0 (by omega))) ) (argsIn_cons g0 argsIn_nil)
/-! ### The row's step -/
theorem own : ownKnob Try.prog.godebug = none := by kernel_rfl
theorem laidOut : laidOutB Try.prog = true := by kernel_rfl
set_option maxRecDepth 100000 in
theorem lifted (os : Os) (started : os.Started) (H : Type) (enc : TypeId × Value → H) :
    ReturnsInHanded {} Try.checked os 5 .any (Rows.fnExactIsValidSorterSpec.pre6 enc Try.prog Try.f5 Rows.fnExactIsValidSorterRow.domain false) (Rows.fnExactIsValidSorterSpec.post enc Try.prog Try.f5 false true false false) := by
  refine returnsInHanded_of_change (C := Try.checked) own started (by kernel_rfl) Try.func5
    (ChangeSpec.witness6 (enc := enc) (C := Try.checked) false ⟨#[], #[.agg #[.slice none 0 0, .int .i64 0, .slice none 0 0, .slice none 0 0, .slice none 0 0, .slice none 0 0, .int .i64 0, .int .i64 0, .int .i64 0, .int .i64 0]], []⟩ 8 (by kernel_rfl) (by kernel_rfl) (by kernel_rfl) (by kernel_rfl)) ?_
  intro W base args ds gs before hval0 hW hcnd hsz
  have hval : ∀ (j : Nat) t v, Try.f5.params[j]? = some t → args[j]? = some v → Value.okWide Try.prog W .any base t v := hval0
  have hW' := hW
  obtain ⟨p, q, hA0, hV, rfl, hfz, hnd⟩ := hW
  have hA : DataW.TrodAll enc Try.prog W 0 (fun _ => true) true Try.f5.params.toList args.toList ds p := hA0
  rw [Try.params5] at hA hval
  obtain ⟨v0, vs0, d0, ds0, p0, q0, hargs, rfl, rfl, h0, r0⟩ := trodAll_cons hA
  obtain ⟨rfl, rfl, rfl⟩ := trodAll_nil r0
  obtain rfl : args = #[v0] := by cases args; simp_all
  obtain ⟨rfl, rfl⟩ := trodVars_none hV
  have k0 := h0
  have lt0 : ∀ x ∈ p0, x.block < W.heap.size := by obtain ⟨m, hm⟩ := k0; exact DataW.trod_lt m _ _ _ hm
  obtain ⟨L0, o0, g0⟩ := OpensT.sorter.val Try.underlying38 (by kernel_rfl) (hval 0 38 v0 rfl rfl) h0
  clear hA0 hval0
  refine (walk v0 L0 W o0 g0).mono fun e W' ⟨he, bel⟩ => ?_
  subst he
  exact ⟨_, rfl, _, _, _, [], _, [], hW', trodAll_mk1 (shut_bool Try.underlying4 _), (trodAll_cons_mk (Below.trod laidOut (by kernel_rfl) (of_decide_eq_true (by kernel_rfl)) k0 bel lt0) trodAll_mk0), rfl, bel.frame _, fun h => by cases h⟩
theorem over : Rows.fnExactIsValidSorterRow.holds Try.pinned (OpenSpec.ofChange Rows.fnExactIsValidSorterSpec) :=
  OpenClaim.holds_of_wide 5 Try.f5 rfl rfl rfl rfl rfl rfl rfl ⟨rfl, rfl, rfl, rfl, rfl⟩ rfl rfl rfl rfl rfl (by kernel_rfl) Try.func5 (by kernel_rfl)
    (of_decide_eq_true (by kernel_rfl)) (by unfold Func.isWrapper; first | (rw [if_pos (by decide +kernel)]; kernel_rfl) | (rw [if_neg (by decide +kernel)]; exact ⟨rfl, rfl⟩))
    (fun os started H enc _ => lifted os started H enc)
theorem proved : Rows.FnExactIsValidSorterSaid := over
#print axioms proved
end Go.Proofs.Ytpnbnbhifpcelaa.FnExactIsValidSorter
