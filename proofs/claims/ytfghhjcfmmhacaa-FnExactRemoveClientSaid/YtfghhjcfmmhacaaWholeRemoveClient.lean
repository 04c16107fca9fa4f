/- Proved: for every broker and number the law FnExactRemoveClient returns true: the program's RemoveClient answers as the reference's, leaves its arguments alone, and answers in memory of its own that a later call does not touch (the law itself answers true above 2^20). No condition. -/
import Derived.Test.YtfghhjcfmmhacaaPartEg
import Derived.Test.YtfghhjcfmmhacaaRows
import Derived.ProofKit
import Derived.OpenShut
import Derived.ShutString
import Derived.ChangeOld
set_option linter.unusedSimpArgs false
set_option linter.unusedVariables false
namespace Go.Proofs.Ytfghhjcfmmhacaa.FnExactRemoveClient
open Go Go.ChangeShapes Go.WideShapes Go.ChangeAt Go.RowKit
open V hiding T
open Go.ChangeMaps (open_string shut_string)
set_option linter.unusedVariables false
set_option maxRecDepth 100000 in
set_option maxHeartbeats 2000000 in
theorem vlaw (X0 : BrokerD) (a1 : Int) (Y0 : BrokerD) (Y1 : Bool) (hs : wtBroker X0 ≤ 1048576 → VC Try.prog 28 [(true, tBroker (X0)), (false, [.lit (.int .i64 (a1))])] true [(true, tBroker (Y0)), (false, [.lit (.bool (Y1))])]) (hi : wtBroker X0 ≤ 1048576 → VC Try.prog 27 [(true, tBroker (X0)), (false, [.lit (.int .i64 (a1))])] true [(true, tBroker (Y0)), (false, [.lit (.bool (Y1))])]) (hY0 : wtBroker X0 ≤ 1048576 → wtBroker Y0 ≤ 300000000000) : VC Try.prog 9 [(true, uBroker (X0)), (false, [.lit (.int .i64 (a1))])] false [(false, [.lit (.bool true)])] := by
  refine VC.enter Try.func9 rfl Try.ntmps9 (gle rfl) fun E hE => ?_
  have hC_X0_0 := cnt_clients X0.fActive
  have hC_X0_1 := cnt_clients X0.fWaiting
  have hWv_X0 : wtBroker X0 = wtClients X0.fActive + wtClients X0.fWaiting := rfl
  have hC_Y0_0 := cnt_clients Y0.fActive
  have hC_Y0_1 := cnt_clients Y0.fWaiting
  have hWv_Y0 : wtBroker Y0 = wtClients Y0.fActive + wtClients Y0.fWaiting := rfl
  refine SV.seq' ?_
  refine SV.region ?_
  refine SV.op (OpMk.ok (ok_box (kk := 0) (ag := true) (xs := [.sc _, .sc _, .ro _, .ro _]) rfl rfl rfl (fun h => by cases h) rfl rfl (gle rfl))) rfl ?_
  refine SV.op (OpL.ok (nb := 1) (ok_move (v := V.one (.sc _)) (.inr rfl) rfl) rfl (gle rfl)) rfl ?_
  refine SV.nil ?_
  refine SV.tn ?_
  refine SV.seq' ?_
  refine SV.region ?_
  refine SV.op (OpL.ok (nb := 1) (ok_move (v := V.one (.sc _)) (.inr rfl) rfl) rfl (gle rfl)) rfl ?_
  refine SV.nil ?_
  refine SV.tn ?_
  refine SV.seq' ?_
  refine SV.region ?_
  refine SV.op (OpL.ok (nb := 1) (ok_load_bp (b := 0) (i := 0) (ag := true) (m := 4) (ys := [.sc _, .sc _, .ro _, .ro _]) rfl rfl rfl agg_laws_Broker sz_laws_Broker (fun h => by cases h) rfl rfl (gle rfl)) rfl (gle rfl)) rfl ?_
  refine SV.op (OpL.ok (nb := 1) (ok_move (v := V.one (.sc _)) (.inl rfl) rfl) rfl (gle rfl)) rfl ?_
  refine SV.op (OpMk.ok (ok_call (ls := [(false, [.sc _])]) rfl rfl ⟨_, _, Try.func43, rfl, by decide⟩ (vsz_broker X0 (1048576) (by omega) (by omega)) ⟨⟨[.sc _, .sc _, .ro _, .ro _], rfl, ⟨rfl, rfl, rfl, rfl, trivial⟩⟩, ⟨[.sc _], rfl, ⟨rfl, trivial⟩⟩, trivial⟩ rfl (gle rfl))) rfl ?_
  refine SV.op (OpL.ok (nb := 1) (ok_move (v := V.one (.sc _)) (.inr rfl) rfl) rfl (gle rfl)) rfl ?_
  refine SV.nil ?_
  refine SV.tn ?_
  refine SV.seq' ?_
  refine SV.seq' ?_
  refine SV.region ?_
  refine SV.op (OpL.ok (nb := 1) (ok_move (v := V.one (.sc _)) (.inl rfl) rfl) rfl (gle rfl)) rfl ?_
  refine SV.op (OpL.ok (nb := 1) (ok_s2 (x := .tmp 19) (x' := .const ((Value.int IntKind.i64 0))) (VScal.one rfl) (VScal.one rfl) (fun ρ h1 h2 w => by go_simp; (try go_bits); with_reducible rfl) rfl) rfl (gle rfl)) rfl ?_
  refine SV.nil ?_
  refine SV.tn ?_
  refine SV.cond rfl (fun hc0 => ?_) (fun hc0 => ?_)
  · skip   -- c0.T
    have hs0 := sz_stop rfl (show szR (1048576) (wtBroker X0) < 0 by first | simpa using hc0 | simpa [szR] using hc0 | exact of_decide_eq_true hc0)
    refine SV.seq' ?_
    refine SV.region ?_
    refine SV.op (OpL.ok (nb := 1) (ok_move (v := V.one (.sc _)) (.inr rfl) rfl) rfl (gle rfl)) rfl ?_
    refine SV.nil ?_
    refine SV.tn ?_
    refine SV.ret ?_
    refine SV.tr ?_
    apply SV.done (hf := Try.results9) (ht := rfl) (he := .inl rfl)
    case hr => exact (ResAll.cons (ResOk.tmp (ag := false) (xs := [.sc _]) rfl) ResAll.nil')
    case h2 => simp [two]
    refine ⟨rfl, ⟨?_, trivial⟩, trivial⟩ <;> rfl
  · skip   -- c0.F
    have hs0 := sz_step rfl (show 0 ≤ szR (1048576) (wtBroker X0) by first | simpa using hc0 | simpa [szR] using hc0 | exact Int.not_lt.1 (of_decide_eq_false hc0))
    have hYw0 := hY0 (by omega)
    refine SV.skip ?_
    refine SV.tn ?_
    refine SV.seq' ?_
    refine SV.region ?_
    refine SV.op (OpL.ok (nb := 1) (ok_load_bp (b := 0) (i := 0) (ag := true) (m := 4) (ys := [.sc _, .sc _, .ro _, .ro _]) rfl rfl rfl agg_laws_Broker sz_laws_Broker (fun h => by cases h) rfl rfl (gle rfl)) rfl (gle rfl)) rfl ?_
    refine SV.op (OpMk.ok (ok_call (ls := [(true, [.sc _, .sc _, .hd 0, .hd 1])]) rfl rfl ⟨_, _, Try.func44, rfl, by decide⟩ (vto_broker X0 (by omega)) ⟨⟨[.sc _, .sc _, .ro _, .ro _], rfl, ⟨rfl, rfl, rfl, rfl, trivial⟩⟩, trivial⟩ rfl (gle rfl))) rfl ?_
    refine SV.op (OpL.ok (nb := 1) (ok_move (v := V.one (.sc _)) (.inl rfl) rfl) rfl (gle rfl)) rfl ?_
    refine SV.op (OpMk.ok (ok_call (ls := [(true, [.sc _, .sc _, .hd 2, .hd 3]), (false, [.sc _])]) rfl rfl ⟨_, _, Try.func28, rfl, by decide⟩ (hs (by omega)) ⟨⟨[.sc _, .sc _, .hd 0, .hd 1], rfl, ⟨rfl, rfl, rfl, rfl, trivial⟩⟩, ⟨[.sc _], rfl, ⟨rfl, trivial⟩⟩, trivial⟩ rfl (gle rfl))) rfl ?_
    refine SV.op (OpL.ok (nb := 1) (ok_move (v := ⟨true, [(true, [.sc _, .sc _, .hd 2, .hd 3]), (false, [.sc _])]⟩) (.inl rfl) rfl) rfl (gle rfl)) rfl ?_
    refine SV.op (OpL.ok (nb := 1) (ok_extract (ag := true) (xs := [.sc _, .sc _, .hd 2, .hd 3]) rfl rfl rfl) rfl (gle rfl)) rfl ?_
    refine SV.op (OpL.ok (nb := 1) (ok_extract (ag := false) (xs := [.sc _]) rfl rfl rfl) rfl (gle rfl)) rfl ?_
    refine SV.op (OpMk.ok (ok_alloc (kk := 1) (xs := [.sc _, .sc _, .nl _, .nl _]) rfl rfl zero_impl_Broker ⟨rfl, rfl, rfl, rfl, rfl, ⟨3, by decide, sz_impl_Client⟩, rfl, ⟨3, by decide, sz_impl_Client⟩, trivial⟩ rfl (gle rfl))) rfl ?_
    refine SV.op (ok_store_bp (b := 1) (i := 0) (m := 4) (ag := true) (zs := [.sc _, .sc _, .hd 2, .hd 3]) (ys := [.sc _, .sc _, .hd 2, .hd 3]) rfl rfl rfl rfl sz_impl_Broker (fun h => by cases h) rfl (gle rfl) rfl rfl rfl) rfl ?_
    refine SV.op (OpL.ok (nb := 2) (ok_move (v := V.one (.sc _)) (.inr rfl) rfl) rfl (gle rfl)) rfl ?_
    refine SV.nil ?_
    refine SV.tn ?_
    refine SV.seq' ?_
    refine SV.region ?_
    refine SV.op (OpL.ok (nb := 2) (ok_load_bp (b := 0) (i := 0) (ag := true) (m := 4) (ys := [.sc _, .sc _, .ro _, .ro _]) rfl rfl rfl agg_laws_Broker sz_laws_Broker (fun h => by cases h) rfl rfl (gle rfl)) rfl (gle rfl)) rfl ?_
    refine SV.op (OpMk.ok (ok_call (ls := [(true, [.sc _, .sc _, .hd 4, .hd 5])]) rfl rfl ⟨_, _, Try.func44, rfl, by decide⟩ (vto_broker X0 (by omega)) ⟨⟨[.sc _, .sc _, .ro _, .ro _], rfl, ⟨rfl, rfl, rfl, rfl, trivial⟩⟩, trivial⟩ rfl (gle rfl))) rfl ?_
    refine SV.op (OpMk.ok (ok_alloc (kk := 2) (xs := [.sc _, .sc _, .nl _, .nl _]) rfl rfl zero_impl_Broker ⟨rfl, rfl, rfl, rfl, rfl, ⟨3, by decide, sz_impl_Client⟩, rfl, ⟨3, by decide, sz_impl_Client⟩, trivial⟩ rfl (gle rfl))) rfl ?_
    refine SV.op (ok_store_bp (b := 2) (i := 0) (m := 4) (ag := true) (zs := [.sc _, .sc _, .hd 4, .hd 5]) (ys := [.sc _, .sc _, .hd 4, .hd 5]) rfl rfl rfl rfl sz_impl_Broker (fun h => by cases h) rfl (gle rfl) rfl rfl rfl) rfl ?_
    refine SV.nil ?_
    refine SV.tn ?_
    refine SV.seq' ?_
    refine SV.region ?_
    refine SV.op (OpL.ok (nb := 3) (ok_load_bp (b := 2) (i := 0) (ag := true) (m := 4) (ys := [.sc _, .sc _, .hd 4, .hd 5]) rfl rfl rfl agg_impl_Broker sz_impl_Broker (fun h => by cases h) rfl rfl (gle rfl)) rfl (gle rfl)) rfl ?_
    refine SV.op (OpL.ok (nb := 3) (ok_move (v := V.one (.sc _)) (.inl rfl) rfl) rfl (gle rfl)) rfl ?_
    refine SV.op (OpMk.ok (ok_call (ls := [(true, [.sc _, .sc _, .hd 6, .hd 7]), (false, [.sc _])]) rfl rfl ⟨_, _, Try.func27, rfl, by decide⟩ (hi (by omega)) ⟨⟨[.sc _, .sc _, .hd 4, .hd 5], rfl, ⟨rfl, rfl, rfl, rfl, trivial⟩⟩, ⟨[.sc _], rfl, ⟨rfl, trivial⟩⟩, trivial⟩ rfl (gle rfl))) rfl ?_
    refine SV.op (OpL.ok (nb := 3) (ok_move (v := ⟨true, [(true, [.sc _, .sc _, .hd 6, .hd 7]), (false, [.sc _])]⟩) (.inl rfl) rfl) rfl (gle rfl)) rfl ?_
    refine SV.op (OpL.ok (nb := 3) (ok_extract (ag := true) (xs := [.sc _, .sc _, .hd 6, .hd 7]) rfl rfl rfl) rfl (gle rfl)) rfl ?_
    refine SV.op (OpL.ok (nb := 3) (ok_extract (ag := false) (xs := [.sc _]) rfl rfl rfl) rfl (gle rfl)) rfl ?_
    refine SV.op (OpMk.ok (ok_alloc (kk := 3) (xs := [.sc _, .sc _, .nl _, .nl _]) rfl rfl zero_impl_Broker ⟨rfl, rfl, rfl, rfl, rfl, ⟨3, by decide, sz_impl_Client⟩, rfl, ⟨3, by decide, sz_impl_Client⟩, trivial⟩ rfl (gle rfl))) rfl ?_
    refine SV.op (ok_store_bp (b := 3) (i := 0) (m := 4) (ag := true) (zs := [.sc _, .sc _, .hd 6, .hd 7]) (ys := [.sc _, .sc _, .hd 6, .hd 7]) rfl rfl rfl rfl sz_impl_Broker (fun h => by cases h) rfl (gle rfl) rfl rfl rfl) rfl ?_
    refine SV.op (OpL.ok (nb := 4) (ok_move (v := V.one (.sc _)) (.inr rfl) rfl) rfl (gle rfl)) rfl ?_
    refine SV.nil ?_
    refine SV.tn ?_
    refine SV.seq' ?_
    refine SV.seq' ?_
    refine SV.region ?_
    refine SV.op (OpL.ok (nb := 4) (ok_load_bp (b := 3) (i := 0) (ag := true) (m := 4) (ys := [.sc _, .sc _, .hd 6, .hd 7]) rfl rfl rfl agg_impl_Broker sz_impl_Broker (fun h => by cases h) rfl rfl (gle rfl)) rfl (gle rfl)) rfl ?_
    refine SV.op (OpL.ok (nb := 4) (ok_load_bp (b := 1) (i := 0) (ag := true) (m := 4) (ys := [.sc _, .sc _, .hd 2, .hd 3]) rfl rfl rfl agg_impl_Broker sz_impl_Broker (fun h => by cases h) rfl rfl (gle rfl)) rfl (gle rfl)) rfl ?_
    refine SV.op (OpMk.ok (ok_call (ls := [(false, [.sc _])]) rfl rfl ⟨_, _, Try.func40, rfl, by decide⟩ (veq_broker Y0 (by omega)) ⟨⟨[.sc _, .sc _, .hd 6, .hd 7], rfl, ⟨rfl, rfl, rfl, rfl, trivial⟩⟩, ⟨[.sc _, .sc _, .hd 2, .hd 3], rfl, ⟨rfl, rfl, rfl, rfl, trivial⟩⟩, trivial⟩ rfl (gle rfl))) rfl ?_
    refine SV.op (OpL.ok (nb := 4) (ok_s1 (x := .tmp 38) (VScal.one rfl) (fun ρ h1 w => by go_simp; (try go_bits); with_reducible rfl) rfl) rfl (gle rfl)) rfl ?_
    refine SV.op (OpL.ok (nb := 4) (ok_move (v := V.one (.sc _)) (.inl rfl) rfl) rfl (gle rfl)) rfl ?_
    refine SV.split (d := 40) rfl (fun hg0 => ?_) (fun hg0 => ?_)
    · skip   -- g0.T
      (exfalso; first | (simp at hg0; done) | (simp at hg0; omega))
    · skip   -- g0.F
      refine SV.opY (OpL.ok (nb := 4) (ok_move (v := V.one (.sc _)) (.inl rfl) rfl) rfl (gle rfl)) rfl rfl rfl (gle rfl) rfl rfl ?_
      refine SV.opY (OpL.ok (nb := 4) (ok_move (v := V.one (.sc _)) (.inl rfl) rfl) rfl (gle rfl)) rfl rfl rfl (gle rfl) rfl rfl ?_
      refine SV.opY (OpL.ok (nb := 4) (ok_s2 (x := .tmp 41) (x' := .tmp 42) (VScal.one rfl) (VScal.one rfl) (fun ρ h1 h2 w => by go_simp; (try go_bits); with_reducible rfl) rfl) rfl (gle rfl)) rfl rfl rfl (gle rfl) rfl rfl ?_
      refine SV.op (OpL.ok (nb := 4) (ok_pickF (v := V.one (.sc _)) rfl rfl rfl) rfl (gle rfl)) rfl ?_
      refine SV.nil ?_
      refine SV.tn ?_
      refine SV.cond rfl (fun hc1 => ?_) (fun hc1 => ?_)
      · skip   -- c1.T
        (exfalso; first | (simp at hc1; done) | (simp at hc1; omega))
      · skip   -- c1.F
        refine SV.skip ?_
        refine SV.tn ?_
        refine SV.seq' ?_
        refine SV.seq' ?_
        refine SV.draw [.q 0, .q 1, .m 2, .m 3, .q 4] [] (by kernel_rfl) (by kernel_rfl) ?_
        refine DW.q rfl (ok_load_bp (b := 2) (i := 0) (ag := true) (m := 4) (ys := [.sc _, .sc _, .hd 4, .hd 5]) rfl rfl rfl agg_impl_Broker sz_impl_Broker (fun h => by cases h) rfl rfl (gle rfl)) rfl rfl (gle rfl) (fun _ _ _ _ h => h) ?_
        refine DW.q rfl (ok_load_bp (b := 0) (i := 0) (ag := true) (m := 4) (ys := [.sc _, .sc _, .ro _, .ro _]) rfl rfl rfl agg_laws_Broker sz_laws_Broker (fun h => by cases h) rfl rfl (gle rfl)) rfl rfl (gle rfl) (fun _ _ _ _ h => h) ?_
        refine DW.m [8, 9] rfl (ok_call (ls := [(true, [.sc _, .sc _, .hd 8, .hd 9])]) rfl rfl ⟨_, _, Try.func44, rfl, by decide⟩ (vto_broker X0 (by omega)) ⟨⟨[.sc _, .sc _, .ro _, .ro _], rfl, ⟨rfl, rfl, rfl, rfl, trivial⟩⟩, trivial⟩ rfl (gle rfl)) rfl (gle rfl) (gle rfl) (.inl rfl) (fun j hj => by
            simp only [List.mem_cons, List.not_mem_nil, or_false] at hj
            rcases hj with rfl | rfl
            · exact .inr ⟨(gle rfl), (gle rfl), .inl rfl⟩
            · exact .inr ⟨(gle rfl), (gle rfl), .inl rfl⟩) ?_
        refine DW.m [8, 9] rfl (ok_call (ls := [(false, [.sc _])]) rfl rfl ⟨_, _, Try.func40, rfl, by decide⟩ (veq_broker X0 (by omega)) ⟨⟨[.sc _, .sc _, .hd 4, .hd 5], rfl, ⟨rfl, rfl, rfl, rfl, trivial⟩⟩, ⟨[.sc _, .sc _, .hd 8, .hd 9], rfl, ⟨rfl, rfl, rfl, rfl, trivial⟩⟩, trivial⟩ rfl (gle rfl)) rfl (gle rfl) (gle rfl) (.inl rfl) (fun j hj => by
            simp only [List.mem_cons, List.not_mem_nil, or_false] at hj
            rcases hj with rfl | rfl
            · exact .inl (by decide)
            · exact .inl (by decide)) ?_
        refine DW.q rfl (ok_s1 (x := .tmp 48) (VScal.one rfl) (fun ρ h1 w => by go_simp; (try go_bits); with_reducible rfl) rfl) rfl rfl (gle rfl) (fun _ _ _ _ h => h) ?_
        refine DW.stores ?_
        refine SV.zend ?_
        refine SV.tn ?_
        refine SV.cond rfl (fun hc2 => ?_) (fun hc2 => ?_)
        · skip   -- c2.T
          (exfalso; first | (simp at hc2; done) | (simp at hc2; omega))
        · skip   -- c2.F
          refine SV.skip ?_
          refine SV.tn ?_
          refine SV.seq' ?_
          refine SV.region ?_
          refine SV.op (OpL.ok (nb := 4) (ok_move (v := V.one (.sc _)) (.inr rfl) rfl) rfl (gle rfl)) rfl ?_
          refine SV.nil ?_
          refine SV.tn ?_
          refine SV.seq' ?_
          refine SV.region ?_
          refine SV.op (OpL.ok (nb := 4) (ok_load_bp (b := 2) (i := 0) (ag := true) (m := 4) (ys := [.sc _, .sc _, .hd 4, .hd 5]) rfl rfl rfl agg_impl_Broker sz_impl_Broker (fun h => by cases h) rfl rfl (gle rfl)) rfl (gle rfl)) rfl ?_
          refine SV.op (OpL.ok (nb := 4) (ok_move (v := V.one (.sc _)) (.inl rfl) rfl) rfl (gle rfl)) rfl ?_
          refine SV.op (ok_callM (is := [4, 5]) rfl ⟨_, _, Try.func41, rfl, by decide⟩ (vmkv_broker X0 (1) (by omega) (by omega)) ⟨⟨[.sc _, .sc _, .hd 4, .hd 5], rfl, ⟨⟨_, rfl, rfl⟩, ⟨_, rfl, rfl⟩, rfl, rfl, trivial⟩⟩, ⟨[.sc _], rfl, ⟨⟨_, rfl, rfl⟩, trivial⟩⟩, trivial⟩ ⟨⟨⟨_, rfl⟩, _, _, rfl⟩, ⟨⟨_, rfl⟩, _, _, rfl⟩, trivial⟩ (by decide) rfl rfl (gle rfl)) rfl ?_
          refine SV.op (OpL.ok (nb := 4) (ok_move (v := V.one (.sc _)) (.inr rfl) rfl) rfl (gle rfl)) rfl ?_
          refine SV.nil ?_
          refine SV.tn ?_
          refine SV.seq' ?_
          refine SV.seq' ?_
          refine SV.region ?_
          refine SV.op (OpL.ok (nb := 4) (ok_move (v := V.one (.sc _)) (.inl rfl) rfl) rfl (gle rfl)) rfl ?_
          refine SV.op (OpL.ok (nb := 4) (ok_s2 (x := .tmp 53) (x' := .const ((Value.int IntKind.i64 0))) (VScal.one rfl) (VScal.one rfl) (fun ρ h1 h2 w => by go_simp; (try go_bits); with_reducible rfl) rfl) rfl (gle rfl)) rfl ?_
          refine SV.op (OpL.ok (nb := 4) (ok_move (v := V.one (.sc _)) (.inl rfl) rfl) rfl (gle rfl)) rfl ?_
          refine SV.split (d := 55) rfl (fun hg1 => ?_) (fun hg1 => ?_)
          · skip   -- g1.T
            (exfalso; first | (simp at hg1; done) | (simp at hg1; omega))
          · skip   -- g1.F
            refine SV.opY (OpL.ok (nb := 4) (ok_load_bp (b := 3) (i := 0) (ag := true) (m := 4) (ys := [.sc _, .sc _, .hd 6, .hd 7]) rfl rfl rfl agg_impl_Broker sz_impl_Broker (fun h => by cases h) rfl rfl (gle rfl)) rfl (gle rfl)) rfl rfl rfl (gle rfl) rfl rfl ?_
            refine SV.opY (OpL.ok (nb := 4) (ok_load_bp (b := 1) (i := 0) (ag := true) (m := 4) (ys := [.sc _, .sc _, .hd 2, .hd 3]) rfl rfl rfl agg_impl_Broker sz_impl_Broker (fun h => by cases h) rfl rfl (gle rfl)) rfl (gle rfl)) rfl rfl rfl (gle rfl) rfl rfl ?_
            refine SV.opY (OpMk.ok (ok_call (ls := [(false, [.sc _])]) rfl rfl ⟨_, _, Try.func40, rfl, by decide⟩ (veq_broker Y0 (by omega)) ⟨⟨[.sc _, .sc _, .hd 6, .hd 7], rfl, ⟨rfl, rfl, rfl, rfl, trivial⟩⟩, ⟨[.sc _, .sc _, .hd 2, .hd 3], rfl, ⟨rfl, rfl, rfl, rfl, trivial⟩⟩, trivial⟩ rfl (gle rfl))) rfl rfl rfl (gle rfl) rfl rfl ?_
            refine SV.opY (OpL.ok (nb := 4) (ok_s1 (x := .tmp 58) (VScal.one rfl) (fun ρ h1 w => by go_simp; (try go_bits); with_reducible rfl) rfl) rfl (gle rfl)) rfl rfl rfl (gle rfl) rfl rfl ?_
            refine SV.op (OpL.ok (nb := 4) (ok_pickF (v := V.one (.sc _)) rfl rfl rfl) rfl (gle rfl)) rfl ?_
            refine SV.op (OpL.ok (nb := 4) (ok_move (v := V.one (.sc _)) (.inl rfl) rfl) rfl (gle rfl)) rfl ?_
            refine SV.split (d := 61) rfl (fun hg2 => ?_) (fun hg2 => ?_)
            · skip   -- g2.T
              (exfalso; first | (simp at hg2; done) | (simp at hg2; omega))
            · skip   -- g2.F
              refine SV.opY (OpL.ok (nb := 4) (ok_move (v := V.one (.sc _)) (.inl rfl) rfl) rfl (gle rfl)) rfl rfl rfl (gle rfl) rfl rfl ?_
              refine SV.opY (OpL.ok (nb := 4) (ok_move (v := V.one (.sc _)) (.inl rfl) rfl) rfl (gle rfl)) rfl rfl rfl (gle rfl) rfl rfl ?_
              refine SV.opY (OpL.ok (nb := 4) (ok_s2 (x := .tmp 62) (x' := .tmp 63) (VScal.one rfl) (VScal.one rfl) (fun ρ h1 h2 w => by go_simp; (try go_bits); with_reducible rfl) rfl) rfl (gle rfl)) rfl rfl rfl (gle rfl) rfl rfl ?_
              refine SV.op (OpL.ok (nb := 4) (ok_pickF (v := V.one (.sc _)) rfl rfl rfl) rfl (gle rfl)) rfl ?_
              refine SV.nil ?_
              refine SV.tn ?_
              refine SV.cond rfl (fun hc3 => ?_) (fun hc3 => ?_)
              · skip   -- c3.T
                (exfalso; first | (simp at hc3; done) | (simp at hc3; omega))
              · skip   -- c3.F
                refine SV.skip ?_
                refine SV.tn ?_
                refine SV.seq' ?_
                refine SV.region ?_
                refine SV.op (OpL.ok (nb := 4) (ok_move (v := V.one (.sc _)) (.inr rfl) rfl) rfl (gle rfl)) rfl ?_
                refine SV.nil ?_
                refine SV.tn ?_
                refine SV.seq' ?_
                refine SV.region ?_
                refine SV.op (OpL.ok (nb := 4) (ok_load_bp (b := 3) (i := 0) (ag := true) (m := 4) (ys := [.sc _, .sc _, .hd 6, .hd 7]) rfl rfl rfl agg_impl_Broker sz_impl_Broker (fun h => by cases h) rfl rfl (gle rfl)) rfl (gle rfl)) rfl ?_
                refine SV.op (OpL.ok (nb := 4) (ok_move (v := V.one (.sc _)) (.inl rfl) rfl) rfl (gle rfl)) rfl ?_
                refine SV.op (ok_callM (is := [6, 7]) rfl ⟨_, _, Try.func41, rfl, by decide⟩ (vmkv_broker Y0 (1) (by omega) (by omega)) ⟨⟨[.sc _, .sc _, .hd 6, .hd 7], rfl, ⟨⟨_, rfl, rfl⟩, ⟨_, rfl, rfl⟩, rfl, rfl, trivial⟩⟩, ⟨[.sc _], rfl, ⟨⟨_, rfl, rfl⟩, trivial⟩⟩, trivial⟩ ⟨⟨⟨_, rfl⟩, _, _, rfl⟩, ⟨⟨_, rfl⟩, _, _, rfl⟩, trivial⟩ (by decide) rfl rfl (gle rfl)) rfl ?_
                refine SV.op (OpL.ok (nb := 4) (ok_move (v := V.one (.sc _)) (.inr rfl) rfl) rfl (gle rfl)) rfl ?_
                refine SV.nil ?_
                refine SV.tn ?_
                refine SV.seq' ?_
                refine SV.region ?_
                refine SV.op (OpL.ok (nb := 4) (ok_move (v := V.one (.sc _)) (.inr rfl) rfl) rfl (gle rfl)) rfl ?_
                refine SV.nil ?_
                refine SV.tn ?_
                refine SV.seq' ?_
                refine SV.region ?_
                refine SV.op (OpL.ok (nb := 4) (ok_load_bp (b := 3) (i := 0) (ag := true) (m := 4) (ys := [.sc _, .sc _, .hd 6, .hd 7]) rfl rfl rfl agg_impl_Broker sz_impl_Broker (fun h => by cases h) rfl rfl (gle rfl)) rfl (gle rfl)) rfl ?_
                refine SV.op (OpL.ok (nb := 4) (ok_move (v := V.one (.sc _)) (.inl rfl) rfl) rfl (gle rfl)) rfl ?_
                refine SV.op (OpMk.ok (ok_call (ls := [(false, [.sc _])]) rfl rfl ⟨_, _, Try.func42, rfl, by decide⟩ (vhdv_broker Y0 (1) (by omega) (by omega)) ⟨⟨[.sc _, .sc _, .hd 6, .hd 7], rfl, ⟨rfl, rfl, rfl, rfl, trivial⟩⟩, ⟨[.sc _], rfl, ⟨rfl, trivial⟩⟩, trivial⟩ rfl (gle rfl))) rfl ?_
                refine SV.op (OpL.ok (nb := 4) (ok_move (v := V.one (.sc _)) (.inr rfl) rfl) rfl (gle rfl)) rfl ?_
                refine SV.nil ?_
                refine SV.tn ?_
                refine SV.seq' ?_
                refine SV.seq' ?_
                refine SV.region ?_
                refine SV.op (OpL.ok (nb := 4) (ok_move (v := V.one (.sc _)) (.inl rfl) rfl) rfl (gle rfl)) rfl ?_
                refine SV.op (OpL.ok (nb := 4) (ok_s2 (x := .tmp 72) (x' := .const ((Value.int IntKind.i64 0))) (VScal.one rfl) (VScal.one rfl) (fun ρ h1 h2 w => by go_simp; (try go_bits); with_reducible rfl) rfl) rfl (gle rfl)) rfl ?_
                refine SV.nil ?_
                refine SV.tn ?_
                refine SV.cond rfl (fun hc4 => ?_) (fun hc4 => ?_)
                · skip   -- c4.T
                  (exfalso; first | (simp at hc4; done) | (simp at hc4; omega))
                · skip   -- c4.F
                  refine SV.skip ?_
                  refine SV.tn ?_
                  refine SV.seq' ?_
                  refine SV.seq' ?_
                  refine SV.region ?_
                  refine SV.op (OpL.ok (nb := 4) (ok_move (v := V.one (.sc _)) (.inl rfl) rfl) rfl (gle rfl)) rfl ?_
                  refine SV.op (OpL.ok (nb := 4) (ok_move (v := V.one (.sc _)) (.inl rfl) rfl) rfl (gle rfl)) rfl ?_
                  refine SV.op (OpL.ok (nb := 4) (ok_s2 (x := .tmp 74) (x' := .tmp 75) (VScal.one rfl) (VScal.one rfl) (fun ρ h1 h2 w => by go_simp; (try go_bits); with_reducible rfl) rfl) rfl (gle rfl)) rfl ?_
                  refine SV.nil ?_
                  refine SV.tn ?_
                  refine SV.cond rfl (fun hc5 => ?_) (fun hc5 => ?_)
                  · skip   -- c5.T
                    (exfalso; first | (simp at hc5; done) | (simp at hc5; omega))
                  · skip   -- c5.F
                    refine SV.skip ?_
                    refine SV.tn ?_
                    refine SV.seq' ?_
                    refine SV.region ?_
                    refine SV.op (OpL.ok (nb := 4) (ok_load_bp (b := 0) (i := 0) (ag := true) (m := 4) (ys := [.sc _, .sc _, .ro _, .ro _]) rfl rfl rfl agg_laws_Broker sz_laws_Broker (fun h => by cases h) rfl rfl (gle rfl)) rfl (gle rfl)) rfl ?_
                    refine SV.op (OpMk.ok (ok_call (ls := [(true, [.sc _, .sc _, .hd 10, .hd 11])]) rfl rfl ⟨_, _, Try.func44, rfl, by decide⟩ (vto_broker X0 (by omega)) ⟨⟨[.sc _, .sc _, .ro _, .ro _], rfl, ⟨rfl, rfl, rfl, rfl, trivial⟩⟩, trivial⟩ rfl (gle rfl))) rfl ?_
                    refine SV.op (OpL.ok (nb := 4) (ok_move (v := V.one (.sc _)) (.inl rfl) rfl) rfl (gle rfl)) rfl ?_
                    refine SV.op (OpMk.ok (ok_call (ls := [(true, [.sc _, .sc _, .hd 12, .hd 13]), (false, [.sc _])]) rfl rfl ⟨_, _, Try.func27, rfl, by decide⟩ (hi (by omega)) ⟨⟨[.sc _, .sc _, .hd 10, .hd 11], rfl, ⟨rfl, rfl, rfl, rfl, trivial⟩⟩, ⟨[.sc _], rfl, ⟨rfl, trivial⟩⟩, trivial⟩ rfl (gle rfl))) rfl ?_
                    refine SV.op (OpL.ok (nb := 4) (ok_move (v := ⟨true, [(true, [.sc _, .sc _, .hd 12, .hd 13]), (false, [.sc _])]⟩) (.inl rfl) rfl) rfl (gle rfl)) rfl ?_
                    refine SV.op (OpL.ok (nb := 4) (ok_extract (ag := true) (xs := [.sc _, .sc _, .hd 12, .hd 13]) rfl rfl rfl) rfl (gle rfl)) rfl ?_
                    refine SV.op (OpL.ok (nb := 4) (ok_extract (ag := false) (xs := [.sc _]) rfl rfl rfl) rfl (gle rfl)) rfl ?_
                    refine SV.op (OpMk.ok (ok_alloc (kk := 4) (xs := [.sc _, .sc _, .nl _, .nl _]) rfl rfl zero_impl_Broker ⟨rfl, rfl, rfl, rfl, rfl, ⟨3, by decide, sz_impl_Client⟩, rfl, ⟨3, by decide, sz_impl_Client⟩, trivial⟩ rfl (gle rfl))) rfl ?_
                    refine SV.op (ok_store_bp (b := 4) (i := 0) (m := 4) (ag := true) (zs := [.sc _, .sc _, .hd 12, .hd 13]) (ys := [.sc _, .sc _, .hd 12, .hd 13]) rfl rfl rfl rfl sz_impl_Broker (fun h => by cases h) rfl (gle rfl) rfl rfl rfl) rfl ?_
                    refine SV.op (OpL.ok (nb := 5) (ok_move (v := V.one (.sc _)) (.inr rfl) rfl) rfl (gle rfl)) rfl ?_
                    refine SV.nil ?_
                    refine SV.tn ?_
                    refine SV.seq' ?_
                    refine SV.seq' ?_
                    refine SV.region ?_
                    refine SV.op (OpL.ok (nb := 5) (ok_load_bp (b := 4) (i := 0) (ag := true) (m := 4) (ys := [.sc _, .sc _, .hd 12, .hd 13]) rfl rfl rfl agg_impl_Broker sz_impl_Broker (fun h => by cases h) rfl rfl (gle rfl)) rfl (gle rfl)) rfl ?_
                    refine SV.op (OpL.ok (nb := 5) (ok_load_bp (b := 1) (i := 0) (ag := true) (m := 4) (ys := [.sc _, .sc _, .hd 2, .hd 3]) rfl rfl rfl agg_impl_Broker sz_impl_Broker (fun h => by cases h) rfl rfl (gle rfl)) rfl (gle rfl)) rfl ?_
                    refine SV.op (OpMk.ok (ok_call (ls := [(false, [.sc _])]) rfl rfl ⟨_, _, Try.func40, rfl, by decide⟩ (veq_broker Y0 (by omega)) ⟨⟨[.sc _, .sc _, .hd 12, .hd 13], rfl, ⟨rfl, rfl, rfl, rfl, trivial⟩⟩, ⟨[.sc _, .sc _, .hd 2, .hd 3], rfl, ⟨rfl, rfl, rfl, rfl, trivial⟩⟩, trivial⟩ rfl (gle rfl))) rfl ?_
                    refine SV.op (OpL.ok (nb := 5) (ok_s1 (x := .tmp 86) (VScal.one rfl) (fun ρ h1 w => by go_simp; (try go_bits); with_reducible rfl) rfl) rfl (gle rfl)) rfl ?_
                    refine SV.op (OpL.ok (nb := 5) (ok_move (v := V.one (.sc _)) (.inl rfl) rfl) rfl (gle rfl)) rfl ?_
                    refine SV.split (d := 88) rfl (fun hg3 => ?_) (fun hg3 => ?_)
                    · skip   -- g3.T
                      (exfalso; first | (simp at hg3; done) | (simp at hg3; omega))
                    · skip   -- g3.F
                      refine SV.opY (OpL.ok (nb := 5) (ok_move (v := V.one (.sc _)) (.inl rfl) rfl) rfl (gle rfl)) rfl rfl rfl (gle rfl) rfl rfl ?_
                      refine SV.opY (OpL.ok (nb := 5) (ok_move (v := V.one (.sc _)) (.inl rfl) rfl) rfl (gle rfl)) rfl rfl rfl (gle rfl) rfl rfl ?_
                      refine SV.opY (OpL.ok (nb := 5) (ok_s2 (x := .tmp 89) (x' := .tmp 90) (VScal.one rfl) (VScal.one rfl) (fun ρ h1 h2 w => by go_simp; (try go_bits); with_reducible rfl) rfl) rfl (gle rfl)) rfl rfl rfl (gle rfl) rfl rfl ?_
                      refine SV.op (OpL.ok (nb := 5) (ok_pickF (v := V.one (.sc _)) rfl rfl rfl) rfl (gle rfl)) rfl ?_
                      refine SV.nil ?_
                      refine SV.tn ?_
                      refine SV.cond rfl (fun hc6 => ?_) (fun hc6 => ?_)
                      · skip   -- c6.T
                        (exfalso; first | (simp at hc6; done) | (simp at hc6; omega))
                      · skip   -- c6.F
                        refine SV.skip ?_
                        refine SV.tn ?_
                        refine SV.seq' ?_
                        refine SV.region ?_
                        refine SV.op (OpL.ok (nb := 5) (ok_move (v := V.one (.sc _)) (.inr rfl) rfl) rfl (gle rfl)) rfl ?_
                        refine SV.nil ?_
                        refine SV.tn ?_
                        refine SV.seq' ?_
                        refine SV.region ?_
                        refine SV.op (OpL.ok (nb := 5) (ok_load_bp (b := 3) (i := 0) (ag := true) (m := 4) (ys := [.sc _, .sc _, .hd 6, .hd 7]) rfl rfl rfl agg_impl_Broker sz_impl_Broker (fun h => by cases h) rfl rfl (gle rfl)) rfl (gle rfl)) rfl ?_
                        refine SV.op (OpL.ok (nb := 5) (ok_move (v := V.one (.sc _)) (.inl rfl) rfl) rfl (gle rfl)) rfl ?_
                        refine SV.op (OpMk.ok (ok_call (ls := [(false, [.sc _])]) rfl rfl ⟨_, _, Try.func42, rfl, by decide⟩ (vhdv_broker Y0 (1) (by omega) (by omega)) ⟨⟨[.sc _, .sc _, .hd 6, .hd 7], rfl, ⟨rfl, rfl, rfl, rfl, trivial⟩⟩, ⟨[.sc _], rfl, ⟨rfl, trivial⟩⟩, trivial⟩ rfl (gle rfl))) rfl ?_
                        refine SV.op (OpL.ok (nb := 5) (ok_move (v := V.one (.sc _)) (.inr rfl) rfl) rfl (gle rfl)) rfl ?_
                        refine SV.nil ?_
                        refine SV.tn ?_
                        refine SV.seq' ?_
                        refine SV.seq' ?_
                        refine SV.region ?_
                        refine SV.op (OpL.ok (nb := 5) (ok_move (v := V.one (.sc _)) (.inl rfl) rfl) rfl (gle rfl)) rfl ?_
                        refine SV.op (OpL.ok (nb := 5) (ok_s2 (x := .tmp 96) (x' := .const ((Value.int IntKind.i64 0))) (VScal.one rfl) (VScal.one rfl) (fun ρ h1 h2 w => by go_simp; (try go_bits); with_reducible rfl) rfl) rfl (gle rfl)) rfl ?_
                        refine SV.nil ?_
                        refine SV.tn ?_
                        refine SV.cond rfl (fun hc7 => ?_) (fun hc7 => ?_)
                        · skip   -- c7.T
                          (exfalso; first | (simp at hc7; done) | (simp at hc7; omega))
                        · skip   -- c7.F
                          refine SV.skip ?_
                          refine SV.tn ?_
                          refine SV.seq' ?_
                          refine SV.seq' ?_
                          refine SV.region ?_
                          refine SV.op (OpL.ok (nb := 5) (ok_move (v := V.one (.sc _)) (.inl rfl) rfl) rfl (gle rfl)) rfl ?_
                          refine SV.op (OpL.ok (nb := 5) (ok_move (v := V.one (.sc _)) (.inl rfl) rfl) rfl (gle rfl)) rfl ?_
                          refine SV.op (OpL.ok (nb := 5) (ok_s2 (x := .tmp 98) (x' := .tmp 99) (VScal.one rfl) (VScal.one rfl) (fun ρ h1 h2 w => by go_simp; (try go_bits); with_reducible rfl) rfl) rfl (gle rfl)) rfl ?_
                          refine SV.nil ?_
                          refine SV.tn ?_
                          refine SV.cond rfl (fun hc8 => ?_) (fun hc8 => ?_)
                          · skip   -- c8.T
                            (exfalso; first | (simp at hc8; done) | (simp at hc8; omega))
                          · skip   -- c8.F
                            refine SV.skip ?_
                            refine SV.tn ?_
                            refine SV.seq' ?_
                            refine SV.region ?_
                            refine SV.op (OpL.ok (nb := 5) (ok_move (v := V.one (.sc _)) (.inr rfl) rfl) rfl (gle rfl)) rfl ?_
                            refine SV.nil ?_
                            refine SV.tn ?_
                            refine SV.ret ?_
                            apply SV.done (hf := Try.results9) (ht := rfl) (he := .inl rfl)
                            case hr => exact (ResAll.cons (ResOk.tmp (ag := false) (xs := [.sc _]) rfl) ResAll.nil')
                            case h2 => simp [two]
                            refine ⟨rfl, ⟨?_, trivial⟩, trivial⟩ <;> rfl
theorem walk (v0 : Value) (X0 : BrokerD) (w : World) (o0 : okBroker X0) (g0 : ArgT w true (uBroker X0) v0) (a1 : Int) (o1 : (Lit.int .i64 a1).wf = true) : Calls Try.prog 9 #[v0, .int .i64 a1] w fun e w' => e = .returned (.bool true) ∧ Below w.heap.size w w' :=
  VC.law (vlaw X0 a1 ((BrokerD.removed X0 a1).getD X0) ((BrokerD.removed X0 a1).isSome) (fun hw => vrem_s X0 a1 (by have h1 := wt_client_len X0.fActive; have h2 := wt_client_len X0.fWaiting; have h3 : wtBroker X0 = wtClients X0.fActive + wtClients X0.fWaiting := rfl; omega) (by have h1 := wt_client_len X0.fActive; have h2 := wt_client_len X0.fWaiting; have h3 : wtBroker X0 = wtClients X0.fActive + wtClients X0.fWaiting := rfl; omega)) (fun hw => vrem_i X0 a1 (by have h1 := wt_client_len X0.fActive; have h2 := wt_client_len X0.fWaiting; have h3 : wtBroker X0 = wtClients X0.fActive + wtClients X0.fWaiting := rfl; omega) (by have h1 := wt_client_len X0.fActive; have h2 := wt_client_len X0.fWaiting; have h3 : wtBroker X0 = wtClients X0.fActive + wtClients X0.fWaiting := rfl; omega)) (fun hw => (by have hw3 : wtBroker X0 = wtClients X0.fActive + wtClients X0.fWaiting := rfl; have hz := BrokerD.wt_rem X0 a1; omega))) (argsIn_cons g0 (argsIn_cons (ArgT.lit rfl) argsIn_nil))
/-! ### The row's step -/
theorem own : ownKnob Try.prog.godebug = none := by kernel_rfl
theorem laidOut : laidOutB Try.prog = true := by kernel_rfl
set_option maxRecDepth 100000 in
theorem lifted (os : Os) (started : os.Started) (H : Type) (enc : TypeId × Value → H) :
    ReturnsInHanded {} Try.checked os 9 .any (Rows.fnExactRemoveClientSpec.pre6 enc Try.prog Try.f9 Rows.fnExactRemoveClientRow.domain false) (Rows.fnExactRemoveClientSpec.post enc Try.prog Try.f9 false true false false) := by
  refine returnsInHanded_of_change (C := Try.checked) own started (by kernel_rfl) Try.func9
    (ChangeSpec.witness6 (enc := enc) (C := Try.checked) false ⟨#[], #[.agg #[.int .i64 0, .int .i64 0, .slice none 0 0, .slice none 0 0], .int .i64 0], []⟩ 8 (by kernel_rfl) (by kernel_rfl) (by kernel_rfl) (by kernel_rfl)) ?_
  intro W base args ds gs before hval0 hW hcnd hsz
  have hval : ∀ (j : Nat) t v, Try.f9.params[j]? = some t → args[j]? = some v → Value.okWide Try.prog W .any base t v := hval0
  have hW' := hW
  obtain ⟨p, q, hA0, hV, rfl, hfz, hnd⟩ := hW
  have hA : DataW.TrodAll enc Try.prog W 0 (fun _ => true) true Try.f9.params.toList args.toList ds p := hA0
  rw [Try.params9] at hA hval
  obtain ⟨v0, vs0, d0, ds0, p0, q0, hargs, rfl, rfl, h0, r0⟩ := trodAll_cons hA
  obtain ⟨v1, vs1, d1, ds1, p1, q1, rfl, rfl, rfl, h1, r1⟩ := trodAll_cons r0
  obtain ⟨rfl, rfl, rfl⟩ := trodAll_nil r1
  obtain rfl : args = #[v0, v1] := by cases args; simp_all
  obtain ⟨rfl, rfl⟩ := trodVars_none hV
  have k0 := h0
  have lt0 : ∀ x ∈ p0, x.block < W.heap.size := by obtain ⟨m, hm⟩ := k0; exact DataW.trod_lt m _ _ _ hm
  obtain ⟨L0, o0, g0⟩ := OpensT.broker.val Try.underlying55 (by kernel_rfl) (hval 0 55 v0 rfl rfl) h0
  obtain ⟨a1, rfl, rfl, rfl, w1⟩ := open_int Try.underlying3 (hval 1 3 v1 rfl rfl) h1
  clear hA0 hval0
  refine (walk v0 L0 W o0 g0 a1 w1).mono fun e W' ⟨he, bel⟩ => ?_
  subst he
  exact ⟨_, rfl, _, _, _, [], _, [], hW', trodAll_mk1 (shut_bool Try.underlying4 _), (trodAll_cons_mk (Below.trod laidOut (by kernel_rfl) (of_decide_eq_true (by kernel_rfl)) k0 bel lt0) (trodAll_cons_mk (shut_int Try.underlying3 w1) trodAll_mk0)), rfl, bel.frame _, fun h => by cases h⟩
theorem over : Rows.fnExactRemoveClientRow.holds Try.pinned (OpenSpec.ofChange Rows.fnExactRemoveClientSpec) :=
  OpenClaim.holds_of_wide 9 Try.f9 rfl rfl rfl rfl rfl rfl rfl ⟨rfl, rfl, rfl, rfl, rfl⟩ rfl rfl rfl rfl rfl (by kernel_rfl) Try.func9 (by kernel_rfl)
    (of_decide_eq_true (by kernel_rfl)) (by unfold Func.isWrapper; first | (rw [if_pos (by decide +kernel)]; kernel_rfl) | (rw [if_neg (by decide +kernel)]; exact ⟨rfl, rfl⟩))
    (fun os started H enc _ => lifted os started H enc)
theorem proved : Rows.FnExactRemoveClientSaid := over
#print axioms proved
end Go.Proofs.Ytfghhjcfmmhacaa.FnExactRemoveClient
