/- Proved: for every broker and any two numbers the law FnExactAddClient returns true: the program's AddClient answers as the reference's, leaves its arguments alone, and answers in memory of its own that a later call does not touch (the law itself answers true above 2^20). No condition. -/
import Derived.Test.YtfghhjcfmmhacaaPartEg
import Derived.Test.YtfghhjcfmmhacaaRows
import Derived.ProofKit
import Derived.OpenShut
import Derived.ShutString
import Derived.ChangeOld
set_option linter.unusedSimpArgs false
set_option linter.unusedVariables false
namespace Go.Proofs.Ytfghhjcfmmhacaa.FnExactAddClient
open Go Go.ChangeShapes Go.WideShapes Go.ChangeAt Go.RowKit
open V hiding T
open Go.ChangeMaps (open_string shut_string)
set_option linter.unusedVariables false
set_option maxRecDepth 100000 in
set_option maxHeartbeats 2000000 in
theorem vlaw (X0 : BrokerD) (a1 : Int) (a2 : Int) (Y0 : BrokerD) (Y1 : Int) (Y2 : Bool) (hs : wtBroker X0 ≤ 1048576 → VC Try.prog 24 [(true, tBroker (X0)), (false, [.lit (.int .i64 (a1))]), (false, [.lit (.int .i64 (a2))])] true [(true, tBroker (Y0)), (false, [.lit (.int .i64 (Y1))]), (false, [.lit (.bool (Y2))])]) (hi : wtBroker X0 ≤ 1048576 → VC Try.prog 23 [(true, tBroker (X0)), (false, [.lit (.int .i64 (a1))]), (false, [.lit (.int .i64 (a2))])] true [(true, tBroker (Y0)), (false, [.lit (.int .i64 (Y1))]), (false, [.lit (.bool (Y2))])]) (hY0 : wtBroker X0 ≤ 1048576 → wtBroker Y0 ≤ 300000000000) : VC Try.prog 8 [(true, uBroker (X0)), (false, [.lit (.int .i64 (a1))]), (false, [.lit (.int .i64 (a2))])] false [(false, [.lit (.bool true)])] := by
  refine VC.enter Try.func8 rfl Try.ntmps8 (gle rfl) fun E hE => ?_
  have hC_X0_0 := cnt_clients X0.fActive
  have hC_X0_1 := cnt_clients X0.fWaiting
  have hWv_X0 : wtBroker X0 = wtClients X0.fActive + wtClients X0.fWaiting := rfl
  have hC_Y0_0 := cnt_clients Y0.fActive
  have hC_Y0_1 := cnt_clients Y0.fWaiting
  have hWv_Y0 : wtBroker Y0 = wtClients Y0.fActive + wtClients Y0.fWaiting := rfl
  refine SV.seq' ?_
  refine SV.region ?_
  refine SV.op (OpMk.ok (ok_box (kk := 0) (ag := true) (xs := [.sc _, .sc _, .ro _, .ro _]) rfl rfl rfl (fun h => by cases h) rfl rfl (gle rfl))) rfl ?_
  refine SV.op (OpL.ok (nb := 1) (ok_move (v := V.one (.sc _)) (.inr rfl) rfl) rfl (gle rfl)) rfl ?_
  refine SV.nil ?_
  refine SV.tn ?_
  refine SV.seq' ?_
  refine SV.region ?_
  refine SV.op (OpL.ok (nb := 1) (ok_move (v := V.one (.sc _)) (.inr rfl) rfl) rfl (gle rfl)) rfl ?_
  refine SV.nil ?_
  refine SV.tn ?_
  refine SV.seq' ?_
  refine SV.region ?_
  refine SV.op (OpL.ok (nb := 1) (ok_load_bp (b := 0) (i := 0) (ag := true) (m := 4) (ys := [.sc _, .sc _, .ro _, .ro _]) rfl rfl rfl agg_laws_Broker sz_laws_Broker (fun h => by cases h) rfl rfl (gle rfl)) rfl (gle rfl)) rfl ?_
  refine SV.op (OpL.ok (nb := 1) (ok_move (v := V.one (.sc _)) (.inl rfl) rfl) rfl (gle rfl)) rfl ?_
  refine SV.op (OpMk.ok (ok_call (ls := [(false, [.sc _])]) rfl rfl ⟨_, _, Try.func43, rfl, by decide⟩ (vsz_broker X0 (1048576) (by omega) (by omega)) ⟨⟨[.sc _, .sc _, .ro _, .ro _], rfl, ⟨rfl, rfl, rfl, rfl, trivial⟩⟩, ⟨[.sc _], rfl, ⟨rfl, trivial⟩⟩, trivial⟩ rfl (gle rfl))) rfl ?_
  refine SV.op (OpL.ok (nb := 1) (ok_move (v := V.one (.sc _)) (.inr rfl) rfl) rfl (gle rfl)) rfl ?_
  refine SV.nil ?_
  refine SV.tn ?_
  refine SV.seq' ?_
  refine SV.seq' ?_
  refine SV.region ?_
  refine SV.op (OpL.ok (nb := 1) (ok_move (v := V.one (.sc _)) (.inl rfl) rfl) rfl (gle rfl)) rfl ?_
  refine SV.op (OpL.ok (nb := 1) (ok_s2 (x := .tmp 24) (x' := .const ((Value.int IntKind.i64 0))) (VScal.one rfl) (VScal.one rfl) (fun ρ h1 h2 w => by go_simp; (try go_bits); with_reducible rfl) rfl) rfl (gle rfl)) rfl ?_
  refine SV.nil ?_
  refine SV.tn ?_
  refine SV.cond rfl (fun hc0 => ?_) (fun hc0 => ?_)
  · skip   -- c0.T
    have hs0 := sz_stop rfl (show szR (1048576) (wtBroker X0) < 0 by first | simpa using hc0 | simpa [szR] using hc0 | exact of_decide_eq_true hc0)
    refine SV.seq' ?_
    refine SV.region ?_
    refine SV.op (OpL.ok (nb := 1) (ok_move (v := V.one (.sc _)) (.inr rfl) rfl) rfl (gle rfl)) rfl ?_
    refine SV.nil ?_
    refine SV.tn ?_
    refine SV.ret ?_
    refine SV.tr ?_
    apply SV.done (hf := Try.results8) (ht := rfl) (he := .inl rfl)
    case hr => exact (ResAll.cons (ResOk.tmp (ag := false) (xs := [.sc _]) rfl) ResAll.nil')
    case h2 => simp [two]
    refine ⟨rfl, ⟨?_, trivial⟩, trivial⟩ <;> rfl
  · skip   -- c0.F
    have hs0 := sz_step rfl (show 0 ≤ szR (1048576) (wtBroker X0) by first | simpa using hc0 | simpa [szR] using hc0 | exact Int.not_lt.1 (of_decide_eq_false hc0))
    have hYw0 := hY0 (by omega)
    refine SV.skip ?_
    refine SV.tn ?_
    refine SV.seq' ?_
    refine SV.region ?_
    refine SV.op (OpL.ok (nb := 1) (ok_load_bp (b := 0) (i := 0) (ag := true) (m := 4) (ys := [.sc _, .sc _, .ro _, .ro _]) rfl rfl rfl agg_laws_Broker sz_laws_Broker (fun h => by cases h) rfl rfl (gle rfl)) rfl (gle rfl)) rfl ?_
    refine SV.op (OpMk.ok (ok_call (ls := [(true, [.sc _, .sc _, .hd 0, .hd 1])]) rfl rfl ⟨_, _, Try.func44, rfl, by decide⟩ (vto_broker X0 (by omega)) ⟨⟨[.sc _, .sc _, .ro _, .ro _], rfl, ⟨rfl, rfl, rfl, rfl, trivial⟩⟩, trivial⟩ rfl (gle rfl))) rfl ?_
    refine SV.op (OpL.ok (nb := 1) (ok_move (v := V.one (.sc _)) (.inl rfl) rfl) rfl (gle rfl)) rfl ?_
    refine SV.op (OpL.ok (nb := 1) (ok_move (v := V.one (.sc _)) (.inl rfl) rfl) rfl (gle rfl)) rfl ?_
    refine SV.op (OpMk.ok (ok_call (ls := [(true, [.sc _, .sc _, .hd 2, .hd 3]), (false, [.sc _]), (false, [.sc _])]) rfl rfl ⟨_, _, Try.func24, rfl, by decide⟩ (hs (by omega)) ⟨⟨[.sc _, .sc _, .hd 0, .hd 1], rfl, ⟨rfl, rfl, rfl, rfl, trivial⟩⟩, ⟨[.sc _], rfl, ⟨rfl, trivial⟩⟩, ⟨[.sc _], rfl, ⟨rfl, trivial⟩⟩, trivial⟩ rfl (gle rfl))) rfl ?_
    refine SV.op (OpL.ok (nb := 1) (ok_move (v := ⟨true, [(true, [.sc _, .sc _, .hd 2, .hd 3]), (false, [.sc _]), (false, [.sc _])]⟩) (.inl rfl) rfl) rfl (gle rfl)) rfl ?_
    refine SV.op (OpL.ok (nb := 1) (ok_extract (ag := true) (xs := [.sc _, .sc _, .hd 2, .hd 3]) rfl rfl rfl) rfl (gle rfl)) rfl ?_
    refine SV.op (OpL.ok (nb := 1) (ok_extract (ag := false) (xs := [.sc _]) rfl rfl rfl) rfl (gle rfl)) rfl ?_
    refine SV.op (OpL.ok (nb := 1) (ok_extract (ag := false) (xs := [.sc _]) rfl rfl rfl) rfl (gle rfl)) rfl ?_
    refine SV.op (OpMk.ok (ok_alloc (kk := 1) (xs := [.sc _, .sc _, .nl _, .nl _]) rfl rfl zero_impl_Broker ⟨rfl, rfl, rfl, rfl, rfl, ⟨3, by decide, sz_impl_Client⟩, rfl, ⟨3, by decide, sz_impl_Client⟩, trivial⟩ rfl (gle rfl))) rfl ?_
    refine SV.op (ok_store_bp (b := 1) (i := 0) (m := 4) (ag := true) (zs := [.sc _, .sc _, .hd 2, .hd 3]) (ys := [.sc _, .sc _, .hd 2, .hd 3]) rfl rfl rfl rfl sz_impl_Broker (fun h => by cases h) rfl (gle rfl) rfl rfl rfl) rfl ?_
    refine SV.op (OpL.ok (nb := 2) (ok_move (v := V.one (.sc _)) (.inr rfl) rfl) rfl (gle rfl)) rfl ?_
    refine SV.op (OpL.ok (nb := 2) (ok_move (v := V.one (.sc _)) (.inr rfl) rfl) rfl (gle rfl)) rfl ?_
    refine SV.nil ?_
    refine SV.tn ?_
    refine SV.seq' ?_
    refine SV.region ?_
    refine SV.op (OpL.ok (nb := 2) (ok_load_bp (b := 0) (i := 0) (ag := true) (m := 4) (ys := [.sc _, .sc _, .ro _, .ro _]) rfl rfl rfl agg_laws_Broker sz_laws_Broker (fun h => by cases h) rfl rfl (gle rfl)) rfl (gle rfl)) rfl ?_
    refine SV.op (OpMk.ok (ok_call (ls := [(true, [.sc _, .sc _, .hd 4, .hd 5])]) rfl rfl ⟨_, _, Try.func44, rfl, by decide⟩ (vto_broker X0 (by omega)) ⟨⟨[.sc _, .sc _, .ro _, .ro _], rfl, ⟨rfl, rfl, rfl, rfl, trivial⟩⟩, trivial⟩ rfl (gle rfl))) rfl ?_
    refine SV.op (OpMk.ok (ok_alloc (kk := 2) (xs := [.sc _, .sc _, .nl _, .nl _]) rfl rfl zero_impl_Broker ⟨rfl, rfl, rfl, rfl, rfl, ⟨3, by decide, sz_impl_Client⟩, rfl, ⟨3, by decide, sz_impl_Client⟩, trivial⟩ rfl (gle rfl))) rfl ?_
    refine SV.op (ok_store_bp (b := 2) (i := 0) (m := 4) (ag := true) (zs := [.sc _, .sc _, .hd 4, .hd 5]) (ys := [.sc _, .sc _, .hd 4, .hd 5]) rfl rfl rfl rfl sz_impl_Broker (fun h => by cases h) rfl (gle rfl) rfl rfl rfl) rfl ?_
    refine SV.nil ?_
    refine SV.tn ?_
    refine SV.seq' ?_
    refine SV.region ?_
    refine SV.op (OpL.ok (nb := 3) (ok_load_bp (b := 2) (i := 0) (ag := true) (m := 4) (ys := [.sc _, .sc _, .hd 4, .hd 5]) rfl rfl rfl agg_impl_Broker sz_impl_Broker (fun h => by cases h) rfl rfl (gle rfl)) rfl (gle rfl)) rfl ?_
    refine SV.op (OpL.ok (nb := 3) (ok_move (v := V.one (.sc _)) (.inl rfl) rfl) rfl (gle rfl)) rfl ?_
    refine SV.op (OpL.ok (nb := 3) (ok_move (v := V.one (.sc _)) (.inl rfl) rfl) rfl (gle rfl)) rfl ?_
    refine SV.op (OpMk.ok (ok_call (ls := [(true, [.sc _, .sc _, .hd 6, .hd 7]), (false, [.sc _]), (false, [.sc _])]) rfl rfl ⟨_, _, Try.func23, rfl, by decide⟩ (hi (by omega)) ⟨⟨[.sc _, .sc _, .hd 4, .hd 5], rfl, ⟨rfl, rfl, rfl, rfl, trivial⟩⟩, ⟨[.sc _], rfl, ⟨rfl, trivial⟩⟩, ⟨[.sc _], rfl, ⟨rfl, trivial⟩⟩, trivial⟩ rfl (gle rfl))) rfl ?_
    refine SV.op (OpL.ok (nb := 3) (ok_move (v := ⟨true, [(true, [.sc _, .sc _, .hd 6, .hd 7]), (false, [.sc _]), (false, [.sc _])]⟩) (.inl rfl) rfl) rfl (gle rfl)) rfl ?_
    refine SV.op (OpL.ok (nb := 3) (ok_extract (ag := true) (xs := [.sc _, .sc _, .hd 6, .hd 7]) rfl rfl rfl) rfl (gle rfl)) rfl ?_
    refine SV.op (OpL.ok (nb := 3) (ok_extract (ag := false) (xs := [.sc _]) rfl rfl rfl) rfl (gle rfl)) rfl ?_
    refine SV.op (OpL.ok (nb := 3) (ok_extract (ag := false) (xs := [.sc _]) rfl rfl rfl) rfl (gle rfl)) rfl ?_
    refine SV.op (OpMk.ok (ok_alloc (kk := 3) (xs := [.sc _, .sc _, .nl _, .nl _]) rfl rfl zero_impl_Broker ⟨rfl, rfl, rfl, rfl, rfl, ⟨3, by decide, sz_impl_Client⟩, rfl, ⟨3, by decide, sz_impl_Client⟩, trivial⟩ rfl (gle rfl))) rfl ?_
    refine SV.op (ok_store_bp (b := 3) (i := 0) (m := 4) (ag := true) (zs := [.sc _, .sc _, .hd 6, .hd 7]) (ys := [.sc _, .sc _, .hd 6, .hd 7]) rfl rfl rfl rfl sz_impl_Broker (fun h => by cases h) rfl (gle rfl) rfl rfl rfl) rfl ?_
    refine SV.op (OpL.ok (nb := 4) (ok_move (v := V.one (.sc _)) (.inr rfl) rfl) rfl (gle rfl)) rfl ?_
    refine SV.op (OpL.ok (nb := 4) (ok_move (v := V.one (.sc _)) (.inr rfl) rfl) rfl (gle rfl)) rfl ?_
    refine SV.nil ?_
    refine SV.tn ?_
    refine SV.seq' ?_
    refine SV.seq' ?_
    refine SV.region ?_
    refine SV.op (OpL.ok (nb := 4) (ok_load_bp (b := 3) (i := 0) (ag := true) (m := 4) (ys := [.sc _, .sc _, .hd 6, .hd 7]) rfl rfl rfl agg_impl_Broker sz_impl_Broker (fun h => by cases h) rfl rfl (gle rfl)) rfl (gle rfl)) rfl ?_
    refine SV.op (OpL.ok (nb := 4) (ok_load_bp (b := 1) (i := 0) (ag := true) (m := 4) (ys := [.sc _, .sc _, .hd 2, .hd 3]) rfl rfl rfl agg_impl_Broker sz_impl_Broker (fun h => by cases h) rfl rfl (gle rfl)) rfl (gle rfl)) rfl ?_
    refine SV.op (OpMk.ok (ok_call (ls := [(false, [.sc _])]) rfl rfl ⟨_, _, Try.func40, rfl, by decide⟩ (veq_broker Y0 (by omega)) ⟨⟨[.sc _, .sc _, .hd 6, .hd 7], rfl, ⟨rfl, rfl, rfl, rfl, trivial⟩⟩, ⟨[.sc _, .sc _, .hd 2, .hd 3], rfl, ⟨rfl, rfl, rfl, rfl, trivial⟩⟩, trivial⟩ rfl (gle rfl))) rfl ?_
    refine SV.op (OpL.ok (nb := 4) (ok_s1 (x := .tmp 47) (VScal.one rfl) (fun ρ h1 w => by go_simp; (try go_bits); with_reducible rfl) rfl) rfl (gle rfl)) rfl ?_
    refine SV.op (OpL.ok (nb := 4) (ok_move (v := V.one (.sc _)) (.inl rfl) rfl) rfl (gle rfl)) rfl ?_
    refine SV.split (d := 49) rfl (fun hg0 => ?_) (fun hg0 => ?_)
    · skip   -- g0.T
      (exfalso; first | (simp at hg0; done) | (simp at hg0; omega))
    · skip   -- g0.F
      refine SV.opY (OpL.ok (nb := 4) (ok_move (v := V.one (.sc _)) (.inl rfl) rfl) rfl (gle rfl)) rfl rfl rfl (gle rfl) rfl rfl ?_
      refine SV.opY (OpL.ok (nb := 4) (ok_move (v := V.one (.sc _)) (.inl rfl) rfl) rfl (gle rfl)) rfl rfl rfl (gle rfl) rfl rfl ?_
      refine SV.opY (OpL.ok (nb := 4) (ok_s2 (x := .tmp 50) (x' := .tmp 51) (VScal.one rfl) (VScal.one rfl) (fun ρ h1 h2 w => by go_simp; (try go_bits); with_reducible rfl) rfl) rfl (gle rfl)) rfl rfl rfl (gle rfl) rfl rfl ?_
      refine SV.op (OpL.ok (nb := 4) (ok_pickF (v := V.one (.sc _)) rfl rfl rfl) rfl (gle rfl)) rfl ?_
      refine SV.op (OpL.ok (nb := 4) (ok_move (v := V.one (.sc _)) (.inl rfl) rfl) rfl (gle rfl)) rfl ?_
      refine SV.split (d := 54) rfl (fun hg1 => ?_) (fun hg1 => ?_)
      · skip   -- g1.T
        (exfalso; first | (simp at hg1; done) | (simp at hg1; omega))
      · skip   -- g1.F
        refine SV.opY (OpL.ok (nb := 4) (ok_move (v := V.one (.sc _)) (.inl rfl) rfl) rfl (gle rfl)) rfl rfl rfl (gle rfl) rfl rfl ?_
        refine SV.opY (OpL.ok (nb := 4) (ok_move (v := V.one (.sc _)) (.inl rfl) rfl) rfl (gle rfl)) rfl rfl rfl (gle rfl) rfl rfl ?_
        refine SV.opY (OpL.ok (nb := 4) (ok_s2 (x := .tmp 55) (x' := .tmp 56) (VScal.one rfl) (VScal.one rfl) (fun ρ h1 h2 w => by go_simp; (try go_bits); with_reducible rfl) rfl) rfl (gle rfl)) rfl rfl rfl (gle rfl) rfl rfl ?_
        refine SV.op (OpL.ok (nb := 4) (ok_pickF (v := V.one (.sc _)) rfl rfl rfl) rfl (gle rfl)) rfl ?_
        refine SV.nil ?_
        refine SV.tn ?_
        refine SV.cond rfl (fun hc1 => ?_) (fun hc1 => ?_)
        · skip   -- c1.T
          (exfalso; first | (simp at hc1; done) | (simp at hc1; omega))
        · skip   -- c1.F
          refine SV.skip ?_
          refine SV.tn ?_
          refine SV.seq' ?_
          refine SV.seq' ?_
          refine SV.draw [.q 0, .q 1, .m 2, .m 3, .q 4] [] (by kernel_rfl) (by kernel_rfl) ?_
          refine DW.q rfl (ok_load_bp (b := 2) (i := 0) (ag := true) (m := 4) (ys := [.sc _, .sc _, .hd 4, .hd 5]) rfl rfl rfl agg_impl_Broker sz_impl_Broker (fun h => by cases h) rfl rfl (gle rfl)) rfl rfl (gle rfl) (fun _ _ _ _ h => h) ?_
          refine DW.q rfl (ok_load_bp (b := 0) (i := 0) (ag := true) (m := 4) (ys := [.sc _, .sc _, .ro _, .ro _]) rfl rfl rfl agg_laws_Broker sz_laws_Broker (fun h => by cases h) rfl rfl (gle rfl)) rfl rfl (gle rfl) (fun _ _ _ _ h => h) ?_
          refine DW.m [8, 9] rfl (ok_call (ls := [(true, [.sc _, .sc _, .hd 8, .hd 9])]) rfl rfl ⟨_, _, Try.func44, rfl, by decide⟩ (vto_broker X0 (by omega)) ⟨⟨[.sc _, .sc _, .ro _, .ro _], rfl, ⟨rfl, rfl, rfl, rfl, trivial⟩⟩, trivial⟩ rfl (gle rfl)) rfl (gle rfl) (gle rfl) (.inl rfl) (fun j hj => by
              simp only [List.mem_cons, List.not_mem_nil, or_false] at hj
              rcases hj with rfl | rfl
              · exact .inr ⟨(gle rfl), (gle rfl), .inl rfl⟩
              · exact .inr ⟨(gle rfl), (gle rfl), .inl rfl⟩) ?_
          refine DW.m [8, 9] rfl (ok_call (ls := [(false, [.sc _])]) rfl rfl ⟨_, _, Try.func40, rfl, by decide⟩ (veq_broker X0 (by omega)) ⟨⟨[.sc _, .sc _, .hd 4, .hd 5], rfl, ⟨rfl, rfl, rfl, rfl, trivial⟩⟩, ⟨[.sc _, .sc _, .hd 8, .hd 9], rfl, ⟨rfl, rfl, rfl, rfl, trivial⟩⟩, trivial⟩ rfl (gle rfl)) rfl (gle rfl) (gle rfl) (.inl rfl) (fun j hj => by
              simp only [List.mem_cons, List.not_mem_nil, or_false] at hj
              rcases hj with rfl | rfl
              · exact .inl (by decide)
              · exact .inl (by decide)) ?_
          refine DW.q rfl (ok_s1 (x := .tmp 62) (VScal.one rfl) (fun ρ h1 w => by go_simp; (try go_bits); with_reducible rfl) rfl) rfl rfl (gle rfl) (fun _ _ _ _ h => h) ?_
          refine DW.stores ?_
          refine SV.zend ?_
          refine SV.tn ?_
          refine SV.cond rfl (fun hc2 => ?_) (fun hc2 => ?_)
          · skip   -- c2.T
            (exfalso; first | (simp at hc2; done) | (simp at hc2; omega))
          · skip   -- c2.F
            refine SV.skip ?_
            refine SV.tn ?_
            refine SV.seq' ?_
            refine SV.region ?_
            refine SV.op (OpL.ok (nb := 4) (ok_move (v := V.one (.sc _)) (.inr rfl) rfl) rfl (gle rfl)) rfl ?_
            refine SV.nil ?_
            refine SV.tn ?_
            refine SV.seq' ?_
            refine SV.region ?_
            refine SV.op (OpL.ok (nb := 4) (ok_load_bp (b := 2) (i := 0) (ag := true) (m := 4) (ys := [.sc _, .sc _, .hd 4, .hd 5]) rfl rfl rfl agg_impl_Broker sz_impl_Broker (fun h => by cases h) rfl rfl (gle rfl)) rfl (gle rfl)) rfl ?_
            refine SV.op (OpL.ok (nb := 4) (ok_move (v := V.one (.sc _)) (.inl rfl) rfl) rfl (gle rfl)) rfl ?_
            refine SV.op (ok_callM (is := [4, 5]) rfl ⟨_, _, Try.func41, rfl, by decide⟩ (vmkv_broker X0 (1) (by omega) (by omega)) ⟨⟨[.sc _, .sc _, .hd 4, .hd 5], rfl, ⟨⟨_, rfl, rfl⟩, ⟨_, rfl, rfl⟩, rfl, rfl, trivial⟩⟩, ⟨[.sc _], rfl, ⟨⟨_, rfl, rfl⟩, trivial⟩⟩, trivial⟩ ⟨⟨⟨_, rfl⟩, _, _, rfl⟩, ⟨⟨_, rfl⟩, _, _, rfl⟩, trivial⟩ (by decide) rfl rfl (gle rfl)) rfl ?_
            refine SV.op (OpL.ok (nb := 4) (ok_move (v := V.one (.sc _)) (.inr rfl) rfl) rfl (gle rfl)) rfl ?_
            refine SV.nil ?_
            refine SV.tn ?_
            refine SV.seq' ?_
            refine SV.seq' ?_
            refine SV.region ?_
            refine SV.op (OpL.ok (nb := 4) (ok_move (v := V.one (.sc _)) (.inl rfl) rfl) rfl (gle rfl)) rfl ?_
            refine SV.op (OpL.ok (nb := 4) (ok_s2 (x := .tmp 67) (x' := .const ((Value.int IntKind.i64 0))) (VScal.one rfl) (VScal.one rfl) (fun ρ h1 h2 w => by go_simp; (try go_bits); with_reducible rfl) rfl) rfl (gle rfl)) rfl ?_
            refine SV.op (OpL.ok (nb := 4) (ok_move (v := V.one (.sc _)) (.inl rfl) rfl) rfl (gle rfl)) rfl ?_
            refine SV.split (d := 69) rfl (fun hg2 => ?_) (fun hg2 => ?_)
            · skip   -- g2.T
              (exfalso; first | (simp at hg2; done) | (simp at hg2; omega))
            · skip   -- g2.F
              refine SV.opY (OpL.ok (nb := 4) (ok_load_bp (b := 3) (i := 0) (ag := true) (m := 4) (ys := [.sc _, .sc _, .hd 6, .hd 7]) rfl rfl rfl agg_impl_Broker sz_impl_Broker (fun h => by cases h) rfl rfl (gle rfl)) rfl (gle rfl)) rfl rfl rfl (gle rfl) rfl rfl ?_
              refine SV.opY (OpL.ok (nb := 4) (ok_load_bp (b := 1) (i := 0) (ag := true) (m := 4) (ys := [.sc _, .sc _, .hd 2, .hd 3]) rfl rfl rfl agg_impl_Broker sz_impl_Broker (fun h => by cases h) rfl rfl (gle rfl)) rfl (gle rfl)) rfl rfl rfl (gle rfl) rfl rfl ?_
              refine SV.opY (OpMk.ok (ok_call (ls := [(false, [.sc _])]) rfl rfl ⟨_, _, Try.func40, rfl, by decide⟩ (veq_broker Y0 (by omega)) ⟨⟨[.sc _, .sc _, .hd 6, .hd 7], rfl, ⟨rfl, rfl, rfl, rfl, trivial⟩⟩, ⟨[.sc _, .sc _, .hd 2, .hd 3], rfl, ⟨rfl, rfl, rfl, rfl, trivial⟩⟩, trivial⟩ rfl (gle rfl))) rfl rfl rfl (gle rfl) rfl rfl ?_
              refine SV.opY (OpL.ok (nb := 4) (ok_s1 (x := .tmp 72) (VScal.one rfl) (fun ρ h1 w => by go_simp; (try go_bits); with_reducible rfl) rfl) rfl (gle rfl)) rfl rfl rfl (gle rfl) rfl rfl ?_
              refine SV.op (OpL.ok (nb := 4) (ok_pickF (v := V.one (.sc _)) rfl rfl rfl) rfl (gle rfl)) rfl ?_
              refine SV.op (OpL.ok (nb := 4) (ok_move (v := V.one (.sc _)) (.inl rfl) rfl) rfl (gle rfl)) rfl ?_
              refine SV.split (d := 75) rfl (fun hg3 => ?_) (fun hg3 => ?_)
              · skip   -- g3.T
                (exfalso; first | (simp at hg3; done) | (simp at hg3; omega))
              · skip   -- g3.F
                refine SV.opY (OpL.ok (nb := 4) (ok_move (v := V.one (.sc _)) (.inl rfl) rfl) rfl (gle rfl)) rfl rfl rfl (gle rfl) rfl rfl ?_
                refine SV.opY (OpL.ok (nb := 4) (ok_move (v := V.one (.sc _)) (.inl rfl) rfl) rfl (gle rfl)) rfl rfl rfl (gle rfl) rfl rfl ?_
                refine SV.opY (OpL.ok (nb := 4) (ok_s2 (x := .tmp 76) (x' := .tmp 77) (VScal.one rfl) (VScal.one rfl) (fun ρ h1 h2 w => by go_simp; (try go_bits); with_reducible rfl) rfl) rfl (gle rfl)) rfl rfl rfl (gle rfl) rfl rfl ?_
                refine SV.op (OpL.ok (nb := 4) (ok_pickF (v := V.one (.sc _)) rfl rfl rfl) rfl (gle rfl)) rfl ?_
                refine SV.op (OpL.ok (nb := 4) (ok_move (v := V.one (.sc _)) (.inl rfl) rfl) rfl (gle rfl)) rfl ?_
                refine SV.split (d := 80) rfl (fun hg4 => ?_) (fun hg4 => ?_)
                · skip   -- g4.T
                  (exfalso; first | (simp at hg4; done) | (simp at hg4; omega))
                · skip   -- g4.F
                  refine SV.opY (OpL.ok (nb := 4) (ok_move (v := V.one (.sc _)) (.inl rfl) rfl) rfl (gle rfl)) rfl rfl rfl (gle rfl) rfl rfl ?_
                  refine SV.opY (OpL.ok (nb := 4) (ok_move (v := V.one (.sc _)) (.inl rfl) rfl) rfl (gle rfl)) rfl rfl rfl (gle rfl) rfl rfl ?_
                  refine SV.opY (OpL.ok (nb := 4) (ok_s2 (x := .tmp 81) (x' := .tmp 82) (VScal.one rfl) (VScal.one rfl) (fun ρ h1 h2 w => by go_simp; (try go_bits); with_reducible rfl) rfl) rfl (gle rfl)) rfl rfl rfl (gle rfl) rfl rfl ?_
                  refine SV.op (OpL.ok (nb := 4) (ok_pickF (v := V.one (.sc _)) rfl rfl rfl) rfl (gle rfl)) rfl ?_
                  refine SV.nil ?_
                  refine SV.tn ?_
                  refine SV.cond rfl (fun hc3 => ?_) (fun hc3 => ?_)
                  · skip   -- c3.T
                    (exfalso; first | (simp at hc3; done) | (simp at hc3; omega))
                  · skip   -- c3.F
                    refine SV.skip ?_
                    refine SV.tn ?_
                    refine SV.seq' ?_
                    refine SV.region ?_
                    refine SV.op (OpL.ok (nb := 4) (ok_move (v := V.one (.sc _)) (.inr rfl) rfl) rfl (gle rfl)) rfl ?_
                    refine SV.nil ?_
                    refine SV.tn ?_
                    refine SV.seq' ?_
                    refine SV.region ?_
                    refine SV.op (OpL.ok (nb := 4) (ok_load_bp (b := 3) (i := 0) (ag := true) (m := 4) (ys := [.sc _, .sc _, .hd 6, .hd 7]) rfl rfl rfl agg_impl_Broker sz_impl_Broker (fun h => by cases h) rfl rfl (gle rfl)) rfl (gle rfl)) rfl ?_
                    refine SV.op (OpL.ok (nb := 4) (ok_move (v := V.one (.sc _)) (.inl rfl) rfl) rfl (gle rfl)) rfl ?_
                    refine SV.op (ok_callM (is := [6, 7]) rfl ⟨_, _, Try.func41, rfl, by decide⟩ (vmkv_broker Y0 (1) (by omega) (by omega)) ⟨⟨[.sc _, .sc _, .hd 6, .hd 7], rfl, ⟨⟨_, rfl, rfl⟩, ⟨_, rfl, rfl⟩, rfl, rfl, trivial⟩⟩, ⟨[.sc _], rfl, ⟨⟨_, rfl, rfl⟩, trivial⟩⟩, trivial⟩ ⟨⟨⟨_, rfl⟩, _, _, rfl⟩, ⟨⟨_, rfl⟩, _, _, rfl⟩, trivial⟩ (by decide) rfl rfl (gle rfl)) rfl ?_
                    refine SV.op (OpL.ok (nb := 4) (ok_move (v := V.one (.sc _)) (.inr rfl) rfl) rfl (gle rfl)) rfl ?_
                    refine SV.nil ?_
                    refine SV.tn ?_
                    refine SV.seq' ?_
                    refine SV.region ?_
                    refine SV.op (OpL.ok (nb := 4) (ok_move (v := V.one (.sc _)) (.inr rfl) rfl) rfl (gle rfl)) rfl ?_
                    refine SV.nil ?_
                    refine SV.tn ?_
                    refine SV.seq' ?_
                    refine SV.region ?_
                    refine SV.op (OpL.ok (nb := 4) (ok_load_bp (b := 3) (i := 0) (ag := true) (m := 4) (ys := [.sc _, .sc _, .hd 6, .hd 7]) rfl rfl rfl agg_impl_Broker sz_impl_Broker (fun h => by cases h) rfl rfl (gle rfl)) rfl (gle rfl)) rfl ?_
                    refine SV.op (OpL.ok (nb := 4) (ok_move (v := V.one (.sc _)) (.inl rfl) rfl) rfl (gle rfl)) rfl ?_
                    refine SV.op (OpMk.ok (ok_call (ls := [(false, [.sc _])]) rfl rfl ⟨_, _, Try.func42, rfl, by decide⟩ (vhdv_broker Y0 (1) (by omega) (by omega)) ⟨⟨[.sc _, .sc _, .hd 6, .hd 7], rfl, ⟨rfl, rfl, rfl, rfl, trivial⟩⟩, ⟨[.sc _], rfl, ⟨rfl, trivial⟩⟩, trivial⟩ rfl (gle rfl))) rfl ?_
                    refine SV.op (OpL.ok (nb := 4) (ok_move (v := V.one (.sc _)) (.inr rfl) rfl) rfl (gle rfl)) rfl ?_
                    refine SV.nil ?_
                    refine SV.tn ?_
                    refine SV.seq' ?_
                    refine SV.seq' ?_
                    refine SV.region ?_
                    refine SV.op (OpL.ok (nb := 4) (ok_move (v := V.one (.sc _)) (.inl rfl) rfl) rfl (gle rfl)) rfl ?_
                    refine SV.op (OpL.ok (nb := 4) (ok_s2 (x := .tmp 91) (x' := .const ((Value.int IntKind.i64 0))) (VScal.one rfl) (VScal.one rfl) (fun ρ h1 h2 w => by go_simp; (try go_bits); with_reducible rfl) rfl) rfl (gle rfl)) rfl ?_
                    refine SV.nil ?_
                    refine SV.tn ?_
                    refine SV.cond rfl (fun hc4 => ?_) (fun hc4 => ?_)
                    · skip   -- c4.T
                      (exfalso; first | (simp at hc4; done) | (simp at hc4; omega))
                    · skip   -- c4.F
                      refine SV.skip ?_
                      refine SV.tn ?_
                      refine SV.seq' ?_
                      refine SV.seq' ?_
                      refine SV.region ?_
                      refine SV.op (OpL.ok (nb := 4) (ok_move (v := V.one (.sc _)) (.inl rfl) rfl) rfl (gle rfl)) rfl ?_
                      refine SV.op (OpL.ok (nb := 4) (ok_move (v := V.one (.sc _)) (.inl rfl) rfl) rfl (gle rfl)) rfl ?_
                      refine SV.op (OpL.ok (nb := 4) (ok_s2 (x := .tmp 93) (x' := .tmp 94) (VScal.one rfl) (VScal.one rfl) (fun ρ h1 h2 w => by go_simp; (try go_bits); with_reducible rfl) rfl) rfl (gle rfl)) rfl ?_
                      refine SV.nil ?_
                      refine SV.tn ?_
                      refine SV.cond rfl (fun hc5 => ?_) (fun hc5 => ?_)
                      · skip   -- c5.T
                        (exfalso; first | (simp at hc5; done) | (simp at hc5; omega))
                      · skip   -- c5.F
                        refine SV.skip ?_
                        refine SV.tn ?_
                        refine SV.seq' ?_
                        refine SV.region ?_
                        refine SV.op (OpL.ok (nb := 4) (ok_load_bp (b := 0) (i := 0) (ag := true) (m := 4) (ys := [.sc _, .sc _, .ro _, .ro _]) rfl rfl rfl agg_laws_Broker sz_laws_Broker (fun h => by cases h) rfl rfl (gle rfl)) rfl (gle rfl)) rfl ?_
                        refine SV.op (OpMk.ok (ok_call (ls := [(true, [.sc _, .sc _, .hd 10, .hd 11])]) rfl rfl ⟨_, _, Try.func44, rfl, by decide⟩ (vto_broker X0 (by omega)) ⟨⟨[.sc _, .sc _, .ro _, .ro _], rfl, ⟨rfl, rfl, rfl, rfl, trivial⟩⟩, trivial⟩ rfl (gle rfl))) rfl ?_
                        refine SV.op (OpL.ok (nb := 4) (ok_move (v := V.one (.sc _)) (.inl rfl) rfl) rfl (gle rfl)) rfl ?_
                        refine SV.op (OpL.ok (nb := 4) (ok_move (v := V.one (.sc _)) (.inl rfl) rfl) rfl (gle rfl)) rfl ?_
                        refine SV.op (OpMk.ok (ok_call (ls := [(true, [.sc _, .sc _, .hd 12, .hd 13]), (false, [.sc _]), (false, [.sc _])]) rfl rfl ⟨_, _, Try.func23, rfl, by decide⟩ (hi (by omega)) ⟨⟨[.sc _, .sc _, .hd 10, .hd 11], rfl, ⟨rfl, rfl, rfl, rfl, trivial⟩⟩, ⟨[.sc _], rfl, ⟨rfl, trivial⟩⟩, ⟨[.sc _], rfl, ⟨rfl, trivial⟩⟩, trivial⟩ rfl (gle rfl))) rfl ?_
                        refine SV.op (OpL.ok (nb := 4) (ok_move (v := ⟨true, [(true, [.sc _, .sc _, .hd 12, .hd 13]), (false, [.sc _]), (false, [.sc _])]⟩) (.inl rfl) rfl) rfl (gle rfl)) rfl ?_
                        refine SV.op (OpL.ok (nb := 4) (ok_extract (ag := true) (xs := [.sc _, .sc _, .hd 12, .hd 13]) rfl rfl rfl) rfl (gle rfl)) rfl ?_
                        refine SV.op (OpL.ok (nb := 4) (ok_extract (ag := false) (xs := [.sc _]) rfl rfl rfl) rfl (gle rfl)) rfl ?_
                        refine SV.op (OpL.ok (nb := 4) (ok_extract (ag := false) (xs := [.sc _]) rfl rfl rfl) rfl (gle rfl)) rfl ?_
                        refine SV.op (OpMk.ok (ok_alloc (kk := 4) (xs := [.sc _, .sc _, .nl _, .nl _]) rfl rfl zero_impl_Broker ⟨rfl, rfl, rfl, rfl, rfl, ⟨3, by decide, sz_impl_Client⟩, rfl, ⟨3, by decide, sz_impl_Client⟩, trivial⟩ rfl (gle rfl))) rfl ?_
                        refine SV.op (ok_store_bp (b := 4) (i := 0) (m := 4) (ag := true) (zs := [.sc _, .sc _, .hd 12, .hd 13]) (ys := [.sc _, .sc _, .hd 12, .hd 13]) rfl rfl rfl rfl sz_impl_Broker (fun h => by cases h) rfl (gle rfl) rfl rfl rfl) rfl ?_
                        refine SV.op (OpL.ok (nb := 5) (ok_move (v := V.one (.sc _)) (.inr rfl) rfl) rfl (gle rfl)) rfl ?_
                        refine SV.op (OpL.ok (nb := 5) (ok_move (v := V.one (.sc _)) (.inr rfl) rfl) rfl (gle rfl)) rfl ?_
                        refine SV.nil ?_
                        refine SV.tn ?_
                        refine SV.seq' ?_
                        refine SV.seq' ?_
                        refine SV.region ?_
                        refine SV.op (OpL.ok (nb := 5) (ok_load_bp (b := 4) (i := 0) (ag := true) (m := 4) (ys := [.sc _, .sc _, .hd 12, .hd 13]) rfl rfl rfl agg_impl_Broker sz_impl_Broker (fun h => by cases h) rfl rfl (gle rfl)) rfl (gle rfl)) rfl ?_
                        refine SV.op (OpL.ok (nb := 5) (ok_load_bp (b := 1) (i := 0) (ag := true) (m := 4) (ys := [.sc _, .sc _, .hd 2, .hd 3]) rfl rfl rfl agg_impl_Broker sz_impl_Broker (fun h => by cases h) rfl rfl (gle rfl)) rfl (gle rfl)) rfl ?_
                        refine SV.op (OpMk.ok (ok_call (ls := [(false, [.sc _])]) rfl rfl ⟨_, _, Try.func40, rfl, by decide⟩ (veq_broker Y0 (by omega)) ⟨⟨[.sc _, .sc _, .hd 12, .hd 13], rfl, ⟨rfl, rfl, rfl, rfl, trivial⟩⟩, ⟨[.sc _, .sc _, .hd 2, .hd 3], rfl, ⟨rfl, rfl, rfl, rfl, trivial⟩⟩, trivial⟩ rfl (gle rfl))) rfl ?_
                        refine SV.op (OpL.ok (nb := 5) (ok_s1 (x := .tmp 107) (VScal.one rfl) (fun ρ h1 w => by go_simp; (try go_bits); with_reducible rfl) rfl) rfl (gle rfl)) rfl ?_
                        refine SV.op (OpL.ok (nb := 5) (ok_move (v := V.one (.sc _)) (.inl rfl) rfl) rfl (gle rfl)) rfl ?_
                        refine SV.split (d := 109) rfl (fun hg5 => ?_) (fun hg5 => ?_)
                        · skip   -- g5.T
                          (exfalso; first | (simp at hg5; done) | (simp at hg5; omega))
                        · skip   -- g5.F
                          refine SV.opY (OpL.ok (nb := 5) (ok_move (v := V.one (.sc _)) (.inl rfl) rfl) rfl (gle rfl)) rfl rfl rfl (gle rfl) rfl rfl ?_
                          refine SV.opY (OpL.ok (nb := 5) (ok_move (v := V.one (.sc _)) (.inl rfl) rfl) rfl (gle rfl)) rfl rfl rfl (gle rfl) rfl rfl ?_
                          refine SV.opY (OpL.ok (nb := 5) (ok_s2 (x := .tmp 110) (x' := .tmp 111) (VScal.one rfl) (VScal.one rfl) (fun ρ h1 h2 w => by go_simp; (try go_bits); with_reducible rfl) rfl) rfl (gle rfl)) rfl rfl rfl (gle rfl) rfl rfl ?_
                          refine SV.op (OpL.ok (nb := 5) (ok_pickF (v := V.one (.sc _)) rfl rfl rfl) rfl (gle rfl)) rfl ?_
                          refine SV.op (OpL.ok (nb := 5) (ok_move (v := V.one (.sc _)) (.inl rfl) rfl) rfl (gle rfl)) rfl ?_
                          refine SV.split (d := 114) rfl (fun hg6 => ?_) (fun hg6 => ?_)
                          · skip   -- g6.T
                            (exfalso; first | (simp at hg6; done) | (simp at hg6; omega))
                          · skip   -- g6.F
                            refine SV.opY (OpL.ok (nb := 5) (ok_move (v := V.one (.sc _)) (.inl rfl) rfl) rfl (gle rfl)) rfl rfl rfl (gle rfl) rfl rfl ?_
                            refine SV.opY (OpL.ok (nb := 5) (ok_move (v := V.one (.sc _)) (.inl rfl) rfl) rfl (gle rfl)) rfl rfl rfl (gle rfl) rfl rfl ?_
                            refine SV.opY (OpL.ok (nb := 5) (ok_s2 (x := .tmp 115) (x' := .tmp 116) (VScal.one rfl) (VScal.one rfl) (fun ρ h1 h2 w => by go_simp; (try go_bits); with_reducible rfl) rfl) rfl (gle rfl)) rfl rfl rfl (gle rfl) rfl rfl ?_
                            refine SV.op (OpL.ok (nb := 5) (ok_pickF (v := V.one (.sc _)) rfl rfl rfl) rfl (gle rfl)) rfl ?_
                            refine SV.nil ?_
                            refine SV.tn ?_
                            refine SV.cond rfl (fun hc6 => ?_) (fun hc6 => ?_)
                            · skip   -- c6.T
                              (exfalso; first | (simp at hc6; done) | (simp at hc6; omega))
                            · skip   -- c6.F
                              refine SV.skip ?_
                              refine SV.tn ?_
                              refine SV.seq' ?_
                              refine SV.region ?_
                              refine SV.op (OpL.ok (nb := 5) (ok_move (v := V.one (.sc _)) (.inr rfl) rfl) rfl (gle rfl)) rfl ?_
                              refine SV.nil ?_
                              refine SV.tn ?_
                              refine SV.seq' ?_
                              refine SV.region ?_
                              refine SV.op (OpL.ok (nb := 5) (ok_load_bp (b := 3) (i := 0) (ag := true) (m := 4) (ys := [.sc _, .sc _, .hd 6, .hd 7]) rfl rfl rfl agg_impl_Broker sz_impl_Broker (fun h => by cases h) rfl rfl (gle rfl)) rfl (gle rfl)) rfl ?_
                              refine SV.op (OpL.ok (nb := 5) (ok_move (v := V.one (.sc _)) (.inl rfl) rfl) rfl (gle rfl)) rfl ?_
                              refine SV.op (OpMk.ok (ok_call (ls := [(false, [.sc _])]) rfl rfl ⟨_, _, Try.func42, rfl, by decide⟩ (vhdv_broker Y0 (1) (by omega) (by omega)) ⟨⟨[.sc _, .sc _, .hd 6, .hd 7], rfl, ⟨rfl, rfl, rfl, rfl, trivial⟩⟩, ⟨[.sc _], rfl, ⟨rfl, trivial⟩⟩, trivial⟩ rfl (gle rfl))) rfl ?_
                              refine SV.op (OpL.ok (nb := 5) (ok_move (v := V.one (.sc _)) (.inr rfl) rfl) rfl (gle rfl)) rfl ?_
                              refine SV.nil ?_
                              refine SV.tn ?_
                              refine SV.seq' ?_
                              refine SV.seq' ?_
                              refine SV.region ?_
                              refine SV.op (OpL.ok (nb := 5) (ok_move (v := V.one (.sc _)) (.inl rfl) rfl) rfl (gle rfl)) rfl ?_
                              refine SV.op (OpL.ok (nb := 5) (ok_s2 (x := .tmp 122) (x' := .const ((Value.int IntKind.i64 0))) (VScal.one rfl) (VScal.one rfl) (fun ρ h1 h2 w => by go_simp; (try go_bits); with_reducible rfl) rfl) rfl (gle rfl)) rfl ?_
                              refine SV.nil ?_
                              refine SV.tn ?_
                              refine SV.cond rfl (fun hc7 => ?_) (fun hc7 => ?_)
                              · skip   -- c7.T
                                (exfalso; first | (simp at hc7; done) | (simp at hc7; omega))
                              · skip   -- c7.F
                                refine SV.skip ?_
                                refine SV.tn ?_
                                refine SV.seq' ?_
                                refine SV.seq' ?_
                                refine SV.region ?_
                                refine SV.op (OpL.ok (nb := 5) (ok_move (v := V.one (.sc _)) (.inl rfl) rfl) rfl (gle rfl)) rfl ?_
                                refine SV.op (OpL.ok (nb := 5) (ok_move (v := V.one (.sc _)) (.inl rfl) rfl) rfl (gle rfl)) rfl ?_
                                refine SV.op (OpL.ok (nb := 5) (ok_s2 (x := .tmp 124) (x' := .tmp 125) (VScal.one rfl) (VScal.one rfl) (fun ρ h1 h2 w => by go_simp; (try go_bits); with_reducible rfl) rfl) rfl (gle rfl)) rfl ?_
                                refine SV.nil ?_
                                refine SV.tn ?_
                                refine SV.cond rfl (fun hc8 => ?_) (fun hc8 => ?_)
                                · skip   -- c8.T
                                  (exfalso; first | (simp at hc8; done) | (simp at hc8; omega))
                                · skip   -- c8.F
                                  refine SV.skip ?_
                                  refine SV.tn ?_
                                  refine SV.seq' ?_
                                  refine SV.region ?_
                                  refine SV.op (OpL.ok (nb := 5) (ok_move (v := V.one (.sc _)) (.inr rfl) rfl) rfl (gle rfl)) rfl ?_
                                  refine SV.nil ?_
                                  refine SV.tn ?_
                                  refine SV.ret ?_
                                  apply SV.done (hf := Try.results8) (ht := rfl) (he := .inl rfl)
                                  case hr => exact (ResAll.cons (ResOk.tmp (ag := false) (xs := [.sc _]) rfl) ResAll.nil')
                                  case h2 => simp [two]
                                  refine ⟨rfl, ⟨?_, trivial⟩, trivial⟩ <;> rfl
theorem walk (v0 : Value) (X0 : BrokerD) (w : World) (o0 : okBroker X0) (g0 : ArgT w true (uBroker X0) v0) (a1 : Int) (o1 : (Lit.int .i64 a1).wf = true) (a2 : Int) (o2 : (Lit.int .i64 a2).wf = true) : Calls Try.prog 8 #[v0, .int .i64 a1, .int .i64 a2] w fun e w' => e = .returned (.bool true) ∧ Below w.heap.size w w' :=
  VC.law (vlaw X0 a1 a2 (BrokerD.add X0 a1 a2) (BrokerD.addId X0 a1 a2) (BrokerD.canAdd X0 a1 a2) (fun hw => vadd_s X0 a1 a2 (by have h1 := wt_client_len X0.fActive; have h2 := wt_client_len X0.fWaiting; have h3 : wtBroker X0 = wtClients X0.fActive + wtClients X0.fWaiting := rfl; omega) (by have h1 := wt_client_len X0.fActive; have h2 := wt_client_len X0.fWaiting; have h3 : wtBroker X0 = wtClients X0.fActive + wtClients X0.fWaiting := rfl; omega)) (fun hw => vadd_i X0 a1 a2 (by have h1 := wt_client_len X0.fActive; have h2 := wt_client_len X0.fWaiting; have h3 : wtBroker X0 = wtClients X0.fActive + wtClients X0.fWaiting := rfl; omega) (by have h1 := wt_client_len X0.fActive; have h2 := wt_client_len X0.fWaiting; have h3 : wtBroker X0 = wtClients X0.fActive + wtClients X0.fWaiting := rfl; omega)) (fun hw => (by have hw3 : wtBroker X0 = wtClients X0.fActive + wtClients X0.fWaiting := rfl; have hz := BrokerD.wt_add X0 a1 a2; omega))) (argsIn_cons g0 (argsIn_cons (ArgT.lit rfl) (argsIn_cons (ArgT.lit rfl) argsIn_nil)))
/-! ### The row's step -/
theorem own : ownKnob Try.prog.godebug = none := by kernel_rfl
theorem laidOut : laidOutB Try.prog = true := by kernel_rfl
set_option maxRecDepth 100000 in
theorem lifted (os : Os) (started : os.Started) (H : Type) (enc : TypeId × Value → H) :
    ReturnsInHanded {} Try.checked os 8 .any (Rows.fnExactAddClientSpec.pre6 enc Try.prog Try.f8 Rows.fnExactAddClientRow.domain false) (Rows.fnExactAddClientSpec.post enc Try.prog Try.f8 false true false false) := by
  refine returnsInHanded_of_change (C := Try.checked) own started (by kernel_rfl) Try.func8
    (ChangeSpec.witness6 (enc := enc) (C := Try.checked) false ⟨#[], #[.agg #[.int .i64 0, .int .i64 0, .slice none 0 0, .slice none 0 0], .int .i64 0, .int .i64 0], []⟩ 8 (by kernel_rfl) (by kernel_rfl) (by kernel_rfl) (by kernel_rfl)) ?_
  intro W base args ds gs before hval0 hW hcnd hsz
  have hval : ∀ (j : Nat) t v, Try.f8.params[j]? = some t → args[j]? = some v → Value.okWide Try.prog W .any base t v := hval0
  have hW' := hW
  obtain ⟨p, q, hA0, hV, rfl, hfz, hnd⟩ := hW
  have hA : DataW.TrodAll enc Try.prog W 0 (fun _ => true) true Try.f8.params.toList args.toList ds p := hA0
  rw [Try.params8] at hA hval
  obtain ⟨v0, vs0, d0, ds0, p0, q0, hargs, rfl, rfl, h0, r0⟩ := trodAll_cons hA
  obtain ⟨v1, vs1, d1, ds1, p1, q1, rfl, rfl, rfl, h1, r1⟩ := trodAll_cons r0
  obtain ⟨v2, vs2, d2, ds2, p2, q2, rfl, rfl, rfl, h2, r2⟩ := trodAll_cons r1
  obtain ⟨rfl, rfl, rfl⟩ := trodAll_nil r2
  obtain rfl : args = #[v0, v1, v2] := by cases args; simp_all
  obtain ⟨rfl, rfl⟩ := trodVars_none hV
  have k0 := h0
  have lt0 : ∀ x ∈ p0, x.block < W.heap.size := by obtain ⟨m, hm⟩ := k0; exact DataW.trod_lt m _ _ _ hm
  obtain ⟨L0, o0, g0⟩ := OpensT.broker.val Try.underlying55 (by kernel_rfl) (hval 0 55 v0 rfl rfl) h0
  obtain ⟨a1, rfl, rfl, rfl, w1⟩ := open_int Try.underlying3 (hval 1 3 v1 rfl rfl) h1
  obtain ⟨a2, rfl, rfl, rfl, w2⟩ := open_int Try.underlying3 (hval 2 3 v2 rfl rfl) h2
  clear hA0 hval0
  refine (walk v0 L0 W o0 g0 a1 w1 a2 w2).mono fun e W' ⟨he, bel⟩ => ?_
  subst he
  exact ⟨_, rfl, _, _, _, [], _, [], hW', trodAll_mk1 (shut_bool Try.underlying4 _), (trodAll_cons_mk (Below.trod laidOut (by kernel_rfl) (of_decide_eq_true (by kernel_rfl)) k0 bel lt0) (trodAll_cons_mk (shut_int Try.underlying3 w1) (trodAll_cons_mk (shut_int Try.underlying3 w2) trodAll_mk0))), rfl, bel.frame _, fun h => by cases h⟩
theorem over : Rows.fnExactAddClientRow.holds Try.pinned (OpenSpec.ofChange Rows.fnExactAddClientSpec) :=
  OpenClaim.holds_of_wide 8 Try.f8 rfl rfl rfl rfl rfl rfl rfl ⟨rfl, rfl, rfl, rfl, rfl⟩ rfl rfl rfl rfl rfl (by kernel_rfl) Try.func8 (by kernel_rfl)
    (of_decide_eq_true (by kernel_rfl)) (by unfold Func.isWrapper; first | (rw [if_pos (by decide +kernel)]; kernel_rfl) | (rw [if_neg (by decide +kernel)]; exact ⟨rfl, rfl⟩))
    (fun os started H enc _ => lifted os started H enc)
theorem proved : Rows.FnExactAddClientSaid := over
#print axioms proved
end Go.Proofs.Ytfghhjcfmmhacaa.FnExactAddClient
