/- Texts joined: BriB BriAdd ClMem VP VY BriC BriF BriS BriDel BriIns BriInsG BriInsV BriRem VHd BriReq Ord OrdM. -/
import Derived.Test.YtfghhjcfmmhacaaPartAe
import Derived.Deep.OwnRows
import Derived.Laws.IdiomCopy
import Derived.Deep.RegionLaw
import Derived.Deep.CutRange
import Derived.Lib.Overlaps
import Derived.Lib.AppendZerosOnto
import Derived.Deep.AppendLies
import Derived.Sort.LotA
set_option linter.unusedSimpArgs false
set_option linter.unusedVariables false
/- The program's copies and comparisons of brokers: told by trees. -/
namespace Go.Proofs.Ytfghhjcfmmhacaa
open Go Go.RowKit V
set_option linter.unusedVariables false
set_option maxRecDepth 100000 in
set_option maxHeartbeats 2000000 in
theorem vclonec (X : List ClientD) (hX : X.length ≤ 350000000000) : VC Try.prog 84 [(false, [.seq 35 ((X).map tClient)])] false [(false, [.seq 35 ((X).map tClient)])] := by
  refine VC.enter Try.func84 rfl Try.ntmps84 (gle rfl) fun E hE => ?_
  refine SV.seq' ?_
  refine SV.region ?_
  refine SV.op (OpL.ok (nb := 0) (ok_move (v := V.one (.sc _)) (.inr rfl) rfl) rfl (gle rfl)) rfl ?_
  refine SV.nil ?_
  refine SV.tn ?_
  refine SV.seq' ?_
  refine SV.seq' ?_
  refine SV.region ?_
  refine SV.op (OpL.ok (nb := 0) (ok_move (v := V.one (.ro _)) (.inl rfl) rfl) rfl (gle rfl)) rfl ?_
  refine SV.isnil (d := 4) (x := .tmp 3) (y := .const ((Value.slice none 0 0))) rfl rfl rfl (gle rfl) rfl (fun ρ ad n c w h1 h2 => by (cases ad <;> (go_simp; first | done | rfl | (simp [h1, h2]; done)))) (fun hg0 => ?_) ?_
  · skip   -- g0.T
    refine SV.nil ?_
    refine SV.tn ?_
    refine SV.cond rfl (fun hc0 => ?_) (fun hc0 => ?_)
    · skip   -- c0.T
      refine SV.seq' ?_
      refine SV.region ?_
      refine SV.op (OpL.ok (nb := 0) (ok_move (v := V.one (.sc _)) (.inr rfl) rfl) rfl (gle rfl)) rfl ?_
      refine SV.nil ?_
      refine SV.tn ?_
      refine SV.ret ?_
      refine SV.tr ?_
      refine SV.nlsc (s := 2) (kk := 0) (n := 3) rfl rfl (by decide) sz_impl_Client (gle rfl) ?_
      apply SV.done (hf := Try.results84) (ht := rfl) (he := .inr rfl)
      case hr => exact (ResAll.cons (ResOk.tmp (ag := false) (xs := [.hd 0]) rfl) ResAll.nil')
      case h2 => simp [two]
      refine ⟨rfl, ⟨?_, trivial⟩, trivial⟩ <;> (show some (T.seq _ _) = some (T.seq _ _); first | rfl | (rw [hg0]; done) | (simp; done))
    · skip   -- c0.F
      cases hc0
  · skip   -- g0.F
    refine SV.nil ?_
    refine SV.tn ?_
    refine SV.cond rfl (fun hc1 => ?_) (fun hc1 => ?_)
    · skip   -- c1.T
      cases hc1
    · skip   -- c1.F
      refine SV.skip ?_
      refine SV.tn ?_
      refine SV.seq' ?_
      refine SV.region ?_
      refine SV.op (OpMk.ok (ok_lit0 (kk := 0) elt_impl_Client rfl rfl rfl (gle rfl))) rfl ?_
      refine SV.op (OpL.ok (nb := 0) (ok_move (v := V.one (.ro _)) (.inl rfl) rfl) rfl (gle rfl)) rfl ?_
      refine SV.op (OpMk.ok (ok_append_ro (kk := 1) elt_impl_Client (ls := .hd 0) (lx := .ro _) rfl rfl rfl rfl rfl rfl (flat_impl_Client _) (by simp; omega) rfl (gle rfl))) rfl ?_
      refine SV.op (OpL.ok (nb := 0) (ok_move (v := V.one (.hd 1)) (.inr rfl) rfl) rfl (gle rfl)) rfl ?_
      refine SV.nil ?_
      refine SV.tn ?_
      refine SV.ret ?_
      apply SV.done (hf := Try.results84) (ht := rfl) (he := .inl rfl)
      case hr => exact (ResAll.cons (ResOk.tmp (ag := false) (xs := [.hd 1]) rfl) ResAll.nil')
      case h2 => simp [two]
      refine ⟨rfl, ⟨?_, trivial⟩, trivial⟩ <;> (show some (T.seq _ _) = some (T.seq _ _); first | rfl | (rw [hg0]; done) | (simp; done))
set_option maxRecDepth 100000 in
set_option maxHeartbeats 2000000 in
theorem vcloneb_i (b : BrokerD) (hA : b.fActive.length ≤ 1000000000) (hW : b.fWaiting.length ≤ 1000000000) : VC Try.prog 60 [(true, tBroker b)] false [(true, tBroker (b))] := by
  refine VC.enter Try.func60 rfl Try.ntmps60 (gle rfl) fun E hE => ?_
  refine SV.seq' ?_
  refine SV.region ?_
  refine SV.op (OpMk.ok (ok_box (kk := 0) (ag := true) (xs := [.sc _, .sc _, .ro _, .ro _]) rfl rfl rfl (fun h => by cases h) rfl rfl (gle rfl))) rfl ?_
  refine SV.op (OpMk.ok (ok_alloc (kk := 1) (xs := [.sc _, .sc _, .nl _, .nl _]) rfl rfl zero_impl_Broker ⟨rfl, rfl, rfl, rfl, rfl, ⟨3, by decide, sz_impl_Client⟩, rfl, ⟨3, by decide, sz_impl_Client⟩, trivial⟩ rfl (gle rfl))) rfl ?_
  refine SV.nil ?_
  refine SV.tn ?_
  refine SV.seq' ?_
  refine SV.region ?_
  refine SV.op (OpL.ok (nb := 2) (ok_field_bp (b := 0) (o' := 0) (off := 2) rfl rfl fld_impl_Broker_2) rfl (gle rfl)) rfl ?_
  refine SV.op (OpL.ok (nb := 2) (ok_load_bp (b := 0) (i := 2) (ag := false) (m := 1) (ys := [.ro _]) rfl rfl rfl agg_s_impl_Client sz_s_impl_Client (fun _ => rfl) rfl rfl (gle rfl)) rfl (gle rfl)) rfl ?_
  refine SV.op (OpMk.ok (ok_call (ls := [(false, [.hd 0])]) rfl rfl ⟨_, _, Try.func84, rfl, by decide⟩ (vclonec b.fActive (by omega)) ⟨⟨[.ro _], rfl, ⟨rfl, trivial⟩⟩, trivial⟩ rfl (gle rfl))) rfl ?_
  refine SV.op (OpL.ok (nb := 2) (ok_field_bp (b := 0) (o' := 0) (off := 2) rfl rfl fld_impl_Broker_2) rfl (gle rfl)) rfl ?_
  refine SV.op (ok_store_bp (b := 0) (i := 2) (m := 1) (ag := false) (zs := [.hd 0]) (ys := [.sc _, .sc _, .hd 0, .ro _]) rfl rfl rfl rfl sz_s_impl_Client (fun _ => rfl) rfl (gle rfl) rfl rfl rfl) rfl ?_
  refine SV.nil ?_
  refine SV.tn ?_
  refine SV.seq' ?_
  refine SV.region ?_
  refine SV.op (OpL.ok (nb := 2) (ok_field_bp (b := 0) (o' := 0) (off := 3) rfl rfl fld_impl_Broker_3) rfl (gle rfl)) rfl ?_
  refine SV.op (OpL.ok (nb := 2) (ok_load_bp (b := 0) (i := 3) (ag := false) (m := 1) (ys := [.ro _]) rfl rfl rfl agg_s_impl_Client sz_s_impl_Client (fun _ => rfl) rfl rfl (gle rfl)) rfl (gle rfl)) rfl ?_
  refine SV.op (OpMk.ok (ok_call (ls := [(false, [.hd 1])]) rfl rfl ⟨_, _, Try.func84, rfl, by decide⟩ (vclonec b.fWaiting (by omega)) ⟨⟨[.ro _], rfl, ⟨rfl, trivial⟩⟩, trivial⟩ rfl (gle rfl))) rfl ?_
  refine SV.op (OpL.ok (nb := 2) (ok_field_bp (b := 0) (o' := 0) (off := 3) rfl rfl fld_impl_Broker_3) rfl (gle rfl)) rfl ?_
  refine SV.op (ok_store_bp (b := 0) (i := 3) (m := 1) (ag := false) (zs := [.hd 1]) (ys := [.sc _, .sc _, .hd 0, .hd 1]) rfl rfl rfl rfl sz_s_impl_Client (fun _ => rfl) rfl (gle rfl) rfl rfl rfl) rfl ?_
  refine SV.nil ?_
  refine SV.tn ?_
  refine SV.seq' ?_
  refine SV.region ?_
  refine SV.op (OpL.ok (nb := 2) (ok_load_bp (b := 0) (i := 0) (ag := true) (m := 4) (ys := [.sc _, .sc _, .hd 0, .hd 1]) rfl rfl rfl agg_impl_Broker sz_impl_Broker (fun h => by cases h) rfl rfl (gle rfl)) rfl (gle rfl)) rfl ?_
  refine SV.op (ok_store_bp (b := 1) (i := 0) (m := 4) (ag := true) (zs := [.sc _, .sc _, .hd 0, .hd 1]) (ys := [.sc _, .sc _, .hd 0, .hd 1]) rfl rfl rfl rfl sz_impl_Broker (fun h => by cases h) rfl (gle rfl) rfl rfl rfl) rfl ?_
  refine SV.nil ?_
  refine SV.tn ?_
  refine SV.ret ?_
  apply SV.done (hf := Try.results60) (ht := rfl) (he := .inl rfl)
  case hr => exact (ResAll.cons (ResOk.cell (b := 1) (ag := true) (xs := [.sc _, .sc _, .hd 0, .hd 1]) rfl rfl agg_impl_Broker sz_impl_Broker (fun h => by cases h)) ResAll.nil')
  case h2 => simp [two]
  refine ⟨rfl, ⟨?_, ?_, ?_, ?_, trivial⟩, trivial⟩ <;> rfl
end Go.Proofs.Ytfghhjcfmmhacaa
/- The program's AddClient: told by trees. -/
namespace Go.Proofs.Ytfghhjcfmmhacaa
open Go Go.RowKit V
set_option linter.unusedVariables false
set_option maxRecDepth 100000 in
set_option maxHeartbeats 2000000 in
theorem vadd_i (b : BrokerD) (w p : Int) (hA : b.fActive.length ≤ 1000000000) (hW : b.fWaiting.length ≤ 1000000000) : VC Try.prog 23 [(true, tBroker b), (false, [.lit (.int .i64 (w))]), (false, [.lit (.int .i64 (p))])] true [(true, tBroker (BrokerD.add b w p)), (false, [.lit (.int .i64 (BrokerD.addId b w p))]), (false, [.lit (.bool (BrokerD.canAdd b w p))])] := by
  refine VC.enter Try.func23 rfl Try.ntmps23 (gle rfl) fun E hE => ?_
  refine SV.seq' ?_
  refine SV.region ?_
  refine SV.op (OpMk.ok (ok_box (kk := 0) (ag := true) (xs := [.sc _, .sc _, .ro _, .ro _]) rfl rfl rfl (fun h => by cases h) rfl rfl (gle rfl))) rfl ?_
  refine SV.op (OpMk.ok (ok_alloc (kk := 1) (xs := [.sc _, .sc _, .nl _, .nl _]) rfl rfl zero_impl_Broker ⟨rfl, rfl, rfl, rfl, rfl, ⟨3, by decide, sz_impl_Client⟩, rfl, ⟨3, by decide, sz_impl_Client⟩, trivial⟩ rfl (gle rfl))) rfl ?_
  refine SV.op (OpL.ok (nb := 2) (ok_move (v := V.one (.sc _)) (.inr rfl) rfl) rfl (gle rfl)) rfl ?_
  refine SV.op (OpL.ok (nb := 2) (ok_move (v := V.one (.sc _)) (.inr rfl) rfl) rfl (gle rfl)) rfl ?_
  refine SV.nil ?_
  refine SV.tn ?_
  refine SV.seq' ?_
  refine SV.region ?_
  refine SV.op (OpL.ok (nb := 2) (ok_load_bp (b := 0) (i := 0) (ag := true) (m := 4) (ys := [.sc _, .sc _, .ro _, .ro _]) rfl rfl rfl agg_impl_Broker sz_impl_Broker (fun h => by cases h) rfl rfl (gle rfl)) rfl (gle rfl)) rfl ?_
  refine SV.op (OpMk.ok (ok_call (ls := [(true, [.sc _, .sc _, .hd 0, .hd 1])]) rfl rfl ⟨_, _, Try.func60, rfl, by decide⟩ (vcloneb_i b (by omega) (by omega)) ⟨⟨[.sc _, .sc _, .ro _, .ro _], rfl, ⟨rfl, rfl, rfl, rfl, trivial⟩⟩, trivial⟩ rfl (gle rfl))) rfl ?_
  refine SV.op (OpMk.ok (ok_alloc (kk := 2) (xs := [.sc _, .sc _, .nl _, .nl _]) rfl rfl zero_impl_Broker ⟨rfl, rfl, rfl, rfl, rfl, ⟨3, by decide, sz_impl_Client⟩, rfl, ⟨3, by decide, sz_impl_Client⟩, trivial⟩ rfl (gle rfl))) rfl ?_
  refine SV.op (ok_store_bp (b := 2) (i := 0) (m := 4) (ag := true) (zs := [.sc _, .sc _, .hd 0, .hd 1]) (ys := [.sc _, .sc _, .hd 0, .hd 1]) rfl rfl rfl rfl sz_impl_Broker (fun h => by cases h) rfl (gle rfl) rfl rfl rfl) rfl ?_
  refine SV.nil ?_
  refine SV.tn ?_
  refine SV.seq' ?_
  refine SV.seq' ?_
  refine SV.region ?_
  refine SV.op (OpL.ok (nb := 3) (ok_load_bp (b := 0) (i := 0) (ag := true) (m := 4) (ys := [.sc _, .sc _, .ro _, .ro _]) rfl rfl rfl agg_impl_Broker sz_impl_Broker (fun h => by cases h) rfl rfl (gle rfl)) rfl (gle rfl)) rfl ?_
  refine SV.op (OpMk.ok (ok_call (ls := [(false, [.sc _])]) rfl rfl ⟨_, _, Try.func19, rfl, by decide⟩ (vokb_i b (by omega) (by omega)) ⟨⟨[.sc _, .sc _, .ro _, .ro _], rfl, ⟨rfl, rfl, rfl, rfl, trivial⟩⟩, trivial⟩ rfl (gle rfl))) rfl ?_
  refine SV.op (OpL.ok (nb := 3) (ok_s1 (x := .tmp 14) (VScal.one rfl) (fun ρ h1 w => by go_simp; (try go_bits); with_reducible rfl) rfl) rfl (gle rfl)) rfl ?_
  refine SV.op (OpL.ok (nb := 3) (ok_move (v := V.one (.sc _)) (.inl rfl) rfl) rfl (gle rfl)) rfl ?_
  refine SV.split (d := 16) rfl (fun hg0 => ?_) (fun hg0 => ?_)
  · skip   -- g0.T
    refine SV.opN rfl rfl rfl (gle rfl) rfl rfl rfl (gle rfl) ?_
    refine SV.opN rfl rfl rfl (gle rfl) rfl rfl rfl (gle rfl) ?_
    refine SV.opN rfl rfl rfl (gle rfl) rfl rfl rfl (gle rfl) ?_
    refine SV.opN rfl rfl rfl (gle rfl) rfl rfl rfl (gle rfl) ?_
    refine SV.op (OpL.ok (nb := 3) (ok_pickT (v := V.one (.sc _)) rfl rfl rfl) rfl (gle rfl)) rfl ?_
    refine SV.nil ?_
    refine SV.tn ?_
    refine SV.cond rfl (fun hc0 => ?_) (fun hc0 => ?_)
    · skip   -- c0.T
      have hcan : BrokerD.canAdd b w p = false := by
        rw [Bool.eq_false_iff]
        intro h
        obtain ⟨h1, h2, h3, h4, h5⟩ := (BrokerD.canAdd_iff b w p).1 h
        unfold BrokerD.isWant at *
        simp [h1] at *
        try omega
      obtain ⟨ho, hid⟩ := BrokerD.add_no hcan
      refine SV.seq' ?_
      refine SV.region ?_
      refine SV.op (OpL.ok (nb := 3) (ok_load_bp (b := 2) (i := 0) (ag := true) (m := 4) (ys := [.sc _, .sc _, .hd 0, .hd 1]) rfl rfl rfl agg_impl_Broker sz_impl_Broker (fun h => by cases h) rfl rfl (gle rfl)) rfl (gle rfl)) rfl ?_
      refine SV.op (ok_store_bp (b := 1) (i := 0) (m := 4) (ag := true) (zs := [.sc _, .sc _, .hd 0, .hd 1]) (ys := [.sc _, .sc _, .hd 0, .hd 1]) rfl rfl rfl rfl sz_impl_Broker (fun h => by cases h) rfl (gle rfl) rfl rfl rfl) rfl ?_
      refine SV.op (OpL.ok (nb := 3) (ok_move (v := V.one (.sc _)) (.inr rfl) rfl) rfl (gle rfl)) rfl ?_
      refine SV.op (OpL.ok (nb := 3) (ok_move (v := V.one (.sc _)) (.inr rfl) rfl) rfl (gle rfl)) rfl ?_
      refine SV.nil ?_
      refine SV.tn ?_
      refine SV.ret ?_
      refine SV.tr ?_
      apply SV.done (hf := Try.results23) (ht := rfl) (he := .inl rfl)
      case hr => exact (ResAll.cons (ResOk.cell (b := 1) (ag := true) (xs := [.sc _, .sc _, .hd 0, .hd 1]) rfl rfl agg_impl_Broker sz_impl_Broker (fun h => by cases h)) (ResAll.cons (ResOk.tmp (ag := false) (xs := [.sc _]) rfl) (ResAll.cons (ResOk.tmp (ag := false) (xs := [.sc _]) rfl) ResAll.nil')))
      case h2 => simp [two]
      refine ⟨rfl, ⟨?_, ?_, ?_, ?_, trivial⟩, ⟨rfl, ⟨?_, trivial⟩, ⟨rfl, ⟨?_, trivial⟩, trivial⟩⟩⟩ <;> first | rfl | (rw [ho]; rfl) | ((show some (T.seq _ _) = some (T.seq _ _); refine congrArg (fun z => some (T.seq _ z)) ?_; rw [ho]; first | done | rfl | (simp [tClient]; done) | (simp [List.map_set, tClient]; done))) | ((show some (T.lit (Value.int .i64 _)) = some (T.lit (Value.int .i64 _)); refine congrArg (fun z => some (T.lit (Value.int .i64 z))) ?_; rw [ho]; first | done | rfl)) | ((show some (T.lit (Value.bool _)) = some (T.lit (Value.bool _)); refine congrArg (fun z => some (T.lit (Value.bool z))) ?_; rw [ho]; first | done | rfl | (simp; done))) | (rw [hid]; rfl) | ((show some (T.seq _ _) = some (T.seq _ _); refine congrArg (fun z => some (T.seq _ z)) ?_; rw [hid]; first | done | rfl | (simp [tClient]; done) | (simp [List.map_set, tClient]; done))) | ((show some (T.lit (Value.int .i64 _)) = some (T.lit (Value.int .i64 _)); refine congrArg (fun z => some (T.lit (Value.int .i64 z))) ?_; rw [hid]; first | done | rfl)) | ((show some (T.lit (Value.bool _)) = some (T.lit (Value.bool _)); refine congrArg (fun z => some (T.lit (Value.bool z))) ?_; rw [hid]; first | done | rfl | (simp; done))) | (rw [hcan]; rfl) | ((show some (T.seq _ _) = some (T.seq _ _); refine congrArg (fun z => some (T.seq _ z)) ?_; rw [hcan]; first | done | rfl | (simp [tClient]; done) | (simp [List.map_set, tClient]; done))) | ((show some (T.lit (Value.int .i64 _)) = some (T.lit (Value.int .i64 _)); refine congrArg (fun z => some (T.lit (Value.int .i64 z))) ?_; rw [hcan]; first | done | rfl)) | ((show some (T.lit (Value.bool _)) = some (T.lit (Value.bool _)); refine congrArg (fun z => some (T.lit (Value.bool z))) ?_; rw [hcan]; first | done | rfl | (simp; done)))
    · skip   -- c0.F
      cases hc0
  · skip   -- g0.F
    refine SV.opY (OpL.ok (nb := 3) (ok_move (v := V.one (.sc _)) (.inl rfl) rfl) rfl (gle rfl)) rfl rfl rfl (gle rfl) rfl rfl ?_
    refine SV.opY (OpL.ok (nb := 3) (ok_move (v := V.one (.sc _)) (.inl rfl) rfl) rfl (gle rfl)) rfl rfl rfl (gle rfl) rfl rfl ?_
    refine SV.opY (OpMk.ok (ok_call (ls := [(false, [.sc _])]) rfl rfl ⟨_, _, Try.func61, rfl, by decide⟩ (visdem_i w p) ⟨⟨[.sc _], rfl, ⟨rfl, trivial⟩⟩, ⟨[.sc _], rfl, ⟨rfl, trivial⟩⟩, trivial⟩ rfl (gle rfl))) rfl rfl rfl (gle rfl) rfl rfl ?_
    refine SV.opY (OpL.ok (nb := 3) (ok_s1 (x := .tmp 19) (VScal.one rfl) (fun ρ h1 w => by go_simp; (try go_bits); with_reducible rfl) rfl) rfl (gle rfl)) rfl rfl rfl (gle rfl) rfl rfl ?_
    refine SV.op (OpL.ok (nb := 3) (ok_pickF (v := V.one (.sc _)) rfl rfl rfl) rfl (gle rfl)) rfl ?_
    refine SV.nil ?_
    refine SV.tn ?_
    refine SV.cond rfl (fun hc1 => ?_) (fun hc1 => ?_)
    · skip   -- c1.T
      have hcan : BrokerD.canAdd b w p = false := by
        rw [Bool.eq_false_iff]
        intro h
        obtain ⟨h1, h2, h3, h4, h5⟩ := (BrokerD.canAdd_iff b w p).1 h
        unfold BrokerD.isWant at *
        simp [h1] at *
        try omega
      obtain ⟨ho, hid⟩ := BrokerD.add_no hcan
      refine SV.seq' ?_
      refine SV.region ?_
      refine SV.op (OpL.ok (nb := 3) (ok_load_bp (b := 2) (i := 0) (ag := true) (m := 4) (ys := [.sc _, .sc _, .hd 0, .hd 1]) rfl rfl rfl agg_impl_Broker sz_impl_Broker (fun h => by cases h) rfl rfl (gle rfl)) rfl (gle rfl)) rfl ?_
      refine SV.op (ok_store_bp (b := 1) (i := 0) (m := 4) (ag := true) (zs := [.sc _, .sc _, .hd 0, .hd 1]) (ys := [.sc _, .sc _, .hd 0, .hd 1]) rfl rfl rfl rfl sz_impl_Broker (fun h => by cases h) rfl (gle rfl) rfl rfl rfl) rfl ?_
      refine SV.op (OpL.ok (nb := 3) (ok_move (v := V.one (.sc _)) (.inr rfl) rfl) rfl (gle rfl)) rfl ?_
      refine SV.op (OpL.ok (nb := 3) (ok_move (v := V.one (.sc _)) (.inr rfl) rfl) rfl (gle rfl)) rfl ?_
      refine SV.nil ?_
      refine SV.tn ?_
      refine SV.ret ?_
      refine SV.tr ?_
      apply SV.done (hf := Try.results23) (ht := rfl) (he := .inl rfl)
      case hr => exact (ResAll.cons (ResOk.cell (b := 1) (ag := true) (xs := [.sc _, .sc _, .hd 0, .hd 1]) rfl rfl agg_impl_Broker sz_impl_Broker (fun h => by cases h)) (ResAll.cons (ResOk.tmp (ag := false) (xs := [.sc _]) rfl) (ResAll.cons (ResOk.tmp (ag := false) (xs := [.sc _]) rfl) ResAll.nil')))
      case h2 => simp [two]
      refine ⟨rfl, ⟨?_, ?_, ?_, ?_, trivial⟩, ⟨rfl, ⟨?_, trivial⟩, ⟨rfl, ⟨?_, trivial⟩, trivial⟩⟩⟩ <;> first | rfl | (rw [ho]; rfl) | ((show some (T.seq _ _) = some (T.seq _ _); refine congrArg (fun z => some (T.seq _ z)) ?_; rw [ho]; first | done | rfl | (simp [tClient]; done) | (simp [List.map_set, tClient]; done))) | ((show some (T.lit (Value.int .i64 _)) = some (T.lit (Value.int .i64 _)); refine congrArg (fun z => some (T.lit (Value.int .i64 z))) ?_; rw [ho]; first | done | rfl)) | ((show some (T.lit (Value.bool _)) = some (T.lit (Value.bool _)); refine congrArg (fun z => some (T.lit (Value.bool z))) ?_; rw [ho]; first | done | rfl | (simp; done))) | (rw [hid]; rfl) | ((show some (T.seq _ _) = some (T.seq _ _); refine congrArg (fun z => some (T.seq _ z)) ?_; rw [hid]; first | done | rfl | (simp [tClient]; done) | (simp [List.map_set, tClient]; done))) | ((show some (T.lit (Value.int .i64 _)) = some (T.lit (Value.int .i64 _)); refine congrArg (fun z => some (T.lit (Value.int .i64 z))) ?_; rw [hid]; first | done | rfl)) | ((show some (T.lit (Value.bool _)) = some (T.lit (Value.bool _)); refine congrArg (fun z => some (T.lit (Value.bool z))) ?_; rw [hid]; first | done | rfl | (simp; done))) | (rw [hcan]; rfl) | ((show some (T.seq _ _) = some (T.seq _ _); refine congrArg (fun z => some (T.seq _ z)) ?_; rw [hcan]; first | done | rfl | (simp [tClient]; done) | (simp [List.map_set, tClient]; done))) | ((show some (T.lit (Value.int .i64 _)) = some (T.lit (Value.int .i64 _)); refine congrArg (fun z => some (T.lit (Value.int .i64 z))) ?_; rw [hcan]; first | done | rfl)) | ((show some (T.lit (Value.bool _)) = some (T.lit (Value.bool _)); refine congrArg (fun z => some (T.lit (Value.bool z))) ?_; rw [hcan]; first | done | rfl | (simp; done)))
    · skip   -- c1.F
      refine SV.skip ?_
      refine SV.tn ?_
      refine SV.seq' ?_
      refine SV.seq' ?_
      refine SV.region ?_
      refine SV.op (OpL.ok (nb := 3) (ok_field_bp (b := 0) (o' := 0) (off := 1) rfl rfl fld_impl_Broker_1) rfl (gle rfl)) rfl ?_
      refine SV.op (OpL.ok (nb := 3) (ok_load_bp (b := 0) (i := 1) (ag := false) (m := 1) (ys := [.sc _]) rfl rfl rfl agg_int sz_int (fun _ => rfl) rfl rfl (gle rfl)) rfl (gle rfl)) rfl ?_
      refine SV.op (OpL.ok (nb := 3) (ok_s2 (x := .tmp 24) (x' := .const ((Value.int IntKind.i64 1000))) (VScal.one rfl) (VScal.one rfl) (fun ρ h1 h2 w => by go_simp; (try go_bits); with_reducible rfl) rfl) rfl (gle rfl)) rfl ?_
      refine SV.op (OpL.ok (nb := 3) (ok_move (v := V.one (.sc _)) (.inl rfl) rfl) rfl (gle rfl)) rfl ?_
      refine SV.split (d := 26) rfl (fun hg1 => ?_) (fun hg1 => ?_)
      · skip   -- g1.T
        refine SV.opN rfl rfl rfl (gle rfl) rfl rfl rfl (gle rfl) ?_
        refine SV.opN rfl rfl rfl (gle rfl) rfl rfl rfl (gle rfl) ?_
        refine SV.opN rfl rfl rfl (gle rfl) rfl rfl rfl (gle rfl) ?_
        refine SV.opN rfl rfl rfl (gle rfl) rfl rfl rfl (gle rfl) ?_
        refine SV.op (OpL.ok (nb := 3) (ok_pickT (v := V.one (.sc _)) rfl rfl rfl) rfl (gle rfl)) rfl ?_
        refine SV.nil ?_
        refine SV.tn ?_
        refine SV.cond rfl (fun hc2 => ?_) (fun hc2 => ?_)
        · skip   -- c2.T
          have hcan : BrokerD.canAdd b w p = false := by
            rw [Bool.eq_false_iff]
            intro h
            obtain ⟨h1, h2, h3, h4, h5⟩ := (BrokerD.canAdd_iff b w p).1 h
            unfold BrokerD.isWant at *
            simp [h1] at *
            try omega
          obtain ⟨ho, hid⟩ := BrokerD.add_no hcan
          refine SV.seq' ?_
          refine SV.region ?_
          refine SV.op (OpL.ok (nb := 3) (ok_load_bp (b := 2) (i := 0) (ag := true) (m := 4) (ys := [.sc _, .sc _, .hd 0, .hd 1]) rfl rfl rfl agg_impl_Broker sz_impl_Broker (fun h => by cases h) rfl rfl (gle rfl)) rfl (gle rfl)) rfl ?_
          refine SV.op (ok_store_bp (b := 1) (i := 0) (m := 4) (ag := true) (zs := [.sc _, .sc _, .hd 0, .hd 1]) (ys := [.sc _, .sc _, .hd 0, .hd 1]) rfl rfl rfl rfl sz_impl_Broker (fun h => by cases h) rfl (gle rfl) rfl rfl rfl) rfl ?_
          refine SV.op (OpL.ok (nb := 3) (ok_move (v := V.one (.sc _)) (.inr rfl) rfl) rfl (gle rfl)) rfl ?_
          refine SV.op (OpL.ok (nb := 3) (ok_move (v := V.one (.sc _)) (.inr rfl) rfl) rfl (gle rfl)) rfl ?_
          refine SV.nil ?_
          refine SV.tn ?_
          refine SV.ret ?_
          refine SV.tr ?_
          apply SV.done (hf := Try.results23) (ht := rfl) (he := .inl rfl)
          case hr => exact (ResAll.cons (ResOk.cell (b := 1) (ag := true) (xs := [.sc _, .sc _, .hd 0, .hd 1]) rfl rfl agg_impl_Broker sz_impl_Broker (fun h => by cases h)) (ResAll.cons (ResOk.tmp (ag := false) (xs := [.sc _]) rfl) (ResAll.cons (ResOk.tmp (ag := false) (xs := [.sc _]) rfl) ResAll.nil')))
          case h2 => simp [two]
          refine ⟨rfl, ⟨?_, ?_, ?_, ?_, trivial⟩, ⟨rfl, ⟨?_, trivial⟩, ⟨rfl, ⟨?_, trivial⟩, trivial⟩⟩⟩ <;> first | rfl | (rw [ho]; rfl) | ((show some (T.seq _ _) = some (T.seq _ _); refine congrArg (fun z => some (T.seq _ z)) ?_; rw [ho]; first | done | rfl | (simp [tClient]; done) | (simp [List.map_set, tClient]; done))) | ((show some (T.lit (Value.int .i64 _)) = some (T.lit (Value.int .i64 _)); refine congrArg (fun z => some (T.lit (Value.int .i64 z))) ?_; rw [ho]; first | done | rfl)) | ((show some (T.lit (Value.bool _)) = some (T.lit (Value.bool _)); refine congrArg (fun z => some (T.lit (Value.bool z))) ?_; rw [ho]; first | done | rfl | (simp; done))) | (rw [hid]; rfl) | ((show some (T.seq _ _) = some (T.seq _ _); refine congrArg (fun z => some (T.seq _ z)) ?_; rw [hid]; first | done | rfl | (simp [tClient]; done) | (simp [List.map_set, tClient]; done))) | ((show some (T.lit (Value.int .i64 _)) = some (T.lit (Value.int .i64 _)); refine congrArg (fun z => some (T.lit (Value.int .i64 z))) ?_; rw [hid]; first | done | rfl)) | ((show some (T.lit (Value.bool _)) = some (T.lit (Value.bool _)); refine congrArg (fun z => some (T.lit (Value.bool z))) ?_; rw [hid]; first | done | rfl | (simp; done))) | (rw [hcan]; rfl) | ((show some (T.seq _ _) = some (T.seq _ _); refine congrArg (fun z => some (T.seq _ z)) ?_; rw [hcan]; first | done | rfl | (simp [tClient]; done) | (simp [List.map_set, tClient]; done))) | ((show some (T.lit (Value.int .i64 _)) = some (T.lit (Value.int .i64 _)); refine congrArg (fun z => some (T.lit (Value.int .i64 z))) ?_; rw [hcan]; first | done | rfl)) | ((show some (T.lit (Value.bool _)) = some (T.lit (Value.bool _)); refine congrArg (fun z => some (T.lit (Value.bool z))) ?_; rw [hcan]; first | done | rfl | (simp; done)))
        · skip   -- c2.F
          cases hc2
      · skip   -- g1.F
        refine SV.opY (OpL.ok (nb := 3) (ok_field_bp (b := 0) (o' := 0) (off := 3) rfl rfl fld_impl_Broker_3) rfl (gle rfl)) rfl rfl rfl (gle rfl) rfl rfl ?_
        refine SV.opY (OpL.ok (nb := 3) (ok_load_bp (b := 0) (i := 3) (ag := false) (m := 1) (ys := [.ro _]) rfl rfl rfl agg_s_impl_Client sz_s_impl_Client (fun _ => rfl) rfl rfl (gle rfl)) rfl (gle rfl)) rfl rfl rfl (gle rfl) rfl rfl ?_
        refine SV.opY (OpL.ok (nb := 3) (ok_len (lf := .ro _) rfl elt_impl_Client.und rfl rfl) rfl (gle rfl)) rfl rfl rfl (gle rfl) rfl rfl ?_
        refine SV.opY (OpL.ok (nb := 3) (ok_s2 (x := .tmp 29) (x' := .const ((Value.int IntKind.i64 5))) (VScal.one rfl) (VScal.one rfl) (fun ρ h1 h2 w => by go_simp; (try go_bits); with_reducible rfl) rfl) rfl (gle rfl)) rfl rfl rfl (gle rfl) rfl rfl ?_
        refine SV.op (OpL.ok (nb := 3) (ok_pickF (v := V.one (.sc _)) rfl rfl rfl) rfl (gle rfl)) rfl ?_
        refine SV.nil ?_
        refine SV.tn ?_
        refine SV.cond rfl (fun hc3 => ?_) (fun hc3 => ?_)
        · skip   -- c3.T
          have hcan : BrokerD.canAdd b w p = false := by
            rw [Bool.eq_false_iff]
            intro h
            obtain ⟨h1, h2, h3, h4, h5⟩ := (BrokerD.canAdd_iff b w p).1 h
            unfold BrokerD.isWant at *
            simp [h1] at *
            try omega
          obtain ⟨ho, hid⟩ := BrokerD.add_no hcan
          refine SV.seq' ?_
          refine SV.region ?_
          refine SV.op (OpL.ok (nb := 3) (ok_load_bp (b := 2) (i := 0) (ag := true) (m := 4) (ys := [.sc _, .sc _, .hd 0, .hd 1]) rfl rfl rfl agg_impl_Broker sz_impl_Broker (fun h => by cases h) rfl rfl (gle rfl)) rfl (gle rfl)) rfl ?_
          refine SV.op (ok_store_bp (b := 1) (i := 0) (m := 4) (ag := true) (zs := [.sc _, .sc _, .hd 0, .hd 1]) (ys := [.sc _, .sc _, .hd 0, .hd 1]) rfl rfl rfl rfl sz_impl_Broker (fun h => by cases h) rfl (gle rfl) rfl rfl rfl) rfl ?_
          refine SV.op (OpL.ok (nb := 3) (ok_move (v := V.one (.sc _)) (.inr rfl) rfl) rfl (gle rfl)) rfl ?_
          refine SV.op (OpL.ok (nb := 3) (ok_move (v := V.one (.sc _)) (.inr rfl) rfl) rfl (gle rfl)) rfl ?_
          refine SV.nil ?_
          refine SV.tn ?_
          refine SV.ret ?_
          refine SV.tr ?_
          apply SV.done (hf := Try.results23) (ht := rfl) (he := .inl rfl)
          case hr => exact (ResAll.cons (ResOk.cell (b := 1) (ag := true) (xs := [.sc _, .sc _, .hd 0, .hd 1]) rfl rfl agg_impl_Broker sz_impl_Broker (fun h => by cases h)) (ResAll.cons (ResOk.tmp (ag := false) (xs := [.sc _]) rfl) (ResAll.cons (ResOk.tmp (ag := false) (xs := [.sc _]) rfl) ResAll.nil')))
          case h2 => simp [two]
          refine ⟨rfl, ⟨?_, ?_, ?_, ?_, trivial⟩, ⟨rfl, ⟨?_, trivial⟩, ⟨rfl, ⟨?_, trivial⟩, trivial⟩⟩⟩ <;> first | rfl | (rw [ho]; rfl) | ((show some (T.seq _ _) = some (T.seq _ _); refine congrArg (fun z => some (T.seq _ z)) ?_; rw [ho]; first | done | rfl | (simp [tClient]; done) | (simp [List.map_set, tClient]; done))) | ((show some (T.lit (Value.int .i64 _)) = some (T.lit (Value.int .i64 _)); refine congrArg (fun z => some (T.lit (Value.int .i64 z))) ?_; rw [ho]; first | done | rfl)) | ((show some (T.lit (Value.bool _)) = some (T.lit (Value.bool _)); refine congrArg (fun z => some (T.lit (Value.bool z))) ?_; rw [ho]; first | done | rfl | (simp; done))) | (rw [hid]; rfl) | ((show some (T.seq _ _) = some (T.seq _ _); refine congrArg (fun z => some (T.seq _ z)) ?_; rw [hid]; first | done | rfl | (simp [tClient]; done) | (simp [List.map_set, tClient]; done))) | ((show some (T.lit (Value.int .i64 _)) = some (T.lit (Value.int .i64 _)); refine congrArg (fun z => some (T.lit (Value.int .i64 z))) ?_; rw [hid]; first | done | rfl)) | ((show some (T.lit (Value.bool _)) = some (T.lit (Value.bool _)); refine congrArg (fun z => some (T.lit (Value.bool z))) ?_; rw [hid]; first | done | rfl | (simp; done))) | (rw [hcan]; rfl) | ((show some (T.seq _ _) = some (T.seq _ _); refine congrArg (fun z => some (T.seq _ z)) ?_; rw [hcan]; first | done | rfl | (simp [tClient]; done) | (simp [List.map_set, tClient]; done))) | ((show some (T.lit (Value.int .i64 _)) = some (T.lit (Value.int .i64 _)); refine congrArg (fun z => some (T.lit (Value.int .i64 z))) ?_; rw [hcan]; first | done | rfl)) | ((show some (T.lit (Value.bool _)) = some (T.lit (Value.bool _)); refine congrArg (fun z => some (T.lit (Value.bool z))) ?_; rw [hcan]; first | done | rfl | (simp; done)))
        · skip   -- c3.F
          have hcan : BrokerD.canAdd b w p = true := by
            rw [BrokerD.canAdd_iff]
            unfold BrokerD.isWant at *
            refine ⟨by simpa using hg0, ?_, ?_, ?_, ?_⟩ <;> (simp at *; omega)
          have hN := (BrokerD.okN_iff b).1 (BrokerD.Ok.of ((BrokerD.canAdd_iff b w p).1 hcan).1).num
          obtain ⟨ho0, hid⟩ := BrokerD.add_yes hcan
          refine SV.skip ?_
          refine SV.tn ?_
          refine SV.seq' ?_
          refine SV.forget (L := [(1, V.one (.sc _)), (2, V.one (.sc _)), (3, V.one (.bp 0 0)), (6, V.one (.bp 1 0)), (7, V.one (.sc _)), (8, V.one (.sc _)), (9, V.one (.bp 2 0))]) (B := [(26, [.sc _, .sc _, .ro _, .ro _]), (26, [.sc _, .sc _, .nl _, .nl _]), (26, [.sc _, .sc _, .hd 0, .hd 1])]) (O := [(0, _, _), (1, _, _)]) (n := 2) ⟨rfl, rfl, rfl, rfl, rfl, rfl, rfl, trivial⟩ rfl ⟨rfl, rfl, trivial⟩ rfl ?_
          refine SV.region ?_
          refine SV.op (OpL.ok (nb := 3) (ok_field_bp (b := 0) (o' := 0) (off := 1) rfl rfl fld_impl_Broker_1) rfl (gle rfl)) rfl ?_
          refine SV.op (OpL.ok (nb := 3) (ok_load_bp (b := 0) (i := 1) (ag := false) (m := 1) (ys := [.sc _]) rfl rfl rfl agg_int sz_int (fun _ => rfl) rfl rfl (gle rfl)) rfl (gle rfl)) rfl ?_
          refine SV.op (OpL.ok (nb := 3) (ok_move (v := V.one (.sc _)) (.inl rfl) rfl) rfl (gle rfl)) rfl ?_
          refine SV.op (OpL.ok (nb := 3) (ok_move (v := V.one (.sc _)) (.inl rfl) rfl) rfl (gle rfl)) rfl ?_
          refine SV.op (OpL.ok (nb := 3) (ok_build (zs := [.sc _, .sc _, .sc _]) (ys := [.sc _, .sc _, .sc _]) (qs := [(0, [.sc _]), (1, [.sc _]), (2, [.sc _])]) (pl := fun i => ([(0, 1), (1, 1), (2, 1)] : List (Nat × Nat))[i]?) rfl zero_impl_Client ⟨rfl, rfl, rfl, rfl, rfl, rfl, trivial⟩ ⟨⟨rfl, false, rfl, (fun _ => rfl), rfl⟩, ⟨rfl, false, rfl, (fun _ => rfl), rfl⟩, ⟨rfl, false, rfl, (fun _ => rfl), rfl⟩, trivial⟩ bld_impl_Client rfl) rfl (gle rfl)) rfl ?_
          refine SV.op (OpMk.ok (ok_alloc (kk := 3) (xs := [.sc _, .sc _, .sc _]) rfl rfl zero_impl_Client ⟨rfl, rfl, rfl, rfl, rfl, rfl, trivial⟩ rfl (gle rfl))) rfl ?_
          refine SV.op (ok_store_bp (b := 3) (i := 0) (m := 3) (ag := true) (zs := [.sc _, .sc _, .sc _]) (ys := [.sc _, .sc _, .sc _]) rfl rfl rfl rfl sz_impl_Client (fun h => by cases h) rfl (gle rfl) rfl rfl rfl) rfl ?_
          refine SV.nil ?_
          refine SV.tn ?_
          refine SV.seq' ?_
          refine SV.seq' ?_
          refine SV.draw [.q 0, .q 1, .q 2, .q 3, .m 4, .q 5] [] (by kernel_rfl) (by kernel_rfl) ?_
          refine DW.q rfl (ok_field_bp (b := 0) (o' := 0) (off := 2) rfl rfl fld_impl_Broker_2) rfl rfl (gle rfl) (fun _ _ _ _ h => h) ?_
          refine DW.q rfl (ok_load_bp (b := 0) (i := 2) (ag := false) (m := 1) (ys := [.ro _]) rfl rfl rfl agg_s_impl_Client sz_s_impl_Client (fun _ => rfl) rfl rfl (gle rfl)) rfl rfl (gle rfl) (fun _ _ _ _ h => h) ?_
          refine DW.q rfl (ok_len (lf := .ro _) rfl elt_impl_Client.und rfl rfl) rfl rfl (gle rfl) (fun _ _ _ _ h => h) ?_
          refine DW.q rfl (ok_load_bp (b := 0) (i := 0) (ag := true) (m := 4) (ys := [.sc _, .sc _, .ro _, .ro _]) rfl rfl rfl agg_impl_Broker sz_impl_Broker (fun h => by cases h) rfl rfl (gle rfl)) rfl rfl (gle rfl) (fun _ _ _ _ h => h) ?_
          refine DW.m [] rfl (ok_call (ls := [(false, [.sc _])]) rfl rfl ⟨_, _, Try.func62, rfl, by decide⟩ (vcap_i b (by omega) (by omega)) ⟨⟨[.sc _, .sc _, .ro _, .ro _], rfl, ⟨rfl, rfl, rfl, rfl, trivial⟩⟩, trivial⟩ rfl (gle rfl)) rfl (gle rfl) (gle rfl) (.inl rfl) (fun j hj => by cases hj) ?_
          refine DW.q rfl (ok_s2 (x := .tmp 40) (x' := .tmp 42) (VScal.one rfl) (VScal.one rfl) (fun ρ h1 h2 w => by go_simp; (try go_bits); with_reducible rfl) rfl) rfl rfl (gle rfl) (fun _ _ _ _ h => h) ?_
          refine DW.stores ?_
          refine SV.zend ?_
          refine SV.tn ?_
          refine SV.cond rfl (fun hc4 => ?_) (fun hc4 => ?_)
          · skip   -- c4.T
            have ho := ho0.trans (BrokerD.added_act (by simpa using hc4))
            refine SV.region ?_
            refine SV.op (OpL.ok (nb := 4) (ok_field_bp (b := 2) (o' := 0) (off := 2) rfl rfl fld_impl_Broker_2) rfl (gle rfl)) rfl ?_
            refine SV.op (OpL.ok (nb := 4) (ok_load_bp (b := 2) (i := 2) (ag := false) (m := 1) (ys := [.hd 0]) rfl rfl rfl agg_s_impl_Client sz_s_impl_Client (fun _ => rfl) rfl rfl (gle rfl)) rfl (gle rfl)) rfl ?_
            refine SV.op (OpL.ok (nb := 4) (ok_load_bp (b := 3) (i := 0) (ag := true) (m := 3) (ys := [.sc _, .sc _, .sc _]) rfl rfl rfl agg_impl_Client sz_impl_Client (fun h => by cases h) rfl rfl (gle rfl)) rfl (gle rfl)) rfl ?_
            refine SV.op (OpMk.ok (ok_lit1 (kk := 2) elt_impl_Client (ag := true) (xs := [.sc _, .sc _, .sc _]) rfl rfl rfl rfl (fun h => by cases h) (outs_c rfl (outs_c rfl (outs_c rfl outs_n))) (by simp [two]) rfl (gle rfl))) rfl ?_
            refine SV.op (OpMk.ok (ok_append (kk := 3) elt_impl_Client (ls := .hd 0) (lx := .hd 2) rfl rfl rfl rfl rfl rfl (by intro i h1 h2; first | (cases h1; done) | (cases h1; cases h2)) (by first | omega | (simp only [List.length_map]; omega) | (simp; done) | (simp; omega)) rfl (gle rfl))) rfl ?_
            refine SV.op (OpL.ok (nb := 4) (ok_field_bp (b := 2) (o' := 0) (off := 2) rfl rfl fld_impl_Broker_2) rfl (gle rfl)) rfl ?_
            refine SV.op (ok_store_bp (b := 2) (i := 2) (m := 1) (ag := false) (zs := [.hd 3]) (ys := [.sc _, .sc _, .hd 3, .hd 1]) rfl rfl rfl rfl sz_s_impl_Client (fun _ => rfl) rfl (gle rfl) rfl rfl rfl) rfl ?_
            refine SV.nil ?_
            refine SV.tn ?_
            refine SV.seq' ?_
            refine SV.region ?_
            refine SV.op (OpL.ok (nb := 4) (ok_field_bp (b := 2) (o' := 0) (off := 1) rfl rfl fld_impl_Broker_1) rfl (gle rfl)) rfl ?_
            refine SV.op (OpL.ok (nb := 4) (ok_load_bp (b := 2) (i := 1) (ag := false) (m := 1) (ys := [.sc _]) rfl rfl rfl agg_int sz_int (fun _ => rfl) rfl rfl (gle rfl)) rfl (gle rfl)) rfl ?_
            refine SV.op (OpL.ok (nb := 4) (ok_s2 (v := .int .i64 (b.fNextID + 1)) (x := .tmp 57) (x' := .const ((Value.int IntKind.i64 1))) (VScal.one rfl) (VScal.one rfl) (fun ρ h1 h2 w => by go_simp; rw [IntWalk.i64_left, IntWalk.wrap64_in _ ⟨by omega, by omega⟩]) rfl) rfl (gle rfl)) rfl ?_
            refine SV.op (OpL.ok (nb := 4) (ok_field_bp (b := 2) (o' := 0) (off := 1) rfl rfl fld_impl_Broker_1) rfl (gle rfl)) rfl ?_
            refine SV.op (ok_store_bp (b := 2) (i := 1) (m := 1) (ag := false) (zs := [.sc _]) (ys := [.sc _, .sc _, .hd 3, .hd 1]) rfl rfl rfl rfl sz_int (fun _ => rfl) rfl (gle rfl) rfl rfl rfl) rfl ?_
            refine SV.nil ?_
            refine SV.tn ?_
            refine SV.seq' ?_
            refine SV.drawC [1] [.q 0, .q 1, .q 2, .m 3, .q 4, .q 5] [] (by kernel_rfl) (by kernel_rfl) ?_
            refine DC.lb (b := 2) (i' := 0) (ag := true) (m := 4) (ys := [.sc _, .sc _, .hd 3, .hd 1]) rfl rfl rfl rfl agg_impl_Broker sz_impl_Broker (fun h => by cases h) rfl rfl (gle rfl) (by decide) rfl rfl (gle rfl) (fun _ _ _ _ h => h) ?_
            refine DC.q rfl (ok_field_bp (b := 3) (o' := 0) (off := 0) rfl rfl fld_impl_Client_0) rfl rfl (gle rfl) (fun _ _ _ _ h => h) ?_
            refine DC.lb (b := 3) (i' := 0) (ag := false) (m := 1) (ys := [.sc _]) rfl rfl rfl rfl agg_int sz_int (fun _ => rfl) rfl rfl (gle rfl) (by decide) rfl rfl (gle rfl) (fun _ _ _ _ h => h) ?_
            refine DC.store (b := 1) (i' := 0) (m := 4) (ag := true) (zs1 := [.sc _, .sc _, .hd 3, .hd 1]) (ys := [.sc _, .sc _, .hd 3, .hd 1]) rfl rfl rfl rfl sz_impl_Broker (fun h => by cases h) rfl (gle rfl) rfl rfl rfl rfl (by decide) (gle rfl) rfl ?_
            refine DC.q rfl (ok_move (v := V.one (.sc _)) (.inr rfl) rfl) rfl rfl (gle rfl) (fun _ _ _ _ h => h) ?_
            refine DC.q rfl (ok_move (v := V.one (.sc _)) (.inr rfl) rfl) rfl rfl (gle rfl) (fun _ _ _ _ h => h) ?_
            refine DC.stores ?_
            refine SV.zend ?_
            refine SV.tn ?_
            refine SV.ret ?_
            apply SV.done (hf := Try.results23) (ht := rfl) (he := .inl rfl)
            case hr => exact (ResAll.cons (ResOk.cell (b := 1) (ag := true) (xs := [.sc _, .sc _, .hd 3, .hd 1]) rfl rfl agg_impl_Broker sz_impl_Broker (fun h => by cases h)) (ResAll.cons (ResOk.tmp (ag := false) (xs := [.sc _]) rfl) (ResAll.cons (ResOk.tmp (ag := false) (xs := [.sc _]) rfl) ResAll.nil')))
            case h2 => simp [two]
            refine ⟨rfl, ⟨?_, ?_, ?_, ?_, trivial⟩, ⟨rfl, ⟨?_, trivial⟩, ⟨rfl, ⟨?_, trivial⟩, trivial⟩⟩⟩ <;> first | rfl | (rw [ho]; rfl) | ((show some (T.seq _ _) = some (T.seq _ _); refine congrArg (fun z => some (T.seq _ z)) ?_; rw [ho]; first | done | rfl | (simp [tClient]; done) | (simp [List.map_set, tClient]; done))) | ((show some (T.lit (Value.int .i64 _)) = some (T.lit (Value.int .i64 _)); refine congrArg (fun z => some (T.lit (Value.int .i64 z))) ?_; rw [ho]; first | done | rfl)) | ((show some (T.lit (Value.bool _)) = some (T.lit (Value.bool _)); refine congrArg (fun z => some (T.lit (Value.bool z))) ?_; rw [ho]; first | done | rfl | (simp; done))) | (rw [hid]; rfl) | ((show some (T.seq _ _) = some (T.seq _ _); refine congrArg (fun z => some (T.seq _ z)) ?_; rw [hid]; first | done | rfl | (simp [tClient]; done) | (simp [List.map_set, tClient]; done))) | ((show some (T.lit (Value.int .i64 _)) = some (T.lit (Value.int .i64 _)); refine congrArg (fun z => some (T.lit (Value.int .i64 z))) ?_; rw [hid]; first | done | rfl)) | ((show some (T.lit (Value.bool _)) = some (T.lit (Value.bool _)); refine congrArg (fun z => some (T.lit (Value.bool z))) ?_; rw [hid]; first | done | rfl | (simp; done))) | (rw [hcan]; rfl) | ((show some (T.seq _ _) = some (T.seq _ _); refine congrArg (fun z => some (T.seq _ z)) ?_; rw [hcan]; first | done | rfl | (simp [tClient]; done) | (simp [List.map_set, tClient]; done))) | ((show some (T.lit (Value.int .i64 _)) = some (T.lit (Value.int .i64 _)); refine congrArg (fun z => some (T.lit (Value.int .i64 z))) ?_; rw [hcan]; first | done | rfl)) | ((show some (T.lit (Value.bool _)) = some (T.lit (Value.bool _)); refine congrArg (fun z => some (T.lit (Value.bool z))) ?_; rw [hcan]; first | done | rfl | (simp; done)))
          · skip   -- c4.F
            have ho := ho0.trans (BrokerD.added_wai (by simpa using hc4))
            refine SV.region ?_
            refine SV.op (OpL.ok (nb := 4) (ok_field_bp (b := 2) (o' := 0) (off := 3) rfl rfl fld_impl_Broker_3) rfl (gle rfl)) rfl ?_
            refine SV.op (OpL.ok (nb := 4) (ok_load_bp (b := 2) (i := 3) (ag := false) (m := 1) (ys := [.hd 1]) rfl rfl rfl agg_s_impl_Client sz_s_impl_Client (fun _ => rfl) rfl rfl (gle rfl)) rfl (gle rfl)) rfl ?_
            refine SV.op (OpL.ok (nb := 4) (ok_load_bp (b := 3) (i := 0) (ag := true) (m := 3) (ys := [.sc _, .sc _, .sc _]) rfl rfl rfl agg_impl_Client sz_impl_Client (fun h => by cases h) rfl rfl (gle rfl)) rfl (gle rfl)) rfl ?_
            refine SV.op (OpMk.ok (ok_lit1 (kk := 2) elt_impl_Client (ag := true) (xs := [.sc _, .sc _, .sc _]) rfl rfl rfl rfl (fun h => by cases h) (outs_c rfl (outs_c rfl (outs_c rfl outs_n))) (by simp [two]) rfl (gle rfl))) rfl ?_
            refine SV.op (OpMk.ok (ok_append (kk := 3) elt_impl_Client (ls := .hd 1) (lx := .hd 2) rfl rfl rfl rfl rfl rfl (by intro i h1 h2; first | (cases h1; done) | (cases h1; cases h2)) (by first | omega | (simp only [List.length_map]; omega) | (simp; done) | (simp; omega)) rfl (gle rfl))) rfl ?_
            refine SV.op (OpL.ok (nb := 4) (ok_field_bp (b := 2) (o' := 0) (off := 3) rfl rfl fld_impl_Broker_3) rfl (gle rfl)) rfl ?_
            refine SV.op (ok_store_bp (b := 2) (i := 3) (m := 1) (ag := false) (zs := [.hd 3]) (ys := [.sc _, .sc _, .hd 0, .hd 3]) rfl rfl rfl rfl sz_s_impl_Client (fun _ => rfl) rfl (gle rfl) rfl rfl rfl) rfl ?_
            refine SV.nil ?_
            refine SV.tn ?_
            refine SV.seq' ?_
            refine SV.region ?_
            refine SV.op (OpL.ok (nb := 4) (ok_field_bp (b := 2) (o' := 0) (off := 1) rfl rfl fld_impl_Broker_1) rfl (gle rfl)) rfl ?_
            refine SV.op (OpL.ok (nb := 4) (ok_load_bp (b := 2) (i := 1) (ag := false) (m := 1) (ys := [.sc _]) rfl rfl rfl agg_int sz_int (fun _ => rfl) rfl rfl (gle rfl)) rfl (gle rfl)) rfl ?_
            refine SV.op (OpL.ok (nb := 4) (ok_s2 (v := .int .i64 (b.fNextID + 1)) (x := .tmp 57) (x' := .const ((Value.int IntKind.i64 1))) (VScal.one rfl) (VScal.one rfl) (fun ρ h1 h2 w => by go_simp; rw [IntWalk.i64_left, IntWalk.wrap64_in _ ⟨by omega, by omega⟩]) rfl) rfl (gle rfl)) rfl ?_
            refine SV.op (OpL.ok (nb := 4) (ok_field_bp (b := 2) (o' := 0) (off := 1) rfl rfl fld_impl_Broker_1) rfl (gle rfl)) rfl ?_
            refine SV.op (ok_store_bp (b := 2) (i := 1) (m := 1) (ag := false) (zs := [.sc _]) (ys := [.sc _, .sc _, .hd 0, .hd 3]) rfl rfl rfl rfl sz_int (fun _ => rfl) rfl (gle rfl) rfl rfl rfl) rfl ?_
            refine SV.nil ?_
            refine SV.tn ?_
            refine SV.seq' ?_
            refine SV.drawC [1] [.q 0, .q 1, .q 2, .m 3, .q 4, .q 5] [] (by kernel_rfl) (by kernel_rfl) ?_
            refine DC.lb (b := 2) (i' := 0) (ag := true) (m := 4) (ys := [.sc _, .sc _, .hd 0, .hd 3]) rfl rfl rfl rfl agg_impl_Broker sz_impl_Broker (fun h => by cases h) rfl rfl (gle rfl) (by decide) rfl rfl (gle rfl) (fun _ _ _ _ h => h) ?_
            refine DC.q rfl (ok_field_bp (b := 3) (o' := 0) (off := 0) rfl rfl fld_impl_Client_0) rfl rfl (gle rfl) (fun _ _ _ _ h => h) ?_
            refine DC.lb (b := 3) (i' := 0) (ag := false) (m := 1) (ys := [.sc _]) rfl rfl rfl rfl agg_int sz_int (fun _ => rfl) rfl rfl (gle rfl) (by decide) rfl rfl (gle rfl) (fun _ _ _ _ h => h) ?_
            refine DC.store (b := 1) (i' := 0) (m := 4) (ag := true) (zs1 := [.sc _, .sc _, .hd 0, .hd 3]) (ys := [.sc _, .sc _, .hd 0, .hd 3]) rfl rfl rfl rfl sz_impl_Broker (fun h => by cases h) rfl (gle rfl) rfl rfl rfl rfl (by decide) (gle rfl) rfl ?_
            refine DC.q rfl (ok_move (v := V.one (.sc _)) (.inr rfl) rfl) rfl rfl (gle rfl) (fun _ _ _ _ h => h) ?_
            refine DC.q rfl (ok_move (v := V.one (.sc _)) (.inr rfl) rfl) rfl rfl (gle rfl) (fun _ _ _ _ h => h) ?_
            refine DC.stores ?_
            refine SV.zend ?_
            refine SV.tn ?_
            refine SV.ret ?_
            apply SV.done (hf := Try.results23) (ht := rfl) (he := .inl rfl)
            case hr => exact (ResAll.cons (ResOk.cell (b := 1) (ag := true) (xs := [.sc _, .sc _, .hd 0, .hd 3]) rfl rfl agg_impl_Broker sz_impl_Broker (fun h => by cases h)) (ResAll.cons (ResOk.tmp (ag := false) (xs := [.sc _]) rfl) (ResAll.cons (ResOk.tmp (ag := false) (xs := [.sc _]) rfl) ResAll.nil')))
            case h2 => simp [two]
            refine ⟨rfl, ⟨?_, ?_, ?_, ?_, trivial⟩, ⟨rfl, ⟨?_, trivial⟩, ⟨rfl, ⟨?_, trivial⟩, trivial⟩⟩⟩ <;> first | rfl | (rw [ho]; rfl) | ((show some (T.seq _ _) = some (T.seq _ _); refine congrArg (fun z => some (T.seq _ z)) ?_; rw [ho]; first | done | rfl | (simp [tClient]; done) | (simp [List.map_set, tClient]; done))) | ((show some (T.lit (Value.int .i64 _)) = some (T.lit (Value.int .i64 _)); refine congrArg (fun z => some (T.lit (Value.int .i64 z))) ?_; rw [ho]; first | done | rfl)) | ((show some (T.lit (Value.bool _)) = some (T.lit (Value.bool _)); refine congrArg (fun z => some (T.lit (Value.bool z))) ?_; rw [ho]; first | done | rfl | (simp; done))) | (rw [hid]; rfl) | ((show some (T.seq _ _) = some (T.seq _ _); refine congrArg (fun z => some (T.seq _ z)) ?_; rw [hid]; first | done | rfl | (simp [tClient]; done) | (simp [List.map_set, tClient]; done))) | ((show some (T.lit (Value.int .i64 _)) = some (T.lit (Value.int .i64 _)); refine congrArg (fun z => some (T.lit (Value.int .i64 z))) ?_; rw [hid]; first | done | rfl)) | ((show some (T.lit (Value.bool _)) = some (T.lit (Value.bool _)); refine congrArg (fun z => some (T.lit (Value.bool z))) ?_; rw [hid]; first | done | rfl | (simp; done))) | (rw [hcan]; rfl) | ((show some (T.seq _ _) = some (T.seq _ _); refine congrArg (fun z => some (T.seq _ z)) ?_; rw [hcan]; first | done | rfl | (simp [tClient]; done) | (simp [List.map_set, tClient]; done))) | ((show some (T.lit (Value.int .i64 _)) = some (T.lit (Value.int .i64 _)); refine congrArg (fun z => some (T.lit (Value.int .i64 z))) ?_; rw [hcan]; first | done | rfl)) | ((show some (T.lit (Value.bool _)) = some (T.lit (Value.bool _)); refine congrArg (fun z => some (T.lit (Value.bool z))) ?_; rw [hcan]; first | done | rfl | (simp; done)))
end Go.Proofs.Ytfghhjcfmmhacaa
/- Clients in a row of the call's own, by what stands at each index; such a row as a tree, and back. -/
namespace Go.Proofs.Ytfghhjcfmmhacaa
open Go Go.RowKit V
set_option linter.unusedVariables false
theorem rowIs_setCells {b : Nat} {t : TypeId} {n : Nat} : ∀ (vs : List Value) (o : Nat) (w : World) (f : Nat → Value), w.rowIs b t n f → (w.setCells b o vs).rowIs b t n (fun j => if o ≤ j ∧ j < o + vs.length then vs.getD (j - o) undef else f j)
  | [], o, w, f, h => h.congr fun i _ => by rw [if_neg (fun e => by simp at e; omega)]
  | v :: r, o, w, f, h => by
    have ih := rowIs_setCells r (o + 1) _ _ (h.set o v)
    refine ih.congr fun j hj => ?_
    by_cases h1 : o + 1 ≤ j ∧ j < o + 1 + r.length
    · have h2 : o ≤ j ∧ j < o + (v :: r).length := by simp; omega
      rw [if_pos h1, if_pos h2, show j - o = (j - (o + 1)) + 1 by omega]
      rfl
    · rw [if_neg h1]
      by_cases h3 : j = o
      · subst h3
        have h2 : j ≤ j ∧ j < j + (v :: r).length := by simp
        rw [if_pos rfl, if_pos h2, Nat.sub_self]
        rfl
      · have h2 : ¬ (o ≤ j ∧ j < o + (v :: r).length) := by simp; omega
        rw [if_neg h3, if_neg h2]
def ClF (f : Nat → Value) (L : List ClientD) : Prop := ∀ (t : Nat) (c : ClientD), L[t]? = some c → f (t * 3) = .int .i64 c.fID ∧ f (t * 3 + 1) = .int .i64 c.fRequested ∧ f (t * 3 + 2) = .int .i64 c.fPriority
theorem third (j : Nat) : j = j / 3 * 3 ∨ j = j / 3 * 3 + 1 ∨ j = j / 3 * 3 + 2 := by omega
theorem ClF.int {f : Nat → Value} {L : List ClientD} (h : ClF f L) {j : Nat} (hj : j < L.length * 3) : ∃ x, f j = .int .i64 x := by
  have hq : j / 3 < L.length := by omega
  obtain ⟨h0, h1, h2⟩ := h (j / 3) L[j / 3] (List.getElem?_eq_getElem hq)
  rcases third j with e | e | e
  · exact ⟨_, by rw [e]; exact h0⟩
  · exact ⟨_, by rw [e]; exact h1⟩
  · exact ⟨_, by rw [e]; exact h2⟩
theorem ClF.one {f : Nat → Value} {L : List ClientD} (h : ClF f L) {j : Nat} (hj : j < L.length * 3) : (f j).oneCell' = true := by
  obtain ⟨x, hx⟩ := h.int hj
  rw [hx]; rfl
theorem ClF.congr {f g : Nat → Value} {L : List ClientD} (h : ClF f L) (e : ∀ j, j < L.length * 3 → g j = f j) : ClF g L := fun t c ht => by
  have hl := V.get_lt ht
  obtain ⟨h0, h1, h2⟩ := h t c ht
  exact ⟨(e _ (by omega)).trans h0, (e _ (by omega)).trans h1, (e _ (by omega)).trans h2⟩
theorem own_row {w : World} {L : List ClientD} {v : Value} {F : Nat → Prop} (h : Own w 0 (.seq 35 (L.map tClient)) v F) :
    (v = .slice none 0 0 ∧ L = []) ∨ ∃ (g cap : Nat) (f : Nat → Value), v = .slice (some ⟨g, 0, none⟩) L.length cap ∧ F g ∧ L.length ≤ cap ∧ cap ≤ maxLen ∧ w.rowIs g 35 (cap * 3) f ∧ ClF f L := by
  cases h with
  | seq n hp hz hn xs hown Gs hr hone hF hG hne hd =>
    have h3 : n = 3 := hz.eq sz_impl_Client
    subst h3
    obtain ⟨hxl, ⟨rfl, h0⟩ | ⟨g, cap, cur, rfl, -, hh, hc, hm, hs, ht⟩⟩ := hown
    · refine .inl ⟨rfl, ?_⟩
      rw [List.length_map] at h0
      exact List.eq_nil_of_length_eq_zero h0
    · rw [List.length_map] at hc ht hxl
      refine .inr ⟨g, cap, fun i => cur.getD i undef, by rw [List.length_map], hF g rfl, hc, hm, ⟨cur, hh, hs, fun i hi => by simp [Array.getD, hs, hi]⟩, fun t c htc => ?_⟩
      have htl := V.get_lt htc
      have key : ∀ (j : Nat) (u : Value), j < 3 → (tClient c)[j]? = some (.lit u) → cur.getD (t * 3 + j) undef = u := fun j u hj hu => by
        have hlt : t * 3 + j < xs.length := by omega
        have h1 := hr t (tClient c) j (.lit u) xs[t * 3 + j] (by rw [List.getElem?_map, htc]; rfl) hu (List.getElem?_eq_getElem hlt)
        have h2 : xs[t * 3 + j] = u := by cases h1; rfl
        have h3 : xs[t * 3 + j]? = some u := by rw [List.getElem?_eq_getElem hlt, h2]
        rw [← ht, List.getElem?_take, if_pos (by omega)] at h3
        have h4 : t * 3 + j < cur.size := by omega
        rw [Array.getElem?_toList, Array.getElem?_eq_getElem h4] at h3
        simp [Array.getD, h4, Option.some.inj h3]
      exact ⟨key 0 _ (by omega) rfl, key 1 _ (by omega) rfl, key 2 _ (by omega) rfl⟩
theorem row_own {w : World} {L : List ClientD} {g cap : Nat} {f : Nat → Value} {F : Nat → Prop} (hF : F g) (hc : L.length ≤ cap) (hm : cap ≤ maxLen) (hrow : w.rowIs g 35 (cap * 3) f) (hf : ClF f L) : Own w 0 (.seq 35 (L.map tClient)) (.slice (some ⟨g, 0, none⟩) L.length cap) F := by
  obtain ⟨cur, hh, hs, hcell⟩ := hrow
  have htl : cur.toList.take (L.length * 3) = (List.range (L.length * 3)).map f := by
    apply List.ext_getElem?
    intro j
    rw [List.getElem?_take]
    by_cases hj : j < L.length * 3
    · rw [if_pos hj, Array.getElem?_toList, hcell j (by omega), List.getElem?_map, List.getElem?_range hj]; rfl
    · rw [if_neg hj, List.getElem?_eq_none (by simp; omega)]
  refine .seq 3 (by decide) sz_impl_Client (fun e he => by obtain ⟨x, -, rfl⟩ := List.mem_map.1 he; rfl) ((List.range (L.length * 3)).map f) ⟨by simp, .inr ⟨g, cap, cur, by rw [List.length_map], Nat.zero_le _, hh, by rw [List.length_map]; exact hc, hm, hs, by rw [List.length_map]; exact htl⟩⟩ (fun _ _ => False) (fun k e j t u h1 h2 h3 => ?_) (fun u hu => ?_) (fun b hb => by cases hb; exact hF) (fun q b hb => hb.elim) (fun q b hb => hb.elim) fun q q' b hb => hb.elim
  · rw [List.getElem?_map] at h1
    obtain ⟨c, hc', rfl⟩ := Option.map_eq_some_iff.1 h1
    have hk := V.get_lt hc'
    have hj : j < 3 := by simpa [tClient] using V.get_lt h2
    rw [List.getElem?_map, List.getElem?_range (by omega)] at h3
    have hu : f (k * 3 + j) = u := Option.some.inj h3
    obtain ⟨e0, e1, e2⟩ := hf k c hc'
    match j, hj with
    | 0, _ => cases h2; rw [← hu, show k * 3 + 0 = k * 3 from rfl, e0]; exact .lit rfl
    | 1, _ => cases h2; rw [← hu, e1]; exact .lit rfl
    | 2, _ => cases h2; rw [← hu, e2]; exact .lit rfl
  · obtain ⟨j, hj, rfl⟩ := List.mem_map.1 hu
    exact hf.one (List.mem_range.1 hj)
end Go.Proofs.Ytfghhjcfmmhacaa
/- States told by trees: contracts of functions that are handed a slice to keep (it is appended to, and comes back in the answer), and their calls. -/
namespace Go.Proofs.Ytfghhjcfmmhacaa.V
open Go Go.RowKit
set_option linter.unusedVariables false
def VX (P : Program) (f : FuncId) (ins : List (Bool × List AC)) (ls : List T) (tup : Bool) (rs : List (Bool × List T)) : Prop :=
  ∀ (w : World) (lv : Nat → Value) (F : Nat → Nat → Prop) (hF : ∀ i b, i < ls.length → F i b → b < w.heap.size) (vs : List Value), (∀ i t, ls[i]? = some t → Own w 0 t (lv i) (F i) ∧ ∃ ty es, t = .seq ty es) → (∀ i j b, i < ls.length → j < ls.length → i ≠ j → F i b → ¬ F j b) → ArgsM (Env.lend w lv F ls.length hF) ins vs →
    Calls P f vs.toArray w (Gives (Env.lend w lv F ls.length hF) tup rs)
def Env.free (E : Env) : Env := { E with nl := 0 }
variable {P : Program} {E : Env} {N : Nat} {σ σ' : VS} {o : Oper} {a : Act} {w : World} {G : Ghost}
theorem Rel.free (h : Rel E N σ a w G) : Rel E.free N σ a w G :=
  ⟨⟨h.below.os, h.below.tape, h.below.output, h.below.size, fun k hk => h.below.block k hk⟩, h.dfr, h.nsz, h.tmps, h.boxes, h.inj, h.boxft, h.objs, h.disj, h.ftlt, ⟨Nat.zero_le _, fun i hi => absurd hi (Nat.not_lt_zero i), h.lent.2.2⟩⟩
theorem VX.enter {f : FuncId} {fn : Func} {c : Go.Code} {n : Nat} {ins : List (Bool × List AC)} {ls : List T} {tup : Bool} {rs : List (Bool × List T)} (hf : P.funcs[f]? = some fn) (hb : fn.body = some c) (hn : fn.ntmps = n) (hl : ins.length ≤ n)
    (h : ∀ E, E.plain 0 → SV E n (VS.initM (ins.map fun p => V.flat p.1 (p.2.map AC.leaf)) ls) (c.wp P (bodyPost P fn (Gives E tup rs)))) : VX P f ins ls tup rs := fun w lv F hF vs h1 h2 hv => by
  refine calls_of_wp hf hb ?_
  obtain ⟨G, hG⟩ := init_relM (E := Env.lend w lv F ls.length hF) (F := F) ⟨rfl, rfl⟩ h1 h2 (fun i b hi hb => ⟨.inr ⟨i, hi, hb⟩, hF i b hi hb⟩) hv (n := n) (by rw [hv.1]; exact hl)
  have h3 := h (Env.lend w lv F ls.length hF).free ⟨rfl, rfl⟩ _ _ G hG.free
  have hg : ∀ e w', Gives (Env.lend w lv F ls.length hF).free tup rs e w' → Gives (Env.lend w lv F ls.length hF) tup rs e w' := fun e w' ⟨uss, F', k1, k2, k3, k4, k5, k6⟩ => ⟨uss, F', k1, k2, k3, k4, k5, ⟨k6.os, k6.tape, k6.output, k6.size, fun k hk => k6.block k hk⟩⟩
  rw [hn]
  have h4 := wp_mono h3 (Q' := bodyPost P fn (Gives (Env.lend w lv F ls.length hF) tup rs)) fun e a w' hq => by
    cases e with
    | normal => obtain ⟨k1, v, k2, k3⟩ := hq; exact ⟨k1, v, k2, hg _ _ k3⟩
    | ret => obtain ⟨k1, v, k2, k3⟩ := hq; exact ⟨k1, v, k2, hg _ _ k3⟩
    | exit id => exact hq
    | goto l => exact hq
    | panic ch => first | exact hq | exact hg _ _ hq | exact ⟨hq.1, hg _ _ hq.2⟩
    | outgrown => first | exact hq | exact hg _ _ hq
  have e : (Env.lend w lv F ls.length hF).w0 = w := rfl
  rw [e] at h4
  simpa using h4
def VS.argX (p : Leaf) : List Leaf → List AC → Prop
  | [], [] => True
  | x :: xs, .rd t :: ts => ((∃ u, t = .lit u ∧ x = .sc u) ∨ x = .ro t) ∧ VS.argX p xs ts
  | x :: xs, .ln i :: ts => (i = 0 ∧ x = p) ∧ VS.argX p xs ts
  | _, _ => False
theorem argX_get {p : Leaf} : ∀ {xs : List Leaf} {ts : List AC}, VS.argX p xs ts → xs.length = ts.length ∧ ∀ (j : Nat) (t : AC), ts[j]? = some t → ∃ x, xs[j]? = some x ∧ match t with
    | .rd t => (∃ u, t = .lit u ∧ x = .sc u) ∨ x = .ro t
    | .ln i => i = 0 ∧ x = p
  | [], [], _ => ⟨rfl, fun j t h => by simp at h⟩
  | x :: xs, .rd t :: ts, h => by
    obtain ⟨h1, h2⟩ := argX_get h.2
    refine ⟨by simp [h1], fun j s hj => ?_⟩
    cases j with
    | zero => cases hj; exact ⟨x, rfl, h.1⟩
    | succ j => exact h2 j s (by simpa using hj)
  | x :: xs, .ln i :: ts, h => by
    obtain ⟨h1, h2⟩ := argX_get h.2
    refine ⟨by simp [h1], fun j s hj => ?_⟩
    cases j with
    | zero => cases hj; exact ⟨x, rfl, h.1⟩
    | succ j => exact h2 j s (by simpa using hj)
def VS.argsX (σ : VS) (p : Leaf) : List Operand → List (Bool × List AC) → Prop
  | [], [] => True
  | x :: xs, q :: qs => (∃ ls, σ.ev x = V.flat q.1 ls ∧ VS.argX p ls q.2) ∧ σ.argsX p xs qs
  | _, _ => False
theorem Rel.argsX (h : Rel E N σ a w G) {i : Nat} {E' : Env} (hw : E'.w0 = w) (hold : ∀ b, E.old b → E'.old b) (hn : 0 < E'.nl) (hv : E'.lv 0 = G.vl i) : ∀ {xs : List Operand} {qs : List (Bool × List AC)}, σ.argsX (.hd i) xs qs → ArgsM E' qs (xs.map a.eval)
  | [], [], _ => ⟨rfl, fun c ag ts v hc => by simp at hc⟩
  | x :: xs, q :: qs, hq => by
    obtain ⟨⟨ls, h1, h2⟩, h3⟩ := hq
    obtain ⟨h4, h5⟩ := h.argsX hw hold hn hv h3
    refine ⟨by simpa using h4, fun c ag ts v hc hv' => ?_⟩
    cases c with
    | zero =>
      cases hc
      cases hv'
      have h6 := h.ev x
      rw [h1, vflat] at h6
      obtain ⟨us, h7, h8, h9⟩ := h6
      obtain ⟨h10, h11⟩ := argX_get h2
      refine ⟨us, h7, h8.trans h10, fun j t u hj hu => ?_⟩
      obtain ⟨y, h12, h13⟩ := h11 j t hj
      have h14 := h9 j y u h12 hu
      cases t with
      | ln k =>
        obtain ⟨rfl, rfl⟩ := h13
        exact ⟨hn, h14.1.2.trans hv.symm⟩
      | rd t =>
        rcases h13 with ⟨z, rfl, rfl⟩ | rfl
        · rcases h14.2 with h15 | h15
          · cases h15
          · have h16 : u = z := h14.1
            rw [h16] at h15 ⊢
            exact .lit h15
        · have h16 : Inn E.old w t u := h14.1
          show Inn E'.old E'.w0 t u
          rw [hw]
          exact h16.frame (Nat.le_refl _) fun b hb _ => ⟨hold b hb, rfl⟩
    | succ c => exact h5 c ag ts v (by simpa using hc) (by simpa using hv')
end Go.Proofs.Ytfghhjcfmmhacaa.V
/- States told by trees: a call that is handed several objects to keep, whose answers may be structs and tuples; a call of a function value that is known. -/
namespace Go.Proofs.Ytfghhjcfmmhacaa.V
open Go Go.RowKit
set_option linter.unusedVariables false
variable {P : Program} {E : Env} {N nb : Nat} {σ σ' : VS} {o : Oper} {a : Act} {w : World} {G : Ghost}
def VS.argY (is : List Nat) : List Leaf → List AC → Prop
  | [], [] => True
  | x :: xs, .rd t :: ts => ((∃ u, t = .lit u ∧ x = .sc u) ∨ x = .ro t) ∧ VS.argY is xs ts
  | x :: xs, .ln i :: ts => (∃ p, is[i]? = some p ∧ x = .hd p) ∧ VS.argY is xs ts
  | _, _ => False
theorem argY_get {is : List Nat} : ∀ {xs : List Leaf} {ts : List AC}, VS.argY is xs ts → xs.length = ts.length ∧ ∀ (j : Nat) (t : AC), ts[j]? = some t → ∃ x, xs[j]? = some x ∧ match t with
    | .rd t => (∃ u, t = .lit u ∧ x = .sc u) ∨ x = .ro t
    | .ln i => ∃ p, is[i]? = some p ∧ x = .hd p
  | [], [], _ => ⟨rfl, fun j t h => by simp at h⟩
  | x :: xs, .rd t :: ts, h => by
    obtain ⟨h1, h2⟩ := argY_get h.2
    refine ⟨by simp [h1], fun j s hj => ?_⟩
    cases j with
    | zero => cases hj; exact ⟨x, rfl, h.1⟩
    | succ j => exact h2 j s (by simpa using hj)
  | x :: xs, .ln i :: ts, h => by
    obtain ⟨h1, h2⟩ := argY_get h.2
    refine ⟨by simp [h1], fun j s hj => ?_⟩
    cases j with
    | zero => cases hj; exact ⟨x, rfl, h.1⟩
    | succ j => exact h2 j s (by simpa using hj)
def VS.argsY (σ : VS) (is : List Nat) : List Operand → List (Bool × List AC) → Prop
  | [], [] => True
  | x :: xs, q :: qs => (∃ ls, σ.ev x = V.flat q.1 ls ∧ VS.argY is ls q.2) ∧ σ.argsY is xs qs
  | _, _ => False
theorem Rel.argsY (h : Rel E N σ a w G) {is : List Nat} {E' : Env} (hw : E'.w0 = w) (hold : ∀ b, E.old b → E'.old b) (hn : ∀ i p, is[i]? = some p → i < E'.nl ∧ E'.lv i = G.vl p) : ∀ {xs : List Operand} {qs : List (Bool × List AC)}, σ.argsY is xs qs → ArgsM E' qs (xs.map a.eval)
  | [], [], _ => ⟨rfl, fun c ag ts v hc => by simp at hc⟩
  | x :: xs, q :: qs, hq => by
    obtain ⟨⟨ls, h1, h2⟩, h3⟩ := hq
    obtain ⟨h4, h5⟩ := h.argsY hw hold hn h3
    refine ⟨by simpa using h4, fun c ag ts v hc hv' => ?_⟩
    cases c with
    | zero =>
      cases hc
      cases hv'
      have h6 := h.ev x
      rw [h1, vflat] at h6
      obtain ⟨us, h7, h8, h9⟩ := h6
      obtain ⟨h10, h11⟩ := argY_get h2
      refine ⟨us, h7, h8.trans h10, fun j t u hj hu => ?_⟩
      obtain ⟨y, h12, h13⟩ := h11 j t hj
      have h14 := h9 j y u h12 hu
      cases t with
      | ln k =>
        obtain ⟨p, hp, rfl⟩ := h13
        obtain ⟨e1, e2⟩ := hn k p hp
        exact ⟨e1, h14.1.2.trans e2.symm⟩
      | rd t =>
        rcases h13 with ⟨z, rfl, rfl⟩ | rfl
        · rcases h14.2 with h15 | h15
          · cases h15
          · have h16 : u = z := h14.1
            rw [h16] at h15 ⊢
            exact .lit h15
        · have h16 : Inn E.old w t u := h14.1
          show Inn E'.old E'.w0 t u
          rw [hw]
          exact h16.frame (Nat.le_refl _) fun b hb _ => ⟨hold b hb, rfl⟩
    | succ c => exact h5 c ag ts v (by simpa using hc) (by simpa using hv')
theorem killY {cs : List Leaf} {i : Nat} {p : Nat × T} (h : (σ.kills cs).ob i = some p) : σ.ob i = some p ∧ cs.any (isHd i) = false := by
  have h1 : (bif cs.any (isHd i) then none else σ.ob i) = some p := h
  cases hc : cs.any (isHd i) with
  | true => rw [hc] at h1; cases h1
  | false => rw [hc] at h1; exact ⟨h1, rfl⟩
theorem ok_callY {d : Nat} {f : FuncId} {xs : List Operand} {ats : Array TypeId} {ins : List (Bool × List AC)} {ts : List T} {tup : Bool} {rs : List (Bool × List T)} {ls : List (Bool × List Leaf)} {is : List Nat} (hk : ansLs σ.nx rs = ls) (ho : o.op = .call { callee := .value (.func f), args := xs.toArray, argTypes := ats }) (hb : ∃ fn c, P.funcs[f]? = some fn ∧ fn.body = some c ∧ fn.name ≠ "runtime.NumGoroutine")
    (hc : VX P f ins ts tup rs) (hx : σ.argsY is xs ins) (hi : is.map (fun i => (σ.ob i).map (·.2)) = ts.map some) (hnd : is.Nodup) (hd : o.dst = some d) (hdN : d < N) : OpOk P E N σ o ((ansSs (σ.kills (is.map .hd)) rs).put d ⟨tup, ls⟩) :=
  fun a w G K Q h k => by
    subst hk
    obtain ⟨fn, c, h1, h2, h2'⟩ := hb
    have hlen : is.length = ts.length := by simpa using congrArg List.length hi
    have hat : ∀ (q : Nat) (p : Nat), is[q]? = some p → ∃ ver t, ts[q]? = some t ∧ σ.ob p = some (ver, t) := fun q p hq => by
      have e := congrArg (fun l => l[q]?) hi
      simp only [List.getElem?_map, hq, Option.map_some] at e
      cases ht : ts[q]? with
      | none => have := get_lt hq; rw [List.getElem?_eq_none_iff] at ht; omega
      | some t =>
        rw [ht] at e
        have e2 := Option.some.inj e
        obtain ⟨⟨ver, t'⟩, e3, e4⟩ := Option.map_eq_some_iff.1 e2
        exact ⟨ver, t, rfl, by rw [e3]; simp at e4; rw [e4]⟩
    have hlive : ∀ (q : Nat) (p : Nat), is[q]? = some p → σ.ob p ≠ none := fun q p hq => by obtain ⟨v, t, -, e⟩ := hat q p hq; rw [e]; simp
    have hgd : ∀ q, q < ts.length → is[q]? = some (is.getD q 0) := fun q hq => by rw [List.getD, List.getElem?_eq_getElem (by omega)]; rfl
    have hF : ∀ (q b : Nat), q < ts.length → G.ft (is.getD q 0) b → b < w.heap.size := fun q b hq hb => (h.ftlt _ b (hlive q _ (hgd q hq)) hb).2
    have hnot : ∀ b, E.old b → ∀ p ∈ is, ¬ G.ft p b := fun b hb p hp hf => by
      obtain ⟨q, hq⟩ := List.getElem?_of_mem hp
      exact (h.ftlt p b (hlive q p hq) hf).1.elim (fun h1 => by have := hb.1; omega) hb.2
    have hne : ∀ q q', q < ts.length → q' < ts.length → q ≠ q' → is.getD q 0 ≠ is.getD q' 0 := fun q q' hq hq' hqq e => by
      have e1 := hgd q hq
      have e2 := hgd q' hq'
      rw [List.getElem?_eq_getElem (by omega)] at e1 e2
      have e3 : is[q]'(by omega) = is[q']'(by omega) := by rw [Option.some.inj e1, Option.some.inj e2, e]
      rcases Nat.lt_or_gt_of_ne hqq with h | h
      · exact List.pairwise_iff_getElem.1 hnd q q' (by omega) (by omega) h e3
      · exact List.pairwise_iff_getElem.1 hnd q' q (by omega) (by omega) h e3.symm
    have hcall := hc w (fun q => G.vl (is.getD q 0)) (fun q => G.ft (is.getD q 0)) hF (xs.map a.eval) (fun q t hq => by
      obtain ⟨v, t', e1, e2⟩ := hat q _ (hgd q (get_lt hq))
      rw [hq] at e1
      cases e1
      obtain ⟨-, e5, e6⟩ := h.objs _ v t e2
      exact ⟨e5, e6⟩) (fun q q' b hq hq' hqq => h.disj _ _ b (hlive q _ (hgd q hq)) (hlive q' _ (hgd q' hq')) (hne q q' hq hq' hqq))
      (h.argsY (is := is) (E' := Env.lend w (fun q => G.vl (is.getD q 0)) (fun q => G.ft (is.getD q 0)) ts.length hF) rfl (fun b hb => ⟨Nat.lt_of_lt_of_le hb.1 h.low, fun ⟨q, hq, hqb⟩ => hnot b hb _ (get_mem (hgd q hq)) hqb⟩)
        (fun i p hp => ⟨by have := get_lt hp; show i < ts.length; omega, by show G.vl (is.getD i 0) = _; rw [List.getD, hp]; rfl⟩) hx)
    have hrun : (execOp a.eval o).run P w = .ok (.enter f (xs.map a.eval).toArray) w := by
      simp [execOp, ho, resolve, Act.eval, Deferred.ofValue, invoke, callFunc, h1, h2, h2', Result.andThen]
    unfold Oper.wp
    rw [hrun]
    refine hcall.mono fun e w' ⟨uss, F', g1, g2, g3, g4, g5, g6⟩ => ?_
    have hin : ∀ b, (∃ q, q < ts.length ∧ G.ft (is.getD q 0) b) → ∃ p ∈ is, G.ft p b := fun b ⟨q, hq, hb⟩ => ⟨_, get_mem (hgd q hq), hb⟩
    have hsm : Same E w w' := ⟨g6.os, g6.tape, g6.output, g6.size, fun b hb => g6.block b ⟨Nat.lt_of_lt_of_le hb.1 h.low, fun hh => by obtain ⟨p, hp, hpb⟩ := hin b hh; exact hnot b hb p hp hpb⟩⟩
    have hlv : ∀ p ∈ is, σ.ob p ≠ none := fun p hp => by obtain ⟨q, hq⟩ := List.getElem?_of_mem hp; exact hlive q p hq
    have hoff : ∀ i p, (σ.kills (is.map .hd)).ob i = some p → σ.ob i = some p ∧ i ∉ is := fun i p hp => by
      obtain ⟨e1, e2⟩ := killY hp
      refine ⟨e1, fun hm => ?_⟩
      rw [List.any_eq_false] at e2
      exact e2 (.hd i) (List.mem_map.2 ⟨i, hm, rfl⟩) (Nat.beq_refl i)
    have hkill : Rel E N (σ.kills (is.map .hd)) a w' G := by
      refine (h.turn (σ' := σ.kills (is.map .hd)) (G' := G) (fun b => ∃ p ∈ is, G.ft p b) rfl rfl rfl hsm (fun b hb hD => g6.block b ⟨hb, fun hh => hD (hin b hh)⟩) (fun c hc ⟨p, hp, hpb⟩ => h.boxft c p hc (hlv p hp) hpb) (Nat.le_refl _) (fun _ _ => rfl) (fun i v' t' hv => ?_) (fun i j b hi hj hij => ?_)).1
      · obtain ⟨e1, e2⟩ := hoff i _ hv
        exact .inl ⟨e1, fun b => Iff.rfl, fun b hb ⟨p, hp, hpb⟩ => h.disj i p b (by rw [e1]; simp) (hlv p hp) (fun e => e2 (e ▸ hp)) hb hpb⟩
      · obtain ⟨vi, hvi⟩ := Option.ne_none_iff_exists'.1 hi
        obtain ⟨vj, hvj⟩ := Option.ne_none_iff_exists'.1 hj
        exact h.disj i j b (by rw [(hoff i _ hvi).1]; simp) (by rw [(hoff j _ hvj).1]; simp) hij
    subst g2
    obtain ⟨G', k1, k2, k3, k4, k5, k6, k7, k8⟩ := hkill.addAlls rs uss F' g1 (fun c ag ts us hc hu => ⟨(g3 c ag ts us hc hu).1, fun j t u hj hu' => (g3 c ag ts us hc hu).2 j t u hj hu'⟩) (fun c j b hb => by
      obtain ⟨m1, m2⟩ := g5 c j b hb
      rcases m1 with m1 | hm
      · refine ⟨⟨fun i hi hf => ?_, fun c' hc' e => ?_⟩, .inl (Nat.le_trans h.low m1), m2⟩
        · obtain ⟨vi, hvi⟩ := Option.ne_none_iff_exists'.1 hi
          have := (h.ftlt i b (by rw [(hoff i _ hvi).1]; simp) hf).2
          have hm1 : w.heap.size ≤ b := m1
          omega
        · exact (h.fresh m1).2 c' hc' e
      · obtain ⟨p, hp, hpb⟩ := hin b hm
        refine ⟨⟨fun i hi hf => ?_, fun c' hc' e => ?_⟩, (h.ftlt p b (hlv p hp) hpb).1, m2⟩
        · obtain ⟨vi, hvi⟩ := Option.ne_none_iff_exists'.1 hi
          obtain ⟨e1, e2⟩ := hoff i _ hvi
          exact h.disj i p b (by rw [e1]; simp) (hlv p hp) (fun e => e2 (e ▸ hp)) hf hpb
        · exact h.boxft c' p hc' (hlv p hp) (by rw [e]; exact hpb)) g4
    rw [hd]
    refine k _ _ _ (?_ : Rel E N _ _ _ G')
    have hfin := k1.put hdN (v := ⟨tup, ansLs σ.nx rs⟩) (u := vval tup (List.zipWith (fun c us => cval c.1 us) (ansLs σ.nx rs) uss)) ⟨uss, g1.trans k3.symm, rfl, fun c ag xs us hc hu => ⟨(k4 c ag xs us hc hu).1, (k4 c ag xs us hc hu).2.2⟩⟩
    have hz : List.zipWith (fun r us => cval r.1 us) rs uss = List.zipWith (fun c us => cval c.1 us) (ansLs σ.nx rs) uss := by
      apply List.ext_getElem?
      intro c
      rw [List.getElem?_zipWith, List.getElem?_zipWith]
      cases hq : (ansLs σ.nx rs)[c]? with
      | none =>
        have : rs[c]? = none := by
          have k3' : (ansLs σ.nx rs).length = rs.length := k3
          rw [List.getElem?_eq_none_iff] at hq ⊢; omega
        rw [this]
      | some q =>
        obtain ⟨ag, xs'⟩ := q
        have k3' : (ansLs σ.nx rs).length = rs.length := k3
        have hcl : c < uss.length := by have := get_lt hq; omega
        obtain ⟨-, ⟨ts', hts⟩, -⟩ := k4 c ag xs' uss[c] hq (List.getElem?_eq_getElem hcl)
        rw [hts, List.getElem?_eq_getElem hcl]
    rw [hz]
    exact hfin
theorem ok_callV {d : Nat} {f : FuncId} {y : Operand} {xs : List Operand} {ats : Array TypeId} {qs : List (Bool × List T)} {tup : Bool} {rs : List (Bool × List T)} {ls : List (Bool × List Leaf)} (hk : ansLs σ.nx rs = ls) (ho : o.op = .call { callee := .value y, args := xs.toArray, argTypes := ats }) (hy : σ.ev y = V.one (.sc (.func (.func f) #[] #[]))) (hyn : y ≠ .func f) (hb : ∃ fn c, P.funcs[f]? = some fn ∧ fn.body = some c ∧ fn.name ≠ "runtime.NumGoroutine")
    (hc : VC P f qs tup rs) (hx : σ.argss xs qs) (hd : o.dst = some d) (hdN : d < N) : OpMk P E N none σ o ((ansSs σ rs).put d ⟨tup, ls⟩) := fun a w G K Q h k => by
  have hyv : a.eval y = .func (.func f) #[] #[] := h.sc hy
  have key : ∀ ρ : Operand → Value, ρ y = .func (.func f) #[] #[] → ρ (.func f) = .func (.func f) #[] #[] → (execOp ρ o).run P w = (execOp ρ { o with op := .call { callee := .value (.func f), args := xs.toArray, argTypes := ats } }).run P w := fun ρ r1 r2 => by
    simp only [execOp, ho, resolve, r1, r2]
  have hev := key a.eval hyv rfl
  have := ok_call (o := { o with op := .call { callee := .value (.func f), args := xs.toArray, argTypes := ats } }) (ats := ats) hk rfl hb hc hx hd hdN a w G K Q h k
  unfold Oper.wp at this ⊢
  rw [hev]
  exact this
end Go.Proofs.Ytfghhjcfmmhacaa.V
/- The comparison of two numbers, and of two clients' IDs, by contract. -/
namespace Go.Proofs.Ytfghhjcfmmhacaa
open Go Go.RowKit V
set_option linter.unusedVariables false
def cmpI (x y : Int) : Int := if x < y then -1 else if y < x then 1 else 0
theorem cmpI_neg {x y : Int} : cmpI x y < 0 ↔ x < y := by unfold cmpI; repeat' split <;> omega
theorem cmpI_zero {x y : Int} : cmpI x y = 0 ↔ x = y := by unfold cmpI; repeat' split <;> omega
theorem icompare (x y : Int) (w : World) : Calls Try.prog 81 #[.int .i64 x, .int .i64 y] w fun e w' => e = .returned (.int .i64 (cmpI x y)) ∧ w' = w := by
  rcases Int.lt_trichotomy x y with h | h | h
  · have e : cmpI x y = -1 := if_pos h
    rw [e]
    clear e
    go_enter Try.func81, Try.ntmps81
    go_wp2
    all_goals go_ret
    all_goals simp_all
  · subst h
    have e : cmpI x x = 0 := cmpI_zero.2 rfl
    rw [e]
    clear e
    go_enter Try.func81, Try.ntmps81
    go_wp2
    all_goals go_ret
    all_goals simp_all
  · have e : cmpI x y = 1 := by unfold cmpI; rw [if_neg (by omega), if_pos h]
    have h' : ¬ x < y := by omega
    rw [e]
    clear e
    go_enter Try.func81, Try.ntmps81
    go_wp2
    all_goals go_ret
    all_goals simp_all
theorem vcompare (x y : Int) : VC Try.prog 81 [(false, [.lit (.int .i64 x)]), (false, [.lit (.int .i64 y)])] false [(false, [.lit (.int .i64 (cmpI x y))])] :=
  VC.plain (ins := [(false, [.int .i64 x]), (false, [.int .i64 y])]) (ag := false) (rs := [.int .i64 (cmpI x y)]) (fun u hu => by rw [List.mem_singleton.1 hu]; rfl) fun w => (icompare x y w).mono fun e w' ⟨he, hw⟩ => ⟨he, hw ▸ Below.refl _ _⟩
end Go.Proofs.Ytfghhjcfmmhacaa
/- The program's client that is served first, and its order by IDs: told by trees. -/
namespace Go.Proofs.Ytfghhjcfmmhacaa
open Go Go.RowKit V
set_option linter.unusedVariables false
set_option maxRecDepth 100000 in
set_option maxHeartbeats 2000000 in
theorem vcmpid_i (a c : ClientD) : VC Try.prog 88 [(true, tClient a), (true, tClient c)] false [(false, [.lit (.int .i64 (cmpI a.fID c.fID))])] := by
  refine VC.enter Try.func88 rfl Try.ntmps88 (gle rfl) fun E hE => ?_
  refine SV.seq' ?_
  refine SV.region ?_
  refine SV.op (OpMk.ok (ok_box (kk := 0) (ag := true) (xs := [.sc _, .sc _, .sc _]) rfl rfl rfl (fun h => by cases h) rfl rfl (gle rfl))) rfl ?_
  refine SV.op (OpMk.ok (ok_box (kk := 1) (ag := true) (xs := [.sc _, .sc _, .sc _]) rfl rfl rfl (fun h => by cases h) rfl rfl (gle rfl))) rfl ?_
  refine SV.op (OpL.ok (nb := 2) (ok_move (v := V.one (.sc _)) (.inr rfl) rfl) rfl (gle rfl)) rfl ?_
  refine SV.nil ?_
  refine SV.tn ?_
  refine SV.seq' ?_
  refine SV.region ?_
  refine SV.op (OpL.ok (nb := 2) (ok_field_bp (b := 0) (o' := 0) (off := 0) rfl rfl fld_impl_Client_0) rfl (gle rfl)) rfl ?_
  refine SV.op (OpL.ok (nb := 2) (ok_load_bp (b := 0) (i := 0) (ag := false) (m := 1) (ys := [.sc _]) rfl rfl rfl agg_int sz_int (fun _ => rfl) rfl rfl (gle rfl)) rfl (gle rfl)) rfl ?_
  refine SV.op (OpL.ok (nb := 2) (ok_field_bp (b := 1) (o' := 0) (off := 0) rfl rfl fld_impl_Client_0) rfl (gle rfl)) rfl ?_
  refine SV.op (OpL.ok (nb := 2) (ok_load_bp (b := 1) (i := 0) (ag := false) (m := 1) (ys := [.sc _]) rfl rfl rfl agg_int sz_int (fun _ => rfl) rfl rfl (gle rfl)) rfl (gle rfl)) rfl ?_
  refine SV.op (OpMk.ok (ok_call (ls := [(false, [.sc _])]) rfl rfl ⟨_, _, Try.func81, rfl, by decide⟩ (vcompare a.fID c.fID) ⟨⟨[.sc _], rfl, ⟨rfl, trivial⟩⟩, ⟨[.sc _], rfl, ⟨rfl, trivial⟩⟩, trivial⟩ rfl (gle rfl))) rfl ?_
  refine SV.op (OpL.ok (nb := 2) (ok_move (v := V.one (.sc _)) (.inr rfl) rfl) rfl (gle rfl)) rfl ?_
  refine SV.nil ?_
  refine SV.tn ?_
  refine SV.ret ?_
  apply SV.done (hf := Try.results88) (ht := rfl) (he := .inl rfl)
  case hr => exact (ResAll.cons (ResOk.tmp (ag := false) (xs := [.sc _]) rfl) ResAll.nil')
  case h2 => simp [two]
  refine ⟨rfl, ⟨?_, trivial⟩, trivial⟩ <;> rfl
set_option maxRecDepth 100000 in
set_option maxHeartbeats 2000000 in
theorem vfirst_i (l : List ClientD) (hL : l.length ≤ 1000000000) : VC Try.prog 86 [(false, [.seq 35 ((l).map tClient)])] false [(false, [.lit (.int .i64 (((BrokerD.best l : Nat) : Int)))])] := by
  refine VC.enter Try.func86 rfl Try.ntmps86 (gle rfl) fun E hE => ?_
  refine SV.seq' ?_
  refine SV.region ?_
  refine SV.op (OpL.ok (nb := 0) (ok_move (v := V.one (.sc _)) (.inr rfl) rfl) rfl (gle rfl)) rfl ?_
  refine SV.nil ?_
  refine SV.tn ?_
  refine SV.seq' ?_
  refine SV.region ?_
  refine SV.op (OpL.ok (nb := 0) (ok_move (v := V.one (.sc _)) (.inr rfl) rfl) rfl (gle rfl)) rfl ?_
  refine SV.nil ?_
  refine SV.tn ?_
  refine SV.seq' ?_
  refine SV.seq' ?_
  refine SV.region ?_
  refine SV.op (OpL.ok (nb := 0) (ok_move (v := V.one (.ro _)) (.inl rfl) rfl) rfl (gle rfl)) rfl ?_
  refine SV.op (OpL.ok (nb := 0) (ok_len (lf := .ro _) rfl elt_impl_Client.und rfl rfl) rfl (gle rfl)) rfl ?_
  refine SV.op (OpL.ok (nb := 0) (ok_move (v := V.one (.sc _)) (.inl rfl) rfl) rfl (gle rfl)) rfl ?_
  refine SV.nil ?_
  refine SV.tn ?_
  refine SV.block ?_
  refine SV.loopF (X := Nat) (fun (σ : VS) t => ((((((VS.nil.put 0 (σ.tm 0)).put 2 (σ.tm 2)).put 3 (V.flat false [.sc (.int .i64 (((BrokerD.bestAt l (t - 1) : Nat) : Int)))])).put 6 (σ.tm 6)).put 7 (σ.tm 7)).put 8 (V.flat false [.sc (.int .i64 ((t : Int)))]))) (fun t => t ≤ l.length) (fun t => l.length - t) ?_ ?_
  · skip
    refine SV.again (fun i => [].getD i 0) 0 ((by first | exact Nat.zero_le _ | (refine ⟨Nat.zero_le _, ?_⟩; simp; done) | (simp; done) | omega)) (pins hE rfl rfl) (VS.le.mk' (le_put (le_put (le_put (le_put (le_put (le_put le_nil (V.le.keep (ag := false) (xs := [.ro _]) (ys := [.ro _]) rfl rfl ⟨rfl, trivial⟩)) (V.le.keep (ag := false) (xs := [.sc _]) (ys := [.sc _]) rfl rfl ⟨rfl, trivial⟩)) (V.le.keep (ag := false) (xs := [.sc _]) (ys := [.sc _]) rfl rfl ⟨(by first | rfl | (show Leaf.sc _ = Leaf.sc _; refine congrArg Leaf.sc ?_; first | rfl | go_num | (rw [Nat.add_sub_cancel, hst]; first | done | rfl | go_num | (simp; done) | (simp; omega)) | (simp [cntAll]; done)) | (simp [cntAll]; done) | (simp; omega)), trivial⟩)) (V.le.keep (ag := false) (xs := [.ro _]) (ys := [.ro _]) rfl rfl ⟨rfl, trivial⟩)) (V.le.keep (ag := false) (xs := [.sc _]) (ys := [.sc _]) rfl rfl ⟨rfl, trivial⟩)) (V.le.keep (ag := false) (xs := [.sc _]) (ys := [.sc _]) rfl rfl ⟨(by first | rfl | (show Leaf.sc _ = Leaf.sc _; refine congrArg Leaf.sc ?_; first | rfl | go_num | (rw [Nat.add_sub_cancel, hst]; first | done | rfl | go_num | (simp; done) | (simp; omega)) | (simp [cntAll]; done)) | (simp [cntAll]; done) | (simp; omega)), trivial⟩)) trivial trivial nil_ob (fun i j hi hj e => absurd hi (Nat.not_lt_zero i)))
  · rintro t ht
    refine SV.seq' ?_
    refine SV.region ?_
    refine SV.op (OpL.ok (nb := 0) (ok_s2 (x := .tmp 8) (x' := .tmp 7) (VScal.one rfl) (VScal.one rfl) (fun ρ h1 h2 w => by go_simp; (try go_bits); with_reducible rfl) rfl) rfl (gle rfl)) rfl ?_
    refine SV.nil ?_
    refine SV.tn ?_
    refine SV.seq' ?_
    refine SV.cond rfl (fun hc0 => ?_) (fun hc0 => ?_)
    · skip   -- c0.T
      have htl : t < l.length := by simpa using hc0
      have hbl := BrokerD.bestAt_le l (t - 1)
      obtain ⟨c, hx⟩ : ∃ c, l[t]? = some c := ⟨_, List.getElem?_eq_getElem htl⟩
      obtain ⟨d, hy⟩ : ∃ d, l[BrokerD.bestAt l (t - 1)]? = some d := ⟨_, List.getElem?_eq_getElem (by omega)⟩
      have hst0 : BrokerD.bestAt l t = if d.fPriority < c.fPriority then t else BrokerD.bestAt l (t - 1) := by
        cases t with
        | zero =>
          have hcd : c = d := by rw [show BrokerD.bestAt l (0 - 1) = 0 from rfl, hx] at hy; exact Option.some.inj hy
          rw [hcd, if_neg (Int.lt_irrefl _)]
        | succ t => exact BrokerD.best_step hx hy
      refine SV.skip ?_
      refine SV.tn ?_
      refine SV.seq' ?_
      refine SV.block ?_
      refine SV.seq' ?_
      refine SV.region ?_
      refine SV.op (OpL.ok (nb := 0) (ok_move (v := V.one (.sc _)) (.inl rfl) rfl) rfl (gle rfl)) rfl ?_
      refine SV.op (OpL.ok (nb := 0) (ok_index (n := 3) (lf := .ro _) rfl elt_impl_Client.und sz_impl_Client rfl rfl rfl (map_at hx)) rfl (gle rfl)) rfl ?_
      refine SV.op (OpL.ok (nb := 0) (ok_load_rp (ag := true) (m := 3) (ys := [.sc _, .sc _, .sc _]) rfl rfl agg_impl_Client sz_impl_Client (fun h => by cases h) (gle rfl) rfl) rfl (gle rfl)) rfl ?_
      refine SV.op (OpMk.ok (ok_alloc (kk := 0) (xs := [.sc _, .sc _, .sc _]) rfl rfl zero_impl_Client ⟨rfl, rfl, rfl, rfl, rfl, rfl, trivial⟩ rfl (gle rfl))) rfl ?_
      refine SV.op (OpL.ok (nb := 1) (ok_move (v := V.one (.sc _)) (.inr rfl) rfl) rfl (gle rfl)) rfl ?_
      refine SV.op (ok_store_bp (b := 0) (i := 0) (m := 3) (ag := true) (zs := [.sc _, .sc _, .sc _]) (ys := [.sc _, .sc _, .sc _]) rfl rfl rfl rfl sz_impl_Client (fun h => by cases h) rfl (gle rfl) rfl rfl rfl) rfl ?_
      refine SV.nil ?_
      refine SV.tn ?_
      refine SV.seq' ?_
      refine SV.draw [.q 0, .q 1, .q 2, .q 3, .q 4, .q 5, .q 6, .q 7] [] (by kernel_rfl) (by kernel_rfl) ?_
      refine DW.q rfl (ok_field_bp (b := 0) (o' := 0) (off := 2) rfl rfl fld_impl_Client_2) rfl rfl (gle rfl) (fun _ _ _ _ h => h) ?_
      refine DW.q rfl (ok_load_bp (b := 0) (i := 2) (ag := false) (m := 1) (ys := [.sc _]) rfl rfl rfl agg_int sz_int (fun _ => rfl) rfl rfl (gle rfl)) rfl rfl (gle rfl) (fun _ _ _ _ h => h) ?_
      refine DW.q rfl (ok_move (v := V.one (.ro _)) (.inl rfl) rfl) rfl rfl (gle rfl) (fun _ _ _ _ h => h) ?_
      refine DW.q rfl (ok_move (v := V.one (.sc _)) (.inl rfl) rfl) rfl rfl (gle rfl) (fun _ _ _ _ h => h) ?_
      refine DW.q rfl (ok_index (n := 3) (lf := .ro _) rfl elt_impl_Client.und sz_impl_Client rfl rfl rfl (map_at hy)) rfl rfl (gle rfl) (fun _ _ _ _ h => h) ?_
      refine DW.q rfl (ok_field_el (p := .rp _) (off := 2) rfl rfl rfl fld_impl_Client_2) rfl rfl (gle rfl) (fun _ _ _ _ h => h) ?_
      refine DW.q rfl (ok_load_rp (ag := false) (m := 1) (ys := [.sc _]) rfl rfl agg_int sz_int (fun _ => rfl) (gle rfl) rfl) rfl rfl (gle rfl) (fun _ _ _ _ h => h) ?_
      refine DW.q rfl (ok_s2 (x := .tmp 14) (x' := .tmp 19) (VScal.one rfl) (VScal.one rfl) (fun ρ h1 h2 w => by go_simp; (try go_bits); with_reducible rfl) rfl) rfl rfl (gle rfl) (fun _ _ _ _ h => h) ?_
      refine DW.stores ?_
      refine SV.zend ?_
      refine SV.tn ?_
      refine SV.cond rfl (fun hc1 => ?_) (fun hc1 => ?_)
      · skip   -- c1.T
        have hst : BrokerD.bestAt l t = t := by rw [hst0, if_pos (by simpa using hc1)]
        refine SV.region ?_
        refine SV.op (OpL.ok (nb := 1) (ok_move (v := V.one (.sc _)) (.inl rfl) rfl) rfl (gle rfl)) rfl ?_
        refine SV.op (OpL.ok (nb := 1) (ok_move (v := V.one (.sc _)) (.inr rfl) rfl) rfl (gle rfl)) rfl ?_
        refine SV.nil ?_
        refine SV.bn ?_
        refine SV.tn ?_
        refine SV.region ?_
        refine SV.op (OpL.ok (nb := 1) (ok_s2 (x := .tmp 8) (x' := .const ((Value.int IntKind.i64 1))) (VScal.one rfl) (VScal.one rfl) (fun ρ h1 h2 w => by go_simp; (try go_bits); with_reducible rfl) rfl) rfl (gle rfl)) rfl ?_
        refine SV.op (OpL.ok (nb := 1) (ok_move (v := V.one (.sc _)) (.inl rfl) rfl) rfl (gle rfl)) rfl ?_
        refine SV.nil ?_
        refine SV.tn ?_
        refine SV.again (fun i => [].getD i 0) (t + 1) (⟨by omega, by omega⟩) (pins hE rfl rfl) (VS.le.mk' (le_put (le_put (le_put (le_put (le_put (le_put le_nil (V.le.keep (ag := false) (xs := [.ro _]) (ys := [.ro _]) rfl rfl ⟨rfl, trivial⟩)) (V.le.keep (ag := false) (xs := [.sc _]) (ys := [.sc _]) rfl rfl ⟨rfl, trivial⟩)) (V.le.keep (ag := false) (xs := [.sc _]) (ys := [.sc _]) rfl rfl ⟨(by first | rfl | (show Leaf.sc _ = Leaf.sc _; refine congrArg Leaf.sc ?_; first | rfl | go_num | (rw [Nat.add_sub_cancel, hst]; first | done | rfl | go_num | (simp; done) | (simp; omega)) | (simp [cntAll]; done)) | (simp [cntAll]; done) | (simp; omega)), trivial⟩)) (V.le.keep (ag := false) (xs := [.ro _]) (ys := [.ro _]) rfl rfl ⟨rfl, trivial⟩)) (V.le.keep (ag := false) (xs := [.sc _]) (ys := [.sc _]) rfl rfl ⟨rfl, trivial⟩)) (V.le.keep (ag := false) (xs := [.sc _]) (ys := [.sc _]) rfl rfl ⟨(by first | rfl | (show Leaf.sc _ = Leaf.sc _; refine congrArg Leaf.sc ?_; first | rfl | go_num | (rw [Nat.add_sub_cancel, hst]; first | done | rfl | go_num | (simp; done) | (simp; omega)) | (simp [cntAll]; done)) | (simp [cntAll]; done) | (simp; omega)), trivial⟩)) trivial trivial nil_ob (fun i j hi hj e => absurd hi (Nat.not_lt_zero i)))
      · skip   -- c1.F
        have hst : BrokerD.bestAt l t = BrokerD.bestAt l (t - 1) := by rw [hst0, if_neg (by simpa using hc1)]
        refine SV.skip ?_
        refine SV.bn ?_
        refine SV.tn ?_
        refine SV.region ?_
        refine SV.op (OpL.ok (nb := 1) (ok_s2 (x := .tmp 8) (x' := .const ((Value.int IntKind.i64 1))) (VScal.one rfl) (VScal.one rfl) (fun ρ h1 h2 w => by go_simp; (try go_bits); with_reducible rfl) rfl) rfl (gle rfl)) rfl ?_
        refine SV.op (OpL.ok (nb := 1) (ok_move (v := V.one (.sc _)) (.inl rfl) rfl) rfl (gle rfl)) rfl ?_
        refine SV.nil ?_
        refine SV.tn ?_
        refine SV.again (fun i => [].getD i 0) (t + 1) (⟨by omega, by omega⟩) (pins hE rfl rfl) (VS.le.mk' (le_put (le_put (le_put (le_put (le_put (le_put le_nil (V.le.keep (ag := false) (xs := [.ro _]) (ys := [.ro _]) rfl rfl ⟨rfl, trivial⟩)) (V.le.keep (ag := false) (xs := [.sc _]) (ys := [.sc _]) rfl rfl ⟨rfl, trivial⟩)) (V.le.keep (ag := false) (xs := [.sc _]) (ys := [.sc _]) rfl rfl ⟨(by first | rfl | (show Leaf.sc _ = Leaf.sc _; refine congrArg Leaf.sc ?_; first | rfl | go_num | (rw [Nat.add_sub_cancel, hst]; first | done | rfl | go_num | (simp; done) | (simp; omega)) | (simp [cntAll]; done)) | (simp [cntAll]; done) | (simp; omega)), trivial⟩)) (V.le.keep (ag := false) (xs := [.ro _]) (ys := [.ro _]) rfl rfl ⟨rfl, trivial⟩)) (V.le.keep (ag := false) (xs := [.sc _]) (ys := [.sc _]) rfl rfl ⟨rfl, trivial⟩)) (V.le.keep (ag := false) (xs := [.sc _]) (ys := [.sc _]) rfl rfl ⟨(by first | rfl | (show Leaf.sc _ = Leaf.sc _; refine congrArg Leaf.sc ?_; first | rfl | go_num | (rw [Nat.add_sub_cancel, hst]; first | done | rfl | go_num | (simp; done) | (simp; omega)) | (simp [cntAll]; done)) | (simp [cntAll]; done) | (simp; omega)), trivial⟩)) trivial trivial nil_ob (fun i j hi hj e => absurd hi (Nat.not_lt_zero i)))
    · skip   -- c0.F
      have hte : l.length ≤ t := by simpa using hc0
      have hbe : BrokerD.best l = BrokerD.bestAt l (t - 1) := by unfold BrokerD.best; rw [show t = l.length by omega]
      refine SV.exit ?_
      refine SV.te ?_
      refine SV.te ?_
      refine SV.bh ?_
      refine SV.tn ?_
      refine SV.seq' ?_
      refine SV.region ?_
      refine SV.op (OpL.ok (nb := 0) (ok_move (v := V.one (.sc _)) (.inl rfl) rfl) rfl (gle rfl)) rfl ?_
      refine SV.op (OpL.ok (nb := 0) (ok_move (v := V.one (.sc _)) (.inr rfl) rfl) rfl (gle rfl)) rfl ?_
      refine SV.nil ?_
      refine SV.tn ?_
      refine SV.ret ?_
      apply SV.done (hf := Try.results86) (ht := rfl) (he := .inl rfl)
      case hr => exact (ResAll.cons (ResOk.tmp (ag := false) (xs := [.sc _]) rfl) ResAll.nil')
      case h2 => simp [two]
      refine ⟨rfl, ⟨?_, trivial⟩, trivial⟩ <;> (show some (T.lit (Value.int .i64 _)) = some (T.lit (Value.int .i64 _)); refine congrArg (fun z => some (T.lit (Value.int .i64 z))) ?_; rw [hbe])
end Go.Proofs.Ytfghhjcfmmhacaa
/- The library's slices.BinarySearchFunc at clients: told by trees. -/
namespace Go.Proofs.Ytfghhjcfmmhacaa
open Go Go.RowKit V
set_option linter.unusedVariables false
def hitAt (l : List ClientD) (k : Nat) (c : ClientD) : Bool := match l[k]? with
  | some d => decide (d.fID = c.fID)
  | none => false
theorem hitAt_some {l : List ClientD} {k : Nat} {c d : ClientD} (h : l[k]? = some d) : hitAt l k c = decide (d.fID = c.fID) := by unfold hitAt; rw [h]
theorem hitAt_none {l : List ClientD} {k : Nat} {c : ClientD} (h : ¬ k < l.length) : hitAt l k c = false := by unfold hitAt; rw [List.getElem?_eq_none (by omega)]
set_option maxRecDepth 100000 in
set_option maxHeartbeats 2000000 in
theorem vbin_i (l : List ClientD) (c : ClientD) (k : Nat) (hL : l.length ≤ 1000000000) (hk : k ≤ l.length) (hlo : ∀ u d, u < k → l[u]? = some d → d.fID < c.fID) (hge : ∀ u d, k ≤ u → l[u]? = some d → ¬ d.fID < c.fID) : VC Try.prog 87 [(false, [.seq 35 ((l).map tClient)]), (true, tClient c), (false, [.lit (.func (.func 88) #[] #[])])] true [(false, [.lit (.int .i64 ((k : Int)))]), (false, [.lit (.bool (hitAt l k c))])] := by
  refine VC.enter Try.func87 rfl Try.ntmps87 (gle rfl) fun E hE => ?_
  refine SV.seq' ?_
  refine SV.region ?_
  refine SV.op (OpMk.ok (ok_box (kk := 0) (ag := true) (xs := [.sc _, .sc _, .sc _]) rfl rfl rfl (fun h => by cases h) rfl rfl (gle rfl))) rfl ?_
  refine SV.op (OpL.ok (nb := 1) (ok_move (v := V.one (.sc _)) (.inr rfl) rfl) rfl (gle rfl)) rfl ?_
  refine SV.op (OpL.ok (nb := 1) (ok_move (v := V.one (.sc _)) (.inr rfl) rfl) rfl (gle rfl)) rfl ?_
  refine SV.nil ?_
  refine SV.tn ?_
  refine SV.seq' ?_
  refine SV.region ?_
  refine SV.op (OpL.ok (nb := 1) (ok_move (v := V.one (.ro _)) (.inl rfl) rfl) rfl (gle rfl)) rfl ?_
  refine SV.op (OpL.ok (nb := 1) (ok_len (lf := .ro _) rfl elt_impl_Client.und rfl rfl) rfl (gle rfl)) rfl ?_
  refine SV.op (OpL.ok (nb := 1) (ok_move (v := V.one (.sc _)) (.inr rfl) rfl) rfl (gle rfl)) rfl ?_
  refine SV.nil ?_
  refine SV.tn ?_
  refine SV.seq' ?_
  refine SV.region ?_
  refine SV.op (OpL.ok (nb := 1) (ok_move (v := V.one (.sc _)) (.inl rfl) rfl) rfl (gle rfl)) rfl ?_
  refine SV.op (OpL.ok (nb := 1) (ok_move (v := V.one (.sc _)) (.inr rfl) rfl) rfl (gle rfl)) rfl ?_
  refine SV.op (OpL.ok (nb := 1) (ok_move (v := V.one (.sc _)) (.inr rfl) rfl) rfl (gle rfl)) rfl ?_
  refine SV.nil ?_
  refine SV.tn ?_
  refine SV.seq' ?_
  refine SV.block ?_
  refine SV.loopF (X := Nat × Nat) (fun (σ : VS) z => (((((((((VS.nil.box 35 [σ.bl 0 0, σ.bl 0 1, σ.bl 0 2]).put 0 (σ.tm 0)).put 2 (σ.tm 2)).put 4 (V.flat false [.bp 0 0])).put 6 (σ.tm 6)).put 7 (σ.tm 7)).put 8 (σ.tm 8)).put 9 (V.flat false [.sc (.int .i64 ((z.1 : Int)))])).put 10 (V.flat false [.sc (.int .i64 ((z.2 : Int)))]))) (fun z => z.1 ≤ k ∧ k ≤ z.2 ∧ z.2 ≤ l.length) (fun z => z.2 - z.1) ?_ ?_
  · skip
    refine SV.again (fun i => [].getD i 0) (0, l.length) (⟨Nat.zero_le _, hk, Nat.le_refl _⟩) (pins hE rfl rfl) (VS.le.mk' (le_put (le_put (le_put (le_put (le_put (le_put (le_put (le_put (le_box le_nil) (V.le.keep (ag := false) (xs := [.ro _]) (ys := [.ro _]) rfl rfl ⟨rfl, trivial⟩)) (V.le.keep (ag := false) (xs := [.sc _]) (ys := [.sc _]) rfl rfl ⟨rfl, trivial⟩)) (V.le.keep (ag := false) (xs := [.bp 0 0]) (ys := [.bp 0 0]) rfl rfl ⟨⟨rfl, (gle rfl)⟩, trivial⟩)) (V.le.keep (ag := false) (xs := [.sc _]) (ys := [.sc _]) rfl rfl ⟨rfl, trivial⟩)) (V.le.keep (ag := false) (xs := [.sc _]) (ys := [.sc _]) rfl rfl ⟨rfl, trivial⟩)) (V.le.keep (ag := false) (xs := [.sc _]) (ys := [.sc _]) rfl rfl ⟨rfl, trivial⟩)) (V.le.keep (ag := false) (xs := [.sc _]) (ys := [.sc _]) rfl rfl ⟨(by first | rfl | (show Leaf.sc _ = Leaf.sc _; refine congrArg Leaf.sc ?_; first | rfl | go_num | (simp [cntAll]; done)) | (simp [cntAll]; done) | (simp; omega)), trivial⟩)) (V.le.keep (ag := false) (xs := [.sc _]) (ys := [.sc _]) rfl rfl ⟨(by first | rfl | (show Leaf.sc _ = Leaf.sc _; refine congrArg Leaf.sc ?_; first | rfl | go_num | (simp [cntAll]; done)) | (simp [cntAll]; done) | (simp; omega)), trivial⟩)) ⟨⟨rfl, ⟨rfl, rfl, rfl, trivial⟩⟩, trivial⟩ trivial nil_ob (fun i j hi hj e => absurd hi (Nat.not_lt_zero i)))
  · rintro ⟨i, j⟩ ⟨h1, h2, h3⟩
    dsimp only at h1 h2 h3
    refine SV.seq' ?_
    refine SV.seq' ?_
    refine SV.region ?_
    refine SV.op (OpL.ok (nb := 1) (ok_move (v := V.one (.sc _)) (.inl rfl) rfl) rfl (gle rfl)) rfl ?_
    refine SV.op (OpL.ok (nb := 1) (ok_move (v := V.one (.sc _)) (.inl rfl) rfl) rfl (gle rfl)) rfl ?_
    refine SV.op (OpL.ok (nb := 1) (ok_s2 (x := .tmp 15) (x' := .tmp 16) (VScal.one rfl) (VScal.one rfl) (fun ρ h1 h2 w => by go_simp; (try go_bits); with_reducible rfl) rfl) rfl (gle rfl)) rfl ?_
    refine SV.nil ?_
    refine SV.tn ?_
    refine SV.cond rfl (fun hc0 => ?_) (fun hc0 => ?_)
    · skip   -- c0.T
      have hij : i < j := by simpa using hc0
      obtain ⟨d, hd⟩ : ∃ d, l[((i + j) / 2)]? = some d := ⟨_, List.getElem?_eq_getElem (by omega)⟩
      refine SV.skip ?_
      refine SV.tn ?_
      refine SV.block ?_
      refine SV.seq' ?_
      refine SV.region ?_
      refine SV.op (OpL.ok (nb := 1) (ok_move (v := V.one (.sc _)) (.inl rfl) rfl) rfl (gle rfl)) rfl ?_
      refine SV.op (OpL.ok (nb := 1) (ok_move (v := V.one (.sc _)) (.inl rfl) rfl) rfl (gle rfl)) rfl ?_
      refine SV.op (OpL.ok (nb := 1) (ok_s2 (v := .int .i64 ((i + j : Nat) : Int)) (x := .tmp 18) (x' := .tmp 19) (VScal.one rfl) (VScal.one rfl) (fun ρ h1 h2 w => by go_simp; rw [IntWalk.i64_left, IntWalk.wrap64_in _ ⟨by omega, by omega⟩] <;> first | rfl | omega | (congr 1; omega)) rfl) rfl (gle rfl)) rfl ?_
      refine SV.op (OpL.ok (nb := 1) (ok_s1 (v := .int .u64 ((i + j : Nat) : Int)) (x := .tmp 20) (VScal.one rfl) (fun ρ h1 w => by go_simp; first | rfl | (rw [IntKind.wrap_u64]; congr 1; omega)) rfl) rfl (gle rfl)) rfl ?_
      refine SV.op (OpL.ok (nb := 1) (ok_s2 (v := .int .u64 ((((i + j) / 2) : Nat) : Int)) (x := .tmp 21) (x' := .const ((Value.int IntKind.u64 1))) (VScal.one rfl) (VScal.one rfl) (fun ρ h1 h2 w => by go_simp) rfl) rfl (gle rfl)) rfl ?_
      refine SV.op (OpL.ok (nb := 1) (ok_s1 (v := .int .i64 ((((i + j) / 2) : Nat) : Int)) (x := .tmp 22) (VScal.one rfl) (fun ρ h1 w => by go_simp; first | (congr 1; rw [IntKind.wrap_i64]; omega) | (rw [IntKind.wrap_i64]; omega)) rfl) rfl (gle rfl)) rfl ?_
      refine SV.op (OpL.ok (nb := 1) (ok_move (v := V.one (.sc _)) (.inr rfl) rfl) rfl (gle rfl)) rfl ?_
      refine SV.nil ?_
      refine SV.tn ?_
      refine SV.seq' ?_
      refine SV.draw [.q 0, .q 1, .q 2, .q 3, .q 4, .q 5, .m 6, .q 7] [] (by kernel_rfl) (by kernel_rfl) ?_
      refine DW.q rfl (ok_move (v := V.one (.sc _)) (.inl rfl) rfl) rfl rfl (gle rfl) (fun _ _ _ _ h => h) ?_
      refine DW.q rfl (ok_move (v := V.one (.ro _)) (.inl rfl) rfl) rfl rfl (gle rfl) (fun _ _ _ _ h => h) ?_
      refine DW.q rfl (ok_move (v := V.one (.sc _)) (.inl rfl) rfl) rfl rfl (gle rfl) (fun _ _ _ _ h => h) ?_
      refine DW.q rfl (ok_index (n := 3) (lf := .ro _) rfl elt_impl_Client.und sz_impl_Client rfl rfl rfl (map_at hd)) rfl rfl (gle rfl) (fun _ _ _ _ h => h) ?_
      refine DW.q rfl (ok_load_rp (ag := true) (m := 3) (ys := [.sc _, .sc _, .sc _]) rfl rfl agg_impl_Client sz_impl_Client (fun h => by cases h) (gle rfl) rfl) rfl rfl (gle rfl) (fun _ _ _ _ h => h) ?_
      refine DW.q rfl (ok_load_bp (b := 0) (i := 0) (ag := true) (m := 3) (ys := [.sc _, .sc _, .sc _]) rfl rfl rfl agg_impl_Client sz_impl_Client (fun h => by cases h) rfl rfl (gle rfl)) rfl rfl (gle rfl) (fun _ _ _ _ h => h) ?_
      refine DW.m [] rfl (ok_callV (ls := [(false, [.sc _])]) rfl rfl rfl (fun h => by cases h) ⟨_, _, Try.func88, rfl, by decide⟩ (vcmpid_i d c) ⟨⟨[.sc _, .sc _, .sc _], rfl, ⟨rfl, rfl, rfl, trivial⟩⟩, ⟨[.sc _, .sc _, .sc _], rfl, ⟨rfl, rfl, rfl, trivial⟩⟩, trivial⟩ rfl (gle rfl)) rfl (gle rfl) (gle rfl) (.inl rfl) (fun j hj => by cases hj) ?_
      refine DW.q rfl (ok_s2 (x := .tmp 30) (x' := .const ((Value.int IntKind.i64 0))) (VScal.one rfl) (VScal.one rfl) (fun ρ h1 h2 w => by go_simp; (try go_bits); with_reducible rfl) rfl) rfl rfl (gle rfl) (fun _ _ _ _ h => h) ?_
      refine DW.stores ?_
      refine SV.zend ?_
      refine SV.tn ?_
      refine SV.cond rfl (fun hc1 => ?_) (fun hc1 => ?_)
      · skip   -- c1.T
        have hlt : d.fID < c.fID := cmpI_neg.1 (by simpa using hc1)
        have hk1 : ((i + j) / 2) < k := by
          rcases Nat.lt_or_ge ((i + j) / 2) k with h | h
          · exact h
          · exact absurd hlt (hge _ d h hd)
        refine SV.region ?_
        refine SV.op (OpL.ok (nb := 1) (ok_move (v := V.one (.sc _)) (.inl rfl) rfl) rfl (gle rfl)) rfl ?_
        refine SV.op (OpL.ok (nb := 1) (ok_s2 (v := .int .i64 ((((i + j) / 2) + 1 : Nat) : Int)) (x := .tmp 32) (x' := .const ((Value.int IntKind.i64 1))) (VScal.one rfl) (VScal.one rfl) (fun ρ h1 h2 w => by go_simp; rw [IntWalk.i64_left, IntWalk.wrap64_in _ ⟨by omega, by omega⟩] <;> first | rfl | omega | (congr 1; omega)) rfl) rfl (gle rfl)) rfl ?_
        refine SV.op (OpL.ok (nb := 1) (ok_move (v := V.one (.sc _)) (.inr rfl) rfl) rfl (gle rfl)) rfl ?_
        refine SV.nil ?_
        refine SV.bn ?_
        refine SV.tn ?_
        refine SV.again (fun i => [].getD i 0) ((((i + j) / 2) + 1, j)) (⟨⟨by show ((i + j) / 2) + 1 ≤ k; omega, h2, h3⟩, by show j - (((i + j) / 2) + 1) < j - i; omega⟩) (pins hE rfl rfl) (VS.le.mk' (le_put (le_put (le_put (le_put (le_put (le_put (le_put (le_put (le_box le_nil) (V.le.keep (ag := false) (xs := [.ro _]) (ys := [.ro _]) rfl rfl ⟨rfl, trivial⟩)) (V.le.keep (ag := false) (xs := [.sc _]) (ys := [.sc _]) rfl rfl ⟨rfl, trivial⟩)) (V.le.keep (ag := false) (xs := [.bp 0 0]) (ys := [.bp 0 0]) rfl rfl ⟨⟨rfl, (gle rfl)⟩, trivial⟩)) (V.le.keep (ag := false) (xs := [.sc _]) (ys := [.sc _]) rfl rfl ⟨rfl, trivial⟩)) (V.le.keep (ag := false) (xs := [.sc _]) (ys := [.sc _]) rfl rfl ⟨rfl, trivial⟩)) (V.le.keep (ag := false) (xs := [.sc _]) (ys := [.sc _]) rfl rfl ⟨rfl, trivial⟩)) (V.le.keep (ag := false) (xs := [.sc _]) (ys := [.sc _]) rfl rfl ⟨(by first | rfl | (show Leaf.sc _ = Leaf.sc _; refine congrArg Leaf.sc ?_; first | rfl | go_num | (simp [cntAll]; done)) | (simp [cntAll]; done) | (simp; omega)), trivial⟩)) (V.le.keep (ag := false) (xs := [.sc _]) (ys := [.sc _]) rfl rfl ⟨(by first | rfl | (show Leaf.sc _ = Leaf.sc _; refine congrArg Leaf.sc ?_; first | rfl | go_num | (simp [cntAll]; done)) | (simp [cntAll]; done) | (simp; omega)), trivial⟩)) ⟨⟨rfl, ⟨rfl, rfl, rfl, trivial⟩⟩, trivial⟩ trivial nil_ob (fun i j hi hj e => absurd hi (Nat.not_lt_zero i)))
      · skip   -- c1.F
        have hnl : ¬ d.fID < c.fID := fun e => by have := cmpI_neg.2 e; simp at hc1; omega
        have hk2 : k ≤ ((i + j) / 2) := by
          rcases Nat.lt_or_ge ((i + j) / 2) k with h | h
          · exact absurd (hlo _ d h hd) hnl
          · exact h
        refine SV.region ?_
        refine SV.op (OpL.ok (nb := 1) (ok_move (v := V.one (.sc _)) (.inl rfl) rfl) rfl (gle rfl)) rfl ?_
        refine SV.op (OpL.ok (nb := 1) (ok_move (v := V.one (.sc _)) (.inr rfl) rfl) rfl (gle rfl)) rfl ?_
        refine SV.nil ?_
        refine SV.bn ?_
        refine SV.tn ?_
        refine SV.again (fun i => [].getD i 0) ((i, ((i + j) / 2))) (⟨⟨h1, hk2, by show ((i + j) / 2) ≤ l.length; omega⟩, by show ((i + j) / 2) - i < j - i; omega⟩) (pins hE rfl rfl) (VS.le.mk' (le_put (le_put (le_put (le_put (le_put (le_put (le_put (le_put (le_box le_nil) (V.le.keep (ag := false) (xs := [.ro _]) (ys := [.ro _]) rfl rfl ⟨rfl, trivial⟩)) (V.le.keep (ag := false) (xs := [.sc _]) (ys := [.sc _]) rfl rfl ⟨rfl, trivial⟩)) (V.le.keep (ag := false) (xs := [.bp 0 0]) (ys := [.bp 0 0]) rfl rfl ⟨⟨rfl, (gle rfl)⟩, trivial⟩)) (V.le.keep (ag := false) (xs := [.sc _]) (ys := [.sc _]) rfl rfl ⟨rfl, trivial⟩)) (V.le.keep (ag := false) (xs := [.sc _]) (ys := [.sc _]) rfl rfl ⟨rfl, trivial⟩)) (V.le.keep (ag := false) (xs := [.sc _]) (ys := [.sc _]) rfl rfl ⟨rfl, trivial⟩)) (V.le.keep (ag := false) (xs := [.sc _]) (ys := [.sc _]) rfl rfl ⟨(by first | rfl | (show Leaf.sc _ = Leaf.sc _; refine congrArg Leaf.sc ?_; first | rfl | go_num | (simp [cntAll]; done)) | (simp [cntAll]; done) | (simp; omega)), trivial⟩)) (V.le.keep (ag := false) (xs := [.sc _]) (ys := [.sc _]) rfl rfl ⟨(by first | rfl | (show Leaf.sc _ = Leaf.sc _; refine congrArg Leaf.sc ?_; first | rfl | go_num | (simp [cntAll]; done)) | (simp [cntAll]; done) | (simp; omega)), trivial⟩)) ⟨⟨rfl, ⟨rfl, rfl, rfl, trivial⟩⟩, trivial⟩ trivial nil_ob (fun i j hi hj e => absurd hi (Nat.not_lt_zero i)))
    · skip   -- c0.F
      have hik : i ≤ k ∧ k ≤ i := by simp at hc0; omega
      refine SV.exit ?_
      refine SV.te ?_
      refine SV.te ?_
      refine SV.bh ?_
      refine SV.tn ?_
      refine SV.seq' ?_
      refine SV.draw [.q 0, .q 1, .q 2, .q 3, .q 4, .q 5, .q 6, .q 7, .q 8, .q 9, .q 10, .m 11, .q 12, .q 13, .q 14, .q 15] [] (by kernel_rfl) (by kernel_rfl) ?_
      refine DW.q rfl (ok_move (v := V.one (.sc _)) (.inl rfl) rfl) rfl rfl (gle rfl) (fun _ _ _ _ h => h) ?_
      refine DW.q rfl (ok_move (v := V.one (.sc _)) (.inl rfl) rfl) rfl rfl (gle rfl) (fun _ _ _ _ h => h) ?_
      refine DW.q rfl (ok_move (v := V.one (.sc _)) (.inl rfl) rfl) rfl rfl (gle rfl) (fun _ _ _ _ h => h) ?_
      refine DW.q rfl (ok_s2 (x := .tmp 36) (x' := .tmp 37) (VScal.one rfl) (VScal.one rfl) (fun ρ h1 h2 w => by go_simp; (try go_bits); with_reducible rfl) rfl) rfl rfl (gle rfl) (fun _ _ _ _ h => h) ?_
      refine DW.q rfl (ok_move (v := V.one (.sc _)) (.inl rfl) rfl) rfl rfl (gle rfl) (fun _ _ _ _ h => h) ?_
      refine DW.split (d := 39) rfl (fun hg0 => ?_) (fun hg0 => ?_)
      · skip   -- g0.T
        have hil : i < l.length := by simpa using hg0
        obtain ⟨d, hd⟩ : ∃ d, l[i]? = some d := ⟨_, List.getElem?_eq_getElem hil⟩
        have hh := hitAt_some (c := c) hd
        refine DW.qY rfl (ok_move (v := V.one (.sc _)) (.inl rfl) rfl) rfl rfl rfl (gle rfl) rfl rfl rfl (gle rfl) (fun _ _ _ _ h => h) ?_
        refine DW.qY rfl (ok_move (v := V.one (.ro _)) (.inl rfl) rfl) rfl rfl rfl (gle rfl) rfl rfl rfl (gle rfl) (fun _ _ _ _ h => h) ?_
        refine DW.qY rfl (ok_move (v := V.one (.sc _)) (.inl rfl) rfl) rfl rfl rfl (gle rfl) rfl rfl rfl (gle rfl) (fun _ _ _ _ h => h) ?_
        refine DW.qY rfl (ok_index (n := 3) (lf := .ro _) rfl elt_impl_Client.und sz_impl_Client rfl rfl rfl (map_at hd)) rfl rfl rfl (gle rfl) rfl rfl rfl (gle rfl) (fun _ _ _ _ h => h) ?_
        refine DW.qY rfl (ok_load_rp (ag := true) (m := 3) (ys := [.sc _, .sc _, .sc _]) rfl rfl agg_impl_Client sz_impl_Client (fun h => by cases h) (gle rfl) rfl) rfl rfl rfl (gle rfl) rfl rfl rfl (gle rfl) (fun _ _ _ _ h => h) ?_
        refine DW.qY rfl (ok_load_bp (b := 0) (i := 0) (ag := true) (m := 3) (ys := [.sc _, .sc _, .sc _]) rfl rfl rfl agg_impl_Client sz_impl_Client (fun h => by cases h) rfl rfl (gle rfl)) rfl rfl rfl (gle rfl) rfl rfl rfl (gle rfl) (fun _ _ _ _ h => h) ?_
        refine DW.m' [] rfl (ok_callV (ls := [(false, [.sc _])]) rfl rfl rfl (fun h => by cases h) ⟨_, _, Try.func88, rfl, by decide⟩ (vcmpid_i d c) ⟨⟨[.sc _, .sc _, .sc _], rfl, ⟨rfl, rfl, rfl, trivial⟩⟩, ⟨[.sc _, .sc _, .sc _], rfl, ⟨rfl, rfl, rfl, trivial⟩⟩, trivial⟩ rfl (gle rfl)) (fun hr => wantedY hr rfl rfl rfl (gle rfl) rfl rfl) (gle rfl) (gle rfl) (.inl rfl) (fun j hj => by cases hj) ?_
        refine DW.qY rfl (ok_s2 (x := .tmp 46) (x' := .const ((Value.int IntKind.i64 0))) (VScal.one rfl) (VScal.one rfl) (fun ρ h1 h2 w => by go_simp; (try go_bits); with_reducible rfl) rfl) rfl rfl rfl (gle rfl) rfl rfl rfl (gle rfl) (fun _ _ _ _ h => h) ?_
        refine DW.q rfl (ok_pickT (v := V.one (.sc _)) rfl rfl rfl) rfl rfl (gle rfl) (fun _ _ _ _ h => h) ?_
        refine DW.q rfl (ok_move (v := V.one (.sc _)) (.inr rfl) rfl) rfl rfl (gle rfl) (fun _ _ _ _ h => h) ?_
        refine DW.q rfl (ok_move (v := V.one (.sc _)) (.inr rfl) rfl) rfl rfl (gle rfl) (fun _ _ _ _ h => h) ?_
        refine DW.stores ?_
        refine SV.zend ?_
        refine SV.tn ?_
        refine SV.ret ?_
        apply SV.done (hf := Try.results87) (ht := rfl) (he := .inl rfl)
        case hr => exact (ResAll.cons (ResOk.tmp (ag := false) (xs := [.sc _]) rfl) (ResAll.cons (ResOk.tmp (ag := false) (xs := [.sc _]) rfl) ResAll.nil'))
        case h2 => simp [two]
        refine ⟨rfl, ⟨?_, trivial⟩, ⟨rfl, ⟨?_, trivial⟩, trivial⟩⟩ <;> first | ((show some (T.lit (Value.int .i64 _)) = some (T.lit (Value.int .i64 _)); refine congrArg (fun z => some (T.lit (Value.int .i64 z))) ?_; omega)) | ((show some (T.lit (Value.bool _)) = some (T.lit (Value.bool _)); refine congrArg (fun z => some (T.lit (Value.bool z))) ?_; (rw [show k = i by omega, hh]; first | done | rfl | (rw [Bool.eq_iff_iff]; simp [cmpI_zero]))))
      · skip   -- g0.F
        have hh := hitAt_none (l := l) (k := i) (c := c) (by simpa using hg0)
        refine DW.qN (V' := V.one .dead) rfl rfl rfl rfl (gle rfl) rfl rfl rfl (gle rfl) (fun _ _ _ _ h => h) ?_
        refine DW.qN (V' := V.one .dead) rfl rfl rfl rfl (gle rfl) rfl rfl rfl (gle rfl) (fun _ _ _ _ h => h) ?_
        refine DW.qN (V' := V.one .dead) rfl rfl rfl rfl (gle rfl) rfl rfl rfl (gle rfl) (fun _ _ _ _ h => h) ?_
        refine DW.qN (V' := V.one .dead) rfl rfl rfl rfl (gle rfl) rfl rfl rfl (gle rfl) (fun _ _ _ _ h => h) ?_
        refine DW.qN (V' := V.one .dead) rfl rfl rfl rfl (gle rfl) rfl rfl rfl (gle rfl) (fun _ _ _ _ h => h) ?_
        refine DW.qN (V' := V.one .dead) rfl rfl rfl rfl (gle rfl) rfl rfl rfl (gle rfl) (fun _ _ _ _ h => h) ?_
        refine DW.mN rfl rfl rfl rfl (gle rfl) rfl rfl rfl (gle rfl) ?_
        refine DW.qN (V' := V.one .dead) rfl rfl rfl rfl (gle rfl) rfl rfl rfl (gle rfl) (fun _ _ _ _ h => h) ?_
        refine DW.q rfl (ok_pickF (v := V.one (.sc _)) rfl rfl rfl) rfl rfl (gle rfl) (fun _ _ _ _ h => h) ?_
        refine DW.q rfl (ok_move (v := V.one (.sc _)) (.inr rfl) rfl) rfl rfl (gle rfl) (fun _ _ _ _ h => h) ?_
        refine DW.q rfl (ok_move (v := V.one (.sc _)) (.inr rfl) rfl) rfl rfl (gle rfl) (fun _ _ _ _ h => h) ?_
        refine DW.stores ?_
        refine SV.zend ?_
        refine SV.tn ?_
        refine SV.ret ?_
        apply SV.done (hf := Try.results87) (ht := rfl) (he := .inl rfl)
        case hr => exact (ResAll.cons (ResOk.tmp (ag := false) (xs := [.sc _]) rfl) (ResAll.cons (ResOk.tmp (ag := false) (xs := [.sc _]) rfl) ResAll.nil'))
        case h2 => simp [two]
        refine ⟨rfl, ⟨?_, trivial⟩, ⟨rfl, ⟨?_, trivial⟩, trivial⟩⟩ <;> first | ((show some (T.lit (Value.int .i64 _)) = some (T.lit (Value.int .i64 _)); refine congrArg (fun z => some (T.lit (Value.int .i64 z))) ?_; omega)) | ((show some (T.lit (Value.bool _)) = some (T.lit (Value.bool _)); refine congrArg (fun z => some (T.lit (Value.bool z))) ?_; (rw [show k = i by omega, hh]; first | done | rfl | (rw [Bool.eq_iff_iff]; simp [cmpI_zero]))))
end Go.Proofs.Ytfghhjcfmmhacaa
/- The library's slices.Delete of one client, by contract: the row is the call's own. -/
namespace Go.Proofs.Ytfghhjcfmmhacaa
open Go Go.RowKit V
set_option linter.unusedVariables false
def zeroC : List Value := [.int .i64 0, .int .i64 0, .int .i64 0]
theorem run_clear_client (w : World) (ty : TypeId) (g o c : Nat) (h : ∀ j, j < 3 → (w.cell? ⟨g, o + j, none⟩).isSome = true) (hf : ∀ j, w.frozen? ⟨g, j, none⟩ = false) :
    (Builtin.clear_ #[24] ty #[.slice (some ⟨g, o, none⟩) 1 c]).run Try.prog w = .ok (.tuple #[]) (w.setCells g o zeroC) := by
  have hz : ∀ w, (zeroValue 35).run Try.prog w = .ok (.agg #[.int .i64 0, .int .i64 0, .int .i64 0]) w := fun w => by kernel_rfl
  have hzc : (Builtin.zeroCells (Value.agg #[.int .i64 0, .int .i64 0, .int .i64 0]).cells 1).toList = [.int .i64 0, .int .i64 0, .int .i64 0] := by kernel_rfl
  have hst := run_storeCells_cells (P := Try.prog) g o [.int .i64 0, .int .i64 0, .int .i64 0] 0 w (fun j hj => by simpa using h j (by simpa using hj)) (fun j hj => hf _) (fun v hv => by
    simp only [List.mem_cons, List.not_mem_nil, or_false] at hv
    rcases hv with rfl | rfl | rfl <;> rfl)
  simp only [Nat.add_zero] at hst
  simp [Builtin.clear_, run_underlying Try.underlying24, hz, hzc, hst]
  rfl
theorem grown_cells {w : World} {g : Nat} : ∀ (vs : List Value) (o : Nat) (w' : World), w.grownBy w' (some g) → w.grownBy (w'.setCells g o vs) (some g)
  | [], _, _, h => h
  | v :: r, o, w', h => grown_cells r (o + 1) _ ⟨h.os, h.tape, h.output, by simpa [World.setCell] using h.size, fun z hz hn => (Below.heap_setCell w' ⟨g, o, none⟩ v z (fun e => hn (by rw [show z = g from e]))).trans (h.block z hz hn)⟩
set_option maxRecDepth 100000 in
set_option maxHeartbeats 2000000 in
theorem idel0 (g cap m k : Nat) (f : Nat → Value) (w : World) (hk : k ≤ m) (hc : m + 1 ≤ cap) (hm : cap ≤ maxLen) (hrow : w.rowIs g 35 (cap * 3) f) (h1 : ∀ j, j < (m + 1) * 3 → (f j).oneCell' = true) :
    Calls Try.prog 66 #[.slice (some ⟨g, 0, none⟩) (m + 1) cap, .int .i64 k, .int .i64 ((k : Int) + 1)] w fun e w' =>
      e = .returned (.slice (some ⟨g, 0, none⟩) m cap) ∧ w.grownBy w' (some g) ∧ ∃ f', w'.rowIs g 35 (cap * 3) f' ∧ ∀ j, j < m * 3 → f' j = if j < k * 3 then f j else f (j + 3) := by
  unfold maxLen at hm
  have HR := Lib.hid hrow
  have H1 := Lib.hid h1
  have b1 : (0 : Int) ≤ (k : Int) := by omega
  have b2 : (k : Int) ≤ ((k : Int) + 1) := by omega
  have b3 : ((k : Int) + 1) ≤ ((m + 1 : Nat) : Int) := by omega
  have b4 : ((m + 1 : Nat) : Int) ≤ (cap : Int) := by omega
  have b5 : (k : Int) ≤ (cap : Int) := by omega
  have b6 : (0 : Int) ≤ (k : Int) + 1 := by omega
  have t1 : ((k : Int) + 1).toNat = k + 1 := by omega
  obtain ⟨I0, hI, hI3⟩ := sz_impl_Client
  obtain ⟨news, hnews⟩ : ∃ news, news = (List.range ((m + 1 - (k + 1)) * 3)).map fun j => f ((k + 1) * 3 + j) := ⟨_, rfl⟩
  have hnl : news.length = (m + 1 - (k + 1)) * 3 := by rw [hnews]; simp
  have hn1 : ∀ u ∈ news, u.oneCell' = true := fun u hu => by
    rw [hnews] at hu
    obtain ⟨j, hj, rfl⟩ := List.mem_map.1 hu
    have := List.mem_range.1 hj
    exact h1 _ (by omega)
  have hnc : ∀ j u, news[j]? = some u → w.cell? ⟨g, (k + 1) * 3 + j, none⟩ = some u := fun j u hj => by
    have hjl := V.get_lt hj
    rw [hnews, List.getElem?_map, List.getElem?_range (by omega)] at hj
    rw [← Option.some.inj hj]
    exact hrow.cell (by omega)
  have hsp : ∀ j, j < news.length → (w.cell? ⟨g, 0 + k * 3 + j, none⟩).isSome = true ∧ w.frozen? ⟨g, 0 + k * 3 + j, none⟩ = false := fun j hj => ⟨by rw [hrow.cell (by omega)]; rfl, hrow.frozen _⟩
  have HN := Lib.hid hnews
  have HL := Lib.hid hnl
  have H2 := Lib.hid hn1
  have HC : Hid (∀ j u, news[j]? = some u → w.cell? ((if cap = k + 1 then (⟨g, 0, none⟩ : Addr) else ⟨g, (k + 1) * 3, none⟩).add j) = some u) := Lib.hid fun j u hj => by
    have hjl := V.get_lt hj
    have hne : ¬ cap = k + 1 := by omega
    rw [if_neg hne, Addr.add_lit]
    exact hnc j u hj
  have H4 := Lib.hid hsp
  clear hrow h1 hnews hnl hn1 hnc hsp
  go_enter Try.func66, Try.ntmps66
  go_wp2_with fail
  go_region_law (refine step_append_room rfl _ _ 24 rfl 35 I0 3 Try.underlying24 hI hI3 g 0 k cap (by simp [Act.eval, Act.put]) (if cap = k + 1 then ⟨g, 0, none⟩ else ⟨g, (k + 1) * 3, none⟩) (m + 1 - (k + 1)) (cap - (k + 1)) news (by simp [Act.eval, Act.put]; split <;> rfl) HL.out HC.out H2.out (by omega) H4.out ?_)
  obtain ⟨W1, hW1⟩ : ∃ W, W = w.drew.setCells g (k * 3) news := ⟨_, rfl⟩
  rw [← hW1]
  have r1 := rowIs_setCells news (k * 3) w.drew f HR.out.drew
  have g1 : w.grownBy W1 (some g) := by rw [hW1]; exact grown_cells news _ _ ⟨rfl, rfl, rfl, Nat.le_refl _, fun _ _ _ => rfl⟩
  rw [← hW1] at r1
  have hcl : ∀ ty c', (Builtin.clear_ #[24] ty #[.slice (some ⟨g, m * 3, none⟩) 1 c']).run Try.prog W1 = .ok (.tuple #[]) (W1.setCells g (m * 3) zeroC) := fun ty c' => run_clear_client W1 ty g (m * 3) c' (fun j hj => by rw [r1.cell (by omega)]; rfl) fun j => r1.frozen j
  have R1 := Lib.hid r1
  have G1 := Lib.hid g1
  have c1 : ¬ cap = m := by omega
  have c2 : (0 : Int) ≤ (m : Int) := by omega
  have c3 : (m : Int) ≤ (m : Int) + 1 := by omega
  have c4 : (m : Int) + 1 ≤ (cap : Int) := by omega
  have c5 : (m : Int) ≤ (cap : Int) := by omega
  clear r1 g1 hW1
  have fin : ∀ j, j < m * 3 → (if m * 3 ≤ j ∧ j < m * 3 + zeroC.length then zeroC.getD (j - m * 3) undef else if k * 3 ≤ j ∧ j < k * 3 + news.length then news.getD (j - k * 3) undef else f j) = if j < k * 3 then f j else f (j + 3) := fun j hj => by
    have hz : ¬ (m * 3 ≤ j ∧ j < m * 3 + zeroC.length) := by omega
    rw [if_neg hz]
    by_cases hjk : j < k * 3
    · rw [if_neg (by omega), if_pos hjk]
    · have hin : k * 3 ≤ j ∧ j < k * 3 + news.length := by have := HL.out; omega
      rw [if_pos hin, if_neg hjk, HN.out, List.getD_eq_getElem?_getD, List.getElem?_map, List.getElem?_range (by omega)]
      show f ((k + 1) * 3 + (j - (k * 3))) = f (j + 3)
      congr 1
      omega
  have FIN := Lib.hid fin
  clear fin
  go_wp2_with (simp only [hcl])
  all_goals try rw [← ‹cap = k + 1›]
  all_goals go_ret
  all_goals refine ⟨rfl, grown_cells _ _ _ G1.out, _, rowIs_setCells zeroC (m * 3) W1 _ R1.out, fun j hj => FIN.out j hj⟩
theorem gives_row {w w' : World} {lv : Nat → Value} {F : Nat → Nat → Prop} {n : Nat} {hF : ∀ i b, i < n → F i b → b < w.heap.size} {g g0 i0 cap : Nat} {f : Nat → Value} {L : List ClientD} (h0 : i0 < n ∧ F i0 g0) (hgr : w.grownBy w' (some g0)) (hg : g = g0 ∨ w.heap.size ≤ g) (hrow : w'.rowIs g 35 (cap * 3) f) (hf : ClF f L) (hc : L.length ≤ cap) (hm : cap ≤ maxLen) :
    V.Gives (Env.lend w lv F n hF) false [(false, [.seq 35 (L.map tClient)])] (.returned (.slice (some ⟨g, 0, none⟩) L.length cap)) w' := by
  refine ⟨[[.slice (some ⟨g, 0, none⟩) L.length cap]], fun c j b => c = 0 ∧ j = 0 ∧ b = g, rfl, rfl, fun c ag ts us hc' hu => ?_, fun c j c' j' b e1 e2 => ?_, fun c j b hb => ?_, ⟨hgr.os, hgr.tape, hgr.output, hgr.size, fun b hb => hgr.block b hb.1 fun e => hb.2 ⟨i0, h0.1, by rw [Option.some.inj e]; exact h0.2⟩⟩⟩
  · cases c with
    | zero =>
      cases hc'; cases hu
      refine ⟨rfl, fun j t u hj hu => ?_⟩
      cases j with
      | zero => cases hj; cases hu; exact row_own ⟨rfl, rfl, rfl⟩ hc hm hrow hf
      | succ j => simp at hj
    | succ c => simp at hc'
  · exact ⟨e1.1.trans e2.1.symm, e1.2.1.trans e2.2.1.symm⟩
  · obtain ⟨-, -, rfl⟩ := hb
    refine ⟨?_, hrow.lt⟩
    rcases hg with rfl | hg
    · exact .inr ⟨i0, h0.1, h0.2⟩
    · exact .inl hg
theorem vx_args1 {E : Env} {ns : List Int} {vs : List Value} (hv : ArgsM E ((false, [AC.ln 0]) :: ns.map fun x => (false, [AC.rd (.lit (.int .i64 x))])) vs) : vs = E.lv 0 :: ns.map fun x => Value.int .i64 x := by
  obtain ⟨hl, ha⟩ := hv
  cases vs with
  | nil => simp at hl
  | cons v us =>
    obtain ⟨ws, e1, e2, e3⟩ := ha 0 false _ v rfl rfl
    match ws, e2 with
    | [x], _ =>
      have hx : x = E.lv 0 := (e3 0 (.ln 0) x rfl rfl).2
      congr 1
      · rw [e1, ← hx]; rfl
      · apply List.ext_getElem?
        intro j
        have hlu : us.length = ns.length := by simpa using hl
        rcases Nat.lt_or_ge j ns.length with hj | hj
        · have hj' : j < us.length := by omega
          obtain ⟨ws, f1, f2, f3⟩ := ha (j + 1) false [.rd (.lit (.int .i64 ns[j]))] us[j] (by simp [hj]) (by simp [hj'])
          match ws, f2 with
          | [y], _ =>
            have f4 : Inn _ _ (.lit (.int .i64 ns[j])) y := f3 0 (.rd (.lit (.int .i64 ns[j]))) y rfl rfl
            rw [List.getElem?_eq_getElem hj', f1, inn_lit f4, List.getElem?_map, List.getElem?_eq_getElem hj]
            rfl
        · rw [List.getElem?_eq_none (by omega), List.getElem?_eq_none (by simpa using hj)]
theorem erase_get {L : List ClientD} {k t : Nat} {c : ClientD} (h : (L.eraseIdx k)[t]? = some c) : L[if t < k then t else t + 1]? = some c := by
  rw [List.getElem?_eraseIdx] at h
  split <;> rename_i hk <;> simp [hk] at h <;> exact h
theorem vdel (L : List ClientD) (k : Nat) (hk : k < L.length) : VX Try.prog 66 [(false, [.ln 0]), (false, [.rd (.lit (.int .i64 (k : Int)))]), (false, [.rd (.lit (.int .i64 ((k : Int) + 1)))])] [.seq 35 (L.map tClient)] false [(false, [.seq 35 ((L.eraseIdx k).map tClient)])] := fun w lv F hF vs h1 h2 hv => by
  have hvs := vx_args1 (ns := [(k : Int), (k : Int) + 1]) hv
  rcases own_row (h1 0 _ rfl).1 with ⟨-, h0⟩ | ⟨g, cap, f, hl, hFg, hc, hm, hrow, hf⟩
  · subst h0; simp at hk
  · obtain ⟨m, hmL⟩ : ∃ m, L.length = m + 1 := ⟨L.length - 1, by omega⟩
    have hcall := idel0 g cap m k f w (by omega) (by omega) hm hrow (fun j hj => hf.one (by omega))
    have he : (L.eraseIdx k).length = m := by rw [List.length_eraseIdx_of_lt hk]; omega
    have hvs2 : vs = [.slice (some ⟨g, 0, none⟩) (m + 1) cap, .int .i64 (k : Int), .int .i64 ((k : Int) + 1)] := by
      rw [hvs]
      show lv 0 :: _ = _
      rw [hl, hmL]; rfl
    rw [hvs2]
    refine hcall.mono fun e w' ⟨h3, h4, f', h5, h6⟩ => ?_
    rw [h3, ← he]
    refine gives_row (i0 := 0) (g0 := g) ⟨Nat.one_pos, hFg⟩ h4 (.inl rfl) h5 (fun t c ht => ?_) (by omega) hm
    have htl := V.get_lt ht
    rw [he] at htl
    have h7 := hf _ c (erase_get ht)
    rw [h6 _ (by omega), h6 _ (by omega), h6 _ (by omega)]
    by_cases hkt : t < k
    · rw [if_pos hkt] at h7
      rw [if_pos (by omega), if_pos (by omega), if_pos (by omega)]
      exact h7
    · rw [if_neg hkt] at h7
      rw [if_neg (by omega), if_neg (by omega), if_neg (by omega)]
      rw [show t * 3 + 3 = (t + 1) * 3 by omega, show t * 3 + 1 + 3 = (t + 1) * 3 + 1 by omega, show t * 3 + 2 + 3 = (t + 1) * 3 + 2 by omega]
      exact h7
end Go.Proofs.Ytfghhjcfmmhacaa
/- The library's slices.Insert of one client, by contract: the row is the call's own. -/
namespace Go.Proofs.Ytfghhjcfmmhacaa
open Go Go.RowKit V
set_option linter.unusedVariables false
theorem step_copyR {P : Program} {ops : Array Oper} {o : Oper} {a : Act} {w : World} {K : Act → World → Prop} {Q : Exit → Act → World → Prop} {E : Prop} (hg : o.guard = none) (d s : Operand) (t t' : TypeId) (ho : o.op = .call { callee := .builtin .copy, args := #[d, s], argTypes := #[t, t'] })
    (v u : Value) (hd : a.eval d = v) (hs : a.eval s = u) {v' : Value} {w' : World} (hr : (Builtin.copy_ #[t, t'] o.type #[v, u]).run P w = .ok v' w') (hK : K (a.put o.dst v') w') : if Region.wanted o (yielded ops a.tmps) = true then Oper.wp P o a w K Q else E := by
  have hw : Region.wanted o (yielded ops a.tmps) = true := by simp [Region.wanted, hg]
  rw [if_pos hw]
  unfold Oper.wp
  simp [execOp, ho, resolve, invoke, builtin, hd, hs, hr, Result.andThen]
  exact hK
theorem wpList_copyR {P : Program} {ops : Array Oper} {rest : List Oper} {o : Oper} {a : Act} {w : World} {Q : Exit → Act → World → Prop} (hg : o.guard = none) (d s : Operand) (t t' : TypeId) (ho : o.op = .call { callee := .builtin .copy, args := #[d, s], argTypes := #[t, t'] })
    (v u : Value) (hd : a.eval d = v) (hs : a.eval s = u) {v' : Value} {w' : World} (hr : (Builtin.copy_ #[t, t'] o.type #[v, u]).run P w = .ok v' w') (h : wpList P ops Q rest (a.put o.dst v') w') : wpList P ops Q (o :: rest) a w :=
  wpList_plain hg fun _ hK => by
    unfold Oper.wp
    simp only [execOp, ho, resolve, invoke, builtin, Sem.run_bind, Sem.run_pure, Result.andThen_ok, List.map_toArray, List.map_cons, List.map_nil, hd, hs, hr]
    exact hK _ _ h
theorem run_copy3 (w : World) (ty : TypeId) (b o dLen dCap : Nat) (x : Addr) (sLen sCap m : Nat) (cs : List Value) (hn : Nat.min sLen dLen = m) (hl : cs.length = m * 3)
    (hsrc : ∀ j v, cs[j]? = some v → w.cell? (x.add j) = some v) (hc : ∀ j, j < cs.length → (w.cell? ⟨b, o + j, none⟩).isSome = true) (hf : ∀ j, w.frozen? ⟨b, j, none⟩ = false) (h1 : ∀ v ∈ cs, v.oneCell' = true) :
    (Builtin.copy_ #[24, 24] ty #[.slice (some ⟨b, o, none⟩) dLen dCap, .slice (some x) sLen sCap]).run Try.prog w = .ok (goInt m) (w.setCells b o cs) := by
  have hld := run_loadCells_list (P := Try.prog) w x cs hsrc
  have hst := run_storeCells_cells (P := Try.prog) b o cs 0 w (by simpa using hc) (fun j _ => hf _) h1
  obtain ⟨I0, hI, hI3⟩ := sz_impl_Client
  simp [Builtin.copy_, run_underlying Try.underlying24, Builtin.lenOf, Builtin.firstCells, sizeOf, typeInfo, hI, hI3, hn, ← hl, hld, hst]
theorem rowIs_apart {g b : Nat} {t : TypeId} {n : Nat} {f : Nat → Value} (hne : b ≠ g) : ∀ (vs : List Value) (o : Nat) (w : World), w.rowIs b t n f → (w.setCells g o vs).rowIs b t n f
  | [], _, _, h => h
  | v :: r, o, w, h => rowIs_apart hne r (o + 1) _ (h.setOther (by exact hne) v)
theorem shape_row {w : World} {b n : Nat} {t : TypeId} {f : Nat → Value} (h : w.rowIs b t n f) : w.shape? b = some (t, n) := by
  obtain ⟨c, h1, h2, -⟩ := h
  simp [World.shape?, h1, h2]
set_option maxRecDepth 100000 in
set_option maxHeartbeats 4000000 in
theorem iinsB (g cap n i vb vc : Nat) (f fv : Nat → Value) (kv : Nat) (w : World) (hi : i < n) (hc : n + 1 ≤ cap) (hm : cap ≤ maxLen) (hrow : w.rowIs g 35 (cap * 3) f) (h1 : ∀ j, j < n * 3 → (f j).oneCell' = true)
    (hv : w.rowIs vb 35 kv fv) (hkv : 3 ≤ kv) (hv1 : ∀ j, j < 3 → (fv j).oneCell' = true) (hne : vb ≠ g) :
    Calls Try.prog 89 #[.slice (some ⟨g, 0, none⟩) n cap, .int .i64 i, .slice (some ⟨vb, 0, none⟩) 1 vc] w fun e w' =>
      e = .returned (.slice (some ⟨g, 0, none⟩) (n + 1) cap) ∧ w.grownBy w' (some g) ∧ ∃ f', w'.rowIs g 35 (cap * 3) f' ∧ ∀ j, j < (n + 1) * 3 → f' j = if j < i * 3 then f j else if j < i * 3 + 3 then fv (j - i * 3) else f (j - 3) := by
  unfold maxLen at hm
  have hov : ∀ lb cb, (callFunc 94 #[.slice (some ⟨vb, 0, none⟩) 1 vc, .slice (some ⟨g, (i + 1) * 3, none⟩) lb cb]).run Try.prog w = .ok (.value (.bool false)) w := fun lb cb => by
    rw [run_callFunc_extern Try.func94 (by kernel_rfl) (by kernel_rfl) (by kernel_rfl) (e := Extern.SlicesOverlaps.overlaps #[24, 24] #[4]) (by kernel_rfl),
      Lib.run_overlaps_apart w 24 4 35 Try.underlying24 3 Try.sizeOf35 ⟨vb, 0, none⟩ ⟨g, (i + 1) * 3, none⟩ 1 vc lb cb hne 35 35 kv (cap * 3) (shape_row hv) (shape_row hrow) (by omega) (hv.frozen _) (hv.frozen _)]
    rfl
  have z1 : ¬ ((1 : Nat) : Int) = 0 := by decide
  have z2 : ¬ (i : Int) = (n : Int) := by omega
  have z3 : ¬ (cap : Int) < (n : Int) + 1 := by omega
  have z4 : ¬ cap = i + 1 := by omega
  have z5 : ¬ cap = i := by omega
  have b1 : (0 : Int) ≤ (i : Int) := by omega
  have b2 : (i : Int) ≤ (n : Int) := by omega
  have b3 : (n : Int) + 1 ≤ (cap : Int) := by omega
  have b4 : (0 : Int) ≤ (n : Int) + 1 := by omega
  have b5 : (i : Int) + 1 ≤ (n : Int) + 1 := by omega
  have b6 : (0 : Int) ≤ (i : Int) + 1 := by omega
  have b7 : (i : Int) ≤ (n : Int) + 1 := by omega
  have t1 : ((i : Int) + 1).toNat = i + 1 := by omega
  have t2 : ((n : Int) + 1).toNat = n + 1 := by omega
  have w1 : IntKind.i64.wrap ((i : Int) + 1) = (i : Int) + 1 := by rw [IntKind.wrap_i64]; omega
  have w2 : IntKind.i64.wrap ((n : Int) + 1) = (n : Int) + 1 := by rw [IntKind.wrap_i64]; omega
  obtain ⟨tail, htail⟩ : ∃ l, l = (List.range ((n - i) * 3)).map fun j => f (i * 3 + j) := ⟨_, rfl⟩
  have htl : tail.length = (n - i) * 3 := by rw [htail]; simp
  have hc1 : ∀ ty dc sc, (Builtin.copy_ #[24, 24] ty #[.slice (some ⟨g, (i + 1) * 3, none⟩) (n - i) dc, .slice (some ⟨g, i * 3, none⟩) (n + 1 - i) sc]).run Try.prog w.drew = .ok (goInt ((n - i : Nat) : Int)) (w.drew.setCells g ((i + 1) * 3) tail) := fun ty dc sc =>
    run_copy3 w.drew ty g ((i + 1) * 3) (n - i) dc ⟨g, i * 3, none⟩ (n + 1 - i) sc (n - i) tail (by simp only [Nat.min_def]; split <;> omega) htl (fun j v hj => by
      have hjl := V.get_lt hj
      rw [htail, List.getElem?_map, List.getElem?_range (by omega)] at hj
      rw [← Option.some.inj hj, Addr.add_lit]
      exact hrow.cell (by omega)) (fun j hj => by show (w.cell? _).isSome = true; rw [hrow.cell (by omega)]; rfl) (fun j => hrow.frozen j) (fun v hv => by
      rw [htail] at hv
      obtain ⟨j, hj, rfl⟩ := List.mem_map.1 hv
      have := List.mem_range.1 hj
      exact h1 _ (by omega))
  have HC1 := Lib.hid hc1
  have HT := Lib.hid htail
  have HTL := Lib.hid htl
  have HR := Lib.hid hrow
  have HV := Lib.hid hv
  clear hrow h1 hv hc1 htail htl
  go_enter Try.func89, Try.ntmps89
  go_wp2_with (simp only [hov])
  go_region_law (refine step_copyR rfl _ _ 24 24 rfl (.slice (some ⟨g, (i + 1) * 3, none⟩) (n - i) (cap - (i + 1))) (.slice (some ⟨g, i * 3, none⟩) (n + 1 - i) (cap - i)) (by simp [Act.eval, Act.put]) (by simp [Act.eval, Act.put]) (HC1.out _ _ _) ?_)
  obtain ⟨W1, hW1⟩ : ∃ W, W = w.drew.setCells g ((i + 1) * 3) tail := ⟨_, rfl⟩
  rw [← hW1]
  have r1 := rowIs_setCells tail ((i + 1) * 3) w.drew f HR.out.drew
  have rv := rowIs_apart (g := g) hne tail ((i + 1) * 3) w.drew HV.out.drew
  have g1 : w.grownBy W1 (some g) := by rw [hW1]; exact grown_cells tail _ _ ⟨rfl, rfl, rfl, Nat.le_refl _, fun _ _ _ => rfl⟩
  rw [← hW1] at r1 rv
  have hc2 : ∀ ty dc, (Builtin.copy_ #[24, 24] ty #[.slice (some ⟨g, i * 3, none⟩) (n + 1 - i) dc, .slice (some ⟨vb, 0, none⟩) 1 vc]).run Try.prog W1 = .ok (goInt ((1 : Nat) : Int)) (W1.setCells g (i * 3) [fv 0, fv 1, fv 2]) := fun ty dc =>
    run_copy3 W1 ty g (i * 3) (n + 1 - i) dc ⟨vb, 0, none⟩ 1 vc 1 [fv 0, fv 1, fv 2] (by simp only [Nat.min_def]; split <;> omega) rfl (fun j v hj => by
      have hjl := V.get_lt hj
      rw [Addr.add_lit, rv.cell (by simp at hjl; omega)]
      match j, hjl with
      | 0, _ => exact hj
      | 1, _ => exact hj
      | 2, _ => exact hj) (fun j hj => by rw [r1.cell (by simp at hj; omega)]; rfl) (fun j => r1.frozen j) (fun v hv => by
      simp only [List.mem_cons, List.not_mem_nil, or_false] at hv
      rcases hv with rfl | rfl | rfl
      · exact hv1 0 (by omega)
      · exact hv1 1 (by omega)
      · exact hv1 2 (by omega))
  have R1 := Lib.hid r1
  have G1 := Lib.hid g1
  clear r1 rv g1 hW1
  go_wp2_with (at_builtin; refine wpList_copyR rfl _ _ 24 24 rfl _ _ rfl rfl (hc2 _ _) ?_)
  go_ret
  refine ⟨rfl, grown_cells _ _ _ G1.out, _, rowIs_setCells [fv 0, fv 1, fv 2] (i * 3) W1 _ R1.out, fun j hj => ?_⟩
  by_cases h3 : j < i * 3
  · rw [if_neg (by omega), if_neg (by omega), if_pos h3]
  · rw [if_neg h3]
    by_cases h4 : j < i * 3 + 3
    · have h5 : i * 3 ≤ j ∧ j < i * 3 + [fv 0, fv 1, fv 2].length := ⟨by omega, h4⟩
      rw [if_pos h4, if_pos h5]
      obtain ⟨q, hq⟩ : ∃ q, j - i * 3 = q := ⟨_, rfl⟩
      rw [hq]
      match q, (show q < 3 by omega) with
      | 0, _ => rfl
      | 1, _ => rfl
      | 2, _ => rfl
    · have h5 : ¬ (i * 3 ≤ j ∧ j < i * 3 + [fv 0, fv 1, fv 2].length) := fun h => h4 h.2
      have h6 : (i + 1) * 3 ≤ j ∧ j < (i + 1) * 3 + tail.length := by have := HTL.out; omega
      rw [if_neg h4, if_neg h5, if_pos h6, HT.out, List.getD_eq_getElem?_getD, List.getElem?_map, List.getElem?_range (by omega)]
      show f (i * 3 + (j - (i + 1) * 3)) = f (j - 3)
      congr 1
      omega
end Go.Proofs.Ytfghhjcfmmhacaa
/- The library's slices.Insert of one client at the row's end and where there is no room, by contract. -/
namespace Go.Proofs.Ytfghhjcfmmhacaa
open Go Go.RowKit V
set_option linter.unusedVariables false
set_option maxRecDepth 100000 in
set_option maxHeartbeats 4000000 in
theorem iinsA (base : Option Addr) (cap n vb vc : Nat) (xs : List Value) (fv : Nat → Value) (kv : Nat) (w : World) (hn : n ≤ 1000000000) (hcap : n ≤ cap) (hm : cap ≤ maxLen) (hform : (base = none ∧ n = 0 ∧ cap = 0) ∨ (∃ g, base = some ⟨g, 0, none⟩ ∧ n = cap) ∨ (∃ g, base = some ⟨g, 0, none⟩ ∧ ¬ cap = n)) (hown : w.ownsRow 0 35 3 (.slice base n cap) n xs)
    (hv : w.rowIs vb 35 kv fv) (hkv : 3 ≤ kv) (hv1 : ∀ j, j < 3 → (fv j).oneCell' = true) :
    Calls Try.prog 89 #[.slice base n cap, .int .i64 n, .slice (some ⟨vb, 0, none⟩) 1 vc] w fun e w' =>
      ∃ g' cap', e = .returned (.slice (some ⟨g', 0, none⟩) (n + 1) cap') ∧ w'.ownsRow 0 35 3 (.slice (some ⟨g', 0, none⟩) (n + 1) cap') (n + 1) (xs ++ [fv 0, fv 1, fv 2]) ∧ w.grownBy w' (Value.slice base n cap).ownBlock ∧ ((Value.slice base n cap).ownBlock = some g' ∨ g' = w.heap.size) := by
  unfold maxLen at hm
  obtain ⟨I0, hI, hz0, hz1, hz2⟩ := info_parts elt_impl_Client.inf
  have hnews : ∀ j u, [fv 0, fv 1, fv 2][j]? = some u → w.cell? ((⟨vb, 0, none⟩ : Addr).add j) = some u := fun j u hj => by
    have hjl := V.get_lt hj
    rw [Addr.add_lit, hv.cell (by simp at hjl; omega)]
    match j, hjl with
    | 0, _ => exact hj
    | 1, _ => exact hj
    | 2, _ => exact hj
  have hone : ∀ u ∈ [fv 0, fv 1, fv 2], u.oneCell' = true := fun v hv => by
    simp only [List.mem_cons, List.not_mem_nil, or_false] at hv
    rcases hv with rfl | rfl | rfl
    · exact hv1 0 (by omega)
    · exact hv1 1 (by omega)
    · exact hv1 2 (by omega)
  have z1 : ¬ ((1 : Nat) : Int) = 0 := by decide
  have b1 : (0 : Int) ≤ (n : Int) := by omega
  have b2 : (n : Int) ≤ (cap : Int) := by omega
  have HO := Lib.hid hown
  have HN := Lib.hid hnews
  have H1 := Lib.hid hone
  clear hown hnews hone hv
  rcases hform with ⟨rfl, rfl, rfl⟩ | ⟨g, rfl, rfl⟩ | ⟨g, rfl, hq⟩
  all_goals go_enter Try.func89, Try.ntmps89
  all_goals go_wp2_with (at_builtin; refine wpList_append_lies _ rfl _ _ 24 rfl 0 35 I0 _ 3 24 Try.underlying24 hI hz0 hz1 hz2 rfl (by decide) _ _ xs rfl HO.out ⟨vb, 0, none⟩ 1 vc [fv 0, fv 1, fv 2] rfl rfl HN.out H1.out (by decide) (by unfold maxLen; omega) (by omega) (Nat.zero_le _) _ rfl ?_)
  all_goals intro g' cap' w' q1 q2 q3 q4
  all_goals have Q1 := Lib.hid q1
  all_goals have Q2 := Lib.hid q2
  all_goals have Q3 := Lib.hid q3
  all_goals clear q1 q2 q3 q4
  all_goals go_wp2_with fail
  all_goals go_ret
  all_goals exact ⟨g', cap', rfl, Q1.out, Q2.out, Q3.out⟩
set_option maxRecDepth 100000 in
set_option maxHeartbeats 4000000 in
theorem iinsC (g cap n i vb vc : Nat) (f fv : Nat → Value) (kv : Nat) (w : World) (hi : i < n) (hn : n ≤ 1000000000) (hcn : n ≤ cap) (hc : cap < n + 1) (hrow : w.rowIs g 35 (cap * 3) f) (h1 : ∀ j, j < n * 3 → (f j).oneCell' = true)
    (hv : w.rowIs vb 35 kv fv) (hkv : 3 ≤ kv) (hv1 : ∀ j, j < 3 → (fv j).oneCell' = true) :
    Calls Try.prog 89 #[.slice (some ⟨g, 0, none⟩) n cap, .int .i64 i, .slice (some ⟨vb, 0, none⟩) 1 vc] w fun e w' =>
      ∃ g' cap', e = .returned (.slice (some ⟨g', 0, none⟩) (n + 1) cap') ∧ Below w.heap.size w w' ∧ g' = w.heap.size ∧ n + 1 ≤ cap' ∧ cap' ≤ maxLen ∧ ∃ f', w'.rowIs g' 35 (cap' * 3) f' ∧ ∀ j, j < (n + 1) * 3 → f' j = if j < i * 3 then f j else if j < i * 3 + 3 then fv (j - i * 3) else f (j - 3) := by
  obtain ⟨I0, hI, hz0, hz1, hz2⟩ := info_parts elt_impl_Client.inf
  have hcap : cap = n := by omega
  subst hcap
  obtain ⟨H, hH⟩ : ∃ H, H = w.heap.size := ⟨_, rfl⟩
  have hgH : g < H := by rw [hH]; exact hrow.lt
  have hvH : vb < H := by rw [hH]; exact hv.lt
  obtain ⟨olds, holds⟩ : ∃ l, l = (List.range (i * 3)).map f := ⟨_, rfl⟩
  have hol : olds.length = i * 3 := by rw [holds]; simp
  have hold : (Builtin.firstCells I0.size i (.slice (some ⟨g, 0, none⟩) i cap)).run Try.prog w.drew = .ok olds.toArray w.drew := by
    rw [hz1]
    exact run_firstCells_some w.drew 3 i ⟨g, 0, none⟩ i cap olds hol fun j v hj => by
      have hjl := V.get_lt hj
      rw [holds, List.getElem?_map, List.getElem?_range (by omega)] at hj
      rw [← Option.some.inj hj, Addr.add_lit, Nat.zero_add]
      exact hrow.cell (by omega)
  have hik : i + (cap + 1 - i) = cap + 1 := by omega
  have hkk : (cap : Int) + 1 - (i : Int) = ((cap + 1 - i : Nat) : Int) := by omega
  obtain ⟨G, hG⟩ : ∃ G, G = grownCap w (cap + 1) cap 35 := ⟨_, rfl⟩
  have hG1 : cap + 1 ≤ G := by rw [hG]; exact grownCap_ge w _ _ _
  have hG2 : G ≤ maxLen := by rw [hG]; exact grownCap_le_maxLen w (cap + 1) cap _ (by unfold maxLen; omega)
  obtain ⟨ROW, hROW⟩ : ∃ R : Array Value, R = olds.toArray ++ Builtin.zeroCells (Value.agg #[.int .i64 0, .int .i64 0, .int .i64 0]).cells (cap + 1 - i) ++ Builtin.zeroCells (Value.agg #[.int .i64 0, .int .i64 0, .int .i64 0]).cells (G - (cap + 1)) := ⟨_, rfl⟩
  obtain ⟨W1, hW1⟩ : ∃ W, W = w.drew.alloc (.cells ROW 35) := ⟨_, rfl⟩
  have hrz : ∀ ty, (Builtin.append_ #[24, 3] ty #[.slice (some ⟨g, 0, none⟩) i cap, .int .i64 ((cap : Int) + 1 - (i : Int))]).run Try.prog w = .ok (.slice (some ⟨H, 0, none⟩) (cap + 1) G) W1 := fun ty => by
    have h := Lib.run_append_grow_zeros w 24 3 ty 35 I0 _ .i64 .i64 Try.underlying24 Try.underlying3 hI hz0 (some ⟨g, 0, none⟩) i cap olds hold (cap + 1 - i) (by omega) (by omega) (by omega) (by omega) (by rw [hz2]; omega) (by rw [hz2, hik]; exact growslice_fits (by omega) (by omega))
    rw [hik, ← hG, ← hROW, ← hW1, ← hH] at h
    rw [hkk]
    exact h
  have hRs : ROW.size = G * 3 := by rw [hROW]; simp [Builtin.zeroCells, Value.cells, hol]; omega
  have hb0 : Below w.heap.size w W1 := by rw [hW1]; exact ((Below.refl _ _).drew).alloc (Nat.le_refl _) _
  have hrH : W1.rowIs H 35 (G * 3) (fun j => ROW.getD j undef) := ⟨ROW, by rw [hW1, hH]; exact heap_alloc_new w.drew _, hRs, fun j hj => by simp [Array.getD, hRs, hj]⟩
  have hR0 : ∀ j, j < i * 3 → ROW.getD j undef = f j := fun j hj => by
    have h2 : j < olds.toArray.size := by simp [hol]; omega
    have h3 : ROW[j]? = some (f j) := by
      rw [hROW, Array.append_assoc, Array.getElem?_append_left h2]
      simp [holds, List.getElem?_range hj, hj]
    simp [Array.getD_eq_getD_getElem?, h3]
  have hg1 : W1.rowIs g 35 (cap * 3) f := hrow.of_block (hb0.block g (by omega))
  have hv1' : W1.rowIs vb 35 kv fv := hv.of_block (hb0.block vb (by omega))
  have hcA : ∀ ty dc, (Builtin.copy_ #[24, 24] ty #[.slice (some ⟨H, i * 3, none⟩) (cap + 1 - i) dc, .slice (some ⟨vb, 0, none⟩) 1 vc]).run Try.prog W1 = .ok (goInt ((1 : Nat) : Int)) (W1.setCells H (i * 3) [fv 0, fv 1, fv 2]) := fun ty dc =>
    run_copy3 W1 ty H (i * 3) (cap + 1 - i) dc ⟨vb, 0, none⟩ 1 vc 1 [fv 0, fv 1, fv 2] (by simp only [Nat.min_def]; split <;> omega) rfl (fun j v hj => by
      have hjl := V.get_lt hj
      rw [Addr.add_lit, hv1'.cell (by simp at hjl; omega)]
      match j, hjl with
      | 0, _ => exact hj
      | 1, _ => exact hj
      | 2, _ => exact hj) (fun j hj => by rw [hrH.cell (by simp at hj; omega)]; rfl) (fun j => hrH.frozen j) (fun v hv => by
      simp only [List.mem_cons, List.not_mem_nil, or_false] at hv
      rcases hv with rfl | rfl | rfl
      · exact hv1 0 (by omega)
      · exact hv1 1 (by omega)
      · exact hv1 2 (by omega))
  obtain ⟨W2, hW2⟩ : ∃ W, W = W1.setCells H (i * 3) [fv 0, fv 1, fv 2] := ⟨_, rfl⟩
  have hr2 := rowIs_setCells [fv 0, fv 1, fv 2] (i * 3) W1 _ hrH
  have hg2 := rowIs_apart (g := H) (show g ≠ H by omega) [fv 0, fv 1, fv 2] (i * 3) W1 hg1
  have hb2 : Below w.heap.size w W2 := by
    have := grown_cells (w := W1) (g := H) [fv 0, fv 1, fv 2] (i * 3) W1 ⟨rfl, rfl, rfl, Nat.le_refl _, fun _ _ _ => rfl⟩
    rw [← hW2] at this
    exact hb0.grown this (by rw [← hH]; exact Nat.le_of_lt hrH.lt) fun k hk => by rw [← Option.some.inj hk]; exact Nat.le_of_eq hH.symm
  rw [← hW2] at hcA hr2 hg2
  obtain ⟨tail, htail⟩ : ∃ l, l = (List.range ((cap - i) * 3)).map fun j => f (i * 3 + j) := ⟨_, rfl⟩
  have htl : tail.length = (cap - i) * 3 := by rw [htail]; simp
  have hcB : ∀ ty dc sc, (Builtin.copy_ #[24, 24] ty #[.slice (some ⟨H, (i + 1) * 3, none⟩) (cap - i) dc, .slice (some ⟨g, i * 3, none⟩) (cap - i) sc]).run Try.prog W2.drew = .ok (goInt ((cap - i : Nat) : Int)) (W2.drew.setCells H ((i + 1) * 3) tail) := fun ty dc sc =>
    run_copy3 W2.drew ty H ((i + 1) * 3) (cap - i) dc ⟨g, i * 3, none⟩ (cap - i) sc (cap - i) tail (by simp only [Nat.min_def]; split <;> omega) htl (fun j v hj => by
      have hjl := V.get_lt hj
      rw [htail, List.getElem?_map, List.getElem?_range (by omega)] at hj
      rw [← Option.some.inj hj, Addr.add_lit]
      exact hg2.cell (by omega)) (fun j hj => by show (W2.cell? _).isSome = true; rw [hr2.cell (by omega)]; rfl) (fun j => hr2.frozen j) (fun v hv => by
      rw [htail] at hv
      obtain ⟨j, hj, rfl⟩ := List.mem_map.1 hv
      have := List.mem_range.1 hj
      exact h1 _ (by omega))
  have z1 : ¬ ((1 : Nat) : Int) = 0 := by decide
  have z2 : ¬ (i : Int) = (cap : Int) := by omega
  have z3 : (cap : Int) < (cap : Int) + 1 := by omega
  have z4 : ¬ G = i + 1 := by omega
  have z5 : ¬ G = i := by omega
  have z6 : ¬ cap = i := by omega
  have b1 : (0 : Int) ≤ (i : Int) := by omega
  have b2 : (i : Int) ≤ (cap : Int) := by omega
  have b5 : (i : Int) + 1 ≤ (cap : Int) + 1 := by omega
  have b6 : (0 : Int) ≤ (i : Int) + 1 := by omega
  have b7 : (i : Int) ≤ (cap : Int) + 1 := by omega
  have b8 : (cap : Int) + 1 ≤ (G : Int) := by omega
  have t1 : ((i : Int) + 1).toNat = i + 1 := by omega
  have t2 : ((cap : Int) + 1).toNat = cap + 1 := by omega
  have w1 : IntKind.i64.wrap ((i : Int) + 1) = (i : Int) + 1 := by rw [IntKind.wrap_i64]; omega
  have w2 : IntKind.i64.wrap ((cap : Int) + 1) = (cap : Int) + 1 := by rw [IntKind.wrap_i64]; omega
  have w3 : IntKind.i64.wrap ((cap : Int) + 1 - (i : Int)) = (cap : Int) + 1 - (i : Int) := by rw [IntKind.wrap_i64]; omega
  have hb3 : Below w.heap.size w (W2.drew.setCells H ((i + 1) * 3) tail) := by
    have := grown_cells (w := W2) (g := H) tail ((i + 1) * 3) W2.drew ⟨rfl, rfl, rfl, Nat.le_refl _, fun _ _ _ => rfl⟩
    exact hb2.grown this (by rw [← hH]; exact Nat.le_of_lt hr2.lt) fun k hk => by rw [← Option.some.inj hk]; exact Nat.le_of_eq hH.symm
  have fin : ∃ f', (W2.drew.setCells H ((i + 1) * 3) tail).rowIs H 35 (G * 3) f' ∧ ∀ j, j < (cap + 1) * 3 → f' j = if j < i * 3 then f j else if j < i * 3 + 3 then fv (j - i * 3) else f (j - 3) := by
    refine ⟨_, rowIs_setCells tail ((i + 1) * 3) W2.drew _ hr2.drew, fun j hj => ?_⟩
    by_cases h3 : j < i * 3
    · rw [if_neg (by omega), if_neg (by omega), if_pos h3]
      exact hR0 j h3
    · rw [if_neg h3]
      by_cases h4 : j < i * 3 + 3
      · have h5 : i * 3 ≤ j ∧ j < i * 3 + [fv 0, fv 1, fv 2].length := ⟨by omega, h4⟩
        rw [if_pos h4, if_neg (by omega), if_pos h5]
        obtain ⟨q, hq⟩ : ∃ q, j - i * 3 = q := ⟨_, rfl⟩
        rw [hq]
        match q, (show q < 3 by omega) with
        | 0, _ => rfl
        | 1, _ => rfl
        | 2, _ => rfl
      · have h6 : (i + 1) * 3 ≤ j ∧ j < (i + 1) * 3 + tail.length := by omega
        rw [if_neg h4, if_pos h6, htail, List.getD_eq_getElem?_getD, List.getElem?_map, List.getElem?_range (by omega)]
        show f (i * 3 + (j - (i + 1) * 3)) = f (j - 3)
        congr 1
        omega
  have FIN := Lib.hid fin
  have HB3 := Lib.hid hb3
  have HB := Lib.hid hcB
  have HZ := Lib.hid hrz
  have HG2 := Lib.hid hG2
  have HHS := Lib.hid hH
  unfold maxLen at hG2
  have z7 : G ≤ 9223372036854775807 := by omega
  clear htail htl hkk hik fin hb3 hcB hrz hG2 hb2 hg2 hr2 hW2 hv1' hg1 hR0 hrH hb0 hRs hW1 hROW hG hold hol holds hrow hv hH
  go_enter Try.func89, Try.ntmps89
  go_wp2_with (at_builtin; refine Lib.wpList_append_run _ rfl _ _ _ _ rfl _ _ rfl rfl _ _ (HZ.out _) ?_)
  go_region_law (refine step_copyR rfl _ _ 24 24 rfl (.slice (some ⟨H, (i + 1) * 3, none⟩) (cap - i) (G - (i + 1))) (.slice (some ⟨g, i * 3, none⟩) (cap - i) (cap - i)) (by simp [Act.eval, Act.put]) (by simp [Act.eval, Act.put]) (HB.out _ _ _) ?_)
  go_wp2_with fail
  go_ret
  exact ⟨H, G, rfl, HB3.out, HHS.out, by omega, HG2.out, FIN.out⟩
end Go.Proofs.Ytfghhjcfmmhacaa
/- The library's slices.Insert of one client: told by trees. -/
namespace Go.Proofs.Ytfghhjcfmmhacaa
open Go Go.RowKit V
set_option linter.unusedVariables false
theorem owns_row {w : World} {g cap n : Nat} {xs : List Value} (h : w.ownsRow 0 35 3 (.slice (some ⟨g, 0, none⟩) n cap) n xs) : n ≤ cap ∧ cap ≤ maxLen ∧ ∃ f, w.rowIs g 35 (cap * 3) f ∧ ∀ j u, xs[j]? = some u → f j = u := by
  obtain ⟨hxl, ⟨h0, -⟩ | ⟨g', cap', cur, h2, -, hh, hc, hm, hs, ht⟩⟩ := h
  · cases h0
  · injection h2 with e1 e2 e3
    injection e1 with e1
    injection e1 with e1
    subst e1 e3
    refine ⟨hc, hm, fun i => cur.getD i undef, ⟨cur, hh, hs, fun i hi => by simp [Array.getD, hs, hi]⟩, fun j u hj => ?_⟩
    have hjl := V.get_lt hj
    rw [← ht, List.getElem?_take, if_pos (by omega)] at hj
    have h4 : j < cur.size := by omega
    rw [Array.getElem?_toList, Array.getElem?_eq_getElem h4] at hj
    simp [Array.getD, h4, Option.some.inj hj]
theorem row_owns {w : World} {g cap n : Nat} {f : Nat → Value} (hrow : w.rowIs g 35 (cap * 3) f) (hc : n ≤ cap) (hm : cap ≤ maxLen) : w.ownsRow 0 35 3 (.slice (some ⟨g, 0, none⟩) n cap) n ((List.range (n * 3)).map f) := by
  obtain ⟨cur, hh, hs, hcell⟩ := hrow
  refine ⟨by simp, .inr ⟨g, cap, cur, rfl, Nat.zero_le _, hh, hc, hm, hs, ?_⟩⟩
  apply List.ext_getElem?
  intro j
  rw [List.getElem?_take]
  by_cases hj : j < n * 3
  · rw [if_pos hj, Array.getElem?_toList, hcell j (by omega), List.getElem?_map, List.getElem?_range hj]; rfl
  · rw [if_neg hj, List.getElem?_eq_none (by simp; omega)]
theorem ins_get {L : List ClientD} {c d : ClientD} {i t : Nat} (hi : i ≤ L.length) (h : (L.take i ++ c :: L.drop i)[t]? = some d) : (t < i ∧ L[t]? = some d) ∨ (t = i ∧ d = c) ∨ (i < t ∧ L[t - 1]? = some d) := by
  have hl : (L.take i).length = i := by simp; omega
  rcases Nat.lt_trichotomy t i with h1 | h1 | h1
  · rw [List.getElem?_append_left (by omega), List.getElem?_take, if_pos h1] at h
    exact .inl ⟨h1, h⟩
  · subst h1
    rw [List.getElem?_append_right (by omega), hl, Nat.sub_self] at h
    exact .inr (.inl ⟨rfl, by simpa using h.symm⟩)
  · rw [List.getElem?_append_right (by omega), hl, show t - i = (t - i - 1) + 1 by omega, List.getElem?_cons_succ, List.getElem?_drop, show i + (t - i - 1) = t - 1 by omega] at h
    exact .inr (.inr ⟨h1, h⟩)
theorem ins_clF {L : List ClientD} {c : ClientD} {i : Nat} {f fv f' : Nat → Value} (hi : i ≤ L.length) (hf : ClF f L) (hv : ClF fv [c]) (h : ∀ j, j < (L.length + 1) * 3 → f' j = if j < i * 3 then f j else if j < i * 3 + 3 then fv (j - i * 3) else f (j - 3)) : ClF f' (L.take i ++ c :: L.drop i) := fun t d ht => by
  have hlen : (L.take i ++ c :: L.drop i).length = L.length + 1 := by simp; omega
  have htl := V.get_lt ht
  rw [hlen] at htl
  rw [h _ (by omega), h _ (by omega), h _ (by omega)]
  rcases ins_get hi ht with ⟨h1, h2⟩ | ⟨h1, h2⟩ | ⟨h1, h2⟩
  · rw [if_pos (by omega), if_pos (by omega), if_pos (by omega)]
    exact hf t d h2
  · subst h1 h2
    rw [if_neg (show ¬ t * 3 < t * 3 by omega), if_neg (show ¬ t * 3 + 1 < t * 3 by omega), if_neg (show ¬ t * 3 + 2 < t * 3 by omega), if_pos (show t * 3 < t * 3 + 3 by omega), if_pos (show t * 3 + 1 < t * 3 + 3 by omega), if_pos (show t * 3 + 2 < t * 3 + 3 by omega)]
    have h3 := hv 0 d rfl
    rw [Nat.sub_self, show t * 3 + 1 - t * 3 = 1 by omega, show t * 3 + 2 - t * 3 = 2 by omega]
    exact h3
  · rw [if_neg (by omega), if_neg (by omega), if_neg (by omega), if_neg (by omega), if_neg (by omega), if_neg (by omega)]
    have h3 := hf _ d h2
    rw [show t * 3 - 3 = (t - 1) * 3 by omega, show t * 3 + 1 - 3 = (t - 1) * 3 + 1 by omega, show t * 3 + 2 - 3 = (t - 1) * 3 + 2 by omega]
    exact h3
theorem grown_any {w w' : World} {g : Nat} (h : Below w.heap.size w w') : w.grownBy w' (some g) := ⟨h.os, h.tape, h.output, h.size, fun b hb _ => h.block b hb⟩
theorem vins (L : List ClientD) (c : ClientD) (i : Nat) (hi : i ≤ L.length) (hL : L.length ≤ 1000000000) : VX Try.prog 89 [(false, [.ln 0]), (false, [.rd (.lit (.int .i64 (i : Int)))]), (false, [.ln 1])] [.seq 35 (L.map tClient), .seq 35 [tClient c]] false [(false, [.seq 35 ((L.take i ++ c :: L.drop i).map tClient)])] := fun w lv F hF vs h1 h2 hv => by
  have hvs : vs = [lv 0, .int .i64 (i : Int), lv 1] := by
    obtain ⟨hl, ha⟩ := hv
    match vs, hl with
    | [v0, v1, v2], _ =>
      obtain ⟨u0, a1, a2, a3⟩ := ha 0 false [.ln 0] v0 rfl rfl
      obtain ⟨u1, b1, b2, b3⟩ := ha 1 false [.rd (.lit (.int .i64 (i : Int)))] v1 rfl rfl
      obtain ⟨u2, c1, c2, c3⟩ := ha 2 false [.ln 1] v2 rfl rfl
      match u0, a2 with
      | [x], _ =>
        match u1, b2 with
        | [y], _ =>
          match u2, c2 with
          | [z], _ =>
            have g1 : x = lv 0 := (a3 0 (.ln 0) x rfl rfl).2
            have g2 : Inn _ _ (.lit (.int .i64 (i : Int))) y := b3 0 (.rd (.lit (.int .i64 (i : Int)))) y rfl rfl
            have g3 : z = lv 1 := (c3 0 (.ln 1) z rfl rfl).2
            rw [a1, b1, c1, inn_lit g2, g1, g3]
            rfl
  obtain ⟨vb, vc, fv, hlv, hFv, hvc, -, hvr, hvf⟩ : ∃ (g cap : Nat) (f : Nat → Value), lv 1 = .slice (some ⟨g, 0, none⟩) 1 cap ∧ F 1 g ∧ 1 ≤ cap ∧ cap ≤ maxLen ∧ w.rowIs g 35 (cap * 3) f ∧ ClF f [c] := by
    rcases own_row (L := [c]) (h1 1 _ rfl).1 with ⟨-, h0⟩ | h
    · cases h0
    · exact h
  have hv1 : ∀ j, j < 3 → (fv j).oneCell' = true := fun j hj => hvf.one (by simpa using hj)
  have hlen : (L.take i ++ c :: L.drop i).length = L.length + 1 := by simp; omega
  rw [hvs, hlv]
  rcases own_row (h1 0 _ rfl).1 with ⟨hl, h0⟩ | ⟨g, cap, f, hl, hFg, hc, hm, hrow, hf⟩
  · subst h0
    have hi0 : i = 0 := by simpa using hi
    subst hi0
    rw [hl]
    have hown := (h1 0 _ rfl).1
    have hcall := iinsA none 0 0 vb vc [] fv (vc * 3) w (by decide) (Nat.le_refl _) (by unfold maxLen; decide) (.inl ⟨rfl, rfl, rfl⟩) ⟨rfl, .inl ⟨rfl, rfl⟩⟩ hvr (by omega) hv1
    refine hcall.mono fun e w' ⟨g', cap', q1, q2, q3, q4⟩ => ?_
    obtain ⟨e1, e2, f', e3, e4⟩ := owns_row q2
    rw [q1]
    refine gives_row (L := [c]) (i0 := 1) (g0 := vb) (F := F) ⟨show (1 : Nat) < 2 by decide, hFv⟩ ⟨q3.os, q3.tape, q3.output, q3.size, fun b hb _ => q3.block b hb (by simp [Value.ownBlock])⟩ (.inr (by rcases q4 with q4 | q4; (simp [Value.ownBlock] at q4); (omega))) e3 (fun t d ht => ?_) e1 e2
    have ht0 : t = 0 := by have := V.get_lt ht; simpa using this
    subst ht0
    cases ht
    obtain ⟨k0, k1, k2⟩ := hvf 0 c rfl
    exact ⟨(e4 0 _ rfl).trans k0, (e4 1 _ rfl).trans k1, (e4 2 _ rfl).trans k2⟩
  · rw [hl]
    have hne : vb ≠ g := fun e => h2 0 1 g (show (0 : Nat) < 2 by decide) (show (1 : Nat) < 2 by decide) (by decide) hFg (e ▸ hFv)
    rcases Nat.eq_or_lt_of_le hi with hin | hin
    · subst hin
      have hcall := iinsA (some ⟨g, 0, none⟩) cap L.length vb vc _ fv (vc * 3) w hL hc hm (by by_cases h : L.length = cap; exact .inr (.inl ⟨g, rfl, h⟩); exact .inr (.inr ⟨g, rfl, fun e => h e.symm⟩)) (row_owns hrow hc hm) hvr (by omega) hv1
      refine hcall.mono fun e w' ⟨g', cap', q1, q2, q3, q4⟩ => ?_
      obtain ⟨e1, e2, f', e3, e4⟩ := owns_row q2
      rw [q1, ← hlen]
      refine gives_row (i0 := 0) (g0 := g) (F := F) ⟨show (0 : Nat) < 2 by decide, hFg⟩ q3 (by rcases q4 with q4 | q4; (exact .inl (Option.some.inj q4).symm); (exact .inr (by omega))) e3 (ins_clF (Nat.le_refl _) hf hvf fun j hj => ?_) (by rw [hlen]; exact e1) e2
      by_cases h3 : j < L.length * 3
      · rw [if_pos h3]
        exact e4 j _ (by rw [List.getElem?_append_left (by simpa using h3), List.getElem?_map, List.getElem?_range h3]; rfl)
      · rw [if_neg h3, if_pos (by omega)]
        refine e4 j _ ?_
        rw [List.getElem?_append_right (by simp; omega)]
        simp only [List.length_map, List.length_range]
        obtain ⟨q, hq⟩ : ∃ q, j - L.length * 3 = q := ⟨_, rfl⟩
        rw [hq]
        match q, (show q < 3 by omega) with
        | 0, _ => rfl
        | 1, _ => rfl
        | 2, _ => rfl
    · by_cases hroom : L.length + 1 ≤ cap
      · have hcall := iinsB g cap L.length i vb vc f fv (vc * 3) w hin hroom hm hrow (fun j hj => hf.one hj) hvr (by omega) hv1 hne
        refine hcall.mono fun e w' ⟨q1, q2, f', q3, q4⟩ => ?_
        rw [q1, ← hlen]
        exact gives_row (i0 := 0) (g0 := g) (F := F) ⟨show (0 : Nat) < 2 by decide, hFg⟩ q2 (.inl rfl) q3 (ins_clF hi hf hvf q4) (by omega) hm
      · have hcall := iinsC g cap L.length i vb vc f fv (vc * 3) w hin hL hc (by omega) hrow (fun j hj => hf.one hj) hvr (by omega) hv1
        refine hcall.mono fun e w' ⟨g', cap', q1, q2, q3, q4, q5, f', q6, q7⟩ => ?_
        rw [q1, ← hlen]
        exact gives_row (i0 := 0) (g0 := g) (F := F) ⟨show (0 : Nat) < 2 by decide, hFg⟩ (grown_any q2) (.inr (by omega)) q6 (ins_clF hi hf hvf q7) (by omega) q5
end Go.Proofs.Ytfghhjcfmmhacaa
/- The program's RemoveClient: told by trees. -/
namespace Go.Proofs.Ytfghhjcfmmhacaa
open Go Go.RowKit V
set_option linter.unusedVariables false
theorem cut_asc {l : List ClientD} (h : l.Pairwise fun c d => c.fID < d.fID) (c : ClientD) : ∃ k, k ≤ l.length ∧ (∀ u d, u < k → l[u]? = some d → d.fID < c.fID) ∧ ∀ u d, k ≤ u → l[u]? = some d → ¬ d.fID < c.fID := by
  induction l with
  | nil => exact ⟨0, Nat.le_refl _, fun u d hu => absurd hu (Nat.not_lt_zero u), fun u d _ hd => by simp at hd⟩
  | cons a l ih =>
    obtain ⟨h1, h2⟩ := List.pairwise_cons.1 h
    by_cases ha : a.fID < c.fID
    · obtain ⟨k, k1, k2, k3⟩ := ih h2
      refine ⟨k + 1, by simpa using k1, fun u d hu hd => ?_, fun u d hu hd => ?_⟩
      · cases u with
        | zero => cases hd; exact ha
        | succ u => exact k2 u d (by omega) (by simpa using hd)
      · cases u with
        | zero => omega
        | succ u => exact k3 u d (by omega) (by simpa using hd)
    · refine ⟨0, Nat.zero_le _, fun u d hu => absurd hu (Nat.not_lt_zero u), fun u d _ hd => ?_⟩
      cases u with
      | zero => cases hd; exact ha
      | succ u =>
        have := h1 d (List.mem_of_getElem? (by simpa using hd))
        omega
set_option maxRecDepth 100000 in
set_option maxHeartbeats 2000000 in
theorem vadm_i (b : BrokerD) (a : List ClientD) (hs : a.Pairwise fun c d => c.fID < d.fID) (hA : a.length ≤ 1000000000) (hW : b.fWaiting.length ≤ 1000000000) : VX Try.prog 67 [(true, [.rd (.lit (.int .i64 b.fPool)), .rd (.lit (.int .i64 b.fNextID)), .ln 0, .ln 1])] [.seq 35 (a.map tClient), .seq 35 (b.fWaiting.map tClient)] false [(true, tBroker (BrokerD.letIn b a))] := by
  refine VX.enter Try.func67 rfl Try.ntmps67 (gle rfl) fun E hE => ?_
  refine SV.seq' ?_
  refine SV.region ?_
  refine SV.op (OpMk.ok (ok_box (kk := 0) (ag := true) (xs := [.sc _, .sc _, .hd 0, .hd 1]) rfl rfl rfl (fun h => by cases h) rfl rfl (gle rfl))) rfl ?_
  refine SV.op (OpMk.ok (ok_alloc (kk := 1) (xs := [.sc _, .sc _, .nl _, .nl _]) rfl rfl zero_impl_Broker ⟨rfl, rfl, rfl, rfl, rfl, ⟨3, by decide, sz_impl_Client⟩, rfl, ⟨3, by decide, sz_impl_Client⟩, trivial⟩ rfl (gle rfl))) rfl ?_
  refine SV.nil ?_
  refine SV.tn ?_
  refine SV.seq' ?_
  refine SV.seq' ?_
  refine SV.region ?_
  refine SV.op (OpL.ok (nb := 2) (ok_field_bp (b := 0) (o' := 0) (off := 3) rfl rfl fld_impl_Broker_3) rfl (gle rfl)) rfl ?_
  refine SV.op (OpL.ok (nb := 2) (ok_load_bp (b := 0) (i := 3) (ag := false) (m := 1) (ys := [.hd 1]) rfl rfl rfl agg_s_impl_Client sz_s_impl_Client (fun _ => rfl) rfl rfl (gle rfl)) rfl (gle rfl)) rfl ?_
  refine SV.op (OpL.ok (nb := 2) (ok_len (lf := .hd 1) rfl elt_impl_Client.und rfl rfl) rfl (gle rfl)) rfl ?_
  refine SV.op (OpL.ok (nb := 2) (ok_s2 (x := .tmp 9) (x' := .const ((Value.int IntKind.i64 0))) (VScal.one rfl) (VScal.one rfl) (fun ρ h1 h2 w => by go_simp; (try go_bits); with_reducible rfl) rfl) rfl (gle rfl)) rfl ?_
  refine SV.nil ?_
  refine SV.tn ?_
  refine SV.cond rfl (fun hc0 => ?_) (fun hc0 => ?_)
  · skip   -- c0.T
    have hwl : b.fWaiting.length = 0 := by simp at hc0; first | omega | (rw [hc0]; rfl)
    have ho := BrokerD.admit_none (a := a) hwl
    refine SV.seq' ?_
    refine SV.region ?_
    refine SV.op (OpL.ok (nb := 2) (ok_load_bp (b := 0) (i := 0) (ag := true) (m := 4) (ys := [.sc _, .sc _, .hd 0, .hd 1]) rfl rfl rfl agg_impl_Broker sz_impl_Broker (fun h => by cases h) rfl rfl (gle rfl)) rfl (gle rfl)) rfl ?_
    refine SV.op (ok_store_bp (b := 1) (i := 0) (m := 4) (ag := true) (zs := [.sc _, .sc _, .hd 0, .hd 1]) (ys := [.sc _, .sc _, .hd 0, .hd 1]) rfl rfl rfl rfl sz_impl_Broker (fun h => by cases h) rfl (gle rfl) rfl rfl rfl) rfl ?_
    refine SV.nil ?_
    refine SV.tn ?_
    refine SV.ret ?_
    refine SV.tr ?_
    apply SV.done (hf := Try.results67) (ht := rfl) (he := .inl rfl)
    case hr => exact (ResAll.cons (ResOk.cell (b := 1) (ag := true) (xs := [.sc _, .sc _, .hd 0, .hd 1]) rfl rfl agg_impl_Broker sz_impl_Broker (fun h => by cases h)) ResAll.nil')
    case h2 => simp [two]
    refine ⟨rfl, ⟨?_, ?_, ?_, ?_, trivial⟩, trivial⟩ <;> first | rfl | (rw [ho]; rfl) | ((show some (T.seq _ _) = some (T.seq _ _); refine congrArg (fun z => some (T.seq _ z)) ?_; rw [ho]; first | done | rfl | (simp [tClient]; done) | (simp [List.map_set, tClient]; done))) | ((show some (T.lit (Value.int .i64 _)) = some (T.lit (Value.int .i64 _)); refine congrArg (fun z => some (T.lit (Value.int .i64 z))) ?_; rw [ho]; first | done | rfl)) | ((show some (T.lit (Value.bool _)) = some (T.lit (Value.bool _)); refine congrArg (fun z => some (T.lit (Value.bool z))) ?_; rw [ho]; first | done | rfl | (simp; done)))
  · skip   -- c0.F
    have hwl : 0 < b.fWaiting.length := by simp at hc0; first | omega | exact List.length_pos_iff.2 hc0
    have hbl0 := BrokerD.bestAt_le b.fWaiting (b.fWaiting.length - 1)
    have hbl : BrokerD.best b.fWaiting < b.fWaiting.length := by unfold BrokerD.best; omega
    obtain ⟨c, hx⟩ : ∃ c, b.fWaiting[BrokerD.best b.fWaiting]? = some c := ⟨_, List.getElem?_eq_getElem hbl⟩
    obtain ⟨k, hk, hlo, hge⟩ := cut_asc hs c
    have hput := BrokerD.put_at hk hlo (fun d hd => hge k d (Nat.le_refl k) hd)
    have ho := BrokerD.admit_some (a := a) hx
    rw [hput] at ho
    refine SV.skip ?_
    refine SV.tn ?_
    refine SV.seq' ?_
    refine SV.region ?_
    refine SV.op (OpL.ok (nb := 2) (ok_field_bp (b := 0) (o' := 0) (off := 3) rfl rfl fld_impl_Broker_3) rfl (gle rfl)) rfl ?_
    refine SV.op (OpL.ok (nb := 2) (ok_load_bp (b := 0) (i := 3) (ag := false) (m := 1) (ys := [.hd 1]) rfl rfl rfl agg_s_impl_Client sz_s_impl_Client (fun _ => rfl) rfl rfl (gle rfl)) rfl (gle rfl)) rfl ?_
    refine SV.op (OpMk.ok (ok_call (ls := [(false, [.sc _])]) rfl rfl ⟨_, _, Try.func86, rfl, by decide⟩ (vfirst_i b.fWaiting (by omega)) ⟨⟨[.hd 1], rfl, ⟨rfl, trivial⟩⟩, trivial⟩ rfl (gle rfl))) rfl ?_
    refine SV.op (OpL.ok (nb := 2) (ok_move (v := V.one (.sc _)) (.inr rfl) rfl) rfl (gle rfl)) rfl ?_
    refine SV.nil ?_
    refine SV.tn ?_
    refine SV.seq' ?_
    refine SV.region ?_
    refine SV.op (OpL.ok (nb := 2) (ok_field_bp (b := 0) (o' := 0) (off := 3) rfl rfl fld_impl_Broker_3) rfl (gle rfl)) rfl ?_
    refine SV.op (OpL.ok (nb := 2) (ok_load_bp (b := 0) (i := 3) (ag := false) (m := 1) (ys := [.hd 1]) rfl rfl rfl agg_s_impl_Client sz_s_impl_Client (fun _ => rfl) rfl rfl (gle rfl)) rfl (gle rfl)) rfl ?_
    refine SV.op (OpL.ok (nb := 2) (ok_move (v := V.one (.sc _)) (.inl rfl) rfl) rfl (gle rfl)) rfl ?_
    refine SV.op (OpL.ok (nb := 2) (ok_index (n := 3) (lf := .hd 1) rfl elt_impl_Client.und sz_impl_Client rfl rfl rfl (map_at hx)) rfl (gle rfl)) rfl ?_
    refine SV.op (ok_load_el (p := .ep 1 _ _ _) (ag := true) (m := 3) (ys := [.sc _, .sc _, .sc _]) rfl rfl (cells_ep rfl (map_at hx) rfl rfl) agg_impl_Client sz_impl_Client (fun h => by cases h) (gle rfl) rfl rfl (gle rfl)) rfl ?_
    refine SV.op (OpMk.ok (ok_alloc (kk := 2) (xs := [.sc _, .sc _, .sc _]) rfl rfl zero_impl_Client ⟨rfl, rfl, rfl, rfl, rfl, rfl, trivial⟩ rfl (gle rfl))) rfl ?_
    refine SV.op (ok_store_bp (b := 2) (i := 0) (m := 3) (ag := true) (zs := [.sc _, .sc _, .sc _]) (ys := [.sc _, .sc _, .sc _]) rfl rfl rfl rfl sz_impl_Client (fun h => by cases h) rfl (gle rfl) rfl rfl rfl) rfl ?_
    refine SV.nil ?_
    refine SV.tn ?_
    refine SV.seq' ?_
    refine SV.region ?_
    refine SV.op (OpL.ok (nb := 3) (ok_field_bp (b := 0) (o' := 0) (off := 3) rfl rfl fld_impl_Broker_3) rfl (gle rfl)) rfl ?_
    refine SV.op (OpL.ok (nb := 3) (ok_load_bp (b := 0) (i := 3) (ag := false) (m := 1) (ys := [.hd 1]) rfl rfl rfl agg_s_impl_Client sz_s_impl_Client (fun _ => rfl) rfl rfl (gle rfl)) rfl (gle rfl)) rfl ?_
    refine SV.op (OpL.ok (nb := 3) (ok_move (v := V.one (.sc _)) (.inl rfl) rfl) rfl (gle rfl)) rfl ?_
    refine SV.op (OpL.ok (nb := 3) (ok_move (v := V.one (.sc _)) (.inl rfl) rfl) rfl (gle rfl)) rfl ?_
    refine SV.op (OpL.ok (nb := 3) (ok_s2 (v := .int .i64 (((BrokerD.best b.fWaiting : Nat) : Int) + 1)) (x := .tmp 23) (x' := .const ((Value.int IntKind.i64 1))) (VScal.one rfl) (VScal.one rfl) (fun ρ h1 h2 w => by go_simp; rw [IntWalk.i64_left, IntWalk.wrap64_in _ ⟨by omega, by omega⟩]) rfl) rfl (gle rfl)) rfl ?_
    refine SV.op (ok_callY (is := [1]) (ls := [(false, [.hd 2])]) rfl rfl ⟨_, _, Try.func66, rfl, by decide⟩ (vdel b.fWaiting (BrokerD.best b.fWaiting) hbl) ⟨⟨[.hd 1], rfl, ⟨⟨_, rfl, rfl⟩, trivial⟩⟩, ⟨[.sc _], rfl, ⟨.inl ⟨_, rfl, rfl⟩, trivial⟩⟩, ⟨[.sc _], rfl, ⟨.inl ⟨_, rfl, rfl⟩, trivial⟩⟩, trivial⟩ rfl (by decide) rfl (gle rfl)) rfl ?_
    refine SV.op (OpL.ok (nb := 3) (ok_field_bp (b := 0) (o' := 0) (off := 3) rfl rfl fld_impl_Broker_3) rfl (gle rfl)) rfl ?_
    refine SV.op (ok_store_bp (b := 0) (i := 3) (m := 1) (ag := false) (zs := [.hd 2]) (ys := [.sc _, .sc _, .hd 0, .hd 2]) rfl rfl rfl rfl sz_s_impl_Client (fun _ => rfl) rfl (gle rfl) rfl rfl rfl) rfl ?_
    refine SV.nil ?_
    refine SV.tn ?_
    refine SV.seq' ?_
    refine SV.region ?_
    refine SV.op (OpL.ok (nb := 3) (ok_field_bp (b := 0) (o' := 0) (off := 2) rfl rfl fld_impl_Broker_2) rfl (gle rfl)) rfl ?_
    refine SV.op (OpL.ok (nb := 3) (ok_load_bp (b := 0) (i := 2) (ag := false) (m := 1) (ys := [.hd 0]) rfl rfl rfl agg_s_impl_Client sz_s_impl_Client (fun _ => rfl) rfl rfl (gle rfl)) rfl (gle rfl)) rfl ?_
    refine SV.op (OpL.ok (nb := 3) (ok_load_bp (b := 2) (i := 0) (ag := true) (m := 3) (ys := [.sc _, .sc _, .sc _]) rfl rfl rfl agg_impl_Client sz_impl_Client (fun h => by cases h) rfl rfl (gle rfl)) rfl (gle rfl)) rfl ?_
    refine SV.op (OpMk.ok (ok_call (ls := [(false, [.sc _]), (false, [.sc _])]) rfl rfl ⟨_, _, Try.func87, rfl, by decide⟩ (vbin_i a c k hA hk hlo hge) ⟨⟨[.hd 0], rfl, ⟨rfl, trivial⟩⟩, ⟨[.sc _, .sc _, .sc _], rfl, ⟨rfl, rfl, rfl, trivial⟩⟩, ⟨[.sc _], rfl, ⟨rfl, trivial⟩⟩, trivial⟩ rfl (gle rfl))) rfl ?_
    refine SV.op (OpL.ok (nb := 3) (ok_move (v := ⟨true, [(false, [.sc _]), (false, [.sc _])]⟩) (.inl rfl) rfl) rfl (gle rfl)) rfl ?_
    refine SV.op (OpL.ok (nb := 3) (ok_extract (ag := false) (xs := [.sc _]) rfl rfl rfl) rfl (gle rfl)) rfl ?_
    refine SV.op (OpL.ok (nb := 3) (ok_extract (ag := false) (xs := [.sc _]) rfl rfl rfl) rfl (gle rfl)) rfl ?_
    refine SV.op (OpL.ok (nb := 3) (ok_move (v := V.one (.sc _)) (.inr rfl) rfl) rfl (gle rfl)) rfl ?_
    refine SV.op (OpL.ok (nb := 3) (ok_move (v := V.one (.sc _)) (.inr rfl) rfl) rfl (gle rfl)) rfl ?_
    refine SV.nil ?_
    refine SV.tn ?_
    refine SV.seq' ?_
    refine SV.region ?_
    refine SV.op (OpL.ok (nb := 3) (ok_field_bp (b := 0) (o' := 0) (off := 2) rfl rfl fld_impl_Broker_2) rfl (gle rfl)) rfl ?_
    refine SV.op (OpL.ok (nb := 3) (ok_load_bp (b := 0) (i := 2) (ag := false) (m := 1) (ys := [.hd 0]) rfl rfl rfl agg_s_impl_Client sz_s_impl_Client (fun _ => rfl) rfl rfl (gle rfl)) rfl (gle rfl)) rfl ?_
    refine SV.op (OpL.ok (nb := 3) (ok_move (v := V.one (.sc _)) (.inl rfl) rfl) rfl (gle rfl)) rfl ?_
    refine SV.op (OpL.ok (nb := 3) (ok_load_bp (b := 2) (i := 0) (ag := true) (m := 3) (ys := [.sc _, .sc _, .sc _]) rfl rfl rfl agg_impl_Client sz_impl_Client (fun h => by cases h) rfl rfl (gle rfl)) rfl (gle rfl)) rfl ?_
    refine SV.op (OpMk.ok (ok_lit1 (kk := 3) elt_impl_Client (ag := true) (xs := [.sc _, .sc _, .sc _]) rfl rfl rfl rfl (fun h => by cases h) (outs_c rfl (outs_c rfl (outs_c rfl outs_n))) (by simp [two]) rfl (gle rfl))) rfl ?_
    refine SV.op (ok_callY (is := [0, 3]) (ls := [(false, [.hd 4])]) rfl rfl ⟨_, _, Try.func89, rfl, by decide⟩ (vins a c k hk hA) ⟨⟨[.hd 0], rfl, ⟨⟨_, rfl, rfl⟩, trivial⟩⟩, ⟨[.sc _], rfl, ⟨.inl ⟨_, rfl, rfl⟩, trivial⟩⟩, ⟨[.hd 3], rfl, ⟨⟨_, rfl, rfl⟩, trivial⟩⟩, trivial⟩ rfl (by decide) rfl (gle rfl)) rfl ?_
    refine SV.op (OpL.ok (nb := 3) (ok_field_bp (b := 0) (o' := 0) (off := 2) rfl rfl fld_impl_Broker_2) rfl (gle rfl)) rfl ?_
    refine SV.op (ok_store_bp (b := 0) (i := 2) (m := 1) (ag := false) (zs := [.hd 4]) (ys := [.sc _, .sc _, .hd 4, .hd 2]) rfl rfl rfl rfl sz_s_impl_Client (fun _ => rfl) rfl (gle rfl) rfl rfl rfl) rfl ?_
    refine SV.nil ?_
    refine SV.tn ?_
    refine SV.seq' ?_
    refine SV.region ?_
    refine SV.op (OpL.ok (nb := 3) (ok_load_bp (b := 0) (i := 0) (ag := true) (m := 4) (ys := [.sc _, .sc _, .hd 4, .hd 2]) rfl rfl rfl agg_impl_Broker sz_impl_Broker (fun h => by cases h) rfl rfl (gle rfl)) rfl (gle rfl)) rfl ?_
    refine SV.op (ok_store_bp (b := 1) (i := 0) (m := 4) (ag := true) (zs := [.sc _, .sc _, .hd 4, .hd 2]) (ys := [.sc _, .sc _, .hd 4, .hd 2]) rfl rfl rfl rfl sz_impl_Broker (fun h => by cases h) rfl (gle rfl) rfl rfl rfl) rfl ?_
    refine SV.nil ?_
    refine SV.tn ?_
    refine SV.ret ?_
    apply SV.done (hf := Try.results67) (ht := rfl) (he := .inl rfl)
    case hr => exact (ResAll.cons (ResOk.cell (b := 1) (ag := true) (xs := [.sc _, .sc _, .hd 4, .hd 2]) rfl rfl agg_impl_Broker sz_impl_Broker (fun h => by cases h)) ResAll.nil')
    case h2 => simp [two]
    refine ⟨rfl, ⟨?_, ?_, ?_, ?_, trivial⟩, trivial⟩ <;> first | rfl | (rw [ho]; rfl) | ((show some (T.seq _ _) = some (T.seq _ _); refine congrArg (fun z => some (T.seq _ z)) ?_; rw [ho]; first | done | rfl | (simp [tClient]; done) | (simp [List.map_set, tClient]; done))) | ((show some (T.lit (Value.int .i64 _)) = some (T.lit (Value.int .i64 _)); refine congrArg (fun z => some (T.lit (Value.int .i64 z))) ?_; rw [ho]; first | done | rfl)) | ((show some (T.lit (Value.bool _)) = some (T.lit (Value.bool _)); refine congrArg (fun z => some (T.lit (Value.bool z))) ?_; rw [ho]; first | done | rfl | (simp; done)))
set_option maxRecDepth 100000 in
set_option maxHeartbeats 2000000 in
theorem vrem_i (b : BrokerD) (id : Int) (hA : b.fActive.length ≤ 1000000000) (hW : b.fWaiting.length ≤ 1000000000) : VC Try.prog 27 [(true, tBroker b), (false, [.lit (.int .i64 (id))])] true [(true, tBroker ((BrokerD.removed b id).getD b)), (false, [.lit (.bool ((BrokerD.removed b id).isSome))])] := by
  refine VC.enter Try.func27 rfl Try.ntmps27 (gle rfl) fun E hE => ?_
  refine SV.seq' ?_
  refine SV.region ?_
  refine SV.op (OpMk.ok (ok_box (kk := 0) (ag := true) (xs := [.sc _, .sc _, .ro _, .ro _]) rfl rfl rfl (fun h => by cases h) rfl rfl (gle rfl))) rfl ?_
  refine SV.op (OpMk.ok (ok_alloc (kk := 1) (xs := [.sc _, .sc _, .nl _, .nl _]) rfl rfl zero_impl_Broker ⟨rfl, rfl, rfl, rfl, rfl, ⟨3, by decide, sz_impl_Client⟩, rfl, ⟨3, by decide, sz_impl_Client⟩, trivial⟩ rfl (gle rfl))) rfl ?_
  refine SV.op (OpL.ok (nb := 2) (ok_move (v := V.one (.sc _)) (.inr rfl) rfl) rfl (gle rfl)) rfl ?_
  refine SV.nil ?_
  refine SV.tn ?_
  refine SV.seq' ?_
  refine SV.region ?_
  refine SV.op (OpL.ok (nb := 2) (ok_load_bp (b := 0) (i := 0) (ag := true) (m := 4) (ys := [.sc _, .sc _, .ro _, .ro _]) rfl rfl rfl agg_impl_Broker sz_impl_Broker (fun h => by cases h) rfl rfl (gle rfl)) rfl (gle rfl)) rfl ?_
  refine SV.op (OpMk.ok (ok_call (ls := [(true, [.sc _, .sc _, .hd 0, .hd 1])]) rfl rfl ⟨_, _, Try.func60, rfl, by decide⟩ (vcloneb_i b (by omega) (by omega)) ⟨⟨[.sc _, .sc _, .ro _, .ro _], rfl, ⟨rfl, rfl, rfl, rfl, trivial⟩⟩, trivial⟩ rfl (gle rfl))) rfl ?_
  refine SV.op (OpMk.ok (ok_alloc (kk := 2) (xs := [.sc _, .sc _, .nl _, .nl _]) rfl rfl zero_impl_Broker ⟨rfl, rfl, rfl, rfl, rfl, ⟨3, by decide, sz_impl_Client⟩, rfl, ⟨3, by decide, sz_impl_Client⟩, trivial⟩ rfl (gle rfl))) rfl ?_
  refine SV.op (ok_store_bp (b := 2) (i := 0) (m := 4) (ag := true) (zs := [.sc _, .sc _, .hd 0, .hd 1]) (ys := [.sc _, .sc _, .hd 0, .hd 1]) rfl rfl rfl rfl sz_impl_Broker (fun h => by cases h) rfl (gle rfl) rfl rfl rfl) rfl ?_
  refine SV.nil ?_
  refine SV.tn ?_
  refine SV.seq' ?_
  refine SV.seq' ?_
  refine SV.region ?_
  refine SV.op (OpL.ok (nb := 3) (ok_load_bp (b := 0) (i := 0) (ag := true) (m := 4) (ys := [.sc _, .sc _, .ro _, .ro _]) rfl rfl rfl agg_impl_Broker sz_impl_Broker (fun h => by cases h) rfl rfl (gle rfl)) rfl (gle rfl)) rfl ?_
  refine SV.op (OpMk.ok (ok_call (ls := [(false, [.sc _])]) rfl rfl ⟨_, _, Try.func19, rfl, by decide⟩ (vokb_i b (by omega) (by omega)) ⟨⟨[.sc _, .sc _, .ro _, .ro _], rfl, ⟨rfl, rfl, rfl, rfl, trivial⟩⟩, trivial⟩ rfl (gle rfl))) rfl ?_
  refine SV.op (OpL.ok (nb := 3) (ok_s1 (x := .tmp 12) (VScal.one rfl) (fun ρ h1 w => by go_simp; (try go_bits); with_reducible rfl) rfl) rfl (gle rfl)) rfl ?_
  refine SV.nil ?_
  refine SV.tn ?_
  refine SV.cond rfl (fun hc0 => ?_) (fun hc0 => ?_)
  · skip   -- c0.T
    have hok : BrokerD.ok b = false := by simpa using hc0
    have ho := BrokerD.removed_bad (id := id) hok
    refine SV.seq' ?_
    refine SV.region ?_
    refine SV.op (OpL.ok (nb := 3) (ok_load_bp (b := 2) (i := 0) (ag := true) (m := 4) (ys := [.sc _, .sc _, .hd 0, .hd 1]) rfl rfl rfl agg_impl_Broker sz_impl_Broker (fun h => by cases h) rfl rfl (gle rfl)) rfl (gle rfl)) rfl ?_
    refine SV.op (ok_store_bp (b := 1) (i := 0) (m := 4) (ag := true) (zs := [.sc _, .sc _, .hd 0, .hd 1]) (ys := [.sc _, .sc _, .hd 0, .hd 1]) rfl rfl rfl rfl sz_impl_Broker (fun h => by cases h) rfl (gle rfl) rfl rfl rfl) rfl ?_
    refine SV.op (OpL.ok (nb := 3) (ok_move (v := V.one (.sc _)) (.inr rfl) rfl) rfl (gle rfl)) rfl ?_
    refine SV.nil ?_
    refine SV.tn ?_
    refine SV.ret ?_
    refine SV.tr ?_
    apply SV.done (hf := Try.results27) (ht := rfl) (he := .inl rfl)
    case hr => exact (ResAll.cons (ResOk.cell (b := 1) (ag := true) (xs := [.sc _, .sc _, .hd 0, .hd 1]) rfl rfl agg_impl_Broker sz_impl_Broker (fun h => by cases h)) (ResAll.cons (ResOk.tmp (ag := false) (xs := [.sc _]) rfl) ResAll.nil'))
    case h2 => simp [two]
    refine ⟨rfl, ⟨?_, ?_, ?_, ?_, trivial⟩, ⟨rfl, ⟨?_, trivial⟩, trivial⟩⟩ <;> first | rfl | (rw [ho]; rfl) | ((show some (T.seq _ _) = some (T.seq _ _); refine congrArg (fun z => some (T.seq _ z)) ?_; rw [ho]; first | done | rfl | (simp [tClient]; done) | (simp [List.map_set, tClient]; done))) | ((show some (T.lit (Value.int .i64 _)) = some (T.lit (Value.int .i64 _)); refine congrArg (fun z => some (T.lit (Value.int .i64 z))) ?_; rw [ho]; first | done | rfl)) | ((show some (T.lit (Value.bool _)) = some (T.lit (Value.bool _)); refine congrArg (fun z => some (T.lit (Value.bool z))) ?_; rw [ho]; first | done | rfl | (simp; done)))
  · skip   -- c0.F
    have hok : BrokerD.ok b = true := by simpa using hc0
    have hO := BrokerD.Ok.of hok
    refine SV.skip ?_
    refine SV.tn ?_
    refine SV.seq' ?_
    refine SV.seq' ?_
    obtain ⟨ka, hka⟩ : ∃ x, BrokerD.atI b.fActive id = x := ⟨_, rfl⟩
    have hva := vatc_i b.fActive id (by omega)
    rw [hka] at hva
    refine SV.region ?_
    refine SV.op (OpL.ok (nb := 3) (ok_field_bp (b := 0) (o' := 0) (off := 2) rfl rfl fld_impl_Broker_2) rfl (gle rfl)) rfl ?_
    refine SV.op (OpL.ok (nb := 3) (ok_load_bp (b := 0) (i := 2) (ag := false) (m := 1) (ys := [.ro _]) rfl rfl rfl agg_s_impl_Client sz_s_impl_Client (fun _ => rfl) rfl rfl (gle rfl)) rfl (gle rfl)) rfl ?_
    refine SV.op (OpL.ok (nb := 3) (ok_move (v := V.one (.sc _)) (.inl rfl) rfl) rfl (gle rfl)) rfl ?_
    refine SV.op (OpMk.ok (ok_call (ls := [(false, [.sc _])]) rfl rfl ⟨_, _, Try.func58, rfl, by decide⟩ (hva) ⟨⟨[.ro _], rfl, ⟨rfl, trivial⟩⟩, ⟨[.sc _], rfl, ⟨rfl, trivial⟩⟩, trivial⟩ rfl (gle rfl))) rfl ?_
    refine SV.op (OpL.ok (nb := 3) (ok_move (v := V.one (.sc _)) (.inr rfl) rfl) rfl (gle rfl)) rfl ?_
    refine SV.nil ?_
    refine SV.tn ?_
    refine SV.seq' ?_
    refine SV.region ?_
    refine SV.op (OpL.ok (nb := 3) (ok_move (v := V.one (.sc _)) (.inl rfl) rfl) rfl (gle rfl)) rfl ?_
    refine SV.op (OpL.ok (nb := 3) (ok_s2 (x := .tmp 19) (x' := .const ((Value.int IntKind.i64 0))) (VScal.one rfl) (VScal.one rfl) (fun ρ h1 h2 w => by go_simp; (try go_bits); with_reducible rfl) rfl) rfl (gle rfl)) rfl ?_
    refine SV.nil ?_
    refine SV.tn ?_
    refine SV.cond rfl (fun hc1 => ?_) (fun hc1 => ?_)
    · skip   -- c1.T
      obtain ⟨k, rfl, hat⟩ := BrokerD.at_pos hka (by simp at hc1; omega)
      obtain ⟨ca, hxa, hida, hkl⟩ := BrokerD.of_at hat
      have hnw : BrokerD.at? b.fWaiting id = none := BrokerD.at_none fun d hd e => hO.off _ (List.mem_of_getElem? hxa) d hd (hida.trans e.symm)
      have ho := BrokerD.removed_act hok hnw hat
      have hel : (b.fActive.eraseIdx k).length ≤ 1000000000 := by rw [List.length_eraseIdx_of_lt hkl]; omega
      have hasc : (b.fActive.eraseIdx k).Pairwise fun c d => c.fID < d.fID := hO.act.asc.sublist (List.eraseIdx_sublist ..)
      refine SV.seq' ?_
      refine SV.region ?_
      refine SV.op (OpL.ok (nb := 3) (ok_field_bp (b := 2) (o' := 0) (off := 2) rfl rfl fld_impl_Broker_2) rfl (gle rfl)) rfl ?_
      refine SV.op (OpL.ok (nb := 3) (ok_load_bp (b := 2) (i := 2) (ag := false) (m := 1) (ys := [.hd 0]) rfl rfl rfl agg_s_impl_Client sz_s_impl_Client (fun _ => rfl) rfl rfl (gle rfl)) rfl (gle rfl)) rfl ?_
      refine SV.op (OpL.ok (nb := 3) (ok_move (v := V.one (.sc _)) (.inl rfl) rfl) rfl (gle rfl)) rfl ?_
      refine SV.op (OpL.ok (nb := 3) (ok_move (v := V.one (.sc _)) (.inl rfl) rfl) rfl (gle rfl)) rfl ?_
      refine SV.op (OpL.ok (nb := 3) (ok_s2 (v := .int .i64 ((k : Int) + 1)) (x := .tmp 24) (x' := .const ((Value.int IntKind.i64 1))) (VScal.one rfl) (VScal.one rfl) (fun ρ h1 h2 w => by go_simp; rw [IntWalk.i64_left, IntWalk.wrap64_in _ ⟨by omega, by omega⟩]) rfl) rfl (gle rfl)) rfl ?_
      refine SV.op (ok_callY (is := [0]) (ls := [(false, [.hd 2])]) rfl rfl ⟨_, _, Try.func66, rfl, by decide⟩ (vdel b.fActive k hkl) ⟨⟨[.hd 0], rfl, ⟨⟨_, rfl, rfl⟩, trivial⟩⟩, ⟨[.sc _], rfl, ⟨.inl ⟨_, rfl, rfl⟩, trivial⟩⟩, ⟨[.sc _], rfl, ⟨.inl ⟨_, rfl, rfl⟩, trivial⟩⟩, trivial⟩ rfl (by decide) rfl (gle rfl)) rfl ?_
      refine SV.op (OpL.ok (nb := 3) (ok_field_bp (b := 2) (o' := 0) (off := 2) rfl rfl fld_impl_Broker_2) rfl (gle rfl)) rfl ?_
      refine SV.op (ok_store_bp (b := 2) (i := 2) (m := 1) (ag := false) (zs := [.hd 2]) (ys := [.sc _, .sc _, .hd 2, .hd 1]) rfl rfl rfl rfl sz_s_impl_Client (fun _ => rfl) rfl (gle rfl) rfl rfl rfl) rfl ?_
      refine SV.nil ?_
      refine SV.tn ?_
      refine SV.seq' ?_
      refine SV.region ?_
      refine SV.op (OpL.ok (nb := 3) (ok_load_bp (b := 2) (i := 0) (ag := true) (m := 4) (ys := [.sc _, .sc _, .hd 2, .hd 1]) rfl rfl rfl agg_impl_Broker sz_impl_Broker (fun h => by cases h) rfl rfl (gle rfl)) rfl (gle rfl)) rfl ?_
      refine SV.op (ok_callY (is := [2, 1]) (ls := [(true, [.sc _, .sc _, .hd 3, .hd 4])]) rfl rfl ⟨_, _, Try.func67, rfl, by decide⟩ (vadm_i b (b.fActive.eraseIdx k) hasc hel (by omega)) ⟨⟨[.sc _, .sc _, .hd 2, .hd 1], rfl, ⟨.inl ⟨_, rfl, rfl⟩, .inl ⟨_, rfl, rfl⟩, ⟨_, rfl, rfl⟩, ⟨_, rfl, rfl⟩, trivial⟩⟩, trivial⟩ rfl (by decide) rfl (gle rfl)) rfl ?_
      refine SV.op (ok_store_bp (b := 1) (i := 0) (m := 4) (ag := true) (zs := [.sc _, .sc _, .hd 3, .hd 4]) (ys := [.sc _, .sc _, .hd 3, .hd 4]) rfl rfl rfl rfl sz_impl_Broker (fun h => by cases h) rfl (gle rfl) rfl rfl rfl) rfl ?_
      refine SV.op (OpL.ok (nb := 3) (ok_move (v := V.one (.sc _)) (.inr rfl) rfl) rfl (gle rfl)) rfl ?_
      refine SV.nil ?_
      refine SV.tn ?_
      refine SV.ret ?_
      refine SV.tr ?_
      apply SV.done (hf := Try.results27) (ht := rfl) (he := .inl rfl)
      case hr => exact (ResAll.cons (ResOk.cell (b := 1) (ag := true) (xs := [.sc _, .sc _, .hd 3, .hd 4]) rfl rfl agg_impl_Broker sz_impl_Broker (fun h => by cases h)) (ResAll.cons (ResOk.tmp (ag := false) (xs := [.sc _]) rfl) ResAll.nil'))
      case h2 => simp [two]
      refine ⟨rfl, ⟨?_, ?_, ?_, ?_, trivial⟩, ⟨rfl, ⟨?_, trivial⟩, trivial⟩⟩ <;> first | rfl | (rw [ho]; rfl) | ((show some (T.seq _ _) = some (T.seq _ _); refine congrArg (fun z => some (T.seq _ z)) ?_; rw [ho]; first | done | rfl | (simp [tClient]; done) | (simp [List.map_set, tClient]; done))) | ((show some (T.lit (Value.int .i64 _)) = some (T.lit (Value.int .i64 _)); refine congrArg (fun z => some (T.lit (Value.int .i64 z))) ?_; rw [ho]; first | done | rfl)) | ((show some (T.lit (Value.bool _)) = some (T.lit (Value.bool _)); refine congrArg (fun z => some (T.lit (Value.bool z))) ?_; rw [ho]; first | done | rfl | (simp; done)))
    · skip   -- c1.F
      have hna := BrokerD.at_neg hka (by simp at hc1; omega)
      refine SV.skip ?_
      refine SV.tn ?_
      refine SV.seq' ?_
      refine SV.seq' ?_
      obtain ⟨kw, hkw⟩ : ∃ x, BrokerD.atI b.fWaiting id = x := ⟨_, rfl⟩
      have hvw := vatc_i b.fWaiting id (by omega)
      rw [hkw] at hvw
      refine SV.region ?_
      refine SV.op (OpL.ok (nb := 3) (ok_field_bp (b := 0) (o' := 0) (off := 3) rfl rfl fld_impl_Broker_3) rfl (gle rfl)) rfl ?_
      refine SV.op (OpL.ok (nb := 3) (ok_load_bp (b := 0) (i := 3) (ag := false) (m := 1) (ys := [.ro _]) rfl rfl rfl agg_s_impl_Client sz_s_impl_Client (fun _ => rfl) rfl rfl (gle rfl)) rfl (gle rfl)) rfl ?_
      refine SV.op (OpL.ok (nb := 3) (ok_move (v := V.one (.sc _)) (.inl rfl) rfl) rfl (gle rfl)) rfl ?_
      refine SV.op (OpMk.ok (ok_call (ls := [(false, [.sc _])]) rfl rfl ⟨_, _, Try.func58, rfl, by decide⟩ (hvw) ⟨⟨[.ro _], rfl, ⟨rfl, trivial⟩⟩, ⟨[.sc _], rfl, ⟨rfl, trivial⟩⟩, trivial⟩ rfl (gle rfl))) rfl ?_
      refine SV.op (OpL.ok (nb := 3) (ok_move (v := V.one (.sc _)) (.inr rfl) rfl) rfl (gle rfl)) rfl ?_
      refine SV.nil ?_
      refine SV.tn ?_
      refine SV.seq' ?_
      refine SV.region ?_
      refine SV.op (OpL.ok (nb := 3) (ok_move (v := V.one (.sc _)) (.inl rfl) rfl) rfl (gle rfl)) rfl ?_
      refine SV.op (OpL.ok (nb := 3) (ok_s2 (x := .tmp 34) (x' := .const ((Value.int IntKind.i64 0))) (VScal.one rfl) (VScal.one rfl) (fun ρ h1 h2 w => by go_simp; (try go_bits); with_reducible rfl) rfl) rfl (gle rfl)) rfl ?_
      refine SV.nil ?_
      refine SV.tn ?_
      refine SV.cond rfl (fun hc2 => ?_) (fun hc2 => ?_)
      · skip   -- c2.T
        obtain ⟨k, rfl, hat⟩ := BrokerD.at_pos hkw (by simp at hc2; omega)
        obtain ⟨-, -, -, hkl⟩ := BrokerD.of_at hat
        have ho := BrokerD.removed_wai hok hat
        refine SV.seq' ?_
        refine SV.region ?_
        refine SV.op (OpL.ok (nb := 3) (ok_field_bp (b := 2) (o' := 0) (off := 3) rfl rfl fld_impl_Broker_3) rfl (gle rfl)) rfl ?_
        refine SV.op (OpL.ok (nb := 3) (ok_load_bp (b := 2) (i := 3) (ag := false) (m := 1) (ys := [.hd 1]) rfl rfl rfl agg_s_impl_Client sz_s_impl_Client (fun _ => rfl) rfl rfl (gle rfl)) rfl (gle rfl)) rfl ?_
        refine SV.op (OpL.ok (nb := 3) (ok_move (v := V.one (.sc _)) (.inl rfl) rfl) rfl (gle rfl)) rfl ?_
        refine SV.op (OpL.ok (nb := 3) (ok_move (v := V.one (.sc _)) (.inl rfl) rfl) rfl (gle rfl)) rfl ?_
        refine SV.op (OpL.ok (nb := 3) (ok_s2 (v := .int .i64 ((k : Int) + 1)) (x := .tmp 39) (x' := .const ((Value.int IntKind.i64 1))) (VScal.one rfl) (VScal.one rfl) (fun ρ h1 h2 w => by go_simp; rw [IntWalk.i64_left, IntWalk.wrap64_in _ ⟨by omega, by omega⟩]) rfl) rfl (gle rfl)) rfl ?_
        refine SV.op (ok_callY (is := [1]) (ls := [(false, [.hd 2])]) rfl rfl ⟨_, _, Try.func66, rfl, by decide⟩ (vdel b.fWaiting k hkl) ⟨⟨[.hd 1], rfl, ⟨⟨_, rfl, rfl⟩, trivial⟩⟩, ⟨[.sc _], rfl, ⟨.inl ⟨_, rfl, rfl⟩, trivial⟩⟩, ⟨[.sc _], rfl, ⟨.inl ⟨_, rfl, rfl⟩, trivial⟩⟩, trivial⟩ rfl (by decide) rfl (gle rfl)) rfl ?_
        refine SV.op (OpL.ok (nb := 3) (ok_field_bp (b := 2) (o' := 0) (off := 3) rfl rfl fld_impl_Broker_3) rfl (gle rfl)) rfl ?_
        refine SV.op (ok_store_bp (b := 2) (i := 3) (m := 1) (ag := false) (zs := [.hd 2]) (ys := [.sc _, .sc _, .hd 0, .hd 2]) rfl rfl rfl rfl sz_s_impl_Client (fun _ => rfl) rfl (gle rfl) rfl rfl rfl) rfl ?_
        refine SV.nil ?_
        refine SV.tn ?_
        refine SV.seq' ?_
        refine SV.region ?_
        refine SV.op (OpL.ok (nb := 3) (ok_load_bp (b := 2) (i := 0) (ag := true) (m := 4) (ys := [.sc _, .sc _, .hd 0, .hd 2]) rfl rfl rfl agg_impl_Broker sz_impl_Broker (fun h => by cases h) rfl rfl (gle rfl)) rfl (gle rfl)) rfl ?_
        refine SV.op (ok_store_bp (b := 1) (i := 0) (m := 4) (ag := true) (zs := [.sc _, .sc _, .hd 0, .hd 2]) (ys := [.sc _, .sc _, .hd 0, .hd 2]) rfl rfl rfl rfl sz_impl_Broker (fun h => by cases h) rfl (gle rfl) rfl rfl rfl) rfl ?_
        refine SV.op (OpL.ok (nb := 3) (ok_move (v := V.one (.sc _)) (.inr rfl) rfl) rfl (gle rfl)) rfl ?_
        refine SV.nil ?_
        refine SV.tn ?_
        refine SV.ret ?_
        refine SV.tr ?_
        apply SV.done (hf := Try.results27) (ht := rfl) (he := .inl rfl)
        case hr => exact (ResAll.cons (ResOk.cell (b := 1) (ag := true) (xs := [.sc _, .sc _, .hd 0, .hd 2]) rfl rfl agg_impl_Broker sz_impl_Broker (fun h => by cases h)) (ResAll.cons (ResOk.tmp (ag := false) (xs := [.sc _]) rfl) ResAll.nil'))
        case h2 => simp [two]
        refine ⟨rfl, ⟨?_, ?_, ?_, ?_, trivial⟩, ⟨rfl, ⟨?_, trivial⟩, trivial⟩⟩ <;> first | rfl | (rw [ho]; rfl) | ((show some (T.seq _ _) = some (T.seq _ _); refine congrArg (fun z => some (T.seq _ z)) ?_; rw [ho]; first | done | rfl | (simp [tClient]; done) | (simp [List.map_set, tClient]; done))) | ((show some (T.lit (Value.int .i64 _)) = some (T.lit (Value.int .i64 _)); refine congrArg (fun z => some (T.lit (Value.int .i64 z))) ?_; rw [ho]; first | done | rfl)) | ((show some (T.lit (Value.bool _)) = some (T.lit (Value.bool _)); refine congrArg (fun z => some (T.lit (Value.bool z))) ?_; rw [ho]; first | done | rfl | (simp; done)))
      · skip   -- c2.F
        have hnw := BrokerD.at_neg hkw (by simp at hc2; omega)
        have ho := BrokerD.removed_none hnw hna
        refine SV.skip ?_
        refine SV.tn ?_
        refine SV.seq' ?_
        refine SV.region ?_
        refine SV.op (OpL.ok (nb := 3) (ok_load_bp (b := 2) (i := 0) (ag := true) (m := 4) (ys := [.sc _, .sc _, .hd 0, .hd 1]) rfl rfl rfl agg_impl_Broker sz_impl_Broker (fun h => by cases h) rfl rfl (gle rfl)) rfl (gle rfl)) rfl ?_
        refine SV.op (ok_store_bp (b := 1) (i := 0) (m := 4) (ag := true) (zs := [.sc _, .sc _, .hd 0, .hd 1]) (ys := [.sc _, .sc _, .hd 0, .hd 1]) rfl rfl rfl rfl sz_impl_Broker (fun h => by cases h) rfl (gle rfl) rfl rfl rfl) rfl ?_
        refine SV.op (OpL.ok (nb := 3) (ok_move (v := V.one (.sc _)) (.inr rfl) rfl) rfl (gle rfl)) rfl ?_
        refine SV.nil ?_
        refine SV.tn ?_
        refine SV.ret ?_
        apply SV.done (hf := Try.results27) (ht := rfl) (he := .inl rfl)
        case hr => exact (ResAll.cons (ResOk.cell (b := 1) (ag := true) (xs := [.sc _, .sc _, .hd 0, .hd 1]) rfl rfl agg_impl_Broker sz_impl_Broker (fun h => by cases h)) (ResAll.cons (ResOk.tmp (ag := false) (xs := [.sc _]) rfl) ResAll.nil'))
        case h2 => simp [two]
        refine ⟨rfl, ⟨?_, ?_, ?_, ?_, trivial⟩, ⟨rfl, ⟨?_, trivial⟩, trivial⟩⟩ <;> first | rfl | (rw [ho]; rfl) | ((show some (T.seq _ _) = some (T.seq _ _); refine congrArg (fun z => some (T.seq _ z)) ?_; rw [ho]; first | done | rfl | (simp [tClient]; done) | (simp [List.map_set, tClient]; done))) | ((show some (T.lit (Value.int .i64 _)) = some (T.lit (Value.int .i64 _)); refine congrArg (fun z => some (T.lit (Value.int .i64 z))) ?_; rw [ho]; first | done | rfl)) | ((show some (T.lit (Value.bool _)) = some (T.lit (Value.bool _)); refine congrArg (fun z => some (T.lit (Value.bool z))) ?_; rw [ho]; first | done | rfl | (simp; done)))
end Go.Proofs.Ytfghhjcfmmhacaa
/- States told by trees: headers of the call's own slices as values with names, and back. -/
namespace Go.Proofs.Ytfghhjcfmmhacaa.V
open Go Go.RowKit
set_option linter.unusedVariables false
variable {E : Env} {N : Nat} {σ : VS} {K : Act → World → Prop}
theorem SV.nameAll {m : Nat} (hm : σ.nx = m) (k : ∀ L : Nat → Value, SV { E with lv := L, nl := m } N σ K) : SV E N σ K := fun a w G h => by
  subst hm
  exact k G.vl a w _ (h.name G.vl fun _ _ => rfl)
theorem SV.hdsc {d p : Nat} (hs : σ.tm d = V.one (.hd p)) (hl : p < E.nl) (hN : d < N) (k : SV E N (σ.put d (V.one (.sc (E.lv p)))) K) : SV E N σ K := fun a w G h => by
  have h1 := h.tmps d
  rw [hs, vone] at h1
  have h2 : a.tmps.getD d undef = G.vl p := h1.1.2
  have h3 := h.lent.2.1 p hl
  have h4 : (a.tmps.getD d undef).oneCell' = true := by
    rcases h1.2 with h | h
    · cases h
    · exact h
  exact k a w G (h.reput hN (vone.2 ⟨h2.trans h3, .inr h4⟩))
theorem SV.schd {d p : Nat} {u : Value} (hs : σ.tm d = V.one (.sc u)) (hu : u = E.lv p) (hl : p < E.nl) (hN : d < N) (k : SV E N (σ.put d (V.one (.hd p))) K) : SV E N σ K := fun a w G h => by
  have h1 := h.tmps d
  rw [hs, vone] at h1
  have h2 : a.tmps.getD d undef = u := h1.1
  have h3 := h.lent.2.1 p hl
  have h4 : (a.tmps.getD d undef).oneCell' = true := by
    rcases h1.2 with h | h
    · cases h
    · exact h
  exact k a w G (h.reput hN (vone.2 ⟨⟨Nat.lt_of_lt_of_le hl h.lent.1, by rw [h2, hu, h3]⟩, .inr h4⟩))
end Go.Proofs.Ytfghhjcfmmhacaa.V
/- The program's SetRequest: told by trees. -/
namespace Go.Proofs.Ytfghhjcfmmhacaa
open Go Go.RowKit V
set_option linter.unusedVariables false
set_option maxRecDepth 100000 in
set_option maxHeartbeats 2000000 in
theorem vreq_i (b : BrokerD) (id w : Int) (hA : b.fActive.length ≤ 1000000000) (hW : b.fWaiting.length ≤ 1000000000) : VC Try.prog 30 [(true, tBroker b), (false, [.lit (.int .i64 (id))]), (false, [.lit (.int .i64 (w))])] true [(true, tBroker (BrokerD.setReq b id w)), (false, [.lit (.bool (BrokerD.canReq b id w))])] := by
  refine VC.enter Try.func30 rfl Try.ntmps30 (gle rfl) fun E hE => ?_
  refine SV.seq' ?_
  refine SV.region ?_
  refine SV.op (OpMk.ok (ok_box (kk := 0) (ag := true) (xs := [.sc _, .sc _, .ro _, .ro _]) rfl rfl rfl (fun h => by cases h) rfl rfl (gle rfl))) rfl ?_
  refine SV.op (OpMk.ok (ok_alloc (kk := 1) (xs := [.sc _, .sc _, .nl _, .nl _]) rfl rfl zero_impl_Broker ⟨rfl, rfl, rfl, rfl, rfl, ⟨3, by decide, sz_impl_Client⟩, rfl, ⟨3, by decide, sz_impl_Client⟩, trivial⟩ rfl (gle rfl))) rfl ?_
  refine SV.op (OpL.ok (nb := 2) (ok_move (v := V.one (.sc _)) (.inr rfl) rfl) rfl (gle rfl)) rfl ?_
  refine SV.nil ?_
  refine SV.tn ?_
  refine SV.seq' ?_
  refine SV.region ?_
  refine SV.op (OpL.ok (nb := 2) (ok_load_bp (b := 0) (i := 0) (ag := true) (m := 4) (ys := [.sc _, .sc _, .ro _, .ro _]) rfl rfl rfl agg_impl_Broker sz_impl_Broker (fun h => by cases h) rfl rfl (gle rfl)) rfl (gle rfl)) rfl ?_
  refine SV.op (OpMk.ok (ok_call (ls := [(true, [.sc _, .sc _, .hd 0, .hd 1])]) rfl rfl ⟨_, _, Try.func60, rfl, by decide⟩ (vcloneb_i b (by omega) (by omega)) ⟨⟨[.sc _, .sc _, .ro _, .ro _], rfl, ⟨rfl, rfl, rfl, rfl, trivial⟩⟩, trivial⟩ rfl (gle rfl))) rfl ?_
  refine SV.op (OpMk.ok (ok_alloc (kk := 2) (xs := [.sc _, .sc _, .nl _, .nl _]) rfl rfl zero_impl_Broker ⟨rfl, rfl, rfl, rfl, rfl, ⟨3, by decide, sz_impl_Client⟩, rfl, ⟨3, by decide, sz_impl_Client⟩, trivial⟩ rfl (gle rfl))) rfl ?_
  refine SV.op (ok_store_bp (b := 2) (i := 0) (m := 4) (ag := true) (zs := [.sc _, .sc _, .hd 0, .hd 1]) (ys := [.sc _, .sc _, .hd 0, .hd 1]) rfl rfl rfl rfl sz_impl_Broker (fun h => by cases h) rfl (gle rfl) rfl rfl rfl) rfl ?_
  refine SV.nil ?_
  refine SV.tn ?_
  refine SV.seq' ?_
  refine SV.seq' ?_
  refine SV.region ?_
  refine SV.op (OpL.ok (nb := 3) (ok_load_bp (b := 0) (i := 0) (ag := true) (m := 4) (ys := [.sc _, .sc _, .ro _, .ro _]) rfl rfl rfl agg_impl_Broker sz_impl_Broker (fun h => by cases h) rfl rfl (gle rfl)) rfl (gle rfl)) rfl ?_
  refine SV.op (OpMk.ok (ok_call (ls := [(false, [.sc _])]) rfl rfl ⟨_, _, Try.func19, rfl, by decide⟩ (vokb_i b (by omega) (by omega)) ⟨⟨[.sc _, .sc _, .ro _, .ro _], rfl, ⟨rfl, rfl, rfl, rfl, trivial⟩⟩, trivial⟩ rfl (gle rfl))) rfl ?_
  refine SV.op (OpL.ok (nb := 3) (ok_s1 (x := .tmp 15) (VScal.one rfl) (fun ρ h1 w => by go_simp; (try go_bits); with_reducible rfl) rfl) rfl (gle rfl)) rfl ?_
  refine SV.op (OpL.ok (nb := 3) (ok_move (v := V.one (.sc _)) (.inl rfl) rfl) rfl (gle rfl)) rfl ?_
  refine SV.split (d := 17) rfl (fun hg0 => ?_) (fun hg0 => ?_)
  · skip   -- g0.T
    refine SV.opN rfl rfl rfl (gle rfl) rfl rfl rfl (gle rfl) ?_
    refine SV.opN rfl rfl rfl (gle rfl) rfl rfl rfl (gle rfl) ?_
    refine SV.opN rfl rfl rfl (gle rfl) rfl rfl rfl (gle rfl) ?_
    refine SV.op (OpL.ok (nb := 3) (ok_pickT (v := V.one (.sc _)) rfl rfl rfl) rfl (gle rfl)) rfl ?_
    refine SV.nil ?_
    refine SV.tn ?_
    refine SV.cond rfl (fun hc0 => ?_) (fun hc0 => ?_)
    · skip   -- c0.T
      have hcan : (BrokerD.ok b && BrokerD.isWant w) = false := by simp at *; simp_all
      obtain ⟨ho, hq⟩ := BrokerD.setReq_no (id := id) hcan
      refine SV.seq' ?_
      refine SV.region ?_
      refine SV.op (OpL.ok (nb := 3) (ok_load_bp (b := 2) (i := 0) (ag := true) (m := 4) (ys := [.sc _, .sc _, .hd 0, .hd 1]) rfl rfl rfl agg_impl_Broker sz_impl_Broker (fun h => by cases h) rfl rfl (gle rfl)) rfl (gle rfl)) rfl ?_
      refine SV.op (ok_store_bp (b := 1) (i := 0) (m := 4) (ag := true) (zs := [.sc _, .sc _, .hd 0, .hd 1]) (ys := [.sc _, .sc _, .hd 0, .hd 1]) rfl rfl rfl rfl sz_impl_Broker (fun h => by cases h) rfl (gle rfl) rfl rfl rfl) rfl ?_
      refine SV.op (OpL.ok (nb := 3) (ok_move (v := V.one (.sc _)) (.inr rfl) rfl) rfl (gle rfl)) rfl ?_
      refine SV.nil ?_
      refine SV.tn ?_
      refine SV.ret ?_
      refine SV.tr ?_
      apply SV.done (hf := Try.results30) (ht := rfl) (he := .inl rfl)
      case hr => exact (ResAll.cons (ResOk.cell (b := 1) (ag := true) (xs := [.sc _, .sc _, .hd 0, .hd 1]) rfl rfl agg_impl_Broker sz_impl_Broker (fun h => by cases h)) (ResAll.cons (ResOk.tmp (ag := false) (xs := [.sc _]) rfl) ResAll.nil'))
      case h2 => simp [two]
      refine ⟨rfl, ⟨?_, ?_, ?_, ?_, trivial⟩, ⟨rfl, ⟨?_, trivial⟩, trivial⟩⟩ <;> first | rfl | (rw [ho, hsa, hsw]; rfl) | ((show some (T.seq _ _) = some (T.seq _ _); refine congrArg (fun z => some (T.seq _ z)) ?_; rw [ho, hsa, hsw]; first | done | rfl | (simp [tClient]; done) | (simp [List.map_set, tClient]; done))) | ((show some (T.lit (Value.int .i64 _)) = some (T.lit (Value.int .i64 _)); refine congrArg (fun z => some (T.lit (Value.int .i64 z))) ?_; rw [ho, hsa, hsw]; first | done | rfl)) | ((show some (T.lit (Value.bool _)) = some (T.lit (Value.bool _)); refine congrArg (fun z => some (T.lit (Value.bool z))) ?_; rw [ho, hsa, hsw]; first | done | rfl | (simp; done))) | (rw [ho]; rfl) | ((show some (T.seq _ _) = some (T.seq _ _); refine congrArg (fun z => some (T.seq _ z)) ?_; rw [ho]; first | done | rfl | (simp [tClient]; done) | (simp [List.map_set, tClient]; done))) | ((show some (T.lit (Value.int .i64 _)) = some (T.lit (Value.int .i64 _)); refine congrArg (fun z => some (T.lit (Value.int .i64 z))) ?_; rw [ho]; first | done | rfl)) | ((show some (T.lit (Value.bool _)) = some (T.lit (Value.bool _)); refine congrArg (fun z => some (T.lit (Value.bool z))) ?_; rw [ho]; first | done | rfl | (simp; done))) | (rw [hq, haa]; rfl) | ((show some (T.seq _ _) = some (T.seq _ _); refine congrArg (fun z => some (T.seq _ z)) ?_; rw [hq, haa]; first | done | rfl | (simp [tClient]; done) | (simp [List.map_set, tClient]; done))) | ((show some (T.lit (Value.int .i64 _)) = some (T.lit (Value.int .i64 _)); refine congrArg (fun z => some (T.lit (Value.int .i64 z))) ?_; rw [hq, haa]; first | done | rfl)) | ((show some (T.lit (Value.bool _)) = some (T.lit (Value.bool _)); refine congrArg (fun z => some (T.lit (Value.bool z))) ?_; rw [hq, haa]; first | done | rfl | (simp; done))) | (rw [hq, hna, haw]; rfl) | ((show some (T.seq _ _) = some (T.seq _ _); refine congrArg (fun z => some (T.seq _ z)) ?_; rw [hq, hna, haw]; first | done | rfl | (simp [tClient]; done) | (simp [List.map_set, tClient]; done))) | ((show some (T.lit (Value.int .i64 _)) = some (T.lit (Value.int .i64 _)); refine congrArg (fun z => some (T.lit (Value.int .i64 z))) ?_; rw [hq, hna, haw]; first | done | rfl)) | ((show some (T.lit (Value.bool _)) = some (T.lit (Value.bool _)); refine congrArg (fun z => some (T.lit (Value.bool z))) ?_; rw [hq, hna, haw]; first | done | rfl | (simp; done))) | (rw [hq, hna, hnw]; rfl) | ((show some (T.seq _ _) = some (T.seq _ _); refine congrArg (fun z => some (T.seq _ z)) ?_; rw [hq, hna, hnw]; first | done | rfl | (simp [tClient]; done) | (simp [List.map_set, tClient]; done))) | ((show some (T.lit (Value.int .i64 _)) = some (T.lit (Value.int .i64 _)); refine congrArg (fun z => some (T.lit (Value.int .i64 z))) ?_; rw [hq, hna, hnw]; first | done | rfl)) | ((show some (T.lit (Value.bool _)) = some (T.lit (Value.bool _)); refine congrArg (fun z => some (T.lit (Value.bool z))) ?_; rw [hq, hna, hnw]; first | done | rfl | (simp; done))) | (rw [hq]; rfl) | ((show some (T.seq _ _) = some (T.seq _ _); refine congrArg (fun z => some (T.seq _ z)) ?_; rw [hq]; first | done | rfl | (simp [tClient]; done) | (simp [List.map_set, tClient]; done))) | ((show some (T.lit (Value.int .i64 _)) = some (T.lit (Value.int .i64 _)); refine congrArg (fun z => some (T.lit (Value.int .i64 z))) ?_; rw [hq]; first | done | rfl)) | ((show some (T.lit (Value.bool _)) = some (T.lit (Value.bool _)); refine congrArg (fun z => some (T.lit (Value.bool z))) ?_; rw [hq]; first | done | rfl | (simp; done)))
    · skip   -- c0.F
      cases hc0
  · skip   -- g0.F
    refine SV.opY (OpL.ok (nb := 3) (ok_move (v := V.one (.sc _)) (.inl rfl) rfl) rfl (gle rfl)) rfl rfl rfl (gle rfl) rfl rfl ?_
    refine SV.opY (OpMk.ok (ok_call (ls := [(false, [.sc _])]) rfl rfl ⟨_, _, Try.func71, rfl, by decide⟩ (viswant_i w) ⟨⟨[.sc _], rfl, ⟨rfl, trivial⟩⟩, trivial⟩ rfl (gle rfl))) rfl rfl rfl (gle rfl) rfl rfl ?_
    refine SV.opY (OpL.ok (nb := 3) (ok_s1 (x := .tmp 19) (VScal.one rfl) (fun ρ h1 w => by go_simp; (try go_bits); with_reducible rfl) rfl) rfl (gle rfl)) rfl rfl rfl (gle rfl) rfl rfl ?_
    refine SV.op (OpL.ok (nb := 3) (ok_pickF (v := V.one (.sc _)) rfl rfl rfl) rfl (gle rfl)) rfl ?_
    refine SV.nil ?_
    refine SV.tn ?_
    refine SV.cond rfl (fun hc1 => ?_) (fun hc1 => ?_)
    · skip   -- c1.T
      have hcan : (BrokerD.ok b && BrokerD.isWant w) = false := by simp at *; simp_all
      obtain ⟨ho, hq⟩ := BrokerD.setReq_no (id := id) hcan
      refine SV.seq' ?_
      refine SV.region ?_
      refine SV.op (OpL.ok (nb := 3) (ok_load_bp (b := 2) (i := 0) (ag := true) (m := 4) (ys := [.sc _, .sc _, .hd 0, .hd 1]) rfl rfl rfl agg_impl_Broker sz_impl_Broker (fun h => by cases h) rfl rfl (gle rfl)) rfl (gle rfl)) rfl ?_
      refine SV.op (ok_store_bp (b := 1) (i := 0) (m := 4) (ag := true) (zs := [.sc _, .sc _, .hd 0, .hd 1]) (ys := [.sc _, .sc _, .hd 0, .hd 1]) rfl rfl rfl rfl sz_impl_Broker (fun h => by cases h) rfl (gle rfl) rfl rfl rfl) rfl ?_
      refine SV.op (OpL.ok (nb := 3) (ok_move (v := V.one (.sc _)) (.inr rfl) rfl) rfl (gle rfl)) rfl ?_
      refine SV.nil ?_
      refine SV.tn ?_
      refine SV.ret ?_
      refine SV.tr ?_
      apply SV.done (hf := Try.results30) (ht := rfl) (he := .inl rfl)
      case hr => exact (ResAll.cons (ResOk.cell (b := 1) (ag := true) (xs := [.sc _, .sc _, .hd 0, .hd 1]) rfl rfl agg_impl_Broker sz_impl_Broker (fun h => by cases h)) (ResAll.cons (ResOk.tmp (ag := false) (xs := [.sc _]) rfl) ResAll.nil'))
      case h2 => simp [two]
      refine ⟨rfl, ⟨?_, ?_, ?_, ?_, trivial⟩, ⟨rfl, ⟨?_, trivial⟩, trivial⟩⟩ <;> first | rfl | (rw [ho, hsa, hsw]; rfl) | ((show some (T.seq _ _) = some (T.seq _ _); refine congrArg (fun z => some (T.seq _ z)) ?_; rw [ho, hsa, hsw]; first | done | rfl | (simp [tClient]; done) | (simp [List.map_set, tClient]; done))) | ((show some (T.lit (Value.int .i64 _)) = some (T.lit (Value.int .i64 _)); refine congrArg (fun z => some (T.lit (Value.int .i64 z))) ?_; rw [ho, hsa, hsw]; first | done | rfl)) | ((show some (T.lit (Value.bool _)) = some (T.lit (Value.bool _)); refine congrArg (fun z => some (T.lit (Value.bool z))) ?_; rw [ho, hsa, hsw]; first | done | rfl | (simp; done))) | (rw [ho]; rfl) | ((show some (T.seq _ _) = some (T.seq _ _); refine congrArg (fun z => some (T.seq _ z)) ?_; rw [ho]; first | done | rfl | (simp [tClient]; done) | (simp [List.map_set, tClient]; done))) | ((show some (T.lit (Value.int .i64 _)) = some (T.lit (Value.int .i64 _)); refine congrArg (fun z => some (T.lit (Value.int .i64 z))) ?_; rw [ho]; first | done | rfl)) | ((show some (T.lit (Value.bool _)) = some (T.lit (Value.bool _)); refine congrArg (fun z => some (T.lit (Value.bool z))) ?_; rw [ho]; first | done | rfl | (simp; done))) | (rw [hq, haa]; rfl) | ((show some (T.seq _ _) = some (T.seq _ _); refine congrArg (fun z => some (T.seq _ z)) ?_; rw [hq, haa]; first | done | rfl | (simp [tClient]; done) | (simp [List.map_set, tClient]; done))) | ((show some (T.lit (Value.int .i64 _)) = some (T.lit (Value.int .i64 _)); refine congrArg (fun z => some (T.lit (Value.int .i64 z))) ?_; rw [hq, haa]; first | done | rfl)) | ((show some (T.lit (Value.bool _)) = some (T.lit (Value.bool _)); refine congrArg (fun z => some (T.lit (Value.bool z))) ?_; rw [hq, haa]; first | done | rfl | (simp; done))) | (rw [hq, hna, haw]; rfl) | ((show some (T.seq _ _) = some (T.seq _ _); refine congrArg (fun z => some (T.seq _ z)) ?_; rw [hq, hna, haw]; first | done | rfl | (simp [tClient]; done) | (simp [List.map_set, tClient]; done))) | ((show some (T.lit (Value.int .i64 _)) = some (T.lit (Value.int .i64 _)); refine congrArg (fun z => some (T.lit (Value.int .i64 z))) ?_; rw [hq, hna, haw]; first | done | rfl)) | ((show some (T.lit (Value.bool _)) = some (T.lit (Value.bool _)); refine congrArg (fun z => some (T.lit (Value.bool z))) ?_; rw [hq, hna, haw]; first | done | rfl | (simp; done))) | (rw [hq, hna, hnw]; rfl) | ((show some (T.seq _ _) = some (T.seq _ _); refine congrArg (fun z => some (T.seq _ z)) ?_; rw [hq, hna, hnw]; first | done | rfl | (simp [tClient]; done) | (simp [List.map_set, tClient]; done))) | ((show some (T.lit (Value.int .i64 _)) = some (T.lit (Value.int .i64 _)); refine congrArg (fun z => some (T.lit (Value.int .i64 z))) ?_; rw [hq, hna, hnw]; first | done | rfl)) | ((show some (T.lit (Value.bool _)) = some (T.lit (Value.bool _)); refine congrArg (fun z => some (T.lit (Value.bool z))) ?_; rw [hq, hna, hnw]; first | done | rfl | (simp; done))) | (rw [hq]; rfl) | ((show some (T.seq _ _) = some (T.seq _ _); refine congrArg (fun z => some (T.seq _ z)) ?_; rw [hq]; first | done | rfl | (simp [tClient]; done) | (simp [List.map_set, tClient]; done))) | ((show some (T.lit (Value.int .i64 _)) = some (T.lit (Value.int .i64 _)); refine congrArg (fun z => some (T.lit (Value.int .i64 z))) ?_; rw [hq]; first | done | rfl)) | ((show some (T.lit (Value.bool _)) = some (T.lit (Value.bool _)); refine congrArg (fun z => some (T.lit (Value.bool z))) ?_; rw [hq]; first | done | rfl | (simp; done)))
    · skip   -- c1.F
      have hcan : (BrokerD.ok b && BrokerD.isWant w) = true := by simp at *; simp_all
      obtain ⟨ho, hq⟩ := BrokerD.setReq_yes (id := id) hcan
      have hO := BrokerD.Ok.of (Bool.and_eq_true_iff.1 hcan).1
      refine SV.skip ?_
      refine SV.tn ?_
      refine SV.seq' ?_
      refine SV.seq' ?_
      refine SV.nameAll (m := 2) rfl fun L => ?_
      have hE2 : ({ E with lv := L, nl := 2 } : Env).plain 2 := ⟨rfl, hE.2⟩
      refine SV.region ?_
      refine SV.op (OpL.ok (nb := 3) (ok_field_bp (b := 2) (o' := 0) (off := 2) rfl rfl fld_impl_Broker_2) rfl (gle rfl)) rfl ?_
      refine SV.op (OpL.ok (nb := 3) (ok_load_bp (b := 2) (i := 2) (ag := false) (m := 1) (ys := [.hd 0]) rfl rfl rfl agg_s_impl_Client sz_s_impl_Client (fun _ => rfl) rfl rfl (gle rfl)) rfl (gle rfl)) rfl ?_
      refine SV.hdsc (d := 24) (p := 0) rfl (gle rfl) (gle rfl) ?_
      refine SV.op (OpL.ok (nb := 3) (ok_field_bp (b := 2) (o' := 0) (off := 3) rfl rfl fld_impl_Broker_3) rfl (gle rfl)) rfl ?_
      refine SV.op (OpL.ok (nb := 3) (ok_load_bp (b := 2) (i := 3) (ag := false) (m := 1) (ys := [.hd 1]) rfl rfl rfl agg_s_impl_Client sz_s_impl_Client (fun _ => rfl) rfl rfl (gle rfl)) rfl (gle rfl)) rfl ?_
      refine SV.hdsc (d := 26) (p := 1) rfl (gle rfl) (gle rfl) ?_
      refine SV.op (OpMk.ok (ok_litS (kk := 2) (xs := [.tmp 24, .tmp 26]) (us := [_, _]) elt_s_impl_Client rfl rfl rfl rfl (by decide) (by decide) ⟨rfl, rfl, trivial⟩ rfl (gle rfl))) rfl ?_
      refine SV.op (OpL.ok (nb := 3) (ok_len (lf := .hd 2) rfl elt_s_impl_Client.und rfl rfl) rfl (gle rfl)) rfl ?_
      refine SV.op (OpL.ok (nb := 3) (ok_move (v := V.one (.sc _)) (.inl rfl) rfl) rfl (gle rfl)) rfl ?_
      refine SV.nil ?_
      refine SV.tn ?_
      refine SV.block ?_
      refine SV.loopF (X := Nat) (fun (σ : VS) t => ((((((((((((((VS.nil.new (σ.tree 0)).new (σ.tree 1)).new (.seq 24 ([[T.lit (L 0)], [T.lit (L 1)]]))).box 26 [σ.bl 0 0, σ.bl 0 1, σ.bl 0 2, σ.bl 0 3]).box 26 [σ.bl 1 0, σ.bl 1 1, σ.bl 1 2, σ.bl 1 3]).box 26 [σ.bl 2 0, σ.bl 2 1, .hd 0, .hd 1]).put 1 (σ.tm 1)).put 2 (σ.tm 2)).put 6 (V.flat false [.bp 1 0])).put 7 (σ.tm 7)).put 8 (V.flat false [.bp 2 0])).put 27 (V.flat false [.hd 2])).put 28 (σ.tm 28)).put 29 (V.flat false [.sc (.int .i64 ((t : Int)))]))) (fun t => t ≤ 2 ∧ (0 < t → BrokerD.at? b.fActive id = none) ∧ (1 < t → BrokerD.at? b.fWaiting id = none)) (fun t => 2 - t) ?_ ?_
      · skip
        refine SV.again (fun i => [0, 1, 2].getD i 0) 0 (⟨Nat.zero_le _, fun h => absurd h (Nat.lt_irrefl 0), fun h => absurd h (by decide)⟩) (pins hE2 rfl rfl) (VS.le.mk' (le_put (le_put (le_put (le_put (le_put (le_put (le_put (le_put (le_box (le_box (le_box (le_new (le_new (le_new le_nil)))))) (V.le.keep (ag := false) (xs := [.sc _]) (ys := [.sc _]) rfl rfl ⟨rfl, trivial⟩)) (V.le.keep (ag := false) (xs := [.sc _]) (ys := [.sc _]) rfl rfl ⟨rfl, trivial⟩)) (V.le.keep (ag := false) (xs := [.bp 1 0]) (ys := [.bp 1 0]) rfl rfl ⟨⟨rfl, (gle rfl)⟩, trivial⟩)) (V.le.keep (ag := false) (xs := [.sc _]) (ys := [.sc _]) rfl rfl ⟨rfl, trivial⟩)) (V.le.keep (ag := false) (xs := [.bp 2 0]) (ys := [.bp 2 0]) rfl rfl ⟨⟨rfl, (gle rfl)⟩, trivial⟩)) (V.le.keep (ag := false) (xs := [.hd 2]) (ys := [.hd 2]) rfl rfl ⟨⟨rfl, (gle rfl), (gle rfl)⟩, trivial⟩)) (V.le.keep (ag := false) (xs := [.sc _]) (ys := [.sc _]) rfl rfl ⟨rfl, trivial⟩)) (V.le.keep (ag := false) (xs := [.sc _]) (ys := [.sc _]) rfl rfl ⟨(by first | rfl | (show Leaf.sc _ = Leaf.sc _; refine congrArg Leaf.sc ?_; first | rfl | go_num | (simp [cntAll]; done)) | (simp [cntAll]; done) | (simp; omega)), trivial⟩)) ⟨⟨rfl, ⟨rfl, rfl, rfl, rfl, trivial⟩⟩, ⟨⟨rfl, ⟨rfl, rfl, rfl, rfl, trivial⟩⟩, ⟨⟨rfl, ⟨rfl, rfl, ⟨rfl, (gle rfl), (gle rfl)⟩, ⟨rfl, (gle rfl), (gle rfl)⟩, trivial⟩⟩, trivial⟩⟩⟩ ⟨.inr ⟨_, _, rfl, ?ob1_2, (gle rfl)⟩, ⟨.inr ⟨_, _, rfl, rfl, (gle rfl)⟩, ⟨.inr ⟨_, _, rfl, rfl, (gle rfl)⟩, trivial⟩⟩⟩ (new_ob (new_ob (new_ob nil_ob))) (fun i j hi hj e => inj_list (l := [0, 1, 2]) (by decide) i j hi hj e))
        case ob1_2 =>
          show some (T.seq _ _) = some (T.seq _ _)
          rfl
      · rintro t ⟨ht, hnA, hnW⟩
        refine SV.seq' ?_
        refine SV.region ?_
        refine SV.op (OpL.ok (nb := 3) (ok_s2 (x := .tmp 29) (x' := .tmp 28) (VScal.one rfl) (VScal.one rfl) (fun ρ h1 h2 w => by go_simp; (try go_bits); with_reducible rfl) rfl) rfl (gle rfl)) rfl ?_
        refine SV.nil ?_
        refine SV.tn ?_
        refine SV.seq' ?_
        refine SV.cond rfl (fun hc2 => ?_) (fun hc2 => ?_)
        · skip   -- c2.T
          have ht2 : t < 2 := by simp at hc2; omega
          refine SV.skip ?_
          refine SV.tn ?_
          refine SV.seq' ?_
          refine SV.block ?_
          refine SV.seq' ?_
          rcases (show t = 0 ∨ t = 1 by omega) with ht0 | ht0
          · skip
            refine SV.region ?_
            refine SV.op (OpL.ok (nb := 3) (ok_index (n := 1) (lf := .hd 2) rfl elt_s_impl_Client.und sz_s_impl_Client rfl rfl rfl ((show ([[T.lit (L 0)], [T.lit (L 1)]] : List (List T))[t]? = some [T.lit (L 0)] by rw [ht0]; rfl))) rfl (gle rfl)) rfl ?_
            refine SV.op (ok_load_el (p := .ep 2 _ _ _) (ag := false) (m := 1) (ys := [.sc _]) rfl rfl (cells_ep rfl ((show ([[T.lit (L 0)], [T.lit (L 1)]] : List (List T))[t]? = some [T.lit (L 0)] by rw [ht0]; rfl)) rfl rfl) agg_s_impl_Client sz_s_impl_Client (fun _ => rfl) (gle rfl) rfl rfl (gle rfl)) rfl ?_
            refine SV.op (OpL.ok (nb := 3) (ok_move (v := V.one (.sc _)) (.inr rfl) rfl) rfl (gle rfl)) rfl ?_
            refine SV.nil ?_
            refine SV.tn ?_
            refine SV.seq' ?_
            obtain ⟨ka, hka⟩ : ∃ x, BrokerD.atI b.fActive id = x := ⟨_, rfl⟩
            have hva := vatc_i b.fActive id (by omega)
            rw [hka] at hva
            refine SV.region ?_
            refine SV.op (OpL.ok (nb := 3) (ok_move (v := V.one (.sc _)) (.inl rfl) rfl) rfl (gle rfl)) rfl ?_
            refine SV.schd (d := 33) (p := 0) rfl rfl (gle rfl) (gle rfl) ?_
            refine SV.op (OpL.ok (nb := 3) (ok_move (v := V.one (.sc _)) (.inl rfl) rfl) rfl (gle rfl)) rfl ?_
            refine SV.op (OpMk.ok (ok_call (ls := [(false, [.sc _])]) rfl rfl ⟨_, _, Try.func58, rfl, by decide⟩ (hva) ⟨⟨[.hd 0], rfl, ⟨rfl, trivial⟩⟩, ⟨[.sc _], rfl, ⟨rfl, trivial⟩⟩, trivial⟩ rfl (gle rfl))) rfl ?_
            refine SV.op (OpL.ok (nb := 3) (ok_move (v := V.one (.sc _)) (.inr rfl) rfl) rfl (gle rfl)) rfl ?_
            refine SV.nil ?_
            refine SV.tn ?_
            refine SV.seq' ?_
            refine SV.region ?_
            refine SV.op (OpL.ok (nb := 3) (ok_move (v := V.one (.sc _)) (.inl rfl) rfl) rfl (gle rfl)) rfl ?_
            refine SV.op (OpL.ok (nb := 3) (ok_s2 (x := .tmp 36) (x' := .const ((Value.int IntKind.i64 0))) (VScal.one rfl) (VScal.one rfl) (fun ρ h1 h2 w => by go_simp; (try go_bits); with_reducible rfl) rfl) rfl (gle rfl)) rfl ?_
            refine SV.nil ?_
            refine SV.tn ?_
            refine SV.cond rfl (fun hc3 => ?_) (fun hc3 => ?_)
            · skip   -- c3.T
              obtain ⟨ia, rfl, haa⟩ := BrokerD.at_pos hka (by simp at hc3; omega)
              obtain ⟨ca, hxa, hida, hla⟩ := BrokerD.of_at haa
              have hsa := BrokerD.setAt_some (w := w) haa hxa
              have hnw : BrokerD.at? b.fWaiting id = none := BrokerD.at_none fun d hd e => hO.off _ (List.mem_of_getElem? hxa) d hd (hida.trans e.symm)
              have hsw := BrokerD.setAt_none (w := w) hnw
              refine SV.seq' ?_
              refine SV.region ?_
              refine SV.op (OpL.ok (nb := 3) (ok_move (v := V.one (.sc _)) (.inl rfl) rfl) rfl (gle rfl)) rfl ?_
              refine SV.schd (d := 38) (p := 0) rfl rfl (gle rfl) (gle rfl) ?_
              refine SV.op (OpL.ok (nb := 3) (ok_move (v := V.one (.sc _)) (.inl rfl) rfl) rfl (gle rfl)) rfl ?_
              refine SV.op (OpL.ok (nb := 3) (ok_move (v := V.one (.sc _)) (.inl rfl) rfl) rfl (gle rfl)) rfl ?_
              refine SV.op (OpL.ok (nb := 3) (ok_index (n := 3) (lf := .hd 0) rfl elt_impl_Client.und sz_impl_Client rfl rfl rfl (map_at hxa)) rfl (gle rfl)) rfl ?_
              refine SV.op (OpL.ok (nb := 3) (ok_field_el (p := .ep 0 _ _ _) (off := 1) rfl rfl (cells_ep rfl (map_at hxa) rfl rfl) fld_impl_Client_1) rfl (gle rfl)) rfl ?_
              refine SV.op (ok_store_ep (i := 0) (n := 3) (m := 1) (ag := false) (zs := [.sc _]) rfl rfl rfl rfl (map_at hxa) sz_int (fun _ => rfl) rfl sz_impl_Client (gle rfl) (outs_c rfl outs_n) (by simp [two]) rfl rfl rfl) rfl ?_
              refine SV.nil ?_
              refine SV.tn ?_
              refine SV.seq' ?_
              refine SV.unname hE.1 ?_
              refine SV.region ?_
              refine SV.op (OpL.ok (nb := 3) (ok_load_bp (b := 2) (i := 0) (ag := true) (m := 4) (ys := [.sc _, .sc _, .hd 0, .hd 1]) rfl rfl rfl agg_impl_Broker sz_impl_Broker (fun h => by cases h) rfl rfl (gle rfl)) rfl (gle rfl)) rfl ?_
              refine SV.op (ok_store_bp (b := 1) (i := 0) (m := 4) (ag := true) (zs := [.sc _, .sc _, .hd 0, .hd 1]) (ys := [.sc _, .sc _, .hd 0, .hd 1]) rfl rfl rfl rfl sz_impl_Broker (fun h => by cases h) rfl (gle rfl) rfl rfl rfl) rfl ?_
              refine SV.op (OpL.ok (nb := 3) (ok_move (v := V.one (.sc _)) (.inr rfl) rfl) rfl (gle rfl)) rfl ?_
              refine SV.nil ?_
              refine SV.tn ?_
              refine SV.ret ?_
              refine SV.br ?_
              refine SV.tr ?_
              refine SV.tr ?_
              refine SV.br ?_
              refine SV.tr ?_
              apply SV.done (hf := Try.results30) (ht := rfl) (he := .inl rfl)
              case hr => exact (ResAll.cons (ResOk.cell (b := 1) (ag := true) (xs := [.sc _, .sc _, .hd 0, .hd 1]) rfl rfl agg_impl_Broker sz_impl_Broker (fun h => by cases h)) (ResAll.cons (ResOk.tmp (ag := false) (xs := [.sc _]) rfl) ResAll.nil'))
              case h2 => simp [two]
              refine ⟨rfl, ⟨?_, ?_, ?_, ?_, trivial⟩, ⟨rfl, ⟨?_, trivial⟩, trivial⟩⟩ <;> first | rfl | (rw [ho, hsa, hsw]; rfl) | ((show some (T.seq _ _) = some (T.seq _ _); refine congrArg (fun z => some (T.seq _ z)) ?_; rw [ho, hsa, hsw]; first | done | rfl | (simp [tClient]; done) | (simp [List.map_set, tClient]; done))) | ((show some (T.lit (Value.int .i64 _)) = some (T.lit (Value.int .i64 _)); refine congrArg (fun z => some (T.lit (Value.int .i64 z))) ?_; rw [ho, hsa, hsw]; first | done | rfl)) | ((show some (T.lit (Value.bool _)) = some (T.lit (Value.bool _)); refine congrArg (fun z => some (T.lit (Value.bool z))) ?_; rw [ho, hsa, hsw]; first | done | rfl | (simp; done))) | (rw [ho]; rfl) | ((show some (T.seq _ _) = some (T.seq _ _); refine congrArg (fun z => some (T.seq _ z)) ?_; rw [ho]; first | done | rfl | (simp [tClient]; done) | (simp [List.map_set, tClient]; done))) | ((show some (T.lit (Value.int .i64 _)) = some (T.lit (Value.int .i64 _)); refine congrArg (fun z => some (T.lit (Value.int .i64 z))) ?_; rw [ho]; first | done | rfl)) | ((show some (T.lit (Value.bool _)) = some (T.lit (Value.bool _)); refine congrArg (fun z => some (T.lit (Value.bool z))) ?_; rw [ho]; first | done | rfl | (simp; done))) | (rw [hq, haa]; rfl) | ((show some (T.seq _ _) = some (T.seq _ _); refine congrArg (fun z => some (T.seq _ z)) ?_; rw [hq, haa]; first | done | rfl | (simp [tClient]; done) | (simp [List.map_set, tClient]; done))) | ((show some (T.lit (Value.int .i64 _)) = some (T.lit (Value.int .i64 _)); refine congrArg (fun z => some (T.lit (Value.int .i64 z))) ?_; rw [hq, haa]; first | done | rfl)) | ((show some (T.lit (Value.bool _)) = some (T.lit (Value.bool _)); refine congrArg (fun z => some (T.lit (Value.bool z))) ?_; rw [hq, haa]; first | done | rfl | (simp; done))) | (rw [hq, hna, haw]; rfl) | ((show some (T.seq _ _) = some (T.seq _ _); refine congrArg (fun z => some (T.seq _ z)) ?_; rw [hq, hna, haw]; first | done | rfl | (simp [tClient]; done) | (simp [List.map_set, tClient]; done))) | ((show some (T.lit (Value.int .i64 _)) = some (T.lit (Value.int .i64 _)); refine congrArg (fun z => some (T.lit (Value.int .i64 z))) ?_; rw [hq, hna, haw]; first | done | rfl)) | ((show some (T.lit (Value.bool _)) = some (T.lit (Value.bool _)); refine congrArg (fun z => some (T.lit (Value.bool z))) ?_; rw [hq, hna, haw]; first | done | rfl | (simp; done))) | (rw [hq, hna, hnw]; rfl) | ((show some (T.seq _ _) = some (T.seq _ _); refine congrArg (fun z => some (T.seq _ z)) ?_; rw [hq, hna, hnw]; first | done | rfl | (simp [tClient]; done) | (simp [List.map_set, tClient]; done))) | ((show some (T.lit (Value.int .i64 _)) = some (T.lit (Value.int .i64 _)); refine congrArg (fun z => some (T.lit (Value.int .i64 z))) ?_; rw [hq, hna, hnw]; first | done | rfl)) | ((show some (T.lit (Value.bool _)) = some (T.lit (Value.bool _)); refine congrArg (fun z => some (T.lit (Value.bool z))) ?_; rw [hq, hna, hnw]; first | done | rfl | (simp; done))) | (rw [hq]; rfl) | ((show some (T.seq _ _) = some (T.seq _ _); refine congrArg (fun z => some (T.seq _ z)) ?_; rw [hq]; first | done | rfl | (simp [tClient]; done) | (simp [List.map_set, tClient]; done))) | ((show some (T.lit (Value.int .i64 _)) = some (T.lit (Value.int .i64 _)); refine congrArg (fun z => some (T.lit (Value.int .i64 z))) ?_; rw [hq]; first | done | rfl)) | ((show some (T.lit (Value.bool _)) = some (T.lit (Value.bool _)); refine congrArg (fun z => some (T.lit (Value.bool z))) ?_; rw [hq]; first | done | rfl | (simp; done)))
            · skip   -- c3.F
              have hna := BrokerD.at_neg hka (by simp at hc3; omega)
              refine SV.skip ?_
              refine SV.bn ?_
              refine SV.tn ?_
              refine SV.region ?_
              refine SV.op (OpL.ok (nb := 3) (ok_s2 (x := .tmp 29) (x' := .const ((Value.int IntKind.i64 1))) (VScal.one rfl) (VScal.one rfl) (fun ρ h1 h2 w => by go_simp; (try go_bits); with_reducible rfl) rfl) rfl (gle rfl)) rfl ?_
              refine SV.op (OpL.ok (nb := 3) (ok_move (v := V.one (.sc _)) (.inl rfl) rfl) rfl (gle rfl)) rfl ?_
              refine SV.nil ?_
              refine SV.tn ?_
              refine SV.again (fun i => [0, 1, 2].getD i 0) (t + 1) (⟨⟨by omega, fun _ => by first | exact hna | exact hnA (by omega), fun h => by first | (exfalso; omega) | exact hnw⟩, by omega⟩) (pins hE2 rfl rfl) (VS.le.mk' (le_put (le_put (le_put (le_put (le_put (le_put (le_put (le_put (le_box (le_box (le_box (le_new (le_new (le_new le_nil)))))) (V.le.keep (ag := false) (xs := [.sc _]) (ys := [.sc _]) rfl rfl ⟨rfl, trivial⟩)) (V.le.keep (ag := false) (xs := [.sc _]) (ys := [.sc _]) rfl rfl ⟨rfl, trivial⟩)) (V.le.keep (ag := false) (xs := [.bp 1 0]) (ys := [.bp 1 0]) rfl rfl ⟨⟨rfl, (gle rfl)⟩, trivial⟩)) (V.le.keep (ag := false) (xs := [.sc _]) (ys := [.sc _]) rfl rfl ⟨rfl, trivial⟩)) (V.le.keep (ag := false) (xs := [.bp 2 0]) (ys := [.bp 2 0]) rfl rfl ⟨⟨rfl, (gle rfl)⟩, trivial⟩)) (V.le.keep (ag := false) (xs := [.hd 2]) (ys := [.hd 2]) rfl rfl ⟨⟨rfl, (gle rfl), (gle rfl)⟩, trivial⟩)) (V.le.keep (ag := false) (xs := [.sc _]) (ys := [.sc _]) rfl rfl ⟨rfl, trivial⟩)) (V.le.keep (ag := false) (xs := [.sc _]) (ys := [.sc _]) rfl rfl ⟨(by first | rfl | (show Leaf.sc _ = Leaf.sc _; refine congrArg Leaf.sc ?_; first | rfl | go_num | (simp [cntAll]; done)) | (simp [cntAll]; done) | (simp; omega)), trivial⟩)) ⟨⟨rfl, ⟨rfl, rfl, rfl, rfl, trivial⟩⟩, ⟨⟨rfl, ⟨rfl, rfl, rfl, rfl, trivial⟩⟩, ⟨⟨rfl, ⟨rfl, rfl, ⟨rfl, (gle rfl), (gle rfl)⟩, ⟨rfl, (gle rfl), (gle rfl)⟩, trivial⟩⟩, trivial⟩⟩⟩ ⟨.inr ⟨_, _, rfl, ?ob2_2, (gle rfl)⟩, ⟨.inr ⟨_, _, rfl, rfl, (gle rfl)⟩, ⟨.inr ⟨_, _, rfl, rfl, (gle rfl)⟩, trivial⟩⟩⟩ (new_ob (new_ob (new_ob nil_ob))) (fun i j hi hj e => inj_list (l := [0, 1, 2]) (by decide) i j hi hj e))
              case ob2_2 =>
                show some (T.seq _ _) = some (T.seq _ _)
                rfl
          · skip
            refine SV.region ?_
            refine SV.op (OpL.ok (nb := 3) (ok_index (n := 1) (lf := .hd 2) rfl elt_s_impl_Client.und sz_s_impl_Client rfl rfl rfl ((show ([[T.lit (L 0)], [T.lit (L 1)]] : List (List T))[t]? = some [T.lit (L 1)] by rw [ht0]; rfl))) rfl (gle rfl)) rfl ?_
            refine SV.op (ok_load_el (p := .ep 2 _ _ _) (ag := false) (m := 1) (ys := [.sc _]) rfl rfl (cells_ep rfl ((show ([[T.lit (L 0)], [T.lit (L 1)]] : List (List T))[t]? = some [T.lit (L 1)] by rw [ht0]; rfl)) rfl rfl) agg_s_impl_Client sz_s_impl_Client (fun _ => rfl) (gle rfl) rfl rfl (gle rfl)) rfl ?_
            refine SV.op (OpL.ok (nb := 3) (ok_move (v := V.one (.sc _)) (.inr rfl) rfl) rfl (gle rfl)) rfl ?_
            refine SV.nil ?_
            refine SV.tn ?_
            refine SV.seq' ?_
            obtain ⟨kw, hkw⟩ : ∃ x, BrokerD.atI b.fWaiting id = x := ⟨_, rfl⟩
            have hvw := vatc_i b.fWaiting id (by omega)
            rw [hkw] at hvw
            refine SV.region ?_
            refine SV.op (OpL.ok (nb := 3) (ok_move (v := V.one (.sc _)) (.inl rfl) rfl) rfl (gle rfl)) rfl ?_
            refine SV.schd (d := 33) (p := 1) rfl rfl (gle rfl) (gle rfl) ?_
            refine SV.op (OpL.ok (nb := 3) (ok_move (v := V.one (.sc _)) (.inl rfl) rfl) rfl (gle rfl)) rfl ?_
            refine SV.op (OpMk.ok (ok_call (ls := [(false, [.sc _])]) rfl rfl ⟨_, _, Try.func58, rfl, by decide⟩ (hvw) ⟨⟨[.hd 1], rfl, ⟨rfl, trivial⟩⟩, ⟨[.sc _], rfl, ⟨rfl, trivial⟩⟩, trivial⟩ rfl (gle rfl))) rfl ?_
            refine SV.op (OpL.ok (nb := 3) (ok_move (v := V.one (.sc _)) (.inr rfl) rfl) rfl (gle rfl)) rfl ?_
            refine SV.nil ?_
            refine SV.tn ?_
            refine SV.seq' ?_
            refine SV.region ?_
            refine SV.op (OpL.ok (nb := 3) (ok_move (v := V.one (.sc _)) (.inl rfl) rfl) rfl (gle rfl)) rfl ?_
            refine SV.op (OpL.ok (nb := 3) (ok_s2 (x := .tmp 36) (x' := .const ((Value.int IntKind.i64 0))) (VScal.one rfl) (VScal.one rfl) (fun ρ h1 h2 w => by go_simp; (try go_bits); with_reducible rfl) rfl) rfl (gle rfl)) rfl ?_
            refine SV.nil ?_
            refine SV.tn ?_
            refine SV.cond rfl (fun hc4 => ?_) (fun hc4 => ?_)
            · skip   -- c4.T
              have hna := hnA (by omega)
              obtain ⟨iw, rfl, haw⟩ := BrokerD.at_pos hkw (by simp at hc4; omega)
              obtain ⟨cw, hxw, hidw, hlw⟩ := BrokerD.of_at haw
              have hsw := BrokerD.setAt_some (w := w) haw hxw
              have hsa := BrokerD.setAt_none (w := w) hna
              refine SV.seq' ?_
              refine SV.region ?_
              refine SV.op (OpL.ok (nb := 3) (ok_move (v := V.one (.sc _)) (.inl rfl) rfl) rfl (gle rfl)) rfl ?_
              refine SV.schd (d := 38) (p := 1) rfl rfl (gle rfl) (gle rfl) ?_
              refine SV.op (OpL.ok (nb := 3) (ok_move (v := V.one (.sc _)) (.inl rfl) rfl) rfl (gle rfl)) rfl ?_
              refine SV.op (OpL.ok (nb := 3) (ok_move (v := V.one (.sc _)) (.inl rfl) rfl) rfl (gle rfl)) rfl ?_
              refine SV.op (OpL.ok (nb := 3) (ok_index (n := 3) (lf := .hd 1) rfl elt_impl_Client.und sz_impl_Client rfl rfl rfl (map_at hxw)) rfl (gle rfl)) rfl ?_
              refine SV.op (OpL.ok (nb := 3) (ok_field_el (p := .ep 1 _ _ _) (off := 1) rfl rfl (cells_ep rfl (map_at hxw) rfl rfl) fld_impl_Client_1) rfl (gle rfl)) rfl ?_
              refine SV.op (ok_store_ep (i := 1) (n := 3) (m := 1) (ag := false) (zs := [.sc _]) rfl rfl rfl rfl (map_at hxw) sz_int (fun _ => rfl) rfl sz_impl_Client (gle rfl) (outs_c rfl outs_n) (by simp [two]) rfl rfl rfl) rfl ?_
              refine SV.nil ?_
              refine SV.tn ?_
              refine SV.seq' ?_
              refine SV.unname hE.1 ?_
              refine SV.region ?_
              refine SV.op (OpL.ok (nb := 3) (ok_load_bp (b := 2) (i := 0) (ag := true) (m := 4) (ys := [.sc _, .sc _, .hd 0, .hd 1]) rfl rfl rfl agg_impl_Broker sz_impl_Broker (fun h => by cases h) rfl rfl (gle rfl)) rfl (gle rfl)) rfl ?_
              refine SV.op (ok_store_bp (b := 1) (i := 0) (m := 4) (ag := true) (zs := [.sc _, .sc _, .hd 0, .hd 1]) (ys := [.sc _, .sc _, .hd 0, .hd 1]) rfl rfl rfl rfl sz_impl_Broker (fun h => by cases h) rfl (gle rfl) rfl rfl rfl) rfl ?_
              refine SV.op (OpL.ok (nb := 3) (ok_move (v := V.one (.sc _)) (.inr rfl) rfl) rfl (gle rfl)) rfl ?_
              refine SV.nil ?_
              refine SV.tn ?_
              refine SV.ret ?_
              refine SV.br ?_
              refine SV.tr ?_
              refine SV.tr ?_
              refine SV.br ?_
              refine SV.tr ?_
              apply SV.done (hf := Try.results30) (ht := rfl) (he := .inl rfl)
              case hr => exact (ResAll.cons (ResOk.cell (b := 1) (ag := true) (xs := [.sc _, .sc _, .hd 0, .hd 1]) rfl rfl agg_impl_Broker sz_impl_Broker (fun h => by cases h)) (ResAll.cons (ResOk.tmp (ag := false) (xs := [.sc _]) rfl) ResAll.nil'))
              case h2 => simp [two]
              refine ⟨rfl, ⟨?_, ?_, ?_, ?_, trivial⟩, ⟨rfl, ⟨?_, trivial⟩, trivial⟩⟩ <;> first | rfl | (rw [ho, hsa, hsw]; rfl) | ((show some (T.seq _ _) = some (T.seq _ _); refine congrArg (fun z => some (T.seq _ z)) ?_; rw [ho, hsa, hsw]; first | done | rfl | (simp [tClient]; done) | (simp [List.map_set, tClient]; done))) | ((show some (T.lit (Value.int .i64 _)) = some (T.lit (Value.int .i64 _)); refine congrArg (fun z => some (T.lit (Value.int .i64 z))) ?_; rw [ho, hsa, hsw]; first | done | rfl)) | ((show some (T.lit (Value.bool _)) = some (T.lit (Value.bool _)); refine congrArg (fun z => some (T.lit (Value.bool z))) ?_; rw [ho, hsa, hsw]; first | done | rfl | (simp; done))) | (rw [ho]; rfl) | ((show some (T.seq _ _) = some (T.seq _ _); refine congrArg (fun z => some (T.seq _ z)) ?_; rw [ho]; first | done | rfl | (simp [tClient]; done) | (simp [List.map_set, tClient]; done))) | ((show some (T.lit (Value.int .i64 _)) = some (T.lit (Value.int .i64 _)); refine congrArg (fun z => some (T.lit (Value.int .i64 z))) ?_; rw [ho]; first | done | rfl)) | ((show some (T.lit (Value.bool _)) = some (T.lit (Value.bool _)); refine congrArg (fun z => some (T.lit (Value.bool z))) ?_; rw [ho]; first | done | rfl | (simp; done))) | (rw [hq, haa]; rfl) | ((show some (T.seq _ _) = some (T.seq _ _); refine congrArg (fun z => some (T.seq _ z)) ?_; rw [hq, haa]; first | done | rfl | (simp [tClient]; done) | (simp [List.map_set, tClient]; done))) | ((show some (T.lit (Value.int .i64 _)) = some (T.lit (Value.int .i64 _)); refine congrArg (fun z => some (T.lit (Value.int .i64 z))) ?_; rw [hq, haa]; first | done | rfl)) | ((show some (T.lit (Value.bool _)) = some (T.lit (Value.bool _)); refine congrArg (fun z => some (T.lit (Value.bool z))) ?_; rw [hq, haa]; first | done | rfl | (simp; done))) | (rw [hq, hna, haw]; rfl) | ((show some (T.seq _ _) = some (T.seq _ _); refine congrArg (fun z => some (T.seq _ z)) ?_; rw [hq, hna, haw]; first | done | rfl | (simp [tClient]; done) | (simp [List.map_set, tClient]; done))) | ((show some (T.lit (Value.int .i64 _)) = some (T.lit (Value.int .i64 _)); refine congrArg (fun z => some (T.lit (Value.int .i64 z))) ?_; rw [hq, hna, haw]; first | done | rfl)) | ((show some (T.lit (Value.bool _)) = some (T.lit (Value.bool _)); refine congrArg (fun z => some (T.lit (Value.bool z))) ?_; rw [hq, hna, haw]; first | done | rfl | (simp; done))) | (rw [hq, hna, hnw]; rfl) | ((show some (T.seq _ _) = some (T.seq _ _); refine congrArg (fun z => some (T.seq _ z)) ?_; rw [hq, hna, hnw]; first | done | rfl | (simp [tClient]; done) | (simp [List.map_set, tClient]; done))) | ((show some (T.lit (Value.int .i64 _)) = some (T.lit (Value.int .i64 _)); refine congrArg (fun z => some (T.lit (Value.int .i64 z))) ?_; rw [hq, hna, hnw]; first | done | rfl)) | ((show some (T.lit (Value.bool _)) = some (T.lit (Value.bool _)); refine congrArg (fun z => some (T.lit (Value.bool z))) ?_; rw [hq, hna, hnw]; first | done | rfl | (simp; done))) | (rw [hq]; rfl) | ((show some (T.seq _ _) = some (T.seq _ _); refine congrArg (fun z => some (T.seq _ z)) ?_; rw [hq]; first | done | rfl | (simp [tClient]; done) | (simp [List.map_set, tClient]; done))) | ((show some (T.lit (Value.int .i64 _)) = some (T.lit (Value.int .i64 _)); refine congrArg (fun z => some (T.lit (Value.int .i64 z))) ?_; rw [hq]; first | done | rfl)) | ((show some (T.lit (Value.bool _)) = some (T.lit (Value.bool _)); refine congrArg (fun z => some (T.lit (Value.bool z))) ?_; rw [hq]; first | done | rfl | (simp; done)))
            · skip   -- c4.F
              have hnw := BrokerD.at_neg hkw (by simp at hc4; omega)
              refine SV.skip ?_
              refine SV.bn ?_
              refine SV.tn ?_
              refine SV.region ?_
              refine SV.op (OpL.ok (nb := 3) (ok_s2 (x := .tmp 29) (x' := .const ((Value.int IntKind.i64 1))) (VScal.one rfl) (VScal.one rfl) (fun ρ h1 h2 w => by go_simp; (try go_bits); with_reducible rfl) rfl) rfl (gle rfl)) rfl ?_
              refine SV.op (OpL.ok (nb := 3) (ok_move (v := V.one (.sc _)) (.inl rfl) rfl) rfl (gle rfl)) rfl ?_
              refine SV.nil ?_
              refine SV.tn ?_
              refine SV.again (fun i => [0, 1, 2].getD i 0) (t + 1) (⟨⟨by omega, fun _ => by first | exact hna | exact hnA (by omega), fun h => by first | (exfalso; omega) | exact hnw⟩, by omega⟩) (pins hE2 rfl rfl) (VS.le.mk' (le_put (le_put (le_put (le_put (le_put (le_put (le_put (le_put (le_box (le_box (le_box (le_new (le_new (le_new le_nil)))))) (V.le.keep (ag := false) (xs := [.sc _]) (ys := [.sc _]) rfl rfl ⟨rfl, trivial⟩)) (V.le.keep (ag := false) (xs := [.sc _]) (ys := [.sc _]) rfl rfl ⟨rfl, trivial⟩)) (V.le.keep (ag := false) (xs := [.bp 1 0]) (ys := [.bp 1 0]) rfl rfl ⟨⟨rfl, (gle rfl)⟩, trivial⟩)) (V.le.keep (ag := false) (xs := [.sc _]) (ys := [.sc _]) rfl rfl ⟨rfl, trivial⟩)) (V.le.keep (ag := false) (xs := [.bp 2 0]) (ys := [.bp 2 0]) rfl rfl ⟨⟨rfl, (gle rfl)⟩, trivial⟩)) (V.le.keep (ag := false) (xs := [.hd 2]) (ys := [.hd 2]) rfl rfl ⟨⟨rfl, (gle rfl), (gle rfl)⟩, trivial⟩)) (V.le.keep (ag := false) (xs := [.sc _]) (ys := [.sc _]) rfl rfl ⟨rfl, trivial⟩)) (V.le.keep (ag := false) (xs := [.sc _]) (ys := [.sc _]) rfl rfl ⟨(by first | rfl | (show Leaf.sc _ = Leaf.sc _; refine congrArg Leaf.sc ?_; first | rfl | go_num | (simp [cntAll]; done)) | (simp [cntAll]; done) | (simp; omega)), trivial⟩)) ⟨⟨rfl, ⟨rfl, rfl, rfl, rfl, trivial⟩⟩, ⟨⟨rfl, ⟨rfl, rfl, rfl, rfl, trivial⟩⟩, ⟨⟨rfl, ⟨rfl, rfl, ⟨rfl, (gle rfl), (gle rfl)⟩, ⟨rfl, (gle rfl), (gle rfl)⟩, trivial⟩⟩, trivial⟩⟩⟩ ⟨.inr ⟨_, _, rfl, ?ob3_2, (gle rfl)⟩, ⟨.inr ⟨_, _, rfl, rfl, (gle rfl)⟩, ⟨.inr ⟨_, _, rfl, rfl, (gle rfl)⟩, trivial⟩⟩⟩ (new_ob (new_ob (new_ob nil_ob))) (fun i j hi hj e => inj_list (l := [0, 1, 2]) (by decide) i j hi hj e))
              case ob3_2 =>
                show some (T.seq _ _) = some (T.seq _ _)
                rfl
        · skip   -- c2.F
          have hte : t = 2 := by simp at hc2; omega
          have hna := hnA (by omega)
          have hnw := hnW (by omega)
          have hsa := BrokerD.setAt_none (w := w) hna
          have hsw := BrokerD.setAt_none (w := w) hnw
          refine SV.exit ?_
          refine SV.te ?_
          refine SV.te ?_
          refine SV.bh ?_
          refine SV.tn ?_
          refine SV.seq' ?_
          refine SV.unname hE.1 ?_
          refine SV.region ?_
          refine SV.op (OpL.ok (nb := 3) (ok_load_bp (b := 2) (i := 0) (ag := true) (m := 4) (ys := [.sc _, .sc _, .hd 0, .hd 1]) rfl rfl rfl agg_impl_Broker sz_impl_Broker (fun h => by cases h) rfl rfl (gle rfl)) rfl (gle rfl)) rfl ?_
          refine SV.op (ok_store_bp (b := 1) (i := 0) (m := 4) (ag := true) (zs := [.sc _, .sc _, .hd 0, .hd 1]) (ys := [.sc _, .sc _, .hd 0, .hd 1]) rfl rfl rfl rfl sz_impl_Broker (fun h => by cases h) rfl (gle rfl) rfl rfl rfl) rfl ?_
          refine SV.op (OpL.ok (nb := 3) (ok_move (v := V.one (.sc _)) (.inr rfl) rfl) rfl (gle rfl)) rfl ?_
          refine SV.nil ?_
          refine SV.tn ?_
          refine SV.ret ?_
          apply SV.done (hf := Try.results30) (ht := rfl) (he := .inl rfl)
          case hr => exact (ResAll.cons (ResOk.cell (b := 1) (ag := true) (xs := [.sc _, .sc _, .hd 0, .hd 1]) rfl rfl agg_impl_Broker sz_impl_Broker (fun h => by cases h)) (ResAll.cons (ResOk.tmp (ag := false) (xs := [.sc _]) rfl) ResAll.nil'))
          case h2 => simp [two]
          refine ⟨rfl, ⟨?_, ?_, ?_, ?_, trivial⟩, ⟨rfl, ⟨?_, trivial⟩, trivial⟩⟩ <;> first | rfl | (rw [ho, hsa, hsw]; rfl) | ((show some (T.seq _ _) = some (T.seq _ _); refine congrArg (fun z => some (T.seq _ z)) ?_; rw [ho, hsa, hsw]; first | done | rfl | (simp [tClient]; done) | (simp [List.map_set, tClient]; done))) | ((show some (T.lit (Value.int .i64 _)) = some (T.lit (Value.int .i64 _)); refine congrArg (fun z => some (T.lit (Value.int .i64 z))) ?_; rw [ho, hsa, hsw]; first | done | rfl)) | ((show some (T.lit (Value.bool _)) = some (T.lit (Value.bool _)); refine congrArg (fun z => some (T.lit (Value.bool z))) ?_; rw [ho, hsa, hsw]; first | done | rfl | (simp; done))) | (rw [ho]; rfl) | ((show some (T.seq _ _) = some (T.seq _ _); refine congrArg (fun z => some (T.seq _ z)) ?_; rw [ho]; first | done | rfl | (simp [tClient]; done) | (simp [List.map_set, tClient]; done))) | ((show some (T.lit (Value.int .i64 _)) = some (T.lit (Value.int .i64 _)); refine congrArg (fun z => some (T.lit (Value.int .i64 z))) ?_; rw [ho]; first | done | rfl)) | ((show some (T.lit (Value.bool _)) = some (T.lit (Value.bool _)); refine congrArg (fun z => some (T.lit (Value.bool z))) ?_; rw [ho]; first | done | rfl | (simp; done))) | (rw [hq, haa]; rfl) | ((show some (T.seq _ _) = some (T.seq _ _); refine congrArg (fun z => some (T.seq _ z)) ?_; rw [hq, haa]; first | done | rfl | (simp [tClient]; done) | (simp [List.map_set, tClient]; done))) | ((show some (T.lit (Value.int .i64 _)) = some (T.lit (Value.int .i64 _)); refine congrArg (fun z => some (T.lit (Value.int .i64 z))) ?_; rw [hq, haa]; first | done | rfl)) | ((show some (T.lit (Value.bool _)) = some (T.lit (Value.bool _)); refine congrArg (fun z => some (T.lit (Value.bool z))) ?_; rw [hq, haa]; first | done | rfl | (simp; done))) | (rw [hq, hna, haw]; rfl) | ((show some (T.seq _ _) = some (T.seq _ _); refine congrArg (fun z => some (T.seq _ z)) ?_; rw [hq, hna, haw]; first | done | rfl | (simp [tClient]; done) | (simp [List.map_set, tClient]; done))) | ((show some (T.lit (Value.int .i64 _)) = some (T.lit (Value.int .i64 _)); refine congrArg (fun z => some (T.lit (Value.int .i64 z))) ?_; rw [hq, hna, haw]; first | done | rfl)) | ((show some (T.lit (Value.bool _)) = some (T.lit (Value.bool _)); refine congrArg (fun z => some (T.lit (Value.bool z))) ?_; rw [hq, hna, haw]; first | done | rfl | (simp; done))) | (rw [hq, hna, hnw]; rfl) | ((show some (T.seq _ _) = some (T.seq _ _); refine congrArg (fun z => some (T.seq _ z)) ?_; rw [hq, hna, hnw]; first | done | rfl | (simp [tClient]; done) | (simp [List.map_set, tClient]; done))) | ((show some (T.lit (Value.int .i64 _)) = some (T.lit (Value.int .i64 _)); refine congrArg (fun z => some (T.lit (Value.int .i64 z))) ?_; rw [hq, hna, hnw]; first | done | rfl)) | ((show some (T.lit (Value.bool _)) = some (T.lit (Value.bool _)); refine congrArg (fun z => some (T.lit (Value.bool z))) ?_; rw [hq, hna, hnw]; first | done | rfl | (simp; done))) | (rw [hq]; rfl) | ((show some (T.seq _ _) = some (T.seq _ _); refine congrArg (fun z => some (T.seq _ z)) ?_; rw [hq]; first | done | rfl | (simp [tClient]; done) | (simp [List.map_set, tClient]; done))) | ((show some (T.lit (Value.int .i64 _)) = some (T.lit (Value.int .i64 _)); refine congrArg (fun z => some (T.lit (Value.int .i64 z))) ?_; rw [hq]; first | done | rfl)) | ((show some (T.lit (Value.bool _)) = some (T.lit (Value.bool _)); refine congrArg (fun z => some (T.lit (Value.bool z))) ?_; rw [hq]; first | done | rfl | (simp; done)))
end Go.Proofs.Ytfghhjcfmmhacaa
/- Total orders told by a comparison, and sorting by them, as plain mathematics; no function of program or reference is walked here. -/
namespace Go.Proofs.Ytfghhjcfmmhacaa
structure IsOrd {α : Type} (cmp : α → α → Int) : Prop where
  zero : ∀ a b, cmp a b = 0 ↔ a = b
  anti : ∀ a b, cmp b a = - cmp a b
  trans : ∀ a b c, cmp a b ≤ 0 → cmp b c ≤ 0 → cmp a c ≤ 0
namespace Ord
variable {α : Type} {cmp : α → α → Int}
def leb (cmp : α → α → Int) (a b : α) : Bool := decide (cmp a b ≤ 0)
theorem leb_iff {a b : α} : leb cmp a b = true ↔ cmp a b ≤ 0 := by simp [leb]
def sort (cmp : α → α → Int) (L : List α) : List α := L.mergeSort (leb cmp)
theorem sort_perm (L : List α) : (sort cmp L).Perm L := List.mergeSort_perm L _
theorem sort_asc (H : IsOrd cmp) (L : List α) : (sort cmp L).Pairwise fun a b => leb cmp a b = true :=
  List.pairwise_mergeSort (le := leb cmp) (fun a b c h h' => leb_iff.2 (H.trans _ _ _ (leb_iff.1 h) (leb_iff.1 h'))) (fun a b => by
    rcases (show cmp a b ≤ 0 ∨ cmp b a ≤ 0 by have := H.anti a b; omega) with h | h
    · simp [leb_iff.2 h]
    · simp [leb_iff.2 h]) L
theorem sort_unique (H : IsOrd cmp) {M L : List α} (hp : M.Perm L) (hs : M.Pairwise fun a b => leb cmp a b = true) : M = sort cmp L :=
  List.Perm.eq_of_pairwise (fun a b _ _ h h' => (H.zero a b).1 (by have h1 := leb_iff.1 h; have h2 := leb_iff.1 h'; have := H.anti a b; omega)) hs (sort_asc H L) (hp.trans (sort_perm L).symm)
end Ord
end Go.Proofs.Ytfghhjcfmmhacaa
/- The order in which clients are served, as mathematics: by falling priority, then by place; an insertion sort by the priority alone gives it. -/
namespace Go.Proofs.Ytfghhjcfmmhacaa
open Go Go.RowKit Go.Sort
set_option linter.unusedVariables false
section
variable {α : Type} [Inhabited α] {v : α → Nat} {lt lt2 : α → α → Bool}
theorem swp_at {d : Array α} {i j p : Nat} (hi : i < d.size) (hj : j < d.size) : (swp d i j)[p]! = if p = j then d[i]! else if p = i then d[j]! else d[p]! := by
  unfold swp
  rcases Nat.lt_or_ge p d.size with hp | hp
  · rw [getElem!_pos _ p (by simpa using hp), Array.getElem_setIfInBounds (by simpa using hp)]
    by_cases e1 : j = p
    · rw [if_pos e1, if_pos e1.symm]
    · rw [if_neg e1, if_neg (fun e => e1 e.symm), Array.getElem_setIfInBounds]
      by_cases e2 : i = p
      · rw [if_pos e2, if_pos e2.symm]
      · rw [if_neg e2, if_neg (fun e => e2 e.symm), getElem!_pos d p hp]
  · have e1 : ¬ p = j := by omega
    have e2 : ¬ p = i := by omega
    rw [if_neg e1, if_neg e2]
    simp [Array.getElem!_eq_getD, Array.getD, Nat.not_lt.2 hp]
theorem inner_eq (h2 : ∀ x y, v y < v x → lt2 x y = lt x y) : ∀ (j : Nat) (d : Array α), j < d.size → (∀ p, p < j → v d[p]! < v d[j]!) → insInner lt 0 j d = insInner lt2 0 j d
  | 0, d, _, _ => rfl
  | j + 1, d, hj, hb => by
    unfold insInner
    rw [h2 _ _ (hb j (Nat.lt_succ_self j))]
    split
    · refine inner_eq h2 j _ (by rw [swp_size]; omega) fun p hp => ?_
      rw [swp_at hj (by omega), swp_at hj (by omega), if_neg (by omega), if_neg (by omega), if_pos rfl]
      exact hb p (by omega)
    · rfl
theorem inner_mem : ∀ (j : Nat) (d : Array α), j < d.size → (insInner lt 0 j d).size = d.size ∧ (∀ q, j < q → (insInner lt 0 j d)[q]! = d[q]!) ∧ ∀ p, p ≤ j → ∃ p', p' ≤ j ∧ (insInner lt 0 j d)[p]! = d[p']!
  | 0, d, _ => ⟨rfl, fun q _ => rfl, fun p hp => ⟨p, hp, rfl⟩⟩
  | j + 1, d, hj => by
    unfold insInner
    split
    · obtain ⟨i1, i2, i3⟩ := inner_mem j (swp d (j + 1) j) (by rw [swp_size]; omega)
      refine ⟨by rw [i1, swp_size], fun q hq => ?_, fun p hp => ?_⟩
      · rw [i2 q (by omega), swp_at hj (by omega), if_neg (by omega), if_neg (by omega)]
      · rcases Nat.lt_or_ge j p with h | h
        · have e : p = j + 1 := by omega
          subst e
          refine ⟨j, by omega, ?_⟩
          rw [i2 _ (by omega), swp_at hj (by omega), if_neg (by omega), if_pos rfl]
        · obtain ⟨p', hp', e⟩ := i3 p h
          rw [e, swp_at hj (by omega)]
          by_cases e1 : p' = j
          · exact ⟨j + 1, Nat.le_refl _, by rw [if_pos e1]⟩
          · exact ⟨p', by omega, by rw [if_neg e1, if_neg (by omega)]⟩
    · exact ⟨rfl, fun q _ => rfl, fun p hp => ⟨p, hp, rfl⟩⟩
theorem outer_eq (h2 : ∀ x y, v y < v x → lt2 x y = lt x y) (b : Nat) : ∀ (n i : Nat) (d : Array α), b - i = n → b ≤ d.size → (∀ p q, p < q → i ≤ q → q < b → v d[p]! < v d[q]!) → insOuter lt 0 b i d = insOuter lt2 0 b i d
  | 0, i, d, hn, _, _ => by
    have e1 : insOuter lt 0 b i d = d := by rw [insOuter, if_neg (by omega)]
    have e2 : insOuter lt2 0 b i d = d := by rw [insOuter, if_neg (by omega)]
    rw [e1, e2]
  | n + 1, i, d, hn, hb, hd => by
    have e1 : insOuter lt 0 b i d = insOuter lt 0 b (i + 1) (insInner lt 0 i d) := by rw [insOuter, if_pos (by omega)]
    have e2 : insOuter lt2 0 b i d = insOuter lt2 0 b (i + 1) (insInner lt2 0 i d) := by rw [insOuter, if_pos (by omega)]
    rw [e1, e2, ← inner_eq h2 i d (by omega) fun p hp => hd p i hp (Nat.le_refl i) (by omega)]
    obtain ⟨i1, i2, i3⟩ := inner_mem (lt := lt) i d (by omega)
    refine outer_eq h2 b n (i + 1) _ (by omega) (by rw [i1]; exact hb) fun p q hpq hq hqb => ?_
    rw [i2 q (by omega)]
    rcases Nat.lt_or_ge i p with h | h
    · rw [i2 p h]
      exact hd p q hpq (by omega) hqb
    · obtain ⟨p', hp', e⟩ := i3 p h
      rw [e]
      exact hd p' q (by omega) (by omega) hqb
end
def cmpOrd (L : List ClientD) (i j : Nat) : Int := if BrokerD.prio L j < BrokerD.prio L i then -1 else if BrokerD.prio L i < BrokerD.prio L j then 1 else if i < j then -1 else if j < i then 1 else 0
theorem isOrd_cmpOrd (L : List ClientD) : IsOrd (cmpOrd L) where
  zero a b := by unfold cmpOrd; constructor <;> intro h <;> (first | (subst h; simp) | (repeat' split at h) <;> first | omega | (exfalso; omega))
  anti a b := by unfold cmpOrd; repeat' split <;> first | omega | rfl
  trans a b c h1 h2 := by unfold cmpOrd at *; repeat' split at h1 <;> repeat' split at h2 <;> repeat' split <;> omega
def ordOf (L : List ClientD) : List Nat := Ord.sort (cmpOrd L) (List.range L.length)
theorem ordOf_perm (L : List ClientD) : (ordOf L).Perm (List.range L.length) := Ord.sort_perm _
theorem ordOf_length (L : List ClientD) : (ordOf L).length = L.length := by rw [(ordOf_perm L).length_eq, List.length_range]
end Go.Proofs.Ytfghhjcfmmhacaa
