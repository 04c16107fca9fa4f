/- Texts joined: BriRem BrkReq VTake Vault Freeze VHd BriReq VWInt BrkGr Ord OrdM BriO BriP BriQ BrokerU. -/
import Derived.Test.YtfghhjcfmmhacaaPartEe
import Derived.Sort.LotA
import Derived.Test.YtfghhjcfmmhacaaShelfIns
import Derived.StillTailTactics
import Derived.Deep.CutRange
set_option linter.unusedSimpArgs false
set_option linter.unusedVariables false
/- The program's RemoveClient: told by trees. -/
namespace Go.Proofs.Ytfghhjcfmmhacaa
open Go Go.RowKit V
set_option linter.unusedVariables false
theorem cut_asc {l : List ClientD} (h : l.Pairwise fun c d => c.fID < d.fID) (c : ClientD) : ∃ k, k ≤ l.length ∧ (∀ u d, u < k → l[u]? = some d → d.fID < c.fID) ∧ ∀ u d, k ≤ u → l[u]? = some d → ¬ d.fID < c.fID := by
  induction l with
  | nil => exact ⟨0, Nat.le_refl _, fun u d hu => absurd hu (Nat.not_lt_zero u), fun u d _ hd => by simp at hd⟩
  | cons a l ih =>
    obtain ⟨h1, h2⟩ := List.pairwise_cons.1 h
    by_cases ha : a.fID < c.fID
    · obtain ⟨k, k1, k2, k3⟩ := ih h2
      refine ⟨k + 1, by simpa using k1, fun u d hu hd => ?_, fun u d hu hd => ?_⟩
      · cases u with
        | zero => cases hd; exact ha
        | succ u => exact k2 u d (by omega) (by simpa using hd)
      · cases u with
        | zero => omega
        | succ u => exact k3 u d (by omega) (by simpa using hd)
    · refine ⟨0, Nat.zero_le _, fun u d hu => absurd hu (Nat.not_lt_zero u), fun u d _ hd => ?_⟩
      cases u with
      | zero => cases hd; exact ha
      | succ u =>
        have := h1 d (List.mem_of_getElem? (by simpa using hd))
        omega
set_option maxRecDepth 100000 in
set_option maxHeartbeats 2000000 in
theorem vadm_i (b : BrokerD) (a : List ClientD) (hs : a.Pairwise fun c d => c.fID < d.fID) (hA : a.length ≤ 1000000000) (hW : b.fWaiting.length ≤ 1000000000) : VX Try.prog 67 [(true, [.rd (.lit (.int .i64 b.fPool)), .rd (.lit (.int .i64 b.fNextID)), .ln 0, .ln 1])] [.seq 35 (a.map tClient), .seq 35 (b.fWaiting.map tClient)] false [(true, tBroker (BrokerD.letIn b a))] := by
  refine VX.enter Try.func67 rfl Try.ntmps67 (gle rfl) fun E hE => ?_
  refine SV.seq' ?_
  refine SV.region ?_
  refine SV.op (OpMk.ok (ok_box (kk := 0) (ag := true) (xs := [.sc _, .sc _, .hd 0, .hd 1]) rfl rfl rfl (fun h => by cases h) rfl rfl (gle rfl))) rfl ?_
  refine SV.op (OpMk.ok (ok_alloc (kk := 1) (xs := [.sc _, .sc _, .nl _, .nl _]) rfl rfl zero_impl_Broker ⟨rfl, rfl, rfl, rfl, rfl, ⟨3, by decide, sz_impl_Client⟩, rfl, ⟨3, by decide, sz_impl_Client⟩, trivial⟩ rfl (gle rfl))) rfl ?_
  refine SV.nil ?_
  refine SV.tn ?_
  refine SV.seq' ?_
  refine SV.seq' ?_
  refine SV.region ?_
  refine SV.op (OpL.ok (nb := 2) (ok_field_bp (b := 0) (o' := 0) (off := 3) rfl rfl fld_impl_Broker_3) rfl (gle rfl)) rfl ?_
  refine SV.op (OpL.ok (nb := 2) (ok_load_bp (b := 0) (i := 3) (ag := false) (m := 1) (ys := [.hd 1]) rfl rfl rfl agg_s_impl_Client sz_s_impl_Client (fun _ => rfl) rfl rfl (gle rfl)) rfl (gle rfl)) rfl ?_
  refine SV.op (OpL.ok (nb := 2) (ok_len (lf := .hd 1) rfl elt_impl_Client.und rfl rfl) rfl (gle rfl)) rfl ?_
  refine SV.op (OpL.ok (nb := 2) (ok_s2 (x := .tmp 9) (x' := .const ((Value.int IntKind.i64 0))) (VScal.one rfl) (VScal.one rfl) (fun ρ h1 h2 w => by go_simp; (try go_bits); with_reducible rfl) rfl) rfl (gle rfl)) rfl ?_
  refine SV.nil ?_
  refine SV.tn ?_
  refine SV.cond rfl (fun hc0 => ?_) (fun hc0 => ?_)
  · skip   -- c0.T
    have hwl : b.fWaiting.length = 0 := by simp at hc0; first | omega | (rw [hc0]; rfl)
    have ho := BrokerD.admit_none (a := a) hwl
    refine SV.seq' ?_
    refine SV.region ?_
    refine SV.op (OpL.ok (nb := 2) (ok_load_bp (b := 0) (i := 0) (ag := true) (m := 4) (ys := [.sc _, .sc _, .hd 0, .hd 1]) rfl rfl rfl agg_impl_Broker sz_impl_Broker (fun h => by cases h) rfl rfl (gle rfl)) rfl (gle rfl)) rfl ?_
    refine SV.op (ok_store_bp (b := 1) (i := 0) (m := 4) (ag := true) (zs := [.sc _, .sc _, .hd 0, .hd 1]) (ys := [.sc _, .sc _, .hd 0, .hd 1]) rfl rfl rfl rfl sz_impl_Broker (fun h => by cases h) rfl (gle rfl) rfl rfl rfl) rfl ?_
    refine SV.nil ?_
    refine SV.tn ?_
    refine SV.ret ?_
    refine SV.tr ?_
    apply SV.done (hf := Try.results67) (ht := rfl) (he := .inl rfl)
    case hr => exact (ResAll.cons (ResOk.cell (b := 1) (ag := true) (xs := [.sc _, .sc _, .hd 0, .hd 1]) rfl rfl agg_impl_Broker sz_impl_Broker (fun h => by cases h)) ResAll.nil')
    case h2 => simp [two]
    refine ⟨rfl, ⟨?_, ?_, ?_, ?_, trivial⟩, trivial⟩ <;> first | rfl | (rw [ho]; rfl) | ((show some (T.seq _ _) = some (T.seq _ _); refine congrArg (fun z => some (T.seq _ z)) ?_; rw [ho]; first | done | rfl | (simp [tClient]; done) | (simp [List.map_set, tClient]; done))) | ((show some (T.lit (Value.int .i64 _)) = some (T.lit (Value.int .i64 _)); refine congrArg (fun z => some (T.lit (Value.int .i64 z))) ?_; rw [ho]; first | done | rfl)) | ((show some (T.lit (Value.bool _)) = some (T.lit (Value.bool _)); refine congrArg (fun z => some (T.lit (Value.bool z))) ?_; rw [ho]; first | done | rfl | (simp; done)))
  · skip   -- c0.F
    have hwl : 0 < b.fWaiting.length := by simp at hc0; first | omega | exact List.length_pos_iff.2 hc0
    have hbl0 := BrokerD.bestAt_le b.fWaiting (b.fWaiting.length - 1)
    have hbl : BrokerD.best b.fWaiting < b.fWaiting.length := by unfold BrokerD.best; omega
    obtain ⟨c, hx⟩ : ∃ c, b.fWaiting[BrokerD.best b.fWaiting]? = some c := ⟨_, List.getElem?_eq_getElem hbl⟩
    obtain ⟨k, hk, hlo, hge⟩ := cut_asc hs c
    have hput := BrokerD.put_at hk hlo (fun d hd => hge k d (Nat.le_refl k) hd)
    have ho := BrokerD.admit_some (a := a) hx
    rw [hput] at ho
    refine SV.skip ?_
    refine SV.tn ?_
    refine SV.seq' ?_
    refine SV.region ?_
    refine SV.op (OpL.ok (nb := 2) (ok_field_bp (b := 0) (o' := 0) (off := 3) rfl rfl fld_impl_Broker_3) rfl (gle rfl)) rfl ?_
    refine SV.op (OpL.ok (nb := 2) (ok_load_bp (b := 0) (i := 3) (ag := false) (m := 1) (ys := [.hd 1]) rfl rfl rfl agg_s_impl_Client sz_s_impl_Client (fun _ => rfl) rfl rfl (gle rfl)) rfl (gle rfl)) rfl ?_
    refine SV.op (OpMk.ok (ok_call (ls := [(false, [.sc _])]) rfl rfl ⟨_, _, Try.func86, rfl, by decide⟩ (vfirst_i b.fWaiting (by omega)) ⟨⟨[.hd 1], rfl, ⟨rfl, trivial⟩⟩, trivial⟩ rfl (gle rfl))) rfl ?_
    refine SV.op (OpL.ok (nb := 2) (ok_move (v := V.one (.sc _)) (.inr rfl) rfl) rfl (gle rfl)) rfl ?_
    refine SV.nil ?_
    refine SV.tn ?_
    refine SV.seq' ?_
    refine SV.region ?_
    refine SV.op (OpL.ok (nb := 2) (ok_field_bp (b := 0) (o' := 0) (off := 3) rfl rfl fld_impl_Broker_3) rfl (gle rfl)) rfl ?_
    refine SV.op (OpL.ok (nb := 2) (ok_load_bp (b := 0) (i := 3) (ag := false) (m := 1) (ys := [.hd 1]) rfl rfl rfl agg_s_impl_Client sz_s_impl_Client (fun _ => rfl) rfl rfl (gle rfl)) rfl (gle rfl)) rfl ?_
    refine SV.op (OpL.ok (nb := 2) (ok_move (v := V.one (.sc _)) (.inl rfl) rfl) rfl (gle rfl)) rfl ?_
    refine SV.op (OpL.ok (nb := 2) (ok_index (n := 3) (lf := .hd 1) rfl elt_impl_Client.und sz_impl_Client rfl rfl rfl (map_at hx)) rfl (gle rfl)) rfl ?_
    refine SV.op (ok_load_el (p := .ep 1 _ _ _) (ag := true) (m := 3) (ys := [.sc _, .sc _, .sc _]) rfl rfl (cells_ep rfl (map_at hx) rfl rfl) agg_impl_Client sz_impl_Client (fun h => by cases h) (gle rfl) rfl rfl (gle rfl)) rfl ?_
    refine SV.op (OpMk.ok (ok_alloc (kk := 2) (xs := [.sc _, .sc _, .sc _]) rfl rfl zero_impl_Client ⟨rfl, rfl, rfl, rfl, rfl, rfl, trivial⟩ rfl (gle rfl))) rfl ?_
    refine SV.op (ok_store_bp (b := 2) (i := 0) (m := 3) (ag := true) (zs := [.sc _, .sc _, .sc _]) (ys := [.sc _, .sc _, .sc _]) rfl rfl rfl rfl sz_impl_Client (fun h => by cases h) rfl (gle rfl) rfl rfl rfl) rfl ?_
    refine SV.nil ?_
    refine SV.tn ?_
    refine SV.seq' ?_
    refine SV.region ?_
    refine SV.op (OpL.ok (nb := 3) (ok_field_bp (b := 0) (o' := 0) (off := 3) rfl rfl fld_impl_Broker_3) rfl (gle rfl)) rfl ?_
    refine SV.op (OpL.ok (nb := 3) (ok_load_bp (b := 0) (i := 3) (ag := false) (m := 1) (ys := [.hd 1]) rfl rfl rfl agg_s_impl_Client sz_s_impl_Client (fun _ => rfl) rfl rfl (gle rfl)) rfl (gle rfl)) rfl ?_
    refine SV.op (OpL.ok (nb := 3) (ok_move (v := V.one (.sc _)) (.inl rfl) rfl) rfl (gle rfl)) rfl ?_
    refine SV.op (OpL.ok (nb := 3) (ok_move (v := V.one (.sc _)) (.inl rfl) rfl) rfl (gle rfl)) rfl ?_
    refine SV.op (OpL.ok (nb := 3) (ok_s2 (v := .int .i64 (((BrokerD.best b.fWaiting : Nat) : Int) + 1)) (x := .tmp 23) (x' := .const ((Value.int IntKind.i64 1))) (VScal.one rfl) (VScal.one rfl) (fun ρ h1 h2 w => by go_simp; rw [IntWalk.i64_left, IntWalk.wrap64_in _ ⟨by omega, by omega⟩]) rfl) rfl (gle rfl)) rfl ?_
    refine SV.op (ok_callY (is := [1]) (ls := [(false, [.hd 2])]) rfl rfl ⟨_, _, Try.func66, rfl, by decide⟩ (vdel b.fWaiting (BrokerD.best b.fWaiting) hbl) ⟨⟨[.hd 1], rfl, ⟨⟨_, rfl, rfl⟩, trivial⟩⟩, ⟨[.sc _], rfl, ⟨.inl ⟨_, rfl, rfl⟩, trivial⟩⟩, ⟨[.sc _], rfl, ⟨.inl ⟨_, rfl, rfl⟩, trivial⟩⟩, trivial⟩ rfl (by decide) rfl (gle rfl)) rfl ?_
    refine SV.op (OpL.ok (nb := 3) (ok_field_bp (b := 0) (o' := 0) (off := 3) rfl rfl fld_impl_Broker_3) rfl (gle rfl)) rfl ?_
    refine SV.op (ok_store_bp (b := 0) (i := 3) (m := 1) (ag := false) (zs := [.hd 2]) (ys := [.sc _, .sc _, .hd 0, .hd 2]) rfl rfl rfl rfl sz_s_impl_Client (fun _ => rfl) rfl (gle rfl) rfl rfl rfl) rfl ?_
    refine SV.nil ?_
    refine SV.tn ?_
    refine SV.seq' ?_
    refine SV.region ?_
    refine SV.op (OpL.ok (nb := 3) (ok_field_bp (b := 0) (o' := 0) (off := 2) rfl rfl fld_impl_Broker_2) rfl (gle rfl)) rfl ?_
    refine SV.op (OpL.ok (nb := 3) (ok_load_bp (b := 0) (i := 2) (ag := false) (m := 1) (ys := [.hd 0]) rfl rfl rfl agg_s_impl_Client sz_s_impl_Client (fun _ => rfl) rfl rfl (gle rfl)) rfl (gle rfl)) rfl ?_
    refine SV.op (OpL.ok (nb := 3) (ok_load_bp (b := 2) (i := 0) (ag := true) (m := 3) (ys := [.sc _, .sc _, .sc _]) rfl rfl rfl agg_impl_Client sz_impl_Client (fun h => by cases h) rfl rfl (gle rfl)) rfl (gle rfl)) rfl ?_
    refine SV.op (OpMk.ok (ok_call (ls := [(false, [.sc _]), (false, [.sc _])]) rfl rfl ⟨_, _, Try.func87, rfl, by decide⟩ (vbin_i a c k hA hk hlo hge) ⟨⟨[.hd 0], rfl, ⟨rfl, trivial⟩⟩, ⟨[.sc _, .sc _, .sc _], rfl, ⟨rfl, rfl, rfl, trivial⟩⟩, ⟨[.sc _], rfl, ⟨rfl, trivial⟩⟩, trivial⟩ rfl (gle rfl))) rfl ?_
    refine SV.op (OpL.ok (nb := 3) (ok_move (v := ⟨true, [(false, [.sc _]), (false, [.sc _])]⟩) (.inl rfl) rfl) rfl (gle rfl)) rfl ?_
    refine SV.op (OpL.ok (nb := 3) (ok_extract (ag := false) (xs := [.sc _]) rfl rfl rfl) rfl (gle rfl)) rfl ?_
    refine SV.op (OpL.ok (nb := 3) (ok_extract (ag := false) (xs := [.sc _]) rfl rfl rfl) rfl (gle rfl)) rfl ?_
    refine SV.op (OpL.ok (nb := 3) (ok_move (v := V.one (.sc _)) (.inr rfl) rfl) rfl (gle rfl)) rfl ?_
    refine SV.op (OpL.ok (nb := 3) (ok_move (v := V.one (.sc _)) (.inr rfl) rfl) rfl (gle rfl)) rfl ?_
    refine SV.nil ?_
    refine SV.tn ?_
    refine SV.seq' ?_
    refine SV.region ?_
    refine SV.op (OpL.ok (nb := 3) (ok_field_bp (b := 0) (o' := 0) (off := 2) rfl rfl fld_impl_Broker_2) rfl (gle rfl)) rfl ?_
    refine SV.op (OpL.ok (nb := 3) (ok_load_bp (b := 0) (i := 2) (ag := false) (m := 1) (ys := [.hd 0]) rfl rfl rfl agg_s_impl_Client sz_s_impl_Client (fun _ => rfl) rfl rfl (gle rfl)) rfl (gle rfl)) rfl ?_
    refine SV.op (OpL.ok (nb := 3) (ok_move (v := V.one (.sc _)) (.inl rfl) rfl) rfl (gle rfl)) rfl ?_
    refine SV.op (OpL.ok (nb := 3) (ok_load_bp (b := 2) (i := 0) (ag := true) (m := 3) (ys := [.sc _, .sc _, .sc _]) rfl rfl rfl agg_impl_Client sz_impl_Client (fun h => by cases h) rfl rfl (gle rfl)) rfl (gle rfl)) rfl ?_
    refine SV.op (OpMk.ok (ok_lit1 (kk := 3) elt_impl_Client (ag := true) (xs := [.sc _, .sc _, .sc _]) rfl rfl rfl rfl (fun h => by cases h) (outs_c rfl (outs_c rfl (outs_c rfl outs_n))) (by simp [two]) rfl (gle rfl))) rfl ?_
    refine SV.op (ok_callY (is := [0, 3]) (ls := [(false, [.hd 4])]) rfl rfl ⟨_, _, Try.func89, rfl, by decide⟩ (vins a c k hk hA) ⟨⟨[.hd 0], rfl, ⟨⟨_, rfl, rfl⟩, trivial⟩⟩, ⟨[.sc _], rfl, ⟨.inl ⟨_, rfl, rfl⟩, trivial⟩⟩, ⟨[.hd 3], rfl, ⟨⟨_, rfl, rfl⟩, trivial⟩⟩, trivial⟩ rfl (by decide) rfl (gle rfl)) rfl ?_
    refine SV.op (OpL.ok (nb := 3) (ok_field_bp (b := 0) (o' := 0) (off := 2) rfl rfl fld_impl_Broker_2) rfl (gle rfl)) rfl ?_
    refine SV.op (ok_store_bp (b := 0) (i := 2) (m := 1) (ag := false) (zs := [.hd 4]) (ys := [.sc _, .sc _, .hd 4, .hd 2]) rfl rfl rfl rfl sz_s_impl_Client (fun _ => rfl) rfl (gle rfl) rfl rfl rfl) rfl ?_
    refine SV.nil ?_
    refine SV.tn ?_
    refine SV.seq' ?_
    refine SV.region ?_
    refine SV.op (OpL.ok (nb := 3) (ok_load_bp (b := 0) (i := 0) (ag := true) (m := 4) (ys := [.sc _, .sc _, .hd 4, .hd 2]) rfl rfl rfl agg_impl_Broker sz_impl_Broker (fun h => by cases h) rfl rfl (gle rfl)) rfl (gle rfl)) rfl ?_
    refine SV.op (ok_store_bp (b := 1) (i := 0) (m := 4) (ag := true) (zs := [.sc _, .sc _, .hd 4, .hd 2]) (ys := [.sc _, .sc _, .hd 4, .hd 2]) rfl rfl rfl rfl sz_impl_Broker (fun h => by cases h) rfl (gle rfl) rfl rfl rfl) rfl ?_
    refine SV.nil ?_
    refine SV.tn ?_
    refine SV.ret ?_
    apply SV.done (hf := Try.results67) (ht := rfl) (he := .inl rfl)
    case hr => exact (ResAll.cons (ResOk.cell (b := 1) (ag := true) (xs := [.sc _, .sc _, .hd 4, .hd 2]) rfl rfl agg_impl_Broker sz_impl_Broker (fun h => by cases h)) ResAll.nil')
    case h2 => simp [two]
    refine ⟨rfl, ⟨?_, ?_, ?_, ?_, trivial⟩, trivial⟩ <;> first | rfl | (rw [ho]; rfl) | ((show some (T.seq _ _) = some (T.seq _ _); refine congrArg (fun z => some (T.seq _ z)) ?_; rw [ho]; first | done | rfl | (simp [tClient]; done) | (simp [List.map_set, tClient]; done))) | ((show some (T.lit (Value.int .i64 _)) = some (T.lit (Value.int .i64 _)); refine congrArg (fun z => some (T.lit (Value.int .i64 z))) ?_; rw [ho]; first | done | rfl)) | ((show some (T.lit (Value.bool _)) = some (T.lit (Value.bool _)); refine congrArg (fun z => some (T.lit (Value.bool z))) ?_; rw [ho]; first | done | rfl | (simp; done)))
set_option maxRecDepth 100000 in
set_option maxHeartbeats 2000000 in
theorem vrem_i (b : BrokerD) (id : Int) (hA : b.fActive.length ≤ 1000000000) (hW : b.fWaiting.length ≤ 1000000000) : VC Try.prog 27 [(true, tBroker b), (false, [.lit (.int .i64 (id))])] true [(true, tBroker ((BrokerD.removed b id).getD b)), (false, [.lit (.bool ((BrokerD.removed b id).isSome))])] := by
  refine VC.enter Try.func27 rfl Try.ntmps27 (gle rfl) fun E hE => ?_
  refine SV.seq' ?_
  refine SV.region ?_
  refine SV.op (OpMk.ok (ok_box (kk := 0) (ag := true) (xs := [.sc _, .sc _, .ro _, .ro _]) rfl rfl rfl (fun h => by cases h) rfl rfl (gle rfl))) rfl ?_
  refine SV.op (OpMk.ok (ok_alloc (kk := 1) (xs := [.sc _, .sc _, .nl _, .nl _]) rfl rfl zero_impl_Broker ⟨rfl, rfl, rfl, rfl, rfl, ⟨3, by decide, sz_impl_Client⟩, rfl, ⟨3, by decide, sz_impl_Client⟩, trivial⟩ rfl (gle rfl))) rfl ?_
  refine SV.op (OpL.ok (nb := 2) (ok_move (v := V.one (.sc _)) (.inr rfl) rfl) rfl (gle rfl)) rfl ?_
  refine SV.nil ?_
  refine SV.tn ?_
  refine SV.seq' ?_
  refine SV.region ?_
  refine SV.op (OpL.ok (nb := 2) (ok_load_bp (b := 0) (i := 0) (ag := true) (m := 4) (ys := [.sc _, .sc _, .ro _, .ro _]) rfl rfl rfl agg_impl_Broker sz_impl_Broker (fun h => by cases h) rfl rfl (gle rfl)) rfl (gle rfl)) rfl ?_
  refine SV.op (OpMk.ok (ok_call (ls := [(true, [.sc _, .sc _, .hd 0, .hd 1])]) rfl rfl ⟨_, _, Try.func60, rfl, by decide⟩ (vcloneb_i b (by omega) (by omega)) ⟨⟨[.sc _, .sc _, .ro _, .ro _], rfl, ⟨rfl, rfl, rfl, rfl, trivial⟩⟩, trivial⟩ rfl (gle rfl))) rfl ?_
  refine SV.op (OpMk.ok (ok_alloc (kk := 2) (xs := [.sc _, .sc _, .nl _, .nl _]) rfl rfl zero_impl_Broker ⟨rfl, rfl, rfl, rfl, rfl, ⟨3, by decide, sz_impl_Client⟩, rfl, ⟨3, by decide, sz_impl_Client⟩, trivial⟩ rfl (gle rfl))) rfl ?_
  refine SV.op (ok_store_bp (b := 2) (i := 0) (m := 4) (ag := true) (zs := [.sc _, .sc _, .hd 0, .hd 1]) (ys := [.sc _, .sc _, .hd 0, .hd 1]) rfl rfl rfl rfl sz_impl_Broker (fun h => by cases h) rfl (gle rfl) rfl rfl rfl) rfl ?_
  refine SV.nil ?_
  refine SV.tn ?_
  refine SV.seq' ?_
  refine SV.seq' ?_
  refine SV.region ?_
  refine SV.op (OpL.ok (nb := 3) (ok_load_bp (b := 0) (i := 0) (ag := true) (m := 4) (ys := [.sc _, .sc _, .ro _, .ro _]) rfl rfl rfl agg_impl_Broker sz_impl_Broker (fun h => by cases h) rfl rfl (gle rfl)) rfl (gle rfl)) rfl ?_
  refine SV.op (OpMk.ok (ok_call (ls := [(false, [.sc _])]) rfl rfl ⟨_, _, Try.func19, rfl, by decide⟩ (vokb_i b (by omega) (by omega)) ⟨⟨[.sc _, .sc _, .ro _, .ro _], rfl, ⟨rfl, rfl, rfl, rfl, trivial⟩⟩, trivial⟩ rfl (gle rfl))) rfl ?_
  refine SV.op (OpL.ok (nb := 3) (ok_s1 (x := .tmp 12) (VScal.one rfl) (fun ρ h1 w => by go_simp; (try go_bits); with_reducible rfl) rfl) rfl (gle rfl)) rfl ?_
  refine SV.nil ?_
  refine SV.tn ?_
  refine SV.cond rfl (fun hc0 => ?_) (fun hc0 => ?_)
  · skip   -- c0.T
    have hok : BrokerD.ok b = false := by simpa using hc0
    have ho := BrokerD.removed_bad (id := id) hok
    refine SV.seq' ?_
    refine SV.region ?_
    refine SV.op (OpL.ok (nb := 3) (ok_load_bp (b := 2) (i := 0) (ag := true) (m := 4) (ys := [.sc _, .sc _, .hd 0, .hd 1]) rfl rfl rfl agg_impl_Broker sz_impl_Broker (fun h => by cases h) rfl rfl (gle rfl)) rfl (gle rfl)) rfl ?_
    refine SV.op (ok_store_bp (b := 1) (i := 0) (m := 4) (ag := true) (zs := [.sc _, .sc _, .hd 0, .hd 1]) (ys := [.sc _, .sc _, .hd 0, .hd 1]) rfl rfl rfl rfl sz_impl_Broker (fun h => by cases h) rfl (gle rfl) rfl rfl rfl) rfl ?_
    refine SV.op (OpL.ok (nb := 3) (ok_move (v := V.one (.sc _)) (.inr rfl) rfl) rfl (gle rfl)) rfl ?_
    refine SV.nil ?_
    refine SV.tn ?_
    refine SV.ret ?_
    refine SV.tr ?_
    apply SV.done (hf := Try.results27) (ht := rfl) (he := .inl rfl)
    case hr => exact (ResAll.cons (ResOk.cell (b := 1) (ag := true) (xs := [.sc _, .sc _, .hd 0, .hd 1]) rfl rfl agg_impl_Broker sz_impl_Broker (fun h => by cases h)) (ResAll.cons (ResOk.tmp (ag := false) (xs := [.sc _]) rfl) ResAll.nil'))
    case h2 => simp [two]
    refine ⟨rfl, ⟨?_, ?_, ?_, ?_, trivial⟩, ⟨rfl, ⟨?_, trivial⟩, trivial⟩⟩ <;> first | rfl | (rw [ho]; rfl) | ((show some (T.seq _ _) = some (T.seq _ _); refine congrArg (fun z => some (T.seq _ z)) ?_; rw [ho]; first | done | rfl | (simp [tClient]; done) | (simp [List.map_set, tClient]; done))) | ((show some (T.lit (Value.int .i64 _)) = some (T.lit (Value.int .i64 _)); refine congrArg (fun z => some (T.lit (Value.int .i64 z))) ?_; rw [ho]; first | done | rfl)) | ((show some (T.lit (Value.bool _)) = some (T.lit (Value.bool _)); refine congrArg (fun z => some (T.lit (Value.bool z))) ?_; rw [ho]; first | done | rfl | (simp; done)))
  · skip   -- c0.F
    have hok : BrokerD.ok b = true := by simpa using hc0
    have hO := BrokerD.Ok.of hok
    refine SV.skip ?_
    refine SV.tn ?_
    refine SV.seq' ?_
    refine SV.seq' ?_
    obtain ⟨ka, hka⟩ : ∃ x, BrokerD.atI b.fActive id = x := ⟨_, rfl⟩
    have hva := vatc_i b.fActive id (by omega)
    rw [hka] at hva
    refine SV.region ?_
    refine SV.op (OpL.ok (nb := 3) (ok_field_bp (b := 0) (o' := 0) (off := 2) rfl rfl fld_impl_Broker_2) rfl (gle rfl)) rfl ?_
    refine SV.op (OpL.ok (nb := 3) (ok_load_bp (b := 0) (i := 2) (ag := false) (m := 1) (ys := [.ro _]) rfl rfl rfl agg_s_impl_Client sz_s_impl_Client (fun _ => rfl) rfl rfl (gle rfl)) rfl (gle rfl)) rfl ?_
    refine SV.op (OpL.ok (nb := 3) (ok_move (v := V.one (.sc _)) (.inl rfl) rfl) rfl (gle rfl)) rfl ?_
    refine SV.op (OpMk.ok (ok_call (ls := [(false, [.sc _])]) rfl rfl ⟨_, _, Try.func58, rfl, by decide⟩ (hva) ⟨⟨[.ro _], rfl, ⟨rfl, trivial⟩⟩, ⟨[.sc _], rfl, ⟨rfl, trivial⟩⟩, trivial⟩ rfl (gle rfl))) rfl ?_
    refine SV.op (OpL.ok (nb := 3) (ok_move (v := V.one (.sc _)) (.inr rfl) rfl) rfl (gle rfl)) rfl ?_
    refine SV.nil ?_
    refine SV.tn ?_
    refine SV.seq' ?_
    refine SV.region ?_
    refine SV.op (OpL.ok (nb := 3) (ok_move (v := V.one (.sc _)) (.inl rfl) rfl) rfl (gle rfl)) rfl ?_
    refine SV.op (OpL.ok (nb := 3) (ok_s2 (x := .tmp 19) (x' := .const ((Value.int IntKind.i64 0))) (VScal.one rfl) (VScal.one rfl) (fun ρ h1 h2 w => by go_simp; (try go_bits); with_reducible rfl) rfl) rfl (gle rfl)) rfl ?_
    refine SV.nil ?_
    refine SV.tn ?_
    refine SV.cond rfl (fun hc1 => ?_) (fun hc1 => ?_)
    · skip   -- c1.T
      obtain ⟨k, rfl, hat⟩ := BrokerD.at_pos hka (by simp at hc1; omega)
      obtain ⟨ca, hxa, hida, hkl⟩ := BrokerD.of_at hat
      have hnw : BrokerD.at? b.fWaiting id = none := BrokerD.at_none fun d hd e => hO.off _ (List.mem_of_getElem? hxa) d hd (hida.trans e.symm)
      have ho := BrokerD.removed_act hok hnw hat
      have hel : (b.fActive.eraseIdx k).length ≤ 1000000000 := by rw [List.length_eraseIdx_of_lt hkl]; omega
      have hasc : (b.fActive.eraseIdx k).Pairwise fun c d => c.fID < d.fID := hO.act.asc.sublist (List.eraseIdx_sublist ..)
      refine SV.seq' ?_
      refine SV.region ?_
      refine SV.op (OpL.ok (nb := 3) (ok_field_bp (b := 2) (o' := 0) (off := 2) rfl rfl fld_impl_Broker_2) rfl (gle rfl)) rfl ?_
      refine SV.op (OpL.ok (nb := 3) (ok_load_bp (b := 2) (i := 2) (ag := false) (m := 1) (ys := [.hd 0]) rfl rfl rfl agg_s_impl_Client sz_s_impl_Client (fun _ => rfl) rfl rfl (gle rfl)) rfl (gle rfl)) rfl ?_
      refine SV.op (OpL.ok (nb := 3) (ok_move (v := V.one (.sc _)) (.inl rfl) rfl) rfl (gle rfl)) rfl ?_
      refine SV.op (OpL.ok (nb := 3) (ok_move (v := V.one (.sc _)) (.inl rfl) rfl) rfl (gle rfl)) rfl ?_
      refine SV.op (OpL.ok (nb := 3) (ok_s2 (v := .int .i64 ((k : Int) + 1)) (x := .tmp 24) (x' := .const ((Value.int IntKind.i64 1))) (VScal.one rfl) (VScal.one rfl) (fun ρ h1 h2 w => by go_simp; rw [IntWalk.i64_left, IntWalk.wrap64_in _ ⟨by omega, by omega⟩]) rfl) rfl (gle rfl)) rfl ?_
      refine SV.op (ok_callY (is := [0]) (ls := [(false, [.hd 2])]) rfl rfl ⟨_, _, Try.func66, rfl, by decide⟩ (vdel b.fActive k hkl) ⟨⟨[.hd 0], rfl, ⟨⟨_, rfl, rfl⟩, trivial⟩⟩, ⟨[.sc _], rfl, ⟨.inl ⟨_, rfl, rfl⟩, trivial⟩⟩, ⟨[.sc _], rfl, ⟨.inl ⟨_, rfl, rfl⟩, trivial⟩⟩, trivial⟩ rfl (by decide) rfl (gle rfl)) rfl ?_
      refine SV.op (OpL.ok (nb := 3) (ok_field_bp (b := 2) (o' := 0) (off := 2) rfl rfl fld_impl_Broker_2) rfl (gle rfl)) rfl ?_
      refine SV.op (ok_store_bp (b := 2) (i := 2) (m := 1) (ag := false) (zs := [.hd 2]) (ys := [.sc _, .sc _, .hd 2, .hd 1]) rfl rfl rfl rfl sz_s_impl_Client (fun _ => rfl) rfl (gle rfl) rfl rfl rfl) rfl ?_
      refine SV.nil ?_
      refine SV.tn ?_
      refine SV.seq' ?_
      refine SV.region ?_
      refine SV.op (OpL.ok (nb := 3) (ok_load_bp (b := 2) (i := 0) (ag := true) (m := 4) (ys := [.sc _, .sc _, .hd 2, .hd 1]) rfl rfl rfl agg_impl_Broker sz_impl_Broker (fun h => by cases h) rfl rfl (gle rfl)) rfl (gle rfl)) rfl ?_
      refine SV.op (ok_callY (is := [2, 1]) (ls := [(true, [.sc _, .sc _, .hd 3, .hd 4])]) rfl rfl ⟨_, _, Try.func67, rfl, by decide⟩ (vadm_i b (b.fActive.eraseIdx k) hasc hel (by omega)) ⟨⟨[.sc _, .sc _, .hd 2, .hd 1], rfl, ⟨.inl ⟨_, rfl, rfl⟩, .inl ⟨_, rfl, rfl⟩, ⟨_, rfl, rfl⟩, ⟨_, rfl, rfl⟩, trivial⟩⟩, trivial⟩ rfl (by decide) rfl (gle rfl)) rfl ?_
      refine SV.op (ok_store_bp (b := 1) (i := 0) (m := 4) (ag := true) (zs := [.sc _, .sc _, .hd 3, .hd 4]) (ys := [.sc _, .sc _, .hd 3, .hd 4]) rfl rfl rfl rfl sz_impl_Broker (fun h => by cases h) rfl (gle rfl) rfl rfl rfl) rfl ?_
      refine SV.op (OpL.ok (nb := 3) (ok_move (v := V.one (.sc _)) (.inr rfl) rfl) rfl (gle rfl)) rfl ?_
      refine SV.nil ?_
      refine SV.tn ?_
      refine SV.ret ?_
      refine SV.tr ?_
      apply SV.done (hf := Try.results27) (ht := rfl) (he := .inl rfl)
      case hr => exact (ResAll.cons (ResOk.cell (b := 1) (ag := true) (xs := [.sc _, .sc _, .hd 3, .hd 4]) rfl rfl agg_impl_Broker sz_impl_Broker (fun h => by cases h)) (ResAll.cons (ResOk.tmp (ag := false) (xs := [.sc _]) rfl) ResAll.nil'))
      case h2 => simp [two]
      refine ⟨rfl, ⟨?_, ?_, ?_, ?_, trivial⟩, ⟨rfl, ⟨?_, trivial⟩, trivial⟩⟩ <;> first | rfl | (rw [ho]; rfl) | ((show some (T.seq _ _) = some (T.seq _ _); refine congrArg (fun z => some (T.seq _ z)) ?_; rw [ho]; first | done | rfl | (simp [tClient]; done) | (simp [List.map_set, tClient]; done))) | ((show some (T.lit (Value.int .i64 _)) = some (T.lit (Value.int .i64 _)); refine congrArg (fun z => some (T.lit (Value.int .i64 z))) ?_; rw [ho]; first | done | rfl)) | ((show some (T.lit (Value.bool _)) = some (T.lit (Value.bool _)); refine congrArg (fun z => some (T.lit (Value.bool z))) ?_; rw [ho]; first | done | rfl | (simp; done)))
    · skip   -- c1.F
      have hna := BrokerD.at_neg hka (by simp at hc1; omega)
      refine SV.skip ?_
      refine SV.tn ?_
      refine SV.seq' ?_
      refine SV.seq' ?_
      obtain ⟨kw, hkw⟩ : ∃ x, BrokerD.atI b.fWaiting id = x := ⟨_, rfl⟩
      have hvw := vatc_i b.fWaiting id (by omega)
      rw [hkw] at hvw
      refine SV.region ?_
      refine SV.op (OpL.ok (nb := 3) (ok_field_bp (b := 0) (o' := 0) (off := 3) rfl rfl fld_impl_Broker_3) rfl (gle rfl)) rfl ?_
      refine SV.op (OpL.ok (nb := 3) (ok_load_bp (b := 0) (i := 3) (ag := false) (m := 1) (ys := [.ro _]) rfl rfl rfl agg_s_impl_Client sz_s_impl_Client (fun _ => rfl) rfl rfl (gle rfl)) rfl (gle rfl)) rfl ?_
      refine SV.op (OpL.ok (nb := 3) (ok_move (v := V.one (.sc _)) (.inl rfl) rfl) rfl (gle rfl)) rfl ?_
      refine SV.op (OpMk.ok (ok_call (ls := [(false, [.sc _])]) rfl rfl ⟨_, _, Try.func58, rfl, by decide⟩ (hvw) ⟨⟨[.ro _], rfl, ⟨rfl, trivial⟩⟩, ⟨[.sc _], rfl, ⟨rfl, trivial⟩⟩, trivial⟩ rfl (gle rfl))) rfl ?_
      refine SV.op (OpL.ok (nb := 3) (ok_move (v := V.one (.sc _)) (.inr rfl) rfl) rfl (gle rfl)) rfl ?_
      refine SV.nil ?_
      refine SV.tn ?_
      refine SV.seq' ?_
      refine SV.region ?_
      refine SV.op (OpL.ok (nb := 3) (ok_move (v := V.one (.sc _)) (.inl rfl) rfl) rfl (gle rfl)) rfl ?_
      refine SV.op (OpL.ok (nb := 3) (ok_s2 (x := .tmp 34) (x' := .const ((Value.int IntKind.i64 0))) (VScal.one rfl) (VScal.one rfl) (fun ρ h1 h2 w => by go_simp; (try go_bits); with_reducible rfl) rfl) rfl (gle rfl)) rfl ?_
      refine SV.nil ?_
      refine SV.tn ?_
      refine SV.cond rfl (fun hc2 => ?_) (fun hc2 => ?_)
      · skip   -- c2.T
        obtain ⟨k, rfl, hat⟩ := BrokerD.at_pos hkw (by simp at hc2; omega)
        obtain ⟨-, -, -, hkl⟩ := BrokerD.of_at hat
        have ho := BrokerD.removed_wai hok hat
        refine SV.seq' ?_
        refine SV.region ?_
        refine SV.op (OpL.ok (nb := 3) (ok_field_bp (b := 2) (o' := 0) (off := 3) rfl rfl fld_impl_Broker_3) rfl (gle rfl)) rfl ?_
        refine SV.op (OpL.ok (nb := 3) (ok_load_bp (b := 2) (i := 3) (ag := false) (m := 1) (ys := [.hd 1]) rfl rfl rfl agg_s_impl_Client sz_s_impl_Client (fun _ => rfl) rfl rfl (gle rfl)) rfl (gle rfl)) rfl ?_
        refine SV.op (OpL.ok (nb := 3) (ok_move (v := V.one (.sc _)) (.inl rfl) rfl) rfl (gle rfl)) rfl ?_
        refine SV.op (OpL.ok (nb := 3) (ok_move (v := V.one (.sc _)) (.inl rfl) rfl) rfl (gle rfl)) rfl ?_
        refine SV.op (OpL.ok (nb := 3) (ok_s2 (v := .int .i64 ((k : Int) + 1)) (x := .tmp 39) (x' := .const ((Value.int IntKind.i64 1))) (VScal.one rfl) (VScal.one rfl) (fun ρ h1 h2 w => by go_simp; rw [IntWalk.i64_left, IntWalk.wrap64_in _ ⟨by omega, by omega⟩]) rfl) rfl (gle rfl)) rfl ?_
        refine SV.op (ok_callY (is := [1]) (ls := [(false, [.hd 2])]) rfl rfl ⟨_, _, Try.func66, rfl, by decide⟩ (vdel b.fWaiting k hkl) ⟨⟨[.hd 1], rfl, ⟨⟨_, rfl, rfl⟩, trivial⟩⟩, ⟨[.sc _], rfl, ⟨.inl ⟨_, rfl, rfl⟩, trivial⟩⟩, ⟨[.sc _], rfl, ⟨.inl ⟨_, rfl, rfl⟩, trivial⟩⟩, trivial⟩ rfl (by decide) rfl (gle rfl)) rfl ?_
        refine SV.op (OpL.ok (nb := 3) (ok_field_bp (b := 2) (o' := 0) (off := 3) rfl rfl fld_impl_Broker_3) rfl (gle rfl)) rfl ?_
        refine SV.op (ok_store_bp (b := 2) (i := 3) (m := 1) (ag := false) (zs := [.hd 2]) (ys := [.sc _, .sc _, .hd 0, .hd 2]) rfl rfl rfl rfl sz_s_impl_Client (fun _ => rfl) rfl (gle rfl) rfl rfl rfl) rfl ?_
        refine SV.nil ?_
        refine SV.tn ?_
        refine SV.seq' ?_
        refine SV.region ?_
        refine SV.op (OpL.ok (nb := 3) (ok_load_bp (b := 2) (i := 0) (ag := true) (m := 4) (ys := [.sc _, .sc _, .hd 0, .hd 2]) rfl rfl rfl agg_impl_Broker sz_impl_Broker (fun h => by cases h) rfl rfl (gle rfl)) rfl (gle rfl)) rfl ?_
        refine SV.op (ok_store_bp (b := 1) (i := 0) (m := 4) (ag := true) (zs := [.sc _, .sc _, .hd 0, .hd 2]) (ys := [.sc _, .sc _, .hd 0, .hd 2]) rfl rfl rfl rfl sz_impl_Broker (fun h => by cases h) rfl (gle rfl) rfl rfl rfl) rfl ?_
        refine SV.op (OpL.ok (nb := 3) (ok_move (v := V.one (.sc _)) (.inr rfl) rfl) rfl (gle rfl)) rfl ?_
        refine SV.nil ?_
        refine SV.tn ?_
        refine SV.ret ?_
        refine SV.tr ?_
        apply SV.done (hf := Try.results27) (ht := rfl) (he := .inl rfl)
        case hr => exact (ResAll.cons (ResOk.cell (b := 1) (ag := true) (xs := [.sc _, .sc _, .hd 0, .hd 2]) rfl rfl agg_impl_Broker sz_impl_Broker (fun h => by cases h)) (ResAll.cons (ResOk.tmp (ag := false) (xs := [.sc _]) rfl) ResAll.nil'))
        case h2 => simp [two]
        refine ⟨rfl, ⟨?_, ?_, ?_, ?_, trivial⟩, ⟨rfl, ⟨?_, trivial⟩, trivial⟩⟩ <;> first | rfl | (rw [ho]; rfl) | ((show some (T.seq _ _) = some (T.seq _ _); refine congrArg (fun z => some (T.seq _ z)) ?_; rw [ho]; first | done | rfl | (simp [tClient]; done) | (simp [List.map_set, tClient]; done))) | ((show some (T.lit (Value.int .i64 _)) = some (T.lit (Value.int .i64 _)); refine congrArg (fun z => some (T.lit (Value.int .i64 z))) ?_; rw [ho]; first | done | rfl)) | ((show some (T.lit (Value.bool _)) = some (T.lit (Value.bool _)); refine congrArg (fun z => some (T.lit (Value.bool z))) ?_; rw [ho]; first | done | rfl | (simp; done)))
      · skip   -- c2.F
        have hnw := BrokerD.at_neg hkw (by simp at hc2; omega)
        have ho := BrokerD.removed_none hnw hna
        refine SV.skip ?_
        refine SV.tn ?_
        refine SV.seq' ?_
        refine SV.region ?_
        refine SV.op (OpL.ok (nb := 3) (ok_load_bp (b := 2) (i := 0) (ag := true) (m := 4) (ys := [.sc _, .sc _, .hd 0, .hd 1]) rfl rfl rfl agg_impl_Broker sz_impl_Broker (fun h => by cases h) rfl rfl (gle rfl)) rfl (gle rfl)) rfl ?_
        refine SV.op (ok_store_bp (b := 1) (i := 0) (m := 4) (ag := true) (zs := [.sc _, .sc _, .hd 0, .hd 1]) (ys := [.sc _, .sc _, .hd 0, .hd 1]) rfl rfl rfl rfl sz_impl_Broker (fun h => by cases h) rfl (gle rfl) rfl rfl rfl) rfl ?_
        refine SV.op (OpL.ok (nb := 3) (ok_move (v := V.one (.sc _)) (.inr rfl) rfl) rfl (gle rfl)) rfl ?_
        refine SV.nil ?_
        refine SV.tn ?_
        refine SV.ret ?_
        apply SV.done (hf := Try.results27) (ht := rfl) (he := .inl rfl)
        case hr => exact (ResAll.cons (ResOk.cell (b := 1) (ag := true) (xs := [.sc _, .sc _, .hd 0, .hd 1]) rfl rfl agg_impl_Broker sz_impl_Broker (fun h => by cases h)) (ResAll.cons (ResOk.tmp (ag := false) (xs := [.sc _]) rfl) ResAll.nil'))
        case h2 => simp [two]
        refine ⟨rfl, ⟨?_, ?_, ?_, ?_, trivial⟩, ⟨rfl, ⟨?_, trivial⟩, trivial⟩⟩ <;> first | rfl | (rw [ho]; rfl) | ((show some (T.seq _ _) = some (T.seq _ _); refine congrArg (fun z => some (T.seq _ z)) ?_; rw [ho]; first | done | rfl | (simp [tClient]; done) | (simp [List.map_set, tClient]; done))) | ((show some (T.lit (Value.int .i64 _)) = some (T.lit (Value.int .i64 _)); refine congrArg (fun z => some (T.lit (Value.int .i64 z))) ?_; rw [ho]; first | done | rfl)) | ((show some (T.lit (Value.bool _)) = some (T.lit (Value.bool _)); refine congrArg (fun z => some (T.lit (Value.bool z))) ?_; rw [ho]; first | done | rfl | (simp; done)))
end Go.Proofs.Ytfghhjcfmmhacaa
/- The reference's SetRequest: told by trees. -/
namespace Go.Proofs.Ytfghhjcfmmhacaa
open Go Go.RowKit V
set_option linter.unusedVariables false
set_option maxRecDepth 100000 in
set_option maxHeartbeats 2000000 in
theorem vreq_s (b : BrokerD) (id w : Int) (hA : b.fActive.length ≤ 1000000000) (hW : b.fWaiting.length ≤ 1000000000) : VC Try.prog 31 [(true, tBroker b), (false, [.lit (.int .i64 (id))]), (false, [.lit (.int .i64 (w))])] true [(true, tBroker (BrokerD.setReq b id w)), (false, [.lit (.bool (BrokerD.canReq b id w))])] := by
  refine VC.enter Try.func31 rfl Try.ntmps31 (gle rfl) fun E hE => ?_
  refine SV.seq' ?_
  refine SV.region ?_
  refine SV.op (OpMk.ok (ok_box (kk := 0) (ag := true) (xs := [.sc _, .sc _, .ro _, .ro _]) rfl rfl rfl (fun h => by cases h) rfl rfl (gle rfl))) rfl ?_
  refine SV.op (OpMk.ok (ok_alloc (kk := 1) (xs := [.sc _, .sc _, .nl _, .nl _]) rfl rfl zero_impl_Broker ⟨rfl, rfl, rfl, rfl, rfl, ⟨3, by decide, sz_impl_Client⟩, rfl, ⟨3, by decide, sz_impl_Client⟩, trivial⟩ rfl (gle rfl))) rfl ?_
  refine SV.op (OpL.ok (nb := 2) (ok_move (v := V.one (.sc _)) (.inr rfl) rfl) rfl (gle rfl)) rfl ?_
  refine SV.nil ?_
  refine SV.tn ?_
  refine SV.seq' ?_
  refine SV.region ?_
  refine SV.op (OpL.ok (nb := 2) (ok_load_bp (b := 0) (i := 0) (ag := true) (m := 4) (ys := [.sc _, .sc _, .ro _, .ro _]) rfl rfl rfl agg_impl_Broker sz_impl_Broker (fun h => by cases h) rfl rfl (gle rfl)) rfl (gle rfl)) rfl ?_
  refine SV.op (OpMk.ok (ok_call (ls := [(true, [.sc _, .sc _, .hd 0, .hd 1])]) rfl rfl ⟨_, _, Try.func63, rfl, by decide⟩ (vcopyb_s b (by omega) (by omega)) ⟨⟨[.sc _, .sc _, .ro _, .ro _], rfl, ⟨rfl, rfl, rfl, rfl, trivial⟩⟩, trivial⟩ rfl (gle rfl))) rfl ?_
  refine SV.op (OpMk.ok (ok_alloc (kk := 2) (xs := [.sc _, .sc _, .nl _, .nl _]) rfl rfl zero_impl_Broker ⟨rfl, rfl, rfl, rfl, rfl, ⟨3, by decide, sz_impl_Client⟩, rfl, ⟨3, by decide, sz_impl_Client⟩, trivial⟩ rfl (gle rfl))) rfl ?_
  refine SV.op (ok_store_bp (b := 2) (i := 0) (m := 4) (ag := true) (zs := [.sc _, .sc _, .hd 0, .hd 1]) (ys := [.sc _, .sc _, .hd 0, .hd 1]) rfl rfl rfl rfl sz_impl_Broker (fun h => by cases h) rfl (gle rfl) rfl rfl rfl) rfl ?_
  refine SV.nil ?_
  refine SV.tn ?_
  refine SV.seq' ?_
  refine SV.seq' ?_
  refine SV.region ?_
  refine SV.op (OpL.ok (nb := 3) (ok_load_bp (b := 0) (i := 0) (ag := true) (m := 4) (ys := [.sc _, .sc _, .ro _, .ro _]) rfl rfl rfl agg_impl_Broker sz_impl_Broker (fun h => by cases h) rfl rfl (gle rfl)) rfl (gle rfl)) rfl ?_
  refine SV.op (OpMk.ok (ok_call (ls := [(false, [.sc _])]) rfl rfl ⟨_, _, Try.func20, rfl, by decide⟩ (vokb_s b (by omega) (by omega)) ⟨⟨[.sc _, .sc _, .ro _, .ro _], rfl, ⟨rfl, rfl, rfl, rfl, trivial⟩⟩, trivial⟩ rfl (gle rfl))) rfl ?_
  refine SV.op (OpL.ok (nb := 3) (ok_s1 (x := .tmp 14) (VScal.one rfl) (fun ρ h1 w => by go_simp; (try go_bits); with_reducible rfl) rfl) rfl (gle rfl)) rfl ?_
  refine SV.op (OpL.ok (nb := 3) (ok_move (v := V.one (.sc _)) (.inl rfl) rfl) rfl (gle rfl)) rfl ?_
  refine SV.split (d := 16) rfl (fun hg0 => ?_) (fun hg0 => ?_)
  · skip   -- g0.T
    refine SV.opN rfl rfl rfl (gle rfl) rfl rfl rfl (gle rfl) ?_
    refine SV.opN rfl rfl rfl (gle rfl) rfl rfl rfl (gle rfl) ?_
    refine SV.opN rfl rfl rfl (gle rfl) rfl rfl rfl (gle rfl) ?_
    refine SV.op (OpL.ok (nb := 3) (ok_pickT (v := V.one (.sc _)) rfl rfl rfl) rfl (gle rfl)) rfl ?_
    refine SV.nil ?_
    refine SV.tn ?_
    refine SV.cond rfl (fun hc0 => ?_) (fun hc0 => ?_)
    · skip   -- c0.T
      have hcan : (BrokerD.ok b && BrokerD.isWant w) = false := by unfold BrokerD.isWant; simp at *; simp_all; (try omega)
      obtain ⟨ho, hq⟩ := BrokerD.setReq_no (id := id) hcan
      refine SV.seq' ?_
      refine SV.region ?_
      refine SV.op (OpL.ok (nb := 3) (ok_load_bp (b := 2) (i := 0) (ag := true) (m := 4) (ys := [.sc _, .sc _, .hd 0, .hd 1]) rfl rfl rfl agg_impl_Broker sz_impl_Broker (fun h => by cases h) rfl rfl (gle rfl)) rfl (gle rfl)) rfl ?_
      refine SV.op (ok_store_bp (b := 1) (i := 0) (m := 4) (ag := true) (zs := [.sc _, .sc _, .hd 0, .hd 1]) (ys := [.sc _, .sc _, .hd 0, .hd 1]) rfl rfl rfl rfl sz_impl_Broker (fun h => by cases h) rfl (gle rfl) rfl rfl rfl) rfl ?_
      refine SV.op (OpL.ok (nb := 3) (ok_move (v := V.one (.sc _)) (.inr rfl) rfl) rfl (gle rfl)) rfl ?_
      refine SV.nil ?_
      refine SV.tn ?_
      refine SV.ret ?_
      refine SV.tr ?_
      apply SV.done (hf := Try.results31) (ht := rfl) (he := .inl rfl)
      case hr => exact (ResAll.cons (ResOk.cell (b := 1) (ag := true) (xs := [.sc _, .sc _, .hd 0, .hd 1]) rfl rfl agg_impl_Broker sz_impl_Broker (fun h => by cases h)) (ResAll.cons (ResOk.tmp (ag := false) (xs := [.sc _]) rfl) ResAll.nil'))
      case h2 => simp [two]
      refine ⟨rfl, ⟨?_, ?_, ?_, ?_, trivial⟩, ⟨rfl, ⟨?_, trivial⟩, trivial⟩⟩ <;> first | rfl | (rw [ho, hsa]; rfl) | ((show some (T.seq _ _) = some (T.seq _ _); refine congrArg (fun z => some (T.seq _ z)) ?_; rw [ho, hsa]; first | done | rfl | (simp [tClient]; done) | (simp [List.map_set, tClient]; done))) | ((show some (T.lit (Value.int .i64 _)) = some (T.lit (Value.int .i64 _)); refine congrArg (fun z => some (T.lit (Value.int .i64 z))) ?_; rw [ho, hsa]; first | done | rfl)) | ((show some (T.lit (Value.bool _)) = some (T.lit (Value.bool _)); refine congrArg (fun z => some (T.lit (Value.bool z))) ?_; rw [ho, hsa]; first | done | rfl | (simp; done))) | (rw [ho, hsw]; rfl) | ((show some (T.seq _ _) = some (T.seq _ _); refine congrArg (fun z => some (T.seq _ z)) ?_; rw [ho, hsw]; first | done | rfl | (simp [tClient]; done) | (simp [List.map_set, tClient]; done))) | ((show some (T.lit (Value.int .i64 _)) = some (T.lit (Value.int .i64 _)); refine congrArg (fun z => some (T.lit (Value.int .i64 z))) ?_; rw [ho, hsw]; first | done | rfl)) | ((show some (T.lit (Value.bool _)) = some (T.lit (Value.bool _)); refine congrArg (fun z => some (T.lit (Value.bool z))) ?_; rw [ho, hsw]; first | done | rfl | (simp; done))) | (rw [ho]; rfl) | ((show some (T.seq _ _) = some (T.seq _ _); refine congrArg (fun z => some (T.seq _ z)) ?_; rw [ho]; first | done | rfl | (simp [tClient]; done) | (simp [List.map_set, tClient]; done))) | ((show some (T.lit (Value.int .i64 _)) = some (T.lit (Value.int .i64 _)); refine congrArg (fun z => some (T.lit (Value.int .i64 z))) ?_; rw [ho]; first | done | rfl)) | ((show some (T.lit (Value.bool _)) = some (T.lit (Value.bool _)); refine congrArg (fun z => some (T.lit (Value.bool z))) ?_; rw [ho]; first | done | rfl | (simp; done))) | (rw [hq, haa, haw]; rfl) | ((show some (T.seq _ _) = some (T.seq _ _); refine congrArg (fun z => some (T.seq _ z)) ?_; rw [hq, haa, haw]; first | done | rfl | (simp [tClient]; done) | (simp [List.map_set, tClient]; done))) | ((show some (T.lit (Value.int .i64 _)) = some (T.lit (Value.int .i64 _)); refine congrArg (fun z => some (T.lit (Value.int .i64 z))) ?_; rw [hq, haa, haw]; first | done | rfl)) | ((show some (T.lit (Value.bool _)) = some (T.lit (Value.bool _)); refine congrArg (fun z => some (T.lit (Value.bool z))) ?_; rw [hq, haa, haw]; first | done | rfl | (simp; done))) | (rw [hq]; rfl) | ((show some (T.seq _ _) = some (T.seq _ _); refine congrArg (fun z => some (T.seq _ z)) ?_; rw [hq]; first | done | rfl | (simp [tClient]; done) | (simp [List.map_set, tClient]; done))) | ((show some (T.lit (Value.int .i64 _)) = some (T.lit (Value.int .i64 _)); refine congrArg (fun z => some (T.lit (Value.int .i64 z))) ?_; rw [hq]; first | done | rfl)) | ((show some (T.lit (Value.bool _)) = some (T.lit (Value.bool _)); refine congrArg (fun z => some (T.lit (Value.bool z))) ?_; rw [hq]; first | done | rfl | (simp; done)))
    · skip   -- c0.F
      cases hc0
  · skip   -- g0.F
    refine SV.opY (OpL.ok (nb := 3) (ok_move (v := V.one (.sc _)) (.inl rfl) rfl) rfl (gle rfl)) rfl rfl rfl (gle rfl) rfl rfl ?_
    refine SV.opY (OpMk.ok (ok_call (ls := [(false, [.sc _])]) rfl rfl ⟨_, _, Try.func56, rfl, by decide⟩ (vin_s' w 8 60) ⟨⟨[.sc _], rfl, ⟨rfl, trivial⟩⟩, ⟨[.sc _], rfl, ⟨rfl, trivial⟩⟩, ⟨[.sc _], rfl, ⟨rfl, trivial⟩⟩, trivial⟩ rfl (gle rfl))) rfl rfl rfl (gle rfl) rfl rfl ?_
    refine SV.opY (OpL.ok (nb := 3) (ok_s1 (x := .tmp 18) (VScal.one rfl) (fun ρ h1 w => by go_simp; (try go_bits); with_reducible rfl) rfl) rfl (gle rfl)) rfl rfl rfl (gle rfl) rfl rfl ?_
    refine SV.op (OpL.ok (nb := 3) (ok_pickF (v := V.one (.sc _)) rfl rfl rfl) rfl (gle rfl)) rfl ?_
    refine SV.nil ?_
    refine SV.tn ?_
    refine SV.cond rfl (fun hc1 => ?_) (fun hc1 => ?_)
    · skip   -- c1.T
      have hcan : (BrokerD.ok b && BrokerD.isWant w) = false := by unfold BrokerD.isWant; simp at *; simp_all; (try omega)
      obtain ⟨ho, hq⟩ := BrokerD.setReq_no (id := id) hcan
      refine SV.seq' ?_
      refine SV.region ?_
      refine SV.op (OpL.ok (nb := 3) (ok_load_bp (b := 2) (i := 0) (ag := true) (m := 4) (ys := [.sc _, .sc _, .hd 0, .hd 1]) rfl rfl rfl agg_impl_Broker sz_impl_Broker (fun h => by cases h) rfl rfl (gle rfl)) rfl (gle rfl)) rfl ?_
      refine SV.op (ok_store_bp (b := 1) (i := 0) (m := 4) (ag := true) (zs := [.sc _, .sc _, .hd 0, .hd 1]) (ys := [.sc _, .sc _, .hd 0, .hd 1]) rfl rfl rfl rfl sz_impl_Broker (fun h => by cases h) rfl (gle rfl) rfl rfl rfl) rfl ?_
      refine SV.op (OpL.ok (nb := 3) (ok_move (v := V.one (.sc _)) (.inr rfl) rfl) rfl (gle rfl)) rfl ?_
      refine SV.nil ?_
      refine SV.tn ?_
      refine SV.ret ?_
      refine SV.tr ?_
      apply SV.done (hf := Try.results31) (ht := rfl) (he := .inl rfl)
      case hr => exact (ResAll.cons (ResOk.cell (b := 1) (ag := true) (xs := [.sc _, .sc _, .hd 0, .hd 1]) rfl rfl agg_impl_Broker sz_impl_Broker (fun h => by cases h)) (ResAll.cons (ResOk.tmp (ag := false) (xs := [.sc _]) rfl) ResAll.nil'))
      case h2 => simp [two]
      refine ⟨rfl, ⟨?_, ?_, ?_, ?_, trivial⟩, ⟨rfl, ⟨?_, trivial⟩, trivial⟩⟩ <;> first | rfl | (rw [ho, hsa]; rfl) | ((show some (T.seq _ _) = some (T.seq _ _); refine congrArg (fun z => some (T.seq _ z)) ?_; rw [ho, hsa]; first | done | rfl | (simp [tClient]; done) | (simp [List.map_set, tClient]; done))) | ((show some (T.lit (Value.int .i64 _)) = some (T.lit (Value.int .i64 _)); refine congrArg (fun z => some (T.lit (Value.int .i64 z))) ?_; rw [ho, hsa]; first | done | rfl)) | ((show some (T.lit (Value.bool _)) = some (T.lit (Value.bool _)); refine congrArg (fun z => some (T.lit (Value.bool z))) ?_; rw [ho, hsa]; first | done | rfl | (simp; done))) | (rw [ho, hsw]; rfl) | ((show some (T.seq _ _) = some (T.seq _ _); refine congrArg (fun z => some (T.seq _ z)) ?_; rw [ho, hsw]; first | done | rfl | (simp [tClient]; done) | (simp [List.map_set, tClient]; done))) | ((show some (T.lit (Value.int .i64 _)) = some (T.lit (Value.int .i64 _)); refine congrArg (fun z => some (T.lit (Value.int .i64 z))) ?_; rw [ho, hsw]; first | done | rfl)) | ((show some (T.lit (Value.bool _)) = some (T.lit (Value.bool _)); refine congrArg (fun z => some (T.lit (Value.bool z))) ?_; rw [ho, hsw]; first | done | rfl | (simp; done))) | (rw [ho]; rfl) | ((show some (T.seq _ _) = some (T.seq _ _); refine congrArg (fun z => some (T.seq _ z)) ?_; rw [ho]; first | done | rfl | (simp [tClient]; done) | (simp [List.map_set, tClient]; done))) | ((show some (T.lit (Value.int .i64 _)) = some (T.lit (Value.int .i64 _)); refine congrArg (fun z => some (T.lit (Value.int .i64 z))) ?_; rw [ho]; first | done | rfl)) | ((show some (T.lit (Value.bool _)) = some (T.lit (Value.bool _)); refine congrArg (fun z => some (T.lit (Value.bool z))) ?_; rw [ho]; first | done | rfl | (simp; done))) | (rw [hq, haa, haw]; rfl) | ((show some (T.seq _ _) = some (T.seq _ _); refine congrArg (fun z => some (T.seq _ z)) ?_; rw [hq, haa, haw]; first | done | rfl | (simp [tClient]; done) | (simp [List.map_set, tClient]; done))) | ((show some (T.lit (Value.int .i64 _)) = some (T.lit (Value.int .i64 _)); refine congrArg (fun z => some (T.lit (Value.int .i64 z))) ?_; rw [hq, haa, haw]; first | done | rfl)) | ((show some (T.lit (Value.bool _)) = some (T.lit (Value.bool _)); refine congrArg (fun z => some (T.lit (Value.bool z))) ?_; rw [hq, haa, haw]; first | done | rfl | (simp; done))) | (rw [hq]; rfl) | ((show some (T.seq _ _) = some (T.seq _ _); refine congrArg (fun z => some (T.seq _ z)) ?_; rw [hq]; first | done | rfl | (simp [tClient]; done) | (simp [List.map_set, tClient]; done))) | ((show some (T.lit (Value.int .i64 _)) = some (T.lit (Value.int .i64 _)); refine congrArg (fun z => some (T.lit (Value.int .i64 z))) ?_; rw [hq]; first | done | rfl)) | ((show some (T.lit (Value.bool _)) = some (T.lit (Value.bool _)); refine congrArg (fun z => some (T.lit (Value.bool z))) ?_; rw [hq]; first | done | rfl | (simp; done)))
    · skip   -- c1.F
      have hcan : (BrokerD.ok b && BrokerD.isWant w) = true := by unfold BrokerD.isWant; simp at *; simp_all; (try omega)
      obtain ⟨ho, hq⟩ := BrokerD.setReq_yes (id := id) hcan
      refine SV.skip ?_
      refine SV.tn ?_
      refine SV.seq' ?_
      obtain ⟨ka, hka⟩ : ∃ x, BrokerD.atI b.fActive id = x := ⟨_, rfl⟩
      have hva := vatc_s b.fActive id (by omega)
      rw [hka] at hva
      refine SV.region ?_
      refine SV.op (OpL.ok (nb := 3) (ok_field_bp (b := 0) (o' := 0) (off := 2) rfl rfl fld_impl_Broker_2) rfl (gle rfl)) rfl ?_
      refine SV.op (OpL.ok (nb := 3) (ok_load_bp (b := 0) (i := 2) (ag := false) (m := 1) (ys := [.ro _]) rfl rfl rfl agg_s_impl_Client sz_s_impl_Client (fun _ => rfl) rfl rfl (gle rfl)) rfl (gle rfl)) rfl ?_
      refine SV.op (OpL.ok (nb := 3) (ok_move (v := V.one (.sc _)) (.inl rfl) rfl) rfl (gle rfl)) rfl ?_
      refine SV.op (OpMk.ok (ok_call (ls := [(false, [.sc _])]) rfl rfl ⟨_, _, Try.func68, rfl, by decide⟩ (hva) ⟨⟨[.ro _], rfl, ⟨rfl, trivial⟩⟩, ⟨[.sc _], rfl, ⟨rfl, trivial⟩⟩, trivial⟩ rfl (gle rfl))) rfl ?_
      refine SV.op (OpL.ok (nb := 3) (ok_move (v := V.one (.sc _)) (.inr rfl) rfl) rfl (gle rfl)) rfl ?_
      refine SV.nil ?_
      refine SV.tn ?_
      refine SV.seq' ?_
      obtain ⟨kw, hkw⟩ : ∃ x, BrokerD.atI b.fWaiting id = x := ⟨_, rfl⟩
      have hvw := vatc_s b.fWaiting id (by omega)
      rw [hkw] at hvw
      refine SV.region ?_
      refine SV.op (OpL.ok (nb := 3) (ok_field_bp (b := 0) (o' := 0) (off := 3) rfl rfl fld_impl_Broker_3) rfl (gle rfl)) rfl ?_
      refine SV.op (OpL.ok (nb := 3) (ok_load_bp (b := 0) (i := 3) (ag := false) (m := 1) (ys := [.ro _]) rfl rfl rfl agg_s_impl_Client sz_s_impl_Client (fun _ => rfl) rfl rfl (gle rfl)) rfl (gle rfl)) rfl ?_
      refine SV.op (OpL.ok (nb := 3) (ok_move (v := V.one (.sc _)) (.inl rfl) rfl) rfl (gle rfl)) rfl ?_
      refine SV.op (OpMk.ok (ok_call (ls := [(false, [.sc _])]) rfl rfl ⟨_, _, Try.func68, rfl, by decide⟩ (hvw) ⟨⟨[.ro _], rfl, ⟨rfl, trivial⟩⟩, ⟨[.sc _], rfl, ⟨rfl, trivial⟩⟩, trivial⟩ rfl (gle rfl))) rfl ?_
      refine SV.op (OpL.ok (nb := 3) (ok_move (v := V.one (.sc _)) (.inr rfl) rfl) rfl (gle rfl)) rfl ?_
      refine SV.nil ?_
      refine SV.tn ?_
      refine SV.seq' ?_
      refine SV.seq' ?_
      refine SV.region ?_
      refine SV.op (OpL.ok (nb := 3) (ok_move (v := V.one (.sc _)) (.inl rfl) rfl) rfl (gle rfl)) rfl ?_
      refine SV.op (OpL.ok (nb := 3) (ok_s2 (x := .tmp 30) (x' := .const ((Value.int IntKind.i64 0))) (VScal.one rfl) (VScal.one rfl) (fun ρ h1 h2 w => by go_simp; (try go_bits); with_reducible rfl) rfl) rfl (gle rfl)) rfl ?_
      refine SV.nil ?_
      refine SV.tn ?_
      refine SV.cond rfl (fun hc2 => ?_) (fun hc2 => ?_)
      · skip   -- c2.T
        obtain ⟨ia, rfl, haa⟩ := BrokerD.at_pos hka (by simp at hc2; omega)
        obtain ⟨ca, hxa, -, hla⟩ := BrokerD.of_at haa
        have hsa := BrokerD.setAt_some (w := w) haa hxa
        refine SV.region ?_
        refine SV.op (OpL.ok (nb := 3) (ok_field_bp (b := 2) (o' := 0) (off := 2) rfl rfl fld_impl_Broker_2) rfl (gle rfl)) rfl ?_
        refine SV.op (OpL.ok (nb := 3) (ok_load_bp (b := 2) (i := 2) (ag := false) (m := 1) (ys := [.hd 0]) rfl rfl rfl agg_s_impl_Client sz_s_impl_Client (fun _ => rfl) rfl rfl (gle rfl)) rfl (gle rfl)) rfl ?_
        refine SV.op (OpL.ok (nb := 3) (ok_move (v := V.one (.sc _)) (.inl rfl) rfl) rfl (gle rfl)) rfl ?_
        refine SV.op (OpL.ok (nb := 3) (ok_move (v := V.one (.sc _)) (.inl rfl) rfl) rfl (gle rfl)) rfl ?_
        refine SV.op (OpL.ok (nb := 3) (ok_index (n := 3) (lf := .hd 0) rfl elt_impl_Client.und sz_impl_Client rfl rfl rfl (map_at hxa)) rfl (gle rfl)) rfl ?_
        refine SV.op (OpL.ok (nb := 3) (ok_field_el (p := .ep 0 _ _ _) (off := 1) rfl rfl (cells_ep rfl (map_at hxa) rfl rfl) fld_impl_Client_1) rfl (gle rfl)) rfl ?_
        refine SV.op (ok_store_ep (i := 0) (n := 3) (m := 1) (ag := false) (zs := [.sc _]) rfl rfl rfl rfl (map_at hxa) sz_int (fun _ => rfl) rfl sz_impl_Client (gle rfl) (outs_c rfl outs_n) (by simp [two]) rfl rfl rfl) rfl ?_
        refine SV.nil ?_
        refine SV.tn ?_
        refine SV.seq' ?_
        refine SV.seq' ?_
        refine SV.region ?_
        refine SV.op (OpL.ok (nb := 3) (ok_move (v := V.one (.sc _)) (.inl rfl) rfl) rfl (gle rfl)) rfl ?_
        refine SV.op (OpL.ok (nb := 3) (ok_s2 (x := .tmp 38) (x' := .const ((Value.int IntKind.i64 0))) (VScal.one rfl) (VScal.one rfl) (fun ρ h1 h2 w => by go_simp; (try go_bits); with_reducible rfl) rfl) rfl (gle rfl)) rfl ?_
        refine SV.nil ?_
        refine SV.tn ?_
        refine SV.cond rfl (fun hc3 => ?_) (fun hc3 => ?_)
        · skip   -- c3.T
          obtain ⟨iw, rfl, haw⟩ := BrokerD.at_pos hkw (by simp at hc3; omega)
          obtain ⟨cw, hxw, -, hlw⟩ := BrokerD.of_at haw
          have hsw := BrokerD.setAt_some (w := w) haw hxw
          refine SV.region ?_
          refine SV.op (OpL.ok (nb := 3) (ok_field_bp (b := 2) (o' := 0) (off := 3) rfl rfl fld_impl_Broker_3) rfl (gle rfl)) rfl ?_
          refine SV.op (OpL.ok (nb := 3) (ok_load_bp (b := 2) (i := 3) (ag := false) (m := 1) (ys := [.hd 1]) rfl rfl rfl agg_s_impl_Client sz_s_impl_Client (fun _ => rfl) rfl rfl (gle rfl)) rfl (gle rfl)) rfl ?_
          refine SV.op (OpL.ok (nb := 3) (ok_move (v := V.one (.sc _)) (.inl rfl) rfl) rfl (gle rfl)) rfl ?_
          refine SV.op (OpL.ok (nb := 3) (ok_move (v := V.one (.sc _)) (.inl rfl) rfl) rfl (gle rfl)) rfl ?_
          refine SV.op (OpL.ok (nb := 3) (ok_index (n := 3) (lf := .hd 1) rfl elt_impl_Client.und sz_impl_Client rfl rfl rfl (map_at hxw)) rfl (gle rfl)) rfl ?_
          refine SV.op (OpL.ok (nb := 3) (ok_field_el (p := .ep 1 _ _ _) (off := 1) rfl rfl (cells_ep rfl (map_at hxw) rfl rfl) fld_impl_Client_1) rfl (gle rfl)) rfl ?_
          refine SV.op (ok_store_ep (i := 1) (n := 3) (m := 1) (ag := false) (zs := [.sc _]) rfl rfl rfl rfl (map_at hxw) sz_int (fun _ => rfl) rfl sz_impl_Client (gle rfl) (outs_c rfl outs_n) (by simp [two]) rfl rfl rfl) rfl ?_
          refine SV.nil ?_
          refine SV.tn ?_
          refine SV.seq' ?_
          refine SV.region ?_
          refine SV.op (OpL.ok (nb := 3) (ok_load_bp (b := 2) (i := 0) (ag := true) (m := 4) (ys := [.sc _, .sc _, .hd 0, .hd 1]) rfl rfl rfl agg_impl_Broker sz_impl_Broker (fun h => by cases h) rfl rfl (gle rfl)) rfl (gle rfl)) rfl ?_
          refine SV.op (OpL.ok (nb := 3) (ok_move (v := V.one (.sc _)) (.inl rfl) rfl) rfl (gle rfl)) rfl ?_
          refine SV.op (OpL.ok (nb := 3) (ok_s2 (x := .tmp 47) (x' := .const ((Value.int IntKind.i64 0))) (VScal.one rfl) (VScal.one rfl) (fun ρ h1 h2 w => by go_simp; (try go_bits); with_reducible rfl) rfl) rfl (gle rfl)) rfl ?_
          refine SV.op (OpL.ok (nb := 3) (ok_move (v := V.one (.sc _)) (.inl rfl) rfl) rfl (gle rfl)) rfl ?_
          refine SV.split (d := 49) rfl (fun hg1 => ?_) (fun hg1 => ?_)
          · skip   -- g1.T
            refine SV.opN rfl rfl rfl (gle rfl) rfl rfl rfl (gle rfl) ?_
            refine SV.opN rfl rfl rfl (gle rfl) rfl rfl rfl (gle rfl) ?_
            refine SV.op (OpL.ok (nb := 3) (ok_pickT (v := V.one (.sc _)) rfl rfl rfl) rfl (gle rfl)) rfl ?_
            refine SV.op (ok_store_bp (b := 1) (i := 0) (m := 4) (ag := true) (zs := [.sc _, .sc _, .hd 0, .hd 1]) (ys := [.sc _, .sc _, .hd 0, .hd 1]) rfl rfl rfl rfl sz_impl_Broker (fun h => by cases h) rfl (gle rfl) rfl rfl rfl) rfl ?_
            refine SV.op (OpL.ok (nb := 3) (ok_move (v := V.one (.sc _)) (.inr rfl) rfl) rfl (gle rfl)) rfl ?_
            refine SV.nil ?_
            refine SV.tn ?_
            refine SV.ret ?_
            apply SV.done (hf := Try.results31) (ht := rfl) (he := .inl rfl)
            case hr => exact (ResAll.cons (ResOk.cell (b := 1) (ag := true) (xs := [.sc _, .sc _, .hd 0, .hd 1]) rfl rfl agg_impl_Broker sz_impl_Broker (fun h => by cases h)) (ResAll.cons (ResOk.tmp (ag := false) (xs := [.sc _]) rfl) ResAll.nil'))
            case h2 => simp [two]
            refine ⟨rfl, ⟨?_, ?_, ?_, ?_, trivial⟩, ⟨rfl, ⟨?_, trivial⟩, trivial⟩⟩ <;> first | rfl | (rw [ho, hsa]; rfl) | ((show some (T.seq _ _) = some (T.seq _ _); refine congrArg (fun z => some (T.seq _ z)) ?_; rw [ho, hsa]; first | done | rfl | (simp [tClient]; done) | (simp [List.map_set, tClient]; done))) | ((show some (T.lit (Value.int .i64 _)) = some (T.lit (Value.int .i64 _)); refine congrArg (fun z => some (T.lit (Value.int .i64 z))) ?_; rw [ho, hsa]; first | done | rfl)) | ((show some (T.lit (Value.bool _)) = some (T.lit (Value.bool _)); refine congrArg (fun z => some (T.lit (Value.bool z))) ?_; rw [ho, hsa]; first | done | rfl | (simp; done))) | (rw [ho, hsw]; rfl) | ((show some (T.seq _ _) = some (T.seq _ _); refine congrArg (fun z => some (T.seq _ z)) ?_; rw [ho, hsw]; first | done | rfl | (simp [tClient]; done) | (simp [List.map_set, tClient]; done))) | ((show some (T.lit (Value.int .i64 _)) = some (T.lit (Value.int .i64 _)); refine congrArg (fun z => some (T.lit (Value.int .i64 z))) ?_; rw [ho, hsw]; first | done | rfl)) | ((show some (T.lit (Value.bool _)) = some (T.lit (Value.bool _)); refine congrArg (fun z => some (T.lit (Value.bool z))) ?_; rw [ho, hsw]; first | done | rfl | (simp; done))) | (rw [ho]; rfl) | ((show some (T.seq _ _) = some (T.seq _ _); refine congrArg (fun z => some (T.seq _ z)) ?_; rw [ho]; first | done | rfl | (simp [tClient]; done) | (simp [List.map_set, tClient]; done))) | ((show some (T.lit (Value.int .i64 _)) = some (T.lit (Value.int .i64 _)); refine congrArg (fun z => some (T.lit (Value.int .i64 z))) ?_; rw [ho]; first | done | rfl)) | ((show some (T.lit (Value.bool _)) = some (T.lit (Value.bool _)); refine congrArg (fun z => some (T.lit (Value.bool z))) ?_; rw [ho]; first | done | rfl | (simp; done))) | (rw [hq, haa, haw]; rfl) | ((show some (T.seq _ _) = some (T.seq _ _); refine congrArg (fun z => some (T.seq _ z)) ?_; rw [hq, haa, haw]; first | done | rfl | (simp [tClient]; done) | (simp [List.map_set, tClient]; done))) | ((show some (T.lit (Value.int .i64 _)) = some (T.lit (Value.int .i64 _)); refine congrArg (fun z => some (T.lit (Value.int .i64 z))) ?_; rw [hq, haa, haw]; first | done | rfl)) | ((show some (T.lit (Value.bool _)) = some (T.lit (Value.bool _)); refine congrArg (fun z => some (T.lit (Value.bool z))) ?_; rw [hq, haa, haw]; first | done | rfl | (simp; done))) | (rw [hq]; rfl) | ((show some (T.seq _ _) = some (T.seq _ _); refine congrArg (fun z => some (T.seq _ z)) ?_; rw [hq]; first | done | rfl | (simp [tClient]; done) | (simp [List.map_set, tClient]; done))) | ((show some (T.lit (Value.int .i64 _)) = some (T.lit (Value.int .i64 _)); refine congrArg (fun z => some (T.lit (Value.int .i64 z))) ?_; rw [hq]; first | done | rfl)) | ((show some (T.lit (Value.bool _)) = some (T.lit (Value.bool _)); refine congrArg (fun z => some (T.lit (Value.bool z))) ?_; rw [hq]; first | done | rfl | (simp; done)))
          · skip   -- g1.F
            (exfalso; first | (simp at hg1; done) | (simp at hg1; omega))
        · skip   -- c3.F
          have haw := BrokerD.at_neg hkw (by simp at hc3; omega)
          have hsw := BrokerD.setAt_none (w := w) haw
          refine SV.skip ?_
          refine SV.tn ?_
          refine SV.seq' ?_
          refine SV.region ?_
          refine SV.op (OpL.ok (nb := 3) (ok_load_bp (b := 2) (i := 0) (ag := true) (m := 4) (ys := [.sc _, .sc _, .hd 0, .hd 1]) rfl rfl rfl agg_impl_Broker sz_impl_Broker (fun h => by cases h) rfl rfl (gle rfl)) rfl (gle rfl)) rfl ?_
          refine SV.op (OpL.ok (nb := 3) (ok_move (v := V.one (.sc _)) (.inl rfl) rfl) rfl (gle rfl)) rfl ?_
          refine SV.op (OpL.ok (nb := 3) (ok_s2 (x := .tmp 47) (x' := .const ((Value.int IntKind.i64 0))) (VScal.one rfl) (VScal.one rfl) (fun ρ h1 h2 w => by go_simp; (try go_bits); with_reducible rfl) rfl) rfl (gle rfl)) rfl ?_
          refine SV.op (OpL.ok (nb := 3) (ok_move (v := V.one (.sc _)) (.inl rfl) rfl) rfl (gle rfl)) rfl ?_
          refine SV.split (d := 49) rfl (fun hg2 => ?_) (fun hg2 => ?_)
          · skip   -- g2.T
            refine SV.opN rfl rfl rfl (gle rfl) rfl rfl rfl (gle rfl) ?_
            refine SV.opN rfl rfl rfl (gle rfl) rfl rfl rfl (gle rfl) ?_
            refine SV.op (OpL.ok (nb := 3) (ok_pickT (v := V.one (.sc _)) rfl rfl rfl) rfl (gle rfl)) rfl ?_
            refine SV.op (ok_store_bp (b := 1) (i := 0) (m := 4) (ag := true) (zs := [.sc _, .sc _, .hd 0, .hd 1]) (ys := [.sc _, .sc _, .hd 0, .hd 1]) rfl rfl rfl rfl sz_impl_Broker (fun h => by cases h) rfl (gle rfl) rfl rfl rfl) rfl ?_
            refine SV.op (OpL.ok (nb := 3) (ok_move (v := V.one (.sc _)) (.inr rfl) rfl) rfl (gle rfl)) rfl ?_
            refine SV.nil ?_
            refine SV.tn ?_
            refine SV.ret ?_
            apply SV.done (hf := Try.results31) (ht := rfl) (he := .inl rfl)
            case hr => exact (ResAll.cons (ResOk.cell (b := 1) (ag := true) (xs := [.sc _, .sc _, .hd 0, .hd 1]) rfl rfl agg_impl_Broker sz_impl_Broker (fun h => by cases h)) (ResAll.cons (ResOk.tmp (ag := false) (xs := [.sc _]) rfl) ResAll.nil'))
            case h2 => simp [two]
            refine ⟨rfl, ⟨?_, ?_, ?_, ?_, trivial⟩, ⟨rfl, ⟨?_, trivial⟩, trivial⟩⟩ <;> first | rfl | (rw [ho, hsa]; rfl) | ((show some (T.seq _ _) = some (T.seq _ _); refine congrArg (fun z => some (T.seq _ z)) ?_; rw [ho, hsa]; first | done | rfl | (simp [tClient]; done) | (simp [List.map_set, tClient]; done))) | ((show some (T.lit (Value.int .i64 _)) = some (T.lit (Value.int .i64 _)); refine congrArg (fun z => some (T.lit (Value.int .i64 z))) ?_; rw [ho, hsa]; first | done | rfl)) | ((show some (T.lit (Value.bool _)) = some (T.lit (Value.bool _)); refine congrArg (fun z => some (T.lit (Value.bool z))) ?_; rw [ho, hsa]; first | done | rfl | (simp; done))) | (rw [ho, hsw]; rfl) | ((show some (T.seq _ _) = some (T.seq _ _); refine congrArg (fun z => some (T.seq _ z)) ?_; rw [ho, hsw]; first | done | rfl | (simp [tClient]; done) | (simp [List.map_set, tClient]; done))) | ((show some (T.lit (Value.int .i64 _)) = some (T.lit (Value.int .i64 _)); refine congrArg (fun z => some (T.lit (Value.int .i64 z))) ?_; rw [ho, hsw]; first | done | rfl)) | ((show some (T.lit (Value.bool _)) = some (T.lit (Value.bool _)); refine congrArg (fun z => some (T.lit (Value.bool z))) ?_; rw [ho, hsw]; first | done | rfl | (simp; done))) | (rw [ho]; rfl) | ((show some (T.seq _ _) = some (T.seq _ _); refine congrArg (fun z => some (T.seq _ z)) ?_; rw [ho]; first | done | rfl | (simp [tClient]; done) | (simp [List.map_set, tClient]; done))) | ((show some (T.lit (Value.int .i64 _)) = some (T.lit (Value.int .i64 _)); refine congrArg (fun z => some (T.lit (Value.int .i64 z))) ?_; rw [ho]; first | done | rfl)) | ((show some (T.lit (Value.bool _)) = some (T.lit (Value.bool _)); refine congrArg (fun z => some (T.lit (Value.bool z))) ?_; rw [ho]; first | done | rfl | (simp; done))) | (rw [hq, haa, haw]; rfl) | ((show some (T.seq _ _) = some (T.seq _ _); refine congrArg (fun z => some (T.seq _ z)) ?_; rw [hq, haa, haw]; first | done | rfl | (simp [tClient]; done) | (simp [List.map_set, tClient]; done))) | ((show some (T.lit (Value.int .i64 _)) = some (T.lit (Value.int .i64 _)); refine congrArg (fun z => some (T.lit (Value.int .i64 z))) ?_; rw [hq, haa, haw]; first | done | rfl)) | ((show some (T.lit (Value.bool _)) = some (T.lit (Value.bool _)); refine congrArg (fun z => some (T.lit (Value.bool z))) ?_; rw [hq, haa, haw]; first | done | rfl | (simp; done))) | (rw [hq]; rfl) | ((show some (T.seq _ _) = some (T.seq _ _); refine congrArg (fun z => some (T.seq _ z)) ?_; rw [hq]; first | done | rfl | (simp [tClient]; done) | (simp [List.map_set, tClient]; done))) | ((show some (T.lit (Value.int .i64 _)) = some (T.lit (Value.int .i64 _)); refine congrArg (fun z => some (T.lit (Value.int .i64 z))) ?_; rw [hq]; first | done | rfl)) | ((show some (T.lit (Value.bool _)) = some (T.lit (Value.bool _)); refine congrArg (fun z => some (T.lit (Value.bool z))) ?_; rw [hq]; first | done | rfl | (simp; done)))
          · skip   -- g2.F
            (exfalso; first | (simp at hg2; done) | (simp at hg2; omega))
      · skip   -- c2.F
        have haa := BrokerD.at_neg hka (by simp at hc2; omega)
        have hsa := BrokerD.setAt_none (w := w) haa
        refine SV.skip ?_
        refine SV.tn ?_
        refine SV.seq' ?_
        refine SV.seq' ?_
        refine SV.region ?_
        refine SV.op (OpL.ok (nb := 3) (ok_move (v := V.one (.sc _)) (.inl rfl) rfl) rfl (gle rfl)) rfl ?_
        refine SV.op (OpL.ok (nb := 3) (ok_s2 (x := .tmp 38) (x' := .const ((Value.int IntKind.i64 0))) (VScal.one rfl) (VScal.one rfl) (fun ρ h1 h2 w => by go_simp; (try go_bits); with_reducible rfl) rfl) rfl (gle rfl)) rfl ?_
        refine SV.nil ?_
        refine SV.tn ?_
        refine SV.cond rfl (fun hc4 => ?_) (fun hc4 => ?_)
        · skip   -- c4.T
          obtain ⟨iw, rfl, haw⟩ := BrokerD.at_pos hkw (by simp at hc4; omega)
          obtain ⟨cw, hxw, -, hlw⟩ := BrokerD.of_at haw
          have hsw := BrokerD.setAt_some (w := w) haw hxw
          refine SV.region ?_
          refine SV.op (OpL.ok (nb := 3) (ok_field_bp (b := 2) (o' := 0) (off := 3) rfl rfl fld_impl_Broker_3) rfl (gle rfl)) rfl ?_
          refine SV.op (OpL.ok (nb := 3) (ok_load_bp (b := 2) (i := 3) (ag := false) (m := 1) (ys := [.hd 1]) rfl rfl rfl agg_s_impl_Client sz_s_impl_Client (fun _ => rfl) rfl rfl (gle rfl)) rfl (gle rfl)) rfl ?_
          refine SV.op (OpL.ok (nb := 3) (ok_move (v := V.one (.sc _)) (.inl rfl) rfl) rfl (gle rfl)) rfl ?_
          refine SV.op (OpL.ok (nb := 3) (ok_move (v := V.one (.sc _)) (.inl rfl) rfl) rfl (gle rfl)) rfl ?_
          refine SV.op (OpL.ok (nb := 3) (ok_index (n := 3) (lf := .hd 1) rfl elt_impl_Client.und sz_impl_Client rfl rfl rfl (map_at hxw)) rfl (gle rfl)) rfl ?_
          refine SV.op (OpL.ok (nb := 3) (ok_field_el (p := .ep 1 _ _ _) (off := 1) rfl rfl (cells_ep rfl (map_at hxw) rfl rfl) fld_impl_Client_1) rfl (gle rfl)) rfl ?_
          refine SV.op (ok_store_ep (i := 1) (n := 3) (m := 1) (ag := false) (zs := [.sc _]) rfl rfl rfl rfl (map_at hxw) sz_int (fun _ => rfl) rfl sz_impl_Client (gle rfl) (outs_c rfl outs_n) (by simp [two]) rfl rfl rfl) rfl ?_
          refine SV.nil ?_
          refine SV.tn ?_
          refine SV.seq' ?_
          refine SV.region ?_
          refine SV.op (OpL.ok (nb := 3) (ok_load_bp (b := 2) (i := 0) (ag := true) (m := 4) (ys := [.sc _, .sc _, .hd 0, .hd 1]) rfl rfl rfl agg_impl_Broker sz_impl_Broker (fun h => by cases h) rfl rfl (gle rfl)) rfl (gle rfl)) rfl ?_
          refine SV.op (OpL.ok (nb := 3) (ok_move (v := V.one (.sc _)) (.inl rfl) rfl) rfl (gle rfl)) rfl ?_
          refine SV.op (OpL.ok (nb := 3) (ok_s2 (x := .tmp 47) (x' := .const ((Value.int IntKind.i64 0))) (VScal.one rfl) (VScal.one rfl) (fun ρ h1 h2 w => by go_simp; (try go_bits); with_reducible rfl) rfl) rfl (gle rfl)) rfl ?_
          refine SV.op (OpL.ok (nb := 3) (ok_move (v := V.one (.sc _)) (.inl rfl) rfl) rfl (gle rfl)) rfl ?_
          refine SV.split (d := 49) rfl (fun hg3 => ?_) (fun hg3 => ?_)
          · skip   -- g3.T
            (exfalso; first | (simp at hg3; done) | (simp at hg3; omega))
          · skip   -- g3.F
            refine SV.opY (OpL.ok (nb := 3) (ok_move (v := V.one (.sc _)) (.inl rfl) rfl) rfl (gle rfl)) rfl rfl rfl (gle rfl) rfl rfl ?_
            refine SV.opY (OpL.ok (nb := 3) (ok_s2 (x := .tmp 50) (x' := .const ((Value.int IntKind.i64 0))) (VScal.one rfl) (VScal.one rfl) (fun ρ h1 h2 w => by go_simp; (try go_bits); with_reducible rfl) rfl) rfl (gle rfl)) rfl rfl rfl (gle rfl) rfl rfl ?_
            refine SV.op (OpL.ok (nb := 3) (ok_pickF (v := V.one (.sc _)) rfl rfl rfl) rfl (gle rfl)) rfl ?_
            refine SV.op (ok_store_bp (b := 1) (i := 0) (m := 4) (ag := true) (zs := [.sc _, .sc _, .hd 0, .hd 1]) (ys := [.sc _, .sc _, .hd 0, .hd 1]) rfl rfl rfl rfl sz_impl_Broker (fun h => by cases h) rfl (gle rfl) rfl rfl rfl) rfl ?_
            refine SV.op (OpL.ok (nb := 3) (ok_move (v := V.one (.sc _)) (.inr rfl) rfl) rfl (gle rfl)) rfl ?_
            refine SV.nil ?_
            refine SV.tn ?_
            refine SV.ret ?_
            apply SV.done (hf := Try.results31) (ht := rfl) (he := .inl rfl)
            case hr => exact (ResAll.cons (ResOk.cell (b := 1) (ag := true) (xs := [.sc _, .sc _, .hd 0, .hd 1]) rfl rfl agg_impl_Broker sz_impl_Broker (fun h => by cases h)) (ResAll.cons (ResOk.tmp (ag := false) (xs := [.sc _]) rfl) ResAll.nil'))
            case h2 => simp [two]
            refine ⟨rfl, ⟨?_, ?_, ?_, ?_, trivial⟩, ⟨rfl, ⟨?_, trivial⟩, trivial⟩⟩ <;> first | rfl | (rw [ho, hsa]; rfl) | ((show some (T.seq _ _) = some (T.seq _ _); refine congrArg (fun z => some (T.seq _ z)) ?_; rw [ho, hsa]; first | done | rfl | (simp [tClient]; done) | (simp [List.map_set, tClient]; done))) | ((show some (T.lit (Value.int .i64 _)) = some (T.lit (Value.int .i64 _)); refine congrArg (fun z => some (T.lit (Value.int .i64 z))) ?_; rw [ho, hsa]; first | done | rfl)) | ((show some (T.lit (Value.bool _)) = some (T.lit (Value.bool _)); refine congrArg (fun z => some (T.lit (Value.bool z))) ?_; rw [ho, hsa]; first | done | rfl | (simp; done))) | (rw [ho, hsw]; rfl) | ((show some (T.seq _ _) = some (T.seq _ _); refine congrArg (fun z => some (T.seq _ z)) ?_; rw [ho, hsw]; first | done | rfl | (simp [tClient]; done) | (simp [List.map_set, tClient]; done))) | ((show some (T.lit (Value.int .i64 _)) = some (T.lit (Value.int .i64 _)); refine congrArg (fun z => some (T.lit (Value.int .i64 z))) ?_; rw [ho, hsw]; first | done | rfl)) | ((show some (T.lit (Value.bool _)) = some (T.lit (Value.bool _)); refine congrArg (fun z => some (T.lit (Value.bool z))) ?_; rw [ho, hsw]; first | done | rfl | (simp; done))) | (rw [ho]; rfl) | ((show some (T.seq _ _) = some (T.seq _ _); refine congrArg (fun z => some (T.seq _ z)) ?_; rw [ho]; first | done | rfl | (simp [tClient]; done) | (simp [List.map_set, tClient]; done))) | ((show some (T.lit (Value.int .i64 _)) = some (T.lit (Value.int .i64 _)); refine congrArg (fun z => some (T.lit (Value.int .i64 z))) ?_; rw [ho]; first | done | rfl)) | ((show some (T.lit (Value.bool _)) = some (T.lit (Value.bool _)); refine congrArg (fun z => some (T.lit (Value.bool z))) ?_; rw [ho]; first | done | rfl | (simp; done))) | (rw [hq, haa, haw]; rfl) | ((show some (T.seq _ _) = some (T.seq _ _); refine congrArg (fun z => some (T.seq _ z)) ?_; rw [hq, haa, haw]; first | done | rfl | (simp [tClient]; done) | (simp [List.map_set, tClient]; done))) | ((show some (T.lit (Value.int .i64 _)) = some (T.lit (Value.int .i64 _)); refine congrArg (fun z => some (T.lit (Value.int .i64 z))) ?_; rw [hq, haa, haw]; first | done | rfl)) | ((show some (T.lit (Value.bool _)) = some (T.lit (Value.bool _)); refine congrArg (fun z => some (T.lit (Value.bool z))) ?_; rw [hq, haa, haw]; first | done | rfl | (simp; done))) | (rw [hq]; rfl) | ((show some (T.seq _ _) = some (T.seq _ _); refine congrArg (fun z => some (T.seq _ z)) ?_; rw [hq]; first | done | rfl | (simp [tClient]; done) | (simp [List.map_set, tClient]; done))) | ((show some (T.lit (Value.int .i64 _)) = some (T.lit (Value.int .i64 _)); refine congrArg (fun z => some (T.lit (Value.int .i64 z))) ?_; rw [hq]; first | done | rfl)) | ((show some (T.lit (Value.bool _)) = some (T.lit (Value.bool _)); refine congrArg (fun z => some (T.lit (Value.bool z))) ?_; rw [hq]; first | done | rfl | (simp; done)))
        · skip   -- c4.F
          have haw := BrokerD.at_neg hkw (by simp at hc4; omega)
          have hsw := BrokerD.setAt_none (w := w) haw
          refine SV.skip ?_
          refine SV.tn ?_
          refine SV.seq' ?_
          refine SV.region ?_
          refine SV.op (OpL.ok (nb := 3) (ok_load_bp (b := 2) (i := 0) (ag := true) (m := 4) (ys := [.sc _, .sc _, .hd 0, .hd 1]) rfl rfl rfl agg_impl_Broker sz_impl_Broker (fun h => by cases h) rfl rfl (gle rfl)) rfl (gle rfl)) rfl ?_
          refine SV.op (OpL.ok (nb := 3) (ok_move (v := V.one (.sc _)) (.inl rfl) rfl) rfl (gle rfl)) rfl ?_
          refine SV.op (OpL.ok (nb := 3) (ok_s2 (x := .tmp 47) (x' := .const ((Value.int IntKind.i64 0))) (VScal.one rfl) (VScal.one rfl) (fun ρ h1 h2 w => by go_simp; (try go_bits); with_reducible rfl) rfl) rfl (gle rfl)) rfl ?_
          refine SV.op (OpL.ok (nb := 3) (ok_move (v := V.one (.sc _)) (.inl rfl) rfl) rfl (gle rfl)) rfl ?_
          refine SV.split (d := 49) rfl (fun hg4 => ?_) (fun hg4 => ?_)
          · skip   -- g4.T
            (exfalso; first | (simp at hg4; done) | (simp at hg4; omega))
          · skip   -- g4.F
            refine SV.opY (OpL.ok (nb := 3) (ok_move (v := V.one (.sc _)) (.inl rfl) rfl) rfl (gle rfl)) rfl rfl rfl (gle rfl) rfl rfl ?_
            refine SV.opY (OpL.ok (nb := 3) (ok_s2 (x := .tmp 50) (x' := .const ((Value.int IntKind.i64 0))) (VScal.one rfl) (VScal.one rfl) (fun ρ h1 h2 w => by go_simp; (try go_bits); with_reducible rfl) rfl) rfl (gle rfl)) rfl rfl rfl (gle rfl) rfl rfl ?_
            refine SV.op (OpL.ok (nb := 3) (ok_pickF (v := V.one (.sc _)) rfl rfl rfl) rfl (gle rfl)) rfl ?_
            refine SV.op (ok_store_bp (b := 1) (i := 0) (m := 4) (ag := true) (zs := [.sc _, .sc _, .hd 0, .hd 1]) (ys := [.sc _, .sc _, .hd 0, .hd 1]) rfl rfl rfl rfl sz_impl_Broker (fun h => by cases h) rfl (gle rfl) rfl rfl rfl) rfl ?_
            refine SV.op (OpL.ok (nb := 3) (ok_move (v := V.one (.sc _)) (.inr rfl) rfl) rfl (gle rfl)) rfl ?_
            refine SV.nil ?_
            refine SV.tn ?_
            refine SV.ret ?_
            apply SV.done (hf := Try.results31) (ht := rfl) (he := .inl rfl)
            case hr => exact (ResAll.cons (ResOk.cell (b := 1) (ag := true) (xs := [.sc _, .sc _, .hd 0, .hd 1]) rfl rfl agg_impl_Broker sz_impl_Broker (fun h => by cases h)) (ResAll.cons (ResOk.tmp (ag := false) (xs := [.sc _]) rfl) ResAll.nil'))
            case h2 => simp [two]
            refine ⟨rfl, ⟨?_, ?_, ?_, ?_, trivial⟩, ⟨rfl, ⟨?_, trivial⟩, trivial⟩⟩ <;> first | rfl | (rw [ho, hsa]; rfl) | ((show some (T.seq _ _) = some (T.seq _ _); refine congrArg (fun z => some (T.seq _ z)) ?_; rw [ho, hsa]; first | done | rfl | (simp [tClient]; done) | (simp [List.map_set, tClient]; done))) | ((show some (T.lit (Value.int .i64 _)) = some (T.lit (Value.int .i64 _)); refine congrArg (fun z => some (T.lit (Value.int .i64 z))) ?_; rw [ho, hsa]; first | done | rfl)) | ((show some (T.lit (Value.bool _)) = some (T.lit (Value.bool _)); refine congrArg (fun z => some (T.lit (Value.bool z))) ?_; rw [ho, hsa]; first | done | rfl | (simp; done))) | (rw [ho, hsw]; rfl) | ((show some (T.seq _ _) = some (T.seq _ _); refine congrArg (fun z => some (T.seq _ z)) ?_; rw [ho, hsw]; first | done | rfl | (simp [tClient]; done) | (simp [List.map_set, tClient]; done))) | ((show some (T.lit (Value.int .i64 _)) = some (T.lit (Value.int .i64 _)); refine congrArg (fun z => some (T.lit (Value.int .i64 z))) ?_; rw [ho, hsw]; first | done | rfl)) | ((show some (T.lit (Value.bool _)) = some (T.lit (Value.bool _)); refine congrArg (fun z => some (T.lit (Value.bool z))) ?_; rw [ho, hsw]; first | done | rfl | (simp; done))) | (rw [ho]; rfl) | ((show some (T.seq _ _) = some (T.seq _ _); refine congrArg (fun z => some (T.seq _ z)) ?_; rw [ho]; first | done | rfl | (simp [tClient]; done) | (simp [List.map_set, tClient]; done))) | ((show some (T.lit (Value.int .i64 _)) = some (T.lit (Value.int .i64 _)); refine congrArg (fun z => some (T.lit (Value.int .i64 z))) ?_; rw [ho]; first | done | rfl)) | ((show some (T.lit (Value.bool _)) = some (T.lit (Value.bool _)); refine congrArg (fun z => some (T.lit (Value.bool z))) ?_; rw [ho]; first | done | rfl | (simp; done))) | (rw [hq, haa, haw]; rfl) | ((show some (T.seq _ _) = some (T.seq _ _); refine congrArg (fun z => some (T.seq _ z)) ?_; rw [hq, haa, haw]; first | done | rfl | (simp [tClient]; done) | (simp [List.map_set, tClient]; done))) | ((show some (T.lit (Value.int .i64 _)) = some (T.lit (Value.int .i64 _)); refine congrArg (fun z => some (T.lit (Value.int .i64 z))) ?_; rw [hq, haa, haw]; first | done | rfl)) | ((show some (T.lit (Value.bool _)) = some (T.lit (Value.bool _)); refine congrArg (fun z => some (T.lit (Value.bool z))) ?_; rw [hq, haa, haw]; first | done | rfl | (simp; done))) | (rw [hq]; rfl) | ((show some (T.seq _ _) = some (T.seq _ _); refine congrArg (fun z => some (T.seq _ z)) ?_; rw [hq]; first | done | rfl | (simp [tClient]; done) | (simp [List.map_set, tClient]; done))) | ((show some (T.lit (Value.int .i64 _)) = some (T.lit (Value.int .i64 _)); refine congrArg (fun z => some (T.lit (Value.int .i64 z))) ?_; rw [hq]; first | done | rfl)) | ((show some (T.lit (Value.bool _)) = some (T.lit (Value.bool _)); refine congrArg (fun z => some (T.lit (Value.bool z))) ?_; rw [hq]; first | done | rfl | (simp; done)))
end Go.Proofs.Ytfghhjcfmmhacaa
/- States told by trees: a nested slice is taken out of an object, as an object of its own. -/
namespace Go.Proofs.Ytfghhjcfmmhacaa.V
open Go Go.RowKit
set_option linter.unusedVariables false
variable {P : Program} {E : Env} {N : Nat} {σ σ' τ : VS} {a : Act} {w ws : World} {G : Ghost}
theorem at_ne {n k k' j o : Nat} (hj : j < n) (ho : o < n) (h : k' ≠ k) : k' * n + j ≠ k * n + o := by
  rcases Nat.lt_or_gt_of_ne h with h1 | h1
  · have := Nat.mul_le_mul_right n (show k' + 1 ≤ k from h1)
    rw [Nat.add_mul, Nat.one_mul] at this
    omega
  · have := Nat.mul_le_mul_right n (show k + 1 ≤ k' from h1)
    rw [Nat.add_mul, Nat.one_mul] at this
    omega
theorem Own.take {ty pty : TypeId} {es : List (List T)} {e : List T} {ps : List (List T)} {v u : Value} {F : Nat → Prop} {k o : Nat} (h : Own w 0 (.seq ty es) v F) (hk : es[k]? = some e) (ho : e[o]? = some (.seq pty ps))
    (hu : ∀ xs : List Value, ∀ n, e.length = n → w.ownsRow 0 ty n v es.length xs → xs[k * n + o]? = some u) : ∃ D : Nat → Prop, Own w 0 (.seq pty ps) u D ∧ (∀ b, D b → F b) ∧ Own w 0 (.seq ty (es.set k (e.set o .any))) v (fun b => F b ∧ ¬ D b) := by
  cases h with
  | seq n hp hz hn xs hown Gs hr hone hF hG hne hd =>
    have hen : e.length = n := hn e (get_mem hk)
    have hon : o < n := by rw [← hen]; exact get_lt ho
    have hx := hu xs n hen hown
    refine ⟨Gs (k * n + o), hr k e o _ u hk ho hx, fun b hb => hG _ b hb, ?_⟩
    refine .seq n hp hz (fun f hf => ?_) xs (by rw [List.length_set]; exact hown) (fun i b => Gs i b ∧ i ≠ k * n + o) (fun k' e' j t u' h1 h2 h3 => ?_) hone (fun b hb => ⟨hF b hb, fun hg => hne _ b hg hb⟩) (fun i b hb => ⟨hG i b hb.1, fun hg => hb.2 (hd _ _ b hb.1 hg)⟩) (fun i b hb => hne i b hb.1) fun i j b h1 h2 => hd i j b h1.1 h2.1
    · rcases List.mem_or_eq_of_mem_set hf with h1 | h1
      · exact hn f h1
      · rw [h1, List.length_set]; exact hen
    · by_cases hkk : k' = k
      · subst hkk
        rw [List.getElem?_set_self (get_lt hk)] at h1
        cases h1
        by_cases hjo : j = o
        · subst hjo
          rw [List.getElem?_set_self (get_lt ho)] at h2
          cases h2
          exact .any (hone _ (get_mem h3))
        · rw [List.getElem?_set_ne (fun q => hjo q.symm)] at h2
          exact (hr k' e j t u' hk h2 h3).mono fun b hb => ⟨hb, by omega⟩
      · rw [List.getElem?_set_ne (fun q => hkk q.symm)] at h1
        have hjn : j < n := by rw [← hn e' (get_mem h1)]; exact get_lt h2
        exact (hr k' e' j t u' h1 h2 h3).mono fun b hb => ⟨hb, at_ne hjn hon hkk⟩
theorem Rel.take (h : Rel E N σ a w G) {d i ver k o p : Nat} {ag : Bool} {ls : List Leaf} {ty pty : TypeId} {es : List (List T)} {e : List T} {ps : List (List T)} (hd : d < N) (hs : σ.tm d = V.flat ag ls) (hp : ls[p]? = some (.nd i ver (.seq pty ps) (some (k, o)))) (hi : σ.ob i = some (ver, .seq ty es)) (hk : es[k]? = some e) (ho : e[o]? = some (.seq pty ps)) :
    ∃ G', Rel E N (((σ.setob i (.seq ty (es.set k (e.set o .any)))).new (.seq pty ps)).put d (V.flat ag (ls.set p (.hd σ.nx)))) a w G' ∧ (∀ j, j < σ.nx → G'.vl j = G.vl j) ∧ G'.β = G.β := by
  have ht := h.tmps d
  rw [hs] at ht
  obtain ⟨uss, hl, hval, hh⟩ := ht
  obtain ⟨us, rfl⟩ : ∃ us, uss = [us] := by
    match uss, hl with
    | [us], _ => exact ⟨us, rfl⟩
  obtain ⟨hlen, hcell⟩ := hh 0 ag ls us rfl rfl
  have hpl : p < us.length := by rw [hlen]; exact get_lt hp
  obtain ⟨u, hu⟩ : ∃ u, us[p]? = some u := ⟨us[p], List.getElem?_eq_getElem hpl⟩
  obtain ⟨⟨hin, -, hnd⟩, -⟩ := hcell p _ u hp hu
  obtain ⟨-, hloc⟩ := hnd ⟨_, hi⟩
  obtain ⟨g, M, c, n, ty', es', e', h1, h2, h3, h4, h5, h6⟩ := hloc k o rfl
  rw [hi] at h1
  cases h1
  rw [hk] at h3
  cases h3
  obtain ⟨hlt, hown, -⟩ := h.objs i ver _ hi
  obtain ⟨D, hD1, hD2, hD3⟩ := hown.take (u := u) hk ho fun xs m hm hrow => by
    have hmn : m = n := hm.symm.trans h4
    subst hmn
    have hcl := at_lt (get_lt hk) h5
    obtain ⟨ad, c', hv, -, -, -, hg⟩ := own_slice hrow
    have hpos : 0 < es.length := Nat.lt_of_le_of_lt (Nat.zero_le _) (get_lt hk)
    obtain ⟨g', hg', -, -, hx, -⟩ := hg hpos
    rw [h2] at hv
    injection hv with hv1 hv2 hv3
    rw [hg'] at hv1
    injection hv1 with hv1
    injection hv1 with hv1
    subst hv1
    have hxl : xs.length = es.length * m := hrow.1
    have hxs : xs[k * m + o]? = some xs[k * m + o] := List.getElem?_eq_getElem (by rw [hxl]; exact hcl)
    have := (hx _ _ hxs).symm.trans h6
    rw [hxs, this]
  obtain ⟨σ1, hσ1⟩ : ∃ σ1, σ1 = (σ.setob i (.seq ty (es.set k (e.set o .any)))).new (.seq pty ps) := ⟨_, rfl⟩
  obtain ⟨G', hG'⟩ : ∃ G' : Ghost, G' = { G with vl := fun j => if j = σ.nx then u else G.vl j, ft := fun j => if j = σ.nx then D else if j = i then (fun b => G.ft i b ∧ ¬ D b) else G.ft j } := ⟨_, rfl⟩
  have hine : i ≠ σ.nx := Nat.ne_of_lt hlt
  have hvn : G'.vl σ.nx = u := by rw [hG']; exact if_pos rfl
  have hfn : G'.ft σ.nx = D := by rw [hG']; exact if_pos rfl
  have hvo : ∀ j, j ≠ σ.nx → G'.vl j = G.vl j := fun j hj => by rw [hG']; exact if_neg hj
  have hfi : G'.ft i = fun b => G.ft i b ∧ ¬ D b := by rw [hG']; show (if i = σ.nx then _ else _) = _; rw [if_neg hine, if_pos rfl]
  have hfo : ∀ j, j ≠ σ.nx → j ≠ i → G'.ft j = G.ft j := fun j hj hji => by rw [hG']; show (if j = σ.nx then _ else _) = _; rw [if_neg hj, if_neg hji]
  have hb1 : σ1.ob σ.nx = some (0, .seq pty ps) := by rw [hσ1]; show (bif Nat.beq σ.nx σ.nx then _ else _) = _; rw [Nat.beq_refl]; rfl
  have hb2 : σ1.ob i = some (ver + 1, .seq ty (es.set k (e.set o .any))) := by rw [hσ1]; show (bif Nat.beq i σ.nx then _ else _) = _; rw [nbne hine]; show (σ.setob i _).ob i = _; rw [setob_self, hi]; rfl
  have hb3 : ∀ j, j ≠ σ.nx → j ≠ i → σ1.ob j = σ.ob j := fun j hj hji => by rw [hσ1]; show (bif Nat.beq j σ.nx then _ else _) = _; rw [nbne hj]; exact setob_ne hji
  have hft : ∀ j b, σ1.ob j ≠ none → G'.ft j b → (j = σ.nx ∧ D b) ∨ (j = i ∧ G.ft i b ∧ ¬ D b) ∨ (j ≠ σ.nx ∧ j ≠ i ∧ σ.ob j ≠ none ∧ G.ft j b) := fun j b hj hb => by
    by_cases h7 : j = σ.nx
    · subst h7; rw [hfn] at hb; exact .inl ⟨rfl, hb⟩
    · by_cases h8 : j = i
      · subst h8; rw [hfi] at hb; exact .inr (.inl ⟨rfl, hb⟩)
      · rw [hfo j h7 h8] at hb; rw [hb3 j h7 h8] at hj; exact .inr (.inr ⟨h7, h8, hj, hb⟩)
  have hio : σ.ob i ≠ none := by rw [hi]; simp
  have hturn := h.turn (σ' := σ1) (w' := w) (G' := G') (fun _ => False) (by rw [hσ1]; rfl) (by rw [hσ1]; rfl) (by rw [hG']) (Same.refl _ _) (fun _ _ _ => rfl) (fun _ _ hf => hf) (by rw [hσ1]; exact Nat.le_succ _) (fun j hj => hvo j (Nat.ne_of_lt hj)) (fun j v' t' hv => by
      by_cases h7 : j = σ.nx
      · subst h7
        rw [hb1] at hv
        cases hv
        refine .inr ⟨by rw [hσ1]; exact Nat.lt_succ_self _, fun hlt => absurd hlt (Nat.lt_irrefl _), by rw [hvn, hfn]; exact hD1, ⟨_, _, rfl⟩, fun b hb => ?_, fun b hb c hc e => ?_⟩
        · rw [hfn] at hb; exact h.ftlt i b hio (hD2 b hb)
        · rw [hfn] at hb; exact h.boxft c i hc hio (by rw [e]; exact hD2 b hb)
      · by_cases h8 : j = i
        · subst h8
          rw [hb2] at hv
          cases hv
          refine .inr ⟨by rw [hσ1]; exact Nat.lt_succ_of_lt hlt, fun _ => ⟨ver, _, hi, Nat.lt_succ_self _⟩, by rw [hvo j h7, hfi]; exact hD3, ⟨_, _, rfl⟩, fun b hb => ?_, fun b hb c hc e => ?_⟩
          · rw [hfi] at hb; exact h.ftlt j b hio hb.1
          · rw [hfi] at hb; exact h.boxft c j hc hio (by rw [e]; exact hb.1)
        · rw [hb3 j h7 h8] at hv
          exact .inl ⟨hv, fun b => by rw [hfo j h7 h8], fun _ _ hf => hf⟩) fun j1 j2 b hj1 hj2 hne hf1 hf2 => by
    rcases hft j1 b hj1 hf1 with ⟨q1, q2⟩ | ⟨q1, q2, q3⟩ | ⟨q1, q2, q3, q4⟩ <;> rcases hft j2 b hj2 hf2 with ⟨r1, r2⟩ | ⟨r1, r2, r3⟩ | ⟨r1, r2, r3, r4⟩
    · exact hne (q1.trans r1.symm)
    · exact r3 q2
    · exact h.disj j2 i b r3 hio r2 r4 (hD2 b q2)
    · exact q3 r2
    · exact hne (q1.trans r1.symm)
    · exact h.disj j2 i b r3 hio r2 r4 q2
    · exact h.disj j1 i b q3 hio q2 q4 (hD2 b r2)
    · exact h.disj j1 i b q3 hio q2 q4 r2
    · exact h.disj j1 j2 b q3 r3 hne q4 r4
  refine ⟨G', ?_, fun j hj => hvo j (Nat.ne_of_lt hj), by rw [hG']⟩
  rw [← hσ1]
  have hput := hturn.1.put (d := d) (v := V.flat ag (ls.set p (.hd σ.nx))) (u := a.tmps.getD d undef) hd ⟨[us], rfl, hval, fun c ag' xs us' hc hus => by
    match c, hc, hus with
    | 0, hc, hus =>
      cases hc
      cases hus
      refine ⟨by rw [List.length_set]; exact hlen, fun j x u' hx hu' => ?_⟩
      by_cases hjp : j = p
      · subst hjp
        rw [List.getElem?_set_self (get_lt hp)] at hx
        cases hx
        rw [hu] at hu'
        cases hu'
        refine ⟨⟨by rw [hσ1]; exact Nat.lt_succ_self _, hvn.symm⟩, .inr ?_⟩
        exact hD1.one
      · rw [List.getElem?_set_ne (fun q => hjp q.symm)] at hx
        exact hturn.2 x u' (hcell j x u' hx hu')⟩
  have hself : a.put (some d) (a.tmps.getD d undef) = a := by
    have hsz := h.nsz
    cases a with
    | mk tmps defers =>
      show Act.mk (tmps.setIfInBounds d (tmps.getD d undef)) defers = Act.mk tmps defers
      congr 1
      have hdl : d < tmps.size := by rw [show tmps.size = N from hsz]; exact hd
      apply Array.ext
      · simp
      · intro q hq1 hq2
        rw [Array.getElem_setIfInBounds]
        by_cases hqd : d = q
        · subst hqd; rw [if_pos rfl]; simp [Array.getD, hdl]
        · rw [if_neg hqd]
  rw [hself] at hput
  exact hput
theorem SV.take {K : Act → World → Prop} {d i ver k o p : Nat} {ag : Bool} {ls : List Leaf} {ty pty : TypeId} {es : List (List T)} {e : List T} {ps : List (List T)} (hs : σ.tm d = V.flat ag ls) (hp : ls[p]? = some (.nd i ver (.seq pty ps) (some (k, o)))) (hi : σ.ob i = some (ver, .seq ty es)) (hk : es[k]? = some e) (ho : e[o]? = some (.seq pty ps)) (hd : d < N)
    (q : SV E N (((σ.setob i (.seq ty (es.set k (e.set o .any)))).new (.seq pty ps)).put d (V.flat ag (ls.set p (.hd σ.nx)))) K) : SV E N σ K := fun a w G h => by
  obtain ⟨G', h1, -⟩ := h.take hd hs hp hi hk ho
  exact q a w G' h1
theorem DW.take {fr : List Nat} {cl : Bool} {Ψ : World → Ghost → Act → World → Prop} {d i ver k o p : Nat} {ag : Bool} {ls : List Leaf} {ty pty : TypeId} {es : List (List T)} {e : List T} {ps : List (List T)} (hs : σ.tm d = V.flat ag ls) (hp : ls[p]? = some (.nd i ver (.seq pty ps) (some (k, o)))) (hi : σ.ob i = some (ver, .seq ty es)) (hk : es[k]? = some e) (ho : e[o]? = some (.seq pty ps)) (hd : d < N)
    (q : DW E N τ fr false (((σ.setob i (.seq ty (es.set k (e.set o .any)))).new (.seq pty ps)).put d (V.flat ag (ls.set p (.hd σ.nx)))) Ψ) : DW E N τ fr cl σ Ψ := fun ws Gs a w G h hl => by
  obtain ⟨G', h1, h2, h3⟩ := h.take hd hs hp hi hk ho
  refine q ws Gs a w G' h1 ⟨hl.start, hl.same, fun j hj => (h2 j (Nat.lt_of_lt_of_le hj hl.nx)).trans (hl.vl j hj), fun b hb => by rw [h3]; exact hl.β b hb, Nat.le_trans hl.nx (Nat.le_succ _), hl.bs, fun j hj => ⟨Nat.lt_succ_of_lt (hl.fresh j hj).1, fun b hb => (hl.fresh j hj).2 b ?_⟩, fun e => by cases e⟩
  rw [← h2 j (hl.fresh j hj).1]
  exact hb
end Go.Proofs.Ytfghhjcfmmhacaa.V
/- States told by trees: answers that may only be read (their parts may lie in each other): what is handed out so lies in a vault, an object that nobody writes. -/
namespace Go.Proofs.Ytfghhjcfmmhacaa.V
open Go Go.RowKit
set_option linter.unusedVariables false
variable {P : Program} {E : Env} {N nb : Nat} {σ σ' τ : VS} {o : Oper} {a : Act} {w : World} {G : Ghost} {Q : Exit → Act → World → Prop} {K : Act → World → Prop} {ad : Option Addr} {len cap : Nat} {zs : List Int}
def inLeaf (i : Nat) : T → Leaf
  | .lit u => .sc u
  | .any => .dead
  | .seq ty es => .nd i 0 (.seq ty es) none
def inLs (i : Nat) (rs : List (Bool × List T)) : List (Bool × List Leaf) := rs.map fun r => (r.1, r.2.map (inLeaf i))
def GivesI (ok : Nat → Prop) (tup : Bool) (rs : List (Bool × List T)) (e : Ending) (w' : World) : Prop :=
  ∃ uss : List (List Value), uss.length = rs.length ∧ e = .returned (vval tup (List.zipWith (fun r us => cval r.1 us) rs uss)) ∧
    ∀ (c : Nat) (ag : Bool) (ts : List T) (us : List Value), rs[c]? = some (ag, ts) → uss[c]? = some us → us.length = ts.length ∧ ∀ (j : Nat) (t : T) (u : Value), ts[j]? = some t → us[j]? = some u → Inn ok w' t u
def Newly (w w' : World) (b : Nat) : Prop := w.heap.size ≤ b ∧ b < w'.heap.size
def VKI {Y : Type} (ad : Option Addr) (len cap : Nat) (zs : List Int) (Pr : Y → Prop) (P : Program) (f : FuncId) (xs : List Value) (tup : Bool) (rs : Y → List (Bool × List T)) : Prop :=
  ∀ (w : World) (c : Nat) (σ : Int × Int), Code ad len cap zs w → Cur ad len cap zs σ w c → Calls P f (Value.pointer (some ⟨c, 0, none⟩) :: xs).toArray w fun e w' => ∃ y τ, Pr y ∧ Cur ad len cap zs τ w' c ∧ GivesI (Newly w w') tup (rs y) e w' ∧ Only c w w'
def VCI {Y : Type} (Φ : World → Prop) (Pr : Y → Prop) (P : Program) (f : FuncId) (ins : List (Bool × List T)) (tup : Bool) (rs : Y → List (Bool × List T)) : Prop := ∀ (w : World), Φ w → ∀ (vs : List Value), ArgsIn (Env.of w) w ins vs → Calls P f vs.toArray w fun e w' => ∃ y, Pr y ∧ GivesI (Newly w w') tup (rs y) e w' ∧ Below w.heap.size w w'
/-! ### Answers -/
def VS.may (σ : VS) : Leaf → Option T
  | .sc u => some (.lit u)
  | .nl ty => some (.seq ty [])
  | .hd i => (σ.ob i).map (·.2)
  | .nd i ver t _ => (σ.ob i).bind fun p => bif Nat.beq p.1 ver then some t else none
  | _ => none
def VS.mays (σ : VS) : List Leaf → List T → Prop
  | [], [] => True
  | x :: xs, t :: ts => σ.may x = some t ∧ σ.mays xs ts
  | _, _ => False
def VS.mayss (σ : VS) : List (Bool × List Leaf) → List (Bool × List T) → Prop
  | [], [] => True
  | p :: ps, q :: qs => p.1 = q.1 ∧ σ.mays p.2 q.2 ∧ σ.mayss ps qs
  | _, _ => False
theorem Rel.may (h : Rel E N σ a w G) {x : Leaf} {u : Value} {t : T} (hx : Holds G σ E w x u) (ht : σ.may x = some t) : Inn (fun b => ∃ i, σ.ob i ≠ none ∧ G.ft i b) w t u := by
  have key : ∀ i, x.okIn G E = G.ft i → σ.tr x = some t → σ.ob i ≠ none → Inn (fun b => ∃ i, σ.ob i ≠ none ∧ G.ft i b) w t u := fun i h1 h2 h3 =>
    (h.tree hx h2).frame (Nat.le_refl _) fun b hb _ => ⟨⟨i, h3, by rw [← h1]; exact hb⟩, rfl⟩
  cases x with
  | sc v =>
    have := h.tree (t := .lit v) hx rfl
    cases ht
    cases this with
    | lit hv => exact .lit hv
  | nl ty =>
    have := h.tree (t := .seq ty []) hx rfl
    cases ht
    cases this with
    | seq n hp hz hn hc hm h0 b o us ha hb hcell hr => exact Inn.seq (es := []) n hp hz hn hc hm h0 b o us ha (fun h => absurd rfl h) hcell (fun k e j t h => by simp at h)
  | hd i => exact key i rfl ht (fun e => by simp [VS.may, e] at ht)
  | nd i ver s loc => exact key i rfl ht (fun e => by simp [VS.may, e] at ht)
  | _ => cases ht
theorem GivesI.mono {ok ok' : Nat → Prop} {tup : Bool} {rs : List (Bool × List T)} {e : Ending} (h : GivesI ok tup rs e w) (hk : ∀ b, ok b → b < w.heap.size → ok' b) : GivesI ok' tup rs e w := by
  obtain ⟨uss, h1, h2, h3⟩ := h
  exact ⟨uss, h1, h2, fun c ag ts us hc hu => ⟨(h3 c ag ts us hc hu).1, fun j t u hj hu' => ((h3 c ag ts us hc hu).2 j t u hj hu').frame (Nat.le_refl _) fun b hb hl => ⟨hk b hb hl, rfl⟩⟩⟩
theorem VKI.enter {Y : Type} {Pr : Y → Prop} {f : FuncId} {fn : Func} {c0 : Go.Code} {n : Nat} {us : List Value} {tup : Bool} {rs : Y → List (Bool × List T)} (hf : P.funcs[f]? = some fn) (hb : fn.body = some c0) (hn : fn.ntmps = n) (hl : us.length + 1 ≤ n) (hone : ∀ u ∈ us, u.oneCell' = true)
    (h : ∀ (E : Env) (c : Nat) (p h0 : Int), E.nl = 0 → E.code ad len cap zs → (E.pin = some c ∧ ∀ b, E.ln b → b = c) → 0 ≤ p ∧ p ≤ len → SV E n ⟨fun s => (V.one (.bp 0 0) :: us.map fun u => V.one (.sc u)).getD s (V.one .dead), [(85, curL ad len cap p h0)], fun _ => none, 0⟩ (c0.wp P (bodyPost P fn fun e w' => ∃ y τ, Pr y ∧ Cur ad len cap zs τ w' c ∧ GivesI (Newly E.w0 w') tup (rs y) e w' ∧ Only c E.w0 w'))) : VKI ad len cap zs Pr P f us tup rs := fun w c σ hcode hcur => by
  refine calls_of_wp hf hb ?_
  obtain ⟨p, h0⟩ := σ
  obtain ⟨E, hE⟩ : ∃ E : Env, E = ⟨w, fun b => b = c, fun b hb => by rw [hb]; exact hcur.lt, fun _ => undef, 0, some c⟩ := ⟨_, rfl⟩
  have hEC : E.code ad len cap zs := by subst hE; exact ⟨hcode, fun x hx hp e => hcur.apart x hx hp e⟩
  have h1 := h E c p h0 (by rw [hE]) hEC (by subst hE; exact ⟨rfl, fun b hb => hb⟩) ⟨hcur.low, hcur.high⟩ { tmps := (Value.pointer (some ⟨c, 0, none⟩) :: us).toArray ++ Array.replicate (n - (us.length + 1)) undef, defers := [] } w ⟨fun _ => c, fun _ => undef, fun _ _ => False⟩ (by
    subst hE
    refine ⟨Same.refl _ _, rfl, by simp; omega, fun s => ?_, fun b ty xs hb => ?_, fun b b' hb hb' _ => (by simp at hb hb'; omega), fun b i hb hi => absurd rfl hi, fun i v t hi => (by cases hi), fun i j b hi => absurd rfl hi, fun i b hi => absurd rfl hi, ⟨Nat.le_refl _, fun i hi => absurd hi (Nat.not_lt_zero i), fun c' hc' => ⟨by simp, Option.some.inj hc'⟩⟩⟩
    · rcases Nat.lt_or_ge s (us.length + 1) with hs | hs
      · have e2 : ((Value.pointer (some ⟨c, 0, none⟩) :: us).toArray ++ Array.replicate (n - (us.length + 1)) undef).getD s undef = (Value.pointer (some ⟨c, 0, none⟩) :: us).getD s undef := by
          simp only [Array.getD_eq_getD_getElem?]
          rw [Array.getElem?_append_left (by simpa using hs)]
          simp [List.getD]
        show VHolds _ _ _ _ ((V.one (.bp 0 0) :: us.map fun u => V.one (.sc u)).getD s (V.one .dead)) _
        rw [e2]
        cases s with
        | zero => exact vone.2 ⟨⟨by simp, rfl⟩, .inr rfl⟩
        | succ s =>
          have hs' : s < us.length := by omega
          have e3 : (V.one (.bp 0 0) :: us.map fun u => V.one (.sc u)).getD (s + 1) (V.one .dead) = V.one (.sc us[s]) := by simp [List.getD, hs']
          have e4 : (Value.pointer (some ⟨c, 0, none⟩) :: us).getD (s + 1) undef = us[s] := by simp [List.getD, hs']
          rw [e3, e4]
          exact vone.2 ⟨rfl, .inr (hone _ (List.getElem_mem hs'))⟩
      · have e3 : (V.one (.bp 0 0) :: us.map fun u => V.one (.sc u)).getD s (V.one .dead) = V.one .dead := by simp [List.getD, show us.length + 1 ≤ s by omega]
        show VHolds _ _ _ _ ((V.one (.bp 0 0) :: us.map fun u => V.one (.sc u)).getD s (V.one .dead)) _
        rw [e3]
        exact vone.2 ⟨trivial, .inl rfl⟩
    · have hb0 : b = 0 := by have := get_lt hb; simpa using this
      subst hb0
      cases hb
      refine ⟨.inr rfl, [.slice ad len cap, .int .i64 p, .int .i64 h0], hcur.cell, rfl, fun j x u hj hu => ?_⟩
      match j, hj, hu with
      | 0, hj, hu => cases hj; cases hu; exact ⟨⟨rfl, .inr rfl⟩, rfl⟩
      | 1, hj, hu => cases hj; cases hu; exact ⟨⟨rfl, .inr rfl⟩, rfl⟩
      | 2, hj, hu => cases hj; cases hu; exact ⟨⟨rfl, .inr rfl⟩, rfl⟩)
  rw [hn]
  have e0 : E.w0 = w := by rw [hE]
  rw [e0] at h1
  simpa using h1
theorem VCI.enter {Y : Type} {Pr : Y → Prop} {f : FuncId} {fn : Func} {c0 : Go.Code} {n : Nat} {tup : Bool} {rs : Y → List (Bool × List T)} (hf : P.funcs[f]? = some fn) (hb : fn.body = some c0) (hn : fn.ntmps = n) (hl : 1 ≤ n)
    (h : ∀ E, E.plain 0 → E.code ad len cap zs → (∀ b, ¬ E.ln b) → SV E n (VS.init ([(false, [T.lit (.slice ad len cap)])].map fun p => V.flat p.1 (p.2.map argLeaf))) (c0.wp P (bodyPost P fn fun e w' => ∃ y, Pr y ∧ GivesI (Newly E.w0 w') tup (rs y) e w' ∧ Below E.w0.heap.size E.w0 w'))) : VCI (fun w => Code ad len cap zs w) Pr P f [(false, [.lit (.slice ad len cap)])] tup rs := fun w hw vs hv => by
  refine calls_of_wp hf hb ?_
  obtain ⟨G, hG⟩ := init_rel (E := Env.of w) ⟨rfl, rfl⟩ (n := n) hv (by rw [hv.1]; exact hl)
  have := h (Env.of w) ⟨rfl, rfl⟩ ⟨hw, fun _ _ _ h => h⟩ (fun _ h => h) _ _ G hG
  rw [hn]
  have e : (Env.of w).w0 = w := rfl
  rw [e] at this
  simpa using this
end Go.Proofs.Ytfghhjcfmmhacaa.V
/- States told by trees: an object's value gets a name, what was written with such names is frozen: parts that lie in each other are told, to be read. -/
namespace Go.Proofs.Ytfghhjcfmmhacaa.V
open Go Go.RowKit
set_option linter.unusedVariables false
variable {P : Program} {E : Env} {N nb : Nat} {σ σ' τ : VS} {o : Oper} {a : Act} {w : World} {G : Ghost} {Q : Exit → Act → World → Prop} {K : Act → World → Prop}
theorem Rel.name (h : Rel E N σ a w G) (L : Nat → Value) (hL : ∀ i, i < σ.nx → G.vl i = L i) : Rel { E with lv := L, nl := σ.nx } N σ a w G :=
  ⟨⟨h.below.os, h.below.tape, h.below.output, h.below.size, h.below.block⟩, h.dfr, h.nsz, h.tmps, h.boxes, h.inj, h.boxft, h.objs, h.disj, h.ftlt, ⟨Nat.le_refl _, hL, h.lent.2.2⟩⟩
theorem OpL.mk {nb d : Nat} {V' : V} (h : OpL P E N nb σ o V') (hd : o.dst = some d) (hdN : d < N) : OpMk P E N none σ o (σ.put d V') := fun a w G K Q hr k => by
  obtain ⟨u, h1, h2⟩ := h a w G hr
  refine wp_value (h1 w ⟨fun _ _ => rfl, fun _ _ => rfl⟩) ?_
  rw [hd]
  exact k _ _ _ (hr.put hdN h2) ⟨Nat.le_refl _, Same.refl _ _, fun _ _ => rfl, fun _ _ => rfl, fun _ _ => .inl rfl, fun i h1 h2 => absurd h2 (Nat.not_lt.2 h1)⟩
theorem SV.unname {L : Nat → Value} {m : Nat} (h0 : E.nl = 0) (k : SV E N σ K) : SV { E with lv := L, nl := m } N σ K := fun a w G h => by
  refine k a w G ⟨⟨h.below.os, h.below.tape, h.below.output, h.below.size, h.below.block⟩, h.dfr, h.nsz, h.tmps, h.boxes, h.inj, h.boxft, h.objs, h.disj, h.ftlt, ⟨by rw [h0]; exact Nat.zero_le _, fun i hi => ?_, h.lent.2.2⟩⟩
  rw [h0] at hi
  exact absurd hi (Nat.not_lt_zero i)
end Go.Proofs.Ytfghhjcfmmhacaa.V
/- States told by trees: headers of the call's own slices as values with names, and back. -/
namespace Go.Proofs.Ytfghhjcfmmhacaa.V
open Go Go.RowKit
set_option linter.unusedVariables false
variable {E : Env} {N : Nat} {σ : VS} {K : Act → World → Prop}
theorem SV.nameAll {m : Nat} (hm : σ.nx = m) (k : ∀ L : Nat → Value, SV { E with lv := L, nl := m } N σ K) : SV E N σ K := fun a w G h => by
  subst hm
  exact k G.vl a w _ (h.name G.vl fun _ _ => rfl)
theorem SV.hdsc {d p : Nat} (hs : σ.tm d = V.one (.hd p)) (hl : p < E.nl) (hN : d < N) (k : SV E N (σ.put d (V.one (.sc (E.lv p)))) K) : SV E N σ K := fun a w G h => by
  have h1 := h.tmps d
  rw [hs, vone] at h1
  have h2 : a.tmps.getD d undef = G.vl p := h1.1.2
  have h3 := h.lent.2.1 p hl
  have h4 : (a.tmps.getD d undef).oneCell' = true := by
    rcases h1.2 with h | h
    · cases h
    · exact h
  exact k a w G (h.reput hN (vone.2 ⟨h2.trans h3, .inr h4⟩))
theorem SV.schd {d p : Nat} {u : Value} (hs : σ.tm d = V.one (.sc u)) (hu : u = E.lv p) (hl : p < E.nl) (hN : d < N) (k : SV E N (σ.put d (V.one (.hd p))) K) : SV E N σ K := fun a w G h => by
  have h1 := h.tmps d
  rw [hs, vone] at h1
  have h2 : a.tmps.getD d undef = u := h1.1
  have h3 := h.lent.2.1 p hl
  have h4 : (a.tmps.getD d undef).oneCell' = true := by
    rcases h1.2 with h | h
    · cases h
    · exact h
  exact k a w G (h.reput hN (vone.2 ⟨⟨Nat.lt_of_lt_of_le hl h.lent.1, by rw [h2, hu, h3]⟩, .inr h4⟩))
end Go.Proofs.Ytfghhjcfmmhacaa.V
/- The program's SetRequest: told by trees. -/
namespace Go.Proofs.Ytfghhjcfmmhacaa
open Go Go.RowKit V
set_option linter.unusedVariables false
set_option maxRecDepth 100000 in
set_option maxHeartbeats 2000000 in
theorem vreq_i (b : BrokerD) (id w : Int) (hA : b.fActive.length ≤ 1000000000) (hW : b.fWaiting.length ≤ 1000000000) : VC Try.prog 30 [(true, tBroker b), (false, [.lit (.int .i64 (id))]), (false, [.lit (.int .i64 (w))])] true [(true, tBroker (BrokerD.setReq b id w)), (false, [.lit (.bool (BrokerD.canReq b id w))])] := by
  refine VC.enter Try.func30 rfl Try.ntmps30 (gle rfl) fun E hE => ?_
  refine SV.seq' ?_
  refine SV.region ?_
  refine SV.op (OpMk.ok (ok_box (kk := 0) (ag := true) (xs := [.sc _, .sc _, .ro _, .ro _]) rfl rfl rfl (fun h => by cases h) rfl rfl (gle rfl))) rfl ?_
  refine SV.op (OpMk.ok (ok_alloc (kk := 1) (xs := [.sc _, .sc _, .nl _, .nl _]) rfl rfl zero_impl_Broker ⟨rfl, rfl, rfl, rfl, rfl, ⟨3, by decide, sz_impl_Client⟩, rfl, ⟨3, by decide, sz_impl_Client⟩, trivial⟩ rfl (gle rfl))) rfl ?_
  refine SV.op (OpL.ok (nb := 2) (ok_move (v := V.one (.sc _)) (.inr rfl) rfl) rfl (gle rfl)) rfl ?_
  refine SV.nil ?_
  refine SV.tn ?_
  refine SV.seq' ?_
  refine SV.region ?_
  refine SV.op (OpL.ok (nb := 2) (ok_load_bp (b := 0) (i := 0) (ag := true) (m := 4) (ys := [.sc _, .sc _, .ro _, .ro _]) rfl rfl rfl agg_impl_Broker sz_impl_Broker (fun h => by cases h) rfl rfl (gle rfl)) rfl (gle rfl)) rfl ?_
  refine SV.op (OpMk.ok (ok_call (ls := [(true, [.sc _, .sc _, .hd 0, .hd 1])]) rfl rfl ⟨_, _, Try.func60, rfl, by decide⟩ (vcloneb_i b (by omega) (by omega)) ⟨⟨[.sc _, .sc _, .ro _, .ro _], rfl, ⟨rfl, rfl, rfl, rfl, trivial⟩⟩, trivial⟩ rfl (gle rfl))) rfl ?_
  refine SV.op (OpMk.ok (ok_alloc (kk := 2) (xs := [.sc _, .sc _, .nl _, .nl _]) rfl rfl zero_impl_Broker ⟨rfl, rfl, rfl, rfl, rfl, ⟨3, by decide, sz_impl_Client⟩, rfl, ⟨3, by decide, sz_impl_Client⟩, trivial⟩ rfl (gle rfl))) rfl ?_
  refine SV.op (ok_store_bp (b := 2) (i := 0) (m := 4) (ag := true) (zs := [.sc _, .sc _, .hd 0, .hd 1]) (ys := [.sc _, .sc _, .hd 0, .hd 1]) rfl rfl rfl rfl sz_impl_Broker (fun h => by cases h) rfl (gle rfl) rfl rfl rfl) rfl ?_
  refine SV.nil ?_
  refine SV.tn ?_
  refine SV.seq' ?_
  refine SV.seq' ?_
  refine SV.region ?_
  refine SV.op (OpL.ok (nb := 3) (ok_load_bp (b := 0) (i := 0) (ag := true) (m := 4) (ys := [.sc _, .sc _, .ro _, .ro _]) rfl rfl rfl agg_impl_Broker sz_impl_Broker (fun h => by cases h) rfl rfl (gle rfl)) rfl (gle rfl)) rfl ?_
  refine SV.op (OpMk.ok (ok_call (ls := [(false, [.sc _])]) rfl rfl ⟨_, _, Try.func19, rfl, by decide⟩ (vokb_i b (by omega) (by omega)) ⟨⟨[.sc _, .sc _, .ro _, .ro _], rfl, ⟨rfl, rfl, rfl, rfl, trivial⟩⟩, trivial⟩ rfl (gle rfl))) rfl ?_
  refine SV.op (OpL.ok (nb := 3) (ok_s1 (x := .tmp 15) (VScal.one rfl) (fun ρ h1 w => by go_simp; (try go_bits); with_reducible rfl) rfl) rfl (gle rfl)) rfl ?_
  refine SV.op (OpL.ok (nb := 3) (ok_move (v := V.one (.sc _)) (.inl rfl) rfl) rfl (gle rfl)) rfl ?_
  refine SV.split (d := 17) rfl (fun hg0 => ?_) (fun hg0 => ?_)
  · skip   -- g0.T
    refine SV.opN rfl rfl rfl (gle rfl) rfl rfl rfl (gle rfl) ?_
    refine SV.opN rfl rfl rfl (gle rfl) rfl rfl rfl (gle rfl) ?_
    refine SV.opN rfl rfl rfl (gle rfl) rfl rfl rfl (gle rfl) ?_
    refine SV.op (OpL.ok (nb := 3) (ok_pickT (v := V.one (.sc _)) rfl rfl rfl) rfl (gle rfl)) rfl ?_
    refine SV.nil ?_
    refine SV.tn ?_
    refine SV.cond rfl (fun hc0 => ?_) (fun hc0 => ?_)
    · skip   -- c0.T
      have hcan : (BrokerD.ok b && BrokerD.isWant w) = false := by simp at *; simp_all
      obtain ⟨ho, hq⟩ := BrokerD.setReq_no (id := id) hcan
      refine SV.seq' ?_
      refine SV.region ?_
      refine SV.op (OpL.ok (nb := 3) (ok_load_bp (b := 2) (i := 0) (ag := true) (m := 4) (ys := [.sc _, .sc _, .hd 0, .hd 1]) rfl rfl rfl agg_impl_Broker sz_impl_Broker (fun h => by cases h) rfl rfl (gle rfl)) rfl (gle rfl)) rfl ?_
      refine SV.op (ok_store_bp (b := 1) (i := 0) (m := 4) (ag := true) (zs := [.sc _, .sc _, .hd 0, .hd 1]) (ys := [.sc _, .sc _, .hd 0, .hd 1]) rfl rfl rfl rfl sz_impl_Broker (fun h => by cases h) rfl (gle rfl) rfl rfl rfl) rfl ?_
      refine SV.op (OpL.ok (nb := 3) (ok_move (v := V.one (.sc _)) (.inr rfl) rfl) rfl (gle rfl)) rfl ?_
      refine SV.nil ?_
      refine SV.tn ?_
      refine SV.ret ?_
      refine SV.tr ?_
      apply SV.done (hf := Try.results30) (ht := rfl) (he := .inl rfl)
      case hr => exact (ResAll.cons (ResOk.cell (b := 1) (ag := true) (xs := [.sc _, .sc _, .hd 0, .hd 1]) rfl rfl agg_impl_Broker sz_impl_Broker (fun h => by cases h)) (ResAll.cons (ResOk.tmp (ag := false) (xs := [.sc _]) rfl) ResAll.nil'))
      case h2 => simp [two]
      refine ⟨rfl, ⟨?_, ?_, ?_, ?_, trivial⟩, ⟨rfl, ⟨?_, trivial⟩, trivial⟩⟩ <;> first | rfl | (rw [ho, hsa, hsw]; rfl) | ((show some (T.seq _ _) = some (T.seq _ _); refine congrArg (fun z => some (T.seq _ z)) ?_; rw [ho, hsa, hsw]; first | done | rfl | (simp [tClient]; done) | (simp [List.map_set, tClient]; done))) | ((show some (T.lit (Value.int .i64 _)) = some (T.lit (Value.int .i64 _)); refine congrArg (fun z => some (T.lit (Value.int .i64 z))) ?_; rw [ho, hsa, hsw]; first | done | rfl)) | ((show some (T.lit (Value.bool _)) = some (T.lit (Value.bool _)); refine congrArg (fun z => some (T.lit (Value.bool z))) ?_; rw [ho, hsa, hsw]; first | done | rfl | (simp; done))) | (rw [ho]; rfl) | ((show some (T.seq _ _) = some (T.seq _ _); refine congrArg (fun z => some (T.seq _ z)) ?_; rw [ho]; first | done | rfl | (simp [tClient]; done) | (simp [List.map_set, tClient]; done))) | ((show some (T.lit (Value.int .i64 _)) = some (T.lit (Value.int .i64 _)); refine congrArg (fun z => some (T.lit (Value.int .i64 z))) ?_; rw [ho]; first | done | rfl)) | ((show some (T.lit (Value.bool _)) = some (T.lit (Value.bool _)); refine congrArg (fun z => some (T.lit (Value.bool z))) ?_; rw [ho]; first | done | rfl | (simp; done))) | (rw [hq, haa]; rfl) | ((show some (T.seq _ _) = some (T.seq _ _); refine congrArg (fun z => some (T.seq _ z)) ?_; rw [hq, haa]; first | done | rfl | (simp [tClient]; done) | (simp [List.map_set, tClient]; done))) | ((show some (T.lit (Value.int .i64 _)) = some (T.lit (Value.int .i64 _)); refine congrArg (fun z => some (T.lit (Value.int .i64 z))) ?_; rw [hq, haa]; first | done | rfl)) | ((show some (T.lit (Value.bool _)) = some (T.lit (Value.bool _)); refine congrArg (fun z => some (T.lit (Value.bool z))) ?_; rw [hq, haa]; first | done | rfl | (simp; done))) | (rw [hq, hna, haw]; rfl) | ((show some (T.seq _ _) = some (T.seq _ _); refine congrArg (fun z => some (T.seq _ z)) ?_; rw [hq, hna, haw]; first | done | rfl | (simp [tClient]; done) | (simp [List.map_set, tClient]; done))) | ((show some (T.lit (Value.int .i64 _)) = some (T.lit (Value.int .i64 _)); refine congrArg (fun z => some (T.lit (Value.int .i64 z))) ?_; rw [hq, hna, haw]; first | done | rfl)) | ((show some (T.lit (Value.bool _)) = some (T.lit (Value.bool _)); refine congrArg (fun z => some (T.lit (Value.bool z))) ?_; rw [hq, hna, haw]; first | done | rfl | (simp; done))) | (rw [hq, hna, hnw]; rfl) | ((show some (T.seq _ _) = some (T.seq _ _); refine congrArg (fun z => some (T.seq _ z)) ?_; rw [hq, hna, hnw]; first | done | rfl | (simp [tClient]; done) | (simp [List.map_set, tClient]; done))) | ((show some (T.lit (Value.int .i64 _)) = some (T.lit (Value.int .i64 _)); refine congrArg (fun z => some (T.lit (Value.int .i64 z))) ?_; rw [hq, hna, hnw]; first | done | rfl)) | ((show some (T.lit (Value.bool _)) = some (T.lit (Value.bool _)); refine congrArg (fun z => some (T.lit (Value.bool z))) ?_; rw [hq, hna, hnw]; first | done | rfl | (simp; done))) | (rw [hq]; rfl) | ((show some (T.seq _ _) = some (T.seq _ _); refine congrArg (fun z => some (T.seq _ z)) ?_; rw [hq]; first | done | rfl | (simp [tClient]; done) | (simp [List.map_set, tClient]; done))) | ((show some (T.lit (Value.int .i64 _)) = some (T.lit (Value.int .i64 _)); refine congrArg (fun z => some (T.lit (Value.int .i64 z))) ?_; rw [hq]; first | done | rfl)) | ((show some (T.lit (Value.bool _)) = some (T.lit (Value.bool _)); refine congrArg (fun z => some (T.lit (Value.bool z))) ?_; rw [hq]; first | done | rfl | (simp; done)))
    · skip   -- c0.F
      cases hc0
  · skip   -- g0.F
    refine SV.opY (OpL.ok (nb := 3) (ok_move (v := V.one (.sc _)) (.inl rfl) rfl) rfl (gle rfl)) rfl rfl rfl (gle rfl) rfl rfl ?_
    refine SV.opY (OpMk.ok (ok_call (ls := [(false, [.sc _])]) rfl rfl ⟨_, _, Try.func71, rfl, by decide⟩ (viswant_i w) ⟨⟨[.sc _], rfl, ⟨rfl, trivial⟩⟩, trivial⟩ rfl (gle rfl))) rfl rfl rfl (gle rfl) rfl rfl ?_
    refine SV.opY (OpL.ok (nb := 3) (ok_s1 (x := .tmp 19) (VScal.one rfl) (fun ρ h1 w => by go_simp; (try go_bits); with_reducible rfl) rfl) rfl (gle rfl)) rfl rfl rfl (gle rfl) rfl rfl ?_
    refine SV.op (OpL.ok (nb := 3) (ok_pickF (v := V.one (.sc _)) rfl rfl rfl) rfl (gle rfl)) rfl ?_
    refine SV.nil ?_
    refine SV.tn ?_
    refine SV.cond rfl (fun hc1 => ?_) (fun hc1 => ?_)
    · skip   -- c1.T
      have hcan : (BrokerD.ok b && BrokerD.isWant w) = false := by simp at *; simp_all
      obtain ⟨ho, hq⟩ := BrokerD.setReq_no (id := id) hcan
      refine SV.seq' ?_
      refine SV.region ?_
      refine SV.op (OpL.ok (nb := 3) (ok_load_bp (b := 2) (i := 0) (ag := true) (m := 4) (ys := [.sc _, .sc _, .hd 0, .hd 1]) rfl rfl rfl agg_impl_Broker sz_impl_Broker (fun h => by cases h) rfl rfl (gle rfl)) rfl (gle rfl)) rfl ?_
      refine SV.op (ok_store_bp (b := 1) (i := 0) (m := 4) (ag := true) (zs := [.sc _, .sc _, .hd 0, .hd 1]) (ys := [.sc _, .sc _, .hd 0, .hd 1]) rfl rfl rfl rfl sz_impl_Broker (fun h => by cases h) rfl (gle rfl) rfl rfl rfl) rfl ?_
      refine SV.op (OpL.ok (nb := 3) (ok_move (v := V.one (.sc _)) (.inr rfl) rfl) rfl (gle rfl)) rfl ?_
      refine SV.nil ?_
      refine SV.tn ?_
      refine SV.ret ?_
      refine SV.tr ?_
      apply SV.done (hf := Try.results30) (ht := rfl) (he := .inl rfl)
      case hr => exact (ResAll.cons (ResOk.cell (b := 1) (ag := true) (xs := [.sc _, .sc _, .hd 0, .hd 1]) rfl rfl agg_impl_Broker sz_impl_Broker (fun h => by cases h)) (ResAll.cons (ResOk.tmp (ag := false) (xs := [.sc _]) rfl) ResAll.nil'))
      case h2 => simp [two]
      refine ⟨rfl, ⟨?_, ?_, ?_, ?_, trivial⟩, ⟨rfl, ⟨?_, trivial⟩, trivial⟩⟩ <;> first | rfl | (rw [ho, hsa, hsw]; rfl) | ((show some (T.seq _ _) = some (T.seq _ _); refine congrArg (fun z => some (T.seq _ z)) ?_; rw [ho, hsa, hsw]; first | done | rfl | (simp [tClient]; done) | (simp [List.map_set, tClient]; done))) | ((show some (T.lit (Value.int .i64 _)) = some (T.lit (Value.int .i64 _)); refine congrArg (fun z => some (T.lit (Value.int .i64 z))) ?_; rw [ho, hsa, hsw]; first | done | rfl)) | ((show some (T.lit (Value.bool _)) = some (T.lit (Value.bool _)); refine congrArg (fun z => some (T.lit (Value.bool z))) ?_; rw [ho, hsa, hsw]; first | done | rfl | (simp; done))) | (rw [ho]; rfl) | ((show some (T.seq _ _) = some (T.seq _ _); refine congrArg (fun z => some (T.seq _ z)) ?_; rw [ho]; first | done | rfl | (simp [tClient]; done) | (simp [List.map_set, tClient]; done))) | ((show some (T.lit (Value.int .i64 _)) = some (T.lit (Value.int .i64 _)); refine congrArg (fun z => some (T.lit (Value.int .i64 z))) ?_; rw [ho]; first | done | rfl)) | ((show some (T.lit (Value.bool _)) = some (T.lit (Value.bool _)); refine congrArg (fun z => some (T.lit (Value.bool z))) ?_; rw [ho]; first | done | rfl | (simp; done))) | (rw [hq, haa]; rfl) | ((show some (T.seq _ _) = some (T.seq _ _); refine congrArg (fun z => some (T.seq _ z)) ?_; rw [hq, haa]; first | done | rfl | (simp [tClient]; done) | (simp [List.map_set, tClient]; done))) | ((show some (T.lit (Value.int .i64 _)) = some (T.lit (Value.int .i64 _)); refine congrArg (fun z => some (T.lit (Value.int .i64 z))) ?_; rw [hq, haa]; first | done | rfl)) | ((show some (T.lit (Value.bool _)) = some (T.lit (Value.bool _)); refine congrArg (fun z => some (T.lit (Value.bool z))) ?_; rw [hq, haa]; first | done | rfl | (simp; done))) | (rw [hq, hna, haw]; rfl) | ((show some (T.seq _ _) = some (T.seq _ _); refine congrArg (fun z => some (T.seq _ z)) ?_; rw [hq, hna, haw]; first | done | rfl | (simp [tClient]; done) | (simp [List.map_set, tClient]; done))) | ((show some (T.lit (Value.int .i64 _)) = some (T.lit (Value.int .i64 _)); refine congrArg (fun z => some (T.lit (Value.int .i64 z))) ?_; rw [hq, hna, haw]; first | done | rfl)) | ((show some (T.lit (Value.bool _)) = some (T.lit (Value.bool _)); refine congrArg (fun z => some (T.lit (Value.bool z))) ?_; rw [hq, hna, haw]; first | done | rfl | (simp; done))) | (rw [hq, hna, hnw]; rfl) | ((show some (T.seq _ _) = some (T.seq _ _); refine congrArg (fun z => some (T.seq _ z)) ?_; rw [hq, hna, hnw]; first | done | rfl | (simp [tClient]; done) | (simp [List.map_set, tClient]; done))) | ((show some (T.lit (Value.int .i64 _)) = some (T.lit (Value.int .i64 _)); refine congrArg (fun z => some (T.lit (Value.int .i64 z))) ?_; rw [hq, hna, hnw]; first | done | rfl)) | ((show some (T.lit (Value.bool _)) = some (T.lit (Value.bool _)); refine congrArg (fun z => some (T.lit (Value.bool z))) ?_; rw [hq, hna, hnw]; first | done | rfl | (simp; done))) | (rw [hq]; rfl) | ((show some (T.seq _ _) = some (T.seq _ _); refine congrArg (fun z => some (T.seq _ z)) ?_; rw [hq]; first | done | rfl | (simp [tClient]; done) | (simp [List.map_set, tClient]; done))) | ((show some (T.lit (Value.int .i64 _)) = some (T.lit (Value.int .i64 _)); refine congrArg (fun z => some (T.lit (Value.int .i64 z))) ?_; rw [hq]; first | done | rfl)) | ((show some (T.lit (Value.bool _)) = some (T.lit (Value.bool _)); refine congrArg (fun z => some (T.lit (Value.bool z))) ?_; rw [hq]; first | done | rfl | (simp; done)))
    · skip   -- c1.F
      have hcan : (BrokerD.ok b && BrokerD.isWant w) = true := by simp at *; simp_all
      obtain ⟨ho, hq⟩ := BrokerD.setReq_yes (id := id) hcan
      have hO := BrokerD.Ok.of (Bool.and_eq_true_iff.1 hcan).1
      refine SV.skip ?_
      refine SV.tn ?_
      refine SV.seq' ?_
      refine SV.seq' ?_
      refine SV.nameAll (m := 2) rfl fun L => ?_
      have hE2 : ({ E with lv := L, nl := 2 } : Env).plain 2 := ⟨rfl, hE.2⟩
      refine SV.region ?_
      refine SV.op (OpL.ok (nb := 3) (ok_field_bp (b := 2) (o' := 0) (off := 2) rfl rfl fld_impl_Broker_2) rfl (gle rfl)) rfl ?_
      refine SV.op (OpL.ok (nb := 3) (ok_load_bp (b := 2) (i := 2) (ag := false) (m := 1) (ys := [.hd 0]) rfl rfl rfl agg_s_impl_Client sz_s_impl_Client (fun _ => rfl) rfl rfl (gle rfl)) rfl (gle rfl)) rfl ?_
      refine SV.hdsc (d := 24) (p := 0) rfl (gle rfl) (gle rfl) ?_
      refine SV.op (OpL.ok (nb := 3) (ok_field_bp (b := 2) (o' := 0) (off := 3) rfl rfl fld_impl_Broker_3) rfl (gle rfl)) rfl ?_
      refine SV.op (OpL.ok (nb := 3) (ok_load_bp (b := 2) (i := 3) (ag := false) (m := 1) (ys := [.hd 1]) rfl rfl rfl agg_s_impl_Client sz_s_impl_Client (fun _ => rfl) rfl rfl (gle rfl)) rfl (gle rfl)) rfl ?_
      refine SV.hdsc (d := 26) (p := 1) rfl (gle rfl) (gle rfl) ?_
      refine SV.op (OpMk.ok (ok_litS (kk := 2) (xs := [.tmp 24, .tmp 26]) (us := [_, _]) elt_s_impl_Client rfl rfl rfl rfl (by decide) (by decide) ⟨rfl, rfl, trivial⟩ rfl (gle rfl))) rfl ?_
      refine SV.op (OpL.ok (nb := 3) (ok_len (lf := .hd 2) rfl elt_s_impl_Client.und rfl rfl) rfl (gle rfl)) rfl ?_
      refine SV.op (OpL.ok (nb := 3) (ok_move (v := V.one (.sc _)) (.inl rfl) rfl) rfl (gle rfl)) rfl ?_
      refine SV.nil ?_
      refine SV.tn ?_
      refine SV.block ?_
      refine SV.loopF (X := Nat) (fun (σ : VS) t => ((((((((((((((VS.nil.new (σ.tree 0)).new (σ.tree 1)).new (.seq 24 ([[T.lit (L 0)], [T.lit (L 1)]]))).box 26 [σ.bl 0 0, σ.bl 0 1, σ.bl 0 2, σ.bl 0 3]).box 26 [σ.bl 1 0, σ.bl 1 1, σ.bl 1 2, σ.bl 1 3]).box 26 [σ.bl 2 0, σ.bl 2 1, .hd 0, .hd 1]).put 1 (σ.tm 1)).put 2 (σ.tm 2)).put 6 (V.flat false [.bp 1 0])).put 7 (σ.tm 7)).put 8 (V.flat false [.bp 2 0])).put 27 (V.flat false [.hd 2])).put 28 (σ.tm 28)).put 29 (V.flat false [.sc (.int .i64 ((t : Int)))]))) (fun t => t ≤ 2 ∧ (0 < t → BrokerD.at? b.fActive id = none) ∧ (1 < t → BrokerD.at? b.fWaiting id = none)) (fun t => 2 - t) ?_ ?_
      · skip
        refine SV.again (fun i => [0, 1, 2].getD i 0) 0 (⟨Nat.zero_le _, fun h => absurd h (Nat.lt_irrefl 0), fun h => absurd h (by decide)⟩) (pins hE2 rfl rfl) (VS.le.mk' (le_put (le_put (le_put (le_put (le_put (le_put (le_put (le_put (le_box (le_box (le_box (le_new (le_new (le_new le_nil)))))) (V.le.keep (ag := false) (xs := [.sc _]) (ys := [.sc _]) rfl rfl ⟨rfl, trivial⟩)) (V.le.keep (ag := false) (xs := [.sc _]) (ys := [.sc _]) rfl rfl ⟨rfl, trivial⟩)) (V.le.keep (ag := false) (xs := [.bp 1 0]) (ys := [.bp 1 0]) rfl rfl ⟨⟨rfl, (gle rfl)⟩, trivial⟩)) (V.le.keep (ag := false) (xs := [.sc _]) (ys := [.sc _]) rfl rfl ⟨rfl, trivial⟩)) (V.le.keep (ag := false) (xs := [.bp 2 0]) (ys := [.bp 2 0]) rfl rfl ⟨⟨rfl, (gle rfl)⟩, trivial⟩)) (V.le.keep (ag := false) (xs := [.hd 2]) (ys := [.hd 2]) rfl rfl ⟨⟨rfl, (gle rfl), (gle rfl)⟩, trivial⟩)) (V.le.keep (ag := false) (xs := [.sc _]) (ys := [.sc _]) rfl rfl ⟨rfl, trivial⟩)) (V.le.keep (ag := false) (xs := [.sc _]) (ys := [.sc _]) rfl rfl ⟨(by first | rfl | (show Leaf.sc _ = Leaf.sc _; refine congrArg Leaf.sc ?_; first | rfl | go_num | (simp [cntAll]; done)) | (simp [cntAll]; done) | (simp; omega)), trivial⟩)) ⟨⟨rfl, ⟨rfl, rfl, rfl, rfl, trivial⟩⟩, ⟨⟨rfl, ⟨rfl, rfl, rfl, rfl, trivial⟩⟩, ⟨⟨rfl, ⟨rfl, rfl, ⟨rfl, (gle rfl), (gle rfl)⟩, ⟨rfl, (gle rfl), (gle rfl)⟩, trivial⟩⟩, trivial⟩⟩⟩ ⟨.inr ⟨_, _, rfl, ?ob1_2, (gle rfl)⟩, ⟨.inr ⟨_, _, rfl, rfl, (gle rfl)⟩, ⟨.inr ⟨_, _, rfl, rfl, (gle rfl)⟩, trivial⟩⟩⟩ (new_ob (new_ob (new_ob nil_ob))) (fun i j hi hj e => inj_list (l := [0, 1, 2]) (by decide) i j hi hj e))
        case ob1_2 =>
          show some (T.seq _ _) = some (T.seq _ _)
          rfl
      · rintro t ⟨ht, hnA, hnW⟩
        refine SV.seq' ?_
        refine SV.region ?_
        refine SV.op (OpL.ok (nb := 3) (ok_s2 (x := .tmp 29) (x' := .tmp 28) (VScal.one rfl) (VScal.one rfl) (fun ρ h1 h2 w => by go_simp; (try go_bits); with_reducible rfl) rfl) rfl (gle rfl)) rfl ?_
        refine SV.nil ?_
        refine SV.tn ?_
        refine SV.seq' ?_
        refine SV.cond rfl (fun hc2 => ?_) (fun hc2 => ?_)
        · skip   -- c2.T
          have ht2 : t < 2 := by simp at hc2; omega
          refine SV.skip ?_
          refine SV.tn ?_
          refine SV.seq' ?_
          refine SV.block ?_
          refine SV.seq' ?_
          rcases (show t = 0 ∨ t = 1 by omega) with ht0 | ht0
          · skip
            refine SV.region ?_
            refine SV.op (OpL.ok (nb := 3) (ok_index (n := 1) (lf := .hd 2) rfl elt_s_impl_Client.und sz_s_impl_Client rfl rfl rfl ((show ([[T.lit (L 0)], [T.lit (L 1)]] : List (List T))[t]? = some [T.lit (L 0)] by rw [ht0]; rfl))) rfl (gle rfl)) rfl ?_
            refine SV.op (ok_load_el (p := .ep 2 _ _ _) (ag := false) (m := 1) (ys := [.sc _]) rfl rfl (cells_ep rfl ((show ([[T.lit (L 0)], [T.lit (L 1)]] : List (List T))[t]? = some [T.lit (L 0)] by rw [ht0]; rfl)) rfl rfl) agg_s_impl_Client sz_s_impl_Client (fun _ => rfl) (gle rfl) rfl rfl (gle rfl)) rfl ?_
            refine SV.op (OpL.ok (nb := 3) (ok_move (v := V.one (.sc _)) (.inr rfl) rfl) rfl (gle rfl)) rfl ?_
            refine SV.nil ?_
            refine SV.tn ?_
            refine SV.seq' ?_
            obtain ⟨ka, hka⟩ : ∃ x, BrokerD.atI b.fActive id = x := ⟨_, rfl⟩
            have hva := vatc_i b.fActive id (by omega)
            rw [hka] at hva
            refine SV.region ?_
            refine SV.op (OpL.ok (nb := 3) (ok_move (v := V.one (.sc _)) (.inl rfl) rfl) rfl (gle rfl)) rfl ?_
            refine SV.schd (d := 33) (p := 0) rfl rfl (gle rfl) (gle rfl) ?_
            refine SV.op (OpL.ok (nb := 3) (ok_move (v := V.one (.sc _)) (.inl rfl) rfl) rfl (gle rfl)) rfl ?_
            refine SV.op (OpMk.ok (ok_call (ls := [(false, [.sc _])]) rfl rfl ⟨_, _, Try.func58, rfl, by decide⟩ (hva) ⟨⟨[.hd 0], rfl, ⟨rfl, trivial⟩⟩, ⟨[.sc _], rfl, ⟨rfl, trivial⟩⟩, trivial⟩ rfl (gle rfl))) rfl ?_
            refine SV.op (OpL.ok (nb := 3) (ok_move (v := V.one (.sc _)) (.inr rfl) rfl) rfl (gle rfl)) rfl ?_
            refine SV.nil ?_
            refine SV.tn ?_
            refine SV.seq' ?_
            refine SV.region ?_
            refine SV.op (OpL.ok (nb := 3) (ok_move (v := V.one (.sc _)) (.inl rfl) rfl) rfl (gle rfl)) rfl ?_
            refine SV.op (OpL.ok (nb := 3) (ok_s2 (x := .tmp 36) (x' := .const ((Value.int IntKind.i64 0))) (VScal.one rfl) (VScal.one rfl) (fun ρ h1 h2 w => by go_simp; (try go_bits); with_reducible rfl) rfl) rfl (gle rfl)) rfl ?_
            refine SV.nil ?_
            refine SV.tn ?_
            refine SV.cond rfl (fun hc3 => ?_) (fun hc3 => ?_)
            · skip   -- c3.T
              obtain ⟨ia, rfl, haa⟩ := BrokerD.at_pos hka (by simp at hc3; omega)
              obtain ⟨ca, hxa, hida, hla⟩ := BrokerD.of_at haa
              have hsa := BrokerD.setAt_some (w := w) haa hxa
              have hnw : BrokerD.at? b.fWaiting id = none := BrokerD.at_none fun d hd e => hO.off _ (List.mem_of_getElem? hxa) d hd (hida.trans e.symm)
              have hsw := BrokerD.setAt_none (w := w) hnw
              refine SV.seq' ?_
              refine SV.region ?_
              refine SV.op (OpL.ok (nb := 3) (ok_move (v := V.one (.sc _)) (.inl rfl) rfl) rfl (gle rfl)) rfl ?_
              refine SV.schd (d := 38) (p := 0) rfl rfl (gle rfl) (gle rfl) ?_
              refine SV.op (OpL.ok (nb := 3) (ok_move (v := V.one (.sc _)) (.inl rfl) rfl) rfl (gle rfl)) rfl ?_
              refine SV.op (OpL.ok (nb := 3) (ok_move (v := V.one (.sc _)) (.inl rfl) rfl) rfl (gle rfl)) rfl ?_
              refine SV.op (OpL.ok (nb := 3) (ok_index (n := 3) (lf := .hd 0) rfl elt_impl_Client.und sz_impl_Client rfl rfl rfl (map_at hxa)) rfl (gle rfl)) rfl ?_
              refine SV.op (OpL.ok (nb := 3) (ok_field_el (p := .ep 0 _ _ _) (off := 1) rfl rfl (cells_ep rfl (map_at hxa) rfl rfl) fld_impl_Client_1) rfl (gle rfl)) rfl ?_
              refine SV.op (ok_store_ep (i := 0) (n := 3) (m := 1) (ag := false) (zs := [.sc _]) rfl rfl rfl rfl (map_at hxa) sz_int (fun _ => rfl) rfl sz_impl_Client (gle rfl) (outs_c rfl outs_n) (by simp [two]) rfl rfl rfl) rfl ?_
              refine SV.nil ?_
              refine SV.tn ?_
              refine SV.seq' ?_
              refine SV.unname hE.1 ?_
              refine SV.region ?_
              refine SV.op (OpL.ok (nb := 3) (ok_load_bp (b := 2) (i := 0) (ag := true) (m := 4) (ys := [.sc _, .sc _, .hd 0, .hd 1]) rfl rfl rfl agg_impl_Broker sz_impl_Broker (fun h => by cases h) rfl rfl (gle rfl)) rfl (gle rfl)) rfl ?_
              refine SV.op (ok_store_bp (b := 1) (i := 0) (m := 4) (ag := true) (zs := [.sc _, .sc _, .hd 0, .hd 1]) (ys := [.sc _, .sc _, .hd 0, .hd 1]) rfl rfl rfl rfl sz_impl_Broker (fun h => by cases h) rfl (gle rfl) rfl rfl rfl) rfl ?_
              refine SV.op (OpL.ok (nb := 3) (ok_move (v := V.one (.sc _)) (.inr rfl) rfl) rfl (gle rfl)) rfl ?_
              refine SV.nil ?_
              refine SV.tn ?_
              refine SV.ret ?_
              refine SV.br ?_
              refine SV.tr ?_
              refine SV.tr ?_
              refine SV.br ?_
              refine SV.tr ?_
              apply SV.done (hf := Try.results30) (ht := rfl) (he := .inl rfl)
              case hr => exact (ResAll.cons (ResOk.cell (b := 1) (ag := true) (xs := [.sc _, .sc _, .hd 0, .hd 1]) rfl rfl agg_impl_Broker sz_impl_Broker (fun h => by cases h)) (ResAll.cons (ResOk.tmp (ag := false) (xs := [.sc _]) rfl) ResAll.nil'))
              case h2 => simp [two]
              refine ⟨rfl, ⟨?_, ?_, ?_, ?_, trivial⟩, ⟨rfl, ⟨?_, trivial⟩, trivial⟩⟩ <;> first | rfl | (rw [ho, hsa, hsw]; rfl) | ((show some (T.seq _ _) = some (T.seq _ _); refine congrArg (fun z => some (T.seq _ z)) ?_; rw [ho, hsa, hsw]; first | done | rfl | (simp [tClient]; done) | (simp [List.map_set, tClient]; done))) | ((show some (T.lit (Value.int .i64 _)) = some (T.lit (Value.int .i64 _)); refine congrArg (fun z => some (T.lit (Value.int .i64 z))) ?_; rw [ho, hsa, hsw]; first | done | rfl)) | ((show some (T.lit (Value.bool _)) = some (T.lit (Value.bool _)); refine congrArg (fun z => some (T.lit (Value.bool z))) ?_; rw [ho, hsa, hsw]; first | done | rfl | (simp; done))) | (rw [ho]; rfl) | ((show some (T.seq _ _) = some (T.seq _ _); refine congrArg (fun z => some (T.seq _ z)) ?_; rw [ho]; first | done | rfl | (simp [tClient]; done) | (simp [List.map_set, tClient]; done))) | ((show some (T.lit (Value.int .i64 _)) = some (T.lit (Value.int .i64 _)); refine congrArg (fun z => some (T.lit (Value.int .i64 z))) ?_; rw [ho]; first | done | rfl)) | ((show some (T.lit (Value.bool _)) = some (T.lit (Value.bool _)); refine congrArg (fun z => some (T.lit (Value.bool z))) ?_; rw [ho]; first | done | rfl | (simp; done))) | (rw [hq, haa]; rfl) | ((show some (T.seq _ _) = some (T.seq _ _); refine congrArg (fun z => some (T.seq _ z)) ?_; rw [hq, haa]; first | done | rfl | (simp [tClient]; done) | (simp [List.map_set, tClient]; done))) | ((show some (T.lit (Value.int .i64 _)) = some (T.lit (Value.int .i64 _)); refine congrArg (fun z => some (T.lit (Value.int .i64 z))) ?_; rw [hq, haa]; first | done | rfl)) | ((show some (T.lit (Value.bool _)) = some (T.lit (Value.bool _)); refine congrArg (fun z => some (T.lit (Value.bool z))) ?_; rw [hq, haa]; first | done | rfl | (simp; done))) | (rw [hq, hna, haw]; rfl) | ((show some (T.seq _ _) = some (T.seq _ _); refine congrArg (fun z => some (T.seq _ z)) ?_; rw [hq, hna, haw]; first | done | rfl | (simp [tClient]; done) | (simp [List.map_set, tClient]; done))) | ((show some (T.lit (Value.int .i64 _)) = some (T.lit (Value.int .i64 _)); refine congrArg (fun z => some (T.lit (Value.int .i64 z))) ?_; rw [hq, hna, haw]; first | done | rfl)) | ((show some (T.lit (Value.bool _)) = some (T.lit (Value.bool _)); refine congrArg (fun z => some (T.lit (Value.bool z))) ?_; rw [hq, hna, haw]; first | done | rfl | (simp; done))) | (rw [hq, hna, hnw]; rfl) | ((show some (T.seq _ _) = some (T.seq _ _); refine congrArg (fun z => some (T.seq _ z)) ?_; rw [hq, hna, hnw]; first | done | rfl | (simp [tClient]; done) | (simp [List.map_set, tClient]; done))) | ((show some (T.lit (Value.int .i64 _)) = some (T.lit (Value.int .i64 _)); refine congrArg (fun z => some (T.lit (Value.int .i64 z))) ?_; rw [hq, hna, hnw]; first | done | rfl)) | ((show some (T.lit (Value.bool _)) = some (T.lit (Value.bool _)); refine congrArg (fun z => some (T.lit (Value.bool z))) ?_; rw [hq, hna, hnw]; first | done | rfl | (simp; done))) | (rw [hq]; rfl) | ((show some (T.seq _ _) = some (T.seq _ _); refine congrArg (fun z => some (T.seq _ z)) ?_; rw [hq]; first | done | rfl | (simp [tClient]; done) | (simp [List.map_set, tClient]; done))) | ((show some (T.lit (Value.int .i64 _)) = some (T.lit (Value.int .i64 _)); refine congrArg (fun z => some (T.lit (Value.int .i64 z))) ?_; rw [hq]; first | done | rfl)) | ((show some (T.lit (Value.bool _)) = some (T.lit (Value.bool _)); refine congrArg (fun z => some (T.lit (Value.bool z))) ?_; rw [hq]; first | done | rfl | (simp; done)))
            · skip   -- c3.F
              have hna := BrokerD.at_neg hka (by simp at hc3; omega)
              refine SV.skip ?_
              refine SV.bn ?_
              refine SV.tn ?_
              refine SV.region ?_
              refine SV.op (OpL.ok (nb := 3) (ok_s2 (x := .tmp 29) (x' := .const ((Value.int IntKind.i64 1))) (VScal.one rfl) (VScal.one rfl) (fun ρ h1 h2 w => by go_simp; (try go_bits); with_reducible rfl) rfl) rfl (gle rfl)) rfl ?_
              refine SV.op (OpL.ok (nb := 3) (ok_move (v := V.one (.sc _)) (.inl rfl) rfl) rfl (gle rfl)) rfl ?_
              refine SV.nil ?_
              refine SV.tn ?_
              refine SV.again (fun i => [0, 1, 2].getD i 0) (t + 1) (⟨⟨by omega, fun _ => by first | exact hna | exact hnA (by omega), fun h => by first | (exfalso; omega) | exact hnw⟩, by omega⟩) (pins hE2 rfl rfl) (VS.le.mk' (le_put (le_put (le_put (le_put (le_put (le_put (le_put (le_put (le_box (le_box (le_box (le_new (le_new (le_new le_nil)))))) (V.le.keep (ag := false) (xs := [.sc _]) (ys := [.sc _]) rfl rfl ⟨rfl, trivial⟩)) (V.le.keep (ag := false) (xs := [.sc _]) (ys := [.sc _]) rfl rfl ⟨rfl, trivial⟩)) (V.le.keep (ag := false) (xs := [.bp 1 0]) (ys := [.bp 1 0]) rfl rfl ⟨⟨rfl, (gle rfl)⟩, trivial⟩)) (V.le.keep (ag := false) (xs := [.sc _]) (ys := [.sc _]) rfl rfl ⟨rfl, trivial⟩)) (V.le.keep (ag := false) (xs := [.bp 2 0]) (ys := [.bp 2 0]) rfl rfl ⟨⟨rfl, (gle rfl)⟩, trivial⟩)) (V.le.keep (ag := false) (xs := [.hd 2]) (ys := [.hd 2]) rfl rfl ⟨⟨rfl, (gle rfl), (gle rfl)⟩, trivial⟩)) (V.le.keep (ag := false) (xs := [.sc _]) (ys := [.sc _]) rfl rfl ⟨rfl, trivial⟩)) (V.le.keep (ag := false) (xs := [.sc _]) (ys := [.sc _]) rfl rfl ⟨(by first | rfl | (show Leaf.sc _ = Leaf.sc _; refine congrArg Leaf.sc ?_; first | rfl | go_num | (simp [cntAll]; done)) | (simp [cntAll]; done) | (simp; omega)), trivial⟩)) ⟨⟨rfl, ⟨rfl, rfl, rfl, rfl, trivial⟩⟩, ⟨⟨rfl, ⟨rfl, rfl, rfl, rfl, trivial⟩⟩, ⟨⟨rfl, ⟨rfl, rfl, ⟨rfl, (gle rfl), (gle rfl)⟩, ⟨rfl, (gle rfl), (gle rfl)⟩, trivial⟩⟩, trivial⟩⟩⟩ ⟨.inr ⟨_, _, rfl, ?ob2_2, (gle rfl)⟩, ⟨.inr ⟨_, _, rfl, rfl, (gle rfl)⟩, ⟨.inr ⟨_, _, rfl, rfl, (gle rfl)⟩, trivial⟩⟩⟩ (new_ob (new_ob (new_ob nil_ob))) (fun i j hi hj e => inj_list (l := [0, 1, 2]) (by decide) i j hi hj e))
              case ob2_2 =>
                show some (T.seq _ _) = some (T.seq _ _)
                rfl
          · skip
            refine SV.region ?_
            refine SV.op (OpL.ok (nb := 3) (ok_index (n := 1) (lf := .hd 2) rfl elt_s_impl_Client.und sz_s_impl_Client rfl rfl rfl ((show ([[T.lit (L 0)], [T.lit (L 1)]] : List (List T))[t]? = some [T.lit (L 1)] by rw [ht0]; rfl))) rfl (gle rfl)) rfl ?_
            refine SV.op (ok_load_el (p := .ep 2 _ _ _) (ag := false) (m := 1) (ys := [.sc _]) rfl rfl (cells_ep rfl ((show ([[T.lit (L 0)], [T.lit (L 1)]] : List (List T))[t]? = some [T.lit (L 1)] by rw [ht0]; rfl)) rfl rfl) agg_s_impl_Client sz_s_impl_Client (fun _ => rfl) (gle rfl) rfl rfl (gle rfl)) rfl ?_
            refine SV.op (OpL.ok (nb := 3) (ok_move (v := V.one (.sc _)) (.inr rfl) rfl) rfl (gle rfl)) rfl ?_
            refine SV.nil ?_
            refine SV.tn ?_
            refine SV.seq' ?_
            obtain ⟨kw, hkw⟩ : ∃ x, BrokerD.atI b.fWaiting id = x := ⟨_, rfl⟩
            have hvw := vatc_i b.fWaiting id (by omega)
            rw [hkw] at hvw
            refine SV.region ?_
            refine SV.op (OpL.ok (nb := 3) (ok_move (v := V.one (.sc _)) (.inl rfl) rfl) rfl (gle rfl)) rfl ?_
            refine SV.schd (d := 33) (p := 1) rfl rfl (gle rfl) (gle rfl) ?_
            refine SV.op (OpL.ok (nb := 3) (ok_move (v := V.one (.sc _)) (.inl rfl) rfl) rfl (gle rfl)) rfl ?_
            refine SV.op (OpMk.ok (ok_call (ls := [(false, [.sc _])]) rfl rfl ⟨_, _, Try.func58, rfl, by decide⟩ (hvw) ⟨⟨[.hd 1], rfl, ⟨rfl, trivial⟩⟩, ⟨[.sc _], rfl, ⟨rfl, trivial⟩⟩, trivial⟩ rfl (gle rfl))) rfl ?_
            refine SV.op (OpL.ok (nb := 3) (ok_move (v := V.one (.sc _)) (.inr rfl) rfl) rfl (gle rfl)) rfl ?_
            refine SV.nil ?_
            refine SV.tn ?_
            refine SV.seq' ?_
            refine SV.region ?_
            refine SV.op (OpL.ok (nb := 3) (ok_move (v := V.one (.sc _)) (.inl rfl) rfl) rfl (gle rfl)) rfl ?_
            refine SV.op (OpL.ok (nb := 3) (ok_s2 (x := .tmp 36) (x' := .const ((Value.int IntKind.i64 0))) (VScal.one rfl) (VScal.one rfl) (fun ρ h1 h2 w => by go_simp; (try go_bits); with_reducible rfl) rfl) rfl (gle rfl)) rfl ?_
            refine SV.nil ?_
            refine SV.tn ?_
            refine SV.cond rfl (fun hc4 => ?_) (fun hc4 => ?_)
            · skip   -- c4.T
              have hna := hnA (by omega)
              obtain ⟨iw, rfl, haw⟩ := BrokerD.at_pos hkw (by simp at hc4; omega)
              obtain ⟨cw, hxw, hidw, hlw⟩ := BrokerD.of_at haw
              have hsw := BrokerD.setAt_some (w := w) haw hxw
              have hsa := BrokerD.setAt_none (w := w) hna
              refine SV.seq' ?_
              refine SV.region ?_
              refine SV.op (OpL.ok (nb := 3) (ok_move (v := V.one (.sc _)) (.inl rfl) rfl) rfl (gle rfl)) rfl ?_
              refine SV.schd (d := 38) (p := 1) rfl rfl (gle rfl) (gle rfl) ?_
              refine SV.op (OpL.ok (nb := 3) (ok_move (v := V.one (.sc _)) (.inl rfl) rfl) rfl (gle rfl)) rfl ?_
              refine SV.op (OpL.ok (nb := 3) (ok_move (v := V.one (.sc _)) (.inl rfl) rfl) rfl (gle rfl)) rfl ?_
              refine SV.op (OpL.ok (nb := 3) (ok_index (n := 3) (lf := .hd 1) rfl elt_impl_Client.und sz_impl_Client rfl rfl rfl (map_at hxw)) rfl (gle rfl)) rfl ?_
              refine SV.op (OpL.ok (nb := 3) (ok_field_el (p := .ep 1 _ _ _) (off := 1) rfl rfl (cells_ep rfl (map_at hxw) rfl rfl) fld_impl_Client_1) rfl (gle rfl)) rfl ?_
              refine SV.op (ok_store_ep (i := 1) (n := 3) (m := 1) (ag := false) (zs := [.sc _]) rfl rfl rfl rfl (map_at hxw) sz_int (fun _ => rfl) rfl sz_impl_Client (gle rfl) (outs_c rfl outs_n) (by simp [two]) rfl rfl rfl) rfl ?_
              refine SV.nil ?_
              refine SV.tn ?_
              refine SV.seq' ?_
              refine SV.unname hE.1 ?_
              refine SV.region ?_
              refine SV.op (OpL.ok (nb := 3) (ok_load_bp (b := 2) (i := 0) (ag := true) (m := 4) (ys := [.sc _, .sc _, .hd 0, .hd 1]) rfl rfl rfl agg_impl_Broker sz_impl_Broker (fun h => by cases h) rfl rfl (gle rfl)) rfl (gle rfl)) rfl ?_
              refine SV.op (ok_store_bp (b := 1) (i := 0) (m := 4) (ag := true) (zs := [.sc _, .sc _, .hd 0, .hd 1]) (ys := [.sc _, .sc _, .hd 0, .hd 1]) rfl rfl rfl rfl sz_impl_Broker (fun h => by cases h) rfl (gle rfl) rfl rfl rfl) rfl ?_
              refine SV.op (OpL.ok (nb := 3) (ok_move (v := V.one (.sc _)) (.inr rfl) rfl) rfl (gle rfl)) rfl ?_
              refine SV.nil ?_
              refine SV.tn ?_
              refine SV.ret ?_
              refine SV.br ?_
              refine SV.tr ?_
              refine SV.tr ?_
              refine SV.br ?_
              refine SV.tr ?_
              apply SV.done (hf := Try.results30) (ht := rfl) (he := .inl rfl)
              case hr => exact (ResAll.cons (ResOk.cell (b := 1) (ag := true) (xs := [.sc _, .sc _, .hd 0, .hd 1]) rfl rfl agg_impl_Broker sz_impl_Broker (fun h => by cases h)) (ResAll.cons (ResOk.tmp (ag := false) (xs := [.sc _]) rfl) ResAll.nil'))
              case h2 => simp [two]
              refine ⟨rfl, ⟨?_, ?_, ?_, ?_, trivial⟩, ⟨rfl, ⟨?_, trivial⟩, trivial⟩⟩ <;> first | rfl | (rw [ho, hsa, hsw]; rfl) | ((show some (T.seq _ _) = some (T.seq _ _); refine congrArg (fun z => some (T.seq _ z)) ?_; rw [ho, hsa, hsw]; first | done | rfl | (simp [tClient]; done) | (simp [List.map_set, tClient]; done))) | ((show some (T.lit (Value.int .i64 _)) = some (T.lit (Value.int .i64 _)); refine congrArg (fun z => some (T.lit (Value.int .i64 z))) ?_; rw [ho, hsa, hsw]; first | done | rfl)) | ((show some (T.lit (Value.bool _)) = some (T.lit (Value.bool _)); refine congrArg (fun z => some (T.lit (Value.bool z))) ?_; rw [ho, hsa, hsw]; first | done | rfl | (simp; done))) | (rw [ho]; rfl) | ((show some (T.seq _ _) = some (T.seq _ _); refine congrArg (fun z => some (T.seq _ z)) ?_; rw [ho]; first | done | rfl | (simp [tClient]; done) | (simp [List.map_set, tClient]; done))) | ((show some (T.lit (Value.int .i64 _)) = some (T.lit (Value.int .i64 _)); refine congrArg (fun z => some (T.lit (Value.int .i64 z))) ?_; rw [ho]; first | done | rfl)) | ((show some (T.lit (Value.bool _)) = some (T.lit (Value.bool _)); refine congrArg (fun z => some (T.lit (Value.bool z))) ?_; rw [ho]; first | done | rfl | (simp; done))) | (rw [hq, haa]; rfl) | ((show some (T.seq _ _) = some (T.seq _ _); refine congrArg (fun z => some (T.seq _ z)) ?_; rw [hq, haa]; first | done | rfl | (simp [tClient]; done) | (simp [List.map_set, tClient]; done))) | ((show some (T.lit (Value.int .i64 _)) = some (T.lit (Value.int .i64 _)); refine congrArg (fun z => some (T.lit (Value.int .i64 z))) ?_; rw [hq, haa]; first | done | rfl)) | ((show some (T.lit (Value.bool _)) = some (T.lit (Value.bool _)); refine congrArg (fun z => some (T.lit (Value.bool z))) ?_; rw [hq, haa]; first | done | rfl | (simp; done))) | (rw [hq, hna, haw]; rfl) | ((show some (T.seq _ _) = some (T.seq _ _); refine congrArg (fun z => some (T.seq _ z)) ?_; rw [hq, hna, haw]; first | done | rfl | (simp [tClient]; done) | (simp [List.map_set, tClient]; done))) | ((show some (T.lit (Value.int .i64 _)) = some (T.lit (Value.int .i64 _)); refine congrArg (fun z => some (T.lit (Value.int .i64 z))) ?_; rw [hq, hna, haw]; first | done | rfl)) | ((show some (T.lit (Value.bool _)) = some (T.lit (Value.bool _)); refine congrArg (fun z => some (T.lit (Value.bool z))) ?_; rw [hq, hna, haw]; first | done | rfl | (simp; done))) | (rw [hq, hna, hnw]; rfl) | ((show some (T.seq _ _) = some (T.seq _ _); refine congrArg (fun z => some (T.seq _ z)) ?_; rw [hq, hna, hnw]; first | done | rfl | (simp [tClient]; done) | (simp [List.map_set, tClient]; done))) | ((show some (T.lit (Value.int .i64 _)) = some (T.lit (Value.int .i64 _)); refine congrArg (fun z => some (T.lit (Value.int .i64 z))) ?_; rw [hq, hna, hnw]; first | done | rfl)) | ((show some (T.lit (Value.bool _)) = some (T.lit (Value.bool _)); refine congrArg (fun z => some (T.lit (Value.bool z))) ?_; rw [hq, hna, hnw]; first | done | rfl | (simp; done))) | (rw [hq]; rfl) | ((show some (T.seq _ _) = some (T.seq _ _); refine congrArg (fun z => some (T.seq _ z)) ?_; rw [hq]; first | done | rfl | (simp [tClient]; done) | (simp [List.map_set, tClient]; done))) | ((show some (T.lit (Value.int .i64 _)) = some (T.lit (Value.int .i64 _)); refine congrArg (fun z => some (T.lit (Value.int .i64 z))) ?_; rw [hq]; first | done | rfl)) | ((show some (T.lit (Value.bool _)) = some (T.lit (Value.bool _)); refine congrArg (fun z => some (T.lit (Value.bool z))) ?_; rw [hq]; first | done | rfl | (simp; done)))
            · skip   -- c4.F
              have hnw := BrokerD.at_neg hkw (by simp at hc4; omega)
              refine SV.skip ?_
              refine SV.bn ?_
              refine SV.tn ?_
              refine SV.region ?_
              refine SV.op (OpL.ok (nb := 3) (ok_s2 (x := .tmp 29) (x' := .const ((Value.int IntKind.i64 1))) (VScal.one rfl) (VScal.one rfl) (fun ρ h1 h2 w => by go_simp; (try go_bits); with_reducible rfl) rfl) rfl (gle rfl)) rfl ?_
              refine SV.op (OpL.ok (nb := 3) (ok_move (v := V.one (.sc _)) (.inl rfl) rfl) rfl (gle rfl)) rfl ?_
              refine SV.nil ?_
              refine SV.tn ?_
              refine SV.again (fun i => [0, 1, 2].getD i 0) (t + 1) (⟨⟨by omega, fun _ => by first | exact hna | exact hnA (by omega), fun h => by first | (exfalso; omega) | exact hnw⟩, by omega⟩) (pins hE2 rfl rfl) (VS.le.mk' (le_put (le_put (le_put (le_put (le_put (le_put (le_put (le_put (le_box (le_box (le_box (le_new (le_new (le_new le_nil)))))) (V.le.keep (ag := false) (xs := [.sc _]) (ys := [.sc _]) rfl rfl ⟨rfl, trivial⟩)) (V.le.keep (ag := false) (xs := [.sc _]) (ys := [.sc _]) rfl rfl ⟨rfl, trivial⟩)) (V.le.keep (ag := false) (xs := [.bp 1 0]) (ys := [.bp 1 0]) rfl rfl ⟨⟨rfl, (gle rfl)⟩, trivial⟩)) (V.le.keep (ag := false) (xs := [.sc _]) (ys := [.sc _]) rfl rfl ⟨rfl, trivial⟩)) (V.le.keep (ag := false) (xs := [.bp 2 0]) (ys := [.bp 2 0]) rfl rfl ⟨⟨rfl, (gle rfl)⟩, trivial⟩)) (V.le.keep (ag := false) (xs := [.hd 2]) (ys := [.hd 2]) rfl rfl ⟨⟨rfl, (gle rfl), (gle rfl)⟩, trivial⟩)) (V.le.keep (ag := false) (xs := [.sc _]) (ys := [.sc _]) rfl rfl ⟨rfl, trivial⟩)) (V.le.keep (ag := false) (xs := [.sc _]) (ys := [.sc _]) rfl rfl ⟨(by first | rfl | (show Leaf.sc _ = Leaf.sc _; refine congrArg Leaf.sc ?_; first | rfl | go_num | (simp [cntAll]; done)) | (simp [cntAll]; done) | (simp; omega)), trivial⟩)) ⟨⟨rfl, ⟨rfl, rfl, rfl, rfl, trivial⟩⟩, ⟨⟨rfl, ⟨rfl, rfl, rfl, rfl, trivial⟩⟩, ⟨⟨rfl, ⟨rfl, rfl, ⟨rfl, (gle rfl), (gle rfl)⟩, ⟨rfl, (gle rfl), (gle rfl)⟩, trivial⟩⟩, trivial⟩⟩⟩ ⟨.inr ⟨_, _, rfl, ?ob3_2, (gle rfl)⟩, ⟨.inr ⟨_, _, rfl, rfl, (gle rfl)⟩, ⟨.inr ⟨_, _, rfl, rfl, (gle rfl)⟩, trivial⟩⟩⟩ (new_ob (new_ob (new_ob nil_ob))) (fun i j hi hj e => inj_list (l := [0, 1, 2]) (by decide) i j hi hj e))
              case ob3_2 =>
                show some (T.seq _ _) = some (T.seq _ _)
                rfl
        · skip   -- c2.F
          have hte : t = 2 := by simp at hc2; omega
          have hna := hnA (by omega)
          have hnw := hnW (by omega)
          have hsa := BrokerD.setAt_none (w := w) hna
          have hsw := BrokerD.setAt_none (w := w) hnw
          refine SV.exit ?_
          refine SV.te ?_
          refine SV.te ?_
          refine SV.bh ?_
          refine SV.tn ?_
          refine SV.seq' ?_
          refine SV.unname hE.1 ?_
          refine SV.region ?_
          refine SV.op (OpL.ok (nb := 3) (ok_load_bp (b := 2) (i := 0) (ag := true) (m := 4) (ys := [.sc _, .sc _, .hd 0, .hd 1]) rfl rfl rfl agg_impl_Broker sz_impl_Broker (fun h => by cases h) rfl rfl (gle rfl)) rfl (gle rfl)) rfl ?_
          refine SV.op (ok_store_bp (b := 1) (i := 0) (m := 4) (ag := true) (zs := [.sc _, .sc _, .hd 0, .hd 1]) (ys := [.sc _, .sc _, .hd 0, .hd 1]) rfl rfl rfl rfl sz_impl_Broker (fun h => by cases h) rfl (gle rfl) rfl rfl rfl) rfl ?_
          refine SV.op (OpL.ok (nb := 3) (ok_move (v := V.one (.sc _)) (.inr rfl) rfl) rfl (gle rfl)) rfl ?_
          refine SV.nil ?_
          refine SV.tn ?_
          refine SV.ret ?_
          apply SV.done (hf := Try.results30) (ht := rfl) (he := .inl rfl)
          case hr => exact (ResAll.cons (ResOk.cell (b := 1) (ag := true) (xs := [.sc _, .sc _, .hd 0, .hd 1]) rfl rfl agg_impl_Broker sz_impl_Broker (fun h => by cases h)) (ResAll.cons (ResOk.tmp (ag := false) (xs := [.sc _]) rfl) ResAll.nil'))
          case h2 => simp [two]
          refine ⟨rfl, ⟨?_, ?_, ?_, ?_, trivial⟩, ⟨rfl, ⟨?_, trivial⟩, trivial⟩⟩ <;> first | rfl | (rw [ho, hsa, hsw]; rfl) | ((show some (T.seq _ _) = some (T.seq _ _); refine congrArg (fun z => some (T.seq _ z)) ?_; rw [ho, hsa, hsw]; first | done | rfl | (simp [tClient]; done) | (simp [List.map_set, tClient]; done))) | ((show some (T.lit (Value.int .i64 _)) = some (T.lit (Value.int .i64 _)); refine congrArg (fun z => some (T.lit (Value.int .i64 z))) ?_; rw [ho, hsa, hsw]; first | done | rfl)) | ((show some (T.lit (Value.bool _)) = some (T.lit (Value.bool _)); refine congrArg (fun z => some (T.lit (Value.bool z))) ?_; rw [ho, hsa, hsw]; first | done | rfl | (simp; done))) | (rw [ho]; rfl) | ((show some (T.seq _ _) = some (T.seq _ _); refine congrArg (fun z => some (T.seq _ z)) ?_; rw [ho]; first | done | rfl | (simp [tClient]; done) | (simp [List.map_set, tClient]; done))) | ((show some (T.lit (Value.int .i64 _)) = some (T.lit (Value.int .i64 _)); refine congrArg (fun z => some (T.lit (Value.int .i64 z))) ?_; rw [ho]; first | done | rfl)) | ((show some (T.lit (Value.bool _)) = some (T.lit (Value.bool _)); refine congrArg (fun z => some (T.lit (Value.bool z))) ?_; rw [ho]; first | done | rfl | (simp; done))) | (rw [hq, haa]; rfl) | ((show some (T.seq _ _) = some (T.seq _ _); refine congrArg (fun z => some (T.seq _ z)) ?_; rw [hq, haa]; first | done | rfl | (simp [tClient]; done) | (simp [List.map_set, tClient]; done))) | ((show some (T.lit (Value.int .i64 _)) = some (T.lit (Value.int .i64 _)); refine congrArg (fun z => some (T.lit (Value.int .i64 z))) ?_; rw [hq, haa]; first | done | rfl)) | ((show some (T.lit (Value.bool _)) = some (T.lit (Value.bool _)); refine congrArg (fun z => some (T.lit (Value.bool z))) ?_; rw [hq, haa]; first | done | rfl | (simp; done))) | (rw [hq, hna, haw]; rfl) | ((show some (T.seq _ _) = some (T.seq _ _); refine congrArg (fun z => some (T.seq _ z)) ?_; rw [hq, hna, haw]; first | done | rfl | (simp [tClient]; done) | (simp [List.map_set, tClient]; done))) | ((show some (T.lit (Value.int .i64 _)) = some (T.lit (Value.int .i64 _)); refine congrArg (fun z => some (T.lit (Value.int .i64 z))) ?_; rw [hq, hna, haw]; first | done | rfl)) | ((show some (T.lit (Value.bool _)) = some (T.lit (Value.bool _)); refine congrArg (fun z => some (T.lit (Value.bool z))) ?_; rw [hq, hna, haw]; first | done | rfl | (simp; done))) | (rw [hq, hna, hnw]; rfl) | ((show some (T.seq _ _) = some (T.seq _ _); refine congrArg (fun z => some (T.seq _ z)) ?_; rw [hq, hna, hnw]; first | done | rfl | (simp [tClient]; done) | (simp [List.map_set, tClient]; done))) | ((show some (T.lit (Value.int .i64 _)) = some (T.lit (Value.int .i64 _)); refine congrArg (fun z => some (T.lit (Value.int .i64 z))) ?_; rw [hq, hna, hnw]; first | done | rfl)) | ((show some (T.lit (Value.bool _)) = some (T.lit (Value.bool _)); refine congrArg (fun z => some (T.lit (Value.bool z))) ?_; rw [hq, hna, hnw]; first | done | rfl | (simp; done))) | (rw [hq]; rfl) | ((show some (T.seq _ _) = some (T.seq _ _); refine congrArg (fun z => some (T.seq _ z)) ?_; rw [hq]; first | done | rfl | (simp [tClient]; done) | (simp [List.map_set, tClient]; done))) | ((show some (T.lit (Value.int .i64 _)) = some (T.lit (Value.int .i64 _)); refine congrArg (fun z => some (T.lit (Value.int .i64 z))) ?_; rw [hq]; first | done | rfl)) | ((show some (T.lit (Value.bool _)) = some (T.lit (Value.bool _)); refine congrArg (fun z => some (T.lit (Value.bool z))) ?_; rw [hq]; first | done | rfl | (simp; done)))
end Go.Proofs.Ytfghhjcfmmhacaa
/- Int: the laws' own functions over it, told by trees: each by its contract. -/
namespace Go.Proofs.Ytfghhjcfmmhacaa
open Go Go.RowKit V
set_option linter.unusedVariables false
set_option maxRecDepth 100000 in
set_option maxHeartbeats 2000000 in
theorem vmk_ints (X : List Int) (q : Int) (hq0 : 0 ≤ q) (hq1 : q + 64 * wtInts X ≤ 100000000000000) : VM Try.prog 46 [(false, [.ln 0]), (false, [.rd (.lit (.int .i64 q))])] [.seq 3 (X.map tInt)] [.seq 3 ((intsMk.mark q X).map tInt)] (.int .i64 (q + (intsMk.cnt X : Nat))) := by
  refine VM.enter (m := 1) rfl Try.func46 rfl Try.ntmps46 (gle rfl) fun E hE => ?_
  have hC := cnt_ints X
  have hlen := wt_int_len X
  have hCs : intsMk.cnt X = cntAll intMk X := rfl
  refine SV.seq' ?_
  refine SV.region ?_
  refine SV.op (OpL.ok (nb := 0) (ok_move (v := V.one (.sc _)) (.inr rfl) rfl) rfl (gle rfl)) rfl ?_
  refine SV.nil ?_
  refine SV.tn ?_
  refine SV.seq' ?_
  refine SV.seq' ?_
  refine SV.region ?_
  refine SV.op (OpL.ok (nb := 0) (ok_move (v := V.one (.sc _)) (.inr rfl) rfl) rfl (gle rfl)) rfl ?_
  refine SV.nil ?_
  refine SV.tn ?_
  refine SV.block ?_
  refine SV.loop (X := Nat) (fun t => ((((VS.nil.new (.seq 3 (mkL intMk tInt q X t))).put 0 (V.one (.hd 0))).put 1 (V.one (.sc (.int .i64 (q + (cntAll intMk (X.take t) : Nat)))))).put 5 (V.one (.sc (.int .i64 (t : Int)))))) (fun t => t ≤ X.length) (fun t => X.length - t) ?_ ?_
  · skip
    refine SV.again (fun i => [0].getD i 0) 0 (Nat.zero_le _) (pins hE rfl rfl) (VS.le.mk' (le_put (le_put (le_put (le_new le_nil) (V.le.one rfl ⟨rfl, (gle rfl), (gle rfl)⟩)) (V.le.one rfl (by first | rfl | (show Leaf.sc _ = Leaf.sc _; refine congrArg Leaf.sc ?_; first | rfl | go_num | (simp [cntAll]; done)) | (simp [cntAll]; done) | (simp; omega)))) (V.le.one rfl (by first | rfl | (show Leaf.sc _ = Leaf.sc _; refine congrArg Leaf.sc ?_; first | rfl | go_num | (simp [cntAll]; done)) | (simp [cntAll]; done) | (simp; omega)))) trivial ⟨.inr ⟨_, _, rfl, ?ob1_0, (gle rfl)⟩, trivial⟩ (new_ob nil_ob) (fun i j hi hj e => inj_list (l := [0]) (by decide) i j hi hj e))
    case ob1_0 =>
      show some (T.seq _ _) = some (T.seq _ _)
      rw [mkL_zero]
  · rintro t ht
    refine SV.seq' ?_
    refine SV.seq' ?_
    refine SV.region ?_
    refine SV.op (OpL.ok (nb := 0) (ok_move (v := V.one (.sc _)) (.inl rfl) rfl) rfl (gle rfl)) rfl ?_
    refine SV.op (OpL.ok (nb := 0) (ok_move (v := V.one (.hd 0)) (.inl rfl) rfl) rfl (gle rfl)) rfl ?_
    refine SV.op (OpL.ok (nb := 0) (ok_len (lf := .hd 0) rfl elt_int.und rfl rfl) rfl (gle rfl)) rfl ?_
    refine SV.op (OpL.ok (nb := 0) (ok_s2 (x := .tmp 6) (x' := .tmp 8) (VScal.one rfl) (VScal.one rfl) (fun ρ h1 h2 w => by go_simp; (try go_bits); with_reducible rfl) rfl) rfl (gle rfl)) rfl ?_
    refine SV.nil ?_
    refine SV.tn ?_
    refine SV.cond rfl (fun hc0 => ?_) (fun hc0 => ?_)
    · skip   -- c0.T
      have htl : t < X.length := by have := mkL_len (m := intMk) (f := tInt) (q := q) ht; rw [show (mkL intMk tInt q X t).length = X.length from this] at hc0; simpa using hc0
      have hcn := cntAll_next intMk X t htl
      have hct := cntAll_take intMk X (t + 1)
      have hc3 : intMk.cnt X[t] = 1 := rfl
      have hroom := mk_room intMk wtInt cnt_int X t htl
      have hwf : wtInts X = wtAll wtInt X := rfl
      have hww : wtInt X[t] = 0 := rfl
      refine SV.skip ?_
      refine SV.tn ?_
      refine SV.seq' ?_
      refine SV.block ?_
      refine SV.seq' ?_
      refine SV.region ?_
      refine SV.op (OpL.ok (nb := 0) (ok_move (v := V.one (.hd 0)) (.inl rfl) rfl) rfl (gle rfl)) rfl ?_
      refine SV.op (OpL.ok (nb := 0) (ok_move (v := V.one (.sc _)) (.inl rfl) rfl) rfl (gle rfl)) rfl ?_
      refine SV.op (OpL.ok (nb := 0) (ok_move (v := V.one (.sc _)) (.inl rfl) rfl) rfl (gle rfl)) rfl ?_
      refine SV.op (OpL.ok (nb := 0) (ok_index (n := 1) (lf := .hd 0) rfl elt_int.und sz_int rfl rfl rfl (mkL_at htl)) rfl (gle rfl)) rfl ?_
      refine SV.op (ok_store_ep (i := 0) (n := 1) (m := 1) (ag := false) (zs := [.sc _]) rfl rfl rfl rfl (mkL_at htl) sz_int (fun _ => rfl) rfl sz_int (gle rfl) (outs_c rfl outs_n) (by simp [two]) rfl rfl rfl) rfl ?_
      refine SV.nil ?_
      refine SV.tn ?_
      refine SV.region ?_
      refine SV.op (OpL.ok (nb := 0) (ok_move (v := V.one (.sc _)) (.inl rfl) rfl) rfl (gle rfl)) rfl ?_
      refine SV.op (OpL.ok (nb := 0) (ok_s2 (v := .int .i64 (q + (cntAll intMk (X.take t) : Nat) + 1)) (x := .tmp 16) (x' := .const ((Value.int IntKind.i64 1))) (VScal.one rfl) (VScal.one rfl) (fun ρ h1 h2 w => by go_simp; all_goals ((try go_bits); first | with_reducible rfl | go_num | (simp; done) | (simp; omega))) rfl) rfl (gle rfl)) rfl ?_
      refine SV.op (OpL.ok (nb := 0) (ok_move (v := V.one (.sc _)) (.inr rfl) rfl) rfl (gle rfl)) rfl ?_
      refine SV.nil ?_
      refine SV.bn ?_
      refine SV.tn ?_
      refine SV.region ?_
      refine SV.op (OpL.ok (nb := 0) (ok_move (v := V.one (.sc _)) (.inl rfl) rfl) rfl (gle rfl)) rfl ?_
      refine SV.op (OpL.ok (nb := 0) (ok_s2 (x := .tmp 10) (x' := .const ((Value.int IntKind.i64 1))) (VScal.one rfl) (VScal.one rfl) (fun ρ h1 h2 w => by go_simp; (try go_bits); with_reducible rfl) rfl) rfl (gle rfl)) rfl ?_
      refine SV.op (OpL.ok (nb := 0) (ok_move (v := V.one (.sc _)) (.inr rfl) rfl) rfl (gle rfl)) rfl ?_
      refine SV.nil ?_
      refine SV.tn ?_
      refine SV.again (fun i => [0].getD i 0) (t + 1) (⟨by omega, by omega⟩) (pins hE rfl rfl) (VS.le.mk' (le_put (le_put (le_put (le_new le_nil) (V.le.one rfl ⟨rfl, (gle rfl), (gle rfl)⟩)) (V.le.one rfl (by first | rfl | (show Leaf.sc _ = Leaf.sc _; refine congrArg Leaf.sc ?_; first | rfl | go_num | (simp [cntAll]; done)) | (simp [cntAll]; done) | (simp; omega)))) (V.le.one rfl (by first | rfl | (show Leaf.sc _ = Leaf.sc _; refine congrArg Leaf.sc ?_; first | rfl | go_num | (simp [cntAll]; done)) | (simp [cntAll]; done) | (simp; omega)))) trivial ⟨.inr ⟨_, _, rfl, ?ob2_0, (gle rfl)⟩, trivial⟩ (new_ob nil_ob) (fun i j hi hj e => inj_list (l := [0]) (by decide) i j hi hj e))
      case ob2_0 =>
        show some (T.seq _ _) = some (T.seq _ _)
        rw [← mkL_next htl]
        rfl
    · skip   -- c0.F
      have hte : ¬ t < X.length := by have := mkL_len (m := intMk) (f := tInt) (q := q) ht; rw [show (mkL intMk tInt q X t).length = X.length from this] at hc0; simpa using hc0
      refine SV.exit ?_
      refine SV.te ?_
      refine SV.te ?_
      refine SV.bh ?_
      refine SV.tn ?_
      refine SV.seq' ?_
      refine SV.region ?_
      refine SV.op (OpL.ok (nb := 0) (ok_move (v := V.one (.sc _)) (.inl rfl) rfl) rfl (gle rfl)) rfl ?_
      refine SV.op (OpL.ok (nb := 0) (ok_move (v := V.one (.sc _)) (.inr rfl) rfl) rfl (gle rfl)) rfl ?_
      refine SV.nil ?_
      refine SV.tn ?_
      refine SV.ret ?_
      refine SV.doneM hE rfl ⟨?_, trivial⟩ (.inl rfl) ?_
      · exact congrArg some (congrArg (T.seq _) (mkL_all hte))
      apply SV.done (hf := Try.results46) (ht := rfl) (he := .inl rfl)
      case hr => exact (ResAll.cons (ResOk.tmp (ag := false) (xs := [.sc _]) rfl) ResAll.nil')
      case h2 => simp [two]
      refine ⟨rfl, ⟨?_, trivial⟩, trivial⟩ <;> (show some (T.lit (Value.int .i64 _)) = some (T.lit (Value.int .i64 _)); rw [List.take_of_length_le (by omega)]; rfl)
set_option maxRecDepth 100000 in
set_option maxHeartbeats 2000000 in
theorem vhd_ints (X : List Int) (q : Int) (hq0 : 0 ≤ q) (hq1 : q + 64 * wtInts X ≤ 100000000000000) : VC Try.prog 47 [(false, [.seq 3 ((intsMk.mark q X).map tInt)]), (false, [.lit (.int .i64 q)])] false [(false, [.lit (.int .i64 (q + (intsMk.cnt X : Nat)))])] := by
  refine VC.enter Try.func47 rfl Try.ntmps47 (gle rfl) fun E hE => ?_
  have hC := cnt_ints X
  have hlen := wt_int_len X
  have hCs : intsMk.cnt X = cntAll intMk X := rfl
  refine SV.seq' ?_
  refine SV.region ?_
  refine SV.op (OpL.ok (nb := 0) (ok_move (v := V.one (.sc _)) (.inr rfl) rfl) rfl (gle rfl)) rfl ?_
  refine SV.nil ?_
  refine SV.tn ?_
  refine SV.seq' ?_
  refine SV.seq' ?_
  refine SV.region ?_
  refine SV.op (OpL.ok (nb := 0) (ok_move (v := V.one (.sc _)) (.inr rfl) rfl) rfl (gle rfl)) rfl ?_
  refine SV.nil ?_
  refine SV.tn ?_
  refine SV.block ?_
  refine SV.loop (X := Nat) (fun t => (((VS.nil.put 0 (V.one (.ro (.seq 3 ((mkAll intMk q X).map tInt))))).put 1 (V.one (.sc (.int .i64 (q + (cntAll intMk (X.take t) : Nat)))))).put 5 (V.one (.sc (.int .i64 (t : Int)))))) (fun t => t ≤ X.length) (fun t => X.length - t) ?_ ?_
  · skip
    refine SV.again (fun i => [].getD i 0) 0 (Nat.zero_le _) (pins hE rfl rfl) (VS.le.mk' (le_put (le_put (le_put le_nil (V.le.one rfl (by first | rfl | (show Leaf.sc _ = Leaf.sc _; refine congrArg Leaf.sc ?_; first | rfl | go_num | (simp [cntAll]; done)) | (simp [cntAll]; done) | (simp; omega)))) (V.le.one rfl (by first | rfl | (show Leaf.sc _ = Leaf.sc _; refine congrArg Leaf.sc ?_; first | rfl | go_num | (simp [cntAll]; done)) | (simp [cntAll]; done) | (simp; omega)))) (V.le.one rfl (by first | rfl | (show Leaf.sc _ = Leaf.sc _; refine congrArg Leaf.sc ?_; first | rfl | go_num | (simp [cntAll]; done)) | (simp [cntAll]; done) | (simp; omega)))) trivial trivial nil_ob (fun i j hi hj e => absurd hi (Nat.not_lt_zero i)))
  · rintro t ht
    refine SV.seq' ?_
    refine SV.seq' ?_
    refine SV.region ?_
    refine SV.op (OpL.ok (nb := 0) (ok_move (v := V.one (.sc _)) (.inl rfl) rfl) rfl (gle rfl)) rfl ?_
    refine SV.op (OpL.ok (nb := 0) (ok_move (v := V.one (.ro _)) (.inl rfl) rfl) rfl (gle rfl)) rfl ?_
    refine SV.op (OpL.ok (nb := 0) (ok_len (lf := .ro _) rfl elt_int.und rfl rfl) rfl (gle rfl)) rfl ?_
    refine SV.op (OpL.ok (nb := 0) (ok_s2 (x := .tmp 6) (x' := .tmp 8) (VScal.one rfl) (VScal.one rfl) (fun ρ h1 h2 w => by go_simp; (try go_bits); with_reducible rfl) rfl) rfl (gle rfl)) rfl ?_
    refine SV.nil ?_
    refine SV.tn ?_
    refine SV.cond rfl (fun hc0 => ?_) (fun hc0 => ?_)
    · skip   -- c0.T
      have htl : t < X.length := by simpa [mkAll_length] using hc0
      have hx := mkAll_get intMk q X t htl
      have hcn := cntAll_next intMk X t htl
      have hct := cntAll_take intMk X (t + 1)
      have hc3 : intMk.cnt X[t] = 1 := rfl
      have hroom := mk_room intMk wtInt cnt_int X t htl
      have hwf : wtInts X = wtAll wtInt X := rfl
      have hww : wtInt X[t] = 0 := rfl
      refine SV.skip ?_
      refine SV.tn ?_
      refine SV.seq' ?_
      refine SV.block ?_
      refine SV.seq' ?_
      refine SV.seq' ?_
      refine SV.region ?_
      refine SV.op (OpL.ok (nb := 0) (ok_move (v := V.one (.ro _)) (.inl rfl) rfl) rfl (gle rfl)) rfl ?_
      refine SV.op (OpL.ok (nb := 0) (ok_move (v := V.one (.sc _)) (.inl rfl) rfl) rfl (gle rfl)) rfl ?_
      refine SV.op (OpL.ok (nb := 0) (ok_index (n := 1) (lf := .ro _) rfl elt_int.und sz_int rfl rfl rfl (map_at (by assumption))) rfl (gle rfl)) rfl ?_
      refine SV.op (OpL.ok (nb := 0) (ok_load_rp (ag := false) (m := 1) (ys := [.sc _]) rfl rfl agg_int sz_int (fun _ => rfl) (gle rfl) rfl) rfl (gle rfl)) rfl ?_
      refine SV.op (OpL.ok (nb := 0) (ok_move (v := V.one (.sc _)) (.inl rfl) rfl) rfl (gle rfl)) rfl ?_
      refine SV.op (OpL.ok (nb := 0) (ok_s2 (x := .tmp 15) (x' := .tmp 16) (VScal.one rfl) (VScal.one rfl) (fun ρ h1 h2 w => by go_simp; (try go_bits); with_reducible rfl) rfl) rfl (gle rfl)) rfl ?_
      refine SV.nil ?_
      refine SV.tn ?_
      refine SV.cond rfl (fun hc1 => ?_) (fun hc1 => ?_)
      · skip   -- c1.T
        (exfalso; first | (simp at hc1; omega) | (simp [intMk] at hc1; done) | (simp [intMk] at hc1; omega))
      · skip   -- c1.F
        refine SV.skip ?_
        refine SV.tn ?_
        refine SV.region ?_
        refine SV.op (OpL.ok (nb := 0) (ok_move (v := V.one (.sc _)) (.inl rfl) rfl) rfl (gle rfl)) rfl ?_
        refine SV.op (OpL.ok (nb := 0) (ok_s2 (v := .int .i64 (q + (cntAll intMk (X.take t) : Nat) + 1)) (x := .tmp 18) (x' := .const ((Value.int IntKind.i64 1))) (VScal.one rfl) (VScal.one rfl) (fun ρ h1 h2 w => by go_simp; all_goals ((try go_bits); first | with_reducible rfl | go_num | (simp; done) | (simp; omega))) rfl) rfl (gle rfl)) rfl ?_
        refine SV.op (OpL.ok (nb := 0) (ok_move (v := V.one (.sc _)) (.inr rfl) rfl) rfl (gle rfl)) rfl ?_
        refine SV.nil ?_
        refine SV.bn ?_
        refine SV.tn ?_
        refine SV.region ?_
        refine SV.op (OpL.ok (nb := 0) (ok_move (v := V.one (.sc _)) (.inl rfl) rfl) rfl (gle rfl)) rfl ?_
        refine SV.op (OpL.ok (nb := 0) (ok_s2 (x := .tmp 10) (x' := .const ((Value.int IntKind.i64 1))) (VScal.one rfl) (VScal.one rfl) (fun ρ h1 h2 w => by go_simp; (try go_bits); with_reducible rfl) rfl) rfl (gle rfl)) rfl ?_
        refine SV.op (OpL.ok (nb := 0) (ok_move (v := V.one (.sc _)) (.inr rfl) rfl) rfl (gle rfl)) rfl ?_
        refine SV.nil ?_
        refine SV.tn ?_
        refine SV.again (fun i => [].getD i 0) (t + 1) (⟨by omega, by omega⟩) (pins hE rfl rfl) (VS.le.mk' (le_put (le_put (le_put le_nil (V.le.one rfl (by first | rfl | (show Leaf.sc _ = Leaf.sc _; refine congrArg Leaf.sc ?_; first | rfl | go_num | (simp [cntAll]; done)) | (simp [cntAll]; done) | (simp; omega)))) (V.le.one rfl (by first | rfl | (show Leaf.sc _ = Leaf.sc _; refine congrArg Leaf.sc ?_; first | rfl | go_num | (simp [cntAll]; done)) | (simp [cntAll]; done) | (simp; omega)))) (V.le.one rfl (by first | rfl | (show Leaf.sc _ = Leaf.sc _; refine congrArg Leaf.sc ?_; first | rfl | go_num | (simp [cntAll]; done)) | (simp [cntAll]; done) | (simp; omega)))) trivial trivial nil_ob (fun i j hi hj e => absurd hi (Nat.not_lt_zero i)))
    · skip   -- c0.F
      have hte : ¬ t < X.length := by simpa [mkAll_length] using hc0
      refine SV.exit ?_
      refine SV.te ?_
      refine SV.te ?_
      refine SV.bh ?_
      refine SV.tn ?_
      refine SV.seq' ?_
      refine SV.region ?_
      refine SV.op (OpL.ok (nb := 0) (ok_move (v := V.one (.sc _)) (.inl rfl) rfl) rfl (gle rfl)) rfl ?_
      refine SV.op (OpL.ok (nb := 0) (ok_move (v := V.one (.sc _)) (.inr rfl) rfl) rfl (gle rfl)) rfl ?_
      refine SV.nil ?_
      refine SV.tn ?_
      refine SV.ret ?_
      apply SV.done (hf := Try.results47) (ht := rfl) (he := .inl rfl)
      case hr => exact (ResAll.cons (ResOk.tmp (ag := false) (xs := [.sc _]) rfl) ResAll.nil')
      case h2 => simp [two]
      refine ⟨rfl, ⟨?_, trivial⟩, trivial⟩ <;> (show some (T.lit (Value.int .i64 _)) = some (T.lit (Value.int .i64 _)); rw [List.take_of_length_le (by omega)]; rfl)
set_option maxRecDepth 100000 in
set_option maxHeartbeats 2000000 in
theorem veq_ints (X : List Int) (hL : wtInts X ≤ 300000000000) : VC Try.prog 45 [(false, [.seq 3 (X.map tInt)]), (false, [.seq 3 (X.map tInt)])] false [(false, [.lit (.bool true)])] := by
  refine VC.enter Try.func45 rfl Try.ntmps45 (gle rfl) fun E hE => ?_
  have hlen := wt_int_len X
  refine SV.seq' ?_
  refine SV.region ?_
  refine SV.op (OpL.ok (nb := 0) (ok_move (v := V.one (.sc _)) (.inr rfl) rfl) rfl (gle rfl)) rfl ?_
  refine SV.nil ?_
  refine SV.tn ?_
  refine SV.seq' ?_
  refine SV.seq' ?_
  refine SV.region ?_
  refine SV.op (OpL.ok (nb := 0) (ok_move (v := V.one (.ro _)) (.inl rfl) rfl) rfl (gle rfl)) rfl ?_
  refine SV.op (OpL.ok (nb := 0) (ok_len (lf := .ro _) rfl elt_int.und rfl rfl) rfl (gle rfl)) rfl ?_
  refine SV.op (OpL.ok (nb := 0) (ok_move (v := V.one (.ro _)) (.inl rfl) rfl) rfl (gle rfl)) rfl ?_
  refine SV.op (OpL.ok (nb := 0) (ok_len (lf := .ro _) rfl elt_int.und rfl rfl) rfl (gle rfl)) rfl ?_
  refine SV.op (OpL.ok (nb := 0) (ok_s2 (x := .tmp 7) (x' := .tmp 9) (VScal.one rfl) (VScal.one rfl) (fun ρ h1 h2 w => by go_simp; (try go_bits); with_reducible rfl) rfl) rfl (gle rfl)) rfl ?_
  refine SV.nil ?_
  refine SV.tn ?_
  refine SV.cond rfl (fun hc0 => ?_) (fun hc0 => ?_)
  · skip   -- c0.T
    simp at hc0
  · skip   -- c0.F
    refine SV.skip ?_
    refine SV.tn ?_
    refine SV.seq' ?_
    refine SV.seq' ?_
    refine SV.region ?_
    refine SV.op (OpL.ok (nb := 0) (ok_move (v := V.one (.sc _)) (.inr rfl) rfl) rfl (gle rfl)) rfl ?_
    refine SV.nil ?_
    refine SV.tn ?_
    refine SV.block ?_
    refine SV.loop (X := Nat) (fun t => (((VS.nil.put 0 (V.one (.ro (.seq 3 (X.map tInt))))).put 1 (V.one (.ro (.seq 3 (X.map tInt))))).put 5 (V.one (.sc (.int .i64 (t : Int)))))) (fun t => t ≤ X.length) (fun t => X.length - t) ?_ ?_
    · skip
      refine SV.again (fun i => [].getD i 0) 0 (Nat.zero_le _) (pins hE rfl rfl) (VS.le.mk' (le_put (le_put (le_put le_nil (V.le.one rfl (by first | rfl | (show Leaf.sc _ = Leaf.sc _; refine congrArg Leaf.sc ?_; first | rfl | go_num | (simp [cntAll]; done)) | (simp [cntAll]; done) | (simp; omega)))) (V.le.one rfl (by first | rfl | (show Leaf.sc _ = Leaf.sc _; refine congrArg Leaf.sc ?_; first | rfl | go_num | (simp [cntAll]; done)) | (simp [cntAll]; done) | (simp; omega)))) (V.le.one rfl (by first | rfl | (show Leaf.sc _ = Leaf.sc _; refine congrArg Leaf.sc ?_; first | rfl | go_num | (simp [cntAll]; done)) | (simp [cntAll]; done) | (simp; omega)))) trivial trivial nil_ob (fun i j hi hj e => absurd hi (Nat.not_lt_zero i)))
    · rintro t ht
      refine SV.seq' ?_
      refine SV.seq' ?_
      refine SV.region ?_
      refine SV.op (OpL.ok (nb := 0) (ok_move (v := V.one (.sc _)) (.inl rfl) rfl) rfl (gle rfl)) rfl ?_
      refine SV.op (OpL.ok (nb := 0) (ok_move (v := V.one (.ro _)) (.inl rfl) rfl) rfl (gle rfl)) rfl ?_
      refine SV.op (OpL.ok (nb := 0) (ok_len (lf := .ro _) rfl elt_int.und rfl rfl) rfl (gle rfl)) rfl ?_
      refine SV.op (OpL.ok (nb := 0) (ok_s2 (x := .tmp 11) (x' := .tmp 13) (VScal.one rfl) (VScal.one rfl) (fun ρ h1 h2 w => by go_simp; (try go_bits); with_reducible rfl) rfl) rfl (gle rfl)) rfl ?_
      refine SV.nil ?_
      refine SV.tn ?_
      refine SV.cond rfl (fun hc1 => ?_) (fun hc1 => ?_)
      · skip   -- c1.T
        have htl : t < X.length := by simpa using hc1
        have hx : X[t]? = some X[t] := by simp [htl]
        have hw := wt_int_at X t htl
        refine SV.skip ?_
        refine SV.tn ?_
        refine SV.seq' ?_
        refine SV.block ?_
        refine SV.seq' ?_
        refine SV.draw [.q 0, .q 1, .q 2, .q 3, .q 4, .q 5, .q 6, .q 7, .q 8] [] (by kernel_rfl) (by kernel_rfl) ?_
        refine DW.q rfl (ok_move (v := V.one (.ro _)) (.inl rfl) rfl) rfl rfl (gle rfl) (fun _ _ _ _ h => h) ?_
        refine DW.q rfl (ok_move (v := V.one (.sc _)) (.inl rfl) rfl) rfl rfl (gle rfl) (fun _ _ _ _ h => h) ?_
        refine DW.q rfl (ok_index (n := 1) (lf := .ro _) rfl elt_int.und sz_int rfl rfl rfl (map_at (by assumption))) rfl rfl (gle rfl) (fun _ _ _ _ h => h) ?_
        refine DW.q rfl (ok_load_rp (ag := false) (m := 1) (ys := [.sc _]) rfl rfl agg_int sz_int (fun _ => rfl) (gle rfl) rfl) rfl rfl (gle rfl) (fun _ _ _ _ h => h) ?_
        refine DW.q rfl (ok_move (v := V.one (.ro _)) (.inl rfl) rfl) rfl rfl (gle rfl) (fun _ _ _ _ h => h) ?_
        refine DW.q rfl (ok_move (v := V.one (.sc _)) (.inl rfl) rfl) rfl rfl (gle rfl) (fun _ _ _ _ h => h) ?_
        refine DW.q rfl (ok_index (n := 1) (lf := .ro _) rfl elt_int.und sz_int rfl rfl rfl (map_at (by assumption))) rfl rfl (gle rfl) (fun _ _ _ _ h => h) ?_
        refine DW.q rfl (ok_load_rp (ag := false) (m := 1) (ys := [.sc _]) rfl rfl agg_int sz_int (fun _ => rfl) (gle rfl) rfl) rfl rfl (gle rfl) (fun _ _ _ _ h => h) ?_
        refine DW.q rfl (ok_s2 (x := .tmp 20) (x' := .tmp 24) (VScal.one rfl) (VScal.one rfl) (fun ρ h1 h2 w => by go_simp; (try go_bits); with_reducible rfl) rfl) rfl rfl (gle rfl) (fun _ _ _ _ h => h) ?_
        refine DW.stores ?_
        refine SV.zend ?_
        refine SV.tn ?_
        refine SV.cond rfl (fun hc2 => ?_) (fun hc2 => ?_)
        · skip   -- c2.T
          simp at hc2
        · skip   -- c2.F
          refine SV.skip ?_
          refine SV.bn ?_
          refine SV.tn ?_
          refine SV.region ?_
          refine SV.op (OpL.ok (nb := 0) (ok_move (v := V.one (.sc _)) (.inl rfl) rfl) rfl (gle rfl)) rfl ?_
          refine SV.op (OpL.ok (nb := 0) (ok_s2 (x := .tmp 15) (x' := .const ((Value.int IntKind.i64 1))) (VScal.one rfl) (VScal.one rfl) (fun ρ h1 h2 w => by go_simp; (try go_bits); with_reducible rfl) rfl) rfl (gle rfl)) rfl ?_
          refine SV.op (OpL.ok (nb := 0) (ok_move (v := V.one (.sc _)) (.inr rfl) rfl) rfl (gle rfl)) rfl ?_
          refine SV.nil ?_
          refine SV.tn ?_
          refine SV.again (fun i => [].getD i 0) (t + 1) (⟨by omega, by omega⟩) (pins hE rfl rfl) (VS.le.mk' (le_put (le_put (le_put le_nil (V.le.one rfl (by first | rfl | (show Leaf.sc _ = Leaf.sc _; refine congrArg Leaf.sc ?_; first | rfl | go_num | (simp [cntAll]; done)) | (simp [cntAll]; done) | (simp; omega)))) (V.le.one rfl (by first | rfl | (show Leaf.sc _ = Leaf.sc _; refine congrArg Leaf.sc ?_; first | rfl | go_num | (simp [cntAll]; done)) | (simp [cntAll]; done) | (simp; omega)))) (V.le.one rfl (by first | rfl | (show Leaf.sc _ = Leaf.sc _; refine congrArg Leaf.sc ?_; first | rfl | go_num | (simp [cntAll]; done)) | (simp [cntAll]; done) | (simp; omega)))) trivial trivial nil_ob (fun i j hi hj e => absurd hi (Nat.not_lt_zero i)))
      · skip   -- c1.F
        refine SV.exit ?_
        refine SV.te ?_
        refine SV.te ?_
        refine SV.bh ?_
        refine SV.tn ?_
        refine SV.seq' ?_
        refine SV.region ?_
        refine SV.op (OpL.ok (nb := 0) (ok_move (v := V.one (.sc _)) (.inr rfl) rfl) rfl (gle rfl)) rfl ?_
        refine SV.nil ?_
        refine SV.tn ?_
        refine SV.ret ?_
        apply SV.done (hf := Try.results45) (ht := rfl) (he := .inl rfl)
        case hr => exact (ResAll.cons (ResOk.tmp (ag := false) (xs := [.sc _]) rfl) ResAll.nil')
        case h2 => simp [two]
        refine ⟨rfl, ⟨?_, trivial⟩, trivial⟩ <;> rfl
end Go.Proofs.Ytfghhjcfmmhacaa
/- The reference's ComputeGrants: told by trees. -/
namespace Go.Proofs.Ytfghhjcfmmhacaa
open Go Go.RowKit V
set_option linter.unusedVariables false
set_option maxRecDepth 100000 in
set_option maxHeartbeats 2000000 in
theorem vgrants_s (b : BrokerD) (hA : b.fActive.length ≤ 1000000000) (hW : b.fWaiting.length ≤ 1000000000) : VC Try.prog 18 [(true, tBroker b)] false [(false, [.seq 3 ((BrokerD.grants b).map tInt)])] := by
  refine VC.enter Try.func18 rfl Try.ntmps18 (gle rfl) fun E hE => ?_
  refine SV.seq' ?_
  refine SV.region ?_
  refine SV.op (OpMk.ok (ok_box (kk := 0) (ag := true) (xs := [.sc _, .sc _, .ro _, .ro _]) rfl rfl rfl (fun h => by cases h) rfl rfl (gle rfl))) rfl ?_
  refine SV.op (OpL.ok (nb := 1) (ok_move (v := V.one (.sc _)) (.inr rfl) rfl) rfl (gle rfl)) rfl ?_
  refine SV.nil ?_
  refine SV.tn ?_
  refine SV.seq' ?_
  refine SV.region ?_
  refine SV.op (OpMk.ok (ok_lit0 (kk := 0) elt_int rfl rfl rfl (gle rfl))) rfl ?_
  refine SV.op (OpL.ok (nb := 1) (ok_move (v := V.one (.hd 0)) (.inr rfl) rfl) rfl (gle rfl)) rfl ?_
  refine SV.nil ?_
  refine SV.tn ?_
  refine SV.seq' ?_
  refine SV.seq' ?_
  refine SV.region ?_
  refine SV.op (OpL.ok (nb := 1) (ok_load_bp (b := 0) (i := 0) (ag := true) (m := 4) (ys := [.sc _, .sc _, .ro _, .ro _]) rfl rfl rfl agg_impl_Broker sz_impl_Broker (fun h => by cases h) rfl rfl (gle rfl)) rfl (gle rfl)) rfl ?_
  refine SV.op (OpMk.ok (ok_call (ls := [(false, [.sc _])]) rfl rfl ⟨_, _, Try.func20, rfl, by decide⟩ (vokb_s b (by omega) (by omega)) ⟨⟨[.sc _, .sc _, .ro _, .ro _], rfl, ⟨rfl, rfl, rfl, rfl, trivial⟩⟩, trivial⟩ rfl (gle rfl))) rfl ?_
  refine SV.op (OpL.ok (nb := 1) (ok_s1 (x := .tmp 11) (VScal.one rfl) (fun ρ h1 w => by go_simp; (try go_bits); with_reducible rfl) rfl) rfl (gle rfl)) rfl ?_
  refine SV.nil ?_
  refine SV.tn ?_
  refine SV.cond rfl (fun hc0 => ?_) (fun hc0 => ?_)
  · skip   -- c0.T
    have hok : BrokerD.ok b = false := by simpa using hc0
    have ho := BrokerD.grants_bad hok
    refine SV.seq' ?_
    refine SV.region ?_
    refine SV.op (OpL.ok (nb := 1) (ok_move (v := V.one (.hd 0)) (.inl rfl) rfl) rfl (gle rfl)) rfl ?_
    refine SV.op (OpL.ok (nb := 1) (ok_move (v := V.one (.hd 0)) (.inr rfl) rfl) rfl (gle rfl)) rfl ?_
    refine SV.nil ?_
    refine SV.tn ?_
    refine SV.ret ?_
    refine SV.tr ?_
    apply SV.done (hf := Try.results18) (ht := rfl) (he := .inl rfl)
    case hr => exact (ResAll.cons (ResOk.tmp (ag := false) (xs := [.hd 0]) rfl) ResAll.nil')
    case h2 => simp [two]
    refine ⟨rfl, ⟨?_, trivial⟩, trivial⟩ <;> first | rfl | (rw [ho]; rfl) | ((show some (T.seq _ _) = some (T.seq _ _); refine congrArg (fun z => some (T.seq _ z)) ?_; rw [ho]; first | done | rfl | (simp [tClient]; done) | (simp [List.map_set, tClient]; done))) | ((show some (T.lit (Value.int .i64 _)) = some (T.lit (Value.int .i64 _)); refine congrArg (fun z => some (T.lit (Value.int .i64 z))) ?_; rw [ho]; first | done | rfl)) | ((show some (T.lit (Value.bool _)) = some (T.lit (Value.bool _)); refine congrArg (fun z => some (T.lit (Value.bool z))) ?_; rw [ho]; first | done | rfl | (simp; done)))
  · skip   -- c0.F
    have hok : BrokerD.ok b = true := by simpa using hc0
    have hO := BrokerD.Ok.of hok
    have hN := (BrokerD.okN_iff b).1 hO.num
    have hroom := BrokerD.room_le hN.1.1
    have hr0 := hO.spare
    have hra : BrokerD.rest b + 8 * (b.fActive.length : Int) ≤ b.fPool := by unfold BrokerD.rest; omega
    have hrb : b.fPool ≤ BrokerD.rest b + 8 * (b.fActive.length : Int) := by unfold BrokerD.rest; omega
    refine SV.skip ?_
    refine SV.tn ?_
    refine SV.seq' ?_
    refine SV.region ?_
    refine SV.op (OpL.ok (nb := 1) (ok_field_bp (b := 0) (o' := 0) (off := 0) rfl rfl fld_impl_Broker_0) rfl (gle rfl)) rfl ?_
    refine SV.op (OpL.ok (nb := 1) (ok_load_bp (b := 0) (i := 0) (ag := false) (m := 1) (ys := [.sc _]) rfl rfl rfl agg_int sz_int (fun _ => rfl) rfl rfl (gle rfl)) rfl (gle rfl)) rfl ?_
    refine SV.op (OpL.ok (nb := 1) (ok_move (v := V.one (.sc _)) (.inr rfl) rfl) rfl (gle rfl)) rfl ?_
    refine SV.nil ?_
    refine SV.tn ?_
    refine SV.seq' ?_
    refine SV.seq' ?_
    refine SV.region ?_
    refine SV.op (OpL.ok (nb := 1) (ok_move (v := V.one (.sc _)) (.inr rfl) rfl) rfl (gle rfl)) rfl ?_
    refine SV.nil ?_
    refine SV.tn ?_
    refine SV.block ?_
    refine SV.loopF (X := Nat) (fun (σ : VS) t => (((((((VS.nil.new (.seq 3 ((List.replicate t (8 : Int)).map tInt))).box 26 [σ.bl 0 0, σ.bl 0 1, σ.bl 0 2, σ.bl 0 3]).put 1 (V.flat false [.bp 0 0])).put 2 (σ.tm 2)).put 3 (V.flat false [.hd 0])).put 4 (V.flat false [.sc (.int .i64 (b.fPool - 8 * (t : Int)))])).put 5 (V.flat false [.sc (.int .i64 ((t : Int)))]))) (fun t => t ≤ b.fActive.length) (fun t => b.fActive.length - t) ?_ ?_
    · skip
      refine SV.again (fun i => [0].getD i 0) 0 ((by first | exact Nat.zero_le _ | (refine ⟨Nat.zero_le _, ?_⟩; simp; done) | (simp; done) | omega)) (pins hE rfl rfl) (VS.le.mk' (le_put (le_put (le_put (le_put (le_put (le_box (le_new le_nil)) (V.le.keep (ag := false) (xs := [.bp 0 0]) (ys := [.bp 0 0]) rfl rfl ⟨⟨rfl, (gle rfl)⟩, trivial⟩)) (V.le.keep (ag := false) (xs := [.sc _]) (ys := [.sc _]) rfl rfl ⟨rfl, trivial⟩)) (V.le.keep (ag := false) (xs := [.hd 0]) (ys := [.hd 0]) rfl rfl ⟨⟨rfl, (gle rfl), (gle rfl)⟩, trivial⟩)) (V.le.keep (ag := false) (xs := [.sc _]) (ys := [.sc _]) rfl rfl ⟨(by first | rfl | (show Leaf.sc _ = Leaf.sc _; refine congrArg Leaf.sc ?_; first | rfl | go_num | (simp [cntAll]; done)) | (simp [cntAll]; done) | (simp; omega)), trivial⟩)) (V.le.keep (ag := false) (xs := [.sc _]) (ys := [.sc _]) rfl rfl ⟨(by first | rfl | (show Leaf.sc _ = Leaf.sc _; refine congrArg Leaf.sc ?_; first | rfl | go_num | (simp [cntAll]; done)) | (simp [cntAll]; done) | (simp; omega)), trivial⟩)) ⟨⟨rfl, ⟨rfl, rfl, rfl, rfl, trivial⟩⟩, trivial⟩ ⟨.inr ⟨_, _, rfl, ?ob1_0, (gle rfl)⟩, trivial⟩ (new_ob nil_ob) (fun i j hi hj e => inj_list (l := [0]) (by decide) i j hi hj e))
      case ob1_0 =>
        show some (T.seq _ _) = some (T.seq _ _)
        rfl
    · rintro t ht
      refine SV.seq' ?_
      refine SV.seq' ?_
      refine SV.region ?_
      refine SV.op (OpL.ok (nb := 1) (ok_move (v := V.one (.sc _)) (.inl rfl) rfl) rfl (gle rfl)) rfl ?_
      refine SV.op (OpL.ok (nb := 1) (ok_field_bp (b := 0) (o' := 0) (off := 2) rfl rfl fld_impl_Broker_2) rfl (gle rfl)) rfl ?_
      refine SV.op (OpL.ok (nb := 1) (ok_load_bp (b := 0) (i := 2) (ag := false) (m := 1) (ys := [.ro _]) rfl rfl rfl agg_s_impl_Client sz_s_impl_Client (fun _ => rfl) rfl rfl (gle rfl)) rfl (gle rfl)) rfl ?_
      refine SV.op (OpL.ok (nb := 1) (ok_len (lf := .ro _) rfl elt_impl_Client.und rfl rfl) rfl (gle rfl)) rfl ?_
      refine SV.op (OpL.ok (nb := 1) (ok_s2 (x := .tmp 16) (x' := .tmp 19) (VScal.one rfl) (VScal.one rfl) (fun ρ h1 h2 w => by go_simp; (try go_bits); with_reducible rfl) rfl) rfl (gle rfl)) rfl ?_
      refine SV.nil ?_
      refine SV.tn ?_
      refine SV.cond rfl (fun hc1 => ?_) (fun hc1 => ?_)
      · skip   -- c1.T
        have htl : t < b.fActive.length := by simpa using hc1
        refine SV.skip ?_
        refine SV.tn ?_
        refine SV.seq' ?_
        refine SV.block ?_
        refine SV.seq' ?_
        refine SV.region ?_
        refine SV.op (OpL.ok (nb := 1) (ok_move (v := V.one (.hd 0)) (.inl rfl) rfl) rfl (gle rfl)) rfl ?_
        refine SV.op (OpMk.ok (ok_lit1 (kk := 1) elt_int (ag := false) (xs := [.sc _]) rfl rfl rfl rfl (fun _ => rfl) (outs_c rfl outs_n) (by simp [two]) rfl (gle rfl))) rfl ?_
        refine SV.op (OpMk.ok (ok_append (kk := 2) elt_int (ls := .hd 0) (lx := .hd 1) rfl rfl rfl rfl rfl rfl (by intro i h1 h2; first | (cases h1; done) | (cases h1; cases h2)) (by first | omega | (simp only [List.length_map]; omega) | (simp; done) | (simp; omega)) rfl (gle rfl))) rfl ?_
        refine SV.op (OpL.ok (nb := 1) (ok_move (v := V.one (.hd 2)) (.inr rfl) rfl) rfl (gle rfl)) rfl ?_
        refine SV.nil ?_
        refine SV.tn ?_
        refine SV.region ?_
        refine SV.op (OpL.ok (nb := 1) (ok_move (v := V.one (.sc _)) (.inl rfl) rfl) rfl (gle rfl)) rfl ?_
        refine SV.op (OpL.ok (nb := 1) (ok_s2 (v := .int .i64 (b.fPool - 8 * ((t + 1 : Nat) : Int))) (x := .tmp 26) (x' := .const ((Value.int IntKind.i64 8))) (VScal.one rfl) (VScal.one rfl) (fun ρ h1 h2 w => by go_simp; rw [IntWalk.i64_left, IntWalk.wrap64_in _ ⟨by omega, by omega⟩]; first | omega | (congr 1; omega)) rfl) rfl (gle rfl)) rfl ?_
        refine SV.op (OpL.ok (nb := 1) (ok_move (v := V.one (.sc _)) (.inr rfl) rfl) rfl (gle rfl)) rfl ?_
        refine SV.nil ?_
        refine SV.bn ?_
        refine SV.tn ?_
        refine SV.region ?_
        refine SV.op (OpL.ok (nb := 1) (ok_move (v := V.one (.sc _)) (.inl rfl) rfl) rfl (gle rfl)) rfl ?_
        refine SV.op (OpL.ok (nb := 1) (ok_s2 (x := .tmp 21) (x' := .const ((Value.int IntKind.i64 1))) (VScal.one rfl) (VScal.one rfl) (fun ρ h1 h2 w => by go_simp; (try go_bits); with_reducible rfl) rfl) rfl (gle rfl)) rfl ?_
        refine SV.op (OpL.ok (nb := 1) (ok_move (v := V.one (.sc _)) (.inr rfl) rfl) rfl (gle rfl)) rfl ?_
        refine SV.nil ?_
        refine SV.tn ?_
        refine SV.again (fun i => [2].getD i 0) (t + 1) (⟨by omega, by omega⟩) (pins hE rfl rfl) (VS.le.mk' (le_put (le_put (le_put (le_put (le_put (le_box (le_new le_nil)) (V.le.keep (ag := false) (xs := [.bp 0 0]) (ys := [.bp 0 0]) rfl rfl ⟨⟨rfl, (gle rfl)⟩, trivial⟩)) (V.le.keep (ag := false) (xs := [.sc _]) (ys := [.sc _]) rfl rfl ⟨rfl, trivial⟩)) (V.le.keep (ag := false) (xs := [.hd 2]) (ys := [.hd 0]) rfl rfl ⟨⟨rfl, (gle rfl), (gle rfl)⟩, trivial⟩)) (V.le.keep (ag := false) (xs := [.sc _]) (ys := [.sc _]) rfl rfl ⟨(by first | rfl | (show Leaf.sc _ = Leaf.sc _; refine congrArg Leaf.sc ?_; first | rfl | go_num | (simp [cntAll]; done)) | (simp [cntAll]; done) | (simp; omega)), trivial⟩)) (V.le.keep (ag := false) (xs := [.sc _]) (ys := [.sc _]) rfl rfl ⟨(by first | rfl | (show Leaf.sc _ = Leaf.sc _; refine congrArg Leaf.sc ?_; first | rfl | go_num | (simp [cntAll]; done)) | (simp [cntAll]; done) | (simp; omega)), trivial⟩)) ⟨⟨rfl, ⟨rfl, rfl, rfl, rfl, trivial⟩⟩, trivial⟩ ⟨.inr ⟨_, _, rfl, ?ob2_0, (gle rfl)⟩, trivial⟩ (new_ob nil_ob) (fun i j hi hj e => inj_list (l := [2]) (by decide) i j hi hj e))
        case ob2_0 =>
          show some (T.seq _ _) = some (T.seq _ _)
          rw [List.replicate_succ', List.map_append]; rfl
      · skip   -- c1.F
        have hte : ¬ t < b.fActive.length := by simpa using hc1
        have hstart : (List.replicate t (8 : Int)).map tInt = (BrokerD.grantsT (BrokerD.rest b) b.fActive (9 - ((0 : Nat) : Int)) 0).map tInt := by rw [show (9 : Int) - ((0 : Nat) : Int) = 9 from rfl, ← BrokerD.grantsT_start hO.act, show t = b.fActive.length by omega]
        have hleft0 : b.fPool - 8 * (t : Int) = BrokerD.leftT (BrokerD.rest b) b.fActive (9 - ((0 : Nat) : Int)) 0 := by rw [show (9 : Int) - ((0 : Nat) : Int) = 9 from rfl, BrokerD.leftT_start hO.act hr0]; omega
        refine SV.exit ?_
        refine SV.te ?_
        refine SV.te ?_
        refine SV.bh ?_
        refine SV.tn ?_
        refine SV.seq' ?_
        refine SV.seq' ?_
        refine SV.region ?_
        refine SV.op (OpL.ok (nb := 1) (ok_move (v := V.one (.sc _)) (.inr rfl) rfl) rfl (gle rfl)) rfl ?_
        refine SV.nil ?_
        refine SV.tn ?_
        refine SV.block ?_
        refine SV.loopF (X := Nat) (fun (σ : VS) k => (((((((VS.nil.new (.seq 3 ((BrokerD.grantsT (BrokerD.rest b) b.fActive (9 - (k : Int)) 0).map tInt))).box 26 [σ.bl 0 0, σ.bl 0 1, σ.bl 0 2, σ.bl 0 3]).put 1 (V.flat false [.bp 0 0])).put 2 (σ.tm 2)).put 3 (V.flat false [.hd 0])).put 4 (V.flat false [.sc (.int .i64 (BrokerD.leftT (BrokerD.rest b) b.fActive (9 - (k : Int)) 0))])).put 6 (V.flat false [.sc (.int .i64 (9 - (k : Int)))]))) (fun k => k ≤ 10) (fun k => 10 - k) ?_ ?_
        · skip
          refine SV.again (fun i => [0].getD i 0) 0 ((by omega)) (pins hE rfl rfl) (VS.le.mk' (le_put (le_put (le_put (le_put (le_put (le_box (le_new le_nil)) (V.le.keep (ag := false) (xs := [.bp 0 0]) (ys := [.bp 0 0]) rfl rfl ⟨⟨rfl, (gle rfl)⟩, trivial⟩)) (V.le.keep (ag := false) (xs := [.sc _]) (ys := [.sc _]) rfl rfl ⟨rfl, trivial⟩)) (V.le.keep (ag := false) (xs := [.hd 0]) (ys := [.hd 0]) rfl rfl ⟨⟨rfl, (gle rfl), (gle rfl)⟩, trivial⟩)) (V.le.keep (ag := false) (xs := [.sc _]) (ys := [.sc _]) rfl rfl ⟨(by first | rfl | (show Leaf.sc _ = Leaf.sc _; refine congrArg Leaf.sc ?_; first | rfl | go_num | (first | (rw [hleft0]; done) | (rw [hleft]; done) | omega; first | done | rfl | go_num | (simp; done) | (simp; omega)) | (simp [cntAll]; done)) | (simp [cntAll]; done) | (simp; omega)), trivial⟩)) (V.le.keep (ag := false) (xs := [.sc _]) (ys := [.sc _]) rfl rfl ⟨(by first | rfl | (show Leaf.sc _ = Leaf.sc _; refine congrArg Leaf.sc ?_; first | rfl | go_num | (first | (rw [hleft0]; done) | (rw [hleft]; done) | omega; first | done | rfl | go_num | (simp; done) | (simp; omega)) | (simp [cntAll]; done)) | (simp [cntAll]; done) | (simp; omega)), trivial⟩)) ⟨⟨rfl, ⟨rfl, rfl, rfl, rfl, trivial⟩⟩, trivial⟩ ⟨.inr ⟨_, _, rfl, ?ob3_0, (gle rfl)⟩, trivial⟩ (new_ob nil_ob) (fun i j hi hj e => inj_list (l := [0]) (by decide) i j hi hj e))
          case ob3_0 =>
            show some (T.seq _ _) = some (T.seq _ _)
            exact congrArg (fun z => some (T.seq _ z)) hstart
        · rintro k hk
          refine SV.seq' ?_
          refine SV.seq' ?_
          refine SV.region ?_
          refine SV.op (OpL.ok (nb := 1) (ok_move (v := V.one (.sc _)) (.inl rfl) rfl) rfl (gle rfl)) rfl ?_
          refine SV.op (OpL.ok (nb := 1) (ok_s2 (x := .tmp 28) (x' := .const ((Value.int IntKind.i64 0))) (VScal.one rfl) (VScal.one rfl) (fun ρ h1 h2 w => by go_simp; (try go_bits); with_reducible rfl) rfl) rfl (gle rfl)) rfl ?_
          refine SV.nil ?_
          refine SV.tn ?_
          refine SV.cond rfl (fun hc2 => ?_) (fun hc2 => ?_)
          · skip   -- c2.T
            have hk9 : k ≤ 9 := by simp at hc2; omega
            refine SV.skip ?_
            refine SV.tn ?_
            refine SV.seq' ?_
            refine SV.block ?_
            refine SV.seq' ?_
            refine SV.region ?_
            refine SV.op (OpL.ok (nb := 1) (ok_move (v := V.one (.sc _)) (.inr rfl) rfl) rfl (gle rfl)) rfl ?_
            refine SV.nil ?_
            refine SV.tn ?_
            refine SV.block ?_
            refine SV.loopF (X := Nat) (fun (σ : VS) t => ((((((((VS.nil.new (.seq 3 ((BrokerD.grantsT (BrokerD.rest b) b.fActive (9 - (k : Int)) t).map tInt))).box 26 [σ.bl 0 0, σ.bl 0 1, σ.bl 0 2, σ.bl 0 3]).put 1 (V.flat false [.bp 0 0])).put 2 (σ.tm 2)).put 3 (V.flat false [.hd 0])).put 4 (V.flat false [.sc (.int .i64 (BrokerD.leftT (BrokerD.rest b) b.fActive (9 - (k : Int)) t))])).put 6 (V.flat false [.sc (.int .i64 (9 - (k : Int)))])).put 7 (V.flat false [.sc (.int .i64 ((t : Int)))]))) (fun t => t ≤ b.fActive.length) (fun t => b.fActive.length - t) ?_ ?_
            · skip
              refine SV.again (fun i => [0].getD i 0) 0 ((by first | exact Nat.zero_le _ | (refine ⟨Nat.zero_le _, ?_⟩; simp; done) | (simp; done) | omega)) (pins hE rfl rfl) (VS.le.mk' (le_put (le_put (le_put (le_put (le_put (le_put (le_box (le_new le_nil)) (V.le.keep (ag := false) (xs := [.bp 0 0]) (ys := [.bp 0 0]) rfl rfl ⟨⟨rfl, (gle rfl)⟩, trivial⟩)) (V.le.keep (ag := false) (xs := [.sc _]) (ys := [.sc _]) rfl rfl ⟨rfl, trivial⟩)) (V.le.keep (ag := false) (xs := [.hd 0]) (ys := [.hd 0]) rfl rfl ⟨⟨rfl, (gle rfl), (gle rfl)⟩, trivial⟩)) (V.le.keep (ag := false) (xs := [.sc _]) (ys := [.sc _]) rfl rfl ⟨(by first | rfl | (show Leaf.sc _ = Leaf.sc _; refine congrArg Leaf.sc ?_; first | rfl | go_num | (first | (rw [hln]; done) | omega; first | done | rfl | go_num | (simp; done) | (simp; omega)) | (simp [cntAll]; done)) | (simp [cntAll]; done) | (simp; omega)), trivial⟩)) (V.le.keep (ag := false) (xs := [.sc _]) (ys := [.sc _]) rfl rfl ⟨(by first | rfl | (show Leaf.sc _ = Leaf.sc _; refine congrArg Leaf.sc ?_; first | rfl | go_num | (first | (rw [hln]; done) | omega; first | done | rfl | go_num | (simp; done) | (simp; omega)) | (simp [cntAll]; done)) | (simp [cntAll]; done) | (simp; omega)), trivial⟩)) (V.le.keep (ag := false) (xs := [.sc _]) (ys := [.sc _]) rfl rfl ⟨(by first | rfl | (show Leaf.sc _ = Leaf.sc _; refine congrArg Leaf.sc ?_; first | rfl | go_num | (first | (rw [hln]; done) | omega; first | done | rfl | go_num | (simp; done) | (simp; omega)) | (simp [cntAll]; done)) | (simp [cntAll]; done) | (simp; omega)), trivial⟩)) ⟨⟨rfl, ⟨rfl, rfl, rfl, rfl, trivial⟩⟩, trivial⟩ ⟨.inr ⟨_, _, rfl, ?ob4_0, (gle rfl)⟩, trivial⟩ (new_ob nil_ob) (fun i j hi hj e => inj_list (l := [0]) (by decide) i j hi hj e))
              case ob4_0 =>
                show some (T.seq _ _) = some (T.seq _ _)
                rfl
            · rintro t ht
              refine SV.seq' ?_
              refine SV.seq' ?_
              refine SV.region ?_
              refine SV.op (OpL.ok (nb := 1) (ok_move (v := V.one (.sc _)) (.inl rfl) rfl) rfl (gle rfl)) rfl ?_
              refine SV.op (OpL.ok (nb := 1) (ok_field_bp (b := 0) (o' := 0) (off := 2) rfl rfl fld_impl_Broker_2) rfl (gle rfl)) rfl ?_
              refine SV.op (OpL.ok (nb := 1) (ok_load_bp (b := 0) (i := 2) (ag := false) (m := 1) (ys := [.ro _]) rfl rfl rfl agg_s_impl_Client sz_s_impl_Client (fun _ => rfl) rfl rfl (gle rfl)) rfl (gle rfl)) rfl ?_
              refine SV.op (OpL.ok (nb := 1) (ok_len (lf := .ro _) rfl elt_impl_Client.und rfl rfl) rfl (gle rfl)) rfl ?_
              refine SV.op (OpL.ok (nb := 1) (ok_s2 (x := .tmp 32) (x' := .tmp 35) (VScal.one rfl) (VScal.one rfl) (fun ρ h1 h2 w => by go_simp; (try go_bits); with_reducible rfl) rfl) rfl (gle rfl)) rfl ?_
              refine SV.nil ?_
              refine SV.tn ?_
              refine SV.cond rfl (fun hc3 => ?_) (fun hc3 => ?_)
              · skip   -- c3.T
                have htl : t < b.fActive.length := by simpa using hc3
                obtain ⟨c, hx⟩ : ∃ c, b.fActive[t]? = some c := ⟨_, List.getElem?_eq_getElem htl⟩
                obtain ⟨hnd, hpr⟩ := BrokerD.need_at hx
                have hlr := BrokerD.leftT_range hO.act hr0 (9 - (k : Int)) t
                have hcr := (BrokerD.okC_iff _ c).1 (hO.act.each c (List.mem_of_getElem? hx))
                refine SV.skip ?_
                refine SV.tn ?_
                refine SV.seq' ?_
                refine SV.block ?_
                refine SV.seq' ?_
                refine SV.region ?_
                refine SV.op (OpL.ok (nb := 1) (ok_field_bp (b := 0) (o' := 0) (off := 2) rfl rfl fld_impl_Broker_2) rfl (gle rfl)) rfl ?_
                refine SV.op (OpL.ok (nb := 1) (ok_load_bp (b := 0) (i := 2) (ag := false) (m := 1) (ys := [.ro _]) rfl rfl rfl agg_s_impl_Client sz_s_impl_Client (fun _ => rfl) rfl rfl (gle rfl)) rfl (gle rfl)) rfl ?_
                refine SV.op (OpL.ok (nb := 1) (ok_move (v := V.one (.sc _)) (.inl rfl) rfl) rfl (gle rfl)) rfl ?_
                refine SV.op (OpL.ok (nb := 1) (ok_index (n := 3) (lf := .ro _) rfl elt_impl_Client.und sz_impl_Client rfl rfl rfl (map_at hx)) rfl (gle rfl)) rfl ?_
                refine SV.op (OpL.ok (nb := 1) (ok_field_el (p := .rp _) (off := 2) rfl rfl rfl fld_impl_Client_2) rfl (gle rfl)) rfl ?_
                refine SV.op (OpL.ok (nb := 1) (ok_load_rp (ag := false) (m := 1) (ys := [.sc _]) rfl rfl agg_int sz_int (fun _ => rfl) (gle rfl) rfl) rfl (gle rfl)) rfl ?_
                refine SV.op (OpL.ok (nb := 1) (ok_move (v := V.one (.sc _)) (.inl rfl) rfl) rfl (gle rfl)) rfl ?_
                refine SV.op (OpL.ok (nb := 1) (ok_s2 (x := .tmp 44) (x' := .tmp 45) (VScal.one rfl) (VScal.one rfl) (fun ρ h1 h2 w => by go_simp; (try go_bits); with_reducible rfl) rfl) rfl (gle rfl)) rfl ?_
                refine SV.nil ?_
                refine SV.tn ?_
                refine SV.cond rfl (fun hc4 => ?_) (fun hc4 => ?_)
                · skip   -- c4.T
                  have hpt : BrokerD.prio b.fActive t = 9 - (k : Int) := by rw [hpr]; simpa using hc4
                  have hg8 := BrokerD.grantsT_at (r := (BrokerD.rest b)) htl hpt
                  have hln : BrokerD.leftT (BrokerD.rest b) b.fActive (9 - (k : Int)) (t + 1) = BrokerD.leftT (BrokerD.rest b) b.fActive (9 - (k : Int)) t - min (BrokerD.leftT (BrokerD.rest b) b.fActive (9 - (k : Int)) t) (c.fRequested - 8) := by rw [(BrokerD.left_take hO.act htl hpt).1, hnd]
                  have hgn0 := BrokerD.grantsT_take (r := (BrokerD.rest b)) hO.act htl hpt
                  rw [hnd] at hgn0
                  refine SV.seq' ?_
                  refine SV.region ?_
                  refine SV.op (OpL.ok (nb := 1) (ok_move (v := V.one (.sc _)) (.inl rfl) rfl) rfl (gle rfl)) rfl ?_
                  refine SV.op (OpL.ok (nb := 1) (ok_field_bp (b := 0) (o' := 0) (off := 2) rfl rfl fld_impl_Broker_2) rfl (gle rfl)) rfl ?_
                  refine SV.op (OpL.ok (nb := 1) (ok_load_bp (b := 0) (i := 2) (ag := false) (m := 1) (ys := [.ro _]) rfl rfl rfl agg_s_impl_Client sz_s_impl_Client (fun _ => rfl) rfl rfl (gle rfl)) rfl (gle rfl)) rfl ?_
                  refine SV.op (OpL.ok (nb := 1) (ok_move (v := V.one (.sc _)) (.inl rfl) rfl) rfl (gle rfl)) rfl ?_
                  refine SV.op (OpL.ok (nb := 1) (ok_index (n := 3) (lf := .ro _) rfl elt_impl_Client.und sz_impl_Client rfl rfl rfl (map_at hx)) rfl (gle rfl)) rfl ?_
                  refine SV.op (OpL.ok (nb := 1) (ok_field_el (p := .rp _) (off := 1) rfl rfl rfl fld_impl_Client_1) rfl (gle rfl)) rfl ?_
                  refine SV.op (OpL.ok (nb := 1) (ok_load_rp (ag := false) (m := 1) (ys := [.sc _]) rfl rfl agg_int sz_int (fun _ => rfl) (gle rfl) rfl) rfl (gle rfl)) rfl ?_
                  refine SV.op (OpL.ok (nb := 1) (ok_s2 (v := .int .i64 (c.fRequested - 8)) (x := .tmp 53) (x' := .const ((Value.int IntKind.i64 8))) (VScal.one rfl) (VScal.one rfl) (fun ρ h1 h2 w => by go_simp; rw [IntWalk.i64_left, IntWalk.wrap64_in _ ⟨by omega, by omega⟩]) rfl) rfl (gle rfl)) rfl ?_
                  refine SV.op (OpL.ok (nb := 1) (ok_s2 (x := .tmp 47) (x' := .tmp 54) (VScal.one rfl) (VScal.one rfl) (fun ρ h1 h2 w => by go_simp; (try go_bits); with_reducible rfl) rfl) rfl (gle rfl)) rfl ?_
                  refine SV.op (OpL.ok (nb := 1) (ok_move (v := V.one (.sc _)) (.inr rfl) rfl) rfl (gle rfl)) rfl ?_
                  refine SV.nil ?_
                  refine SV.tn ?_
                  refine SV.seq' ?_
                  refine SV.region ?_
                  refine SV.op (OpL.ok (nb := 1) (ok_move (v := V.one (.hd 0)) (.inl rfl) rfl) rfl (gle rfl)) rfl ?_
                  refine SV.op (OpL.ok (nb := 1) (ok_move (v := V.one (.sc _)) (.inl rfl) rfl) rfl (gle rfl)) rfl ?_
                  refine SV.op (OpL.ok (nb := 1) (ok_move (v := V.one (.hd 0)) (.inl rfl) rfl) rfl (gle rfl)) rfl ?_
                  refine SV.op (OpL.ok (nb := 1) (ok_move (v := V.one (.sc _)) (.inl rfl) rfl) rfl (gle rfl)) rfl ?_
                  refine SV.op (OpL.ok (nb := 1) (ok_index (n := 1) (lf := .hd 0) rfl elt_int.und sz_int rfl rfl rfl (map_at hg8)) rfl (gle rfl)) rfl ?_
                  refine SV.op (ok_load_el (p := .ep 0 _ _ _) (ag := false) (m := 1) (ys := [.sc _]) rfl rfl (cells_ep rfl (map_at hg8) rfl rfl) agg_int sz_int (fun _ => rfl) (gle rfl) rfl rfl (gle rfl)) rfl ?_
                  refine SV.op (OpL.ok (nb := 1) (ok_move (v := V.one (.sc _)) (.inl rfl) rfl) rfl (gle rfl)) rfl ?_
                  refine SV.op (OpL.ok (nb := 1) (ok_s2 (v := .int .i64 (8 + min (BrokerD.leftT (BrokerD.rest b) b.fActive (9 - (k : Int)) t) (c.fRequested - 8))) (x := .tmp 61) (x' := .tmp 62) (VScal.one rfl) (VScal.one rfl) (fun ρ h1 h2 w => by go_simp; rw [IntWalk.i64_left, IntWalk.wrap64_in _ ⟨by omega, by omega⟩]; (try omega)) rfl) rfl (gle rfl)) rfl ?_
                  refine SV.op (OpL.ok (nb := 1) (ok_index (n := 1) (lf := .hd 0) rfl elt_int.und sz_int rfl rfl rfl (map_at hg8)) rfl (gle rfl)) rfl ?_
                  refine SV.op (ok_store_ep (i := 0) (n := 1) (m := 1) (ag := false) (zs := [.sc _]) rfl rfl rfl rfl (map_at hg8) sz_int (fun _ => rfl) rfl sz_int (gle rfl) (outs_c rfl outs_n) (by simp [two]) rfl rfl rfl) rfl ?_
                  refine SV.nil ?_
                  refine SV.tn ?_
                  refine SV.region ?_
                  refine SV.op (OpL.ok (nb := 1) (ok_move (v := V.one (.sc _)) (.inl rfl) rfl) rfl (gle rfl)) rfl ?_
                  refine SV.op (OpL.ok (nb := 1) (ok_move (v := V.one (.sc _)) (.inl rfl) rfl) rfl (gle rfl)) rfl ?_
                  refine SV.op (OpL.ok (nb := 1) (ok_s2 (v := .int .i64 (BrokerD.leftT (BrokerD.rest b) b.fActive (9 - (k : Int)) t - min (BrokerD.leftT (BrokerD.rest b) b.fActive (9 - (k : Int)) t) (c.fRequested - 8))) (x := .tmp 65) (x' := .tmp 66) (VScal.one rfl) (VScal.one rfl) (fun ρ h1 h2 w => by go_simp; rw [IntWalk.i64_left, IntWalk.wrap64_in _ ⟨by omega, by omega⟩]; (try omega)) rfl) rfl (gle rfl)) rfl ?_
                  refine SV.op (OpL.ok (nb := 1) (ok_move (v := V.one (.sc _)) (.inr rfl) rfl) rfl (gle rfl)) rfl ?_
                  refine SV.nil ?_
                  refine SV.bn ?_
                  refine SV.tn ?_
                  refine SV.region ?_
                  refine SV.op (OpL.ok (nb := 1) (ok_move (v := V.one (.sc _)) (.inl rfl) rfl) rfl (gle rfl)) rfl ?_
                  refine SV.op (OpL.ok (nb := 1) (ok_s2 (x := .tmp 37) (x' := .const ((Value.int IntKind.i64 1))) (VScal.one rfl) (VScal.one rfl) (fun ρ h1 h2 w => by go_simp; (try go_bits); with_reducible rfl) rfl) rfl (gle rfl)) rfl ?_
                  refine SV.op (OpL.ok (nb := 1) (ok_move (v := V.one (.sc _)) (.inr rfl) rfl) rfl (gle rfl)) rfl ?_
                  refine SV.nil ?_
                  refine SV.tn ?_
                  refine SV.again (fun i => [0].getD i 0) (t + 1) (⟨by omega, by omega⟩) (pins hE rfl rfl) (VS.le.mk' (le_put (le_put (le_put (le_put (le_put (le_put (le_box (le_new le_nil)) (V.le.keep (ag := false) (xs := [.bp 0 0]) (ys := [.bp 0 0]) rfl rfl ⟨⟨rfl, (gle rfl)⟩, trivial⟩)) (V.le.keep (ag := false) (xs := [.sc _]) (ys := [.sc _]) rfl rfl ⟨rfl, trivial⟩)) (V.le.keep (ag := false) (xs := [.hd 0]) (ys := [.hd 0]) rfl rfl ⟨⟨rfl, (gle rfl), (gle rfl)⟩, trivial⟩)) (V.le.keep (ag := false) (xs := [.sc _]) (ys := [.sc _]) rfl rfl ⟨(by first | rfl | (show Leaf.sc _ = Leaf.sc _; refine congrArg Leaf.sc ?_; first | rfl | go_num | (first | (rw [hln]; done) | omega; first | done | rfl | go_num | (simp; done) | (simp; omega)) | (simp [cntAll]; done)) | (simp [cntAll]; done) | (simp; omega)), trivial⟩)) (V.le.keep (ag := false) (xs := [.sc _]) (ys := [.sc _]) rfl rfl ⟨(by first | rfl | (show Leaf.sc _ = Leaf.sc _; refine congrArg Leaf.sc ?_; first | rfl | go_num | (first | (rw [hln]; done) | omega; first | done | rfl | go_num | (simp; done) | (simp; omega)) | (simp [cntAll]; done)) | (simp [cntAll]; done) | (simp; omega)), trivial⟩)) (V.le.keep (ag := false) (xs := [.sc _]) (ys := [.sc _]) rfl rfl ⟨(by first | rfl | (show Leaf.sc _ = Leaf.sc _; refine congrArg Leaf.sc ?_; first | rfl | go_num | (first | (rw [hln]; done) | omega; first | done | rfl | go_num | (simp; done) | (simp; omega)) | (simp [cntAll]; done)) | (simp [cntAll]; done) | (simp; omega)), trivial⟩)) ⟨⟨rfl, ⟨rfl, rfl, rfl, rfl, trivial⟩⟩, trivial⟩ ⟨.inr ⟨_, _, rfl, ?ob5_0, (gle rfl)⟩, trivial⟩ (new_ob nil_ob) (fun i j hi hj e => inj_list (l := [0]) (by decide) i j hi hj e))
                  case ob5_0 =>
                    show some (T.seq _ _) = some (T.seq _ _)
                    first | exact congrArg (fun z => some (T.seq _ z)) hgn | (rw [hgn0, List.map_set]; rfl) | (simp [hgn0, List.map_set, tInt]; done)
                · skip   -- c4.F
                  have hpt : BrokerD.prio b.fActive t ≠ 9 - (k : Int) := by rw [hpr]; simpa using hc4
                  have hln : BrokerD.leftT (BrokerD.rest b) b.fActive (9 - (k : Int)) (t + 1) = BrokerD.leftT (BrokerD.rest b) b.fActive (9 - (k : Int)) t := BrokerD.leftT_skip hpt
                  have hgn : (BrokerD.grantsT (BrokerD.rest b) b.fActive (9 - (k : Int)) t).map tInt = (BrokerD.grantsT (BrokerD.rest b) b.fActive (9 - (k : Int)) (t + 1)).map tInt := by rw [BrokerD.grantsT_skip hpt]
                  refine SV.skip ?_
                  refine SV.bn ?_
                  refine SV.tn ?_
                  refine SV.region ?_
                  refine SV.op (OpL.ok (nb := 1) (ok_move (v := V.one (.sc _)) (.inl rfl) rfl) rfl (gle rfl)) rfl ?_
                  refine SV.op (OpL.ok (nb := 1) (ok_s2 (x := .tmp 37) (x' := .const ((Value.int IntKind.i64 1))) (VScal.one rfl) (VScal.one rfl) (fun ρ h1 h2 w => by go_simp; (try go_bits); with_reducible rfl) rfl) rfl (gle rfl)) rfl ?_
                  refine SV.op (OpL.ok (nb := 1) (ok_move (v := V.one (.sc _)) (.inr rfl) rfl) rfl (gle rfl)) rfl ?_
                  refine SV.nil ?_
                  refine SV.tn ?_
                  refine SV.again (fun i => [0].getD i 0) (t + 1) (⟨by omega, by omega⟩) (pins hE rfl rfl) (VS.le.mk' (le_put (le_put (le_put (le_put (le_put (le_put (le_box (le_new le_nil)) (V.le.keep (ag := false) (xs := [.bp 0 0]) (ys := [.bp 0 0]) rfl rfl ⟨⟨rfl, (gle rfl)⟩, trivial⟩)) (V.le.keep (ag := false) (xs := [.sc _]) (ys := [.sc _]) rfl rfl ⟨rfl, trivial⟩)) (V.le.keep (ag := false) (xs := [.hd 0]) (ys := [.hd 0]) rfl rfl ⟨⟨rfl, (gle rfl), (gle rfl)⟩, trivial⟩)) (V.le.keep (ag := false) (xs := [.sc _]) (ys := [.sc _]) rfl rfl ⟨(by first | rfl | (show Leaf.sc _ = Leaf.sc _; refine congrArg Leaf.sc ?_; first | rfl | go_num | (first | (rw [hln]; done) | omega; first | done | rfl | go_num | (simp; done) | (simp; omega)) | (simp [cntAll]; done)) | (simp [cntAll]; done) | (simp; omega)), trivial⟩)) (V.le.keep (ag := false) (xs := [.sc _]) (ys := [.sc _]) rfl rfl ⟨(by first | rfl | (show Leaf.sc _ = Leaf.sc _; refine congrArg Leaf.sc ?_; first | rfl | go_num | (first | (rw [hln]; done) | omega; first | done | rfl | go_num | (simp; done) | (simp; omega)) | (simp [cntAll]; done)) | (simp [cntAll]; done) | (simp; omega)), trivial⟩)) (V.le.keep (ag := false) (xs := [.sc _]) (ys := [.sc _]) rfl rfl ⟨(by first | rfl | (show Leaf.sc _ = Leaf.sc _; refine congrArg Leaf.sc ?_; first | rfl | go_num | (first | (rw [hln]; done) | omega; first | done | rfl | go_num | (simp; done) | (simp; omega)) | (simp [cntAll]; done)) | (simp [cntAll]; done) | (simp; omega)), trivial⟩)) ⟨⟨rfl, ⟨rfl, rfl, rfl, rfl, trivial⟩⟩, trivial⟩ ⟨.inr ⟨_, _, rfl, ?ob6_0, (gle rfl)⟩, trivial⟩ (new_ob nil_ob) (fun i j hi hj e => inj_list (l := [0]) (by decide) i j hi hj e))
                  case ob6_0 =>
                    show some (T.seq _ _) = some (T.seq _ _)
                    first | exact congrArg (fun z => some (T.seq _ z)) hgn | (rw [hgn0, List.map_set]; rfl) | (simp [hgn0, List.map_set, tInt]; done)
              · skip   -- c3.F
                have hte : t = b.fActive.length := by simp at hc3; omega
                have hnext : (BrokerD.grantsT (BrokerD.rest b) b.fActive (9 - (k : Int)) t).map tInt = (BrokerD.grantsT (BrokerD.rest b) b.fActive (9 - ((k + 1 : Nat) : Int)) 0).map tInt := by rw [hte, BrokerD.grantsT_next, show (9 : Int) - (k : Int) - 1 = 9 - ((k + 1 : Nat) : Int) by omega]
                have hleft : BrokerD.leftT (BrokerD.rest b) b.fActive (9 - (k : Int)) t = BrokerD.leftT (BrokerD.rest b) b.fActive (9 - ((k + 1 : Nat) : Int)) 0 := by rw [hte, BrokerD.leftT_next, show (9 : Int) - (k : Int) - 1 = 9 - ((k + 1 : Nat) : Int) by omega]
                refine SV.exit ?_
                refine SV.te ?_
                refine SV.te ?_
                refine SV.bh ?_
                refine SV.bn ?_
                refine SV.tn ?_
                refine SV.region ?_
                refine SV.op (OpL.ok (nb := 1) (ok_move (v := V.one (.sc _)) (.inl rfl) rfl) rfl (gle rfl)) rfl ?_
                refine SV.op (OpL.ok (nb := 1) (ok_s2 (x := .tmp 30) (x' := .const ((Value.int IntKind.i64 1))) (VScal.one rfl) (VScal.one rfl) (fun ρ h1 h2 w => by go_simp; (try go_bits); with_reducible rfl) rfl) rfl (gle rfl)) rfl ?_
                refine SV.op (OpL.ok (nb := 1) (ok_move (v := V.one (.sc _)) (.inr rfl) rfl) rfl (gle rfl)) rfl ?_
                refine SV.nil ?_
                refine SV.tn ?_
                refine SV.again (fun i => [0].getD i 0) (k + 1) (⟨by omega, by omega⟩) (pins hE rfl rfl) (VS.le.mk' (le_put (le_put (le_put (le_put (le_put (le_box (le_new le_nil)) (V.le.keep (ag := false) (xs := [.bp 0 0]) (ys := [.bp 0 0]) rfl rfl ⟨⟨rfl, (gle rfl)⟩, trivial⟩)) (V.le.keep (ag := false) (xs := [.sc _]) (ys := [.sc _]) rfl rfl ⟨rfl, trivial⟩)) (V.le.keep (ag := false) (xs := [.hd 0]) (ys := [.hd 0]) rfl rfl ⟨⟨rfl, (gle rfl), (gle rfl)⟩, trivial⟩)) (V.le.keep (ag := false) (xs := [.sc _]) (ys := [.sc _]) rfl rfl ⟨(by first | rfl | (show Leaf.sc _ = Leaf.sc _; refine congrArg Leaf.sc ?_; first | rfl | go_num | (first | (rw [hleft0]; done) | (rw [hleft]; done) | omega; first | done | rfl | go_num | (simp; done) | (simp; omega)) | (simp [cntAll]; done)) | (simp [cntAll]; done) | (simp; omega)), trivial⟩)) (V.le.keep (ag := false) (xs := [.sc _]) (ys := [.sc _]) rfl rfl ⟨(by first | rfl | (show Leaf.sc _ = Leaf.sc _; refine congrArg Leaf.sc ?_; first | rfl | go_num | (first | (rw [hleft0]; done) | (rw [hleft]; done) | omega; first | done | rfl | go_num | (simp; done) | (simp; omega)) | (simp [cntAll]; done)) | (simp [cntAll]; done) | (simp; omega)), trivial⟩)) ⟨⟨rfl, ⟨rfl, rfl, rfl, rfl, trivial⟩⟩, trivial⟩ ⟨.inr ⟨_, _, rfl, ?ob7_0, (gle rfl)⟩, trivial⟩ (new_ob nil_ob) (fun i j hi hj e => inj_list (l := [0]) (by decide) i j hi hj e))
                case ob7_0 =>
                  show some (T.seq _ _) = some (T.seq _ _)
                  exact congrArg (fun z => some (T.seq _ z)) hnext
          · skip   -- c2.F
            have hke : k = 10 := by simp at hc2; omega
            have ho : BrokerD.grantsT (BrokerD.rest b) b.fActive (9 - (k : Int)) 0 = BrokerD.grants b := by rw [hke, show (9 : Int) - ((10 : Nat) : Int) = -1 from rfl, BrokerD.grantsT_end hO.act]; unfold BrokerD.grants; rw [if_pos hok]
            refine SV.exit ?_
            refine SV.te ?_
            refine SV.te ?_
            refine SV.bh ?_
            refine SV.tn ?_
            refine SV.seq' ?_
            refine SV.region ?_
            refine SV.op (OpL.ok (nb := 1) (ok_move (v := V.one (.hd 0)) (.inl rfl) rfl) rfl (gle rfl)) rfl ?_
            refine SV.op (OpL.ok (nb := 1) (ok_move (v := V.one (.hd 0)) (.inr rfl) rfl) rfl (gle rfl)) rfl ?_
            refine SV.nil ?_
            refine SV.tn ?_
            refine SV.ret ?_
            apply SV.done (hf := Try.results18) (ht := rfl) (he := .inl rfl)
            case hr => exact (ResAll.cons (ResOk.tmp (ag := false) (xs := [.hd 0]) rfl) ResAll.nil')
            case h2 => simp [two]
            refine ⟨rfl, ⟨?_, trivial⟩, trivial⟩ <;> first | rfl | (rw [ho]; rfl) | ((show some (T.seq _ _) = some (T.seq _ _); refine congrArg (fun z => some (T.seq _ z)) ?_; rw [ho]; first | done | rfl | (simp [tClient]; done) | (simp [List.map_set, tClient]; done))) | ((show some (T.lit (Value.int .i64 _)) = some (T.lit (Value.int .i64 _)); refine congrArg (fun z => some (T.lit (Value.int .i64 z))) ?_; rw [ho]; first | done | rfl)) | ((show some (T.lit (Value.bool _)) = some (T.lit (Value.bool _)); refine congrArg (fun z => some (T.lit (Value.bool z))) ?_; rw [ho]; first | done | rfl | (simp; done)))
end Go.Proofs.Ytfghhjcfmmhacaa
/- Total orders told by a comparison, and sorting by them, as plain mathematics; no function of program or reference is walked here. -/
namespace Go.Proofs.Ytfghhjcfmmhacaa
structure IsOrd {α : Type} (cmp : α → α → Int) : Prop where
  zero : ∀ a b, cmp a b = 0 ↔ a = b
  anti : ∀ a b, cmp b a = - cmp a b
  trans : ∀ a b c, cmp a b ≤ 0 → cmp b c ≤ 0 → cmp a c ≤ 0
namespace Ord
variable {α : Type} {cmp : α → α → Int}
def leb (cmp : α → α → Int) (a b : α) : Bool := decide (cmp a b ≤ 0)
theorem leb_iff {a b : α} : leb cmp a b = true ↔ cmp a b ≤ 0 := by simp [leb]
def sort (cmp : α → α → Int) (L : List α) : List α := L.mergeSort (leb cmp)
theorem sort_perm (L : List α) : (sort cmp L).Perm L := List.mergeSort_perm L _
theorem sort_asc (H : IsOrd cmp) (L : List α) : (sort cmp L).Pairwise fun a b => leb cmp a b = true :=
  List.pairwise_mergeSort (le := leb cmp) (fun a b c h h' => leb_iff.2 (H.trans _ _ _ (leb_iff.1 h) (leb_iff.1 h'))) (fun a b => by
    rcases (show cmp a b ≤ 0 ∨ cmp b a ≤ 0 by have := H.anti a b; omega) with h | h
    · simp [leb_iff.2 h]
    · simp [leb_iff.2 h]) L
theorem sort_unique (H : IsOrd cmp) {M L : List α} (hp : M.Perm L) (hs : M.Pairwise fun a b => leb cmp a b = true) : M = sort cmp L :=
  List.Perm.eq_of_pairwise (fun a b _ _ h h' => (H.zero a b).1 (by have h1 := leb_iff.1 h; have h2 := leb_iff.1 h'; have := H.anti a b; omega)) hs (sort_asc H L) (hp.trans (sort_perm L).symm)
end Ord
end Go.Proofs.Ytfghhjcfmmhacaa
/- The order in which clients are served, as mathematics: by falling priority, then by place; an insertion sort by the priority alone gives it. -/
namespace Go.Proofs.Ytfghhjcfmmhacaa
open Go Go.RowKit Go.Sort
set_option linter.unusedVariables false
section
variable {α : Type} [Inhabited α] {v : α → Nat} {lt lt2 : α → α → Bool}
theorem swp_at {d : Array α} {i j p : Nat} (hi : i < d.size) (hj : j < d.size) : (swp d i j)[p]! = if p = j then d[i]! else if p = i then d[j]! else d[p]! := by
  unfold swp
  rcases Nat.lt_or_ge p d.size with hp | hp
  · rw [getElem!_pos _ p (by simpa using hp), Array.getElem_setIfInBounds (by simpa using hp)]
    by_cases e1 : j = p
    · rw [if_pos e1, if_pos e1.symm]
    · rw [if_neg e1, if_neg (fun e => e1 e.symm), Array.getElem_setIfInBounds]
      by_cases e2 : i = p
      · rw [if_pos e2, if_pos e2.symm]
      · rw [if_neg e2, if_neg (fun e => e2 e.symm), getElem!_pos d p hp]
  · have e1 : ¬ p = j := by omega
    have e2 : ¬ p = i := by omega
    rw [if_neg e1, if_neg e2]
    simp [Array.getElem!_eq_getD, Array.getD, Nat.not_lt.2 hp]
theorem inner_eq (h2 : ∀ x y, v y < v x → lt2 x y = lt x y) : ∀ (j : Nat) (d : Array α), j < d.size → (∀ p, p < j → v d[p]! < v d[j]!) → insInner lt 0 j d = insInner lt2 0 j d
  | 0, d, _, _ => rfl
  | j + 1, d, hj, hb => by
    unfold insInner
    rw [h2 _ _ (hb j (Nat.lt_succ_self j))]
    split
    · refine inner_eq h2 j _ (by rw [swp_size]; omega) fun p hp => ?_
      rw [swp_at hj (by omega), swp_at hj (by omega), if_neg (by omega), if_neg (by omega), if_pos rfl]
      exact hb p (by omega)
    · rfl
theorem inner_mem : ∀ (j : Nat) (d : Array α), j < d.size → (insInner lt 0 j d).size = d.size ∧ (∀ q, j < q → (insInner lt 0 j d)[q]! = d[q]!) ∧ ∀ p, p ≤ j → ∃ p', p' ≤ j ∧ (insInner lt 0 j d)[p]! = d[p']!
  | 0, d, _ => ⟨rfl, fun q _ => rfl, fun p hp => ⟨p, hp, rfl⟩⟩
  | j + 1, d, hj => by
    unfold insInner
    split
    · obtain ⟨i1, i2, i3⟩ := inner_mem j (swp d (j + 1) j) (by rw [swp_size]; omega)
      refine ⟨by rw [i1, swp_size], fun q hq => ?_, fun p hp => ?_⟩
      · rw [i2 q (by omega), swp_at hj (by omega), if_neg (by omega), if_neg (by omega)]
      · rcases Nat.lt_or_ge j p with h | h
        · have e : p = j + 1 := by omega
          subst e
          refine ⟨j, by omega, ?_⟩
          rw [i2 _ (by omega), swp_at hj (by omega), if_neg (by omega), if_pos rfl]
        · obtain ⟨p', hp', e⟩ := i3 p h
          rw [e, swp_at hj (by omega)]
          by_cases e1 : p' = j
          · exact ⟨j + 1, Nat.le_refl _, by rw [if_pos e1]⟩
          · exact ⟨p', by omega, by rw [if_neg e1, if_neg (by omega)]⟩
    · exact ⟨rfl, fun q _ => rfl, fun p hp => ⟨p, hp, rfl⟩⟩
theorem outer_eq (h2 : ∀ x y, v y < v x → lt2 x y = lt x y) (b : Nat) : ∀ (n i : Nat) (d : Array α), b - i = n → b ≤ d.size → (∀ p q, p < q → i ≤ q → q < b → v d[p]! < v d[q]!) → insOuter lt 0 b i d = insOuter lt2 0 b i d
  | 0, i, d, hn, _, _ => by
    have e1 : insOuter lt 0 b i d = d := by rw [insOuter, if_neg (by omega)]
    have e2 : insOuter lt2 0 b i d = d := by rw [insOuter, if_neg (by omega)]
    rw [e1, e2]
  | n + 1, i, d, hn, hb, hd => by
    have e1 : insOuter lt 0 b i d = insOuter lt 0 b (i + 1) (insInner lt 0 i d) := by rw [insOuter, if_pos (by omega)]
    have e2 : insOuter lt2 0 b i d = insOuter lt2 0 b (i + 1) (insInner lt2 0 i d) := by rw [insOuter, if_pos (by omega)]
    rw [e1, e2, ← inner_eq h2 i d (by omega) fun p hp => hd p i hp (Nat.le_refl i) (by omega)]
    obtain ⟨i1, i2, i3⟩ := inner_mem (lt := lt) i d (by omega)
    refine outer_eq h2 b n (i + 1) _ (by omega) (by rw [i1]; exact hb) fun p q hpq hq hqb => ?_
    rw [i2 q (by omega)]
    rcases Nat.lt_or_ge i p with h | h
    · rw [i2 p h]
      exact hd p q hpq (by omega) hqb
    · obtain ⟨p', hp', e⟩ := i3 p h
      rw [e]
      exact hd p' q (by omega) (by omega) hqb
end
def cmpOrd (L : List ClientD) (i j : Nat) : Int := if BrokerD.prio L j < BrokerD.prio L i then -1 else if BrokerD.prio L i < BrokerD.prio L j then 1 else if i < j then -1 else if j < i then 1 else 0
theorem isOrd_cmpOrd (L : List ClientD) : IsOrd (cmpOrd L) where
  zero a b := by unfold cmpOrd; constructor <;> intro h <;> (first | (subst h; simp) | (repeat' split at h) <;> first | omega | (exfalso; omega))
  anti a b := by unfold cmpOrd; repeat' split <;> first | omega | rfl
  trans a b c h1 h2 := by unfold cmpOrd at *; repeat' split at h1 <;> repeat' split at h2 <;> repeat' split <;> omega
def ordOf (L : List ClientD) : List Nat := Ord.sort (cmpOrd L) (List.range L.length)
theorem ordOf_perm (L : List ClientD) : (ordOf L).Perm (List.range L.length) := Ord.sort_perm _
theorem ordOf_length (L : List ClientD) : (ordOf L).length = L.length := by rw [(ordOf_perm L).length_eq, List.length_range]
end Go.Proofs.Ytfghhjcfmmhacaa
/- The program's order in which clients are served (a stable sort with a closure), by contract. -/
namespace Go.Proofs.Ytfghhjcfmmhacaa
open Go Go.RowKit V Go.Sort
set_option linter.unusedVariables false
theorem prio_at {L : List ClientD} {i : Nat} {c : ClientD} (h : L[i]? = some c) : BrokerD.prio L i = c.fPriority := by unfold BrokerD.prio; rw [h]
set_option maxRecDepth 100000 in
theorem icmpord (a : Option Addr) (c : Nat) (L : List ClientD) (i j nb : Nat) (w : World) (hi : i < L.length) (hj : j < L.length) (hn : L.length ≤ 1000000000) (hb : w.cell? ⟨nb, 0, none⟩ = some (.slice a L.length c)) (hin : ClIn w a L) :
    Calls Try.prog 80 #[.int .i64 (i : Nat), .int .i64 (j : Nat), .pointer (some ⟨nb, 0, none⟩)] w fun e w' => e = .returned (.int .i64 (cmpI (BrokerD.prio L j) (BrokerD.prio L i))) ∧ w' = w.drew := by
  obtain ⟨x, hx⟩ : ∃ x, L[i]? = some x := ⟨_, List.getElem?_eq_getElem hi⟩
  obtain ⟨y, hy⟩ : ∃ y, L[j]? = some y := ⟨_, List.getElem?_eq_getElem hj⟩
  rw [prio_at hx, prio_at hy]
  obtain ⟨b, o, ha, hbl, -, -, p1⟩ := hin i x hx
  obtain ⟨b', o', ha', -, -, -, p2⟩ := hin j y hy
  rw [ha] at ha'
  injection ha' with ha'
  injection ha' with e1 e2
  subst e1 e2 ha
  obtain ⟨n, hnl⟩ : ∃ n, n = L.length := ⟨_, rfl⟩
  rw [← hnl] at hi hj hn hb
  obtain ⟨X, hX⟩ : ∃ X, X = x.fPriority := ⟨_, rfl⟩
  obtain ⟨Y, hY⟩ : ∃ Y, Y = y.fPriority := ⟨_, rfl⟩
  rw [← hX] at p1 ⊢
  rw [← hY] at p2 ⊢
  have z1 : (i : Int) < (n : Int) := by omega
  have z2 : (j : Int) < (n : Int) := by omega
  clear hx hy hnl hX hY hin
  go_enter Try.func80, Try.ntmps80
  go_wp2_with fail
  go_still_tail 10, (by kernel_rfl)
  go_wp2_with fail
  refine (icompare _ _ _).mono ?_
  rintro e w1 ⟨rfl, rfl⟩
  go_wp2_with fail
  go_ret
  exact ⟨rfl, rfl⟩
theorem heap_sort1 {α : Type} [Inhabited α] {enc : α → Value} {g : Nat} {w : World} (n : Nat) (d : Array α) (os : Array Obj) {b : Nat} (hb : b < w.heap.size) : (sortWorld enc w g 0 n d os).heap[b]? = if g = b then (w.heap[b]?).map (onCells (Go.Sort.putCells enc 0 d)) else w.heap[b]? := by
  show ((w.heap.modify g (onCells (Go.Sort.putCells enc 0 d))) ++ os)[b]? = _
  rw [Array.getElem?_append_left (by simpa using hb), Array.getElem?_modify]
theorem size_sort1 {α : Type} [Inhabited α] {enc : α → Value} {g : Nat} {w : World} (n : Nat) (d : Array α) (os : Array Obj) : w.heap.size ≤ (sortWorld enc w g 0 n d os).heap.size := by simp [sortWorld, grow, putRow, mapBlock]
def Apart (w : World) (g : Nat) (W : World) : Prop := w.heap.size ≤ W.heap.size ∧ ∀ b, b < w.heap.size → b ≠ g → W.heap[b]? = w.heap[b]?
theorem apart_sort1 {α : Type} [Inhabited α] {enc : α → Value} {g : Nat} {w : World} (n : Nat) (d : Array α) (os : Array Obj) : Apart w g (sortWorld enc w g 0 n d os) := ⟨size_sort1 n d os, fun b hb hne => by rw [heap_sort1 n d os hb, if_neg (fun e => hne e.symm)]⟩
theorem row_sort1 {α : Type} [Inhabited α] {enc : α → Value} {g k : Nat} {t : TypeId} {f : Nat → Value} {w : World} (n : Nat) (d : Array α) (os : Array Obj) (h : w.rowIs g t k f) (hd : d.size = k) : (sortWorld enc w g 0 n d os).rowIs g t k (fun j => enc d[j]!) := by
  obtain ⟨cur, h1, h2, h3⟩ := h
  refine ⟨Go.Sort.putCells enc 0 d cur, ?_, by simp [Go.Sort.putCells, h2], fun j hj => ?_⟩
  · rw [heap_sort1 n d os (lt_of_block h1), if_pos rfl, h1]; rfl
  · simp [Go.Sort.putCells, Array.getElem?_mapIdx, h2, hj, hd]
theorem ext_all {α : Type} (d : Array α) {n : Nat} (h : d.size = n) : (d.extract 0 n).toList = d.toList := by
  subst h
  simp
def idArr (n : Nat) : Array (Fin n) := Array.ofFn fun i => i
def encF {n : Nat} (k : Fin n) : Value := .int .i64 (k.val : Int)
theorem idArr_at {n : Nat} [Inhabited (Fin n)] {j : Nat} (hj : j < n) : ((idArr n)[j]!).val = j := by
  unfold idArr
  rw [getElem!_pos _ j (by simpa using hj)]
  simp
theorem sorted_ord (L : List ClientD) [Inhabited (Fin L.length)] (d' : Array (Fin L.length)) (h : d' = insertionSort (ltOf fun x y : Fin L.length => cmpI (BrokerD.prio L y.val) (BrokerD.prio L x.val)) (idArr L.length) 0 L.length) : d'.size = L.length ∧ d'.toList.map (·.val) = ordOf L := by
  have hsz : (idArr L.length).size = L.length := by simp [idArr]
  have e : d' = insertionSort (ltOf fun x y : Fin L.length => cmpOrd L x.val y.val) (idArr L.length) 0 L.length := by
    rw [h]
    unfold insertionSort
    refine outer_eq (v := fun x : Fin L.length => x.val) (fun x y hxy => ?_) L.length _ 1 _ rfl (by rw [hsz]; exact Nat.le_refl _) fun p q hpq hq hqb => ?_
    · unfold ltOf cmpOrd cmpI
      congr 1
      apply propext
      dsimp only
      repeat' split <;> omega
    · rw [idArr_at (by omega), idArr_at hqb]
      exact hpq
  have hord := isOrd_cmpOrd L
  have swo : SWO (ltOf fun x y : Fin L.length => cmpOrd L x.val y.val) := {
    irrefl := fun x => by unfold ltOf; simp; rw [(hord.zero x.val x.val).2 rfl]; exact Int.le_refl _
    trans := fun x y z h1 h2 => by
      unfold ltOf at *
      simp only [decide_eq_true_eq] at *
      have a1 := hord.anti x.val y.val
      have a2 := hord.anti y.val z.val
      rcases (show cmpOrd L x.val z.val < 0 ∨ 0 ≤ cmpOrd L x.val z.val by omega) with h | h
      · exact h
      · have a3 := hord.anti x.val z.val
        have := hord.trans x.val y.val z.val (by omega) (by omega)
        have e0 : cmpOrd L x.val z.val = 0 := by omega
        have e2 := (hord.zero x.val z.val).1 e0
        rw [e2] at h1 a1
        omega
    ntrans := fun x y z h1 h2 => by
      unfold ltOf at *
      simp only [decide_eq_false_iff_not, Int.not_lt] at *
      have a1 := hord.anti x.val y.val
      have a2 := hord.anti y.val z.val
      have a3 := hord.anti x.val z.val
      have := hord.trans z.val y.val x.val (by omega) (by omega)
      omega }
  obtain ⟨⟨p1, -, p3⟩, hs⟩ := insertionSort_holds (lt := ltOf fun x y : Fin L.length => cmpOrd L x.val y.val) swo (idArr L.length) 0 L.length (Nat.zero_le _) (by rw [hsz]; exact Nat.le_refl _)
  rw [← e] at p1 p3 hs
  have hz : d'.size = L.length := p1.trans hsz
  refine ⟨hz, Ord.sort_unique hord ?_ ?_⟩
  · have e1 : (d'.extract 0 L.length).toList = d'.toList := ext_all d' hz
    have e2 : ((idArr L.length).extract 0 L.length).toList = (idArr L.length).toList := ext_all _ hsz
    rw [e1, e2] at p3
    have e3 : (idArr L.length).toList.map (·.val) = List.range L.length := by
      apply List.ext_getElem?
      intro j
      by_cases hj : j < L.length
      · simp [idArr, hj]
      · simp [idArr, hj]
    rw [← e3]
    exact p3.map _
  · refine List.pairwise_map.2 (List.pairwise_iff_getElem.2 fun i j hi hj hij => Ord.leb_iff.2 ?_)
    rw [Array.length_toList] at hi hj
    have := hs i j (Nat.zero_le _) hij (by omega)
    unfold ltOf at this
    rw [getElem!_pos d' j hj, getElem!_pos d' i hi] at this
    simp only [decide_eq_false_iff_not, Int.not_lt] at this
    have a := hord.anti d'[i].val d'[j].val
    simp only [Array.getElem_toList]
    omega
def Seen (w : World) (g : Nat) (L : List ClientD) (a : Option Addr) (c nb : Nat) : Prop := ∀ W, Apart w g W → W.cell? ⟨nb, 0, none⟩ = some (.slice a L.length c) ∧ ClIn W a L
set_option maxRecDepth 100000 in
theorem iinssort (a : Option Addr) (c nb g : Nat) (L : List ClientD) (f : Nat → Value) (w : World) (h0 : 0 < L.length) (hn : L.length ≤ 1000000000) (hs : Seen w g L a c nb) (hrow : w.rowIs g 3 L.length f) (hf : ∀ j, j < L.length → f j = .int .i64 (j : Nat)) :
    Calls Try.prog 96 #[.slice (some ⟨g, 0, none⟩) L.length L.length, .int .i64 ((0 : Nat) : Int), .int .i64 (L.length : Nat), .func (.func 80) #[] #[.pointer (some ⟨nb, 0, none⟩)]] w fun e w' =>
      e = .returned (.tuple #[]) ∧ w.grownBy w' (some g) ∧ ∃ f', w'.rowIs g 3 L.length f' ∧ ∀ j v, (ordOf L)[j]? = some v → f' j = .int .i64 (v : Nat) := by
  haveI : Inhabited (Fin L.length) := ⟨⟨0, h0⟩⟩
  have hsz : (idArr L.length).size = L.length := by simp [idArr]
  have hH : Holds encF w g 0 (idArr L.length) := fun j hj => by
    rw [hsz] at hj
    refine ⟨?_, hrow.frozen _⟩
    rw [Nat.zero_add, hrow.cell hj, hf j hj]
    unfold encF
    rw [idArr_at hj]
  have eg : ∀ args w, (callFunc 80 args).run Try.prog w = .ok (.enter 80 args) w := enters_of Try.func80 (by kernel_rfl) rfl
  have hcon := Any.insertionSortCmpFunc_s Try.insInts (encF (n := L.length)) (fun x y : Fin L.length => cmpI (BrokerD.prio L y.val) (BrokerD.prio L x.val)) 80 #[.pointer (some ⟨nb, 0, none⟩)] g 0 L.length 0 L.length (idArr L.length) (idArr L.length) w w eg
    (fun m os dk hdk x y => by
      obtain ⟨q1, q2⟩ := hs _ (apart_sort1 m dk os)
      exact (icmpord a c L x.val y.val nb _ x.isLt y.isLt hn q1 q2).mono fun e w' ⟨he, hw⟩ => ⟨he, 1, #[], by rw [hw, grow_empty]; rfl⟩)
    ⟨fun x => rfl, hH, hrow.lt⟩ rfl (SW.start hH) (Nat.zero_le _) (by rw [hsz]; exact Nat.le_refl _) (by rw [hsz]; omega)
  rw [hsz] at hcon
  refine hcon.mono fun e w' ⟨he, m, os, hw⟩ => ?_
  obtain ⟨d', hd'⟩ : ∃ d', d' = insertionSort (ltOf fun x y : Fin L.length => cmpI (BrokerD.prio L y.val) (BrokerD.prio L x.val)) (idArr L.length) 0 L.length := ⟨_, rfl⟩
  rw [← hd'] at hw
  obtain ⟨s1, s2⟩ := sorted_ord L d' hd'
  subst hw
  refine ⟨he, ⟨rfl, rfl, rfl, size_sort1 m d' os, fun b hb hne => ?_⟩, _, row_sort1 m d' os hrow s1, fun j v hv => ?_⟩
  · rw [heap_sort1 m d' os hb, if_neg (fun e => hne (by rw [e]))]
  · have hjl : j < L.length := by have := V.get_lt hv; rwa [ordOf_length] at this
    rw [← s2, List.getElem?_map, Array.getElem?_toList, Array.getElem?_eq_getElem (by omega)] at hv
    rw [getElem!_pos d' j (by omega)]
    unfold encF
    rw [← Option.some.inj hv]
end Go.Proofs.Ytfghhjcfmmhacaa
/- The library's slices.SortStableFunc at few numbers, and the program's order of service: told by trees. -/
namespace Go.Proofs.Ytfghhjcfmmhacaa
open Go Go.RowKit V Go.Sort
set_option linter.unusedVariables false
def Sorted (L : List ClientD) (g : Nat) (w : World) (e : Ending) (w' : World) : Prop := e = .returned (.tuple #[]) ∧ w.grownBy w' (some g) ∧ ∃ f', w'.rowIs g 3 L.length f' ∧ ∀ j v, (ordOf L)[j]? = some v → f' j = .int .i64 (v : Nat)
set_option maxRecDepth 100000 in
theorem iinssort' (a : Option Addr) (c nb g : Nat) (L : List ClientD) (f : Nat → Value) (w : World) (hn : L.length ≤ 1000000000) (hs : Seen w g L a c nb) (hrow : w.rowIs g 3 L.length f) (hf : ∀ j, j < L.length → f j = .int .i64 (j : Nat)) :
    Calls Try.prog 96 #[.slice (some ⟨g, 0, none⟩) L.length L.length, .int .i64 0, .int .i64 (L.length : Nat), .func (.func 80) #[] #[.pointer (some ⟨nb, 0, none⟩)]] w (Sorted L g w) := by
  rcases Nat.eq_zero_or_pos L.length with h0 | h0
  · have hL : L = [] := List.eq_nil_of_length_eq_zero h0
    subst hL
    have HR := Lib.hid hrow
    clear hrow hs hf
    go_enter Try.func96, Try.ntmps96
    go_wp2_with fail
    go_loopw [8] (fun i wr => i = .int .i64 1 ∧ wr = w) (fun _ _ => 0)
    case atStart => exact ⟨rfl, rfl⟩
    case round =>
      obtain ⟨rfl, rfl⟩ := hrel
      go_wp2_with fail
      go_end0
      exact ⟨rfl, ⟨rfl, rfl, rfl, Nat.le_refl _, fun _ _ _ => rfl⟩, f, HR.out, fun j v hv => by have := V.get_lt hv; rw [ordOf_length] at this; simp at this⟩
  · exact iinssort a c nb g L f w h0 hn hs hrow hf
set_option maxRecDepth 100000 in
theorem istable (a : Option Addr) (c nb g : Nat) (L : List ClientD) (f : Nat → Value) (w : World) (hn : L.length ≤ 19) (hs : Seen w g L a c nb) (hrow : w.rowIs g 3 L.length f) (hf : ∀ j, j < L.length → f j = .int .i64 (j : Nat)) :
    Calls Try.prog 92 #[.slice (some ⟨g, 0, none⟩) L.length L.length, .int .i64 (L.length : Nat), .func (.func 80) #[] #[.pointer (some ⟨nb, 0, none⟩)]] w (Sorted L g w) := by
  have HI := Lib.hid (iinssort' a c nb g L f w (by omega) hs hrow hf)
  obtain ⟨n, hnl⟩ : ∃ n, n = L.length := ⟨_, rfl⟩
  rw [← hnl] at HI hn ⊢
  have z1 : ¬ (20 : Int) ≤ (n : Int) := by omega
  have z2 : ¬ (20 : Int) < (n : Int) := by omega
  clear hs hrow hf hnl
  go_enter Try.func92, Try.ntmps92
  go_wp2_with fail
  go_loopw [7, 8] (fun x y wr => x = .int .i64 0 ∧ y = .int .i64 20 ∧ wr = w) (fun _ _ _ => 0)
  case atStart => exact ⟨rfl, rfl, rfl⟩
  case round =>
    obtain ⟨rfl, rfl, rfl⟩ := hrel
    go_wp2_with fail
    refine HI.out.mono ?_
    rintro e w1 hS
    obtain ⟨rfl, -⟩ := id hS
    have HS := Lib.hid hS
    clear hS
    go_wp2_with fail
    go_loopw [6] (fun x wr => x = .int .i64 20 ∧ wr = w1) (fun _ _ => 0)
    case atStart => exact ⟨rfl, rfl⟩
    case round =>
      obtain ⟨rfl, rfl⟩ := hrel
      go_wp2_with fail
      go_end0
      exact HS.out
theorem isortst (a : Option Addr) (c nb g : Nat) (L : List ClientD) (f : Nat → Value) (w : World) (hn : L.length ≤ 19) (hs : Seen w g L a c nb) (hrow : w.rowIs g 3 L.length f) (hf : ∀ j, j < L.length → f j = .int .i64 (j : Nat)) :
    Calls Try.prog 79 #[.slice (some ⟨g, 0, none⟩) L.length L.length, .func (.func 80) #[] #[.pointer (some ⟨nb, 0, none⟩)]] w (Sorted L g w) := by
  have HI := Lib.hid (istable a c nb g L f w hn hs hrow hf)
  obtain ⟨n, hnl⟩ : ∃ n, n = L.length := ⟨_, rfl⟩
  rw [← hnl] at HI hn ⊢
  clear hs hrow hf hnl
  go_enter Try.func79, Try.ntmps79
  go_wp2_with fail
  refine HI.out.mono ?_
  rintro e w1 hS
  obtain ⟨rfl, -⟩ := id hS
  have HS := Lib.hid hS
  clear hS
  go_wp2_with fail
  go_end0
  exact HS.out
end Go.Proofs.Ytfghhjcfmmhacaa
/- The program's order in which clients are served: told by trees. -/
namespace Go.Proofs.Ytfghhjcfmmhacaa
open Go Go.RowKit V Go.Sort
set_option linter.unusedVariables false
theorem seen_of {w wr : World} {a : Option Addr} {c nb g : Nat} {L : List ClientD} (hin : ClIn w a L) (hb : Below w.heap.size w wr) (hbox : wr.heap[nb]? = some (.cells #[.slice a L.length c] 24 (0, 0))) (hg : w.heap.size ≤ g) (hne : nb ≠ g) : Seen wr g L a c nb := fun W ⟨h1, h2⟩ => by
  refine ⟨box_cell ((h2 nb (lt_of_block hbox) hne).trans hbox) 0 _ rfl, fun t x hx => ?_⟩
  obtain ⟨b, o, e1, e2, e3, e4, e5⟩ := hin t x hx
  have e6 : W.heap[b]? = w.heap[b]? := (h2 b (Nat.lt_of_lt_of_le e2 hb.size) (by omega)).trans (hb.block b e2)
  exact ⟨b, o, e1, Nat.lt_of_lt_of_le (Nat.lt_of_lt_of_le e2 hb.size) h1, (World.cell?_of_block e6).trans e3, (World.cell?_of_block e6).trans e4, (World.cell?_of_block e6).trans e5⟩
set_option maxRecDepth 100000 in
set_option maxHeartbeats 1000000 in
theorem iorderfn (a : Option Addr) (c : Nat) (L : List ClientD) (w : World) (hn : L.length ≤ 19) (hin : ClIn w a L) :
    Calls Try.prog 50 #[.slice a L.length c] w fun e w' => ∃ (g : Nat) (f' : Nat → Value), e = .returned (.slice (some ⟨g, 0, none⟩) L.length L.length) ∧ w.heap.size ≤ g ∧ Below w.heap.size w w' ∧ w'.rowIs g 3 L.length f' ∧ ∀ j v, (ordOf L)[j]? = some v → f' j = .int .i64 (v : Nat) := by
  obtain ⟨I0, hI, hz0, hz1, hz2⟩ := info_parts elt_int.inf
  obtain ⟨W0, hW0⟩ : ∃ W, W = w.alloc (.cells #[.slice a L.length c] 24) := ⟨_, rfl⟩
  have b0 : Below w.heap.size w W0 := by rw [hW0]; exact (Below.refl _ _).alloc (Nat.le_refl _) _
  have k0 : W0.heap[w.heap.size]? = some (.cells #[.slice a L.length c] 24 (0, 0)) := by rw [hW0]; exact heap_alloc_new _ _
  obtain ⟨W1, hW1⟩ : ∃ W, W = W0.alloc (.cells (madeCells #[.int .i64 0] (L.length * 1)) 3) := ⟨_, rfl⟩
  obtain ⟨g, hg⟩ : ∃ g, g = W0.heap.size := ⟨_, rfl⟩
  obtain ⟨nb, hnb⟩ : ∃ x, x = w.heap.size := ⟨_, rfl⟩
  have hmk : (Instr.makeSlice 28 (.int .i64 (L.length : Nat)) (.int .i64 (L.length : Nat))).run Try.prog W0 = .ok (.slice (some ⟨g, 0, none⟩) L.length L.length) W1 := by
    have hrun := run_make (P := Try.prog) W0 28 3 I0 _ elt_int.und hI hz0 .i64 .i64 L.length L.length (by omega) (Int.le_refl _) (by rw [hz2]; omega) (by omega)
    simp only [Int.toNat_natCast, hz1] at hrun
    rw [hW1, hg]
    exact hrun
  have b1 : Below w.heap.size w W1 := by rw [hW1]; exact b0.alloc b0.size _
  have k1 : W1.heap[nb]? = some (.cells #[.slice a L.length c] 24 (0, 0)) := by rw [hW1, hnb]; exact (Below.heap_alloc W0 _ _ (lt_of_block k0)).trans k0
  have r1 : W1.rowIs g 3 L.length (fun j => if j < 0 then .int .i64 (j : Nat) else .int .i64 0) := by
    refine ⟨madeCells #[.int .i64 0] (L.length * 1), by rw [hW1, hg]; exact heap_alloc_new _ _, by simp [madeCells], fun j hj => ?_⟩
    show _ = some (if j < 0 then Value.int .i64 (j : Nat) else .int .i64 0)
    rw [if_neg (Nat.not_lt_zero j)]
    have h2 : (madeCells #[.int .i64 0] (L.length * 1))[j]? = some (madeCells #[.int .i64 0] (L.length * 1))[j]! := by
      have : j < (madeCells #[Value.int .i64 0] (L.length * 1)).size := by simp [madeCells]; omega
      rw [getElem!_pos _ j this, Array.getElem?_eq_getElem this]
    have h3 := made_get (z := #[Value.int .i64 0]) (by decide) (show (madeCells #[Value.int .i64 0] (L.length * 1)).toList[j]? = some _ by rw [Array.getElem?_toList]; exact h2)
    rw [h2]
    have h4 : j % 1 = 0 := Nat.mod_one j
    simp [h4] at h3
    rw [Nat.mul_one, ← h3]
  have hne : nb ≠ g := by have := lt_of_block k0; omega
  have hgs : w.heap.size ≤ g := by rw [hg]; exact b0.size
  have SE : Hid (∀ wr, Below w.heap.size w wr → wr.heap[nb]? = some (.cells #[.slice a L.length c] 24 (0, 0)) → Seen wr g L a c nb) := Lib.hid fun wr h1 h2 => seen_of hin h1 h2 hgs hne
  have HN := Lib.hid hn
  have HG := Lib.hid hgs
  have B1 := Lib.hid b1
  have K1 := Lib.hid k1
  have R1 := Lib.hid r1
  obtain ⟨n, hnl⟩ : ∃ n, n = L.length := ⟨_, rfl⟩
  have HL := Lib.hid hnl
  rw [← hnl] at hn hmk hW0 ⊢
  rw [← hnl] at K1 R1
  rw [hW0] at hmk
  clear hin b0 k0 b1 k1 r1 hgs hW1 hg hI hz0 hz1 hz2 hnl hW0
  go_enter Try.func50, Try.ntmps50
  go_wp2_with (simp only [hmk])
  rw [← hnb]
  clear hnb
  go_loopw [10] (fun i wr => ∃ t : Nat, i = .int .i64 t ∧ t ≤ n ∧ Hid (Below w.heap.size w wr) ∧ Hid (wr.heap[nb]? = some (.cells #[.slice a n c] 24 (0, 0))) ∧ Hid (wr.rowIs g 3 n (fun j => if j < t then .int .i64 (j : Nat) else .int .i64 0))) (fun i _ => n - (intOf i).toNat)
  case atStart => exact ⟨0, rfl, Nat.zero_le _, B1, K1, R1⟩
  case round =>
    obtain ⟨t, rfl, ht, hb, hk, hr⟩ := hrel
    by_cases hlt : t < n
    · have c0 : wr.cell? ⟨g, t, none⟩ = some (.int .i64 0) := by
        have h := hr.out.cell hlt
        rw [if_neg (Nat.lt_irrefl t)] at h
        exact h
      have c1 := hr.out.frozen t
      have z1 : (t : Int) < (n : Int) := by omega
      have g1 : wr.grownBy (wr.setCell ⟨g, t, none⟩ (.int .i64 (t : Nat))) (some g) := grown_cells [.int .i64 (t : Nat)] t wr ⟨rfl, rfl, rfl, Nat.le_refl _, fun _ _ _ => rfl⟩
      have B5 := Lib.hid (hb.out.grown g1 hb.out.size fun k hk => by rw [← Option.some.inj hk]; exact HG.out)
      have K5 := Lib.hid ((Below.heap_setCell wr ⟨g, t, none⟩ (.int .i64 (t : Nat)) nb hne).trans hk.out)
      have R5 := Lib.hid ((hr.out.set t (.int .i64 (t : Nat))).congr (g := fun j => if j < t + 1 then .int .i64 (j : Nat) else .int .i64 0) fun j hj => by
        by_cases h1 : j = t
        · subst h1
          rw [if_pos rfl, if_pos (Nat.lt_succ_self j)]
        · rw [if_neg h1]
          by_cases h2 : j < t
          · rw [if_pos h2, if_pos (by omega)]
          · rw [if_neg h2, if_neg (by omega)])
      clear g1
      go_wp2_with fail
      go_roundw
      case rel => exact ⟨t + 1, by go_num, by omega, B5, K5, R5⟩
      case measure => simp [intOf]; omega
    · have hcall := isortst a c nb g L _ wr HN.out (SE.out wr hb.out (by rw [← HL.out]; exact hk.out)) (by rw [← HL.out]; exact hr.out) fun j hj => by
        have hl := HL.out
        exact if_pos (by omega)
      rw [← HL.out] at hcall
      have HC := Lib.hid hcall
      have z1 : ¬ (t : Int) < (n : Int) := by omega
      have k2 : wr.cell? ⟨nb, 0, none⟩ = some (.slice a n c) := box_cell hk.out 0 _ rfl
      clear hcall
      go_wp2_with fail
      refine HC.out.mono ?_
      rintro e w5 ⟨rfl, hgr, f', hr5, hf5⟩
      have B5 := Lib.hid (hb.out.grown hgr hb.out.size fun k hk => by rw [← Option.some.inj hk]; exact HG.out)
      have R5 := Lib.hid hr5
      have F5 := Lib.hid hf5
      clear hgr hr5 hf5 k2
      go_wp2_with fail
      go_ret
      exact ⟨g, f', rfl, HG.out, B5.out, by rw [HL.out]; exact R5.out, F5.out⟩
def ordI (L : List ClientD) : List Int := (ordOf L).map fun i : Nat => (i : Int)
theorem vord_i (L : List ClientD) (hL : L.length ≤ 19) : VC Try.prog 50 [(false, [.seq 35 (L.map tClient)])] false [(false, [.seq 3 ((ordI L).map tInt)])] :=
  VC.clients (ns := []) fun w a c h1 h2 h3 => (iorderfn a c L w hL h3).mono fun e w' ⟨g, f', q1, q2, q3, q4, q5⟩ => by
    obtain ⟨cur, r1, r2, r3⟩ := q4
    have hlen : (ordI L).length = L.length := by unfold ordI; rw [List.length_map, ordOf_length]
    have htl : cur.toList = (ordI L).map fun x => Value.int .i64 x := by
      apply List.ext_getElem?
      intro j
      rw [Array.getElem?_toList]
      rcases Nat.lt_or_ge j L.length with hj | hj
      · have hj' : j < (ordOf L).length := by rw [ordOf_length]; exact hj
        rw [r3 j hj, q5 j (ordOf L)[j] (List.getElem?_eq_getElem hj')]
        unfold ordI
        simp [hj']
      · rw [Array.getElem?_eq_none (by omega), List.getElem?_eq_none (by rw [List.length_map, hlen]; exact hj)]
    have hown : Own w' 0 (.seq 3 ((ordI L).map tInt)) (.slice (some ⟨g, 0, none⟩) L.length L.length) (fun b => b = g) := by
      refine .seq 1 (by decide) sz_int (fun e he => by obtain ⟨x, -, rfl⟩ := List.mem_map.1 he; rfl) ((ordI L).map fun x => Value.int .i64 x) ⟨by simp, .inr ⟨g, L.length, cur, by rw [List.length_map, hlen], Nat.zero_le _, r1, by rw [List.length_map, hlen]; exact Nat.le_refl _, by unfold maxLen; omega, by rw [r2, Nat.mul_one], by rw [List.length_map, hlen, Nat.mul_one, htl]; exact List.take_of_length_le (by rw [List.length_map, hlen]; exact Nat.le_refl _)⟩⟩ (fun _ _ => False) (fun k e j t u e1 e2 e3 => ?_) (fun u hu => by obtain ⟨x, -, rfl⟩ := List.mem_map.1 hu; rfl) (fun b hb => by cases hb; rfl) (fun q b hb => hb.elim) (fun q b hb => hb.elim) fun q q' b hb => hb.elim
      rw [List.getElem?_map] at e1
      obtain ⟨x, hx, rfl⟩ := Option.map_eq_some_iff.1 e1
      have hj : j = 0 := by have := V.get_lt e2; simpa [tInt] using this
      subst hj
      cases e2
      rw [Nat.mul_one, Nat.add_zero, List.getElem?_map, hx] at e3
      rw [← Option.some.inj e3]
      exact .lit rfl
    refine ⟨[[.slice (some ⟨g, 0, none⟩) L.length L.length]], fun c j b => c = 0 ∧ j = 0 ∧ b = g, rfl, q1, fun c ag ts us hc' hu => ?_, fun c j c' j' b e1 e2 => ⟨e1.1.trans e2.1.symm, e1.2.1.trans e2.2.1.symm⟩, fun c j b hb => ?_, .of_below q3⟩
    · cases c with
      | zero =>
        cases hc'; cases hu
        refine ⟨rfl, fun j t u hj hu => ?_⟩
        cases j with
        | zero => cases hj; cases hu; exact hown.mono fun b hb => ⟨rfl, rfl, hb⟩
        | succ j => simp at hj
      | succ c => simp at hc'
    · obtain ⟨-, -, rfl⟩ := hb
      exact ⟨.inl q2, lt_of_block r1⟩
end Go.Proofs.Ytfghhjcfmmhacaa
/- Brokers as plain mathematics: what the law of grants asks; no function of program or reference is walked here. -/
namespace Go.Proofs.Ytfghhjcfmmhacaa
open Go.RowKit
set_option linter.unusedVariables false
namespace BrokerD
end BrokerD
end Go.Proofs.Ytfghhjcfmmhacaa
