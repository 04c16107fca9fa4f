/- Equal bags of pairs: told by trees. -/
import Derived.Test.YtlnjgoommpeioaaPSortI
import Derived.Test.YtlnjgoommpeioaaPSortS
namespace Go.Proofs.Ytlnjgoommpeioaa
open Go Go.RowKit V
set_option linter.unusedVariables false
set_option maxRecDepth 100000 in
set_option maxHeartbeats 2000000 in
theorem veqp (X Y : List PairD) (hX : X.length ≤ 350000000000) : VC Try.prog 35 [(false, [.seq 32 (X.map tPair)]), (false, [.seq 32 (Y.map tPair)])] false [(false, [.lit (.bool (decide (X = Y)))])] := by
  refine VC.enter Try.func35 rfl Try.ntmps35 (Nat.le_of_ble_eq_true rfl) fun E hE => ?_
  refine SV.seq' ?_
  refine SV.region ?_
  refine SV.op (OpL.ok (nb := 0) (ok_move (v := V.one (.sc _)) (.inr rfl) rfl) rfl (Nat.le_of_ble_eq_true rfl)) rfl ?_
  refine SV.nil ?_
  refine SV.tn ?_
  refine SV.seq' ?_
  refine SV.seq' ?_
  refine SV.region ?_
  refine SV.op (OpL.ok (nb := 0) (ok_move (v := V.one (.ro _)) (.inl rfl) rfl) rfl (Nat.le_of_ble_eq_true rfl)) rfl ?_
  refine SV.op (OpL.ok (nb := 0) (ok_len (lf := .ro _) rfl elt_impl_Pair.und rfl rfl) rfl (Nat.le_of_ble_eq_true rfl)) rfl ?_
  refine SV.op (OpL.ok (nb := 0) (ok_move (v := V.one (.ro _)) (.inl rfl) rfl) rfl (Nat.le_of_ble_eq_true rfl)) rfl ?_
  refine SV.op (OpL.ok (nb := 0) (ok_len (lf := .ro _) rfl elt_impl_Pair.und rfl rfl) rfl (Nat.le_of_ble_eq_true rfl)) rfl ?_
  refine SV.op (OpL.ok (nb := 0) (ok_s2 (x := .tmp 7) (x' := .tmp 9) (VScal.one rfl) (VScal.one rfl) (fun ρ h1 h2 w => by go_simp; (try go_bits); with_reducible rfl) rfl) rfl (Nat.le_of_ble_eq_true rfl)) rfl ?_
  refine SV.nil ?_
  refine SV.tn ?_
  refine SV.cond rfl (fun hc0 => ?_) (fun hc0 => ?_)
  · skip   -- c0.T
    have hne : X ≠ Y := fun e => by subst e; exact (by simp at hc0)
    refine SV.seq' ?_
    refine SV.region ?_
    refine SV.op (OpL.ok (nb := 0) (ok_move (v := V.one (.sc _)) (.inr rfl) rfl) rfl (Nat.le_of_ble_eq_true rfl)) rfl ?_
    refine SV.nil ?_
    refine SV.tn ?_
    refine SV.ret ?_
    refine SV.tr ?_
    apply SV.done (hf := Try.results35) (ht := rfl) (he := .inl rfl)
    case hr => exact (ResAll.cons (ResOk.tmp (ag := false) (xs := [.sc _]) rfl) ResAll.nil')
    case h2 => simp [two]
    refine ⟨rfl, ⟨?_, trivial⟩, trivial⟩ <;> (show some (T.lit (Value.bool _)) = some (T.lit (Value.bool _)); refine congrArg (fun z => some (T.lit (Value.bool z))) ?_; first | (rw [decide_eq_true hXY]; done) | (rw [decide_eq_false hne]; done) | (simp [hXY]; done) | (simp [hne]; done))
  · skip   -- c0.F
    have hlen : X.length = Y.length := by simp at hc0; omega
    refine SV.skip ?_
    refine SV.tn ?_
    refine SV.seq' ?_
    refine SV.seq' ?_
    refine SV.region ?_
    refine SV.op (OpL.ok (nb := 0) (ok_move (v := V.one (.ro _)) (.inl rfl) rfl) rfl (Nat.le_of_ble_eq_true rfl)) rfl ?_
    refine SV.op (OpL.ok (nb := 0) (ok_len (lf := .ro _) rfl elt_impl_Pair.und rfl rfl) rfl (Nat.le_of_ble_eq_true rfl)) rfl ?_
    refine SV.op (OpL.ok (nb := 0) (ok_move (v := V.one (.sc _)) (.inl rfl) rfl) rfl (Nat.le_of_ble_eq_true rfl)) rfl ?_
    refine SV.nil ?_
    refine SV.tn ?_
    refine SV.block ?_
    refine SV.loopF (X := Nat) (fun (σ : VS) t => (((((VS.nil.put 0 (σ.tm 0)).put 1 (σ.tm 1)).put 4 (σ.tm 4)).put 12 (σ.tm 12)).put 13 (V.flat false [.sc (.int .i64 ((t : Int)))]))) (fun t => t ≤ X.length ∧ ∀ u, u < t → X[u]? = Y[u]?) (fun t => X.length - t) ?_ ?_
    · skip
      refine SV.again (fun i => [].getD i 0) 0 (⟨Nat.zero_le _, fun u h => absurd h (Nat.not_lt_zero u)⟩) (pins hE rfl rfl) (VS.le.mk' (le_put (le_put (le_put (le_put (le_put le_nil (V.le.keep (ag := false) (xs := [.ro _]) (ys := [.ro _]) rfl rfl ⟨rfl, trivial⟩)) (V.le.keep (ag := false) (xs := [.ro _]) (ys := [.ro _]) rfl rfl ⟨rfl, trivial⟩)) (V.le.keep (ag := false) (xs := [.sc _]) (ys := [.sc _]) rfl rfl ⟨rfl, trivial⟩)) (V.le.keep (ag := false) (xs := [.sc _]) (ys := [.sc _]) rfl rfl ⟨rfl, trivial⟩)) (V.le.keep (ag := false) (xs := [.sc _]) (ys := [.sc _]) rfl rfl ⟨(by first | rfl | (show Leaf.sc _ = Leaf.sc _; refine congrArg Leaf.sc ?_; first | rfl | go_num | (simp [cntAll]; done)) | (simp [cntAll]; done) | (simp; omega)), trivial⟩)) trivial trivial nil_ob (fun i j hi hj e => absurd hi (Nat.not_lt_zero i)))
    · rintro t ⟨ht, he⟩
      refine SV.seq' ?_
      refine SV.region ?_
      refine SV.op (OpL.ok (nb := 0) (ok_s2 (x := .tmp 13) (x' := .tmp 12) (VScal.one rfl) (VScal.one rfl) (fun ρ h1 h2 w => by go_simp; (try go_bits); with_reducible rfl) rfl) rfl (Nat.le_of_ble_eq_true rfl)) rfl ?_
      refine SV.nil ?_
      refine SV.tn ?_
      refine SV.seq' ?_
      refine SV.cond rfl (fun hc1 => ?_) (fun hc1 => ?_)
      · skip   -- c1.T
        have htl : t < X.length := by simp at hc1; omega
        have hx : X[t]? = some X[t] := by simp [htl]
        have hy : Y[t]? = some Y[t] := by simp [← hlen, htl]
        refine SV.skip ?_
        refine SV.tn ?_
        refine SV.seq' ?_
        refine SV.block ?_
        refine SV.seq' ?_
        refine SV.region ?_
        refine SV.op (OpL.ok (nb := 0) (ok_move (v := V.one (.sc _)) (.inl rfl) rfl) rfl (Nat.le_of_ble_eq_true rfl)) rfl ?_
        refine SV.op (OpL.ok (nb := 0) (ok_move (v := V.one (.sc _)) (.inr rfl) rfl) rfl (Nat.le_of_ble_eq_true rfl)) rfl ?_
        refine SV.nil ?_
        refine SV.tn ?_
        refine SV.seq' ?_
        refine SV.draw [.q 0, .q 1, .q 2, .q 3, .q 4, .q 5, .q 6, .q 7, .q 8] [] (by kernel_rfl) (by kernel_rfl) ?_
        refine DW.q rfl (ok_move (v := V.one (.ro _)) (.inl rfl) rfl) rfl rfl (Nat.le_of_ble_eq_true rfl) (fun _ _ _ _ h => h) ?_
        refine DW.q rfl (ok_move (v := V.one (.sc _)) (.inl rfl) rfl) rfl rfl (Nat.le_of_ble_eq_true rfl) (fun _ _ _ _ h => h) ?_
        refine DW.q rfl (ok_index (n := 7) (lf := .ro _) rfl elt_impl_Pair.und sz_impl_Pair rfl rfl rfl (map_at hx)) rfl rfl (Nat.le_of_ble_eq_true rfl) (fun _ _ _ _ h => h) ?_
        refine DW.q rfl (ok_load_rp (ag := true) (m := 7) (ys := [.sc _, .sc _, .sc _, .sc _, .sc _, .sc _, .sc _]) rfl rfl agg_impl_Pair sz_impl_Pair (fun h => by cases h) (Nat.le_of_ble_eq_true rfl) rfl) rfl rfl (Nat.le_of_ble_eq_true rfl) (fun _ _ _ _ h => h) ?_
        refine DW.q rfl (ok_move (v := V.one (.ro _)) (.inl rfl) rfl) rfl rfl (Nat.le_of_ble_eq_true rfl) (fun _ _ _ _ h => h) ?_
        refine DW.q rfl (ok_move (v := V.one (.sc _)) (.inl rfl) rfl) rfl rfl (Nat.le_of_ble_eq_true rfl) (fun _ _ _ _ h => h) ?_
        refine DW.q rfl (ok_index (n := 7) (lf := .ro _) rfl elt_impl_Pair.und sz_impl_Pair rfl rfl rfl (map_at hy)) rfl rfl (Nat.le_of_ble_eq_true rfl) (fun _ _ _ _ h => h) ?_
        refine DW.q rfl (ok_load_rp (ag := true) (m := 7) (ys := [.sc _, .sc _, .sc _, .sc _, .sc _, .sc _, .sc _]) rfl rfl agg_impl_Pair sz_impl_Pair (fun h => by cases h) (Nat.le_of_ble_eq_true rfl) rfl) rfl rfl (Nat.le_of_ble_eq_true rfl) (fun _ _ _ _ h => h) ?_
        refine DW.q rfl (ok_s2 (v := .bool (decide (X[t] ≠ Y[t]))) (x := .tmp 19) (x' := .tmp 23) ⟨true, [_, _, _, _, _, _, _], rfl, rfl⟩ ⟨true, [_, _, _, _, _, _, _], rfl, rfl⟩ (fun ρ h1 h2 w => neq_impl_Pair X[t] Y[t] ρ _ _ _ w rfl h1 h2) rfl) rfl rfl (Nat.le_of_ble_eq_true rfl) (fun _ _ _ _ h => h) ?_
        refine DW.stores ?_
        refine SV.zend ?_
        refine SV.tn ?_
        refine SV.cond rfl (fun hc2 => ?_) (fun hc2 => ?_)
        · skip   -- c2.T
          have hne : X ≠ Y := fun e => by subst e; exact (by simp at hc2)
          refine SV.seq' ?_
          refine SV.region ?_
          refine SV.op (OpL.ok (nb := 0) (ok_move (v := V.one (.sc _)) (.inr rfl) rfl) rfl (Nat.le_of_ble_eq_true rfl)) rfl ?_
          refine SV.nil ?_
          refine SV.tn ?_
          refine SV.ret ?_
          refine SV.br ?_
          refine SV.tr ?_
          refine SV.tr ?_
          refine SV.br ?_
          refine SV.tr ?_
          apply SV.done (hf := Try.results35) (ht := rfl) (he := .inl rfl)
          case hr => exact (ResAll.cons (ResOk.tmp (ag := false) (xs := [.sc _]) rfl) ResAll.nil')
          case h2 => simp [two]
          refine ⟨rfl, ⟨?_, trivial⟩, trivial⟩ <;> (show some (T.lit (Value.bool _)) = some (T.lit (Value.bool _)); refine congrArg (fun z => some (T.lit (Value.bool z))) ?_; first | (rw [decide_eq_true hXY]; done) | (rw [decide_eq_false hne]; done) | (simp [hXY]; done) | (simp [hne]; done))
        · skip   -- c2.F
          have hxy : X[t] = Y[t] := by simpa using hc2
          refine SV.skip ?_
          refine SV.bn ?_
          refine SV.tn ?_
          refine SV.region ?_
          refine SV.op (OpL.ok (nb := 0) (ok_s2 (x := .tmp 13) (x' := .const ((Value.int IntKind.i64 1))) (VScal.one rfl) (VScal.one rfl) (fun ρ h1 h2 w => by go_simp; (try go_bits); with_reducible rfl) rfl) rfl (Nat.le_of_ble_eq_true rfl)) rfl ?_
          refine SV.op (OpL.ok (nb := 0) (ok_move (v := V.one (.sc _)) (.inl rfl) rfl) rfl (Nat.le_of_ble_eq_true rfl)) rfl ?_
          refine SV.nil ?_
          refine SV.tn ?_
          refine SV.again (fun i => [].getD i 0) (t + 1) (⟨⟨by omega, fun u hu => by rcases Nat.lt_or_ge u t with h | h; exact he u h; rw [show u = t by omega, hx, hy, hxy]⟩, by omega⟩) (pins hE rfl rfl) (VS.le.mk' (le_put (le_put (le_put (le_put (le_put le_nil (V.le.keep (ag := false) (xs := [.ro _]) (ys := [.ro _]) rfl rfl ⟨rfl, trivial⟩)) (V.le.keep (ag := false) (xs := [.ro _]) (ys := [.ro _]) rfl rfl ⟨rfl, trivial⟩)) (V.le.keep (ag := false) (xs := [.sc _]) (ys := [.sc _]) rfl rfl ⟨rfl, trivial⟩)) (V.le.keep (ag := false) (xs := [.sc _]) (ys := [.sc _]) rfl rfl ⟨rfl, trivial⟩)) (V.le.keep (ag := false) (xs := [.sc _]) (ys := [.sc _]) rfl rfl ⟨(by first | rfl | (show Leaf.sc _ = Leaf.sc _; refine congrArg Leaf.sc ?_; first | rfl | go_num | (simp [cntAll]; done)) | (simp [cntAll]; done) | (simp; omega)), trivial⟩)) trivial trivial nil_ob (fun i j hi hj e => absurd hi (Nat.not_lt_zero i)))
      · skip   -- c1.F
        have hte : ¬ t < X.length := by simp at hc1; omega
        have hXY : X = Y := List.ext_getElem? fun u => by
          rcases Nat.lt_or_ge u t with h | h
          · exact he u h
          · rw [List.getElem?_eq_none (by omega), List.getElem?_eq_none (by omega)]
        refine SV.exit ?_
        refine SV.te ?_
        refine SV.te ?_
        refine SV.bh ?_
        refine SV.tn ?_
        refine SV.seq' ?_
        refine SV.region ?_
        refine SV.op (OpL.ok (nb := 0) (ok_move (v := V.one (.sc _)) (.inr rfl) rfl) rfl (Nat.le_of_ble_eq_true rfl)) rfl ?_
        refine SV.nil ?_
        refine SV.tn ?_
        refine SV.ret ?_
        apply SV.done (hf := Try.results35) (ht := rfl) (he := .inl rfl)
        case hr => exact (ResAll.cons (ResOk.tmp (ag := false) (xs := [.sc _]) rfl) ResAll.nil')
        case h2 => simp [two]
        refine ⟨rfl, ⟨?_, trivial⟩, trivial⟩ <;> (show some (T.lit (Value.bool _)) = some (T.lit (Value.bool _)); refine congrArg (fun z => some (T.lit (Value.bool z))) ?_; first | (rw [decide_eq_true hXY]; done) | (rw [decide_eq_false hne]; done) | (simp [hXY]; done) | (simp [hne]; done))
set_option maxRecDepth 100000 in
set_option maxHeartbeats 2000000 in
theorem vbags_i (X Y : List PairD) (hX : X.length ≤ 1048576) (hY : Y.length ≤ 1048576) : VC Try.prog 11 [(false, [.seq 32 (X.map tPair)]), (false, [.seq 32 (Y.map tPair)])] false [(false, [.lit (.bool (decide (Ord.sort PairD.cmp X = Ord.sort PairD.cmp Y)))])] := by
  refine VC.enter Try.func11 rfl Try.ntmps11 (Nat.le_of_ble_eq_true rfl) fun E hE => ?_
  refine SV.seq' ?_
  refine SV.region ?_
  refine SV.op (OpL.ok (nb := 0) (ok_move (v := V.one (.sc _)) (.inr rfl) rfl) rfl (Nat.le_of_ble_eq_true rfl)) rfl ?_
  refine SV.nil ?_
  refine SV.tn ?_
  refine SV.seq' ?_
  refine SV.region ?_
  refine SV.op (OpL.ok (nb := 0) (ok_move (v := V.one (.ro _)) (.inl rfl) rfl) rfl (Nat.le_of_ble_eq_true rfl)) rfl ?_
  refine SV.op (OpMk.ok (ok_call (ls := [(false, [.hd 0])]) rfl rfl ⟨_, _, Try.func36, rfl, by decide⟩ (vsorted_i X (by omega)) ⟨⟨[.ro _], rfl, ⟨rfl, trivial⟩⟩, trivial⟩ rfl (Nat.le_of_ble_eq_true rfl))) rfl ?_
  refine SV.op (OpL.ok (nb := 0) (ok_move (v := V.one (.ro _)) (.inl rfl) rfl) rfl (Nat.le_of_ble_eq_true rfl)) rfl ?_
  refine SV.op (OpMk.ok (ok_call (ls := [(false, [.hd 1])]) rfl rfl ⟨_, _, Try.func36, rfl, by decide⟩ (vsorted_i Y (by omega)) ⟨⟨[.ro _], rfl, ⟨rfl, trivial⟩⟩, trivial⟩ rfl (Nat.le_of_ble_eq_true rfl))) rfl ?_
  refine SV.op (OpMk.ok (ok_call (ls := [(false, [.sc _])]) rfl rfl ⟨_, _, Try.func35, rfl, by decide⟩ (veqp (Ord.sort PairD.cmp X) (Ord.sort PairD.cmp Y) (by rw [Ord.sort_length]; omega)) ⟨⟨[.hd 0], rfl, ⟨rfl, trivial⟩⟩, ⟨[.hd 1], rfl, ⟨rfl, trivial⟩⟩, trivial⟩ rfl (Nat.le_of_ble_eq_true rfl))) rfl ?_
  refine SV.op (OpL.ok (nb := 0) (ok_move (v := V.one (.sc _)) (.inr rfl) rfl) rfl (Nat.le_of_ble_eq_true rfl)) rfl ?_
  refine SV.nil ?_
  refine SV.tn ?_
  refine SV.ret ?_
  apply SV.done (hf := Try.results11) (ht := rfl) (he := .inl rfl)
  case hr => exact (ResAll.cons (ResOk.tmp (ag := false) (xs := [.sc _]) rfl) ResAll.nil')
  case h2 => simp [two]
  refine ⟨rfl, ⟨?_, trivial⟩, trivial⟩ <;> rfl
set_option maxRecDepth 100000 in
set_option maxHeartbeats 2000000 in
theorem vbags_s (X Y : List PairD) (hX : X.length ≤ 1048576) (hY : Y.length ≤ 1048576) : VC Try.prog 26 [(false, [.seq 32 (X.map tPair)]), (false, [.seq 32 (Y.map tPair)])] false [(false, [.lit (.bool (decide (Ord.sort PairD.cmp X = Ord.sort PairD.cmp Y)))])] := by
  refine VC.enter Try.func26 rfl Try.ntmps26 (Nat.le_of_ble_eq_true rfl) fun E hE => ?_
  obtain ⟨A, hA⟩ : ∃ A, A = Ord.sort PairD.cmp X := ⟨_, rfl⟩
  obtain ⟨B, hB⟩ : ∃ B, B = Ord.sort PairD.cmp Y := ⟨_, rfl⟩
  have hAl : A.length ≤ 1048576 := by rw [hA, Ord.sort_length]; exact hX
  rw [← hA, ← hB]
  have h9 := vsorted_s X (by omega)
  have h10 := vsorted_s Y (by omega)
  rw [← hA] at h9
  rw [← hB] at h10
  clear hA hB
  refine SV.seq' ?_
  refine SV.region ?_
  refine SV.op (OpL.ok (nb := 0) (ok_move (v := V.one (.sc _)) (.inr rfl) rfl) rfl (Nat.le_of_ble_eq_true rfl)) rfl ?_
  refine SV.nil ?_
  refine SV.tn ?_
  refine SV.seq' ?_
  refine SV.region ?_
  refine SV.op (OpL.ok (nb := 0) (ok_move (v := V.one (.ro _)) (.inl rfl) rfl) rfl (Nat.le_of_ble_eq_true rfl)) rfl ?_
  refine SV.op (OpMk.ok (ok_call (ls := [(false, [.hd 0])]) rfl rfl ⟨_, _, Try.func46, rfl, by decide⟩ (h9) ⟨⟨[.ro _], rfl, ⟨rfl, trivial⟩⟩, trivial⟩ rfl (Nat.le_of_ble_eq_true rfl))) rfl ?_
  refine SV.op (OpL.ok (nb := 0) (ok_move (v := V.one (.hd 0)) (.inr rfl) rfl) rfl (Nat.le_of_ble_eq_true rfl)) rfl ?_
  refine SV.nil ?_
  refine SV.tn ?_
  refine SV.seq' ?_
  refine SV.region ?_
  refine SV.op (OpL.ok (nb := 0) (ok_move (v := V.one (.ro _)) (.inl rfl) rfl) rfl (Nat.le_of_ble_eq_true rfl)) rfl ?_
  refine SV.op (OpMk.ok (ok_call (ls := [(false, [.hd 1])]) rfl rfl ⟨_, _, Try.func46, rfl, by decide⟩ (h10) ⟨⟨[.ro _], rfl, ⟨rfl, trivial⟩⟩, trivial⟩ rfl (Nat.le_of_ble_eq_true rfl))) rfl ?_
  refine SV.op (OpL.ok (nb := 0) (ok_move (v := V.one (.hd 1)) (.inr rfl) rfl) rfl (Nat.le_of_ble_eq_true rfl)) rfl ?_
  refine SV.nil ?_
  refine SV.tn ?_
  refine SV.seq' ?_
  refine SV.seq' ?_
  refine SV.region ?_
  refine SV.op (OpL.ok (nb := 0) (ok_move (v := V.one (.hd 0)) (.inl rfl) rfl) rfl (Nat.le_of_ble_eq_true rfl)) rfl ?_
  refine SV.op (OpL.ok (nb := 0) (ok_len (lf := .hd 0) rfl elt_impl_Pair.und rfl rfl) rfl (Nat.le_of_ble_eq_true rfl)) rfl ?_
  refine SV.op (OpL.ok (nb := 0) (ok_move (v := V.one (.hd 1)) (.inl rfl) rfl) rfl (Nat.le_of_ble_eq_true rfl)) rfl ?_
  refine SV.op (OpL.ok (nb := 0) (ok_len (lf := .hd 1) rfl elt_impl_Pair.und rfl rfl) rfl (Nat.le_of_ble_eq_true rfl)) rfl ?_
  refine SV.op (OpL.ok (nb := 0) (ok_s2 (x := .tmp 13) (x' := .tmp 15) (VScal.one rfl) (VScal.one rfl) (fun ρ h1 h2 w => by go_simp; (try go_bits); with_reducible rfl) rfl) rfl (Nat.le_of_ble_eq_true rfl)) rfl ?_
  refine SV.nil ?_
  refine SV.tn ?_
  refine SV.cond rfl (fun hc0 => ?_) (fun hc0 => ?_)
  · skip   -- c0.T
    have hne : A ≠ B := fun e => by subst e; exact (by simp at hc0)
    refine SV.seq' ?_
    refine SV.region ?_
    refine SV.op (OpL.ok (nb := 0) (ok_move (v := V.one (.sc _)) (.inr rfl) rfl) rfl (Nat.le_of_ble_eq_true rfl)) rfl ?_
    refine SV.nil ?_
    refine SV.tn ?_
    refine SV.ret ?_
    refine SV.tr ?_
    apply SV.done (hf := Try.results26) (ht := rfl) (he := .inl rfl)
    case hr => exact (ResAll.cons (ResOk.tmp (ag := false) (xs := [.sc _]) rfl) ResAll.nil')
    case h2 => simp [two]
    refine ⟨rfl, ⟨?_, trivial⟩, trivial⟩ <;> (show some (T.lit (Value.bool _)) = some (T.lit (Value.bool _)); refine congrArg (fun z => some (T.lit (Value.bool z))) ?_; first | (rw [decide_eq_true hXY]; done) | (rw [decide_eq_false hne]; done) | (simp [hXY]; done) | (simp [hne]; done))
  · skip   -- c0.F
    have hlen : A.length = B.length := by simp at hc0; omega
    refine SV.skip ?_
    refine SV.tn ?_
    refine SV.seq' ?_
    refine SV.seq' ?_
    refine SV.region ?_
    refine SV.op (OpL.ok (nb := 0) (ok_move (v := V.one (.sc _)) (.inr rfl) rfl) rfl (Nat.le_of_ble_eq_true rfl)) rfl ?_
    refine SV.nil ?_
    refine SV.tn ?_
    refine SV.block ?_
    refine SV.loopF (X := Nat) (fun (σ : VS) t => ((((((VS.nil.new (σ.tree 0)).new (σ.tree 1)).put 4 (σ.tm 4)).put 5 (V.flat false [.hd 0])).put 6 (V.flat false [.hd 1])).put 7 (V.flat false [.sc (.int .i64 ((t : Int)))]))) (fun t => t ≤ A.length ∧ ∀ u, u < t → A[u]? = B[u]?) (fun t => A.length - t) ?_ ?_
    · skip
      refine SV.again (fun i => [0, 1].getD i 0) 0 (⟨Nat.zero_le _, fun u h => absurd h (Nat.not_lt_zero u)⟩) (pins hE rfl rfl) (VS.le.mk' (le_put (le_put (le_put (le_put (le_new (le_new le_nil)) (V.le.keep (ag := false) (xs := [.sc _]) (ys := [.sc _]) rfl rfl ⟨rfl, trivial⟩)) (V.le.keep (ag := false) (xs := [.hd 0]) (ys := [.hd 0]) rfl rfl ⟨⟨rfl, (Nat.le_of_ble_eq_true rfl), (Nat.le_of_ble_eq_true rfl)⟩, trivial⟩)) (V.le.keep (ag := false) (xs := [.hd 1]) (ys := [.hd 1]) rfl rfl ⟨⟨rfl, (Nat.le_of_ble_eq_true rfl), (Nat.le_of_ble_eq_true rfl)⟩, trivial⟩)) (V.le.keep (ag := false) (xs := [.sc _]) (ys := [.sc _]) rfl rfl ⟨(by first | rfl | (show Leaf.sc _ = Leaf.sc _; refine congrArg Leaf.sc ?_; first | rfl | go_num | (simp [cntAll]; done)) | (simp [cntAll]; done) | (simp; omega)), trivial⟩)) trivial ⟨.inr ⟨_, _, rfl, rfl, (Nat.le_of_ble_eq_true rfl)⟩, ⟨.inr ⟨_, _, rfl, rfl, (Nat.le_of_ble_eq_true rfl)⟩, trivial⟩⟩ (new_ob (new_ob nil_ob)) (fun i j hi hj e => inj_list (l := [0, 1]) (by decide) i j hi hj e))
    · rintro t ⟨ht, he⟩
      refine SV.seq' ?_
      refine SV.seq' ?_
      refine SV.region ?_
      refine SV.op (OpL.ok (nb := 0) (ok_move (v := V.one (.sc _)) (.inl rfl) rfl) rfl (Nat.le_of_ble_eq_true rfl)) rfl ?_
      refine SV.op (OpL.ok (nb := 0) (ok_move (v := V.one (.hd 0)) (.inl rfl) rfl) rfl (Nat.le_of_ble_eq_true rfl)) rfl ?_
      refine SV.op (OpL.ok (nb := 0) (ok_len (lf := .hd 0) rfl elt_impl_Pair.und rfl rfl) rfl (Nat.le_of_ble_eq_true rfl)) rfl ?_
      refine SV.op (OpL.ok (nb := 0) (ok_s2 (x := .tmp 17) (x' := .tmp 19) (VScal.one rfl) (VScal.one rfl) (fun ρ h1 h2 w => by go_simp; (try go_bits); with_reducible rfl) rfl) rfl (Nat.le_of_ble_eq_true rfl)) rfl ?_
      refine SV.nil ?_
      refine SV.tn ?_
      refine SV.cond rfl (fun hc1 => ?_) (fun hc1 => ?_)
      · skip   -- c1.T
        have htl : t < A.length := by simp at hc1; omega
        have hx : A[t]? = some A[t] := by simp [htl]
        have hy : B[t]? = some B[t] := by simp [← hlen, htl]
        refine SV.skip ?_
        refine SV.tn ?_
        refine SV.seq' ?_
        refine SV.block ?_
        refine SV.seq' ?_
        refine SV.draw [.q 0, .q 1, .q 2, .q 3, .q 4, .q 5, .q 6, .q 7, .q 8] [] (by kernel_rfl) (by kernel_rfl) ?_
        refine DW.q rfl (ok_move (v := V.one (.hd 0)) (.inl rfl) rfl) rfl rfl (Nat.le_of_ble_eq_true rfl) (fun _ _ _ _ h => h) ?_
        refine DW.q rfl (ok_move (v := V.one (.sc _)) (.inl rfl) rfl) rfl rfl (Nat.le_of_ble_eq_true rfl) (fun _ _ _ _ h => h) ?_
        refine DW.q rfl (ok_index (n := 7) (lf := .hd 0) rfl elt_impl_Pair.und sz_impl_Pair rfl rfl rfl (map_at hx)) rfl rfl (Nat.le_of_ble_eq_true rfl) (fun _ _ _ _ h => h) ?_
        refine DW.el (ag := true) (m := 7) (ys := [.sc _, .sc _, .sc _, .sc _, .sc _, .sc _, .sc _]) rfl rfl rfl (cells_ep rfl (map_at hx) rfl rfl) agg_impl_Pair sz_impl_Pair (fun h => by cases h) (Nat.le_of_ble_eq_true rfl) rfl rfl rfl (Nat.le_of_ble_eq_true rfl) (fun _ _ _ _ h => h) ?_
        refine DW.q rfl (ok_move (v := V.one (.hd 1)) (.inl rfl) rfl) rfl rfl (Nat.le_of_ble_eq_true rfl) (fun _ _ _ _ h => h) ?_
        refine DW.q rfl (ok_move (v := V.one (.sc _)) (.inl rfl) rfl) rfl rfl (Nat.le_of_ble_eq_true rfl) (fun _ _ _ _ h => h) ?_
        refine DW.q rfl (ok_index (n := 7) (lf := .hd 1) rfl elt_impl_Pair.und sz_impl_Pair rfl rfl rfl (map_at hy)) rfl rfl (Nat.le_of_ble_eq_true rfl) (fun _ _ _ _ h => h) ?_
        refine DW.el (ag := true) (m := 7) (ys := [.sc _, .sc _, .sc _, .sc _, .sc _, .sc _, .sc _]) rfl rfl rfl (cells_ep rfl (map_at hy) rfl rfl) agg_impl_Pair sz_impl_Pair (fun h => by cases h) (Nat.le_of_ble_eq_true rfl) rfl rfl rfl (Nat.le_of_ble_eq_true rfl) (fun _ _ _ _ h => h) ?_
        refine DW.q rfl (ok_s2 (v := .bool (decide (A[t] ≠ B[t]))) (x := .tmp 26) (x' := .tmp 30) ⟨true, [_, _, _, _, _, _, _], rfl, rfl⟩ ⟨true, [_, _, _, _, _, _, _], rfl, rfl⟩ (fun ρ h1 h2 w => neq_impl_Pair A[t] B[t] ρ _ _ _ w rfl h1 h2) rfl) rfl rfl (Nat.le_of_ble_eq_true rfl) (fun _ _ _ _ h => h) ?_
        refine DW.stores ?_
        refine SV.zend ?_
        refine SV.tn ?_
        refine SV.cond rfl (fun hc2 => ?_) (fun hc2 => ?_)
        · skip   -- c2.T
          have hne : A ≠ B := fun e => by subst e; exact (by simp at hc2)
          refine SV.seq' ?_
          refine SV.region ?_
          refine SV.op (OpL.ok (nb := 0) (ok_move (v := V.one (.sc _)) (.inr rfl) rfl) rfl (Nat.le_of_ble_eq_true rfl)) rfl ?_
          refine SV.nil ?_
          refine SV.tn ?_
          refine SV.ret ?_
          refine SV.br ?_
          refine SV.tr ?_
          refine SV.tr ?_
          refine SV.br ?_
          refine SV.tr ?_
          apply SV.done (hf := Try.results26) (ht := rfl) (he := .inl rfl)
          case hr => exact (ResAll.cons (ResOk.tmp (ag := false) (xs := [.sc _]) rfl) ResAll.nil')
          case h2 => simp [two]
          refine ⟨rfl, ⟨?_, trivial⟩, trivial⟩ <;> (show some (T.lit (Value.bool _)) = some (T.lit (Value.bool _)); refine congrArg (fun z => some (T.lit (Value.bool z))) ?_; first | (rw [decide_eq_true hXY]; done) | (rw [decide_eq_false hne]; done) | (simp [hXY]; done) | (simp [hne]; done))
        · skip   -- c2.F
          have hxy : A[t] = B[t] := by simpa using hc2
          refine SV.skip ?_
          refine SV.bn ?_
          refine SV.tn ?_
          refine SV.region ?_
          refine SV.op (OpL.ok (nb := 0) (ok_move (v := V.one (.sc _)) (.inl rfl) rfl) rfl (Nat.le_of_ble_eq_true rfl)) rfl ?_
          refine SV.op (OpL.ok (nb := 0) (ok_s2 (x := .tmp 21) (x' := .const ((Value.int IntKind.i64 1))) (VScal.one rfl) (VScal.one rfl) (fun ρ h1 h2 w => by go_simp; (try go_bits); with_reducible rfl) rfl) rfl (Nat.le_of_ble_eq_true rfl)) rfl ?_
          refine SV.op (OpL.ok (nb := 0) (ok_move (v := V.one (.sc _)) (.inr rfl) rfl) rfl (Nat.le_of_ble_eq_true rfl)) rfl ?_
          refine SV.nil ?_
          refine SV.tn ?_
          refine SV.again (fun i => [0, 1].getD i 0) (t + 1) (⟨⟨by omega, fun u hu => by rcases Nat.lt_or_ge u t with h | h; exact he u h; rw [show u = t by omega, hx, hy, hxy]⟩, by omega⟩) (pins hE rfl rfl) (VS.le.mk' (le_put (le_put (le_put (le_put (le_new (le_new le_nil)) (V.le.keep (ag := false) (xs := [.sc _]) (ys := [.sc _]) rfl rfl ⟨rfl, trivial⟩)) (V.le.keep (ag := false) (xs := [.hd 0]) (ys := [.hd 0]) rfl rfl ⟨⟨rfl, (Nat.le_of_ble_eq_true rfl), (Nat.le_of_ble_eq_true rfl)⟩, trivial⟩)) (V.le.keep (ag := false) (xs := [.hd 1]) (ys := [.hd 1]) rfl rfl ⟨⟨rfl, (Nat.le_of_ble_eq_true rfl), (Nat.le_of_ble_eq_true rfl)⟩, trivial⟩)) (V.le.keep (ag := false) (xs := [.sc _]) (ys := [.sc _]) rfl rfl ⟨(by first | rfl | (show Leaf.sc _ = Leaf.sc _; refine congrArg Leaf.sc ?_; first | rfl | go_num | (simp [cntAll]; done)) | (simp [cntAll]; done) | (simp; omega)), trivial⟩)) trivial ⟨.inr ⟨_, _, rfl, rfl, (Nat.le_of_ble_eq_true rfl)⟩, ⟨.inr ⟨_, _, rfl, rfl, (Nat.le_of_ble_eq_true rfl)⟩, trivial⟩⟩ (new_ob (new_ob nil_ob)) (fun i j hi hj e => inj_list (l := [0, 1]) (by decide) i j hi hj e))
      · skip   -- c1.F
        have hte : ¬ t < A.length := by simp at hc1; omega
        have hXY : A = B := List.ext_getElem? fun u => by
          rcases Nat.lt_or_ge u t with h | h
          · exact he u h
          · rw [List.getElem?_eq_none (by omega), List.getElem?_eq_none (by omega)]
        refine SV.exit ?_
        refine SV.te ?_
        refine SV.te ?_
        refine SV.bh ?_
        refine SV.tn ?_
        refine SV.seq' ?_
        refine SV.region ?_
        refine SV.op (OpL.ok (nb := 0) (ok_move (v := V.one (.sc _)) (.inr rfl) rfl) rfl (Nat.le_of_ble_eq_true rfl)) rfl ?_
        refine SV.nil ?_
        refine SV.tn ?_
        refine SV.ret ?_
        apply SV.done (hf := Try.results26) (ht := rfl) (he := .inl rfl)
        case hr => exact (ResAll.cons (ResOk.tmp (ag := false) (xs := [.sc _]) rfl) ResAll.nil')
        case h2 => simp [two]
        refine ⟨rfl, ⟨?_, trivial⟩, trivial⟩ <;> (show some (T.lit (Value.bool _)) = some (T.lit (Value.bool _)); refine congrArg (fun z => some (T.lit (Value.bool z))) ?_; first | (rw [decide_eq_true hXY]; done) | (rw [decide_eq_false hne]; done) | (simp [hXY]; done) | (simp [hne]; done))
end Go.Proofs.Ytlnjgoommpeioaa
