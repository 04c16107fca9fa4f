/- One row's pairs, in the reference: told by trees. -/
import Derived.Test.YtlnjgoommpeioaaMatches
import Derived.Test.YtlnjgoommpeioaaKinds
namespace Go.Proofs.Ytlnjgoommpeioaa
open Go Go.RowKit V
set_option linter.unusedVariables false
set_option maxRecDepth 100000 in
set_option maxHeartbeats 2000000 in
theorem vone_s (k : Int) (r : R) (B : List R) (hL : B.length ≤ 300000000000) : VC Try.prog 38 [(false, [.lit (.int .i64 (k))]), (true, tRow r), (false, [.seq 30 (B.map tRow)])] false [(false, [.seq 32 ((PairD.one k r B).map tPair)])] := by
  refine VC.enter Try.func38 rfl Try.ntmps38 (Nat.le_of_ble_eq_true rfl) fun E hE => ?_
  refine SV.seq' ?_
  refine SV.region ?_
  refine SV.op (OpMk.ok (ok_box (kk := 0) (ag := true) (xs := [.sc _, .sc _, .sc _]) rfl rfl rfl (fun h => by cases h) rfl rfl (Nat.le_of_ble_eq_true rfl))) rfl ?_
  refine SV.op (OpL.ok (nb := 1) (ok_move (v := V.one (.sc _)) (.inr rfl) rfl) rfl (Nat.le_of_ble_eq_true rfl)) rfl ?_
  refine SV.nil ?_
  refine SV.tn ?_
  refine SV.seq' ?_
  refine SV.region ?_
  refine SV.op (OpMk.ok (ok_lit0 (kk := 0) elt_impl_Pair rfl rfl rfl (Nat.le_of_ble_eq_true rfl))) rfl ?_
  refine SV.op (OpL.ok (nb := 1) (ok_move (v := V.one (.hd 0)) (.inr rfl) rfl) rfl (Nat.le_of_ble_eq_true rfl)) rfl ?_
  refine SV.nil ?_
  refine SV.tn ?_
  refine SV.seq' ?_
  refine SV.region ?_
  refine SV.op (OpL.ok (nb := 1) (ok_load_bp (b := 0) (i := 0) (ag := true) (m := 3) (ys := [.sc _, .sc _, .sc _]) rfl rfl rfl agg_impl_Row sz_impl_Row (fun h => by cases h) rfl rfl (Nat.le_of_ble_eq_true rfl)) rfl (Nat.le_of_ble_eq_true rfl)) rfl ?_
  refine SV.op (OpL.ok (nb := 1) (ok_move (v := V.one (.ro _)) (.inl rfl) rfl) rfl (Nat.le_of_ble_eq_true rfl)) rfl ?_
  refine SV.op (OpMk.ok (ok_call (ls := [(false, [.sc _])]) rfl rfl ⟨_, _, Try.func54, rfl, by decide⟩ (vcountm_s r B hL) ⟨⟨[.sc _, .sc _, .sc _], rfl, ⟨rfl, rfl, rfl, trivial⟩⟩, ⟨[.ro _], rfl, ⟨rfl, trivial⟩⟩, trivial⟩ rfl (Nat.le_of_ble_eq_true rfl))) rfl ?_
  refine SV.op (OpL.ok (nb := 1) (ok_move (v := V.one (.sc _)) (.inr rfl) rfl) rfl (Nat.le_of_ble_eq_true rfl)) rfl ?_
  refine SV.nil ?_
  refine SV.tn ?_
  refine SV.seq' ?_
  refine SV.seq' ?_
  refine SV.region ?_
  refine SV.op (OpL.ok (nb := 1) (ok_move (v := V.one (.sc _)) (.inl rfl) rfl) rfl (Nat.le_of_ble_eq_true rfl)) rfl ?_
  refine SV.nil ?_
  refine SV.tn ?_
  refine SV.block ?_
  refine SV.seq' ?_
  refine SV.region ?_
  refine SV.op (OpL.ok (nb := 1) (ok_s2 (x := .tmp 14) (x' := .const ((Value.int IntKind.i64 2))) (VScal.one rfl) (VScal.one rfl) (fun ρ h1 h2 w => by go_simp; (try go_bits); with_reducible rfl) rfl) rfl (Nat.le_of_ble_eq_true rfl)) rfl ?_
  refine SV.op (OpL.ok (nb := 1) (ok_move (v := V.one (.sc _)) (.inr rfl) rfl) rfl (Nat.le_of_ble_eq_true rfl)) rfl ?_
  refine SV.nil ?_
  refine SV.tn ?_
  refine SV.cond rfl (fun hc0 => ?_) (fun hc0 => ?_)
  · skip   -- c0.T
    refine SV.seq' ?_
    refine SV.seq' ?_
    refine SV.region ?_
    refine SV.op (OpL.ok (nb := 1) (ok_move (v := V.one (.sc _)) (.inl rfl) rfl) rfl (Nat.le_of_ble_eq_true rfl)) rfl ?_
    refine SV.op (OpL.ok (nb := 1) (ok_s2 (x := .tmp 17) (x' := .const ((Value.int IntKind.i64 0))) (VScal.one rfl) (VScal.one rfl) (fun ρ h1 h2 w => by go_simp; (try go_bits); with_reducible rfl) rfl) rfl (Nat.le_of_ble_eq_true rfl)) rfl ?_
    refine SV.nil ?_
    refine SV.tn ?_
    refine SV.cond rfl (fun hc1 => ?_) (fun hc1 => ?_)
    · skip   -- c1.T
      have ho : PairD.one k r B = [PairD.alone r] := by simp at hc0 hc1; simp [PairD.one, hc0, hc1]
      refine SV.region ?_
      refine SV.op (OpL.ok (nb := 1) (ok_move (v := V.one (.hd 0)) (.inl rfl) rfl) rfl (Nat.le_of_ble_eq_true rfl)) rfl ?_
      refine SV.op (OpL.ok (nb := 1) (ok_load_bp (b := 0) (i := 0) (ag := true) (m := 3) (ys := [.sc _, .sc _, .sc _]) rfl rfl rfl agg_impl_Row sz_impl_Row (fun h => by cases h) rfl rfl (Nat.le_of_ble_eq_true rfl)) rfl (Nat.le_of_ble_eq_true rfl)) rfl ?_
      refine SV.op (OpL.ok (nb := 1) (ok_build (zs := [.sc _, .sc _, .sc _, .sc _, .sc _, .sc _, .sc _]) (ys := [.sc _, .sc _, .sc _, .sc _, .sc _, .sc _, .sc _]) (qs := [(0, [.sc _, .sc _, .sc _])]) (pl := fun i => ([(0, 3), (3, 3), (6, 1)] : List (Nat × Nat))[i]?) rfl zero_impl_Pair ⟨rfl, rfl, rfl, rfl, rfl, rfl, rfl, rfl, rfl, rfl, rfl, rfl, rfl, rfl, trivial⟩ ⟨⟨rfl, true, rfl, (fun h => by cases h), rfl⟩, trivial⟩ bld_impl_Pair rfl) rfl (Nat.le_of_ble_eq_true rfl)) rfl ?_
      refine SV.op (OpMk.ok (ok_lit1 (kk := 1) elt_impl_Pair (ag := true) (xs := [.sc _, .sc _, .sc _, .sc _, .sc _, .sc _, .sc _]) rfl rfl rfl rfl (fun h => by cases h) (outs_c rfl (outs_c rfl (outs_c rfl (outs_c rfl (outs_c rfl (outs_c rfl (outs_c rfl outs_n))))))) (by simp [two]) rfl (Nat.le_of_ble_eq_true rfl))) rfl ?_
      refine SV.op (OpMk.ok (ok_append (kk := 2) elt_impl_Pair (ls := .hd 0) (lx := .hd 1) rfl rfl rfl rfl rfl rfl (by intro i h1 h2; cases h1; cases h2) (by first | omega | (simp; done) | (simp; omega)) rfl (Nat.le_of_ble_eq_true rfl))) rfl ?_
      refine SV.op (OpL.ok (nb := 1) (ok_move (v := V.one (.hd 2)) (.inr rfl) rfl) rfl (Nat.le_of_ble_eq_true rfl)) rfl ?_
      refine SV.nil ?_
      refine SV.tn ?_
      refine SV.seq' ?_
      refine SV.region ?_
      refine SV.op (OpL.ok (nb := 1) (ok_move (v := V.one (.hd 2)) (.inl rfl) rfl) rfl (Nat.le_of_ble_eq_true rfl)) rfl ?_
      refine SV.op (OpL.ok (nb := 1) (ok_move (v := V.one (.hd 2)) (.inr rfl) rfl) rfl (Nat.le_of_ble_eq_true rfl)) rfl ?_
      refine SV.nil ?_
      refine SV.tn ?_
      refine SV.ret ?_
      refine SV.br ?_
      refine SV.tr ?_
      apply SV.done (hf := Try.results38) (ht := rfl) (he := .inl rfl)
      case hr => exact (ResAll.cons (ResOk.tmp (ag := false) (xs := [.hd 2]) rfl) ResAll.nil')
      case h2 => simp [two]
      refine ⟨rfl, ⟨?_, trivial⟩, trivial⟩ <;> (show some (T.seq _ _) = some (T.seq _ _); rw [ho]; first | rfl | (rw [htk]; done) | (rw [htk, List.map_append]; done) | (rw [htk, List.map_append]; rfl))
    · skip   -- c1.F
      have ho : PairD.one k r B = [] := by simp at hc0 hc1; simp [PairD.one, hc0, hc1]
      refine SV.skip ?_
      refine SV.tn ?_
      refine SV.seq' ?_
      refine SV.region ?_
      refine SV.op (OpL.ok (nb := 1) (ok_move (v := V.one (.hd 0)) (.inl rfl) rfl) rfl (Nat.le_of_ble_eq_true rfl)) rfl ?_
      refine SV.op (OpL.ok (nb := 1) (ok_move (v := V.one (.hd 0)) (.inr rfl) rfl) rfl (Nat.le_of_ble_eq_true rfl)) rfl ?_
      refine SV.nil ?_
      refine SV.tn ?_
      refine SV.ret ?_
      refine SV.br ?_
      refine SV.tr ?_
      apply SV.done (hf := Try.results38) (ht := rfl) (he := .inl rfl)
      case hr => exact (ResAll.cons (ResOk.tmp (ag := false) (xs := [.hd 0]) rfl) ResAll.nil')
      case h2 => simp [two]
      refine ⟨rfl, ⟨?_, trivial⟩, trivial⟩ <;> (show some (T.seq _ _) = some (T.seq _ _); rw [ho]; first | rfl | (rw [htk]; done) | (rw [htk, List.map_append]; done) | (rw [htk, List.map_append]; rfl))
  · skip   -- c0.F
    refine SV.seq' ?_
    refine SV.region ?_
    refine SV.op (OpL.ok (nb := 1) (ok_s2 (x := .tmp 14) (x' := .const ((Value.int IntKind.i64 3))) (VScal.one rfl) (VScal.one rfl) (fun ρ h1 h2 w => by go_simp; (try go_bits); with_reducible rfl) rfl) rfl (Nat.le_of_ble_eq_true rfl)) rfl ?_
    refine SV.op (OpL.ok (nb := 1) (ok_move (v := V.one (.sc _)) (.inr rfl) rfl) rfl (Nat.le_of_ble_eq_true rfl)) rfl ?_
    refine SV.nil ?_
    refine SV.tn ?_
    refine SV.cond rfl (fun hc2 => ?_) (fun hc2 => ?_)
    · skip   -- c2.T
      refine SV.seq' ?_
      refine SV.seq' ?_
      refine SV.region ?_
      refine SV.op (OpL.ok (nb := 1) (ok_move (v := V.one (.sc _)) (.inl rfl) rfl) rfl (Nat.le_of_ble_eq_true rfl)) rfl ?_
      refine SV.op (OpL.ok (nb := 1) (ok_s2 (x := .tmp 27) (x' := .const ((Value.int IntKind.i64 0))) (VScal.one rfl) (VScal.one rfl) (fun ρ h1 h2 w => by go_simp; (try go_bits); with_reducible rfl) rfl) rfl (Nat.le_of_ble_eq_true rfl)) rfl ?_
      refine SV.nil ?_
      refine SV.tn ?_
      refine SV.cond rfl (fun hc3 => ?_) (fun hc3 => ?_)
      · skip   -- c3.T
        have ho : PairD.one k r B = [PairD.alone r] := by simp at hc0 hc2 hc3; simp [PairD.one, hc0, hc2, hc3]
        refine SV.region ?_
        refine SV.op (OpL.ok (nb := 1) (ok_move (v := V.one (.hd 0)) (.inl rfl) rfl) rfl (Nat.le_of_ble_eq_true rfl)) rfl ?_
        refine SV.op (OpL.ok (nb := 1) (ok_load_bp (b := 0) (i := 0) (ag := true) (m := 3) (ys := [.sc _, .sc _, .sc _]) rfl rfl rfl agg_impl_Row sz_impl_Row (fun h => by cases h) rfl rfl (Nat.le_of_ble_eq_true rfl)) rfl (Nat.le_of_ble_eq_true rfl)) rfl ?_
        refine SV.op (OpL.ok (nb := 1) (ok_build (zs := [.sc _, .sc _, .sc _, .sc _, .sc _, .sc _, .sc _]) (ys := [.sc _, .sc _, .sc _, .sc _, .sc _, .sc _, .sc _]) (qs := [(0, [.sc _, .sc _, .sc _])]) (pl := fun i => ([(0, 3), (3, 3), (6, 1)] : List (Nat × Nat))[i]?) rfl zero_impl_Pair ⟨rfl, rfl, rfl, rfl, rfl, rfl, rfl, rfl, rfl, rfl, rfl, rfl, rfl, rfl, trivial⟩ ⟨⟨rfl, true, rfl, (fun h => by cases h), rfl⟩, trivial⟩ bld_impl_Pair rfl) rfl (Nat.le_of_ble_eq_true rfl)) rfl ?_
        refine SV.op (OpMk.ok (ok_lit1 (kk := 1) elt_impl_Pair (ag := true) (xs := [.sc _, .sc _, .sc _, .sc _, .sc _, .sc _, .sc _]) rfl rfl rfl rfl (fun h => by cases h) (outs_c rfl (outs_c rfl (outs_c rfl (outs_c rfl (outs_c rfl (outs_c rfl (outs_c rfl outs_n))))))) (by simp [two]) rfl (Nat.le_of_ble_eq_true rfl))) rfl ?_
        refine SV.op (OpMk.ok (ok_append (kk := 2) elt_impl_Pair (ls := .hd 0) (lx := .hd 1) rfl rfl rfl rfl rfl rfl (by intro i h1 h2; cases h1; cases h2) (by first | omega | (simp; done) | (simp; omega)) rfl (Nat.le_of_ble_eq_true rfl))) rfl ?_
        refine SV.op (OpL.ok (nb := 1) (ok_move (v := V.one (.hd 2)) (.inr rfl) rfl) rfl (Nat.le_of_ble_eq_true rfl)) rfl ?_
        refine SV.nil ?_
        refine SV.tn ?_
        refine SV.seq' ?_
        refine SV.region ?_
        refine SV.op (OpL.ok (nb := 1) (ok_move (v := V.one (.hd 2)) (.inl rfl) rfl) rfl (Nat.le_of_ble_eq_true rfl)) rfl ?_
        refine SV.op (OpL.ok (nb := 1) (ok_move (v := V.one (.hd 2)) (.inr rfl) rfl) rfl (Nat.le_of_ble_eq_true rfl)) rfl ?_
        refine SV.nil ?_
        refine SV.tn ?_
        refine SV.ret ?_
        refine SV.br ?_
        refine SV.tr ?_
        apply SV.done (hf := Try.results38) (ht := rfl) (he := .inl rfl)
        case hr => exact (ResAll.cons (ResOk.tmp (ag := false) (xs := [.hd 2]) rfl) ResAll.nil')
        case h2 => simp [two]
        refine ⟨rfl, ⟨?_, trivial⟩, trivial⟩ <;> (show some (T.seq _ _) = some (T.seq _ _); rw [ho]; first | rfl | (rw [htk]; done) | (rw [htk, List.map_append]; done) | (rw [htk, List.map_append]; rfl))
      · skip   -- c3.F
        have ho : PairD.one k r B = [] := by simp at hc0 hc2 hc3; simp [PairD.one, hc0, hc2, hc3]
        refine SV.skip ?_
        refine SV.tn ?_
        refine SV.seq' ?_
        refine SV.region ?_
        refine SV.op (OpL.ok (nb := 1) (ok_move (v := V.one (.hd 0)) (.inl rfl) rfl) rfl (Nat.le_of_ble_eq_true rfl)) rfl ?_
        refine SV.op (OpL.ok (nb := 1) (ok_move (v := V.one (.hd 0)) (.inr rfl) rfl) rfl (Nat.le_of_ble_eq_true rfl)) rfl ?_
        refine SV.nil ?_
        refine SV.tn ?_
        refine SV.ret ?_
        refine SV.br ?_
        refine SV.tr ?_
        apply SV.done (hf := Try.results38) (ht := rfl) (he := .inl rfl)
        case hr => exact (ResAll.cons (ResOk.tmp (ag := false) (xs := [.hd 0]) rfl) ResAll.nil')
        case h2 => simp [two]
        refine ⟨rfl, ⟨?_, trivial⟩, trivial⟩ <;> (show some (T.seq _ _) = some (T.seq _ _); rw [ho]; first | rfl | (rw [htk]; done) | (rw [htk, List.map_append]; done) | (rw [htk, List.map_append]; rfl))
    · skip   -- c2.F
      refine SV.skip ?_
      refine SV.bn ?_
      refine SV.tn ?_
      refine SV.seq' ?_
      refine SV.seq' ?_
      refine SV.region ?_
      refine SV.op (OpL.ok (nb := 1) (ok_move (v := V.one (.sc _)) (.inr rfl) rfl) rfl (Nat.le_of_ble_eq_true rfl)) rfl ?_
      refine SV.nil ?_
      refine SV.tn ?_
      refine SV.block ?_
      refine SV.loopF (X := Nat) (fun (σ : VS) t => (((((((((VS.nil.new (.seq 32 (((PairD.hits r (B.take t)).map (PairD.both r)).map tPair))).box 30 [σ.bl 0 0, σ.bl 0 1, σ.bl 0 2]).put 0 (σ.tm 0)).put 2 (σ.tm 2)).put 4 (V.flat false [.bp 0 0])).put 6 (σ.tm 6)).put 7 (V.flat false [.hd 0])).put 8 (σ.tm 8)).put 9 (V.flat false [.sc (.int .i64 ((t : Int)))]))) (fun t => t ≤ B.length) (fun t => B.length - t) ?_ ?_
      · skip
        refine SV.again (fun i => [0].getD i 0) 0 ((by first | exact Nat.zero_le _ | (refine ⟨Nat.zero_le _, ?_⟩; simp; done) | (simp; done) | omega)) (pins hE rfl rfl) (VS.le.mk' (le_put (le_put (le_put (le_put (le_put (le_put (le_put (le_box (le_new le_nil)) (V.le.keep (ag := false) (xs := [.sc _]) (ys := [.sc _]) rfl rfl ⟨rfl, trivial⟩)) (V.le.keep (ag := false) (xs := [.ro _]) (ys := [.ro _]) rfl rfl ⟨rfl, trivial⟩)) (V.le.keep (ag := false) (xs := [.bp 0 0]) (ys := [.bp 0 0]) rfl rfl ⟨⟨rfl, (Nat.le_of_ble_eq_true rfl)⟩, trivial⟩)) (V.le.keep (ag := false) (xs := [.sc _]) (ys := [.sc _]) rfl rfl ⟨rfl, trivial⟩)) (V.le.keep (ag := false) (xs := [.hd 0]) (ys := [.hd 0]) rfl rfl ⟨⟨rfl, (Nat.le_of_ble_eq_true rfl), (Nat.le_of_ble_eq_true rfl)⟩, trivial⟩)) (V.le.keep (ag := false) (xs := [.sc _]) (ys := [.sc _]) rfl rfl ⟨rfl, trivial⟩)) (V.le.keep (ag := false) (xs := [.sc _]) (ys := [.sc _]) rfl rfl ⟨(by first | rfl | (show Leaf.sc _ = Leaf.sc _; refine congrArg Leaf.sc ?_; first | rfl | go_num | (simp [cntAll]; done)) | (simp [cntAll]; done) | (simp; omega)), trivial⟩)) ⟨⟨rfl, ⟨rfl, rfl, rfl, trivial⟩⟩, trivial⟩ ⟨.inr ⟨_, _, rfl, ?ob1_0, (Nat.le_of_ble_eq_true rfl)⟩, trivial⟩ (new_ob nil_ob) (fun i j hi hj e => inj_list (l := [0]) (by decide) i j hi hj e))
        case ob1_0 =>
          show some (T.seq _ _) = some (T.seq _ _)
          first | rfl | exact congrArg some (congrArg (T.seq _) (by simp))
      · rintro t ht
        refine SV.seq' ?_
        refine SV.seq' ?_
        refine SV.region ?_
        refine SV.op (OpL.ok (nb := 1) (ok_move (v := V.one (.sc _)) (.inl rfl) rfl) rfl (Nat.le_of_ble_eq_true rfl)) rfl ?_
        refine SV.op (OpL.ok (nb := 1) (ok_move (v := V.one (.ro _)) (.inl rfl) rfl) rfl (Nat.le_of_ble_eq_true rfl)) rfl ?_
        refine SV.op (OpL.ok (nb := 1) (ok_len (lf := .ro _) rfl elt_impl_Row.und rfl rfl) rfl (Nat.le_of_ble_eq_true rfl)) rfl ?_
        refine SV.op (OpL.ok (nb := 1) (ok_s2 (x := .tmp 35) (x' := .tmp 37) (VScal.one rfl) (VScal.one rfl) (fun ρ h1 h2 w => by go_simp; (try go_bits); with_reducible rfl) rfl) rfl (Nat.le_of_ble_eq_true rfl)) rfl ?_
        refine SV.nil ?_
        refine SV.tn ?_
        refine SV.cond rfl (fun hc4 => ?_) (fun hc4 => ?_)
        · skip   -- c4.T
          have htl : t < B.length := by simpa using hc4
          have hx : B[t]? = some B[t] := by simp [htl]
          have hle := PairD.hit_le r (B.take t)
          have hlt : (B.take t).length ≤ t := by simp; omega
          refine SV.skip ?_
          refine SV.tn ?_
          refine SV.seq' ?_
          refine SV.block ?_
          refine SV.seq' ?_
          refine SV.draw [.q 0, .q 1, .q 2, .q 3, .q 4, .q 5, .q 6, .q 7] [] (by kernel_rfl) (by kernel_rfl) ?_
          refine DW.q rfl (ok_move (v := V.one (.ro _)) (.inl rfl) rfl) rfl rfl (Nat.le_of_ble_eq_true rfl) (fun _ _ _ _ h => h) ?_
          refine DW.q rfl (ok_move (v := V.one (.sc _)) (.inl rfl) rfl) rfl rfl (Nat.le_of_ble_eq_true rfl) (fun _ _ _ _ h => h) ?_
          refine DW.q rfl (ok_index (n := 3) (lf := .ro _) rfl elt_impl_Row.und sz_impl_Row rfl rfl rfl (map_at (by assumption))) rfl rfl (Nat.le_of_ble_eq_true rfl) (fun _ _ _ _ h => h) ?_
          refine DW.q rfl (ok_field_el (p := .rp _) (off := 0) rfl rfl rfl fld_impl_Row_0) rfl rfl (Nat.le_of_ble_eq_true rfl) (fun _ _ _ _ h => h) ?_
          refine DW.q rfl (ok_load_rp (ag := false) (m := 1) (ys := [.sc _]) rfl rfl agg_int sz_int (fun _ => rfl) (Nat.le_of_ble_eq_true rfl) rfl) rfl rfl (Nat.le_of_ble_eq_true rfl) (fun _ _ _ _ h => h) ?_
          refine DW.q rfl (ok_field_bp (b := 0) (o' := 0) (off := 0) rfl rfl fld_impl_Row_0) rfl rfl (Nat.le_of_ble_eq_true rfl) (fun _ _ _ _ h => h) ?_
          refine DW.q rfl (ok_load_bp (b := 0) (i := 0) (ag := false) (m := 1) (ys := [.sc _]) rfl rfl rfl agg_int sz_int (fun _ => rfl) rfl rfl (Nat.le_of_ble_eq_true rfl)) rfl rfl (Nat.le_of_ble_eq_true rfl) (fun _ _ _ _ h => h) ?_
          refine DW.q rfl (ok_s2 (x := .tmp 45) (x' := .tmp 47) (VScal.one rfl) (VScal.one rfl) (fun ρ h1 h2 w => by go_simp; (try go_bits); with_reducible rfl) rfl) rfl rfl (Nat.le_of_ble_eq_true rfl) (fun _ _ _ _ h => h) ?_
          refine DW.stores ?_
          refine SV.zend ?_
          refine SV.tn ?_
          refine SV.cond rfl (fun hc5 => ?_) (fun hc5 => ?_)
          · skip   -- c5.T
            have hn := PairD.hits_yes (r := r) htl (by simpa using hc5)
            refine SV.draw [.q 0, .q 1, .q 2, .q 3, .q 4, .q 5, .q 6, .m 7, .m 8, .q 9] [] (by kernel_rfl) (by kernel_rfl) ?_
            refine DW.q rfl (ok_move (v := V.one (.hd 0)) (.inl rfl) rfl) rfl rfl (Nat.le_of_ble_eq_true rfl) (fun _ _ _ _ h => h) ?_
            refine DW.q rfl (ok_load_bp (b := 0) (i := 0) (ag := true) (m := 3) (ys := [.sc _, .sc _, .sc _]) rfl rfl rfl agg_impl_Row sz_impl_Row (fun h => by cases h) rfl rfl (Nat.le_of_ble_eq_true rfl)) rfl rfl (Nat.le_of_ble_eq_true rfl) (fun _ _ _ _ h => h) ?_
            refine DW.q rfl (ok_move (v := V.one (.ro _)) (.inl rfl) rfl) rfl rfl (Nat.le_of_ble_eq_true rfl) (fun _ _ _ _ h => h) ?_
            refine DW.q rfl (ok_move (v := V.one (.sc _)) (.inl rfl) rfl) rfl rfl (Nat.le_of_ble_eq_true rfl) (fun _ _ _ _ h => h) ?_
            refine DW.q rfl (ok_index (n := 3) (lf := .ro _) rfl elt_impl_Row.und sz_impl_Row rfl rfl rfl (map_at (by assumption))) rfl rfl (Nat.le_of_ble_eq_true rfl) (fun _ _ _ _ h => h) ?_
            refine DW.q rfl (ok_load_rp (ag := true) (m := 3) (ys := [.sc _, .sc _, .sc _]) rfl rfl agg_impl_Row sz_impl_Row (fun h => by cases h) (Nat.le_of_ble_eq_true rfl) rfl) rfl rfl (Nat.le_of_ble_eq_true rfl) (fun _ _ _ _ h => h) ?_
            refine DW.q rfl (ok_build (zs := [.sc _, .sc _, .sc _, .sc _, .sc _, .sc _, .sc _]) (ys := [.sc _, .sc _, .sc _, .sc _, .sc _, .sc _, .sc _]) (qs := [(0, [.sc _, .sc _, .sc _]), (1, [.sc _, .sc _, .sc _]), (2, [.sc _])]) (pl := fun i => ([(0, 3), (3, 3), (6, 1)] : List (Nat × Nat))[i]?) rfl zero_impl_Pair ⟨rfl, rfl, rfl, rfl, rfl, rfl, rfl, rfl, rfl, rfl, rfl, rfl, rfl, rfl, trivial⟩ ⟨⟨rfl, true, rfl, (fun h => by cases h), rfl⟩, ⟨rfl, true, rfl, (fun h => by cases h), rfl⟩, ⟨rfl, false, rfl, (fun _ => rfl), rfl⟩, trivial⟩ bld_impl_Pair rfl) rfl rfl (Nat.le_of_ble_eq_true rfl) (fun _ _ _ _ h => h) ?_
            refine DW.m [1] rfl (ok_lit1 (kk := 1) elt_impl_Pair (ag := true) (xs := [.sc _, .sc _, .sc _, .sc _, .sc _, .sc _, .sc _]) rfl rfl rfl rfl (fun h => by cases h) (outs_c rfl (outs_c rfl (outs_c rfl (outs_c rfl (outs_c rfl (outs_c rfl (outs_c rfl outs_n))))))) (by simp [two]) rfl (Nat.le_of_ble_eq_true rfl)) rfl (Nat.le_of_ble_eq_true rfl) (Nat.le_of_ble_eq_true rfl) (.inl rfl) (fun j hj => by
                simp only [List.mem_cons, List.not_mem_nil, or_false] at hj
                rcases hj with rfl
                · exact .inr ⟨(Nat.le_of_ble_eq_true rfl), (Nat.le_of_ble_eq_true rfl), .inl rfl⟩) ?_
            refine DW.m [1] rfl (ok_append (kk := 2) elt_impl_Pair (ls := .hd 0) (lx := .hd 1) rfl rfl rfl rfl rfl rfl (by intro i h1 h2; cases h1; cases h2) (by simp only [List.length_map, List.length_cons, List.length_nil]; show PairD.hit r (B.take t) + 1 ≤ _; omega) rfl (Nat.le_of_ble_eq_true rfl)) rfl (Nat.le_of_ble_eq_true rfl) (Nat.le_of_ble_eq_true rfl) (.inr ⟨0, rfl, .inr ⟨(Nat.le_of_ble_eq_true rfl), rfl⟩⟩) (fun j hj => by
                simp only [List.mem_cons, List.not_mem_nil, or_false] at hj
                rcases hj with rfl
                · exact .inl (by decide)) ?_
            refine DW.q rfl (ok_move (v := V.one (.hd 2)) (.inr rfl) rfl) rfl rfl (Nat.le_of_ble_eq_true rfl) (fun _ _ _ _ h => h) ?_
            refine DW.stores ?_
            refine SV.zend ?_
            refine SV.bn ?_
            refine SV.tn ?_
            refine SV.region ?_
            refine SV.op (OpL.ok (nb := 1) (ok_move (v := V.one (.sc _)) (.inl rfl) rfl) rfl (Nat.le_of_ble_eq_true rfl)) rfl ?_
            refine SV.op (OpL.ok (nb := 1) (ok_s2 (x := .tmp 39) (x' := .const ((Value.int IntKind.i64 1))) (VScal.one rfl) (VScal.one rfl) (fun ρ h1 h2 w => by go_simp; (try go_bits); with_reducible rfl) rfl) rfl (Nat.le_of_ble_eq_true rfl)) rfl ?_
            refine SV.op (OpL.ok (nb := 1) (ok_move (v := V.one (.sc _)) (.inr rfl) rfl) rfl (Nat.le_of_ble_eq_true rfl)) rfl ?_
            refine SV.nil ?_
            refine SV.tn ?_
            refine SV.again (fun i => [2].getD i 0) (t + 1) (⟨by omega, by omega⟩) (pins hE rfl rfl) (VS.le.mk' (le_put (le_put (le_put (le_put (le_put (le_put (le_put (le_box (le_new le_nil)) (V.le.keep (ag := false) (xs := [.sc _]) (ys := [.sc _]) rfl rfl ⟨rfl, trivial⟩)) (V.le.keep (ag := false) (xs := [.ro _]) (ys := [.ro _]) rfl rfl ⟨rfl, trivial⟩)) (V.le.keep (ag := false) (xs := [.bp 0 0]) (ys := [.bp 0 0]) rfl rfl ⟨⟨rfl, (Nat.le_of_ble_eq_true rfl)⟩, trivial⟩)) (V.le.keep (ag := false) (xs := [.sc _]) (ys := [.sc _]) rfl rfl ⟨rfl, trivial⟩)) (V.le.keep (ag := false) (xs := [.hd 2]) (ys := [.hd 0]) rfl rfl ⟨⟨rfl, (Nat.le_of_ble_eq_true rfl), (Nat.le_of_ble_eq_true rfl)⟩, trivial⟩)) (V.le.keep (ag := false) (xs := [.sc _]) (ys := [.sc _]) rfl rfl ⟨rfl, trivial⟩)) (V.le.keep (ag := false) (xs := [.sc _]) (ys := [.sc _]) rfl rfl ⟨(by first | rfl | (show Leaf.sc _ = Leaf.sc _; refine congrArg Leaf.sc ?_; first | rfl | go_num | (simp [cntAll]; done)) | (simp [cntAll]; done) | (simp; omega)), trivial⟩)) ⟨⟨rfl, ⟨rfl, rfl, rfl, trivial⟩⟩, trivial⟩ ⟨.inr ⟨_, _, rfl, ?ob2_0, (Nat.le_of_ble_eq_true rfl)⟩, trivial⟩ (new_ob nil_ob) (fun i j hi hj e => inj_list (l := [2]) (by decide) i j hi hj e))
            case ob2_0 =>
              show some (T.seq _ _) = some (T.seq _ _)
              first | (simp only [hn]; done) | (simp only [hn, List.map_append]; done) | (simp only [hn, List.map_append]; rfl)
          · skip   -- c5.F
            have hn := PairD.hits_no (r := r) htl (by simpa using hc5)
            refine SV.skip ?_
            refine SV.bn ?_
            refine SV.tn ?_
            refine SV.region ?_
            refine SV.op (OpL.ok (nb := 1) (ok_move (v := V.one (.sc _)) (.inl rfl) rfl) rfl (Nat.le_of_ble_eq_true rfl)) rfl ?_
            refine SV.op (OpL.ok (nb := 1) (ok_s2 (x := .tmp 39) (x' := .const ((Value.int IntKind.i64 1))) (VScal.one rfl) (VScal.one rfl) (fun ρ h1 h2 w => by go_simp; (try go_bits); with_reducible rfl) rfl) rfl (Nat.le_of_ble_eq_true rfl)) rfl ?_
            refine SV.op (OpL.ok (nb := 1) (ok_move (v := V.one (.sc _)) (.inr rfl) rfl) rfl (Nat.le_of_ble_eq_true rfl)) rfl ?_
            refine SV.nil ?_
            refine SV.tn ?_
            refine SV.again (fun i => [0].getD i 0) (t + 1) (⟨by omega, by omega⟩) (pins hE rfl rfl) (VS.le.mk' (le_put (le_put (le_put (le_put (le_put (le_put (le_put (le_box (le_new le_nil)) (V.le.keep (ag := false) (xs := [.sc _]) (ys := [.sc _]) rfl rfl ⟨rfl, trivial⟩)) (V.le.keep (ag := false) (xs := [.ro _]) (ys := [.ro _]) rfl rfl ⟨rfl, trivial⟩)) (V.le.keep (ag := false) (xs := [.bp 0 0]) (ys := [.bp 0 0]) rfl rfl ⟨⟨rfl, (Nat.le_of_ble_eq_true rfl)⟩, trivial⟩)) (V.le.keep (ag := false) (xs := [.sc _]) (ys := [.sc _]) rfl rfl ⟨rfl, trivial⟩)) (V.le.keep (ag := false) (xs := [.hd 0]) (ys := [.hd 0]) rfl rfl ⟨⟨rfl, (Nat.le_of_ble_eq_true rfl), (Nat.le_of_ble_eq_true rfl)⟩, trivial⟩)) (V.le.keep (ag := false) (xs := [.sc _]) (ys := [.sc _]) rfl rfl ⟨rfl, trivial⟩)) (V.le.keep (ag := false) (xs := [.sc _]) (ys := [.sc _]) rfl rfl ⟨(by first | rfl | (show Leaf.sc _ = Leaf.sc _; refine congrArg Leaf.sc ?_; first | rfl | go_num | (simp [cntAll]; done)) | (simp [cntAll]; done) | (simp; omega)), trivial⟩)) ⟨⟨rfl, ⟨rfl, rfl, rfl, trivial⟩⟩, trivial⟩ ⟨.inr ⟨_, _, rfl, ?ob3_0, (Nat.le_of_ble_eq_true rfl)⟩, trivial⟩ (new_ob nil_ob) (fun i j hi hj e => inj_list (l := [0]) (by decide) i j hi hj e))
            case ob3_0 =>
              show some (T.seq _ _) = some (T.seq _ _)
              first | (simp only [hn]; done) | (simp only [hn, List.map_append]; done) | (simp only [hn, List.map_append]; rfl)
        · skip   -- c4.F
          have hte : ¬ t < B.length := by simpa using hc4
          have htk : B.take t = B := List.take_of_length_le (by omega)
          refine SV.exit ?_
          refine SV.te ?_
          refine SV.te ?_
          refine SV.bh ?_
          refine SV.tn ?_
          refine SV.seq' ?_
          refine SV.seq' ?_
          refine SV.region ?_
          refine SV.op (OpL.ok (nb := 1) (ok_move (v := V.one (.sc _)) (.inl rfl) rfl) rfl (Nat.le_of_ble_eq_true rfl)) rfl ?_
          refine SV.op (OpL.ok (nb := 1) (ok_s2 (x := .tmp 58) (x' := .const ((Value.int IntKind.i64 0))) (VScal.one rfl) (VScal.one rfl) (fun ρ h1 h2 w => by go_simp; (try go_bits); with_reducible rfl) rfl) rfl (Nat.le_of_ble_eq_true rfl)) rfl ?_
          refine SV.op (OpL.ok (nb := 1) (ok_move (v := V.one (.sc _)) (.inl rfl) rfl) rfl (Nat.le_of_ble_eq_true rfl)) rfl ?_
          refine SV.split (d := 60) rfl (fun hg0 => ?_) (fun hg0 => ?_)
          · skip   -- g0.T
            refine SV.opY (OpL.ok (nb := 1) (ok_move (v := V.one (.sc _)) (.inl rfl) rfl) rfl (Nat.le_of_ble_eq_true rfl)) rfl rfl rfl (Nat.le_of_ble_eq_true rfl) rfl rfl ?_
            refine SV.opY (OpL.ok (nb := 1) (ok_s2 (x := .tmp 61) (x' := .const ((Value.int IntKind.i64 4))) (VScal.one rfl) (VScal.one rfl) (fun ρ h1 h2 w => by go_simp; (try go_bits); with_reducible rfl) rfl) rfl (Nat.le_of_ble_eq_true rfl)) rfl rfl rfl (Nat.le_of_ble_eq_true rfl) rfl rfl ?_
            refine SV.op (OpL.ok (nb := 1) (ok_pickT (v := V.one (.sc _)) rfl rfl rfl) rfl (Nat.le_of_ble_eq_true rfl)) rfl ?_
            refine SV.nil ?_
            refine SV.tn ?_
            refine SV.cond rfl (fun hc6 => ?_) (fun hc6 => ?_)
            · skip   -- c6.T
              have ho : PairD.one k r B = (PairD.hits r B).map (PairD.both r) ++ [PairD.alone r] := by simp at hc0 hc2 hg0 hc6; simp [PairD.one, hc0, hc2, hg0, hc6]
              refine SV.region ?_
              refine SV.op (OpL.ok (nb := 1) (ok_move (v := V.one (.hd 0)) (.inl rfl) rfl) rfl (Nat.le_of_ble_eq_true rfl)) rfl ?_
              refine SV.op (OpL.ok (nb := 1) (ok_load_bp (b := 0) (i := 0) (ag := true) (m := 3) (ys := [.sc _, .sc _, .sc _]) rfl rfl rfl agg_impl_Row sz_impl_Row (fun h => by cases h) rfl rfl (Nat.le_of_ble_eq_true rfl)) rfl (Nat.le_of_ble_eq_true rfl)) rfl ?_
              refine SV.op (OpL.ok (nb := 1) (ok_build (zs := [.sc _, .sc _, .sc _, .sc _, .sc _, .sc _, .sc _]) (ys := [.sc _, .sc _, .sc _, .sc _, .sc _, .sc _, .sc _]) (qs := [(0, [.sc _, .sc _, .sc _])]) (pl := fun i => ([(0, 3), (3, 3), (6, 1)] : List (Nat × Nat))[i]?) rfl zero_impl_Pair ⟨rfl, rfl, rfl, rfl, rfl, rfl, rfl, rfl, rfl, rfl, rfl, rfl, rfl, rfl, trivial⟩ ⟨⟨rfl, true, rfl, (fun h => by cases h), rfl⟩, trivial⟩ bld_impl_Pair rfl) rfl (Nat.le_of_ble_eq_true rfl)) rfl ?_
              refine SV.op (OpMk.ok (ok_lit1 (kk := 1) elt_impl_Pair (ag := true) (xs := [.sc _, .sc _, .sc _, .sc _, .sc _, .sc _, .sc _]) rfl rfl rfl rfl (fun h => by cases h) (outs_c rfl (outs_c rfl (outs_c rfl (outs_c rfl (outs_c rfl (outs_c rfl (outs_c rfl outs_n))))))) (by simp [two]) rfl (Nat.le_of_ble_eq_true rfl))) rfl ?_
              refine SV.op (OpMk.ok (ok_append (kk := 2) elt_impl_Pair (ls := .hd 0) (lx := .hd 1) rfl rfl rfl rfl rfl rfl (by intro i h1 h2; cases h1; cases h2) (by simp only [List.length_map, List.length_cons, List.length_nil]; show PairD.hit r (B.take t) + 1 ≤ _; have := PairD.hit_le r (B.take t); have : (B.take t).length ≤ B.length := (by simp; omega); omega) rfl (Nat.le_of_ble_eq_true rfl))) rfl ?_
              refine SV.op (OpL.ok (nb := 1) (ok_move (v := V.one (.hd 2)) (.inr rfl) rfl) rfl (Nat.le_of_ble_eq_true rfl)) rfl ?_
              refine SV.nil ?_
              refine SV.tn ?_
              refine SV.seq' ?_
              refine SV.region ?_
              refine SV.op (OpL.ok (nb := 1) (ok_move (v := V.one (.hd 2)) (.inl rfl) rfl) rfl (Nat.le_of_ble_eq_true rfl)) rfl ?_
              refine SV.op (OpL.ok (nb := 1) (ok_move (v := V.one (.hd 2)) (.inr rfl) rfl) rfl (Nat.le_of_ble_eq_true rfl)) rfl ?_
              refine SV.nil ?_
              refine SV.tn ?_
              refine SV.ret ?_
              apply SV.done (hf := Try.results38) (ht := rfl) (he := .inl rfl)
              case hr => exact (ResAll.cons (ResOk.tmp (ag := false) (xs := [.hd 2]) rfl) ResAll.nil')
              case h2 => simp [two]
              refine ⟨rfl, ⟨?_, trivial⟩, trivial⟩ <;> (show some (T.seq _ _) = some (T.seq _ _); rw [ho]; first | rfl | (rw [htk]; done) | (rw [htk, List.map_append]; done) | (rw [htk, List.map_append]; rfl))
            · skip   -- c6.F
              have ho : PairD.one k r B = (PairD.hits r B).map (PairD.both r) := by simp at hc0 hc2 hg0 hc6; simp [PairD.one, hc0, hc2, hg0, hc6]
              refine SV.skip ?_
              refine SV.tn ?_
              refine SV.seq' ?_
              refine SV.region ?_
              refine SV.op (OpL.ok (nb := 1) (ok_move (v := V.one (.hd 0)) (.inl rfl) rfl) rfl (Nat.le_of_ble_eq_true rfl)) rfl ?_
              refine SV.op (OpL.ok (nb := 1) (ok_move (v := V.one (.hd 0)) (.inr rfl) rfl) rfl (Nat.le_of_ble_eq_true rfl)) rfl ?_
              refine SV.nil ?_
              refine SV.tn ?_
              refine SV.ret ?_
              apply SV.done (hf := Try.results38) (ht := rfl) (he := .inl rfl)
              case hr => exact (ResAll.cons (ResOk.tmp (ag := false) (xs := [.hd 0]) rfl) ResAll.nil')
              case h2 => simp [two]
              refine ⟨rfl, ⟨?_, trivial⟩, trivial⟩ <;> (show some (T.seq _ _) = some (T.seq _ _); rw [ho]; first | rfl | (rw [htk]; done) | (rw [htk, List.map_append]; done) | (rw [htk, List.map_append]; rfl))
          · skip   -- g0.F
            refine SV.opN rfl rfl rfl (Nat.le_of_ble_eq_true rfl) rfl rfl rfl (Nat.le_of_ble_eq_true rfl) ?_
            refine SV.opN rfl rfl rfl (Nat.le_of_ble_eq_true rfl) rfl rfl rfl (Nat.le_of_ble_eq_true rfl) ?_
            refine SV.op (OpL.ok (nb := 1) (ok_pickF (v := V.one (.sc _)) rfl rfl rfl) rfl (Nat.le_of_ble_eq_true rfl)) rfl ?_
            refine SV.nil ?_
            refine SV.tn ?_
            refine SV.cond rfl (fun hc7 => ?_) (fun hc7 => ?_)
            · skip   -- c7.T
              simp at hc7
            · skip   -- c7.F
              have ho : PairD.one k r B = (PairD.hits r B).map (PairD.both r) := by simp at hc0 hc2 hg0; simp [PairD.one, hc0, hc2, hg0]
              refine SV.skip ?_
              refine SV.tn ?_
              refine SV.seq' ?_
              refine SV.region ?_
              refine SV.op (OpL.ok (nb := 1) (ok_move (v := V.one (.hd 0)) (.inl rfl) rfl) rfl (Nat.le_of_ble_eq_true rfl)) rfl ?_
              refine SV.op (OpL.ok (nb := 1) (ok_move (v := V.one (.hd 0)) (.inr rfl) rfl) rfl (Nat.le_of_ble_eq_true rfl)) rfl ?_
              refine SV.nil ?_
              refine SV.tn ?_
              refine SV.ret ?_
              apply SV.done (hf := Try.results38) (ht := rfl) (he := .inl rfl)
              case hr => exact (ResAll.cons (ResOk.tmp (ag := false) (xs := [.hd 0]) rfl) ResAll.nil')
              case h2 => simp [two]
              refine ⟨rfl, ⟨?_, trivial⟩, trivial⟩ <;> (show some (T.seq _ _) = some (T.seq _ _); rw [ho]; first | rfl | (rw [htk]; done) | (rw [htk, List.map_append]; done) | (rw [htk, List.map_append]; rfl))
end Go.Proofs.Ytlnjgoommpeioaa
