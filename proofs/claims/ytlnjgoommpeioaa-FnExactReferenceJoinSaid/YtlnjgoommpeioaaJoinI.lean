/- The program's joins: told by trees. -/
import Derived.Test.YtlnjgoommpeioaaMatches
import Derived.Test.YtlnjgoommpeioaaKinds
import Derived.Test.YtlnjgoommpeioaaVP
namespace Go.Proofs.Ytlnjgoommpeioaa
open Go Go.RowKit V
set_option linter.unusedVariables false
set_option maxRecDepth 100000 in
set_option maxHeartbeats 2000000 in
theorem vmatch_i (Z : List PairD) (r : R) (B : List R) (hL : B.length ≤ 1048576) (hZ : Z.length ≤ 300000000000) : VX Try.prog 32 [(false, [.ln 0]), (true, [.rd (.lit (.int .i64 r.key)), .rd (.lit (.int .i64 r.value)), .rd (.lit (.int .i64 r.width))]), (false, [.rd (.seq 30 (B.map tRow))])] [.seq 32 (Z.map tPair)] false [(false, [.seq 32 ((Z ++ (PairD.hits r B).map (PairD.both r)).map tPair)])] := by
  refine VX.enter Try.func32 rfl Try.ntmps32 (Nat.le_of_ble_eq_true rfl) fun E hE => ?_
  refine SV.seq' ?_
  refine SV.region ?_
  refine SV.op (OpMk.ok (ok_box (kk := 0) (ag := true) (xs := [.sc _, .sc _, .sc _]) rfl rfl rfl (fun h => by cases h) rfl rfl (Nat.le_of_ble_eq_true rfl))) rfl ?_
  refine SV.op (OpL.ok (nb := 1) (ok_move (v := V.one (.sc _)) (.inr rfl) rfl) rfl (Nat.le_of_ble_eq_true rfl)) rfl ?_
  refine SV.nil ?_
  refine SV.tn ?_
  refine SV.seq' ?_
  refine SV.seq' ?_
  refine SV.region ?_
  refine SV.op (OpL.ok (nb := 1) (ok_move (v := V.one (.ro _)) (.inl rfl) rfl) rfl (Nat.le_of_ble_eq_true rfl)) rfl ?_
  refine SV.op (OpL.ok (nb := 1) (ok_len (lf := .ro _) rfl elt_impl_Row.und rfl rfl) rfl (Nat.le_of_ble_eq_true rfl)) rfl ?_
  refine SV.op (OpL.ok (nb := 1) (ok_move (v := V.one (.sc _)) (.inl rfl) rfl) rfl (Nat.le_of_ble_eq_true rfl)) rfl ?_
  refine SV.nil ?_
  refine SV.tn ?_
  refine SV.block ?_
  refine SV.loopF (X := Nat) (fun (σ : VS) t => ((((((((VS.nil.new (.seq 32 ((Z ++ (PairD.hits r (B.take t)).map (PairD.both r)).map tPair))).box 30 [σ.bl 0 0, σ.bl 0 1, σ.bl 0 2]).put 0 (V.flat false [.hd 0])).put 4 (V.flat false [.bp 0 0])).put 6 (σ.tm 6)).put 9 (σ.tm 9)).put 10 (σ.tm 10)).put 11 (V.flat false [.sc (.int .i64 ((t : Int)))]))) (fun t => t ≤ B.length) (fun t => B.length - t) ?_ ?_
  · skip
    refine SV.again (fun i => [0].getD i 0) 0 ((by first | exact Nat.zero_le _ | (refine ⟨Nat.zero_le _, ?_⟩; simp; done) | (simp; done) | omega)) (pins hE rfl rfl) (VS.le.mk' (le_put (le_put (le_put (le_put (le_put (le_put (le_box (le_new le_nil)) (V.le.keep (ag := false) (xs := [.hd 0]) (ys := [.hd 0]) rfl rfl ⟨⟨rfl, (Nat.le_of_ble_eq_true rfl), (Nat.le_of_ble_eq_true rfl)⟩, trivial⟩)) (V.le.keep (ag := false) (xs := [.bp 0 0]) (ys := [.bp 0 0]) rfl rfl ⟨⟨rfl, (Nat.le_of_ble_eq_true rfl)⟩, trivial⟩)) (V.le.keep (ag := false) (xs := [.sc _]) (ys := [.sc _]) rfl rfl ⟨rfl, trivial⟩)) (V.le.keep (ag := false) (xs := [.ro _]) (ys := [.ro _]) rfl rfl ⟨rfl, trivial⟩)) (V.le.keep (ag := false) (xs := [.sc _]) (ys := [.sc _]) rfl rfl ⟨rfl, trivial⟩)) (V.le.keep (ag := false) (xs := [.sc _]) (ys := [.sc _]) rfl rfl ⟨(by first | rfl | (show Leaf.sc _ = Leaf.sc _; refine congrArg Leaf.sc ?_; first | rfl | go_num | (simp [cntAll]; done)) | (simp [cntAll]; done) | (simp; omega)), trivial⟩)) ⟨⟨rfl, ⟨rfl, rfl, rfl, trivial⟩⟩, trivial⟩ ⟨.inr ⟨_, _, rfl, ?ob1_0, (Nat.le_of_ble_eq_true rfl)⟩, trivial⟩ (new_ob nil_ob) (fun i j hi hj e => inj_list (l := [0]) (by decide) i j hi hj e))
    case ob1_0 =>
      show some (T.seq _ _) = some (T.seq _ _)
      simp [PairD.hits_nil]
  · rintro t ht
    refine SV.seq' ?_
    refine SV.region ?_
    refine SV.op (OpL.ok (nb := 1) (ok_s2 (x := .tmp 11) (x' := .tmp 10) (VScal.one rfl) (VScal.one rfl) (fun ρ h1 h2 w => by go_simp; (try go_bits); with_reducible rfl) rfl) rfl (Nat.le_of_ble_eq_true rfl)) rfl ?_
    refine SV.nil ?_
    refine SV.tn ?_
    refine SV.seq' ?_
    refine SV.cond rfl (fun hc0 => ?_) (fun hc0 => ?_)
    · skip   -- c0.T
      have htl : t < B.length := by simpa using hc0
      have hx : B[t]? = some B[t] := by simp [htl]
      have hle := PairD.hit_le r (B.take t)
      have hlt : (B.take t).length ≤ t := by simp; omega
      refine SV.skip ?_
      refine SV.tn ?_
      refine SV.seq' ?_
      refine SV.block ?_
      refine SV.seq' ?_
      refine SV.region ?_
      refine SV.op (OpL.ok (nb := 1) (ok_index (n := 3) (lf := .ro _) rfl elt_impl_Row.und sz_impl_Row rfl rfl rfl (map_at (by assumption))) rfl (Nat.le_of_ble_eq_true rfl)) rfl ?_
      refine SV.op (OpL.ok (nb := 1) (ok_load_rp (ag := true) (m := 3) (ys := [.sc _, .sc _, .sc _]) rfl rfl agg_impl_Row sz_impl_Row (fun h => by cases h) (Nat.le_of_ble_eq_true rfl) rfl) rfl (Nat.le_of_ble_eq_true rfl)) rfl ?_
      refine SV.op (OpMk.ok (ok_alloc (kk := 1) (xs := [.sc _, .sc _, .sc _]) rfl rfl zero_impl_Row ⟨rfl, rfl, rfl, rfl, rfl, rfl, trivial⟩ rfl (Nat.le_of_ble_eq_true rfl))) rfl ?_
      refine SV.op (ok_store_bp (b := 1) (i := 0) (m := 3) (ag := true) (zs := [.sc _, .sc _, .sc _]) (ys := [.sc _, .sc _, .sc _]) rfl rfl rfl rfl sz_impl_Row (fun h => by cases h) rfl (Nat.le_of_ble_eq_true rfl) rfl rfl rfl) rfl ?_
      refine SV.nil ?_
      refine SV.tn ?_
      refine SV.seq' ?_
      refine SV.region ?_
      refine SV.op (OpL.ok (nb := 2) (ok_field_bp (b := 1) (o' := 0) (off := 0) rfl rfl fld_impl_Row_0) rfl (Nat.le_of_ble_eq_true rfl)) rfl ?_
      refine SV.op (OpL.ok (nb := 2) (ok_load_bp (b := 1) (i := 0) (ag := false) (m := 1) (ys := [.sc _]) rfl rfl rfl agg_int sz_int (fun _ => rfl) rfl rfl (Nat.le_of_ble_eq_true rfl)) rfl (Nat.le_of_ble_eq_true rfl)) rfl ?_
      refine SV.op (OpL.ok (nb := 2) (ok_field_bp (b := 0) (o' := 0) (off := 0) rfl rfl fld_impl_Row_0) rfl (Nat.le_of_ble_eq_true rfl)) rfl ?_
      refine SV.op (OpL.ok (nb := 2) (ok_load_bp (b := 0) (i := 0) (ag := false) (m := 1) (ys := [.sc _]) rfl rfl rfl agg_int sz_int (fun _ => rfl) rfl rfl (Nat.le_of_ble_eq_true rfl)) rfl (Nat.le_of_ble_eq_true rfl)) rfl ?_
      refine SV.op (OpL.ok (nb := 2) (ok_s2 (x := .tmp 16) (x' := .tmp 18) (VScal.one rfl) (VScal.one rfl) (fun ρ h1 h2 w => by go_simp; (try go_bits); with_reducible rfl) rfl) rfl (Nat.le_of_ble_eq_true rfl)) rfl ?_
      refine SV.nil ?_
      refine SV.tn ?_
      refine SV.cond rfl (fun hc1 => ?_) (fun hc1 => ?_)
      · skip   -- c1.T
        have hn := PairD.hits_yes (r := r) htl (by simpa using hc1)
        refine SV.region ?_
        refine SV.op (OpL.ok (nb := 2) (ok_move (v := V.one (.hd 0)) (.inl rfl) rfl) rfl (Nat.le_of_ble_eq_true rfl)) rfl ?_
        refine SV.op (OpL.ok (nb := 2) (ok_load_bp (b := 0) (i := 0) (ag := true) (m := 3) (ys := [.sc _, .sc _, .sc _]) rfl rfl rfl agg_impl_Row sz_impl_Row (fun h => by cases h) rfl rfl (Nat.le_of_ble_eq_true rfl)) rfl (Nat.le_of_ble_eq_true rfl)) rfl ?_
        refine SV.op (OpL.ok (nb := 2) (ok_load_bp (b := 1) (i := 0) (ag := true) (m := 3) (ys := [.sc _, .sc _, .sc _]) rfl rfl rfl agg_impl_Row sz_impl_Row (fun h => by cases h) rfl rfl (Nat.le_of_ble_eq_true rfl)) rfl (Nat.le_of_ble_eq_true rfl)) rfl ?_
        refine SV.op (OpL.ok (nb := 2) (ok_build (zs := [.sc _, .sc _, .sc _, .sc _, .sc _, .sc _, .sc _]) (ys := [.sc _, .sc _, .sc _, .sc _, .sc _, .sc _, .sc _]) (qs := [(0, [.sc _, .sc _, .sc _]), (1, [.sc _, .sc _, .sc _]), (2, [.sc _])]) (pl := fun i => ([(0, 3), (3, 3), (6, 1)] : List (Nat × Nat))[i]?) rfl zero_impl_Pair ⟨rfl, rfl, rfl, rfl, rfl, rfl, rfl, rfl, rfl, rfl, rfl, rfl, rfl, rfl, trivial⟩ ⟨⟨rfl, true, rfl, (fun h => by cases h), rfl⟩, ⟨rfl, true, rfl, (fun h => by cases h), rfl⟩, ⟨rfl, false, rfl, (fun _ => rfl), rfl⟩, trivial⟩ bld_impl_Pair rfl) rfl (Nat.le_of_ble_eq_true rfl)) rfl ?_
        refine SV.op (OpMk.ok (ok_lit1 (kk := 1) elt_impl_Pair (ag := true) (xs := [.sc _, .sc _, .sc _, .sc _, .sc _, .sc _, .sc _]) rfl rfl rfl rfl (fun h => by cases h) (outs_c rfl (outs_c rfl (outs_c rfl (outs_c rfl (outs_c rfl (outs_c rfl (outs_c rfl outs_n))))))) (by simp [two]) rfl (Nat.le_of_ble_eq_true rfl))) rfl ?_
        refine SV.op (OpMk.ok (ok_append (kk := 2) elt_impl_Pair (ls := .hd 0) (lx := .hd 1) rfl rfl rfl rfl rfl rfl (by intro i h1 h2; cases h1; cases h2) (by simp only [List.length_map, List.length_append, List.length_cons, List.length_nil]; show Z.length + PairD.hit r (B.take t) + 1 ≤ _; omega) rfl (Nat.le_of_ble_eq_true rfl))) rfl ?_
        refine SV.op (OpL.ok (nb := 2) (ok_move (v := V.one (.hd 2)) (.inr rfl) rfl) rfl (Nat.le_of_ble_eq_true rfl)) rfl ?_
        refine SV.nil ?_
        refine SV.bn ?_
        refine SV.tn ?_
        refine SV.region ?_
        refine SV.op (OpL.ok (nb := 2) (ok_s2 (x := .tmp 11) (x' := .const ((Value.int IntKind.i64 1))) (VScal.one rfl) (VScal.one rfl) (fun ρ h1 h2 w => by go_simp; (try go_bits); with_reducible rfl) rfl) rfl (Nat.le_of_ble_eq_true rfl)) rfl ?_
        refine SV.op (OpL.ok (nb := 2) (ok_move (v := V.one (.sc _)) (.inl rfl) rfl) rfl (Nat.le_of_ble_eq_true rfl)) rfl ?_
        refine SV.nil ?_
        refine SV.tn ?_
        refine SV.again (fun i => [2].getD i 0) (t + 1) (⟨by omega, by omega⟩) (pins hE rfl rfl) (VS.le.mk' (le_put (le_put (le_put (le_put (le_put (le_put (le_box (le_new le_nil)) (V.le.keep (ag := false) (xs := [.hd 2]) (ys := [.hd 0]) rfl rfl ⟨⟨rfl, (Nat.le_of_ble_eq_true rfl), (Nat.le_of_ble_eq_true rfl)⟩, trivial⟩)) (V.le.keep (ag := false) (xs := [.bp 0 0]) (ys := [.bp 0 0]) rfl rfl ⟨⟨rfl, (Nat.le_of_ble_eq_true rfl)⟩, trivial⟩)) (V.le.keep (ag := false) (xs := [.sc _]) (ys := [.sc _]) rfl rfl ⟨rfl, trivial⟩)) (V.le.keep (ag := false) (xs := [.ro _]) (ys := [.ro _]) rfl rfl ⟨rfl, trivial⟩)) (V.le.keep (ag := false) (xs := [.sc _]) (ys := [.sc _]) rfl rfl ⟨rfl, trivial⟩)) (V.le.keep (ag := false) (xs := [.sc _]) (ys := [.sc _]) rfl rfl ⟨(by first | rfl | (show Leaf.sc _ = Leaf.sc _; refine congrArg Leaf.sc ?_; first | rfl | go_num | (simp [cntAll]; done)) | (simp [cntAll]; done) | (simp; omega)), trivial⟩)) ⟨⟨rfl, ⟨rfl, rfl, rfl, trivial⟩⟩, trivial⟩ ⟨.inr ⟨_, _, rfl, ?ob2_0, (Nat.le_of_ble_eq_true rfl)⟩, trivial⟩ (new_ob nil_ob) (fun i j hi hj e => inj_list (l := [2]) (by decide) i j hi hj e))
        case ob2_0 =>
          show some (T.seq _ _) = some (T.seq _ _)
          first | (simp only [hn]; done) | (simp only [hn, List.map_append, List.append_assoc]; rfl)
      · skip   -- c1.F
        have hn := PairD.hits_no (r := r) htl (by simpa using hc1)
        refine SV.skip ?_
        refine SV.bn ?_
        refine SV.tn ?_
        refine SV.region ?_
        refine SV.op (OpL.ok (nb := 2) (ok_s2 (x := .tmp 11) (x' := .const ((Value.int IntKind.i64 1))) (VScal.one rfl) (VScal.one rfl) (fun ρ h1 h2 w => by go_simp; (try go_bits); with_reducible rfl) rfl) rfl (Nat.le_of_ble_eq_true rfl)) rfl ?_
        refine SV.op (OpL.ok (nb := 2) (ok_move (v := V.one (.sc _)) (.inl rfl) rfl) rfl (Nat.le_of_ble_eq_true rfl)) rfl ?_
        refine SV.nil ?_
        refine SV.tn ?_
        refine SV.again (fun i => [0].getD i 0) (t + 1) (⟨by omega, by omega⟩) (pins hE rfl rfl) (VS.le.mk' (le_put (le_put (le_put (le_put (le_put (le_put (le_box (le_new le_nil)) (V.le.keep (ag := false) (xs := [.hd 0]) (ys := [.hd 0]) rfl rfl ⟨⟨rfl, (Nat.le_of_ble_eq_true rfl), (Nat.le_of_ble_eq_true rfl)⟩, trivial⟩)) (V.le.keep (ag := false) (xs := [.bp 0 0]) (ys := [.bp 0 0]) rfl rfl ⟨⟨rfl, (Nat.le_of_ble_eq_true rfl)⟩, trivial⟩)) (V.le.keep (ag := false) (xs := [.sc _]) (ys := [.sc _]) rfl rfl ⟨rfl, trivial⟩)) (V.le.keep (ag := false) (xs := [.ro _]) (ys := [.ro _]) rfl rfl ⟨rfl, trivial⟩)) (V.le.keep (ag := false) (xs := [.sc _]) (ys := [.sc _]) rfl rfl ⟨rfl, trivial⟩)) (V.le.keep (ag := false) (xs := [.sc _]) (ys := [.sc _]) rfl rfl ⟨(by first | rfl | (show Leaf.sc _ = Leaf.sc _; refine congrArg Leaf.sc ?_; first | rfl | go_num | (simp [cntAll]; done)) | (simp [cntAll]; done) | (simp; omega)), trivial⟩)) ⟨⟨rfl, ⟨rfl, rfl, rfl, trivial⟩⟩, trivial⟩ ⟨.inr ⟨_, _, rfl, ?ob3_0, (Nat.le_of_ble_eq_true rfl)⟩, trivial⟩ (new_ob nil_ob) (fun i j hi hj e => inj_list (l := [0]) (by decide) i j hi hj e))
        case ob3_0 =>
          show some (T.seq _ _) = some (T.seq _ _)
          first | (simp only [hn]; done) | (simp only [hn, List.map_append, List.append_assoc]; rfl)
    · skip   -- c0.F
      have hte : ¬ t < B.length := by simpa using hc0
      have htk : B.take t = B := List.take_of_length_le (by omega)
      refine SV.exit ?_
      refine SV.te ?_
      refine SV.te ?_
      refine SV.bh ?_
      refine SV.tn ?_
      refine SV.seq' ?_
      refine SV.region ?_
      refine SV.op (OpL.ok (nb := 1) (ok_move (v := V.one (.hd 0)) (.inl rfl) rfl) rfl (Nat.le_of_ble_eq_true rfl)) rfl ?_
      refine SV.op (OpL.ok (nb := 1) (ok_move (v := V.one (.hd 0)) (.inr rfl) rfl) rfl (Nat.le_of_ble_eq_true rfl)) rfl ?_
      refine SV.nil ?_
      refine SV.tn ?_
      refine SV.ret ?_
      apply SV.done (hf := Try.results32) (ht := rfl) (he := .inl rfl)
      case hr => exact (ResAll.cons (ResOk.tmp (ag := false) (xs := [.hd 0]) rfl) ResAll.nil')
      case h2 => simp [two]
      refine ⟨rfl, ⟨?_, trivial⟩, trivial⟩ <;> (show some (T.seq _ _) = some (T.seq _ _); rw [htk])
set_option maxRecDepth 100000 in
set_option maxHeartbeats 2000000 in
theorem vjoin_i (k : Int) (A B : List R) (hAB : A.length + B.length ≤ 1048576) : VC Try.prog 10 [(false, [.lit (.int .i64 (k))]), (false, [.seq 30 (A.map tRow)]), (false, [.seq 30 (B.map tRow)])] false [(false, [.seq 32 ((PairD.join k A B).map tPair)])] := by
  refine VC.enter Try.func10 rfl Try.ntmps10 (Nat.le_of_ble_eq_true rfl) fun E hE => ?_
  refine SV.seq' ?_
  refine SV.region ?_
  refine SV.op (OpL.ok (nb := 0) (ok_move (v := V.one (.sc _)) (.inr rfl) rfl) rfl (Nat.le_of_ble_eq_true rfl)) rfl ?_
  refine SV.nil ?_
  refine SV.tn ?_
  refine SV.seq' ?_
  refine SV.seq' ?_
  refine SV.region ?_
  refine SV.op (OpL.ok (nb := 0) (ok_move (v := V.one (.sc _)) (.inl rfl) rfl) rfl (Nat.le_of_ble_eq_true rfl)) rfl ?_
  refine SV.op (OpMk.ok (ok_call (ls := [(false, [.sc _])]) rfl rfl ⟨_, _, Try.func13, rfl, by decide⟩ (vvalid_i k) ⟨⟨[.sc _], rfl, ⟨rfl, trivial⟩⟩, trivial⟩ rfl (Nat.le_of_ble_eq_true rfl))) rfl ?_
  refine SV.op (OpL.ok (nb := 0) (ok_s1 (x := .tmp 11) (VScal.one rfl) (fun ρ h1 w => by go_simp; (try go_bits); with_reducible rfl) rfl) rfl (Nat.le_of_ble_eq_true rfl)) rfl ?_
  refine SV.nil ?_
  refine SV.tn ?_
  refine SV.cond rfl (fun hc0 => ?_) (fun hc0 => ?_)
  · skip   -- c0.T
    have ho : PairD.join k A B = [] := by simp at hc0; simp [PairD.join, hc0]
    refine SV.seq' ?_
    refine SV.region ?_
    refine SV.op (OpL.ok (nb := 0) (ok_move (v := V.one (.sc _)) (.inr rfl) rfl) rfl (Nat.le_of_ble_eq_true rfl)) rfl ?_
    refine SV.nil ?_
    refine SV.tn ?_
    refine SV.ret ?_
    refine SV.tr ?_
    refine SV.nlsc (s := 6) (kk := 0) (n := 7) rfl rfl (by decide) sz_impl_Pair (Nat.le_of_ble_eq_true rfl) ?_
    apply SV.done (hf := Try.results10) (ht := rfl) (he := .inr rfl)
    case hr => exact (ResAll.cons (ResOk.tmp (ag := false) (xs := [.hd 0]) rfl) ResAll.nil')
    case h2 => simp [two]
    refine ⟨rfl, ⟨?_, trivial⟩, trivial⟩ <;> (show some (T.seq _ _) = some (T.seq _ _); rw [ho]; first | done | rfl)
  · skip   -- c0.F
    have hvk : PairD.valid k = true := by simpa using hc0
    refine SV.skip ?_
    refine SV.tn ?_
    refine SV.seq' ?_
    refine SV.region ?_
    refine SV.op (OpL.ok (nb := 0) (ok_move (v := V.one (.sc _)) (.inr rfl) rfl) rfl (Nat.le_of_ble_eq_true rfl)) rfl ?_
    refine SV.nil ?_
    refine SV.tn ?_
    refine SV.seq' ?_
    refine SV.seq' ?_
    refine SV.region ?_
    refine SV.op (OpL.ok (nb := 0) (ok_move (v := V.one (.ro _)) (.inl rfl) rfl) rfl (Nat.le_of_ble_eq_true rfl)) rfl ?_
    refine SV.op (OpL.ok (nb := 0) (ok_len (lf := .ro _) rfl elt_impl_Row.und rfl rfl) rfl (Nat.le_of_ble_eq_true rfl)) rfl ?_
    refine SV.op (OpL.ok (nb := 0) (ok_move (v := V.one (.sc _)) (.inl rfl) rfl) rfl (Nat.le_of_ble_eq_true rfl)) rfl ?_
    refine SV.nil ?_
    refine SV.tn ?_
    refine SV.block ?_
    refine SV.nlsc (s := 7) (kk := 0) (n := 7) rfl rfl (by decide) sz_impl_Pair (Nat.le_of_ble_eq_true rfl) ?_
    refine SV.loopF (X := Nat) (fun (σ : VS) t => ((((((((VS.nil.new (.seq 32 (((A.take t).flatMap fun r => PairD.one k r B).map tPair))).put 0 (σ.tm 0)).put 2 (σ.tm 2)).put 6 (σ.tm 6)).put 7 (V.flat false [.hd 0])).put 13 (σ.tm 13)).put 14 (σ.tm 14)).put 15 (V.flat false [.sc (.int .i64 ((t : Int)))]))) (fun t => t ≤ A.length) (fun t => A.length - t) ?_ ?_
    · skip
      refine SV.again (fun i => [0].getD i 0) 0 ((by first | exact Nat.zero_le _ | (refine ⟨Nat.zero_le _, ?_⟩; simp; done) | (simp; done) | omega)) (pins hE rfl rfl) (VS.le.mk' (le_put (le_put (le_put (le_put (le_put (le_put (le_put (le_new le_nil) (V.le.keep (ag := false) (xs := [.sc _]) (ys := [.sc _]) rfl rfl ⟨rfl, trivial⟩)) (V.le.keep (ag := false) (xs := [.ro _]) (ys := [.ro _]) rfl rfl ⟨rfl, trivial⟩)) (V.le.keep (ag := false) (xs := [.sc _]) (ys := [.sc _]) rfl rfl ⟨rfl, trivial⟩)) (V.le.keep (ag := false) (xs := [.hd 0]) (ys := [.hd 0]) rfl rfl ⟨⟨rfl, (Nat.le_of_ble_eq_true rfl), (Nat.le_of_ble_eq_true rfl)⟩, trivial⟩)) (V.le.keep (ag := false) (xs := [.ro _]) (ys := [.ro _]) rfl rfl ⟨rfl, trivial⟩)) (V.le.keep (ag := false) (xs := [.sc _]) (ys := [.sc _]) rfl rfl ⟨rfl, trivial⟩)) (V.le.keep (ag := false) (xs := [.sc _]) (ys := [.sc _]) rfl rfl ⟨(by first | rfl | (show Leaf.sc _ = Leaf.sc _; refine congrArg Leaf.sc ?_; first | rfl | go_num | (simp [cntAll]; done)) | (simp [cntAll]; done) | (simp; omega)), trivial⟩)) trivial ⟨.inr ⟨_, _, rfl, ?ob1_0, (Nat.le_of_ble_eq_true rfl)⟩, trivial⟩ (new_ob nil_ob) (fun i j hi hj e => inj_list (l := [0]) (by decide) i j hi hj e))
      case ob1_0 =>
        show some (T.seq _ _) = some (T.seq _ _)
        first | rfl | exact congrArg some (congrArg (T.seq _) (by simp))
    · rintro t ht
      refine SV.seq' ?_
      refine SV.region ?_
      refine SV.op (OpL.ok (nb := 0) (ok_s2 (x := .tmp 15) (x' := .tmp 14) (VScal.one rfl) (VScal.one rfl) (fun ρ h1 h2 w => by go_simp; (try go_bits); with_reducible rfl) rfl) rfl (Nat.le_of_ble_eq_true rfl)) rfl ?_
      refine SV.nil ?_
      refine SV.tn ?_
      refine SV.seq' ?_
      refine SV.cond rfl (fun hc1 => ?_) (fun hc1 => ?_)
      · skip   -- c1.T
        have htl : t < A.length := by simpa using hc1
        have hx : A[t]? = some A[t] := by simp [htl]
        have hj := PairD.join_take_len k A B hAB t ht
        have ho1 := PairD.one_len k A[t] B
        have ho2 := PairD.hit_le A[t] B
        refine SV.skip ?_
        refine SV.tn ?_
        refine SV.seq' ?_
        refine SV.block ?_
        refine SV.seq' ?_
        refine SV.region ?_
        refine SV.op (OpL.ok (nb := 0) (ok_index (n := 3) (lf := .ro _) rfl elt_impl_Row.und sz_impl_Row rfl rfl rfl (map_at (by assumption))) rfl (Nat.le_of_ble_eq_true rfl)) rfl ?_
        refine SV.op (OpL.ok (nb := 0) (ok_load_rp (ag := true) (m := 3) (ys := [.sc _, .sc _, .sc _]) rfl rfl agg_impl_Row sz_impl_Row (fun h => by cases h) (Nat.le_of_ble_eq_true rfl) rfl) rfl (Nat.le_of_ble_eq_true rfl)) rfl ?_
        refine SV.op (OpMk.ok (ok_alloc (kk := 0) (xs := [.sc _, .sc _, .sc _]) rfl rfl zero_impl_Row ⟨rfl, rfl, rfl, rfl, rfl, rfl, trivial⟩ rfl (Nat.le_of_ble_eq_true rfl))) rfl ?_
        refine SV.op (ok_store_bp (b := 0) (i := 0) (m := 3) (ag := true) (zs := [.sc _, .sc _, .sc _]) (ys := [.sc _, .sc _, .sc _]) rfl rfl rfl rfl sz_impl_Row (fun h => by cases h) rfl (Nat.le_of_ble_eq_true rfl) rfl rfl rfl) rfl ?_
        refine SV.nil ?_
        refine SV.tn ?_
        refine SV.seq' ?_
        refine SV.seq' ?_
        refine SV.region ?_
        refine SV.op (OpL.ok (nb := 1) (ok_move (v := V.one (.sc _)) (.inl rfl) rfl) rfl (Nat.le_of_ble_eq_true rfl)) rfl ?_
        refine SV.op (OpMk.ok (ok_call (ls := [(false, [.sc _])]) rfl rfl ⟨_, _, Try.func31, rfl, by decide⟩ (vpays_i k) ⟨⟨[.sc _], rfl, ⟨rfl, trivial⟩⟩, trivial⟩ rfl (Nat.le_of_ble_eq_true rfl))) rfl ?_
        refine SV.nil ?_
        refine SV.tn ?_
        refine SV.cond rfl (fun hc2 => ?_) (fun hc2 => ?_)
        · skip   -- c2.T
          refine SV.region ?_
          refine SV.op (OpL.ok (nb := 1) (ok_move (v := V.one (.hd 0)) (.inl rfl) rfl) rfl (Nat.le_of_ble_eq_true rfl)) rfl ?_
          refine SV.op (OpL.ok (nb := 1) (ok_load_bp (b := 0) (i := 0) (ag := true) (m := 3) (ys := [.sc _, .sc _, .sc _]) rfl rfl rfl agg_impl_Row sz_impl_Row (fun h => by cases h) rfl rfl (Nat.le_of_ble_eq_true rfl)) rfl (Nat.le_of_ble_eq_true rfl)) rfl ?_
          refine SV.op (OpL.ok (nb := 1) (ok_move (v := V.one (.ro _)) (.inl rfl) rfl) rfl (Nat.le_of_ble_eq_true rfl)) rfl ?_
          refine SV.op (ok_callX (i := 0) (kk := 1) rfl rfl ⟨_, _, Try.func32, rfl, by decide⟩ (vmatch_i _ A[t] B (by omega) (by omega)) ⟨⟨[.hd 0], rfl, ⟨⟨rfl, rfl⟩, trivial⟩⟩, ⟨[.sc _, .sc _, .sc _], rfl, ⟨.inl ⟨_, rfl, rfl⟩, .inl ⟨_, rfl, rfl⟩, .inl ⟨_, rfl, rfl⟩, trivial⟩⟩, ⟨[.ro _], rfl, ⟨.inr rfl, trivial⟩⟩, trivial⟩ rfl rfl (Nat.le_of_ble_eq_true rfl)) rfl ?_
          refine SV.op (OpL.ok (nb := 1) (ok_move (v := V.one (.hd 1)) (.inr rfl) rfl) rfl (Nat.le_of_ble_eq_true rfl)) rfl ?_
          refine SV.nil ?_
          refine SV.tn ?_
          refine SV.seq' ?_
          refine SV.region ?_
          refine SV.op (OpL.ok (nb := 1) (ok_move (v := V.one (.sc _)) (.inl rfl) rfl) rfl (Nat.le_of_ble_eq_true rfl)) rfl ?_
          refine SV.op (OpL.ok (nb := 1) (ok_load_bp (b := 0) (i := 0) (ag := true) (m := 3) (ys := [.sc _, .sc _, .sc _]) rfl rfl rfl agg_impl_Row sz_impl_Row (fun h => by cases h) rfl rfl (Nat.le_of_ble_eq_true rfl)) rfl (Nat.le_of_ble_eq_true rfl)) rfl ?_
          refine SV.op (OpL.ok (nb := 1) (ok_move (v := V.one (.ro _)) (.inl rfl) rfl) rfl (Nat.le_of_ble_eq_true rfl)) rfl ?_
          refine SV.op (OpMk.ok (ok_call (ls := [(false, [.sc _])]) rfl rfl ⟨_, _, Try.func34, rfl, by decide⟩ (vcountm_i A[t] B (by omega)) ⟨⟨[.sc _, .sc _, .sc _], rfl, ⟨rfl, rfl, rfl, trivial⟩⟩, ⟨[.ro _], rfl, ⟨rfl, trivial⟩⟩, trivial⟩ rfl (Nat.le_of_ble_eq_true rfl))) rfl ?_
          refine SV.op (OpL.ok (nb := 1) (ok_s2 (x := .tmp 28) (x' := .const ((Value.int IntKind.i64 0))) (VScal.one rfl) (VScal.one rfl) (fun ρ h1 h2 w => by go_simp; (try go_bits); with_reducible rfl) rfl) rfl (Nat.le_of_ble_eq_true rfl)) rfl ?_
          refine SV.op (OpMk.ok (ok_call (ls := [(false, [.sc _])]) rfl rfl ⟨_, _, Try.func33, rfl, by decide⟩ (valone_i k _) ⟨⟨[.sc _], rfl, ⟨rfl, trivial⟩⟩, ⟨[.sc _], rfl, ⟨rfl, trivial⟩⟩, trivial⟩ rfl (Nat.le_of_ble_eq_true rfl))) rfl ?_
          refine SV.nil ?_
          refine SV.tn ?_
          refine SV.cond rfl (fun hc3 => ?_) (fun hc3 => ?_)
          · skip   -- c3.T
            have hn : PairD.one k A[t] B = (PairD.hits A[t] B).map (PairD.both A[t]) ++ [PairD.alone A[t]] := by have h := PairD.one_by hvk true true (by simpa using hc2) (by simpa using hc3); first | exact h | simpa using h
            refine SV.region ?_
            refine SV.op (OpL.ok (nb := 1) (ok_move (v := V.one (.hd 1)) (.inl rfl) rfl) rfl (Nat.le_of_ble_eq_true rfl)) rfl ?_
            refine SV.op (OpL.ok (nb := 1) (ok_load_bp (b := 0) (i := 0) (ag := true) (m := 3) (ys := [.sc _, .sc _, .sc _]) rfl rfl rfl agg_impl_Row sz_impl_Row (fun h => by cases h) rfl rfl (Nat.le_of_ble_eq_true rfl)) rfl (Nat.le_of_ble_eq_true rfl)) rfl ?_
            refine SV.op (OpL.ok (nb := 1) (ok_build (zs := [.sc _, .sc _, .sc _, .sc _, .sc _, .sc _, .sc _]) (ys := [.sc _, .sc _, .sc _, .sc _, .sc _, .sc _, .sc _]) (qs := [(0, [.sc _, .sc _, .sc _])]) (pl := fun i => ([(0, 3), (3, 3), (6, 1)] : List (Nat × Nat))[i]?) rfl zero_impl_Pair ⟨rfl, rfl, rfl, rfl, rfl, rfl, rfl, rfl, rfl, rfl, rfl, rfl, rfl, rfl, trivial⟩ ⟨⟨rfl, true, rfl, (fun h => by cases h), rfl⟩, trivial⟩ bld_impl_Pair rfl) rfl (Nat.le_of_ble_eq_true rfl)) rfl ?_
            refine SV.op (OpMk.ok (ok_lit1 (kk := 2) elt_impl_Pair (ag := true) (xs := [.sc _, .sc _, .sc _, .sc _, .sc _, .sc _, .sc _]) rfl rfl rfl rfl (fun h => by cases h) (outs_c rfl (outs_c rfl (outs_c rfl (outs_c rfl (outs_c rfl (outs_c rfl (outs_c rfl outs_n))))))) (by simp [two]) rfl (Nat.le_of_ble_eq_true rfl))) rfl ?_
            refine SV.op (OpMk.ok (ok_append (kk := 3) elt_impl_Pair (ls := .hd 1) (lx := .hd 2) rfl rfl rfl rfl rfl rfl (by intro i h1 h2; cases h1; cases h2) (by simp only [List.length_map, List.length_append, List.length_cons, List.length_nil]; have : (PairD.hits A[t] B).length ≤ B.length := ho2; omega) rfl (Nat.le_of_ble_eq_true rfl))) rfl ?_
            refine SV.op (OpL.ok (nb := 1) (ok_move (v := V.one (.hd 3)) (.inr rfl) rfl) rfl (Nat.le_of_ble_eq_true rfl)) rfl ?_
            refine SV.nil ?_
            refine SV.bn ?_
            refine SV.tn ?_
            refine SV.region ?_
            refine SV.op (OpL.ok (nb := 1) (ok_s2 (x := .tmp 15) (x' := .const ((Value.int IntKind.i64 1))) (VScal.one rfl) (VScal.one rfl) (fun ρ h1 h2 w => by go_simp; (try go_bits); with_reducible rfl) rfl) rfl (Nat.le_of_ble_eq_true rfl)) rfl ?_
            refine SV.op (OpL.ok (nb := 1) (ok_move (v := V.one (.sc _)) (.inl rfl) rfl) rfl (Nat.le_of_ble_eq_true rfl)) rfl ?_
            refine SV.nil ?_
            refine SV.tn ?_
            refine SV.again (fun i => [3].getD i 0) (t + 1) (⟨by omega, by omega⟩) (pins hE rfl rfl) (VS.le.mk' (le_put (le_put (le_put (le_put (le_put (le_put (le_put (le_new le_nil) (V.le.keep (ag := false) (xs := [.sc _]) (ys := [.sc _]) rfl rfl ⟨rfl, trivial⟩)) (V.le.keep (ag := false) (xs := [.ro _]) (ys := [.ro _]) rfl rfl ⟨rfl, trivial⟩)) (V.le.keep (ag := false) (xs := [.sc _]) (ys := [.sc _]) rfl rfl ⟨rfl, trivial⟩)) (V.le.keep (ag := false) (xs := [.hd 3]) (ys := [.hd 0]) rfl rfl ⟨⟨rfl, (Nat.le_of_ble_eq_true rfl), (Nat.le_of_ble_eq_true rfl)⟩, trivial⟩)) (V.le.keep (ag := false) (xs := [.ro _]) (ys := [.ro _]) rfl rfl ⟨rfl, trivial⟩)) (V.le.keep (ag := false) (xs := [.sc _]) (ys := [.sc _]) rfl rfl ⟨rfl, trivial⟩)) (V.le.keep (ag := false) (xs := [.sc _]) (ys := [.sc _]) rfl rfl ⟨(by first | rfl | (show Leaf.sc _ = Leaf.sc _; refine congrArg Leaf.sc ?_; first | rfl | go_num | (simp [cntAll]; done)) | (simp [cntAll]; done) | (simp; omega)), trivial⟩)) trivial ⟨.inr ⟨_, _, rfl, ?ob2_0, (Nat.le_of_ble_eq_true rfl)⟩, trivial⟩ (new_ob nil_ob) (fun i j hi hj e => inj_list (l := [3]) (by decide) i j hi hj e))
            case ob2_0 =>
              show some (T.seq _ _) = some (T.seq _ _)
              first | (rw [PairD.flat_next _ A t htl, hn]; done) | (rw [PairD.flat_next _ A t htl, hn]; simp; done) | (rw [PairD.flat_next _ A t htl, hn]; simp; rfl)
          · skip   -- c3.F
            have hn : PairD.one k A[t] B = (PairD.hits A[t] B).map (PairD.both A[t]) := by have h := PairD.one_by hvk true false (by simpa using hc2) (by simpa using hc3); first | exact h | simpa using h
            refine SV.skip ?_
            refine SV.bn ?_
            refine SV.tn ?_
            refine SV.region ?_
            refine SV.op (OpL.ok (nb := 1) (ok_s2 (x := .tmp 15) (x' := .const ((Value.int IntKind.i64 1))) (VScal.one rfl) (VScal.one rfl) (fun ρ h1 h2 w => by go_simp; (try go_bits); with_reducible rfl) rfl) rfl (Nat.le_of_ble_eq_true rfl)) rfl ?_
            refine SV.op (OpL.ok (nb := 1) (ok_move (v := V.one (.sc _)) (.inl rfl) rfl) rfl (Nat.le_of_ble_eq_true rfl)) rfl ?_
            refine SV.nil ?_
            refine SV.tn ?_
            refine SV.again (fun i => [1].getD i 0) (t + 1) (⟨by omega, by omega⟩) (pins hE rfl rfl) (VS.le.mk' (le_put (le_put (le_put (le_put (le_put (le_put (le_put (le_new le_nil) (V.le.keep (ag := false) (xs := [.sc _]) (ys := [.sc _]) rfl rfl ⟨rfl, trivial⟩)) (V.le.keep (ag := false) (xs := [.ro _]) (ys := [.ro _]) rfl rfl ⟨rfl, trivial⟩)) (V.le.keep (ag := false) (xs := [.sc _]) (ys := [.sc _]) rfl rfl ⟨rfl, trivial⟩)) (V.le.keep (ag := false) (xs := [.hd 1]) (ys := [.hd 0]) rfl rfl ⟨⟨rfl, (Nat.le_of_ble_eq_true rfl), (Nat.le_of_ble_eq_true rfl)⟩, trivial⟩)) (V.le.keep (ag := false) (xs := [.ro _]) (ys := [.ro _]) rfl rfl ⟨rfl, trivial⟩)) (V.le.keep (ag := false) (xs := [.sc _]) (ys := [.sc _]) rfl rfl ⟨rfl, trivial⟩)) (V.le.keep (ag := false) (xs := [.sc _]) (ys := [.sc _]) rfl rfl ⟨(by first | rfl | (show Leaf.sc _ = Leaf.sc _; refine congrArg Leaf.sc ?_; first | rfl | go_num | (simp [cntAll]; done)) | (simp [cntAll]; done) | (simp; omega)), trivial⟩)) trivial ⟨.inr ⟨_, _, rfl, ?ob3_0, (Nat.le_of_ble_eq_true rfl)⟩, trivial⟩ (new_ob nil_ob) (fun i j hi hj e => inj_list (l := [1]) (by decide) i j hi hj e))
            case ob3_0 =>
              show some (T.seq _ _) = some (T.seq _ _)
              first | (rw [PairD.flat_next _ A t htl, hn]; done) | (rw [PairD.flat_next _ A t htl, hn]; simp; done) | (rw [PairD.flat_next _ A t htl, hn]; simp; rfl)
        · skip   -- c2.F
          refine SV.skip ?_
          refine SV.tn ?_
          refine SV.seq' ?_
          refine SV.region ?_
          refine SV.op (OpL.ok (nb := 1) (ok_move (v := V.one (.sc _)) (.inl rfl) rfl) rfl (Nat.le_of_ble_eq_true rfl)) rfl ?_
          refine SV.op (OpL.ok (nb := 1) (ok_load_bp (b := 0) (i := 0) (ag := true) (m := 3) (ys := [.sc _, .sc _, .sc _]) rfl rfl rfl agg_impl_Row sz_impl_Row (fun h => by cases h) rfl rfl (Nat.le_of_ble_eq_true rfl)) rfl (Nat.le_of_ble_eq_true rfl)) rfl ?_
          refine SV.op (OpL.ok (nb := 1) (ok_move (v := V.one (.ro _)) (.inl rfl) rfl) rfl (Nat.le_of_ble_eq_true rfl)) rfl ?_
          refine SV.op (OpMk.ok (ok_call (ls := [(false, [.sc _])]) rfl rfl ⟨_, _, Try.func34, rfl, by decide⟩ (vcountm_i A[t] B (by omega)) ⟨⟨[.sc _, .sc _, .sc _], rfl, ⟨rfl, rfl, rfl, trivial⟩⟩, ⟨[.ro _], rfl, ⟨rfl, trivial⟩⟩, trivial⟩ rfl (Nat.le_of_ble_eq_true rfl))) rfl ?_
          refine SV.op (OpL.ok (nb := 1) (ok_s2 (x := .tmp 28) (x' := .const ((Value.int IntKind.i64 0))) (VScal.one rfl) (VScal.one rfl) (fun ρ h1 h2 w => by go_simp; (try go_bits); with_reducible rfl) rfl) rfl (Nat.le_of_ble_eq_true rfl)) rfl ?_
          refine SV.op (OpMk.ok (ok_call (ls := [(false, [.sc _])]) rfl rfl ⟨_, _, Try.func33, rfl, by decide⟩ (valone_i k _) ⟨⟨[.sc _], rfl, ⟨rfl, trivial⟩⟩, ⟨[.sc _], rfl, ⟨rfl, trivial⟩⟩, trivial⟩ rfl (Nat.le_of_ble_eq_true rfl))) rfl ?_
          refine SV.nil ?_
          refine SV.tn ?_
          refine SV.cond rfl (fun hc4 => ?_) (fun hc4 => ?_)
          · skip   -- c4.T
            have hn : PairD.one k A[t] B = [PairD.alone A[t]] := by have h := PairD.one_by hvk false true (by simpa using hc2) (by simpa using hc4); first | exact h | simpa using h
            refine SV.region ?_
            refine SV.op (OpL.ok (nb := 1) (ok_move (v := V.one (.hd 0)) (.inl rfl) rfl) rfl (Nat.le_of_ble_eq_true rfl)) rfl ?_
            refine SV.op (OpL.ok (nb := 1) (ok_load_bp (b := 0) (i := 0) (ag := true) (m := 3) (ys := [.sc _, .sc _, .sc _]) rfl rfl rfl agg_impl_Row sz_impl_Row (fun h => by cases h) rfl rfl (Nat.le_of_ble_eq_true rfl)) rfl (Nat.le_of_ble_eq_true rfl)) rfl ?_
            refine SV.op (OpL.ok (nb := 1) (ok_build (zs := [.sc _, .sc _, .sc _, .sc _, .sc _, .sc _, .sc _]) (ys := [.sc _, .sc _, .sc _, .sc _, .sc _, .sc _, .sc _]) (qs := [(0, [.sc _, .sc _, .sc _])]) (pl := fun i => ([(0, 3), (3, 3), (6, 1)] : List (Nat × Nat))[i]?) rfl zero_impl_Pair ⟨rfl, rfl, rfl, rfl, rfl, rfl, rfl, rfl, rfl, rfl, rfl, rfl, rfl, rfl, trivial⟩ ⟨⟨rfl, true, rfl, (fun h => by cases h), rfl⟩, trivial⟩ bld_impl_Pair rfl) rfl (Nat.le_of_ble_eq_true rfl)) rfl ?_
            refine SV.op (OpMk.ok (ok_lit1 (kk := 1) elt_impl_Pair (ag := true) (xs := [.sc _, .sc _, .sc _, .sc _, .sc _, .sc _, .sc _]) rfl rfl rfl rfl (fun h => by cases h) (outs_c rfl (outs_c rfl (outs_c rfl (outs_c rfl (outs_c rfl (outs_c rfl (outs_c rfl outs_n))))))) (by simp [two]) rfl (Nat.le_of_ble_eq_true rfl))) rfl ?_
            refine SV.op (OpMk.ok (ok_append (kk := 2) elt_impl_Pair (ls := .hd 0) (lx := .hd 1) rfl rfl rfl rfl rfl rfl (by intro i h1 h2; cases h1; cases h2) (by simp only [List.length_map, List.length_append, List.length_cons, List.length_nil]; have : (PairD.hits A[t] B).length ≤ B.length := ho2; omega) rfl (Nat.le_of_ble_eq_true rfl))) rfl ?_
            refine SV.op (OpL.ok (nb := 1) (ok_move (v := V.one (.hd 2)) (.inr rfl) rfl) rfl (Nat.le_of_ble_eq_true rfl)) rfl ?_
            refine SV.nil ?_
            refine SV.bn ?_
            refine SV.tn ?_
            refine SV.region ?_
            refine SV.op (OpL.ok (nb := 1) (ok_s2 (x := .tmp 15) (x' := .const ((Value.int IntKind.i64 1))) (VScal.one rfl) (VScal.one rfl) (fun ρ h1 h2 w => by go_simp; (try go_bits); with_reducible rfl) rfl) rfl (Nat.le_of_ble_eq_true rfl)) rfl ?_
            refine SV.op (OpL.ok (nb := 1) (ok_move (v := V.one (.sc _)) (.inl rfl) rfl) rfl (Nat.le_of_ble_eq_true rfl)) rfl ?_
            refine SV.nil ?_
            refine SV.tn ?_
            refine SV.again (fun i => [2].getD i 0) (t + 1) (⟨by omega, by omega⟩) (pins hE rfl rfl) (VS.le.mk' (le_put (le_put (le_put (le_put (le_put (le_put (le_put (le_new le_nil) (V.le.keep (ag := false) (xs := [.sc _]) (ys := [.sc _]) rfl rfl ⟨rfl, trivial⟩)) (V.le.keep (ag := false) (xs := [.ro _]) (ys := [.ro _]) rfl rfl ⟨rfl, trivial⟩)) (V.le.keep (ag := false) (xs := [.sc _]) (ys := [.sc _]) rfl rfl ⟨rfl, trivial⟩)) (V.le.keep (ag := false) (xs := [.hd 2]) (ys := [.hd 0]) rfl rfl ⟨⟨rfl, (Nat.le_of_ble_eq_true rfl), (Nat.le_of_ble_eq_true rfl)⟩, trivial⟩)) (V.le.keep (ag := false) (xs := [.ro _]) (ys := [.ro _]) rfl rfl ⟨rfl, trivial⟩)) (V.le.keep (ag := false) (xs := [.sc _]) (ys := [.sc _]) rfl rfl ⟨rfl, trivial⟩)) (V.le.keep (ag := false) (xs := [.sc _]) (ys := [.sc _]) rfl rfl ⟨(by first | rfl | (show Leaf.sc _ = Leaf.sc _; refine congrArg Leaf.sc ?_; first | rfl | go_num | (simp [cntAll]; done)) | (simp [cntAll]; done) | (simp; omega)), trivial⟩)) trivial ⟨.inr ⟨_, _, rfl, ?ob4_0, (Nat.le_of_ble_eq_true rfl)⟩, trivial⟩ (new_ob nil_ob) (fun i j hi hj e => inj_list (l := [2]) (by decide) i j hi hj e))
            case ob4_0 =>
              show some (T.seq _ _) = some (T.seq _ _)
              first | (rw [PairD.flat_next _ A t htl, hn]; done) | (rw [PairD.flat_next _ A t htl, hn]; simp; done) | (rw [PairD.flat_next _ A t htl, hn]; simp; rfl)
          · skip   -- c4.F
            have hn : PairD.one k A[t] B = [] := by have h := PairD.one_by hvk false false (by simpa using hc2) (by simpa using hc4); first | exact h | simpa using h
            refine SV.skip ?_
            refine SV.bn ?_
            refine SV.tn ?_
            refine SV.region ?_
            refine SV.op (OpL.ok (nb := 1) (ok_s2 (x := .tmp 15) (x' := .const ((Value.int IntKind.i64 1))) (VScal.one rfl) (VScal.one rfl) (fun ρ h1 h2 w => by go_simp; (try go_bits); with_reducible rfl) rfl) rfl (Nat.le_of_ble_eq_true rfl)) rfl ?_
            refine SV.op (OpL.ok (nb := 1) (ok_move (v := V.one (.sc _)) (.inl rfl) rfl) rfl (Nat.le_of_ble_eq_true rfl)) rfl ?_
            refine SV.nil ?_
            refine SV.tn ?_
            refine SV.again (fun i => [0].getD i 0) (t + 1) (⟨by omega, by omega⟩) (pins hE rfl rfl) (VS.le.mk' (le_put (le_put (le_put (le_put (le_put (le_put (le_put (le_new le_nil) (V.le.keep (ag := false) (xs := [.sc _]) (ys := [.sc _]) rfl rfl ⟨rfl, trivial⟩)) (V.le.keep (ag := false) (xs := [.ro _]) (ys := [.ro _]) rfl rfl ⟨rfl, trivial⟩)) (V.le.keep (ag := false) (xs := [.sc _]) (ys := [.sc _]) rfl rfl ⟨rfl, trivial⟩)) (V.le.keep (ag := false) (xs := [.hd 0]) (ys := [.hd 0]) rfl rfl ⟨⟨rfl, (Nat.le_of_ble_eq_true rfl), (Nat.le_of_ble_eq_true rfl)⟩, trivial⟩)) (V.le.keep (ag := false) (xs := [.ro _]) (ys := [.ro _]) rfl rfl ⟨rfl, trivial⟩)) (V.le.keep (ag := false) (xs := [.sc _]) (ys := [.sc _]) rfl rfl ⟨rfl, trivial⟩)) (V.le.keep (ag := false) (xs := [.sc _]) (ys := [.sc _]) rfl rfl ⟨(by first | rfl | (show Leaf.sc _ = Leaf.sc _; refine congrArg Leaf.sc ?_; first | rfl | go_num | (simp [cntAll]; done)) | (simp [cntAll]; done) | (simp; omega)), trivial⟩)) trivial ⟨.inr ⟨_, _, rfl, ?ob5_0, (Nat.le_of_ble_eq_true rfl)⟩, trivial⟩ (new_ob nil_ob) (fun i j hi hj e => inj_list (l := [0]) (by decide) i j hi hj e))
            case ob5_0 =>
              show some (T.seq _ _) = some (T.seq _ _)
              first | (rw [PairD.flat_next _ A t htl, hn]; done) | (rw [PairD.flat_next _ A t htl, hn]; simp; done) | (rw [PairD.flat_next _ A t htl, hn]; simp; rfl)
      · skip   -- c1.F
        have ho : PairD.join k A B = (A.take t).flatMap fun r => PairD.one k r B := by
          have hte : ¬ t < A.length := by simpa using hc1
          rw [List.take_of_length_le (by omega)]; unfold PairD.join; rw [if_pos hvk]
        refine SV.exit ?_
        refine SV.te ?_
        refine SV.te ?_
        refine SV.bh ?_
        refine SV.tn ?_
        refine SV.seq' ?_
        refine SV.region ?_
        refine SV.op (OpL.ok (nb := 0) (ok_move (v := V.one (.hd 0)) (.inl rfl) rfl) rfl (Nat.le_of_ble_eq_true rfl)) rfl ?_
        refine SV.op (OpL.ok (nb := 0) (ok_move (v := V.one (.hd 0)) (.inr rfl) rfl) rfl (Nat.le_of_ble_eq_true rfl)) rfl ?_
        refine SV.nil ?_
        refine SV.tn ?_
        refine SV.ret ?_
        apply SV.done (hf := Try.results10) (ht := rfl) (he := .inl rfl)
        case hr => exact (ResAll.cons (ResOk.tmp (ag := false) (xs := [.hd 0]) rfl) ResAll.nil')
        case h2 => simp [two]
        refine ⟨rfl, ⟨?_, trivial⟩, trivial⟩ <;> (show some (T.seq _ _) = some (T.seq _ _); rw [ho]; first | done | rfl)
end Go.Proofs.Ytlnjgoommpeioaa
