/- The matches of a row: told by trees. -/
import Derived.Test.YtlnjgoommpeioabPairM
import Derived.Test.YtlnjgoommpeioabVTr
import Derived.Test.YtlnjgoommpeioabVJ
namespace Go.Proofs.Ytlnjgoommpeioab
open Go Go.RowKit V
set_option linter.unusedVariables false
set_option maxRecDepth 100000 in
set_option maxHeartbeats 2000000 in
theorem vcountm_s (r : R) (B : List R) (hL : B.length ≤ 300000000000) : VC Try.prog 5 [(true, tRow r), (false, [.seq 27 (B.map tRow)])] false [(false, [.lit (.int .i64 ((PairD.hit r B : Nat)))])] := by
  refine VC.enter Try.func5 rfl Try.ntmps5 (Nat.le_of_ble_eq_true rfl) fun E hE => ?_
  refine SV.seq' ?_
  refine SV.region ?_
  refine SV.op (OpMk.ok (ok_box (kk := 0) (ag := true) (xs := [.sc _, .sc _, .sc _]) rfl rfl rfl (fun h => by cases h) rfl rfl (Nat.le_of_ble_eq_true rfl))) rfl ?_
  refine SV.op (OpL.ok (nb := 1) (ok_move (v := V.one (.sc _)) (.inr rfl) rfl) rfl (Nat.le_of_ble_eq_true rfl)) rfl ?_
  refine SV.nil ?_
  refine SV.tn ?_
  refine SV.seq' ?_
  refine SV.region ?_
  refine SV.op (OpL.ok (nb := 1) (ok_move (v := V.one (.sc _)) (.inr rfl) rfl) rfl (Nat.le_of_ble_eq_true rfl)) rfl ?_
  refine SV.nil ?_
  refine SV.tn ?_
  refine SV.seq' ?_
  refine SV.seq' ?_
  refine SV.region ?_
  refine SV.op (OpL.ok (nb := 1) (ok_move (v := V.one (.sc _)) (.inr rfl) rfl) rfl (Nat.le_of_ble_eq_true rfl)) rfl ?_
  refine SV.nil ?_
  refine SV.tn ?_
  refine SV.block ?_
  refine SV.loopF (X := Nat) (fun (σ : VS) t => ((((((VS.nil.box 27 [σ.bl 0 0, σ.bl 0 1, σ.bl 0 2]).put 1 (σ.tm 1)).put 2 (V.flat false [.bp 0 0])).put 4 (σ.tm 4)).put 5 (V.flat false [.sc (.int .i64 (((PairD.hit r (B.take t) : Nat) : Int)))])).put 6 (V.flat false [.sc (.int .i64 ((t : Int)))]))) (fun t => t ≤ B.length) (fun t => B.length - t) ?_ ?_
  · skip
    refine SV.again (fun i => [].getD i 0) 0 ((by first | exact Nat.zero_le _ | (refine ⟨Nat.zero_le _, ?_⟩; simp; done) | (simp; done) | omega)) (pins hE rfl rfl) (VS.le.mk' (le_put (le_put (le_put (le_put (le_put (le_box le_nil) (V.le.keep (ag := false) (xs := [.ro _]) (ys := [.ro _]) rfl rfl ⟨rfl, trivial⟩)) (V.le.keep (ag := false) (xs := [.bp 0 0]) (ys := [.bp 0 0]) rfl rfl ⟨⟨rfl, (Nat.le_of_ble_eq_true rfl)⟩, trivial⟩)) (V.le.keep (ag := false) (xs := [.sc _]) (ys := [.sc _]) rfl rfl ⟨rfl, trivial⟩)) (V.le.keep (ag := false) (xs := [.sc _]) (ys := [.sc _]) rfl rfl ⟨(by first | rfl | (show Leaf.sc _ = Leaf.sc _; refine congrArg Leaf.sc ?_; first | rfl | go_num | (rw [hn]; first | done | rfl | go_num | (simp; done) | (simp; omega)) | (simp [cntAll]; done)) | (simp [cntAll]; done) | (simp; omega)), trivial⟩)) (V.le.keep (ag := false) (xs := [.sc _]) (ys := [.sc _]) rfl rfl ⟨(by first | rfl | (show Leaf.sc _ = Leaf.sc _; refine congrArg Leaf.sc ?_; first | rfl | go_num | (rw [hn]; first | done | rfl | go_num | (simp; done) | (simp; omega)) | (simp [cntAll]; done)) | (simp [cntAll]; done) | (simp; omega)), trivial⟩)) ⟨⟨rfl, ⟨rfl, rfl, rfl, trivial⟩⟩, trivial⟩ trivial nil_ob (fun i j hi hj e => absurd hi (Nat.not_lt_zero i)))
  · rintro t ht
    refine SV.seq' ?_
    refine SV.seq' ?_
    refine SV.region ?_
    refine SV.op (OpL.ok (nb := 1) (ok_move (v := V.one (.sc _)) (.inl rfl) rfl) rfl (Nat.le_of_ble_eq_true rfl)) rfl ?_
    refine SV.op (OpL.ok (nb := 1) (ok_move (v := V.one (.ro _)) (.inl rfl) rfl) rfl (Nat.le_of_ble_eq_true rfl)) rfl ?_
    refine SV.op (OpL.ok (nb := 1) (ok_len (lf := .ro _) rfl elt_impl_Row.und rfl rfl) rfl (Nat.le_of_ble_eq_true rfl)) rfl ?_
    refine SV.op (OpL.ok (nb := 1) (ok_s2 (x := .tmp 7) (x' := .tmp 9) (VScal.one rfl) (VScal.one rfl) (fun ρ h1 h2 w => by go_simp; (try go_bits); with_reducible rfl) rfl) rfl (Nat.le_of_ble_eq_true rfl)) rfl ?_
    refine SV.nil ?_
    refine SV.tn ?_
    refine SV.cond rfl (fun hc0 => ?_) (fun hc0 => ?_)
    · skip   -- c0.T
      have htl : t < B.length := by simpa using hc0
      have hx : B[t]? = some B[t] := by simp [htl]
      have hle := PairD.hit_le r (B.take t)
      have hlt : (B.take t).length ≤ t := by simp; omega
      refine SV.skip ?_
      refine SV.tn ?_
      refine SV.seq' ?_
      refine SV.block ?_
      refine SV.seq' ?_
      refine SV.draw [.q 0, .q 1, .q 2, .q 3, .q 4, .q 5, .q 6, .q 7] [] (by kernel_rfl) (by kernel_rfl) ?_
      refine DW.q rfl (ok_move (v := V.one (.ro _)) (.inl rfl) rfl) rfl rfl (Nat.le_of_ble_eq_true rfl) (fun _ _ _ _ h => h) ?_
      refine DW.q rfl (ok_move (v := V.one (.sc _)) (.inl rfl) rfl) rfl rfl (Nat.le_of_ble_eq_true rfl) (fun _ _ _ _ h => h) ?_
      refine DW.q rfl (ok_index (n := 3) (lf := .ro _) rfl elt_impl_Row.und sz_impl_Row rfl rfl rfl (map_at (by assumption))) rfl rfl (Nat.le_of_ble_eq_true rfl) (fun _ _ _ _ h => h) ?_
      refine DW.q rfl (ok_field_el (p := .rp _) (off := 0) rfl rfl rfl fld_impl_Row_0) rfl rfl (Nat.le_of_ble_eq_true rfl) (fun _ _ _ _ h => h) ?_
      refine DW.q rfl (ok_load_rp (ag := false) (m := 1) (ys := [.sc _]) rfl rfl agg_int sz_int (fun _ => rfl) (Nat.le_of_ble_eq_true rfl) rfl) rfl rfl (Nat.le_of_ble_eq_true rfl) (fun _ _ _ _ h => h) ?_
      refine DW.q rfl (ok_field_bp (b := 0) (o' := 0) (off := 0) rfl rfl fld_impl_Row_0) rfl rfl (Nat.le_of_ble_eq_true rfl) (fun _ _ _ _ h => h) ?_
      refine DW.q rfl (ok_load_bp (b := 0) (i := 0) (ag := false) (m := 1) (ys := [.sc _]) rfl rfl rfl agg_int sz_int (fun _ => rfl) rfl rfl (Nat.le_of_ble_eq_true rfl)) rfl rfl (Nat.le_of_ble_eq_true rfl) (fun _ _ _ _ h => h) ?_
      refine DW.q rfl (ok_s2 (x := .tmp 17) (x' := .tmp 19) (VScal.one rfl) (VScal.one rfl) (fun ρ h1 h2 w => by go_simp; (try go_bits); with_reducible rfl) rfl) rfl rfl (Nat.le_of_ble_eq_true rfl) (fun _ _ _ _ h => h) ?_
      refine DW.stores ?_
      refine SV.zend ?_
      refine SV.tn ?_
      refine SV.cond rfl (fun hc1 => ?_) (fun hc1 => ?_)
      · skip   -- c1.T
        have hn := PairD.hit_yes (r := r) htl (by simpa using hc1)
        refine SV.region ?_
        refine SV.op (OpL.ok (nb := 1) (ok_move (v := V.one (.sc _)) (.inl rfl) rfl) rfl (Nat.le_of_ble_eq_true rfl)) rfl ?_
        refine SV.op (OpL.ok (nb := 1) (ok_s2 (x := .tmp 21) (x' := .const ((Value.int IntKind.i64 1))) (VScal.one rfl) (VScal.one rfl) (fun ρ h1 h2 w => by go_simp; (try go_bits); with_reducible rfl) rfl) rfl (Nat.le_of_ble_eq_true rfl)) rfl ?_
        refine SV.op (OpL.ok (nb := 1) (ok_move (v := V.one (.sc _)) (.inr rfl) rfl) rfl (Nat.le_of_ble_eq_true rfl)) rfl ?_
        refine SV.nil ?_
        refine SV.bn ?_
        refine SV.tn ?_
        refine SV.region ?_
        refine SV.op (OpL.ok (nb := 1) (ok_move (v := V.one (.sc _)) (.inl rfl) rfl) rfl (Nat.le_of_ble_eq_true rfl)) rfl ?_
        refine SV.op (OpL.ok (nb := 1) (ok_s2 (x := .tmp 11) (x' := .const ((Value.int IntKind.i64 1))) (VScal.one rfl) (VScal.one rfl) (fun ρ h1 h2 w => by go_simp; (try go_bits); with_reducible rfl) rfl) rfl (Nat.le_of_ble_eq_true rfl)) rfl ?_
        refine SV.op (OpL.ok (nb := 1) (ok_move (v := V.one (.sc _)) (.inr rfl) rfl) rfl (Nat.le_of_ble_eq_true rfl)) rfl ?_
        refine SV.nil ?_
        refine SV.tn ?_
        refine SV.again (fun i => [].getD i 0) (t + 1) (⟨by omega, by omega⟩) (pins hE rfl rfl) (VS.le.mk' (le_put (le_put (le_put (le_put (le_put (le_box le_nil) (V.le.keep (ag := false) (xs := [.ro _]) (ys := [.ro _]) rfl rfl ⟨rfl, trivial⟩)) (V.le.keep (ag := false) (xs := [.bp 0 0]) (ys := [.bp 0 0]) rfl rfl ⟨⟨rfl, (Nat.le_of_ble_eq_true rfl)⟩, trivial⟩)) (V.le.keep (ag := false) (xs := [.sc _]) (ys := [.sc _]) rfl rfl ⟨rfl, trivial⟩)) (V.le.keep (ag := false) (xs := [.sc _]) (ys := [.sc _]) rfl rfl ⟨(by first | rfl | (show Leaf.sc _ = Leaf.sc _; refine congrArg Leaf.sc ?_; first | rfl | go_num | (rw [hn]; first | done | rfl | go_num | (simp; done) | (simp; omega)) | (simp [cntAll]; done)) | (simp [cntAll]; done) | (simp; omega)), trivial⟩)) (V.le.keep (ag := false) (xs := [.sc _]) (ys := [.sc _]) rfl rfl ⟨(by first | rfl | (show Leaf.sc _ = Leaf.sc _; refine congrArg Leaf.sc ?_; first | rfl | go_num | (rw [hn]; first | done | rfl | go_num | (simp; done) | (simp; omega)) | (simp [cntAll]; done)) | (simp [cntAll]; done) | (simp; omega)), trivial⟩)) ⟨⟨rfl, ⟨rfl, rfl, rfl, trivial⟩⟩, trivial⟩ trivial nil_ob (fun i j hi hj e => absurd hi (Nat.not_lt_zero i)))
      · skip   -- c1.F
        have hn := PairD.hit_no (r := r) htl (by simpa using hc1)
        refine SV.skip ?_
        refine SV.bn ?_
        refine SV.tn ?_
        refine SV.region ?_
        refine SV.op (OpL.ok (nb := 1) (ok_move (v := V.one (.sc _)) (.inl rfl) rfl) rfl (Nat.le_of_ble_eq_true rfl)) rfl ?_
        refine SV.op (OpL.ok (nb := 1) (ok_s2 (x := .tmp 11) (x' := .const ((Value.int IntKind.i64 1))) (VScal.one rfl) (VScal.one rfl) (fun ρ h1 h2 w => by go_simp; (try go_bits); with_reducible rfl) rfl) rfl (Nat.le_of_ble_eq_true rfl)) rfl ?_
        refine SV.op (OpL.ok (nb := 1) (ok_move (v := V.one (.sc _)) (.inr rfl) rfl) rfl (Nat.le_of_ble_eq_true rfl)) rfl ?_
        refine SV.nil ?_
        refine SV.tn ?_
        refine SV.again (fun i => [].getD i 0) (t + 1) (⟨by omega, by omega⟩) (pins hE rfl rfl) (VS.le.mk' (le_put (le_put (le_put (le_put (le_put (le_box le_nil) (V.le.keep (ag := false) (xs := [.ro _]) (ys := [.ro _]) rfl rfl ⟨rfl, trivial⟩)) (V.le.keep (ag := false) (xs := [.bp 0 0]) (ys := [.bp 0 0]) rfl rfl ⟨⟨rfl, (Nat.le_of_ble_eq_true rfl)⟩, trivial⟩)) (V.le.keep (ag := false) (xs := [.sc _]) (ys := [.sc _]) rfl rfl ⟨rfl, trivial⟩)) (V.le.keep (ag := false) (xs := [.sc _]) (ys := [.sc _]) rfl rfl ⟨(by first | rfl | (show Leaf.sc _ = Leaf.sc _; refine congrArg Leaf.sc ?_; first | rfl | go_num | (rw [hn]; first | done | rfl | go_num | (simp; done) | (simp; omega)) | (simp [cntAll]; done)) | (simp [cntAll]; done) | (simp; omega)), trivial⟩)) (V.le.keep (ag := false) (xs := [.sc _]) (ys := [.sc _]) rfl rfl ⟨(by first | rfl | (show Leaf.sc _ = Leaf.sc _; refine congrArg Leaf.sc ?_; first | rfl | go_num | (rw [hn]; first | done | rfl | go_num | (simp; done) | (simp; omega)) | (simp [cntAll]; done)) | (simp [cntAll]; done) | (simp; omega)), trivial⟩)) ⟨⟨rfl, ⟨rfl, rfl, rfl, trivial⟩⟩, trivial⟩ trivial nil_ob (fun i j hi hj e => absurd hi (Nat.not_lt_zero i)))
    · skip   -- c0.F
      have hte : ¬ t < B.length := by simpa using hc0
      refine SV.exit ?_
      refine SV.te ?_
      refine SV.te ?_
      refine SV.bh ?_
      refine SV.tn ?_
      refine SV.seq' ?_
      refine SV.region ?_
      refine SV.op (OpL.ok (nb := 1) (ok_move (v := V.one (.sc _)) (.inl rfl) rfl) rfl (Nat.le_of_ble_eq_true rfl)) rfl ?_
      refine SV.op (OpL.ok (nb := 1) (ok_move (v := V.one (.sc _)) (.inr rfl) rfl) rfl (Nat.le_of_ble_eq_true rfl)) rfl ?_
      refine SV.nil ?_
      refine SV.tn ?_
      refine SV.ret ?_
      apply SV.done (hf := Try.results5) (ht := rfl) (he := .inl rfl)
      case hr => exact (ResAll.cons (ResOk.tmp (ag := false) (xs := [.sc _]) rfl) ResAll.nil')
      case h2 => simp [two]
      refine ⟨rfl, ⟨?_, trivial⟩, trivial⟩ <;> (rw [← PairD.hit_take (r := r) hte]; rfl)
set_option maxRecDepth 100000 in
set_option maxHeartbeats 2000000 in
theorem vcountm_i (r : R) (B : List R) (hL : B.length ≤ 300000000000) : VC Try.prog 8 [(true, tRow r), (false, [.seq 27 (B.map tRow)])] false [(false, [.lit (.int .i64 ((PairD.hit r B : Nat)))])] := by
  refine VC.enter Try.func8 rfl Try.ntmps8 (Nat.le_of_ble_eq_true rfl) fun E hE => ?_
  refine SV.seq' ?_
  refine SV.region ?_
  refine SV.op (OpMk.ok (ok_box (kk := 0) (ag := true) (xs := [.sc _, .sc _, .sc _]) rfl rfl rfl (fun h => by cases h) rfl rfl (Nat.le_of_ble_eq_true rfl))) rfl ?_
  refine SV.op (OpL.ok (nb := 1) (ok_move (v := V.one (.sc _)) (.inr rfl) rfl) rfl (Nat.le_of_ble_eq_true rfl)) rfl ?_
  refine SV.nil ?_
  refine SV.tn ?_
  refine SV.seq' ?_
  refine SV.region ?_
  refine SV.op (OpL.ok (nb := 1) (ok_move (v := V.one (.sc _)) (.inr rfl) rfl) rfl (Nat.le_of_ble_eq_true rfl)) rfl ?_
  refine SV.nil ?_
  refine SV.tn ?_
  refine SV.seq' ?_
  refine SV.seq' ?_
  refine SV.region ?_
  refine SV.op (OpL.ok (nb := 1) (ok_move (v := V.one (.ro _)) (.inl rfl) rfl) rfl (Nat.le_of_ble_eq_true rfl)) rfl ?_
  refine SV.op (OpL.ok (nb := 1) (ok_len (lf := .ro _) rfl elt_impl_Row.und rfl rfl) rfl (Nat.le_of_ble_eq_true rfl)) rfl ?_
  refine SV.op (OpL.ok (nb := 1) (ok_move (v := V.one (.sc _)) (.inl rfl) rfl) rfl (Nat.le_of_ble_eq_true rfl)) rfl ?_
  refine SV.nil ?_
  refine SV.tn ?_
  refine SV.block ?_
  refine SV.loopF (X := Nat) (fun (σ : VS) t => (((((((VS.nil.box 27 [σ.bl 0 0, σ.bl 0 1, σ.bl 0 2]).put 2 (V.flat false [.bp 0 0])).put 4 (σ.tm 4)).put 5 (V.flat false [.sc (.int .i64 (((PairD.hit r (B.take t) : Nat) : Int)))])).put 8 (σ.tm 8)).put 9 (σ.tm 9)).put 10 (V.flat false [.sc (.int .i64 ((t : Int)))]))) (fun t => t ≤ B.length) (fun t => B.length - t) ?_ ?_
  · skip
    refine SV.again (fun i => [].getD i 0) 0 ((by first | exact Nat.zero_le _ | (refine ⟨Nat.zero_le _, ?_⟩; simp; done) | (simp; done) | omega)) (pins hE rfl rfl) (VS.le.mk' (le_put (le_put (le_put (le_put (le_put (le_put (le_box le_nil) (V.le.keep (ag := false) (xs := [.bp 0 0]) (ys := [.bp 0 0]) rfl rfl ⟨⟨rfl, (Nat.le_of_ble_eq_true rfl)⟩, trivial⟩)) (V.le.keep (ag := false) (xs := [.sc _]) (ys := [.sc _]) rfl rfl ⟨rfl, trivial⟩)) (V.le.keep (ag := false) (xs := [.sc _]) (ys := [.sc _]) rfl rfl ⟨(by first | rfl | (show Leaf.sc _ = Leaf.sc _; refine congrArg Leaf.sc ?_; first | rfl | go_num | (rw [hn]; first | done | rfl | go_num | (simp; done) | (simp; omega)) | (simp [cntAll]; done)) | (simp [cntAll]; done) | (simp; omega)), trivial⟩)) (V.le.keep (ag := false) (xs := [.ro _]) (ys := [.ro _]) rfl rfl ⟨rfl, trivial⟩)) (V.le.keep (ag := false) (xs := [.sc _]) (ys := [.sc _]) rfl rfl ⟨rfl, trivial⟩)) (V.le.keep (ag := false) (xs := [.sc _]) (ys := [.sc _]) rfl rfl ⟨(by first | rfl | (show Leaf.sc _ = Leaf.sc _; refine congrArg Leaf.sc ?_; first | rfl | go_num | (rw [hn]; first | done | rfl | go_num | (simp; done) | (simp; omega)) | (simp [cntAll]; done)) | (simp [cntAll]; done) | (simp; omega)), trivial⟩)) ⟨⟨rfl, ⟨rfl, rfl, rfl, trivial⟩⟩, trivial⟩ trivial nil_ob (fun i j hi hj e => absurd hi (Nat.not_lt_zero i)))
  · rintro t ht
    refine SV.seq' ?_
    refine SV.region ?_
    refine SV.op (OpL.ok (nb := 1) (ok_s2 (x := .tmp 10) (x' := .tmp 9) (VScal.one rfl) (VScal.one rfl) (fun ρ h1 h2 w => by go_simp; (try go_bits); with_reducible rfl) rfl) rfl (Nat.le_of_ble_eq_true rfl)) rfl ?_
    refine SV.nil ?_
    refine SV.tn ?_
    refine SV.seq' ?_
    refine SV.cond rfl (fun hc0 => ?_) (fun hc0 => ?_)
    · skip   -- c0.T
      have htl : t < B.length := by simpa using hc0
      have hx : B[t]? = some B[t] := by simp [htl]
      have hle := PairD.hit_le r (B.take t)
      have hlt : (B.take t).length ≤ t := by simp; omega
      refine SV.skip ?_
      refine SV.tn ?_
      refine SV.seq' ?_
      refine SV.block ?_
      refine SV.seq' ?_
      refine SV.region ?_
      refine SV.op (OpL.ok (nb := 1) (ok_index (n := 3) (lf := .ro _) rfl elt_impl_Row.und sz_impl_Row rfl rfl rfl (map_at (by assumption))) rfl (Nat.le_of_ble_eq_true rfl)) rfl ?_
      refine SV.op (OpL.ok (nb := 1) (ok_load_rp (ag := true) (m := 3) (ys := [.sc _, .sc _, .sc _]) rfl rfl agg_impl_Row sz_impl_Row (fun h => by cases h) (Nat.le_of_ble_eq_true rfl) rfl) rfl (Nat.le_of_ble_eq_true rfl)) rfl ?_
      refine SV.op (OpMk.ok (ok_alloc (kk := 1) (xs := [.sc _, .sc _, .sc _]) rfl rfl zero_impl_Row ⟨rfl, rfl, rfl, rfl, rfl, rfl, trivial⟩ rfl (Nat.le_of_ble_eq_true rfl))) rfl ?_
      refine SV.op (ok_store_bp (b := 1) (i := 0) (m := 3) (ag := true) (zs := [.sc _, .sc _, .sc _]) (ys := [.sc _, .sc _, .sc _]) rfl rfl rfl rfl sz_impl_Row (fun h => by cases h) rfl (Nat.le_of_ble_eq_true rfl) rfl rfl rfl) rfl ?_
      refine SV.nil ?_
      refine SV.tn ?_
      refine SV.seq' ?_
      refine SV.region ?_
      refine SV.op (OpL.ok (nb := 2) (ok_field_bp (b := 1) (o' := 0) (off := 0) rfl rfl fld_impl_Row_0) rfl (Nat.le_of_ble_eq_true rfl)) rfl ?_
      refine SV.op (OpL.ok (nb := 2) (ok_load_bp (b := 1) (i := 0) (ag := false) (m := 1) (ys := [.sc _]) rfl rfl rfl agg_int sz_int (fun _ => rfl) rfl rfl (Nat.le_of_ble_eq_true rfl)) rfl (Nat.le_of_ble_eq_true rfl)) rfl ?_
      refine SV.op (OpL.ok (nb := 2) (ok_field_bp (b := 0) (o' := 0) (off := 0) rfl rfl fld_impl_Row_0) rfl (Nat.le_of_ble_eq_true rfl)) rfl ?_
      refine SV.op (OpL.ok (nb := 2) (ok_load_bp (b := 0) (i := 0) (ag := false) (m := 1) (ys := [.sc _]) rfl rfl rfl agg_int sz_int (fun _ => rfl) rfl rfl (Nat.le_of_ble_eq_true rfl)) rfl (Nat.le_of_ble_eq_true rfl)) rfl ?_
      refine SV.op (OpL.ok (nb := 2) (ok_s2 (x := .tmp 15) (x' := .tmp 17) (VScal.one rfl) (VScal.one rfl) (fun ρ h1 h2 w => by go_simp; (try go_bits); with_reducible rfl) rfl) rfl (Nat.le_of_ble_eq_true rfl)) rfl ?_
      refine SV.nil ?_
      refine SV.tn ?_
      refine SV.cond rfl (fun hc1 => ?_) (fun hc1 => ?_)
      · skip   -- c1.T
        have hn := PairD.hit_yes (r := r) htl (by simpa using hc1)
        refine SV.region ?_
        refine SV.op (OpL.ok (nb := 2) (ok_move (v := V.one (.sc _)) (.inl rfl) rfl) rfl (Nat.le_of_ble_eq_true rfl)) rfl ?_
        refine SV.op (OpL.ok (nb := 2) (ok_s2 (x := .tmp 19) (x' := .const ((Value.int IntKind.i64 1))) (VScal.one rfl) (VScal.one rfl) (fun ρ h1 h2 w => by go_simp; (try go_bits); with_reducible rfl) rfl) rfl (Nat.le_of_ble_eq_true rfl)) rfl ?_
        refine SV.op (OpL.ok (nb := 2) (ok_move (v := V.one (.sc _)) (.inr rfl) rfl) rfl (Nat.le_of_ble_eq_true rfl)) rfl ?_
        refine SV.nil ?_
        refine SV.bn ?_
        refine SV.tn ?_
        refine SV.region ?_
        refine SV.op (OpL.ok (nb := 2) (ok_s2 (x := .tmp 10) (x' := .const ((Value.int IntKind.i64 1))) (VScal.one rfl) (VScal.one rfl) (fun ρ h1 h2 w => by go_simp; (try go_bits); with_reducible rfl) rfl) rfl (Nat.le_of_ble_eq_true rfl)) rfl ?_
        refine SV.op (OpL.ok (nb := 2) (ok_move (v := V.one (.sc _)) (.inl rfl) rfl) rfl (Nat.le_of_ble_eq_true rfl)) rfl ?_
        refine SV.nil ?_
        refine SV.tn ?_
        refine SV.again (fun i => [].getD i 0) (t + 1) (⟨by omega, by omega⟩) (pins hE rfl rfl) (VS.le.mk' (le_put (le_put (le_put (le_put (le_put (le_put (le_box le_nil) (V.le.keep (ag := false) (xs := [.bp 0 0]) (ys := [.bp 0 0]) rfl rfl ⟨⟨rfl, (Nat.le_of_ble_eq_true rfl)⟩, trivial⟩)) (V.le.keep (ag := false) (xs := [.sc _]) (ys := [.sc _]) rfl rfl ⟨rfl, trivial⟩)) (V.le.keep (ag := false) (xs := [.sc _]) (ys := [.sc _]) rfl rfl ⟨(by first | rfl | (show Leaf.sc _ = Leaf.sc _; refine congrArg Leaf.sc ?_; first | rfl | go_num | (rw [hn]; first | done | rfl | go_num | (simp; done) | (simp; omega)) | (simp [cntAll]; done)) | (simp [cntAll]; done) | (simp; omega)), trivial⟩)) (V.le.keep (ag := false) (xs := [.ro _]) (ys := [.ro _]) rfl rfl ⟨rfl, trivial⟩)) (V.le.keep (ag := false) (xs := [.sc _]) (ys := [.sc _]) rfl rfl ⟨rfl, trivial⟩)) (V.le.keep (ag := false) (xs := [.sc _]) (ys := [.sc _]) rfl rfl ⟨(by first | rfl | (show Leaf.sc _ = Leaf.sc _; refine congrArg Leaf.sc ?_; first | rfl | go_num | (rw [hn]; first | done | rfl | go_num | (simp; done) | (simp; omega)) | (simp [cntAll]; done)) | (simp [cntAll]; done) | (simp; omega)), trivial⟩)) ⟨⟨rfl, ⟨rfl, rfl, rfl, trivial⟩⟩, trivial⟩ trivial nil_ob (fun i j hi hj e => absurd hi (Nat.not_lt_zero i)))
      · skip   -- c1.F
        have hn := PairD.hit_no (r := r) htl (by simpa using hc1)
        refine SV.skip ?_
        refine SV.bn ?_
        refine SV.tn ?_
        refine SV.region ?_
        refine SV.op (OpL.ok (nb := 2) (ok_s2 (x := .tmp 10) (x' := .const ((Value.int IntKind.i64 1))) (VScal.one rfl) (VScal.one rfl) (fun ρ h1 h2 w => by go_simp; (try go_bits); with_reducible rfl) rfl) rfl (Nat.le_of_ble_eq_true rfl)) rfl ?_
        refine SV.op (OpL.ok (nb := 2) (ok_move (v := V.one (.sc _)) (.inl rfl) rfl) rfl (Nat.le_of_ble_eq_true rfl)) rfl ?_
        refine SV.nil ?_
        refine SV.tn ?_
        refine SV.again (fun i => [].getD i 0) (t + 1) (⟨by omega, by omega⟩) (pins hE rfl rfl) (VS.le.mk' (le_put (le_put (le_put (le_put (le_put (le_put (le_box le_nil) (V.le.keep (ag := false) (xs := [.bp 0 0]) (ys := [.bp 0 0]) rfl rfl ⟨⟨rfl, (Nat.le_of_ble_eq_true rfl)⟩, trivial⟩)) (V.le.keep (ag := false) (xs := [.sc _]) (ys := [.sc _]) rfl rfl ⟨rfl, trivial⟩)) (V.le.keep (ag := false) (xs := [.sc _]) (ys := [.sc _]) rfl rfl ⟨(by first | rfl | (show Leaf.sc _ = Leaf.sc _; refine congrArg Leaf.sc ?_; first | rfl | go_num | (rw [hn]; first | done | rfl | go_num | (simp; done) | (simp; omega)) | (simp [cntAll]; done)) | (simp [cntAll]; done) | (simp; omega)), trivial⟩)) (V.le.keep (ag := false) (xs := [.ro _]) (ys := [.ro _]) rfl rfl ⟨rfl, trivial⟩)) (V.le.keep (ag := false) (xs := [.sc _]) (ys := [.sc _]) rfl rfl ⟨rfl, trivial⟩)) (V.le.keep (ag := false) (xs := [.sc _]) (ys := [.sc _]) rfl rfl ⟨(by first | rfl | (show Leaf.sc _ = Leaf.sc _; refine congrArg Leaf.sc ?_; first | rfl | go_num | (rw [hn]; first | done | rfl | go_num | (simp; done) | (simp; omega)) | (simp [cntAll]; done)) | (simp [cntAll]; done) | (simp; omega)), trivial⟩)) ⟨⟨rfl, ⟨rfl, rfl, rfl, trivial⟩⟩, trivial⟩ trivial nil_ob (fun i j hi hj e => absurd hi (Nat.not_lt_zero i)))
    · skip   -- c0.F
      have hte : ¬ t < B.length := by simpa using hc0
      refine SV.exit ?_
      refine SV.te ?_
      refine SV.te ?_
      refine SV.bh ?_
      refine SV.tn ?_
      refine SV.seq' ?_
      refine SV.region ?_
      refine SV.op (OpL.ok (nb := 1) (ok_move (v := V.one (.sc _)) (.inl rfl) rfl) rfl (Nat.le_of_ble_eq_true rfl)) rfl ?_
      refine SV.op (OpL.ok (nb := 1) (ok_move (v := V.one (.sc _)) (.inr rfl) rfl) rfl (Nat.le_of_ble_eq_true rfl)) rfl ?_
      refine SV.nil ?_
      refine SV.tn ?_
      refine SV.ret ?_
      apply SV.done (hf := Try.results8) (ht := rfl) (he := .inl rfl)
      case hr => exact (ResAll.cons (ResOk.tmp (ag := false) (xs := [.sc _]) rfl) ResAll.nil')
      case h2 => simp [two]
      refine ⟨rfl, ⟨?_, trivial⟩, trivial⟩ <;> (rw [← PairD.hit_take (r := r) hte]; rfl)
end Go.Proofs.Ytlnjgoommpeioab
