/- The program's FormatGroups: told by trees. -/
import Derived.Test.YtmlcdhblofjpbaaDoorVFint
import Derived.Test.YtmlcdhblofjpbaaDoorGroupT
import Derived.Test.YtmlcdhblofjpbaaDoorJoinT
namespace Go.Proofs.YtmlcdhblofjpbaaDoor
open Go Go.RowKit V
set_option linter.unusedVariables false
set_option maxRecDepth 100000 in
set_option maxHeartbeats 2000000 in
theorem vfgroup_i (g : GroupD) (hw : GroupD.wf g) : VCD Tryd.prog 58 [(true, tGroup g)] false [(false, [.lit (.string (⟨(GroupD.txt g).toArray⟩))])] := by
  refine VCD.enter Tryd.func58 rfl Tryd.ntmps58 (Nat.le_of_ble_eq_true rfl) fun E hE hD => ?_
  have f0 := GroupD.itoa_le hw.1
  have f1 := GroupD.itoa_le hw.2.1
  have f2 := GroupD.itoa_le hw.2.2.1
  have f3 := GroupD.itoa_le hw.2.2.2.1
  have f4 := GroupD.itoa_le hw.2.2.2.2
  have fj : (Lib.join (GroupD.fields g) [44]).length ≤ 100 := by rw [GroupD.join_fields]; simp only [List.length_append, List.length_cons]; omega
  refine SV.seq' ?_
  refine SV.region ?_
  refine SV.op (OpMk.ok (ok_box (kk := 0) (ag := true) (xs := [.sc _, .sc _, .sc _, .sc _, .sc _]) rfl rfl rfl (fun h => by cases h) rfl rfl (Nat.le_of_ble_eq_true rfl))) rfl ?_
  refine SV.op (OpL.ok (nb := 1) (ok_move (v := V.one (.sc _)) (.inr rfl) rfl) rfl (Nat.le_of_ble_eq_true rfl)) rfl ?_
  refine SV.nil ?_
  refine SV.tn ?_
  refine SV.seq' ?_
  refine SV.draw [.q 0, .q 1, .q 3, .q 4, .q 6, .q 7, .q 9, .q 10, .m 2, .m 5, .m 8, .m 11, .m 12, .q 13] [] (by kernel_rfl) (by kernel_rfl) ?_
  refine DW.q rfl (ok_field_bp (b := 0) (o' := 0) (off := 1) rfl rfl fld_impl_Group_1) rfl rfl (Nat.le_of_ble_eq_true rfl) (fun _ _ _ _ h => h) ?_
  refine DW.q rfl (ok_load_bp (b := 0) (i := 1) (ag := false) (m := 1) (ys := [.sc _]) rfl rfl rfl agg_int sz_int (fun _ => rfl) rfl rfl (Nat.le_of_ble_eq_true rfl)) rfl rfl (Nat.le_of_ble_eq_true rfl) (fun _ _ _ _ h => h) ?_
  refine DW.q rfl (ok_field_bp (b := 0) (o' := 0) (off := 2) rfl rfl fld_impl_Group_2) rfl rfl (Nat.le_of_ble_eq_true rfl) (fun _ _ _ _ h => h) ?_
  refine DW.q rfl (ok_load_bp (b := 0) (i := 2) (ag := false) (m := 1) (ys := [.sc _]) rfl rfl rfl agg_int sz_int (fun _ => rfl) rfl rfl (Nat.le_of_ble_eq_true rfl)) rfl rfl (Nat.le_of_ble_eq_true rfl) (fun _ _ _ _ h => h) ?_
  refine DW.q rfl (ok_field_bp (b := 0) (o' := 0) (off := 3) rfl rfl fld_impl_Group_3) rfl rfl (Nat.le_of_ble_eq_true rfl) (fun _ _ _ _ h => h) ?_
  refine DW.q rfl (ok_load_bp (b := 0) (i := 3) (ag := false) (m := 1) (ys := [.sc _]) rfl rfl rfl agg_int sz_int (fun _ => rfl) rfl rfl (Nat.le_of_ble_eq_true rfl)) rfl rfl (Nat.le_of_ble_eq_true rfl) (fun _ _ _ _ h => h) ?_
  refine DW.q rfl (ok_field_bp (b := 0) (o' := 0) (off := 4) rfl rfl fld_impl_Group_4) rfl rfl (Nat.le_of_ble_eq_true rfl) (fun _ _ _ _ h => h) ?_
  refine DW.q rfl (ok_load_bp (b := 0) (i := 4) (ag := false) (m := 1) (ys := [.sc _]) rfl rfl rfl agg_int sz_int (fun _ => rfl) rfl rfl (Nat.le_of_ble_eq_true rfl)) rfl rfl (Nat.le_of_ble_eq_true rfl) (fun _ _ _ _ h => h) ?_
  refine DW.m [] rfl (ok_callD (ls := [(false, [.sc _])]) hD rfl rfl ⟨_, _, Tryd.func98, rfl, by decide⟩ (vfint_i g.fCount hw.2.1) ⟨⟨[.sc _], rfl, ⟨rfl, trivial⟩⟩, trivial⟩ rfl (Nat.le_of_ble_eq_true rfl)) rfl (Nat.le_of_ble_eq_true rfl) (Nat.le_of_ble_eq_true rfl) (.inl rfl) (fun j hj => by cases hj) ?_
  refine DW.m [] rfl (ok_callD (ls := [(false, [.sc _])]) hD rfl rfl ⟨_, _, Tryd.func98, rfl, by decide⟩ (vfint_i g.fSum hw.2.2.1) ⟨⟨[.sc _], rfl, ⟨rfl, trivial⟩⟩, trivial⟩ rfl (Nat.le_of_ble_eq_true rfl)) rfl (Nat.le_of_ble_eq_true rfl) (Nat.le_of_ble_eq_true rfl) (.inl rfl) (fun j hj => by cases hj) ?_
  refine DW.m [] rfl (ok_callD (ls := [(false, [.sc _])]) hD rfl rfl ⟨_, _, Tryd.func98, rfl, by decide⟩ (vfint_i g.fMin hw.2.2.2.1) ⟨⟨[.sc _], rfl, ⟨rfl, trivial⟩⟩, trivial⟩ rfl (Nat.le_of_ble_eq_true rfl)) rfl (Nat.le_of_ble_eq_true rfl) (Nat.le_of_ble_eq_true rfl) (.inl rfl) (fun j hj => by cases hj) ?_
  refine DW.m [] rfl (ok_callD (ls := [(false, [.sc _])]) hD rfl rfl ⟨_, _, Tryd.func98, rfl, by decide⟩ (vfint_i g.fMax hw.2.2.2.2) ⟨⟨[.sc _], rfl, ⟨rfl, trivial⟩⟩, trivial⟩ rfl (Nat.le_of_ble_eq_true rfl)) rfl (Nat.le_of_ble_eq_true rfl) (Nat.le_of_ble_eq_true rfl) (.inl rfl) (fun j hj => by cases hj) ?_
  refine DW.m [0] rfl (ok_litS (kk := 0) (xs := [.tmp 6, .tmp 9, .tmp 12, .tmp 15]) (us := [_, _, _, _]) elt_string rfl rfl rfl rfl (by decide) (by decide) ⟨rfl, rfl, rfl, rfl, trivial⟩ rfl (Nat.le_of_ble_eq_true rfl)) rfl (Nat.le_of_ble_eq_true rfl) (Nat.le_of_ble_eq_true rfl) (.inl rfl) (fun j hj => by
      simp only [List.mem_cons, List.not_mem_nil, or_false] at hj
      rcases hj with rfl
      · exact .inr ⟨(Nat.le_of_ble_eq_true rfl), (Nat.le_of_ble_eq_true rfl), .inl rfl⟩) ?_
  refine DW.q rfl (ok_move (v := V.one (.hd 0)) (.inr rfl) rfl) rfl rfl (Nat.le_of_ble_eq_true rfl) (fun _ _ _ _ h => h) ?_
  refine DW.stores ?_
  refine SV.zend ?_
  refine SV.tn ?_
  refine SV.seq' ?_
  refine SV.region ?_
  refine SV.op (OpL.ok (nb := 1) (ok_field_bp (b := 0) (o' := 0) (off := 0) rfl rfl fld_impl_Group_0) rfl (Nat.le_of_ble_eq_true rfl)) rfl ?_
  refine SV.op (OpL.ok (nb := 1) (ok_load_bp (b := 0) (i := 0) (ag := false) (m := 1) (ys := [.sc _]) rfl rfl rfl agg_int sz_int (fun _ => rfl) rfl rfl (Nat.le_of_ble_eq_true rfl)) rfl (Nat.le_of_ble_eq_true rfl)) rfl ?_
  refine SV.op (OpMk.ok (ok_callD (ls := [(false, [.sc _])]) hD rfl rfl ⟨_, _, Tryd.func98, rfl, by decide⟩ (vfint_i g.fKey hw.1) ⟨⟨[.sc _], rfl, ⟨rfl, trivial⟩⟩, trivial⟩ rfl (Nat.le_of_ble_eq_true rfl))) rfl ?_
  refine SV.op (OpL.ok (nb := 1) (ok_s2 (v := .string ⟨List.toArray (_ ++ _)⟩) (x := .tmp 19) (x' := .const ((Value.string { data := #[58] }))) (VScal.one rfl) (VScal.one rfl) (fun ρ h1 h2 w => cat_run rfl h1 h2 (by first | omega | (simp only [List.length_append, List.length_cons, List.length_nil]; omega))) rfl) rfl (Nat.le_of_ble_eq_true rfl)) rfl ?_
  refine SV.op (OpL.ok (nb := 1) (ok_move (v := V.one (.hd 0)) (.inl rfl) rfl) rfl (Nat.le_of_ble_eq_true rfl)) rfl ?_
  refine SV.op (OpMk.ok (ok_call (ls := [(false, [.sc _])]) rfl rfl ⟨_, _, Tryd.func59, rfl, by decide⟩ (vjoin_strs (GroupD.fields g) 44 (by simp [GroupD.fields]) (by rw [GroupD.join_fields]; simp only [List.length_append, List.length_cons]; omega)) ⟨⟨[.hd 0], rfl, ⟨rfl, trivial⟩⟩, ⟨[.sc _], rfl, ⟨rfl, trivial⟩⟩, trivial⟩ rfl (Nat.le_of_ble_eq_true rfl))) rfl ?_
  refine SV.op (OpL.ok (nb := 1) (ok_s2 (v := .string ⟨List.toArray (_ ++ _)⟩) (x := .tmp 20) (x' := .tmp 22) (VScal.one rfl) (VScal.one rfl) (fun ρ h1 h2 w => cat_run rfl h1 h2 (by first | omega | (simp only [List.length_append, List.length_cons, List.length_nil]; omega))) rfl) rfl (Nat.le_of_ble_eq_true rfl)) rfl ?_
  refine SV.op (OpL.ok (nb := 1) (ok_move (v := V.one (.sc _)) (.inr rfl) rfl) rfl (Nat.le_of_ble_eq_true rfl)) rfl ?_
  refine SV.nil ?_
  refine SV.tn ?_
  refine SV.ret ?_
  apply SV.done (hf := Tryd.results58) (ht := rfl) (he := .inl rfl)
  case hr => exact (ResAll.cons (ResOk.tmp (ag := false) (xs := [.sc _]) rfl) ResAll.nil')
  case h2 => simp [two]
  refine ⟨rfl, ⟨?_, trivial⟩, trivial⟩ <;> (show some (T.lit (Value.string _)) = some (T.lit (Value.string _)); rw [GroupD.join_fields]; unfold GroupD.txt; simp; done)
set_option maxRecDepth 100000 in
set_option maxHeartbeats 2000000 in
theorem vfgroups_i (X : List GroupD) (hX : ∀ g ∈ X, GroupD.wf g) (hL : X.length ≤ 1048576) : VCD Tryd.prog 14 [(false, [.seq 33 (X.map tGroup)])] false [(false, [.lit (.string (⟨(Lib.join (X.map GroupD.txt) [32]).toArray⟩))])] := by
  refine VCD.enter Tryd.func14 rfl Tryd.ntmps14 (Nat.le_of_ble_eq_true rfl) fun E hE hD => ?_
  refine SV.seq' ?_
  refine SV.region ?_
  refine SV.op (OpL.ok (nb := 0) (ok_move (v := V.one (.sc _)) (.inr rfl) rfl) rfl (Nat.le_of_ble_eq_true rfl)) rfl ?_
  refine SV.nil ?_
  refine SV.tn ?_
  refine SV.seq' ?_
  refine SV.region ?_
  refine SV.op (OpL.ok (nb := 0) (ok_move (v := V.one (.ro _)) (.inl rfl) rfl) rfl (Nat.le_of_ble_eq_true rfl)) rfl ?_
  refine SV.op (OpL.ok (nb := 0) (ok_len (lf := .ro _) rfl elt_impl_Group.und rfl rfl) rfl (Nat.le_of_ble_eq_true rfl)) rfl ?_
  refine SV.op (OpMk.ok (ok_make (kk := 0) (zs := [.sc _]) elt_string rfl rfl rfl rfl ⟨rfl, rfl, trivial⟩ rfl (by rw [List.length_map]; omega) rfl (Nat.le_of_ble_eq_true rfl))) rfl ?_
  refine SV.op (OpL.ok (nb := 0) (ok_move (v := V.one (.hd 0)) (.inr rfl) rfl) rfl (Nat.le_of_ble_eq_true rfl)) rfl ?_
  refine SV.nil ?_
  refine SV.tn ?_
  refine SV.seq' ?_
  refine SV.seq' ?_
  refine SV.region ?_
  refine SV.op (OpL.ok (nb := 0) (ok_move (v := V.one (.ro _)) (.inl rfl) rfl) rfl (Nat.le_of_ble_eq_true rfl)) rfl ?_
  refine SV.op (OpL.ok (nb := 0) (ok_len (lf := .ro _) rfl elt_impl_Group.und rfl rfl) rfl (Nat.le_of_ble_eq_true rfl)) rfl ?_
  refine SV.op (OpL.ok (nb := 0) (ok_move (v := V.one (.sc _)) (.inl rfl) rfl) rfl (Nat.le_of_ble_eq_true rfl)) rfl ?_
  refine SV.nil ?_
  refine SV.tn ?_
  refine SV.block ?_
  refine SV.loopF (X := Nat) (fun (σ : VS) t => ((((((VS.nil.new (.seq 9 (toL (fun x => [.lit (.string ⟨(GroupD.txt x).toArray⟩)]) [.lit (.string ⟨#[]⟩)] X t))).put 2 (σ.tm 2)).put 3 (V.flat false [.hd 0])).put 9 (σ.tm 9)).put 10 (σ.tm 10)).put 11 (V.flat false [.sc (.int .i64 ((t : Int)))]))) (fun t => t ≤ X.length) (fun t => X.length - t) ?_ ?_
  · skip
    refine SV.again (fun i => [0].getD i 0) 0 ((by first | exact Nat.zero_le _ | (refine ⟨Nat.zero_le _, ?_⟩; simp; done) | (simp; done) | omega)) (pins hE rfl rfl) (VS.le.mk' (le_put (le_put (le_put (le_put (le_put (le_new le_nil) (V.le.keep (ag := false) (xs := [.sc _]) (ys := [.sc _]) rfl rfl ⟨rfl, trivial⟩)) (V.le.keep (ag := false) (xs := [.hd 0]) (ys := [.hd 0]) rfl rfl ⟨⟨rfl, (Nat.le_of_ble_eq_true rfl), (Nat.le_of_ble_eq_true rfl)⟩, trivial⟩)) (V.le.keep (ag := false) (xs := [.ro _]) (ys := [.ro _]) rfl rfl ⟨rfl, trivial⟩)) (V.le.keep (ag := false) (xs := [.sc _]) (ys := [.sc _]) rfl rfl ⟨rfl, trivial⟩)) (V.le.keep (ag := false) (xs := [.sc _]) (ys := [.sc _]) rfl rfl ⟨(by first | rfl | (show Leaf.sc _ = Leaf.sc _; refine congrArg Leaf.sc ?_; first | rfl | go_num | (simp [cntAll]; done)) | (simp [cntAll]; done) | (simp; omega)), trivial⟩)) trivial ⟨.inr ⟨_, _, rfl, ?ob1_0, (Nat.le_of_ble_eq_true rfl)⟩, trivial⟩ (new_ob nil_ob) (fun i j hi hj e => inj_list (l := [0]) (by decide) i j hi hj e))
    case ob1_0 =>
      show some (T.seq _ _) = some (T.seq _ _)
      rw [toL_zero, List.length_map]; rfl
  · rintro t ht
    refine SV.seq' ?_
    refine SV.region ?_
    refine SV.op (OpL.ok (nb := 0) (ok_s2 (x := .tmp 11) (x' := .tmp 10) (VScal.one rfl) (VScal.one rfl) (fun ρ h1 h2 w => by go_simp; (try go_bits); with_reducible rfl) rfl) rfl (Nat.le_of_ble_eq_true rfl)) rfl ?_
    refine SV.nil ?_
    refine SV.tn ?_
    refine SV.seq' ?_
    refine SV.cond rfl (fun hc0 => ?_) (fun hc0 => ?_)
    · skip   -- c0.T
      have htl : t < X.length := by simpa using hc0
      have hx : X[t]? = some X[t] := by simp [htl]
      have hw := hX X[t] (List.getElem_mem htl)
      refine SV.skip ?_
      refine SV.tn ?_
      refine SV.seq' ?_
      refine SV.block ?_
      refine SV.seq' ?_
      refine SV.region ?_
      refine SV.op (OpL.ok (nb := 0) (ok_move (v := V.one (.sc _)) (.inl rfl) rfl) rfl (Nat.le_of_ble_eq_true rfl)) rfl ?_
      refine SV.op (OpL.ok (nb := 0) (ok_index (n := 5) (lf := .ro _) rfl elt_impl_Group.und sz_impl_Group rfl rfl rfl (map_at (by assumption))) rfl (Nat.le_of_ble_eq_true rfl)) rfl ?_
      refine SV.op (OpL.ok (nb := 0) (ok_load_rp (ag := true) (m := 5) (ys := [.sc _, .sc _, .sc _, .sc _, .sc _]) rfl rfl agg_impl_Group sz_impl_Group (fun h => by cases h) (Nat.le_of_ble_eq_true rfl) rfl) rfl (Nat.le_of_ble_eq_true rfl)) rfl ?_
      refine SV.op (OpMk.ok (ok_alloc (kk := 0) (xs := [.sc _, .sc _, .sc _, .sc _, .sc _]) rfl rfl zero_impl_Group ⟨rfl, rfl, rfl, rfl, rfl, rfl, rfl, rfl, rfl, rfl, trivial⟩ rfl (Nat.le_of_ble_eq_true rfl))) rfl ?_
      refine SV.op (OpL.ok (nb := 1) (ok_move (v := V.one (.sc _)) (.inr rfl) rfl) rfl (Nat.le_of_ble_eq_true rfl)) rfl ?_
      refine SV.op (ok_store_bp (b := 0) (i := 0) (m := 5) (ag := true) (zs := [.sc _, .sc _, .sc _, .sc _, .sc _]) (ys := [.sc _, .sc _, .sc _, .sc _, .sc _]) rfl rfl rfl rfl sz_impl_Group (fun h => by cases h) rfl (Nat.le_of_ble_eq_true rfl) rfl rfl rfl) rfl ?_
      refine SV.nil ?_
      refine SV.tn ?_
      refine SV.region ?_
      refine SV.op (OpL.ok (nb := 1) (ok_move (v := V.one (.hd 0)) (.inl rfl) rfl) rfl (Nat.le_of_ble_eq_true rfl)) rfl ?_
      refine SV.op (OpL.ok (nb := 1) (ok_move (v := V.one (.sc _)) (.inl rfl) rfl) rfl (Nat.le_of_ble_eq_true rfl)) rfl ?_
      refine SV.op (OpL.ok (nb := 1) (ok_load_bp (b := 0) (i := 0) (ag := true) (m := 5) (ys := [.sc _, .sc _, .sc _, .sc _, .sc _]) rfl rfl rfl agg_impl_Group sz_impl_Group (fun h => by cases h) rfl rfl (Nat.le_of_ble_eq_true rfl)) rfl (Nat.le_of_ble_eq_true rfl)) rfl ?_
      refine SV.op (OpMk.ok (ok_callD (ls := [(false, [.sc _])]) hD rfl rfl ⟨_, _, Tryd.func58, rfl, by decide⟩ (vfgroup_i X[t] hw) ⟨⟨[.sc _, .sc _, .sc _, .sc _, .sc _], rfl, ⟨rfl, rfl, rfl, rfl, rfl, trivial⟩⟩, trivial⟩ rfl (Nat.le_of_ble_eq_true rfl))) rfl ?_
      refine SV.op (OpL.ok (nb := 1) (ok_index (n := 1) (lf := .hd 0) rfl elt_string.und sz_string rfl rfl rfl (toL_at htl)) rfl (Nat.le_of_ble_eq_true rfl)) rfl ?_
      refine SV.op (ok_store_ep (i := 0) (n := 1) (m := 1) (ag := false) (zs := [.sc _]) rfl rfl rfl rfl (toL_at htl) sz_string (fun _ => rfl) rfl sz_string (Nat.le_of_ble_eq_true rfl) (outs_c rfl outs_n) (by simp [two]) rfl rfl rfl) rfl ?_
      refine SV.nil ?_
      refine SV.bn ?_
      refine SV.tn ?_
      refine SV.region ?_
      refine SV.op (OpL.ok (nb := 1) (ok_s2 (x := .tmp 11) (x' := .const ((Value.int IntKind.i64 1))) (VScal.one rfl) (VScal.one rfl) (fun ρ h1 h2 w => by go_simp; (try go_bits); with_reducible rfl) rfl) rfl (Nat.le_of_ble_eq_true rfl)) rfl ?_
      refine SV.op (OpL.ok (nb := 1) (ok_move (v := V.one (.sc _)) (.inl rfl) rfl) rfl (Nat.le_of_ble_eq_true rfl)) rfl ?_
      refine SV.nil ?_
      refine SV.tn ?_
      refine SV.again (fun i => [0].getD i 0) (t + 1) (⟨by omega, by omega⟩) (pins hE rfl rfl) (VS.le.mk' (le_put (le_put (le_put (le_put (le_put (le_new le_nil) (V.le.keep (ag := false) (xs := [.sc _]) (ys := [.sc _]) rfl rfl ⟨rfl, trivial⟩)) (V.le.keep (ag := false) (xs := [.hd 0]) (ys := [.hd 0]) rfl rfl ⟨⟨rfl, (Nat.le_of_ble_eq_true rfl), (Nat.le_of_ble_eq_true rfl)⟩, trivial⟩)) (V.le.keep (ag := false) (xs := [.ro _]) (ys := [.ro _]) rfl rfl ⟨rfl, trivial⟩)) (V.le.keep (ag := false) (xs := [.sc _]) (ys := [.sc _]) rfl rfl ⟨rfl, trivial⟩)) (V.le.keep (ag := false) (xs := [.sc _]) (ys := [.sc _]) rfl rfl ⟨(by first | rfl | (show Leaf.sc _ = Leaf.sc _; refine congrArg Leaf.sc ?_; first | rfl | go_num | (simp [cntAll]; done)) | (simp [cntAll]; done) | (simp; omega)), trivial⟩)) trivial ⟨.inr ⟨_, _, rfl, ?ob2_0, (Nat.le_of_ble_eq_true rfl)⟩, trivial⟩ (new_ob nil_ob) (fun i j hi hj e => inj_list (l := [0]) (by decide) i j hi hj e))
      case ob2_0 =>
        show some (T.seq _ _) = some (T.seq _ _)
        rw [← toL_next htl]; rfl
    · skip   -- c0.F
      have hte : ¬ t < X.length := by simpa using hc0
      have hj := vjoin_strs (X.map GroupD.txt) 32 (by simp; omega) (by have := GroupD.join_len_le X hX; omega)
      rw [show (X.map GroupD.txt).map (fun z => [T.lit (.string ⟨z.toArray⟩)]) = toL (fun x => [T.lit (.string ⟨(GroupD.txt x).toArray⟩)]) [T.lit (.string ⟨#[]⟩)] X t from ((toL_all hte).trans (by rw [List.map_map]; rfl)).symm] at hj
      refine SV.exit ?_
      refine SV.te ?_
      refine SV.te ?_
      refine SV.bh ?_
      refine SV.tn ?_
      refine SV.seq' ?_
      refine SV.region ?_
      refine SV.op (OpL.ok (nb := 0) (ok_move (v := V.one (.hd 0)) (.inl rfl) rfl) rfl (Nat.le_of_ble_eq_true rfl)) rfl ?_
      refine SV.op (OpMk.ok (ok_call (ls := [(false, [.sc _])]) rfl rfl ⟨_, _, Tryd.func59, rfl, by decide⟩ (hj) ⟨⟨[.hd 0], rfl, ⟨rfl, trivial⟩⟩, ⟨[.sc _], rfl, ⟨rfl, trivial⟩⟩, trivial⟩ rfl (Nat.le_of_ble_eq_true rfl))) rfl ?_
      refine SV.op (OpL.ok (nb := 0) (ok_move (v := V.one (.sc _)) (.inr rfl) rfl) rfl (Nat.le_of_ble_eq_true rfl)) rfl ?_
      refine SV.nil ?_
      refine SV.tn ?_
      refine SV.ret ?_
      apply SV.done (hf := Tryd.results14) (ht := rfl) (he := .inl rfl)
      case hr => exact (ResAll.cons (ResOk.tmp (ag := false) (xs := [.sc _]) rfl) ResAll.nil')
      case h2 => simp [two]
      refine ⟨rfl, ⟨?_, trivial⟩, trivial⟩ <;> rfl
end Go.Proofs.YtmlcdhblofjpbaaDoor
