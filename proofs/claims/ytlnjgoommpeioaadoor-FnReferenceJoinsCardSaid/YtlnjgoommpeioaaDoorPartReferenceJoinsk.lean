/- Texts joined: FPairI VRef VOp. -/
import Derived.Test.YtlnjgoommpeioaaDoorPartReferenceJoinsj
/- The program's FormatPairs: told by trees. -/
namespace Go.Proofs.YtlnjgoommpeioaaDoor
open Go Go.RowKit V
set_option linter.unusedVariables false
theorem vjoin_strs (Z : List (List UInt8)) (b : UInt8) (hZ : Z.length ≤ 1000000000) (hl : (Lib.join Z [b]).length ≤ 140737488355328) : VC Tryd.prog 82 [(false, [.seq 9 (Z.map fun z => [.lit (.string ⟨z.toArray⟩)])]), (false, [.lit (.string ⟨[b].toArray⟩)])] false [(false, [.lit (.string ⟨(Lib.join Z [b]).toArray⟩)])] := fun w vs hv => by
  obtain ⟨hvl, ha⟩ := hv
  match vs, hvl with
  | [v, u], _ =>
    obtain ⟨us, e1, e2, e3⟩ := ha 0 false _ v rfl rfl
    obtain ⟨us', f1, f2, f3⟩ := ha 1 false _ u rfl rfl
    match us, e2 with
    | [x], _ =>
      match us', f2 with
      | [y], _ =>
        have g1 := e3 0 _ x rfl rfl
        have g2 := inn_lit (f3 0 _ y rfl rfl)
        have e1' : v = x := e1
        have f1' : u = y := f1
        subst e1' f1' g2
        have hd : (Z.map fun z => (⟨z.toArray⟩ : ByteArray)).map (·.data.toList) = Z := by
          rw [List.map_map, show ((fun x : ByteArray => x.data.toList) ∘ fun z : List UInt8 => (⟨z.toArray⟩ : ByteArray)) = id from by funext z; simp, List.map_id]
        have hc : Calls Tryd.prog 82 #[v, .string ⟨[b].toArray⟩] w fun e w' => e = .returned (.string ⟨(Lib.join Z [b]).toArray⟩) ∧ Below w.heap.size w w' := by
          cases g1 with
          | @seq ty es a c n hp hz hn hc hm h0 bk o us ha' hb hcell hr =>
            rcases Nat.eq_zero_or_pos Z.length with hz0 | hz0
            · have hZe : Z = [] := List.eq_nil_of_length_eq_zero hz0
              subst hZe
              refine (Tryd.strings_Join_none a c ⟨[b].toArray⟩ w).mono fun e w' ⟨he, hw⟩ => ?_
              subst hw
              exact ⟨he, Below.refl _ _⟩
            · have hne : (Z.map fun z => [T.lit (.string ⟨z.toArray⟩)]) ≠ [] := by intro e; have := congrArg List.length e; simp at this; rw [this] at hz0; simp at hz0
              have hn1 : n = 1 := by
                obtain ⟨z, Z', rfl⟩ := List.exists_cons_of_length_pos hz0
                exact (hn [T.lit (.string ⟨z.toArray⟩)] (by simp)).symm
              subst hn1
              cases a with
              | none => have := h0 rfl; subst this; simp at hc; rw [hc] at hz0; simp at hz0
              | some ad =>
                have had := ha' ad rfl hne
                subst had
                have hj := Tryd.strings_Join bk o c (Z.map fun z => ⟨z.toArray⟩) ⟨[b].toArray⟩ w (fun j x hx => by
                  rw [List.getElem?_map] at hx
                  obtain ⟨z, hz1, rfl⟩ := Option.map_eq_some_iff.1 hx
                  have h1 := hcell j [T.lit (.string ⟨z.toArray⟩)] 0 _ (by rw [List.getElem?_map, hz1]; rfl) rfl
                  have h2 := inn_lit (hr j [T.lit (.string ⟨z.toArray⟩)] 0 _ (by rw [List.getElem?_map, hz1]; rfl) rfl)
                  rw [h2] at h1
                  simpa using h1) (hb hne).2 (by simp; omega) (by simpa using hc) (by rw [hd]; exact hl)
                rw [hd] at hj
                simpa using hj
        exact (VC.plainAt (ins := [(false, [v]), (false, [.string ⟨[b].toArray⟩])]) (ag := false) (rs := [.string ⟨(Lib.join Z [b]).toArray⟩]) (fun u hu => by rw [List.mem_singleton.1 hu]; rfl) hc [v, .string ⟨[b].toArray⟩] ⟨rfl, fun c ag ts v' h1 h2 => by
          have hone : v.oneCell' = true := g1.one
          match c, h1, h2 with
          | 0, h1, h2 => cases h1; cases h2; exact ⟨[v], rfl, rfl, fun j t u h3 h4 => by match j, h3, h4 with | 0, h3, h4 => cases h3; cases h4; exact .lit hone⟩
          | 1, h1, h2 => cases h1; cases h2; exact ⟨[_], rfl, rfl, fun j t u h3 h4 => by match j, h3, h4 with | 0, h3, h4 => cases h3; cases h4; exact .lit rfl⟩⟩)
set_option maxRecDepth 100000 in
set_option maxHeartbeats 2000000 in
theorem vfpair_i (x : PairD) : VCD Tryd.prog 81 [(true, tPair x)] false [(false, [.lit (.string (⟨(PairD.txt x).toArray⟩))])] := by
  refine VCD.enter Tryd.func81 rfl Tryd.ntmps81 (Nat.le_of_ble_eq_true rfl) fun E hE hD => ?_
  have f1 := fmt_length x.fLeft
  have f2 := fmt_length x.fRight
  refine SV.seq' ?_
  refine SV.region ?_
  refine SV.op (OpMk.ok (ok_box (kk := 0) (ag := true) (xs := [.sc _, .sc _, .sc _, .sc _, .sc _, .sc _, .sc _]) rfl rfl rfl (fun h => by cases h) rfl rfl (Nat.le_of_ble_eq_true rfl))) rfl ?_
  refine SV.op (OpL.ok (nb := 1) (ok_move (v := V.one (.sc _)) (.inr rfl) rfl) rfl (Nat.le_of_ble_eq_true rfl)) rfl ?_
  refine SV.nil ?_
  refine SV.tn ?_
  refine SV.seq' ?_
  refine SV.seq' ?_
  refine SV.region ?_
  refine SV.op (OpL.ok (nb := 1) (ok_field_bp (b := 0) (o' := 0) (off := 6) rfl rfl fld_impl_Pair_2) rfl (Nat.le_of_ble_eq_true rfl)) rfl ?_
  refine SV.op (OpL.ok (nb := 1) (ok_load_bp (b := 0) (i := 6) (ag := false) (m := 1) (ys := [.sc _]) rfl rfl rfl agg_bool sz_bool (fun _ => rfl) rfl rfl (Nat.le_of_ble_eq_true rfl)) rfl (Nat.le_of_ble_eq_true rfl)) rfl ?_
  refine SV.op (OpL.ok (nb := 1) (ok_s1 (x := .tmp 4) (VScal.one rfl) (fun ρ h1 w => by go_simp; (try go_bits); with_reducible rfl) rfl) rfl (Nat.le_of_ble_eq_true rfl)) rfl ?_
  refine SV.nil ?_
  refine SV.tn ?_
  refine SV.cond rfl (fun hc0 => ?_) (fun hc0 => ?_)
  · skip   -- c0.T
    refine SV.seq' ?_
    refine SV.region ?_
    refine SV.op (OpL.ok (nb := 1) (ok_field_bp (b := 0) (o' := 0) (off := 0) rfl rfl fld_impl_Pair_0) rfl (Nat.le_of_ble_eq_true rfl)) rfl ?_
    refine SV.op (OpL.ok (nb := 1) (ok_load_bp (b := 0) (i := 0) (ag := true) (m := 3) (ys := [.sc _, .sc _, .sc _]) rfl rfl rfl agg_impl_Row sz_impl_Row (fun h => by cases h) rfl rfl (Nat.le_of_ble_eq_true rfl)) rfl (Nat.le_of_ble_eq_true rfl)) rfl ?_
    refine SV.op (OpMk.ok (ok_callD (ls := [(false, [.sc _])]) hD rfl rfl ⟨_, _, Tryd.func121, rfl, by decide⟩ (vfrow_i x.fLeft) ⟨⟨[.sc _, .sc _, .sc _], rfl, ⟨rfl, rfl, rfl, trivial⟩⟩, trivial⟩ rfl (Nat.le_of_ble_eq_true rfl))) rfl ?_
    refine SV.op (OpL.ok (nb := 1) (ok_move (v := V.one (.sc _)) (.inr rfl) rfl) rfl (Nat.le_of_ble_eq_true rfl)) rfl ?_
    refine SV.nil ?_
    refine SV.tn ?_
    refine SV.ret ?_
    refine SV.tr ?_
    apply SV.done (hf := Tryd.results81) (ht := rfl) (he := .inl rfl)
    case hr => exact (ResAll.cons (ResOk.tmp (ag := false) (xs := [.sc _]) rfl) ResAll.nil')
    case h2 => simp [two]
    refine ⟨rfl, ⟨?_, trivial⟩, trivial⟩ <;> (show some (T.lit (Value.string _)) = some (T.lit (Value.string _)); unfold PairD.txt; first | (rw [if_neg (by simpa using hc0), List.append_nil]; done) | (rw [if_pos (by simpa using hc0)]; simp; done))
  · skip   -- c0.F
    refine SV.skip ?_
    refine SV.tn ?_
    refine SV.seq' ?_
    refine SV.draw [.q 0, .q 1, .q 4, .q 5, .m 2, .q 3, .m 6, .q 7, .q 8] [] (by kernel_rfl) (by kernel_rfl) ?_
    refine DW.q rfl (ok_field_bp (b := 0) (o' := 0) (off := 0) rfl rfl fld_impl_Pair_0) rfl rfl (Nat.le_of_ble_eq_true rfl) (fun _ _ _ _ h => h) ?_
    refine DW.q rfl (ok_load_bp (b := 0) (i := 0) (ag := true) (m := 3) (ys := [.sc _, .sc _, .sc _]) rfl rfl rfl agg_impl_Row sz_impl_Row (fun h => by cases h) rfl rfl (Nat.le_of_ble_eq_true rfl)) rfl rfl (Nat.le_of_ble_eq_true rfl) (fun _ _ _ _ h => h) ?_
    refine DW.q rfl (ok_field_bp (b := 0) (o' := 0) (off := 3) rfl rfl fld_impl_Pair_1) rfl rfl (Nat.le_of_ble_eq_true rfl) (fun _ _ _ _ h => h) ?_
    refine DW.q rfl (ok_load_bp (b := 0) (i := 3) (ag := true) (m := 3) (ys := [.sc _, .sc _, .sc _]) rfl rfl rfl agg_impl_Row sz_impl_Row (fun h => by cases h) rfl rfl (Nat.le_of_ble_eq_true rfl)) rfl rfl (Nat.le_of_ble_eq_true rfl) (fun _ _ _ _ h => h) ?_
    refine DW.m [] rfl (ok_callD (ls := [(false, [.sc _])]) hD rfl rfl ⟨_, _, Tryd.func121, rfl, by decide⟩ (vfrow_i x.fLeft) ⟨⟨[.sc _, .sc _, .sc _], rfl, ⟨rfl, rfl, rfl, trivial⟩⟩, trivial⟩ rfl (Nat.le_of_ble_eq_true rfl)) rfl (Nat.le_of_ble_eq_true rfl) (Nat.le_of_ble_eq_true rfl) (.inl rfl) (fun j hj => by cases hj) ?_
    refine DW.q rfl (ok_s2 (v := .string ⟨List.toArray (_ ++ _)⟩) (x := .tmp 11) (x' := .const ((Value.string { data := #[45] }))) (VScal.one rfl) (VScal.one rfl) (fun ρ h1 h2 w => cat_run rfl h1 h2 (by first | omega | (simp only [List.length_append, List.length_cons, List.length_nil]; omega))) rfl) rfl rfl (Nat.le_of_ble_eq_true rfl) (fun _ _ _ _ h => h) ?_
    refine DW.m [] rfl (ok_callD (ls := [(false, [.sc _])]) hD rfl rfl ⟨_, _, Tryd.func121, rfl, by decide⟩ (vfrow_i x.fRight) ⟨⟨[.sc _, .sc _, .sc _], rfl, ⟨rfl, rfl, rfl, trivial⟩⟩, trivial⟩ rfl (Nat.le_of_ble_eq_true rfl)) rfl (Nat.le_of_ble_eq_true rfl) (Nat.le_of_ble_eq_true rfl) (.inl rfl) (fun j hj => by cases hj) ?_
    refine DW.q rfl (ok_s2 (v := .string ⟨List.toArray (_ ++ _)⟩) (x := .tmp 12) (x' := .tmp 15) (VScal.one rfl) (VScal.one rfl) (fun ρ h1 h2 w => cat_run rfl h1 h2 (by first | omega | (simp only [List.length_append, List.length_cons, List.length_nil]; omega))) rfl) rfl rfl (Nat.le_of_ble_eq_true rfl) (fun _ _ _ _ h => h) ?_
    refine DW.q rfl (ok_move (v := V.one (.sc _)) (.inr rfl) rfl) rfl rfl (Nat.le_of_ble_eq_true rfl) (fun _ _ _ _ h => h) ?_
    refine DW.stores ?_
    refine SV.zend ?_
    refine SV.tn ?_
    refine SV.ret ?_
    apply SV.done (hf := Tryd.results81) (ht := rfl) (he := .inl rfl)
    case hr => exact (ResAll.cons (ResOk.tmp (ag := false) (xs := [.sc _]) rfl) ResAll.nil')
    case h2 => simp [two]
    refine ⟨rfl, ⟨?_, trivial⟩, trivial⟩ <;> (show some (T.lit (Value.string _)) = some (T.lit (Value.string _)); unfold PairD.txt; first | (rw [if_neg (by simpa using hc0), List.append_nil]; done) | (rw [if_pos (by simpa using hc0)]; simp; done))
set_option maxRecDepth 100000 in
set_option maxHeartbeats 2000000 in
theorem vfpairs_i (X : List PairD) (hX : X.length ≤ 1048576) : VCD Tryd.prog 30 [(false, [.seq 57 (X.map tPair)])] false [(false, [.lit (.string (⟨(Lib.join (X.map PairD.txt) [32]).toArray⟩))])] := by
  refine VCD.enter Tryd.func30 rfl Tryd.ntmps30 (Nat.le_of_ble_eq_true rfl) fun E hE hD => ?_
  refine SV.seq' ?_
  refine SV.region ?_
  refine SV.op (OpL.ok (nb := 0) (ok_move (v := V.one (.sc _)) (.inr rfl) rfl) rfl (Nat.le_of_ble_eq_true rfl)) rfl ?_
  refine SV.nil ?_
  refine SV.tn ?_
  refine SV.seq' ?_
  refine SV.region ?_
  refine SV.op (OpL.ok (nb := 0) (ok_move (v := V.one (.ro _)) (.inl rfl) rfl) rfl (Nat.le_of_ble_eq_true rfl)) rfl ?_
  refine SV.op (OpL.ok (nb := 0) (ok_len (lf := .ro _) rfl elt_impl_Pair.und rfl rfl) rfl (Nat.le_of_ble_eq_true rfl)) rfl ?_
  refine SV.op (OpMk.ok (ok_make (kk := 0) (zs := [.sc _]) elt_string rfl rfl rfl rfl ⟨rfl, rfl, trivial⟩ rfl (by rw [List.length_map]; omega) rfl (Nat.le_of_ble_eq_true rfl))) rfl ?_
  refine SV.op (OpL.ok (nb := 0) (ok_move (v := V.one (.hd 0)) (.inr rfl) rfl) rfl (Nat.le_of_ble_eq_true rfl)) rfl ?_
  refine SV.nil ?_
  refine SV.tn ?_
  refine SV.seq' ?_
  refine SV.seq' ?_
  refine SV.region ?_
  refine SV.op (OpL.ok (nb := 0) (ok_move (v := V.one (.ro _)) (.inl rfl) rfl) rfl (Nat.le_of_ble_eq_true rfl)) rfl ?_
  refine SV.op (OpL.ok (nb := 0) (ok_len (lf := .ro _) rfl elt_impl_Pair.und rfl rfl) rfl (Nat.le_of_ble_eq_true rfl)) rfl ?_
  refine SV.op (OpL.ok (nb := 0) (ok_move (v := V.one (.sc _)) (.inl rfl) rfl) rfl (Nat.le_of_ble_eq_true rfl)) rfl ?_
  refine SV.nil ?_
  refine SV.tn ?_
  refine SV.block ?_
  refine SV.loopF (X := Nat) (fun (σ : VS) t => ((((((VS.nil.new (.seq 9 (toL (fun x => [.lit (.string ⟨(PairD.txt x).toArray⟩)]) [.lit (.string ⟨#[]⟩)] X t))).put 2 (σ.tm 2)).put 3 (V.flat false [.hd 0])).put 9 (σ.tm 9)).put 10 (σ.tm 10)).put 11 (V.flat false [.sc (.int .i64 ((t : Int)))]))) (fun t => t ≤ X.length) (fun t => X.length - t) ?_ ?_
  · skip
    refine SV.again (fun i => [0].getD i 0) 0 ((by first | exact Nat.zero_le _ | (refine ⟨Nat.zero_le _, ?_⟩; simp; done) | (simp; done) | omega)) (pins hE rfl rfl) (VS.le.mk' (le_put (le_put (le_put (le_put (le_put (le_new le_nil) (V.le.keep (ag := false) (xs := [.sc _]) (ys := [.sc _]) rfl rfl ⟨rfl, trivial⟩)) (V.le.keep (ag := false) (xs := [.hd 0]) (ys := [.hd 0]) rfl rfl ⟨⟨rfl, (Nat.le_of_ble_eq_true rfl), (Nat.le_of_ble_eq_true rfl)⟩, trivial⟩)) (V.le.keep (ag := false) (xs := [.ro _]) (ys := [.ro _]) rfl rfl ⟨rfl, trivial⟩)) (V.le.keep (ag := false) (xs := [.sc _]) (ys := [.sc _]) rfl rfl ⟨rfl, trivial⟩)) (V.le.keep (ag := false) (xs := [.sc _]) (ys := [.sc _]) rfl rfl ⟨(by first | rfl | (show Leaf.sc _ = Leaf.sc _; refine congrArg Leaf.sc ?_; first | rfl | go_num | (simp [cntAll]; done)) | (simp [cntAll]; done) | (simp; omega)), trivial⟩)) trivial ⟨.inr ⟨_, _, rfl, ?ob1_0, (Nat.le_of_ble_eq_true rfl)⟩, trivial⟩ (new_ob nil_ob) (fun i j hi hj e => inj_list (l := [0]) (by decide) i j hi hj e))
    case ob1_0 =>
      show some (T.seq _ _) = some (T.seq _ _)
      rw [toL_zero, List.length_map]; rfl
  · rintro t ht
    refine SV.seq' ?_
    refine SV.region ?_
    refine SV.op (OpL.ok (nb := 0) (ok_s2 (x := .tmp 11) (x' := .tmp 10) (VScal.one rfl) (VScal.one rfl) (fun ρ h1 h2 w => by go_simp; (try go_bits); with_reducible rfl) rfl) rfl (Nat.le_of_ble_eq_true rfl)) rfl ?_
    refine SV.nil ?_
    refine SV.tn ?_
    refine SV.seq' ?_
    refine SV.cond rfl (fun hc0 => ?_) (fun hc0 => ?_)
    · skip   -- c0.T
      have htl : t < X.length := by simpa using hc0
      have hx : X[t]? = some X[t] := by simp [htl]
      refine SV.skip ?_
      refine SV.tn ?_
      refine SV.seq' ?_
      refine SV.block ?_
      refine SV.seq' ?_
      refine SV.region ?_
      refine SV.op (OpL.ok (nb := 0) (ok_move (v := V.one (.sc _)) (.inl rfl) rfl) rfl (Nat.le_of_ble_eq_true rfl)) rfl ?_
      refine SV.op (OpL.ok (nb := 0) (ok_index (n := 7) (lf := .ro _) rfl elt_impl_Pair.und sz_impl_Pair rfl rfl rfl (map_at (by assumption))) rfl (Nat.le_of_ble_eq_true rfl)) rfl ?_
      refine SV.op (OpL.ok (nb := 0) (ok_load_rp (ag := true) (m := 7) (ys := [.sc _, .sc _, .sc _, .sc _, .sc _, .sc _, .sc _]) rfl rfl agg_impl_Pair sz_impl_Pair (fun h => by cases h) (Nat.le_of_ble_eq_true rfl) rfl) rfl (Nat.le_of_ble_eq_true rfl)) rfl ?_
      refine SV.op (OpMk.ok (ok_alloc (kk := 0) (xs := [.sc _, .sc _, .sc _, .sc _, .sc _, .sc _, .sc _]) rfl rfl zero_impl_Pair ⟨rfl, rfl, rfl, rfl, rfl, rfl, rfl, rfl, rfl, rfl, rfl, rfl, rfl, rfl, trivial⟩ rfl (Nat.le_of_ble_eq_true rfl))) rfl ?_
      refine SV.op (OpL.ok (nb := 1) (ok_move (v := V.one (.sc _)) (.inr rfl) rfl) rfl (Nat.le_of_ble_eq_true rfl)) rfl ?_
      refine SV.op (ok_store_bp (b := 0) (i := 0) (m := 7) (ag := true) (zs := [.sc _, .sc _, .sc _, .sc _, .sc _, .sc _, .sc _]) (ys := [.sc _, .sc _, .sc _, .sc _, .sc _, .sc _, .sc _]) rfl rfl rfl rfl sz_impl_Pair (fun h => by cases h) rfl (Nat.le_of_ble_eq_true rfl) rfl rfl rfl) rfl ?_
      refine SV.nil ?_
      refine SV.tn ?_
      refine SV.region ?_
      refine SV.op (OpL.ok (nb := 1) (ok_move (v := V.one (.hd 0)) (.inl rfl) rfl) rfl (Nat.le_of_ble_eq_true rfl)) rfl ?_
      refine SV.op (OpL.ok (nb := 1) (ok_move (v := V.one (.sc _)) (.inl rfl) rfl) rfl (Nat.le_of_ble_eq_true rfl)) rfl ?_
      refine SV.op (OpL.ok (nb := 1) (ok_load_bp (b := 0) (i := 0) (ag := true) (m := 7) (ys := [.sc _, .sc _, .sc _, .sc _, .sc _, .sc _, .sc _]) rfl rfl rfl agg_impl_Pair sz_impl_Pair (fun h => by cases h) rfl rfl (Nat.le_of_ble_eq_true rfl)) rfl (Nat.le_of_ble_eq_true rfl)) rfl ?_
      refine SV.op (OpMk.ok (ok_callD (ls := [(false, [.sc _])]) hD rfl rfl ⟨_, _, Tryd.func81, rfl, by decide⟩ (vfpair_i X[t]) ⟨⟨[.sc _, .sc _, .sc _, .sc _, .sc _, .sc _, .sc _], rfl, ⟨rfl, rfl, rfl, rfl, rfl, rfl, rfl, trivial⟩⟩, trivial⟩ rfl (Nat.le_of_ble_eq_true rfl))) rfl ?_
      refine SV.op (OpL.ok (nb := 1) (ok_index (n := 1) (lf := .hd 0) rfl elt_string.und sz_string rfl rfl rfl (toL_at htl)) rfl (Nat.le_of_ble_eq_true rfl)) rfl ?_
      refine SV.op (ok_store_ep (i := 0) (n := 1) (m := 1) (ag := false) (zs := [.sc _]) rfl rfl rfl rfl (toL_at htl) sz_string (fun _ => rfl) rfl sz_string (Nat.le_of_ble_eq_true rfl) (outs_c rfl outs_n) (by simp [two]) rfl rfl rfl) rfl ?_
      refine SV.nil ?_
      refine SV.bn ?_
      refine SV.tn ?_
      refine SV.region ?_
      refine SV.op (OpL.ok (nb := 1) (ok_s2 (x := .tmp 11) (x' := .const ((Value.int IntKind.i64 1))) (VScal.one rfl) (VScal.one rfl) (fun ρ h1 h2 w => by go_simp; (try go_bits); with_reducible rfl) rfl) rfl (Nat.le_of_ble_eq_true rfl)) rfl ?_
      refine SV.op (OpL.ok (nb := 1) (ok_move (v := V.one (.sc _)) (.inl rfl) rfl) rfl (Nat.le_of_ble_eq_true rfl)) rfl ?_
      refine SV.nil ?_
      refine SV.tn ?_
      refine SV.again (fun i => [0].getD i 0) (t + 1) (⟨by omega, by omega⟩) (pins hE rfl rfl) (VS.le.mk' (le_put (le_put (le_put (le_put (le_put (le_new le_nil) (V.le.keep (ag := false) (xs := [.sc _]) (ys := [.sc _]) rfl rfl ⟨rfl, trivial⟩)) (V.le.keep (ag := false) (xs := [.hd 0]) (ys := [.hd 0]) rfl rfl ⟨⟨rfl, (Nat.le_of_ble_eq_true rfl), (Nat.le_of_ble_eq_true rfl)⟩, trivial⟩)) (V.le.keep (ag := false) (xs := [.ro _]) (ys := [.ro _]) rfl rfl ⟨rfl, trivial⟩)) (V.le.keep (ag := false) (xs := [.sc _]) (ys := [.sc _]) rfl rfl ⟨rfl, trivial⟩)) (V.le.keep (ag := false) (xs := [.sc _]) (ys := [.sc _]) rfl rfl ⟨(by first | rfl | (show Leaf.sc _ = Leaf.sc _; refine congrArg Leaf.sc ?_; first | rfl | go_num | (simp [cntAll]; done)) | (simp [cntAll]; done) | (simp; omega)), trivial⟩)) trivial ⟨.inr ⟨_, _, rfl, ?ob2_0, (Nat.le_of_ble_eq_true rfl)⟩, trivial⟩ (new_ob nil_ob) (fun i j hi hj e => inj_list (l := [0]) (by decide) i j hi hj e))
      case ob2_0 =>
        show some (T.seq _ _) = some (T.seq _ _)
        rw [← toL_next htl]; rfl
    · skip   -- c0.F
      have hte : ¬ t < X.length := by simpa using hc0
      have hj := vjoin_strs (X.map PairD.txt) 32 (by simp; omega) (by have := PairD.join_len_le X; omega)
      rw [show (X.map PairD.txt).map (fun z => [T.lit (.string ⟨z.toArray⟩)]) = toL (fun x => [T.lit (.string ⟨(PairD.txt x).toArray⟩)]) [T.lit (.string ⟨#[]⟩)] X t from ((toL_all hte).trans (by rw [List.map_map]; rfl)).symm] at hj
      refine SV.exit ?_
      refine SV.te ?_
      refine SV.te ?_
      refine SV.bh ?_
      refine SV.tn ?_
      refine SV.seq' ?_
      refine SV.region ?_
      refine SV.op (OpL.ok (nb := 0) (ok_move (v := V.one (.hd 0)) (.inl rfl) rfl) rfl (Nat.le_of_ble_eq_true rfl)) rfl ?_
      refine SV.op (OpMk.ok (ok_call (ls := [(false, [.sc _])]) rfl rfl ⟨_, _, Tryd.func82, rfl, by decide⟩ (hj) ⟨⟨[.hd 0], rfl, ⟨rfl, trivial⟩⟩, ⟨[.sc _], rfl, ⟨rfl, trivial⟩⟩, trivial⟩ rfl (Nat.le_of_ble_eq_true rfl))) rfl ?_
      refine SV.op (OpL.ok (nb := 0) (ok_move (v := V.one (.sc _)) (.inr rfl) rfl) rfl (Nat.le_of_ble_eq_true rfl)) rfl ?_
      refine SV.nil ?_
      refine SV.tn ?_
      refine SV.ret ?_
      apply SV.done (hf := Tryd.results30) (ht := rfl) (he := .inl rfl)
      case hr => exact (ResAll.cons (ResOk.tmp (ag := false) (xs := [.sc _]) rfl) ResAll.nil')
      case h2 => simp [two]
      refine ⟨rfl, ⟨?_, trivial⟩, trivial⟩ <;> rfl
end Go.Proofs.YtlnjgoommpeioaaDoor
/- The law of the joins: told by trees. -/
namespace Go.Proofs.YtlnjgoommpeioaaDoor
open Go Go.RowKit V
set_option linter.unusedVariables false
theorem vbigQ {ad : Option Addr} {len cap : Nat} {zs : List Int} : VCP (fun w => Code ad len cap zs w ∧ Tab w) Tryd.prog 9 [(false, [.lit (.slice ad len cap)])] false [(false, [.lit (.bool false)])] := fun w hw vs hv => VC.plainAt (ins := [(false, [.slice ad len cap])]) (ag := false) (rs := [.bool false]) (fun u hu => by rw [List.mem_singleton.1 hu]; rfl) ((big_no ad len cap w hw.1.small).mono fun e w' ⟨he, hw'⟩ => ⟨he, hw' ▸ Below.refl _ _⟩) vs hv
theorem VCE.mono {Y : Type} {Φ Ψ : World → Prop} {Pr : Y → Prop} {f : FuncId} {ins : List (Bool × List V.T)} {tup : Bool} {rs : Y → List (Bool × List V.T)} (h : ∀ w, Φ w → Ψ w) (k : VCE Ψ Pr Tryd.prog f ins tup rs) : VCE Φ Pr Tryd.prog f ins tup rs := fun w hw => k w (h w hw)
theorem VCD.toP {Φ : World → Prop} {f : FuncId} {ins rs : List (Bool × List V.T)} {tup : Bool} (h : ∀ w, Φ w → Tab w) (k : VCD Tryd.prog f ins tup rs) : VCP Φ Tryd.prog f ins tup rs := fun w hw => k w (h w hw)
theorem vbags_sT (X : List PairD) (h : X.length ≤ 1048576) : VC Tryd.prog 28 [(false, [.seq 57 (X.map tPair)]), (false, [.seq 57 (X.map tPair)])] false [(false, [.lit (.bool true)])] := by
  have := vbags_s X X h h
  rwa [decide_eq_true rfl] at this
theorem vleft_iT (A B : List R) (hA : A.length ≤ 901) (hB : B.length ≤ 901) : VC Tryd.prog 37 [(false, [.seq 57 ((PairD.join 4 A B).map tPair)]), (false, [.seq 57 ([] ++ (PairD.join 1 A B).map tPair ++ (PairD.join 3 A B).map tPair)])] false [(false, [.lit (.bool true)])] := by
  have := vbags_i (PairD.join 4 A B) (PairD.join 1 A B ++ PairD.join 3 A B) (by have := PairD.join_small (k := 4) hA hB; omega) (by have := PairD.left_len hA hB; omega)
  rw [decide_eq_true (PairD.left_sort A B), List.map_append] at this
  exact this
theorem PairD.cmp_range (x y : PairD) : -1 ≤ PairD.cmp x y ∧ PairD.cmp x y ≤ 1 := by
  have h1 := R.cmp_range x.fLeft y.fLeft
  have h2 := R.cmp_range x.fRight y.fRight
  unfold PairD.cmp
  split
  · exact h1
  · split
    · split <;> decide
    · exact h2
set_option maxRecDepth 100000 in
set_option maxHeartbeats 2000000 in
theorem vlaw (ad : Option Addr) (len cap : Nat) (zs : List Int) : VCP (fun w => Code ad len cap zs w ∧ Tab w) Tryd.prog 4 [(false, [.lit (.slice ad len cap)])] false [(false, [.lit (.bool true)])] := by
  refine VCP.enter (fun w w' h hb => ⟨h.1.below hb, h.2.stay hb⟩) Tryd.func4 rfl Tryd.ntmps4 (Nat.le_of_ble_eq_true rfl) fun E hE hD => ?_
  refine SV.seq' ?_
  refine SV.region ?_
  refine SV.op (OpL.ok (nb := 0) (ok_move (v := V.one (.sc _)) (.inr rfl) rfl) rfl (Nat.le_of_ble_eq_true rfl)) rfl ?_
  refine SV.nil ?_
  refine SV.tn ?_
  refine SV.seq' ?_
  refine SV.seq' ?_
  refine SV.region ?_
  refine SV.op (OpL.ok (nb := 0) (ok_move (v := V.one (.sc _)) (.inl rfl) rfl) rfl (Nat.le_of_ble_eq_true rfl)) rfl ?_
  refine SV.op (OpMk.ok (ok_callP (ls := [(false, [.sc _])]) hD rfl rfl ⟨_, _, Tryd.func9, rfl, by decide⟩ (vbigQ) ⟨⟨[.sc _], rfl, ⟨rfl, trivial⟩⟩, trivial⟩ rfl (Nat.le_of_ble_eq_true rfl))) rfl ?_
  refine SV.nil ?_
  refine SV.tn ?_
  refine SV.cond rfl (fun hc0 => ?_) (fun hc0 => ?_)
  · skip   -- c0.T
    simp at hc0
  · skip   -- c0.F
    refine SV.skip ?_
    refine SV.tn ?_
    refine SV.seq' ?_
    refine SV.region ?_
    refine SV.op (OpL.ok (nb := 0) (ok_move (v := V.one (.sc _)) (.inl rfl) rfl) rfl (Nat.le_of_ble_eq_true rfl)) rfl ?_
    refine SV.callE hD rfl ⟨_, _, Tryd.func26, rfl, by decide⟩ (draw_joinV fun w h => h.1) ⟨⟨[.sc _], rfl, ⟨rfl, trivial⟩⟩, trivial⟩ rfl (Nat.le_of_ble_eq_true rfl) rfl ?_
    rintro ⟨k, A, B⟩ ⟨hA, hB, hwA, hwB⟩
    replace hA : A.length ≤ 901 := hA
    replace hB : B.length ≤ 901 := hB
    have hAB : A.length + B.length ≤ 1048576 := by have h1 : A.length ≤ 901 := hA; have h2 : B.length ≤ 901 := hB; omega
    refine SV.op (OpL.ok (nb := 0) (ok_move (v := ⟨true, [(false, [.sc _]), (false, [.hd 0]), (false, [.hd 1])]⟩) (.inl rfl) rfl) rfl (Nat.le_of_ble_eq_true rfl)) rfl ?_
    refine SV.op (OpL.ok (nb := 0) (ok_extract (ag := false) (xs := [.sc _]) rfl rfl rfl) rfl (Nat.le_of_ble_eq_true rfl)) rfl ?_
    refine SV.op (OpL.ok (nb := 0) (ok_extract (ag := false) (xs := [.hd 0]) rfl rfl rfl) rfl (Nat.le_of_ble_eq_true rfl)) rfl ?_
    refine SV.op (OpL.ok (nb := 0) (ok_extract (ag := false) (xs := [.hd 1]) rfl rfl rfl) rfl (Nat.le_of_ble_eq_true rfl)) rfl ?_
    refine SV.op (OpL.ok (nb := 0) (ok_move (v := V.one (.sc _)) (.inr rfl) rfl) rfl (Nat.le_of_ble_eq_true rfl)) rfl ?_
    refine SV.op (OpL.ok (nb := 0) (ok_move (v := V.one (.hd 0)) (.inr rfl) rfl) rfl (Nat.le_of_ble_eq_true rfl)) rfl ?_
    refine SV.op (OpL.ok (nb := 0) (ok_move (v := V.one (.hd 1)) (.inr rfl) rfl) rfl (Nat.le_of_ble_eq_true rfl)) rfl ?_
    refine SV.nil ?_
    refine SV.tn ?_
    refine SV.seq' ?_
    refine SV.region ?_
    refine SV.op (OpL.ok (nb := 0) (ok_move (v := V.one (.sc _)) (.inl rfl) rfl) rfl (Nat.le_of_ble_eq_true rfl)) rfl ?_
    refine SV.op (OpL.ok (nb := 0) (ok_move (v := V.one (.hd 0)) (.inl rfl) rfl) rfl (Nat.le_of_ble_eq_true rfl)) rfl ?_
    refine SV.op (OpL.ok (nb := 0) (ok_move (v := V.one (.hd 1)) (.inl rfl) rfl) rfl (Nat.le_of_ble_eq_true rfl)) rfl ?_
    refine SV.op (OpMk.ok (ok_call (ls := [(false, [.hd 2])]) rfl rfl ⟨_, _, Tryd.func27, rfl, by decide⟩ (vjoin_i k A B hAB) ⟨⟨[.sc _], rfl, ⟨rfl, trivial⟩⟩, ⟨[.hd 0], rfl, ⟨rfl, trivial⟩⟩, ⟨[.hd 1], rfl, ⟨rfl, trivial⟩⟩, trivial⟩ rfl (Nat.le_of_ble_eq_true rfl))) rfl ?_
    refine SV.op (OpL.ok (nb := 0) (ok_move (v := V.one (.hd 2)) (.inr rfl) rfl) rfl (Nat.le_of_ble_eq_true rfl)) rfl ?_
    refine SV.nil ?_
    refine SV.tn ?_
    refine SV.seq' ?_
    refine SV.seq' ?_
    refine SV.region ?_
    refine SV.op (OpL.ok (nb := 0) (ok_move (v := V.one (.hd 2)) (.inl rfl) rfl) rfl (Nat.le_of_ble_eq_true rfl)) rfl ?_
    refine SV.op (OpL.ok (nb := 0) (ok_move (v := V.one (.sc _)) (.inl rfl) rfl) rfl (Nat.le_of_ble_eq_true rfl)) rfl ?_
    refine SV.op (OpL.ok (nb := 0) (ok_move (v := V.one (.hd 0)) (.inl rfl) rfl) rfl (Nat.le_of_ble_eq_true rfl)) rfl ?_
    refine SV.op (OpL.ok (nb := 0) (ok_move (v := V.one (.hd 1)) (.inl rfl) rfl) rfl (Nat.le_of_ble_eq_true rfl)) rfl ?_
    refine SV.op (OpMk.ok (ok_call (ls := [(false, [.hd 3])]) rfl rfl ⟨_, _, Tryd.func29, rfl, by decide⟩ (vjoin_s k A B hAB) ⟨⟨[.sc _], rfl, ⟨rfl, trivial⟩⟩, ⟨[.hd 0], rfl, ⟨rfl, trivial⟩⟩, ⟨[.hd 1], rfl, ⟨rfl, trivial⟩⟩, trivial⟩ rfl (Nat.le_of_ble_eq_true rfl))) rfl ?_
    refine SV.op (OpMk.ok (ok_call (ls := [(false, [.sc _])]) rfl rfl ⟨_, _, Tryd.func28, rfl, by decide⟩ (vbags_sT (PairD.join k A B) (by have := PairD.join_small (k := k) hA hB; omega)) ⟨⟨[.hd 2], rfl, ⟨rfl, trivial⟩⟩, ⟨[.hd 3], rfl, ⟨rfl, trivial⟩⟩, trivial⟩ rfl (Nat.le_of_ble_eq_true rfl))) rfl ?_
    refine SV.op (OpL.ok (nb := 0) (ok_s1 (x := .tmp 35) (VScal.one rfl) (fun ρ h1 w => by go_simp; (try go_bits); with_reducible rfl) rfl) rfl (Nat.le_of_ble_eq_true rfl)) rfl ?_
    refine SV.op (OpL.ok (nb := 0) (ok_move (v := V.one (.sc _)) (.inl rfl) rfl) rfl (Nat.le_of_ble_eq_true rfl)) rfl ?_
    refine SV.split (d := 37) rfl (fun hg0 => ?_) (fun hg0 => ?_)
    · skip   -- g0.T
      (exfalso; first | (simp at hg0; done) | (simp at hg0; omega))
    · skip   -- g0.F
      refine SV.opY (OpL.ok (nb := 0) (ok_move (v := V.one (.hd 2)) (.inl rfl) rfl) rfl (Nat.le_of_ble_eq_true rfl)) rfl rfl rfl (Nat.le_of_ble_eq_true rfl) rfl rfl ?_
      refine SV.opY (OpMk.ok (ok_callP (ls := [(false, [.sc _])]) hD rfl rfl ⟨_, _, Tryd.func30, rfl, by decide⟩ (VCD.toP (fun w h => h.2) (vfpairs_i (PairD.join k A B) (by have := PairD.join_small (k := k) hA hB; omega))) ⟨⟨[.hd 2], rfl, ⟨rfl, trivial⟩⟩, trivial⟩ rfl (Nat.le_of_ble_eq_true rfl))) rfl rfl rfl (Nat.le_of_ble_eq_true rfl) rfl rfl ?_
      refine SV.opY (OpL.ok (nb := 0) (ok_move (v := V.one (.sc _)) (.inl rfl) rfl) rfl (Nat.le_of_ble_eq_true rfl)) rfl rfl rfl (Nat.le_of_ble_eq_true rfl) rfl rfl ?_
      refine SV.opY (OpL.ok (nb := 0) (ok_move (v := V.one (.hd 0)) (.inl rfl) rfl) rfl (Nat.le_of_ble_eq_true rfl)) rfl rfl rfl (Nat.le_of_ble_eq_true rfl) rfl rfl ?_
      refine SV.opY (OpL.ok (nb := 0) (ok_move (v := V.one (.hd 1)) (.inl rfl) rfl) rfl (Nat.le_of_ble_eq_true rfl)) rfl rfl rfl (Nat.le_of_ble_eq_true rfl) rfl rfl ?_
      refine SV.opY (OpMk.ok (ok_call (ls := [(false, [.hd 4])]) rfl rfl ⟨_, _, Tryd.func29, rfl, by decide⟩ (vjoin_s k A B hAB) ⟨⟨[.sc _], rfl, ⟨rfl, trivial⟩⟩, ⟨[.hd 0], rfl, ⟨rfl, trivial⟩⟩, ⟨[.hd 1], rfl, ⟨rfl, trivial⟩⟩, trivial⟩ rfl (Nat.le_of_ble_eq_true rfl))) rfl rfl rfl (Nat.le_of_ble_eq_true rfl) rfl rfl ?_
      refine SV.opY (OpMk.ok (ok_callP (ls := [(false, [.sc _])]) hD rfl rfl ⟨_, _, Tryd.func31, rfl, by decide⟩ (VCD.toP (fun w h => h.2) (vfpairs_s (PairD.join k A B) (by have := PairD.join_small (k := k) hA hB; omega))) ⟨⟨[.hd 4], rfl, ⟨rfl, trivial⟩⟩, trivial⟩ rfl (Nat.le_of_ble_eq_true rfl))) rfl rfl rfl (Nat.le_of_ble_eq_true rfl) rfl rfl ?_
      refine SV.opY (OpL.ok (nb := 0) (ok_s2 (x := .tmp 39) (x' := .tmp 44) (VScal.one rfl) (VScal.one rfl) (fun ρ h1 h2 w => by go_simp; (try go_bits); with_reducible rfl) rfl) rfl (Nat.le_of_ble_eq_true rfl)) rfl rfl rfl (Nat.le_of_ble_eq_true rfl) rfl rfl ?_
      refine SV.op (OpL.ok (nb := 0) (ok_pickF (v := V.one (.sc _)) rfl rfl rfl) rfl (Nat.le_of_ble_eq_true rfl)) rfl ?_
      refine SV.op (OpL.ok (nb := 0) (ok_move (v := V.one (.sc _)) (.inl rfl) rfl) rfl (Nat.le_of_ble_eq_true rfl)) rfl ?_
      refine SV.split (d := 47) rfl (fun hg1 => ?_) (fun hg1 => ?_)
      · skip   -- g1.T
        (exfalso; first | (simp at hg1; done) | (simp at hg1; omega))
      · skip   -- g1.F
        refine SV.opY (OpL.ok (nb := 0) (ok_move (v := V.one (.sc _)) (.inl rfl) rfl) rfl (Nat.le_of_ble_eq_true rfl)) rfl rfl rfl (Nat.le_of_ble_eq_true rfl) rfl rfl ?_
        refine SV.opY (OpMk.ok (ok_call (ls := [(false, [.sc _])]) rfl rfl ⟨_, _, Tryd.func32, rfl, by decide⟩ (vvalid_i k) ⟨⟨[.sc _], rfl, ⟨rfl, trivial⟩⟩, trivial⟩ rfl (Nat.le_of_ble_eq_true rfl))) rfl rfl rfl (Nat.le_of_ble_eq_true rfl) rfl rfl ?_
        refine SV.opY (OpL.ok (nb := 0) (ok_move (v := V.one (.sc _)) (.inl rfl) rfl) rfl (Nat.le_of_ble_eq_true rfl)) rfl rfl rfl (Nat.le_of_ble_eq_true rfl) rfl rfl ?_
        refine SV.opY (OpMk.ok (ok_call (ls := [(false, [.sc _])]) rfl rfl ⟨_, _, Tryd.func33, rfl, by decide⟩ (vvalid_s k) ⟨⟨[.sc _], rfl, ⟨rfl, trivial⟩⟩, trivial⟩ rfl (Nat.le_of_ble_eq_true rfl))) rfl rfl rfl (Nat.le_of_ble_eq_true rfl) rfl rfl ?_
        refine SV.opY (OpL.ok (nb := 0) (ok_s2 (x := .tmp 49) (x' := .tmp 51) (VScal.one rfl) (VScal.one rfl) (fun ρ h1 h2 w => by go_simp; (try go_bits); with_reducible rfl) rfl) rfl (Nat.le_of_ble_eq_true rfl)) rfl rfl rfl (Nat.le_of_ble_eq_true rfl) rfl rfl ?_
        refine SV.op (OpL.ok (nb := 0) (ok_pickF (v := V.one (.sc _)) rfl rfl rfl) rfl (Nat.le_of_ble_eq_true rfl)) rfl ?_
        refine SV.nil ?_
        refine SV.tn ?_
        refine SV.cond rfl (fun hc1 => ?_) (fun hc1 => ?_)
        · skip   -- c1.T
          (exfalso; first | (simp at hc1; done) | (simp at hc1; omega))
        · skip   -- c1.F
          refine SV.skip ?_
          refine SV.tn ?_
          refine SV.seq' ?_
          refine SV.region ?_
          refine SV.op (OpL.ok (nb := 0) (ok_move (v := V.one (.hd 0)) (.inl rfl) rfl) rfl (Nat.le_of_ble_eq_true rfl)) rfl ?_
          refine SV.op (OpL.ok (nb := 0) (ok_move (v := V.one (.hd 1)) (.inl rfl) rfl) rfl (Nat.le_of_ble_eq_true rfl)) rfl ?_
          refine SV.op (OpMk.ok (ok_call (ls := [(false, [.hd 5])]) rfl rfl ⟨_, _, Tryd.func27, rfl, by decide⟩ (vjoin_i 1 A B hAB) ⟨⟨[.sc _], rfl, ⟨rfl, trivial⟩⟩, ⟨[.hd 0], rfl, ⟨rfl, trivial⟩⟩, ⟨[.hd 1], rfl, ⟨rfl, trivial⟩⟩, trivial⟩ rfl (Nat.le_of_ble_eq_true rfl))) rfl ?_
          refine SV.op (OpL.ok (nb := 0) (ok_move (v := V.one (.hd 5)) (.inr rfl) rfl) rfl (Nat.le_of_ble_eq_true rfl)) rfl ?_
          refine SV.nil ?_
          refine SV.tn ?_
          refine SV.seq' ?_
          refine SV.region ?_
          refine SV.op (OpL.ok (nb := 0) (ok_move (v := V.one (.hd 0)) (.inl rfl) rfl) rfl (Nat.le_of_ble_eq_true rfl)) rfl ?_
          refine SV.op (OpL.ok (nb := 0) (ok_move (v := V.one (.hd 1)) (.inl rfl) rfl) rfl (Nat.le_of_ble_eq_true rfl)) rfl ?_
          refine SV.op (OpMk.ok (ok_call (ls := [(false, [.hd 6])]) rfl rfl ⟨_, _, Tryd.func27, rfl, by decide⟩ (vjoin_i 2 A B hAB) ⟨⟨[.sc _], rfl, ⟨rfl, trivial⟩⟩, ⟨[.hd 0], rfl, ⟨rfl, trivial⟩⟩, ⟨[.hd 1], rfl, ⟨rfl, trivial⟩⟩, trivial⟩ rfl (Nat.le_of_ble_eq_true rfl))) rfl ?_
          refine SV.op (OpL.ok (nb := 0) (ok_move (v := V.one (.hd 6)) (.inr rfl) rfl) rfl (Nat.le_of_ble_eq_true rfl)) rfl ?_
          refine SV.nil ?_
          refine SV.tn ?_
          refine SV.seq' ?_
          refine SV.region ?_
          refine SV.op (OpL.ok (nb := 0) (ok_move (v := V.one (.hd 0)) (.inl rfl) rfl) rfl (Nat.le_of_ble_eq_true rfl)) rfl ?_
          refine SV.op (OpL.ok (nb := 0) (ok_move (v := V.one (.hd 1)) (.inl rfl) rfl) rfl (Nat.le_of_ble_eq_true rfl)) rfl ?_
          refine SV.op (OpMk.ok (ok_call (ls := [(false, [.hd 7])]) rfl rfl ⟨_, _, Tryd.func27, rfl, by decide⟩ (vjoin_i 3 A B hAB) ⟨⟨[.sc _], rfl, ⟨rfl, trivial⟩⟩, ⟨[.hd 0], rfl, ⟨rfl, trivial⟩⟩, ⟨[.hd 1], rfl, ⟨rfl, trivial⟩⟩, trivial⟩ rfl (Nat.le_of_ble_eq_true rfl))) rfl ?_
          refine SV.op (OpL.ok (nb := 0) (ok_move (v := V.one (.hd 7)) (.inr rfl) rfl) rfl (Nat.le_of_ble_eq_true rfl)) rfl ?_
          refine SV.nil ?_
          refine SV.tn ?_
          refine SV.seq' ?_
          refine SV.region ?_
          refine SV.op (OpL.ok (nb := 0) (ok_move (v := V.one (.hd 0)) (.inl rfl) rfl) rfl (Nat.le_of_ble_eq_true rfl)) rfl ?_
          refine SV.op (OpL.ok (nb := 0) (ok_move (v := V.one (.hd 1)) (.inl rfl) rfl) rfl (Nat.le_of_ble_eq_true rfl)) rfl ?_
          refine SV.op (OpMk.ok (ok_call (ls := [(false, [.hd 8])]) rfl rfl ⟨_, _, Tryd.func27, rfl, by decide⟩ (vjoin_i 4 A B hAB) ⟨⟨[.sc _], rfl, ⟨rfl, trivial⟩⟩, ⟨[.hd 0], rfl, ⟨rfl, trivial⟩⟩, ⟨[.hd 1], rfl, ⟨rfl, trivial⟩⟩, trivial⟩ rfl (Nat.le_of_ble_eq_true rfl))) rfl ?_
          refine SV.op (OpL.ok (nb := 0) (ok_move (v := V.one (.hd 8)) (.inr rfl) rfl) rfl (Nat.le_of_ble_eq_true rfl)) rfl ?_
          refine SV.nil ?_
          refine SV.tn ?_
          refine SV.seq' ?_
          refine SV.region ?_
          refine SV.op (OpL.ok (nb := 0) (ok_move (v := V.one (.sc _)) (.inr rfl) rfl) rfl (Nat.le_of_ble_eq_true rfl)) rfl ?_
          refine SV.nil ?_
          refine SV.tn ?_
          refine SV.seq' ?_
          refine SV.seq' ?_
          refine SV.region ?_
          refine SV.op (OpL.ok (nb := 0) (ok_move (v := V.one (.sc _)) (.inr rfl) rfl) rfl (Nat.le_of_ble_eq_true rfl)) rfl ?_
          refine SV.nil ?_
          refine SV.tn ?_
          refine SV.block ?_
          refine SV.loopF (X := Nat) (fun (σ : VS) t => ((((((((((((((((VS.nil.new (σ.tree 0)).new (σ.tree 1)).new (σ.tree 5)).new (σ.tree 6)).new (σ.tree 7)).new (σ.tree 8)).put 0 (σ.tm 0)).put 2 (σ.tm 2)).put 4 (V.flat false [.hd 0])).put 5 (V.flat false [.hd 1])).put 7 (V.flat false [.hd 2])).put 8 (V.flat false [.hd 3])).put 9 (V.flat false [.hd 4])).put 10 (V.flat false [.hd 5])).put 11 (V.flat false [.sc (.int .i64 (((((A.take t).map fun r => PairD.hit r B).sum : Nat) : Int)))])).put 12 (V.flat false [.sc (.int .i64 ((t : Int)))]))) (fun t => t ≤ A.length) (fun t => A.length - t) ?_ ?_
          · skip
            refine SV.again (fun i => [0, 1, 5, 6, 7, 8].getD i 0) 0 ((by first | exact Nat.zero_le _ | (refine ⟨Nat.zero_le _, ?_⟩; simp; done) | (simp; done) | omega)) (pins hE rfl rfl) (VS.le.mk' (le_put (le_put (le_put (le_put (le_put (le_put (le_put (le_put (le_put (le_put (le_new (le_new (le_new (le_new (le_new (le_new le_nil)))))) (V.le.keep (ag := false) (xs := [.sc _]) (ys := [.sc _]) rfl rfl ⟨rfl, trivial⟩)) (V.le.keep (ag := false) (xs := [.sc _]) (ys := [.sc _]) rfl rfl ⟨rfl, trivial⟩)) (V.le.keep (ag := false) (xs := [.hd 0]) (ys := [.hd 0]) rfl rfl ⟨⟨rfl, (Nat.le_of_ble_eq_true rfl), (Nat.le_of_ble_eq_true rfl)⟩, trivial⟩)) (V.le.keep (ag := false) (xs := [.hd 1]) (ys := [.hd 1]) rfl rfl ⟨⟨rfl, (Nat.le_of_ble_eq_true rfl), (Nat.le_of_ble_eq_true rfl)⟩, trivial⟩)) (V.le.keep (ag := false) (xs := [.hd 5]) (ys := [.hd 2]) rfl rfl ⟨⟨rfl, (Nat.le_of_ble_eq_true rfl), (Nat.le_of_ble_eq_true rfl)⟩, trivial⟩)) (V.le.keep (ag := false) (xs := [.hd 6]) (ys := [.hd 3]) rfl rfl ⟨⟨rfl, (Nat.le_of_ble_eq_true rfl), (Nat.le_of_ble_eq_true rfl)⟩, trivial⟩)) (V.le.keep (ag := false) (xs := [.hd 7]) (ys := [.hd 4]) rfl rfl ⟨⟨rfl, (Nat.le_of_ble_eq_true rfl), (Nat.le_of_ble_eq_true rfl)⟩, trivial⟩)) (V.le.keep (ag := false) (xs := [.hd 8]) (ys := [.hd 5]) rfl rfl ⟨⟨rfl, (Nat.le_of_ble_eq_true rfl), (Nat.le_of_ble_eq_true rfl)⟩, trivial⟩)) (V.le.keep (ag := false) (xs := [.sc _]) (ys := [.sc _]) rfl rfl ⟨(by first | rfl | (show Leaf.sc _ = Leaf.sc _; refine congrArg Leaf.sc ?_; first | rfl | go_num | ((try rw [← List.map_take]); rw [hn, IntWalk.wrap64_in _ ⟨by omega, by omega⟩]; first | done | rfl | go_num | (simp; done) | (simp; omega)) | (simp [cntAll]; done)) | (simp [cntAll]; done) | (simp; omega)), trivial⟩)) (V.le.keep (ag := false) (xs := [.sc _]) (ys := [.sc _]) rfl rfl ⟨(by first | rfl | (show Leaf.sc _ = Leaf.sc _; refine congrArg Leaf.sc ?_; first | rfl | go_num | ((try rw [← List.map_take]); rw [hn, IntWalk.wrap64_in _ ⟨by omega, by omega⟩]; first | done | rfl | go_num | (simp; done) | (simp; omega)) | (simp [cntAll]; done)) | (simp [cntAll]; done) | (simp; omega)), trivial⟩)) trivial ⟨.inr ⟨_, _, rfl, rfl, (Nat.le_of_ble_eq_true rfl)⟩, ⟨.inr ⟨_, _, rfl, rfl, (Nat.le_of_ble_eq_true rfl)⟩, ⟨.inr ⟨_, _, rfl, rfl, (Nat.le_of_ble_eq_true rfl)⟩, ⟨.inr ⟨_, _, rfl, rfl, (Nat.le_of_ble_eq_true rfl)⟩, ⟨.inr ⟨_, _, rfl, rfl, (Nat.le_of_ble_eq_true rfl)⟩, ⟨.inr ⟨_, _, rfl, rfl, (Nat.le_of_ble_eq_true rfl)⟩, trivial⟩⟩⟩⟩⟩⟩ (new_ob (new_ob (new_ob (new_ob (new_ob (new_ob nil_ob)))))) (fun i j hi hj e => inj_list (l := [0, 1, 5, 6, 7, 8]) (by decide) i j hi hj e))
          · rintro t ht
            refine SV.seq' ?_
            refine SV.seq' ?_
            refine SV.region ?_
            refine SV.op (OpL.ok (nb := 0) (ok_move (v := V.one (.sc _)) (.inl rfl) rfl) rfl (Nat.le_of_ble_eq_true rfl)) rfl ?_
            refine SV.op (OpL.ok (nb := 0) (ok_move (v := V.one (.hd 0)) (.inl rfl) rfl) rfl (Nat.le_of_ble_eq_true rfl)) rfl ?_
            refine SV.op (OpL.ok (nb := 0) (ok_len (lf := .hd 0) rfl elt_impl_Row.und rfl rfl) rfl (Nat.le_of_ble_eq_true rfl)) rfl ?_
            refine SV.op (OpL.ok (nb := 0) (ok_s2 (x := .tmp 66) (x' := .tmp 68) (VScal.one rfl) (VScal.one rfl) (fun ρ h1 h2 w => by go_simp; (try go_bits); with_reducible rfl) rfl) rfl (Nat.le_of_ble_eq_true rfl)) rfl ?_
            refine SV.nil ?_
            refine SV.tn ?_
            refine SV.cond rfl (fun hc2 => ?_) (fun hc2 => ?_)
            · skip   -- c2.T
              have htl : t < A.length := by simpa using hc2
              have hx : A[t]? = some A[t] := by simp [htl]
              have hn := sum_next (fun r => PairD.hit r B) A t htl
              have hst := sum_take (fun r => PairD.hit r B) A (t + 1)
              have hsl := PairD.join1_len A B
              have hsj := PairD.join_small (k := 1) hA hB
              refine SV.skip ?_
              refine SV.tn ?_
              refine SV.seq' ?_
              refine SV.block ?_
              refine SV.region ?_
              refine SV.op (OpL.ok (nb := 0) (ok_move (v := V.one (.sc _)) (.inl rfl) rfl) rfl (Nat.le_of_ble_eq_true rfl)) rfl ?_
              refine SV.op (OpL.ok (nb := 0) (ok_move (v := V.one (.hd 0)) (.inl rfl) rfl) rfl (Nat.le_of_ble_eq_true rfl)) rfl ?_
              refine SV.op (OpL.ok (nb := 0) (ok_move (v := V.one (.sc _)) (.inl rfl) rfl) rfl (Nat.le_of_ble_eq_true rfl)) rfl ?_
              refine SV.op (OpL.ok (nb := 0) (ok_index (n := 3) (lf := .hd 0) rfl elt_impl_Row.und sz_impl_Row rfl rfl rfl ((by first | exact map_at hx | exact map_at hp))) rfl (Nat.le_of_ble_eq_true rfl)) rfl ?_
              refine SV.op (ok_load_el (p := .ep 0 _ _ _) (ag := true) (m := 3) (ys := [.sc _, .sc _, .sc _]) rfl rfl (cells_ep rfl ((by first | exact map_at hx | exact map_at hp)) rfl rfl) agg_impl_Row sz_impl_Row (fun h => by cases h) (Nat.le_of_ble_eq_true rfl) rfl rfl (Nat.le_of_ble_eq_true rfl)) rfl ?_
              refine SV.op (OpL.ok (nb := 0) (ok_move (v := V.one (.hd 1)) (.inl rfl) rfl) rfl (Nat.le_of_ble_eq_true rfl)) rfl ?_
              refine SV.op (OpMk.ok (ok_call (ls := [(false, [.sc _])]) rfl rfl ⟨_, _, Tryd.func34, rfl, by decide⟩ (vcountm_i A[t] B (by omega)) ⟨⟨[.sc _, .sc _, .sc _], rfl, ⟨rfl, rfl, rfl, trivial⟩⟩, ⟨[.hd 1], rfl, ⟨rfl, trivial⟩⟩, trivial⟩ rfl (Nat.le_of_ble_eq_true rfl))) rfl ?_
              refine SV.op (OpL.ok (nb := 0) (ok_s2 (x := .tmp 72) (x' := .tmp 78) (VScal.one rfl) (VScal.one rfl) (fun ρ h1 h2 w => by go_simp; (try go_bits); with_reducible rfl) rfl) rfl (Nat.le_of_ble_eq_true rfl)) rfl ?_
              refine SV.op (OpL.ok (nb := 0) (ok_move (v := V.one (.sc _)) (.inr rfl) rfl) rfl (Nat.le_of_ble_eq_true rfl)) rfl ?_
              refine SV.nil ?_
              refine SV.bn ?_
              refine SV.tn ?_
              refine SV.region ?_
              refine SV.op (OpL.ok (nb := 0) (ok_move (v := V.one (.sc _)) (.inl rfl) rfl) rfl (Nat.le_of_ble_eq_true rfl)) rfl ?_
              refine SV.op (OpL.ok (nb := 0) (ok_s2 (x := .tmp 70) (x' := .const ((Value.int IntKind.i64 1))) (VScal.one rfl) (VScal.one rfl) (fun ρ h1 h2 w => by go_simp; (try go_bits); with_reducible rfl) rfl) rfl (Nat.le_of_ble_eq_true rfl)) rfl ?_
              refine SV.op (OpL.ok (nb := 0) (ok_move (v := V.one (.sc _)) (.inr rfl) rfl) rfl (Nat.le_of_ble_eq_true rfl)) rfl ?_
              refine SV.nil ?_
              refine SV.tn ?_
              refine SV.again (fun i => [0, 1, 2, 3, 4, 5].getD i 0) (t + 1) (⟨by omega, by omega⟩) (pins hE rfl rfl) (VS.le.mk' (le_put (le_put (le_put (le_put (le_put (le_put (le_put (le_put (le_put (le_put (le_new (le_new (le_new (le_new (le_new (le_new le_nil)))))) (V.le.keep (ag := false) (xs := [.sc _]) (ys := [.sc _]) rfl rfl ⟨rfl, trivial⟩)) (V.le.keep (ag := false) (xs := [.sc _]) (ys := [.sc _]) rfl rfl ⟨rfl, trivial⟩)) (V.le.keep (ag := false) (xs := [.hd 0]) (ys := [.hd 0]) rfl rfl ⟨⟨rfl, (Nat.le_of_ble_eq_true rfl), (Nat.le_of_ble_eq_true rfl)⟩, trivial⟩)) (V.le.keep (ag := false) (xs := [.hd 1]) (ys := [.hd 1]) rfl rfl ⟨⟨rfl, (Nat.le_of_ble_eq_true rfl), (Nat.le_of_ble_eq_true rfl)⟩, trivial⟩)) (V.le.keep (ag := false) (xs := [.hd 2]) (ys := [.hd 2]) rfl rfl ⟨⟨rfl, (Nat.le_of_ble_eq_true rfl), (Nat.le_of_ble_eq_true rfl)⟩, trivial⟩)) (V.le.keep (ag := false) (xs := [.hd 3]) (ys := [.hd 3]) rfl rfl ⟨⟨rfl, (Nat.le_of_ble_eq_true rfl), (Nat.le_of_ble_eq_true rfl)⟩, trivial⟩)) (V.le.keep (ag := false) (xs := [.hd 4]) (ys := [.hd 4]) rfl rfl ⟨⟨rfl, (Nat.le_of_ble_eq_true rfl), (Nat.le_of_ble_eq_true rfl)⟩, trivial⟩)) (V.le.keep (ag := false) (xs := [.hd 5]) (ys := [.hd 5]) rfl rfl ⟨⟨rfl, (Nat.le_of_ble_eq_true rfl), (Nat.le_of_ble_eq_true rfl)⟩, trivial⟩)) (V.le.keep (ag := false) (xs := [.sc _]) (ys := [.sc _]) rfl rfl ⟨(by first | rfl | (show Leaf.sc _ = Leaf.sc _; refine congrArg Leaf.sc ?_; first | rfl | go_num | ((try rw [← List.map_take]); rw [hn, IntWalk.wrap64_in _ ⟨by omega, by omega⟩]; first | done | rfl | go_num | (simp; done) | (simp; omega)) | (simp [cntAll]; done)) | (simp [cntAll]; done) | (simp; omega)), trivial⟩)) (V.le.keep (ag := false) (xs := [.sc _]) (ys := [.sc _]) rfl rfl ⟨(by first | rfl | (show Leaf.sc _ = Leaf.sc _; refine congrArg Leaf.sc ?_; first | rfl | go_num | ((try rw [← List.map_take]); rw [hn, IntWalk.wrap64_in _ ⟨by omega, by omega⟩]; first | done | rfl | go_num | (simp; done) | (simp; omega)) | (simp [cntAll]; done)) | (simp [cntAll]; done) | (simp; omega)), trivial⟩)) trivial ⟨.inr ⟨_, _, rfl, rfl, (Nat.le_of_ble_eq_true rfl)⟩, ⟨.inr ⟨_, _, rfl, rfl, (Nat.le_of_ble_eq_true rfl)⟩, ⟨.inr ⟨_, _, rfl, rfl, (Nat.le_of_ble_eq_true rfl)⟩, ⟨.inr ⟨_, _, rfl, rfl, (Nat.le_of_ble_eq_true rfl)⟩, ⟨.inr ⟨_, _, rfl, rfl, (Nat.le_of_ble_eq_true rfl)⟩, ⟨.inr ⟨_, _, rfl, rfl, (Nat.le_of_ble_eq_true rfl)⟩, trivial⟩⟩⟩⟩⟩⟩ (new_ob (new_ob (new_ob (new_ob (new_ob (new_ob nil_ob)))))) (fun i j hi hj e => inj_list (l := [0, 1, 2, 3, 4, 5]) (by decide) i j hi hj e))
            · skip   -- c2.F
              have hte : ¬ t < A.length := by simpa using hc2
              have htk : A.take t = A := List.take_of_length_le (by omega)
              refine SV.exit ?_
              refine SV.te ?_
              refine SV.te ?_
              refine SV.bh ?_
              refine SV.tn ?_
              refine SV.seq' ?_
              refine SV.seq' ?_
              refine SV.region ?_
              refine SV.op (OpL.ok (nb := 0) (ok_move (v := V.one (.sc _)) (.inr rfl) rfl) rfl (Nat.le_of_ble_eq_true rfl)) rfl ?_
              refine SV.nil ?_
              refine SV.tn ?_
              refine SV.block ?_
              refine SV.loopF (X := Nat) (fun (σ : VS) q => ((((((((((((((VS.nil.new (σ.tree 0)).new (σ.tree 2)).new (σ.tree 3)).new (σ.tree 4)).new (σ.tree 5)).put 0 (σ.tm 0)).put 2 (σ.tm 2)).put 4 (V.flat false [.hd 0])).put 7 (V.flat false [.hd 1])).put 8 (V.flat false [.hd 2])).put 9 (V.flat false [.hd 3])).put 10 (V.flat false [.hd 4])).put 11 (σ.tm 11)).put 13 (V.flat false [.sc (.int .i64 ((q : Int)))]))) (fun q => q ≤ (PairD.join 1 A B).length) (fun q => (PairD.join 1 A B).length - q) ?_ ?_
              · skip
                refine SV.again (fun i => [0, 2, 3, 4, 5].getD i 0) 0 ((by first | exact Nat.zero_le _ | (refine ⟨Nat.zero_le _, ?_⟩; simp; done) | (simp; done) | omega)) (pins hE rfl rfl) (VS.le.mk' (le_put (le_put (le_put (le_put (le_put (le_put (le_put (le_put (le_put (le_new (le_new (le_new (le_new (le_new le_nil))))) (V.le.keep (ag := false) (xs := [.sc _]) (ys := [.sc _]) rfl rfl ⟨rfl, trivial⟩)) (V.le.keep (ag := false) (xs := [.sc _]) (ys := [.sc _]) rfl rfl ⟨rfl, trivial⟩)) (V.le.keep (ag := false) (xs := [.hd 0]) (ys := [.hd 0]) rfl rfl ⟨⟨rfl, (Nat.le_of_ble_eq_true rfl), (Nat.le_of_ble_eq_true rfl)⟩, trivial⟩)) (V.le.keep (ag := false) (xs := [.hd 2]) (ys := [.hd 1]) rfl rfl ⟨⟨rfl, (Nat.le_of_ble_eq_true rfl), (Nat.le_of_ble_eq_true rfl)⟩, trivial⟩)) (V.le.keep (ag := false) (xs := [.hd 3]) (ys := [.hd 2]) rfl rfl ⟨⟨rfl, (Nat.le_of_ble_eq_true rfl), (Nat.le_of_ble_eq_true rfl)⟩, trivial⟩)) (V.le.keep (ag := false) (xs := [.hd 4]) (ys := [.hd 3]) rfl rfl ⟨⟨rfl, (Nat.le_of_ble_eq_true rfl), (Nat.le_of_ble_eq_true rfl)⟩, trivial⟩)) (V.le.keep (ag := false) (xs := [.hd 5]) (ys := [.hd 4]) rfl rfl ⟨⟨rfl, (Nat.le_of_ble_eq_true rfl), (Nat.le_of_ble_eq_true rfl)⟩, trivial⟩)) (V.le.keep (ag := false) (xs := [.sc _]) (ys := [.sc _]) rfl rfl ⟨rfl, trivial⟩)) (V.le.keep (ag := false) (xs := [.sc _]) (ys := [.sc _]) rfl rfl ⟨(by first | rfl | (show Leaf.sc _ = Leaf.sc _; refine congrArg Leaf.sc ?_; first | rfl | go_num | (simp [cntAll]; done)) | (simp [cntAll]; done) | (simp; omega)), trivial⟩)) trivial ⟨.inr ⟨_, _, rfl, rfl, (Nat.le_of_ble_eq_true rfl)⟩, ⟨.inr ⟨_, _, rfl, rfl, (Nat.le_of_ble_eq_true rfl)⟩, ⟨.inr ⟨_, _, rfl, rfl, (Nat.le_of_ble_eq_true rfl)⟩, ⟨.inr ⟨_, _, rfl, rfl, (Nat.le_of_ble_eq_true rfl)⟩, ⟨.inr ⟨_, _, rfl, rfl, (Nat.le_of_ble_eq_true rfl)⟩, trivial⟩⟩⟩⟩⟩ (new_ob (new_ob (new_ob (new_ob (new_ob nil_ob))))) (fun i j hi hj e => inj_list (l := [0, 2, 3, 4, 5]) (by decide) i j hi hj e))
              · rintro q hq
                refine SV.seq' ?_
                refine SV.seq' ?_
                refine SV.region ?_
                refine SV.op (OpL.ok (nb := 0) (ok_move (v := V.one (.sc _)) (.inl rfl) rfl) rfl (Nat.le_of_ble_eq_true rfl)) rfl ?_
                refine SV.op (OpL.ok (nb := 0) (ok_move (v := V.one (.hd 1)) (.inl rfl) rfl) rfl (Nat.le_of_ble_eq_true rfl)) rfl ?_
                refine SV.op (OpL.ok (nb := 0) (ok_len (lf := .hd 1) rfl elt_impl_Pair.und rfl rfl) rfl (Nat.le_of_ble_eq_true rfl)) rfl ?_
                refine SV.op (OpL.ok (nb := 0) (ok_s2 (x := .tmp 80) (x' := .tmp 82) (VScal.one rfl) (VScal.one rfl) (fun ρ h1 h2 w => by go_simp; (try go_bits); with_reducible rfl) rfl) rfl (Nat.le_of_ble_eq_true rfl)) rfl ?_
                refine SV.nil ?_
                refine SV.tn ?_
                refine SV.cond rfl (fun hc3 => ?_) (fun hc3 => ?_)
                · skip   -- c3.T
                  have hql : q < (PairD.join 1 A B).length := by simpa using hc3
                  obtain ⟨p, hp⟩ : ∃ p, (PairD.join 1 A B)[q]? = some p := ⟨_, List.getElem?_eq_getElem hql⟩
                  obtain ⟨hm, hke⟩ := PairD.join1_mem (get_mem hp)
                  have hsj := PairD.join_small (k := 1) hA hB
                  refine SV.skip ?_
                  refine SV.tn ?_
                  refine SV.seq' ?_
                  refine SV.block ?_
                  refine SV.seq' ?_
                  refine SV.draw [.q 0, .q 1, .q 2, .q 3, .q 4, .q 5, .q 6, .q 7, .q 8, .q 9, .q 10, .q 11, .q 12, .q 13, .q 14, .q 15, .q 16, .q 17, .q 18, .q 19, .q 20] [] (by kernel_rfl) (by kernel_rfl) ?_
                  refine DW.q rfl (ok_move (v := V.one (.hd 1)) (.inl rfl) rfl) rfl rfl (Nat.le_of_ble_eq_true rfl) (fun _ _ _ _ h => h) ?_
                  refine DW.q rfl (ok_move (v := V.one (.sc _)) (.inl rfl) rfl) rfl rfl (Nat.le_of_ble_eq_true rfl) (fun _ _ _ _ h => h) ?_
                  refine DW.q rfl (ok_index (n := 7) (lf := .hd 1) rfl elt_impl_Pair.und sz_impl_Pair rfl rfl rfl ((by first | exact map_at hx | exact map_at hp))) rfl rfl (Nat.le_of_ble_eq_true rfl) (fun _ _ _ _ h => h) ?_
                  refine DW.q rfl (ok_field_el (p := .ep 1 _ _ _) (off := 6) rfl rfl (cells_ep rfl ((by first | exact map_at hx | exact map_at hp)) rfl rfl) fld_impl_Pair_2) rfl rfl (Nat.le_of_ble_eq_true rfl) (fun _ _ _ _ h => h) ?_
                  refine DW.el (ag := false) (m := 1) (ys := [.sc _]) rfl rfl rfl (cells_ep rfl ((by first | exact map_at hx | exact map_at hp)) rfl rfl) agg_bool sz_bool (fun _ => rfl) (Nat.le_of_ble_eq_true rfl) rfl rfl rfl (Nat.le_of_ble_eq_true rfl) (fun _ _ _ _ h => h) ?_
                  refine DW.q rfl (ok_s1 (x := .tmp 90) (VScal.one rfl) (fun ρ h1 w => by go_simp; (try go_bits); with_reducible rfl) rfl) rfl rfl (Nat.le_of_ble_eq_true rfl) (fun _ _ _ _ h => h) ?_
                  refine DW.q rfl (ok_move (v := V.one (.sc _)) (.inl rfl) rfl) rfl rfl (Nat.le_of_ble_eq_true rfl) (fun _ _ _ _ h => h) ?_
                  refine DW.split (d := 92) rfl (fun hg2 => ?_) (fun hg2 => ?_)
                  · skip   -- g2.T
                    (exfalso; simp [hm] at hg2)
                  · skip   -- g2.F
                    refine DW.qY rfl (ok_move (v := V.one (.hd 1)) (.inl rfl) rfl) rfl rfl rfl (Nat.le_of_ble_eq_true rfl) rfl rfl rfl (Nat.le_of_ble_eq_true rfl) (fun _ _ _ _ h => h) ?_
                    refine DW.qY rfl (ok_move (v := V.one (.sc _)) (.inl rfl) rfl) rfl rfl rfl (Nat.le_of_ble_eq_true rfl) rfl rfl rfl (Nat.le_of_ble_eq_true rfl) (fun _ _ _ _ h => h) ?_
                    refine DW.qY rfl (ok_index (n := 7) (lf := .hd 1) rfl elt_impl_Pair.und sz_impl_Pair rfl rfl rfl ((by first | exact map_at hx | exact map_at hp))) rfl rfl rfl (Nat.le_of_ble_eq_true rfl) rfl rfl rfl (Nat.le_of_ble_eq_true rfl) (fun _ _ _ _ h => h) ?_
                    refine DW.qY rfl (ok_field_el (p := .ep 1 _ _ _) (off := 0) rfl rfl (cells_ep rfl ((by first | exact map_at hx | exact map_at hp)) rfl rfl) fld_impl_Pair_0) rfl rfl rfl (Nat.le_of_ble_eq_true rfl) rfl rfl rfl (Nat.le_of_ble_eq_true rfl) (fun _ _ _ _ h => h) ?_
                    refine DW.qY rfl (ok_field_el (p := .ep 1 _ _ _) (off := 0) rfl rfl (cells_ep rfl ((by first | exact map_at hx | exact map_at hp)) rfl rfl) fld_impl_Row_0) rfl rfl rfl (Nat.le_of_ble_eq_true rfl) rfl rfl rfl (Nat.le_of_ble_eq_true rfl) (fun _ _ _ _ h => h) ?_
                    refine DW.el' (ag := false) (m := 1) (ys := [.sc _]) rfl rfl rfl (cells_ep rfl ((by first | exact map_at hx | exact map_at hp)) rfl rfl) agg_int sz_int (fun _ => rfl) (Nat.le_of_ble_eq_true rfl) rfl (fun hr => wantedY hr rfl rfl rfl (Nat.le_of_ble_eq_true rfl) rfl rfl) rfl (Nat.le_of_ble_eq_true rfl) (fun _ _ _ _ h => h) ?_
                    refine DW.qY rfl (ok_move (v := V.one (.hd 1)) (.inl rfl) rfl) rfl rfl rfl (Nat.le_of_ble_eq_true rfl) rfl rfl rfl (Nat.le_of_ble_eq_true rfl) (fun _ _ _ _ h => h) ?_
                    refine DW.qY rfl (ok_move (v := V.one (.sc _)) (.inl rfl) rfl) rfl rfl rfl (Nat.le_of_ble_eq_true rfl) rfl rfl rfl (Nat.le_of_ble_eq_true rfl) (fun _ _ _ _ h => h) ?_
                    refine DW.qY rfl (ok_index (n := 7) (lf := .hd 1) rfl elt_impl_Pair.und sz_impl_Pair rfl rfl rfl ((by first | exact map_at hx | exact map_at hp))) rfl rfl rfl (Nat.le_of_ble_eq_true rfl) rfl rfl rfl (Nat.le_of_ble_eq_true rfl) (fun _ _ _ _ h => h) ?_
                    refine DW.qY rfl (ok_field_el (p := .ep 1 _ _ _) (off := 3) rfl rfl (cells_ep rfl ((by first | exact map_at hx | exact map_at hp)) rfl rfl) fld_impl_Pair_1) rfl rfl rfl (Nat.le_of_ble_eq_true rfl) rfl rfl rfl (Nat.le_of_ble_eq_true rfl) (fun _ _ _ _ h => h) ?_
                    refine DW.qY rfl (ok_field_el (p := .ep 1 _ _ _) (off := 0) rfl rfl (cells_ep rfl ((by first | exact map_at hx | exact map_at hp)) rfl rfl) fld_impl_Row_0) rfl rfl rfl (Nat.le_of_ble_eq_true rfl) rfl rfl rfl (Nat.le_of_ble_eq_true rfl) (fun _ _ _ _ h => h) ?_
                    refine DW.el' (ag := false) (m := 1) (ys := [.sc _]) rfl rfl rfl (cells_ep rfl ((by first | exact map_at hx | exact map_at hp)) rfl rfl) agg_int sz_int (fun _ => rfl) (Nat.le_of_ble_eq_true rfl) rfl (fun hr => wantedY hr rfl rfl rfl (Nat.le_of_ble_eq_true rfl) rfl rfl) rfl (Nat.le_of_ble_eq_true rfl) (fun _ _ _ _ h => h) ?_
                    refine DW.qY rfl (ok_s2 (x := .tmp 98) (x' := .tmp 104) (VScal.one rfl) (VScal.one rfl) (fun ρ h1 h2 w => by go_simp; (try go_bits); with_reducible rfl) rfl) rfl rfl rfl (Nat.le_of_ble_eq_true rfl) rfl rfl rfl (Nat.le_of_ble_eq_true rfl) (fun _ _ _ _ h => h) ?_
                    refine DW.q rfl (ok_pickF (v := V.one (.sc _)) rfl rfl rfl) rfl rfl (Nat.le_of_ble_eq_true rfl) (fun _ _ _ _ h => h) ?_
                    refine DW.stores ?_
                    refine SV.zend ?_
                    refine SV.tn ?_
                    refine SV.cond rfl (fun hc4 => ?_) (fun hc4 => ?_)
                    · skip   -- c4.T
                      (exfalso; first | (simp [hke] at hc4; done) | (simp [hm] at hc4; done))
                    · skip   -- c4.F
                      refine SV.skip ?_
                      refine SV.bn ?_
                      refine SV.tn ?_
                      refine SV.region ?_
                      refine SV.op (OpL.ok (nb := 0) (ok_move (v := V.one (.sc _)) (.inl rfl) rfl) rfl (Nat.le_of_ble_eq_true rfl)) rfl ?_
                      refine SV.op (OpL.ok (nb := 0) (ok_s2 (x := .tmp 84) (x' := .const ((Value.int IntKind.i64 1))) (VScal.one rfl) (VScal.one rfl) (fun ρ h1 h2 w => by go_simp; (try go_bits); with_reducible rfl) rfl) rfl (Nat.le_of_ble_eq_true rfl)) rfl ?_
                      refine SV.op (OpL.ok (nb := 0) (ok_move (v := V.one (.sc _)) (.inr rfl) rfl) rfl (Nat.le_of_ble_eq_true rfl)) rfl ?_
                      refine SV.nil ?_
                      refine SV.tn ?_
                      refine SV.again (fun i => [0, 1, 2, 3, 4].getD i 0) (q + 1) (⟨by omega, by omega⟩) (pins hE rfl rfl) (VS.le.mk' (le_put (le_put (le_put (le_put (le_put (le_put (le_put (le_put (le_put (le_new (le_new (le_new (le_new (le_new le_nil))))) (V.le.keep (ag := false) (xs := [.sc _]) (ys := [.sc _]) rfl rfl ⟨rfl, trivial⟩)) (V.le.keep (ag := false) (xs := [.sc _]) (ys := [.sc _]) rfl rfl ⟨rfl, trivial⟩)) (V.le.keep (ag := false) (xs := [.hd 0]) (ys := [.hd 0]) rfl rfl ⟨⟨rfl, (Nat.le_of_ble_eq_true rfl), (Nat.le_of_ble_eq_true rfl)⟩, trivial⟩)) (V.le.keep (ag := false) (xs := [.hd 1]) (ys := [.hd 1]) rfl rfl ⟨⟨rfl, (Nat.le_of_ble_eq_true rfl), (Nat.le_of_ble_eq_true rfl)⟩, trivial⟩)) (V.le.keep (ag := false) (xs := [.hd 2]) (ys := [.hd 2]) rfl rfl ⟨⟨rfl, (Nat.le_of_ble_eq_true rfl), (Nat.le_of_ble_eq_true rfl)⟩, trivial⟩)) (V.le.keep (ag := false) (xs := [.hd 3]) (ys := [.hd 3]) rfl rfl ⟨⟨rfl, (Nat.le_of_ble_eq_true rfl), (Nat.le_of_ble_eq_true rfl)⟩, trivial⟩)) (V.le.keep (ag := false) (xs := [.hd 4]) (ys := [.hd 4]) rfl rfl ⟨⟨rfl, (Nat.le_of_ble_eq_true rfl), (Nat.le_of_ble_eq_true rfl)⟩, trivial⟩)) (V.le.keep (ag := false) (xs := [.sc _]) (ys := [.sc _]) rfl rfl ⟨rfl, trivial⟩)) (V.le.keep (ag := false) (xs := [.sc _]) (ys := [.sc _]) rfl rfl ⟨(by first | rfl | (show Leaf.sc _ = Leaf.sc _; refine congrArg Leaf.sc ?_; first | rfl | go_num | (simp [cntAll]; done)) | (simp [cntAll]; done) | (simp; omega)), trivial⟩)) trivial ⟨.inr ⟨_, _, rfl, rfl, (Nat.le_of_ble_eq_true rfl)⟩, ⟨.inr ⟨_, _, rfl, rfl, (Nat.le_of_ble_eq_true rfl)⟩, ⟨.inr ⟨_, _, rfl, rfl, (Nat.le_of_ble_eq_true rfl)⟩, ⟨.inr ⟨_, _, rfl, rfl, (Nat.le_of_ble_eq_true rfl)⟩, ⟨.inr ⟨_, _, rfl, rfl, (Nat.le_of_ble_eq_true rfl)⟩, trivial⟩⟩⟩⟩⟩ (new_ob (new_ob (new_ob (new_ob (new_ob nil_ob))))) (fun i j hi hj e => inj_list (l := [0, 1, 2, 3, 4]) (by decide) i j hi hj e))
                · skip   -- c3.F
                  refine SV.exit ?_
                  refine SV.te ?_
                  refine SV.te ?_
                  refine SV.bh ?_
                  refine SV.tn ?_
                  refine SV.seq' ?_
                  refine SV.region ?_
                  refine SV.op (OpL.ok (nb := 0) (ok_move (v := V.one (.sc _)) (.inl rfl) rfl) rfl (Nat.le_of_ble_eq_true rfl)) rfl ?_
                  refine SV.callE hD rfl ⟨_, _, Tryd.func35, rfl, by decide⟩ (VCE.mono (fun w h => h.1) vd_cmp) ⟨⟨[.sc _], rfl, ⟨rfl, trivial⟩⟩, trivial⟩ rfl (Nat.le_of_ble_eq_true rfl) rfl ?_
                  rintro ⟨x, y⟩ -
                  refine SV.op (OpL.ok (nb := 0) (ok_move (v := ⟨true, [(true, [.sc _, .sc _, .sc _, .sc _, .sc _, .sc _, .sc _]), (true, [.sc _, .sc _, .sc _, .sc _, .sc _, .sc _, .sc _])]⟩) (.inl rfl) rfl) rfl (Nat.le_of_ble_eq_true rfl)) rfl ?_
                  refine SV.op (OpL.ok (nb := 0) (ok_extract (ag := true) (xs := [.sc _, .sc _, .sc _, .sc _, .sc _, .sc _, .sc _]) rfl rfl rfl) rfl (Nat.le_of_ble_eq_true rfl)) rfl ?_
                  refine SV.op (OpL.ok (nb := 0) (ok_extract (ag := true) (xs := [.sc _, .sc _, .sc _, .sc _, .sc _, .sc _, .sc _]) rfl rfl rfl) rfl (Nat.le_of_ble_eq_true rfl)) rfl ?_
                  refine SV.op (OpMk.ok (ok_alloc (kk := 0) (xs := [.sc _, .sc _, .sc _, .sc _, .sc _, .sc _, .sc _]) rfl rfl zero_impl_Pair ⟨rfl, rfl, rfl, rfl, rfl, rfl, rfl, rfl, rfl, rfl, rfl, rfl, rfl, rfl, trivial⟩ rfl (Nat.le_of_ble_eq_true rfl))) rfl ?_
                  refine SV.op (OpMk.ok (ok_alloc (kk := 1) (xs := [.sc _, .sc _, .sc _, .sc _, .sc _, .sc _, .sc _]) rfl rfl zero_impl_Pair ⟨rfl, rfl, rfl, rfl, rfl, rfl, rfl, rfl, rfl, rfl, rfl, rfl, rfl, rfl, trivial⟩ rfl (Nat.le_of_ble_eq_true rfl))) rfl ?_
                  refine SV.op (ok_store_bp (b := 0) (i := 0) (m := 7) (ag := true) (zs := [.sc _, .sc _, .sc _, .sc _, .sc _, .sc _, .sc _]) (ys := [.sc _, .sc _, .sc _, .sc _, .sc _, .sc _, .sc _]) rfl rfl rfl rfl sz_impl_Pair (fun h => by cases h) rfl (Nat.le_of_ble_eq_true rfl) rfl rfl rfl) rfl ?_
                  refine SV.op (ok_store_bp (b := 1) (i := 0) (m := 7) (ag := true) (zs := [.sc _, .sc _, .sc _, .sc _, .sc _, .sc _, .sc _]) (ys := [.sc _, .sc _, .sc _, .sc _, .sc _, .sc _, .sc _]) rfl rfl rfl rfl sz_impl_Pair (fun h => by cases h) rfl (Nat.le_of_ble_eq_true rfl) rfl rfl rfl) rfl ?_
                  refine SV.nil ?_
                  refine SV.tn ?_
                  refine SV.seq' ?_
                  refine SV.region ?_
                  refine SV.op (OpL.ok (nb := 2) (ok_move (v := V.one (.sc _)) (.inl rfl) rfl) rfl (Nat.le_of_ble_eq_true rfl)) rfl ?_
                  refine SV.callE hD rfl ⟨_, _, Tryd.func36, rfl, by decide⟩ (VCE.mono (fun w h => h.1) vd_bags) ⟨⟨[.sc _], rfl, ⟨rfl, trivial⟩⟩, trivial⟩ rfl (Nat.le_of_ble_eq_true rfl) rfl ?_
                  rintro ⟨X, Z⟩ ⟨hX, hZ⟩
                  replace hX : X.length ≤ 20 := hX
                  replace hZ : Z.length ≤ 20 := hZ
                  refine SV.op (OpL.ok (nb := 2) (ok_move (v := ⟨true, [(false, [.hd 5]), (false, [.hd 6])]⟩) (.inl rfl) rfl) rfl (Nat.le_of_ble_eq_true rfl)) rfl ?_
                  refine SV.op (OpL.ok (nb := 2) (ok_extract (ag := false) (xs := [.hd 5]) rfl rfl rfl) rfl (Nat.le_of_ble_eq_true rfl)) rfl ?_
                  refine SV.op (OpL.ok (nb := 2) (ok_extract (ag := false) (xs := [.hd 6]) rfl rfl rfl) rfl (Nat.le_of_ble_eq_true rfl)) rfl ?_
                  refine SV.op (OpL.ok (nb := 2) (ok_move (v := V.one (.hd 5)) (.inr rfl) rfl) rfl (Nat.le_of_ble_eq_true rfl)) rfl ?_
                  refine SV.op (OpL.ok (nb := 2) (ok_move (v := V.one (.hd 6)) (.inr rfl) rfl) rfl (Nat.le_of_ble_eq_true rfl)) rfl ?_
                  refine SV.nil ?_
                  refine SV.tn ?_
                  refine SV.seq' ?_
                  refine SV.draw [.q 0, .q 1, .q 2, .q 3, .q 4, .q 5, .q 6, .q 7, .q 8, .q 9, .q 10, .q 11, .q 12, .q 13, .q 14, .q 15, .q 17, .q 19, .m 16, .m 18, .m 20, .m 21, .q 22, .q 23, .q 24, .q 25, .q 27, .q 28, .m 26, .m 29, .q 30, .q 31, .q 32, .q 33, .q 34, .q 36, .q 37, .m 35, .m 38, .q 39, .q 40, .q 41, .q 42, .q 43, .q 44, .q 46, .q 47, .m 45, .m 48, .q 49, .q 50, .q 51] [] (by kernel_rfl) (by kernel_rfl) ?_
                  refine DW.q rfl (ok_move (v := V.one (.hd 1)) (.inl rfl) rfl) rfl rfl (Nat.le_of_ble_eq_true rfl) (fun _ _ _ _ h => h) ?_
                  refine DW.q rfl (ok_len (lf := .hd 1) rfl elt_impl_Pair.und rfl rfl) rfl rfl (Nat.le_of_ble_eq_true rfl) (fun _ _ _ _ h => h) ?_
                  refine DW.q rfl (ok_move (v := V.one (.sc _)) (.inl rfl) rfl) rfl rfl (Nat.le_of_ble_eq_true rfl) (fun _ _ _ _ h => h) ?_
                  refine DW.q rfl (ok_s2 (x := .tmp 118) (x' := .tmp 119) (VScal.one rfl) (VScal.one rfl) (fun ρ h1 h2 w => by go_simp; (try go_bits); with_reducible rfl) rfl) rfl rfl (Nat.le_of_ble_eq_true rfl) (fun _ _ _ _ h => h) ?_
                  refine DW.q rfl (ok_move (v := V.one (.sc _)) (.inl rfl) rfl) rfl rfl (Nat.le_of_ble_eq_true rfl) (fun _ _ _ _ h => h) ?_
                  refine DW.split (d := 121) rfl (fun hg3 => ?_) (fun hg3 => ?_)
                  · skip   -- g3.T
                    refine DW.qY rfl (ok_move (v := V.one (.hd 2)) (.inl rfl) rfl) rfl rfl rfl (Nat.le_of_ble_eq_true rfl) rfl rfl rfl (Nat.le_of_ble_eq_true rfl) (fun _ _ _ _ h => h) ?_
                    refine DW.qY rfl (ok_len (lf := .hd 2) rfl elt_impl_Pair.und rfl rfl) rfl rfl rfl (Nat.le_of_ble_eq_true rfl) rfl rfl rfl (Nat.le_of_ble_eq_true rfl) (fun _ _ _ _ h => h) ?_
                    refine DW.qY rfl (ok_move (v := V.one (.hd 3)) (.inl rfl) rfl) rfl rfl rfl (Nat.le_of_ble_eq_true rfl) rfl rfl rfl (Nat.le_of_ble_eq_true rfl) (fun _ _ _ _ h => h) ?_
                    refine DW.qY rfl (ok_len (lf := .hd 3) rfl elt_impl_Pair.und rfl rfl) rfl rfl rfl (Nat.le_of_ble_eq_true rfl) rfl rfl rfl (Nat.le_of_ble_eq_true rfl) (fun _ _ _ _ h => h) ?_
                    refine DW.qY rfl (ok_s2 (x := .tmp 123) (x' := .tmp 125) (VScal.one rfl) (VScal.one rfl) (fun ρ h1 h2 w => by go_simp; (try go_bits); with_reducible rfl) rfl) rfl rfl rfl (Nat.le_of_ble_eq_true rfl) rfl rfl rfl (Nat.le_of_ble_eq_true rfl) (fun _ _ _ _ h => h) ?_
                    refine DW.qY rfl (ok_move (v := V.one (.hd 0)) (.inl rfl) rfl) rfl rfl rfl (Nat.le_of_ble_eq_true rfl) rfl rfl rfl (Nat.le_of_ble_eq_true rfl) (fun _ _ _ _ h => h) ?_
                    refine DW.qY rfl (ok_len (lf := .hd 0) rfl elt_impl_Row.und rfl rfl) rfl rfl rfl (Nat.le_of_ble_eq_true rfl) rfl rfl rfl (Nat.le_of_ble_eq_true rfl) (fun _ _ _ _ h => h) ?_
                    refine DW.qY rfl (ok_s2 (x := .tmp 126) (x' := .tmp 128) (VScal.one rfl) (VScal.one rfl) (fun ρ h1 h2 w => by go_simp; (try go_bits); with_reducible rfl) rfl) rfl rfl rfl (Nat.le_of_ble_eq_true rfl) rfl rfl rfl (Nat.le_of_ble_eq_true rfl) (fun _ _ _ _ h => h) ?_
                    refine DW.q rfl (ok_pickT (v := V.one (.sc _)) rfl rfl rfl) rfl rfl (Nat.le_of_ble_eq_true rfl) (fun _ _ _ _ h => h) ?_
                    refine DW.q rfl (ok_move (v := V.one (.sc _)) (.inl rfl) rfl) rfl rfl (Nat.le_of_ble_eq_true rfl) (fun _ _ _ _ h => h) ?_
                    refine DW.split (d := 131) rfl (fun hg4 => ?_) (fun hg4 => ?_)
                    · skip   -- g4.T
                      refine DW.qY rfl (ok_move (v := V.one (.hd 4)) (.inl rfl) rfl) rfl rfl rfl (Nat.le_of_ble_eq_true rfl) rfl rfl rfl (Nat.le_of_ble_eq_true rfl) (fun _ _ _ _ h => h) ?_
                      refine DW.qY rfl (ok_move (v := V.one (.hd 1)) (.inl rfl) rfl) rfl rfl rfl (Nat.le_of_ble_eq_true rfl) rfl rfl rfl (Nat.le_of_ble_eq_true rfl) (fun _ _ _ _ h => h) ?_
                      refine DW.qY rfl (ok_move (v := V.one (.hd 3)) (.inl rfl) rfl) rfl rfl rfl (Nat.le_of_ble_eq_true rfl) rfl rfl rfl (Nat.le_of_ble_eq_true rfl) (fun _ _ _ _ h => h) ?_
                      refine DW.m' [7] rfl (ok_lit0 (kk := 7) elt_impl_Pair rfl rfl rfl (Nat.le_of_ble_eq_true rfl)) (fun hr => wantedY hr rfl rfl rfl (Nat.le_of_ble_eq_true rfl) rfl rfl) (Nat.le_of_ble_eq_true rfl) (Nat.le_of_ble_eq_true rfl) (.inl rfl) (fun j hj => by
                          simp only [List.mem_cons, List.not_mem_nil, or_false] at hj
                          rcases hj with rfl
                          · exact .inr ⟨(Nat.le_of_ble_eq_true rfl), (Nat.le_of_ble_eq_true rfl), .inl rfl⟩) ?_
                      refine DW.m' [8, 7] rfl (ok_append_ro (kk := 8) elt_impl_Pair (ls := .hd 7) (lx := .hd 1) rfl rfl rfl rfl rfl rfl (flat_impl_Pair _) (by have := PairD.left_len hA hB; simp at this ⊢; omega) rfl (Nat.le_of_ble_eq_true rfl)) (fun hr => wantedY hr rfl rfl rfl (Nat.le_of_ble_eq_true rfl) rfl rfl) (Nat.le_of_ble_eq_true rfl) (Nat.le_of_ble_eq_true rfl) (.inr ⟨7, rfl, .inl (by decide)⟩) (fun j hj => by
                          simp only [List.mem_cons, List.not_mem_nil, or_false] at hj
                          rcases hj with rfl | rfl
                          · exact .inr ⟨(Nat.le_of_ble_eq_true rfl), (Nat.le_of_ble_eq_true rfl), .inr ⟨7, rfl, by decide⟩⟩
                          · exact .inl (by decide)) ?_
                      refine DW.m' [9, 8, 7] rfl (ok_append_ro (kk := 9) elt_impl_Pair (ls := .hd 8) (lx := .hd 3) rfl rfl rfl rfl rfl rfl (flat_impl_Pair _) (by have := PairD.left_len hA hB; simp at this ⊢; omega) rfl (Nat.le_of_ble_eq_true rfl)) (fun hr => wantedY hr rfl rfl rfl (Nat.le_of_ble_eq_true rfl) rfl rfl) (Nat.le_of_ble_eq_true rfl) (Nat.le_of_ble_eq_true rfl) (.inr ⟨8, rfl, .inl (by decide)⟩) (fun j hj => by
                          simp only [List.mem_cons, List.not_mem_nil, or_false] at hj
                          rcases hj with rfl | rfl | rfl
                          · exact .inr ⟨(Nat.le_of_ble_eq_true rfl), (Nat.le_of_ble_eq_true rfl), .inr ⟨8, rfl, by decide⟩⟩
                          · exact .inl (by decide)
                          · exact .inl (by decide)) ?_
                      refine DW.m' [9, 8, 7] rfl (ok_call (ls := [(false, [.sc _])]) rfl rfl ⟨_, _, Tryd.func37, rfl, by decide⟩ (vleft_iT A B hA hB) ⟨⟨[.hd 4], rfl, ⟨rfl, trivial⟩⟩, ⟨[.hd 9], rfl, ⟨rfl, trivial⟩⟩, trivial⟩ rfl (Nat.le_of_ble_eq_true rfl)) (fun hr => wantedY hr rfl rfl rfl (Nat.le_of_ble_eq_true rfl) rfl rfl) (Nat.le_of_ble_eq_true rfl) (Nat.le_of_ble_eq_true rfl) (.inl rfl) (fun j hj => by
                          simp only [List.mem_cons, List.not_mem_nil, or_false] at hj
                          rcases hj with rfl | rfl | rfl
                          · exact .inl (by decide)
                          · exact .inl (by decide)
                          · exact .inl (by decide)) ?_
                      refine DW.q rfl (ok_pickT (v := V.one (.sc _)) rfl rfl rfl) rfl rfl (Nat.le_of_ble_eq_true rfl) (fun _ _ _ _ h => h) ?_
                      refine DW.q rfl (ok_move (v := V.one (.sc _)) (.inl rfl) rfl) rfl rfl (Nat.le_of_ble_eq_true rfl) (fun _ _ _ _ h => h) ?_
                      refine DW.split (d := 140) rfl (fun hg5 => ?_) (fun hg5 => ?_)
                      · skip   -- g5.T
                        refine DW.qY rfl (ok_load_bp (b := 0) (i := 0) (ag := true) (m := 7) (ys := [.sc _, .sc _, .sc _, .sc _, .sc _, .sc _, .sc _]) rfl rfl rfl agg_impl_Pair sz_impl_Pair (fun h => by cases h) rfl rfl (Nat.le_of_ble_eq_true rfl)) rfl rfl rfl (Nat.le_of_ble_eq_true rfl) rfl rfl rfl (Nat.le_of_ble_eq_true rfl) (fun _ _ _ _ h => h) ?_
                        refine DW.qY rfl (ok_load_bp (b := 1) (i := 0) (ag := true) (m := 7) (ys := [.sc _, .sc _, .sc _, .sc _, .sc _, .sc _, .sc _]) rfl rfl rfl agg_impl_Pair sz_impl_Pair (fun h => by cases h) rfl rfl (Nat.le_of_ble_eq_true rfl)) rfl rfl rfl (Nat.le_of_ble_eq_true rfl) rfl rfl rfl (Nat.le_of_ble_eq_true rfl) (fun _ _ _ _ h => h) ?_
                        refine DW.qY rfl (ok_load_bp (b := 0) (i := 0) (ag := true) (m := 7) (ys := [.sc _, .sc _, .sc _, .sc _, .sc _, .sc _, .sc _]) rfl rfl rfl agg_impl_Pair sz_impl_Pair (fun h => by cases h) rfl rfl (Nat.le_of_ble_eq_true rfl)) rfl rfl rfl (Nat.le_of_ble_eq_true rfl) rfl rfl rfl (Nat.le_of_ble_eq_true rfl) (fun _ _ _ _ h => h) ?_
                        refine DW.qY rfl (ok_load_bp (b := 1) (i := 0) (ag := true) (m := 7) (ys := [.sc _, .sc _, .sc _, .sc _, .sc _, .sc _, .sc _]) rfl rfl rfl agg_impl_Pair sz_impl_Pair (fun h => by cases h) rfl rfl (Nat.le_of_ble_eq_true rfl)) rfl rfl rfl (Nat.le_of_ble_eq_true rfl) rfl rfl rfl (Nat.le_of_ble_eq_true rfl) (fun _ _ _ _ h => h) ?_
                        refine DW.m' [9, 8, 7] rfl (ok_call (ls := [(false, [.sc _])]) rfl rfl ⟨_, _, Tryd.func38, rfl, by decide⟩ (vpcmp_i x y) ⟨⟨[.sc _, .sc _, .sc _, .sc _, .sc _, .sc _, .sc _], rfl, ⟨rfl, rfl, rfl, rfl, rfl, rfl, rfl, trivial⟩⟩, ⟨[.sc _, .sc _, .sc _, .sc _, .sc _, .sc _, .sc _], rfl, ⟨rfl, rfl, rfl, rfl, rfl, rfl, rfl, trivial⟩⟩, trivial⟩ rfl (Nat.le_of_ble_eq_true rfl)) (fun hr => wantedY hr rfl rfl rfl (Nat.le_of_ble_eq_true rfl) rfl rfl) (Nat.le_of_ble_eq_true rfl) (Nat.le_of_ble_eq_true rfl) (.inl rfl) (fun j hj => by
                            simp only [List.mem_cons, List.not_mem_nil, or_false] at hj
                            rcases hj with rfl | rfl | rfl
                            · exact .inl (by decide)
                            · exact .inl (by decide)
                            · exact .inl (by decide)) ?_
                        refine DW.m' [9, 8, 7] rfl (ok_call (ls := [(false, [.sc _])]) rfl rfl ⟨_, _, Tryd.func39, rfl, by decide⟩ (vpcmp_s x y) ⟨⟨[.sc _, .sc _, .sc _, .sc _, .sc _, .sc _, .sc _], rfl, ⟨rfl, rfl, rfl, rfl, rfl, rfl, rfl, trivial⟩⟩, ⟨[.sc _, .sc _, .sc _, .sc _, .sc _, .sc _, .sc _], rfl, ⟨rfl, rfl, rfl, rfl, rfl, rfl, rfl, trivial⟩⟩, trivial⟩ rfl (Nat.le_of_ble_eq_true rfl)) (fun hr => wantedY hr rfl rfl rfl (Nat.le_of_ble_eq_true rfl) rfl rfl) (Nat.le_of_ble_eq_true rfl) (Nat.le_of_ble_eq_true rfl) (.inl rfl) (fun j hj => by
                            simp only [List.mem_cons, List.not_mem_nil, or_false] at hj
                            rcases hj with rfl | rfl | rfl
                            · exact .inl (by decide)
                            · exact .inl (by decide)
                            · exact .inl (by decide)) ?_
                        refine DW.qY rfl (ok_s2 (x := .tmp 143) (x' := .tmp 146) (VScal.one rfl) (VScal.one rfl) (fun ρ h1 h2 w => by go_simp; (try go_bits); with_reducible rfl) rfl) rfl rfl rfl (Nat.le_of_ble_eq_true rfl) rfl rfl rfl (Nat.le_of_ble_eq_true rfl) (fun _ _ _ _ h => h) ?_
                        refine DW.q rfl (ok_pickT (v := V.one (.sc _)) rfl rfl rfl) rfl rfl (Nat.le_of_ble_eq_true rfl) (fun _ _ _ _ h => h) ?_
                        refine DW.q rfl (ok_move (v := V.one (.sc _)) (.inl rfl) rfl) rfl rfl (Nat.le_of_ble_eq_true rfl) (fun _ _ _ _ h => h) ?_
                        refine DW.split (d := 149) rfl (fun hg6 => ?_) (fun hg6 => ?_)
                        · skip   -- g6.T
                          refine DW.qY rfl (ok_load_bp (b := 0) (i := 0) (ag := true) (m := 7) (ys := [.sc _, .sc _, .sc _, .sc _, .sc _, .sc _, .sc _]) rfl rfl rfl agg_impl_Pair sz_impl_Pair (fun h => by cases h) rfl rfl (Nat.le_of_ble_eq_true rfl)) rfl rfl rfl (Nat.le_of_ble_eq_true rfl) rfl rfl rfl (Nat.le_of_ble_eq_true rfl) (fun _ _ _ _ h => h) ?_
                          refine DW.qY rfl (ok_load_bp (b := 1) (i := 0) (ag := true) (m := 7) (ys := [.sc _, .sc _, .sc _, .sc _, .sc _, .sc _, .sc _]) rfl rfl rfl agg_impl_Pair sz_impl_Pair (fun h => by cases h) rfl rfl (Nat.le_of_ble_eq_true rfl)) rfl rfl rfl (Nat.le_of_ble_eq_true rfl) rfl rfl rfl (Nat.le_of_ble_eq_true rfl) (fun _ _ _ _ h => h) ?_
                          refine DW.qY rfl (ok_load_bp (b := 1) (i := 0) (ag := true) (m := 7) (ys := [.sc _, .sc _, .sc _, .sc _, .sc _, .sc _, .sc _]) rfl rfl rfl agg_impl_Pair sz_impl_Pair (fun h => by cases h) rfl rfl (Nat.le_of_ble_eq_true rfl)) rfl rfl rfl (Nat.le_of_ble_eq_true rfl) rfl rfl rfl (Nat.le_of_ble_eq_true rfl) (fun _ _ _ _ h => h) ?_
                          refine DW.qY rfl (ok_load_bp (b := 0) (i := 0) (ag := true) (m := 7) (ys := [.sc _, .sc _, .sc _, .sc _, .sc _, .sc _, .sc _]) rfl rfl rfl agg_impl_Pair sz_impl_Pair (fun h => by cases h) rfl rfl (Nat.le_of_ble_eq_true rfl)) rfl rfl rfl (Nat.le_of_ble_eq_true rfl) rfl rfl rfl (Nat.le_of_ble_eq_true rfl) (fun _ _ _ _ h => h) ?_
                          refine DW.m' [9, 8, 7] rfl (ok_call (ls := [(false, [.sc _])]) rfl rfl ⟨_, _, Tryd.func38, rfl, by decide⟩ (vpcmp_i x y) ⟨⟨[.sc _, .sc _, .sc _, .sc _, .sc _, .sc _, .sc _], rfl, ⟨rfl, rfl, rfl, rfl, rfl, rfl, rfl, trivial⟩⟩, ⟨[.sc _, .sc _, .sc _, .sc _, .sc _, .sc _, .sc _], rfl, ⟨rfl, rfl, rfl, rfl, rfl, rfl, rfl, trivial⟩⟩, trivial⟩ rfl (Nat.le_of_ble_eq_true rfl)) (fun hr => wantedY hr rfl rfl rfl (Nat.le_of_ble_eq_true rfl) rfl rfl) (Nat.le_of_ble_eq_true rfl) (Nat.le_of_ble_eq_true rfl) (.inl rfl) (fun j hj => by
                              simp only [List.mem_cons, List.not_mem_nil, or_false] at hj
                              rcases hj with rfl | rfl | rfl
                              · exact .inl (by decide)
                              · exact .inl (by decide)
                              · exact .inl (by decide)) ?_
                          refine DW.m' [9, 8, 7] rfl (ok_call (ls := [(false, [.sc _])]) rfl rfl ⟨_, _, Tryd.func38, rfl, by decide⟩ (vpcmp_i y x) ⟨⟨[.sc _, .sc _, .sc _, .sc _, .sc _, .sc _, .sc _], rfl, ⟨rfl, rfl, rfl, rfl, rfl, rfl, rfl, trivial⟩⟩, ⟨[.sc _, .sc _, .sc _, .sc _, .sc _, .sc _, .sc _], rfl, ⟨rfl, rfl, rfl, rfl, rfl, rfl, rfl, trivial⟩⟩, trivial⟩ rfl (Nat.le_of_ble_eq_true rfl)) (fun hr => wantedY hr rfl rfl rfl (Nat.le_of_ble_eq_true rfl) rfl rfl) (Nat.le_of_ble_eq_true rfl) (Nat.le_of_ble_eq_true rfl) (.inl rfl) (fun j hj => by
                              simp only [List.mem_cons, List.not_mem_nil, or_false] at hj
                              rcases hj with rfl | rfl | rfl
                              · exact .inl (by decide)
                              · exact .inl (by decide)
                              · exact .inl (by decide)) ?_
                          refine DW.qY rfl (ok_s1 (x := .tmp 155) (VScal.one rfl) (fun ρ h1 w => by go_simp; (try go_bits); with_reducible rfl) rfl) rfl rfl rfl (Nat.le_of_ble_eq_true rfl) rfl rfl rfl (Nat.le_of_ble_eq_true rfl) (fun _ _ _ _ h => h) ?_
                          refine DW.qY rfl (ok_s2 (x := .tmp 152) (x' := .tmp 156) (VScal.one rfl) (VScal.one rfl) (fun ρ h1 h2 w => by go_simp; (try go_bits); with_reducible rfl) rfl) rfl rfl rfl (Nat.le_of_ble_eq_true rfl) rfl rfl rfl (Nat.le_of_ble_eq_true rfl) (fun _ _ _ _ h => h) ?_
                          refine DW.q rfl (ok_pickT (v := V.one (.sc _)) rfl rfl rfl) rfl rfl (Nat.le_of_ble_eq_true rfl) (fun _ _ _ _ h => h) ?_
                          refine DW.q rfl (ok_move (v := V.one (.sc _)) (.inl rfl) rfl) rfl rfl (Nat.le_of_ble_eq_true rfl) (fun _ _ _ _ h => h) ?_
                          refine DW.split (d := 159) rfl (fun hg7 => ?_) (fun hg7 => ?_)
                          · skip   -- g7.T
                            refine DW.qY rfl (ok_move (v := V.one (.hd 5)) (.inl rfl) rfl) rfl rfl rfl (Nat.le_of_ble_eq_true rfl) rfl rfl rfl (Nat.le_of_ble_eq_true rfl) (fun _ _ _ _ h => h) ?_
                            refine DW.qY rfl (ok_move (v := V.one (.hd 6)) (.inl rfl) rfl) rfl rfl rfl (Nat.le_of_ble_eq_true rfl) rfl rfl rfl (Nat.le_of_ble_eq_true rfl) (fun _ _ _ _ h => h) ?_
                            refine DW.qY rfl (ok_move (v := V.one (.hd 5)) (.inl rfl) rfl) rfl rfl rfl (Nat.le_of_ble_eq_true rfl) rfl rfl rfl (Nat.le_of_ble_eq_true rfl) (fun _ _ _ _ h => h) ?_
                            refine DW.qY rfl (ok_move (v := V.one (.hd 6)) (.inl rfl) rfl) rfl rfl rfl (Nat.le_of_ble_eq_true rfl) rfl rfl rfl (Nat.le_of_ble_eq_true rfl) (fun _ _ _ _ h => h) ?_
                            refine DW.m' [9, 8, 7] rfl (ok_call (ls := [(false, [.sc _])]) rfl rfl ⟨_, _, Tryd.func37, rfl, by decide⟩ (vbags_i X Z (by omega) (by omega)) ⟨⟨[.hd 5], rfl, ⟨rfl, trivial⟩⟩, ⟨[.hd 6], rfl, ⟨rfl, trivial⟩⟩, trivial⟩ rfl (Nat.le_of_ble_eq_true rfl)) (fun hr => wantedY hr rfl rfl rfl (Nat.le_of_ble_eq_true rfl) rfl rfl) (Nat.le_of_ble_eq_true rfl) (Nat.le_of_ble_eq_true rfl) (.inl rfl) (fun j hj => by
                                simp only [List.mem_cons, List.not_mem_nil, or_false] at hj
                                rcases hj with rfl | rfl | rfl
                                · exact .inl (by decide)
                                · exact .inl (by decide)
                                · exact .inl (by decide)) ?_
                            refine DW.m' [9, 8, 7] rfl (ok_call (ls := [(false, [.sc _])]) rfl rfl ⟨_, _, Tryd.func28, rfl, by decide⟩ (vbags_s X Z (by omega) (by omega)) ⟨⟨[.hd 5], rfl, ⟨rfl, trivial⟩⟩, ⟨[.hd 6], rfl, ⟨rfl, trivial⟩⟩, trivial⟩ rfl (Nat.le_of_ble_eq_true rfl)) (fun hr => wantedY hr rfl rfl rfl (Nat.le_of_ble_eq_true rfl) rfl rfl) (Nat.le_of_ble_eq_true rfl) (Nat.le_of_ble_eq_true rfl) (.inl rfl) (fun j hj => by
                                simp only [List.mem_cons, List.not_mem_nil, or_false] at hj
                                rcases hj with rfl | rfl | rfl
                                · exact .inl (by decide)
                                · exact .inl (by decide)
                                · exact .inl (by decide)) ?_
                            refine DW.qY rfl (ok_s2 (x := .tmp 162) (x' := .tmp 165) (VScal.one rfl) (VScal.one rfl) (fun ρ h1 h2 w => by go_simp; (try go_bits); with_reducible rfl) rfl) rfl rfl rfl (Nat.le_of_ble_eq_true rfl) rfl rfl rfl (Nat.le_of_ble_eq_true rfl) (fun _ _ _ _ h => h) ?_
                            refine DW.q rfl (ok_pickT (v := V.one (.sc _)) rfl rfl rfl) rfl rfl (Nat.le_of_ble_eq_true rfl) (fun _ _ _ _ h => h) ?_
                            refine DW.q rfl (ok_move (v := V.one (.sc _)) (.inr rfl) rfl) rfl rfl (Nat.le_of_ble_eq_true rfl) (fun _ _ _ _ h => h) ?_
                            refine DW.stores ?_
                            refine SV.zend ?_
                            refine SV.tn ?_
                            refine SV.ret ?_
                            apply SV.done (hf := Tryd.results4) (ht := rfl) (he := .inl rfl)
                            case hr => exact (ResAll.cons (ResOk.tmp (ag := false) (xs := [.sc _]) rfl) ResAll.nil')
                            case h2 => simp [two]
                            refine ⟨rfl, ⟨?_, trivial⟩, trivial⟩ <;> (show some (T.lit (Value.bool _)) = some (T.lit (Value.bool _)); refine congrArg (fun z => some (T.lit (Value.bool z))) ?_; simp)
                          · skip   -- g7.F
                            (exfalso; first | (simp [PairD.join1_len, htk] at hg7; done) | (have h5 := PairD.semi_anti A B; have h6 := PairD.join_small (k := 2) hA hB; have h7 := PairD.join_small (k := 3) hA hB; rw [IntWalk.wrap64_in _ ⟨by omega, by omega⟩] at hg7; simp at hg7; omega) | (have h5 := PairD.cmp_range y x; rw [IntWalk.wrap64_in _ ⟨by omega, by omega⟩, PairD.cmp_anti x y, PairD.cmp_anti] at hg7; simp at hg7; done) | (have h5 := PairD.cmp_range y x; have h6 := PairD.cmp_anti y x; rw [IntWalk.wrap64_in _ ⟨by omega, by omega⟩] at hg7; simp at hg7; omega) | (simp at hg7; done))
                        · skip   -- g6.F
                          (exfalso; first | (simp [PairD.join1_len, htk] at hg6; done) | (have h5 := PairD.semi_anti A B; have h6 := PairD.join_small (k := 2) hA hB; have h7 := PairD.join_small (k := 3) hA hB; rw [IntWalk.wrap64_in _ ⟨by omega, by omega⟩] at hg6; simp at hg6; omega) | (have h5 := PairD.cmp_range y x; rw [IntWalk.wrap64_in _ ⟨by omega, by omega⟩, PairD.cmp_anti x y, PairD.cmp_anti] at hg6; simp at hg6; done) | (have h5 := PairD.cmp_range y x; have h6 := PairD.cmp_anti y x; rw [IntWalk.wrap64_in _ ⟨by omega, by omega⟩] at hg6; simp at hg6; omega) | (simp at hg6; done))
                      · skip   -- g5.F
                        (exfalso; first | (simp [PairD.join1_len, htk] at hg5; done) | (have h5 := PairD.semi_anti A B; have h6 := PairD.join_small (k := 2) hA hB; have h7 := PairD.join_small (k := 3) hA hB; rw [IntWalk.wrap64_in _ ⟨by omega, by omega⟩] at hg5; simp at hg5; omega) | (have h5 := PairD.cmp_range y x; rw [IntWalk.wrap64_in _ ⟨by omega, by omega⟩, PairD.cmp_anti x y, PairD.cmp_anti] at hg5; simp at hg5; done) | (have h5 := PairD.cmp_range y x; have h6 := PairD.cmp_anti y x; rw [IntWalk.wrap64_in _ ⟨by omega, by omega⟩] at hg5; simp at hg5; omega) | (simp at hg5; done))
                    · skip   -- g4.F
                      (exfalso; first | (simp [PairD.join1_len, htk] at hg4; done) | (have h5 := PairD.semi_anti A B; have h6 := PairD.join_small (k := 2) hA hB; have h7 := PairD.join_small (k := 3) hA hB; rw [IntWalk.wrap64_in _ ⟨by omega, by omega⟩] at hg4; simp at hg4; omega) | (have h5 := PairD.cmp_range y x; rw [IntWalk.wrap64_in _ ⟨by omega, by omega⟩, PairD.cmp_anti x y, PairD.cmp_anti] at hg4; simp at hg4; done) | (have h5 := PairD.cmp_range y x; have h6 := PairD.cmp_anti y x; rw [IntWalk.wrap64_in _ ⟨by omega, by omega⟩] at hg4; simp at hg4; omega) | (simp at hg4; done))
                  · skip   -- g3.F
                    (exfalso; first | (simp [PairD.join1_len, htk] at hg3; done) | (have h5 := PairD.semi_anti A B; have h6 := PairD.join_small (k := 2) hA hB; have h7 := PairD.join_small (k := 3) hA hB; rw [IntWalk.wrap64_in _ ⟨by omega, by omega⟩] at hg3; simp at hg3; omega) | (have h5 := PairD.cmp_range y x; rw [IntWalk.wrap64_in _ ⟨by omega, by omega⟩, PairD.cmp_anti x y, PairD.cmp_anti] at hg3; simp at hg3; done) | (have h5 := PairD.cmp_range y x; have h6 := PairD.cmp_anti y x; rw [IntWalk.wrap64_in _ ⟨by omega, by omega⟩] at hg3; simp at hg3; omega) | (simp at hg3; done))
end Go.Proofs.YtlnjgoommpeioaaDoor
/- States told by trees: arguments, from their reading to their trees; no function of program or reference is walked here. -/
namespace Go.Proofs.YtlnjgoommpeioaaDoor
open Go Go.ChangeShapes Go.WideShapes Go.RowKit Go.Deep Go.Joins V
set_option linter.unusedVariables false
/-- Whatever reads as a value of the type is such a tree's. -/
def OpensT (A : TypeId) {α : Type} (n : Nat) (tf : α → List T) (ok : α → Prop) : Prop :=
  ∀ (H : Type) (enc : TypeId × Value → H) (w : World) (spare : Nat → Bool) (held : Bool) (fuel : Nat) (cs : List Value) (x : DataW H × List MemPlace), DataW.trod enc Tryd.prog w 0 spare held fuel A cs = some x → cs.length = n → ∃ y : α, ok y ∧ (tf y).length = n ∧ ∀ (j : Nat) (t : T) (u : Value), (tf y)[j]? = some t → cs[j]? = some u → Inn (fun b => b < w.heap.size) w t u
set_option maxRecDepth 100000 in
theorem OpensT.seq {A e : TypeId} {α : Type} {n : Nat} {tf : α → List T} {ok : α → Prop} (ht : Tryd.prog.underlying A = some (.slice e)) (hc : Tryd.prog.cellsOf e = n) (hp : 0 < n) (hz : Sz e n) (hO : OpensT e n tf ok) : OpensT A 1 (fun X : List α => [.seq e (X.map tf)]) (fun X => (∀ x ∈ X, ok x) ∧ X.length ≤ maxLen) := by
  intro H enc w spare held fuel cs x h _
  have emp : ∀ (a : Option Addr) (c : Nat), c ≤ maxLen → (a = none → c = 0) → ∃ y : List α, ((∀ x ∈ y, ok x) ∧ y.length ≤ maxLen) ∧ [T.seq e (y.map tf)].length = 1 ∧ ∀ (j : Nat) (t : T) (u : Value), [T.seq e (y.map tf)][j]? = some t → [Value.slice a 0 c][j]? = some u → Inn (fun b => b < w.heap.size) w t u := fun a c hc0 hn0 =>
    ⟨[], ⟨fun x hx => (by cases hx), Nat.zero_le _⟩, rfl, fun j t u h1 h2 => by
      match j, h1, h2 with
      | 0, h1, h2 =>
        cases h1; cases h2
        exact Inn.seq (es := []) n hp hz (fun e he => by cases he) (Nat.zero_le _) hc0 hn0 0 0 (fun _ => .bool false) (fun _ _ h => absurd rfl h) (fun h => absurd rfl h) (fun k e j t h => by simp at h) fun k e j t h => by simp at h⟩
  rcases open_slice ht h with ⟨rfl, -⟩ | ⟨a, len, cap, m, fu, D, Pl, rfl, -, hl, hm, hmm, -, hi⟩
  · exact emp none 0 (Nat.zero_le _) fun _ => rfl
  · have hlm : len ≤ m := by rw [hmm]; split <;> omega
    rw [hc] at hi
    rcases Nat.eq_zero_or_pos len with h0 | h0
    · subst h0
      exact emp (some a) cap hm fun e => by cases e
    · have hone : ∀ i, i < len → ∃ yc : α × List Value, ok yc.1 ∧ (tf yc.1).length = n ∧ yc.2.length = n ∧ (∀ j u, yc.2[j]? = some u → w.cell? (a.add (i * n + j)) = some u) ∧ ∀ (j : Nat) (t : T) (u : Value), (tf yc.1)[j]? = some t → yc.2[j]? = some u → Inn (fun b => b < w.heap.size) w t u := by
        intro i hil
        obtain ⟨cs', hcs, htr⟩ := hi i (by omega)
        obtain ⟨_, hcl, hat⟩ := World.cells?_some hcs
        obtain ⟨y, h1, h2, h3⟩ := hO H enc w spare held fu cs' _ htr hcl
        refine ⟨(y, cs'), h1, h2, hcl, fun j u hj => ?_, h3⟩
        have hjl : j < n := by rw [← hcl]; exact get_lt hj
        have := hat j hjl
        rw [add_add] at this
        rw [this]
        exact hj
      obtain ⟨y0, -⟩ := hone 0 h0
      obtain ⟨f, hf⟩ := @choose_lt (α × List Value) ⟨y0⟩ len _ hone
      obtain ⟨b, o, spot⟩ := a
      have hl0 : 0 < (f 0).2.length := by rw [(hf 0 h0).2.2.1]; exact hp
      have hcell0 := (hf 0 h0).2.2.2.1 0 (f 0).2[0] (by simp [hl0])
      have hspot : spot = none := by simpa [Addr.add] using World.cell?_spot hcell0
      subst hspot
      have hb : b < w.heap.size := by
        have := World.block_lt_of_cell? w _ hcell0
        simpa [Addr.add] using this
      have hget : ∀ k e', (((List.range len).map fun t => (f t).1).map tf)[k]? = some e' → k < len ∧ e' = tf (f k).1 := fun k e' hk => by
        have hkl : k < len := by have := get_lt hk; simpa using this
        refine ⟨hkl, ?_⟩
        simp [hkl] at hk
        exact hk.symm
      refine ⟨(List.range len).map fun t => (f t).1, ⟨fun x hx => ?_, by simp; omega⟩, rfl, fun j t u h1 h2 => ?_⟩
      · obtain ⟨t, ht, rfl⟩ := List.mem_map.1 hx
        exact (hf t (List.mem_range.1 ht)).1
      · match j, h1, h2 with
        | 0, h1, h2 =>
          cases h1; cases h2
          have hlen : (((List.range len).map fun t => (f t).1).map tf).length = len := by simp
          have key : ∀ k e' j t', (((List.range len).map fun t => (f t).1).map tf)[k]? = some e' → e'[j]? = some t' → ∃ u, (f k).2[j]? = some u ∧ w.cell? ⟨b, o + (k * n + j), none⟩ = some u ∧ Inn (fun b => b < w.heap.size) w t' u := fun k e' j t' hk hj => by
            obtain ⟨hkl, rfl⟩ := hget k e' hk
            obtain ⟨-, h3, h4, h5, h6⟩ := hf k hkl
            have hjl : j < (f k).2.length := by rw [h4, ← h3]; exact get_lt hj
            have h7 := h5 j _ (List.getElem?_eq_getElem hjl)
            rw [Addr.add_lit] at h7
            exact ⟨_, List.getElem?_eq_getElem hjl, h7, h6 j t' _ hj (List.getElem?_eq_getElem hjl)⟩
          have hsl : Value.slice (some ⟨b, o, none⟩) len cap = Value.slice (some ⟨b, o, none⟩) (((List.range len).map fun t => (f t).1).map tf).length cap := by rw [hlen]
          rw [hsl]
          exact Inn.seq n hp hz (fun e' he => by
            obtain ⟨k, hk, rfl⟩ := List.getElem_of_mem he
            obtain ⟨hkl, e1⟩ := hget k _ (List.getElem?_eq_getElem hk)
            rw [e1]; exact (hf k hkl).2.1) (by rw [hlen]; exact hl) hm (fun e => by cases e) b o (fun i => (w.cell? ⟨b, o + i, none⟩).getD (.bool false)) (fun ad h _ => (Option.some.inj h).symm) (fun _ => ⟨hb, hb⟩) (fun k e' j t' hk hj => by
              obtain ⟨u, -, h3, -⟩ := key k e' j t' hk hj
              rw [h3]; rfl) fun k e' j t' hk hj => by
              obtain ⟨u, -, h3, h4⟩ := key k e' j t' hk hj
              rw [h3]; exact h4
theorem OpensT.int : OpensT 3 1 (fun x : Int => [.lit (.int .i64 x)]) I64 := by
  intro H enc w spare held fuel cs x h hl
  match cs, hl with
  | [c0], _ =>
    obtain ⟨k0, e0, -, w0⟩ := DataW.trod_int Tryd.underlying3 h
    simp at e0
    subst e0
    refine ⟨k0, bounds_i64 w0, rfl, fun j t u h1 h2 => ?_⟩
    match j, h1, h2 with
    | 0, h1, h2 => cases h1; cases h2; exact .lit rfl
theorem OpensT.bool : OpensT 4 1 (fun x : Bool => [.lit (.bool x)]) (fun _ => True) := by
  intro H enc w spare held fuel cs x h hl
  match cs, hl with
  | [c0], _ =>
    obtain ⟨k0, e0, -⟩ := DataW.trod_bool Tryd.underlying4 h
    simp at e0
    subst e0
    refine ⟨k0, trivial, rfl, fun j t u h1 h2 => ?_⟩
    match j, h1, h2 with
    | 0, h1, h2 => cases h1; cases h2; exact .lit rfl
set_option maxRecDepth 100000 in
theorem OpensT.row : OpensT 120 3 uRow R.wf := by
  intro H enc w spare held fuel cs x h hl
  obtain ⟨y0, y1, y2, k, _, _, h0, h1, h2⟩ := trod_struct3 Tryd.underlying120 h
  match cs, hl with
  | [c0, c1, c2], _ =>
    obtain ⟨k0, e0, rfl, w0⟩ := DataW.trod_int Tryd.underlying3 h0
    obtain ⟨k1, e1, rfl, w1⟩ := DataW.trod_int Tryd.underlying3 h1
    obtain ⟨k2, e2, rfl, w2⟩ := DataW.trod_int Tryd.underlying3 h2
    simp [intCells] at e0 e1 e2
    subst e0 e1 e2
    refine ⟨⟨k0, k1, k2⟩, ⟨bounds_i64 w0, bounds_i64 w1, bounds_i64 w2⟩, rfl, fun j t u h1 h2 => ?_⟩
    match j, h1, h2 with
    | 0, h1, h2 => cases h1; cases h2; exact .lit rfl
    | 1, h1, h2 => cases h1; cases h2; exact .lit rfl
    | 2, h1, h2 => cases h1; cases h2; exact .lit rfl
set_option maxRecDepth 100000 in
theorem OpensT.rows : OpensT 179 1 (fun X : List R => [.seq 120 (X.map uRow)]) (fun X => (∀ x ∈ X, x.wf) ∧ X.length ≤ maxLen) := OpensT.seq Tryd.underlying179 (by kernel_rfl) (by decide) (Sz.of (by kernel_rfl)) OpensT.row
def okRow (r : R) : Prop := r.wf
/-- One argument: what may be read of its cells. -/
def ArgT (w : World) (ag : Bool) (ts : List T) (v : Value) : Prop := ∃ us : List Value, v = cval ag us ∧ us.length = ts.length ∧ ∀ (j : Nat) (t : T) (u : Value), ts[j]? = some t → us[j]? = some u → Inn (fun b => b < w.heap.size) w t u
theorem ArgT.lit {w : World} {v : Value} (h : v.oneCell' = true) : ArgT w false [.lit v] v := ⟨[v], rfl, rfl, fun j t u h1 h2 => by
  match j, h1, h2 with
  | 0, h1, h2 => cases h1; cases h2; exact .lit h⟩
set_option maxRecDepth 100000 in
theorem OpensT.val {A : TypeId} {fs : Array Field} {α : Type} {n : Nat} {tf : α → List T} {ok : α → Prop} (hO : OpensT A n tf ok) (hs : Tryd.prog.underlying A = some (.struct fs)) (hc : Tryd.prog.cellsOf A = n)
    {H : Type} {enc : TypeId × Value → H} {w : World} {spare : Nat → Bool} {held : Bool} {q : Reach} {b0 : Nat} {v : Value} {d : DataW H} {p : List MemPlace} (hv : Value.okWide Tryd.prog w q b0 A v) (h : DataW.Trod enc Tryd.prog w 0 spare held A v d p) :
    ∃ y : α, ok y ∧ ArgT w true (tf y) v := by
  obtain ⟨cs, rfl, hsz⟩ := okWide_struct hs hv
  obtain ⟨fuel, hf⟩ := h
  have hl : (Value.cells (.agg cs)).toList.length = n := by simpa [Value.cells] using hsz.trans hc
  obtain ⟨y, h1, h2, h3⟩ := hO H enc w spare held fuel _ _ hf hl
  exact ⟨y, h1, cs.toList, by simp [cval], hl.trans h2.symm, h3⟩
theorem OpensT.arg {A : TypeId} {α : Type} {tf : α → List T} {ok : α → Prop} (hO : OpensT A 1 tf ok) {H : Type} {enc : TypeId × Value → H} {w : World} {spare : Nat → Bool} {held : Bool} {a : Option Addr} {len cap : Nat} {d : DataW H} {p : List MemPlace}
    (h : DataW.Trod enc Tryd.prog w 0 spare held A (.slice a len cap) d p) : ∃ y : α, ok y ∧ ArgT w false (tf y) (.slice a len cap) := by
  obtain ⟨fuel, hf⟩ := h
  obtain ⟨y, h1, h2, h3⟩ := hO H enc w spare held fuel _ _ hf (by simp [Value.cells])
  exact ⟨y, h1, [.slice a len cap], rfl, h2.symm, h3⟩
theorem argsIn_nil {w : World} : ArgsIn (Env.of w) w [] [] := ⟨rfl, fun c ag ts v h => by simp at h⟩
theorem argsIn_cons {w : World} {ag : Bool} {ts : List T} {v : Value} {ins : List (Bool × List T)} {vs : List Value} (h : ArgT w ag ts v) (k : ArgsIn (Env.of w) w ins vs) : ArgsIn (Env.of w) w ((ag, ts) :: ins) (v :: vs) := by
  refine ⟨by simp [k.1], fun c ag' ts' v' h1 h2 => ?_⟩
  cases c with
  | zero =>
    cases h1; cases h2
    obtain ⟨us, h3, h4, h5⟩ := h
    exact ⟨us, h3, h4, fun j t u h6 h7 => (h5 j t u h6 h7).frame (Nat.le_refl _) fun b hb _ => ⟨Env.of_old.2 hb, rfl⟩⟩
  | succ c => exact k.2 c ag' ts' v' (by simpa using h1) (by simpa using h2)
/-- A law's contract, as its last step takes it. -/
theorem VC.law {f : FuncId} {ins : List (Bool × List T)} (h : VC Tryd.prog f ins false [(false, [.lit (.bool true)])]) {w : World} {vs : List Value} (hv : ArgsIn (Env.of w) w ins vs) : Calls Tryd.prog f vs.toArray w fun e w' => e = .returned (.bool true) ∧ Below w.heap.size w w' :=
  (h w vs hv).mono fun e w' hg => by
    obtain ⟨h1, h2⟩ := hg.lit
    exact ⟨h1, h2.os, h2.tape, h2.output, h2.size, fun k hk => h2.block k (Env.of_old.2 hk)⟩
end Go.Proofs.YtlnjgoommpeioaaDoor
