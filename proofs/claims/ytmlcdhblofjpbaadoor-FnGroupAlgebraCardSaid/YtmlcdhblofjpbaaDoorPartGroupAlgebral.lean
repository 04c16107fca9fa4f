/- Texts joined: VAlg VOp. -/
import Derived.Test.YtmlcdhblofjpbaaDoorPartGroupAlgebrak
/- The law of groups: told by trees. -/
namespace Go.Proofs.YtmlcdhblofjpbaaDoor
open Go Go.RowKit V
set_option linter.unusedVariables false
theorem vbigQ {ad : Option Addr} {len cap : Nat} {zs : List Int} : VCP (fun w => Code ad len cap zs w ∧ Tab w) Tryd.prog 7 [(false, [.lit (.slice ad len cap)])] false [(false, [.lit (.bool false)])] := fun w hw vs hv => VC.plainAt (ins := [(false, [.slice ad len cap])]) (ag := false) (rs := [.bool false]) (fun u hu => by rw [List.mem_singleton.1 hu]; rfl) ((big_no ad len cap w hw.1.small).mono fun e w' ⟨he, hw'⟩ => ⟨he, hw' ▸ Below.refl _ _⟩) vs hv
theorem VCE.mono {Y : Type} {Φ Ψ : World → Prop} {Pr : Y → Prop} {f : FuncId} {ins : List (Bool × List V.T)} {tup : Bool} {rs : Y → List (Bool × List V.T)} (h : ∀ w, Φ w → Ψ w) (k : VCE Ψ Pr Tryd.prog f ins tup rs) : VCE Φ Pr Tryd.prog f ins tup rs := fun w hw => k w (h w hw)
theorem VCD.toP {Φ : World → Prop} {f : FuncId} {ins rs : List (Bool × List V.T)} {tup : Bool} (h : ∀ w, Φ w → Tab w) (k : VCD Tryd.prog f ins tup rs) : VCP Φ Tryd.prog f ins tup rs := fun w hw => k w (h w hw)
theorem vref_i' (A : List R) (hA : A.length ≤ 13) (hw : ∀ r ∈ A, r.wf) : VC Tryd.prog 9 [(false, [.seq 41 (A.map tRow)])] false [(false, [.seq 33 ((GroupD.ofRows A).map tGroup)])] := vref_i A (by omega) fun r hr => lit_wf (hw r hr).1
theorem vref_s' (A : List R) (hA : A.length ≤ 13) : VC Tryd.prog 12 [(false, [.seq 41 (A.map tRow)])] false [(false, [.seq 33 ((GroupD.ofRows A).map tGroup)])] := vref_s A (by omega)
theorem vrefT (A : List R) (k : Nat) (hA : A.length ≤ 13) (hw : ∀ r ∈ A, r.wf) (hk : k ≤ A.length) : VC Tryd.prog 9 [(false, [.seq 41 (((A.map tRow).take k).drop 0)])] false [(false, [.seq 33 ((GroupD.ofRows (A.take k)).map tGroup)])] := by
  have h := vref_i' (A.take k) (by rw [List.length_take]; omega) fun r hr => hw r (List.mem_of_mem_take hr)
  rw [List.map_take] at h
  exact h
theorem vrefD (A : List R) (k : Nat) (hA : A.length ≤ 13) (hw : ∀ r ∈ A, r.wf) (hk : k ≤ A.length) : VC Tryd.prog 9 [(false, [.seq 41 (((A.map tRow).take (A.map tRow).length).drop k)])] false [(false, [.seq 33 ((GroupD.ofRows (A.drop k)).map tGroup)])] := by
  have h := vref_i' (A.drop k) (by rw [List.length_drop]; omega) fun r hr => hw r (List.mem_of_mem_drop hr)
  rw [List.map_drop] at h
  rw [List.take_of_length_le (Nat.le_refl _)]
  exact h
theorem vmergeP (A : List R) (k : Nat) (hA : A.length ≤ 13) (hw : ∀ r ∈ A, r.wf) : VC Tryd.prog 13 [(false, [.seq 33 ((GroupD.ofRows (A.take k) ++ GroupD.ofRows (A.drop k)).map tGroup)])] false [(false, [.seq 33 ((GroupD.ofRows A).map tGroup)])] := by
  have h := vmerge_i (GroupD.ofRows (A.take k) ++ GroupD.ofRows (A.drop k)) (by have h1 := GroupD.ofRows_length (A.take k); have h2 := GroupD.ofRows_length (A.drop k); rw [List.length_append]; simp at h1 h2; omega) fun g hg => by
    rcases List.mem_append.1 hg with h | h
    · exact GroupD.ofRows_key (fun r hr => hw r (List.mem_of_mem_take hr)) g h
    · exact GroupD.ofRows_key (fun r hr => hw r (List.mem_of_mem_drop hr)) g h
  rw [GroupD.ofRows_split] at h
  exact h
set_option maxRecDepth 100000 in
set_option maxHeartbeats 2000000 in
theorem vlaw (ad : Option Addr) (len cap : Nat) (zs : List Int) : VCP (fun w => Code ad len cap zs w ∧ Tab w) Tryd.prog 3 [(false, [.lit (.slice ad len cap)])] false [(false, [.lit (.bool true)])] := by
  refine VCP.enter (fun w w' h hb => ⟨h.1.below hb, h.2.stay hb⟩) Tryd.func3 rfl Tryd.ntmps3 (Nat.le_of_ble_eq_true rfl) fun E hE hD => ?_
  refine SV.seq' ?_
  refine SV.region ?_
  refine SV.op (OpL.ok (nb := 0) (ok_move (v := V.one (.sc _)) (.inr rfl) rfl) rfl (Nat.le_of_ble_eq_true rfl)) rfl ?_
  refine SV.nil ?_
  refine SV.tn ?_
  refine SV.seq' ?_
  refine SV.seq' ?_
  refine SV.region ?_
  refine SV.op (OpL.ok (nb := 0) (ok_move (v := V.one (.sc _)) (.inl rfl) rfl) rfl (Nat.le_of_ble_eq_true rfl)) rfl ?_
  refine SV.op (OpMk.ok (ok_callP (ls := [(false, [.sc _])]) hD rfl rfl ⟨_, _, Tryd.func7, rfl, by decide⟩ (vbigQ) ⟨⟨[.sc _], rfl, ⟨rfl, trivial⟩⟩, trivial⟩ rfl (Nat.le_of_ble_eq_true rfl))) rfl ?_
  refine SV.nil ?_
  refine SV.tn ?_
  refine SV.cond rfl (fun hc0 => ?_) (fun hc0 => ?_)
  · skip   -- c0.T
    simp at hc0
  · skip   -- c0.F
    refine SV.skip ?_
    refine SV.tn ?_
    refine SV.seq' ?_
    refine SV.region ?_
    refine SV.op (OpL.ok (nb := 0) (ok_move (v := V.one (.sc _)) (.inl rfl) rfl) rfl (Nat.le_of_ble_eq_true rfl)) rfl ?_
    refine SV.callE hD rfl ⟨_, _, Tryd.func8, rfl, by decide⟩ (VCE.mono (fun w h => h.1) vd_ref) ⟨⟨[.sc _], rfl, ⟨rfl, trivial⟩⟩, trivial⟩ rfl (Nat.le_of_ble_eq_true rfl) rfl ?_
    rintro A ⟨hA, hwA⟩
    replace hA : A.length ≤ 13 := hA
    have hGl := GroupD.ofRows_length A
    refine SV.op (OpL.ok (nb := 0) (ok_move (v := V.one (.hd 0)) (.inr rfl) rfl) rfl (Nat.le_of_ble_eq_true rfl)) rfl ?_
    refine SV.nil ?_
    refine SV.tn ?_
    refine SV.seq' ?_
    refine SV.region ?_
    refine SV.op (OpL.ok (nb := 0) (ok_move (v := V.one (.hd 0)) (.inl rfl) rfl) rfl (Nat.le_of_ble_eq_true rfl)) rfl ?_
    refine SV.op (OpMk.ok (ok_call (ls := [(false, [.hd 1])]) rfl rfl ⟨_, _, Tryd.func9, rfl, by decide⟩ (vref_i' A hA hwA) ⟨⟨[.hd 0], rfl, ⟨rfl, trivial⟩⟩, trivial⟩ rfl (Nat.le_of_ble_eq_true rfl))) rfl ?_
    refine SV.op (OpL.ok (nb := 0) (ok_move (v := V.one (.hd 1)) (.inr rfl) rfl) rfl (Nat.le_of_ble_eq_true rfl)) rfl ?_
    refine SV.nil ?_
    refine SV.tn ?_
    refine SV.seq' ?_
    refine SV.region ?_
    refine SV.op (OpL.ok (nb := 0) (ok_move (v := V.one (.sc _)) (.inl rfl) rfl) rfl (Nat.le_of_ble_eq_true rfl)) rfl ?_
    refine SV.op (OpL.ok (nb := 0) (ok_move (v := V.one (.hd 0)) (.inl rfl) rfl) rfl (Nat.le_of_ble_eq_true rfl)) rfl ?_
    refine SV.op (OpL.ok (nb := 0) (ok_len (lf := .hd 0) rfl elt_impl_Row.und rfl rfl) rfl (Nat.le_of_ble_eq_true rfl)) rfl ?_
    refine SV.callE hD rfl ⟨_, _, Tryd.func10, rfl, by decide⟩ (VCE.mono (fun w h => h.1) (vcut 3 (A.map tRow).length (by decide) (by rw [List.length_map]; omega))) ⟨⟨[.sc _], rfl, ⟨rfl, trivial⟩⟩, ⟨[.sc _], rfl, ⟨rfl, trivial⟩⟩, ⟨[.sc _], rfl, ⟨rfl, trivial⟩⟩, trivial⟩ rfl (Nat.le_of_ble_eq_true rfl) rfl ?_
    rintro k hk
    replace hk : k ≤ A.length := by simpa using hk
    have hr1 := vrefT A k hA hwA hk
    have hr2 := vrefD A k hA hwA hk
    refine SV.op (OpL.ok (nb := 0) (ok_move (v := V.one (.sc _)) (.inr rfl) rfl) rfl (Nat.le_of_ble_eq_true rfl)) rfl ?_
    refine SV.nil ?_
    refine SV.tn ?_
    refine SV.seq' ?_
    refine SV.joinF (fun (σ : VS) => ((((((((VS.nil.new (σ.tree 0)).new (σ.tree 1)).new (.seq 33 ((GroupD.ofRows (A.take k) ++ GroupD.ofRows (A.drop k)).map tGroup))).put 0 (σ.tm 0)).put 2 (σ.tm 2)).put 3 (V.flat false [.hd 0])).put 4 (V.flat false [.hd 1])).put 6 (V.flat false [.hd 2]))) ?h ?k
    case k =>
      intro hjn
      refine SV.drawT (.q 1 (.q 2 (.q 3 (.q 6 (.q 7 (.q 8 (.alt 0 (.m 4 (.m 5 (.m 9 (.m 10 (.q 11 .nil))))) 4 (.m 0 (.m 5 (.m 9 (.m 10 (.q 11 .nil)))))))))))) [] (by kernel_rfl) (by kernel_rfl) ?_
      refine DW.q rfl (ok_move (v := V.one (.hd 0)) (.inl rfl) rfl) rfl rfl (Nat.le_of_ble_eq_true rfl) (fun _ _ _ _ h => h) ?_
      refine DW.q rfl (ok_move (v := V.one (.sc _)) (.inl rfl) rfl) rfl rfl (Nat.le_of_ble_eq_true rfl) (fun _ _ _ _ h => h) ?_
      refine DW.q rfl (ok_slice (l := 0) (h := k) (lf := .hd 0) (yy := .nd 0 _ _ none) rfl rfl elt_impl_Row.und sz_impl_Row rfl rfl rfl ⟨_, rfl⟩ (by omega) (by rw [List.length_map]; exact hk)) rfl rfl (Nat.le_of_ble_eq_true rfl) (fun _ _ _ _ h => h) ?_
      refine DW.q rfl (ok_move (v := V.one (.hd 0)) (.inl rfl) rfl) rfl rfl (Nat.le_of_ble_eq_true rfl) (fun _ _ _ _ h => h) ?_
      refine DW.q rfl (ok_move (v := V.one (.sc _)) (.inl rfl) rfl) rfl rfl (Nat.le_of_ble_eq_true rfl) (fun _ _ _ _ h => h) ?_
      refine DW.q rfl (ok_slice (l := k) (h := (A.map tRow).length) (lf := .hd 0) (yy := .nd 0 _ _ none) rfl rfl elt_impl_Row.und sz_impl_Row rfl rfl ⟨_, rfl⟩ rfl (by rw [List.length_map]; exact hk) (Nat.le_refl _)) rfl rfl (Nat.le_of_ble_eq_true rfl) (fun _ _ _ _ h => h) ?_
      refine DW.alt ?_ ?_
      · skip   -- first 0
        refine DW.m [2] rfl (ok_lit0 (kk := 2) elt_impl_Group rfl rfl rfl (Nat.le_of_ble_eq_true rfl)) rfl (Nat.le_of_ble_eq_true rfl) (Nat.le_of_ble_eq_true rfl) (.inl rfl) (fun j hj => by
            simp only [List.mem_cons, List.not_mem_nil, or_false] at hj
            rcases hj with rfl
            · exact .inr ⟨(Nat.le_of_ble_eq_true rfl), (Nat.le_of_ble_eq_true rfl), .inl rfl⟩) ?_
        refine DW.m [3, 2] rfl (ok_call (ls := [(false, [.hd 3])]) rfl rfl ⟨_, _, Tryd.func9, rfl, by decide⟩ (hr1) ⟨⟨[.nd 0 _ _ none], rfl, ⟨rfl, trivial⟩⟩, trivial⟩ rfl (Nat.le_of_ble_eq_true rfl)) rfl (Nat.le_of_ble_eq_true rfl) (Nat.le_of_ble_eq_true rfl) (.inl rfl) (fun j hj => by
            simp only [List.mem_cons, List.not_mem_nil, or_false] at hj
            rcases hj with rfl | rfl
            · exact .inr ⟨(Nat.le_of_ble_eq_true rfl), (Nat.le_of_ble_eq_true rfl), .inl rfl⟩
            · exact .inl (by decide)) ?_
        refine DW.m [4, 3, 2] rfl (ok_append_ro (kk := 4) elt_impl_Group (ls := .hd 2) (lx := .hd 3) rfl rfl rfl rfl rfl rfl (flat_impl_Group _) (by have h1 := GroupD.ofRows_length (A.take k); have h2 := GroupD.ofRows_length (A.drop k); simp at h1 h2 ⊢; omega) rfl (Nat.le_of_ble_eq_true rfl)) rfl (Nat.le_of_ble_eq_true rfl) (Nat.le_of_ble_eq_true rfl) (.inr ⟨2, rfl, .inl (by decide)⟩) (fun j hj => by
            simp only [List.mem_cons, List.not_mem_nil, or_false] at hj
            rcases hj with rfl | rfl | rfl
            · exact .inr ⟨(Nat.le_of_ble_eq_true rfl), (Nat.le_of_ble_eq_true rfl), .inr ⟨2, rfl, by decide⟩⟩
            · exact .inl (by decide)
            · exact .inl (by decide)) ?_
        refine DW.m [5, 4, 3, 2] rfl (ok_call (ls := [(false, [.hd 5])]) rfl rfl ⟨_, _, Tryd.func9, rfl, by decide⟩ (hr2) ⟨⟨[.nd 0 _ _ none], rfl, ⟨rfl, trivial⟩⟩, trivial⟩ rfl (Nat.le_of_ble_eq_true rfl)) rfl (Nat.le_of_ble_eq_true rfl) (Nat.le_of_ble_eq_true rfl) (.inl rfl) (fun j hj => by
            simp only [List.mem_cons, List.not_mem_nil, or_false] at hj
            rcases hj with rfl | rfl | rfl | rfl
            · exact .inr ⟨(Nat.le_of_ble_eq_true rfl), (Nat.le_of_ble_eq_true rfl), .inl rfl⟩
            · exact .inl (by decide)
            · exact .inl (by decide)
            · exact .inl (by decide)) ?_
        refine DW.m [6, 5, 4, 3, 2] rfl (ok_append_ro (kk := 6) elt_impl_Group (ls := .hd 4) (lx := .hd 5) rfl rfl rfl rfl rfl rfl (flat_impl_Group _) (by have h1 := GroupD.ofRows_length (A.take k); have h2 := GroupD.ofRows_length (A.drop k); simp at h1 h2 ⊢; omega) rfl (Nat.le_of_ble_eq_true rfl)) rfl (Nat.le_of_ble_eq_true rfl) (Nat.le_of_ble_eq_true rfl) (.inr ⟨4, rfl, .inl (by decide)⟩) (fun j hj => by
            simp only [List.mem_cons, List.not_mem_nil, or_false] at hj
            rcases hj with rfl | rfl | rfl | rfl | rfl
            · exact .inr ⟨(Nat.le_of_ble_eq_true rfl), (Nat.le_of_ble_eq_true rfl), .inr ⟨4, rfl, by decide⟩⟩
            · exact .inl (by decide)
            · exact .inl (by decide)
            · exact .inl (by decide)
            · exact .inl (by decide)) ?_
        refine DW.q rfl (ok_move (v := V.one (.hd 6)) (.inr rfl) rfl) rfl rfl (Nat.le_of_ble_eq_true rfl) (fun _ _ _ _ h => h) ?_
        refine DW.stores ?_
        refine SV.zend ?_
        refine SV.weaken (fun i => [0, 1, 6].getD i 0) (pins hE rfl rfl) (VS.le.mk' (le_put (le_put (le_put (le_put (le_put (le_new (le_new (le_new le_nil))) (V.le.keep (ag := false) (xs := [.sc _]) (ys := [.sc _]) rfl rfl ⟨rfl, trivial⟩)) (V.le.keep (ag := false) (xs := [.sc _]) (ys := [.sc _]) rfl rfl ⟨rfl, trivial⟩)) (V.le.keep (ag := false) (xs := [.hd 0]) (ys := [.hd 0]) rfl rfl ⟨⟨rfl, (Nat.le_of_ble_eq_true rfl), (Nat.le_of_ble_eq_true rfl)⟩, trivial⟩)) (V.le.keep (ag := false) (xs := [.hd 1]) (ys := [.hd 1]) rfl rfl ⟨⟨rfl, (Nat.le_of_ble_eq_true rfl), (Nat.le_of_ble_eq_true rfl)⟩, trivial⟩)) (V.le.keep (ag := false) (xs := [.hd 6]) (ys := [.hd 2]) rfl rfl ⟨⟨rfl, (Nat.le_of_ble_eq_true rfl), (Nat.le_of_ble_eq_true rfl)⟩, trivial⟩)) trivial ⟨.inr ⟨_, _, rfl, ?ob2_2, (Nat.le_of_ble_eq_true rfl)⟩, ⟨.inr ⟨_, _, rfl, rfl, (Nat.le_of_ble_eq_true rfl)⟩, ⟨.inr ⟨_, _, rfl, rfl, (Nat.le_of_ble_eq_true rfl)⟩, trivial⟩⟩⟩ (new_ob (new_ob (new_ob nil_ob))) (fun i j hi hj e => inj_list (l := [0, 1, 6]) (by decide) i j hi hj e)) hjn
        case ob2_2 =>
          show some (T.seq _ _) = some (T.seq _ _)
          first | (simp [List.map_append]; done) | rfl
      · skip   -- first 4
        refine DW.m [2] rfl (ok_call (ls := [(false, [.hd 2])]) rfl rfl ⟨_, _, Tryd.func9, rfl, by decide⟩ (hr1) ⟨⟨[.nd 0 _ _ none], rfl, ⟨rfl, trivial⟩⟩, trivial⟩ rfl (Nat.le_of_ble_eq_true rfl)) rfl (Nat.le_of_ble_eq_true rfl) (Nat.le_of_ble_eq_true rfl) (.inl rfl) (fun j hj => by
            simp only [List.mem_cons, List.not_mem_nil, or_false] at hj
            rcases hj with rfl
            · exact .inr ⟨(Nat.le_of_ble_eq_true rfl), (Nat.le_of_ble_eq_true rfl), .inl rfl⟩) ?_
        refine DW.m [3, 2] rfl (ok_lit0 (kk := 3) elt_impl_Group rfl rfl rfl (Nat.le_of_ble_eq_true rfl)) rfl (Nat.le_of_ble_eq_true rfl) (Nat.le_of_ble_eq_true rfl) (.inl rfl) (fun j hj => by
            simp only [List.mem_cons, List.not_mem_nil, or_false] at hj
            rcases hj with rfl | rfl
            · exact .inr ⟨(Nat.le_of_ble_eq_true rfl), (Nat.le_of_ble_eq_true rfl), .inl rfl⟩
            · exact .inl (by decide)) ?_
        refine DW.m [4, 3, 2] rfl (ok_append_ro (kk := 4) elt_impl_Group (ls := .hd 3) (lx := .hd 2) rfl rfl rfl rfl rfl rfl (flat_impl_Group _) (by have h1 := GroupD.ofRows_length (A.take k); have h2 := GroupD.ofRows_length (A.drop k); simp at h1 h2 ⊢; omega) rfl (Nat.le_of_ble_eq_true rfl)) rfl (Nat.le_of_ble_eq_true rfl) (Nat.le_of_ble_eq_true rfl) (.inr ⟨3, rfl, .inl (by decide)⟩) (fun j hj => by
            simp only [List.mem_cons, List.not_mem_nil, or_false] at hj
            rcases hj with rfl | rfl | rfl
            · exact .inr ⟨(Nat.le_of_ble_eq_true rfl), (Nat.le_of_ble_eq_true rfl), .inr ⟨3, rfl, by decide⟩⟩
            · exact .inl (by decide)
            · exact .inl (by decide)) ?_
        refine DW.m [5, 4, 3, 2] rfl (ok_call (ls := [(false, [.hd 5])]) rfl rfl ⟨_, _, Tryd.func9, rfl, by decide⟩ (hr2) ⟨⟨[.nd 0 _ _ none], rfl, ⟨rfl, trivial⟩⟩, trivial⟩ rfl (Nat.le_of_ble_eq_true rfl)) rfl (Nat.le_of_ble_eq_true rfl) (Nat.le_of_ble_eq_true rfl) (.inl rfl) (fun j hj => by
            simp only [List.mem_cons, List.not_mem_nil, or_false] at hj
            rcases hj with rfl | rfl | rfl | rfl
            · exact .inr ⟨(Nat.le_of_ble_eq_true rfl), (Nat.le_of_ble_eq_true rfl), .inl rfl⟩
            · exact .inl (by decide)
            · exact .inl (by decide)
            · exact .inl (by decide)) ?_
        refine DW.m [6, 5, 4, 3, 2] rfl (ok_append_ro (kk := 6) elt_impl_Group (ls := .hd 4) (lx := .hd 5) rfl rfl rfl rfl rfl rfl (flat_impl_Group _) (by have h1 := GroupD.ofRows_length (A.take k); have h2 := GroupD.ofRows_length (A.drop k); simp at h1 h2 ⊢; omega) rfl (Nat.le_of_ble_eq_true rfl)) rfl (Nat.le_of_ble_eq_true rfl) (Nat.le_of_ble_eq_true rfl) (.inr ⟨4, rfl, .inl (by decide)⟩) (fun j hj => by
            simp only [List.mem_cons, List.not_mem_nil, or_false] at hj
            rcases hj with rfl | rfl | rfl | rfl | rfl
            · exact .inr ⟨(Nat.le_of_ble_eq_true rfl), (Nat.le_of_ble_eq_true rfl), .inr ⟨4, rfl, by decide⟩⟩
            · exact .inl (by decide)
            · exact .inl (by decide)
            · exact .inl (by decide)
            · exact .inl (by decide)) ?_
        refine DW.q rfl (ok_move (v := V.one (.hd 6)) (.inr rfl) rfl) rfl rfl (Nat.le_of_ble_eq_true rfl) (fun _ _ _ _ h => h) ?_
        refine DW.stores ?_
        refine SV.zend ?_
        refine SV.weaken (fun i => [0, 1, 6].getD i 0) (pins hE rfl rfl) (VS.le.mk' (le_put (le_put (le_put (le_put (le_put (le_new (le_new (le_new le_nil))) (V.le.keep (ag := false) (xs := [.sc _]) (ys := [.sc _]) rfl rfl ⟨rfl, trivial⟩)) (V.le.keep (ag := false) (xs := [.sc _]) (ys := [.sc _]) rfl rfl ⟨rfl, trivial⟩)) (V.le.keep (ag := false) (xs := [.hd 0]) (ys := [.hd 0]) rfl rfl ⟨⟨rfl, (Nat.le_of_ble_eq_true rfl), (Nat.le_of_ble_eq_true rfl)⟩, trivial⟩)) (V.le.keep (ag := false) (xs := [.hd 1]) (ys := [.hd 1]) rfl rfl ⟨⟨rfl, (Nat.le_of_ble_eq_true rfl), (Nat.le_of_ble_eq_true rfl)⟩, trivial⟩)) (V.le.keep (ag := false) (xs := [.hd 6]) (ys := [.hd 2]) rfl rfl ⟨⟨rfl, (Nat.le_of_ble_eq_true rfl), (Nat.le_of_ble_eq_true rfl)⟩, trivial⟩)) trivial ⟨.inr ⟨_, _, rfl, ?ob4_2, (Nat.le_of_ble_eq_true rfl)⟩, ⟨.inr ⟨_, _, rfl, rfl, (Nat.le_of_ble_eq_true rfl)⟩, ⟨.inr ⟨_, _, rfl, rfl, (Nat.le_of_ble_eq_true rfl)⟩, trivial⟩⟩⟩ (new_ob (new_ob (new_ob nil_ob))) (fun i j hi hj e => inj_list (l := [0, 1, 6]) (by decide) i j hi hj e)) hjn
        case ob4_2 =>
          show some (T.seq _ _) = some (T.seq _ _)
          first | (simp [List.map_append]; done) | rfl
    case h =>
      refine SV.tn ?_
      refine SV.seq' ?_
      refine SV.seq' ?_
      refine SV.region ?_
      refine SV.op (OpL.ok (nb := 0) (ok_move (v := V.one (.hd 1)) (.inl rfl) rfl) rfl (Nat.le_of_ble_eq_true rfl)) rfl ?_
      refine SV.op (OpL.ok (nb := 0) (ok_move (v := V.one (.hd 0)) (.inl rfl) rfl) rfl (Nat.le_of_ble_eq_true rfl)) rfl ?_
      refine SV.op (OpMk.ok (ok_call (ls := [(false, [.hd 3])]) rfl rfl ⟨_, _, Tryd.func12, rfl, by decide⟩ (vref_s' A hA) ⟨⟨[.hd 0], rfl, ⟨rfl, trivial⟩⟩, trivial⟩ rfl (Nat.le_of_ble_eq_true rfl))) rfl ?_
      refine SV.op (OpMk.ok (ok_call (ls := [(false, [.sc _])]) rfl rfl ⟨_, _, Tryd.func11, rfl, by decide⟩ (vsameg (GroupD.ofRows A) (by omega)) ⟨⟨[.hd 1], rfl, ⟨rfl, trivial⟩⟩, ⟨[.hd 3], rfl, ⟨rfl, trivial⟩⟩, trivial⟩ rfl (Nat.le_of_ble_eq_true rfl))) rfl ?_
      refine SV.op (OpL.ok (nb := 0) (ok_s1 (x := .tmp 38) (VScal.one rfl) (fun ρ h1 w => by go_simp; (try go_bits); with_reducible rfl) rfl) rfl (Nat.le_of_ble_eq_true rfl)) rfl ?_
      refine SV.op (OpL.ok (nb := 0) (ok_move (v := V.one (.sc _)) (.inl rfl) rfl) rfl (Nat.le_of_ble_eq_true rfl)) rfl ?_
      refine SV.split (d := 40) rfl (fun hg0 => ?_) (fun hg0 => ?_)
      · skip   -- g0.T
        (exfalso; first | (simp at hg0; done) | (simp at hg0; omega))
      · skip   -- g0.F
        refine SV.opY (OpL.ok (nb := 0) (ok_move (v := V.one (.hd 2)) (.inl rfl) rfl) rfl (Nat.le_of_ble_eq_true rfl)) rfl rfl rfl (Nat.le_of_ble_eq_true rfl) rfl rfl ?_
        refine SV.opY (OpMk.ok (ok_call (ls := [(false, [.hd 4])]) rfl rfl ⟨_, _, Tryd.func13, rfl, by decide⟩ (vmergeP A k hA hwA) ⟨⟨[.hd 2], rfl, ⟨rfl, trivial⟩⟩, trivial⟩ rfl (Nat.le_of_ble_eq_true rfl))) rfl rfl rfl (Nat.le_of_ble_eq_true rfl) rfl rfl ?_
        refine SV.opY (OpL.ok (nb := 0) (ok_move (v := V.one (.hd 1)) (.inl rfl) rfl) rfl (Nat.le_of_ble_eq_true rfl)) rfl rfl rfl (Nat.le_of_ble_eq_true rfl) rfl rfl ?_
        refine SV.opY (OpMk.ok (ok_call (ls := [(false, [.sc _])]) rfl rfl ⟨_, _, Tryd.func11, rfl, by decide⟩ (vsameg (GroupD.ofRows A) (by omega)) ⟨⟨[.hd 4], rfl, ⟨rfl, trivial⟩⟩, ⟨[.hd 1], rfl, ⟨rfl, trivial⟩⟩, trivial⟩ rfl (Nat.le_of_ble_eq_true rfl))) rfl rfl rfl (Nat.le_of_ble_eq_true rfl) rfl rfl ?_
        refine SV.opY (OpL.ok (nb := 0) (ok_s1 (x := .tmp 44) (VScal.one rfl) (fun ρ h1 w => by go_simp; (try go_bits); with_reducible rfl) rfl) rfl (Nat.le_of_ble_eq_true rfl)) rfl rfl rfl (Nat.le_of_ble_eq_true rfl) rfl rfl ?_
        refine SV.op (OpL.ok (nb := 0) (ok_pickF (v := V.one (.sc _)) rfl rfl rfl) rfl (Nat.le_of_ble_eq_true rfl)) rfl ?_
        refine SV.op (OpL.ok (nb := 0) (ok_move (v := V.one (.sc _)) (.inl rfl) rfl) rfl (Nat.le_of_ble_eq_true rfl)) rfl ?_
        refine SV.split (d := 47) rfl (fun hg1 => ?_) (fun hg1 => ?_)
        · skip   -- g1.T
          (exfalso; first | (simp at hg1; done) | (simp at hg1; omega))
        · skip   -- g1.F
          refine SV.opY (OpL.ok (nb := 0) (ok_move (v := V.one (.hd 1)) (.inl rfl) rfl) rfl (Nat.le_of_ble_eq_true rfl)) rfl rfl rfl (Nat.le_of_ble_eq_true rfl) rfl rfl ?_
          refine SV.opY (OpMk.ok (ok_callP (ls := [(false, [.sc _])]) hD rfl rfl ⟨_, _, Tryd.func14, rfl, by decide⟩ (VCD.toP (fun w h => h.2) (vfgroups_i (GroupD.ofRows A) (GroupD.ofRows_wf hwA) (by omega))) ⟨⟨[.hd 1], rfl, ⟨rfl, trivial⟩⟩, trivial⟩ rfl (Nat.le_of_ble_eq_true rfl))) rfl rfl rfl (Nat.le_of_ble_eq_true rfl) rfl rfl ?_
          refine SV.opY (OpL.ok (nb := 0) (ok_move (v := V.one (.hd 1)) (.inl rfl) rfl) rfl (Nat.le_of_ble_eq_true rfl)) rfl rfl rfl (Nat.le_of_ble_eq_true rfl) rfl rfl ?_
          refine SV.opY (OpMk.ok (ok_callP (ls := [(false, [.sc _])]) hD rfl rfl ⟨_, _, Tryd.func15, rfl, by decide⟩ (VCD.toP (fun w h => h.2) (vfgroups_s (GroupD.ofRows A) (GroupD.ofRows_wf hwA) (by omega))) ⟨⟨[.hd 1], rfl, ⟨rfl, trivial⟩⟩, trivial⟩ rfl (Nat.le_of_ble_eq_true rfl))) rfl rfl rfl (Nat.le_of_ble_eq_true rfl) rfl rfl ?_
          refine SV.opY (OpL.ok (nb := 0) (ok_s2 (x := .tmp 49) (x' := .tmp 51) (VScal.one rfl) (VScal.one rfl) (fun ρ h1 h2 w => by go_simp; (try go_bits); with_reducible rfl) rfl) rfl (Nat.le_of_ble_eq_true rfl)) rfl rfl rfl (Nat.le_of_ble_eq_true rfl) rfl rfl ?_
          refine SV.op (OpL.ok (nb := 0) (ok_pickF (v := V.one (.sc _)) rfl rfl rfl) rfl (Nat.le_of_ble_eq_true rfl)) rfl ?_
          refine SV.nil ?_
          refine SV.tn ?_
          refine SV.cond rfl (fun hc1 => ?_) (fun hc1 => ?_)
          · skip   -- c1.T
            (exfalso; first | (simp at hc1; done) | (simp at hc1; omega))
          · skip   -- c1.F
            refine SV.skip ?_
            refine SV.tn ?_
            refine SV.seq' ?_
            refine SV.region ?_
            refine SV.op (OpL.ok (nb := 0) (ok_move (v := V.one (.sc _)) (.inr rfl) rfl) rfl (Nat.le_of_ble_eq_true rfl)) rfl ?_
            refine SV.nil ?_
            refine SV.tn ?_
            refine SV.seq' ?_
            refine SV.seq' ?_
            refine SV.region ?_
            refine SV.op (OpL.ok (nb := 0) (ok_move (v := V.one (.sc _)) (.inr rfl) rfl) rfl (Nat.le_of_ble_eq_true rfl)) rfl ?_
            refine SV.nil ?_
            refine SV.tn ?_
            refine SV.block ?_
            refine SV.loopF (X := Nat) (fun (σ : VS) t => ((((((((VS.nil.new (σ.tree 0)).new (σ.tree 1)).put 0 (σ.tm 0)).put 2 (σ.tm 2)).put 3 (V.flat false [.hd 0])).put 4 (V.flat false [.hd 1])).put 7 (V.flat false [.sc (.int .i64 (GroupD.cnt ((GroupD.ofRows A).take t)))])).put 8 (V.flat false [.sc (.int .i64 ((t : Int)))]))) (fun t => t ≤ (GroupD.ofRows A).length) (fun t => (GroupD.ofRows A).length - t) ?_ ?_
            · skip
              refine SV.again (fun i => [0, 1].getD i 0) 0 ((by first | exact Nat.zero_le _ | (refine ⟨Nat.zero_le _, ?_⟩; simp; done) | (simp; done) | omega)) (pins hE rfl rfl) (VS.le.mk' (le_put (le_put (le_put (le_put (le_put (le_put (le_new (le_new le_nil)) (V.le.keep (ag := false) (xs := [.sc _]) (ys := [.sc _]) rfl rfl ⟨rfl, trivial⟩)) (V.le.keep (ag := false) (xs := [.sc _]) (ys := [.sc _]) rfl rfl ⟨rfl, trivial⟩)) (V.le.keep (ag := false) (xs := [.hd 0]) (ys := [.hd 0]) rfl rfl ⟨⟨rfl, (Nat.le_of_ble_eq_true rfl), (Nat.le_of_ble_eq_true rfl)⟩, trivial⟩)) (V.le.keep (ag := false) (xs := [.hd 1]) (ys := [.hd 1]) rfl rfl ⟨⟨rfl, (Nat.le_of_ble_eq_true rfl), (Nat.le_of_ble_eq_true rfl)⟩, trivial⟩)) (V.le.keep (ag := false) (xs := [.sc _]) (ys := [.sc _]) rfl rfl ⟨(by first | rfl | (show Leaf.sc _ = Leaf.sc _; refine congrArg Leaf.sc ?_; first | rfl | go_num | (rw [hn, IntWalk.wrap64_in _ ⟨by omega, by omega⟩]; first | done | rfl | go_num | (simp; done) | (simp; omega)) | (simp [cntAll]; done)) | (simp [cntAll]; done) | (simp; omega)), trivial⟩)) (V.le.keep (ag := false) (xs := [.sc _]) (ys := [.sc _]) rfl rfl ⟨(by first | rfl | (show Leaf.sc _ = Leaf.sc _; refine congrArg Leaf.sc ?_; first | rfl | go_num | (rw [hn, IntWalk.wrap64_in _ ⟨by omega, by omega⟩]; first | done | rfl | go_num | (simp; done) | (simp; omega)) | (simp [cntAll]; done)) | (simp [cntAll]; done) | (simp; omega)), trivial⟩)) trivial ⟨.inr ⟨_, _, rfl, rfl, (Nat.le_of_ble_eq_true rfl)⟩, ⟨.inr ⟨_, _, rfl, rfl, (Nat.le_of_ble_eq_true rfl)⟩, trivial⟩⟩ (new_ob (new_ob nil_ob)) (fun i j hi hj e => inj_list (l := [0, 1]) (by decide) i j hi hj e))
            · rintro t ht
              refine SV.seq' ?_
              refine SV.seq' ?_
              refine SV.region ?_
              refine SV.op (OpL.ok (nb := 0) (ok_move (v := V.one (.sc _)) (.inl rfl) rfl) rfl (Nat.le_of_ble_eq_true rfl)) rfl ?_
              refine SV.op (OpL.ok (nb := 0) (ok_move (v := V.one (.hd 1)) (.inl rfl) rfl) rfl (Nat.le_of_ble_eq_true rfl)) rfl ?_
              refine SV.op (OpL.ok (nb := 0) (ok_len (lf := .hd 1) rfl elt_impl_Group.und rfl rfl) rfl (Nat.le_of_ble_eq_true rfl)) rfl ?_
              refine SV.op (OpL.ok (nb := 0) (ok_s2 (x := .tmp 54) (x' := .tmp 56) (VScal.one rfl) (VScal.one rfl) (fun ρ h1 h2 w => by go_simp; (try go_bits); with_reducible rfl) rfl) rfl (Nat.le_of_ble_eq_true rfl)) rfl ?_
              refine SV.nil ?_
              refine SV.tn ?_
              refine SV.cond rfl (fun hc2 => ?_) (fun hc2 => ?_)
              · skip   -- c2.T
                have htl : t < (GroupD.ofRows A).length := by simpa using hc2
                have hx : (GroupD.ofRows A)[t]? = some (GroupD.ofRows A)[t] := by simp [htl]
                have hn := GroupD.cnt_next (GroupD.ofRows A) t htl
                have hb1 := GroupD.cnt_take (A := A) (by omega) t
                have hb2 := GroupD.cnt_take (A := A) (by omega) (t + 1)
                refine SV.skip ?_
                refine SV.tn ?_
                refine SV.seq' ?_
                refine SV.block ?_
                refine SV.seq' ?_
                refine SV.region ?_
                refine SV.op (OpL.ok (nb := 0) (ok_move (v := V.one (.sc _)) (.inl rfl) rfl) rfl (Nat.le_of_ble_eq_true rfl)) rfl ?_
                refine SV.op (OpL.ok (nb := 0) (ok_move (v := V.one (.hd 1)) (.inl rfl) rfl) rfl (Nat.le_of_ble_eq_true rfl)) rfl ?_
                refine SV.op (OpL.ok (nb := 0) (ok_move (v := V.one (.sc _)) (.inl rfl) rfl) rfl (Nat.le_of_ble_eq_true rfl)) rfl ?_
                refine SV.op (OpL.ok (nb := 0) (ok_index (n := 5) (lf := .hd 1) rfl elt_impl_Group.und sz_impl_Group rfl rfl rfl (map_at hx)) rfl (Nat.le_of_ble_eq_true rfl)) rfl ?_
                refine SV.op (OpL.ok (nb := 0) (ok_field_el (p := .ep 1 _ _ _) (off := 1) rfl rfl (cells_ep rfl (map_at hx) rfl rfl) fld_impl_Group_1) rfl (Nat.le_of_ble_eq_true rfl)) rfl ?_
                refine SV.op (ok_load_el (p := .ep 1 _ _ _) (ag := false) (m := 1) (ys := [.sc _]) rfl rfl (cells_ep rfl (map_at hx) rfl rfl) agg_int sz_int (fun _ => rfl) (Nat.le_of_ble_eq_true rfl) rfl rfl (Nat.le_of_ble_eq_true rfl)) rfl ?_
                refine SV.op (OpL.ok (nb := 0) (ok_s2 (x := .tmp 60) (x' := .tmp 65) (VScal.one rfl) (VScal.one rfl) (fun ρ h1 h2 w => by go_simp; (try go_bits); with_reducible rfl) rfl) rfl (Nat.le_of_ble_eq_true rfl)) rfl ?_
                refine SV.op (OpL.ok (nb := 0) (ok_move (v := V.one (.sc _)) (.inr rfl) rfl) rfl (Nat.le_of_ble_eq_true rfl)) rfl ?_
                refine SV.nil ?_
                refine SV.tn ?_
                refine SV.seq' ?_
                refine SV.draw [.q 0, .m 1, .q 2, .q 3, .q 4, .q 5, .q 6, .m 7, .q 8, .q 9, .q 10, .q 11, .q 12, .q 13, .q 14, .q 15, .q 16, .q 17, .q 18, .q 19, .q 20, .q 21, .q 22, .q 23, .q 24, .q 25, .q 26, .q 27] [] (by kernel_rfl) (by kernel_rfl) ?_
                refine DW.q rfl (ok_move (v := V.one (.hd 0)) (.inl rfl) rfl) rfl rfl (Nat.le_of_ble_eq_true rfl) (fun _ _ _ _ h => h) ?_
                refine DW.m [] rfl (ok_call (ls := [(false, [.sc _])]) rfl rfl ⟨_, _, Tryd.func16, rfl, by decide⟩ (vokrows_s A (by omega)) ⟨⟨[.hd 0], rfl, ⟨rfl, trivial⟩⟩, trivial⟩ rfl (Nat.le_of_ble_eq_true rfl)) rfl (Nat.le_of_ble_eq_true rfl) (Nat.le_of_ble_eq_true rfl) (.inl rfl) (fun j hj => by cases hj) ?_
                refine DW.q rfl (ok_move (v := V.one (.sc _)) (.inl rfl) rfl) rfl rfl (Nat.le_of_ble_eq_true rfl) (fun _ _ _ _ h => h) ?_
                refine DW.split (d := 69) rfl (fun hg2 => ?_) (fun hg2 => ?_)
                · skip   -- g2.T
                  have hv : okRows A = true := by simpa using hg2
                  have hokg := GroupD.ofRows_ok hv _ (List.getElem_mem htl)
                  refine DW.qY rfl (ok_move (v := V.one (.hd 1)) (.inl rfl) rfl) rfl rfl rfl (Nat.le_of_ble_eq_true rfl) rfl rfl rfl (Nat.le_of_ble_eq_true rfl) (fun _ _ _ _ h => h) ?_
                  refine DW.qY rfl (ok_move (v := V.one (.sc _)) (.inl rfl) rfl) rfl rfl rfl (Nat.le_of_ble_eq_true rfl) rfl rfl rfl (Nat.le_of_ble_eq_true rfl) (fun _ _ _ _ h => h) ?_
                  refine DW.qY rfl (ok_index (n := 5) (lf := .hd 1) rfl elt_impl_Group.und sz_impl_Group rfl rfl rfl (map_at hx)) rfl rfl rfl (Nat.le_of_ble_eq_true rfl) rfl rfl rfl (Nat.le_of_ble_eq_true rfl) (fun _ _ _ _ h => h) ?_
                  refine DW.elm (ag := true) (m := 5) (ys := [.sc _, .sc _, .sc _, .sc _, .sc _]) rfl rfl rfl ⟨(Nat.le_of_ble_eq_true rfl), rfl⟩ (cells_ep rfl (map_at hx) rfl rfl) agg_impl_Group sz_impl_Group (fun h => by cases h) (Nat.le_of_ble_eq_true rfl) rfl (fun hr => wantedY hr rfl rfl rfl (Nat.le_of_ble_eq_true rfl) rfl rfl) rfl (Nat.le_of_ble_eq_true rfl) (fun _ _ _ _ h => h) ?_
                  refine DW.m' [] rfl (ok_call (ls := [(false, [.sc _])]) rfl rfl ⟨_, _, Tryd.func17, rfl, by decide⟩ (vokg_i (GroupD.ofRows A)[t]) ⟨⟨[.sc _, .sc _, .sc _, .sc _, .sc _], rfl, ⟨rfl, rfl, rfl, rfl, rfl, trivial⟩⟩, trivial⟩ rfl (Nat.le_of_ble_eq_true rfl)) (fun hr => wantedY hr rfl rfl rfl (Nat.le_of_ble_eq_true rfl) rfl rfl) (Nat.le_of_ble_eq_true rfl) (Nat.le_of_ble_eq_true rfl) (.inl rfl) (fun j hj => by cases hj) ?_
                  refine DW.qY rfl (ok_s1 (x := .tmp 74) (VScal.one rfl) (fun ρ h1 w => by go_simp; (try go_bits); with_reducible rfl) rfl) rfl rfl rfl (Nat.le_of_ble_eq_true rfl) rfl rfl rfl (Nat.le_of_ble_eq_true rfl) (fun _ _ _ _ h => h) ?_
                  refine DW.q rfl (ok_pickT (v := V.one (.sc _)) rfl rfl rfl) rfl rfl (Nat.le_of_ble_eq_true rfl) (fun _ _ _ _ h => h) ?_
                  refine DW.q rfl (ok_move (v := V.one (.sc _)) (.inl rfl) rfl) rfl rfl (Nat.le_of_ble_eq_true rfl) (fun _ _ _ _ h => h) ?_
                  refine DW.split (d := 77) rfl (fun hg3 => ?_) (fun hg3 => ?_)
                  · skip   -- g3.T
                    (exfalso; simp [hokg] at hg3)
                  · skip   -- g3.F
                    refine DW.qY rfl (ok_move (v := V.one (.sc _)) (.inl rfl) rfl) rfl rfl rfl (Nat.le_of_ble_eq_true rfl) rfl rfl rfl (Nat.le_of_ble_eq_true rfl) (fun _ _ _ _ h => h) ?_
                    refine DW.qY rfl (ok_s2 (x := .tmp 78) (x' := .const ((Value.int IntKind.i64 0))) (VScal.one rfl) (VScal.one rfl) (fun ρ h1 h2 w => by go_simp; (try go_bits); with_reducible rfl) rfl) rfl rfl rfl (Nat.le_of_ble_eq_true rfl) rfl rfl rfl (Nat.le_of_ble_eq_true rfl) (fun _ _ _ _ h => h) ?_
                    refine DW.qY rfl (ok_move (v := V.one (.sc _)) (.inl rfl) rfl) rfl rfl rfl (Nat.le_of_ble_eq_true rfl) rfl rfl rfl (Nat.le_of_ble_eq_true rfl) (fun _ _ _ _ h => h) ?_
                    refine DW.split (d := 80) rfl (fun hg4 => ?_) (fun hg4 => ?_)
                    · skip   -- g4.T
                      have ht0 : 0 < t := by simpa using hg4
                      obtain ⟨q, hq⟩ : ∃ q, (GroupD.ofRows A)[t - 1]? = some q := ⟨_, List.getElem?_eq_getElem (by omega)⟩
                      have hlt := GroupD.ofRows_asc hq (show (GroupD.ofRows A)[t - 1 + 1]? = some (GroupD.ofRows A)[t] by rw [Nat.sub_add_cancel ht0]; exact hx)
                      refine DW.qY rfl (ok_move (v := V.one (.hd 1)) (.inl rfl) rfl) rfl rfl rfl (Nat.le_of_ble_eq_true rfl) rfl rfl rfl (Nat.le_of_ble_eq_true rfl) (fun _ _ _ _ h => h) ?_
                      refine DW.qY rfl (ok_move (v := V.one (.sc _)) (.inl rfl) rfl) rfl rfl rfl (Nat.le_of_ble_eq_true rfl) rfl rfl rfl (Nat.le_of_ble_eq_true rfl) (fun _ _ _ _ h => h) ?_
                      refine DW.qY rfl (ok_s2 (v := .int .i64 ((t - 1 : Nat) : Int)) (x := .tmp 82) (x' := .const ((Value.int IntKind.i64 1))) (VScal.one rfl) (VScal.one rfl) (fun ρ h1 h2 w => by go_simp; all_goals ((try go_bits); first | with_reducible rfl | go_num | (simp; done) | (simp; omega))) rfl) rfl rfl rfl (Nat.le_of_ble_eq_true rfl) rfl rfl rfl (Nat.le_of_ble_eq_true rfl) (fun _ _ _ _ h => h) ?_
                      refine DW.qY rfl (ok_index (n := 5) (lf := .hd 1) rfl elt_impl_Group.und sz_impl_Group rfl rfl rfl (map_at hq)) rfl rfl rfl (Nat.le_of_ble_eq_true rfl) rfl rfl rfl (Nat.le_of_ble_eq_true rfl) (fun _ _ _ _ h => h) ?_
                      refine DW.qY rfl (ok_field_el (p := .ep 1 _ _ _) (off := 0) rfl rfl (cells_ep rfl (map_at hq) rfl rfl) fld_impl_Group_0) rfl rfl rfl (Nat.le_of_ble_eq_true rfl) rfl rfl rfl (Nat.le_of_ble_eq_true rfl) (fun _ _ _ _ h => h) ?_
                      refine DW.elm (ag := false) (m := 1) (ys := [.sc _]) rfl rfl rfl ⟨(Nat.le_of_ble_eq_true rfl), rfl⟩ (cells_ep rfl (map_at hq) rfl rfl) agg_int sz_int (fun _ => rfl) (Nat.le_of_ble_eq_true rfl) rfl (fun hr => wantedY hr rfl rfl rfl (Nat.le_of_ble_eq_true rfl) rfl rfl) rfl (Nat.le_of_ble_eq_true rfl) (fun _ _ _ _ h => h) ?_
                      refine DW.qY rfl (ok_move (v := V.one (.hd 1)) (.inl rfl) rfl) rfl rfl rfl (Nat.le_of_ble_eq_true rfl) rfl rfl rfl (Nat.le_of_ble_eq_true rfl) (fun _ _ _ _ h => h) ?_
                      refine DW.qY rfl (ok_move (v := V.one (.sc _)) (.inl rfl) rfl) rfl rfl rfl (Nat.le_of_ble_eq_true rfl) rfl rfl rfl (Nat.le_of_ble_eq_true rfl) (fun _ _ _ _ h => h) ?_
                      refine DW.qY rfl (ok_index (n := 5) (lf := .hd 1) rfl elt_impl_Group.und sz_impl_Group rfl rfl rfl (map_at hx)) rfl rfl rfl (Nat.le_of_ble_eq_true rfl) rfl rfl rfl (Nat.le_of_ble_eq_true rfl) (fun _ _ _ _ h => h) ?_
                      refine DW.qY rfl (ok_field_el (p := .ep 1 _ _ _) (off := 0) rfl rfl (cells_ep rfl (map_at hx) rfl rfl) fld_impl_Group_0) rfl rfl rfl (Nat.le_of_ble_eq_true rfl) rfl rfl rfl (Nat.le_of_ble_eq_true rfl) (fun _ _ _ _ h => h) ?_
                      refine DW.elm (ag := false) (m := 1) (ys := [.sc _]) rfl rfl rfl ⟨(Nat.le_of_ble_eq_true rfl), rfl⟩ (cells_ep rfl (map_at hx) rfl rfl) agg_int sz_int (fun _ => rfl) (Nat.le_of_ble_eq_true rfl) rfl (fun hr => wantedY hr rfl rfl rfl (Nat.le_of_ble_eq_true rfl) rfl rfl) rfl (Nat.le_of_ble_eq_true rfl) (fun _ _ _ _ h => h) ?_
                      refine DW.qY rfl (ok_s2 (x := .tmp 86) (x' := .tmp 91) (VScal.one rfl) (VScal.one rfl) (fun ρ h1 h2 w => by go_simp; (try go_bits); with_reducible rfl) rfl) rfl rfl rfl (Nat.le_of_ble_eq_true rfl) rfl rfl rfl (Nat.le_of_ble_eq_true rfl) (fun _ _ _ _ h => h) ?_
                      refine DW.qY rfl (ok_pickT (v := V.one (.sc _)) rfl rfl rfl) rfl rfl rfl (Nat.le_of_ble_eq_true rfl) rfl rfl rfl (Nat.le_of_ble_eq_true rfl) (fun _ _ _ _ h => h) ?_
                      refine DW.q rfl (ok_pickF (v := V.one (.sc _)) rfl rfl rfl) rfl rfl (Nat.le_of_ble_eq_true rfl) (fun _ _ _ _ h => h) ?_
                      refine DW.stores ?_
                      refine SV.zend ?_
                      refine SV.tn ?_
                      refine SV.cond rfl (fun hc3 => ?_) (fun hc3 => ?_)
                      · skip   -- c3.T
                        (exfalso; first | (simp at hc3; done) | (simp at hc3; omega))
                      · skip   -- c3.F
                        refine SV.skip ?_
                        refine SV.bn ?_
                        refine SV.tn ?_
                        refine SV.region ?_
                        refine SV.op (OpL.ok (nb := 0) (ok_move (v := V.one (.sc _)) (.inl rfl) rfl) rfl (Nat.le_of_ble_eq_true rfl)) rfl ?_
                        refine SV.op (OpL.ok (nb := 0) (ok_s2 (x := .tmp 58) (x' := .const ((Value.int IntKind.i64 1))) (VScal.one rfl) (VScal.one rfl) (fun ρ h1 h2 w => by go_simp; (try go_bits); with_reducible rfl) rfl) rfl (Nat.le_of_ble_eq_true rfl)) rfl ?_
                        refine SV.op (OpL.ok (nb := 0) (ok_move (v := V.one (.sc _)) (.inr rfl) rfl) rfl (Nat.le_of_ble_eq_true rfl)) rfl ?_
                        refine SV.nil ?_
                        refine SV.tn ?_
                        refine SV.again (fun i => [0, 1].getD i 0) (t + 1) (⟨by omega, by omega⟩) (pins hE rfl rfl) (VS.le.mk' (le_put (le_put (le_put (le_put (le_put (le_put (le_new (le_new le_nil)) (V.le.keep (ag := false) (xs := [.sc _]) (ys := [.sc _]) rfl rfl ⟨rfl, trivial⟩)) (V.le.keep (ag := false) (xs := [.sc _]) (ys := [.sc _]) rfl rfl ⟨rfl, trivial⟩)) (V.le.keep (ag := false) (xs := [.hd 0]) (ys := [.hd 0]) rfl rfl ⟨⟨rfl, (Nat.le_of_ble_eq_true rfl), (Nat.le_of_ble_eq_true rfl)⟩, trivial⟩)) (V.le.keep (ag := false) (xs := [.hd 1]) (ys := [.hd 1]) rfl rfl ⟨⟨rfl, (Nat.le_of_ble_eq_true rfl), (Nat.le_of_ble_eq_true rfl)⟩, trivial⟩)) (V.le.keep (ag := false) (xs := [.sc _]) (ys := [.sc _]) rfl rfl ⟨(by first | rfl | (show Leaf.sc _ = Leaf.sc _; refine congrArg Leaf.sc ?_; first | rfl | go_num | (rw [hn, IntWalk.wrap64_in _ ⟨by omega, by omega⟩]; first | done | rfl | go_num | (simp; done) | (simp; omega)) | (simp [cntAll]; done)) | (simp [cntAll]; done) | (simp; omega)), trivial⟩)) (V.le.keep (ag := false) (xs := [.sc _]) (ys := [.sc _]) rfl rfl ⟨(by first | rfl | (show Leaf.sc _ = Leaf.sc _; refine congrArg Leaf.sc ?_; first | rfl | go_num | (rw [hn, IntWalk.wrap64_in _ ⟨by omega, by omega⟩]; first | done | rfl | go_num | (simp; done) | (simp; omega)) | (simp [cntAll]; done)) | (simp [cntAll]; done) | (simp; omega)), trivial⟩)) trivial ⟨.inr ⟨_, _, rfl, rfl, (Nat.le_of_ble_eq_true rfl)⟩, ⟨.inr ⟨_, _, rfl, rfl, (Nat.le_of_ble_eq_true rfl)⟩, trivial⟩⟩ (new_ob (new_ob nil_ob)) (fun i j hi hj e => inj_list (l := [0, 1]) (by decide) i j hi hj e))
                    · skip   -- g4.F
                      refine DW.qN (V' := V.one .dead) rfl rfl rfl rfl (Nat.le_of_ble_eq_true rfl) rfl rfl rfl (Nat.le_of_ble_eq_true rfl) (fun _ _ _ _ h => h) ?_
                      refine DW.qN (V' := V.one .dead) rfl rfl rfl rfl (Nat.le_of_ble_eq_true rfl) rfl rfl rfl (Nat.le_of_ble_eq_true rfl) (fun _ _ _ _ h => h) ?_
                      refine DW.qN (V' := V.one .dead) rfl rfl rfl rfl (Nat.le_of_ble_eq_true rfl) rfl rfl rfl (Nat.le_of_ble_eq_true rfl) (fun _ _ _ _ h => h) ?_
                      refine DW.qN (V' := V.one .dead) rfl rfl rfl rfl (Nat.le_of_ble_eq_true rfl) rfl rfl rfl (Nat.le_of_ble_eq_true rfl) (fun _ _ _ _ h => h) ?_
                      refine DW.qN (V' := V.one .dead) rfl rfl rfl rfl (Nat.le_of_ble_eq_true rfl) rfl rfl rfl (Nat.le_of_ble_eq_true rfl) (fun _ _ _ _ h => h) ?_
                      refine DW.qN (V' := V.one .dead) rfl rfl rfl rfl (Nat.le_of_ble_eq_true rfl) rfl rfl rfl (Nat.le_of_ble_eq_true rfl) (fun _ _ _ _ h => h) ?_
                      refine DW.qN (V' := V.one .dead) rfl rfl rfl rfl (Nat.le_of_ble_eq_true rfl) rfl rfl rfl (Nat.le_of_ble_eq_true rfl) (fun _ _ _ _ h => h) ?_
                      refine DW.qN (V' := V.one .dead) rfl rfl rfl rfl (Nat.le_of_ble_eq_true rfl) rfl rfl rfl (Nat.le_of_ble_eq_true rfl) (fun _ _ _ _ h => h) ?_
                      refine DW.qN (V' := V.one .dead) rfl rfl rfl rfl (Nat.le_of_ble_eq_true rfl) rfl rfl rfl (Nat.le_of_ble_eq_true rfl) (fun _ _ _ _ h => h) ?_
                      refine DW.qN (V' := V.one .dead) rfl rfl rfl rfl (Nat.le_of_ble_eq_true rfl) rfl rfl rfl (Nat.le_of_ble_eq_true rfl) (fun _ _ _ _ h => h) ?_
                      refine DW.qN (V' := V.one .dead) rfl rfl rfl rfl (Nat.le_of_ble_eq_true rfl) rfl rfl rfl (Nat.le_of_ble_eq_true rfl) (fun _ _ _ _ h => h) ?_
                      refine DW.qN (V' := V.one .dead) rfl rfl rfl rfl (Nat.le_of_ble_eq_true rfl) rfl rfl rfl (Nat.le_of_ble_eq_true rfl) (fun _ _ _ _ h => h) ?_
                      refine DW.qY rfl (ok_pickF (v := V.one (.sc _)) rfl rfl rfl) rfl rfl rfl (Nat.le_of_ble_eq_true rfl) rfl rfl rfl (Nat.le_of_ble_eq_true rfl) (fun _ _ _ _ h => h) ?_
                      refine DW.q rfl (ok_pickF (v := V.one (.sc _)) rfl rfl rfl) rfl rfl (Nat.le_of_ble_eq_true rfl) (fun _ _ _ _ h => h) ?_
                      refine DW.stores ?_
                      refine SV.zend ?_
                      refine SV.tn ?_
                      refine SV.cond rfl (fun hc4 => ?_) (fun hc4 => ?_)
                      · skip   -- c4.T
                        cases hc4
                      · skip   -- c4.F
                        refine SV.skip ?_
                        refine SV.bn ?_
                        refine SV.tn ?_
                        refine SV.region ?_
                        refine SV.op (OpL.ok (nb := 0) (ok_move (v := V.one (.sc _)) (.inl rfl) rfl) rfl (Nat.le_of_ble_eq_true rfl)) rfl ?_
                        refine SV.op (OpL.ok (nb := 0) (ok_s2 (x := .tmp 58) (x' := .const ((Value.int IntKind.i64 1))) (VScal.one rfl) (VScal.one rfl) (fun ρ h1 h2 w => by go_simp; (try go_bits); with_reducible rfl) rfl) rfl (Nat.le_of_ble_eq_true rfl)) rfl ?_
                        refine SV.op (OpL.ok (nb := 0) (ok_move (v := V.one (.sc _)) (.inr rfl) rfl) rfl (Nat.le_of_ble_eq_true rfl)) rfl ?_
                        refine SV.nil ?_
                        refine SV.tn ?_
                        refine SV.again (fun i => [0, 1].getD i 0) (t + 1) (⟨by omega, by omega⟩) (pins hE rfl rfl) (VS.le.mk' (le_put (le_put (le_put (le_put (le_put (le_put (le_new (le_new le_nil)) (V.le.keep (ag := false) (xs := [.sc _]) (ys := [.sc _]) rfl rfl ⟨rfl, trivial⟩)) (V.le.keep (ag := false) (xs := [.sc _]) (ys := [.sc _]) rfl rfl ⟨rfl, trivial⟩)) (V.le.keep (ag := false) (xs := [.hd 0]) (ys := [.hd 0]) rfl rfl ⟨⟨rfl, (Nat.le_of_ble_eq_true rfl), (Nat.le_of_ble_eq_true rfl)⟩, trivial⟩)) (V.le.keep (ag := false) (xs := [.hd 1]) (ys := [.hd 1]) rfl rfl ⟨⟨rfl, (Nat.le_of_ble_eq_true rfl), (Nat.le_of_ble_eq_true rfl)⟩, trivial⟩)) (V.le.keep (ag := false) (xs := [.sc _]) (ys := [.sc _]) rfl rfl ⟨(by first | rfl | (show Leaf.sc _ = Leaf.sc _; refine congrArg Leaf.sc ?_; first | rfl | go_num | (rw [hn, IntWalk.wrap64_in _ ⟨by omega, by omega⟩]; first | done | rfl | go_num | (simp; done) | (simp; omega)) | (simp [cntAll]; done)) | (simp [cntAll]; done) | (simp; omega)), trivial⟩)) (V.le.keep (ag := false) (xs := [.sc _]) (ys := [.sc _]) rfl rfl ⟨(by first | rfl | (show Leaf.sc _ = Leaf.sc _; refine congrArg Leaf.sc ?_; first | rfl | go_num | (rw [hn, IntWalk.wrap64_in _ ⟨by omega, by omega⟩]; first | done | rfl | go_num | (simp; done) | (simp; omega)) | (simp [cntAll]; done)) | (simp [cntAll]; done) | (simp; omega)), trivial⟩)) trivial ⟨.inr ⟨_, _, rfl, rfl, (Nat.le_of_ble_eq_true rfl)⟩, ⟨.inr ⟨_, _, rfl, rfl, (Nat.le_of_ble_eq_true rfl)⟩, trivial⟩⟩ (new_ob (new_ob nil_ob)) (fun i j hi hj e => inj_list (l := [0, 1]) (by decide) i j hi hj e))
                · skip   -- g2.F
                  refine DW.qN (V' := V.one .dead) rfl rfl rfl rfl (Nat.le_of_ble_eq_true rfl) rfl rfl rfl (Nat.le_of_ble_eq_true rfl) (fun _ _ _ _ h => h) ?_
                  refine DW.qN (V' := V.one .dead) rfl rfl rfl rfl (Nat.le_of_ble_eq_true rfl) rfl rfl rfl (Nat.le_of_ble_eq_true rfl) (fun _ _ _ _ h => h) ?_
                  refine DW.qN (V' := V.one .dead) rfl rfl rfl rfl (Nat.le_of_ble_eq_true rfl) rfl rfl rfl (Nat.le_of_ble_eq_true rfl) (fun _ _ _ _ h => h) ?_
                  refine DW.qN (V' := V.one .dead) rfl rfl rfl rfl (Nat.le_of_ble_eq_true rfl) rfl rfl rfl (Nat.le_of_ble_eq_true rfl) (fun _ _ _ _ h => h) ?_
                  refine DW.mN rfl rfl rfl rfl (Nat.le_of_ble_eq_true rfl) rfl rfl rfl (Nat.le_of_ble_eq_true rfl) ?_
                  refine DW.qN (V' := V.one .dead) rfl rfl rfl rfl (Nat.le_of_ble_eq_true rfl) rfl rfl rfl (Nat.le_of_ble_eq_true rfl) (fun _ _ _ _ h => h) ?_
                  refine DW.q rfl (ok_pickF (v := V.one (.sc _)) rfl rfl rfl) rfl rfl (Nat.le_of_ble_eq_true rfl) (fun _ _ _ _ h => h) ?_
                  refine DW.q rfl (ok_move (v := V.one (.sc _)) (.inl rfl) rfl) rfl rfl (Nat.le_of_ble_eq_true rfl) (fun _ _ _ _ h => h) ?_
                  refine DW.split (d := 77) rfl (fun hg5 => ?_) (fun hg5 => ?_)
                  · skip   -- g5.T
                    (exfalso; first | (simp at hg5; done) | (simp at hg5; omega))
                  · skip   -- g5.F
                    refine DW.qY rfl (ok_move (v := V.one (.sc _)) (.inl rfl) rfl) rfl rfl rfl (Nat.le_of_ble_eq_true rfl) rfl rfl rfl (Nat.le_of_ble_eq_true rfl) (fun _ _ _ _ h => h) ?_
                    refine DW.qY rfl (ok_s2 (x := .tmp 78) (x' := .const ((Value.int IntKind.i64 0))) (VScal.one rfl) (VScal.one rfl) (fun ρ h1 h2 w => by go_simp; (try go_bits); with_reducible rfl) rfl) rfl rfl rfl (Nat.le_of_ble_eq_true rfl) rfl rfl rfl (Nat.le_of_ble_eq_true rfl) (fun _ _ _ _ h => h) ?_
                    refine DW.qY rfl (ok_move (v := V.one (.sc _)) (.inl rfl) rfl) rfl rfl rfl (Nat.le_of_ble_eq_true rfl) rfl rfl rfl (Nat.le_of_ble_eq_true rfl) (fun _ _ _ _ h => h) ?_
                    refine DW.split (d := 80) rfl (fun hg6 => ?_) (fun hg6 => ?_)
                    · skip   -- g6.T
                      have ht0 : 0 < t := by simpa using hg6
                      obtain ⟨q, hq⟩ : ∃ q, (GroupD.ofRows A)[t - 1]? = some q := ⟨_, List.getElem?_eq_getElem (by omega)⟩
                      have hlt := GroupD.ofRows_asc hq (show (GroupD.ofRows A)[t - 1 + 1]? = some (GroupD.ofRows A)[t] by rw [Nat.sub_add_cancel ht0]; exact hx)
                      refine DW.qY rfl (ok_move (v := V.one (.hd 1)) (.inl rfl) rfl) rfl rfl rfl (Nat.le_of_ble_eq_true rfl) rfl rfl rfl (Nat.le_of_ble_eq_true rfl) (fun _ _ _ _ h => h) ?_
                      refine DW.qY rfl (ok_move (v := V.one (.sc _)) (.inl rfl) rfl) rfl rfl rfl (Nat.le_of_ble_eq_true rfl) rfl rfl rfl (Nat.le_of_ble_eq_true rfl) (fun _ _ _ _ h => h) ?_
                      refine DW.qY rfl (ok_s2 (v := .int .i64 ((t - 1 : Nat) : Int)) (x := .tmp 82) (x' := .const ((Value.int IntKind.i64 1))) (VScal.one rfl) (VScal.one rfl) (fun ρ h1 h2 w => by go_simp; all_goals ((try go_bits); first | with_reducible rfl | go_num | (simp; done) | (simp; omega))) rfl) rfl rfl rfl (Nat.le_of_ble_eq_true rfl) rfl rfl rfl (Nat.le_of_ble_eq_true rfl) (fun _ _ _ _ h => h) ?_
                      refine DW.qY rfl (ok_index (n := 5) (lf := .hd 1) rfl elt_impl_Group.und sz_impl_Group rfl rfl rfl (map_at hq)) rfl rfl rfl (Nat.le_of_ble_eq_true rfl) rfl rfl rfl (Nat.le_of_ble_eq_true rfl) (fun _ _ _ _ h => h) ?_
                      refine DW.qY rfl (ok_field_el (p := .ep 1 _ _ _) (off := 0) rfl rfl (cells_ep rfl (map_at hq) rfl rfl) fld_impl_Group_0) rfl rfl rfl (Nat.le_of_ble_eq_true rfl) rfl rfl rfl (Nat.le_of_ble_eq_true rfl) (fun _ _ _ _ h => h) ?_
                      refine DW.elm (ag := false) (m := 1) (ys := [.sc _]) rfl rfl rfl ⟨(Nat.le_of_ble_eq_true rfl), rfl⟩ (cells_ep rfl (map_at hq) rfl rfl) agg_int sz_int (fun _ => rfl) (Nat.le_of_ble_eq_true rfl) rfl (fun hr => wantedY hr rfl rfl rfl (Nat.le_of_ble_eq_true rfl) rfl rfl) rfl (Nat.le_of_ble_eq_true rfl) (fun _ _ _ _ h => h) ?_
                      refine DW.qY rfl (ok_move (v := V.one (.hd 1)) (.inl rfl) rfl) rfl rfl rfl (Nat.le_of_ble_eq_true rfl) rfl rfl rfl (Nat.le_of_ble_eq_true rfl) (fun _ _ _ _ h => h) ?_
                      refine DW.qY rfl (ok_move (v := V.one (.sc _)) (.inl rfl) rfl) rfl rfl rfl (Nat.le_of_ble_eq_true rfl) rfl rfl rfl (Nat.le_of_ble_eq_true rfl) (fun _ _ _ _ h => h) ?_
                      refine DW.qY rfl (ok_index (n := 5) (lf := .hd 1) rfl elt_impl_Group.und sz_impl_Group rfl rfl rfl (map_at hx)) rfl rfl rfl (Nat.le_of_ble_eq_true rfl) rfl rfl rfl (Nat.le_of_ble_eq_true rfl) (fun _ _ _ _ h => h) ?_
                      refine DW.qY rfl (ok_field_el (p := .ep 1 _ _ _) (off := 0) rfl rfl (cells_ep rfl (map_at hx) rfl rfl) fld_impl_Group_0) rfl rfl rfl (Nat.le_of_ble_eq_true rfl) rfl rfl rfl (Nat.le_of_ble_eq_true rfl) (fun _ _ _ _ h => h) ?_
                      refine DW.elm (ag := false) (m := 1) (ys := [.sc _]) rfl rfl rfl ⟨(Nat.le_of_ble_eq_true rfl), rfl⟩ (cells_ep rfl (map_at hx) rfl rfl) agg_int sz_int (fun _ => rfl) (Nat.le_of_ble_eq_true rfl) rfl (fun hr => wantedY hr rfl rfl rfl (Nat.le_of_ble_eq_true rfl) rfl rfl) rfl (Nat.le_of_ble_eq_true rfl) (fun _ _ _ _ h => h) ?_
                      refine DW.qY rfl (ok_s2 (x := .tmp 86) (x' := .tmp 91) (VScal.one rfl) (VScal.one rfl) (fun ρ h1 h2 w => by go_simp; (try go_bits); with_reducible rfl) rfl) rfl rfl rfl (Nat.le_of_ble_eq_true rfl) rfl rfl rfl (Nat.le_of_ble_eq_true rfl) (fun _ _ _ _ h => h) ?_
                      refine DW.qY rfl (ok_pickT (v := V.one (.sc _)) rfl rfl rfl) rfl rfl rfl (Nat.le_of_ble_eq_true rfl) rfl rfl rfl (Nat.le_of_ble_eq_true rfl) (fun _ _ _ _ h => h) ?_
                      refine DW.q rfl (ok_pickF (v := V.one (.sc _)) rfl rfl rfl) rfl rfl (Nat.le_of_ble_eq_true rfl) (fun _ _ _ _ h => h) ?_
                      refine DW.stores ?_
                      refine SV.zend ?_
                      refine SV.tn ?_
                      refine SV.cond rfl (fun hc5 => ?_) (fun hc5 => ?_)
                      · skip   -- c5.T
                        (exfalso; first | (simp at hc5; done) | (simp at hc5; omega))
                      · skip   -- c5.F
                        refine SV.skip ?_
                        refine SV.bn ?_
                        refine SV.tn ?_
                        refine SV.region ?_
                        refine SV.op (OpL.ok (nb := 0) (ok_move (v := V.one (.sc _)) (.inl rfl) rfl) rfl (Nat.le_of_ble_eq_true rfl)) rfl ?_
                        refine SV.op (OpL.ok (nb := 0) (ok_s2 (x := .tmp 58) (x' := .const ((Value.int IntKind.i64 1))) (VScal.one rfl) (VScal.one rfl) (fun ρ h1 h2 w => by go_simp; (try go_bits); with_reducible rfl) rfl) rfl (Nat.le_of_ble_eq_true rfl)) rfl ?_
                        refine SV.op (OpL.ok (nb := 0) (ok_move (v := V.one (.sc _)) (.inr rfl) rfl) rfl (Nat.le_of_ble_eq_true rfl)) rfl ?_
                        refine SV.nil ?_
                        refine SV.tn ?_
                        refine SV.again (fun i => [0, 1].getD i 0) (t + 1) (⟨by omega, by omega⟩) (pins hE rfl rfl) (VS.le.mk' (le_put (le_put (le_put (le_put (le_put (le_put (le_new (le_new le_nil)) (V.le.keep (ag := false) (xs := [.sc _]) (ys := [.sc _]) rfl rfl ⟨rfl, trivial⟩)) (V.le.keep (ag := false) (xs := [.sc _]) (ys := [.sc _]) rfl rfl ⟨rfl, trivial⟩)) (V.le.keep (ag := false) (xs := [.hd 0]) (ys := [.hd 0]) rfl rfl ⟨⟨rfl, (Nat.le_of_ble_eq_true rfl), (Nat.le_of_ble_eq_true rfl)⟩, trivial⟩)) (V.le.keep (ag := false) (xs := [.hd 1]) (ys := [.hd 1]) rfl rfl ⟨⟨rfl, (Nat.le_of_ble_eq_true rfl), (Nat.le_of_ble_eq_true rfl)⟩, trivial⟩)) (V.le.keep (ag := false) (xs := [.sc _]) (ys := [.sc _]) rfl rfl ⟨(by first | rfl | (show Leaf.sc _ = Leaf.sc _; refine congrArg Leaf.sc ?_; first | rfl | go_num | (rw [hn, IntWalk.wrap64_in _ ⟨by omega, by omega⟩]; first | done | rfl | go_num | (simp; done) | (simp; omega)) | (simp [cntAll]; done)) | (simp [cntAll]; done) | (simp; omega)), trivial⟩)) (V.le.keep (ag := false) (xs := [.sc _]) (ys := [.sc _]) rfl rfl ⟨(by first | rfl | (show Leaf.sc _ = Leaf.sc _; refine congrArg Leaf.sc ?_; first | rfl | go_num | (rw [hn, IntWalk.wrap64_in _ ⟨by omega, by omega⟩]; first | done | rfl | go_num | (simp; done) | (simp; omega)) | (simp [cntAll]; done)) | (simp [cntAll]; done) | (simp; omega)), trivial⟩)) trivial ⟨.inr ⟨_, _, rfl, rfl, (Nat.le_of_ble_eq_true rfl)⟩, ⟨.inr ⟨_, _, rfl, rfl, (Nat.le_of_ble_eq_true rfl)⟩, trivial⟩⟩ (new_ob (new_ob nil_ob)) (fun i j hi hj e => inj_list (l := [0, 1]) (by decide) i j hi hj e))
                    · skip   -- g6.F
                      refine DW.qN (V' := V.one .dead) rfl rfl rfl rfl (Nat.le_of_ble_eq_true rfl) rfl rfl rfl (Nat.le_of_ble_eq_true rfl) (fun _ _ _ _ h => h) ?_
                      refine DW.qN (V' := V.one .dead) rfl rfl rfl rfl (Nat.le_of_ble_eq_true rfl) rfl rfl rfl (Nat.le_of_ble_eq_true rfl) (fun _ _ _ _ h => h) ?_
                      refine DW.qN (V' := V.one .dead) rfl rfl rfl rfl (Nat.le_of_ble_eq_true rfl) rfl rfl rfl (Nat.le_of_ble_eq_true rfl) (fun _ _ _ _ h => h) ?_
                      refine DW.qN (V' := V.one .dead) rfl rfl rfl rfl (Nat.le_of_ble_eq_true rfl) rfl rfl rfl (Nat.le_of_ble_eq_true rfl) (fun _ _ _ _ h => h) ?_
                      refine DW.qN (V' := V.one .dead) rfl rfl rfl rfl (Nat.le_of_ble_eq_true rfl) rfl rfl rfl (Nat.le_of_ble_eq_true rfl) (fun _ _ _ _ h => h) ?_
                      refine DW.qN (V' := V.one .dead) rfl rfl rfl rfl (Nat.le_of_ble_eq_true rfl) rfl rfl rfl (Nat.le_of_ble_eq_true rfl) (fun _ _ _ _ h => h) ?_
                      refine DW.qN (V' := V.one .dead) rfl rfl rfl rfl (Nat.le_of_ble_eq_true rfl) rfl rfl rfl (Nat.le_of_ble_eq_true rfl) (fun _ _ _ _ h => h) ?_
                      refine DW.qN (V' := V.one .dead) rfl rfl rfl rfl (Nat.le_of_ble_eq_true rfl) rfl rfl rfl (Nat.le_of_ble_eq_true rfl) (fun _ _ _ _ h => h) ?_
                      refine DW.qN (V' := V.one .dead) rfl rfl rfl rfl (Nat.le_of_ble_eq_true rfl) rfl rfl rfl (Nat.le_of_ble_eq_true rfl) (fun _ _ _ _ h => h) ?_
                      refine DW.qN (V' := V.one .dead) rfl rfl rfl rfl (Nat.le_of_ble_eq_true rfl) rfl rfl rfl (Nat.le_of_ble_eq_true rfl) (fun _ _ _ _ h => h) ?_
                      refine DW.qN (V' := V.one .dead) rfl rfl rfl rfl (Nat.le_of_ble_eq_true rfl) rfl rfl rfl (Nat.le_of_ble_eq_true rfl) (fun _ _ _ _ h => h) ?_
                      refine DW.qN (V' := V.one .dead) rfl rfl rfl rfl (Nat.le_of_ble_eq_true rfl) rfl rfl rfl (Nat.le_of_ble_eq_true rfl) (fun _ _ _ _ h => h) ?_
                      refine DW.qY rfl (ok_pickF (v := V.one (.sc _)) rfl rfl rfl) rfl rfl rfl (Nat.le_of_ble_eq_true rfl) rfl rfl rfl (Nat.le_of_ble_eq_true rfl) (fun _ _ _ _ h => h) ?_
                      refine DW.q rfl (ok_pickF (v := V.one (.sc _)) rfl rfl rfl) rfl rfl (Nat.le_of_ble_eq_true rfl) (fun _ _ _ _ h => h) ?_
                      refine DW.stores ?_
                      refine SV.zend ?_
                      refine SV.tn ?_
                      refine SV.cond rfl (fun hc6 => ?_) (fun hc6 => ?_)
                      · skip   -- c6.T
                        cases hc6
                      · skip   -- c6.F
                        refine SV.skip ?_
                        refine SV.bn ?_
                        refine SV.tn ?_
                        refine SV.region ?_
                        refine SV.op (OpL.ok (nb := 0) (ok_move (v := V.one (.sc _)) (.inl rfl) rfl) rfl (Nat.le_of_ble_eq_true rfl)) rfl ?_
                        refine SV.op (OpL.ok (nb := 0) (ok_s2 (x := .tmp 58) (x' := .const ((Value.int IntKind.i64 1))) (VScal.one rfl) (VScal.one rfl) (fun ρ h1 h2 w => by go_simp; (try go_bits); with_reducible rfl) rfl) rfl (Nat.le_of_ble_eq_true rfl)) rfl ?_
                        refine SV.op (OpL.ok (nb := 0) (ok_move (v := V.one (.sc _)) (.inr rfl) rfl) rfl (Nat.le_of_ble_eq_true rfl)) rfl ?_
                        refine SV.nil ?_
                        refine SV.tn ?_
                        refine SV.again (fun i => [0, 1].getD i 0) (t + 1) (⟨by omega, by omega⟩) (pins hE rfl rfl) (VS.le.mk' (le_put (le_put (le_put (le_put (le_put (le_put (le_new (le_new le_nil)) (V.le.keep (ag := false) (xs := [.sc _]) (ys := [.sc _]) rfl rfl ⟨rfl, trivial⟩)) (V.le.keep (ag := false) (xs := [.sc _]) (ys := [.sc _]) rfl rfl ⟨rfl, trivial⟩)) (V.le.keep (ag := false) (xs := [.hd 0]) (ys := [.hd 0]) rfl rfl ⟨⟨rfl, (Nat.le_of_ble_eq_true rfl), (Nat.le_of_ble_eq_true rfl)⟩, trivial⟩)) (V.le.keep (ag := false) (xs := [.hd 1]) (ys := [.hd 1]) rfl rfl ⟨⟨rfl, (Nat.le_of_ble_eq_true rfl), (Nat.le_of_ble_eq_true rfl)⟩, trivial⟩)) (V.le.keep (ag := false) (xs := [.sc _]) (ys := [.sc _]) rfl rfl ⟨(by first | rfl | (show Leaf.sc _ = Leaf.sc _; refine congrArg Leaf.sc ?_; first | rfl | go_num | (rw [hn, IntWalk.wrap64_in _ ⟨by omega, by omega⟩]; first | done | rfl | go_num | (simp; done) | (simp; omega)) | (simp [cntAll]; done)) | (simp [cntAll]; done) | (simp; omega)), trivial⟩)) (V.le.keep (ag := false) (xs := [.sc _]) (ys := [.sc _]) rfl rfl ⟨(by first | rfl | (show Leaf.sc _ = Leaf.sc _; refine congrArg Leaf.sc ?_; first | rfl | go_num | (rw [hn, IntWalk.wrap64_in _ ⟨by omega, by omega⟩]; first | done | rfl | go_num | (simp; done) | (simp; omega)) | (simp [cntAll]; done)) | (simp [cntAll]; done) | (simp; omega)), trivial⟩)) trivial ⟨.inr ⟨_, _, rfl, rfl, (Nat.le_of_ble_eq_true rfl)⟩, ⟨.inr ⟨_, _, rfl, rfl, (Nat.le_of_ble_eq_true rfl)⟩, trivial⟩⟩ (new_ob (new_ob nil_ob)) (fun i j hi hj e => inj_list (l := [0, 1]) (by decide) i j hi hj e))
              · skip   -- c2.F
                have hte : ¬ t < (GroupD.ofRows A).length := by simpa using hc2
                have htk : (GroupD.ofRows A).take t = (GroupD.ofRows A) := List.take_of_length_le (by omega)
                have hcn : GroupD.cnt ((GroupD.ofRows A).take t) = (A.length : Int) := by rw [htk]; exact GroupD.cnt_rows (A := A) (by omega)
                have hcn2 := GroupD.cnt_rows (A := A) (by omega)
                refine SV.exit ?_
                refine SV.te ?_
                refine SV.te ?_
                refine SV.bh ?_
                refine SV.tn ?_
                refine SV.seq' ?_
                refine SV.region ?_
                refine SV.op (OpL.ok (nb := 0) (ok_move (v := V.one (.sc _)) (.inl rfl) rfl) rfl (Nat.le_of_ble_eq_true rfl)) rfl ?_
                refine SV.callE hD rfl ⟨_, _, Tryd.func18, rfl, by decide⟩ (VCE.mono (fun w h => h.1) vd_comb) ⟨⟨[.sc _], rfl, ⟨rfl, trivial⟩⟩, trivial⟩ rfl (Nat.le_of_ble_eq_true rfl) rfl ?_
                rintro ⟨a, b⟩ -
                refine SV.op (OpL.ok (nb := 0) (ok_move (v := ⟨true, [(true, [.sc _, .sc _, .sc _, .sc _, .sc _]), (true, [.sc _, .sc _, .sc _, .sc _, .sc _])]⟩) (.inl rfl) rfl) rfl (Nat.le_of_ble_eq_true rfl)) rfl ?_
                refine SV.op (OpL.ok (nb := 0) (ok_extract (ag := true) (xs := [.sc _, .sc _, .sc _, .sc _, .sc _]) rfl rfl rfl) rfl (Nat.le_of_ble_eq_true rfl)) rfl ?_
                refine SV.op (OpL.ok (nb := 0) (ok_extract (ag := true) (xs := [.sc _, .sc _, .sc _, .sc _, .sc _]) rfl rfl rfl) rfl (Nat.le_of_ble_eq_true rfl)) rfl ?_
                refine SV.op (OpMk.ok (ok_alloc (kk := 0) (xs := [.sc _, .sc _, .sc _, .sc _, .sc _]) rfl rfl zero_impl_Group ⟨rfl, rfl, rfl, rfl, rfl, rfl, rfl, rfl, rfl, rfl, trivial⟩ rfl (Nat.le_of_ble_eq_true rfl))) rfl ?_
                refine SV.op (OpMk.ok (ok_alloc (kk := 1) (xs := [.sc _, .sc _, .sc _, .sc _, .sc _]) rfl rfl zero_impl_Group ⟨rfl, rfl, rfl, rfl, rfl, rfl, rfl, rfl, rfl, rfl, trivial⟩ rfl (Nat.le_of_ble_eq_true rfl))) rfl ?_
                refine SV.op (ok_store_bp (b := 0) (i := 0) (m := 5) (ag := true) (zs := [.sc _, .sc _, .sc _, .sc _, .sc _]) (ys := [.sc _, .sc _, .sc _, .sc _, .sc _]) rfl rfl rfl rfl sz_impl_Group (fun h => by cases h) rfl (Nat.le_of_ble_eq_true rfl) rfl rfl rfl) rfl ?_
                refine SV.op (ok_store_bp (b := 1) (i := 0) (m := 5) (ag := true) (zs := [.sc _, .sc _, .sc _, .sc _, .sc _]) (ys := [.sc _, .sc _, .sc _, .sc _, .sc _]) rfl rfl rfl rfl sz_impl_Group (fun h => by cases h) rfl (Nat.le_of_ble_eq_true rfl) rfl rfl rfl) rfl ?_
                refine SV.nil ?_
                refine SV.tn ?_
                refine SV.seq' ?_
                refine SV.region ?_
                refine SV.op (OpL.ok (nb := 2) (ok_move (v := V.one (.sc _)) (.inl rfl) rfl) rfl (Nat.le_of_ble_eq_true rfl)) rfl ?_
                refine SV.callE hD rfl ⟨_, _, Tryd.func19, rfl, by decide⟩ (VCE.mono (fun w h => h.1) vd_valid) ⟨⟨[.sc _], rfl, ⟨rfl, trivial⟩⟩, trivial⟩ rfl (Nat.le_of_ble_eq_true rfl) rfl ?_
                rintro o -
                refine SV.op (OpMk.ok (ok_alloc (kk := 2) (xs := [.sc _, .sc _, .sc _, .sc _, .sc _]) rfl rfl zero_impl_Group ⟨rfl, rfl, rfl, rfl, rfl, rfl, rfl, rfl, rfl, rfl, trivial⟩ rfl (Nat.le_of_ble_eq_true rfl))) rfl ?_
                refine SV.op (ok_store_bp (b := 2) (i := 0) (m := 5) (ag := true) (zs := [.sc _, .sc _, .sc _, .sc _, .sc _]) (ys := [.sc _, .sc _, .sc _, .sc _, .sc _]) rfl rfl rfl rfl sz_impl_Group (fun h => by cases h) rfl (Nat.le_of_ble_eq_true rfl) rfl rfl rfl) rfl ?_
                refine SV.nil ?_
                refine SV.tn ?_
                refine SV.seq' ?_
                refine SV.region ?_
                refine SV.op (OpL.ok (nb := 3) (ok_move (v := V.one (.sc _)) (.inl rfl) rfl) rfl (Nat.le_of_ble_eq_true rfl)) rfl ?_
                refine SV.callE hD rfl ⟨_, _, Tryd.func20, rfl, by decide⟩ (VCE.mono (fun w h => h.1) vd_merge) ⟨⟨[.sc _], rfl, ⟨rfl, trivial⟩⟩, trivial⟩ rfl (Nat.le_of_ble_eq_true rfl) rfl ?_
                rintro M ⟨hM, hMk⟩
                replace hM : M.length ≤ 15 := hM
                have hMl := GroupD.merge_length M
                refine SV.op (OpL.ok (nb := 3) (ok_move (v := V.one (.hd 2)) (.inr rfl) rfl) rfl (Nat.le_of_ble_eq_true rfl)) rfl ?_
                refine SV.nil ?_
                refine SV.tn ?_
                refine SV.seq' ?_
                refine SV.region ?_
                refine SV.op (OpL.ok (nb := 3) (ok_move (v := V.one (.sc _)) (.inl rfl) rfl) rfl (Nat.le_of_ble_eq_true rfl)) rfl ?_
                refine SV.callE hD rfl ⟨_, _, Tryd.func21, rfl, by decide⟩ (VCE.mono (fun w h => h.1) vd_row) ⟨⟨[.sc _], rfl, ⟨rfl, trivial⟩⟩, trivial⟩ rfl (Nat.le_of_ble_eq_true rfl) rfl ?_
                rintro r hr
                refine SV.op (OpMk.ok (ok_alloc (kk := 3) (xs := [.sc _, .sc _, .sc _]) rfl rfl zero_impl_Row ⟨rfl, rfl, rfl, rfl, rfl, rfl, trivial⟩ rfl (Nat.le_of_ble_eq_true rfl))) rfl ?_
                refine SV.op (ok_store_bp (b := 3) (i := 0) (m := 3) (ag := true) (zs := [.sc _, .sc _, .sc _]) (ys := [.sc _, .sc _, .sc _]) rfl rfl rfl rfl sz_impl_Row (fun h => by cases h) rfl (Nat.le_of_ble_eq_true rfl) rfl rfl rfl) rfl ?_
                refine SV.nil ?_
                refine SV.tn ?_
                refine SV.seq' ?_
                refine SV.draw [.q 0, .q 1, .q 2, .q 3, .q 4, .q 5, .q 6, .q 8, .q 9, .m 7, .m 10, .q 11, .q 12, .q 13, .q 14, .q 16, .m 15, .m 17, .q 18, .q 19, .q 20, .q 21, .q 23, .m 22, .m 24, .m 25, .q 26, .q 27, .q 28, .q 30, .m 29, .m 31, .q 32, .q 33, .q 34] [] (by kernel_rfl) (by kernel_rfl) ?_
                refine DW.q rfl (ok_move (v := V.one (.sc _)) (.inl rfl) rfl) rfl rfl (Nat.le_of_ble_eq_true rfl) (fun _ _ _ _ h => h) ?_
                refine DW.q rfl (ok_move (v := V.one (.hd 0)) (.inl rfl) rfl) rfl rfl (Nat.le_of_ble_eq_true rfl) (fun _ _ _ _ h => h) ?_
                refine DW.q rfl (ok_len (lf := .hd 0) rfl elt_impl_Row.und rfl rfl) rfl rfl (Nat.le_of_ble_eq_true rfl) (fun _ _ _ _ h => h) ?_
                refine DW.q rfl (ok_s2 (x := .tmp 106) (x' := .tmp 108) (VScal.one rfl) (VScal.one rfl) (fun ρ h1 h2 w => by go_simp; (try go_bits); with_reducible rfl) rfl) rfl rfl (Nat.le_of_ble_eq_true rfl) (fun _ _ _ _ h => h) ?_
                refine DW.q rfl (ok_move (v := V.one (.sc _)) (.inl rfl) rfl) rfl rfl (Nat.le_of_ble_eq_true rfl) (fun _ _ _ _ h => h) ?_
                refine DW.split (d := 110) rfl (fun hg7 => ?_) (fun hg7 => ?_)
                · skip   -- g7.T
                  refine DW.qY rfl (ok_load_bp (b := 0) (i := 0) (ag := true) (m := 5) (ys := [.sc _, .sc _, .sc _, .sc _, .sc _]) rfl rfl rfl agg_impl_Group sz_impl_Group (fun h => by cases h) rfl rfl (Nat.le_of_ble_eq_true rfl)) rfl rfl rfl (Nat.le_of_ble_eq_true rfl) rfl rfl rfl (Nat.le_of_ble_eq_true rfl) (fun _ _ _ _ h => h) ?_
                  refine DW.qY rfl (ok_load_bp (b := 1) (i := 0) (ag := true) (m := 5) (ys := [.sc _, .sc _, .sc _, .sc _, .sc _]) rfl rfl rfl agg_impl_Group sz_impl_Group (fun h => by cases h) rfl rfl (Nat.le_of_ble_eq_true rfl)) rfl rfl rfl (Nat.le_of_ble_eq_true rfl) rfl rfl rfl (Nat.le_of_ble_eq_true rfl) (fun _ _ _ _ h => h) ?_
                  refine DW.qY rfl (ok_load_bp (b := 0) (i := 0) (ag := true) (m := 5) (ys := [.sc _, .sc _, .sc _, .sc _, .sc _]) rfl rfl rfl agg_impl_Group sz_impl_Group (fun h => by cases h) rfl rfl (Nat.le_of_ble_eq_true rfl)) rfl rfl rfl (Nat.le_of_ble_eq_true rfl) rfl rfl rfl (Nat.le_of_ble_eq_true rfl) (fun _ _ _ _ h => h) ?_
                  refine DW.qY rfl (ok_load_bp (b := 1) (i := 0) (ag := true) (m := 5) (ys := [.sc _, .sc _, .sc _, .sc _, .sc _]) rfl rfl rfl agg_impl_Group sz_impl_Group (fun h => by cases h) rfl rfl (Nat.le_of_ble_eq_true rfl)) rfl rfl rfl (Nat.le_of_ble_eq_true rfl) rfl rfl rfl (Nat.le_of_ble_eq_true rfl) (fun _ _ _ _ h => h) ?_
                  refine DW.m' [] rfl (ok_call (ls := [(true, [.sc _, .sc _, .sc _, .sc _, .sc _])]) rfl rfl ⟨_, _, Tryd.func22, rfl, by decide⟩ (vcomb_i a b) ⟨⟨[.sc _, .sc _, .sc _, .sc _, .sc _], rfl, ⟨rfl, rfl, rfl, rfl, rfl, trivial⟩⟩, ⟨[.sc _, .sc _, .sc _, .sc _, .sc _], rfl, ⟨rfl, rfl, rfl, rfl, rfl, trivial⟩⟩, trivial⟩ rfl (Nat.le_of_ble_eq_true rfl)) (fun hr => wantedY hr rfl rfl rfl (Nat.le_of_ble_eq_true rfl) rfl rfl) (Nat.le_of_ble_eq_true rfl) (Nat.le_of_ble_eq_true rfl) (.inl rfl) (fun j hj => by cases hj) ?_
                  refine DW.m' [] rfl (ok_call (ls := [(true, [.sc _, .sc _, .sc _, .sc _, .sc _])]) rfl rfl ⟨_, _, Tryd.func23, rfl, by decide⟩ (vcomb_s a b) ⟨⟨[.sc _, .sc _, .sc _, .sc _, .sc _], rfl, ⟨rfl, rfl, rfl, rfl, rfl, trivial⟩⟩, ⟨[.sc _, .sc _, .sc _, .sc _, .sc _], rfl, ⟨rfl, rfl, rfl, rfl, rfl, trivial⟩⟩, trivial⟩ rfl (Nat.le_of_ble_eq_true rfl)) (fun hr => wantedY hr rfl rfl rfl (Nat.le_of_ble_eq_true rfl) rfl rfl) (Nat.le_of_ble_eq_true rfl) (Nat.le_of_ble_eq_true rfl) (.inl rfl) (fun j hj => by cases hj) ?_
                  refine DW.qY rfl (ok_s2 (v := .bool (decide (GroupD.comb a b = GroupD.comb a b))) (x := .tmp 113) (x' := .tmp 116) ⟨true, [_, _, _, _, _], rfl, rfl⟩ ⟨true, [_, _, _, _, _], rfl, rfl⟩ (fun ρ h1 h2 w => eql_impl_Group (GroupD.comb a b) (GroupD.comb a b) ρ _ _ _ w rfl h1 h2) rfl) rfl rfl rfl (Nat.le_of_ble_eq_true rfl) rfl rfl rfl (Nat.le_of_ble_eq_true rfl) (fun _ _ _ _ h => h) ?_
                  refine DW.q rfl (ok_pickT (v := V.one (.sc _)) rfl rfl rfl) rfl rfl (Nat.le_of_ble_eq_true rfl) (fun _ _ _ _ h => h) ?_
                  refine DW.q rfl (ok_move (v := V.one (.sc _)) (.inl rfl) rfl) rfl rfl (Nat.le_of_ble_eq_true rfl) (fun _ _ _ _ h => h) ?_
                  refine DW.split (d := 119) rfl (fun hg8 => ?_) (fun hg8 => ?_)
                  · skip   -- g8.T
                    refine DW.qY rfl (ok_load_bp (b := 2) (i := 0) (ag := true) (m := 5) (ys := [.sc _, .sc _, .sc _, .sc _, .sc _]) rfl rfl rfl agg_impl_Group sz_impl_Group (fun h => by cases h) rfl rfl (Nat.le_of_ble_eq_true rfl)) rfl rfl rfl (Nat.le_of_ble_eq_true rfl) rfl rfl rfl (Nat.le_of_ble_eq_true rfl) (fun _ _ _ _ h => h) ?_
                    refine DW.qY rfl (ok_load_bp (b := 2) (i := 0) (ag := true) (m := 5) (ys := [.sc _, .sc _, .sc _, .sc _, .sc _]) rfl rfl rfl agg_impl_Group sz_impl_Group (fun h => by cases h) rfl rfl (Nat.le_of_ble_eq_true rfl)) rfl rfl rfl (Nat.le_of_ble_eq_true rfl) rfl rfl rfl (Nat.le_of_ble_eq_true rfl) (fun _ _ _ _ h => h) ?_
                    refine DW.m' [] rfl (ok_call (ls := [(false, [.sc _])]) rfl rfl ⟨_, _, Tryd.func17, rfl, by decide⟩ (vokg_i o) ⟨⟨[.sc _, .sc _, .sc _, .sc _, .sc _], rfl, ⟨rfl, rfl, rfl, rfl, rfl, trivial⟩⟩, trivial⟩ rfl (Nat.le_of_ble_eq_true rfl)) (fun hr => wantedY hr rfl rfl rfl (Nat.le_of_ble_eq_true rfl) rfl rfl) (Nat.le_of_ble_eq_true rfl) (Nat.le_of_ble_eq_true rfl) (.inl rfl) (fun j hj => by cases hj) ?_
                    refine DW.m' [] rfl (ok_call (ls := [(false, [.sc _])]) rfl rfl ⟨_, _, Tryd.func24, rfl, by decide⟩ (vokg_s o) ⟨⟨[.sc _, .sc _, .sc _, .sc _, .sc _], rfl, ⟨rfl, rfl, rfl, rfl, rfl, trivial⟩⟩, trivial⟩ rfl (Nat.le_of_ble_eq_true rfl)) (fun hr => wantedY hr rfl rfl rfl (Nat.le_of_ble_eq_true rfl) rfl rfl) (Nat.le_of_ble_eq_true rfl) (Nat.le_of_ble_eq_true rfl) (.inl rfl) (fun j hj => by cases hj) ?_
                    refine DW.qY rfl (ok_s2 (x := .tmp 121) (x' := .tmp 123) (VScal.one rfl) (VScal.one rfl) (fun ρ h1 h2 w => by go_simp; (try go_bits); with_reducible rfl) rfl) rfl rfl rfl (Nat.le_of_ble_eq_true rfl) rfl rfl rfl (Nat.le_of_ble_eq_true rfl) (fun _ _ _ _ h => h) ?_
                    refine DW.q rfl (ok_pickT (v := V.one (.sc _)) rfl rfl rfl) rfl rfl (Nat.le_of_ble_eq_true rfl) (fun _ _ _ _ h => h) ?_
                    refine DW.q rfl (ok_move (v := V.one (.sc _)) (.inl rfl) rfl) rfl rfl (Nat.le_of_ble_eq_true rfl) (fun _ _ _ _ h => h) ?_
                    refine DW.split (d := 126) rfl (fun hg9 => ?_) (fun hg9 => ?_)
                    · skip   -- g9.T
                      refine DW.qY rfl (ok_move (v := V.one (.hd 2)) (.inl rfl) rfl) rfl rfl rfl (Nat.le_of_ble_eq_true rfl) rfl rfl rfl (Nat.le_of_ble_eq_true rfl) (fun _ _ _ _ h => h) ?_
                      refine DW.qY rfl (ok_move (v := V.one (.hd 2)) (.inl rfl) rfl) rfl rfl rfl (Nat.le_of_ble_eq_true rfl) rfl rfl rfl (Nat.le_of_ble_eq_true rfl) (fun _ _ _ _ h => h) ?_
                      refine DW.m' [3] rfl (ok_call (ls := [(false, [.hd 3])]) rfl rfl ⟨_, _, Tryd.func13, rfl, by decide⟩ (vmerge_i M (by omega) (fun g hg => lit_wf (hMk g hg))) ⟨⟨[.hd 2], rfl, ⟨rfl, trivial⟩⟩, trivial⟩ rfl (Nat.le_of_ble_eq_true rfl)) (fun hr => wantedY hr rfl rfl rfl (Nat.le_of_ble_eq_true rfl) rfl rfl) (Nat.le_of_ble_eq_true rfl) (Nat.le_of_ble_eq_true rfl) (.inl rfl) (fun j hj => by
                          simp only [List.mem_cons, List.not_mem_nil, or_false] at hj
                          rcases hj with rfl
                          · exact .inr ⟨(Nat.le_of_ble_eq_true rfl), (Nat.le_of_ble_eq_true rfl), .inl rfl⟩) ?_
                      refine DW.m' [4, 3] rfl (ok_call (ls := [(false, [.hd 4])]) rfl rfl ⟨_, _, Tryd.func25, rfl, by decide⟩ (vmerge_s M (by omega)) ⟨⟨[.hd 2], rfl, ⟨rfl, trivial⟩⟩, trivial⟩ rfl (Nat.le_of_ble_eq_true rfl)) (fun hr => wantedY hr rfl rfl rfl (Nat.le_of_ble_eq_true rfl) rfl rfl) (Nat.le_of_ble_eq_true rfl) (Nat.le_of_ble_eq_true rfl) (.inl rfl) (fun j hj => by
                          simp only [List.mem_cons, List.not_mem_nil, or_false] at hj
                          rcases hj with rfl | rfl
                          · exact .inr ⟨(Nat.le_of_ble_eq_true rfl), (Nat.le_of_ble_eq_true rfl), .inl rfl⟩
                          · exact .inl (by decide)) ?_
                      refine DW.m' [4, 3] rfl (ok_call (ls := [(false, [.sc _])]) rfl rfl ⟨_, _, Tryd.func11, rfl, by decide⟩ (vsameg (GroupD.merge M) (by omega)) ⟨⟨[.hd 3], rfl, ⟨rfl, trivial⟩⟩, ⟨[.hd 4], rfl, ⟨rfl, trivial⟩⟩, trivial⟩ rfl (Nat.le_of_ble_eq_true rfl)) (fun hr => wantedY hr rfl rfl rfl (Nat.le_of_ble_eq_true rfl) rfl rfl) (Nat.le_of_ble_eq_true rfl) (Nat.le_of_ble_eq_true rfl) (.inl rfl) (fun j hj => by
                          simp only [List.mem_cons, List.not_mem_nil, or_false] at hj
                          rcases hj with rfl | rfl
                          · exact .inl (by decide)
                          · exact .inl (by decide)) ?_
                      refine DW.q rfl (ok_pickT (v := V.one (.sc _)) rfl rfl rfl) rfl rfl (Nat.le_of_ble_eq_true rfl) (fun _ _ _ _ h => h) ?_
                      refine DW.q rfl (ok_move (v := V.one (.sc _)) (.inl rfl) rfl) rfl rfl (Nat.le_of_ble_eq_true rfl) (fun _ _ _ _ h => h) ?_
                      refine DW.split (d := 133) rfl (fun hg10 => ?_) (fun hg10 => ?_)
                      · skip   -- g10.T
                        refine DW.qY rfl (ok_load_bp (b := 3) (i := 0) (ag := true) (m := 3) (ys := [.sc _, .sc _, .sc _]) rfl rfl rfl agg_impl_Row sz_impl_Row (fun h => by cases h) rfl rfl (Nat.le_of_ble_eq_true rfl)) rfl rfl rfl (Nat.le_of_ble_eq_true rfl) rfl rfl rfl (Nat.le_of_ble_eq_true rfl) (fun _ _ _ _ h => h) ?_
                        refine DW.qY rfl (ok_load_bp (b := 3) (i := 0) (ag := true) (m := 3) (ys := [.sc _, .sc _, .sc _]) rfl rfl rfl agg_impl_Row sz_impl_Row (fun h => by cases h) rfl rfl (Nat.le_of_ble_eq_true rfl)) rfl rfl rfl (Nat.le_of_ble_eq_true rfl) rfl rfl rfl (Nat.le_of_ble_eq_true rfl) (fun _ _ _ _ h => h) ?_
                        refine DW.m' [4, 3] rfl (ok_call (ls := [(true, [.sc _, .sc _, .sc _, .sc _, .sc _])]) rfl rfl ⟨_, _, Tryd.func26, rfl, by decide⟩ (vofrow_i r) ⟨⟨[.sc _, .sc _, .sc _], rfl, ⟨rfl, rfl, rfl, trivial⟩⟩, trivial⟩ rfl (Nat.le_of_ble_eq_true rfl)) (fun hr => wantedY hr rfl rfl rfl (Nat.le_of_ble_eq_true rfl) rfl rfl) (Nat.le_of_ble_eq_true rfl) (Nat.le_of_ble_eq_true rfl) (.inl rfl) (fun j hj => by
                            simp only [List.mem_cons, List.not_mem_nil, or_false] at hj
                            rcases hj with rfl | rfl
                            · exact .inl (by decide)
                            · exact .inl (by decide)) ?_
                        refine DW.m' [4, 3] rfl (ok_call (ls := [(true, [.sc _, .sc _, .sc _, .sc _, .sc _])]) rfl rfl ⟨_, _, Tryd.func27, rfl, by decide⟩ (vofrow_s r) ⟨⟨[.sc _, .sc _, .sc _], rfl, ⟨rfl, rfl, rfl, trivial⟩⟩, trivial⟩ rfl (Nat.le_of_ble_eq_true rfl)) (fun hr => wantedY hr rfl rfl rfl (Nat.le_of_ble_eq_true rfl) rfl rfl) (Nat.le_of_ble_eq_true rfl) (Nat.le_of_ble_eq_true rfl) (.inl rfl) (fun j hj => by
                            simp only [List.mem_cons, List.not_mem_nil, or_false] at hj
                            rcases hj with rfl | rfl
                            · exact .inl (by decide)
                            · exact .inl (by decide)) ?_
                        refine DW.qY rfl (ok_s2 (v := .bool (decide (GroupD.ofRow r = GroupD.ofRow r))) (x := .tmp 135) (x' := .tmp 137) ⟨true, [_, _, _, _, _], rfl, rfl⟩ ⟨true, [_, _, _, _, _], rfl, rfl⟩ (fun ρ h1 h2 w => eql_impl_Group (GroupD.ofRow r) (GroupD.ofRow r) ρ _ _ _ w rfl h1 h2) rfl) rfl rfl rfl (Nat.le_of_ble_eq_true rfl) rfl rfl rfl (Nat.le_of_ble_eq_true rfl) (fun _ _ _ _ h => h) ?_
                        refine DW.q rfl (ok_pickT (v := V.one (.sc _)) rfl rfl rfl) rfl rfl (Nat.le_of_ble_eq_true rfl) (fun _ _ _ _ h => h) ?_
                        refine DW.q rfl (ok_move (v := V.one (.sc _)) (.inr rfl) rfl) rfl rfl (Nat.le_of_ble_eq_true rfl) (fun _ _ _ _ h => h) ?_
                        refine DW.stores ?_
                        refine SV.zend ?_
                        refine SV.tn ?_
                        refine SV.ret ?_
                        apply SV.done (hf := Tryd.results3) (ht := rfl) (he := .inl rfl)
                        case hr => exact (ResAll.cons (ResOk.tmp (ag := false) (xs := [.sc _]) rfl) ResAll.nil')
                        case h2 => simp [two]
                        refine ⟨rfl, ⟨?_, trivial⟩, trivial⟩ <;> (show some (T.lit (Value.bool _)) = some (T.lit (Value.bool _)); refine congrArg (fun z => some (T.lit (Value.bool z))) ?_; simp)
                      · skip   -- g10.F
                        (exfalso; first | (simp at hg10; done) | (simp [hcn] at hg10; done) | (simp [hcn] at hg10; omega))
                    · skip   -- g9.F
                      (exfalso; first | (simp at hg9; done) | (simp [hcn] at hg9; done) | (simp [hcn] at hg9; omega))
                  · skip   -- g8.F
                    (exfalso; first | (simp at hg8; done) | (simp [hcn] at hg8; done) | (simp [hcn] at hg8; omega))
                · skip   -- g7.F
                  (exfalso; first | (simp at hg7; done) | (simp [hcn] at hg7; done) | (simp [hcn] at hg7; omega))
end Go.Proofs.YtmlcdhblofjpbaaDoor
/- States told by trees: arguments, from their reading to their trees; no function of program or reference is walked here. -/
namespace Go.Proofs.YtmlcdhblofjpbaaDoor
open Go Go.ChangeShapes Go.WideShapes Go.RowKit Go.Deep Go.Joins V
set_option linter.unusedVariables false
/-- Whatever reads as a value of the type is such a tree's. -/
def OpensT (A : TypeId) {α : Type} (n : Nat) (tf : α → List T) (ok : α → Prop) : Prop :=
  ∀ (H : Type) (enc : TypeId × Value → H) (w : World) (spare : Nat → Bool) (held : Bool) (fuel : Nat) (cs : List Value) (x : DataW H × List MemPlace), DataW.trod enc Tryd.prog w 0 spare held fuel A cs = some x → cs.length = n → ∃ y : α, ok y ∧ (tf y).length = n ∧ ∀ (j : Nat) (t : T) (u : Value), (tf y)[j]? = some t → cs[j]? = some u → Inn (fun b => b < w.heap.size) w t u
set_option maxRecDepth 100000 in
theorem OpensT.seq {A e : TypeId} {α : Type} {n : Nat} {tf : α → List T} {ok : α → Prop} (ht : Tryd.prog.underlying A = some (.slice e)) (hc : Tryd.prog.cellsOf e = n) (hp : 0 < n) (hz : Sz e n) (hO : OpensT e n tf ok) : OpensT A 1 (fun X : List α => [.seq e (X.map tf)]) (fun X => (∀ x ∈ X, ok x) ∧ X.length ≤ maxLen) := by
  intro H enc w spare held fuel cs x h _
  have emp : ∀ (a : Option Addr) (c : Nat), c ≤ maxLen → (a = none → c = 0) → ∃ y : List α, ((∀ x ∈ y, ok x) ∧ y.length ≤ maxLen) ∧ [T.seq e (y.map tf)].length = 1 ∧ ∀ (j : Nat) (t : T) (u : Value), [T.seq e (y.map tf)][j]? = some t → [Value.slice a 0 c][j]? = some u → Inn (fun b => b < w.heap.size) w t u := fun a c hc0 hn0 =>
    ⟨[], ⟨fun x hx => (by cases hx), Nat.zero_le _⟩, rfl, fun j t u h1 h2 => by
      match j, h1, h2 with
      | 0, h1, h2 =>
        cases h1; cases h2
        exact Inn.seq (es := []) n hp hz (fun e he => by cases he) (Nat.zero_le _) hc0 hn0 0 0 (fun _ => .bool false) (fun _ _ h => absurd rfl h) (fun h => absurd rfl h) (fun k e j t h => by simp at h) fun k e j t h => by simp at h⟩
  rcases open_slice ht h with ⟨rfl, -⟩ | ⟨a, len, cap, m, fu, D, Pl, rfl, -, hl, hm, hmm, -, hi⟩
  · exact emp none 0 (Nat.zero_le _) fun _ => rfl
  · have hlm : len ≤ m := by rw [hmm]; split <;> omega
    rw [hc] at hi
    rcases Nat.eq_zero_or_pos len with h0 | h0
    · subst h0
      exact emp (some a) cap hm fun e => by cases e
    · have hone : ∀ i, i < len → ∃ yc : α × List Value, ok yc.1 ∧ (tf yc.1).length = n ∧ yc.2.length = n ∧ (∀ j u, yc.2[j]? = some u → w.cell? (a.add (i * n + j)) = some u) ∧ ∀ (j : Nat) (t : T) (u : Value), (tf yc.1)[j]? = some t → yc.2[j]? = some u → Inn (fun b => b < w.heap.size) w t u := by
        intro i hil
        obtain ⟨cs', hcs, htr⟩ := hi i (by omega)
        obtain ⟨_, hcl, hat⟩ := World.cells?_some hcs
        obtain ⟨y, h1, h2, h3⟩ := hO H enc w spare held fu cs' _ htr hcl
        refine ⟨(y, cs'), h1, h2, hcl, fun j u hj => ?_, h3⟩
        have hjl : j < n := by rw [← hcl]; exact get_lt hj
        have := hat j hjl
        rw [add_add] at this
        rw [this]
        exact hj
      obtain ⟨y0, -⟩ := hone 0 h0
      obtain ⟨f, hf⟩ := @choose_lt (α × List Value) ⟨y0⟩ len _ hone
      obtain ⟨b, o, spot⟩ := a
      have hl0 : 0 < (f 0).2.length := by rw [(hf 0 h0).2.2.1]; exact hp
      have hcell0 := (hf 0 h0).2.2.2.1 0 (f 0).2[0] (by simp [hl0])
      have hspot : spot = none := by simpa [Addr.add] using World.cell?_spot hcell0
      subst hspot
      have hb : b < w.heap.size := by
        have := World.block_lt_of_cell? w _ hcell0
        simpa [Addr.add] using this
      have hget : ∀ k e', (((List.range len).map fun t => (f t).1).map tf)[k]? = some e' → k < len ∧ e' = tf (f k).1 := fun k e' hk => by
        have hkl : k < len := by have := get_lt hk; simpa using this
        refine ⟨hkl, ?_⟩
        simp [hkl] at hk
        exact hk.symm
      refine ⟨(List.range len).map fun t => (f t).1, ⟨fun x hx => ?_, by simp; omega⟩, rfl, fun j t u h1 h2 => ?_⟩
      · obtain ⟨t, ht, rfl⟩ := List.mem_map.1 hx
        exact (hf t (List.mem_range.1 ht)).1
      · match j, h1, h2 with
        | 0, h1, h2 =>
          cases h1; cases h2
          have hlen : (((List.range len).map fun t => (f t).1).map tf).length = len := by simp
          have key : ∀ k e' j t', (((List.range len).map fun t => (f t).1).map tf)[k]? = some e' → e'[j]? = some t' → ∃ u, (f k).2[j]? = some u ∧ w.cell? ⟨b, o + (k * n + j), none⟩ = some u ∧ Inn (fun b => b < w.heap.size) w t' u := fun k e' j t' hk hj => by
            obtain ⟨hkl, rfl⟩ := hget k e' hk
            obtain ⟨-, h3, h4, h5, h6⟩ := hf k hkl
            have hjl : j < (f k).2.length := by rw [h4, ← h3]; exact get_lt hj
            have h7 := h5 j _ (List.getElem?_eq_getElem hjl)
            rw [Addr.add_lit] at h7
            exact ⟨_, List.getElem?_eq_getElem hjl, h7, h6 j t' _ hj (List.getElem?_eq_getElem hjl)⟩
          have hsl : Value.slice (some ⟨b, o, none⟩) len cap = Value.slice (some ⟨b, o, none⟩) (((List.range len).map fun t => (f t).1).map tf).length cap := by rw [hlen]
          rw [hsl]
          exact Inn.seq n hp hz (fun e' he => by
            obtain ⟨k, hk, rfl⟩ := List.getElem_of_mem he
            obtain ⟨hkl, e1⟩ := hget k _ (List.getElem?_eq_getElem hk)
            rw [e1]; exact (hf k hkl).2.1) (by rw [hlen]; exact hl) hm (fun e => by cases e) b o (fun i => (w.cell? ⟨b, o + i, none⟩).getD (.bool false)) (fun ad h _ => (Option.some.inj h).symm) (fun _ => ⟨hb, hb⟩) (fun k e' j t' hk hj => by
              obtain ⟨u, -, h3, -⟩ := key k e' j t' hk hj
              rw [h3]; rfl) fun k e' j t' hk hj => by
              obtain ⟨u, -, h3, h4⟩ := key k e' j t' hk hj
              rw [h3]; exact h4
theorem OpensT.int : OpensT 3 1 (fun x : Int => [.lit (.int .i64 x)]) I64 := by
  intro H enc w spare held fuel cs x h hl
  match cs, hl with
  | [c0], _ =>
    obtain ⟨k0, e0, -, w0⟩ := DataW.trod_int Tryd.underlying3 h
    simp at e0
    subst e0
    refine ⟨k0, bounds_i64 w0, rfl, fun j t u h1 h2 => ?_⟩
    match j, h1, h2 with
    | 0, h1, h2 => cases h1; cases h2; exact .lit rfl
theorem OpensT.bool : OpensT 4 1 (fun x : Bool => [.lit (.bool x)]) (fun _ => True) := by
  intro H enc w spare held fuel cs x h hl
  match cs, hl with
  | [c0], _ =>
    obtain ⟨k0, e0, -⟩ := DataW.trod_bool Tryd.underlying4 h
    simp at e0
    subst e0
    refine ⟨k0, trivial, rfl, fun j t u h1 h2 => ?_⟩
    match j, h1, h2 with
    | 0, h1, h2 => cases h1; cases h2; exact .lit rfl
set_option maxRecDepth 100000 in
theorem OpensT.row : OpensT 202 3 uRow R.wf := by
  intro H enc w spare held fuel cs x h hl
  obtain ⟨y0, y1, y2, k, _, _, h0, h1, h2⟩ := trod_struct3 Tryd.underlying202 h
  match cs, hl with
  | [c0, c1, c2], _ =>
    obtain ⟨k0, e0, rfl, w0⟩ := DataW.trod_int Tryd.underlying3 h0
    obtain ⟨k1, e1, rfl, w1⟩ := DataW.trod_int Tryd.underlying3 h1
    obtain ⟨k2, e2, rfl, w2⟩ := DataW.trod_int Tryd.underlying3 h2
    simp [intCells] at e0 e1 e2
    subst e0 e1 e2
    refine ⟨⟨k0, k1, k2⟩, ⟨bounds_i64 w0, bounds_i64 w1, bounds_i64 w2⟩, rfl, fun j t u h1 h2 => ?_⟩
    match j, h1, h2 with
    | 0, h1, h2 => cases h1; cases h2; exact .lit rfl
    | 1, h1, h2 => cases h1; cases h2; exact .lit rfl
    | 2, h1, h2 => cases h1; cases h2; exact .lit rfl
set_option maxRecDepth 100000 in
theorem OpensT.rows : OpensT 179 1 (fun X : List R => [.seq 202 (X.map uRow)]) (fun X => (∀ x ∈ X, x.wf) ∧ X.length ≤ maxLen) := OpensT.seq Tryd.underlying179 (by kernel_rfl) (by decide) (Sz.of (by kernel_rfl)) OpensT.row
def okRow (r : R) : Prop := r.wf
/-- One argument: what may be read of its cells. -/
def ArgT (w : World) (ag : Bool) (ts : List T) (v : Value) : Prop := ∃ us : List Value, v = cval ag us ∧ us.length = ts.length ∧ ∀ (j : Nat) (t : T) (u : Value), ts[j]? = some t → us[j]? = some u → Inn (fun b => b < w.heap.size) w t u
theorem ArgT.lit {w : World} {v : Value} (h : v.oneCell' = true) : ArgT w false [.lit v] v := ⟨[v], rfl, rfl, fun j t u h1 h2 => by
  match j, h1, h2 with
  | 0, h1, h2 => cases h1; cases h2; exact .lit h⟩
set_option maxRecDepth 100000 in
theorem OpensT.val {A : TypeId} {fs : Array Field} {α : Type} {n : Nat} {tf : α → List T} {ok : α → Prop} (hO : OpensT A n tf ok) (hs : Tryd.prog.underlying A = some (.struct fs)) (hc : Tryd.prog.cellsOf A = n)
    {H : Type} {enc : TypeId × Value → H} {w : World} {spare : Nat → Bool} {held : Bool} {q : Reach} {b0 : Nat} {v : Value} {d : DataW H} {p : List MemPlace} (hv : Value.okWide Tryd.prog w q b0 A v) (h : DataW.Trod enc Tryd.prog w 0 spare held A v d p) :
    ∃ y : α, ok y ∧ ArgT w true (tf y) v := by
  obtain ⟨cs, rfl, hsz⟩ := okWide_struct hs hv
  obtain ⟨fuel, hf⟩ := h
  have hl : (Value.cells (.agg cs)).toList.length = n := by simpa [Value.cells] using hsz.trans hc
  obtain ⟨y, h1, h2, h3⟩ := hO H enc w spare held fuel _ _ hf hl
  exact ⟨y, h1, cs.toList, by simp [cval], hl.trans h2.symm, h3⟩
theorem OpensT.arg {A : TypeId} {α : Type} {tf : α → List T} {ok : α → Prop} (hO : OpensT A 1 tf ok) {H : Type} {enc : TypeId × Value → H} {w : World} {spare : Nat → Bool} {held : Bool} {a : Option Addr} {len cap : Nat} {d : DataW H} {p : List MemPlace}
    (h : DataW.Trod enc Tryd.prog w 0 spare held A (.slice a len cap) d p) : ∃ y : α, ok y ∧ ArgT w false (tf y) (.slice a len cap) := by
  obtain ⟨fuel, hf⟩ := h
  obtain ⟨y, h1, h2, h3⟩ := hO H enc w spare held fuel _ _ hf (by simp [Value.cells])
  exact ⟨y, h1, [.slice a len cap], rfl, h2.symm, h3⟩
theorem argsIn_nil {w : World} : ArgsIn (Env.of w) w [] [] := ⟨rfl, fun c ag ts v h => by simp at h⟩
theorem argsIn_cons {w : World} {ag : Bool} {ts : List T} {v : Value} {ins : List (Bool × List T)} {vs : List Value} (h : ArgT w ag ts v) (k : ArgsIn (Env.of w) w ins vs) : ArgsIn (Env.of w) w ((ag, ts) :: ins) (v :: vs) := by
  refine ⟨by simp [k.1], fun c ag' ts' v' h1 h2 => ?_⟩
  cases c with
  | zero =>
    cases h1; cases h2
    obtain ⟨us, h3, h4, h5⟩ := h
    exact ⟨us, h3, h4, fun j t u h6 h7 => (h5 j t u h6 h7).frame (Nat.le_refl _) fun b hb _ => ⟨Env.of_old.2 hb, rfl⟩⟩
  | succ c => exact k.2 c ag' ts' v' (by simpa using h1) (by simpa using h2)
/-- A law's contract, as its last step takes it. -/
theorem VC.law {f : FuncId} {ins : List (Bool × List T)} (h : VC Tryd.prog f ins false [(false, [.lit (.bool true)])]) {w : World} {vs : List Value} (hv : ArgsIn (Env.of w) w ins vs) : Calls Tryd.prog f vs.toArray w fun e w' => e = .returned (.bool true) ∧ Below w.heap.size w w' :=
  (h w vs hv).mono fun e w' hg => by
    obtain ⟨h1, h2⟩ := hg.lit
    exact ⟨h1, h2.os, h2.tape, h2.output, h2.size, fun k hk => h2.block k (Env.of_old.2 hk)⟩
end Go.Proofs.YtmlcdhblofjpbaaDoor
