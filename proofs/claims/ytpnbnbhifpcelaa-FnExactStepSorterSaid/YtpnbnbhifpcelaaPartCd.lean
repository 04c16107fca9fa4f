/- Texts joined: RunV RunF MrgS SrtV SrtC VDg VRo VHx VTs. -/
import Derived.Test.YtpnbnbhifpcelaaPartCc
set_option linter.unusedSimpArgs false
set_option linter.unusedVariables false
/- The reference's AreValidRuns, FlattenRuns: told by trees. -/
namespace Go.Proofs.Ytpnbnbhifpcelaa
open Go Go.RowKit V
set_option linter.unusedVariables false
theorem okRuns_all {X : List (List R)} (h : ∀ u p, u < X.length → X[u]? = some p → Runs.okRun p = true) : Runs.okRuns X = true := by
 unfold Runs.okRuns
 rw [List.all_eq_true]
 intro p hp
 obtain ⟨u, hu, rfl⟩ := List.mem_iff_getElem.1 hp
 exact h u _ hu (List.getElem?_eq_getElem hu)
theorem okRuns_no {X : List (List R)} {u : Nat} {p : List R} (h : X[u]? = some p) (hp : Runs.okRun p = false) : Runs.okRuns X = false := by
 unfold Runs.okRuns
 rw [List.all_eq_false]
 exact ⟨p, List.mem_of_getElem? h, by rw [hp]; decide⟩
theorem okRun_eq (p : List R) : Runs.okRun p = (decide (0 < p.length) && (R.asc p && okRows p)) := rfl
set_option maxRecDepth 100000 in
set_option maxHeartbeats 2000000 in
theorem vokruns_s (X : List (List R)) (hW : ∀ p ∈ X, ∀ r ∈ p, r.wf) (hp : ∀ p ∈ X, p.length ≤ 1000000000) (hX : X.length ≤ 1000000000) : VC Try.prog 72 [(false, [.seq 84 ((X).map tRun)])] false [(false, [.lit (.bool (Runs.okRuns X))])] := by
 refine VC.enter Try.func72 rfl Try.ntmps72 (gle rfl) fun E hE => ?_
 refine SV.seq' (SV.region ?_)
 refine sl 0 ms ?_
 refine SV.nil (SV.tn (SV.seq' (SV.seq' (SV.region ?_))))
 refine sl 0 ms ?_
 refine SV.nil (SV.tn (SV.block ?_))
 refine SV.loopF (X := Nat) (fun (σ : VS) t => (((VS.nil.put 0 (σ.tm 0)).put 2 (σ.tm 2)).put 3 (V.flat false [.sc (.int .i64 ((t : Int)))]))) (fun t => t ≤ X.length ∧ ∀ u p, u < t → X[u]? = some p → Runs.okRun p = true) (fun t => X.length - t) ?_ ?_
 ·skip
  refine SV.again (fun i => [].getD i 0) 0 (⟨Nat.zero_le _, fun u p h => absurd h (Nat.not_lt_zero u)⟩) (pins hE rfl rfl) (VS.le.mk' (le_put (le_put (le_put le_nil (V.le.keep (ag := false) (xs := [.ro _]) (ys := [.ro _]) rfl rfl ⟨rfl, trivial⟩)) (V.le.keep (ag := false) (xs := [.sc _]) (ys := [.sc _]) rfl rfl ⟨rfl, trivial⟩)) (V.le.keep (ag := false) (xs := [.sc _]) (ys := [.sc _]) rfl rfl ⟨(by first | rfl | (show Leaf.sc _ = Leaf.sc _; refine congrArg Leaf.sc ?_; first | rfl | go_num | (simp [cntAll]; done)) | (simp [cntAll]; done) | (simp; omega)), trivial⟩)) trivial trivial nil_ob (fun i j hi hj e => absurd hi (Nat.not_lt_zero i)))
 ·rintro t ⟨ht, hb⟩
  refine SV.seq' (SV.seq' (SV.region ?_))
  refine sl 0 ms ?_
  refine sl 0 (mv (V.one (.ro _))) ?_
  refine sl 0 (ok_len (lf := .ro _) rfl elt_impl_Run.und rfl rfl) ?_
  refine sl 0 (s2 (.tmp 4) (.tmp 6)) ?_
  refine SV.nil (SV.tn ?_)
  refine SV.cond rfl (fun hc0 => ?_) (fun hc0 => ?_)
  ·skip   -- c0.T
   have htl : t < X.length := by simpa using hc0
   obtain ⟨p, hx⟩ : ∃ p, X[t]? = some p := ⟨_, List.getElem?_eq_getElem htl⟩
   refine SV.skip (SV.tn (SV.seq' (SV.block (SV.seq' (SV.region ?_)))))
   refine sl 0 (mv (V.one (.ro _))) ?_
   refine sl 0 ms ?_
   refine sl 0 (ok_index (n := 1) (lf := .ro _) rfl elt_impl_Run.und sz_impl_Run rfl rfl rfl (map_at hx)) ?_
   refine sl 0 (ok_field_el (p := .rp _) (off := 0) rfl rfl rfl fld_impl_Run_0) ?_
   refine sl 0 (ok_load_rp (ag := false) (m := 1) (ys := [.ro _]) rfl rfl agg_s_impl_Row sz_s_impl_Row (fun _ => rfl) (gle rfl) rfl) ?_
   refine sl 0 (ok_len (lf := .ro _) rfl elt_impl_Row.und rfl rfl) ?_
   refine sl 0 (s2 (.tmp 15) (.const ((Value.int IntKind.i64 0)))) ?_
   refine sl 0 ms ?_
   refine SV.split (d := 17) rfl (fun hg0 => ?_) (fun hg0 => ?_)
   ·skip   -- g0.T
    refine sn ?_
    refine sn ?_
    refine sn ?_
    refine sn ?_
    refine sn ?_
    refine sn ?_
    refine sn ?_
    refine sl 0 pt ?_
    refine sl 0 ms ?_
    refine SV.split (d := 26) rfl (fun hg1 => ?_) (fun hg1 => ?_)
    ·skip   -- g1.T
     refine sn ?_
     refine sn ?_
     refine sn ?_
     refine sn ?_
     refine sn ?_
     refine sn ?_
     refine sn ?_
     refine sl 0 pt ?_
     refine SV.nil (SV.tn ?_)
     refine SV.cond rfl (fun hc1 => ?_) (fun hc1 => ?_)
     ·skip   -- c1.T
      have hbad : Runs.okRun p = false := by
       rw [Bool.eq_false_iff]
       intro h
       rw [okRun_eq] at h
       simp only [Bool.and_eq_true, decide_eq_true_eq] at h
       obtain ⟨h1, h2, h3⟩ := h
       simp at hg0; first | omega | (simp [hg0] at h1; done)
      have hno : Runs.okRuns X = false := okRuns_no hx hbad
      refine SV.seq' (SV.region ?_)
      refine sl 0 ms ?_
      refine SV.nil (SV.tn (SV.ret (SV.br (SV.tr (SV.tr (SV.br (SV.tr ?_)))))))
      refine d1 (.sc _) Try.results72 ?_ <;> (refine lbq ?_; rw [hno])
     ·skip   -- c1.F
      cases hc1
    ·skip   -- g1.F
     (cases hg1)
   ·skip   -- g0.F
    refine sy 0 (mv (V.one (.ro _))) ?_
    refine sy 0 ms ?_
    refine sy 0 (ok_index (n := 1) (lf := .ro _) rfl elt_impl_Run.und sz_impl_Run rfl rfl rfl (map_at hx)) ?_
    refine sy 0 (ok_field_el (p := .rp _) (off := 0) rfl rfl rfl fld_impl_Run_0) ?_
    refine sy 0 (ok_load_rp (ag := false) (m := 1) (ys := [.ro _]) rfl rfl agg_s_impl_Row sz_s_impl_Row (fun _ => rfl) (gle rfl) rfl) ?_
    refine SV.opY (OpMk.ok (cl [(false, [.sc _])] rfl Try.func54 (vasc_t p (hW p (List.mem_of_getElem? hx)) (hp p (List.mem_of_getElem? hx))) ⟨⟨[.ro _], rfl, ⟨rfl, trivial⟩⟩, trivial⟩)) rfl rfl rfl (gle rfl) rfl rfl ?_
    refine sy 0 (s1 (.tmp 23)) ?_
    refine sl 0 pf ?_
    refine sl 0 ms ?_
    refine SV.split (d := 26) rfl (fun hg2 => ?_) (fun hg2 => ?_)
    ·skip   -- g2.T
     refine sn ?_
     refine sn ?_
     refine sn ?_
     refine sn ?_
     refine sn ?_
     refine sn ?_
     refine sn ?_
     refine sl 0 pt ?_
     refine SV.nil (SV.tn ?_)
     refine SV.cond rfl (fun hc2 => ?_) (fun hc2 => ?_)
     ·skip   -- c2.T
      have hbad : Runs.okRun p = false := by
       rw [Bool.eq_false_iff]
       intro h
       rw [okRun_eq] at h
       simp only [Bool.and_eq_true, decide_eq_true_eq] at h
       obtain ⟨h1, h2, h3⟩ := h
       rw [h2] at hg2; cases hg2
      have hno : Runs.okRuns X = false := okRuns_no hx hbad
      refine SV.seq' (SV.region ?_)
      refine sl 0 ms ?_
      refine SV.nil (SV.tn (SV.ret (SV.br (SV.tr (SV.tr (SV.br (SV.tr ?_)))))))
      refine d1 (.sc _) Try.results72 ?_ <;> (refine lbq ?_; rw [hno])
     ·skip   -- c2.F
      cases hc2
    ·skip   -- g2.F
     refine sy 0 (mv (V.one (.ro _))) ?_
     refine sy 0 ms ?_
     refine sy 0 (ok_index (n := 1) (lf := .ro _) rfl elt_impl_Run.und sz_impl_Run rfl rfl rfl (map_at hx)) ?_
     refine sy 0 (ok_field_el (p := .rp _) (off := 0) rfl rfl rfl fld_impl_Run_0) ?_
     refine sy 0 (ok_load_rp (ag := false) (m := 1) (ys := [.ro _]) rfl rfl agg_s_impl_Row sz_s_impl_Row (fun _ => rfl) (gle rfl) rfl) ?_
     refine SV.opY (OpMk.ok (cl [(false, [.sc _])] rfl Try.func62 (vares_t p (hW p (List.mem_of_getElem? hx)) (hp p (List.mem_of_getElem? hx))) ⟨⟨[.ro _], rfl, ⟨rfl, trivial⟩⟩, trivial⟩)) rfl rfl rfl (gle rfl) rfl rfl ?_
     refine sy 0 (s1 (.tmp 32)) ?_
     refine sl 0 pf ?_
     refine SV.nil (SV.tn ?_)
     refine SV.cond rfl (fun hc3 => ?_) (fun hc3 => ?_)
     ·skip   -- c3.T
      have hbad : Runs.okRun p = false := by
       rw [Bool.eq_false_iff]
       intro h
       rw [okRun_eq] at h
       simp only [Bool.and_eq_true, decide_eq_true_eq] at h
       obtain ⟨h1, h2, h3⟩ := h
       rw [h3] at hc3; cases hc3
      have hno : Runs.okRuns X = false := okRuns_no hx hbad
      refine SV.seq' (SV.region ?_)
      refine sl 0 ms ?_
      refine SV.nil (SV.tn (SV.ret (SV.br (SV.tr (SV.tr (SV.br (SV.tr ?_)))))))
      refine d1 (.sc _) Try.results72 ?_ <;> (refine lbq ?_; rw [hno])
     ·skip   -- c3.F
      have hgood : Runs.okRun p = true := by
       rw [okRun_eq]
       simp only [Bool.and_eq_true, decide_eq_true_eq]
       refine ⟨?_, by simpa using hg2, by simpa using hc3⟩
       rcases Nat.eq_zero_or_pos p.length with h | h; (exfalso; simp [h] at hg0); (exact h)
      refine SV.skip (SV.bn (SV.tn (SV.region ?_)))
      refine sl 0 ms ?_
      refine sl 0 (s2 (.tmp 8) (.const ((Value.int IntKind.i64 1)))) ?_
      refine sl 0 ms ?_
      refine SV.nil (SV.tn ?_)
      refine SV.again (fun i => [].getD i 0) (t + 1) (⟨⟨by omega, fun u q hu hq => by rcases Nat.lt_or_ge u t with h1 | h1; (exact hb u q h1 hq); (have h2 : u = t := (by omega); subst h2; rw [hx] at hq; cases hq; exact hgood)⟩, by omega⟩) (pins hE rfl rfl) (VS.le.mk' (le_put (le_put (le_put le_nil (V.le.keep (ag := false) (xs := [.ro _]) (ys := [.ro _]) rfl rfl ⟨rfl, trivial⟩)) (V.le.keep (ag := false) (xs := [.sc _]) (ys := [.sc _]) rfl rfl ⟨rfl, trivial⟩)) (V.le.keep (ag := false) (xs := [.sc _]) (ys := [.sc _]) rfl rfl ⟨(by first | rfl | (show Leaf.sc _ = Leaf.sc _; refine congrArg Leaf.sc ?_; first | rfl | go_num | (simp [cntAll]; done)) | (simp [cntAll]; done) | (simp; omega)), trivial⟩)) trivial trivial nil_ob (fun i j hi hj e => absurd hi (Nat.not_lt_zero i)))
  ·skip   -- c0.F
   have hte : ¬ t < X.length := by simpa using hc0
   have hno : Runs.okRuns X = true := okRuns_all fun u p hu hx => hb u p (by omega) hx
   refine SV.exit (SV.te (SV.te (SV.bh (SV.tn (SV.seq' (SV.region ?_))))))
   refine sl 0 ms ?_
   refine SV.nil (SV.tn (SV.ret ?_))
   refine d1 (.sc _) Try.results72 ?_ <;> (refine lbq ?_; rw [hno])
end Go.Proofs.Ytpnbnbhifpcelaa
/- The reference's FlattenRuns: told by trees. -/
namespace Go.Proofs.Ytpnbnbhifpcelaa
open Go Go.RowKit V
set_option linter.unusedVariables false
theorem take_flat {X : List (List R)} {t : Nat} {p : List R} (h : X[t]? = some p) : (X.take (t + 1)).flatten = (X.take t).flatten ++ p := by
 rw [List.take_add_one, h, List.flatten_append]
 simp
theorem take_len (X : List (List R)) (t : Nat) : (X.take t).flatten.length ≤ X.flatten.length := by
 have h := congrArg List.length (congrArg List.flatten (List.take_append_drop t X))
 rw [List.flatten_append, List.length_append] at h
 omega
set_option maxRecDepth 100000 in
set_option maxHeartbeats 2000000 in
theorem vflat_s (X : List (List R)) (hX : X.length ≤ 1000000000) (hF : X.flatten.length ≤ 1000000000) : VC Try.prog 59 [(false, [.seq 84 ((X).map tRun)])] false [(false, [.seq 72 ((X.flatten).map tRow)])] := by
 refine VC.enter Try.func59 rfl Try.ntmps59 (gle rfl) fun E hE => ?_
 refine SV.seq' (SV.region ?_)
 refine sl 0 ms ?_
 refine SV.nil (SV.tn (SV.seq' (SV.region ?_)))
 refine sm (ok_lit0 (kk := 0) elt_impl_Row rfl rfl rfl (gle rfl)) ?_
 refine sl 0 (mv (V.one (.hd 0))) ?_
 refine SV.nil (SV.tn (SV.seq' (SV.seq' (SV.region ?_))))
 refine sl 0 ms ?_
 refine SV.nil (SV.tn (SV.block ?_))
 refine SV.loopF (X := Nat) (fun (σ : VS) t => (((((VS.nil.new (.seq 72 ((X.take t).flatten.map tRow))).put 0 (σ.tm 0)).put 2 (σ.tm 2)).put 3 (V.flat false [.hd 0])).put 4 (V.flat false [.sc (.int .i64 ((t : Int)))]))) (fun t => t ≤ X.length) (fun t => X.length - t) ?_ ?_
 ·skip
  refine SV.again (fun i => [0].getD i 0) 0 ((Nat.zero_le _)) (pins hE rfl rfl) (VS.le.mk' (le_put (le_put (le_put (le_put (le_new le_nil) (V.le.keep (ag := false) (xs := [.ro _]) (ys := [.ro _]) rfl rfl ⟨rfl, trivial⟩)) (V.le.keep (ag := false) (xs := [.sc _]) (ys := [.sc _]) rfl rfl ⟨rfl, trivial⟩)) (V.le.keep (ag := false) (xs := [.hd 0]) (ys := [.hd 0]) rfl rfl ⟨⟨rfl, (gle rfl), (gle rfl)⟩, trivial⟩)) (V.le.keep (ag := false) (xs := [.sc _]) (ys := [.sc _]) rfl rfl ⟨(by first | rfl | (show Leaf.sc _ = Leaf.sc _; refine congrArg Leaf.sc ?_; first | rfl | go_num | (simp [cntAll]; done)) | (simp [cntAll]; done) | (simp; omega)), trivial⟩)) trivial ⟨.inr ⟨_, _, rfl, ?ob1_0, (gle rfl)⟩, trivial⟩ (new_ob nil_ob) (fun i j hi hj e => inj_list (l := [0]) (by decide) i j hi hj e))
  case ob1_0 =>
   show some (T.seq _ _) = some (T.seq _ _)
   rfl
 ·rintro t ht
  have hfl := take_len X t
  refine SV.seq' (SV.seq' (SV.region ?_))
  refine sl 0 ms ?_
  refine sl 0 (mv (V.one (.ro _))) ?_
  refine sl 0 (ok_len (lf := .ro _) rfl elt_impl_Run.und rfl rfl) ?_
  refine sl 0 (s2 (.tmp 6) (.tmp 8)) ?_
  refine SV.nil (SV.tn ?_)
  refine SV.cond rfl (fun hc0 => ?_) (fun hc0 => ?_)
  ·skip   -- c0.T
   have htl : t < X.length := by simpa using hc0
   obtain ⟨p, hx⟩ : ∃ p, X[t]? = some p := ⟨_, List.getElem?_eq_getElem htl⟩
   have hpl := Runs.mem_len (List.mem_of_getElem? hx)
   refine SV.skip (SV.tn (SV.seq' (SV.block (SV.region ?_))))
   refine sl 0 (mv (V.one (.hd 0))) ?_
   refine sl 0 (mv (V.one (.ro _))) ?_
   refine sl 0 ms ?_
   refine sl 0 (ok_index (n := 1) (lf := .ro _) rfl elt_impl_Run.und sz_impl_Run rfl rfl rfl (map_at hx)) ?_
   refine sl 0 (ok_field_el (p := .rp _) (off := 0) rfl rfl rfl fld_impl_Run_0) ?_
   refine sl 0 (ok_load_rp (ag := false) (m := 1) (ys := [.ro _]) rfl rfl agg_s_impl_Row sz_s_impl_Row (fun _ => rfl) (gle rfl) rfl) ?_
   refine sm (ok_append_ro (kk := 1) elt_impl_Row (ls := .hd 0) (lx := .ro _) rfl rfl rfl rfl rfl rfl (flat_impl_Row _) (by first | omega | (simp only [List.length_map]; omega) | (simp; done) | (simp; omega)) rfl (gle rfl)) ?_
   refine sl 0 (mv (V.one (.hd 1))) ?_
   refine SV.nil (SV.bn (SV.tn (SV.region ?_)))
   refine sl 0 ms ?_
   refine sl 0 (s2 (.tmp 10) (.const ((Value.int IntKind.i64 1)))) ?_
   refine sl 0 ms ?_
   refine SV.nil (SV.tn ?_)
   refine SV.again (fun i => [1].getD i 0) (t + 1) (⟨by omega, by omega⟩) (pins hE rfl rfl) (VS.le.mk' (le_put (le_put (le_put (le_put (le_new le_nil) (V.le.keep (ag := false) (xs := [.ro _]) (ys := [.ro _]) rfl rfl ⟨rfl, trivial⟩)) (V.le.keep (ag := false) (xs := [.sc _]) (ys := [.sc _]) rfl rfl ⟨rfl, trivial⟩)) (V.le.keep (ag := false) (xs := [.hd 1]) (ys := [.hd 0]) rfl rfl ⟨⟨rfl, (gle rfl), (gle rfl)⟩, trivial⟩)) (V.le.keep (ag := false) (xs := [.sc _]) (ys := [.sc _]) rfl rfl ⟨(by first | rfl | (show Leaf.sc _ = Leaf.sc _; refine congrArg Leaf.sc ?_; first | rfl | go_num | (simp [cntAll]; done)) | (simp [cntAll]; done) | (simp; omega)), trivial⟩)) trivial ⟨.inr ⟨_, _, rfl, ?ob2_0, (gle rfl)⟩, trivial⟩ (new_ob nil_ob) (fun i j hi hj e => inj_list (l := [1]) (by decide) i j hi hj e))
   case ob2_0 =>
    show some (T.seq _ _) = some (T.seq _ _)
    rw [take_flat hx]; first | done | rfl | (simp only [List.map_append]; rfl) | (simp; done)
  ·skip   -- c0.F
   have hte : X.take t = X := List.take_of_length_le (by simp at hc0; omega)
   refine SV.exit (SV.te (SV.te (SV.bh (SV.tn (SV.seq' (SV.region ?_))))))
   refine sl 0 (mv (V.one (.hd 0))) ?_
   refine sl 0 (mv (V.one (.hd 0))) ?_
   refine SV.nil (SV.tn (SV.ret ?_))
   refine d1 (.hd 0) Try.results59 ?_ <;> (refine lsq ?_; rw [hte])
end Go.Proofs.Ytpnbnbhifpcelaa
/- The reference's MergeSorted: told by trees. -/
namespace Go.Proofs.Ytpnbnbhifpcelaa
open Go Go.RowKit V
set_option linter.unusedVariables false
set_option maxRecDepth 100000 in
set_option maxHeartbeats 2000000 in
theorem vms_s (a b : List R) (hL : a.length + b.length ≤ 1000000000) : VC Try.prog 39 [(false, [.seq 72 ((a).map tRow)]), (false, [.seq 72 ((b).map tRow)])] false [(false, [.seq 72 ((Runs.merge2 a b).map tRow)])] := by
 refine VC.enter Try.func39 rfl Try.ntmps39 (gle rfl) fun E hE => ?_
 refine SV.seq' (SV.region ?_)
 refine sl 0 ms ?_
 refine SV.nil (SV.tn (SV.seq' (SV.region ?_)))
 refine sm (ok_lit0 (kk := 0) elt_impl_Row rfl rfl rfl (gle rfl)) ?_
 refine sl 0 (mv (V.one (.hd 0))) ?_
 refine SV.nil (SV.tn (SV.seq' (SV.region ?_)))
 refine sl 0 ms ?_
 refine SV.nil (SV.tn (SV.seq' (SV.region ?_)))
 refine sl 0 ms ?_
 refine SV.nil (SV.tn (SV.seq' (SV.block ?_)))
 refine SV.loopF (X := Nat × Nat × List R) (fun (σ : VS) z => (((((((VS.nil.new (.seq 72 (z.2.2.map tRow))).put 0 (σ.tm 0)).put 1 (σ.tm 1)).put 4 (σ.tm 4)).put 5 (V.flat false [.hd 0])).put 6 (V.flat false [.sc (.int .i64 ((z.1 : Int)))])).put 7 (V.flat false [.sc (.int .i64 ((z.2.1 : Int)))]))) (fun z => z.1 ≤ a.length ∧ z.2.1 ≤ b.length ∧ z.2.2 ++ Runs.merge2 (a.drop z.1) (b.drop z.2.1) = Runs.merge2 a b) (fun z => (a.length - z.1) + (b.length - z.2.1)) ?_ ?_
 ·skip
  refine SV.again (fun i => [0].getD i 0) (0, 0, []) (⟨Nat.zero_le _, Nat.zero_le _, rfl⟩) (pins hE rfl rfl) (VS.le.mk' (le_put (le_put (le_put (le_put (le_put (le_put (le_new le_nil) (V.le.keep (ag := false) (xs := [.ro _]) (ys := [.ro _]) rfl rfl ⟨rfl, trivial⟩)) (V.le.keep (ag := false) (xs := [.ro _]) (ys := [.ro _]) rfl rfl ⟨rfl, trivial⟩)) (V.le.keep (ag := false) (xs := [.sc _]) (ys := [.sc _]) rfl rfl ⟨rfl, trivial⟩)) (V.le.keep (ag := false) (xs := [.hd 0]) (ys := [.hd 0]) rfl rfl ⟨⟨rfl, (gle rfl), (gle rfl)⟩, trivial⟩)) (V.le.keep (ag := false) (xs := [.sc _]) (ys := [.sc _]) rfl rfl ⟨(by first | rfl | (show Leaf.sc _ = Leaf.sc _; refine congrArg Leaf.sc ?_; first | rfl | go_num | (rw [hz]; first | done | rfl; first | done | rfl | go_num | (simp; done) | (simp; omega)) | (simp [cntAll]; done)) | (simp [cntAll]; done) | (simp; omega)), trivial⟩)) (V.le.keep (ag := false) (xs := [.sc _]) (ys := [.sc _]) rfl rfl ⟨(by first | rfl | (show Leaf.sc _ = Leaf.sc _; refine congrArg Leaf.sc ?_; first | rfl | go_num | (rw [hz]; first | done | rfl; first | done | rfl | go_num | (simp; done) | (simp; omega)) | (simp [cntAll]; done)) | (simp [cntAll]; done) | (simp; omega)), trivial⟩)) trivial ⟨.inr ⟨_, _, rfl, ?ob1_0, (gle rfl)⟩, trivial⟩ (new_ob nil_ob) (fun i j hi hj e => inj_list (l := [0]) (by decide) i j hi hj e))
  case ob1_0 =>
   show some (T.seq _ _) = some (T.seq _ _)
   rfl
 ·rintro ⟨i, k, o⟩ ⟨hi, hk, ho⟩
  dsimp only at hi hk ho
  have hol : o.length + (a.length - i + (b.length - k)) = a.length + b.length := by have h := congrArg List.length ho; rw [List.length_append, Runs.merge2_length, Runs.merge2_length, List.length_drop, List.length_drop] at h; exact h
  refine SV.seq' (SV.seq' (SV.region ?_))
  refine sl 0 ms ?_
  refine sl 0 (mv (V.one (.ro _))) ?_
  refine sl 0 (ok_len (lf := .ro _) rfl elt_impl_Row.und rfl rfl) ?_
  refine sl 0 (s2 (.tmp 9) (.tmp 11)) ?_
  refine sl 0 ms ?_
  refine SV.split (d := 13) rfl (fun hg0 => ?_) (fun hg0 => ?_)
  ·skip   -- g0.T
   have hil : i < a.length := by simpa using hg0
   obtain ⟨x, hx⟩ : ∃ x, a[i]? = some x := ⟨_, List.getElem?_eq_getElem hil⟩
   refine sn ?_
   refine sn ?_
   refine sn ?_
   refine sn ?_
   refine sl 0 pt ?_
   refine SV.nil (SV.tn ?_)
   refine SV.cond rfl (fun hc0 => ?_) (fun hc0 => ?_)
   ·skip   -- c0.T
    refine SV.skip (SV.tn (SV.block (SV.seq' ?_)))
    refine SV.draw [.q 0, .q 1, .q 2, .q 3, .q 4, .q 5, .q 6, .q 7, .q 8, .q 9, .q 10, .q 11, .q 12, .q 13, .q 14, .q 15, .q 16, .q 17, .m 18, .q 19, .q 20, .q 21] [] (by kernel_rfl) (by kernel_rfl) ?_
    refine dq rfl ms ?_
    refine dq rfl (mv (V.one (.ro _))) ?_
    refine dq rfl (ok_len (lf := .ro _) rfl elt_impl_Row.und rfl rfl) ?_
    refine dq rfl (s2 (.tmp 19) (.tmp 21)) ?_
    refine dq rfl ms ?_
    refine DW.split (d := 23) rfl (fun hg1 => ?_) (fun hg1 => ?_)
    ·skip   -- g1.T
     refine dn ?_
     refine dn ?_
     refine dn ?_
     refine dn ?_
     refine DW.qNu rfl rfl rfl rfl (gle rfl) rfl rfl rfl (gle rfl) (fun _ _ _ _ h => h) ?_
     refine DW.qNN rfl rfl rfl rfl (gle rfl) rfl rfl (gle rfl) (fun _ _ _ _ h => h) ?_
     refine DW.qNN rfl rfl rfl rfl (gle rfl) rfl rfl (gle rfl) (fun _ _ _ _ h => h) ?_
     refine DW.qNN rfl rfl rfl rfl (gle rfl) rfl rfl (gle rfl) (fun _ _ _ _ h => h) ?_
     refine DW.qNN rfl rfl rfl rfl (gle rfl) rfl rfl (gle rfl) (fun _ _ _ _ h => h) ?_
     refine DW.qNN rfl rfl rfl rfl (gle rfl) rfl rfl (gle rfl) (fun _ _ _ _ h => h) ?_
     refine DW.qNN rfl rfl rfl rfl (gle rfl) rfl rfl (gle rfl) (fun _ _ _ _ h => h) ?_
     refine DW.qNN rfl rfl rfl rfl (gle rfl) rfl rfl (gle rfl) (fun _ _ _ _ h => h) ?_
     refine DW.qNN rfl rfl rfl rfl (gle rfl) rfl rfl (gle rfl) (fun _ _ _ _ h => h) ?_
     refine DW.mNN rfl rfl rfl rfl (gle rfl) rfl rfl (gle rfl) ?_
     refine DW.qNN rfl rfl rfl rfl (gle rfl) rfl rfl (gle rfl) (fun _ _ _ _ h => h) ?_
     refine dn ?_
     refine dq rfl pt ?_
     refine DW.stores ?_
     refine SV.zend ?_
     refine SV.tn ?_
     refine SV.cond rfl (fun hc1 => ?_) (fun hc1 => ?_)
     ·skip   -- c1.T
      have hkl : k = b.length := by simp at hg1; omega
      obtain ⟨z', hz⟩ : ∃ z' : Nat × Nat × List R, z' = (i + 1, k, o ++ [x]) := ⟨_, rfl⟩
      have hz2 : (z'.1 ≤ a.length ∧ z'.2.1 ≤ b.length ∧ z'.2.2 ++ Runs.merge2 (a.drop z'.1) (b.drop z'.2.1) = Runs.merge2 a b) ∧ (a.length - z'.1) + (b.length - z'.2.1) < (a.length - i) + (b.length - k) := by
       rw [hz]
       refine ⟨⟨by show i + 1 ≤ a.length; omega, by show k ≤ b.length; omega, ?_⟩, by show (a.length - (i + 1)) + (b.length - k) < _; omega⟩
       show (o ++ [x]) ++ _ = _
       rw [List.append_assoc, ← ho, Runs.m_last hx (by omega)]
       rfl
      refine SV.seq' (SV.region ?_)
      refine sl 0 (mv (V.one (.hd 0))) ?_
      refine sl 0 (mv (V.one (.ro _))) ?_
      refine sl 0 ms ?_
      refine sl 0 (ok_index (n := 3) (lf := .ro _) rfl elt_impl_Row.und sz_impl_Row rfl rfl rfl (map_at hx)) ?_
      refine sl 0 (ok_load_rp (ag := true) (m := 3) (ys := [.sc _, .sc _, .sc _]) rfl rfl agg_impl_Row sz_impl_Row (fun h => by cases h) (gle rfl) rfl) ?_
      refine sm (ok_lit1 (kk := 1) elt_impl_Row (ag := true) (xs := [.sc _, .sc _, .sc _]) rfl rfl rfl rfl (fun h => by cases h) (outs_c rfl (outs_c rfl (outs_c rfl outs_n))) (by simp [two]) rfl (gle rfl)) ?_
      refine sm (ok_append (kk := 2) elt_impl_Row (ls := .hd 0) (lx := .hd 1) rfl rfl rfl rfl rfl rfl (by intro i h1 h2; first | (cases h1; done) | (cases h1; cases h2)) (by first | omega | (simp only [List.length_map]; omega) | (simp; done) | (simp; omega)) rfl (gle rfl)) ?_
      refine sl 0 (mv (V.one (.hd 2))) ?_
      refine SV.nil (SV.tn (SV.region ?_))
      refine sl 0 ms ?_
      refine sl 0 (s2 (.tmp 48) (.const ((Value.int IntKind.i64 1)))) ?_
      refine sl 0 ms ?_
      refine SV.nil (SV.bn (SV.tn ?_))
      refine SV.again (fun i => [2].getD i 0) (z') (hz2) (pins hE rfl rfl) (VS.le.mk' (le_put (le_put (le_put (le_put (le_put (le_put (le_new le_nil) (V.le.keep (ag := false) (xs := [.ro _]) (ys := [.ro _]) rfl rfl ⟨rfl, trivial⟩)) (V.le.keep (ag := false) (xs := [.ro _]) (ys := [.ro _]) rfl rfl ⟨rfl, trivial⟩)) (V.le.keep (ag := false) (xs := [.sc _]) (ys := [.sc _]) rfl rfl ⟨rfl, trivial⟩)) (V.le.keep (ag := false) (xs := [.hd 2]) (ys := [.hd 0]) rfl rfl ⟨⟨rfl, (gle rfl), (gle rfl)⟩, trivial⟩)) (V.le.keep (ag := false) (xs := [.sc _]) (ys := [.sc _]) rfl rfl ⟨(by first | rfl | (show Leaf.sc _ = Leaf.sc _; refine congrArg Leaf.sc ?_; first | rfl | go_num | (rw [hz]; first | done | rfl; first | done | rfl | go_num | (simp; done) | (simp; omega)) | (simp [cntAll]; done)) | (simp [cntAll]; done) | (simp; omega)), trivial⟩)) (V.le.keep (ag := false) (xs := [.sc _]) (ys := [.sc _]) rfl rfl ⟨(by first | rfl | (show Leaf.sc _ = Leaf.sc _; refine congrArg Leaf.sc ?_; first | rfl | go_num | (rw [hz]; first | done | rfl; first | done | rfl | go_num | (simp; done) | (simp; omega)) | (simp [cntAll]; done)) | (simp [cntAll]; done) | (simp; omega)), trivial⟩)) trivial ⟨.inr ⟨_, _, rfl, ?ob2_0, (gle rfl)⟩, trivial⟩ (new_ob nil_ob) (fun i j hi hj e => inj_list (l := [2]) (by decide) i j hi hj e))
      case ob2_0 =>
       show some (T.seq _ _) = some (T.seq _ _)
       rw [hz]; first | done | rfl | (simp only [List.map_append]; rfl) | (simp [tRow]; done)
     ·skip   -- c1.F
      cases hc1
    ·skip   -- g1.F
     have hkl : k < b.length := by simp at hg1; omega
     obtain ⟨y, hy⟩ : ∃ y, b[k]? = some y := ⟨_, List.getElem?_eq_getElem (by omega)⟩
     refine dy rfl ms ?_
     refine dy rfl (mv (V.one (.ro _))) ?_
     refine dy rfl (ok_len (lf := .ro _) rfl elt_impl_Row.und rfl rfl) ?_
     refine dy rfl (s2 (.tmp 24) (.tmp 26)) ?_
     refine dy rfl ms ?_
     refine DW.split (d := 28) rfl (fun hg2 => ?_) (fun hg2 => ?_)
     ·skip   -- g2.T
      refine dy rfl (mv (V.one (.ro _))) ?_
      refine dy rfl ms ?_
      refine dy rfl (ok_index (n := 3) (lf := .ro _) rfl elt_impl_Row.und sz_impl_Row rfl rfl rfl (map_at hx)) ?_
      refine dy rfl (ok_load_rp (ag := true) (m := 3) (ys := [.sc _, .sc _, .sc _]) rfl rfl agg_impl_Row sz_impl_Row (fun h => by cases h) (gle rfl) rfl) ?_
      refine dy rfl (mv (V.one (.ro _))) ?_
      refine dy rfl ms ?_
      refine dy rfl (ok_index (n := 3) (lf := .ro _) rfl elt_impl_Row.und sz_impl_Row rfl rfl rfl (map_at hy)) ?_
      refine dy rfl (ok_load_rp (ag := true) (m := 3) (ys := [.sc _, .sc _, .sc _]) rfl rfl agg_impl_Row sz_impl_Row (fun h => by cases h) (gle rfl) rfl) ?_
      refine DW.m' [] rfl (cl [(false, [.sc _])] rfl Try.func73 (vcmp_t x y) ⟨⟨[.sc _, .sc _, .sc _], rfl, ⟨rfl, rfl, rfl, trivial⟩⟩, ⟨[.sc _, .sc _, .sc _], rfl, ⟨rfl, rfl, rfl, trivial⟩⟩, trivial⟩) (fun hr => wantedY hr rfl rfl rfl (gle rfl) rfl rfl) (gle rfl) (gle rfl) (.inl rfl) (fun j hj => by cases hj) ?_
      refine dy rfl (s2 (.tmp 37) (.const ((Value.int IntKind.i64 0)))) ?_
      refine dy rfl pt ?_
      refine dq rfl pf ?_
      refine DW.stores ?_
      refine SV.zend ?_
      refine SV.tn ?_
      refine SV.cond rfl (fun hc2 => ?_) (fun hc2 => ?_)
      ·skip   -- c2.T
       have hcl : R.cmp x y ≤ 0 := by simpa using hc2
       obtain ⟨z', hz⟩ : ∃ z' : Nat × Nat × List R, z' = (i + 1, k, o ++ [x]) := ⟨_, rfl⟩
       have hz2 : (z'.1 ≤ a.length ∧ z'.2.1 ≤ b.length ∧ z'.2.2 ++ Runs.merge2 (a.drop z'.1) (b.drop z'.2.1) = Runs.merge2 a b) ∧ (a.length - z'.1) + (b.length - z'.2.1) < (a.length - i) + (b.length - k) := by
        rw [hz]
        refine ⟨⟨by show i + 1 ≤ a.length; omega, by show k ≤ b.length; omega, ?_⟩, by show (a.length - (i + 1)) + (b.length - k) < _; omega⟩
        show (o ++ [x]) ++ _ = _
        rw [List.append_assoc, ← ho, Runs.m_left hx hy hcl]
        rfl
       refine SV.seq' (SV.region ?_)
       refine sl 0 (mv (V.one (.hd 0))) ?_
       refine sl 0 (mv (V.one (.ro _))) ?_
       refine sl 0 ms ?_
       refine sl 0 (ok_index (n := 3) (lf := .ro _) rfl elt_impl_Row.und sz_impl_Row rfl rfl rfl (map_at hx)) ?_
       refine sl 0 (ok_load_rp (ag := true) (m := 3) (ys := [.sc _, .sc _, .sc _]) rfl rfl agg_impl_Row sz_impl_Row (fun h => by cases h) (gle rfl) rfl) ?_
       refine sm (ok_lit1 (kk := 1) elt_impl_Row (ag := true) (xs := [.sc _, .sc _, .sc _]) rfl rfl rfl rfl (fun h => by cases h) (outs_c rfl (outs_c rfl (outs_c rfl outs_n))) (by simp [two]) rfl (gle rfl)) ?_
       refine sm (ok_append (kk := 2) elt_impl_Row (ls := .hd 0) (lx := .hd 1) rfl rfl rfl rfl rfl rfl (by intro i h1 h2; first | (cases h1; done) | (cases h1; cases h2)) (by first | omega | (simp only [List.length_map]; omega) | (simp; done) | (simp; omega)) rfl (gle rfl)) ?_
       refine sl 0 (mv (V.one (.hd 2))) ?_
       refine SV.nil (SV.tn (SV.region ?_))
       refine sl 0 ms ?_
       refine sl 0 (s2 (.tmp 48) (.const ((Value.int IntKind.i64 1)))) ?_
       refine sl 0 ms ?_
       refine SV.nil (SV.bn (SV.tn ?_))
       refine SV.again (fun i => [2].getD i 0) (z') (hz2) (pins hE rfl rfl) (VS.le.mk' (le_put (le_put (le_put (le_put (le_put (le_put (le_new le_nil) (V.le.keep (ag := false) (xs := [.ro _]) (ys := [.ro _]) rfl rfl ⟨rfl, trivial⟩)) (V.le.keep (ag := false) (xs := [.ro _]) (ys := [.ro _]) rfl rfl ⟨rfl, trivial⟩)) (V.le.keep (ag := false) (xs := [.sc _]) (ys := [.sc _]) rfl rfl ⟨rfl, trivial⟩)) (V.le.keep (ag := false) (xs := [.hd 2]) (ys := [.hd 0]) rfl rfl ⟨⟨rfl, (gle rfl), (gle rfl)⟩, trivial⟩)) (V.le.keep (ag := false) (xs := [.sc _]) (ys := [.sc _]) rfl rfl ⟨(by first | rfl | (show Leaf.sc _ = Leaf.sc _; refine congrArg Leaf.sc ?_; first | rfl | go_num | (rw [hz]; first | done | rfl; first | done | rfl | go_num | (simp; done) | (simp; omega)) | (simp [cntAll]; done)) | (simp [cntAll]; done) | (simp; omega)), trivial⟩)) (V.le.keep (ag := false) (xs := [.sc _]) (ys := [.sc _]) rfl rfl ⟨(by first | rfl | (show Leaf.sc _ = Leaf.sc _; refine congrArg Leaf.sc ?_; first | rfl | go_num | (rw [hz]; first | done | rfl; first | done | rfl | go_num | (simp; done) | (simp; omega)) | (simp [cntAll]; done)) | (simp [cntAll]; done) | (simp; omega)), trivial⟩)) trivial ⟨.inr ⟨_, _, rfl, ?ob3_0, (gle rfl)⟩, trivial⟩ (new_ob nil_ob) (fun i j hi hj e => inj_list (l := [2]) (by decide) i j hi hj e))
       case ob3_0 =>
        show some (T.seq _ _) = some (T.seq _ _)
        rw [hz]; first | done | rfl | (simp only [List.map_append]; rfl) | (simp [tRow]; done)
      ·skip   -- c2.F
       have hcl : ¬ R.cmp x y ≤ 0 := by simpa using hc2
       obtain ⟨z', hz⟩ : ∃ z' : Nat × Nat × List R, z' = (i, k + 1, o ++ [y]) := ⟨_, rfl⟩
       have hz2 : (z'.1 ≤ a.length ∧ z'.2.1 ≤ b.length ∧ z'.2.2 ++ Runs.merge2 (a.drop z'.1) (b.drop z'.2.1) = Runs.merge2 a b) ∧ (a.length - z'.1) + (b.length - z'.2.1) < (a.length - i) + (b.length - k) := by
        rw [hz]
        refine ⟨⟨by show i ≤ a.length; omega, by show k + 1 ≤ b.length; omega, ?_⟩, by show (a.length - i) + (b.length - (k + 1)) < _; omega⟩
        show (o ++ [y]) ++ _ = _
        rw [List.append_assoc, ← ho, Runs.m_right hx hy hcl]
        rfl
       refine SV.seq' (SV.region ?_)
       refine sl 0 (mv (V.one (.hd 0))) ?_
       refine sl 0 (mv (V.one (.ro _))) ?_
       refine sl 0 ms ?_
       refine sl 0 (ok_index (n := 3) (lf := .ro _) rfl elt_impl_Row.und sz_impl_Row rfl rfl rfl (map_at hy)) ?_
       refine sl 0 (ok_load_rp (ag := true) (m := 3) (ys := [.sc _, .sc _, .sc _]) rfl rfl agg_impl_Row sz_impl_Row (fun h => by cases h) (gle rfl) rfl) ?_
       refine sm (ok_lit1 (kk := 1) elt_impl_Row (ag := true) (xs := [.sc _, .sc _, .sc _]) rfl rfl rfl rfl (fun h => by cases h) (outs_c rfl (outs_c rfl (outs_c rfl outs_n))) (by simp [two]) rfl (gle rfl)) ?_
       refine sm (ok_append (kk := 2) elt_impl_Row (ls := .hd 0) (lx := .hd 1) rfl rfl rfl rfl rfl rfl (by intro i h1 h2; first | (cases h1; done) | (cases h1; cases h2)) (by first | omega | (simp only [List.length_map]; omega) | (simp; done) | (simp; omega)) rfl (gle rfl)) ?_
       refine sl 0 (mv (V.one (.hd 2))) ?_
       refine SV.nil (SV.tn (SV.region ?_))
       refine sl 0 ms ?_
       refine sl 0 (s2 (.tmp 57) (.const ((Value.int IntKind.i64 1)))) ?_
       refine sl 0 ms ?_
       refine SV.nil (SV.bn (SV.tn ?_))
       refine SV.again (fun i => [2].getD i 0) (z') (hz2) (pins hE rfl rfl) (VS.le.mk' (le_put (le_put (le_put (le_put (le_put (le_put (le_new le_nil) (V.le.keep (ag := false) (xs := [.ro _]) (ys := [.ro _]) rfl rfl ⟨rfl, trivial⟩)) (V.le.keep (ag := false) (xs := [.ro _]) (ys := [.ro _]) rfl rfl ⟨rfl, trivial⟩)) (V.le.keep (ag := false) (xs := [.sc _]) (ys := [.sc _]) rfl rfl ⟨rfl, trivial⟩)) (V.le.keep (ag := false) (xs := [.hd 2]) (ys := [.hd 0]) rfl rfl ⟨⟨rfl, (gle rfl), (gle rfl)⟩, trivial⟩)) (V.le.keep (ag := false) (xs := [.sc _]) (ys := [.sc _]) rfl rfl ⟨(by first | rfl | (show Leaf.sc _ = Leaf.sc _; refine congrArg Leaf.sc ?_; first | rfl | go_num | (rw [hz]; first | done | rfl; first | done | rfl | go_num | (simp; done) | (simp; omega)) | (simp [cntAll]; done)) | (simp [cntAll]; done) | (simp; omega)), trivial⟩)) (V.le.keep (ag := false) (xs := [.sc _]) (ys := [.sc _]) rfl rfl ⟨(by first | rfl | (show Leaf.sc _ = Leaf.sc _; refine congrArg Leaf.sc ?_; first | rfl | go_num | (rw [hz]; first | done | rfl; first | done | rfl | go_num | (simp; done) | (simp; omega)) | (simp [cntAll]; done)) | (simp [cntAll]; done) | (simp; omega)), trivial⟩)) trivial ⟨.inr ⟨_, _, rfl, ?ob4_0, (gle rfl)⟩, trivial⟩ (new_ob nil_ob) (fun i j hi hj e => inj_list (l := [2]) (by decide) i j hi hj e))
       case ob4_0 =>
        show some (T.seq _ _) = some (T.seq _ _)
        rw [hz]; first | done | rfl | (simp only [List.map_append]; rfl) | (simp [tRow]; done)
     ·skip   -- g2.F
      (exfalso; first | (cases hg2; done) | (rw [hg0] at hg2; cases hg2))
   ·skip   -- c0.F
    cases hc0
  ·skip   -- g0.F
   have hil : ¬ i < a.length := by simpa using hg0
   refine sy 0 ms ?_
   refine sy 0 (mv (V.one (.ro _))) ?_
   refine sy 0 (ok_len (lf := .ro _) rfl elt_impl_Row.und rfl rfl) ?_
   refine sy 0 (s2 (.tmp 14) (.tmp 16)) ?_
   refine sl 0 pf ?_
   refine SV.nil (SV.tn ?_)
   refine SV.cond rfl (fun hc3 => ?_) (fun hc3 => ?_)
   ·skip   -- c3.T
    have hkl : k < b.length := by simpa using hc3
    obtain ⟨y, hy⟩ : ∃ y, b[k]? = some y := ⟨_, List.getElem?_eq_getElem (by omega)⟩
    refine SV.skip (SV.tn (SV.block (SV.seq' ?_)))
    refine SV.draw [.q 0, .q 1, .q 2, .q 3, .q 4, .q 5, .q 6, .q 7, .q 8, .q 9, .q 10, .q 11, .q 12, .q 13, .q 14, .q 15, .q 16, .q 17, .m 18, .q 19, .q 20, .q 21] [] (by kernel_rfl) (by kernel_rfl) ?_
    refine dq rfl ms ?_
    refine dq rfl (mv (V.one (.ro _))) ?_
    refine dq rfl (ok_len (lf := .ro _) rfl elt_impl_Row.und rfl rfl) ?_
    refine dq rfl (s2 (.tmp 19) (.tmp 21)) ?_
    refine dq rfl ms ?_
    refine DW.split (d := 23) rfl (fun hg3 => ?_) (fun hg3 => ?_)
    ·skip   -- g3.T
     (exfalso; simp at hg3; omega)
    ·skip   -- g3.F
     refine dy rfl ms ?_
     refine dy rfl (mv (V.one (.ro _))) ?_
     refine dy rfl (ok_len (lf := .ro _) rfl elt_impl_Row.und rfl rfl) ?_
     refine dy rfl (s2 (.tmp 24) (.tmp 26)) ?_
     refine dy rfl ms ?_
     refine DW.split (d := 28) rfl (fun hg4 => ?_) (fun hg4 => ?_)
     ·skip   -- g4.T
      (exfalso; first | (cases hg4; done) | (rw [hg0] at hg4; cases hg4))
     ·skip   -- g4.F
      refine dn ?_
      refine dn ?_
      refine dn ?_
      refine dn ?_
      refine dn ?_
      refine dn ?_
      refine dn ?_
      refine dn ?_
      refine DW.mN rfl rfl rfl rfl (gle rfl) rfl rfl rfl (gle rfl) ?_
      refine dn ?_
      refine dy rfl pf ?_
      refine dq rfl pf ?_
      refine DW.stores ?_
      refine SV.zend ?_
      refine SV.tn ?_
      refine SV.cond rfl (fun hc4 => ?_) (fun hc4 => ?_)
      ·skip   -- c4.T
       cases hc4
      ·skip   -- c4.F
       obtain ⟨z', hz⟩ : ∃ z' : Nat × Nat × List R, z' = (i, k + 1, o ++ [y]) := ⟨_, rfl⟩
       have hz2 : (z'.1 ≤ a.length ∧ z'.2.1 ≤ b.length ∧ z'.2.2 ++ Runs.merge2 (a.drop z'.1) (b.drop z'.2.1) = Runs.merge2 a b) ∧ (a.length - z'.1) + (b.length - z'.2.1) < (a.length - i) + (b.length - k) := by
        rw [hz]
        refine ⟨⟨by show i ≤ a.length; omega, by show k + 1 ≤ b.length; omega, ?_⟩, by show (a.length - i) + (b.length - (k + 1)) < _; omega⟩
        show (o ++ [y]) ++ _ = _
        rw [List.append_assoc, ← ho, Runs.m_rest (by omega) hy]
        rfl
       refine SV.seq' (SV.region ?_)
       refine sl 0 (mv (V.one (.hd 0))) ?_
       refine sl 0 (mv (V.one (.ro _))) ?_
       refine sl 0 ms ?_
       refine sl 0 (ok_index (n := 3) (lf := .ro _) rfl elt_impl_Row.und sz_impl_Row rfl rfl rfl (map_at hy)) ?_
       refine sl 0 (ok_load_rp (ag := true) (m := 3) (ys := [.sc _, .sc _, .sc _]) rfl rfl agg_impl_Row sz_impl_Row (fun h => by cases h) (gle rfl) rfl) ?_
       refine sm (ok_lit1 (kk := 1) elt_impl_Row (ag := true) (xs := [.sc _, .sc _, .sc _]) rfl rfl rfl rfl (fun h => by cases h) (outs_c rfl (outs_c rfl (outs_c rfl outs_n))) (by simp [two]) rfl (gle rfl)) ?_
       refine sm (ok_append (kk := 2) elt_impl_Row (ls := .hd 0) (lx := .hd 1) rfl rfl rfl rfl rfl rfl (by intro i h1 h2; first | (cases h1; done) | (cases h1; cases h2)) (by first | omega | (simp only [List.length_map]; omega) | (simp; done) | (simp; omega)) rfl (gle rfl)) ?_
       refine sl 0 (mv (V.one (.hd 2))) ?_
       refine SV.nil (SV.tn (SV.region ?_))
       refine sl 0 ms ?_
       refine sl 0 (s2 (.tmp 57) (.const ((Value.int IntKind.i64 1)))) ?_
       refine sl 0 ms ?_
       refine SV.nil (SV.bn (SV.tn ?_))
       refine SV.again (fun i => [2].getD i 0) (z') (hz2) (pins hE rfl rfl) (VS.le.mk' (le_put (le_put (le_put (le_put (le_put (le_put (le_new le_nil) (V.le.keep (ag := false) (xs := [.ro _]) (ys := [.ro _]) rfl rfl ⟨rfl, trivial⟩)) (V.le.keep (ag := false) (xs := [.ro _]) (ys := [.ro _]) rfl rfl ⟨rfl, trivial⟩)) (V.le.keep (ag := false) (xs := [.sc _]) (ys := [.sc _]) rfl rfl ⟨rfl, trivial⟩)) (V.le.keep (ag := false) (xs := [.hd 2]) (ys := [.hd 0]) rfl rfl ⟨⟨rfl, (gle rfl), (gle rfl)⟩, trivial⟩)) (V.le.keep (ag := false) (xs := [.sc _]) (ys := [.sc _]) rfl rfl ⟨(by first | rfl | (show Leaf.sc _ = Leaf.sc _; refine congrArg Leaf.sc ?_; first | rfl | go_num | (rw [hz]; first | done | rfl; first | done | rfl | go_num | (simp; done) | (simp; omega)) | (simp [cntAll]; done)) | (simp [cntAll]; done) | (simp; omega)), trivial⟩)) (V.le.keep (ag := false) (xs := [.sc _]) (ys := [.sc _]) rfl rfl ⟨(by first | rfl | (show Leaf.sc _ = Leaf.sc _; refine congrArg Leaf.sc ?_; first | rfl | go_num | (rw [hz]; first | done | rfl; first | done | rfl | go_num | (simp; done) | (simp; omega)) | (simp [cntAll]; done)) | (simp [cntAll]; done) | (simp; omega)), trivial⟩)) trivial ⟨.inr ⟨_, _, rfl, ?ob5_0, (gle rfl)⟩, trivial⟩ (new_ob nil_ob) (fun i j hi hj e => inj_list (l := [2]) (by decide) i j hi hj e))
       case ob5_0 =>
        show some (T.seq _ _) = some (T.seq _ _)
        rw [hz]; first | done | rfl | (simp only [List.map_append]; rfl) | (simp [tRow]; done)
   ·skip   -- c3.F
    have hke : ¬ k < b.length := by simpa using hc3
    refine SV.exit (SV.te (SV.te (SV.bh (SV.tn (SV.seq' (SV.region ?_))))))
    refine sl 0 (mv (V.one (.hd 0))) ?_
    refine sl 0 (mv (V.one (.hd 0))) ?_
    refine SV.nil (SV.tn (SV.ret ?_))
    refine d1 (.hd 0) Try.results39 ?_ <;> (refine lsq ?_; have e1 : a.drop i = [] := List.drop_eq_nil_of_le (by omega); have e2 : b.drop k = [] := List.drop_eq_nil_of_le (by omega); rw [e1, e2, Runs.merge2_nil, List.append_nil] at ho; rw [ho])
end Go.Proofs.Ytpnbnbhifpcelaa
/- The reference's IsValidSorter: told by trees. -/
namespace Go.Proofs.Ytpnbnbhifpcelaa
open Go Go.RowKit V
set_option linter.unusedVariables false
set_option maxRecDepth 100000 in
set_option maxHeartbeats 2000000 in
theorem vokS_s (s : SorterD) (hW : s.Wf) : VC Try.prog 27 [(true, tSorter s)] false [(false, [.lit (.bool (SorterD.ok s))])] := by
 refine VC.enter Try.func27 rfl Try.ntmps27 (gle rfl) fun E hE => ?_
 have hsz := hW.size
 refine SV.seq' (SV.region ?_)
 refine sm (ok_box (kk := 0) (ag := true) (xs := [.ro _, .sc _, .ro _, .ro _, .ro _, .ro _, .sc _, .sc _, .sc _, .sc _]) rfl rfl rfl (fun h => by cases h) rfl rfl (gle rfl)) ?_
 refine sl 1 ms ?_
 refine SV.nil (SV.tn (SV.seq' (SV.seq' (SV.region ?_))))
 refine sl 1 (fb fld_impl_Sorter_0) ?_
 refine sl 1 (lb 0 0 [.ro _] agg_s_impl_Row sz_s_impl_Row (fun _ => rfl)) ?_
 refine sm (cl [(false, [.sc _])] rfl Try.func62 (vares_t s.fInput hW.inp (by omega)) ⟨⟨[.ro _], rfl, ⟨rfl, trivial⟩⟩, trivial⟩) ?_
 refine sl 1 (s1 (.tmp 9)) ?_
 refine sl 1 ms ?_
 refine SV.split (d := 11) rfl (fun hg0 => ?_) (fun hg0 => ?_)
 ·skip   -- g0.T
  refine sn ?_
  refine sn ?_
  refine sn ?_
  refine sn ?_
  refine sn ?_
  refine sn ?_
  refine sn ?_
  refine sl 1 pt ?_
  refine sl 1 ms ?_
  refine sn ?_
  refine sn ?_
  refine sn ?_
  refine sn ?_
  refine sl 1 pt ?_
  refine sl 1 ms ?_
  refine sn ?_
  refine sn ?_
  refine sn ?_
  refine sl 1 pt ?_
  refine sl 1 ms ?_
  refine sn ?_
  refine sn ?_
  refine sn ?_
  refine sn ?_
  refine sl 1 pt ?_
  refine SV.nil (SV.tn ?_)
  refine SV.cond rfl (fun hc0 => ?_) (fun hc0 => ?_)
  ·skip   -- c0.T
   have hno : SorterD.ok s = false := by
    rw [Bool.eq_false_iff]
    intro h
    obtain ⟨hB, -⟩ := SorterD.ok_iff.1 h
    have h1 := hB.rows; rw [h1] at hg0; cases hg0
   refine SV.seq' (SV.region ?_)
   refine sl 1 ms ?_
   refine SV.nil (SV.tn (SV.ret (SV.tr ?_)))
   refine d1 (.sc _) Try.results27 ?_ <;> (refine lbq ?_; first | (rw [hno]; done) | (rw [hno]; simp; done) | (rw [hno, Bool.eq_iff_iff]; simp; done) | (rw [hno]; rfl))
  ·skip   -- c0.F
   cases hc0
 ·skip   -- g0.F
  refine sy 1 (fb fld_impl_Sorter_1) ?_
  refine sy 1 (lb 0 1 [.sc _] agg_int sz_int (fun _ => rfl)) ?_
  refine sy 1 (fb fld_impl_Sorter_0) ?_
  refine sy 1 (lb 0 0 [.ro _] agg_s_impl_Row sz_s_impl_Row (fun _ => rfl)) ?_
  refine sy 1 (ok_len (lf := .ro _) rfl elt_impl_Row.und rfl rfl) ?_
  refine SV.opY (OpMk.ok (cl [(false, [.sc _])] rfl Try.func71 (vin_s' s.fPos 0 ((s.fInput.map tRow).length : Int)) ⟨⟨[.sc _], rfl, ⟨rfl, trivial⟩⟩, ⟨[.sc _], rfl, ⟨rfl, trivial⟩⟩, ⟨[.sc _], rfl, ⟨rfl, trivial⟩⟩, trivial⟩)) rfl rfl rfl (gle rfl) rfl rfl ?_
  refine sy 1 (s1 (.tmp 17)) ?_
  refine sl 1 pf ?_
  refine sl 1 ms ?_
  refine SV.split (d := 20) rfl (fun hg1 => ?_) (fun hg1 => ?_)
  ·skip   -- g1.T
   refine sn ?_
   refine sn ?_
   refine sn ?_
   refine sn ?_
   refine sl 1 pt ?_
   refine sl 1 ms ?_
   refine sn ?_
   refine sn ?_
   refine sn ?_
   refine sl 1 pt ?_
   refine sl 1 ms ?_
   refine sn ?_
   refine sn ?_
   refine sn ?_
   refine sn ?_
   refine sl 1 pt ?_
   refine SV.nil (SV.tn ?_)
   refine SV.cond rfl (fun hc1 => ?_) (fun hc1 => ?_)
   ·skip   -- c1.T
    have hno : SorterD.ok s = false := by
     rw [Bool.eq_false_iff]
     intro h
     obtain ⟨hB, -⟩ := SorterD.ok_iff.1 h
     have h1 := hB.pos0; have h2 := hB.pos1; simp at hg1; omega
    refine SV.seq' (SV.region ?_)
    refine sl 1 ms ?_
    refine SV.nil (SV.tn (SV.ret (SV.tr ?_)))
    refine d1 (.sc _) Try.results27 ?_ <;> (refine lbq ?_; first | (rw [hno]; done) | (rw [hno]; simp; done) | (rw [hno, Bool.eq_iff_iff]; simp; done) | (rw [hno]; rfl))
   ·skip   -- c1.F
    cases hc1
  ·skip   -- g1.F
   refine sy 1 (fb fld_impl_Sorter_5) ?_
   refine sy 1 (lb 0 5 [.ro _] agg_s_impl_Run sz_s_impl_Run (fun _ => rfl)) ?_
   refine SV.opY (OpMk.ok (cl [(false, [.sc _])] rfl Try.func72 (vokruns_s s.fRuns hW.runs (fun p hp => by have := hW.run hp; omega) (by omega)) ⟨⟨[.ro _], rfl, ⟨rfl, trivial⟩⟩, trivial⟩)) rfl rfl rfl (gle rfl) rfl rfl ?_
   refine sy 1 (s1 (.tmp 23)) ?_
   refine sl 1 pf ?_
   refine sl 1 ms ?_
   refine SV.split (d := 26) rfl (fun hg2 => ?_) (fun hg2 => ?_)
   ·skip   -- g2.T
    refine sn ?_
    refine sn ?_
    refine sn ?_
    refine sl 1 pt ?_
    refine sl 1 ms ?_
    refine sn ?_
    refine sn ?_
    refine sn ?_
    refine sn ?_
    refine sl 1 pt ?_
    refine SV.nil (SV.tn ?_)
    refine SV.cond rfl (fun hc2 => ?_) (fun hc2 => ?_)
    ·skip   -- c2.T
     have hno : SorterD.ok s = false := by
      rw [Bool.eq_false_iff]
      intro h
      obtain ⟨hB, -⟩ := SorterD.ok_iff.1 h
      have h1 := hB.runs; rw [h1] at hg2; cases hg2
     refine SV.seq' (SV.region ?_)
     refine sl 1 ms ?_
     refine SV.nil (SV.tn (SV.ret (SV.tr ?_)))
     refine d1 (.sc _) Try.results27 ?_ <;> (refine lbq ?_; first | (rw [hno]; done) | (rw [hno]; simp; done) | (rw [hno, Bool.eq_iff_iff]; simp; done) | (rw [hno]; rfl))
    ·skip   -- c2.F
     cases hc2
   ·skip   -- g2.F
    refine sy 1 (fb fld_impl_Sorter_9) ?_
    refine sy 1 (lb 0 9 [.sc _] agg_int sz_int (fun _ => rfl)) ?_
    refine sy 1 (s2 (.tmp 28) (.const ((Value.int IntKind.i64 0)))) ?_
    refine sl 1 pf ?_
    refine sl 1 ms ?_
    refine SV.split (d := 31) rfl (fun hg3 => ?_) (fun hg3 => ?_)
    ·skip   -- g3.T
     refine sn ?_
     refine sn ?_
     refine sn ?_
     refine sn ?_
     refine sl 1 pt ?_
     refine SV.nil (SV.tn ?_)
     refine SV.cond rfl (fun hc3 => ?_) (fun hc3 => ?_)
     ·skip   -- c3.T
      have hno : SorterD.ok s = false := by
       rw [Bool.eq_false_iff]
       intro h
       obtain ⟨hB, -⟩ := SorterD.ok_iff.1 h
       have h1 := hB.wr; simp at hg3; omega
      refine SV.seq' (SV.region ?_)
      refine sl 1 ms ?_
      refine SV.nil (SV.tn (SV.ret (SV.tr ?_)))
      refine d1 (.sc _) Try.results27 ?_ <;> (refine lbq ?_; first | (rw [hno]; done) | (rw [hno]; simp; done) | (rw [hno, Bool.eq_iff_iff]; simp; done) | (rw [hno]; rfl))
     ·skip   -- c3.F
      cases hc3
    ·skip   -- g3.F
     refine sy 1 (fb fld_impl_Sorter_4) ?_
     refine sy 1 (lb 0 4 [.ro _] agg_s_impl_Row sz_s_impl_Row (fun _ => rfl)) ?_
     refine SV.opY (OpMk.ok (cl [(false, [.sc _])] rfl Try.func54 (vasc_t s.fOutput hW.out (by omega)) ⟨⟨[.ro _], rfl, ⟨rfl, trivial⟩⟩, trivial⟩)) rfl rfl rfl (gle rfl) rfl rfl ?_
     refine sy 1 (s1 (.tmp 34)) ?_
     refine sl 1 pf ?_
     refine SV.nil (SV.tn ?_)
     refine SV.cond rfl (fun hc4 => ?_) (fun hc4 => ?_)
     ·skip   -- c4.T
      have hno : SorterD.ok s = false := by
       rw [Bool.eq_false_iff]
       intro h
       obtain ⟨hB, -⟩ := SorterD.ok_iff.1 h
       have h1 := R.asc_pairwise.2 hB.asc; rw [h1] at hc4; cases hc4
      refine SV.seq' (SV.region ?_)
      refine sl 1 ms ?_
      refine SV.nil (SV.tn (SV.ret (SV.tr ?_)))
      refine d1 (.sc _) Try.results27 ?_ <;> (refine lbq ?_; first | (rw [hno]; done) | (rw [hno]; simp; done) | (rw [hno, Bool.eq_iff_iff]; simp; done) | (rw [hno]; rfl))
     ·skip   -- c4.F
      have ho1 : okRows s.fInput = true := by simpa using hg0
      have ho2 : 0 ≤ s.fPos ∧ s.fPos ≤ s.fInput.length := by simpa using hg1
      have ho3 : Runs.okRuns s.fRuns = true := by simpa using hg2
      have ho4 : 0 ≤ s.fWritten := by simpa using hg3
      have ho5 : R.asc s.fOutput = true := by simpa using hc4
      refine SV.skip (SV.tn (SV.seq' ?_))
      refine SV.forget (L := [(1, V.one (.bp 0 0)), (2, V.one (.sc _))]) (B := [(27, [.ro _, .sc _, .ro _, .ro _, .ro _, .ro _, .sc _, .sc _, .sc _, .sc _])]) (O := []) (n := 0) ⟨rfl, rfl, trivial⟩ rfl trivial rfl ?_
      refine SV.region ?_
      refine sl 1 (fb fld_impl_Sorter_4) ?_
      refine sl 1 (lb 0 4 [.ro _] agg_s_impl_Row sz_s_impl_Row (fun _ => rfl)) ?_
      refine sl 1 (ok_len (lf := .ro _) rfl elt_impl_Row.und rfl rfl) ?_
      refine sl 1 (ok_s2 (v := .int .i64 ((s.fOutput.length : Int) - 1)) (x := .tmp 39) (x' := .const ((Value.int IntKind.i64 1))) (VScal.one rfl) (VScal.one rfl) (fun ρ h1 h2 w => by go_simp; (try simp only [List.length_map]); rw [IntWalk.i64_left, IntWalk.wrap64_in _ ⟨by omega, by omega⟩]) rfl) ?_
      refine sl 1 ms ?_
      refine SV.nil (SV.tn (SV.seq' (SV.seq' (SV.region ?_))))
      refine sl 1 ms ?_
      refine SV.nil (SV.tn (SV.block ?_))
      refine SV.loopF (X := Nat) (fun (σ : VS) t => (((((VS.nil.box 27 [σ.bl 0 0, σ.bl 0 1, σ.bl 0 2, σ.bl 0 3, σ.bl 0 4, σ.bl 0 5, σ.bl 0 6, σ.bl 0 7, σ.bl 0 8, σ.bl 0 9]).put 1 (V.flat false [.bp 0 0])).put 2 (σ.tm 2)).put 3 (σ.tm 3)).put 4 (V.flat false [.sc (.int .i64 ((t : Int)))]))) (fun t => t ≤ s.fHeap.length ∧ ∀ u r, u < t → s.fHeap[u]? = some r → Runs.later s.fOutput r = false) (fun t => s.fHeap.length - t) ?_ ?_
      ·skip
       refine SV.again (fun i => [].getD i 0) 0 (⟨Nat.zero_le _, fun u r h => absurd h (Nat.not_lt_zero u)⟩) (pins hE rfl rfl) (VS.le.mk' (le_put (le_put (le_put (le_put (le_box le_nil) (V.le.keep (ag := false) (xs := [.bp 0 0]) (ys := [.bp 0 0]) rfl rfl ⟨⟨rfl, (gle rfl)⟩, trivial⟩)) (V.le.keep (ag := false) (xs := [.sc _]) (ys := [.sc _]) rfl rfl ⟨rfl, trivial⟩)) (V.le.keep (ag := false) (xs := [.sc _]) (ys := [.sc _]) rfl rfl ⟨rfl, trivial⟩)) (V.le.keep (ag := false) (xs := [.sc _]) (ys := [.sc _]) rfl rfl ⟨(by first | rfl | (show Leaf.sc _ = Leaf.sc _; refine congrArg Leaf.sc ?_; first | rfl | go_num | (simp [cntAll]; done)) | (simp [cntAll]; done) | (simp; omega)), trivial⟩)) ⟨⟨rfl, ⟨rfl, rfl, rfl, rfl, rfl, rfl, rfl, rfl, rfl, rfl, trivial⟩⟩, trivial⟩ trivial nil_ob (fun i j hi hj e => absurd hi (Nat.not_lt_zero i)))
      ·rintro t ⟨ht, hlo⟩
       refine SV.seq' (SV.seq' (SV.region ?_))
       refine sl 1 ms ?_
       refine sl 1 (fb fld_impl_Sorter_2) ?_
       refine sl 1 (lb 0 2 [.ro _] agg_s_impl_Row sz_s_impl_Row (fun _ => rfl)) ?_
       refine sl 1 (ok_len (lf := .ro _) rfl elt_impl_Row.und rfl rfl) ?_
       refine sl 1 (s2 (.tmp 41) (.tmp 44)) ?_
       refine SV.nil (SV.tn ?_)
       refine SV.cond rfl (fun hc5 => ?_) (fun hc5 => ?_)
       ·skip   -- c5.T
        have htl : t < s.fHeap.length := by simpa using hc5
        obtain ⟨r, hx⟩ : ∃ r, s.fHeap[t]? = some r := ⟨_, List.getElem?_eq_getElem htl⟩
        refine SV.skip (SV.tn (SV.seq' (SV.block (SV.seq' ?_))))
        refine SV.draw [.q 0, .q 1, .q 2, .q 3, .q 4, .q 5, .q 6, .q 7, .q 8, .q 9, .q 10, .q 11, .q 12, .m 13, .q 14, .q 15] [] (by kernel_rfl) (by kernel_rfl) ?_
        refine dq rfl ms ?_
        refine dq rfl (s2 (.tmp 48) (.const ((Value.int IntKind.i64 0)))) ?_
        refine dq rfl ms ?_
        refine DW.split (d := 50) rfl (fun hg4 => ?_) (fun hg4 => ?_)
        ·skip   -- g4.T
         have hl : 0 < s.fOutput.length := by simp at hg4; omega
         obtain ⟨d, hdd⟩ : ∃ d, s.fOutput[s.fOutput.length - 1]? = some d := ⟨_, List.getElem?_eq_getElem (by omega)⟩
         have e : (s.fOutput.length : Int) - 1 = ((s.fOutput.length - 1 : Nat) : Int) := by omega
         rw [e]
         refine dy rfl (fb fld_impl_Sorter_2) ?_
         refine dy rfl (lb 0 2 [.ro _] agg_s_impl_Row sz_s_impl_Row (fun _ => rfl)) ?_
         refine dy rfl ms ?_
         refine dy rfl (ok_index (n := 3) (lf := .ro _) rfl elt_impl_Row.und sz_impl_Row rfl rfl rfl (map_at hx)) ?_
         refine dy rfl (ok_load_rp (ag := true) (m := 3) (ys := [.sc _, .sc _, .sc _]) rfl rfl agg_impl_Row sz_impl_Row (fun h => by cases h) (gle rfl) rfl) ?_
         refine dy rfl (fb fld_impl_Sorter_4) ?_
         refine dy rfl (lb 0 4 [.ro _] agg_s_impl_Row sz_s_impl_Row (fun _ => rfl)) ?_
         refine dy rfl ms ?_
         refine dy rfl (ok_index (n := 3) (lf := .ro _) rfl elt_impl_Row.und sz_impl_Row rfl rfl rfl (map_at hdd)) ?_
         refine dy rfl (ok_load_rp (ag := true) (m := 3) (ys := [.sc _, .sc _, .sc _]) rfl rfl agg_impl_Row sz_impl_Row (fun h => by cases h) (gle rfl) rfl) ?_
         refine DW.m' [] rfl (cl [(false, [.sc _])] rfl Try.func73 (vcmp_t r d) ⟨⟨[.sc _, .sc _, .sc _], rfl, ⟨rfl, rfl, rfl, trivial⟩⟩, ⟨[.sc _, .sc _, .sc _], rfl, ⟨rfl, rfl, rfl, trivial⟩⟩, trivial⟩) (fun hr => wantedY hr rfl rfl rfl (gle rfl) rfl rfl) (gle rfl) (gle rfl) (.inl rfl) (fun j hj => by cases hj) ?_
         refine dy rfl (s2 (.tmp 61) (.const ((Value.int IntKind.i64 0)))) ?_
         refine dq rfl pt ?_
         refine DW.stores ?_
         refine SV.zend ?_
         refine SV.tn ?_
         refine SV.cond rfl (fun hc6 => ?_) (fun hc6 => ?_)
         ·skip   -- c6.T
          have hla : Runs.later s.fOutput r = true := by rw [later_at hdd]; simpa using hc6
          have hno : SorterD.ok s = false := by
           rw [Bool.eq_false_iff]
           intro h
           obtain ⟨hB, -⟩ := SorterD.ok_iff.1 h
           have h1 := hB.low r (List.mem_of_getElem? hx); rw [h1] at hla; cases hla
          refine SV.seq' (SV.region ?_)
          refine sl 1 ms ?_
          refine SV.nil (SV.tn (SV.ret (SV.br (SV.tr (SV.tr (SV.br (SV.tr ?_)))))))
          refine d1 (.sc _) Try.results27 ?_ <;> (refine lbq ?_; first | (rw [hno]; done) | (rw [hno]; simp; done) | (rw [hno, Bool.eq_iff_iff]; simp; done) | (rw [hno]; rfl))
         ·skip   -- c6.F
          have hgood : Runs.later s.fOutput r = false := by rw [later_at hdd]; simpa using hc6
          refine SV.skip (SV.bn (SV.tn (SV.region ?_)))
          refine sl 1 ms ?_
          refine sl 1 (s2 (.tmp 46) (.const ((Value.int IntKind.i64 1)))) ?_
          refine sl 1 ms ?_
          refine SV.nil (SV.tn ?_)
          refine SV.again (fun i => [].getD i 0) (t + 1) (⟨⟨by omega, fun u q hu hq => by rcases Nat.lt_or_ge u t with h1 | h1; (exact hlo u q h1 hq); (have h2 : u = t := (by omega); subst h2; rw [hx] at hq; cases hq; exact hgood)⟩, by omega⟩) (pins hE rfl rfl) (VS.le.mk' (le_put (le_put (le_put (le_put (le_box le_nil) (V.le.keep (ag := false) (xs := [.bp 0 0]) (ys := [.bp 0 0]) rfl rfl ⟨⟨rfl, (gle rfl)⟩, trivial⟩)) (V.le.keep (ag := false) (xs := [.sc _]) (ys := [.sc _]) rfl rfl ⟨rfl, trivial⟩)) (V.le.keep (ag := false) (xs := [.sc _]) (ys := [.sc _]) rfl rfl ⟨rfl, trivial⟩)) (V.le.keep (ag := false) (xs := [.sc _]) (ys := [.sc _]) rfl rfl ⟨(by first | rfl | (show Leaf.sc _ = Leaf.sc _; refine congrArg Leaf.sc ?_; first | rfl | go_num | (simp [cntAll]; done)) | (simp [cntAll]; done) | (simp; omega)), trivial⟩)) ⟨⟨rfl, ⟨rfl, rfl, rfl, rfl, rfl, rfl, rfl, rfl, rfl, rfl, trivial⟩⟩, trivial⟩ trivial nil_ob (fun i j hi hj e => absurd hi (Nat.not_lt_zero i)))
        ·skip   -- g4.F
         have hgood : Runs.later s.fOutput r = false := later_nil (by simp at hg4; omega)
         refine dn ?_
         refine dn ?_
         refine dn ?_
         refine dn ?_
         refine dn ?_
         refine dn ?_
         refine dn ?_
         refine dn ?_
         refine dn ?_
         refine dn ?_
         refine DW.mN rfl rfl rfl rfl (gle rfl) rfl rfl rfl (gle rfl) ?_
         refine dn ?_
         refine dq rfl pf ?_
         refine DW.stores ?_
         refine SV.zend ?_
         refine SV.tn ?_
         refine SV.cond rfl (fun hc7 => ?_) (fun hc7 => ?_)
         ·skip   -- c7.T
          cases hc7
         ·skip   -- c7.F
          refine SV.skip (SV.bn (SV.tn (SV.region ?_)))
          refine sl 1 ms ?_
          refine sl 1 (s2 (.tmp 46) (.const ((Value.int IntKind.i64 1)))) ?_
          refine sl 1 ms ?_
          refine SV.nil (SV.tn ?_)
          refine SV.again (fun i => [].getD i 0) (t + 1) (⟨⟨by omega, fun u q hu hq => by rcases Nat.lt_or_ge u t with h1 | h1; (exact hlo u q h1 hq); (have h2 : u = t := (by omega); subst h2; rw [hx] at hq; cases hq; exact hgood)⟩, by omega⟩) (pins hE rfl rfl) (VS.le.mk' (le_put (le_put (le_put (le_put (le_box le_nil) (V.le.keep (ag := false) (xs := [.bp 0 0]) (ys := [.bp 0 0]) rfl rfl ⟨⟨rfl, (gle rfl)⟩, trivial⟩)) (V.le.keep (ag := false) (xs := [.sc _]) (ys := [.sc _]) rfl rfl ⟨rfl, trivial⟩)) (V.le.keep (ag := false) (xs := [.sc _]) (ys := [.sc _]) rfl rfl ⟨rfl, trivial⟩)) (V.le.keep (ag := false) (xs := [.sc _]) (ys := [.sc _]) rfl rfl ⟨(by first | rfl | (show Leaf.sc _ = Leaf.sc _; refine congrArg Leaf.sc ?_; first | rfl | go_num | (simp [cntAll]; done)) | (simp [cntAll]; done) | (simp; omega)), trivial⟩)) ⟨⟨rfl, ⟨rfl, rfl, rfl, rfl, rfl, rfl, rfl, rfl, rfl, rfl, trivial⟩⟩, trivial⟩ trivial nil_ob (fun i j hi hj e => absurd hi (Nat.not_lt_zero i)))
       ·skip   -- c5.F
        have hte : ¬ t < s.fHeap.length := by simpa using hc5
        have hbase : SorterD.okBase s = true := SorterD.base_iff.2 ⟨ho1, ho2.1, ho2.2, ho3, ho4, R.asc_pairwise.1 ho5, fun r hr => by obtain ⟨u, hu, rfl⟩ := List.mem_iff_getElem.1 hr; exact hlo u _ (by omega) (List.getElem?_eq_getElem hu)⟩
        have hok : SorterD.ok s = if s.fPhase = 1 then SorterD.okRead s else SorterD.okRest s && if s.fPhase = 2 then SorterD.okMerge s else SorterD.okEnd s := by unfold SorterD.ok; rw [hbase]; rfl
        refine SV.exit (SV.te (SV.te (SV.bh (SV.tn (SV.seq' (SV.seq' ?_))))))
        refine SV.forget (L := [(1, V.one (.bp 0 0)), (2, V.one (.sc _)), (3, V.one (.sc _))]) (B := [(27, [.ro _, .sc _, .ro _, .ro _, .ro _, .ro _, .sc _, .sc _, .sc _, .sc _])]) (O := []) (n := 0) ⟨rfl, rfl, rfl, trivial⟩ rfl trivial rfl ?_
        refine SV.region ?_
        refine sl 1 (fb fld_impl_Sorter_8) ?_
        refine sl 1 (lb 0 8 [.sc _] agg_int sz_int (fun _ => rfl)) ?_
        refine sl 1 (s2 (.tmp 65) (.const ((Value.int IntKind.i64 1)))) ?_
        refine SV.nil (SV.tn ?_)
        refine SV.cond rfl (fun hc8 => ?_) (fun hc8 => ?_)
        ·skip   -- c8.T
         have hp1 : s.fPhase = 1 := by simpa using hc8
         have hok1 : SorterD.ok s = SorterD.okRead s := hok.trans (if_pos hp1)
         obtain ⟨n, hn⟩ : ∃ n : Nat, s.fPos = n := ⟨_, (Int.toNat_of_nonneg ho2.1).symm⟩
         have hbg := vbags_t (s.fRuns.flatten ++ s.fOutput ++ s.fHeap ++ s.fDeferred) (s.fInput.take n) (fun r hr => by simp only [List.mem_append, List.mem_flatten] at hr; rcases hr with ((⟨p, hp, hr⟩ | hr) | hr) | hr; exact hW.runs p hp r hr; exact hW.out r hr; exact hW.heap r hr; exact hW.late r hr) (fun r hr => hW.inp r (List.mem_of_mem_take hr)) (by simp only [List.length_append]; omega) (by rw [List.length_take]; omega)
         rw [List.map_append, List.map_append, List.map_append, List.map_take] at hbg
         refine SV.seq' ?_
         have hsm := vsmem_s s hW
         unfold tSorter at hsm
         rw [hn] at hsm
         refine SV.tell (fun (σ : VS) => ((((VS.nil.box 27 [σ.bl 0 0, .sc (.int .i64 ((n : Int))), σ.bl 0 2, σ.bl 0 3, σ.bl 0 4, σ.bl 0 5, σ.bl 0 6, σ.bl 0 7, σ.bl 0 8, σ.bl 0 9]).put 1 (V.flat false [.bp 0 0])).put 2 (σ.tm 2)).put 3 (σ.tm 3))) ?h ?k
         case k =>
          intro hjn
          refine (fun pp le => SV.weaken (fun i => [].getD i 0) pp le hjn) (pins hE rfl rfl) (VS.le.mk' (le_put (le_put (le_put (le_box le_nil) (V.le.keep (ag := false) (xs := [.bp 0 0]) (ys := [.bp 0 0]) rfl rfl ⟨⟨rfl, (gle rfl)⟩, trivial⟩)) (V.le.keep (ag := false) (xs := [.sc _]) (ys := [.sc _]) rfl rfl ⟨rfl, trivial⟩)) (V.le.keep (ag := false) (xs := [.sc _]) (ys := [.sc _]) rfl rfl ⟨rfl, trivial⟩)) ⟨⟨rfl, ⟨rfl, (by first | rfl | (show Leaf.sc _ = Leaf.sc _; refine congrArg Leaf.sc ?_; first | rfl | go_num | ((exact congrArg _ hn); first | done | rfl | go_num | (simp; done) | (simp; omega)) | (simp [cntAll]; done)) | (simp [cntAll]; done) | (simp; omega)), rfl, rfl, rfl, rfl, rfl, rfl, rfl, rfl, trivial⟩⟩, trivial⟩ trivial nil_ob (fun i j hi hj e => absurd hi (Nat.not_lt_zero i)))
         case h =>
         refine SV.draw [.q 0, .q 1, .q 3, .q 4, .q 6, .q 7, .q 9, .q 10, .m 2, .m 5, .m 8, .m 11, .q 12] [] (by kernel_rfl) (by kernel_rfl) ?_
         refine dq rfl (fb fld_impl_Sorter_5) ?_
         refine dq rfl (lb 0 5 [.ro _] agg_s_impl_Run sz_s_impl_Run (fun _ => rfl)) ?_
         refine dq rfl (fb fld_impl_Sorter_4) ?_
         refine dq rfl (lb 0 4 [.ro _] agg_s_impl_Row sz_s_impl_Row (fun _ => rfl)) ?_
         refine dq rfl (fb fld_impl_Sorter_2) ?_
         refine dq rfl (lb 0 2 [.ro _] agg_s_impl_Row sz_s_impl_Row (fun _ => rfl)) ?_
         refine dq rfl (fb fld_impl_Sorter_3) ?_
         refine dq rfl (lb 0 3 [.ro _] agg_s_impl_Row sz_s_impl_Row (fun _ => rfl)) ?_
         refine DW.m [0] rfl (cl [(false, [.hd 0])] rfl Try.func59 (vflat_s s.fRuns (by omega) (by omega)) ⟨⟨[.ro _], rfl, ⟨rfl, trivial⟩⟩, trivial⟩) rfl (gle rfl) (gle rfl) (.inl rfl) (fun j hj => by
           simp only [List.mem_cons, List.not_mem_nil, or_false] at hj
           rcases hj with rfl
           ·exact .inr ⟨(gle rfl), (gle rfl), .inl rfl⟩) ?_
         refine DW.m [1, 0] rfl (ok_append_ro (kk := 1) elt_impl_Row (ls := .hd 0) (lx := .ro _) rfl rfl rfl rfl rfl rfl (flat_impl_Row _) (by simp only [List.length_map]; omega) rfl (gle rfl)) rfl (gle rfl) (gle rfl) (.inr ⟨0, rfl, .inl (by decide)⟩) (fun j hj => by
           simp only [List.mem_cons, List.not_mem_nil, or_false] at hj
           rcases hj with rfl | rfl
           ·exact .inr ⟨(gle rfl), (gle rfl), .inr ⟨0, rfl, by decide⟩⟩
           ·exact .inl (by decide)) ?_
         refine DW.m [2, 1, 0] rfl (ok_append_ro (kk := 2) elt_impl_Row (ls := .hd 1) (lx := .ro _) rfl rfl rfl rfl rfl rfl (flat_impl_Row _) (by simp only [List.length_append, List.length_map]; omega) rfl (gle rfl)) rfl (gle rfl) (gle rfl) (.inr ⟨1, rfl, .inl (by decide)⟩) (fun j hj => by
           simp only [List.mem_cons, List.not_mem_nil, or_false] at hj
           rcases hj with rfl | rfl | rfl
           ·exact .inr ⟨(gle rfl), (gle rfl), .inr ⟨1, rfl, by decide⟩⟩
           ·exact .inl (by decide)
           ·exact .inl (by decide)) ?_
         refine DW.m [3, 2, 1, 0] rfl (ok_append_ro (kk := 3) elt_impl_Row (ls := .hd 2) (lx := .ro _) rfl rfl rfl rfl rfl rfl (flat_impl_Row _) (by simp only [List.length_append, List.length_map]; omega) rfl (gle rfl)) rfl (gle rfl) (gle rfl) (.inr ⟨2, rfl, .inl (by decide)⟩) (fun j hj => by
           simp only [List.mem_cons, List.not_mem_nil, or_false] at hj
           rcases hj with rfl | rfl | rfl | rfl
           ·exact .inr ⟨(gle rfl), (gle rfl), .inr ⟨2, rfl, by decide⟩⟩
           ·exact .inl (by decide)
           ·exact .inl (by decide)
           ·exact .inl (by decide)) ?_
         refine dq rfl (mv (V.one (.hd 3))) ?_
         refine DW.stores ?_
         refine SV.zend ?_
         refine SV.tn (SV.seq' (SV.region ?_))
         refine sl 1 (fb fld_impl_Sorter_6) ?_
         refine sl 1 (lb 0 6 [.sc _] agg_int sz_int (fun _ => rfl)) ?_
         refine sl 1 (s2 (.tmp 80) (.const ((Value.int IntKind.i64 0)))) ?_
         refine sl 1 ms ?_
         refine SV.split (d := 82) rfl (fun hg5 => ?_) (fun hg5 => ?_)
         ·skip   -- g5.T
          have hl0 : s.fLeftPos = 0 := by simpa using hg5
          refine sy 1 (fb fld_impl_Sorter_7) ?_
          refine sy 1 (lb 0 7 [.sc _] agg_int sz_int (fun _ => rfl)) ?_
          refine sy 1 (s2 (.tmp 84) (.const ((Value.int IntKind.i64 0)))) ?_
          refine sl 1 pt ?_
          refine sl 1 ms ?_
          refine SV.split (d := 87) rfl (fun hg6 => ?_) (fun hg6 => ?_)
          ·skip   -- g6.T
           have hr0 : s.fRightPos = 0 := by simpa using hg6
           refine sy 1 (fb fld_impl_Sorter_3) ?_
           refine sy 1 (lb 0 3 [.ro _] agg_s_impl_Row sz_s_impl_Row (fun _ => rfl)) ?_
           refine sy 1 (ok_len (lf := .ro _) rfl elt_impl_Row.und rfl rfl) ?_
           refine sy 1 (s2 (.tmp 90) (.const ((Value.int IntKind.i64 0)))) ?_
           refine sy 1 ms ?_
           refine SV.split (d := 92) rfl (fun hg7 => ?_) (fun hg7 => ?_)
           ·skip   -- g7.T
            have hd : s.fDeferred.length = 0 ∨ 0 < s.fOutput.length := .inl (by first | (simpa using hg7) | (simp at hg7; omega) | (simp at hg7; rw [hg7]; rfl))
            refine sn ?_
            refine sn ?_
            refine sy 1 pt ?_
            refine sl 1 pt ?_
            refine sl 1 ms ?_
            refine sy 1 (lb 0 0 [.ro _, .sc _, .ro _, .ro _, .ro _, .ro _, .sc _, .sc _, .sc _, .sc _] agg_impl_Sorter sz_impl_Sorter (fun h => by cases h)) ?_
            refine SV.opY (OpMk.ok (cl [(false, [.sc _])] rfl Try.func24 (hsm) ⟨⟨[.ro _, .sc _, .ro _, .ro _, .ro _, .ro _, .sc _, .sc _, .sc _, .sc _], rfl, ⟨rfl, rfl, rfl, rfl, rfl, rfl, rfl, rfl, rfl, rfl, trivial⟩⟩, trivial⟩)) rfl rfl rfl (gle rfl) rfl rfl ?_
            refine sy 1 (s2 (.tmp 99) (.const ((Value.int IntKind.i64 60)))) ?_
            refine sl 1 pt ?_
            refine sl 1 ms ?_
            refine SV.split (d := 102) rfl (fun hg8 => ?_) (fun hg8 => ?_)
            ·skip   -- g8.T
             have hm : SorterD.mem s ≤ 60 := by simpa using hg8
             have hno : SorterD.ok s = R.eqBags (s.fRuns.flatten ++ s.fOutput ++ s.fHeap ++ s.fDeferred) (s.fInput.take n) := by
              rw [hok1]
              unfold SorterD.okRead
              rw [decide_eq_true (⟨hl0, hr0, hd, hm⟩ : s.fLeftPos = 0 ∧ s.fRightPos = 0 ∧ (s.fDeferred.length = 0 ∨ 0 < s.fOutput.length) ∧ SorterD.mem s ≤ 60), hn, Int.toNat_natCast]; rfl
             refine sy 1 (mv (V.one (.hd 3))) ?_
             refine sy 1 (fb fld_impl_Sorter_0) ?_
             refine sy 1 (lb 0 0 [.ro _] agg_s_impl_Row sz_s_impl_Row (fun _ => rfl)) ?_
             refine sy 1 (fb fld_impl_Sorter_1) ?_
             refine sy 1 (lb 0 1 [.sc _] agg_int sz_int (fun _ => rfl)) ?_
             refine sy 1 (ok_slice (l := 0) (h := n) (lf := .ro _) (yy := .ro _) rfl rfl elt_impl_Row.und sz_impl_Row rfl rfl rfl ⟨_, rfl⟩ (Nat.zero_le _) (by simp only [List.length_map]; omega)) ?_
             refine SV.opY (OpMk.ok (cl [(false, [.sc _])] rfl Try.func53 (hbg) ⟨⟨[.hd 3], rfl, ⟨rfl, trivial⟩⟩, ⟨[.ro _], rfl, ⟨rfl, trivial⟩⟩, trivial⟩)) rfl rfl rfl (gle rfl) rfl rfl ?_
             refine sl 1 pt ?_
             refine sl 1 ms ?_
             refine SV.nil (SV.tn (SV.ret (SV.tr ?_)))
             refine d1 (.sc _) Try.results27 ?_ <;> (refine lbq ?_; first | (rw [hno]; done) | (rw [hno]; simp; done) | (rw [hno, Bool.eq_iff_iff]; simp; done) | (rw [hno]; rfl))
            ·skip   -- g8.F
             have hm : ¬ SorterD.mem s ≤ 60 := by simpa using hg8
             have hno : SorterD.ok s = false := by
              rw [hok1]
              unfold SorterD.okRead
              rw [decide_eq_false (fun hh => by exact hm hh.2.2.2), Bool.false_and]
             refine sn ?_
             refine sn ?_
             refine sn ?_
             refine sn ?_
             refine sn ?_
             refine sn ?_
             refine sn ?_
             refine sl 1 pf ?_
             refine sl 1 ms ?_
             refine SV.nil (SV.tn (SV.ret (SV.tr ?_)))
             refine d1 (.sc _) Try.results27 ?_ <;> (refine lbq ?_; first | (rw [hno]; done) | (rw [hno]; simp; done) | (rw [hno, Bool.eq_iff_iff]; simp; done) | (rw [hno]; rfl))
           ·skip   -- g7.F
            have hd0 : ¬ s.fDeferred.length = 0 := fun h => by simp [h] at hg7
            refine sy 1 ms ?_
            refine sy 1 (s2 (.tmp 93) (.const ((Value.int IntKind.i64 0)))) ?_
            refine sy 1 pf ?_
            refine sl 1 pt ?_
            refine sl 1 ms ?_
            refine SV.split (d := 97) rfl (fun hg9 => ?_) (fun hg9 => ?_)
            ·skip   -- g9.T
             have hd : s.fDeferred.length = 0 ∨ 0 < s.fOutput.length := .inr (by simp at hg9; omega)
             refine sy 1 (lb 0 0 [.ro _, .sc _, .ro _, .ro _, .ro _, .ro _, .sc _, .sc _, .sc _, .sc _] agg_impl_Sorter sz_impl_Sorter (fun h => by cases h)) ?_
             refine SV.opY (OpMk.ok (cl [(false, [.sc _])] rfl Try.func24 (hsm) ⟨⟨[.ro _, .sc _, .ro _, .ro _, .ro _, .ro _, .sc _, .sc _, .sc _, .sc _], rfl, ⟨rfl, rfl, rfl, rfl, rfl, rfl, rfl, rfl, rfl, rfl, trivial⟩⟩, trivial⟩)) rfl rfl rfl (gle rfl) rfl rfl ?_
             refine sy 1 (s2 (.tmp 99) (.const ((Value.int IntKind.i64 60)))) ?_
             refine sl 1 pt ?_
             refine sl 1 ms ?_
             refine SV.split (d := 102) rfl (fun hg10 => ?_) (fun hg10 => ?_)
             ·skip   -- g10.T
              have hm : SorterD.mem s ≤ 60 := by simpa using hg10
              have hno : SorterD.ok s = R.eqBags (s.fRuns.flatten ++ s.fOutput ++ s.fHeap ++ s.fDeferred) (s.fInput.take n) := by
               rw [hok1]
               unfold SorterD.okRead
               rw [decide_eq_true (⟨hl0, hr0, hd, hm⟩ : s.fLeftPos = 0 ∧ s.fRightPos = 0 ∧ (s.fDeferred.length = 0 ∨ 0 < s.fOutput.length) ∧ SorterD.mem s ≤ 60), hn, Int.toNat_natCast]; rfl
              refine sy 1 (mv (V.one (.hd 3))) ?_
              refine sy 1 (fb fld_impl_Sorter_0) ?_
              refine sy 1 (lb 0 0 [.ro _] agg_s_impl_Row sz_s_impl_Row (fun _ => rfl)) ?_
              refine sy 1 (fb fld_impl_Sorter_1) ?_
              refine sy 1 (lb 0 1 [.sc _] agg_int sz_int (fun _ => rfl)) ?_
              refine sy 1 (ok_slice (l := 0) (h := n) (lf := .ro _) (yy := .ro _) rfl rfl elt_impl_Row.und sz_impl_Row rfl rfl rfl ⟨_, rfl⟩ (Nat.zero_le _) (by simp only [List.length_map]; omega)) ?_
              refine SV.opY (OpMk.ok (cl [(false, [.sc _])] rfl Try.func53 (hbg) ⟨⟨[.hd 3], rfl, ⟨rfl, trivial⟩⟩, ⟨[.ro _], rfl, ⟨rfl, trivial⟩⟩, trivial⟩)) rfl rfl rfl (gle rfl) rfl rfl ?_
              refine sl 1 pt ?_
              refine sl 1 ms ?_
              refine SV.nil (SV.tn (SV.ret (SV.tr ?_)))
              refine d1 (.sc _) Try.results27 ?_ <;> (refine lbq ?_; first | (rw [hno]; done) | (rw [hno]; simp; done) | (rw [hno, Bool.eq_iff_iff]; simp; done) | (rw [hno]; rfl))
             ·skip   -- g10.F
              have hm : ¬ SorterD.mem s ≤ 60 := by simpa using hg10
              have hno : SorterD.ok s = false := by
               rw [hok1]
               unfold SorterD.okRead
               rw [decide_eq_false (fun hh => by exact hm hh.2.2.2), Bool.false_and]
              refine sn ?_
              refine sn ?_
              refine sn ?_
              refine sn ?_
              refine sn ?_
              refine sn ?_
              refine sn ?_
              refine sl 1 pf ?_
              refine sl 1 ms ?_
              refine SV.nil (SV.tn (SV.ret (SV.tr ?_)))
              refine d1 (.sc _) Try.results27 ?_ <;> (refine lbq ?_; first | (rw [hno]; done) | (rw [hno]; simp; done) | (rw [hno, Bool.eq_iff_iff]; simp; done) | (rw [hno]; rfl))
            ·skip   -- g9.F
             have hd1 : ¬ 0 < s.fOutput.length := by simp at hg9; omega
             have hno : SorterD.ok s = false := by
              rw [hok1]
              unfold SorterD.okRead
              rw [decide_eq_false (fun hh => by rcases hh.2.2.1 with h | h; exact hd0 h; exact hd1 h), Bool.false_and]
             refine sn ?_
             refine sn ?_
             refine sn ?_
             refine sl 1 pf ?_
             refine sl 1 ms ?_
             refine sn ?_
             refine sn ?_
             refine sn ?_
             refine sn ?_
             refine sn ?_
             refine sn ?_
             refine sn ?_
             refine sl 1 pf ?_
             refine sl 1 ms ?_
             refine SV.nil (SV.tn (SV.ret (SV.tr ?_)))
             refine d1 (.sc _) Try.results27 ?_ <;> (refine lbq ?_; first | (rw [hno]; done) | (rw [hno]; simp; done) | (rw [hno, Bool.eq_iff_iff]; simp; done) | (rw [hno]; rfl))
          ·skip   -- g6.F
           have hr0 : ¬ s.fRightPos = 0 := by simpa using hg6
           have hno : SorterD.ok s = false := by
            rw [hok1]
            unfold SorterD.okRead
            rw [decide_eq_false (fun hh => by exact hr0 hh.2.1), Bool.false_and]
           refine sn ?_
           refine sn ?_
           refine sn ?_
           refine sn ?_
           refine SV.opNu rfl rfl rfl (gle rfl) rfl rfl rfl (gle rfl) ?_
           refine SV.opNN rfl rfl rfl (gle rfl) rfl rfl (gle rfl) ?_
           refine SV.opNN rfl rfl rfl (gle rfl) rfl rfl (gle rfl) ?_
           refine sn ?_
           refine sl 1 pf ?_
           refine sl 1 ms ?_
           refine sn ?_
           refine sn ?_
           refine sn ?_
           refine sl 1 pf ?_
           refine sl 1 ms ?_
           refine sn ?_
           refine sn ?_
           refine sn ?_
           refine sn ?_
           refine sn ?_
           refine sn ?_
           refine sn ?_
           refine sl 1 pf ?_
           refine sl 1 ms ?_
           refine SV.nil (SV.tn (SV.ret (SV.tr ?_)))
           refine d1 (.sc _) Try.results27 ?_ <;> (refine lbq ?_; first | (rw [hno]; done) | (rw [hno]; simp; done) | (rw [hno, Bool.eq_iff_iff]; simp; done) | (rw [hno]; rfl))
         ·skip   -- g5.F
          have hl0 : ¬ s.fLeftPos = 0 := by simpa using hg5
          have hno : SorterD.ok s = false := by
           rw [hok1]
           unfold SorterD.okRead
           rw [decide_eq_false (fun hh => by exact hl0 hh.1), Bool.false_and]
          refine sn ?_
          refine sn ?_
          refine sn ?_
          refine sl 1 pf ?_
          refine sl 1 ms ?_
          refine sn ?_
          refine sn ?_
          refine sn ?_
          refine sn ?_
          refine SV.opNu rfl rfl rfl (gle rfl) rfl rfl rfl (gle rfl) ?_
          refine SV.opNN rfl rfl rfl (gle rfl) rfl rfl (gle rfl) ?_
          refine SV.opNN rfl rfl rfl (gle rfl) rfl rfl (gle rfl) ?_
          refine sn ?_
          refine sl 1 pf ?_
          refine sl 1 ms ?_
          refine sn ?_
          refine sn ?_
          refine sn ?_
          refine sl 1 pf ?_
          refine sl 1 ms ?_
          refine sn ?_
          refine sn ?_
          refine sn ?_
          refine sn ?_
          refine sn ?_
          refine sn ?_
          refine sn ?_
          refine sl 1 pf ?_
          refine sl 1 ms ?_
          refine SV.nil (SV.tn (SV.ret (SV.tr ?_)))
          refine d1 (.sc _) Try.results27 ?_ <;> (refine lbq ?_; first | (rw [hno]; done) | (rw [hno]; simp; done) | (rw [hno, Bool.eq_iff_iff]; simp; done) | (rw [hno]; rfl))
        ·skip   -- c8.F
         have hp1 : ¬ s.fPhase = 1 := by simpa using hc8
         have hok2 := hok.trans (if_neg hp1)
         refine SV.skip (SV.tn (SV.seq' (SV.seq' ?_)))
         refine SV.forget (L := [(1, V.one (.bp 0 0)), (2, V.one (.sc _))]) (B := [(27, [.ro _, .sc _, .ro _, .ro _, .ro _, .ro _, .sc _, .sc _, .sc _, .sc _])]) (O := []) (n := 0) ⟨rfl, rfl, trivial⟩ rfl trivial rfl ?_
         refine SV.region ?_
         refine sl 1 (fb fld_impl_Sorter_1) ?_
         refine sl 1 (lb 0 1 [.sc _] agg_int sz_int (fun _ => rfl)) ?_
         refine sl 1 (fb fld_impl_Sorter_0) ?_
         refine sl 1 (lb 0 0 [.ro _] agg_s_impl_Row sz_s_impl_Row (fun _ => rfl)) ?_
         refine sl 1 (ok_len (lf := .ro _) rfl elt_impl_Row.und rfl rfl) ?_
         refine sl 1 (s2 (.tmp 112) (.tmp 115)) ?_
         refine sl 1 ms ?_
         refine SV.split (d := 117) rfl (fun hg11 => ?_) (fun hg11 => ?_)
         ·skip   -- g11.T
          refine sn ?_
          refine sn ?_
          refine sn ?_
          refine sn ?_
          refine sn ?_
          refine sn ?_
          refine sn ?_
          refine sn ?_
          refine sl 1 pt ?_
          refine SV.nil (SV.tn ?_)
          refine SV.cond rfl (fun hc9 => ?_) (fun hc9 => ?_)
          ·skip   -- c9.T
           have hno : SorterD.ok s = false := by
            rw [hok2]
            unfold SorterD.okRest
            rw [decide_eq_false (fun hh => by simp at hg11; exact hg11 hh.1), Bool.false_and]
           refine SV.seq' (SV.region ?_)
           refine sl 1 ms ?_
           refine SV.nil (SV.tn (SV.ret (SV.tr ?_)))
           refine d1 (.sc _) Try.results27 ?_ <;> (refine lbq ?_; first | (rw [hno]; done) | (rw [hno]; simp; done) | (rw [hno, Bool.eq_iff_iff]; simp; done) | (rw [hno]; rfl))
          ·skip   -- c9.F
           cases hc9
         ·skip   -- g11.F
          refine sy 1 (fb fld_impl_Sorter_2) ?_
          refine sy 1 (lb 0 2 [.ro _] agg_s_impl_Row sz_s_impl_Row (fun _ => rfl)) ?_
          refine sy 1 (ok_len (lf := .ro _) rfl elt_impl_Row.und rfl rfl) ?_
          refine sy 1 (fb fld_impl_Sorter_3) ?_
          refine sy 1 (lb 0 3 [.ro _] agg_s_impl_Row sz_s_impl_Row (fun _ => rfl)) ?_
          refine sy 1 (ok_len (lf := .ro _) rfl elt_impl_Row.und rfl rfl) ?_
          refine sy 1 (ok_s2 (v := .int .i64 ((s.fHeap.length : Int) + (s.fDeferred.length : Int))) (x := .tmp 120) (x' := .tmp 123) (VScal.one rfl) (VScal.one rfl) (fun ρ h1 h2 w => by go_simp; (try simp only [List.length_map]); rw [IntWalk.i64_left, IntWalk.wrap64_in _ ⟨by omega, by omega⟩]) rfl) ?_
          refine sy 1 (s2 (.tmp 124) (.const ((Value.int IntKind.i64 0)))) ?_
          refine sl 1 pf ?_
          refine SV.nil (SV.tn ?_)
          refine SV.cond rfl (fun hc10 => ?_) (fun hc10 => ?_)
          ·skip   -- c10.T
           have hno : SorterD.ok s = false := by
            rw [hok2]
            unfold SorterD.okRest
            rw [decide_eq_false (fun hh => by simp at hc10; omega), Bool.false_and]
           refine SV.seq' (SV.region ?_)
           refine sl 1 ms ?_
           refine SV.nil (SV.tn (SV.ret (SV.tr ?_)))
           refine d1 (.sc _) Try.results27 ?_ <;> (refine lbq ?_; first | (rw [hno]; done) | (rw [hno]; simp; done) | (rw [hno, Bool.eq_iff_iff]; simp; done) | (rw [hno]; rfl))
          ·skip   -- c10.F
           have hrest : SorterD.okRest s = true := by
            unfold SorterD.okRest
            rw [decide_eq_true_eq]
            exact ⟨by simpa using hg11, by simp at hc10; omega⟩
           have hok3 : SorterD.ok s = if s.fPhase = 2 then SorterD.okMerge s else SorterD.okEnd s := by rw [hok2, hrest]; rfl
           refine SV.skip (SV.tn (SV.seq' (SV.seq' ?_)))
           refine SV.forget (L := [(1, V.one (.bp 0 0)), (2, V.one (.sc _))]) (B := [(27, [.ro _, .sc _, .ro _, .ro _, .ro _, .ro _, .sc _, .sc _, .sc _, .sc _])]) (O := []) (n := 0) ⟨rfl, rfl, trivial⟩ rfl trivial rfl ?_
           refine SV.region ?_
           refine sl 1 (fb fld_impl_Sorter_8) ?_
           refine sl 1 (lb 0 8 [.sc _] agg_int sz_int (fun _ => rfl)) ?_
           refine sl 1 (s2 (.tmp 128) (.const ((Value.int IntKind.i64 2)))) ?_
           refine SV.nil (SV.tn ?_)
           refine SV.cond rfl (fun hc11 => ?_) (fun hc11 => ?_)
           ·skip   -- c11.T
            have hp2 : s.fPhase = 2 := by simpa using hc11
            have hok4 : SorterD.ok s = SorterD.okMerge s := hok3.trans (if_pos hp2)
            refine SV.seq' (SV.seq' ?_)
            refine SV.forget (L := [(1, V.one (.bp 0 0)), (2, V.one (.sc _))]) (B := [(27, [.ro _, .sc _, .ro _, .ro _, .ro _, .ro _, .sc _, .sc _, .sc _, .sc _])]) (O := []) (n := 0) ⟨rfl, rfl, trivial⟩ rfl trivial rfl ?_
            refine SV.draw [.q 0, .q 1, .q 2, .q 3, .q 4, .q 5, .q 6, .q 7, .q 8, .q 9, .q 10, .q 11, .q 12, .m 13, .q 14, .q 15, .q 16, .q 17, .q 18, .q 19, .q 20, .q 21, .q 22, .q 23, .q 24, .m 25, .q 26, .q 27] [] (by kernel_rfl) (by kernel_rfl) ?_
            refine dq rfl (fb fld_impl_Sorter_5) ?_
            refine dq rfl (lb 0 5 [.ro _] agg_s_impl_Run sz_s_impl_Run (fun _ => rfl)) ?_
            refine dq rfl (ok_len (lf := .ro _) rfl elt_impl_Run.und rfl rfl) ?_
            refine dq rfl (s2 (.tmp 132) (.const ((Value.int IntKind.i64 2)))) ?_
            refine dq rfl ms ?_
            refine DW.split (d := 134) rfl (fun hg12 => ?_) (fun hg12 => ?_)
            ·skip   -- g12.T
             refine dn ?_
             refine dn ?_
             refine dn ?_
             refine dn ?_
             refine dn ?_
             refine dn ?_
             refine dn ?_
             refine dn ?_
             refine DW.mN rfl rfl rfl rfl (gle rfl) rfl rfl rfl (gle rfl) ?_
             refine dn ?_
             refine dq rfl pt ?_
             refine dq rfl ms ?_
             refine dn ?_
             refine dn ?_
             refine dn ?_
             refine dn ?_
             refine dn ?_
             refine dn ?_
             refine dn ?_
             refine dn ?_
             refine DW.mN rfl rfl rfl rfl (gle rfl) rfl rfl rfl (gle rfl) ?_
             refine dn ?_
             refine dq rfl pt ?_
             refine DW.stores ?_
             refine SV.zend ?_
             refine SV.tn ?_
             refine SV.cond rfl (fun hc12 => ?_) (fun hc12 => ?_)
             ·skip   -- c12.T
              have hno : SorterD.ok s = false := by
               rw [hok4]
               unfold SorterD.okMerge
               rw [decide_eq_false (fun hh => by have h1 := hh.1; simp at hg12; omega), Bool.false_and]
              refine SV.seq' (SV.region ?_)
              refine sl 1 ms ?_
              refine SV.nil (SV.tn (SV.ret (SV.tr (SV.tr ?_))))
              refine d1 (.sc _) Try.results27 ?_ <;> (refine lbq ?_; first | (rw [hno]; done) | (rw [hno]; simp; done) | (rw [hno, Bool.eq_iff_iff]; simp; done) | (rw [hno]; rfl))
             ·skip   -- c12.F
              cases hc12
            ·skip   -- g12.F
             have h2 : 2 ≤ s.fRuns.length := by simp at hg12; omega
             obtain ⟨p0, hx0⟩ : ∃ p, s.fRuns[0]? = some p := ⟨_, List.getElem?_eq_getElem (by omega)⟩
             obtain ⟨p1, hx1⟩ : ∃ p, s.fRuns[1]? = some p := ⟨_, List.getElem?_eq_getElem (by omega)⟩
             have hf0 : SorterD.fst s = p0 := by unfold SorterD.fst; rw [List.getD_eq_getElem?_getD, hx0]; rfl
             have hf1 : SorterD.snd s = p1 := by unfold SorterD.snd; rw [List.getD_eq_getElem?_getD, hx1]; rfl
             have hq0 := hW.run (List.mem_of_getElem? hx0)
             have hq1 := hW.run (List.mem_of_getElem? hx1)
             refine dy rfl (fb fld_impl_Sorter_6) ?_
             refine dy rfl (lb 0 6 [.sc _] agg_int sz_int (fun _ => rfl)) ?_
             refine dy rfl (fb fld_impl_Sorter_5) ?_
             refine dy rfl (lb 0 5 [.ro _] agg_s_impl_Run sz_s_impl_Run (fun _ => rfl)) ?_
             refine dy rfl (ok_index (n := 1) (lf := .ro _) rfl elt_impl_Run.und sz_impl_Run rfl rfl rfl (map_at hx0)) ?_
             refine dy rfl (ok_field_el (p := .rp _) (off := 0) rfl rfl rfl fld_impl_Run_0) ?_
             refine dy rfl (ok_load_rp (ag := false) (m := 1) (ys := [.ro _]) rfl rfl agg_s_impl_Row sz_s_impl_Row (fun _ => rfl) (gle rfl) rfl) ?_
             refine dy rfl (ok_len (lf := .ro _) rfl elt_impl_Row.und rfl rfl) ?_
             refine DW.m' [] rfl (cl [(false, [.sc _])] rfl Try.func71 (vin_s' s.fLeftPos 0 ((p0.map tRow).length : Int)) ⟨⟨[.sc _], rfl, ⟨rfl, trivial⟩⟩, ⟨[.sc _], rfl, ⟨rfl, trivial⟩⟩, ⟨[.sc _], rfl, ⟨rfl, trivial⟩⟩, trivial⟩) (fun hr => wantedY hr rfl rfl rfl (gle rfl) rfl rfl) (gle rfl) (gle rfl) (.inl rfl) (fun j hj => by cases hj) ?_
             refine dy rfl (s1 (.tmp 143)) ?_
             refine dq rfl pf ?_
             refine dq rfl ms ?_
             refine DW.split (d := 146) rfl (fun hg13 => ?_) (fun hg13 => ?_)
             ·skip   -- g13.T
              refine dn ?_
              refine dn ?_
              refine dn ?_
              refine dn ?_
              refine dn ?_
              refine dn ?_
              refine dn ?_
              refine dn ?_
              refine DW.mN rfl rfl rfl rfl (gle rfl) rfl rfl rfl (gle rfl) ?_
              refine dn ?_
              refine dq rfl pt ?_
              refine DW.stores ?_
              refine SV.zend ?_
              refine SV.tn ?_
              refine SV.cond rfl (fun hc13 => ?_) (fun hc13 => ?_)
              ·skip   -- c13.T
               have hno : SorterD.ok s = false := by
                rw [hok4]
                unfold SorterD.okMerge
                rw [decide_eq_false (fun hh => by have h1 := hh.2.1; rw [hf0] at h1; simp at hg13; omega), Bool.false_and]
               refine SV.seq' (SV.region ?_)
               refine sl 1 ms ?_
               refine SV.nil (SV.tn (SV.ret (SV.tr (SV.tr ?_))))
               refine d1 (.sc _) Try.results27 ?_ <;> (refine lbq ?_; first | (rw [hno]; done) | (rw [hno]; simp; done) | (rw [hno, Bool.eq_iff_iff]; simp; done) | (rw [hno]; rfl))
              ·skip   -- c13.F
               cases hc13
             ·skip   -- g13.F
              have hle : 0 ≤ s.fLeftPos ∧ s.fLeftPos ≤ p0.length := by simpa using hg13
              refine dy rfl (fb fld_impl_Sorter_7) ?_
              refine dy rfl (lb 0 7 [.sc _] agg_int sz_int (fun _ => rfl)) ?_
              refine dy rfl (fb fld_impl_Sorter_5) ?_
              refine dy rfl (lb 0 5 [.ro _] agg_s_impl_Run sz_s_impl_Run (fun _ => rfl)) ?_
              refine dy rfl (ok_index (n := 1) (lf := .ro _) rfl elt_impl_Run.und sz_impl_Run rfl rfl rfl (map_at hx1)) ?_
              refine dy rfl (ok_field_el (p := .rp _) (off := 0) rfl rfl rfl fld_impl_Run_0) ?_
              refine dy rfl (ok_load_rp (ag := false) (m := 1) (ys := [.ro _]) rfl rfl agg_s_impl_Row sz_s_impl_Row (fun _ => rfl) (gle rfl) rfl) ?_
              refine dy rfl (ok_len (lf := .ro _) rfl elt_impl_Row.und rfl rfl) ?_
              refine DW.m' [] rfl (cl [(false, [.sc _])] rfl Try.func71 (vin_s' s.fRightPos 0 ((p1.map tRow).length : Int)) ⟨⟨[.sc _], rfl, ⟨rfl, trivial⟩⟩, ⟨[.sc _], rfl, ⟨rfl, trivial⟩⟩, ⟨[.sc _], rfl, ⟨rfl, trivial⟩⟩, trivial⟩) (fun hr => wantedY hr rfl rfl rfl (gle rfl) rfl rfl) (gle rfl) (gle rfl) (.inl rfl) (fun j hj => by cases hj) ?_
              refine dy rfl (s1 (.tmp 155)) ?_
              refine dq rfl pf ?_
              refine DW.stores ?_
              refine SV.zend ?_
              refine SV.tn ?_
              refine SV.cond rfl (fun hc14 => ?_) (fun hc14 => ?_)
              ·skip   -- c14.T
               have hno : SorterD.ok s = false := by
                rw [hok4]
                unfold SorterD.okMerge
                rw [decide_eq_false (fun hh => by have h1 := hh.2.2; rw [hf1] at h1; simp at hc14; omega), Bool.false_and]
               refine SV.seq' (SV.region ?_)
               refine sl 1 ms ?_
               refine SV.nil (SV.tn (SV.ret (SV.tr (SV.tr ?_))))
               refine d1 (.sc _) Try.results27 ?_ <;> (refine lbq ?_; first | (rw [hno]; done) | (rw [hno]; simp; done) | (rw [hno, Bool.eq_iff_iff]; simp; done) | (rw [hno]; rfl))
              ·skip   -- c14.F
               have hri : 0 ≤ s.fRightPos ∧ s.fRightPos ≤ p1.length := by simpa using hc14
               obtain ⟨a, ha⟩ : ∃ a : Nat, s.fLeftPos = a := ⟨_, (Int.toNat_of_nonneg hle.1).symm⟩
               obtain ⟨b, hb⟩ : ∃ b : Nat, s.fRightPos = b := ⟨_, (Int.toNat_of_nonneg hri.1).symm⟩
               have hms := vms_s (p0.take a) (p1.take b) (by rw [List.length_take, List.length_take]; omega)
               rw [List.map_take, List.map_take] at hms
               have hwm : ∀ r ∈ Runs.merge2 (p0.take a) (p1.take b), r.wf := fun r hr => by
                rcases List.mem_append.1 ((Runs.merge2_perm _ _).mem_iff.1 hr) with h | h
                ·exact hW.runs p0 (List.mem_of_getElem? hx0) r (List.mem_of_mem_take h)
                ·exact hW.runs p1 (List.mem_of_getElem? hx1) r (List.mem_of_mem_take h)
               have hwn : ∀ r ∈ (Runs.merge2 p0 p1).take (a + b), r.wf := fun r hr => by
                rcases List.mem_append.1 ((Runs.merge2_perm _ _).mem_iff.1 (List.mem_of_mem_take hr)) with h | h
                ·exact hW.runs p0 (List.mem_of_getElem? hx0) r h
                ·exact hW.runs p1 (List.mem_of_getElem? hx1) r h
               have hml := Runs.merge2_length p0 p1
               have hl1 := vl6_t s.fOutput ((Runs.merge2 p0 p1).take (a + b)) hW.out hwn (by omega) (by rw [List.length_take]; omega)
               rw [List.map_take] at hl1
               have hbd : decide (2 ≤ s.fRuns.length ∧ (0 ≤ s.fLeftPos ∧ s.fLeftPos ≤ (SorterD.fst s).length) ∧ 0 ≤ s.fRightPos ∧ s.fRightPos ≤ (SorterD.snd s).length) = true := decide_eq_true (by rw [hf0, hf1]; exact ⟨h2, hle, hri⟩)
               have hmm : SorterD.okMerge s = (decide (s.fOutput = (Runs.merge2 p0 p1).take (a + b)) && (decide (Runs.merge2 (p0.take a) (p1.take b) = s.fOutput) && R.eqBags s.fRuns.flatten s.fInput)) := by
                unfold SorterD.okMerge
                rw [hbd, hf0, hf1, ha, hb]
                rfl
               refine SV.skip (SV.tn (SV.seq' ?_))
               refine SV.forget (L := [(1, V.one (.bp 0 0)), (2, V.one (.sc _))]) (B := [(27, [.ro _, .sc _, .ro _, .ro _, .ro _, .ro _, .sc _, .sc _, .sc _, .sc _])]) (O := []) (n := 0) ⟨rfl, rfl, trivial⟩ rfl trivial rfl ?_
               refine SV.tell (fun (σ : VS) => (((VS.nil.box 27 [σ.bl 0 0, σ.bl 0 1, σ.bl 0 2, σ.bl 0 3, σ.bl 0 4, σ.bl 0 5, .sc (.int .i64 ((a : Int))), .sc (.int .i64 ((b : Int))), σ.bl 0 8, σ.bl 0 9]).put 1 (V.flat false [.bp 0 0])).put 2 (σ.tm 2))) ?h ?k
               case k =>
                intro hjn
                refine (fun pp le => SV.weaken (fun i => [].getD i 0) pp le hjn) (pins hE rfl rfl) (VS.le.mk' (le_put (le_put (le_box le_nil) (V.le.keep (ag := false) (xs := [.bp 0 0]) (ys := [.bp 0 0]) rfl rfl ⟨⟨rfl, (gle rfl)⟩, trivial⟩)) (V.le.keep (ag := false) (xs := [.sc _]) (ys := [.sc _]) rfl rfl ⟨rfl, trivial⟩)) ⟨⟨rfl, ⟨rfl, rfl, rfl, rfl, rfl, rfl, (by first | rfl | (show Leaf.sc _ = Leaf.sc _; refine congrArg Leaf.sc ?_; first | rfl | go_num | ((first | exact congrArg _ ha | exact congrArg _ hb); first | done | rfl | go_num | (simp; done) | (simp; omega)) | (simp [cntAll]; done)) | (simp [cntAll]; done) | (simp; omega)), (by first | rfl | (show Leaf.sc _ = Leaf.sc _; refine congrArg Leaf.sc ?_; first | rfl | go_num | ((first | exact congrArg _ ha | exact congrArg _ hb); first | done | rfl | go_num | (simp; done) | (simp; omega)) | (simp [cntAll]; done)) | (simp [cntAll]; done) | (simp; omega)), rfl, rfl, trivial⟩⟩, trivial⟩ trivial nil_ob (fun i j hi hj e => absurd hi (Nat.not_lt_zero i)))
               case h =>
               refine SV.draw [.q 0, .q 1, .q 2, .q 3, .q 4, .q 5, .q 6, .q 7, .q 8, .q 9, .q 10, .q 11, .q 12, .q 13, .q 14, .q 15, .m 16, .q 17] [] (by kernel_rfl) (by kernel_rfl) ?_
               refine dq rfl (fb fld_impl_Sorter_5) ?_
               refine dq rfl (lb 0 5 [.ro _] agg_s_impl_Run sz_s_impl_Run (fun _ => rfl)) ?_
               refine dq rfl (ok_index (n := 1) (lf := .ro _) rfl elt_impl_Run.und sz_impl_Run rfl rfl rfl (map_at hx0)) ?_
               refine dq rfl (ok_field_el (p := .rp _) (off := 0) rfl rfl rfl fld_impl_Run_0) ?_
               refine dq rfl (ok_load_rp (ag := false) (m := 1) (ys := [.ro _]) rfl rfl agg_s_impl_Row sz_s_impl_Row (fun _ => rfl) (gle rfl) rfl) ?_
               refine dq rfl (fb fld_impl_Sorter_6) ?_
               refine dq rfl (lb 0 6 [.sc _] agg_int sz_int (fun _ => rfl)) ?_
               refine dq rfl (ok_slice (l := 0) (h := a) (lf := .ro _) (yy := .ro _) rfl rfl elt_impl_Row.und sz_impl_Row rfl rfl rfl ⟨_, rfl⟩ (Nat.zero_le _) (by simp only [List.length_map]; omega)) ?_
               refine dq rfl (fb fld_impl_Sorter_5) ?_
               refine dq rfl (lb 0 5 [.ro _] agg_s_impl_Run sz_s_impl_Run (fun _ => rfl)) ?_
               refine dq rfl (ok_index (n := 1) (lf := .ro _) rfl elt_impl_Run.und sz_impl_Run rfl rfl rfl (map_at hx1)) ?_
               refine dq rfl (ok_field_el (p := .rp _) (off := 0) rfl rfl rfl fld_impl_Run_0) ?_
               refine dq rfl (ok_load_rp (ag := false) (m := 1) (ys := [.ro _]) rfl rfl agg_s_impl_Row sz_s_impl_Row (fun _ => rfl) (gle rfl) rfl) ?_
               refine dq rfl (fb fld_impl_Sorter_7) ?_
               refine dq rfl (lb 0 7 [.sc _] agg_int sz_int (fun _ => rfl)) ?_
               refine dq rfl (ok_slice (l := 0) (h := b) (lf := .ro _) (yy := .ro _) rfl rfl elt_impl_Row.und sz_impl_Row rfl rfl rfl ⟨_, rfl⟩ (Nat.zero_le _) (by simp only [List.length_map]; omega)) ?_
               refine DW.m [0] rfl (cl [(false, [.hd 0])] rfl Try.func39 (hms) ⟨⟨[.ro _], rfl, ⟨rfl, trivial⟩⟩, ⟨[.ro _], rfl, ⟨rfl, trivial⟩⟩, trivial⟩) rfl (gle rfl) (gle rfl) (.inl rfl) (fun j hj => by
                 simp only [List.mem_cons, List.not_mem_nil, or_false] at hj
                 rcases hj with rfl
                 ·exact .inr ⟨(gle rfl), (gle rfl), .inl rfl⟩) ?_
               refine dq rfl (mv (V.one (.hd 0))) ?_
               refine DW.stores ?_
               refine SV.zend ?_
               refine SV.tn (SV.seq' ?_)
               refine SV.forget (L := [(1, V.one (.bp 0 0)), (2, V.one (.sc _)), (6, V.one (.hd 0))]) (B := [(27, [.ro _, .sc _, .ro _, .ro _, .ro _, .ro _, .sc _, .sc _, .sc _, .sc _])]) (O := [(0, _, _)]) (n := 1) ⟨rfl, rfl, rfl, trivial⟩ rfl ⟨rfl, trivial⟩ rfl ?_
               refine SV.draw [.q 0, .q 1, .q 2, .q 3, .q 4, .q 5, .q 6, .q 7, .q 8, .q 9, .q 10, .q 11, .q 13, .q 14, .q 15, .q 16, .q 17, .m 12, .q 18, .m 19, .q 20, .q 21, .q 22, .q 23, .m 24, .q 25, .q 26, .q 27, .q 28, .q 30, .q 31, .m 29, .m 32, .q 33, .q 34] [] (by kernel_rfl) (by kernel_rfl) ?_
               refine dq rfl (fb fld_impl_Sorter_4) ?_
               refine dq rfl (lb 0 4 [.ro _] agg_s_impl_Row sz_s_impl_Row (fun _ => rfl)) ?_
               refine dq rfl (fb fld_impl_Sorter_5) ?_
               refine dq rfl (lb 0 5 [.ro _] agg_s_impl_Run sz_s_impl_Run (fun _ => rfl)) ?_
               refine dq rfl (ok_index (n := 1) (lf := .ro _) rfl elt_impl_Run.und sz_impl_Run rfl rfl rfl (map_at hx0)) ?_
               refine dq rfl (ok_field_el (p := .rp _) (off := 0) rfl rfl rfl fld_impl_Run_0) ?_
               refine dq rfl (ok_load_rp (ag := false) (m := 1) (ys := [.ro _]) rfl rfl agg_s_impl_Row sz_s_impl_Row (fun _ => rfl) (gle rfl) rfl) ?_
               refine dq rfl (fb fld_impl_Sorter_5) ?_
               refine dq rfl (lb 0 5 [.ro _] agg_s_impl_Run sz_s_impl_Run (fun _ => rfl)) ?_
               refine dq rfl (ok_index (n := 1) (lf := .ro _) rfl elt_impl_Run.und sz_impl_Run rfl rfl rfl (map_at hx1)) ?_
               refine dq rfl (ok_field_el (p := .rp _) (off := 0) rfl rfl rfl fld_impl_Run_0) ?_
               refine dq rfl (ok_load_rp (ag := false) (m := 1) (ys := [.ro _]) rfl rfl agg_s_impl_Row sz_s_impl_Row (fun _ => rfl) (gle rfl) rfl) ?_
               refine dq rfl (fb fld_impl_Sorter_6) ?_
               refine dq rfl (lb 0 6 [.sc _] agg_int sz_int (fun _ => rfl)) ?_
               refine dq rfl (fb fld_impl_Sorter_7) ?_
               refine dq rfl (lb 0 7 [.sc _] agg_int sz_int (fun _ => rfl)) ?_
               refine dq rfl (ok_s2 (v := .int .i64 ((a + b : Nat) : Int)) (x := .tmp 189) (x' := .tmp 191) (VScal.one rfl) (VScal.one rfl) (fun ρ h1 h2 w => by go_simp; rw [IntWalk.i64_left, IntWalk.wrap64_in _ ⟨by omega, by omega⟩]) rfl) ?_
               refine DW.m [1] rfl (cl [(false, [.hd 1])] rfl Try.func39 (vms_s p0 p1 (by omega)) ⟨⟨[.ro _], rfl, ⟨rfl, trivial⟩⟩, ⟨[.ro _], rfl, ⟨rfl, trivial⟩⟩, trivial⟩) rfl (gle rfl) (gle rfl) (.inl rfl) (fun j hj => by
                 simp only [List.mem_cons, List.not_mem_nil, or_false] at hj
                 rcases hj with rfl
                 ·exact .inr ⟨(gle rfl), (gle rfl), .inl rfl⟩) ?_
               refine dq rfl (ok_slice (l := 0) (h := a + b) (lf := .hd 1) (yy := .nd 1 _ _ none) rfl rfl elt_impl_Row.und sz_impl_Row rfl rfl rfl ⟨_, rfl⟩ (Nat.zero_le _) (by simp only [List.length_map]; omega)) ?_
               refine DW.m [1] rfl (cl [(false, [.sc _])] rfl Try.func74 (hl1) ⟨⟨[.ro _], rfl, ⟨rfl, trivial⟩⟩, ⟨[.nd 1 _ _ none], rfl, ⟨rfl, trivial⟩⟩, trivial⟩) rfl (gle rfl) (gle rfl) (.inl rfl) (fun j hj => by
                 simp only [List.mem_cons, List.not_mem_nil, or_false] at hj
                 rcases hj with rfl
                 ·exact .inl (by decide)) ?_
               refine dq rfl ms ?_
               refine DW.split (d := 195) rfl (fun hg14 => ?_) (fun hg14 => ?_)
               ·skip   -- g14.T
                refine dy rfl (mv (V.one (.hd 0))) ?_
                refine dy rfl (fb fld_impl_Sorter_4) ?_
                refine dy rfl (lb 0 4 [.ro _] agg_s_impl_Row sz_s_impl_Row (fun _ => rfl)) ?_
                refine DW.m' [1] rfl (cl [(false, [.sc _])] rfl Try.func74 (vl6_t _ _ hwm hW.out (by rw [Runs.merge2_length, List.length_take, List.length_take]; omega) (by omega)) ⟨⟨[.hd 0], rfl, ⟨rfl, trivial⟩⟩, ⟨[.ro _], rfl, ⟨rfl, trivial⟩⟩, trivial⟩) (fun hr => wantedY hr rfl rfl rfl (gle rfl) rfl rfl) (gle rfl) (gle rfl) (.inl rfl) (fun j hj => by
                  simp only [List.mem_cons, List.not_mem_nil, or_false] at hj
                  rcases hj with rfl
                  ·exact .inl (by decide)) ?_
                refine dq rfl pt ?_
                refine dq rfl ms ?_
                refine DW.split (d := 201) rfl (fun hg15 => ?_) (fun hg15 => ?_)
                ·skip   -- g15.T
                 have hno : SorterD.ok s = R.eqBags s.fRuns.flatten s.fInput := by rw [hok4, hmm, hg14, hg15]; rfl
                 refine dy rfl (fb fld_impl_Sorter_5) ?_
                 refine dy rfl (lb 0 5 [.ro _] agg_s_impl_Run sz_s_impl_Run (fun _ => rfl)) ?_
                 refine dy rfl (fb fld_impl_Sorter_0) ?_
                 refine dy rfl (lb 0 0 [.ro _] agg_s_impl_Row sz_s_impl_Row (fun _ => rfl)) ?_
                 refine DW.m' [2, 1] rfl (cl [(false, [.hd 2])] rfl Try.func59 (vflat_s s.fRuns (by omega) (by omega)) ⟨⟨[.ro _], rfl, ⟨rfl, trivial⟩⟩, trivial⟩) (fun hr => wantedY hr rfl rfl rfl (gle rfl) rfl rfl) (gle rfl) (gle rfl) (.inl rfl) (fun j hj => by
                   simp only [List.mem_cons, List.not_mem_nil, or_false] at hj
                   rcases hj with rfl | rfl
                   ·exact .inr ⟨(gle rfl), (gle rfl), .inl rfl⟩
                   ·exact .inl (by decide)) ?_
                 refine DW.m' [2, 1] rfl (cl [(false, [.sc _])] rfl Try.func53 (vbags_t s.fRuns.flatten s.fInput (fun r hr => by obtain ⟨p, hp, hr2⟩ := List.mem_flatten.1 hr; exact hW.runs p hp r hr2) hW.inp (by omega) (by omega)) ⟨⟨[.hd 2], rfl, ⟨rfl, trivial⟩⟩, ⟨[.ro _], rfl, ⟨rfl, trivial⟩⟩, trivial⟩) (fun hr => wantedY hr rfl rfl rfl (gle rfl) rfl rfl) (gle rfl) (gle rfl) (.inl rfl) (fun j hj => by
                   simp only [List.mem_cons, List.not_mem_nil, or_false] at hj
                   rcases hj with rfl | rfl
                   ·exact .inl (by decide)
                   ·exact .inl (by decide)) ?_
                 refine dq rfl pt ?_
                 refine dq rfl ms ?_
                 refine DW.stores ?_
                 refine SV.zend ?_
                 refine SV.tn (SV.ret (SV.tr ?_))
                 refine d1 (.sc _) Try.results27 ?_ <;> (refine lbq ?_; first | (rw [hno]; done) | (rw [hno]; simp; done) | (rw [hno, Bool.eq_iff_iff]; simp; done) | (rw [hno]; rfl))
                ·skip   -- g15.F
                 have hno : SorterD.ok s = false := by rw [hok4, hmm, hg14, hg15]; rfl
                 refine dn ?_
                 refine dn ?_
                 refine dn ?_
                 refine dn ?_
                 refine DW.mN rfl rfl rfl rfl (gle rfl) rfl rfl rfl (gle rfl) ?_
                 refine DW.mN rfl rfl rfl rfl (gle rfl) rfl rfl rfl (gle rfl) ?_
                 refine dq rfl pf ?_
                 refine dq rfl ms ?_
                 refine DW.stores ?_
                 refine SV.zend ?_
                 refine SV.tn (SV.ret (SV.tr ?_))
                 refine d1 (.sc _) Try.results27 ?_ <;> (refine lbq ?_; first | (rw [hno]; done) | (rw [hno]; simp; done) | (rw [hno, Bool.eq_iff_iff]; simp; done) | (rw [hno]; rfl))
               ·skip   -- g14.F
                have hno : SorterD.ok s = false := by rw [hok4, hmm, hg14]; rfl
                refine dn ?_
                refine dn ?_
                refine dn ?_
                refine DW.mN rfl rfl rfl rfl (gle rfl) rfl rfl rfl (gle rfl) ?_
                refine dq rfl pf ?_
                refine dq rfl ms ?_
                refine dn ?_
                refine dn ?_
                refine dn ?_
                refine dn ?_
                refine DW.mN rfl rfl rfl rfl (gle rfl) rfl rfl rfl (gle rfl) ?_
                refine DW.mN rfl rfl rfl rfl (gle rfl) rfl rfl rfl (gle rfl) ?_
                refine dq rfl pf ?_
                refine dq rfl ms ?_
                refine DW.stores ?_
                refine SV.zend ?_
                refine SV.tn (SV.ret (SV.tr ?_))
                refine d1 (.sc _) Try.results27 ?_ <;> (refine lbq ?_; first | (rw [hno]; done) | (rw [hno]; simp; done) | (rw [hno, Bool.eq_iff_iff]; simp; done) | (rw [hno]; rfl))
           ·skip   -- c11.F
            have hp2 : ¬ s.fPhase = 2 := by simpa using hc11
            have hok5 : SorterD.ok s = SorterD.okEnd s := hok3.trans (if_neg hp2)
            refine SV.skip (SV.tn (SV.seq' (SV.seq' ?_)))
            refine SV.forget (L := [(1, V.one (.bp 0 0)), (2, V.one (.sc _))]) (B := [(27, [.ro _, .sc _, .ro _, .ro _, .ro _, .ro _, .sc _, .sc _, .sc _, .sc _])]) (O := []) (n := 0) ⟨rfl, rfl, trivial⟩ rfl trivial rfl ?_
            refine SV.draw [.q 0, .q 1, .q 2, .q 3, .q 4, .q 5, .q 6, .q 7, .q 8, .q 9, .q 10, .q 11, .q 12, .q 13, .q 14, .q 15, .q 16, .q 17, .q 19, .q 20, .m 18, .m 21, .q 22, .q 23] [] (by kernel_rfl) (by kernel_rfl) ?_
            refine dq rfl (fb fld_impl_Sorter_5) ?_
            refine dq rfl (lb 0 5 [.ro _] agg_s_impl_Run sz_s_impl_Run (fun _ => rfl)) ?_
            refine dq rfl (ok_len (lf := .ro _) rfl elt_impl_Run.und rfl rfl) ?_
            refine dq rfl (s2 (.tmp 211) (.const ((Value.int IntKind.i64 1)))) ?_
            refine dq rfl ms ?_
            refine DW.split (d := 213) rfl (fun hg16 => ?_) (fun hg16 => ?_)
            ·skip   -- g16.T
             refine dn ?_
             refine dn ?_
             refine dn ?_
             refine dq rfl pt ?_
             refine dq rfl ms ?_
             refine dn ?_
             refine dn ?_
             refine dn ?_
             refine dn ?_
             refine dq rfl pt ?_
             refine dq rfl ms ?_
             refine dn ?_
             refine dn ?_
             refine dn ?_
             refine dn ?_
             refine DW.mN rfl rfl rfl rfl (gle rfl) rfl rfl rfl (gle rfl) ?_
             refine DW.mN rfl rfl rfl rfl (gle rfl) rfl rfl rfl (gle rfl) ?_
             refine dn ?_
             refine dq rfl pt ?_
             refine DW.stores ?_
             refine SV.zend ?_
             refine SV.tn ?_
             refine SV.cond rfl (fun hc15 => ?_) (fun hc15 => ?_)
             ·skip   -- c15.T
              have hno : SorterD.ok s = false := by
               rw [hok5]
               unfold SorterD.okEnd
               rw [decide_eq_false (fun hh => by have h1 := hh.1; simp at hg16; omega), Bool.false_and]
              refine SV.seq' (SV.region ?_)
              refine sl 1 ms ?_
              refine SV.nil (SV.tn (SV.ret (SV.tr ?_)))
              refine d1 (.sc _) Try.results27 ?_ <;> (refine lbq ?_; first | (rw [hno]; done) | (rw [hno]; simp; done) | (rw [hno, Bool.eq_iff_iff]; simp; done) | (rw [hno]; rfl))
             ·skip   -- c15.F
              cases hc15
            ·skip   -- g16.F
             refine dy rfl (fb fld_impl_Sorter_7) ?_
             refine dy rfl (lb 0 7 [.sc _] agg_int sz_int (fun _ => rfl)) ?_
             refine dy rfl (s2 (.tmp 215) (.const ((Value.int IntKind.i64 0)))) ?_
             refine dq rfl pf ?_
             refine dq rfl ms ?_
             refine DW.split (d := 218) rfl (fun hg17 => ?_) (fun hg17 => ?_)
             ·skip   -- g17.T
              refine dn ?_
              refine dn ?_
              refine dn ?_
              refine dn ?_
              refine dq rfl pt ?_
              refine dq rfl ms ?_
              refine dn ?_
              refine dn ?_
              refine dn ?_
              refine dn ?_
              refine DW.mN rfl rfl rfl rfl (gle rfl) rfl rfl rfl (gle rfl) ?_
              refine DW.mN rfl rfl rfl rfl (gle rfl) rfl rfl rfl (gle rfl) ?_
              refine dn ?_
              refine dq rfl pt ?_
              refine DW.stores ?_
              refine SV.zend ?_
              refine SV.tn ?_
              refine SV.cond rfl (fun hc16 => ?_) (fun hc16 => ?_)
              ·skip   -- c16.T
               have hno : SorterD.ok s = false := by
                rw [hok5]
                unfold SorterD.okEnd
                rw [decide_eq_false (fun hh => by have h1 := hh.2.1; simp at hg17; exact hg17 h1), Bool.false_and]
               refine SV.seq' (SV.region ?_)
               refine sl 1 ms ?_
               refine SV.nil (SV.tn (SV.ret (SV.tr ?_)))
               refine d1 (.sc _) Try.results27 ?_ <;> (refine lbq ?_; first | (rw [hno]; done) | (rw [hno]; simp; done) | (rw [hno, Bool.eq_iff_iff]; simp; done) | (rw [hno]; rfl))
              ·skip   -- c16.F
               cases hc16
             ·skip   -- g17.F
              refine dy rfl (fb fld_impl_Sorter_4) ?_
              refine dy rfl (lb 0 4 [.ro _] agg_s_impl_Row sz_s_impl_Row (fun _ => rfl)) ?_
              refine dy rfl (ok_len (lf := .ro _) rfl elt_impl_Row.und rfl rfl) ?_
              refine dy rfl (s2 (.tmp 221) (.const ((Value.int IntKind.i64 0)))) ?_
              refine dq rfl pf ?_
              refine dq rfl ms ?_
              refine DW.split (d := 224) rfl (fun hg18 => ?_) (fun hg18 => ?_)
              ·skip   -- g18.T
               refine dn ?_
               refine dn ?_
               refine dn ?_
               refine dn ?_
               refine DW.mN rfl rfl rfl rfl (gle rfl) rfl rfl rfl (gle rfl) ?_
               refine DW.mN rfl rfl rfl rfl (gle rfl) rfl rfl rfl (gle rfl) ?_
               refine dn ?_
               refine dq rfl pt ?_
               refine DW.stores ?_
               refine SV.zend ?_
               refine SV.tn ?_
               refine SV.cond rfl (fun hc17 => ?_) (fun hc17 => ?_)
               ·skip   -- c17.T
                have hno : SorterD.ok s = false := by
                 rw [hok5]
                 unfold SorterD.okEnd
                 rw [decide_eq_false (fun hh => by have h1 := hh.2.2; simp at hg18; first | omega | (rw [List.length_eq_zero_iff] at h1; exact hg18 h1)), Bool.false_and]
                refine SV.seq' (SV.region ?_)
                refine sl 1 ms ?_
                refine SV.nil (SV.tn (SV.ret (SV.tr ?_)))
                refine d1 (.sc _) Try.results27 ?_ <;> (refine lbq ?_; first | (rw [hno]; done) | (rw [hno]; simp; done) | (rw [hno, Bool.eq_iff_iff]; simp; done) | (rw [hno]; rfl))
               ·skip   -- c17.F
                cases hc17
              ·skip   -- g18.F
               have hbd : decide (s.fRuns.length ≤ 1 ∧ s.fRightPos = 0 ∧ s.fOutput.length = 0) = true := decide_eq_true ⟨by simp at hg16; omega, by simpa using hg17, by first | (simpa using hg18) | (simp at hg18; omega) | (simp at hg18; rw [hg18]; rfl)⟩
               refine dy rfl (fb fld_impl_Sorter_5) ?_
               refine dy rfl (lb 0 5 [.ro _] agg_s_impl_Run sz_s_impl_Run (fun _ => rfl)) ?_
               refine dy rfl (fb fld_impl_Sorter_0) ?_
               refine dy rfl (lb 0 0 [.ro _] agg_s_impl_Row sz_s_impl_Row (fun _ => rfl)) ?_
               refine DW.m' [0] rfl (cl [(false, [.hd 0])] rfl Try.func59 (vflat_s s.fRuns (by omega) (by omega)) ⟨⟨[.ro _], rfl, ⟨rfl, trivial⟩⟩, trivial⟩) (fun hr => wantedY hr rfl rfl rfl (gle rfl) rfl rfl) (gle rfl) (gle rfl) (.inl rfl) (fun j hj => by
                 simp only [List.mem_cons, List.not_mem_nil, or_false] at hj
                 rcases hj with rfl
                 ·exact .inr ⟨(gle rfl), (gle rfl), .inl rfl⟩) ?_
               refine DW.m' [0] rfl (cl [(false, [.sc _])] rfl Try.func53 (vbags_t s.fRuns.flatten s.fInput (fun r hr => by obtain ⟨p, hp, hr2⟩ := List.mem_flatten.1 hr; exact hW.runs p hp r hr2) hW.inp (by omega) (by omega)) ⟨⟨[.hd 0], rfl, ⟨rfl, trivial⟩⟩, ⟨[.ro _], rfl, ⟨rfl, trivial⟩⟩, trivial⟩) (fun hr => wantedY hr rfl rfl rfl (gle rfl) rfl rfl) (gle rfl) (gle rfl) (.inl rfl) (fun j hj => by
                 simp only [List.mem_cons, List.not_mem_nil, or_false] at hj
                 rcases hj with rfl
                 ·exact .inl (by decide)) ?_
               refine dy rfl (s1 (.tmp 230)) ?_
               refine dq rfl pf ?_
               refine DW.stores ?_
               refine SV.zend ?_
               refine SV.tn ?_
               refine SV.cond rfl (fun hc18 => ?_) (fun hc18 => ?_)
               ·skip   -- c18.T
                have hno : SorterD.ok s = false := by
                 rw [hok5]
                 unfold SorterD.okEnd
                 rw [hbd, show R.eqBags s.fRuns.flatten s.fInput = false by simpa using hc18]; rfl
                refine SV.seq' (SV.region ?_)
                refine sl 1 ms ?_
                refine SV.nil (SV.tn (SV.ret (SV.tr ?_)))
                refine d1 (.sc _) Try.results27 ?_ <;> (refine lbq ?_; first | (rw [hno]; done) | (rw [hno]; simp; done) | (rw [hno, Bool.eq_iff_iff]; simp; done) | (rw [hno]; rfl))
               ·skip   -- c18.F
                have hbe : R.eqBags s.fRuns.flatten s.fInput = true := by simpa using hc18
                have hee : SorterD.ok s = if s.fPhase = 3 then decide (s.fRuns.length = 1 ∧ 0 ≤ s.fLeftPos ∧ s.fLeftPos ≤ (s.fInput.length : Int) - 1) else decide (s.fPhase = 4 ∧ s.fLeftPos = s.fInput.length) := by
                 rw [hok5]
                 unfold SorterD.okEnd
                 rw [hbd, hbe]
                 rfl
                refine SV.skip (SV.tn (SV.seq' (SV.seq' ?_)))
                refine SV.forget (L := [(1, V.one (.bp 0 0)), (2, V.one (.sc _))]) (B := [(27, [.ro _, .sc _, .ro _, .ro _, .ro _, .ro _, .sc _, .sc _, .sc _, .sc _])]) (O := []) (n := 1) ⟨rfl, rfl, trivial⟩ rfl trivial rfl ?_
                refine SV.region ?_
                refine sl 1 (fb fld_impl_Sorter_8) ?_
                refine sl 1 (lb 0 8 [.sc _] agg_int sz_int (fun _ => rfl)) ?_
                refine sl 1 (s2 (.tmp 234) (.const ((Value.int IntKind.i64 3)))) ?_
                refine SV.nil (SV.tn ?_)
                refine SV.cond rfl (fun hc19 => ?_) (fun hc19 => ?_)
                ·skip   -- c19.T
                 have hp3 : s.fPhase = 3 := by simpa using hc19
                 refine SV.seq' (SV.region ?_)
                 refine sl 1 (fb fld_impl_Sorter_5) ?_
                 refine sl 1 (lb 0 5 [.ro _] agg_s_impl_Run sz_s_impl_Run (fun _ => rfl)) ?_
                 refine sl 1 (ok_len (lf := .ro _) rfl elt_impl_Run.und rfl rfl) ?_
                 refine sl 1 (s2 (.tmp 238) (.const ((Value.int IntKind.i64 1)))) ?_
                 refine sl 1 ms ?_
                 refine SV.split (d := 240) rfl (fun hg19 => ?_) (fun hg19 => ?_)
                 ·skip   -- g19.T
                  have h1 : s.fRuns.length = 1 := by simp at hg19; omega
                  have hno : SorterD.ok s = decide (0 ≤ s.fLeftPos ∧ s.fLeftPos ≤ (s.fInput.length : Int) - 1) := by rw [hee, if_pos hp3, Bool.eq_iff_iff]; simp [h1]
                  refine sy 1 (fb fld_impl_Sorter_6) ?_
                  refine sy 1 (lb 0 6 [.sc _] agg_int sz_int (fun _ => rfl)) ?_
                  refine sy 1 (fb fld_impl_Sorter_0) ?_
                  refine sy 1 (lb 0 0 [.ro _] agg_s_impl_Row sz_s_impl_Row (fun _ => rfl)) ?_
                  refine sy 1 (ok_len (lf := .ro _) rfl elt_impl_Row.und rfl rfl) ?_
                  refine sy 1 (ok_s2 (v := .int .i64 ((s.fInput.length : Int) - 1)) (x := .tmp 245) (x' := .const ((Value.int IntKind.i64 1))) (VScal.one rfl) (VScal.one rfl) (fun ρ h1 h2 w => by go_simp; (try simp only [List.length_map]); rw [IntWalk.i64_left, IntWalk.wrap64_in _ ⟨by omega, by omega⟩]) rfl) ?_
                  refine SV.opY (OpMk.ok (cl [(false, [.sc _])] rfl Try.func71 (vin_s' s.fLeftPos 0 ((s.fInput.length : Int) - 1)) ⟨⟨[.sc _], rfl, ⟨rfl, trivial⟩⟩, ⟨[.sc _], rfl, ⟨rfl, trivial⟩⟩, ⟨[.sc _], rfl, ⟨rfl, trivial⟩⟩, trivial⟩)) rfl rfl rfl (gle rfl) rfl rfl ?_
                  refine sl 1 pt ?_
                  refine sl 1 ms ?_
                  refine SV.nil (SV.tn (SV.ret (SV.tr ?_)))
                  refine d1 (.sc _) Try.results27 ?_ <;> (refine lbq ?_; first | (rw [hno]; done) | (rw [hno]; simp; done) | (rw [hno, Bool.eq_iff_iff]; simp; done) | (rw [hno]; rfl))
                 ·skip   -- g19.F
                  have h1 : ¬ s.fRuns.length = 1 := by simp at hg19; omega
                  have hno : SorterD.ok s = false := by rw [hee, if_pos hp3, decide_eq_false (fun hh => h1 hh.1)]
                  refine sn ?_
                  refine sn ?_
                  refine sn ?_
                  refine sn ?_
                  refine sn ?_
                  refine sn ?_
                  refine sn ?_
                  refine sl 1 pf ?_
                  refine sl 1 ms ?_
                  refine SV.nil (SV.tn (SV.ret (SV.tr ?_)))
                  refine d1 (.sc _) Try.results27 ?_ <;> (refine lbq ?_; first | (rw [hno]; done) | (rw [hno]; simp; done) | (rw [hno, Bool.eq_iff_iff]; simp; done) | (rw [hno]; rfl))
                ·skip   -- c19.F
                 have hp3 : ¬ s.fPhase = 3 := by simpa using hc19
                 refine SV.skip (SV.tn (SV.seq' (SV.region ?_)))
                 refine sl 1 (fb fld_impl_Sorter_8) ?_
                 refine sl 1 (lb 0 8 [.sc _] agg_int sz_int (fun _ => rfl)) ?_
                 refine sl 1 (s2 (.tmp 250) (.const ((Value.int IntKind.i64 4)))) ?_
                 refine sl 1 ms ?_
                 refine SV.split (d := 252) rfl (fun hg20 => ?_) (fun hg20 => ?_)
                 ·skip   -- g20.T
                  have h1 : s.fPhase = 4 := by simpa using hg20
                  have hno : SorterD.ok s = decide (s.fLeftPos = s.fInput.length) := by rw [hee, if_neg hp3, Bool.eq_iff_iff]; simp [h1]
                  refine sy 1 (fb fld_impl_Sorter_6) ?_
                  refine sy 1 (lb 0 6 [.sc _] agg_int sz_int (fun _ => rfl)) ?_
                  refine sy 1 (fb fld_impl_Sorter_0) ?_
                  refine sy 1 (lb 0 0 [.ro _] agg_s_impl_Row sz_s_impl_Row (fun _ => rfl)) ?_
                  refine sy 1 (ok_len (lf := .ro _) rfl elt_impl_Row.und rfl rfl) ?_
                  refine sy 1 (s2 (.tmp 254) (.tmp 257)) ?_
                  refine sl 1 pt ?_
                  refine sl 1 ms ?_
                  refine SV.nil (SV.tn (SV.ret ?_))
                  refine d1 (.sc _) Try.results27 ?_ <;> (refine lbq ?_; first | (rw [hno]; done) | (rw [hno]; simp; done) | (rw [hno, Bool.eq_iff_iff]; simp; done) | (rw [hno]; rfl))
                 ·skip   -- g20.F
                  have h1 : ¬ s.fPhase = 4 := by simpa using hg20
                  have hno : SorterD.ok s = false := by rw [hee, if_neg hp3, decide_eq_false (fun hh => h1 hh.1)]
                  refine sn ?_
                  refine sn ?_
                  refine sn ?_
                  refine sn ?_
                  refine sn ?_
                  refine sn ?_
                  refine sl 1 pf ?_
                  refine sl 1 ms ?_
                  refine SV.nil (SV.tn (SV.ret ?_))
                  refine d1 (.sc _) Try.results27 ?_ <;> (refine lbq ?_; first | (rw [hno]; done) | (rw [hno]; simp; done) | (rw [hno, Bool.eq_iff_iff]; simp; done) | (rw [hno]; rfl))
end Go.Proofs.Ytpnbnbhifpcelaa
/- The reference's NewSorter; a sorter's copy: told by trees. -/
namespace Go.Proofs.Ytpnbnbhifpcelaa
open Go Go.RowKit V
set_option linter.unusedVariables false
set_option maxRecDepth 100000 in
set_option maxHeartbeats 2000000 in
theorem vruns13_s (X : List (List R)) (hp : ∀ p ∈ X, p.length ≤ 1000000000) (hX : X.length ≤ 1000000000) : VC Try.prog 118 [(false, [.seq 84 ((X).map tRun)])] false [(false, [.seq 84 ((X).map tRun)])] := by
 refine VC.enter Try.func118 rfl Try.ntmps118 (gle rfl) fun E hE => ?_
 refine SV.seq' (SV.region ?_)
 refine sl 0 ms ?_
 refine SV.nil (SV.tn (SV.seq' (SV.region ?_)))
 refine sm (ok_lit0 (kk := 0) elt_impl_Run rfl rfl rfl (gle rfl)) ?_
 refine sl 0 (mv (V.one (.hd 0))) ?_
 refine SV.nil (SV.tn (SV.seq' (SV.seq' (SV.region ?_))))
 refine sl 0 ms ?_
 refine SV.nil (SV.tn (SV.block ?_))
 refine SV.loopF (X := Nat) (fun (σ : VS) t => (((((VS.nil.new (.seq 84 ((X.take t).map tRun))).put 0 (σ.tm 0)).put 2 (σ.tm 2)).put 3 (V.flat false [.hd 0])).put 4 (V.flat false [.sc (.int .i64 ((t : Int)))]))) (fun t => t ≤ X.length) (fun t => X.length - t) ?_ ?_
 ·skip
  refine SV.again (fun i => [0].getD i 0) 0 ((Nat.zero_le _)) (pins hE rfl rfl) (VS.le.mk' (le_put (le_put (le_put (le_put (le_new le_nil) (V.le.keep (ag := false) (xs := [.ro _]) (ys := [.ro _]) rfl rfl ⟨rfl, trivial⟩)) (V.le.keep (ag := false) (xs := [.sc _]) (ys := [.sc _]) rfl rfl ⟨rfl, trivial⟩)) (V.le.keep (ag := false) (xs := [.hd 0]) (ys := [.hd 0]) rfl rfl ⟨⟨rfl, (gle rfl), (gle rfl)⟩, trivial⟩)) (V.le.keep (ag := false) (xs := [.sc _]) (ys := [.sc _]) rfl rfl ⟨(by first | rfl | (show Leaf.sc _ = Leaf.sc _; refine congrArg Leaf.sc ?_; first | rfl | go_num | (simp [cntAll]; done)) | (simp [cntAll]; done) | (simp; omega)), trivial⟩)) trivial ⟨.inr ⟨_, _, rfl, ?ob1_0, (gle rfl)⟩, trivial⟩ (new_ob nil_ob) (fun i j hi hj e => inj_list (l := [0]) (by decide) i j hi hj e))
  case ob1_0 =>
   show some (T.seq _ _) = some (T.seq _ _)
   rfl
 ·rintro t ht
  refine SV.seq' (SV.seq' (SV.region ?_))
  refine sl 0 ms ?_
  refine sl 0 (mv (V.one (.ro _))) ?_
  refine sl 0 (ok_len (lf := .ro _) rfl elt_impl_Run.und rfl rfl) ?_
  refine sl 0 (s2 (.tmp 6) (.tmp 8)) ?_
  refine SV.nil (SV.tn ?_)
  refine SV.cond rfl (fun hc0 => ?_) (fun hc0 => ?_)
  ·skip   -- c0.T
   have htl : t < X.length := by simpa using hc0
   obtain ⟨p, hx⟩ : ∃ p, X[t]? = some p := ⟨_, List.getElem?_eq_getElem htl⟩
   have hpl := hp p (List.mem_of_getElem? hx)
   refine SV.skip (SV.tn (SV.seq' (SV.block (SV.region ?_))))
   refine sl 0 (mv (V.one (.hd 0))) ?_
   refine sm (ok_lit0 (kk := 1) elt_impl_Row rfl rfl rfl (gle rfl)) ?_
   refine sl 0 (mv (V.one (.ro _))) ?_
   refine sl 0 ms ?_
   refine sl 0 (ok_index (n := 1) (lf := .ro _) rfl elt_impl_Run.und sz_impl_Run rfl rfl rfl (map_at hx)) ?_
   refine sl 0 (ok_field_el (p := .rp _) (off := 0) rfl rfl rfl fld_impl_Run_0) ?_
   refine sl 0 (ok_load_rp (ag := false) (m := 1) (ys := [.ro _]) rfl rfl agg_s_impl_Row sz_s_impl_Row (fun _ => rfl) (gle rfl) rfl) ?_
   refine sm (ok_append_ro (kk := 2) elt_impl_Row (ls := .hd 1) (lx := .ro _) rfl rfl rfl rfl rfl rfl (flat_impl_Row _) (by first | omega | (simp only [List.length_map]; omega) | (simp; done) | (simp; omega)) rfl (gle rfl)) ?_
   refine sl 0 (ok_build (zs := [.nl _]) (ys := [.hd 2]) (qs := [(0, [.hd 2])]) (pl := fun i => ([(0, 1)] : List (Nat × Nat))[i]?) rfl zero_impl_Run ⟨rfl, ⟨3, by decide, sz_impl_Row⟩, trivial⟩ ⟨⟨rfl, false, rfl, (fun _ => rfl), rfl⟩, trivial⟩ bld_impl_Run rfl) ?_
   refine sm (ok_lit1 (kk := 3) elt_impl_Run (ag := true) (xs := [.hd 2]) rfl rfl rfl rfl (fun h => by cases h) (outs_c rfl outs_n) (by simp [two]) rfl (gle rfl)) ?_
   refine sm (ok_append (kk := 4) elt_impl_Run (ls := .hd 0) (lx := .hd 3) rfl rfl rfl rfl rfl rfl (by intro i h1 h2; first | (cases h1; done) | (cases h1; cases h2)) (by first | omega | (simp; omega)) rfl (gle rfl)) ?_
   refine sl 0 (mv (V.one (.hd 4))) ?_
   refine SV.nil (SV.bn (SV.tn (SV.region ?_)))
   refine sl 0 ms ?_
   refine sl 0 (s2 (.tmp 10) (.const ((Value.int IntKind.i64 1)))) ?_
   refine sl 0 ms ?_
   refine SV.nil (SV.tn ?_)
   refine SV.again (fun i => [4].getD i 0) (t + 1) (⟨by omega, by omega⟩) (pins hE rfl rfl) (VS.le.mk' (le_put (le_put (le_put (le_put (le_new le_nil) (V.le.keep (ag := false) (xs := [.ro _]) (ys := [.ro _]) rfl rfl ⟨rfl, trivial⟩)) (V.le.keep (ag := false) (xs := [.sc _]) (ys := [.sc _]) rfl rfl ⟨rfl, trivial⟩)) (V.le.keep (ag := false) (xs := [.hd 4]) (ys := [.hd 0]) rfl rfl ⟨⟨rfl, (gle rfl), (gle rfl)⟩, trivial⟩)) (V.le.keep (ag := false) (xs := [.sc _]) (ys := [.sc _]) rfl rfl ⟨(by first | rfl | (show Leaf.sc _ = Leaf.sc _; refine congrArg Leaf.sc ?_; first | rfl | go_num | (simp [cntAll]; done)) | (simp [cntAll]; done) | (simp; omega)), trivial⟩)) trivial ⟨.inr ⟨_, _, rfl, ?ob2_0, (gle rfl)⟩, trivial⟩ (new_ob nil_ob) (fun i j hi hj e => inj_list (l := [4]) (by decide) i j hi hj e))
   case ob2_0 =>
    show some (T.seq _ _) = some (T.seq _ _)
    rw [List.take_add_one, hx]; first | done | rfl | (simp [tRun]; done)
  ·skip   -- c0.F
   have hte : X.take t = X := List.take_of_length_le (by simp at hc0; omega)
   refine SV.exit (SV.te (SV.te (SV.bh (SV.tn (SV.seq' (SV.region ?_))))))
   refine sl 0 (mv (V.one (.hd 0))) ?_
   refine sl 0 (mv (V.one (.hd 0))) ?_
   refine SV.nil (SV.tn (SV.ret ?_))
   refine d1 (.hd 0) Try.results118 ?_ <;> (refine lsq ?_; rw [hte])
set_option maxRecDepth 100000 in
set_option maxHeartbeats 2000000 in
theorem vcopys_s (s : SorterD) (hW : s.Wf) : VC Try.prog 79 [(true, tSorter s)] false [(true, tSorter (s))] := by
 refine VC.enter Try.func79 rfl Try.ntmps79 (gle rfl) fun E hE => ?_
 have hsz := hW.size
 refine SV.seq' (SV.region ?_)
 refine sm (ok_box (kk := 0) (ag := true) (xs := [.ro _, .sc _, .ro _, .ro _, .ro _, .ro _, .sc _, .sc _, .sc _, .sc _]) rfl rfl rfl (fun h => by cases h) rfl rfl (gle rfl)) ?_
 refine sm (ok_alloc (kk := 1) (xs := [.nl _, .sc _, .nl _, .nl _, .nl _, .nl _, .sc _, .sc _, .sc _, .sc _]) rfl rfl zero_impl_Sorter ⟨rfl, ⟨3, by decide, sz_impl_Row⟩, rfl, rfl, rfl, ⟨3, by decide, sz_impl_Row⟩, rfl, ⟨3, by decide, sz_impl_Row⟩, rfl, ⟨3, by decide, sz_impl_Row⟩, rfl, ⟨1, by decide, sz_impl_Run⟩, rfl, rfl, rfl, rfl, rfl, rfl, rfl, rfl, trivial⟩ rfl (gle rfl)) ?_
 refine SV.nil (SV.tn (SV.seq' (SV.region ?_)))
 refine sl 2 (lb 0 0 [.ro _, .sc _, .ro _, .ro _, .ro _, .ro _, .sc _, .sc _, .sc _, .sc _] agg_impl_Sorter sz_impl_Sorter (fun h => by cases h)) ?_
 refine sm (ok_alloc (kk := 2) (xs := [.nl _, .sc _, .nl _, .nl _, .nl _, .nl _, .sc _, .sc _, .sc _, .sc _]) rfl rfl zero_impl_Sorter ⟨rfl, ⟨3, by decide, sz_impl_Row⟩, rfl, rfl, rfl, ⟨3, by decide, sz_impl_Row⟩, rfl, ⟨3, by decide, sz_impl_Row⟩, rfl, ⟨3, by decide, sz_impl_Row⟩, rfl, ⟨1, by decide, sz_impl_Run⟩, rfl, rfl, rfl, rfl, rfl, rfl, rfl, rfl, trivial⟩ rfl (gle rfl)) ?_
 refine so (st (ag := true) [.ro _, .sc _, .ro _, .ro _, .ro _, .ro _, .sc _, .sc _, .sc _, .sc _] [.ro _, .sc _, .ro _, .ro _, .ro _, .ro _, .sc _, .sc _, .sc _, .sc _] sz_impl_Sorter (fun h => by cases h)) ?_
 refine SV.nil (SV.tn (SV.seq' (SV.region ?_)))
 refine sm (ok_lit0 (kk := 0) elt_impl_Row rfl rfl rfl (gle rfl)) ?_
 refine sl 3 (fb fld_impl_Sorter_0) ?_
 refine sl 3 (lb 0 0 [.ro _] agg_s_impl_Row sz_s_impl_Row (fun _ => rfl)) ?_
 refine sm (ok_append_ro (kk := 1) elt_impl_Row (ls := .hd 0) (lx := .ro _) rfl rfl rfl rfl rfl rfl (flat_impl_Row _) (by first | omega | (simp only [List.length_map]; omega) | (simp; done) | (simp; omega)) rfl (gle rfl)) ?_
 refine sl 3 (fb fld_impl_Sorter_0) ?_
 refine so (st (ag := false) [.hd 1] [.hd 1, .sc _, .ro _, .ro _, .ro _, .ro _, .sc _, .sc _, .sc _, .sc _] sz_s_impl_Row (fun _ => rfl)) ?_
 refine SV.nil (SV.tn (SV.seq' (SV.region ?_)))
 refine sm (ok_lit0 (kk := 2) elt_impl_Row rfl rfl rfl (gle rfl)) ?_
 refine sl 3 (fb fld_impl_Sorter_2) ?_
 refine sl 3 (lb 0 2 [.ro _] agg_s_impl_Row sz_s_impl_Row (fun _ => rfl)) ?_
 refine sm (ok_append_ro (kk := 3) elt_impl_Row (ls := .hd 2) (lx := .ro _) rfl rfl rfl rfl rfl rfl (flat_impl_Row _) (by first | omega | (simp only [List.length_map]; omega) | (simp; done) | (simp; omega)) rfl (gle rfl)) ?_
 refine sl 3 (fb fld_impl_Sorter_2) ?_
 refine so (st (ag := false) [.hd 3] [.hd 1, .sc _, .hd 3, .ro _, .ro _, .ro _, .sc _, .sc _, .sc _, .sc _] sz_s_impl_Row (fun _ => rfl)) ?_
 refine SV.nil (SV.tn (SV.seq' (SV.region ?_)))
 refine sm (ok_lit0 (kk := 4) elt_impl_Row rfl rfl rfl (gle rfl)) ?_
 refine sl 3 (fb fld_impl_Sorter_3) ?_
 refine sl 3 (lb 0 3 [.ro _] agg_s_impl_Row sz_s_impl_Row (fun _ => rfl)) ?_
 refine sm (ok_append_ro (kk := 5) elt_impl_Row (ls := .hd 4) (lx := .ro _) rfl rfl rfl rfl rfl rfl (flat_impl_Row _) (by first | omega | (simp only [List.length_map]; omega) | (simp; done) | (simp; omega)) rfl (gle rfl)) ?_
 refine sl 3 (fb fld_impl_Sorter_3) ?_
 refine so (st (ag := false) [.hd 5] [.hd 1, .sc _, .hd 3, .hd 5, .ro _, .ro _, .sc _, .sc _, .sc _, .sc _] sz_s_impl_Row (fun _ => rfl)) ?_
 refine SV.nil (SV.tn (SV.seq' (SV.region ?_)))
 refine sm (ok_lit0 (kk := 6) elt_impl_Row rfl rfl rfl (gle rfl)) ?_
 refine sl 3 (fb fld_impl_Sorter_4) ?_
 refine sl 3 (lb 0 4 [.ro _] agg_s_impl_Row sz_s_impl_Row (fun _ => rfl)) ?_
 refine sm (ok_append_ro (kk := 7) elt_impl_Row (ls := .hd 6) (lx := .ro _) rfl rfl rfl rfl rfl rfl (flat_impl_Row _) (by first | omega | (simp only [List.length_map]; omega) | (simp; done) | (simp; omega)) rfl (gle rfl)) ?_
 refine sl 3 (fb fld_impl_Sorter_4) ?_
 refine so (st (ag := false) [.hd 7] [.hd 1, .sc _, .hd 3, .hd 5, .hd 7, .ro _, .sc _, .sc _, .sc _, .sc _] sz_s_impl_Row (fun _ => rfl)) ?_
 refine SV.nil (SV.tn (SV.seq' (SV.region ?_)))
 refine sl 3 (fb fld_impl_Sorter_5) ?_
 refine sl 3 (lb 0 5 [.ro _] agg_s_impl_Run sz_s_impl_Run (fun _ => rfl)) ?_
 refine sm (cl [(false, [.hd 8])] rfl Try.func118 (vruns13_s s.fRuns (fun p hp => by have := hW.run hp; omega) (by omega)) ⟨⟨[.ro _], rfl, ⟨rfl, trivial⟩⟩, trivial⟩) ?_
 refine sl 3 (fb fld_impl_Sorter_5) ?_
 refine so (st (ag := false) [.hd 8] [.hd 1, .sc _, .hd 3, .hd 5, .hd 7, .hd 8, .sc _, .sc _, .sc _, .sc _] sz_s_impl_Run (fun _ => rfl)) ?_
 refine SV.nil (SV.tn (SV.seq' (SV.region ?_)))
 refine sl 3 (lb 2 0 [.hd 1, .sc _, .hd 3, .hd 5, .hd 7, .hd 8, .sc _, .sc _, .sc _, .sc _] agg_impl_Sorter sz_impl_Sorter (fun h => by cases h)) ?_
 refine so (st (ag := true) [.hd 1, .sc _, .hd 3, .hd 5, .hd 7, .hd 8, .sc _, .sc _, .sc _, .sc _] [.hd 1, .sc _, .hd 3, .hd 5, .hd 7, .hd 8, .sc _, .sc _, .sc _, .sc _] sz_impl_Sorter (fun h => by cases h)) ?_
 refine SV.nil (SV.tn (SV.ret ?_))
 apply SV.done (hf := Try.results79) (ht := rfl) (he := .inl rfl)
 case hr => exact (ResAll.cons (ResOk.cell (b := 1) (ag := true) (xs := [.hd 1, .sc _, .hd 3, .hd 5, .hd 7, .hd 8, .sc _, .sc _, .sc _, .sc _]) rfl rfl agg_impl_Sorter sz_impl_Sorter (fun h => by cases h)) ResAll.nil')
 case h2 => simp [two]
 refine ⟨rfl, ⟨?_, ?_, ?_, ?_, ?_, ?_, ?_, ?_, ?_, ?_, trivial⟩, trivial⟩ <;> first | rfl | ((refine lsq ?_; simp))
end Go.Proofs.Ytpnbnbhifpcelaa
/- States told by trees: drawn regions that write boxes. -/
namespace Go.Proofs.Ytpnbnbhifpcelaa.V
open Go Go.RowKit
set_option linter.unusedVariables false
variable {P : Program} {E : Env} {N : Nat} {σ σ' τ : VS} {o : Oper} {a : Act} {w ws : World} {G Gs : Ghost} {Q : Exit → Act → World → Prop} {ad : Option Addr} {len cap : Nat} {zs0 : List Int}
structure SameC (E : Env) (τ : VS) (wl : List Nat) (G : Ghost) (ws v : World) : Prop where
 below : Same E ws v
 block : ∀ b, b < ws.heap.size → v.heap[b]? = ws.heap[b]? ∨ (∃ c, c ∈ wl ∧ c < τ.bs.length ∧ b = G.β c) ∨ ∃ (i ver : Nat) (ty : TypeId) (es : List (List T)) (n : Nat) (cs cs' : Array Value), τ.ob i = some (ver, .seq ty es) ∧ (G.vl i).ownBlock = some b ∧ Sz ty n ∧ ws.heap[b]? = some (.cells cs ty (0, 0)) ∧ v.heap[b]? = some (.cells cs' ty (0, 0)) ∧ cs'.size = cs.size ∧ ∀ q N' c', G.vl i = .slice (some ⟨b, q, none⟩) N' c' → ∀ p, p < es.length * n → cs'[q + p]? = cs[q + p]?
theorem SameC.refl (E : Env) (τ : VS) (wl : List Nat) (G : Ghost) (w : World) : SameC E τ wl G w w := ⟨Same.refl _ _, fun _ _ => .inl rfl⟩
structure LinkC (E : Env) (N : Nat) (τ : VS) (wl : List Nat) (ws : World) (Gs : Ghost) (fr : List Nat) (σ : VS) (w : World) (G : Ghost) : Prop where
 start : ∃ a, Rel E N τ a ws Gs
 same : SameC E τ wl Gs ws w
 vl : ∀ i, i < τ.nx → G.vl i = Gs.vl i
 β : ∀ b, b < τ.bs.length → G.β b = Gs.β b
 nx : τ.nx ≤ σ.nx
 bs : τ.bs.length ≤ σ.bs.length
 fresh : ∀ i ∈ fr, i < σ.nx ∧ ∀ b, (G.vl i).ownBlock = some b → ws.heap.size ≤ b
 nb : ∀ b, τ.bs.length ≤ b → b < σ.bs.length → ws.heap.size ≤ G.β b
def DC (E : Env) (N : Nat) (τ : VS) (wl : List Nat) (fr : List Nat) (σ : VS) (Ψ : World → Ghost → Act → World → Prop) : Prop := ∀ ws Gs a w G, Rel E N σ a w G → LinkC E N τ wl ws Gs fr σ w G → Ψ ws Gs a w
abbrev SC (E : Env) (τ : VS) (wl : List Nat) (ws : World) (Gs : Ghost) : World → Prop := fun v => SameC E τ wl Gs ws v
theorem SV.drawCT {id : Nat} {l : List Oper} (wl : List Nat) (ps : Pl) (zs : List Nat) (hm : P.follows .mixedOrders = true) (hB : planB .any l.toArray ps zs = true) (h : DC E N τ wl [] τ fun ws Gs a w => wpPi P l.toArray Q (SC E τ wl ws Gs) zs ps a w) : SV E N τ ((Code.region id l.toArray true).wp P Q) :=
 fun a w G hr => region_plan (SC E τ wl w.drew G) ps zs hm hB (SameC.refl _ _ _ _ _) fun _ => h w.drew G a w.drew G hr.drew ⟨⟨a, hr.drew⟩, SameC.refl _ _ _ _ _, fun _ _ => rfl, fun _ _ => rfl, Nat.le_refl _, Nat.le_refl _, fun i hi => (by cases hi), fun b h1 h2 => absurd h2 (Nat.not_lt.2 h1)⟩
variable {l : List Oper} {zs : List Nat} {ps : Pl} {i d : Nat} {fr wl : List Nat}
theorem LinkC.put (h : LinkC E N τ wl ws Gs fr σ w G) {v : V} : LinkC E N τ wl ws Gs fr (σ.put d v) w G := ⟨h.start, h.same, h.vl, h.β, h.nx, h.bs, h.fresh, h.nb⟩
theorem LinkC.lite (h : LinkC E N τ wl ws Gs fr σ w G) {v : World} (s : SameC E τ wl Gs ws v) : Lite E 0 G w v :=
 ⟨fun b hb => (s.below.block b hb).trans (h.same.below.block b hb).symm, fun c hc => absurd hc (Nat.not_lt_zero c)⟩
theorem DC.q {V' : V} (ho : nthO l i = some o) (h : OpL P E N 0 σ o V') (hg : o.guard = none) (hd : o.dst = some d) (hdN : d < N) (hQ : ∀ c (a : Act) v w, Q (.panic c) (a.put o.dst v) w → Q (.panic c) a w) (k : DC E N τ wl fr (σ.put d V') fun ws Gs a w => wpPi P l.toArray Q (SC E τ wl ws Gs) zs ps a w) :
  DC E N τ wl fr σ fun ws Gs a w => wpPi P l.toArray Q (SC E τ wl ws Gs) zs (.q i ps) a w := fun ws Gs a w G hr hl => by
 obtain ⟨u, h1, h2⟩ := h a w G hr
 refine pi_take (v := u) ho (fun c a w => hQ c a u w) (by simp [Region.wanted, hg]) (fun v hv => h1 v (hl.lite hv)) ?_
 rw [hd]
 exact k ws Gs _ w G (hr.put hdN h2) hl.put
theorem SameC.cell (h : Rel E N τ a ws Gs) {v : World} (s : SameC E τ wl Gs ws v) {j ver g q0 k' n p : Nat} {ty : TypeId} {fs : List (List T)} {N' c : Nat} {e : List T} {u : Value} (hj : τ.ob j = some (ver, .seq ty fs)) (hv : Gs.vl j = .slice (some ⟨g, q0, none⟩) N' c) (he : fs[k']? = some e) (hen : e.length = n) (hp : p < n) (hcell : ws.cell? ⟨g, q0 + k' * n + p, none⟩ = some u) : v.cell? ⟨g, q0 + k' * n + p, none⟩ = some u := by
 have hroot : (Gs.vl j).ownBlock = some g := by rw [hv]; rfl
 have hft := root_ft h hj hroot
 rcases s.block g (lt_blk hcell) with h9 | ⟨c', -, hc', h9⟩ | ⟨i2, v2, ty2, es2, n2, cs, cs', f1, f2, f3, f4, f5, f6, f7⟩
 ·exact (World.cell?_of_block h9).trans hcell
 ·rw [h9] at hft
  exact absurd hft (h.boxft c' j hc' (by rw [hj]; simp))
 ·have hji : j = i2 := by
   rcases Nat.decEq j i2 with hne | hne
   ·exact absurd (root_ft h f1 f2) (h.disj j i2 g (by rw [hj]; simp) (by rw [f1]; simp) hne hft)
   ·exact hne
  subst hji
  rw [hj] at f1
  cases f1
  obtain ⟨-, hown, -⟩ := h.objs j ver _ hj
  cases hown with
  | seq n3 hp3 hz3 hn3 xs hown3 Gs3 hr3 hone3 hF3 hG3 hne3 hd3 =>
   have hnn : n2 = n := (f3.eq hz3).trans ((hn3 e (get_mem he)).symm.trans hen)
   subst hnn
   have hlt : k' * n2 + p < fs.length * n2 := at_lt (get_lt he) hp
   rw [cell_of_row _ _ _ _ _ _ f4] at hcell
   rw [cell_of_row _ _ _ _ _ _ f5]
   have g1 := f7 q0 N' c hv (k' * n2 + p) hlt
   rw [← Nat.add_assoc] at g1
   exact g1.trans hcell
theorem SameC.cellB (h : Rel E N τ a ws Gs) {v : World} (s : SameC E τ wl Gs ws v) {j ver g q0 k' n p : Nat} {ty : TypeId} {fs : List (List T)} {N' c : Nat} {e : List T} {u : Value} (hj : τ.ob j = some (ver, .seq ty fs)) (hv : Gs.vl j = .slice (some ⟨g, q0, none⟩) N' c) (he : fs[k']? = some e) (hen : e.length = n) (hp : p < n) (hcell : v.cell? ⟨g, q0 + k' * n + p, none⟩ = some u) : ws.cell? ⟨g, q0 + k' * n + p, none⟩ = some u := by
 obtain ⟨-, hown, -⟩ := h.objs j ver _ hj
 cases hown with
 | seq n3 hp3 hz3 hn3 xs hown3 Gs3 hr3 hone3 hF3 hG3 hne3 hd3 =>
  obtain ⟨a', c', e1, -, -, -, e5⟩ := own_slice hown3
  rw [hv] at e1
  injection e1 with e1 e2 e3
  obtain ⟨g', q', f1, f2, f3, f4, f5⟩ := e5 (Nat.lt_of_le_of_lt (Nat.zero_le _) (get_lt he))
  rw [f1] at e1
  injection e1 with e1
  injection e1 with e1 e1'
  have hn' : n3 = n := (hn3 e (get_mem he)).symm.trans hen
  subst hn' e1 e1'
  have hxl : xs.length = fs.length * n3 := hown3.1
  have hlt : k' * n3 + p < xs.length := by rw [hxl]; exact at_lt (get_lt he) hp
  have h6 := f4 (k' * n3 + p) xs[k' * n3 + p] (List.getElem?_eq_getElem hlt)
  rw [← Nat.add_assoc] at h6
  have h7 := s.cell h hj hv he hen hp h6
  rw [hcell] at h7
  rw [h6, h7]
theorem DC.el {m : Nat} {ty : TypeId} {x : Operand} {j k' n o' : Nat} {ag : Bool} {es : List T} {ys : List Leaf} (hn : nthO l i = some o) (ho : o.op = .load ty x) (hx : σ.ev x = V.one (.ep j k' n o')) (hob : j < τ.nx ∧ σ.ob j = τ.ob j) (hc : σ.cells (.ep j k' n o') = some es) (hag : ∀ w, (isAgg ty).run Try.prog w = .ok ag w) (hm : Sz ty m) (h1 : ag = false → m = 1) (hml : m ≤ es.length)
  (hy : (List.range m).map (fun q => match es[q]? with | some t => σ.cellLeaf (.ep j k' n o') q t | none => .dead) = ys) (hg : o.guard = none) (hd : o.dst = some d) (hdN : d < N) (hQ : ∀ c (a : Act) v w, Q (.panic c) (a.put o.dst v) w → Q (.panic c) a w) (k : DC E N τ wl fr (σ.put d (V.flat ag ys)) fun ws Gs a w => wpPi Try.prog l.toArray Q (SC E τ wl ws Gs) zs ps a w) :
  DC E N τ wl fr σ fun ws Gs a w => wpPi Try.prog l.toArray Q (SC E τ wl ws Gs) zs (.q i ps) a w := fun ws Gs a w G hr hl => by
 obtain ⟨u, b, q, h2, h3, h4⟩ := load_el ho hx hc hag hm h1 hml hy hr
 refine pi_take (v := u) hn (fun c a w => hQ c a u w) (by simp [Region.wanted, hg]) (fun v hv => h3 v fun p y hp hcell => ?_) ?_
 ·have h5 := hr.ev x
  rw [hx, vone] at h5
  obtain ⟨⟨-, g, q0, M, c, h6, h7⟩, -⟩ := h5
  rw [h2] at h7
  injection h7 with h7
  injection h7 with h7
  injection h7 with h7 h8
  subst h7 h8
  obtain ⟨⟨ver, s⟩, e1, e2⟩ := Option.bind_eq_some_iff.1 hc
  obtain ⟨-, hown, ty', fs, hs⟩ := hr.objs j ver s e1
  have hs' : s = .seq ty' fs := hs
  subst hs'
  obtain ⟨e, he, e3⟩ := Option.bind_eq_some_iff.1 e2
  have hen : e.length = n := by
   cases hb : Nat.beq e.length n with
   | true => exact Nat.eq_of_beq_eq_true hb
   | false => simp only [hb] at e3; cases e3
  have hed : e.drop o' = es := by
   have hb : Nat.beq e.length n = true := by rw [hen]; exact Nat.beq_refl n
   simpa [hb] using e3
  have hlen : o' + p < n := by
   have : (e.drop o').length = es.length := by rw [hed]
   rw [List.length_drop, hen] at this
   omega
  obtain ⟨ar, hrs⟩ := hl.start
  have hj : τ.ob j = some (ver, .seq ty' fs) := by rw [← hob.2]; exact e1
  have hv0 : Gs.vl j = .slice (some ⟨b, q0, none⟩) M c := by rw [← hl.vl j hob.1]; exact h6
  have hcell' : w.cell? ⟨b, q0 + k' * n + (o' + p), none⟩ = some y := by rw [← Nat.add_assoc]; exact hcell
  have := hv.cell hrs hj hv0 he hen hlen (hl.same.cellB hrs hj hv0 he hen hlen hcell')
  rwa [← Nat.add_assoc] at this
 ·rw [hd]
  exact k _ _ _ _ _ (hr.put hdN h4) hl.put
theorem DC.m (ho : nthO l i = some o) (h : OpMk P E N none σ o σ') (hg : o.guard = none) (hbs : σ'.bs.length = σ.bs.length) (hnx : σ.nx ≤ σ'.nx)
  (k : DC E N τ wl fr σ' fun ws Gs a w => wpPi P l.toArray Q (SC E τ wl ws Gs) zs ps a w) : DC E N τ wl fr σ fun ws Gs a w => wpPi P l.toArray Q (SC E τ wl ws Gs) zs (.m i ps) a w := fun ws Gs a w G hr hl => by
 refine pi_step ho fun K hK => ?_
 rw [if_pos (by simp [Region.wanted, hg])]
 refine h a w G K Q hr fun a' w' G' hr' hm => ?_
 have hblk : ∀ b, b < w.heap.size → w'.heap[b]? = w.heap[b]? := fun b hb => by
  rcases hm.block b hb with h1 | ⟨j, v, ty, es, n, cs, cs', e1, -⟩
  ·exact h1
  ·cases e1
 have hsame : SameC E τ wl Gs ws w' := by
  refine ⟨hl.same.below.trans hm.below, fun b hb => ?_⟩
  have h1 := hblk b (Nat.lt_of_lt_of_le hb hl.same.below.size)
  rcases hl.same.block b hb with h2 | h2 | ⟨i2, v2, ty2, es2, n2, ds, ds', f1, f2, f3, f4, f5, f6, f7⟩
  ·exact .inl (h1.trans h2)
  ·exact .inr (.inl h2)
  ·exact .inr (.inr ⟨i2, v2, ty2, es2, n2, ds, ds', f1, f2, f3, f4, h1.trans f5, f6, f7⟩)
 exact hK.out a' w' hsame fun _ => k ws Gs a' w' G' hr' ⟨hl.start, hsame, fun j hj => (hm.vl j (Nat.lt_of_lt_of_le hj hl.nx)).trans (hl.vl j hj), fun b hb => (hm.β b (Nat.lt_of_lt_of_le hb hl.bs)).trans (hl.β b hb), Nat.le_trans hl.nx hnx, by rw [hbs]; exact hl.bs, fun j hj => ⟨Nat.lt_of_lt_of_le (hl.fresh j hj).1 hnx, fun b hb => (hl.fresh j hj).2 b (by rw [← hm.vl j (hl.fresh j hj).1]; exact hb)⟩, fun b h1 h2 => by rw [hbs] at h2; rw [hm.β b h2]; exact hl.nb b h1 h2⟩
theorem LinkC.box (h : LinkC E N τ wl ws Gs fr σ w G) {v : World} (s : SameC E τ wl Gs ws v) {c : Nat} (hc : c < τ.bs.length) (hw : c ∉ wl) : v.heap[G.β c]? = w.heap[G.β c]? := by
 obtain ⟨ar, hrs⟩ := h.start
 have key : ∀ {u : World}, SameC E τ wl Gs ws u → u.heap[Gs.β c]? = ws.heap[Gs.β c]? := fun {u} t => by
  obtain ⟨-, us, h2, -⟩ := hrs.boxes c _ _ (List.getElem?_eq_getElem hc)
  rcases t.block (Gs.β c) (lt_of_block h2) with h1 | ⟨c', hc1, hc2, h1⟩ | ⟨i, ver, ty, es, n, cs, cs', e1, e2, -⟩
  ·exact h1
  ·exact absurd (hrs.inj c c' hc hc2 h1) (fun e => hw (e ▸ hc1))
  ·exact absurd (root_ft hrs e1 e2) (hrs.boxft c i hc (by rw [e1]; simp))
 rw [h.β c hc]
 exact (key s).trans (key h.same).symm
theorem DC.lb {b i' m : Nat} {ty ty' : TypeId} {x : Operand} {ag : Bool} {xs ys : List Leaf} (ho : nthO l i = some o) (hop : o.op = .load ty x) (hx : σ.ev x = V.one (.bp b i')) (hb : σ.bs[b]? = some (ty', xs)) (hag : ∀ w, (isAgg ty).run P w = .ok ag w) (hm : ∃ inf, P.info? ty = some inf ∧ inf.size = m) (h1 : ag = false → m = 1)
  (hy : (xs.drop i').take m = ys) (hyl : ys.length = m) (hbt : b < τ.bs.length) (hw : b ∉ wl) (hg : o.guard = none) (hd : o.dst = some d) (hdN : d < N) (hQ : ∀ c (a : Act) v w, Q (.panic c) (a.put o.dst v) w → Q (.panic c) a w)
  (k : DC E N τ wl fr (σ.put d (V.flat ag ys)) fun ws Gs a w => wpPi P l.toArray Q (SC E τ wl ws Gs) zs ps a w) : DC E N τ wl fr σ fun ws Gs a w => wpPi P l.toArray Q (SC E τ wl ws Gs) zs (.q i ps) a w := fun ws Gs a w G h hl => by
 have h2 := h.ev x
 rw [hx, vone] at h2
 obtain ⟨⟨-, h3⟩, -⟩ := h2
 obtain ⟨-, us, h4, h5, h6⟩ := h.boxes b ty' xs hb
 have h7 : ((us.drop i').take m).length = m := by
  have : ((xs.drop i').take m).length = m := by rw [hy]; exact hyl
  simp only [List.length_take, List.length_drop] at this ⊢
  omega
 refine pi_take (v := cval ag ((us.drop i').take m)) ho (fun c a w => hQ c a _ w) (by simp [Region.wanted, hg]) (fun v hv => ?_) ?_
 ·have hr := load_run (P := P) (w := v) (b := G.β b) (i := i') (us := (us.drop i').take m) hag hm h1 h7 fun j u hj => by
   rw [cell_of_row v _ _ _ _ _ ((hl.box hv hbt hw).trans h4)]
   simpa using cut_get hj
  simp [execOp, hop, h3, Instr.loadAt, Instr.sureAddr, hr, Result.andThen]
 ·rw [hd]
  exact k ws Gs _ w G (h.put hdN (vflat.2 ⟨_, rfl, by rw [h7, hyl], fun j y u hj hu => (h6 (i' + j) y u (cut_get (by rw [hy]; exact hj)) (cut_get hu)).1⟩)) hl.put
theorem DC.store {b i' m : Nat} {ty ty' : TypeId} {x y : Operand} {ag : Bool} {xs zs1 : List Leaf} (ho : o.op = .store ty x y) (hx : σ.ev x = V.one (.bp b i')) (hy : σ.ev y = V.flat ag zs1) (hb : σ.bs[b]? = some (ty', xs)) (hm : ∃ inf, P.info? ty = some inf ∧ inf.size = m) (h1 : ag = false → m = 1)
  (hzl : zs1.length = m) (hi : i' + m ≤ xs.length) (hlv' : zs1.all Leaf.live = true) (hd : o.dst = none) {ys : List Leaf} (hk : xs.take i' ++ zs1 ++ xs.drop (i' + zs1.length) = ys) (hn : nthO l i = some o) (hbw : b ∈ wl) (hbt : b < τ.bs.length) (hg : o.guard = none) (k : DC E N τ wl fr (σ.setb b ty' ys) fun ws Gs a w => wpPi P l.toArray Q (SC E τ wl ws Gs) zs ps a w) : DC E N τ wl fr σ fun ws Gs a w => wpPi P l.toArray Q (SC E τ wl ws Gs) zs (.m i ps) a w := fun ws Gs a w G h hl => by
 refine pi_step hn fun K hK => ?_
 rw [if_pos (by simp [Region.wanted, hg])]
 subst hk
 have h2 := h.ev x
 rw [hx, vone] at h2
 obtain ⟨⟨-, h3⟩, -⟩ := h2
 have hlv : ∀ x ∈ zs1, x.live = true := List.all_eq_true.1 hlv'
 have h4 := h.ev y
 rw [hy, vflat] at h4
 obtain ⟨vs, h5, h6, h7⟩ := h4
 obtain ⟨hB, us, h8, h9, h10⟩ := h.boxes b ty' xs hb
 have hone : ∀ (j : Nat) (x : Leaf) (u : Value), zs1[j]? = some x → vs[j]? = some u → Holds G σ E w x u ∧ u.oneCell' = true := fun j x u hj hu => ⟨h7 j x u hj hu, (h7 j x u hj hu).one (hlv x (get_mem hj))⟩
 have hr := store_run (P := P) (w := w) (b := G.β b) (i := i') (us := vs) (ag := ag) hm h1 (h6.trans hzl) (fun u hu => by
  obtain ⟨j, hj, rfl⟩ := List.getElem_of_mem hu
  exact (hone j zs1[j] vs[j] (by simp [show j < zs1.length by omega]) (by simp [hj])).2) (fun k hk => by
  rw [cell_of_row w _ _ _ _ _ h8]
  simp [show i' + k < us.length by omega]) fun k hk => by simp [World.frozen?, h8]
 have hsm : SameC E τ wl Gs ws (w.setCells (G.β b) i' vs) := by
  refine ⟨⟨(setCells_below _ _ _ _ _ (Nat.le_refl (G.β b))).os.trans hl.same.below.os, (setCells_below _ _ _ _ _ (Nat.le_refl (G.β b))).tape.trans hl.same.below.tape, (setCells_below _ _ _ _ _ (Nat.le_refl (G.β b))).output.trans hl.same.below.output, Nat.le_trans hl.same.below.size (setCells_below _ _ _ _ _ (Nat.le_refl (G.β b))).size, fun q hq => (setCells_far _ _ _ _ q fun e => by subst e; exact hB.elim (fun h1 => Nat.lt_irrefl _ (Nat.lt_of_lt_of_le hq.1 h1)) hq.2).trans (hl.same.below.block q hq)⟩, fun q hq => ?_⟩
  by_cases hqb : q = G.β b
  ·exact .inr (.inl ⟨b, hbw, hbt, hqb.trans (hl.β b hbt)⟩)
  ·have h1 := setCells_far (G.β b) vs i' w q hqb
   rcases hl.same.block q hq with h2 | h2 | ⟨i2, v2, ty2, es2, n2, ds, ds', f1, f2, f3, f4, f5, f6, f7⟩
   ·exact .inl (h1.trans h2)
   ·exact .inr (.inl h2)
   ·exact .inr (.inr ⟨i2, v2, ty2, es2, n2, ds, ds', f1, f2, f3, f4, h1.trans f5, f6, f7⟩)
 have hrel := h.setbox hb ⟨(setCells_below _ _ _ _ _ (Nat.le_refl (G.β b))).os, (setCells_below _ _ _ _ _ (Nat.le_refl (G.β b))).tape, (setCells_below _ _ _ _ _ (Nat.le_refl (G.β b))).output, (setCells_below _ _ _ _ _ (Nat.le_refl (G.β b))).size, fun k hk => setCells_far (G.β b) vs i' w k fun e => by subst e; exact hB.elim (fun h1 => Nat.lt_irrefl _ (Nat.lt_of_lt_of_le hk.1 h1)) hk.2⟩ (fun k hk => setCells_far (G.β b) vs i' w k hk) (setCells_heap _ _ _ _ us ty' h8 (by omega)) (by simp; omega)
    (cat_get (R := fun x u => Holds G σ E w x u ∧ u.oneCell' = true) h9 h6 (by omega) h10 hone)
 refine wp_skipped (w' := w.setCells (G.β b) i' vs) ?_ (by
  rw [hd]
  exact hK.out _ _ hsm fun _ => k ws Gs _ _ G hrel ⟨hl.start, hsm, hl.vl, hl.β, hl.nx, by simpa [VS.setb] using hl.bs, hl.fresh, fun c h1 h2 => hl.nb c h1 (by simpa [VS.setb] using h2)⟩)
 simp [execOp, ho, h3, h5, Instr.storeAt, Instr.sureAddr, hr, Result.andThen]
theorem DC.alloc {ty : TypeId} {z : Value} {xs : List Leaf} {kk : Nat} (hn : nthO l i = some o) (hk : σ.bs.length = kk) (ho : o.op = .alloc ty) (hz : ∀ w, (zeroValue ty).run P w = .ok z w) (hxs : ZL xs z.cells.toList) (hd : o.dst = some d) (hdN : d < N) (hg : o.guard = none)
  (k : DC E N τ wl fr ((σ.box ty xs).put d (V.one (.bp kk 0))) fun ws Gs a w => wpPi P l.toArray Q (SC E τ wl ws Gs) zs ps a w) : DC E N τ wl fr σ fun ws Gs a w => wpPi P l.toArray Q (SC E τ wl ws Gs) zs (.m i ps) a w := fun ws Gs a w G hr hl => by
 refine pi_step hn fun K hK => ?_
 rw [if_pos (by simp [Region.wanted, hg])]
 subst hk
 obtain ⟨G', h1, h2, h3, h4⟩ := hr.alloc (ty := ty) hxs.len hxs.holds
 have hb : Below w.heap.size w (w.alloc (.cells z.cells.toList.toArray ty)) := (Below.refl _ _).alloc (Nat.le_refl _) _
 have hsame : SameC E τ wl Gs ws (w.alloc (.cells z.cells.toList.toArray ty)) := by
  refine ⟨hl.same.below.trans (.of_below (hb.mono hr.low)), fun b hb' => ?_⟩
  have h5 := hb.block b (Nat.lt_of_lt_of_le hb' hl.same.below.size)
  rcases hl.same.block b hb' with e2 | e2 | ⟨i2, v2, ty2, es2, n2, ds, ds', f1, f2, f3, f4, f5, f6, f7⟩
  ·exact .inl (h5.trans e2)
  ·exact .inr (.inl e2)
  ·exact .inr (.inr ⟨i2, v2, ty2, es2, n2, ds, ds', f1, f2, f3, f4, h5.trans f5, f6, f7⟩)
 refine wp_value (v := .pointer (some ⟨w.heap.size, 0, none⟩)) (w' := w.alloc (.cells z.cells.toList.toArray ty)) ?_ ?_
 ·simp [execOp, ho, Instr.alloc, hz, newVar, newRow, Result.andThen]
 rw [hd]
 refine hK.out _ _ hsame fun _ => k ws Gs _ _ G' (h1.put hdN (vone.2 ⟨⟨by simp, by rw [h2]⟩, .inr rfl⟩)) ⟨hl.start, hsame, fun j hj => by rw [h3]; exact hl.vl j hj, fun b hb' => (h4 b (Nat.lt_of_lt_of_le hb' hl.bs)).trans (hl.β b hb'), hl.nx, ?_, fun j hj => ⟨(hl.fresh j hj).1, fun b hb' => (hl.fresh j hj).2 b (by rw [← h3]; exact hb')⟩, fun b h5 h6 => ?_⟩
 ·show τ.bs.length ≤ (σ.bs ++ [(ty, xs)]).length
  rw [List.length_append]
  have := hl.bs
  omega
 ·have h6' : b < (σ.bs ++ [(ty, xs)]).length := h6
  rw [List.length_append, List.length_singleton] at h6'
  rcases Nat.lt_or_ge b σ.bs.length with h7 | h7
  ·rw [h4 b h7]; exact hl.nb b h5 h7
  ·rw [show b = σ.bs.length by omega, h2]
   exact hl.same.below.size
theorem DC.alt {ps1 ps2 : Pl} {j : Nat} (h1 : DC E N τ wl fr σ fun ws Gs a w => wpPi P l.toArray Q (SC E τ wl ws Gs) zs (.m i ps1) a w) (h2 : DC E N τ wl fr σ fun ws Gs a w => wpPi P l.toArray Q (SC E τ wl ws Gs) zs (.m j ps2) a w) :
  DC E N τ wl fr σ fun ws Gs a w => wpPi P l.toArray Q (SC E τ wl ws Gs) zs (.alt i ps1 j ps2) a w := fun ws Gs a w G hr hl => ⟨h1 ws Gs a w G hr hl, h2 ws Gs a w G hr hl⟩
theorem DC.stores (h : SV E N σ (wpZ P l.toArray Q zs)) : DC E N τ wl fr σ fun ws Gs a w => wpPi P l.toArray Q (SC E τ wl ws Gs) zs .nil a w := fun ws Gs a w G hr hl => pi_end (h a w G hr)
end Go.Proofs.Ytpnbnbhifpcelaa.V
/- What an argument's slice is as a value: opened, it is a plain value that may be stored and copied; shut, it may be read as the tree again. -/
namespace Go.Proofs.Ytpnbnbhifpcelaa.V
open Go Go.RowKit
set_option linter.unusedVariables false
variable {P : Program} {E : Env} {N : Nat} {σ : VS} {K : Act → World → Prop}
theorem Inn.move {ok : Nat → Prop} {w w' : World} {t : T} {v : Value} (h : Inn ok w t v) (hk : ∀ b, ok b → b < w.heap.size → b < w'.heap.size ∧ w'.heap[b]? = w.heap[b]?) : Inn ok w' t v := by
 induction h with
 | any h => exact .any h
 | lit h => exact .lit h
 | @seq ty es a c n hp hz hn hc hm h0 b o us ha hb hcell hr ih =>
  refine .seq n hp hz hn hc hm h0 b o us ha (fun h => ?_) (fun k e j t h1 h2 => ?_) ih
  ·obtain ⟨h1, h2⟩ := hb h
   exact ⟨h1, (hk b h1 h2).1⟩
  ·have hne : es ≠ [] := fun h => by rw [h] at h1; simp at h1
   obtain ⟨h3, h4⟩ := hb hne
   exact (World.cell?_of_block (hk b h3 h4).2).trans (hcell k e j t h1 h2)
def Reads (E : Env) (t : T) (u : Value) : Prop := ∀ w, Same E E.w0 w → Inn E.old w t u
theorem Rel.reads {a : Act} {w : World} {G : Ghost} (h : Rel E N σ a w G) {t : T} {u : Value} (hu : Inn E.old w t u) : Reads E t u := fun w' hs => hu.move fun b hb _ => ⟨Nat.lt_of_lt_of_le hb.1 hs.size, (hs.block b hb).trans (h.below.block b hb).symm⟩
theorem Rel.reput {a : Act} {w : World} {G : Ghost} (h : Rel E N σ a w G) {d : Nat} {v : V} (hN : d < N) (hv : VHolds G σ E w v (a.tmps.getD d undef)) : Rel E N (σ.put d v) a w G := by
 have k := h.put (d := d) (v := v) (u := a.tmps.getD d undef) hN hv
 have e : a.put (some d) (a.tmps.getD d undef) = a := by
  have hs' : d < a.tmps.size := by rw [h.nsz]; exact hN
  cases a with
  | mk tmps defers =>
   have : tmps.setIfInBounds d (tmps.getD d undef) = tmps := by
    apply Array.ext_getElem?
    intro i
    rw [Array.getElem?_setIfInBounds]
    split
    ·rename_i hi; subst hi
     simp at hs'
     simp [hs']
    ·rfl
   show (⟨tmps.setIfInBounds d (tmps.getD d undef), defers⟩ : Act) = ⟨tmps, defers⟩
   rw [this]
 rwa [e] at k
theorem SV.shutRo {d : Nat} {t : T} {u : Value} (hs : σ.tm d = V.one (.sc u)) (hu : Reads E t u) (hN : d < N) (k : SV E N (σ.put d (V.one (.ro t))) K) : SV E N σ K := fun a w G h => by
 have h1 := h.tmps d
 rw [hs, vone] at h1
 have h2 : a.tmps.getD d undef = u := h1.1
 exact k a w G (h.reput hN (vone.2 ⟨by rw [h2]; exact hu w h.below, .inr (by rw [h2]; exact (hu w h.below).one)⟩))
theorem DW.shutRo {τ : VS} {fr : List Nat} {cl : Bool} {Ψ : World → Ghost → Act → World → Prop} {d : Nat} {t : T} {u : Value} (hs : σ.tm d = V.one (.sc u)) (hu : Reads E t u) (hN : d < N) (k : DW E N τ fr cl (σ.put d (V.one (.ro t))) Ψ) : DW E N τ fr cl σ Ψ := fun ws Gs a w G h hl => by
 have h1 := h.tmps d
 rw [hs, vone] at h1
 have h2 : a.tmps.getD d undef = u := h1.1
 exact k ws Gs a w G (h.reput hN (vone.2 ⟨by rw [h2]; exact hu w h.below, .inr (by rw [h2]; exact (hu w h.below).one)⟩)) hl.put
end Go.Proofs.Ytpnbnbhifpcelaa.V
/- States told by trees: calls that are handed a box, in regions whose order is drawn; bound methods; functions that hand a box's cells on; all but the first elements of a slice of the call's own. -/
namespace Go.Proofs.Ytpnbnbhifpcelaa.V
open Go Go.RowKit
set_option linter.unusedVariables false
variable {P : Program} {E : Env} {N nb : Nat} {σ σ' τ : VS} {o : Oper} {a : Act} {w ws : World} {G Gs : Ghost} {Q : Exit → Act → World → Prop} {K : Act → World → Prop}
theorem callH_at {d b : Nat} {f : FuncId} {xs : List Operand} {ty : TypeId} {ls ls' : List T} {ins rs : List (Bool × List T)} {tup : Bool} {ys L0 : List Leaf} {L : List (Bool × List Leaf)} (hk : ansLs σ.nx ((false, ls') :: rs) = (false, L0) :: L)
  (hc : VH P f ty ls ins ls' tup rs) (hbx : σ.bs[b]? = some (ty, ys)) (hys : σ.outs ys ls) (h2 : ys.Pairwise two) (hls : ls'.length = ys.length) (hx : σ.argsH xs ins) (hd : o.dst = some d) (hdN : d < N) (h : Rel E N σ a w G) (hrun : (execOp a.eval o).run P w = .ok (.enter f (Value.pointer (some ⟨G.β b, 0, none⟩) :: xs.map a.eval).toArray) w)
  {K : Act → World → Prop} {Q : Exit → Act → World → Prop} (k : ∀ a' w' G', Rel E N (((ansSs ((σ.kills ys).setb b ty (ys.map fun _ => .dead)) ((false, ls') :: rs)).setb b ty L0).put d ⟨tup, L⟩) a' w' G' → Same E w w' → (∀ c, c < σ.bs.length → G'.β c = G.β c ∧ (c ≠ b → w'.heap[G.β c]? = w.heap[G.β c]?)) → K a' w') : o.wp P a w K Q := by
 have hbl := get_lt hbx
 obtain ⟨hB, us0, b1, b2, b3⟩ := h.boxes b _ _ hbx
 obtain ⟨hy1, hy2⟩ := outs_get hys
 have hout : ∀ x ∈ ys, ∃ t, σ.out x = some t := fun x hx => by
  obtain ⟨j, hj⟩ := List.getElem?_of_mem hx
  have hjl : j < ls.length := by rw [← hy1]; exact get_lt hj
  obtain ⟨y, e1, e2⟩ := hy2 j ls[j] (List.getElem?_eq_getElem hjl)
  rw [hj] at e1
  cases e1
  exact ⟨_, e2⟩
 obtain ⟨F, hF⟩ : ∃ F : Nat → Nat → Prop, F = fun j k => ∃ y, ys[j]? = some y ∧ y.foot G k := ⟨_, rfl⟩
 have hFi : ∀ j k, F j k → ∃ i, Leaf.hd i ∈ ys ∧ σ.ob i ≠ none ∧ G.ft i k := fun j k hk => by
  rw [hF] at hk
  obtain ⟨y, e1, e2⟩ := hk
  obtain ⟨i, rfl, hi, hf⟩ := h.foots e2 (hout y (get_mem e1))
  exact ⟨i, get_mem e1, hi, hf⟩
 have hcl : G.β b < w.heap.size := lt_of_block b1
 have hFl : ∀ k, (∃ j, F j k) → k < w.heap.size := fun k ⟨j, hk⟩ => by
  obtain ⟨i, -, hi, hf⟩ := hFi j k hk
  exact (h.ftlt i k hi hf).2
 have hFb : ∀ j k, F j k → k ≠ G.β b := fun j k hk e => by
  obtain ⟨i, -, hi, hf⟩ := hFi j k hk
  exact h.boxft b i hbl hi (by rw [← e]; exact hf)
 have hnot : ∀ k, E.old k → k ≠ G.β b ∧ ¬ ∃ j, F j k := fun k hk => ⟨fun e => by
  subst e
  exact hB.elim (fun h1 => by have := hk.1; omega) hk.2, fun ⟨j, hj⟩ => by
  obtain ⟨i, -, hi, hf⟩ := hFi j k hj
  exact (h.ftlt i k hi hf).1.elim (fun h1 => by have := hk.1; omega) hk.2⟩
 have hcall := hc w (G.β b) us0 F hcl hFl (xs.map a.eval) b1 (b2.trans hy1) (fun j t u hj hu => by
  obtain ⟨y, e1, e2⟩ := hy2 j t hj
  rw [hF]
  exact (h.out (b3 j y u e1 hu).1 e2).mono fun k hk => ⟨y, e1, hk⟩) (fun i j k hi hj => by rw [hF] at hi hj; exact foot_inj h hout h2 hi hj) hFb (h.argsH (E' := Env.bx w (G.β b) (fun k => ∃ j, F j k) hcl hFl) (fun k hk => ⟨Nat.lt_of_lt_of_le hk.1 h.low, fun e => Or.elim e (hnot k hk).1 (hnot k hk).2⟩) hx)
 unfold Oper.wp
 rw [hrun]
 refine hcall.mono fun e w' ⟨us', uss, F', g0, g1, g2, g3, g4, g5, g6⟩ => ?_
 subst g2
 have hsame : Same E w w' := ⟨g6.os, g6.tape, g6.output, g6.size, fun k hk => g6.block k ⟨Nat.lt_of_lt_of_le hk.1 h.low, fun e => e.elim (hnot k hk).1 (hnot k hk).2⟩⟩
 obtain ⟨g7, g8⟩ := g3 0 false ls' us' rfl rfl
 have hone : ∀ (j : Nat) (u : Value), us'[j]? = some u → u.oneCell' = true := fun j u hu => by
  have hj : j < ls'.length := by rw [← g7]; exact get_lt hu
  exact (g8 j ls'[j] u (List.getElem?_eq_getElem hj) hu).one
 have k0 := h.lose (us' := us') (w' := w') hbx hout hsame (fun k hk hkb hkF => g6.block k ⟨hk, fun e => e.elim hkb fun ⟨j, hj⟩ => by
  rw [hF] at hj
  obtain ⟨y, e1, e2⟩ := hj
  exact hkF ⟨y, get_mem e1, e2⟩⟩) g0 (g7.trans hls) hone
 obtain ⟨σ1, hσ⟩ : ∃ σ1, σ1 = (σ.kills ys).setb b ty (ys.map fun _ => .dead) := ⟨_, rfl⟩
 rw [← hσ] at k0 k
 have hlive : ∀ i, σ1.ob i ≠ none → σ.ob i ≠ none ∧ ¬ Leaf.hd i ∈ ys := fun i hi => by
  have h1 : (bif ys.any (isHd i) then none else σ.ob i) ≠ none := by rw [hσ] at hi; exact hi
  cases hc : ys.any (isHd i) with
  | true => rw [hc] at h1; exact absurd rfl h1
  | false =>
   rw [hc] at h1
   refine ⟨h1, fun hm => ?_⟩
   have : ys.any (isHd i) = true := List.any_eq_true.2 ⟨_, hm, Nat.beq_refl i⟩
   rw [hc] at this; cases this
 have hbn : σ1.bs.length = σ.bs.length := by rw [hσ]; show (σ.bs.set b _).length = _; simp
 have hnx : σ1.nx = σ.nx := by rw [hσ]; rfl
 obtain ⟨G', k1, k2, k3, k4, k5, k6, k7, k8⟩ := k0.addAlls ((false, ls') :: rs) (us' :: uss) F' (by simp [g1]) g3 (fun q j k hk => by
  obtain ⟨e1, e2, e3⟩ := g5 q j k hk
  rcases e1 with e1 | e1 | ⟨j', hj'⟩
  ·have e1' : w.heap.size ≤ k := e1
   exact ⟨⟨fun i hi hf => (h.fresh e1').1 i (hlive i hi).1 hf, fun c' hc' => (h.fresh e1').2 c' (by rw [← hbn]; exact hc')⟩, .inl (Nat.le_trans h.low e1'), e2⟩
  ·exact absurd e1 e3
  ·obtain ⟨i, hm, hi, hf⟩ := hFi j' k hj'
   refine ⟨⟨fun i' hi' hf' => ?_, fun c' hc' e => ?_⟩, (h.ftlt i k hi hf).1, e2⟩
   ·obtain ⟨q1, q2⟩ := hlive i' hi'
    by_cases hii : i' = i
    ·subst hii; exact q2 hm
    ·exact h.disj i' i k q1 hi hii hf' hf
   ·exact h.boxft c' i (by rw [← hbn]; exact hc') hi (by rw [e]; exact hf)) g4
 rw [hnx, hk] at k3 k4
 have k3' : L.length = rs.length := by simpa using k3
 obtain ⟨m1, -, m3⟩ := k4 0 false L0 us' rfl rfl
 have hbs1 : (ansSs σ1 ((false, ls') :: rs)).bs[b]? = some (ty, ys.map fun _ => .dead) := by
  rw [ansSs_bsH, hσ]
  show (σ.bs.set b _)[b]? = _
  rw [List.getElem?_set_self hbl]
 have r1 := k1.setbox (xs' := L0) (us' := us') (w' := w') hbs1 (Same.refl _ _) (fun _ _ => rfl) (by rw [k7]; exact g0) m1 fun j x u hx hu => ⟨m3 j x u hx hu, hone j u hu⟩
 rw [hd]
 have hup : ∀ x u, Holds G' (ansSs σ1 ((false, ls') :: rs)) E w' x u → Holds G' ((ansSs σ1 ((false, ls') :: rs)).setb b ty L0) E w' x u := fun x u hx => by
  refine ⟨?_, hx.2⟩
  have hx1 := hx.1
  cases x with
  | bp b' o' => exact ⟨by show b' < ((ansSs σ1 ((false, ls') :: rs)).bs.set b (ty, L0)).length; rw [List.length_set]; exact hx1.1, hx1.2⟩
  | _ => exact hx1
 refine k _ _ _ (r1.put hdN ⟨uss, g1.trans k3'.symm, ?_, fun q ag zs us hq hu => ?_⟩) hsame fun c hc => ⟨by rw [show ({ G' with } : Ghost).β = G.β from k7], fun hne => ?_⟩
 ·congr 1
  apply List.ext_getElem?
  intro q
  rw [List.getElem?_zipWith, List.getElem?_zipWith]
  cases hq : L[q]? with
  | none =>
   have : rs[q]? = none := by rw [List.getElem?_eq_none_iff] at hq ⊢; omega
   rw [this]
  | some p =>
   obtain ⟨ag, xs'⟩ := p
   have hcl : q < uss.length := by have := get_lt hq; omega
   obtain ⟨-, ⟨ts, hts⟩, -⟩ := k4 (q + 1) ag xs' uss[q] (by simpa using hq) (by simp [hcl])
   have hts' : rs[q]? = some (ag, ts) := by simpa using hts
   rw [hts', List.getElem?_eq_getElem hcl]
 ·obtain ⟨e1, -, e3⟩ := k4 (q + 1) ag zs us (by simpa using hq) (by simpa using hu)
  exact ⟨e1, fun j x u hj hu' => hup x u (e3 j x u hj hu')⟩
 ·obtain ⟨-, us1, q2, -⟩ := h.boxes c _ _ (List.getElem?_eq_getElem hc)
  refine g6.block (G.β c) ⟨lt_of_block q2, fun e => ?_⟩
  rcases e with e | ⟨j, hj⟩
  ·exact hne (h.inj c b hc hbl e)
  ·obtain ⟨i, -, hi, hf⟩ := hFi j _ hj
   exact h.boxft c i hc hi hf
def OpB (P : Program) (E : Env) (N : Nat) (wl : List Nat) (σ : VS) (o : Oper) (σ' : VS) : Prop :=
 ∀ a w G (K : Act → World → Prop) (Q : Exit → Act → World → Prop), Rel E N σ a w G → (∀ a' w' G', Rel E N σ' a' w' G' → Same E w w' → (∀ c, c < σ.bs.length → G'.β c = G.β c ∧ (c ∉ wl → w'.heap[G.β c]? = w.heap[G.β c]?)) → K a' w') → o.wp P a w K Q
theorem OpB.ok {wl : List Nat} (h : OpB P E N wl σ o σ') : OpOk P E N σ o σ' := fun a w G K Q hr k => h a w G K Q hr fun a' w' G' hr' _ _ => k a' w' G' hr'
theorem OpMk.b {c : Option Nat} (h : OpMk P E N c σ o σ') : OpB P E N [] σ o σ' := fun a w G K Q hr k => h a w G K Q hr fun a' w' G' hr' hm => k a' w' G' hr' hm.below fun b hb => ⟨hm.β b hb, fun _ => by
 obtain ⟨-, us, h2, -⟩ := hr.boxes b _ _ (List.getElem?_eq_getElem hb)
 rcases hm.block (G.β b) (lt_of_block h2) with h1 | ⟨i, v, ty, es, n, cs, cs', -, e2, e3, -⟩
 ·exact h1
 ·exact absurd (root_ft hr e2 e3) (hr.boxft b i hb (by rw [e2]; simp))⟩
theorem ok_callHB {d b : Nat} {f : FuncId} {x0 : Operand} {xs : List Operand} {ats : Array TypeId} {ty : TypeId} {ls ls' : List T} {ins rs : List (Bool × List T)} {tup : Bool} {ys L0 : List Leaf} {L : List (Bool × List Leaf)} (hk : ansLs σ.nx ((false, ls') :: rs) = (false, L0) :: L) (ho : o.op = .call { callee := .value (.func f), args := (x0 :: xs).toArray, argTypes := ats }) (hb : ∃ fn c, P.funcs[f]? = some fn ∧ fn.body = some c ∧ fn.name ≠ "runtime.NumGoroutine")
  (hc : VH P f ty ls ins ls' tup rs) (hx0 : σ.ev x0 = V.one (.bp b 0)) (hbx : σ.bs[b]? = some (ty, ys)) (hys : σ.outs ys ls) (h2 : ys.Pairwise two) (hls : ls'.length = ys.length) (hx : σ.argsH xs ins) (hd : o.dst = some d) (hdN : d < N) :
  OpB P E N [b] σ o (((ansSs ((σ.kills ys).setb b ty (ys.map fun _ => .dead)) ((false, ls') :: rs)).setb b ty L0).put d ⟨tup, L⟩) := fun a w G K Q h k => by
 obtain ⟨fn, c, h1, hb2, h2'⟩ := hb
 have hx0v : a.eval x0 = .pointer (some ⟨G.β b, 0, none⟩) := by
  have := h.ev x0
  rw [hx0, vone] at this
  exact this.1.2
 have hev : (x0 :: xs).map a.eval = Value.pointer (some ⟨G.β b, 0, none⟩) :: xs.map a.eval := by rw [List.map_cons, hx0v]
 have hrun : (execOp a.eval o).run P w = .ok (.enter f ((x0 :: xs).map a.eval).toArray) w := by
  simp [execOp, ho, resolve, Act.eval, Deferred.ofValue, invoke, callFunc, h1, hb2, h2', Result.andThen]
 rw [hev] at hrun
 exact callH_at hk hc hbx hys h2 hls hx hd hdN h hrun fun a' w' G' hr' hs hbb => k a' w' G' hr' hs fun c hc => ⟨(hbb c hc).1, fun hn => (hbb c hc).2 fun e => hn (by rw [e]; exact List.mem_singleton.2 rfl)⟩
/-! ### Drawn regions of whose loads all are of boxes -/
structure SameX (E : Env) (τ : VS) (wl : List Nat) (G : Ghost) (ws v : World) : Prop where
 below : Same E ws v
 boxes : ∀ c, c < τ.bs.length → c ∉ wl → v.heap[G.β c]? = ws.heap[G.β c]?
theorem SameX.refl (E : Env) (τ : VS) (wl : List Nat) (G : Ghost) (w : World) : SameX E τ wl G w w := ⟨Same.refl _ _, fun _ _ _ => rfl⟩
structure LinkX (E : Env) (N : Nat) (τ : VS) (wl : List Nat) (ws : World) (Gs : Ghost) (σ : VS) (w : World) (G : Ghost) : Prop where
 same : SameX E τ wl Gs ws w
 β : ∀ b, b < τ.bs.length → G.β b = Gs.β b
 bs : τ.bs.length ≤ σ.bs.length
def DX (E : Env) (N : Nat) (τ : VS) (wl : List Nat) (σ : VS) (Ψ : World → Ghost → Act → World → Prop) : Prop := ∀ ws Gs a w G, Rel E N σ a w G → LinkX E N τ wl ws Gs σ w G → Ψ ws Gs a w
abbrev SX (E : Env) (τ : VS) (wl : List Nat) (ws : World) (Gs : Ghost) : World → Prop := fun v => SameX E τ wl Gs ws v
theorem SV.drawX {id : Nat} {l : List Oper} (wl : List Nat) (ps : Pl) (zs : List Nat) (hm : P.follows .mixedOrders = true) (hB : planB .any l.toArray ps zs = true) (h : DX E N τ wl τ fun ws Gs a w => wpPi P l.toArray Q (SX E τ wl ws Gs) zs ps a w) : SV E N τ ((Code.region id l.toArray true).wp P Q) :=
 fun a w G hr => region_plan (SX E τ wl w.drew G) ps zs hm hB (SameX.refl _ _ _ _ _) fun _ => h w.drew G a w.drew G hr.drew ⟨SameX.refl _ _ _ _ _, fun _ _ => rfl, Nat.le_refl _⟩
variable {l : List Oper} {zs : List Nat} {ps : Pl} {i d : Nat} {wl : List Nat}
theorem LinkX.put (h : LinkX E N τ wl ws Gs σ w G) {v : V} : LinkX E N τ wl ws Gs (σ.put d v) w G := ⟨h.same, h.β, h.bs⟩
theorem LinkX.lite (h : LinkX E N τ wl ws Gs σ w G) {v : World} (s : SameX E τ wl Gs ws v) : Lite E 0 G w v :=
 ⟨fun b hb => (s.below.block b hb).trans (h.same.below.block b hb).symm, fun c hc => absurd hc (Nat.not_lt_zero c)⟩
theorem DX.q {V' : V} (ho : nthO l i = some o) (h : OpL P E N 0 σ o V') (hg : o.guard = none) (hd : o.dst = some d) (hdN : d < N) (hQ : ∀ c (a : Act) v w, Q (.panic c) (a.put o.dst v) w → Q (.panic c) a w) (k : DX E N τ wl (σ.put d V') fun ws Gs a w => wpPi P l.toArray Q (SX E τ wl ws Gs) zs ps a w) :
  DX E N τ wl σ fun ws Gs a w => wpPi P l.toArray Q (SX E τ wl ws Gs) zs (.q i ps) a w := fun ws Gs a w G hr hl => by
 obtain ⟨u, h1, h2⟩ := h a w G hr
 refine pi_take (v := u) ho (fun c a w => hQ c a u w) (by simp [Region.wanted, hg]) (fun v hv => h1 v (hl.lite hv)) ?_
 rw [hd]
 exact k ws Gs _ w G (hr.put hdN h2) hl.put
theorem LinkX.box (h : LinkX E N τ wl ws Gs σ w G) {v : World} (s : SameX E τ wl Gs ws v) {c : Nat} (hc : c < τ.bs.length) (hw : c ∉ wl) : v.heap[G.β c]? = w.heap[G.β c]? := by
 rw [h.β c hc]
 exact (s.boxes c hc hw).trans (h.same.boxes c hc hw).symm
theorem DX.lb {b i' m : Nat} {ty ty' : TypeId} {x : Operand} {ag : Bool} {xs ys : List Leaf} (ho : nthO l i = some o) (hop : o.op = .load ty x) (hx : σ.ev x = V.one (.bp b i')) (hb : σ.bs[b]? = some (ty', xs)) (hag : ∀ w, (isAgg ty).run P w = .ok ag w) (hm : ∃ inf, P.info? ty = some inf ∧ inf.size = m) (h1 : ag = false → m = 1)
  (hy : (xs.drop i').take m = ys) (hyl : ys.length = m) (hbt : b < τ.bs.length) (hw : b ∉ wl) (hg : o.guard = none) (hd : o.dst = some d) (hdN : d < N) (hQ : ∀ c (a : Act) v w, Q (.panic c) (a.put o.dst v) w → Q (.panic c) a w)
  (k : DX E N τ wl (σ.put d (V.flat ag ys)) fun ws Gs a w => wpPi P l.toArray Q (SX E τ wl ws Gs) zs ps a w) : DX E N τ wl σ fun ws Gs a w => wpPi P l.toArray Q (SX E τ wl ws Gs) zs (.q i ps) a w := fun ws Gs a w G h hl => by
 have h2 := h.ev x
 rw [hx, vone] at h2
 obtain ⟨⟨-, h3⟩, -⟩ := h2
 obtain ⟨-, us, h4, h5, h6⟩ := h.boxes b ty' xs hb
 have h7 : ((us.drop i').take m).length = m := by
  have : ((xs.drop i').take m).length = m := by rw [hy]; exact hyl
  simp only [List.length_take, List.length_drop] at this ⊢
  omega
 refine pi_take (v := cval ag ((us.drop i').take m)) ho (fun c a w => hQ c a _ w) (by simp [Region.wanted, hg]) (fun v hv => ?_) ?_
 ·have hr := load_run (P := P) (w := v) (b := G.β b) (i := i') (us := (us.drop i').take m) hag hm h1 h7 fun j u hj => by
   rw [cell_of_row v _ _ _ _ _ ((hl.box hv hbt hw).trans h4)]
   simpa using cut_get hj
  simp [execOp, hop, h3, Instr.loadAt, Instr.sureAddr, hr, Result.andThen]
 ·rw [hd]
  exact k ws Gs _ w G (h.put hdN (vflat.2 ⟨_, rfl, by rw [h7, hyl], fun j y u hj hu => (h6 (i' + j) y u (cut_get (by rw [hy]; exact hj)) (cut_get hu)).1⟩)) hl.put
theorem DX.m {wl' : List Nat} (ho : nthO l i = some o) (h : OpB P E N wl' σ o σ') (hg : o.guard = none) (hwl : ∀ c, c < τ.bs.length → c ∈ wl' → c ∈ wl) (hbs : σ.bs.length ≤ σ'.bs.length)
  (k : DX E N τ wl σ' fun ws Gs a w => wpPi P l.toArray Q (SX E τ wl ws Gs) zs ps a w) : DX E N τ wl σ fun ws Gs a w => wpPi P l.toArray Q (SX E τ wl ws Gs) zs (.m i ps) a w := fun ws Gs a w G hr hl => by
 refine pi_step ho fun K hK => ?_
 rw [if_pos (by simp [Region.wanted, hg])]
 refine h a w G K Q hr fun a' w' G' hr' hs hb => ?_
 have hsame : SameX E τ wl Gs ws w' := ⟨hl.same.below.trans hs, fun c hc hn => by
  have h1 := (hb c (Nat.lt_of_lt_of_le hc hl.bs)).2 fun e => hn (hwl c hc e)
  rw [hl.β c hc] at h1
  exact h1.trans (hl.same.boxes c hc hn)⟩
 exact hK.out a' w' hsame fun _ => k ws Gs a' w' G' hr' ⟨hsame, fun c hc => ((hb c (Nat.lt_of_lt_of_le hc hl.bs)).1).trans (hl.β c hc), Nat.le_trans hl.bs hbs⟩
theorem DX.stores (h : SV E N σ (wpZ P l.toArray Q zs)) : DX E N τ wl σ fun ws Gs a w => wpPi P l.toArray Q (SX E τ wl ws Gs) zs .nil a w := fun ws Gs a w G hr hl => pi_end (h a w G hr)
/-! ### Functions that hand a box's cells on -/
theorem ok_callPatch {b : Nat} {f : FuncId} {x0 : Operand} {ats : Array TypeId} {ty : TypeId} {ys ys' : List Leaf} {g : List Value → List Value} (ho : o.op = .call { callee := .value (.func f), args := [x0].toArray, argTypes := ats }) (hb : ∃ fn c, P.funcs[f]? = some fn ∧ fn.body = some c ∧ fn.name ≠ "runtime.NumGoroutine")
  (hx0 : σ.ev x0 = V.one (.bp b 0)) (hbx : σ.bs[b]? = some (ty, ys))
  (hc : ∀ us : List Value, us.length = ys.length → (∀ (j : Nat) (l : Leaf) (u : Value) (ty : TypeId) (es : List (List T)), ys[j]? = some l → σ.tr l = some (.seq ty es) → us[j]? = some u → ∃ (ad : Option Addr) (c : Nat), u = .slice ad es.length c) →
   VH P f ty (us.map .lit) [] ((g us).map .lit) true [] ∧ (g us).length = ys'.length ∧ ∀ (j : Nat) (y : Leaf) (u : Value), ys'[j]? = some y → (g us)[j]? = some u → (∃ i : Nat, ys[i]? = some y ∧ us[i]? = some u) ∨ (y = .sc u ∧ u.oneCell' = true))
  (hd : o.dst = some d) (hdN : d < N) : OpOk P E N σ o ((σ.setb b ty ys').put d ⟨true, []⟩) := fun a w G K Q h k => by
 obtain ⟨fn, c, h1, h2, h2'⟩ := hb
 obtain ⟨hB, us, b1, b2, b3⟩ := h.boxes b _ _ hbx
 have hone : ∀ (j : Nat) (u : Value), us[j]? = some u → u.oneCell' = true := fun j u hu => by
  have hj : j < ys.length := by rw [← b2]; exact get_lt hu
  exact (b3 j ys[j] u (List.getElem?_eq_getElem hj) hu).2
 obtain ⟨hvh, hgl, hg⟩ := hc us b2 fun j l u ty es hj ht hu => inn_len (h.tree (b3 j l u hj hu).1 ht)
 have hcl : G.β b < w.heap.size := lt_of_block b1
 have hcall := hvh w (G.β b) us (fun _ _ => False) hcl (fun b ⟨j, hj⟩ => hj.elim) [] b1 (by simp) (fun j t u hj hu => by
  rw [List.getElem?_map, hu] at hj
  cases hj
  exact .lit (hone j u hu)) (fun i j b hi => hi.elim) (fun j b hb => hb.elim) ⟨rfl, fun c ag ts v hc => by simp at hc⟩
 have hx0v : a.eval x0 = .pointer (some ⟨G.β b, 0, none⟩) := by
  have := h.ev x0
  rw [hx0, vone] at this
  exact this.1.2
 have hrun : (execOp a.eval o).run P w = .ok (.enter f ([x0].map a.eval).toArray) w := by
  simp [execOp, ho, resolve, Act.eval, Deferred.ofValue, invoke, callFunc, h1, h2, h2', Result.andThen]
 have hev : [x0].map a.eval = [Value.pointer (some ⟨G.β b, 0, none⟩)] := by rw [List.map_cons, hx0v]; rfl
 unfold Oper.wp
 rw [hrun, hev]
 refine hcall.mono fun e w' ⟨us', uss, F', g0, g1, g2, g3, g4, g5, g6⟩ => ?_
 obtain rfl : uss = [] := List.eq_nil_of_length_eq_zero g1
 subst g2
 obtain ⟨g7, g8⟩ := g3 0 false _ us' rfl rfl
 have hus : us' = g us := by
  apply List.ext_getElem?
  intro j
  rcases Nat.lt_or_ge j (g us).length with hj | hj
  ·have hj' : j < us'.length := by rw [g7]; simpa using hj
   have q3 := g8 j (.lit (g us)[j]) us'[j] (by simp [hj]) (List.getElem?_eq_getElem hj')
   rw [List.getElem?_eq_getElem hj', List.getElem?_eq_getElem hj]
   exact congrArg some (own_lit q3)
  ·rw [List.getElem?_eq_none hj, List.getElem?_eq_none (by rw [g7]; simpa using hj)]
 subst hus
 have hnot : ∀ k, E.old k → k ≠ G.β b := fun k hk e => by
  subst e
  exact hB.elim (fun h1 => by have := hk.1; omega) hk.2
 obtain ⟨w1, hw1⟩ : ∃ w1 : World, w1 = { w with heap := w.heap.setIfInBounds (G.β b) (.cells (g us).toArray ty (0, 0)) } := ⟨_, rfl⟩
 have hfar : ∀ k, k ≠ G.β b → w1.heap[k]? = w.heap[k]? := fun k hk => by
  rw [hw1]
  exact Array.getElem?_setIfInBounds_ne (fun e => hk e.symm)
 have hnew : w1.heap[G.β b]? = some (.cells (g us).toArray ty (0, 0)) := by
  rw [hw1]
  show (w.heap.setIfInBounds (G.β b) _)[G.β b]? = _
  rw [Array.getElem?_setIfInBounds_self_of_lt hcl]
 have hsz : w1.heap.size = w.heap.size := by rw [hw1]; exact Array.size_setIfInBounds
 have hsm : Same E w w1 := ⟨by rw [hw1], by rw [hw1], by rw [hw1], by rw [hsz]; exact Nat.le_refl _, fun k hk => hfar k (hnot k hk)⟩
 have hrel := h.setbox (us' := g us) (w' := w1) (xs' := ys') hbx hsm hfar hnew hgl fun j x u hx hu => by
  rcases hg j x u hx hu with ⟨i, hi, hui⟩ | ⟨rfl, ho1⟩
  ·exact b3 i x u hi hui
  ·exact ⟨⟨rfl, .inr ho1⟩, ho1⟩
 have hbel : Below w1.heap.size w1 w' := ⟨g6.os.trans (by rw [hw1]; rfl), g6.tape.trans (by rw [hw1]; rfl), g6.output.trans (by rw [hw1]; rfl), by rw [hsz]; exact g6.size, fun k hk => by
  rw [hsz] at hk
  by_cases hkb : k = G.β b
  ·rw [hkb, g0, hnew]
  ·rw [hfar k hkb]
   exact g6.block k ⟨hk, fun e => e.elim hkb fun ⟨j, hj⟩ => hj.elim⟩⟩
 rw [hd]
 exact k _ _ _ ((hrel.ext hbel).put hdN ⟨[], rfl, rfl, fun c ag xs us hc => by simp at hc⟩)
/-! ### Methods bound to a box -/
def SVb (E : Env) (N x b : Nat) (f : FuncId) (σ : VS) (K : Act → World → Prop) : Prop := ∀ a w G, Rel E N σ a w G → a.tmps.getD x undef = .func (.func f) #[.pointer (some ⟨G.β b, 0, none⟩)] #[] → K a w
theorem put_getD {a : Act} {x d : Nat} {u : Value} : (a.put (some d) u).tmps.getD x undef = if x = d ∧ d < a.tmps.size then u else a.tmps.getD x undef := by
 show (a.tmps.setIfInBounds d u).getD x undef = _
 simp only [Array.getD_eq_getD_getElem?, Array.getElem?_setIfInBounds]
 by_cases h : d = x
 ·subst h
  by_cases h2 : d < a.tmps.size
  ·simp [h2]
  ·simp [h2]
 ·rw [if_neg h, if_neg (fun e => h e.1.symm)]
theorem SV.opBound {b j x : Nat} {g f : FuncId} {x0 : Operand} {ats : Array TypeId} {ty : TypeId} {ys : List Leaf} {ph : Value} {ops : Array Oper} {rest : List Oper} (ho : o.op = .call { callee := .value (.func g), args := [x0].toArray, argTypes := ats }) (hb : ∃ fn c, P.funcs[g]? = some fn ∧ fn.body = some c ∧ fn.name ≠ "runtime.NumGoroutine")
  (hx0 : σ.ev x0 = V.one (.bp b 0)) (hbx : σ.bs[b]? = some (ty, ys)) (hj : ys[j]? = some (.sc ph)) (hst : ∀ (w : World) (c : Nat) (us : List Value), w.heap[c]? = some (.cells us.toArray ty (0, 0)) → us[j]? = some ph → Calls P g #[.pointer (some ⟨c, 0, none⟩)] w fun e w' => e = .returned (.func (.func f) #[.pointer (some ⟨c, 0, none⟩)] #[]) ∧ w' = w)
  (hg : o.guard = none) (hd : o.dst = some x) (hdN : x < N) (k : SVb E N x b f (σ.put x (V.one .dead)) (wpList P ops Q rest)) : SV E N σ (wpList P ops Q (o :: rest)) := fun a w G h => by
 refine wpList_plain hg fun K hK => ?_
 obtain ⟨fn, c, h1, h2, h2'⟩ := hb
 obtain ⟨hB, us, b1, b2, b3⟩ := h.boxes b _ _ hbx
 have hjl : j < us.length := by rw [b2]; exact get_lt hj
 have hu : us[j]? = some ph := by
  rw [List.getElem?_eq_getElem hjl]
  exact congrArg some (b3 j _ us[j] hj (List.getElem?_eq_getElem hjl)).1.1
 have hx0v : a.eval x0 = .pointer (some ⟨G.β b, 0, none⟩) := by
  have := h.ev x0
  rw [hx0, vone] at this
  exact this.1.2
 have hrun : (execOp a.eval o).run P w = .ok (.enter g ([x0].map a.eval).toArray) w := by
  simp [execOp, ho, resolve, Act.eval, Deferred.ofValue, invoke, callFunc, h1, h2, h2', Result.andThen]
 have hev : ([x0].map a.eval).toArray = #[Value.pointer (some ⟨G.β b, 0, none⟩)] := by rw [List.map_cons, hx0v]; rfl
 unfold Oper.wp
 rw [hrun, hev]
 refine (hst w (G.β b) us b1 hu).mono fun e w' ⟨he, hw⟩ => ?_
 subst he hw
 rw [hd]
 refine hK _ _ (k _ _ G (h.put hdN (vone.2 ⟨trivial, .inl rfl⟩)) ?_)
 rw [put_getD, if_pos ⟨rfl, by rw [h.nsz]; exact hdN⟩]
theorem SVb.copy {b x d : Nat} {f : FuncId} {ops : Array Oper} {rest : List Oper} (ho : o.op = .move (.tmp x) ∨ o.op = .assign (.tmp x)) (hg : o.guard = none) (hd : o.dst = some d) (hdN : d < N) (k : SVb E N d b f (σ.put d (V.one .dead)) (wpList P ops Q rest)) : SVb E N x b f σ (wpList P ops Q (o :: rest)) := fun a w G h hv => by
 refine wpList_plain hg fun K hK => ?_
 have hrun : (execOp a.eval o).run P w = .ok (.value (a.tmps.getD x undef)) w := by
  rcases ho with ho | ho <;> simp [execOp, ho, Act.eval]
 refine wp_value hrun ?_
 rw [hd]
 refine hK _ _ (k _ _ G (h.put hdN (vone.2 ⟨trivial, .inl rfl⟩)) ?_)
 rw [put_getD, if_pos ⟨rfl, by rw [h.nsz]; exact hdN⟩]
 exact hv
theorem SVb.keep {b x d : Nat} {f : FuncId} {V' : V} {ops : Array Oper} {rest : List Oper} (h0 : OpL P E N nb σ o V') (hg : o.guard = none) (hd : o.dst = some d) (hdN : d < N) (hx : Nat.beq x d = false) (k : SVb E N x b f (σ.put d V') (wpList P ops Q rest)) : SVb E N x b f σ (wpList P ops Q (o :: rest)) := fun a w G h hv => by
 refine wpList_plain hg fun K hK => ?_
 obtain ⟨u, h1, h2⟩ := h0 a w G h
 refine wp_value (h1 w ⟨fun _ _ => rfl, fun _ _ => rfl⟩) ?_
 rw [hd]
 refine hK _ _ (k _ _ G (h.put hdN h2) ?_)
 rw [put_getD, if_neg (fun e => by rw [e.1, Nat.beq_refl] at hx; cases hx)]
 exact hv
theorem SVb.nil {b x : Nat} {f : FuncId} {ops : Array Oper} (h : SVb E N x b f σ (Q .normal)) : SVb E N x b f σ (wpList P ops Q []) := h
theorem SVb.tn {b x : Nat} {f : FuncId} (h : SVb E N x b f σ K) : SVb E N x b f σ (Exit.then K Q .normal) := h
theorem SVb.seq' {b x : Nat} {f : FuncId} {c1 c2 : Go.Code} (h : SVb E N x b f σ (c1.wp P (Exit.then (c2.wp P Q) Q))) : SVb E N x b f σ ((Code.seq c1 c2).wp P Q) := fun a w G hr hv => wp_seq (h a w G hr hv)
theorem SVb.region {b x id : Nat} {f : FuncId} {l : List Oper} (h : SVb E N x b f σ (wpList P l.toArray Q l)) : SVb E N x b f σ ((Code.region id l.toArray false).wp P Q) := fun a w G hr hv => wp_region_lit (h a w G hr hv)
theorem SVb.call {b x d : Nat} {f : FuncId} {xs : List Operand} {ats : Array TypeId} {ty : TypeId} {ls ls' : List T} {ins rs : List (Bool × List T)} {tup : Bool} {ys L0 : List Leaf} {L : List (Bool × List Leaf)} {ops : Array Oper} {rest : List Oper} (hk : ansLs σ.nx ((false, ls') :: rs) = (false, L0) :: L) (ho : o.op = .call { callee := .value (.tmp x), args := xs.toArray, argTypes := ats }) (hb : ∃ fn c, P.funcs[f]? = some fn ∧ fn.body = some c ∧ fn.name ≠ "runtime.NumGoroutine")
  (hc : VH P f ty ls ins ls' tup rs) (hbx : σ.bs[b]? = some (ty, ys)) (hys : σ.outs ys ls) (h2 : ys.Pairwise two) (hls : ls'.length = ys.length) (hx : σ.argsH xs ins) (hg : o.guard = none) (hd : o.dst = some d) (hdN : d < N)
  (k : SV E N (((ansSs ((σ.kills ys).setb b ty (ys.map fun _ => .dead)) ((false, ls') :: rs)).setb b ty L0).put d ⟨tup, L⟩) (wpList P ops Q rest)) : SVb E N x b f σ (wpList P ops Q (o :: rest)) := fun a w G h hv => by
 refine wpList_plain hg fun K hK => ?_
 obtain ⟨fn, c, h1, hb2, h2'⟩ := hb
 have hrun : (execOp a.eval o).run P w = .ok (.enter f (Value.pointer (some ⟨G.β b, 0, none⟩) :: xs.map a.eval).toArray) w := by
  have hv' : a.eval (.tmp x) = .func (.func f) #[.pointer (some ⟨G.β b, 0, none⟩)] #[] := hv
  simp [execOp, ho, resolve, hv', Deferred.ofValue, invoke, callFunc, h1, hb2, h2', Result.andThen]
 exact callH_at hk hc hbx hys h2 hls hx hd hdN h hrun fun a' w' G' hr' _ _ => hK _ _ (k a' w' G' hr')
/-! ### All but the first elements of a slice of the call's own -/
def tailO (g q k c m n : Nat) : Value := .slice (some (if c = m then ⟨g, q, none⟩ else ⟨g, q + m * n, none⟩)) (k - m) (c - m)
theorem Row.tail {B : Nat} {ty : TypeId} {n g q k c m : Nat} {xs : List Value} (h : Row w B ty n (.slice (some ⟨g, q, none⟩) k c) k xs) (hm : m ≤ k) : Row w B ty n (tailO g q k c m n) (k - m) (xs.drop (m * n)) := by
 obtain ⟨h1, ⟨e, -⟩ | ⟨g', q', c', cur, e, hB, hh, hc, hM, hs, ht⟩⟩ := h
 ·cases e
 cases e
 have hsub : (k - m) * n = k * n - m * n := Nat.sub_mul ..
 have hmn : m * n ≤ k * n := Nat.mul_le_mul_right _ hm
 refine ⟨by rw [List.length_drop, h1, hsub], .inr ?_⟩
 unfold tailO
 by_cases hcm : c = m
 ·have hkm : k - m = 0 := by omega
  rw [if_pos hcm]
  refine ⟨g, q, c - m, cur, rfl, hB, hh, by omega, by omega, ?_, ?_⟩
  ·have : (c - m) * n ≤ c * n := Nat.mul_le_mul_right _ (by omega)
   omega
  ·rw [hkm, Nat.zero_mul, List.take_zero, List.drop_eq_nil_of_le (by rw [h1]; exact Nat.mul_le_mul_right _ (by omega))]
 ·rw [if_neg hcm]
  have hcs : (c - m) * n = c * n - m * n := Nat.sub_mul ..
  have hmc : m * n ≤ c * n := Nat.mul_le_mul_right _ (by omega)
  refine ⟨g, q + m * n, c - m, cur, rfl, hB, hh, by omega, by omega, by omega, ?_⟩
  rw [← ht, List.drop_take, List.drop_drop, hsub]
theorem Own.tail {F : Nat → Prop} {ty : TypeId} {es : List (List T)} {g q c m n : Nat} (hz : Sz ty n) (h : Own w 0 (.seq ty es) (.slice (some ⟨g, q, none⟩) es.length c) F) (hm : m ≤ es.length) : Own w 0 (.seq ty (es.drop m)) (tailO g q es.length c m n) F := by
 generalize hv : Value.slice (some ⟨g, q, none⟩) es.length c = v at h
 cases h with
 | seq n' hp hz' hn xs hown Gs hr hone hF hG hne hd =>
  subst hv
  have hnn := hz'.eq hz
  subst hnn
  have hgF : ∀ b, (tailO g q es.length c m n').ownBlock = some b → b = g := fun b hb => by
   unfold tailO at hb
   split at hb <;> (cases hb; rfl)
  refine .seq n' hp hz' (fun e he => hn e (List.mem_of_mem_drop he)) (xs.drop (m * n')) (by rw [List.length_drop]; exact hown.tail hm) (fun i b => Gs (m * n' + i) b) (fun k e j t u h1 h2 h3 => ?_) (fun u hu => hone u (List.mem_of_mem_drop hu)) (fun b hb => by rw [hgF b hb]; exact hF g rfl) (fun i b hb => hG _ b hb) (fun i b hb e => hne _ b hb (by rw [hgF b e]; rfl)) fun i j b h1 h2 => by have := hd _ _ b h1 h2; omega
  rw [List.getElem?_drop] at h1 h3
  have e : m * n' + (k * n' + j) = (m + k) * n' + j := by rw [Nat.add_mul]; omega
  rw [e] at h3 ⊢
  exact hr (m + k) _ j t u h1 h2 h3
theorem SV.openBox {b j p ver m : Nat} {ty ty0 : TypeId} {xs : List Leaf} {es : List (List T)} (hb : σ.bs[b]? = some (ty0, xs)) (hj : xs[j]? = some (.hd p)) (hp : σ.ob p = some (ver, .seq ty es)) (hne : 0 < es.length) (hm : σ.nx = m)
  (k : ∀ (L : Nat → Value) (g q c : Nat), L p = .slice (some ⟨g, q, none⟩) es.length c → es.length ≤ c → c ≤ maxLen → SV { E with lv := L, nl := m } N (σ.setb b ty0 (xs.set j (.sc (.slice (some ⟨g, q, none⟩) es.length c)))) K) : SV E N σ K := fun a w G h => by
 subst hm
 obtain ⟨hpn, hown, -⟩ := h.objs p ver _ hp
 have hv : ∃ g q c, G.vl p = .slice (some ⟨g, q, none⟩) es.length c ∧ es.length ≤ c ∧ c ≤ maxLen := by
  cases hown with
  | seq n hp hz hn xs hown Gs hr hone hF hG hne' hd =>
   obtain ⟨a0, c, h1, h2, h3, -, h5⟩ := own_slice hown
   obtain ⟨g, q, rfl, -⟩ := h5 hne
   exact ⟨g, q, c, h1, h2, h3⟩
 obtain ⟨g, q, c, hv, h2, h3⟩ := hv
 have hN := nameR h G.vl fun _ _ => rfl
 obtain ⟨-, us, b1, b2, b3⟩ := hN.boxes b _ _ hb
 refine k G.vl g q c hv h2 h3 a w G (hN.setbox (us' := us) (w' := w) hb (Same.refl _ _) (fun _ _ => rfl) b1 (by rw [List.length_set]; exact b2) fun j' x u hx hu => ?_)
 by_cases hjj : j = j'
 ·subst hjj
  have hjl := get_lt hj
  rw [List.getElem?_set_self hjl] at hx
  cases hx
  obtain ⟨h4, h5⟩ := b3 j _ u hj hu
  exact ⟨⟨h4.1.2.trans hv, .inr h5⟩, h5⟩
 ·rw [List.getElem?_set_ne hjj] at hx
  exact b3 j' x u hx hu
theorem SV.nameOff {L : Nat → Value} {m : Nat} (h0 : E.nl = 0) (k : SV E N σ K) : SV { E with lv := L, nl := m } N σ K := fun a w G h => by
 refine k a w G ⟨⟨h.below.os, h.below.tape, h.below.output, h.below.size, h.below.block⟩, h.dfr, h.nsz, h.tmps, h.boxes, h.inj, h.boxft, h.objs, h.disj, h.ftlt, ⟨by rw [h0]; exact Nat.zero_le _, fun i hi => ?_, h.lent.2.2⟩⟩
 rw [h0] at hi
 exact absurd hi (Nat.not_lt_zero i)
theorem ok_tailk {x y : Operand} {ki : IntKind} {g q k c m n : Nat} {ty t : TypeId} (ho : o.op = .slice t x (some y) none none) (hu : Try.prog.underlying t = some (.slice ty)) (hz : Sz ty n) (hx : σ.ev x = V.one (.sc (.slice (some ⟨g, q, none⟩) k c))) (hy : σ.ev y = V.one (.sc (.int ki (m : Nat)))) (h1 : m ≤ k) (h2 : k ≤ c) :
  OpL Try.prog E N nb σ o (V.one (.sc (tailO g q k c m n))) := fun a w G hr => by
 have hx' := hr.sc hx
 have hy' := hr.sc hy
 obtain ⟨inf, hinf, hsz⟩ := hz
 have h3 : m ≤ c := Nat.le_trans h1 h2
 refine ⟨tailO g q k c m n, fun v' _ => ?_, vone.2 ⟨rfl, .inr rfl⟩⟩
 simp [execOp, ho, Instr.sliceAt, Instr.slice, Instr.sliceBounds, Instr.sliceBound, asIntOf, run_underlying hu, sizeOf, Lib.rl_info ty inf hinf, hsz, Result.andThen, *]
 unfold tailO
 by_cases hcm : c = m
 ·rw [if_pos hcm, if_pos hcm]
 ·rw [if_neg hcm, if_neg hcm, Addr.add_lit]
theorem Rel.tailNow {p ver g q c m n s : Nat} {ty : TypeId} {es : List (List T)} (hz : Sz ty n) (hs : σ.tm s = V.one (.sc (tailO g q es.length c m n))) (hsN : s < N) (hob : σ.ob p = some (ver, .seq ty es)) (hpl : p < E.nl) (hL : E.lv p = .slice (some ⟨g, q, none⟩) es.length c) (hm : m ≤ es.length) (h : Rel E N σ a w G) :
  ∃ G', Rel E N (((σ.kills [.hd p]).new (.seq ty (es.drop m))).put s (V.one (.hd σ.nx))) a w G' ∧ G'.β = G.β := by
 obtain ⟨hpn, op, -⟩ := h.objs p ver _ hob
 rw [h.lent.2.1 p hpl, hL] at op
 have hlp : σ.ob p ≠ none := by rw [hob]; simp
 obtain ⟨G', k1, ⟨k2, k3, k4⟩, -, -⟩ := h.renew [.hd p] (fun x hx => by rw [List.mem_singleton.1 hx]; exact ⟨_, by show (σ.ob p).map (·.2) = _; rw [hob]; rfl⟩) (w' := w) (t := .seq ty (es.drop m)) (v := tailO g q es.length c m n) (F := G.ft p) (fun _ => False) (Same.refl _ _) (fun _ _ _ => rfl) (fun b hb => hb.elim) (op.tail hz hm) ⟨_, _, rfl⟩ fun b hb => ⟨h.ftlt p b hlp hb, .inr ⟨.hd p, List.mem_singleton.2 rfl, hb⟩⟩
 refine ⟨G', k1.reput hsN (vone.2 ⟨⟨Nat.lt_succ_self _, ?_⟩, .inr ?_⟩), k4⟩
 ·have h1 := h.tmps s
  rw [hs, vone] at h1
  rw [k2]
  exact h1.1
 ·have h1 := h.tmps s
  rw [hs, vone] at h1
  rw [show a.tmps.getD s undef = _ from h1.1]
  rfl
theorem ok_append_to {d s : Nat} {x : Operand} {t ty : TypeId} {n bytes : Nat} {z : Value} (I : ElT t ty n z bytes) {p ver g q c m kk : Nat} {lx : Leaf} {es fs : List (List T)} (hk : σ.nx + 1 = kk) (ho : o.op = .call { callee := .builtin .append, args := #[.tmp s, x], argTypes := #[t, t] }) (hs : σ.tm s = V.one (.sc (tailO g q es.length c m n))) (hsN : s < N)
  (hx : (((σ.kills [.hd p]).new (.seq ty (es.drop m))).put s (V.one (.hd σ.nx))).ev x = V.one lx) (hob : σ.ob p = some (ver, .seq ty es)) (hpl : p < E.nl) (hL : E.lv p = .slice (some ⟨g, q, none⟩) es.length c) (htx : (((σ.kills [.hd p]).new (.seq ty (es.drop m))).put s (V.one (.hd σ.nx))).out lx = some (.seq ty fs)) (h2 : two (.hd σ.nx) lx) (hm : m ≤ es.length) (hlen : (es.drop m).length + fs.length ≤ 350000000000) (hd : o.dst = some d) (hdN : d < N) :
  OpB Try.prog E N [] σ o ((((((σ.kills [.hd p]).new (.seq ty (es.drop m))).put s (V.one (.hd σ.nx))).kills [.hd σ.nx, lx]).new (.seq ty (es.drop m ++ fs))).put d (V.one (.hd kk))) := fun a w G K Q h k => by
 obtain ⟨G', h1, hβ⟩ := h.tailNow I.sz hs hsN hob hpl hL hm
 have hts : (((σ.kills [.hd p]).new (.seq ty (es.drop m))).put s (V.one (.hd σ.nx))).out (.hd σ.nx) = some (.seq ty (es.drop m)) := by
  show (bif Nat.beq σ.nx σ.nx then some (0, T.seq ty (es.drop m)) else _).map (·.2) = _
  rw [Nat.beq_refl]; rfl
 have hss : (((σ.kills [.hd p]).new (.seq ty (es.drop m))).put s (V.one (.hd σ.nx))).ev (.tmp s) = V.one (.hd σ.nx) := by
  show (bif Nat.beq s s then _ else _) = _
  rw [Nat.beq_refl]; rfl
 exact (OpMk.b (ok_append I (ls := .hd σ.nx) hk ho hss hx hts htx h2 hlen hd hdN)) a w G' K Q h1 fun a' w' G2 hr' hs' hb => k a' w' G2 hr' hs' fun c hc => by
  have := hb c hc
  rw [hβ] at this
  exact this
/-! ### Drawn regions that only make memory -/
structure LinkB (τ : VS) (ws : World) (Gs : Ghost) (cl : Bool) (w : World) (G : Ghost) : Prop where
 same : Below ws.heap.size ws w
 β : ∀ b, b < τ.bs.length → G.β b = Gs.β b
 old : ∀ b, b < τ.bs.length → G.β b < ws.heap.size
 clean : cl = true → w = ws
def DB (E : Env) (N : Nat) (τ : VS) (cl : Bool) (σ : VS) (Ψ : World → Ghost → Act → World → Prop) : Prop := ∀ ws Gs a w G, E.B ≤ ws.heap.size → Rel E N σ a w G → LinkB τ ws Gs cl w G → Ψ ws Gs a w
abbrev SB (ws : World) : World → Prop := fun v => Below ws.heap.size ws v
theorem SV.drawB {id : Nat} {l : List Oper} (ps : Pl) (zs : List Nat) (hm : P.follows .mixedOrders = true) (hB : planB .any l.toArray ps zs = true) (h : DB E N τ true τ fun ws Gs a w => wpPi P l.toArray Q (SB ws) zs ps a w) : SV E N τ ((Code.region id l.toArray true).wp P Q) :=
 fun a w G hr => region_plan (SB w.drew) ps zs hm hB (Below.refl _ _) fun _ => h w.drew G a w.drew G hr.drew.low hr.drew ⟨Below.refl _ _, fun _ _ => rfl, fun b hb => by
  obtain ⟨-, us, h2, -⟩ := hr.drew.boxes b _ _ (List.getElem?_eq_getElem hb)
  exact lt_of_block h2, fun _ => rfl⟩
variable {cl : Bool}
theorem LinkB.put (h : LinkB τ ws Gs cl w G) : LinkB τ ws Gs cl w G := h
theorem DB.q {V' : V} (ho : nthO l i = some o) (h : OpL P E N τ.bs.length σ o V') (hg : o.guard = none) (hd : o.dst = some d) (hdN : d < N) (hQ : ∀ c (a : Act) v w, Q (.panic c) (a.put o.dst v) w → Q (.panic c) a w) (k : DB E N τ cl (σ.put d V') fun ws Gs a w => wpPi P l.toArray Q (SB ws) zs ps a w) :
  DB E N τ cl σ fun ws Gs a w => wpPi P l.toArray Q (SB ws) zs (.q i ps) a w := fun ws Gs a w G hB hr hl => by
 obtain ⟨u, h1, h2⟩ := h a w G hr
 refine pi_take (v := u) ho (fun c a w => hQ c a u w) (by simp [Region.wanted, hg]) (fun v hv => h1 v ⟨fun b hb => ?_, fun c hc => ?_⟩) ?_
 ·have hb' : b < ws.heap.size := Nat.lt_of_lt_of_le hb.1 hB
  exact (hv.block b hb').trans (hl.same.block b hb').symm
 ·have := hl.old c hc
  exact (hv.block _ this).trans (hl.same.block _ this).symm
 ·rw [hd]
  exact k ws Gs _ w G hB (hr.put hdN h2) hl
theorem DB.ld {m : Nat} {ty : TypeId} {x : Operand} {p : Leaf} {ag : Bool} {es : List T} {ys : List Leaf} (hn : nthO l i = some o) (ho : o.op = .load ty x) (hx : σ.ev x = V.one p) (hc : σ.cells p = some es) (hag : ∀ w, (isAgg ty).run Try.prog w = .ok ag w) (hm : Sz ty m) (h1 : ag = false → m = 1) (hml : m ≤ es.length)
  (hy : (List.range m).map (fun q => match es[q]? with | some t => σ.cellLeaf p q t | none => .dead) = ys) (hg : o.guard = none) (hd : o.dst = some d) (hdN : d < N) (hQ : ∀ c (a : Act) v w, Q (.panic c) (a.put o.dst v) w → Q (.panic c) a w) (k : DB E N τ true (σ.put d (V.flat ag ys)) fun ws Gs a w => wpPi Try.prog l.toArray Q (SB ws) zs ps a w) :
  DB E N τ true σ fun ws Gs a w => wpPi Try.prog l.toArray Q (SB ws) zs (.q i ps) a w := fun ws Gs a w G hB hr hl => by
 obtain ⟨u, b, q, h2, h3, h4⟩ := load_el ho hx hc hag hm h1 hml hy hr
 have hw := hl.clean rfl
 refine pi_take (v := u) hn (fun c a w => hQ c a u w) (by simp [Region.wanted, hg]) (fun v hv => h3 v fun p' y hp hcell => ?_) ?_
 ·have hlt := lt_blk hcell
  rw [hw] at hcell hlt
  exact (World.cell?_of_block (hv.block b hlt)).trans hcell
 ·rw [hd]
  exact k _ _ _ _ _ hB (hr.put hdN h4) hl
theorem DB.m (ho : nthO l i = some o) (h : OpMk P E N none σ o σ') (hg : o.guard = none)
  (k : DB E N τ false σ' fun ws Gs a w => wpPi P l.toArray Q (SB ws) zs ps a w) (hbs : τ.bs.length ≤ σ.bs.length := by exact Nat.le_of_ble_eq_true rfl) : DB E N τ cl σ fun ws Gs a w => wpPi P l.toArray Q (SB ws) zs (.m i ps) a w := fun ws Gs a w G hB hr hl => by
 refine pi_step ho fun K hK => ?_
 rw [if_pos (by simp [Region.wanted, hg])]
 refine h a w G K Q hr fun a' w' G' hr' hm => ?_
 have hblk : ∀ b, b < w.heap.size → w'.heap[b]? = w.heap[b]? := fun b hb => by
  rcases hm.block b hb with h1 | ⟨j, v, ty, es, n, cs, cs', e1, -⟩
  ·exact h1
  ·cases e1
 have hs : Below ws.heap.size ws w' := ⟨hm.below.os.trans hl.same.os, hm.below.tape.trans hl.same.tape, hm.below.output.trans hl.same.output, Nat.le_trans hl.same.size hm.size, fun b hb => (hblk b (Nat.lt_of_lt_of_le hb hl.same.size)).trans (hl.same.block b hb)⟩
 exact hK.out a' w' hs fun _ => k ws Gs a' w' G' hB hr' ⟨hs, fun b hb => (hm.β b (Nat.lt_of_lt_of_le hb hbs)).trans (hl.β b hb), fun b hb => by rw [hm.β b (Nat.lt_of_lt_of_le hb hbs)]; exact hl.old b hb, fun e => by cases e⟩
theorem DB.stores (h : SV E N σ (wpZ P l.toArray Q zs)) : DB E N τ cl σ fun ws Gs a w => wpPi P l.toArray Q (SB ws) zs .nil a w := fun ws Gs a w G hB hr hl => pi_end (h a w G hr)
end Go.Proofs.Ytpnbnbhifpcelaa.V
/- States told by trees: answers of which one slice is the caller's own, and all the others may only be read. -/
namespace Go.Proofs.Ytpnbnbhifpcelaa.V
open Go Go.RowKit
set_option linter.unusedVariables false
variable {P : Program} {E : Env} {N nb : Nat} {σ σ' τ : VS} {o : Oper} {a : Act} {w : World} {G : Ghost} {Q : Exit → Act → World → Prop} {K : Act → World → Prop}
def GivesS (ok : Nat → Prop) (tup : Bool) (rs : List (Bool × List T)) (c0 j0 : Nat) (e : Ending) (w' : World) : Prop :=
 ∃ (uss : List (List Value)) (F0 F1 : Nat → Prop), uss.length = rs.length ∧ e = .returned (vval tup (List.zipWith (fun r us => cval r.1 us) rs uss)) ∧ (∀ b, F0 b → ¬ F1 b) ∧ (∀ b, F0 b → b < w'.heap.size → ok b) ∧ (∀ b, F1 b → ok b) ∧
  ∀ (c : Nat) (ag : Bool) (ts : List T) (us : List Value), rs[c]? = some (ag, ts) → uss[c]? = some us → us.length = ts.length ∧ ∀ (j : Nat) (t : T) (u : Value), ts[j]? = some t → us[j]? = some u → (c = c0 → j = j0 → Own w' 0 t u F1) ∧ (¬ (c = c0 ∧ j = j0) → Inn F0 w' t u)
def VCS (P : Program) (f : FuncId) (ins : List (Bool × List T)) (tup : Bool) (rs : List (Bool × List T)) (c0 j0 : Nat) : Prop := ∀ (w : World) (vs : List Value), ArgsIn (Env.of w) w ins vs → Calls P f vs.toArray w fun e w' => GivesS (NewlyR w w') tup rs c0 j0 e w' ∧ Below w.heap.size w w'
theorem VCS.r {f : FuncId} {ins rs : List (Bool × List T)} {tup : Bool} {c0 j0 : Nat} (h : VCS P f ins tup rs c0 j0) : VCR P f ins tup rs := fun w vs hv => (h w vs hv).mono fun e w' ⟨⟨uss, F0, F1, h1, h2, _, h4, h5, h6⟩, h7⟩ => ⟨⟨uss, h1, h2, fun c ag ts us hc hu => ⟨(h6 c ag ts us hc hu).1, fun j t u hj hu' => by
 obtain ⟨k1, k2⟩ := (h6 c ag ts us hc hu).2 j t u hj hu'
 by_cases hcj : c = c0 ∧ j = j0
 ·exact (k1 hcj.1 hcj.2).inn.frame (Nat.le_refl _) fun b hb _ => ⟨h5 b hb, rfl⟩
 ·exact (k2 hcj).frame (Nat.le_refl _) fun b hb hl => ⟨h4 b hb hl, rfl⟩⟩⟩, h7⟩
theorem VC.r {f : FuncId} {ins rs : List (Bool × List T)} {tup : Bool} (h : VC P f ins tup rs) : VCR P f ins tup rs := fun w vs hv => (h w vs hv).mono fun e w' ⟨uss, F, h1, h2, h3, _, h5, h6⟩ => ⟨⟨uss, h1, h2, fun c ag ts us hc hu => ⟨(h3 c ag ts us hc hu).1, fun j t u hj hu' => ((h3 c ag ts us hc hu).2 j t u hj hu').inn.frame (Nat.le_refl _) fun b hb _ => ⟨⟨(h5 c j b hb).1.elim id fun h => h.elim, (h5 c j b hb).2⟩, rfl⟩⟩⟩, ⟨h6.os, h6.tape, h6.output, h6.size, fun k hk => h6.block k (Env.of_old.2 hk)⟩⟩
theorem VC.s {f : FuncId} {ins rs : List (Bool × List T)} {tup : Bool} (c0 j0 : Nat) (h : VC P f ins tup rs) : VCS P f ins tup rs c0 j0 := fun w vs hv => (h w vs hv).mono fun e w' ⟨uss, F, h1, h2, h3, h4, h5, h6⟩ => ⟨⟨uss, fun b => ∃ c j, ¬ (c = c0 ∧ j = j0) ∧ F c j b, F c0 j0, h1, h2, fun b ⟨c, j, hn, hb⟩ hb' => hn (h4 c j c0 j0 b hb hb'), fun b ⟨c, j, _, hb⟩ _ => ⟨(h5 c j b hb).1.elim id fun h => h.elim, (h5 c j b hb).2⟩, fun b hb => ⟨(h5 c0 j0 b hb).1.elim id fun h => h.elim, (h5 c0 j0 b hb).2⟩, fun c ag ts us hc hu => ⟨(h3 c ag ts us hc hu).1, fun j t u hj hu' => ⟨fun e1 e2 => by subst e1 e2; exact (h3 c ag ts us hc hu).2 j t u hj hu', fun hn => ((h3 c ag ts us hc hu).2 j t u hj hu').inn.frame (Nat.le_refl _) fun b hb _ => ⟨⟨c, j, hn, hb⟩, rfl⟩⟩⟩⟩, ⟨h6.os, h6.tape, h6.output, h6.size, fun k hk => h6.block k (Env.of_old.2 hk)⟩⟩
theorem VCS.enter {f : FuncId} {fn : Func} {c : Go.Code} {n : Nat} {ins rs : List (Bool × List T)} {tup : Bool} {c0 j0 : Nat} (hf : P.funcs[f]? = some fn) (hb : fn.body = some c) (hn : fn.ntmps = n) (hl : ins.length ≤ n)
  (h : ∀ E, E.plain 0 → (∀ b, ¬ E.ln b) → SV E n (VS.init (ins.map fun p => V.flat p.1 (p.2.map argLeaf))) (c.wp P (bodyPost P fn fun e w' => GivesS (NewlyR E.w0 w') tup rs c0 j0 e w' ∧ Below E.w0.heap.size E.w0 w'))) : VCS P f ins tup rs c0 j0 := fun w vs hv => by
 refine calls_of_wp hf hb ?_
 obtain ⟨G, hG⟩ := init_rel (E := Env.of w) ⟨rfl, rfl⟩ (n := n) hv (by rw [hv.1]; exact hl)
 have := h (Env.of w) ⟨rfl, rfl⟩ (fun _ h => h) _ _ G hG
 rw [hn]
 have e : (Env.of w).w0 = w := rfl
 rw [e] at this
 simpa using this
def Leaf.ofOb (i : Nat) : Leaf → Bool
 | .hd k => Nat.beq k i
 | .nd k _ _ _ => Nat.beq k i
 | _ => false
def apartL (i j0 : Nat) : Nat → List Leaf → Bool
 | _, [] => true
 | k, x :: xs => (bif Nat.beq k j0 then true else bif x.ofOb i then false else true) && apartL i j0 (k + 1) xs
def noneL (i : Nat) : List Leaf → Bool
 | [] => true
 | x :: xs => (bif x.ofOb i then false else true) && noneL i xs
def apartLs (i c0 j0 : Nat) : Nat → List (Bool × List Leaf) → Bool
 | _, [] => true
 | k, p :: ps => (bif Nat.beq k c0 then apartL i j0 0 p.2 else noneL i p.2) && apartLs i c0 j0 (k + 1) ps
/-! ### The call -/
def setAt2 : List (Bool × List Leaf) → Nat → Nat → Leaf → List (Bool × List Leaf)
 | [], _, _, _ => []
 | p :: ps, 0, j, y => (p.1, p.2.set j y) :: ps
 | p :: ps, c + 1, j, y => p :: setAt2 ps c j y
end Go.Proofs.Ytpnbnbhifpcelaa.V
