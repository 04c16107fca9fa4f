/- Texts joined: RunB Iup Validi Arei VCmp IRows PruI RoIn RoMem VP RoDel VHb PruSel. -/
import Derived.Test.YtpnbnbhifpcelaaPartAc
import Derived.Deep.OwnRows
import Derived.Laws.IdiomCopy
import Derived.Deep.RegionLaw
import Derived.Deep.CutRange
set_option linter.unusedSimpArgs false
set_option linter.unusedVariables false
/- The reference's BuildRuns: told by trees. -/
namespace Go.Proofs.Ytpnbnbhifpcelaa
open Go Go.RowKit V
set_option linter.unusedVariables false
theorem later_at {cur : List R} {r d : R} (h : cur[cur.length - 1]? = some d) : Runs.later cur r = decide (R.cmp r d < 0) := by
  unfold Runs.later
  rw [List.getLast?_eq_getElem?, h]
theorem later_nil {cur : List R} {r : R} (h : cur.length = 0) : Runs.later cur r = false := by
  rw [List.eq_nil_of_length_eq_zero h]
  rfl
theorem idxMin_pos {l : List R} (h : 0 < l.length) : Runs.idxMin l = ((Runs.minAt l l.length : Nat) : Int) := by
  unfold Runs.idxMin
  rw [if_neg (by omega)]
theorem going_len {l : List R} {m : Int} {s : Runs.St} (hc : Runs.can l m = true) (h : Runs.Going l m s) : (s.cur.length ≤ 24 ∧ s.heap.length ≤ 24 ∧ s.next.length ≤ 24) ∧ s.out.length ≤ 24 ∧ l.length ≤ 24 ∧ s.i ≤ l.length := by
  have hI := Runs.going_inv hc h
  have h1 := hI.perm.length_eq
  have h2 : s.out.length ≤ s.out.flatten.length := by
    have hr := hI.runs
    generalize s.out = X at hr
    clear h1 hI h
    induction X with
    | nil => simp
    | cons p X ih =>
      have hp := (hr p (List.mem_cons_self ..)).1
      have := ih fun q hq => hr q (List.mem_cons_of_mem _ hq)
      rw [List.flatten_cons, List.length_append, List.length_cons]
      omega
  have h3 : l.length ≤ 24 := by
    unfold Runs.can okRows at hc
    rw [Bool.and_eq_true, Bool.and_eq_true, decide_eq_true_eq] at hc
    exact hc.1.1
  have h4 := hI.ile
  simp only [List.length_append, List.length_take] at h1
  omega
theorem going_wf {l : List R} {m : Int} {s : Runs.St} (hc : Runs.can l m = true) (h : Runs.Going l m s) (hw : ∀ r ∈ l, r.wf) : (∀ r ∈ s.heap, r.wf) ∧ (∀ r ∈ s.next, r.wf) := by
  have hp := (Runs.going_inv hc h).perm
  have key : ∀ r, r ∈ s.out.flatten ++ (s.cur ++ (s.heap ++ s.next)) → r.wf := fun r hr => hw r (List.mem_of_mem_take (hp.mem_iff.1 hr))
  exact ⟨fun r hr => key r (by simp [hr]), fun r hr => key r (by simp [hr])⟩
set_option maxRecDepth 100000 in
set_option maxHeartbeats 2000000 in
theorem vbuild_s (l : List R) (m : Int) (hW : ∀ r ∈ l, r.wf) (hl : l.length ≤ 1000000000) : VC Try.prog 34 [(false, [.seq 72 ((l).map tRow)]), (false, [.lit (.int .i64 (m))])] true [(false, [.seq 84 ((Runs.build l m).map tRun)]), (false, [.lit (.bool (Runs.can l m))])] := by
  refine VC.enter Try.func34 rfl Try.ntmps34 (gle rfl) fun E hE => ?_
  refine SV.seq' ?_
  refine SV.region ?_
  refine SV.op (OpL.ok (nb := 0) (ok_move (v := V.one (.sc _)) (.inr rfl) rfl) rfl (gle rfl)) rfl ?_
  refine SV.op (OpL.ok (nb := 0) (ok_move (v := V.one (.sc _)) (.inr rfl) rfl) rfl (gle rfl)) rfl ?_
  refine SV.nil ?_
  refine SV.tn ?_
  refine SV.seq' ?_
  refine SV.seq' ?_
  refine SV.region ?_
  refine SV.op (OpL.ok (nb := 0) (ok_move (v := V.one (.ro _)) (.inl rfl) rfl) rfl (gle rfl)) rfl ?_
  refine SV.op (OpMk.ok (ok_call (ls := [(false, [.sc _])]) rfl rfl ⟨_, _, Try.func62, rfl, by decide⟩ (vares_t l hW (by omega)) ⟨⟨[.ro _], rfl, ⟨rfl, trivial⟩⟩, trivial⟩ rfl (gle rfl))) rfl ?_
  refine SV.op (OpL.ok (nb := 0) (ok_s1 (x := .tmp 13) (VScal.one rfl) (fun ρ h1 w => by go_simp; (try go_bits); with_reducible rfl) rfl) rfl (gle rfl)) rfl ?_
  refine SV.op (OpL.ok (nb := 0) (ok_move (v := V.one (.sc _)) (.inl rfl) rfl) rfl (gle rfl)) rfl ?_
  refine SV.split (d := 15) rfl (fun hg0 => ?_) (fun hg0 => ?_)
  · skip   -- g0.T
    refine SV.opN rfl rfl rfl (gle rfl) rfl rfl rfl (gle rfl) ?_
    refine SV.opN rfl rfl rfl (gle rfl) rfl rfl rfl (gle rfl) ?_
    refine SV.opN rfl rfl rfl (gle rfl) rfl rfl rfl (gle rfl) ?_
    refine SV.op (OpL.ok (nb := 0) (ok_pickT (v := V.one (.sc _)) rfl rfl rfl) rfl (gle rfl)) rfl ?_
    refine SV.nil ?_
    refine SV.tn ?_
    refine SV.cond rfl (fun hc0 => ?_) (fun hc0 => ?_)
    · skip   -- c0.T
      have hno : Runs.can l m = false := by
        rw [Bool.eq_false_iff]
        intro h
        unfold Runs.can Runs.isMem at h
        rw [Bool.and_eq_true, decide_eq_true_eq] at h
        obtain ⟨h1, h2⟩ := h
        first | (rw [h1] at hg0; cases hg0; done) | (simp at hc1; omega)
      have hb : Runs.build l m = [] := by unfold Runs.build; rw [if_neg (by rw [hno]; decide)]
      refine SV.seq' ?_
      refine SV.region ?_
      refine SV.op (OpMk.ok (ok_lit0 (kk := 0) elt_impl_Run rfl rfl rfl (gle rfl))) rfl ?_
      refine SV.op (OpL.ok (nb := 0) (ok_move (v := V.one (.hd 0)) (.inr rfl) rfl) rfl (gle rfl)) rfl ?_
      refine SV.op (OpL.ok (nb := 0) (ok_move (v := V.one (.sc _)) (.inr rfl) rfl) rfl (gle rfl)) rfl ?_
      refine SV.nil ?_
      refine SV.tn ?_
      refine SV.ret ?_
      refine SV.tr ?_
      apply SV.done (hf := Try.results34) (ht := rfl) (he := .inl rfl)
      case hr => exact (ResAll.cons (ResOk.tmp (ag := false) (xs := [.hd 0]) rfl) (ResAll.cons (ResOk.tmp (ag := false) (xs := [.sc _]) rfl) ResAll.nil'))
      case h2 => simp [two]
      refine ⟨rfl, ⟨?_, trivial⟩, ⟨rfl, ⟨?_, trivial⟩, trivial⟩⟩ <;> first | rfl | (rw [hb]; rfl) | ((show some (T.seq _ _) = some (T.seq _ _); refine congrArg (fun z => some (T.seq _ z)) ?_; rw [hb]; first | done | rfl | (simp [tRun]; done))) | ((show some (T.lit (Value.bool _)) = some (T.lit (Value.bool _)); refine congrArg (fun z => some (T.lit (Value.bool z))) ?_; rw [hno])) | ((show some (T.lit (Value.bool _)) = some (T.lit (Value.bool _)); refine congrArg (fun z => some (T.lit (Value.bool z))) ?_; rw [hcan]))
    · skip   -- c0.F
      cases hc0
  · skip   -- g0.F
    refine SV.opY (OpL.ok (nb := 0) (ok_move (v := V.one (.sc _)) (.inl rfl) rfl) rfl (gle rfl)) rfl rfl rfl (gle rfl) rfl rfl ?_
    refine SV.opY (OpMk.ok (ok_call (ls := [(false, [.sc _])]) rfl rfl ⟨_, _, Try.func71, rfl, by decide⟩ (vin_s' m 8 60) ⟨⟨[.sc _], rfl, ⟨rfl, trivial⟩⟩, ⟨[.sc _], rfl, ⟨rfl, trivial⟩⟩, ⟨[.sc _], rfl, ⟨rfl, trivial⟩⟩, trivial⟩ rfl (gle rfl))) rfl rfl rfl (gle rfl) rfl rfl ?_
    refine SV.opY (OpL.ok (nb := 0) (ok_s1 (x := .tmp 17) (VScal.one rfl) (fun ρ h1 w => by go_simp; (try go_bits); with_reducible rfl) rfl) rfl (gle rfl)) rfl rfl rfl (gle rfl) rfl rfl ?_
    refine SV.op (OpL.ok (nb := 0) (ok_pickF (v := V.one (.sc _)) rfl rfl rfl) rfl (gle rfl)) rfl ?_
    refine SV.nil ?_
    refine SV.tn ?_
    refine SV.cond rfl (fun hc1 => ?_) (fun hc1 => ?_)
    · skip   -- c1.T
      have hno : Runs.can l m = false := by
        rw [Bool.eq_false_iff]
        intro h
        unfold Runs.can Runs.isMem at h
        rw [Bool.and_eq_true, decide_eq_true_eq] at h
        obtain ⟨h1, h2⟩ := h
        first | (rw [h1] at hg0; cases hg0; done) | (simp at hc1; omega)
      have hb : Runs.build l m = [] := by unfold Runs.build; rw [if_neg (by rw [hno]; decide)]
      refine SV.seq' ?_
      refine SV.region ?_
      refine SV.op (OpMk.ok (ok_lit0 (kk := 0) elt_impl_Run rfl rfl rfl (gle rfl))) rfl ?_
      refine SV.op (OpL.ok (nb := 0) (ok_move (v := V.one (.hd 0)) (.inr rfl) rfl) rfl (gle rfl)) rfl ?_
      refine SV.op (OpL.ok (nb := 0) (ok_move (v := V.one (.sc _)) (.inr rfl) rfl) rfl (gle rfl)) rfl ?_
      refine SV.nil ?_
      refine SV.tn ?_
      refine SV.ret ?_
      refine SV.tr ?_
      apply SV.done (hf := Try.results34) (ht := rfl) (he := .inl rfl)
      case hr => exact (ResAll.cons (ResOk.tmp (ag := false) (xs := [.hd 0]) rfl) (ResAll.cons (ResOk.tmp (ag := false) (xs := [.sc _]) rfl) ResAll.nil'))
      case h2 => simp [two]
      refine ⟨rfl, ⟨?_, trivial⟩, ⟨rfl, ⟨?_, trivial⟩, trivial⟩⟩ <;> first | rfl | (rw [hb]; rfl) | ((show some (T.seq _ _) = some (T.seq _ _); refine congrArg (fun z => some (T.seq _ z)) ?_; rw [hb]; first | done | rfl | (simp [tRun]; done))) | ((show some (T.lit (Value.bool _)) = some (T.lit (Value.bool _)); refine congrArg (fun z => some (T.lit (Value.bool z))) ?_; rw [hno])) | ((show some (T.lit (Value.bool _)) = some (T.lit (Value.bool _)); refine congrArg (fun z => some (T.lit (Value.bool z))) ?_; rw [hcan]))
    · skip   -- c1.F
      have hcan : Runs.can l m = true := by
        unfold Runs.can Runs.isMem
        rw [Bool.and_eq_true, decide_eq_true_eq]
        refine ⟨by simpa using hg0, ?_⟩
        simp at hc1
        omega
      have hlm : okRows l = true ∧ Runs.isMem m = true := by have h := hcan; unfold Runs.can at h; rw [Bool.and_eq_true] at h; exact h
      refine SV.skip ?_
      refine SV.tn ?_
      refine SV.seq' ?_
      refine SV.region ?_
      refine SV.op (OpMk.ok (ok_lit0 (kk := 0) elt_impl_Run rfl rfl rfl (gle rfl))) rfl ?_
      refine SV.op (OpL.ok (nb := 0) (ok_move (v := V.one (.hd 0)) (.inr rfl) rfl) rfl (gle rfl)) rfl ?_
      refine SV.nil ?_
      refine SV.tn ?_
      refine SV.seq' ?_
      refine SV.region ?_
      refine SV.op (OpMk.ok (ok_lit0 (kk := 1) elt_impl_Row rfl rfl rfl (gle rfl))) rfl ?_
      refine SV.op (OpL.ok (nb := 0) (ok_move (v := V.one (.hd 1)) (.inr rfl) rfl) rfl (gle rfl)) rfl ?_
      refine SV.nil ?_
      refine SV.tn ?_
      refine SV.seq' ?_
      refine SV.region ?_
      refine SV.op (OpMk.ok (ok_lit0 (kk := 2) elt_impl_Row rfl rfl rfl (gle rfl))) rfl ?_
      refine SV.op (OpL.ok (nb := 0) (ok_move (v := V.one (.hd 2)) (.inr rfl) rfl) rfl (gle rfl)) rfl ?_
      refine SV.nil ?_
      refine SV.tn ?_
      refine SV.seq' ?_
      refine SV.region ?_
      refine SV.op (OpMk.ok (ok_lit0 (kk := 3) elt_impl_Row rfl rfl rfl (gle rfl))) rfl ?_
      refine SV.op (OpL.ok (nb := 0) (ok_move (v := V.one (.hd 3)) (.inr rfl) rfl) rfl (gle rfl)) rfl ?_
      refine SV.nil ?_
      refine SV.tn ?_
      refine SV.seq' ?_
      refine SV.seq' ?_
      refine SV.region ?_
      refine SV.op (OpL.ok (nb := 0) (ok_move (v := V.one (.sc _)) (.inr rfl) rfl) rfl (gle rfl)) rfl ?_
      refine SV.nil ?_
      refine SV.tn ?_
      refine SV.block ?_
      refine SV.loopF (X := Runs.St) (fun (σ : VS) s => (((((((((((((VS.nil.new (.seq 84 (s.out.map tRun))).new (.seq 72 (s.cur.map tRow))).new (.seq 72 (s.heap.map tRow))).new (.seq 72 (s.next.map tRow))).put 0 (σ.tm 0)).put 1 (σ.tm 1)).put 4 (σ.tm 4)).put 5 (σ.tm 5)).put 6 (V.flat false [.hd 0])).put 7 (V.flat false [.hd 1])).put 8 (V.flat false [.hd 2])).put 9 (V.flat false [.hd 3])).put 10 (V.flat false [.sc (.int .i64 (((s.i : Nat) : Int)))]))) (fun s => Runs.Going l m s) (fun s => Runs.mu l s) ?_ ?_
      · skip
        refine SV.again (fun i => [0, 1, 2, 3].getD i 0) Runs.init (Runs.going_init l m) (pins hE rfl rfl) (VS.le.mk' (le_put (le_put (le_put (le_put (le_put (le_put (le_put (le_put (le_put (le_new (le_new (le_new (le_new le_nil)))) (V.le.keep (ag := false) (xs := [.ro _]) (ys := [.ro _]) rfl rfl ⟨rfl, trivial⟩)) (V.le.keep (ag := false) (xs := [.sc _]) (ys := [.sc _]) rfl rfl ⟨rfl, trivial⟩)) (V.le.keep (ag := false) (xs := [.sc _]) (ys := [.sc _]) rfl rfl ⟨rfl, trivial⟩)) (V.le.keep (ag := false) (xs := [.sc _]) (ys := [.sc _]) rfl rfl ⟨rfl, trivial⟩)) (V.le.keep (ag := false) (xs := [.hd 0]) (ys := [.hd 0]) rfl rfl ⟨⟨rfl, (gle rfl), (gle rfl)⟩, trivial⟩)) (V.le.keep (ag := false) (xs := [.hd 1]) (ys := [.hd 1]) rfl rfl ⟨⟨rfl, (gle rfl), (gle rfl)⟩, trivial⟩)) (V.le.keep (ag := false) (xs := [.hd 2]) (ys := [.hd 2]) rfl rfl ⟨⟨rfl, (gle rfl), (gle rfl)⟩, trivial⟩)) (V.le.keep (ag := false) (xs := [.hd 3]) (ys := [.hd 3]) rfl rfl ⟨⟨rfl, (gle rfl), (gle rfl)⟩, trivial⟩)) (V.le.keep (ag := false) (xs := [.sc _]) (ys := [.sc _]) rfl rfl ⟨(by first | rfl | (show Leaf.sc _ = Leaf.sc _; refine congrArg Leaf.sc ?_; first | rfl | go_num | (rw [hst]; first | done | rfl; first | done | rfl | go_num | (simp; done) | (simp; omega)) | (simp [cntAll]; done)) | (simp [cntAll]; done) | (simp; omega)), trivial⟩)) trivial ⟨.inr ⟨_, _, rfl, ?ob1_3, (gle rfl)⟩, ⟨.inr ⟨_, _, rfl, ?ob1_2, (gle rfl)⟩, ⟨.inr ⟨_, _, rfl, ?ob1_1, (gle rfl)⟩, ⟨.inr ⟨_, _, rfl, ?ob1_0, (gle rfl)⟩, trivial⟩⟩⟩⟩ (new_ob (new_ob (new_ob (new_ob nil_ob)))) (fun i j hi hj e => inj_list (l := [0, 1, 2, 3]) (by decide) i j hi hj e))
        case ob1_0 =>
          show some (T.seq _ _) = some (T.seq _ _)
          rfl
        case ob1_1 =>
          show some (T.seq _ _) = some (T.seq _ _)
          rfl
        case ob1_2 =>
          show some (T.seq _ _) = some (T.seq _ _)
          rfl
        case ob1_3 =>
          show some (T.seq _ _) = some (T.seq _ _)
          rfl
      · rintro s hG
        obtain ⟨⟨hl1, hl2, hl3⟩, hl4, hl5, hl6⟩ := going_len hcan hG
        have hwf := going_wf hcan hG hW
        refine SV.seq' ?_
        refine SV.seq' ?_
        refine SV.region ?_
        refine SV.op (OpL.ok (nb := 0) (ok_move (v := V.one (.sc _)) (.inl rfl) rfl) rfl (gle rfl)) rfl ?_
        refine SV.op (OpL.ok (nb := 0) (ok_move (v := V.one (.ro _)) (.inl rfl) rfl) rfl (gle rfl)) rfl ?_
        refine SV.op (OpL.ok (nb := 0) (ok_len (lf := .ro _) rfl elt_impl_Row.und rfl rfl) rfl (gle rfl)) rfl ?_
        refine SV.op (OpL.ok (nb := 0) (ok_s2 (x := .tmp 25) (x' := .tmp 27) (VScal.one rfl) (VScal.one rfl) (fun ρ h1 h2 w => by go_simp; (try go_bits); with_reducible rfl) rfl) rfl (gle rfl)) rfl ?_
        refine SV.op (OpL.ok (nb := 0) (ok_move (v := V.one (.sc _)) (.inl rfl) rfl) rfl (gle rfl)) rfl ?_
        refine SV.split (d := 29) rfl (fun hg1 => ?_) (fun hg1 => ?_)
        · skip   -- g1.T
          have hil : s.i < l.length := by simpa using hg1
          obtain ⟨r, hr⟩ : ∃ r, l[s.i]? = some r := ⟨_, List.getElem?_eq_getElem hil⟩
          have hd : Runs.done l s = false := by unfold Runs.done; rw [decide_eq_false_iff_not]; omega
          have htot1 := total_range s.heap
          have htot2 := total_range s.next
          have hcr := Runs.cost_ok (show r.ok = true by have h := hlm.1; unfold okRows allOk at h; rw [Bool.and_eq_true, List.all_eq_true] at h; exact h.2 r (List.mem_of_getElem? hr))
          refine SV.opN rfl rfl rfl (gle rfl) rfl rfl rfl (gle rfl) ?_
          refine SV.opN rfl rfl rfl (gle rfl) rfl rfl rfl (gle rfl) ?_
          refine SV.opN rfl rfl rfl (gle rfl) rfl rfl rfl (gle rfl) ?_
          refine SV.opN rfl rfl rfl (gle rfl) rfl rfl rfl (gle rfl) ?_
          refine SV.opN rfl rfl rfl (gle rfl) rfl rfl rfl (gle rfl) ?_
          refine SV.opN rfl rfl rfl (gle rfl) rfl rfl rfl (gle rfl) ?_
          refine SV.op (OpL.ok (nb := 0) (ok_pickT (v := V.one (.sc _)) rfl rfl rfl) rfl (gle rfl)) rfl ?_
          refine SV.nil ?_
          refine SV.tn ?_
          refine SV.cond rfl (fun hc2 => ?_) (fun hc2 => ?_)
          · skip   -- c2.T
            refine SV.skip ?_
            refine SV.tn ?_
            refine SV.block ?_
            refine SV.seq' ?_
            refine SV.seq' ?_
            refine SV.draw [.q 0, .q 1, .q 2, .q 3, .q 4, .q 5, .q 7, .q 10, .q 11, .q 12, .q 13, .q 16, .m 6, .m 8, .q 9, .m 14, .q 15, .q 17, .q 18] [] (by kernel_rfl) (by kernel_rfl) ?_
            refine DW.q rfl (ok_move (v := V.one (.sc _)) (.inl rfl) rfl) rfl rfl (gle rfl) (fun _ _ _ _ h => h) ?_
            refine DW.q rfl (ok_move (v := V.one (.ro _)) (.inl rfl) rfl) rfl rfl (gle rfl) (fun _ _ _ _ h => h) ?_
            refine DW.q rfl (ok_len (lf := .ro _) rfl elt_impl_Row.und rfl rfl) rfl rfl (gle rfl) (fun _ _ _ _ h => h) ?_
            refine DW.q rfl (ok_s2 (x := .tmp 37) (x' := .tmp 39) (VScal.one rfl) (VScal.one rfl) (fun ρ h1 h2 w => by go_simp; (try go_bits); with_reducible rfl) rfl) rfl rfl (gle rfl) (fun _ _ _ _ h => h) ?_
            refine DW.q rfl (ok_move (v := V.one (.sc _)) (.inl rfl) rfl) rfl rfl (gle rfl) (fun _ _ _ _ h => h) ?_
            refine DW.split (d := 41) rfl (fun hg2 => ?_) (fun hg2 => ?_)
            · skip   -- g2.T
              refine DW.qY rfl (ok_move (v := V.one (.hd 2)) (.inl rfl) rfl) rfl rfl rfl (gle rfl) rfl rfl rfl (gle rfl) (fun _ _ _ _ h => h) ?_
              refine DW.qY rfl (ok_move (v := V.one (.hd 3)) (.inl rfl) rfl) rfl rfl rfl (gle rfl) rfl rfl rfl (gle rfl) (fun _ _ _ _ h => h) ?_
              refine DW.qY rfl (ok_move (v := V.one (.ro _)) (.inl rfl) rfl) rfl rfl rfl (gle rfl) rfl rfl rfl (gle rfl) (fun _ _ _ _ h => h) ?_
              refine DW.qY rfl (ok_move (v := V.one (.sc _)) (.inl rfl) rfl) rfl rfl rfl (gle rfl) rfl rfl rfl (gle rfl) (fun _ _ _ _ h => h) ?_
              refine DW.qY rfl (ok_index (n := 3) (lf := .ro _) rfl elt_impl_Row.und sz_impl_Row rfl rfl rfl (map_at hr)) rfl rfl rfl (gle rfl) rfl rfl rfl (gle rfl) (fun _ _ _ _ h => h) ?_
              refine DW.qY rfl (ok_load_rp (ag := true) (m := 3) (ys := [.sc _, .sc _, .sc _]) rfl rfl agg_impl_Row sz_impl_Row (fun h => by cases h) (gle rfl) rfl) rfl rfl rfl (gle rfl) rfl rfl rfl (gle rfl) (fun _ _ _ _ h => h) ?_
              refine DW.qY rfl (ok_move (v := V.one (.sc _)) (.inl rfl) rfl) rfl rfl rfl (gle rfl) rfl rfl rfl (gle rfl) (fun _ _ _ _ h => h) ?_
              refine DW.m' [] rfl (ok_call (ls := [(false, [.sc _])]) rfl rfl ⟨_, _, Try.func67, rfl, by decide⟩ (vtotal_t s.heap hwf.1 (by omega)) ⟨⟨[.hd 2], rfl, ⟨rfl, trivial⟩⟩, trivial⟩ rfl (gle rfl)) (fun hr => wantedY hr rfl rfl rfl (gle rfl) rfl rfl) (gle rfl) (gle rfl) (.inl rfl) (fun j hj => by cases hj) ?_
              refine DW.m' [] rfl (ok_call (ls := [(false, [.sc _])]) rfl rfl ⟨_, _, Try.func67, rfl, by decide⟩ (vtotal_t s.next hwf.2 (by omega)) ⟨⟨[.hd 3], rfl, ⟨rfl, trivial⟩⟩, trivial⟩ rfl (gle rfl)) (fun hr => wantedY hr rfl rfl rfl (gle rfl) rfl rfl) (gle rfl) (gle rfl) (.inl rfl) (fun j hj => by cases hj) ?_
              refine DW.qY rfl (ok_s2 (v := .int .i64 (total s.heap + total s.next)) (x := .tmp 43) (x' := .tmp 45) (VScal.one rfl) (VScal.one rfl) (fun ρ h1 h2 w => by go_simp; rw [IntWalk.i64_left, IntWalk.wrap64_in _ ⟨by omega, by omega⟩]) rfl) rfl rfl rfl (gle rfl) rfl rfl rfl (gle rfl) (fun _ _ _ _ h => h) ?_
              refine DW.m' [] rfl (ok_call (ls := [(false, [.sc _])]) rfl rfl ⟨_, _, Try.func80, rfl, by decide⟩ (vcost_t r (hW r (List.mem_of_getElem? hr))) ⟨⟨[.sc _, .sc _, .sc _], rfl, ⟨rfl, rfl, rfl, trivial⟩⟩, trivial⟩ rfl (gle rfl)) (fun hr => wantedY hr rfl rfl rfl (gle rfl) rfl rfl) (gle rfl) (gle rfl) (.inl rfl) (fun j hj => by cases hj) ?_
              refine DW.qY rfl (ok_s2 (v := .int .i64 (total s.heap + total s.next + r.cost)) (x := .tmp 46) (x' := .tmp 51) (VScal.one rfl) (VScal.one rfl) (fun ρ h1 h2 w => by go_simp; rw [IntWalk.i64_left, IntWalk.wrap64_in _ ⟨by omega, by omega⟩]) rfl) rfl rfl rfl (gle rfl) rfl rfl rfl (gle rfl) (fun _ _ _ _ h => h) ?_
              refine DW.qY rfl (ok_s2 (x := .tmp 52) (x' := .tmp 53) (VScal.one rfl) (VScal.one rfl) (fun ρ h1 h2 w => by go_simp; (try go_bits); with_reducible rfl) rfl) rfl rfl rfl (gle rfl) rfl rfl rfl (gle rfl) (fun _ _ _ _ h => h) ?_
              refine DW.q rfl (ok_pickT (v := V.one (.sc _)) rfl rfl rfl) rfl rfl (gle rfl) (fun _ _ _ _ h => h) ?_
              refine DW.stores ?_
              refine SV.zend ?_
              refine SV.tn ?_
              refine SV.cond rfl (fun hc3 => ?_) (fun hc3 => ?_)
              · skip   -- c3.T
                have hroom : Runs.room m s r = true := by unfold Runs.room; simpa using hc3
                refine SV.seq' ?_
                refine SV.seq' ?_
                refine SV.draw [.q 0, .q 1, .q 2, .q 3, .q 4, .q 5, .q 6, .q 7, .q 8, .q 9, .q 10, .q 11, .q 12, .q 13, .m 14, .q 15, .q 16] [] (by kernel_rfl) (by kernel_rfl) ?_
                refine DW.q rfl (ok_move (v := V.one (.hd 1)) (.inl rfl) rfl) rfl rfl (gle rfl) (fun _ _ _ _ h => h) ?_
                refine DW.q rfl (ok_len (lf := .hd 1) rfl elt_impl_Row.und rfl rfl) rfl rfl (gle rfl) (fun _ _ _ _ h => h) ?_
                refine DW.q rfl (ok_s2 (x := .tmp 57) (x' := .const ((Value.int IntKind.i64 0))) (VScal.one rfl) (VScal.one rfl) (fun ρ h1 h2 w => by go_simp; (try go_bits); with_reducible rfl) rfl) rfl rfl (gle rfl) (fun _ _ _ _ h => h) ?_
                refine DW.q rfl (ok_move (v := V.one (.sc _)) (.inl rfl) rfl) rfl rfl (gle rfl) (fun _ _ _ _ h => h) ?_
                refine DW.split (d := 59) rfl (fun hg3 => ?_) (fun hg3 => ?_)
                · skip   -- g3.T
                  have hcl : 0 < s.cur.length := by rcases Nat.eq_zero_or_pos s.cur.length with h | h; (exfalso; simp [h] at hg3); (exact h)
                  obtain ⟨d, hdd⟩ : ∃ d, s.cur[s.cur.length - 1]? = some d := ⟨_, List.getElem?_eq_getElem (by omega)⟩
                  refine DW.qY rfl (ok_move (v := V.one (.ro _)) (.inl rfl) rfl) rfl rfl rfl (gle rfl) rfl rfl rfl (gle rfl) (fun _ _ _ _ h => h) ?_
                  refine DW.qY rfl (ok_move (v := V.one (.sc _)) (.inl rfl) rfl) rfl rfl rfl (gle rfl) rfl rfl rfl (gle rfl) (fun _ _ _ _ h => h) ?_
                  refine DW.qY rfl (ok_index (n := 3) (lf := .ro _) rfl elt_impl_Row.und sz_impl_Row rfl rfl rfl (map_at hr)) rfl rfl rfl (gle rfl) rfl rfl rfl (gle rfl) (fun _ _ _ _ h => h) ?_
                  refine DW.qY rfl (ok_load_rp (ag := true) (m := 3) (ys := [.sc _, .sc _, .sc _]) rfl rfl agg_impl_Row sz_impl_Row (fun h => by cases h) (gle rfl) rfl) rfl rfl rfl (gle rfl) rfl rfl rfl (gle rfl) (fun _ _ _ _ h => h) ?_
                  refine DW.qY rfl (ok_move (v := V.one (.hd 1)) (.inl rfl) rfl) rfl rfl rfl (gle rfl) rfl rfl rfl (gle rfl) (fun _ _ _ _ h => h) ?_
                  refine DW.qY rfl (ok_move (v := V.one (.hd 1)) (.inl rfl) rfl) rfl rfl rfl (gle rfl) rfl rfl rfl (gle rfl) (fun _ _ _ _ h => h) ?_
                  refine DW.qY rfl (ok_len (lf := .hd 1) rfl elt_impl_Row.und rfl rfl) rfl rfl rfl (gle rfl) rfl rfl rfl (gle rfl) (fun _ _ _ _ h => h) ?_
                  refine DW.qY rfl (ok_s2 (v := .int .i64 ((s.cur.length - 1 : Nat) : Int)) (x := .tmp 66) (x' := .const ((Value.int IntKind.i64 1))) (VScal.one rfl) (VScal.one rfl) (fun ρ h1 h2 w => by go_simp; all_goals ((try go_bits); first | with_reducible rfl | go_num | (simp; done) | (simp; omega))) rfl) rfl rfl rfl (gle rfl) rfl rfl rfl (gle rfl) (fun _ _ _ _ h => h) ?_
                  refine DW.qY rfl (ok_index (n := 3) (lf := .hd 1) rfl elt_impl_Row.und sz_impl_Row rfl rfl rfl (map_at hdd)) rfl rfl rfl (gle rfl) rfl rfl rfl (gle rfl) (fun _ _ _ _ h => h) ?_
                  refine DW.el' (ag := true) (m := 3) (ys := [.sc _, .sc _, .sc _]) rfl rfl rfl (cells_ep rfl (map_at hdd) rfl rfl) agg_impl_Row sz_impl_Row (fun h => by cases h) (gle rfl) rfl (fun hr => wantedY hr rfl rfl rfl (gle rfl) rfl rfl) rfl (gle rfl) (fun _ _ _ _ h => h) ?_
                  refine DW.m' [] rfl (ok_call (ls := [(false, [.sc _])]) rfl rfl ⟨_, _, Try.func73, rfl, by decide⟩ (vcmp_t r d) ⟨⟨[.sc _, .sc _, .sc _], rfl, ⟨rfl, rfl, rfl, trivial⟩⟩, ⟨[.sc _, .sc _, .sc _], rfl, ⟨rfl, rfl, rfl, trivial⟩⟩, trivial⟩ rfl (gle rfl)) (fun hr => wantedY hr rfl rfl rfl (gle rfl) rfl rfl) (gle rfl) (gle rfl) (.inl rfl) (fun j hj => by cases hj) ?_
                  refine DW.qY rfl (ok_s2 (x := .tmp 70) (x' := .const ((Value.int IntKind.i64 0))) (VScal.one rfl) (VScal.one rfl) (fun ρ h1 h2 w => by go_simp; (try go_bits); with_reducible rfl) rfl) rfl rfl rfl (gle rfl) rfl rfl rfl (gle rfl) (fun _ _ _ _ h => h) ?_
                  refine DW.q rfl (ok_pickT (v := V.one (.sc _)) rfl rfl rfl) rfl rfl (gle rfl) (fun _ _ _ _ h => h) ?_
                  refine DW.stores ?_
                  refine SV.zend ?_
                  refine SV.tn ?_
                  refine SV.cond rfl (fun hc4 => ?_) (fun hc4 => ?_)
                  · skip   -- c4.T
                    have hlt : Runs.later s.cur r = true := by rw [later_at hdd]; simpa using hc4
                    have hst : Runs.step l m s = ⟨s.i + 1, s.out, s.cur, s.heap, s.next ++ [r]⟩ := by rw [Runs.step_read hr hroom]; unfold Runs.take1; rw [if_pos hlt]
                    refine SV.region ?_
                    refine SV.op (OpL.ok (nb := 0) (ok_move (v := V.one (.hd 3)) (.inl rfl) rfl) rfl (gle rfl)) rfl ?_
                    refine SV.op (OpL.ok (nb := 0) (ok_move (v := V.one (.ro _)) (.inl rfl) rfl) rfl (gle rfl)) rfl ?_
                    refine SV.op (OpL.ok (nb := 0) (ok_move (v := V.one (.sc _)) (.inl rfl) rfl) rfl (gle rfl)) rfl ?_
                    refine SV.op (OpL.ok (nb := 0) (ok_index (n := 3) (lf := .ro _) rfl elt_impl_Row.und sz_impl_Row rfl rfl rfl (map_at hr)) rfl (gle rfl)) rfl ?_
                    refine SV.op (OpL.ok (nb := 0) (ok_load_rp (ag := true) (m := 3) (ys := [.sc _, .sc _, .sc _]) rfl rfl agg_impl_Row sz_impl_Row (fun h => by cases h) (gle rfl) rfl) rfl (gle rfl)) rfl ?_
                    refine SV.op (OpMk.ok (ok_lit1 (kk := 4) elt_impl_Row (ag := true) (xs := [.sc _, .sc _, .sc _]) rfl rfl rfl rfl (fun h => by cases h) (outs_c rfl (outs_c rfl (outs_c rfl outs_n))) (by simp [two]) rfl (gle rfl))) rfl ?_
                    refine SV.op (OpMk.ok (ok_append (kk := 5) elt_impl_Row (ls := .hd 3) (lx := .hd 4) rfl rfl rfl rfl rfl rfl (by intro i h1 h2; first | (cases h1; done) | (cases h1; cases h2)) (by first | omega | (simp only [List.length_map]; omega) | (simp; done) | (simp; omega)) rfl (gle rfl))) rfl ?_
                    refine SV.op (OpL.ok (nb := 0) (ok_move (v := V.one (.hd 5)) (.inr rfl) rfl) rfl (gle rfl)) rfl ?_
                    refine SV.nil ?_
                    refine SV.tn ?_
                    refine SV.seq' ?_
                    refine SV.region ?_
                    refine SV.op (OpL.ok (nb := 0) (ok_move (v := V.one (.sc _)) (.inl rfl) rfl) rfl (gle rfl)) rfl ?_
                    refine SV.op (OpL.ok (nb := 0) (ok_s2 (v := .int .i64 ((s.i + 1 : Nat) : Int)) (x := .tmp 87) (x' := .const ((Value.int IntKind.i64 1))) (VScal.one rfl) (VScal.one rfl) (fun ρ h1 h2 w => by go_simp; all_goals ((try go_bits); first | with_reducible rfl | go_num | (simp; done) | (simp; omega))) rfl) rfl (gle rfl)) rfl ?_
                    refine SV.op (OpL.ok (nb := 0) (ok_move (v := V.one (.sc _)) (.inr rfl) rfl) rfl (gle rfl)) rfl ?_
                    refine SV.nil ?_
                    refine SV.tn ?_
                    refine SV.exit ?_
                    refine SV.te ?_
                    refine SV.bh ?_
                    refine SV.tn ?_
                    refine SV.again (fun i => [0, 1, 2, 5].getD i 0) ((Runs.step l m s)) (Runs.going_next hlm.1 hlm.2 hG hd rfl) (pins hE rfl rfl) (VS.le.mk' (le_put (le_put (le_put (le_put (le_put (le_put (le_put (le_put (le_put (le_new (le_new (le_new (le_new le_nil)))) (V.le.keep (ag := false) (xs := [.ro _]) (ys := [.ro _]) rfl rfl ⟨rfl, trivial⟩)) (V.le.keep (ag := false) (xs := [.sc _]) (ys := [.sc _]) rfl rfl ⟨rfl, trivial⟩)) (V.le.keep (ag := false) (xs := [.sc _]) (ys := [.sc _]) rfl rfl ⟨rfl, trivial⟩)) (V.le.keep (ag := false) (xs := [.sc _]) (ys := [.sc _]) rfl rfl ⟨rfl, trivial⟩)) (V.le.keep (ag := false) (xs := [.hd 0]) (ys := [.hd 0]) rfl rfl ⟨⟨rfl, (gle rfl), (gle rfl)⟩, trivial⟩)) (V.le.keep (ag := false) (xs := [.hd 1]) (ys := [.hd 1]) rfl rfl ⟨⟨rfl, (gle rfl), (gle rfl)⟩, trivial⟩)) (V.le.keep (ag := false) (xs := [.hd 2]) (ys := [.hd 2]) rfl rfl ⟨⟨rfl, (gle rfl), (gle rfl)⟩, trivial⟩)) (V.le.keep (ag := false) (xs := [.hd 5]) (ys := [.hd 3]) rfl rfl ⟨⟨rfl, (gle rfl), (gle rfl)⟩, trivial⟩)) (V.le.keep (ag := false) (xs := [.sc _]) (ys := [.sc _]) rfl rfl ⟨(by first | rfl | (show Leaf.sc _ = Leaf.sc _; refine congrArg Leaf.sc ?_; first | rfl | go_num | (rw [hst]; first | done | rfl; first | done | rfl | go_num | (simp; done) | (simp; omega)) | (simp [cntAll]; done)) | (simp [cntAll]; done) | (simp; omega)), trivial⟩)) trivial ⟨.inr ⟨_, _, rfl, ?ob2_3, (gle rfl)⟩, ⟨.inr ⟨_, _, rfl, ?ob2_2, (gle rfl)⟩, ⟨.inr ⟨_, _, rfl, ?ob2_1, (gle rfl)⟩, ⟨.inr ⟨_, _, rfl, ?ob2_0, (gle rfl)⟩, trivial⟩⟩⟩⟩ (new_ob (new_ob (new_ob (new_ob nil_ob)))) (fun i j hi hj e => inj_list (l := [0, 1, 2, 5]) (by decide) i j hi hj e))
                    case ob2_0 =>
                      show some (T.seq _ _) = some (T.seq _ _)
                      rw [hst]; first | done | rfl | (simp only [List.map_append]; rfl) | (simp [tRun, tRow]; done)
                    case ob2_1 =>
                      show some (T.seq _ _) = some (T.seq _ _)
                      rw [hst]; first | done | rfl | (simp only [List.map_append]; rfl) | (simp [tRun, tRow]; done)
                    case ob2_2 =>
                      show some (T.seq _ _) = some (T.seq _ _)
                      rw [hst]; first | done | rfl | (simp only [List.map_append]; rfl) | (simp [tRun, tRow]; done)
                    case ob2_3 =>
                      show some (T.seq _ _) = some (T.seq _ _)
                      rw [hst]; first | done | rfl | (simp only [List.map_append]; rfl) | (simp [tRun, tRow]; done)
                  · skip   -- c4.F
                    have hlt : Runs.later s.cur r = false := by rw [later_at hdd]; simpa using hc4
                    have hst : Runs.step l m s = ⟨s.i + 1, s.out, s.cur, s.heap ++ [r], s.next⟩ := by rw [Runs.step_read hr hroom]; unfold Runs.take1; rw [if_neg (by rw [hlt]; decide)]
                    refine SV.region ?_
                    refine SV.op (OpL.ok (nb := 0) (ok_move (v := V.one (.hd 2)) (.inl rfl) rfl) rfl (gle rfl)) rfl ?_
                    refine SV.op (OpL.ok (nb := 0) (ok_move (v := V.one (.ro _)) (.inl rfl) rfl) rfl (gle rfl)) rfl ?_
                    refine SV.op (OpL.ok (nb := 0) (ok_move (v := V.one (.sc _)) (.inl rfl) rfl) rfl (gle rfl)) rfl ?_
                    refine SV.op (OpL.ok (nb := 0) (ok_index (n := 3) (lf := .ro _) rfl elt_impl_Row.und sz_impl_Row rfl rfl rfl (map_at hr)) rfl (gle rfl)) rfl ?_
                    refine SV.op (OpL.ok (nb := 0) (ok_load_rp (ag := true) (m := 3) (ys := [.sc _, .sc _, .sc _]) rfl rfl agg_impl_Row sz_impl_Row (fun h => by cases h) (gle rfl) rfl) rfl (gle rfl)) rfl ?_
                    refine SV.op (OpMk.ok (ok_lit1 (kk := 4) elt_impl_Row (ag := true) (xs := [.sc _, .sc _, .sc _]) rfl rfl rfl rfl (fun h => by cases h) (outs_c rfl (outs_c rfl (outs_c rfl outs_n))) (by simp [two]) rfl (gle rfl))) rfl ?_
                    refine SV.op (OpMk.ok (ok_append (kk := 5) elt_impl_Row (ls := .hd 2) (lx := .hd 4) rfl rfl rfl rfl rfl rfl (by intro i h1 h2; first | (cases h1; done) | (cases h1; cases h2)) (by first | omega | (simp only [List.length_map]; omega) | (simp; done) | (simp; omega)) rfl (gle rfl))) rfl ?_
                    refine SV.op (OpL.ok (nb := 0) (ok_move (v := V.one (.hd 5)) (.inr rfl) rfl) rfl (gle rfl)) rfl ?_
                    refine SV.nil ?_
                    refine SV.tn ?_
                    refine SV.seq' ?_
                    refine SV.region ?_
                    refine SV.op (OpL.ok (nb := 0) (ok_move (v := V.one (.sc _)) (.inl rfl) rfl) rfl (gle rfl)) rfl ?_
                    refine SV.op (OpL.ok (nb := 0) (ok_s2 (v := .int .i64 ((s.i + 1 : Nat) : Int)) (x := .tmp 87) (x' := .const ((Value.int IntKind.i64 1))) (VScal.one rfl) (VScal.one rfl) (fun ρ h1 h2 w => by go_simp; all_goals ((try go_bits); first | with_reducible rfl | go_num | (simp; done) | (simp; omega))) rfl) rfl (gle rfl)) rfl ?_
                    refine SV.op (OpL.ok (nb := 0) (ok_move (v := V.one (.sc _)) (.inr rfl) rfl) rfl (gle rfl)) rfl ?_
                    refine SV.nil ?_
                    refine SV.tn ?_
                    refine SV.exit ?_
                    refine SV.te ?_
                    refine SV.bh ?_
                    refine SV.tn ?_
                    refine SV.again (fun i => [0, 1, 5, 3].getD i 0) ((Runs.step l m s)) (Runs.going_next hlm.1 hlm.2 hG hd rfl) (pins hE rfl rfl) (VS.le.mk' (le_put (le_put (le_put (le_put (le_put (le_put (le_put (le_put (le_put (le_new (le_new (le_new (le_new le_nil)))) (V.le.keep (ag := false) (xs := [.ro _]) (ys := [.ro _]) rfl rfl ⟨rfl, trivial⟩)) (V.le.keep (ag := false) (xs := [.sc _]) (ys := [.sc _]) rfl rfl ⟨rfl, trivial⟩)) (V.le.keep (ag := false) (xs := [.sc _]) (ys := [.sc _]) rfl rfl ⟨rfl, trivial⟩)) (V.le.keep (ag := false) (xs := [.sc _]) (ys := [.sc _]) rfl rfl ⟨rfl, trivial⟩)) (V.le.keep (ag := false) (xs := [.hd 0]) (ys := [.hd 0]) rfl rfl ⟨⟨rfl, (gle rfl), (gle rfl)⟩, trivial⟩)) (V.le.keep (ag := false) (xs := [.hd 1]) (ys := [.hd 1]) rfl rfl ⟨⟨rfl, (gle rfl), (gle rfl)⟩, trivial⟩)) (V.le.keep (ag := false) (xs := [.hd 5]) (ys := [.hd 2]) rfl rfl ⟨⟨rfl, (gle rfl), (gle rfl)⟩, trivial⟩)) (V.le.keep (ag := false) (xs := [.hd 3]) (ys := [.hd 3]) rfl rfl ⟨⟨rfl, (gle rfl), (gle rfl)⟩, trivial⟩)) (V.le.keep (ag := false) (xs := [.sc _]) (ys := [.sc _]) rfl rfl ⟨(by first | rfl | (show Leaf.sc _ = Leaf.sc _; refine congrArg Leaf.sc ?_; first | rfl | go_num | (rw [hst]; first | done | rfl; first | done | rfl | go_num | (simp; done) | (simp; omega)) | (simp [cntAll]; done)) | (simp [cntAll]; done) | (simp; omega)), trivial⟩)) trivial ⟨.inr ⟨_, _, rfl, ?ob3_3, (gle rfl)⟩, ⟨.inr ⟨_, _, rfl, ?ob3_2, (gle rfl)⟩, ⟨.inr ⟨_, _, rfl, ?ob3_1, (gle rfl)⟩, ⟨.inr ⟨_, _, rfl, ?ob3_0, (gle rfl)⟩, trivial⟩⟩⟩⟩ (new_ob (new_ob (new_ob (new_ob nil_ob)))) (fun i j hi hj e => inj_list (l := [0, 1, 5, 3]) (by decide) i j hi hj e))
                    case ob3_0 =>
                      show some (T.seq _ _) = some (T.seq _ _)
                      rw [hst]; first | done | rfl | (simp only [List.map_append]; rfl) | (simp [tRun, tRow]; done)
                    case ob3_1 =>
                      show some (T.seq _ _) = some (T.seq _ _)
                      rw [hst]; first | done | rfl | (simp only [List.map_append]; rfl) | (simp [tRun, tRow]; done)
                    case ob3_2 =>
                      show some (T.seq _ _) = some (T.seq _ _)
                      rw [hst]; first | done | rfl | (simp only [List.map_append]; rfl) | (simp [tRun, tRow]; done)
                    case ob3_3 =>
                      show some (T.seq _ _) = some (T.seq _ _)
                      rw [hst]; first | done | rfl | (simp only [List.map_append]; rfl) | (simp [tRun, tRow]; done)
                · skip   -- g3.F
                  have hcl : s.cur.length = 0 := by first | (simpa using hg3) | (simp at hg3; omega) | (simp at hg3; rw [hg3]; rfl)
                  have hlt := later_nil (r := r) hcl
                  have hst : Runs.step l m s = ⟨s.i + 1, s.out, s.cur, s.heap ++ [r], s.next⟩ := by rw [Runs.step_read hr hroom]; unfold Runs.take1; rw [if_neg (by rw [hlt]; decide)]
                  refine DW.qN (V' := V.one .dead) rfl rfl rfl rfl (gle rfl) rfl rfl rfl (gle rfl) (fun _ _ _ _ h => h) ?_
                  refine DW.qN (V' := V.one .dead) rfl rfl rfl rfl (gle rfl) rfl rfl rfl (gle rfl) (fun _ _ _ _ h => h) ?_
                  refine DW.qN (V' := V.one .dead) rfl rfl rfl rfl (gle rfl) rfl rfl rfl (gle rfl) (fun _ _ _ _ h => h) ?_
                  refine DW.qN (V' := V.one .dead) rfl rfl rfl rfl (gle rfl) rfl rfl rfl (gle rfl) (fun _ _ _ _ h => h) ?_
                  refine DW.qN (V' := V.one .dead) rfl rfl rfl rfl (gle rfl) rfl rfl rfl (gle rfl) (fun _ _ _ _ h => h) ?_
                  refine DW.qN (V' := V.one .dead) rfl rfl rfl rfl (gle rfl) rfl rfl rfl (gle rfl) (fun _ _ _ _ h => h) ?_
                  refine DW.qN (V' := V.one .dead) rfl rfl rfl rfl (gle rfl) rfl rfl rfl (gle rfl) (fun _ _ _ _ h => h) ?_
                  refine DW.qN (V' := V.one .dead) rfl rfl rfl rfl (gle rfl) rfl rfl rfl (gle rfl) (fun _ _ _ _ h => h) ?_
                  refine DW.qN (V' := V.one .dead) rfl rfl rfl rfl (gle rfl) rfl rfl rfl (gle rfl) (fun _ _ _ _ h => h) ?_
                  refine DW.qN (V' := V.one .dead) rfl rfl rfl rfl (gle rfl) rfl rfl rfl (gle rfl) (fun _ _ _ _ h => h) ?_
                  refine DW.mN rfl rfl rfl rfl (gle rfl) rfl rfl rfl (gle rfl) ?_
                  refine DW.qN (V' := V.one .dead) rfl rfl rfl rfl (gle rfl) rfl rfl rfl (gle rfl) (fun _ _ _ _ h => h) ?_
                  refine DW.q rfl (ok_pickF (v := V.one (.sc _)) rfl rfl rfl) rfl rfl (gle rfl) (fun _ _ _ _ h => h) ?_
                  refine DW.stores ?_
                  refine SV.zend ?_
                  refine SV.tn ?_
                  refine SV.cond rfl (fun hc5 => ?_) (fun hc5 => ?_)
                  · skip   -- c5.T
                    cases hc5
                  · skip   -- c5.F
                    refine SV.region ?_
                    refine SV.op (OpL.ok (nb := 0) (ok_move (v := V.one (.hd 2)) (.inl rfl) rfl) rfl (gle rfl)) rfl ?_
                    refine SV.op (OpL.ok (nb := 0) (ok_move (v := V.one (.ro _)) (.inl rfl) rfl) rfl (gle rfl)) rfl ?_
                    refine SV.op (OpL.ok (nb := 0) (ok_move (v := V.one (.sc _)) (.inl rfl) rfl) rfl (gle rfl)) rfl ?_
                    refine SV.op (OpL.ok (nb := 0) (ok_index (n := 3) (lf := .ro _) rfl elt_impl_Row.und sz_impl_Row rfl rfl rfl (map_at hr)) rfl (gle rfl)) rfl ?_
                    refine SV.op (OpL.ok (nb := 0) (ok_load_rp (ag := true) (m := 3) (ys := [.sc _, .sc _, .sc _]) rfl rfl agg_impl_Row sz_impl_Row (fun h => by cases h) (gle rfl) rfl) rfl (gle rfl)) rfl ?_
                    refine SV.op (OpMk.ok (ok_lit1 (kk := 4) elt_impl_Row (ag := true) (xs := [.sc _, .sc _, .sc _]) rfl rfl rfl rfl (fun h => by cases h) (outs_c rfl (outs_c rfl (outs_c rfl outs_n))) (by simp [two]) rfl (gle rfl))) rfl ?_
                    refine SV.op (OpMk.ok (ok_append (kk := 5) elt_impl_Row (ls := .hd 2) (lx := .hd 4) rfl rfl rfl rfl rfl rfl (by intro i h1 h2; first | (cases h1; done) | (cases h1; cases h2)) (by first | omega | (simp only [List.length_map]; omega) | (simp; done) | (simp; omega)) rfl (gle rfl))) rfl ?_
                    refine SV.op (OpL.ok (nb := 0) (ok_move (v := V.one (.hd 5)) (.inr rfl) rfl) rfl (gle rfl)) rfl ?_
                    refine SV.nil ?_
                    refine SV.tn ?_
                    refine SV.seq' ?_
                    refine SV.region ?_
                    refine SV.op (OpL.ok (nb := 0) (ok_move (v := V.one (.sc _)) (.inl rfl) rfl) rfl (gle rfl)) rfl ?_
                    refine SV.op (OpL.ok (nb := 0) (ok_s2 (v := .int .i64 ((s.i + 1 : Nat) : Int)) (x := .tmp 87) (x' := .const ((Value.int IntKind.i64 1))) (VScal.one rfl) (VScal.one rfl) (fun ρ h1 h2 w => by go_simp; all_goals ((try go_bits); first | with_reducible rfl | go_num | (simp; done) | (simp; omega))) rfl) rfl (gle rfl)) rfl ?_
                    refine SV.op (OpL.ok (nb := 0) (ok_move (v := V.one (.sc _)) (.inr rfl) rfl) rfl (gle rfl)) rfl ?_
                    refine SV.nil ?_
                    refine SV.tn ?_
                    refine SV.exit ?_
                    refine SV.te ?_
                    refine SV.bh ?_
                    refine SV.tn ?_
                    refine SV.again (fun i => [0, 1, 5, 3].getD i 0) ((Runs.step l m s)) (Runs.going_next hlm.1 hlm.2 hG hd rfl) (pins hE rfl rfl) (VS.le.mk' (le_put (le_put (le_put (le_put (le_put (le_put (le_put (le_put (le_put (le_new (le_new (le_new (le_new le_nil)))) (V.le.keep (ag := false) (xs := [.ro _]) (ys := [.ro _]) rfl rfl ⟨rfl, trivial⟩)) (V.le.keep (ag := false) (xs := [.sc _]) (ys := [.sc _]) rfl rfl ⟨rfl, trivial⟩)) (V.le.keep (ag := false) (xs := [.sc _]) (ys := [.sc _]) rfl rfl ⟨rfl, trivial⟩)) (V.le.keep (ag := false) (xs := [.sc _]) (ys := [.sc _]) rfl rfl ⟨rfl, trivial⟩)) (V.le.keep (ag := false) (xs := [.hd 0]) (ys := [.hd 0]) rfl rfl ⟨⟨rfl, (gle rfl), (gle rfl)⟩, trivial⟩)) (V.le.keep (ag := false) (xs := [.hd 1]) (ys := [.hd 1]) rfl rfl ⟨⟨rfl, (gle rfl), (gle rfl)⟩, trivial⟩)) (V.le.keep (ag := false) (xs := [.hd 5]) (ys := [.hd 2]) rfl rfl ⟨⟨rfl, (gle rfl), (gle rfl)⟩, trivial⟩)) (V.le.keep (ag := false) (xs := [.hd 3]) (ys := [.hd 3]) rfl rfl ⟨⟨rfl, (gle rfl), (gle rfl)⟩, trivial⟩)) (V.le.keep (ag := false) (xs := [.sc _]) (ys := [.sc _]) rfl rfl ⟨(by first | rfl | (show Leaf.sc _ = Leaf.sc _; refine congrArg Leaf.sc ?_; first | rfl | go_num | (rw [hst]; first | done | rfl; first | done | rfl | go_num | (simp; done) | (simp; omega)) | (simp [cntAll]; done)) | (simp [cntAll]; done) | (simp; omega)), trivial⟩)) trivial ⟨.inr ⟨_, _, rfl, ?ob4_3, (gle rfl)⟩, ⟨.inr ⟨_, _, rfl, ?ob4_2, (gle rfl)⟩, ⟨.inr ⟨_, _, rfl, ?ob4_1, (gle rfl)⟩, ⟨.inr ⟨_, _, rfl, ?ob4_0, (gle rfl)⟩, trivial⟩⟩⟩⟩ (new_ob (new_ob (new_ob (new_ob nil_ob)))) (fun i j hi hj e => inj_list (l := [0, 1, 5, 3]) (by decide) i j hi hj e))
                    case ob4_0 =>
                      show some (T.seq _ _) = some (T.seq _ _)
                      rw [hst]; first | done | rfl | (simp only [List.map_append]; rfl) | (simp [tRun, tRow]; done)
                    case ob4_1 =>
                      show some (T.seq _ _) = some (T.seq _ _)
                      rw [hst]; first | done | rfl | (simp only [List.map_append]; rfl) | (simp [tRun, tRow]; done)
                    case ob4_2 =>
                      show some (T.seq _ _) = some (T.seq _ _)
                      rw [hst]; first | done | rfl | (simp only [List.map_append]; rfl) | (simp [tRun, tRow]; done)
                    case ob4_3 =>
                      show some (T.seq _ _) = some (T.seq _ _)
                      rw [hst]; first | done | rfl | (simp only [List.map_append]; rfl) | (simp [tRun, tRow]; done)
              · skip   -- c3.F
                have hroom : Runs.room m s r = false := by unfold Runs.room; simpa using hc3
                have hst0 : Runs.step l m s = Runs.step.flow s := Runs.step_flow (by unfold Runs.reads; rw [hr]; exact hroom)
                refine SV.skip ?_
                refine SV.tn ?_
                refine SV.seq' ?_
                refine SV.seq' ?_
                refine SV.region ?_
                refine SV.op (OpL.ok (nb := 0) (ok_move (v := V.one (.hd 2)) (.inl rfl) rfl) rfl (gle rfl)) rfl ?_
                refine SV.op (OpL.ok (nb := 0) (ok_len (lf := .hd 2) rfl elt_impl_Row.und rfl rfl) rfl (gle rfl)) rfl ?_
                refine SV.op (OpL.ok (nb := 0) (ok_s2 (x := .tmp 90) (x' := .const ((Value.int IntKind.i64 0))) (VScal.one rfl) (VScal.one rfl) (fun ρ h1 h2 w => by go_simp; (try go_bits); with_reducible rfl) rfl) rfl (gle rfl)) rfl ?_
                refine SV.nil ?_
                refine SV.tn ?_
                refine SV.cond rfl (fun hc6 => ?_) (fun hc6 => ?_)
                · skip   -- c6.T
                  have h0 : s.heap.length = 0 := by first | (simpa using hc6) | (simp at hc6; omega) | (simp at hc6; rw [hc6]; rfl)
                  have hst : Runs.step l m s = ⟨s.i, s.out ++ [s.cur], [], s.next, []⟩ := by rw [hst0, Runs.flow_turn h0]; rfl
                  refine SV.seq' ?_
                  refine SV.region ?_
                  refine SV.op (OpL.ok (nb := 0) (ok_move (v := V.one (.hd 0)) (.inl rfl) rfl) rfl (gle rfl)) rfl ?_
                  refine SV.op (OpL.ok (nb := 0) (ok_move (v := V.one (.hd 1)) (.inl rfl) rfl) rfl (gle rfl)) rfl ?_
                  refine SV.op (OpL.ok (nb := 0) (ok_build (zs := [.nl _]) (ys := [.hd 1]) (qs := [(0, [.hd 1])]) (pl := fun i => ([(0, 1)] : List (Nat × Nat))[i]?) rfl zero_impl_Run ⟨rfl, ⟨3, by decide, sz_impl_Row⟩, trivial⟩ ⟨⟨rfl, false, rfl, (fun _ => rfl), rfl⟩, trivial⟩ bld_impl_Run rfl) rfl (gle rfl)) rfl ?_
                  refine SV.op (OpMk.ok (ok_lit1 (kk := 4) elt_impl_Run (ag := true) (xs := [.hd 1]) rfl rfl rfl rfl (fun h => by cases h) (outs_c rfl outs_n) (by simp [two]) rfl (gle rfl))) rfl ?_
                  refine SV.op (OpMk.ok (ok_append (kk := 5) elt_impl_Run (ls := .hd 0) (lx := .hd 4) rfl rfl rfl rfl rfl rfl (by intro i h1 h2; first | (cases h1; done) | (cases h1; cases h2)) (by first | omega | (simp only [List.length_map]; omega) | (simp; done) | (simp; omega)) rfl (gle rfl))) rfl ?_
                  refine SV.op (OpL.ok (nb := 0) (ok_move (v := V.one (.hd 5)) (.inr rfl) rfl) rfl (gle rfl)) rfl ?_
                  refine SV.nil ?_
                  refine SV.tn ?_
                  refine SV.seq' ?_
                  refine SV.region ?_
                  refine SV.op (OpMk.ok (ok_lit0 (kk := 6) elt_impl_Row rfl rfl rfl (gle rfl))) rfl ?_
                  refine SV.op (OpL.ok (nb := 0) (ok_move (v := V.one (.hd 6)) (.inr rfl) rfl) rfl (gle rfl)) rfl ?_
                  refine SV.nil ?_
                  refine SV.tn ?_
                  refine SV.seq' ?_
                  refine SV.region ?_
                  refine SV.op (OpL.ok (nb := 0) (ok_move (v := V.one (.hd 3)) (.inl rfl) rfl) rfl (gle rfl)) rfl ?_
                  refine SV.op (OpL.ok (nb := 0) (ok_move (v := V.one (.hd 3)) (.inr rfl) rfl) rfl (gle rfl)) rfl ?_
                  refine SV.nil ?_
                  refine SV.tn ?_
                  refine SV.seq' ?_
                  refine SV.region ?_
                  refine SV.op (OpMk.ok (ok_lit0 (kk := 7) elt_impl_Row rfl rfl rfl (gle rfl))) rfl ?_
                  refine SV.op (OpL.ok (nb := 0) (ok_move (v := V.one (.hd 7)) (.inr rfl) rfl) rfl (gle rfl)) rfl ?_
                  refine SV.nil ?_
                  refine SV.tn ?_
                  refine SV.exit ?_
                  refine SV.te ?_
                  refine SV.bh ?_
                  refine SV.tn ?_
                  refine SV.again (fun i => [5, 6, 3, 7].getD i 0) ((Runs.step l m s)) (Runs.going_next hlm.1 hlm.2 hG hd rfl) (pins hE rfl rfl) (VS.le.mk' (le_put (le_put (le_put (le_put (le_put (le_put (le_put (le_put (le_put (le_new (le_new (le_new (le_new le_nil)))) (V.le.keep (ag := false) (xs := [.ro _]) (ys := [.ro _]) rfl rfl ⟨rfl, trivial⟩)) (V.le.keep (ag := false) (xs := [.sc _]) (ys := [.sc _]) rfl rfl ⟨rfl, trivial⟩)) (V.le.keep (ag := false) (xs := [.sc _]) (ys := [.sc _]) rfl rfl ⟨rfl, trivial⟩)) (V.le.keep (ag := false) (xs := [.sc _]) (ys := [.sc _]) rfl rfl ⟨rfl, trivial⟩)) (V.le.keep (ag := false) (xs := [.hd 5]) (ys := [.hd 0]) rfl rfl ⟨⟨rfl, (gle rfl), (gle rfl)⟩, trivial⟩)) (V.le.keep (ag := false) (xs := [.hd 6]) (ys := [.hd 1]) rfl rfl ⟨⟨rfl, (gle rfl), (gle rfl)⟩, trivial⟩)) (V.le.keep (ag := false) (xs := [.hd 3]) (ys := [.hd 2]) rfl rfl ⟨⟨rfl, (gle rfl), (gle rfl)⟩, trivial⟩)) (V.le.keep (ag := false) (xs := [.hd 7]) (ys := [.hd 3]) rfl rfl ⟨⟨rfl, (gle rfl), (gle rfl)⟩, trivial⟩)) (V.le.keep (ag := false) (xs := [.sc _]) (ys := [.sc _]) rfl rfl ⟨(by first | rfl | (show Leaf.sc _ = Leaf.sc _; refine congrArg Leaf.sc ?_; first | rfl | go_num | (rw [hst]; first | done | rfl; first | done | rfl | go_num | (simp; done) | (simp; omega)) | (simp [cntAll]; done)) | (simp [cntAll]; done) | (simp; omega)), trivial⟩)) trivial ⟨.inr ⟨_, _, rfl, ?ob5_3, (gle rfl)⟩, ⟨.inr ⟨_, _, rfl, ?ob5_2, (gle rfl)⟩, ⟨.inr ⟨_, _, rfl, ?ob5_1, (gle rfl)⟩, ⟨.inr ⟨_, _, rfl, ?ob5_0, (gle rfl)⟩, trivial⟩⟩⟩⟩ (new_ob (new_ob (new_ob (new_ob nil_ob)))) (fun i j hi hj e => inj_list (l := [5, 6, 3, 7]) (by decide) i j hi hj e))
                  case ob5_0 =>
                    show some (T.seq _ _) = some (T.seq _ _)
                    rw [hst]; first | done | rfl | (simp only [List.map_append]; rfl) | (simp [tRun, tRow]; done)
                  case ob5_1 =>
                    show some (T.seq _ _) = some (T.seq _ _)
                    rw [hst]; first | done | rfl | (simp only [List.map_append]; rfl) | (simp [tRun, tRow]; done)
                  case ob5_2 =>
                    show some (T.seq _ _) = some (T.seq _ _)
                    rw [hst]; first | done | rfl | (simp only [List.map_append]; rfl) | (simp [tRun, tRow]; done)
                  case ob5_3 =>
                    show some (T.seq _ _) = some (T.seq _ _)
                    rw [hst]; first | done | rfl | (simp only [List.map_append]; rfl) | (simp [tRun, tRow]; done)
                · skip   -- c6.F
                  have hh : 0 < s.heap.length := by rcases Nat.eq_zero_or_pos s.heap.length with h | h; (exfalso; simp [h] at hc6); (exact h)
                  have hk : Runs.minAt s.heap s.heap.length < s.heap.length := Runs.minAt_lt hh
                  obtain ⟨e, he⟩ : ∃ e, s.heap[Runs.minAt s.heap s.heap.length]? = some e := ⟨_, List.getElem?_eq_getElem hk⟩
                  have hst : Runs.step l m s = ⟨s.i, s.out, s.cur ++ [e], s.heap.eraseIdx (Runs.minAt s.heap s.heap.length), s.next⟩ := by rw [hst0, Runs.flow_give he]; rfl
                  have hvi := vidx_s s.heap (by omega)
                  rw [idxMin_pos hh] at hvi
                  refine SV.skip ?_
                  refine SV.tn ?_
                  refine SV.seq' ?_
                  refine SV.region ?_
                  refine SV.op (OpL.ok (nb := 0) (ok_move (v := V.one (.hd 2)) (.inl rfl) rfl) rfl (gle rfl)) rfl ?_
                  refine SV.op (OpMk.ok (ok_call (ls := [(false, [.sc _])]) rfl rfl ⟨_, _, Try.func90, rfl, by decide⟩ (hvi) ⟨⟨[.hd 2], rfl, ⟨rfl, trivial⟩⟩, trivial⟩ rfl (gle rfl))) rfl ?_
                  refine SV.op (OpL.ok (nb := 0) (ok_move (v := V.one (.sc _)) (.inr rfl) rfl) rfl (gle rfl)) rfl ?_
                  refine SV.nil ?_
                  refine SV.tn ?_
                  refine SV.seq' ?_
                  refine SV.region ?_
                  refine SV.op (OpL.ok (nb := 0) (ok_move (v := V.one (.hd 1)) (.inl rfl) rfl) rfl (gle rfl)) rfl ?_
                  refine SV.op (OpL.ok (nb := 0) (ok_move (v := V.one (.hd 2)) (.inl rfl) rfl) rfl (gle rfl)) rfl ?_
                  refine SV.op (OpL.ok (nb := 0) (ok_move (v := V.one (.sc _)) (.inl rfl) rfl) rfl (gle rfl)) rfl ?_
                  refine SV.op (OpL.ok (nb := 0) (ok_index (n := 3) (lf := .hd 2) rfl elt_impl_Row.und sz_impl_Row rfl rfl rfl (map_at he)) rfl (gle rfl)) rfl ?_
                  refine SV.op (ok_load_el (p := .ep 2 _ _ _) (ag := true) (m := 3) (ys := [.sc _, .sc _, .sc _]) rfl rfl (cells_ep rfl (map_at he) rfl rfl) agg_impl_Row sz_impl_Row (fun h => by cases h) (gle rfl) rfl rfl (gle rfl)) rfl ?_
                  refine SV.op (OpMk.ok (ok_lit1 (kk := 4) elt_impl_Row (ag := true) (xs := [.sc _, .sc _, .sc _]) rfl rfl rfl rfl (fun h => by cases h) (outs_c rfl (outs_c rfl (outs_c rfl outs_n))) (by simp [two]) rfl (gle rfl))) rfl ?_
                  refine SV.op (OpMk.ok (ok_append (kk := 5) elt_impl_Row (ls := .hd 1) (lx := .hd 4) rfl rfl rfl rfl rfl rfl (by intro i h1 h2; first | (cases h1; done) | (cases h1; cases h2)) (by first | omega | (simp only [List.length_map]; omega) | (simp; done) | (simp; omega)) rfl (gle rfl))) rfl ?_
                  refine SV.op (OpL.ok (nb := 0) (ok_move (v := V.one (.hd 5)) (.inr rfl) rfl) rfl (gle rfl)) rfl ?_
                  refine SV.nil ?_
                  refine SV.tn ?_
                  refine SV.region ?_
                  refine SV.op (OpL.ok (nb := 0) (ok_move (v := V.one (.hd 2)) (.inl rfl) rfl) rfl (gle rfl)) rfl ?_
                  refine SV.op (OpL.ok (nb := 0) (ok_move (v := V.one (.sc _)) (.inl rfl) rfl) rfl (gle rfl)) rfl ?_
                  refine SV.op (OpMk.ok (ok_call (ls := [(false, [.hd 6])]) rfl rfl ⟨_, _, Try.func91, rfl, by decide⟩ (vdrop11_s s.heap (Runs.minAt s.heap s.heap.length) hk (by omega)) ⟨⟨[.hd 2], rfl, ⟨rfl, trivial⟩⟩, ⟨[.sc _], rfl, ⟨rfl, trivial⟩⟩, trivial⟩ rfl (gle rfl))) rfl ?_
                  refine SV.op (OpL.ok (nb := 0) (ok_move (v := V.one (.hd 6)) (.inr rfl) rfl) rfl (gle rfl)) rfl ?_
                  refine SV.nil ?_
                  refine SV.bn ?_
                  refine SV.tn ?_
                  refine SV.again (fun i => [0, 5, 6, 3].getD i 0) ((Runs.step l m s)) (Runs.going_next hlm.1 hlm.2 hG hd rfl) (pins hE rfl rfl) (VS.le.mk' (le_put (le_put (le_put (le_put (le_put (le_put (le_put (le_put (le_put (le_new (le_new (le_new (le_new le_nil)))) (V.le.keep (ag := false) (xs := [.ro _]) (ys := [.ro _]) rfl rfl ⟨rfl, trivial⟩)) (V.le.keep (ag := false) (xs := [.sc _]) (ys := [.sc _]) rfl rfl ⟨rfl, trivial⟩)) (V.le.keep (ag := false) (xs := [.sc _]) (ys := [.sc _]) rfl rfl ⟨rfl, trivial⟩)) (V.le.keep (ag := false) (xs := [.sc _]) (ys := [.sc _]) rfl rfl ⟨rfl, trivial⟩)) (V.le.keep (ag := false) (xs := [.hd 0]) (ys := [.hd 0]) rfl rfl ⟨⟨rfl, (gle rfl), (gle rfl)⟩, trivial⟩)) (V.le.keep (ag := false) (xs := [.hd 5]) (ys := [.hd 1]) rfl rfl ⟨⟨rfl, (gle rfl), (gle rfl)⟩, trivial⟩)) (V.le.keep (ag := false) (xs := [.hd 6]) (ys := [.hd 2]) rfl rfl ⟨⟨rfl, (gle rfl), (gle rfl)⟩, trivial⟩)) (V.le.keep (ag := false) (xs := [.hd 3]) (ys := [.hd 3]) rfl rfl ⟨⟨rfl, (gle rfl), (gle rfl)⟩, trivial⟩)) (V.le.keep (ag := false) (xs := [.sc _]) (ys := [.sc _]) rfl rfl ⟨(by first | rfl | (show Leaf.sc _ = Leaf.sc _; refine congrArg Leaf.sc ?_; first | rfl | go_num | (rw [hst]; first | done | rfl; first | done | rfl | go_num | (simp; done) | (simp; omega)) | (simp [cntAll]; done)) | (simp [cntAll]; done) | (simp; omega)), trivial⟩)) trivial ⟨.inr ⟨_, _, rfl, ?ob6_3, (gle rfl)⟩, ⟨.inr ⟨_, _, rfl, ?ob6_2, (gle rfl)⟩, ⟨.inr ⟨_, _, rfl, ?ob6_1, (gle rfl)⟩, ⟨.inr ⟨_, _, rfl, ?ob6_0, (gle rfl)⟩, trivial⟩⟩⟩⟩ (new_ob (new_ob (new_ob (new_ob nil_ob)))) (fun i j hi hj e => inj_list (l := [0, 5, 6, 3]) (by decide) i j hi hj e))
                  case ob6_0 =>
                    show some (T.seq _ _) = some (T.seq _ _)
                    rw [hst]; first | done | rfl | (simp only [List.map_append]; rfl) | (simp [tRun, tRow]; done)
                  case ob6_1 =>
                    show some (T.seq _ _) = some (T.seq _ _)
                    rw [hst]; first | done | rfl | (simp only [List.map_append]; rfl) | (simp [tRun, tRow]; done)
                  case ob6_2 =>
                    show some (T.seq _ _) = some (T.seq _ _)
                    rw [hst]; first | done | rfl | (simp only [List.map_append]; rfl) | (simp [tRun, tRow]; done)
                  case ob6_3 =>
                    show some (T.seq _ _) = some (T.seq _ _)
                    rw [hst]; first | done | rfl | (simp only [List.map_append]; rfl) | (simp [tRun, tRow]; done)
            · skip   -- g2.F
              (exfalso; first | (cases hg2; done) | (rw [hg1] at hg2; cases hg2))
          · skip   -- c2.F
            cases hc2
        · skip   -- g1.F
          have hil : ¬ s.i < l.length := by simpa using hg1
          refine SV.opY (OpL.ok (nb := 0) (ok_move (v := V.one (.hd 2)) (.inl rfl) rfl) rfl (gle rfl)) rfl rfl rfl (gle rfl) rfl rfl ?_
          refine SV.opY (OpL.ok (nb := 0) (ok_len (lf := .hd 2) rfl elt_impl_Row.und rfl rfl) rfl (gle rfl)) rfl rfl rfl (gle rfl) rfl rfl ?_
          refine SV.opY (OpL.ok (nb := 0) (ok_move (v := V.one (.hd 3)) (.inl rfl) rfl) rfl (gle rfl)) rfl rfl rfl (gle rfl) rfl rfl ?_
          refine SV.opY (OpL.ok (nb := 0) (ok_len (lf := .hd 3) rfl elt_impl_Row.und rfl rfl) rfl (gle rfl)) rfl rfl rfl (gle rfl) rfl rfl ?_
          refine SV.opY (OpL.ok (nb := 0) (ok_s2 (v := .int .i64 ((s.heap.length : Int) + (s.next.length : Int))) (x := .tmp 31) (x' := .tmp 33) (VScal.one rfl) (VScal.one rfl) (fun ρ h1 h2 w => by go_simp; (try simp only [List.length_map]); rw [IntWalk.i64_left, IntWalk.wrap64_in _ ⟨by omega, by omega⟩]) rfl) rfl (gle rfl)) rfl rfl rfl (gle rfl) rfl rfl ?_
          refine SV.opY (OpL.ok (nb := 0) (ok_s2 (x := .tmp 34) (x' := .const ((Value.int IntKind.i64 0))) (VScal.one rfl) (VScal.one rfl) (fun ρ h1 h2 w => by go_simp; (try go_bits); with_reducible rfl) rfl) rfl (gle rfl)) rfl rfl rfl (gle rfl) rfl rfl ?_
          refine SV.op (OpL.ok (nb := 0) (ok_pickF (v := V.one (.sc _)) rfl rfl rfl) rfl (gle rfl)) rfl ?_
          refine SV.nil ?_
          refine SV.tn ?_
          refine SV.cond rfl (fun hc7 => ?_) (fun hc7 => ?_)
          · skip   -- c7.T
            have hd : Runs.done l s = false := by unfold Runs.done; rw [decide_eq_false_iff_not]; simp at hc7; omega
            have hst0 : Runs.step l m s = Runs.step.flow s := Runs.step_flow (by unfold Runs.reads; rw [List.getElem?_eq_none (by omega)])
            refine SV.skip ?_
            refine SV.tn ?_
            refine SV.block ?_
            refine SV.seq' ?_
            refine SV.seq' ?_
            refine SV.draw [.q 0, .q 1, .q 2, .q 3, .q 4, .q 5, .q 7, .q 10, .q 11, .q 12, .q 13, .q 16, .m 6, .m 8, .q 9, .m 14, .q 15, .q 17, .q 18] [] (by kernel_rfl) (by kernel_rfl) ?_
            refine DW.q rfl (ok_move (v := V.one (.sc _)) (.inl rfl) rfl) rfl rfl (gle rfl) (fun _ _ _ _ h => h) ?_
            refine DW.q rfl (ok_move (v := V.one (.ro _)) (.inl rfl) rfl) rfl rfl (gle rfl) (fun _ _ _ _ h => h) ?_
            refine DW.q rfl (ok_len (lf := .ro _) rfl elt_impl_Row.und rfl rfl) rfl rfl (gle rfl) (fun _ _ _ _ h => h) ?_
            refine DW.q rfl (ok_s2 (x := .tmp 37) (x' := .tmp 39) (VScal.one rfl) (VScal.one rfl) (fun ρ h1 h2 w => by go_simp; (try go_bits); with_reducible rfl) rfl) rfl rfl (gle rfl) (fun _ _ _ _ h => h) ?_
            refine DW.q rfl (ok_move (v := V.one (.sc _)) (.inl rfl) rfl) rfl rfl (gle rfl) (fun _ _ _ _ h => h) ?_
            refine DW.split (d := 41) rfl (fun hg4 => ?_) (fun hg4 => ?_)
            · skip   -- g4.T
              (exfalso; first | (cases hg4; done) | (rw [hg1] at hg4; cases hg4))
            · skip   -- g4.F
              refine DW.qN (V' := V.one .dead) rfl rfl rfl rfl (gle rfl) rfl rfl rfl (gle rfl) (fun _ _ _ _ h => h) ?_
              refine DW.qN (V' := V.one .dead) rfl rfl rfl rfl (gle rfl) rfl rfl rfl (gle rfl) (fun _ _ _ _ h => h) ?_
              refine DW.qN (V' := V.one .dead) rfl rfl rfl rfl (gle rfl) rfl rfl rfl (gle rfl) (fun _ _ _ _ h => h) ?_
              refine DW.qN (V' := V.one .dead) rfl rfl rfl rfl (gle rfl) rfl rfl rfl (gle rfl) (fun _ _ _ _ h => h) ?_
              refine DW.qN (V' := V.one .dead) rfl rfl rfl rfl (gle rfl) rfl rfl rfl (gle rfl) (fun _ _ _ _ h => h) ?_
              refine DW.qN (V' := V.one .dead) rfl rfl rfl rfl (gle rfl) rfl rfl rfl (gle rfl) (fun _ _ _ _ h => h) ?_
              refine DW.qN (V' := V.one .dead) rfl rfl rfl rfl (gle rfl) rfl rfl rfl (gle rfl) (fun _ _ _ _ h => h) ?_
              refine DW.mN rfl rfl rfl rfl (gle rfl) rfl rfl rfl (gle rfl) ?_
              refine DW.mN rfl rfl rfl rfl (gle rfl) rfl rfl rfl (gle rfl) ?_
              refine DW.qN (V' := V.one .dead) rfl rfl rfl rfl (gle rfl) rfl rfl rfl (gle rfl) (fun _ _ _ _ h => h) ?_
              refine DW.mN rfl rfl rfl rfl (gle rfl) rfl rfl rfl (gle rfl) ?_
              refine DW.qN (V' := V.one .dead) rfl rfl rfl rfl (gle rfl) rfl rfl rfl (gle rfl) (fun _ _ _ _ h => h) ?_
              refine DW.qN (V' := V.one .dead) rfl rfl rfl rfl (gle rfl) rfl rfl rfl (gle rfl) (fun _ _ _ _ h => h) ?_
              refine DW.q rfl (ok_pickF (v := V.one (.sc _)) rfl rfl rfl) rfl rfl (gle rfl) (fun _ _ _ _ h => h) ?_
              refine DW.stores ?_
              refine SV.zend ?_
              refine SV.tn ?_
              refine SV.cond rfl (fun hc8 => ?_) (fun hc8 => ?_)
              · skip   -- c8.T
                cases hc8
              · skip   -- c8.F
                refine SV.skip ?_
                refine SV.tn ?_
                refine SV.seq' ?_
                refine SV.seq' ?_
                refine SV.region ?_
                refine SV.op (OpL.ok (nb := 0) (ok_move (v := V.one (.hd 2)) (.inl rfl) rfl) rfl (gle rfl)) rfl ?_
                refine SV.op (OpL.ok (nb := 0) (ok_len (lf := .hd 2) rfl elt_impl_Row.und rfl rfl) rfl (gle rfl)) rfl ?_
                refine SV.op (OpL.ok (nb := 0) (ok_s2 (x := .tmp 90) (x' := .const ((Value.int IntKind.i64 0))) (VScal.one rfl) (VScal.one rfl) (fun ρ h1 h2 w => by go_simp; (try go_bits); with_reducible rfl) rfl) rfl (gle rfl)) rfl ?_
                refine SV.nil ?_
                refine SV.tn ?_
                refine SV.cond rfl (fun hc9 => ?_) (fun hc9 => ?_)
                · skip   -- c9.T
                  have h0 : s.heap.length = 0 := by first | (simpa using hc9) | (simp at hc9; omega) | (simp at hc9; rw [hc9]; rfl)
                  have hst : Runs.step l m s = ⟨s.i, s.out ++ [s.cur], [], s.next, []⟩ := by rw [hst0, Runs.flow_turn h0]; rfl
                  refine SV.seq' ?_
                  refine SV.region ?_
                  refine SV.op (OpL.ok (nb := 0) (ok_move (v := V.one (.hd 0)) (.inl rfl) rfl) rfl (gle rfl)) rfl ?_
                  refine SV.op (OpL.ok (nb := 0) (ok_move (v := V.one (.hd 1)) (.inl rfl) rfl) rfl (gle rfl)) rfl ?_
                  refine SV.op (OpL.ok (nb := 0) (ok_build (zs := [.nl _]) (ys := [.hd 1]) (qs := [(0, [.hd 1])]) (pl := fun i => ([(0, 1)] : List (Nat × Nat))[i]?) rfl zero_impl_Run ⟨rfl, ⟨3, by decide, sz_impl_Row⟩, trivial⟩ ⟨⟨rfl, false, rfl, (fun _ => rfl), rfl⟩, trivial⟩ bld_impl_Run rfl) rfl (gle rfl)) rfl ?_
                  refine SV.op (OpMk.ok (ok_lit1 (kk := 4) elt_impl_Run (ag := true) (xs := [.hd 1]) rfl rfl rfl rfl (fun h => by cases h) (outs_c rfl outs_n) (by simp [two]) rfl (gle rfl))) rfl ?_
                  refine SV.op (OpMk.ok (ok_append (kk := 5) elt_impl_Run (ls := .hd 0) (lx := .hd 4) rfl rfl rfl rfl rfl rfl (by intro i h1 h2; first | (cases h1; done) | (cases h1; cases h2)) (by first | omega | (simp only [List.length_map]; omega) | (simp; done) | (simp; omega)) rfl (gle rfl))) rfl ?_
                  refine SV.op (OpL.ok (nb := 0) (ok_move (v := V.one (.hd 5)) (.inr rfl) rfl) rfl (gle rfl)) rfl ?_
                  refine SV.nil ?_
                  refine SV.tn ?_
                  refine SV.seq' ?_
                  refine SV.region ?_
                  refine SV.op (OpMk.ok (ok_lit0 (kk := 6) elt_impl_Row rfl rfl rfl (gle rfl))) rfl ?_
                  refine SV.op (OpL.ok (nb := 0) (ok_move (v := V.one (.hd 6)) (.inr rfl) rfl) rfl (gle rfl)) rfl ?_
                  refine SV.nil ?_
                  refine SV.tn ?_
                  refine SV.seq' ?_
                  refine SV.region ?_
                  refine SV.op (OpL.ok (nb := 0) (ok_move (v := V.one (.hd 3)) (.inl rfl) rfl) rfl (gle rfl)) rfl ?_
                  refine SV.op (OpL.ok (nb := 0) (ok_move (v := V.one (.hd 3)) (.inr rfl) rfl) rfl (gle rfl)) rfl ?_
                  refine SV.nil ?_
                  refine SV.tn ?_
                  refine SV.seq' ?_
                  refine SV.region ?_
                  refine SV.op (OpMk.ok (ok_lit0 (kk := 7) elt_impl_Row rfl rfl rfl (gle rfl))) rfl ?_
                  refine SV.op (OpL.ok (nb := 0) (ok_move (v := V.one (.hd 7)) (.inr rfl) rfl) rfl (gle rfl)) rfl ?_
                  refine SV.nil ?_
                  refine SV.tn ?_
                  refine SV.exit ?_
                  refine SV.te ?_
                  refine SV.bh ?_
                  refine SV.tn ?_
                  refine SV.again (fun i => [5, 6, 3, 7].getD i 0) ((Runs.step l m s)) (Runs.going_next hlm.1 hlm.2 hG hd rfl) (pins hE rfl rfl) (VS.le.mk' (le_put (le_put (le_put (le_put (le_put (le_put (le_put (le_put (le_put (le_new (le_new (le_new (le_new le_nil)))) (V.le.keep (ag := false) (xs := [.ro _]) (ys := [.ro _]) rfl rfl ⟨rfl, trivial⟩)) (V.le.keep (ag := false) (xs := [.sc _]) (ys := [.sc _]) rfl rfl ⟨rfl, trivial⟩)) (V.le.keep (ag := false) (xs := [.sc _]) (ys := [.sc _]) rfl rfl ⟨rfl, trivial⟩)) (V.le.keep (ag := false) (xs := [.sc _]) (ys := [.sc _]) rfl rfl ⟨rfl, trivial⟩)) (V.le.keep (ag := false) (xs := [.hd 5]) (ys := [.hd 0]) rfl rfl ⟨⟨rfl, (gle rfl), (gle rfl)⟩, trivial⟩)) (V.le.keep (ag := false) (xs := [.hd 6]) (ys := [.hd 1]) rfl rfl ⟨⟨rfl, (gle rfl), (gle rfl)⟩, trivial⟩)) (V.le.keep (ag := false) (xs := [.hd 3]) (ys := [.hd 2]) rfl rfl ⟨⟨rfl, (gle rfl), (gle rfl)⟩, trivial⟩)) (V.le.keep (ag := false) (xs := [.hd 7]) (ys := [.hd 3]) rfl rfl ⟨⟨rfl, (gle rfl), (gle rfl)⟩, trivial⟩)) (V.le.keep (ag := false) (xs := [.sc _]) (ys := [.sc _]) rfl rfl ⟨(by first | rfl | (show Leaf.sc _ = Leaf.sc _; refine congrArg Leaf.sc ?_; first | rfl | go_num | (rw [hst]; first | done | rfl; first | done | rfl | go_num | (simp; done) | (simp; omega)) | (simp [cntAll]; done)) | (simp [cntAll]; done) | (simp; omega)), trivial⟩)) trivial ⟨.inr ⟨_, _, rfl, ?ob7_3, (gle rfl)⟩, ⟨.inr ⟨_, _, rfl, ?ob7_2, (gle rfl)⟩, ⟨.inr ⟨_, _, rfl, ?ob7_1, (gle rfl)⟩, ⟨.inr ⟨_, _, rfl, ?ob7_0, (gle rfl)⟩, trivial⟩⟩⟩⟩ (new_ob (new_ob (new_ob (new_ob nil_ob)))) (fun i j hi hj e => inj_list (l := [5, 6, 3, 7]) (by decide) i j hi hj e))
                  case ob7_0 =>
                    show some (T.seq _ _) = some (T.seq _ _)
                    rw [hst]; first | done | rfl | (simp only [List.map_append]; rfl) | (simp [tRun, tRow]; done)
                  case ob7_1 =>
                    show some (T.seq _ _) = some (T.seq _ _)
                    rw [hst]; first | done | rfl | (simp only [List.map_append]; rfl) | (simp [tRun, tRow]; done)
                  case ob7_2 =>
                    show some (T.seq _ _) = some (T.seq _ _)
                    rw [hst]; first | done | rfl | (simp only [List.map_append]; rfl) | (simp [tRun, tRow]; done)
                  case ob7_3 =>
                    show some (T.seq _ _) = some (T.seq _ _)
                    rw [hst]; first | done | rfl | (simp only [List.map_append]; rfl) | (simp [tRun, tRow]; done)
                · skip   -- c9.F
                  have hh : 0 < s.heap.length := by rcases Nat.eq_zero_or_pos s.heap.length with h | h; (exfalso; simp [h] at hc9); (exact h)
                  have hk : Runs.minAt s.heap s.heap.length < s.heap.length := Runs.minAt_lt hh
                  obtain ⟨e, he⟩ : ∃ e, s.heap[Runs.minAt s.heap s.heap.length]? = some e := ⟨_, List.getElem?_eq_getElem hk⟩
                  have hst : Runs.step l m s = ⟨s.i, s.out, s.cur ++ [e], s.heap.eraseIdx (Runs.minAt s.heap s.heap.length), s.next⟩ := by rw [hst0, Runs.flow_give he]; rfl
                  have hvi := vidx_s s.heap (by omega)
                  rw [idxMin_pos hh] at hvi
                  refine SV.skip ?_
                  refine SV.tn ?_
                  refine SV.seq' ?_
                  refine SV.region ?_
                  refine SV.op (OpL.ok (nb := 0) (ok_move (v := V.one (.hd 2)) (.inl rfl) rfl) rfl (gle rfl)) rfl ?_
                  refine SV.op (OpMk.ok (ok_call (ls := [(false, [.sc _])]) rfl rfl ⟨_, _, Try.func90, rfl, by decide⟩ (hvi) ⟨⟨[.hd 2], rfl, ⟨rfl, trivial⟩⟩, trivial⟩ rfl (gle rfl))) rfl ?_
                  refine SV.op (OpL.ok (nb := 0) (ok_move (v := V.one (.sc _)) (.inr rfl) rfl) rfl (gle rfl)) rfl ?_
                  refine SV.nil ?_
                  refine SV.tn ?_
                  refine SV.seq' ?_
                  refine SV.region ?_
                  refine SV.op (OpL.ok (nb := 0) (ok_move (v := V.one (.hd 1)) (.inl rfl) rfl) rfl (gle rfl)) rfl ?_
                  refine SV.op (OpL.ok (nb := 0) (ok_move (v := V.one (.hd 2)) (.inl rfl) rfl) rfl (gle rfl)) rfl ?_
                  refine SV.op (OpL.ok (nb := 0) (ok_move (v := V.one (.sc _)) (.inl rfl) rfl) rfl (gle rfl)) rfl ?_
                  refine SV.op (OpL.ok (nb := 0) (ok_index (n := 3) (lf := .hd 2) rfl elt_impl_Row.und sz_impl_Row rfl rfl rfl (map_at he)) rfl (gle rfl)) rfl ?_
                  refine SV.op (ok_load_el (p := .ep 2 _ _ _) (ag := true) (m := 3) (ys := [.sc _, .sc _, .sc _]) rfl rfl (cells_ep rfl (map_at he) rfl rfl) agg_impl_Row sz_impl_Row (fun h => by cases h) (gle rfl) rfl rfl (gle rfl)) rfl ?_
                  refine SV.op (OpMk.ok (ok_lit1 (kk := 4) elt_impl_Row (ag := true) (xs := [.sc _, .sc _, .sc _]) rfl rfl rfl rfl (fun h => by cases h) (outs_c rfl (outs_c rfl (outs_c rfl outs_n))) (by simp [two]) rfl (gle rfl))) rfl ?_
                  refine SV.op (OpMk.ok (ok_append (kk := 5) elt_impl_Row (ls := .hd 1) (lx := .hd 4) rfl rfl rfl rfl rfl rfl (by intro i h1 h2; first | (cases h1; done) | (cases h1; cases h2)) (by first | omega | (simp only [List.length_map]; omega) | (simp; done) | (simp; omega)) rfl (gle rfl))) rfl ?_
                  refine SV.op (OpL.ok (nb := 0) (ok_move (v := V.one (.hd 5)) (.inr rfl) rfl) rfl (gle rfl)) rfl ?_
                  refine SV.nil ?_
                  refine SV.tn ?_
                  refine SV.region ?_
                  refine SV.op (OpL.ok (nb := 0) (ok_move (v := V.one (.hd 2)) (.inl rfl) rfl) rfl (gle rfl)) rfl ?_
                  refine SV.op (OpL.ok (nb := 0) (ok_move (v := V.one (.sc _)) (.inl rfl) rfl) rfl (gle rfl)) rfl ?_
                  refine SV.op (OpMk.ok (ok_call (ls := [(false, [.hd 6])]) rfl rfl ⟨_, _, Try.func91, rfl, by decide⟩ (vdrop11_s s.heap (Runs.minAt s.heap s.heap.length) hk (by omega)) ⟨⟨[.hd 2], rfl, ⟨rfl, trivial⟩⟩, ⟨[.sc _], rfl, ⟨rfl, trivial⟩⟩, trivial⟩ rfl (gle rfl))) rfl ?_
                  refine SV.op (OpL.ok (nb := 0) (ok_move (v := V.one (.hd 6)) (.inr rfl) rfl) rfl (gle rfl)) rfl ?_
                  refine SV.nil ?_
                  refine SV.bn ?_
                  refine SV.tn ?_
                  refine SV.again (fun i => [0, 5, 6, 3].getD i 0) ((Runs.step l m s)) (Runs.going_next hlm.1 hlm.2 hG hd rfl) (pins hE rfl rfl) (VS.le.mk' (le_put (le_put (le_put (le_put (le_put (le_put (le_put (le_put (le_put (le_new (le_new (le_new (le_new le_nil)))) (V.le.keep (ag := false) (xs := [.ro _]) (ys := [.ro _]) rfl rfl ⟨rfl, trivial⟩)) (V.le.keep (ag := false) (xs := [.sc _]) (ys := [.sc _]) rfl rfl ⟨rfl, trivial⟩)) (V.le.keep (ag := false) (xs := [.sc _]) (ys := [.sc _]) rfl rfl ⟨rfl, trivial⟩)) (V.le.keep (ag := false) (xs := [.sc _]) (ys := [.sc _]) rfl rfl ⟨rfl, trivial⟩)) (V.le.keep (ag := false) (xs := [.hd 0]) (ys := [.hd 0]) rfl rfl ⟨⟨rfl, (gle rfl), (gle rfl)⟩, trivial⟩)) (V.le.keep (ag := false) (xs := [.hd 5]) (ys := [.hd 1]) rfl rfl ⟨⟨rfl, (gle rfl), (gle rfl)⟩, trivial⟩)) (V.le.keep (ag := false) (xs := [.hd 6]) (ys := [.hd 2]) rfl rfl ⟨⟨rfl, (gle rfl), (gle rfl)⟩, trivial⟩)) (V.le.keep (ag := false) (xs := [.hd 3]) (ys := [.hd 3]) rfl rfl ⟨⟨rfl, (gle rfl), (gle rfl)⟩, trivial⟩)) (V.le.keep (ag := false) (xs := [.sc _]) (ys := [.sc _]) rfl rfl ⟨(by first | rfl | (show Leaf.sc _ = Leaf.sc _; refine congrArg Leaf.sc ?_; first | rfl | go_num | (rw [hst]; first | done | rfl; first | done | rfl | go_num | (simp; done) | (simp; omega)) | (simp [cntAll]; done)) | (simp [cntAll]; done) | (simp; omega)), trivial⟩)) trivial ⟨.inr ⟨_, _, rfl, ?ob8_3, (gle rfl)⟩, ⟨.inr ⟨_, _, rfl, ?ob8_2, (gle rfl)⟩, ⟨.inr ⟨_, _, rfl, ?ob8_1, (gle rfl)⟩, ⟨.inr ⟨_, _, rfl, ?ob8_0, (gle rfl)⟩, trivial⟩⟩⟩⟩ (new_ob (new_ob (new_ob (new_ob nil_ob)))) (fun i j hi hj e => inj_list (l := [0, 5, 6, 3]) (by decide) i j hi hj e))
                  case ob8_0 =>
                    show some (T.seq _ _) = some (T.seq _ _)
                    rw [hst]; first | done | rfl | (simp only [List.map_append]; rfl) | (simp [tRun, tRow]; done)
                  case ob8_1 =>
                    show some (T.seq _ _) = some (T.seq _ _)
                    rw [hst]; first | done | rfl | (simp only [List.map_append]; rfl) | (simp [tRun, tRow]; done)
                  case ob8_2 =>
                    show some (T.seq _ _) = some (T.seq _ _)
                    rw [hst]; first | done | rfl | (simp only [List.map_append]; rfl) | (simp [tRun, tRow]; done)
                  case ob8_3 =>
                    show some (T.seq _ _) = some (T.seq _ _)
                    rw [hst]; first | done | rfl | (simp only [List.map_append]; rfl) | (simp [tRun, tRow]; done)
          · skip   -- c7.F
            have hd : Runs.done l s = true := by unfold Runs.done; rw [decide_eq_true_eq]; simp at hc7; omega
            have hb0 := Runs.going_end hcan hG hd
            refine SV.exit ?_
            refine SV.te ?_
            refine SV.te ?_
            refine SV.bh ?_
            refine SV.tn ?_
            refine SV.seq' ?_
            refine SV.seq' ?_
            refine SV.region ?_
            refine SV.op (OpL.ok (nb := 0) (ok_move (v := V.one (.hd 1)) (.inl rfl) rfl) rfl (gle rfl)) rfl ?_
            refine SV.op (OpL.ok (nb := 0) (ok_len (lf := .hd 1) rfl elt_impl_Row.und rfl rfl) rfl (gle rfl)) rfl ?_
            refine SV.op (OpL.ok (nb := 0) (ok_s2 (x := .tmp 113) (x' := .const ((Value.int IntKind.i64 0))) (VScal.one rfl) (VScal.one rfl) (fun ρ h1 h2 w => by go_simp; (try go_bits); with_reducible rfl) rfl) rfl (gle rfl)) rfl ?_
            refine SV.nil ?_
            refine SV.tn ?_
            refine SV.cond rfl (fun hc10 => ?_) (fun hc10 => ?_)
            · skip   -- c10.T
              have hcl : s.cur.length ≠ 0 := by intro h; simp [h] at hc10
              have hb : Runs.build l m = s.out ++ [s.cur] := by rw [hb0]; unfold Runs.fin; rw [if_neg hcl]
              refine SV.region ?_
              refine SV.op (OpL.ok (nb := 0) (ok_move (v := V.one (.hd 0)) (.inl rfl) rfl) rfl (gle rfl)) rfl ?_
              refine SV.op (OpL.ok (nb := 0) (ok_move (v := V.one (.hd 1)) (.inl rfl) rfl) rfl (gle rfl)) rfl ?_
              refine SV.op (OpL.ok (nb := 0) (ok_build (zs := [.nl _]) (ys := [.hd 1]) (qs := [(0, [.hd 1])]) (pl := fun i => ([(0, 1)] : List (Nat × Nat))[i]?) rfl zero_impl_Run ⟨rfl, ⟨3, by decide, sz_impl_Row⟩, trivial⟩ ⟨⟨rfl, false, rfl, (fun _ => rfl), rfl⟩, trivial⟩ bld_impl_Run rfl) rfl (gle rfl)) rfl ?_
              refine SV.op (OpMk.ok (ok_lit1 (kk := 4) elt_impl_Run (ag := true) (xs := [.hd 1]) rfl rfl rfl rfl (fun h => by cases h) (outs_c rfl outs_n) (by simp [two]) rfl (gle rfl))) rfl ?_
              refine SV.op (OpMk.ok (ok_append (kk := 5) elt_impl_Run (ls := .hd 0) (lx := .hd 4) rfl rfl rfl rfl rfl rfl (by intro i h1 h2; first | (cases h1; done) | (cases h1; cases h2)) (by first | omega | (simp only [List.length_map]; omega) | (simp; done) | (simp; omega)) rfl (gle rfl))) rfl ?_
              refine SV.op (OpL.ok (nb := 0) (ok_move (v := V.one (.hd 5)) (.inr rfl) rfl) rfl (gle rfl)) rfl ?_
              refine SV.nil ?_
              refine SV.tn ?_
              refine SV.seq' ?_
              refine SV.region ?_
              refine SV.op (OpL.ok (nb := 0) (ok_move (v := V.one (.hd 5)) (.inl rfl) rfl) rfl (gle rfl)) rfl ?_
              refine SV.op (OpL.ok (nb := 0) (ok_move (v := V.one (.hd 5)) (.inr rfl) rfl) rfl (gle rfl)) rfl ?_
              refine SV.op (OpL.ok (nb := 0) (ok_move (v := V.one (.sc _)) (.inr rfl) rfl) rfl (gle rfl)) rfl ?_
              refine SV.nil ?_
              refine SV.tn ?_
              refine SV.ret ?_
              apply SV.done (hf := Try.results34) (ht := rfl) (he := .inl rfl)
              case hr => exact (ResAll.cons (ResOk.tmp (ag := false) (xs := [.hd 5]) rfl) (ResAll.cons (ResOk.tmp (ag := false) (xs := [.sc _]) rfl) ResAll.nil'))
              case h2 => simp [two]
              refine ⟨rfl, ⟨?_, trivial⟩, ⟨rfl, ⟨?_, trivial⟩, trivial⟩⟩ <;> first | rfl | (rw [hb]; rfl) | ((show some (T.seq _ _) = some (T.seq _ _); refine congrArg (fun z => some (T.seq _ z)) ?_; rw [hb]; first | done | rfl | (simp [tRun]; done))) | ((show some (T.lit (Value.bool _)) = some (T.lit (Value.bool _)); refine congrArg (fun z => some (T.lit (Value.bool z))) ?_; rw [hno])) | ((show some (T.lit (Value.bool _)) = some (T.lit (Value.bool _)); refine congrArg (fun z => some (T.lit (Value.bool z))) ?_; rw [hcan]))
            · skip   -- c10.F
              have hcl : s.cur.length = 0 := by first | (simpa using hc10) | (simp at hc10; omega) | (simp at hc10; rw [hc10]; rfl)
              have hb : Runs.build l m = s.out := by rw [hb0]; unfold Runs.fin; rw [if_pos hcl]
              refine SV.skip ?_
              refine SV.tn ?_
              refine SV.seq' ?_
              refine SV.region ?_
              refine SV.op (OpL.ok (nb := 0) (ok_move (v := V.one (.hd 0)) (.inl rfl) rfl) rfl (gle rfl)) rfl ?_
              refine SV.op (OpL.ok (nb := 0) (ok_move (v := V.one (.hd 0)) (.inr rfl) rfl) rfl (gle rfl)) rfl ?_
              refine SV.op (OpL.ok (nb := 0) (ok_move (v := V.one (.sc _)) (.inr rfl) rfl) rfl (gle rfl)) rfl ?_
              refine SV.nil ?_
              refine SV.tn ?_
              refine SV.ret ?_
              apply SV.done (hf := Try.results34) (ht := rfl) (he := .inl rfl)
              case hr => exact (ResAll.cons (ResOk.tmp (ag := false) (xs := [.hd 0]) rfl) (ResAll.cons (ResOk.tmp (ag := false) (xs := [.sc _]) rfl) ResAll.nil'))
              case h2 => simp [two]
              refine ⟨rfl, ⟨?_, trivial⟩, ⟨rfl, ⟨?_, trivial⟩, trivial⟩⟩ <;> first | rfl | (rw [hb]; rfl) | ((show some (T.seq _ _) = some (T.seq _ _); refine congrArg (fun z => some (T.seq _ z)) ?_; rw [hb]; first | done | rfl | (simp [tRun]; done))) | ((show some (T.lit (Value.bool _)) = some (T.lit (Value.bool _)); refine congrArg (fun z => some (T.lit (Value.bool z))) ?_; rw [hno])) | ((show some (T.lit (Value.bool _)) = some (T.lit (Value.bool _)); refine congrArg (fun z => some (T.lit (Value.bool z))) ?_; rw [hcan]))
end Go.Proofs.Ytpnbnbhifpcelaa
/- The program's isUpTo, by contract. -/
namespace Go.Proofs.Ytpnbnbhifpcelaa
open Go.RowKit
theorem iup (n b : Int) (w : World) : Calls Try.prog 75 #[.int .i64 n, .int .i64 b] w fun e w' => e = .returned (.bool (decide (0 ≤ n ∧ n ≤ b))) ∧ w = w' := by
  go_enter Try.func75, Try.ntmps75
  go_wp2
  all_goals go_ret
  all_goals simp_all
  all_goals omega
end Go.Proofs.Ytpnbnbhifpcelaa
/- The program's IsValidRow and RowCost, by contract. -/
namespace Go.Proofs.Ytpnbnbhifpcelaa
open Go.RowKit
theorem ivalid (r : R) (w : World) : Calls Try.prog 111 #[r.val] w fun e w' => e = .returned (.bool r.ok) ∧ Below w.heap.size w w' := by
  obtain ⟨k, v, d⟩ := r
  unfold R.val
  go_enter Try.func111, Try.ntmps111
  go_wp2_with fail
  refine (iup _ _ _).mono ?_
  rintro e w1 ⟨rfl, rfl⟩
  go_wp2_with fail
  case isTrue =>
    refine (iup _ _ _).mono ?_
    rintro e w1 ⟨rfl, rfl⟩
    go_wp2_with fail
    case isTrue =>
      refine (iup _ _ _).mono ?_
      rintro e w1 ⟨rfl, rfl⟩
      go_wp2_with fail
      all_goals go_ret
      all_goals refine ⟨?_, (Below.refl _ _).alloc (Nat.le_refl _) _⟩
      all_goals simp_all [R.ok]
    all_goals go_ret
    all_goals refine ⟨?_, (Below.refl _ _).alloc (Nat.le_refl _) _⟩
    all_goals simp_all [R.ok]
    all_goals omega
  all_goals go_ret
  all_goals refine ⟨?_, (Below.refl _ _).alloc (Nat.le_refl _) _⟩
  all_goals simp_all [R.ok]
  all_goals omega
theorem icost (r : R) (hr : r.wf) (w : World) : Calls Try.prog 112 #[r.val] w fun e w' => e = .returned (.int .i64 r.cost) ∧ Below w.heap.size w w' := by
  have hw := hr.2.2
  have H := Lib.hid (ivalid r)
  cases hok : r.ok with
  | true =>
    have hc : r.cost = 1 + r.width := by unfold R.cost; rw [hok]; rfl
    have hk := R.ok_iff.1 hok
    rw [hc]
    unfold R.val
    go_enter Try.func112, Try.ntmps112
    go_wp2_with fail
    refine (H.out _).mono ?_
    rintro e w1 ⟨rfl, b1⟩
    obtain ⟨⟨c0, c1, c2⟩, b2⟩ := box_row (r := r) b1
    rw [hok]
    simp only [Nat.zero_add] at c2
    go_wp2_with fail
    go_ret
    exact ⟨rfl, b2⟩
  | false =>
    have hc : r.cost = 0 := by unfold R.cost; rw [hok]; rfl
    rw [hc]
    unfold R.val
    go_enter Try.func112, Try.ntmps112
    go_wp2_with fail
    refine (H.out _).mono ?_
    rintro e w1 ⟨rfl, b1⟩
    obtain ⟨⟨c0, c1, c2⟩, b2⟩ := box_row (r := r) b1
    rw [hok]
    go_wp2_with fail
    go_ret
    exact ⟨rfl, b2⟩
end Go.Proofs.Ytpnbnbhifpcelaa
/- The program's AreValidRows and TotalCost, by contract. -/
namespace Go.Proofs.Ytpnbnbhifpcelaa
open Go.RowKit
set_option maxRecDepth 100000 in
theorem iare (a : Option Addr) (len cap : Nat) (L : List R) (w : World) (h : IsRows w a len L) (hlen : len ≤ 9223372036854775807) :
    Calls Try.prog 64 #[.slice a len cap] w fun e w' => e = .returned (.bool (okRows L)) ∧ Below w.heap.size w w' := by
  obtain ⟨hl, hwf, hc⟩ := h
  have HL := Lib.hid hl
  have HC := Lib.hid hc
  clear hl hwf hc
  by_cases h24 : (24 : Int) < len
  · have hno : okRows L = false := by unfold okRows; rw [HL.out, decide_eq_false (by omega), Bool.false_and]
    have HN := Lib.hid hno
    clear hno
    go_enter Try.func64, Try.ntmps64
    go_wp2_with fail
    go_ret
    exact ⟨by rw [HN.out]; rfl, Below.refl _ _⟩
  go_enter Try.func64, Try.ntmps64
  go_wp2_with fail
  go_loopw [10] (fun i wr => ∃ k : Nat, i = .int .i64 k ∧ k ≤ len ∧ Hid (allOk (L.take k) = true) ∧ Hid (Below w.heap.size w wr)) (fun i _ => len - (intOf i).toNat)
  case atStart => exact ⟨0, rfl, Nat.zero_le _, rfl, Below.refl _ _⟩
  case round =>
    obtain ⟨k, rfl, hk, hok, hb⟩ := hrel
    by_cases hlt : k < len
    · obtain ⟨b, o, rfl, hbl, hc⟩ : ∃ b o : Nat, a = some ⟨b, o, none⟩ ∧ b < w.heap.size ∧ ∀ t, t < len → RowAt w b (o + t * 3) (L.getD t R.zero) := by
        rcases HC.out with h0 | h0
        · omega
        · exact h0
      obtain ⟨r, hr⟩ : ∃ r, r = L.getD k R.zero := ⟨_, rfl⟩
      have hat : RowAt wr b (o + k * 3) r := by rw [hr]; exact (hc k hlt).below hb.out hbl
      obtain ⟨c0, c1, c2⟩ := hat
      have HR := Lib.hid hr
      clear hr hc
      go_wp2_with fail
      refine (ivalid r _).mono ?_
      rintro e w1 ⟨rfl, b1⟩
      have B1 := Lib.hid (hb.out.trans ((box_row (r := r) b1).2.mono hb.out.size))
      clear b1
      cases hv : r.ok with
      | true =>
        go_wp2_with fail
        go_roundw
        case rel => exact ⟨k + 1, by go_num, by omega, by show _ = _; rw [allOk_take L k (by rw [HL.out]; exact hlt), hok.out, ← HR.out, hv]; rfl, B1⟩
        case measure => simp [intOf]; omega
      | false =>
        have hno : okRows L = false := by unfold okRows; rw [allOk_bad L k (by rw [HL.out]; exact hlt) (by rw [← HR.out]; exact hv), Bool.and_false]
        go_wp2_with fail
        go_ret
        exact ⟨by rw [hno]; rfl, B1.out⟩
    · have hkl : k = len := by omega
      have hall : okRows L = true := by
        have : allOk L = true := by have := hok.out; rwa [hkl, ← HL.out, List.take_length] at this
        unfold okRows; rw [this, Bool.and_true, HL.out, decide_eq_true_eq]; omega
      clear hkl
      have HA := Lib.hid hall
      clear hall
      go_wp2_with fail
      go_ret
      exact ⟨by rw [HA.out]; rfl, hb.out⟩
set_option maxRecDepth 100000 in
theorem itotal (a : Option Addr) (len cap : Nat) (L : List R) (w : World) (h : IsRows w a len L) (hlen : len ≤ 1000000000000) :
    Calls Try.prog 69 #[.slice a len cap] w fun e w' => e = .returned (.int .i64 (total L)) ∧ Below w.heap.size w w' := by
  have HW := Lib.hid h.wf
  obtain ⟨hl, -, hc⟩ := h
  have HL := Lib.hid hl
  have HC := Lib.hid hc
  clear hl hc
  go_enter Try.func69, Try.ntmps69
  go_wp2_with fail
  go_loopw [3, 8] (fun n i wr => ∃ (k : Nat) (v : Int), n = .int .i64 v ∧ i = .int .i64 k ∧ k ≤ len ∧ 0 ≤ v ∧ v ≤ 4 * k ∧ Hid (total (L.take k) = v) ∧ Hid (Below w.heap.size w wr)) (fun _ i _ => len - (intOf i).toNat)
  case atStart => exact ⟨0, 0, rfl, rfl, Nat.zero_le _, by omega, by omega, rfl, Below.refl _ _⟩
  case round =>
    obtain ⟨k, v, rfl, rfl, hk, hv0, hv1, hsum, hb⟩ := hrel
    by_cases hlt : k < len
    · obtain ⟨b, o, rfl, hbl, hc⟩ : ∃ b o : Nat, a = some ⟨b, o, none⟩ ∧ b < w.heap.size ∧ ∀ t, t < len → RowAt w b (o + t * 3) (L.getD t R.zero) := by
        rcases HC.out with h0 | h0
        · omega
        · exact h0
      obtain ⟨r, hr⟩ : ∃ r, r = L.getD k R.zero := ⟨_, rfl⟩
      have hat : RowAt wr b (o + k * 3) r := by rw [hr]; exact (hc k hlt).below hb.out hbl
      have hrw : r.wf := by rw [hr]; exact HW.out k hlt
      obtain ⟨c0, c1, c2⟩ := hat
      have HR := Lib.hid hr
      have HRW := Lib.hid hrw
      clear hr hc hrw
      go_wp2_with fail
      refine (icost r HRW.out _).mono ?_
      rintro e w1 ⟨rfl, b1⟩
      have B1 := Lib.hid (hb.out.trans ((box_row (r := r) b1).2.mono hb.out.size))
      clear b1
      obtain ⟨x, hx⟩ : ∃ x, x = r.cost := ⟨_, rfl⟩
      have hx0 : 0 ≤ x ∧ x ≤ 4 := by rw [hx]; exact r.cost_range
      obtain ⟨hx0, hx4⟩ := hx0
      have HX := Lib.hid hx
      rw [← hx]
      clear hx
      go_wp2_with fail
      go_roundw
      case rel => exact ⟨k + 1, v + x, by go_num, by go_num, by omega, by omega, by omega, by show _ = _; rw [total_take L k (by rw [HL.out]; exact hlt), hsum.out, ← HR.out, HX.out], B1⟩
      case measure => simp [intOf]; omega
    · have hkl : k = len := by omega
      have hall : total L = v := by have := hsum.out; rwa [hkl, ← HL.out, List.take_length] at this
      clear hkl
      have HA := Lib.hid hall
      clear hall
      go_wp2_with fail
      go_ret
      exact ⟨by rw [HA.out]; rfl, hb.out⟩
end Go.Proofs.Ytpnbnbhifpcelaa
/- CompareRows: told by trees. -/
namespace Go.Proofs.Ytpnbnbhifpcelaa
open Go Go.RowKit V
set_option linter.unusedVariables false
theorem vcmp_i (a b : R) : VC Try.prog 109 [(true, tRow a), (true, tRow b)] false [(false, [.lit (.int .i64 (R.cmp a b))])] :=
  VC.plain (ins := [(true, [.int .i64 a.key, .int .i64 a.value, .int .i64 a.width]), (true, [.int .i64 b.key, .int .i64 b.value, .int .i64 b.width])]) (ag := false) (rs := [.int .i64 (R.cmp a b)]) (fun u hu => by rw [List.mem_singleton.1 hu]; rfl) fun w => icmp a b w
end Go.Proofs.Ytpnbnbhifpcelaa
/- Functions of rows, the program's: told by trees: told by trees. -/
namespace Go.Proofs.Ytpnbnbhifpcelaa
open Go Go.RowKit V
set_option linter.unusedVariables false
theorem vares_i (L : List R) (hL : ∀ r ∈ L, r.wf) (hl : L.length ≤ 1000000000) : VC Try.prog 64 [(false, [.seq 72 (L.map tRow)])] false [(false, [.lit (.bool (okRows L))])] := VC.rowsP (ag := false) (rs := [.bool (okRows L)]) rfl hL fun w a c h => iare a _ c L w h (by omega)
theorem vtotal_i (L : List R) (hL : ∀ r ∈ L, r.wf) (hl : L.length ≤ 1000000000) : VC Try.prog 69 [(false, [.seq 72 (L.map tRow)])] false [(false, [.lit (.int .i64 (total L))])] := VC.rowsP (ag := false) (rs := [.int .i64 (total L)]) rfl hL fun w a c h => itotal a _ c L w h (by omega)
theorem vasc_i (L : List R) (hL : ∀ r ∈ L, r.wf) (hl : L.length ≤ 1000000000) : VC Try.prog 55 [(false, [.seq 72 (L.map tRow)])] false [(false, [.lit (.bool (R.asc L))])] := VC.rowsP (ag := false) (rs := [.bool (R.asc L)]) rfl hL fun w a c h => iasc a _ c L w h (by omega)
theorem vcost_i (a : R) (ha : a.wf) : VC Try.prog 112 [(true, tRow a)] false [(false, [.lit (.int .i64 a.cost)])] :=
  VC.plain (ins := [(true, [.int .i64 a.key, .int .i64 a.value, .int .i64 a.width])]) (ag := false) (rs := [.int .i64 a.cost]) (oneM rfl) fun w => icost a ha w
set_option maxRecDepth 100000 in
set_option maxHeartbeats 2000000 in
theorem vismem_i (m : Int) : VC Try.prog 84 [(false, [.lit (.int .i64 (m))])] false [(false, [.lit (.bool (Runs.isMem m))])] := by
  refine VC.enter Try.func84 rfl Try.ntmps84 (gle rfl) fun E hE => ?_
  refine SV.seq' ?_
  refine SV.region ?_
  refine SV.op (OpL.ok (nb := 0) (ok_move (v := V.one (.sc _)) (.inr rfl) rfl) rfl (gle rfl)) rfl ?_
  refine SV.nil ?_
  refine SV.tn ?_
  refine SV.seq' ?_
  refine SV.region ?_
  refine SV.op (OpL.ok (nb := 0) (ok_move (v := V.one (.sc _)) (.inl rfl) rfl) rfl (gle rfl)) rfl ?_
  refine SV.op (OpL.ok (nb := 0) (ok_s2 (x := .tmp 3) (x' := .const ((Value.int IntKind.i64 8))) (VScal.one rfl) (VScal.one rfl) (fun ρ h1 h2 w => by go_simp; (try go_bits); with_reducible rfl) rfl) rfl (gle rfl)) rfl ?_
  refine SV.op (OpL.ok (nb := 0) (ok_move (v := V.one (.sc _)) (.inl rfl) rfl) rfl (gle rfl)) rfl ?_
  refine SV.split (d := 5) rfl (fun hg0 => ?_) (fun hg0 => ?_)
  · skip   -- g0.T
    refine SV.opY (OpL.ok (nb := 0) (ok_move (v := V.one (.sc _)) (.inl rfl) rfl) rfl (gle rfl)) rfl rfl rfl (gle rfl) rfl rfl ?_
    refine SV.opY (OpL.ok (nb := 0) (ok_s2 (x := .tmp 6) (x' := .const ((Value.int IntKind.i64 60))) (VScal.one rfl) (VScal.one rfl) (fun ρ h1 h2 w => by go_simp; (try go_bits); with_reducible rfl) rfl) rfl (gle rfl)) rfl rfl rfl (gle rfl) rfl rfl ?_
    refine SV.op (OpL.ok (nb := 0) (ok_pickT (v := V.one (.sc _)) rfl rfl rfl) rfl (gle rfl)) rfl ?_
    refine SV.op (OpL.ok (nb := 0) (ok_move (v := V.one (.sc _)) (.inr rfl) rfl) rfl (gle rfl)) rfl ?_
    refine SV.nil ?_
    refine SV.tn ?_
    refine SV.ret ?_
    apply SV.done (hf := Try.results84) (ht := rfl) (he := .inl rfl)
    case hr => exact (ResAll.cons (ResOk.tmp (ag := false) (xs := [.sc _]) rfl) ResAll.nil')
    case h2 => simp [two]
    refine ⟨rfl, ⟨?_, trivial⟩, trivial⟩ <;> (show some (T.lit (Value.bool _)) = some (T.lit (Value.bool _)); refine congrArg (fun z => some (T.lit (Value.bool z))) ?_; (unfold Runs.isMem; simp at hg0; simp; omega))
  · skip   -- g0.F
    refine SV.opN rfl rfl rfl (gle rfl) rfl rfl rfl (gle rfl) ?_
    refine SV.opN rfl rfl rfl (gle rfl) rfl rfl rfl (gle rfl) ?_
    refine SV.op (OpL.ok (nb := 0) (ok_pickF (v := V.one (.sc _)) rfl rfl rfl) rfl (gle rfl)) rfl ?_
    refine SV.op (OpL.ok (nb := 0) (ok_move (v := V.one (.sc _)) (.inr rfl) rfl) rfl (gle rfl)) rfl ?_
    refine SV.nil ?_
    refine SV.tn ?_
    refine SV.ret ?_
    apply SV.done (hf := Try.results84) (ht := rfl) (he := .inl rfl)
    case hr => exact (ResAll.cons (ResOk.tmp (ag := false) (xs := [.sc _]) rfl) ResAll.nil')
    case h2 => simp [two]
    refine ⟨rfl, ⟨?_, trivial⟩, trivial⟩ <;> (show some (T.lit (Value.bool _)) = some (T.lit (Value.bool _)); refine congrArg (fun z => some (T.lit (Value.bool z))) ?_; (unfold Runs.isMem; simp at hg0; simp; omega))
end Go.Proofs.Ytpnbnbhifpcelaa
/- The program's first least row: told by trees. -/
namespace Go.Proofs.Ytpnbnbhifpcelaa
open Go Go.RowKit V
set_option linter.unusedVariables false
set_option maxRecDepth 100000 in
set_option maxHeartbeats 2000000 in
theorem vidx_i (l : List R) (hL : l.length ≤ 1000000000) : VC Try.prog 113 [(false, [.seq 72 ((l).map tRow)])] false [(false, [.lit (.int .i64 (Runs.idxMin l))])] := by
  refine VC.enter Try.func113 rfl Try.ntmps113 (gle rfl) fun E hE => ?_
  refine SV.seq' ?_
  refine SV.region ?_
  refine SV.op (OpL.ok (nb := 0) (ok_move (v := V.one (.sc _)) (.inr rfl) rfl) rfl (gle rfl)) rfl ?_
  refine SV.nil ?_
  refine SV.tn ?_
  refine SV.seq' ?_
  refine SV.region ?_
  refine SV.op (OpL.ok (nb := 0) (ok_move (v := V.one (.sc _)) (.inr rfl) rfl) rfl (gle rfl)) rfl ?_
  refine SV.nil ?_
  refine SV.tn ?_
  refine SV.seq' ?_
  refine SV.seq' ?_
  refine SV.region ?_
  refine SV.op (OpL.ok (nb := 0) (ok_move (v := V.one (.ro _)) (.inl rfl) rfl) rfl (gle rfl)) rfl ?_
  refine SV.op (OpL.ok (nb := 0) (ok_len (lf := .ro _) rfl elt_impl_Row.und rfl rfl) rfl (gle rfl)) rfl ?_
  refine SV.op (OpL.ok (nb := 0) (ok_move (v := V.one (.sc _)) (.inl rfl) rfl) rfl (gle rfl)) rfl ?_
  refine SV.nil ?_
  refine SV.tn ?_
  refine SV.block ?_
  refine SV.loopF (X := Nat) (fun (σ : VS) t => ((((((VS.nil.put 0 (σ.tm 0)).put 2 (σ.tm 2)).put 3 (V.flat false [.sc (.int .i64 (idxI l t))])).put 6 (σ.tm 6)).put 7 (σ.tm 7)).put 8 (V.flat false [.sc (.int .i64 ((t : Int)))]))) (fun t => t ≤ l.length) (fun t => l.length - t) ?_ ?_
  · skip
    refine SV.again (fun i => [].getD i 0) 0 ((by first | exact Nat.zero_le _ | (refine ⟨Nat.zero_le _, ?_⟩; simp; done) | (simp; done) | omega)) (pins hE rfl rfl) (VS.le.mk' (le_put (le_put (le_put (le_put (le_put (le_put le_nil (V.le.keep (ag := false) (xs := [.ro _]) (ys := [.ro _]) rfl rfl ⟨rfl, trivial⟩)) (V.le.keep (ag := false) (xs := [.sc _]) (ys := [.sc _]) rfl rfl ⟨rfl, trivial⟩)) (V.le.keep (ag := false) (xs := [.sc _]) (ys := [.sc _]) rfl rfl ⟨(by first | rfl | (show Leaf.sc _ = Leaf.sc _; refine congrArg Leaf.sc ?_; first | rfl | go_num | (first | rw [hn] | rfl; first | done | rfl | go_num | (simp; done) | (simp; omega)) | (simp [cntAll]; done)) | (simp [cntAll]; done) | (simp; omega)), trivial⟩)) (V.le.keep (ag := false) (xs := [.ro _]) (ys := [.ro _]) rfl rfl ⟨rfl, trivial⟩)) (V.le.keep (ag := false) (xs := [.sc _]) (ys := [.sc _]) rfl rfl ⟨rfl, trivial⟩)) (V.le.keep (ag := false) (xs := [.sc _]) (ys := [.sc _]) rfl rfl ⟨(by first | rfl | (show Leaf.sc _ = Leaf.sc _; refine congrArg Leaf.sc ?_; first | rfl | go_num | (first | rw [hn] | rfl; first | done | rfl | go_num | (simp; done) | (simp; omega)) | (simp [cntAll]; done)) | (simp [cntAll]; done) | (simp; omega)), trivial⟩)) trivial trivial nil_ob (fun i j hi hj e => absurd hi (Nat.not_lt_zero i)))
  · rintro t ht
    refine SV.seq' ?_
    refine SV.region ?_
    refine SV.op (OpL.ok (nb := 0) (ok_s2 (x := .tmp 8) (x' := .tmp 7) (VScal.one rfl) (VScal.one rfl) (fun ρ h1 h2 w => by go_simp; (try go_bits); with_reducible rfl) rfl) rfl (gle rfl)) rfl ?_
    refine SV.nil ?_
    refine SV.tn ?_
    refine SV.seq' ?_
    refine SV.cond rfl (fun hc0 => ?_) (fun hc0 => ?_)
    · skip   -- c0.T
      have htl : t < l.length := by simpa using hc0
      refine SV.skip ?_
      refine SV.tn ?_
      refine SV.seq' ?_
      refine SV.block ?_
      refine SV.seq' ?_
      obtain rfl | ⟨u, rfl⟩ : t = 0 ∨ ∃ u, t = u + 1 := by cases t with | zero => exact .inl rfl | succ u => exact .inr ⟨u, rfl⟩
      · skip
        obtain ⟨c, hx⟩ : ∃ c, l[0]? = some c := ⟨_, List.getElem?_eq_getElem htl⟩
        have hn : idxI l (0 + 1) = ((0 : Nat) : Int) := by show ((Runs.minAt l 1 : Nat) : Int) = _; rw [Runs.minAt_one]
        refine SV.region ?_
        refine SV.op (OpL.ok (nb := 0) (ok_move (v := V.one (.sc _)) (.inl rfl) rfl) rfl (gle rfl)) rfl ?_
        refine SV.op (OpL.ok (nb := 0) (ok_index (n := 3) (lf := .ro _) rfl elt_impl_Row.und sz_impl_Row rfl rfl rfl (map_at hx)) rfl (gle rfl)) rfl ?_
        refine SV.op (OpL.ok (nb := 0) (ok_load_rp (ag := true) (m := 3) (ys := [.sc _, .sc _, .sc _]) rfl rfl agg_impl_Row sz_impl_Row (fun h => by cases h) (gle rfl) rfl) rfl (gle rfl)) rfl ?_
        refine SV.op (OpMk.ok (ok_alloc (kk := 0) (xs := [.sc _, .sc _, .sc _]) rfl rfl zero_impl_Row ⟨rfl, rfl, rfl, rfl, rfl, rfl, trivial⟩ rfl (gle rfl))) rfl ?_
        refine SV.op (OpL.ok (nb := 1) (ok_move (v := V.one (.sc _)) (.inr rfl) rfl) rfl (gle rfl)) rfl ?_
        refine SV.op (ok_store_bp (b := 0) (i := 0) (m := 3) (ag := true) (zs := [.sc _, .sc _, .sc _]) (ys := [.sc _, .sc _, .sc _]) rfl rfl rfl rfl sz_impl_Row (fun h => by cases h) rfl (gle rfl) rfl rfl rfl) rfl ?_
        refine SV.nil ?_
        refine SV.tn ?_
        refine SV.seq' ?_
        refine SV.draw [.q 0, .q 1, .q 2, .q 3, .q 4, .q 5, .q 6, .q 7, .m 8, .q 9, .q 10] [] (by kernel_rfl) (by kernel_rfl) ?_
        refine DW.q rfl (ok_move (v := V.one (.sc _)) (.inl rfl) rfl) rfl rfl (gle rfl) (fun _ _ _ _ h => h) ?_
        refine DW.q rfl (ok_s2 (x := .tmp 13) (x' := .const ((Value.int IntKind.i64 0))) (VScal.one rfl) (VScal.one rfl) (fun ρ h1 h2 w => by go_simp; (try go_bits); with_reducible rfl) rfl) rfl rfl (gle rfl) (fun _ _ _ _ h => h) ?_
        refine DW.q rfl (ok_move (v := V.one (.sc _)) (.inl rfl) rfl) rfl rfl (gle rfl) (fun _ _ _ _ h => h) ?_
        refine DW.split (d := 15) rfl (fun hg0 => ?_) (fun hg0 => ?_)
        · skip   -- g0.T
          refine DW.qN (V' := V.one .dead) rfl rfl rfl rfl (gle rfl) rfl rfl rfl (gle rfl) (fun _ _ _ _ h => h) ?_
          refine DW.qN (V' := V.one .dead) rfl rfl rfl rfl (gle rfl) rfl rfl rfl (gle rfl) (fun _ _ _ _ h => h) ?_
          refine DW.qN (V' := V.one .dead) rfl rfl rfl rfl (gle rfl) rfl rfl rfl (gle rfl) (fun _ _ _ _ h => h) ?_
          refine DW.qN (V' := V.one .dead) rfl rfl rfl rfl (gle rfl) rfl rfl rfl (gle rfl) (fun _ _ _ _ h => h) ?_
          refine DW.qN (V' := V.one .dead) rfl rfl rfl rfl (gle rfl) rfl rfl rfl (gle rfl) (fun _ _ _ _ h => h) ?_
          refine DW.mN rfl rfl rfl rfl (gle rfl) rfl rfl rfl (gle rfl) ?_
          refine DW.qN (V' := V.one .dead) rfl rfl rfl rfl (gle rfl) rfl rfl rfl (gle rfl) (fun _ _ _ _ h => h) ?_
          refine DW.q rfl (ok_pickT (v := V.one (.sc _)) rfl rfl rfl) rfl rfl (gle rfl) (fun _ _ _ _ h => h) ?_
          refine DW.stores ?_
          refine SV.zend ?_
          refine SV.tn ?_
          refine SV.cond rfl (fun hc1 => ?_) (fun hc1 => ?_)
          · skip   -- c1.T
            refine SV.region ?_
            refine SV.op (OpL.ok (nb := 1) (ok_move (v := V.one (.sc _)) (.inl rfl) rfl) rfl (gle rfl)) rfl ?_
            refine SV.op (OpL.ok (nb := 1) (ok_move (v := V.one (.sc _)) (.inr rfl) rfl) rfl (gle rfl)) rfl ?_
            refine SV.nil ?_
            refine SV.bn ?_
            refine SV.tn ?_
            refine SV.region ?_
            refine SV.op (OpL.ok (nb := 1) (ok_s2 (x := .tmp 8) (x' := .const ((Value.int IntKind.i64 1))) (VScal.one rfl) (VScal.one rfl) (fun ρ h1 h2 w => by go_simp; (try go_bits); with_reducible rfl) rfl) rfl (gle rfl)) rfl ?_
            refine SV.op (OpL.ok (nb := 1) (ok_move (v := V.one (.sc _)) (.inl rfl) rfl) rfl (gle rfl)) rfl ?_
            refine SV.nil ?_
            refine SV.tn ?_
            refine SV.again (fun i => [].getD i 0) (0 + 1) (⟨by omega, by omega⟩) (pins hE rfl rfl) (VS.le.mk' (le_put (le_put (le_put (le_put (le_put (le_put le_nil (V.le.keep (ag := false) (xs := [.ro _]) (ys := [.ro _]) rfl rfl ⟨rfl, trivial⟩)) (V.le.keep (ag := false) (xs := [.sc _]) (ys := [.sc _]) rfl rfl ⟨rfl, trivial⟩)) (V.le.keep (ag := false) (xs := [.sc _]) (ys := [.sc _]) rfl rfl ⟨(by first | rfl | (show Leaf.sc _ = Leaf.sc _; refine congrArg Leaf.sc ?_; first | rfl | go_num | (first | rw [hn] | rfl; first | done | rfl | go_num | (simp; done) | (simp; omega)) | (simp [cntAll]; done)) | (simp [cntAll]; done) | (simp; omega)), trivial⟩)) (V.le.keep (ag := false) (xs := [.ro _]) (ys := [.ro _]) rfl rfl ⟨rfl, trivial⟩)) (V.le.keep (ag := false) (xs := [.sc _]) (ys := [.sc _]) rfl rfl ⟨rfl, trivial⟩)) (V.le.keep (ag := false) (xs := [.sc _]) (ys := [.sc _]) rfl rfl ⟨(by first | rfl | (show Leaf.sc _ = Leaf.sc _; refine congrArg Leaf.sc ?_; first | rfl | go_num | (first | rw [hn] | rfl; first | done | rfl | go_num | (simp; done) | (simp; omega)) | (simp [cntAll]; done)) | (simp [cntAll]; done) | (simp; omega)), trivial⟩)) trivial trivial nil_ob (fun i j hi hj e => absurd hi (Nat.not_lt_zero i)))
          · skip   -- c1.F
            cases hc1
        · skip   -- g0.F
          (exfalso; first | (have hc' : ((Runs.minAt l (u + 1) : Nat) : Int) < 0 := of_decide_eq_true hg0; omega) | exact of_decide_eq_false hg0 (by show (-1 : Int) < 0; decide))
      · skip
        have hml : Runs.minAt l (u + 1) < u + 1 := Runs.minAt_lt (Nat.succ_pos u)
        obtain ⟨c, hx⟩ : ∃ c, l[u + 1]? = some c := ⟨_, List.getElem?_eq_getElem htl⟩
        obtain ⟨d, hy⟩ : ∃ d, l[Runs.minAt l (u + 1)]? = some d := ⟨_, List.getElem?_eq_getElem (by omega)⟩
        have hst := Runs.minAt_step hx hy
        refine SV.region ?_
        refine SV.op (OpL.ok (nb := 0) (ok_move (v := V.one (.sc _)) (.inl rfl) rfl) rfl (gle rfl)) rfl ?_
        refine SV.op (OpL.ok (nb := 0) (ok_index (n := 3) (lf := .ro _) rfl elt_impl_Row.und sz_impl_Row rfl rfl rfl (map_at hx)) rfl (gle rfl)) rfl ?_
        refine SV.op (OpL.ok (nb := 0) (ok_load_rp (ag := true) (m := 3) (ys := [.sc _, .sc _, .sc _]) rfl rfl agg_impl_Row sz_impl_Row (fun h => by cases h) (gle rfl) rfl) rfl (gle rfl)) rfl ?_
        refine SV.op (OpMk.ok (ok_alloc (kk := 0) (xs := [.sc _, .sc _, .sc _]) rfl rfl zero_impl_Row ⟨rfl, rfl, rfl, rfl, rfl, rfl, trivial⟩ rfl (gle rfl))) rfl ?_
        refine SV.op (OpL.ok (nb := 1) (ok_move (v := V.one (.sc _)) (.inr rfl) rfl) rfl (gle rfl)) rfl ?_
        refine SV.op (ok_store_bp (b := 0) (i := 0) (m := 3) (ag := true) (zs := [.sc _, .sc _, .sc _]) (ys := [.sc _, .sc _, .sc _]) rfl rfl rfl rfl sz_impl_Row (fun h => by cases h) rfl (gle rfl) rfl rfl rfl) rfl ?_
        refine SV.nil ?_
        refine SV.tn ?_
        refine SV.seq' ?_
        refine SV.draw [.q 0, .q 1, .q 2, .q 3, .q 4, .q 5, .q 6, .q 7, .m 8, .q 9, .q 10] [] (by kernel_rfl) (by kernel_rfl) ?_
        refine DW.q rfl (ok_move (v := V.one (.sc _)) (.inl rfl) rfl) rfl rfl (gle rfl) (fun _ _ _ _ h => h) ?_
        refine DW.q rfl (ok_s2 (x := .tmp 13) (x' := .const ((Value.int IntKind.i64 0))) (VScal.one rfl) (VScal.one rfl) (fun ρ h1 h2 w => by go_simp; (try go_bits); with_reducible rfl) rfl) rfl rfl (gle rfl) (fun _ _ _ _ h => h) ?_
        refine DW.q rfl (ok_move (v := V.one (.sc _)) (.inl rfl) rfl) rfl rfl (gle rfl) (fun _ _ _ _ h => h) ?_
        refine DW.split (d := 15) rfl (fun hg1 => ?_) (fun hg1 => ?_)
        · skip   -- g1.T
          (exfalso; first | (have hc' : ((Runs.minAt l (u + 1) : Nat) : Int) < 0 := of_decide_eq_true hg1; omega) | exact of_decide_eq_false hg1 (by show (-1 : Int) < 0; decide))
        · skip   -- g1.F
          refine DW.qY rfl (ok_load_bp (b := 0) (i := 0) (ag := true) (m := 3) (ys := [.sc _, .sc _, .sc _]) rfl rfl rfl agg_impl_Row sz_impl_Row (fun h => by cases h) rfl rfl (gle rfl)) rfl rfl rfl (gle rfl) rfl rfl rfl (gle rfl) (fun _ _ _ _ h => h) ?_
          refine DW.qY rfl (ok_move (v := V.one (.ro _)) (.inl rfl) rfl) rfl rfl rfl (gle rfl) rfl rfl rfl (gle rfl) (fun _ _ _ _ h => h) ?_
          refine DW.qY rfl (ok_move (v := V.one (.sc _)) (.inl rfl) rfl) rfl rfl rfl (gle rfl) rfl rfl rfl (gle rfl) (fun _ _ _ _ h => h) ?_
          refine DW.qY rfl (ok_index (n := 3) (lf := .ro _) rfl elt_impl_Row.und sz_impl_Row rfl rfl rfl (map_at hy)) rfl rfl rfl (gle rfl) rfl rfl rfl (gle rfl) (fun _ _ _ _ h => h) ?_
          refine DW.qY rfl (ok_load_rp (ag := true) (m := 3) (ys := [.sc _, .sc _, .sc _]) rfl rfl agg_impl_Row sz_impl_Row (fun h => by cases h) (gle rfl) rfl) rfl rfl rfl (gle rfl) rfl rfl rfl (gle rfl) (fun _ _ _ _ h => h) ?_
          refine DW.m' [] rfl (ok_call (ls := [(false, [.sc _])]) rfl rfl ⟨_, _, Try.func109, rfl, by decide⟩ (vcmp_i c d) ⟨⟨[.sc _, .sc _, .sc _], rfl, ⟨rfl, rfl, rfl, trivial⟩⟩, ⟨[.sc _, .sc _, .sc _], rfl, ⟨rfl, rfl, rfl, trivial⟩⟩, trivial⟩ rfl (gle rfl)) (fun hr => wantedY hr rfl rfl rfl (gle rfl) rfl rfl) (gle rfl) (gle rfl) (.inl rfl) (fun j hj => by cases hj) ?_
          refine DW.qY rfl (ok_s2 (x := .tmp 21) (x' := .const ((Value.int IntKind.i64 0))) (VScal.one rfl) (VScal.one rfl) (fun ρ h1 h2 w => by go_simp; (try go_bits); with_reducible rfl) rfl) rfl rfl rfl (gle rfl) rfl rfl rfl (gle rfl) (fun _ _ _ _ h => h) ?_
          refine DW.q rfl (ok_pickF (v := V.one (.sc _)) rfl rfl rfl) rfl rfl (gle rfl) (fun _ _ _ _ h => h) ?_
          refine DW.stores ?_
          refine SV.zend ?_
          refine SV.tn ?_
          refine SV.cond rfl (fun hc2 => ?_) (fun hc2 => ?_)
          · skip   -- c2.T
            have hn : idxI l (u + 1 + 1) = ((u + 1 : Nat) : Int) := by show ((Runs.minAt l (u + 1 + 1) : Nat) : Int) = _; rw [hst, if_pos (by simpa using hc2)]
            refine SV.region ?_
            refine SV.op (OpL.ok (nb := 1) (ok_move (v := V.one (.sc _)) (.inl rfl) rfl) rfl (gle rfl)) rfl ?_
            refine SV.op (OpL.ok (nb := 1) (ok_move (v := V.one (.sc _)) (.inr rfl) rfl) rfl (gle rfl)) rfl ?_
            refine SV.nil ?_
            refine SV.bn ?_
            refine SV.tn ?_
            refine SV.region ?_
            refine SV.op (OpL.ok (nb := 1) (ok_s2 (x := .tmp 8) (x' := .const ((Value.int IntKind.i64 1))) (VScal.one rfl) (VScal.one rfl) (fun ρ h1 h2 w => by go_simp; (try go_bits); with_reducible rfl) rfl) rfl (gle rfl)) rfl ?_
            refine SV.op (OpL.ok (nb := 1) (ok_move (v := V.one (.sc _)) (.inl rfl) rfl) rfl (gle rfl)) rfl ?_
            refine SV.nil ?_
            refine SV.tn ?_
            refine SV.again (fun i => [].getD i 0) (u + 1 + 1) (⟨by omega, by omega⟩) (pins hE rfl rfl) (VS.le.mk' (le_put (le_put (le_put (le_put (le_put (le_put le_nil (V.le.keep (ag := false) (xs := [.ro _]) (ys := [.ro _]) rfl rfl ⟨rfl, trivial⟩)) (V.le.keep (ag := false) (xs := [.sc _]) (ys := [.sc _]) rfl rfl ⟨rfl, trivial⟩)) (V.le.keep (ag := false) (xs := [.sc _]) (ys := [.sc _]) rfl rfl ⟨(by first | rfl | (show Leaf.sc _ = Leaf.sc _; refine congrArg Leaf.sc ?_; first | rfl | go_num | (first | rw [hn] | rfl; first | done | rfl | go_num | (simp; done) | (simp; omega)) | (simp [cntAll]; done)) | (simp [cntAll]; done) | (simp; omega)), trivial⟩)) (V.le.keep (ag := false) (xs := [.ro _]) (ys := [.ro _]) rfl rfl ⟨rfl, trivial⟩)) (V.le.keep (ag := false) (xs := [.sc _]) (ys := [.sc _]) rfl rfl ⟨rfl, trivial⟩)) (V.le.keep (ag := false) (xs := [.sc _]) (ys := [.sc _]) rfl rfl ⟨(by first | rfl | (show Leaf.sc _ = Leaf.sc _; refine congrArg Leaf.sc ?_; first | rfl | go_num | (first | rw [hn] | rfl; first | done | rfl | go_num | (simp; done) | (simp; omega)) | (simp [cntAll]; done)) | (simp [cntAll]; done) | (simp; omega)), trivial⟩)) trivial trivial nil_ob (fun i j hi hj e => absurd hi (Nat.not_lt_zero i)))
          · skip   -- c2.F
            have hn : idxI l (u + 1 + 1) = idxI l (u + 1) := by show ((Runs.minAt l (u + 1 + 1) : Nat) : Int) = ((Runs.minAt l (u + 1) : Nat) : Int); rw [hst, if_neg (by simpa using hc2)]
            refine SV.skip ?_
            refine SV.bn ?_
            refine SV.tn ?_
            refine SV.region ?_
            refine SV.op (OpL.ok (nb := 1) (ok_s2 (x := .tmp 8) (x' := .const ((Value.int IntKind.i64 1))) (VScal.one rfl) (VScal.one rfl) (fun ρ h1 h2 w => by go_simp; (try go_bits); with_reducible rfl) rfl) rfl (gle rfl)) rfl ?_
            refine SV.op (OpL.ok (nb := 1) (ok_move (v := V.one (.sc _)) (.inl rfl) rfl) rfl (gle rfl)) rfl ?_
            refine SV.nil ?_
            refine SV.tn ?_
            refine SV.again (fun i => [].getD i 0) (u + 1 + 1) (⟨by omega, by omega⟩) (pins hE rfl rfl) (VS.le.mk' (le_put (le_put (le_put (le_put (le_put (le_put le_nil (V.le.keep (ag := false) (xs := [.ro _]) (ys := [.ro _]) rfl rfl ⟨rfl, trivial⟩)) (V.le.keep (ag := false) (xs := [.sc _]) (ys := [.sc _]) rfl rfl ⟨rfl, trivial⟩)) (V.le.keep (ag := false) (xs := [.sc _]) (ys := [.sc _]) rfl rfl ⟨(by first | rfl | (show Leaf.sc _ = Leaf.sc _; refine congrArg Leaf.sc ?_; first | rfl | go_num | (first | rw [hn] | rfl; first | done | rfl | go_num | (simp; done) | (simp; omega)) | (simp [cntAll]; done)) | (simp [cntAll]; done) | (simp; omega)), trivial⟩)) (V.le.keep (ag := false) (xs := [.ro _]) (ys := [.ro _]) rfl rfl ⟨rfl, trivial⟩)) (V.le.keep (ag := false) (xs := [.sc _]) (ys := [.sc _]) rfl rfl ⟨rfl, trivial⟩)) (V.le.keep (ag := false) (xs := [.sc _]) (ys := [.sc _]) rfl rfl ⟨(by first | rfl | (show Leaf.sc _ = Leaf.sc _; refine congrArg Leaf.sc ?_; first | rfl | go_num | (first | rw [hn] | rfl; first | done | rfl | go_num | (simp; done) | (simp; omega)) | (simp [cntAll]; done)) | (simp [cntAll]; done) | (simp; omega)), trivial⟩)) trivial trivial nil_ob (fun i j hi hj e => absurd hi (Nat.not_lt_zero i)))
    · skip   -- c0.F
      have hte : t = l.length := by simp at hc0; omega
      refine SV.exit ?_
      refine SV.te ?_
      refine SV.te ?_
      refine SV.bh ?_
      refine SV.tn ?_
      refine SV.seq' ?_
      refine SV.region ?_
      refine SV.op (OpL.ok (nb := 0) (ok_move (v := V.one (.sc _)) (.inl rfl) rfl) rfl (gle rfl)) rfl ?_
      refine SV.op (OpL.ok (nb := 0) (ok_move (v := V.one (.sc _)) (.inr rfl) rfl) rfl (gle rfl)) rfl ?_
      refine SV.nil ?_
      refine SV.tn ?_
      refine SV.ret ?_
      apply SV.done (hf := Try.results113) (ht := rfl) (he := .inl rfl)
      case hr => exact (ResAll.cons (ResOk.tmp (ag := false) (xs := [.sc _]) rfl) ResAll.nil')
      case h2 => simp [two]
      refine ⟨rfl, ⟨?_, trivial⟩, trivial⟩ <;> (show some (T.lit (Value.int .i64 _)) = some (T.lit (Value.int .i64 _)); refine congrArg (fun z => some (T.lit (Value.int .i64 z))) ?_; rw [hte, idxI_end])
end Go.Proofs.Ytpnbnbhifpcelaa
/- Rows that lie in memory, as cells; a slice of rows told by trees lies so. -/
namespace Go.Proofs.Ytpnbnbhifpcelaa
open Go Go.RowKit V
set_option linter.unusedVariables false
def RoIn (w : World) (a : Option Addr) (L : List R) : Prop := ∀ (t : Nat) (c : R), L[t]? = some c → ∃ b o : Nat, a = some ⟨b, o, none⟩ ∧ b < w.heap.size ∧
  w.cell? ⟨b, o + t * 3, none⟩ = some (.int .i64 c.key) ∧ w.cell? ⟨b, o + t * 3 + 1, none⟩ = some (.int .i64 c.value) ∧ w.cell? ⟨b, o + t * 3 + 2, none⟩ = some (.int .i64 c.width)
theorem RoIn.keep {w w' : World} {a : Option Addr} {L : List R} (h : RoIn w a L) (hb : Below w.heap.size w w') : RoIn w' a L := fun t c ht => by
  obtain ⟨b, o, h1, h2, h3, h4, h5⟩ := h t c ht
  exact ⟨b, o, h1, Nat.lt_of_lt_of_le h2 hb.size, (hb.cell h2).trans h3, (hb.cell h2).trans h4, (hb.cell h2).trans h5⟩
end Go.Proofs.Ytpnbnbhifpcelaa
/- Rows in a row of the call's own, by what stands at each index; such a row as a tree, and back. -/
namespace Go.Proofs.Ytpnbnbhifpcelaa
open Go Go.RowKit V
set_option linter.unusedVariables false
theorem rowIs_setCellsR {b : Nat} {t : TypeId} {n : Nat} : ∀ (vs : List Value) (o : Nat) (w : World) (f : Nat → Value), w.rowIs b t n f → (w.setCells b o vs).rowIs b t n (fun j => if o ≤ j ∧ j < o + vs.length then vs.getD (j - o) undef else f j)
  | [], o, w, f, h => h.congr fun i _ => by rw [if_neg (fun e => by simp at e; omega)]
  | v :: r, o, w, f, h => by
    have ih := rowIs_setCellsR r (o + 1) _ _ (h.set o v)
    refine ih.congr fun j hj => ?_
    by_cases h1 : o + 1 ≤ j ∧ j < o + 1 + r.length
    · have h2 : o ≤ j ∧ j < o + (v :: r).length := by simp; omega
      rw [if_pos h1, if_pos h2, show j - o = (j - (o + 1)) + 1 by omega]
      rfl
    · rw [if_neg h1]
      by_cases h3 : j = o
      · subst h3
        have h2 : j ≤ j ∧ j < j + (v :: r).length := by simp
        rw [if_pos rfl, if_pos h2, Nat.sub_self]
        rfl
      · have h2 : ¬ (o ≤ j ∧ j < o + (v :: r).length) := by simp; omega
        rw [if_neg h3, if_neg h2]
def RoF (f : Nat → Value) (L : List R) : Prop := ∀ (t : Nat) (c : R), L[t]? = some c → f (t * 3) = .int .i64 c.key ∧ f (t * 3 + 1) = .int .i64 c.value ∧ f (t * 3 + 2) = .int .i64 c.width
theorem thirdR (j : Nat) : j = j / 3 * 3 ∨ j = j / 3 * 3 + 1 ∨ j = j / 3 * 3 + 2 := by omega
theorem RoF.int {f : Nat → Value} {L : List R} (h : RoF f L) {j : Nat} (hj : j < L.length * 3) : ∃ x, f j = .int .i64 x := by
  have hq : j / 3 < L.length := by omega
  obtain ⟨h0, h1, h2⟩ := h (j / 3) L[j / 3] (List.getElem?_eq_getElem hq)
  rcases thirdR j with e | e | e
  · exact ⟨_, by rw [e]; exact h0⟩
  · exact ⟨_, by rw [e]; exact h1⟩
  · exact ⟨_, by rw [e]; exact h2⟩
theorem RoF.one {f : Nat → Value} {L : List R} (h : RoF f L) {j : Nat} (hj : j < L.length * 3) : (f j).oneCell' = true := by
  obtain ⟨x, hx⟩ := h.int hj
  rw [hx]; rfl
theorem RoF.congr {f g : Nat → Value} {L : List R} (h : RoF f L) (e : ∀ j, j < L.length * 3 → g j = f j) : RoF g L := fun t c ht => by
  have hl := V.get_lt ht
  obtain ⟨h0, h1, h2⟩ := h t c ht
  exact ⟨(e _ (by omega)).trans h0, (e _ (by omega)).trans h1, (e _ (by omega)).trans h2⟩
theorem own_rowR {w : World} {L : List R} {v : Value} {F : Nat → Prop} (h : Own w 0 (.seq 72 (L.map tRow)) v F) :
    (v = .slice none 0 0 ∧ L = []) ∨ ∃ (g q cap N : Nat) (f : Nat → Value), v = .slice (some ⟨g, q, none⟩) L.length cap ∧ F g ∧ L.length ≤ cap ∧ cap ≤ maxLen ∧ q + cap * 3 ≤ N ∧ w.rowIs g 72 N f ∧ RoF (fun j => f (q + j)) L := by
  cases h with
  | seq n hp hz hn xs hown Gs hr hone hF hG hne hd =>
    have h3 : n = 3 := hz.eq sz_impl_Row
    subst h3
    obtain ⟨hxl, ⟨rfl, h0⟩ | ⟨g, q, cap, cur, rfl, -, hh, hc, hm, hs, ht⟩⟩ := hown
    · refine .inl ⟨rfl, ?_⟩
      rw [List.length_map] at h0
      exact List.eq_nil_of_length_eq_zero h0
    · rw [List.length_map] at hc ht hxl
      refine .inr ⟨g, q, cap, cur.size, fun i => cur.getD i undef, by rw [List.length_map], hF g rfl, hc, hm, hs, ⟨cur, hh, rfl, fun i hi => by simp [Array.getD, hi]⟩, fun t c htc => ?_⟩
      have htl := V.get_lt htc
      have key : ∀ (j : Nat) (u : Value), j < 3 → (tRow c)[j]? = some (.lit u) → cur.getD (q + (t * 3 + j)) undef = u := fun j u hj hu => by
        have hlt : t * 3 + j < xs.length := by omega
        have h1 := hr t (tRow c) j (.lit u) xs[t * 3 + j] (by rw [List.getElem?_map, htc]; rfl) hu (List.getElem?_eq_getElem hlt)
        have h2 : xs[t * 3 + j] = u := by cases h1; rfl
        have h3 : xs[t * 3 + j]? = some u := by rw [List.getElem?_eq_getElem hlt, h2]
        rw [← ht, List.getElem?_take, if_pos (by omega), List.getElem?_drop] at h3
        have h4 : q + (t * 3 + j) < cur.size := by omega
        rw [Array.getElem?_toList, Array.getElem?_eq_getElem h4] at h3
        simp [Array.getD, h4, Option.some.inj h3]
      exact ⟨key 0 _ (by omega) rfl, key 1 _ (by omega) rfl, key 2 _ (by omega) rfl⟩
theorem row_ownR {w : World} {L : List R} {g q cap N : Nat} {f : Nat → Value} {F : Nat → Prop} (hF : F g) (hc : L.length ≤ cap) (hm : cap ≤ maxLen) (hN : q + cap * 3 ≤ N) (hrow : w.rowIs g 72 N f) (hf : RoF (fun j => f (q + j)) L) : Own w 0 (.seq 72 (L.map tRow)) (.slice (some ⟨g, q, none⟩) L.length cap) F := by
  obtain ⟨cur, hh, hs, hcell⟩ := hrow
  have htl : (cur.toList.drop q).take (L.length * 3) = (List.range (L.length * 3)).map fun j => f (q + j) := by
    apply List.ext_getElem?
    intro j
    rw [List.getElem?_take, List.getElem?_drop]
    by_cases hj : j < L.length * 3
    · rw [if_pos hj, Array.getElem?_toList, hcell (q + j) (by omega), List.getElem?_map, List.getElem?_range hj]; rfl
    · rw [if_neg hj, List.getElem?_eq_none (by simp; omega)]
  refine .seq 3 (by decide) sz_impl_Row (fun e he => by obtain ⟨x, -, rfl⟩ := List.mem_map.1 he; rfl) ((List.range (L.length * 3)).map fun j => f (q + j)) ⟨by simp, .inr ⟨g, q, cap, cur, by rw [List.length_map], Nat.zero_le _, hh, by rw [List.length_map]; exact hc, hm, by rw [hs]; exact hN, by rw [List.length_map]; exact htl⟩⟩ (fun _ _ => False) (fun k e j t u h1 h2 h3 => ?_) (fun u hu => ?_) (fun b hb => by cases hb; exact hF) (fun q b hb => hb.elim) (fun q b hb => hb.elim) fun q q' b hb => hb.elim
  · rw [List.getElem?_map] at h1
    obtain ⟨c, hc', rfl⟩ := Option.map_eq_some_iff.1 h1
    have hk := V.get_lt hc'
    have hj : j < 3 := by simpa [tRow] using V.get_lt h2
    rw [List.getElem?_map, List.getElem?_range (by omega)] at h3
    have hu : f (q + (k * 3 + j)) = u := Option.some.inj h3
    obtain ⟨e0, e1, e2⟩ := hf k c hc'
    dsimp only at e0 e1 e2
    match j, hj with
    | 0, _ => cases h2; rw [← hu, show k * 3 + 0 = k * 3 from rfl, e0]; exact .lit rfl
    | 1, _ => cases h2; rw [← hu, e1]; exact .lit rfl
    | 2, _ => cases h2; rw [← hu, e2]; exact .lit rfl
  · obtain ⟨j, hj, rfl⟩ := List.mem_map.1 hu
    exact hf.one (f := fun j => f (q + j)) (List.mem_range.1 hj)
end Go.Proofs.Ytpnbnbhifpcelaa
/- States told by trees: contracts of functions that are handed a slice to keep (it is appended to, and comes back in the answer), and their calls. -/
namespace Go.Proofs.Ytpnbnbhifpcelaa.V
open Go Go.RowKit
set_option linter.unusedVariables false
def VX (P : Program) (f : FuncId) (ins : List (Bool × List AC)) (ls : List T) (tup : Bool) (rs : List (Bool × List T)) : Prop :=
  ∀ (w : World) (lv : Nat → Value) (F : Nat → Nat → Prop) (hF : ∀ i b, i < ls.length → F i b → b < w.heap.size) (vs : List Value), (∀ i t, ls[i]? = some t → Own w 0 t (lv i) (F i) ∧ ∃ ty es, t = .seq ty es) → (∀ i j b, i < ls.length → j < ls.length → i ≠ j → F i b → ¬ F j b) → ArgsM (Env.lend w lv F ls.length hF) ins vs →
    Calls P f vs.toArray w (Gives (Env.lend w lv F ls.length hF) tup rs)
def Env.free (E : Env) : Env := { E with nl := 0 }
variable {P : Program} {E : Env} {N : Nat} {σ σ' : VS} {o : Oper} {a : Act} {w : World} {G : Ghost}
theorem Rel.free (h : Rel E N σ a w G) : Rel E.free N σ a w G :=
  ⟨⟨h.below.os, h.below.tape, h.below.output, h.below.size, fun k hk => h.below.block k hk⟩, h.dfr, h.nsz, h.tmps, h.boxes, h.inj, h.boxft, h.objs, h.disj, h.ftlt, ⟨Nat.zero_le _, fun i hi => absurd hi (Nat.not_lt_zero i), h.lent.2.2⟩⟩
theorem VX.enter {f : FuncId} {fn : Func} {c : Go.Code} {n : Nat} {ins : List (Bool × List AC)} {ls : List T} {tup : Bool} {rs : List (Bool × List T)} (hf : P.funcs[f]? = some fn) (hb : fn.body = some c) (hn : fn.ntmps = n) (hl : ins.length ≤ n)
    (h : ∀ E, E.plain 0 → SV E n (VS.initM (ins.map fun p => V.flat p.1 (p.2.map AC.leaf)) ls) (c.wp P (bodyPost P fn (Gives E tup rs)))) : VX P f ins ls tup rs := fun w lv F hF vs h1 h2 hv => by
  refine calls_of_wp hf hb ?_
  obtain ⟨G, hG⟩ := init_relM (E := Env.lend w lv F ls.length hF) (F := F) ⟨rfl, rfl⟩ h1 h2 (fun i b hi hb => ⟨.inr ⟨i, hi, hb⟩, hF i b hi hb⟩) hv (n := n) (by rw [hv.1]; exact hl)
  have h3 := h (Env.lend w lv F ls.length hF).free ⟨rfl, rfl⟩ _ _ G hG.free
  have hg : ∀ e w', Gives (Env.lend w lv F ls.length hF).free tup rs e w' → Gives (Env.lend w lv F ls.length hF) tup rs e w' := fun e w' ⟨uss, F', k1, k2, k3, k4, k5, k6⟩ => ⟨uss, F', k1, k2, k3, k4, k5, ⟨k6.os, k6.tape, k6.output, k6.size, fun k hk => k6.block k hk⟩⟩
  rw [hn]
  have h4 := wp_mono h3 (Q' := bodyPost P fn (Gives (Env.lend w lv F ls.length hF) tup rs)) fun e a w' hq => by
    cases e with
    | normal => obtain ⟨k1, v, k2, k3⟩ := hq; exact ⟨k1, v, k2, hg _ _ k3⟩
    | ret => obtain ⟨k1, v, k2, k3⟩ := hq; exact ⟨k1, v, k2, hg _ _ k3⟩
    | exit id => exact hq
    | goto l => exact hq
    | panic ch => first | exact hq | exact hg _ _ hq | exact ⟨hq.1, hg _ _ hq.2⟩
    | outgrown => first | exact hq | exact hg _ _ hq
  have e : (Env.lend w lv F ls.length hF).w0 = w := rfl
  rw [e] at h4
  simpa using h4
def VS.argX (p : Leaf) : List Leaf → List AC → Prop
  | [], [] => True
  | x :: xs, .rd t :: ts => ((∃ u, t = .lit u ∧ x = .sc u) ∨ x = .ro t) ∧ VS.argX p xs ts
  | x :: xs, .ln i :: ts => (i = 0 ∧ x = p) ∧ VS.argX p xs ts
  | _, _ => False
theorem argX_get {p : Leaf} : ∀ {xs : List Leaf} {ts : List AC}, VS.argX p xs ts → xs.length = ts.length ∧ ∀ (j : Nat) (t : AC), ts[j]? = some t → ∃ x, xs[j]? = some x ∧ match t with
    | .rd t => (∃ u, t = .lit u ∧ x = .sc u) ∨ x = .ro t
    | .ln i => i = 0 ∧ x = p
  | [], [], _ => ⟨rfl, fun j t h => by simp at h⟩
  | x :: xs, .rd t :: ts, h => by
    obtain ⟨h1, h2⟩ := argX_get h.2
    refine ⟨by simp [h1], fun j s hj => ?_⟩
    cases j with
    | zero => cases hj; exact ⟨x, rfl, h.1⟩
    | succ j => exact h2 j s (by simpa using hj)
  | x :: xs, .ln i :: ts, h => by
    obtain ⟨h1, h2⟩ := argX_get h.2
    refine ⟨by simp [h1], fun j s hj => ?_⟩
    cases j with
    | zero => cases hj; exact ⟨x, rfl, h.1⟩
    | succ j => exact h2 j s (by simpa using hj)
def VS.argsX (σ : VS) (p : Leaf) : List Operand → List (Bool × List AC) → Prop
  | [], [] => True
  | x :: xs, q :: qs => (∃ ls, σ.ev x = V.flat q.1 ls ∧ VS.argX p ls q.2) ∧ σ.argsX p xs qs
  | _, _ => False
theorem Rel.argsX (h : Rel E N σ a w G) {i : Nat} {E' : Env} (hw : E'.w0 = w) (hold : ∀ b, E.old b → E'.old b) (hn : 0 < E'.nl) (hv : E'.lv 0 = G.vl i) : ∀ {xs : List Operand} {qs : List (Bool × List AC)}, σ.argsX (.hd i) xs qs → ArgsM E' qs (xs.map a.eval)
  | [], [], _ => ⟨rfl, fun c ag ts v hc => by simp at hc⟩
  | x :: xs, q :: qs, hq => by
    obtain ⟨⟨ls, h1, h2⟩, h3⟩ := hq
    obtain ⟨h4, h5⟩ := h.argsX hw hold hn hv h3
    refine ⟨by simpa using h4, fun c ag ts v hc hv' => ?_⟩
    cases c with
    | zero =>
      cases hc
      cases hv'
      have h6 := h.ev x
      rw [h1, vflat] at h6
      obtain ⟨us, h7, h8, h9⟩ := h6
      obtain ⟨h10, h11⟩ := argX_get h2
      refine ⟨us, h7, h8.trans h10, fun j t u hj hu => ?_⟩
      obtain ⟨y, h12, h13⟩ := h11 j t hj
      have h14 := h9 j y u h12 hu
      cases t with
      | ln k =>
        obtain ⟨rfl, rfl⟩ := h13
        exact ⟨hn, h14.1.2.trans hv.symm⟩
      | rd t =>
        rcases h13 with ⟨z, rfl, rfl⟩ | rfl
        · rcases h14.2 with h15 | h15
          · cases h15
          · have h16 : u = z := h14.1
            rw [h16] at h15 ⊢
            exact .lit h15
        · have h16 : Inn E.old w t u := h14.1
          show Inn E'.old E'.w0 t u
          rw [hw]
          exact h16.frame (Nat.le_refl _) fun b hb _ => ⟨hold b hb, rfl⟩
    | succ c => exact h5 c ag ts v (by simpa using hc) (by simpa using hv')
theorem ok_callX {d : Nat} {f : FuncId} {xs : List Operand} {ats : Array TypeId} {ins : List (Bool × List AC)} {t0 : T} {ty : TypeId} {es : List (List T)} {i kk : Nat} (hk : σ.nx = kk) (ho : o.op = .call { callee := .value (.func f), args := xs.toArray, argTypes := ats }) (hb : ∃ fn c, P.funcs[f]? = some fn ∧ fn.body = some c ∧ fn.name ≠ "runtime.NumGoroutine")
    (hc : VX P f ins [t0] false [(false, [.seq ty es])]) (hx : σ.argsX (.hd i) xs ins) (hi : (σ.ob i).map (·.2) = some t0) (hd : o.dst = some d) (hdN : d < N) : OpOk P E N σ o (((σ.kills [.hd i]).new (.seq ty es)).put d (V.one (.hd kk))) :=
  fun a w G K Q h k => by
    subst hk
    obtain ⟨fn, c, h1, h2, h2'⟩ := hb
    obtain ⟨⟨ver, t1⟩, hob, rfl⟩ := Option.map_eq_some_iff.1 hi
    have hlive : σ.ob i ≠ none := by rw [hob]; simp
    have hft : ∀ b, G.ft i b → (E.B ≤ b ∨ E.ln b) ∧ b < w.heap.size := fun b hb => h.ftlt i b hlive hb
    have hF : ∀ (q b : Nat), q < [t1].length → G.ft i b → b < w.heap.size := fun q b _ hb => (hft b hb).2
    have hnot : ∀ b, E.old b → ¬ G.ft i b := fun b hb hf => (hft b hf).1.elim (fun h1 => by have := hb.1; omega) hb.2
    have hcall := hc w (fun _ => G.vl i) (fun _ => G.ft i) hF (xs.map a.eval) (fun q t hq => by
      obtain ⟨-, e5, e6⟩ := h.objs i ver t1 hob
      have hq0 := get_lt hq
      have : q = 0 := by simpa using hq0
      subst this
      cases hq
      exact ⟨e5, e6⟩) (fun q q' b hq hq' hne _ => absurd (show q = q' by simp at hq hq'; omega) hne) (h.argsX (i := i) (E' := Env.lend w (fun _ => G.vl i) (fun _ => G.ft i) 1 hF) rfl (fun b hb => ⟨Nat.lt_of_lt_of_le hb.1 h.low, fun ⟨q, hq, hqb⟩ => hnot b hb hqb⟩) Nat.one_pos rfl hx)
    have hrun : (execOp a.eval o).run P w = .ok (.enter f (xs.map a.eval).toArray) w := by
      simp [execOp, ho, resolve, Act.eval, Deferred.ofValue, invoke, callFunc, h1, h2, h2', Result.andThen]
    unfold Oper.wp
    rw [hrun]
    refine hcall.mono fun e w' ⟨uss, F', g1, g2, g3, g4, g5, g6⟩ => ?_
    match uss, g1 with
    | [us], _ =>
      obtain ⟨g7, g8⟩ := g3 0 false [.seq ty es] us rfl rfl
      match us, g7 with
      | [u], _ =>
        have hown := g8 0 (.seq ty es) u rfl rfl
        have hsm : Same E w w' := ⟨g6.os, g6.tape, g6.output, g6.size, fun b hb => g6.block b ⟨Nat.lt_of_lt_of_le hb.1 h.low, fun ⟨q, hq, hqb⟩ => hnot b hb hqb⟩⟩
        obtain ⟨G', hG', ⟨hvl, -, -⟩, -, -⟩ := h.renew [.hd i] (fun x hx => by rw [List.mem_singleton.1 hx]; exact ⟨t1, by show (σ.ob i).map (·.2) = _; rw [hob]; rfl⟩) (w' := w') (t := .seq ty es) (v := u) (F := F' 0 0) (G.ft i) hsm (fun k hk hnD => g6.block k ⟨hk, fun ⟨q, hq, hqb⟩ => hnD hqb⟩) (fun b hb => ⟨.hd i, List.mem_singleton_self _, hb⟩) hown ⟨_, _, rfl⟩ fun b hb => by
          obtain ⟨m1, m2⟩ := g5 0 0 b hb
          rcases m1 with m1 | ⟨q, m1, m3⟩
          · exact ⟨⟨.inl (Nat.le_trans h.low m1), m2⟩, .inl (h.fresh m1)⟩
          · exact ⟨⟨(hft b m3).1, m2⟩, .inr ⟨.hd i, List.mem_singleton_self _, m3⟩⟩
        subst g2
        rw [hd]
        exact k _ _ _ (hG'.put hdN (vone.2 ⟨⟨Nat.lt_succ_self _, hvl.symm⟩, .inr hown.one⟩))
end Go.Proofs.Ytpnbnbhifpcelaa.V
/- The library's slices.Delete of one row, by contract: the row is the call's own. -/
namespace Go.Proofs.Ytpnbnbhifpcelaa
open Go Go.RowKit V
set_option linter.unusedVariables false
def zeroRo : List Value := [.int .i64 0, .int .i64 0, .int .i64 0]
theorem run_clear_rowR (w : World) (ty : TypeId) (g o c : Nat) (h : ∀ j, j < 3 → (w.cell? ⟨g, o + j, none⟩).isSome = true) (hf : ∀ j, w.frozen? ⟨g, j, none⟩ = false) :
    (Builtin.clear_ #[24] ty #[.slice (some ⟨g, o, none⟩) 1 c]).run Try.prog w = .ok (.tuple #[]) (w.setCells g o zeroRo) := by
  have hz : ∀ w, (zeroValue 72).run Try.prog w = .ok (.agg #[.int .i64 0, .int .i64 0, .int .i64 0]) w := fun w => by kernel_rfl
  have hzc : (Builtin.zeroCells (Value.agg #[.int .i64 0, .int .i64 0, .int .i64 0]).cells 1).toList = [.int .i64 0, .int .i64 0, .int .i64 0] := by kernel_rfl
  have hst := run_storeCells_cells (P := Try.prog) g o [.int .i64 0, .int .i64 0, .int .i64 0] 0 w (fun j hj => by simpa using h j (by simpa using hj)) (fun j hj => hf _) (fun v hv => by
    simp only [List.mem_cons, List.not_mem_nil, or_false] at hv
    rcases hv with rfl | rfl | rfl <;> rfl)
  simp only [Nat.add_zero] at hst
  simp [Builtin.clear_, run_underlying Try.underlying24, hz, hzc, hst]
  rfl
theorem grown_cellsR {w : World} {g : Nat} : ∀ (vs : List Value) (o : Nat) (w' : World), w.grownBy w' (some g) → w.grownBy (w'.setCells g o vs) (some g)
  | [], _, _, h => h
  | v :: r, o, w', h => grown_cellsR r (o + 1) _ ⟨h.os, h.tape, h.output, by simpa [World.setCell] using h.size, fun z hz hn => (Below.heap_setCell w' ⟨g, o, none⟩ v z (fun e => hn (by rw [show z = g from e]))).trans (h.block z hz hn)⟩
set_option maxRecDepth 100000 in
set_option maxHeartbeats 2000000 in
theorem idel0R (g q cap m k N : Nat) (f : Nat → Value) (w : World) (hk : k ≤ m) (hc : m + 1 ≤ cap) (hm : cap ≤ maxLen) (hN : q + cap * 3 ≤ N) (hrow : w.rowIs g 72 N f) (h1 : ∀ j, j < (m + 1) * 3 → (f (q + j)).oneCell' = true) :
    Calls Try.prog 123 #[.slice (some ⟨g, q, none⟩) (m + 1) cap, .int .i64 k, .int .i64 ((k : Int) + 1)] w fun e w' =>
      e = .returned (.slice (some ⟨g, q, none⟩) m cap) ∧ w.grownBy w' (some g) ∧ ∃ f', w'.rowIs g 72 N f' ∧ ∀ j, j < m * 3 → f' (q + j) = if j < k * 3 then f (q + j) else f (q + j + 3) := by
  unfold maxLen at hm
  have HR := Lib.hid hrow
  have H1 := Lib.hid h1
  have b1 : (0 : Int) ≤ (k : Int) := by omega
  have b2 : (k : Int) ≤ ((k : Int) + 1) := by omega
  have b3 : ((k : Int) + 1) ≤ ((m + 1 : Nat) : Int) := by omega
  have b4 : ((m + 1 : Nat) : Int) ≤ (cap : Int) := by omega
  have b5 : (k : Int) ≤ (cap : Int) := by omega
  have b6 : (0 : Int) ≤ (k : Int) + 1 := by omega
  have t1 : ((k : Int) + 1).toNat = k + 1 := by omega
  obtain ⟨I0, hI, hI3⟩ := sz_impl_Row
  obtain ⟨news, hnews⟩ : ∃ news, news = (List.range ((m + 1 - (k + 1)) * 3)).map fun j => f (q + (k + 1) * 3 + j) := ⟨_, rfl⟩
  have hnl : news.length = (m + 1 - (k + 1)) * 3 := by rw [hnews]; simp
  have hn1 : ∀ u ∈ news, u.oneCell' = true := fun u hu => by
    rw [hnews] at hu
    obtain ⟨j, hj, rfl⟩ := List.mem_map.1 hu
    have := List.mem_range.1 hj
    rw [Nat.add_assoc]; exact h1 _ (by omega)
  have hnc : ∀ j u, news[j]? = some u → w.cell? ⟨g, q + (k + 1) * 3 + j, none⟩ = some u := fun j u hj => by
    have hjl := V.get_lt hj
    rw [hnews, List.getElem?_map, List.getElem?_range (by omega)] at hj
    rw [← Option.some.inj hj]
    exact hrow.cell (by omega)
  have hsp : ∀ j, j < news.length → (w.cell? ⟨g, q + k * 3 + j, none⟩).isSome = true ∧ w.frozen? ⟨g, q + k * 3 + j, none⟩ = false := fun j hj => ⟨by rw [hrow.cell (by omega)]; rfl, hrow.frozen _⟩
  have HN := Lib.hid hnews
  have HL := Lib.hid hnl
  have H2 := Lib.hid hn1
  have HC : Hid (∀ j u, news[j]? = some u → w.cell? ((if cap = k + 1 then (⟨g, q, none⟩ : Addr) else ⟨g, q + (k + 1) * 3, none⟩).add j) = some u) := Lib.hid fun j u hj => by
    have hjl := V.get_lt hj
    have hne : ¬ cap = k + 1 := by omega
    rw [if_neg hne, Addr.add_lit]
    exact hnc j u hj
  have H4 := Lib.hid hsp
  clear hrow h1 hnews hnl hn1 hnc hsp
  go_enter Try.func123, Try.ntmps123
  go_wp2_with fail
  go_region_law (refine step_append_room rfl _ _ 24 rfl 72 I0 3 Try.underlying24 hI hI3 g q k cap (by simp [Act.eval, Act.put]) (if cap = k + 1 then ⟨g, q, none⟩ else ⟨g, q + (k + 1) * 3, none⟩) (m + 1 - (k + 1)) (cap - (k + 1)) news (by simp [Act.eval, Act.put]; split <;> rfl) HL.out HC.out H2.out (by omega) H4.out ?_)
  obtain ⟨W1, hW1⟩ : ∃ W, W = w.drew.setCells g (q + k * 3) news := ⟨_, rfl⟩
  rw [← hW1]
  have r1 := rowIs_setCellsR news (q + k * 3) w.drew f HR.out.drew
  have g1 : w.grownBy W1 (some g) := by rw [hW1]; exact grown_cellsR news _ _ ⟨rfl, rfl, rfl, Nat.le_refl _, fun _ _ _ => rfl⟩
  rw [← hW1] at r1
  have hcl : ∀ ty c', (Builtin.clear_ #[24] ty #[.slice (some ⟨g, q + m * 3, none⟩) 1 c']).run Try.prog W1 = .ok (.tuple #[]) (W1.setCells g (q + m * 3) zeroRo) := fun ty c' => run_clear_rowR W1 ty g (q + m * 3) c' (fun j hj => by rw [r1.cell (by omega)]; rfl) fun j => r1.frozen j
  have R1 := Lib.hid r1
  have G1 := Lib.hid g1
  have c1 : ¬ cap = m := by omega
  have c2 : (0 : Int) ≤ (m : Int) := by omega
  have c3 : (m : Int) ≤ (m : Int) + 1 := by omega
  have c4 : (m : Int) + 1 ≤ (cap : Int) := by omega
  have c5 : (m : Int) ≤ (cap : Int) := by omega
  clear r1 g1 hW1
  have fin : ∀ j, j < m * 3 → (if q + m * 3 ≤ q + j ∧ q + j < q + m * 3 + zeroRo.length then zeroRo.getD (q + j - (q + m * 3)) undef else if q + k * 3 ≤ q + j ∧ q + j < q + k * 3 + news.length then news.getD (q + j - (q + k * 3)) undef else f (q + j)) = if j < k * 3 then f (q + j) else f (q + j + 3) := fun j hj => by
    have hz : ¬ (q + m * 3 ≤ q + j ∧ q + j < q + m * 3 + zeroRo.length) := by omega
    rw [if_neg hz]
    by_cases hjk : j < k * 3
    · rw [if_neg (by omega), if_pos hjk]
    · have hin : q + k * 3 ≤ q + j ∧ q + j < q + k * 3 + news.length := by have := HL.out; omega
      rw [if_pos hin, if_neg hjk, HN.out, List.getD_eq_getElem?_getD, List.getElem?_map, List.getElem?_range (by omega)]
      show f (q + (k + 1) * 3 + (q + j - (q + k * 3))) = f (q + j + 3)
      congr 1
      omega
  have FIN := Lib.hid fin
  clear fin
  go_wp2_with (simp only [hcl])
  all_goals try rw [← ‹cap = k + 1›]
  all_goals go_ret
  all_goals refine ⟨rfl, grown_cellsR _ _ _ G1.out, _, rowIs_setCellsR zeroRo (q + m * 3) W1 _ R1.out, fun j hj => FIN.out j hj⟩
theorem gives_rowR {w w' : World} {lv : Nat → Value} {F : Nat → Nat → Prop} {n : Nat} {hF : ∀ i b, i < n → F i b → b < w.heap.size} {g q g0 i0 cap N : Nat} {f : Nat → Value} {L : List R} (h0 : i0 < n ∧ F i0 g0) (hgr : w.grownBy w' (some g0)) (hg : g = g0 ∨ w.heap.size ≤ g) (hN : q + cap * 3 ≤ N) (hrow : w'.rowIs g 72 N f) (hf : RoF (fun j => f (q + j)) L) (hc : L.length ≤ cap) (hm : cap ≤ maxLen) :
    V.Gives (Env.lend w lv F n hF) false [(false, [.seq 72 (L.map tRow)])] (.returned (.slice (some ⟨g, q, none⟩) L.length cap)) w' := by
  refine ⟨[[.slice (some ⟨g, q, none⟩) L.length cap]], fun c j b => c = 0 ∧ j = 0 ∧ b = g, rfl, rfl, fun c ag ts us hc' hu => ?_, fun c j c' j' b e1 e2 => ?_, fun c j b hb => ?_, ⟨hgr.os, hgr.tape, hgr.output, hgr.size, fun b hb => hgr.block b hb.1 fun e => hb.2 ⟨i0, h0.1, by rw [Option.some.inj e]; exact h0.2⟩⟩⟩
  · cases c with
    | zero =>
      cases hc'; cases hu
      refine ⟨rfl, fun j t u hj hu => ?_⟩
      cases j with
      | zero => cases hj; cases hu; exact row_ownR ⟨rfl, rfl, rfl⟩ hc hm hN hrow hf
      | succ j => simp at hj
    | succ c => simp at hc'
  · exact ⟨e1.1.trans e2.1.symm, e1.2.1.trans e2.2.1.symm⟩
  · obtain ⟨-, -, rfl⟩ := hb
    refine ⟨?_, hrow.lt⟩
    rcases hg with rfl | hg
    · exact .inr ⟨i0, h0.1, h0.2⟩
    · exact .inl hg
theorem vx_args1R {E : Env} {ns : List Int} {vs : List Value} (hv : ArgsM E ((false, [AC.ln 0]) :: ns.map fun x => (false, [AC.rd (.lit (.int .i64 x))])) vs) : vs = E.lv 0 :: ns.map fun x => Value.int .i64 x := by
  obtain ⟨hl, ha⟩ := hv
  cases vs with
  | nil => simp at hl
  | cons v us =>
    obtain ⟨ws, e1, e2, e3⟩ := ha 0 false _ v rfl rfl
    match ws, e2 with
    | [x], _ =>
      have hx : x = E.lv 0 := (e3 0 (.ln 0) x rfl rfl).2
      congr 1
      · rw [e1, ← hx]; rfl
      · apply List.ext_getElem?
        intro j
        have hlu : us.length = ns.length := by simpa using hl
        rcases Nat.lt_or_ge j ns.length with hj | hj
        · have hj' : j < us.length := by omega
          obtain ⟨ws, f1, f2, f3⟩ := ha (j + 1) false [.rd (.lit (.int .i64 ns[j]))] us[j] (by simp [hj]) (by simp [hj'])
          match ws, f2 with
          | [y], _ =>
            have f4 : Inn _ _ (.lit (.int .i64 ns[j])) y := f3 0 (.rd (.lit (.int .i64 ns[j]))) y rfl rfl
            rw [List.getElem?_eq_getElem hj', f1, inn_lit f4, List.getElem?_map, List.getElem?_eq_getElem hj]
            rfl
        · rw [List.getElem?_eq_none (by omega), List.getElem?_eq_none (by simpa using hj)]
theorem erase_getR {L : List R} {k t : Nat} {c : R} (h : (L.eraseIdx k)[t]? = some c) : L[if t < k then t else t + 1]? = some c := by
  rw [List.getElem?_eraseIdx] at h
  split <;> rename_i hk <;> simp [hk] at h <;> exact h
theorem vdelrow (L : List R) (k : Nat) (hk : k < L.length) : VX Try.prog 123 [(false, [.ln 0]), (false, [.rd (.lit (.int .i64 (k : Int)))]), (false, [.rd (.lit (.int .i64 ((k : Int) + 1)))])] [.seq 72 (L.map tRow)] false [(false, [.seq 72 ((L.eraseIdx k).map tRow)])] := fun w lv F hF vs h1 h2 hv => by
  have hvs := vx_args1R (ns := [(k : Int), (k : Int) + 1]) hv
  rcases own_rowR (h1 0 _ rfl).1 with ⟨-, h0⟩ | ⟨g, q, cap, N, f, hl, hFg, hc, hm, hN, hrow, hf⟩
  · subst h0; simp at hk
  · obtain ⟨m, hmL⟩ : ∃ m, L.length = m + 1 := ⟨L.length - 1, by omega⟩
    have hcall := idel0R g q cap m k N f w (by omega) (by omega) hm hN hrow (fun j hj => hf.one (f := fun j => f (q + j)) (by omega))
    have he : (L.eraseIdx k).length = m := by rw [List.length_eraseIdx_of_lt hk]; omega
    have hvs2 : vs = [.slice (some ⟨g, q, none⟩) (m + 1) cap, .int .i64 (k : Int), .int .i64 ((k : Int) + 1)] := by
      rw [hvs]
      show lv 0 :: _ = _
      rw [hl, hmL]; rfl
    rw [hvs2]
    refine hcall.mono fun e w' ⟨h3, h4, f', h5, h6⟩ => ?_
    rw [h3, ← he]
    refine gives_rowR (i0 := 0) (g0 := g) ⟨Nat.one_pos, hFg⟩ h4 (.inl rfl) hN h5 (fun t c ht => ?_) (by omega) hm
    have htl := V.get_lt ht
    rw [he] at htl
    have h7 := hf _ c (erase_getR ht)
    dsimp only at h7 ⊢
    rw [h6 _ (by omega), h6 _ (by omega), h6 _ (by omega)]
    by_cases hkt : t < k
    · rw [if_pos hkt] at h7
      rw [if_pos (by omega), if_pos (by omega), if_pos (by omega)]
      exact h7
    · rw [if_neg hkt] at h7
      rw [if_neg (by omega), if_neg (by omega), if_neg (by omega)]
      rw [show q + t * 3 + 3 = q + (t + 1) * 3 by omega, show q + (t * 3 + 1) + 3 = q + ((t + 1) * 3 + 1) by omega, show q + (t * 3 + 2) + 3 = q + ((t + 1) * 3 + 2) by omega]
      exact h7
end Go.Proofs.Ytpnbnbhifpcelaa
/- States told by trees: functions that are handed the address of a box of their caller's, with slices of its own in it; their contracts, beginnings, answers and calls. -/
namespace Go.Proofs.Ytpnbnbhifpcelaa.V
open Go Go.RowKit
set_option linter.unusedVariables false
def Env.bx (w : World) (c : Nat) (F : Nat → Prop) (hc : c < w.heap.size) (hF : ∀ b, F b → b < w.heap.size) : Env := ⟨w, fun b => b = c ∨ F b, fun b h => h.elim (fun e => e ▸ hc) (hF b), fun _ => undef, 0, some c⟩
def Env.bx0 (w : World) (c : Nat) (F : Nat → Prop) (hc : c < w.heap.size) (hF : ∀ b, F b → b < w.heap.size) : Env := ⟨w, fun b => b = c ∨ F b, fun b h => h.elim (fun e => e ▸ hc) (hF b), fun _ => undef, 0, none⟩
def GivesH (E : Env) (c : Nat) (ty : TypeId) (ls : List T) (tup : Bool) (rs : List (Bool × List T)) (e : Ending) (w' : World) : Prop :=
  ∃ (us : List Value) (uss : List (List Value)) (F : Nat → Nat → Nat → Prop), w'.heap[c]? = some (.cells us.toArray ty (0, 0)) ∧ uss.length = rs.length ∧ e = .returned (vval tup (List.zipWith (fun r us => cval r.1 us) rs uss)) ∧
    (∀ (k : Nat) (ag : Bool) (ts : List T) (vs : List Value), ((false, ls) :: rs)[k]? = some (ag, ts) → (us :: uss)[k]? = some vs → vs.length = ts.length ∧ ∀ (j : Nat) (t : T) (u : Value), ts[j]? = some t → vs[j]? = some u → Own w' 0 t u (F k j)) ∧
    (∀ c1 j c2 j' b, F c1 j b → F c2 j' b → c1 = c2 ∧ j = j') ∧ (∀ c1 j b, F c1 j b → (E.B ≤ b ∨ E.ln b) ∧ b < w'.heap.size ∧ b ≠ c) ∧ Same E E.w0 w'
def VH (P : Program) (f : FuncId) (ty : TypeId) (ls : List T) (ins : List (Bool × List T)) (ls' : List T) (tup : Bool) (rs : List (Bool × List T)) : Prop :=
  ∀ (w : World) (c : Nat) (us : List Value) (F : Nat → Nat → Prop) (hc : c < w.heap.size) (hF : ∀ b, (∃ j, F j b) → b < w.heap.size) (vs : List Value),
    w.heap[c]? = some (.cells us.toArray ty (0, 0)) → us.length = ls.length → (∀ (j : Nat) (t : T) (u : Value), ls[j]? = some t → us[j]? = some u → Own w 0 t u (F j)) → (∀ i j b, F i b → F j b → i = j) → (∀ j b, F j b → b ≠ c) →
    ArgsIn (Env.bx w c (fun b => ∃ j, F j b) hc hF) w ins vs →
    Calls P f (Value.pointer (some ⟨c, 0, none⟩) :: vs).toArray w (GivesH (Env.bx w c (fun b => ∃ j, F j b) hc hF) c ty ls' tup rs)
variable {P : Program} {E : Env} {N : Nat} {σ σ' : VS} {o : Oper} {a : Act} {w : World} {G : Ghost}
theorem VH.enter {f : FuncId} {fn : Func} {c0 : Go.Code} {n : Nat} {ty : TypeId} {ls ls' : List T} {ins rs : List (Bool × List T)} {tup : Bool} (hf : P.funcs[f]? = some fn) (hb : fn.body = some c0) (hn : fn.ntmps = n) (hl : ins.length + 1 ≤ n)
    (h : ∀ (E : Env) (c : Nat), E.nl = 0 → E.pin = some c → SV E n ((ansS ⟨fun s => (V.one (.bp 0 0) :: ins.map fun p => V.flat p.1 (p.2.map argLeaf)).getD s (V.one .dead), [(ty, ls.map fun _ => .dead)], fun _ => none, 0⟩ ls).setb 0 ty (ansL 0 ls).1) (c0.wp P (bodyPost P fn (GivesH E c ty ls' tup rs)))) : VH P f ty ls ins ls' tup rs := fun w c us F hc hF vs hbox hus hown hdj hne hv => by
  refine calls_of_wp hf hb ?_
  have hv' : ArgsIn (Env.bx0 w c (fun b => ∃ j, F j b) hc hF) w ((false, [.any]) :: ins) (Value.pointer (some ⟨c, 0, none⟩) :: vs) := ⟨by simp [hv.1], fun c' ag ts v h1 h2 => by
    cases c' with
    | zero =>
      cases h1; cases h2
      refine ⟨[Value.pointer (some ⟨c, 0, none⟩)], rfl, rfl, fun j t u h3 h4 => ?_⟩
      match j, h3, h4 with
      | 0, h3, h4 => cases h3; cases h4; exact .any rfl
    | succ c' =>
      obtain ⟨us, e1, e2, e3⟩ := hv.2 c' ag ts v (by simpa using h1) (by simpa using h2)
      exact ⟨us, e1, e2, fun j t u h3 h4 => e3 j t u h3 h4⟩⟩
  obtain ⟨G0, h0'⟩ := init_rel (E := (Env.bx0 w c (fun b => ∃ j, F j b) hc hF)) (n := n) ⟨rfl, rfl⟩ hv' (by have := hv.1; simp; omega)
  have hone : ∀ (j : Nat) (u : Value), us[j]? = some u → u.oneCell' = true := fun j u hu => by
    have hj : j < ls.length := by rw [← hus]; exact get_lt hu
    exact (hown j ls[j] u (List.getElem?_eq_getElem hj) hu).one
  have base : Rel (Env.bx w c (fun b => ∃ j, F j b) hc hF) n ⟨fun s => (V.one (.bp 0 0) :: ins.map fun p => V.flat p.1 (p.2.map argLeaf)).getD s (V.one .dead), [(ty, ls.map fun _ => .dead)], fun _ => none, 0⟩ { tmps := (Value.pointer (some ⟨c, 0, none⟩) :: vs).toArray ++ Array.replicate (n - (Value.pointer (some ⟨c, 0, none⟩) :: vs).length) undef, defers := [] } w ⟨fun _ => c, fun _ => undef, fun _ _ => False⟩ := by
    refine ⟨Same.refl _ _, rfl, h0'.nsz, fun s => ?_, fun b ty' xs hb => ?_, fun b b' hb hb' _ => (by simp at hb hb'; omega), fun b i hb hi => absurd rfl hi, fun i v t hi => (by cases hi), fun i j b hi => absurd rfl hi, fun i b hi => absurd rfl hi, ⟨Nat.le_refl _, fun i hi => absurd hi (Nat.not_lt_zero i), fun c' hc' => ⟨by simp, Option.some.inj hc'⟩⟩⟩
    · cases s with
      | zero =>
        have e0 : ((Value.pointer (some ⟨c, 0, none⟩) :: vs).toArray ++ Array.replicate (n - (Value.pointer (some ⟨c, 0, none⟩) :: vs).length) undef).getD 0 undef = Value.pointer (some ⟨c, 0, none⟩) := by
          simp only [Array.getD_eq_getD_getElem?]
          rw [Array.getElem?_append_left (by simp)]
          simp
        show VHolds _ _ _ _ (V.one (.bp 0 0)) _
        rw [e0]
        exact vone.2 ⟨⟨by simp, rfl⟩, .inr rfl⟩
      | succ s =>
        refine (h0'.tmps (s + 1)).step fun x u hx => ?_
        obtain ⟨h1, h2⟩ := hx
        refine ⟨?_, h2⟩
        cases x with
        | dead => trivial
        | sc v => exact h1
        | nl ty => exact h1
        | ro t => exact h1
        | rp es => exact h1
        | hd i => exact absurd h1.1 (Nat.not_lt_zero i)
        | nd i ver t loc => exact absurd h1.1 (Nat.not_lt_zero i)
        | np i ver es => exact absurd h1.1 (Nat.not_lt_zero i)
        | ep i k n o => exact absurd h1.1 (Nat.not_lt_zero i)
        | bp b o => exact absurd h1.1 (Nat.not_lt_zero b)
    · have hb0 : b = 0 := by have := get_lt hb; simpa using this
      subst hb0
      cases hb
      refine ⟨.inr (.inl rfl), us, hbox, by simp [hus], fun j x u hj hu => ⟨?_, hone j u hu⟩⟩
      rw [List.getElem?_map] at hj
      obtain ⟨_, -, rfl⟩ := Option.map_eq_some_iff.1 hj
      exact ⟨trivial, .inl rfl⟩
  obtain ⟨G1, k1, k2, k3, k4, k5, k6, k7, k8, k9, k10, k11⟩ := Rel.addAll ls us F base hus hown (fun j b hb => ⟨⟨fun i hi => absurd rfl hi, fun c' hc' e => hne j b hb e.symm⟩, .inr (.inr ⟨j, hb⟩), hF b ⟨j, hb⟩⟩) hdj
  have k := k1.setbox (b := 0) (ty := ty) (xs := ls.map fun _ => .dead) (xs' := (ansL 0 ls).1) (us' := us) (w' := w) (by rw [k2]; rfl) (Same.refl _ _) (fun _ _ => rfl) (by rw [k10]; exact hbox) (hus.trans k7.symm) fun j x u hx hu => ⟨k8 j x u hx hu, hone j u hu⟩
  have h1 := h (Env.bx w c (fun b => ∃ j, F j b) hc hF) c rfl rfl _ _ _ k
  rw [hn]
  simpa using h1
theorem Rel.apart (h : Rel E N σ a w G) {b : Nat} {x x' : Leaf} (k1 : x.foot G b) (k2 : x'.foot G b) (k3 : ∃ t, σ.out x = some t) (k4 : ∃ t, σ.out x' = some t) : ¬ two x x' := fun k5 => by
  cases x with
  | hd i =>
    cases x' with
    | hd i' =>
      by_cases hii : i = i'
      · exact k5 i rfl (by rw [hii])
      · obtain ⟨t, k3⟩ := k3
        obtain ⟨t', k4⟩ := k4
        obtain ⟨p, e1, -⟩ := Option.map_eq_some_iff.1 k3
        obtain ⟨p', e2, -⟩ := Option.map_eq_some_iff.1 k4
        exact h.disj i i' b (by rw [e1]; simp) (by rw [e2]; simp) hii k1 k2
    | _ => exact k2
  | _ => exact k1
theorem Rel.foots (h : Rel E N σ a w G) {b : Nat} {x : Leaf} (k1 : x.foot G b) (k2 : ∃ t, σ.out x = some t) : ∃ i, x = .hd i ∧ σ.ob i ≠ none ∧ G.ft i b := by
  cases x with
  | hd i =>
    obtain ⟨t, k2⟩ := k2
    obtain ⟨p, e1, -⟩ := Option.map_eq_some_iff.1 k2
    exact ⟨i, rfl, by rw [e1]; simp, k1⟩
  | _ => exact k1.elim
theorem foot_inj (h : Rel E N σ a w G) {ys : List Leaf} (ho : ∀ x ∈ ys, ∃ t, σ.out x = some t) (h2 : ys.Pairwise two) {i j b : Nat} (hi : ∃ y, ys[i]? = some y ∧ y.foot G b) (hj : ∃ y, ys[j]? = some y ∧ y.foot G b) : i = j := by
  obtain ⟨x, x1, x2⟩ := hi
  obtain ⟨y, y1, y2⟩ := hj
  have hil := get_lt x1
  have hjl := get_lt y1
  have ex : ys[i] = x := by rw [List.getElem?_eq_getElem hil] at x1; exact Option.some.inj x1
  have ey : ys[j] = y := by rw [List.getElem?_eq_getElem hjl] at y1; exact Option.some.inj y1
  rcases Nat.lt_trichotomy i j with hij | hij | hij
  · have := (List.pairwise_iff_getElem.1 h2) i j hil hjl hij
    rw [ex, ey] at this
    exact absurd this (h.apart x2 y2 (ho _ (get_mem x1)) (ho _ (get_mem y1)))
  · exact hij
  · have := (List.pairwise_iff_getElem.1 h2) j i hjl hil hij
    rw [ex, ey] at this
    exact absurd this (h.apart y2 x2 (ho _ (get_mem y1)) (ho _ (get_mem x1)))
theorem SV.doneH {fn : Func} {rvs : List ResultVar} {ps : List (Bool × List Leaf)} {tup : Bool} {ls : List T} {qs : List (Bool × List T)} {c : Nat} {ty : TypeId} {xs : List Leaf} (hpin : E.pin = some c) (hbx : σ.bs[0]? = some (ty, xs)) (hf : fn.results = rvs.toArray) (hr : ResAll P σ rvs ps) (hx : σ.outs xs ls) (ho : σ.outss ps qs) (ht : (!(Nat.beq qs.length 1)) = tup) (h2 : (xs :: ps.map (·.2)).flatten.Pairwise two) {e : Exit} (he : e = .ret ∨ e = .normal) : SV E N σ (bodyPost P fn (GivesH E c ty ls tup qs) e) := fun a w G h => by
  obtain ⟨uss, h3, h4, h5⟩ := h.resAll hr
  obtain ⟨h6, h7⟩ := outss_get ho
  have hrun := results_run hf h4
  have hlen : (List.zipWith (fun (p : Bool × List Leaf) us => cval p.1 us) ps uss).length = qs.length := by simp [h3, h6]
  have hzip : List.zipWith (fun (p : Bool × List Leaf) us => cval p.1 us) ps uss = List.zipWith (fun (q : Bool × List T) us => cval q.1 us) qs uss := by
    apply List.ext_getElem?
    intro c
    rw [List.getElem?_zipWith, List.getElem?_zipWith]
    cases hq : qs[c]? with
    | none =>
      have : ps[c]? = none := by rw [List.getElem?_eq_none_iff] at hq ⊢; omega
      rw [this]
    | some q =>
      obtain ⟨ag, ts⟩ := q
      obtain ⟨xs, hp, -⟩ := h7 c ag ts hq
      rw [hp]
      cases uss[c]? <;> rfl
  rw [hlen, ht, hzip] at hrun
  obtain ⟨hB, us0, b1, b2, b3⟩ := h.boxes 0 _ _ hbx
  obtain ⟨hb0, hβ⟩ := h.lent.2.2 c hpin
  obtain ⟨ps', hps⟩ : ∃ ps', ps' = (false, xs) :: ps := ⟨_, rfl⟩
  have hag : ∀ (k : Nat) (ag : Bool) (ts : List T), ((false, ls) :: qs)[k]? = some (ag, ts) → ∃ ys, ps'[k]? = some (ag, ys) ∧ σ.outs ys ts := fun k ag ts hk => by
    rw [hps]
    cases k with
    | zero => cases hk; exact ⟨xs, rfl, hx⟩
    | succ k => exact h7 k ag ts (by simpa using hk)
  have hl' : ps'.length = ((false, ls) :: qs).length := by rw [hps]; simp [h6]
  have h5' : ∀ (k : Nat) (ag : Bool) (ys : List Leaf) (us : List Value), ps'[k]? = some (ag, ys) → (us0 :: uss)[k]? = some us → us.length = ys.length ∧ ∀ (j : Nat) (x : Leaf) (u : Value), ys[j]? = some x → us[j]? = some u → Holds G σ E w x u := fun k ag ys us hk hu => by
    rw [hps] at hk
    cases k with
    | zero => cases hk; cases hu; exact ⟨b2, fun j x u h1 h2 => (b3 j x u h1 h2).1⟩
    | succ k => exact h5 k ag ys us (by simpa using hk) (by simpa using hu)
  have h2' : (ps'.flatMap (·.2)).Pairwise two := by rw [hps, List.flatMap_cons]; rw [List.flatten_cons] at h2; rw [List.flatMap_def]; exact h2
  have hout : ∀ {c j : Nat} {ag : Bool} {xs : List Leaf} {x : Leaf}, ps'[c]? = some (ag, xs) → xs[j]? = some x → ∃ t, σ.out x = some t := fun {c j ag xs x} k1 k2 => by
    have hc : c < ((false, ls) :: qs).length := by rw [← hl']; exact get_lt k1
    obtain ⟨xs', k3, k4⟩ := hag c ((false, ls) :: qs)[c].1 ((false, ls) :: qs)[c].2 (by rw [List.getElem?_eq_getElem hc])
    rw [k1] at k3
    cases k3
    obtain ⟨k5, k6⟩ := outs_get k4
    have hj : j < ((false, ls) :: qs)[c].2.length := by rw [← k5]; exact get_lt k2
    obtain ⟨y, k7, k8⟩ := k6 j ((false, ls) :: qs)[c].2[j] (List.getElem?_eq_getElem hj)
    rw [k2] at k7
    cases k7
    exact ⟨_, k8⟩
  have hpost : a.defers = [] ∧ ∃ v, (results fn a.tmps).run P w = .ok v w ∧ GivesH E c ty ls tup qs (.returned v) w := by
    refine ⟨h.dfr, _, hrun, us0, uss, (fun k j b => ∃ ag xs x, ps'[k]? = some (ag, xs) ∧ xs[j]? = some x ∧ x.foot G b), by rw [← hβ]; exact b1, h3.trans h6, rfl, fun k ag ts us hq hu => ?_, ?_, ?_, h.below⟩
    · obtain ⟨xs, hp, hx⟩ := hag k ag ts hq
      obtain ⟨h8, h9⟩ := outs_get hx
      obtain ⟨h10, h11⟩ := h5' k ag xs us hp hu
      refine ⟨h10.trans h8, fun j t u hj hu' => ?_⟩
      obtain ⟨x, hx1, hx2⟩ := h9 j t hj
      exact (h.out (h11 j x u hx1 hu') hx2).mono fun b hb => ⟨ag, xs, x, hp, hx1, hb⟩
    · rintro c j c' j' b ⟨ag, xs, x, h8, h9, h10⟩ ⟨ag', xs', x', h8', h9', h10'⟩
      rw [List.pairwise_flatMap] at h2'
      have o1 := hout h8 h9
      have o2 := hout h8' h9'
      have hc1 := get_lt h8
      have hc2 := get_lt h8'
      have g1 : ps'[c] = (ag, xs) := by rw [List.getElem?_eq_getElem hc1] at h8; exact Option.some.inj h8
      have g2 : ps'[c'] = (ag', xs') := by rw [List.getElem?_eq_getElem hc2] at h8'; exact Option.some.inj h8'
      have m1 := get_mem h9
      have m2 := get_mem h9'
      rcases Nat.lt_trichotomy c c' with hcc | hcc | hcc
      · have := (List.pairwise_iff_getElem.1 h2'.2) c c' hc1 hc2 hcc x (by rw [g1]; exact m1) x' (by rw [g2]; exact m2)
        exact absurd this (h.apart h10 h10' o1 o2)
      · subst hcc
        rw [h8] at h8'
        cases h8'
        refine ⟨rfl, foot_inj h (fun y hy => ?_) (h2'.1 _ (get_mem h8)) ⟨x, h9, h10⟩ ⟨x', h9', h10'⟩⟩
        obtain ⟨q, hq⟩ := List.getElem?_of_mem hy
        exact hout h8 hq
      · have := (List.pairwise_iff_getElem.1 h2'.2) c' c hc2 hc1 hcc x' (by rw [g2]; exact m2) x (by rw [g1]; exact m1)
        exact absurd this (h.apart h10' h10 o2 o1)
    · rintro c' j b ⟨ag, xs, x, h8, h9, h10⟩
      obtain ⟨i, -, hi, hf⟩ := h.foots h10 (hout h8 h9)
      refine ⟨(h.ftlt i b hi hf).1, (h.ftlt i b hi hf).2, fun e => ?_⟩
      subst e
      rw [← hβ] at hf
      exact h.boxft 0 i hb0 hi hf
  rcases he with rfl | rfl <;> exact hpost
theorem Rel.lose (h : Rel E N σ a w G) {b : Nat} {ty : TypeId} {ys : List Leaf} {us' : List Value} {w' : World} (hb : σ.bs[b]? = some (ty, ys)) (ho : ∀ x ∈ ys, ∃ t, σ.out x = some t) (hbel : Same E w w') (hblk : ∀ k, k < w.heap.size → k ≠ G.β b → ¬ (∃ x ∈ ys, x.foot G k) → w'.heap[k]? = w.heap[k]?) (hnew : w'.heap[G.β b]? = some (.cells us'.toArray ty (0, 0)))
    (hl : us'.length = ys.length) (h1 : ∀ (j : Nat) (u : Value), us'[j]? = some u → u.oneCell' = true) : Rel E N ((σ.kills ys).setb b ty (ys.map fun _ => .dead)) a w' G := by
  have hbl := get_lt hb
  obtain ⟨σ1, hσ⟩ : ∃ σ1, σ1 = (σ.kills ys).setb b ty (ys.map fun _ => .dead) := ⟨_, rfl⟩
  have hlive : ∀ (i : Nat) (v : Nat × T), σ1.ob i = some v → σ.ob i = some v ∧ ys.any (isHd i) = false := fun i v hv => by
    have h1 : (bif ys.any (isHd i) then none else σ.ob i) = some v := by rw [hσ] at hv; exact hv
    cases hc : ys.any (isHd i) with
    | true => rw [hc] at h1; cases h1
    | false => rw [hc] at h1; exact ⟨h1, rfl⟩
  have hliv : ∀ i, σ1.ob i ≠ none → σ.ob i ≠ none := fun i hi => by
    obtain ⟨v, hv⟩ := Option.ne_none_iff_exists'.1 hi
    rw [(hlive i v hv).1]; simp
  have hfar : ∀ (i : Nat) (v : Nat × T) (k : Nat), σ1.ob i = some v → G.ft i k → k < w.heap.size ∧ k ≠ G.β b ∧ ¬ ∃ x ∈ ys, x.foot G k := fun i v k hv hk => by
    obtain ⟨e1, e2⟩ := hlive i v hv
    have hi : σ.ob i ≠ none := by rw [e1]; simp
    refine ⟨(h.ftlt i k hi hk).2, fun e => h.boxft b i hbl hi (by rw [← e]; exact hk), fun ⟨x, hx, hf⟩ => ?_⟩
    obtain ⟨j, rfl, hj, hjk⟩ := h.foots hf (ho x hx)
    by_cases hij : i = j
    · subst hij
      have : ys.any (isHd i) = true := List.any_eq_true.2 ⟨_, hx, Nat.beq_refl i⟩
      rw [e2] at this; cases this
    · exact h.disj i j k hi hj hij hk hjk
  have hbs : σ1.bs = σ.bs.set b (ty, ys.map fun _ => .dead) := by rw [hσ]; rfl
  have hbn : σ1.bs.length = σ.bs.length := by rw [hbs]; simp
  have hnx : σ1.nx = σ.nx := by rw [hσ]; rfl
  have htm : σ1.tm = σ.tm := by rw [hσ]; rfl
  have s : Step E σ σ1 w w' G G := ⟨hbel.size, fun k hk => hbel.block k hk, by rw [hnx]; exact Nat.le_refl _, by rw [hbn]; exact Nat.le_refl _, fun _ _ => rfl, fun _ _ => rfl,
    fun i v' t' hi hv => ⟨v', t', (hlive i _ hv).1, Nat.le_refl _, fun _ => ⟨rfl, fun k hk => (hfar i _ k hv hk).1, fun k hk => ⟨hk, by obtain ⟨q1, q2, q3⟩ := hfar i _ k hv hk; exact hblk k q1 q2 q3⟩⟩⟩⟩
  rw [← hσ]
  refine ⟨h.below.trans hbel, h.dfr, h.nsz, fun k => by rw [htm]; exact (h.tmps k).step fun x u hx => h.leaf s hx, fun c ty' zs hc => ?_, fun c c' q1 q2 => h.inj c c' (by rw [← hbn]; exact q1) (by rw [← hbn]; exact q2), fun c i q1 q2 => h.boxft c i (by rw [← hbn]; exact q1) (hliv i q2), fun i v t hi => ?_, fun i j k q1 q2 => h.disj i j k (hliv i q1) (hliv j q2), fun i k q1 hk => ⟨(h.ftlt i k (hliv i q1) hk).1, Nat.lt_of_lt_of_le (h.ftlt i k (hliv i q1) hk).2 hbel.size⟩, ⟨by rw [hnx]; exact h.lent.1, h.lent.2.1, fun c hc => ⟨by rw [hbn]; exact (h.lent.2.2 c hc).1, (h.lent.2.2 c hc).2⟩⟩⟩
  · rw [hbs] at hc
    by_cases hcb : b = c
    · subst hcb
      have he : (ty, ys.map fun _ => Leaf.dead) = (ty', zs) := by simpa [hbl] using hc
      injection he with e1 e2
      subst e1 e2
      obtain ⟨q1, -⟩ := h.boxes b ty ys hb
      refine ⟨q1, us', hnew, by simp [hl], fun j x u hx hu => ⟨?_, h1 j u hu⟩⟩
      rw [List.getElem?_map] at hx
      obtain ⟨_, -, rfl⟩ := Option.map_eq_some_iff.1 hx
      exact ⟨trivial, .inl rfl⟩
    · have hc' : σ.bs[c]? = some (ty', zs) := by rw [← hc]; exact (List.getElem?_set_ne hcb).symm
      obtain ⟨q1, us, q2, q3, q4⟩ := h.boxes c ty' zs hc'
      refine ⟨q1, us, (hblk _ (lt_of_block q2) (fun e => hcb (h.inj c b (get_lt hc') hbl e).symm) fun ⟨x, hx, hf⟩ => ?_).trans q2, q3, fun j x u hx hu => ⟨h.leaf s (q4 j x u hx hu).1, (q4 j x u hx hu).2⟩⟩
      obtain ⟨i, rfl, hi, hik⟩ := h.foots hf (ho x hx)
      exact h.boxft c i (get_lt hc') hi hik
  · obtain ⟨q1, q2, q3⟩ := h.objs i v t (hlive i _ hi).1
    exact ⟨by rw [hnx]; exact q1, q2.frame fun k hk => by obtain ⟨e1, e2, e3⟩ := hfar i _ k hi hk; exact hblk k e1 e2 e3, q3⟩
def VS.argH : List Leaf → List T → Prop
  | [], [] => True
  | x :: xs, t :: ts => ((∃ u, t = .lit u ∧ x = .sc u) ∨ x = .ro t) ∧ VS.argH xs ts
  | _, _ => False
theorem argH_get : ∀ {xs : List Leaf} {ts : List T}, VS.argH xs ts → xs.length = ts.length ∧ ∀ (j : Nat) (t : T), ts[j]? = some t → ∃ x, xs[j]? = some x ∧ ((∃ u, t = .lit u ∧ x = .sc u) ∨ x = .ro t)
  | [], [], _ => ⟨rfl, fun j t h => by simp at h⟩
  | x :: xs, t :: ts, h => by
    obtain ⟨h1, h2⟩ := argH_get h.2
    refine ⟨by simp [h1], fun j s hj => ?_⟩
    cases j with
    | zero => cases hj; exact ⟨x, rfl, h.1⟩
    | succ j => exact h2 j s (by simpa using hj)
def VS.argsH (σ : VS) : List Operand → List (Bool × List T) → Prop
  | [], [] => True
  | x :: xs, q :: qs => (∃ ls, σ.ev x = V.flat q.1 ls ∧ VS.argH ls q.2) ∧ σ.argsH xs qs
  | _, _ => False
theorem Rel.argsH (h : Rel E N σ a w G) {E' : Env} (hold : ∀ b, E.old b → E'.old b) : ∀ {xs : List Operand} {qs : List (Bool × List T)}, σ.argsH xs qs → ArgsIn E' w qs (xs.map a.eval)
  | [], [], _ => ⟨rfl, fun c ag ts v hc => by simp at hc⟩
  | x :: xs, q :: qs, hq => by
    obtain ⟨⟨ls, h1, h2⟩, h3⟩ := hq
    obtain ⟨h4, h5⟩ := h.argsH hold h3
    refine ⟨by simpa using h4, fun c ag ts v hc hv' => ?_⟩
    cases c with
    | zero =>
      cases hc
      cases hv'
      have h6 := h.ev x
      rw [h1, vflat] at h6
      obtain ⟨us, h7, h8, h9⟩ := h6
      obtain ⟨h10, h11⟩ := argH_get h2
      refine ⟨us, h7, h8.trans h10, fun j t u hj hu => ?_⟩
      obtain ⟨y, h12, h13⟩ := h11 j t hj
      have h14 := h9 j y u h12 hu
      rcases h13 with ⟨z, rfl, rfl⟩ | rfl
      · rcases h14.2 with h15 | h15
        · cases h15
        · have h16 : u = z := h14.1
          rw [h16] at h15 ⊢
          exact .lit h15
      · have h16 : Inn E.old w t u := h14.1
        exact h16.frame (Nat.le_refl _) fun b hb _ => ⟨hold b hb, rfl⟩
    | succ c => exact h5 c ag ts v (by simpa using hc) (by simpa using hv')
theorem ansS_bsH : ∀ (ts : List T) (σ : VS), (ansS σ ts).bs = σ.bs
  | [], σ => rfl
  | .any :: ts, σ => ansS_bsH ts σ
  | .lit v :: ts, σ => ansS_bsH ts σ
  | .seq ty es :: ts, σ => ansS_bsH ts (σ.new (.seq ty es))
theorem ansSs_bsH : ∀ (qs : List (Bool × List T)) (σ : VS), (ansSs σ qs).bs = σ.bs
  | [], σ => rfl
  | (ag, ts) :: qs, σ => (ansSs_bsH qs (ansS σ ts)).trans (ansS_bsH ts σ)
theorem ok_callH {d b : Nat} {f : FuncId} {x0 : Operand} {xs : List Operand} {ats : Array TypeId} {ty : TypeId} {ls ls' : List T} {ins rs : List (Bool × List T)} {tup : Bool} {ys L0 : List Leaf} {L : List (Bool × List Leaf)} (hk : ansLs σ.nx ((false, ls') :: rs) = (false, L0) :: L) (ho : o.op = .call { callee := .value (.func f), args := (x0 :: xs).toArray, argTypes := ats }) (hb : ∃ fn c, P.funcs[f]? = some fn ∧ fn.body = some c ∧ fn.name ≠ "runtime.NumGoroutine")
    (hc : VH P f ty ls ins ls' tup rs) (hx0 : σ.ev x0 = V.one (.bp b 0)) (hbx : σ.bs[b]? = some (ty, ys)) (hys : σ.outs ys ls) (h2 : ys.Pairwise two) (hls : ls'.length = ys.length) (hx : σ.argsH xs ins) (hd : o.dst = some d) (hdN : d < N) :
    OpOk P E N σ o (((ansSs ((σ.kills ys).setb b ty (ys.map fun _ => .dead)) ((false, ls') :: rs)).setb b ty L0).put d ⟨tup, L⟩) :=
  fun a w G K Q h k => by
    obtain ⟨fn, c, h1, hb2, h2'⟩ := hb
    have hbl := get_lt hbx
    obtain ⟨hB, us0, b1, b2, b3⟩ := h.boxes b _ _ hbx
    obtain ⟨hy1, hy2⟩ := outs_get hys
    have hout : ∀ x ∈ ys, ∃ t, σ.out x = some t := fun x hx => by
      obtain ⟨j, hj⟩ := List.getElem?_of_mem hx
      have hjl : j < ls.length := by rw [← hy1]; exact get_lt hj
      obtain ⟨y, e1, e2⟩ := hy2 j ls[j] (List.getElem?_eq_getElem hjl)
      rw [hj] at e1
      cases e1
      exact ⟨_, e2⟩
    obtain ⟨F, hF⟩ : ∃ F : Nat → Nat → Prop, F = fun j k => ∃ y, ys[j]? = some y ∧ y.foot G k := ⟨_, rfl⟩
    have hFi : ∀ j k, F j k → ∃ i, Leaf.hd i ∈ ys ∧ σ.ob i ≠ none ∧ G.ft i k := fun j k hk => by
      rw [hF] at hk
      obtain ⟨y, e1, e2⟩ := hk
      obtain ⟨i, rfl, hi, hf⟩ := h.foots e2 (hout y (get_mem e1))
      exact ⟨i, get_mem e1, hi, hf⟩
    have hcl : G.β b < w.heap.size := lt_of_block b1
    have hFl : ∀ k, (∃ j, F j k) → k < w.heap.size := fun k ⟨j, hk⟩ => by
      obtain ⟨i, -, hi, hf⟩ := hFi j k hk
      exact (h.ftlt i k hi hf).2
    have hFb : ∀ j k, F j k → k ≠ G.β b := fun j k hk e => by
      obtain ⟨i, -, hi, hf⟩ := hFi j k hk
      exact h.boxft b i hbl hi (by rw [← e]; exact hf)
    have hnot : ∀ k, E.old k → k ≠ G.β b ∧ ¬ ∃ j, F j k := fun k hk => ⟨fun e => by
      subst e
      exact hB.elim (fun h1 => by have := hk.1; omega) hk.2, fun ⟨j, hj⟩ => by
      obtain ⟨i, -, hi, hf⟩ := hFi j k hj
      exact (h.ftlt i k hi hf).1.elim (fun h1 => by have := hk.1; omega) hk.2⟩
    have hcall := hc w (G.β b) us0 F hcl hFl (xs.map a.eval) b1 (b2.trans hy1) (fun j t u hj hu => by
      obtain ⟨y, e1, e2⟩ := hy2 j t hj
      rw [hF]
      exact (h.out (b3 j y u e1 hu).1 e2).mono fun k hk => ⟨y, e1, hk⟩) (fun i j k hi hj => by rw [hF] at hi hj; exact foot_inj h hout h2 hi hj) hFb (h.argsH (E' := Env.bx w (G.β b) (fun k => ∃ j, F j k) hcl hFl) (fun k hk => ⟨Nat.lt_of_lt_of_le hk.1 h.low, fun e => Or.elim e (hnot k hk).1 (hnot k hk).2⟩) hx)
    have hx0v : a.eval x0 = .pointer (some ⟨G.β b, 0, none⟩) := by
      have := h.ev x0
      rw [hx0, vone] at this
      exact this.1.2
    have hev : (x0 :: xs).map a.eval = Value.pointer (some ⟨G.β b, 0, none⟩) :: xs.map a.eval := by rw [List.map_cons, hx0v]
    have hrun : (execOp a.eval o).run P w = .ok (.enter f ((x0 :: xs).map a.eval).toArray) w := by
      simp [execOp, ho, resolve, Act.eval, Deferred.ofValue, invoke, callFunc, h1, hb2, h2', Result.andThen]
    unfold Oper.wp
    rw [hrun, hev]
    refine hcall.mono fun e w' ⟨us', uss, F', g0, g1, g2, g3, g4, g5, g6⟩ => ?_
    subst g2
    have hsame : Same E w w' := ⟨g6.os, g6.tape, g6.output, g6.size, fun k hk => g6.block k ⟨Nat.lt_of_lt_of_le hk.1 h.low, fun e => e.elim (hnot k hk).1 (hnot k hk).2⟩⟩
    obtain ⟨g7, g8⟩ := g3 0 false ls' us' rfl rfl
    have hone : ∀ (j : Nat) (u : Value), us'[j]? = some u → u.oneCell' = true := fun j u hu => by
      have hj : j < ls'.length := by rw [← g7]; exact get_lt hu
      exact (g8 j ls'[j] u (List.getElem?_eq_getElem hj) hu).one
    have k0 := h.lose (us' := us') (w' := w') hbx hout hsame (fun k hk hkb hkF => g6.block k ⟨hk, fun e => e.elim hkb fun ⟨j, hj⟩ => by
      rw [hF] at hj
      obtain ⟨y, e1, e2⟩ := hj
      exact hkF ⟨y, get_mem e1, e2⟩⟩) g0 (g7.trans hls) hone
    obtain ⟨σ1, hσ⟩ : ∃ σ1, σ1 = (σ.kills ys).setb b ty (ys.map fun _ => .dead) := ⟨_, rfl⟩
    rw [← hσ] at k0 k
    have hlive : ∀ i, σ1.ob i ≠ none → σ.ob i ≠ none ∧ ¬ Leaf.hd i ∈ ys := fun i hi => by
      have h1 : (bif ys.any (isHd i) then none else σ.ob i) ≠ none := by rw [hσ] at hi; exact hi
      cases hc : ys.any (isHd i) with
      | true => rw [hc] at h1; exact absurd rfl h1
      | false =>
        rw [hc] at h1
        refine ⟨h1, fun hm => ?_⟩
        have : ys.any (isHd i) = true := List.any_eq_true.2 ⟨_, hm, Nat.beq_refl i⟩
        rw [hc] at this; cases this
    have hbn : σ1.bs.length = σ.bs.length := by rw [hσ]; show (σ.bs.set b _).length = _; simp
    have hnx : σ1.nx = σ.nx := by rw [hσ]; rfl
    obtain ⟨G', k1, k2, k3, k4, k5, k6, k7, k8⟩ := k0.addAlls ((false, ls') :: rs) (us' :: uss) F' (by simp [g1]) g3 (fun q j k hk => by
      obtain ⟨e1, e2, e3⟩ := g5 q j k hk
      rcases e1 with e1 | e1 | ⟨j', hj'⟩
      · have e1' : w.heap.size ≤ k := e1
        exact ⟨⟨fun i hi hf => (h.fresh e1').1 i (hlive i hi).1 hf, fun c' hc' => (h.fresh e1').2 c' (by rw [← hbn]; exact hc')⟩, .inl (Nat.le_trans h.low e1'), e2⟩
      · exact absurd e1 e3
      · obtain ⟨i, hm, hi, hf⟩ := hFi j' k hj'
        refine ⟨⟨fun i' hi' hf' => ?_, fun c' hc' e => ?_⟩, (h.ftlt i k hi hf).1, e2⟩
        · obtain ⟨q1, q2⟩ := hlive i' hi'
          by_cases hii : i' = i
          · subst hii; exact q2 hm
          · exact h.disj i' i k q1 hi hii hf' hf
        · exact h.boxft c' i (by rw [← hbn]; exact hc') hi (by rw [e]; exact hf)) g4
    rw [hnx, hk] at k3 k4
    have k3' : L.length = rs.length := by simpa using k3
    obtain ⟨m1, -, m3⟩ := k4 0 false L0 us' rfl rfl
    have hbs1 : (ansSs σ1 ((false, ls') :: rs)).bs[b]? = some (ty, ys.map fun _ => .dead) := by
      rw [ansSs_bsH, hσ]
      show (σ.bs.set b _)[b]? = _
      rw [List.getElem?_set_self hbl]
    have r1 := k1.setbox (xs' := L0) (us' := us') (w' := w') hbs1 (Same.refl _ _) (fun _ _ => rfl) (by rw [k7]; exact g0) m1 fun j x u hx hu => ⟨m3 j x u hx hu, hone j u hu⟩
    rw [hd]
    have hup : ∀ x u, Holds G' (ansSs σ1 ((false, ls') :: rs)) E w' x u → Holds G' ((ansSs σ1 ((false, ls') :: rs)).setb b ty L0) E w' x u := fun x u hx => by
      refine ⟨?_, hx.2⟩
      have hx1 := hx.1
      cases x with
      | bp b' o' => exact ⟨by show b' < ((ansSs σ1 ((false, ls') :: rs)).bs.set b (ty, L0)).length; rw [List.length_set]; exact hx1.1, hx1.2⟩
      | _ => exact hx1
    refine k _ _ _ (r1.put hdN ⟨uss, g1.trans k3'.symm, ?_, fun q ag zs us hq hu => ?_⟩)
    · congr 1
      apply List.ext_getElem?
      intro q
      rw [List.getElem?_zipWith, List.getElem?_zipWith]
      cases hq : L[q]? with
      | none =>
        have : rs[q]? = none := by rw [List.getElem?_eq_none_iff] at hq ⊢; omega
        rw [this]
      | some p =>
        obtain ⟨ag, xs'⟩ := p
        have hcl : q < uss.length := by have := get_lt hq; omega
        obtain ⟨-, ⟨ts, hts⟩, -⟩ := k4 (q + 1) ag xs' uss[q] (by simpa using hq) (by simp [hcl])
        have hts' : rs[q]? = some (ag, ts) := by simpa using hts
        rw [hts', List.getElem?_eq_getElem hcl]
    · obtain ⟨e1, -, e3⟩ := k4 (q + 1) ag zs us (by simpa using hq) (by simpa using hu)
      exact ⟨e1, fun j x u hj hu' => hup x u (e3 j x u hj hu')⟩
theorem ok_nilcheckB {nb : Nat} {x : Operand} {b q : Nat} (ho : o.op = .nilCheck x) (hx : σ.ev x = V.one (.bp b q)) : OpL P E N nb σ o (V.one (.bp b q)) :=
  fun a w G h => ⟨a.eval x, fun v' _ => by
    have h0 := h.ev x
    rw [hx, vone] at h0
    obtain ⟨⟨-, h1⟩, -⟩ := h0
    simp [execOp, ho, h1], by rw [← hx]; exact h.ev x⟩
end Go.Proofs.Ytpnbnbhifpcelaa.V
/- The program's selection: rows read and written, a run's end: told by trees. -/
namespace Go.Proofs.Ytpnbnbhifpcelaa
open Go Go.RowKit V
set_option linter.unusedVariables false
set_option maxRecDepth 100000 in
set_option maxHeartbeats 2000000 in
theorem vroom_i (X Y Z : List R) (r : R) (m : Int) (hX : ∀ q ∈ X, q.wf) (hY : ∀ q ∈ Y, q.wf) (hxl : X.length ≤ 24) (hyl : Y.length ≤ 24) (hr : r.wf) : VH Try.prog 92 95 [.seq 72 ((X).map tRow), .seq 72 ((Y).map tRow), .seq 72 ((Z).map tRow)] [(true, tRow r), (false, [.lit (.int .i64 (m))])] [.seq 72 ((X).map tRow), .seq 72 ((Y).map tRow), .seq 72 ((Z).map tRow)] false [(false, [.lit (.bool (decide (total X + total Y + r.cost ≤ m)))])] := by
  refine VH.enter Try.func92 rfl Try.ntmps92 (gle rfl) fun E c hE hpin => ?_
  have t1 := total_range X
  have t2 := total_range Y
  have t3 := R.cost_range r
  refine SV.seq' ?_
  refine SV.region ?_
  refine SV.op (OpMk.ok (ok_box (kk := 1) (ag := true) (xs := [.sc _, .sc _, .sc _]) rfl rfl rfl (fun h => by cases h) rfl rfl (gle rfl))) rfl ?_
  refine SV.op (OpL.ok (nb := 2) (ok_move (v := V.one (.sc _)) (.inr rfl) rfl) rfl (gle rfl)) rfl ?_
  refine SV.nil ?_
  refine SV.tn ?_
  refine SV.seq' ?_
  refine SV.draw [.q 0, .q 1, .q 2, .q 3, .q 5, .q 6, .q 7, .q 8, .q 11, .q 14, .m 4, .m 9, .q 10, .m 12, .q 13, .q 15, .q 16] [] (by kernel_rfl) (by kernel_rfl) ?_
  refine DW.q rfl (ok_move (v := V.one (.bp 0 0)) (.inl rfl) rfl) rfl rfl (gle rfl) (fun _ _ _ _ h => h) ?_
  refine DW.q rfl (ok_nilcheckB rfl rfl) rfl rfl (gle rfl) (fun _ _ _ _ h => h) ?_
  refine DW.q rfl (ok_field_bp (b := 0) (o' := 0) (off := 0) rfl rfl fld_impl_selection_0) rfl rfl (gle rfl) (fun _ _ _ _ h => h) ?_
  refine DW.q rfl (ok_load_bp (b := 0) (i := 0) (ag := false) (m := 1) (ys := [.hd 0]) rfl rfl rfl agg_s_impl_Row sz_s_impl_Row (fun _ => rfl) rfl rfl (gle rfl)) rfl rfl (gle rfl) (fun _ _ _ _ h => h) ?_
  refine DW.q rfl (ok_move (v := V.one (.bp 0 0)) (.inl rfl) rfl) rfl rfl (gle rfl) (fun _ _ _ _ h => h) ?_
  refine DW.q rfl (ok_nilcheckB rfl rfl) rfl rfl (gle rfl) (fun _ _ _ _ h => h) ?_
  refine DW.q rfl (ok_field_bp (b := 0) (o' := 0) (off := 1) rfl rfl fld_impl_selection_1) rfl rfl (gle rfl) (fun _ _ _ _ h => h) ?_
  refine DW.q rfl (ok_load_bp (b := 0) (i := 1) (ag := false) (m := 1) (ys := [.hd 1]) rfl rfl rfl agg_s_impl_Row sz_s_impl_Row (fun _ => rfl) rfl rfl (gle rfl)) rfl rfl (gle rfl) (fun _ _ _ _ h => h) ?_
  refine DW.q rfl (ok_load_bp (b := 1) (i := 0) (ag := true) (m := 3) (ys := [.sc _, .sc _, .sc _]) rfl rfl rfl agg_impl_Row sz_impl_Row (fun h => by cases h) rfl rfl (gle rfl)) rfl rfl (gle rfl) (fun _ _ _ _ h => h) ?_
  refine DW.q rfl (ok_move (v := V.one (.sc _)) (.inl rfl) rfl) rfl rfl (gle rfl) (fun _ _ _ _ h => h) ?_
  refine DW.m [] rfl (ok_call (ls := [(false, [.sc _])]) rfl rfl ⟨_, _, Try.func69, rfl, by decide⟩ (vtotal_i X hX (by omega)) ⟨⟨[.hd 0], rfl, ⟨rfl, trivial⟩⟩, trivial⟩ rfl (gle rfl)) rfl (gle rfl) (gle rfl) (.inl rfl) (fun j hj => by cases hj) ?_
  refine DW.m [] rfl (ok_call (ls := [(false, [.sc _])]) rfl rfl ⟨_, _, Try.func69, rfl, by decide⟩ (vtotal_i Y hY (by omega)) ⟨⟨[.hd 1], rfl, ⟨rfl, trivial⟩⟩, trivial⟩ rfl (gle rfl)) rfl (gle rfl) (gle rfl) (.inl rfl) (fun j hj => by cases hj) ?_
  refine DW.q rfl (ok_s2 (v := .int .i64 (total X + total Y)) (x := .tmp 11) (x' := .tmp 16) (VScal.one rfl) (VScal.one rfl) (fun ρ h1 h2 w => by go_simp; rw [IntWalk.i64_left, IntWalk.wrap64_in _ ⟨by omega, by omega⟩] <;> first | rfl | omega | (congr 1; omega)) rfl) rfl rfl (gle rfl) (fun _ _ _ _ h => h) ?_
  refine DW.m [] rfl (ok_call (ls := [(false, [.sc _])]) rfl rfl ⟨_, _, Try.func112, rfl, by decide⟩ (vcost_i r hr) ⟨⟨[.sc _, .sc _, .sc _], rfl, ⟨rfl, rfl, rfl, trivial⟩⟩, trivial⟩ rfl (gle rfl)) rfl (gle rfl) (gle rfl) (.inl rfl) (fun j hj => by cases hj) ?_
  refine DW.q rfl (ok_s2 (v := .int .i64 (total X + total Y + r.cost)) (x := .tmp 17) (x' := .tmp 19) (VScal.one rfl) (VScal.one rfl) (fun ρ h1 h2 w => by go_simp; rw [IntWalk.i64_left, IntWalk.wrap64_in _ ⟨by omega, by omega⟩] <;> first | rfl | omega | (congr 1; omega)) rfl) rfl rfl (gle rfl) (fun _ _ _ _ h => h) ?_
  refine DW.q rfl (ok_s2 (x := .tmp 20) (x' := .tmp 21) (VScal.one rfl) (VScal.one rfl) (fun ρ h1 h2 w => by go_simp; (try go_bits); with_reducible rfl) rfl) rfl rfl (gle rfl) (fun _ _ _ _ h => h) ?_
  refine DW.q rfl (ok_move (v := V.one (.sc _)) (.inr rfl) rfl) rfl rfl (gle rfl) (fun _ _ _ _ h => h) ?_
  refine DW.stores ?_
  refine SV.zend ?_
  refine SV.tn ?_
  refine SV.ret ?_
  apply SV.doneH (hpin := hpin) (hbx := rfl) (hf := Try.results92) (ht := rfl) (he := .inl rfl)
  case hr => exact (ResAll.cons (ResOk.tmp (ag := false) (xs := [.sc _]) rfl) ResAll.nil')
  case h2 => simp [two, ansL]
  case hx => refine ⟨?_, ?_, ?_, trivial⟩ <;> rfl
  refine ⟨rfl, ⟨?_, trivial⟩, trivial⟩ <;> rfl
theorem Runs_later_nil {Z : List R} {r : R} (h : Z.length = 0) : Runs.later Z r = false := later_nil h
set_option maxRecDepth 100000 in
set_option maxHeartbeats 2000000 in
theorem vread_i (X Y Z : List R) (r : R) (hxl : X.length ≤ 24) (hyl : Y.length ≤ 24) (hzl : Z.length ≤ 24) : VH Try.prog 93 95 [.seq 72 ((X).map tRow), .seq 72 ((Y).map tRow), .seq 72 ((Z).map tRow)] [(true, tRow r)] [.seq 72 ((if Runs.later Z r = true then X else X ++ [r]).map tRow), .seq 72 ((if Runs.later Z r = true then Y ++ [r] else Y).map tRow), .seq 72 ((Z).map tRow)] true [] := by
  refine VH.enter Try.func93 rfl Try.ntmps93 (gle rfl) fun E c hE hpin => ?_
  refine SV.seq' ?_
  refine SV.region ?_
  refine SV.op (OpMk.ok (ok_box (kk := 1) (ag := true) (xs := [.sc _, .sc _, .sc _]) rfl rfl rfl (fun h => by cases h) rfl rfl (gle rfl))) rfl ?_
  refine SV.nil ?_
  refine SV.tn ?_
  refine SV.seq' ?_
  refine SV.draw [.q 0, .q 1, .q 2, .q 3, .q 4, .q 5, .q 6, .q 7, .q 8, .q 9, .q 10, .q 11, .q 12, .q 13, .q 14, .q 15, .q 16, .q 17, .q 18, .q 19, .m 20, .q 21, .q 22] [] (by kernel_rfl) (by kernel_rfl) ?_
  refine DW.q rfl (ok_move (v := V.one (.bp 0 0)) (.inl rfl) rfl) rfl rfl (gle rfl) (fun _ _ _ _ h => h) ?_
  refine DW.q rfl (ok_nilcheckB rfl rfl) rfl rfl (gle rfl) (fun _ _ _ _ h => h) ?_
  refine DW.q rfl (ok_field_bp (b := 0) (o' := 0) (off := 2) rfl rfl fld_impl_selection_2) rfl rfl (gle rfl) (fun _ _ _ _ h => h) ?_
  refine DW.q rfl (ok_load_bp (b := 0) (i := 2) (ag := false) (m := 1) (ys := [.hd 2]) rfl rfl rfl agg_s_impl_Row sz_s_impl_Row (fun _ => rfl) rfl rfl (gle rfl)) rfl rfl (gle rfl) (fun _ _ _ _ h => h) ?_
  refine DW.q rfl (ok_len (lf := .hd 2) rfl elt_impl_Row.und rfl rfl) rfl rfl (gle rfl) (fun _ _ _ _ h => h) ?_
  refine DW.q rfl (ok_s2 (x := .tmp 8) (x' := .const ((Value.int IntKind.i64 0))) (VScal.one rfl) (VScal.one rfl) (fun ρ h1 h2 w => by go_simp; (try go_bits); with_reducible rfl) rfl) rfl rfl (gle rfl) (fun _ _ _ _ h => h) ?_
  refine DW.q rfl (ok_move (v := V.one (.sc _)) (.inl rfl) rfl) rfl rfl (gle rfl) (fun _ _ _ _ h => h) ?_
  refine DW.split (d := 10) rfl (fun hg0 => ?_) (fun hg0 => ?_)
  · skip   -- g0.T
    have hcl : 0 < Z.length := by rcases Nat.eq_zero_or_pos Z.length with h | h; (exfalso; simp [h] at hg0); (exact h)
    obtain ⟨d, hdd⟩ : ∃ d, Z[Z.length - 1]? = some d := ⟨_, List.getElem?_eq_getElem (by omega)⟩
    refine DW.qY rfl (ok_load_bp (b := 1) (i := 0) (ag := true) (m := 3) (ys := [.sc _, .sc _, .sc _]) rfl rfl rfl agg_impl_Row sz_impl_Row (fun h => by cases h) rfl rfl (gle rfl)) rfl rfl rfl (gle rfl) rfl rfl rfl (gle rfl) (fun _ _ _ _ h => h) ?_
    refine DW.qY rfl (ok_move (v := V.one (.bp 0 0)) (.inl rfl) rfl) rfl rfl rfl (gle rfl) rfl rfl rfl (gle rfl) (fun _ _ _ _ h => h) ?_
    refine DW.qY rfl (ok_nilcheckB rfl rfl) rfl rfl rfl (gle rfl) rfl rfl rfl (gle rfl) (fun _ _ _ _ h => h) ?_
    refine DW.qY rfl (ok_field_bp (b := 0) (o' := 0) (off := 2) rfl rfl fld_impl_selection_2) rfl rfl rfl (gle rfl) rfl rfl rfl (gle rfl) (fun _ _ _ _ h => h) ?_
    refine DW.qY rfl (ok_load_bp (b := 0) (i := 2) (ag := false) (m := 1) (ys := [.hd 2]) rfl rfl rfl agg_s_impl_Row sz_s_impl_Row (fun _ => rfl) rfl rfl (gle rfl)) rfl rfl rfl (gle rfl) rfl rfl rfl (gle rfl) (fun _ _ _ _ h => h) ?_
    refine DW.qY rfl (ok_move (v := V.one (.bp 0 0)) (.inl rfl) rfl) rfl rfl rfl (gle rfl) rfl rfl rfl (gle rfl) (fun _ _ _ _ h => h) ?_
    refine DW.qY rfl (ok_nilcheckB rfl rfl) rfl rfl rfl (gle rfl) rfl rfl rfl (gle rfl) (fun _ _ _ _ h => h) ?_
    refine DW.qY rfl (ok_field_bp (b := 0) (o' := 0) (off := 2) rfl rfl fld_impl_selection_2) rfl rfl rfl (gle rfl) rfl rfl rfl (gle rfl) (fun _ _ _ _ h => h) ?_
    refine DW.qY rfl (ok_load_bp (b := 0) (i := 2) (ag := false) (m := 1) (ys := [.hd 2]) rfl rfl rfl agg_s_impl_Row sz_s_impl_Row (fun _ => rfl) rfl rfl (gle rfl)) rfl rfl rfl (gle rfl) rfl rfl rfl (gle rfl) (fun _ _ _ _ h => h) ?_
    refine DW.qY rfl (ok_len (lf := .hd 2) rfl elt_impl_Row.und rfl rfl) rfl rfl rfl (gle rfl) rfl rfl rfl (gle rfl) (fun _ _ _ _ h => h) ?_
    refine DW.qY rfl (ok_s2 (v := .int .i64 ((Z.length - 1 : Nat) : Int)) (x := .tmp 20) (x' := .const ((Value.int IntKind.i64 1))) (VScal.one rfl) (VScal.one rfl) (fun ρ h1 h2 w => by go_simp; (try simp only [List.length_map]); first | (rw [IntWalk.i64_left, IntWalk.wrap64_in _ ⟨by omega, by omega⟩]; first | rfl | omega | (congr 1; omega)) | (congr 1; omega)) rfl) rfl rfl rfl (gle rfl) rfl rfl rfl (gle rfl) (fun _ _ _ _ h => h) ?_
    refine DW.qY rfl (ok_index (n := 3) (lf := .hd 2) rfl elt_impl_Row.und sz_impl_Row rfl rfl rfl (map_at hdd)) rfl rfl rfl (gle rfl) rfl rfl rfl (gle rfl) (fun _ _ _ _ h => h) ?_
    refine DW.el' (ag := true) (m := 3) (ys := [.sc _, .sc _, .sc _]) rfl rfl rfl (cells_ep rfl (map_at hdd) rfl rfl) agg_impl_Row sz_impl_Row (fun h => by cases h) (gle rfl) rfl (fun hr => wantedY hr rfl rfl rfl (gle rfl) rfl rfl) rfl (gle rfl) (fun _ _ _ _ h => h) ?_
    refine DW.m' [] rfl (ok_call (ls := [(false, [.sc _])]) rfl rfl ⟨_, _, Try.func109, rfl, by decide⟩ (vcmp_i r d) ⟨⟨[.sc _, .sc _, .sc _], rfl, ⟨rfl, rfl, rfl, trivial⟩⟩, ⟨[.sc _, .sc _, .sc _], rfl, ⟨rfl, rfl, rfl, trivial⟩⟩, trivial⟩ rfl (gle rfl)) (fun hr => wantedY hr rfl rfl rfl (gle rfl) rfl rfl) (gle rfl) (gle rfl) (.inl rfl) (fun j hj => by cases hj) ?_
    refine DW.qY rfl (ok_s2 (x := .tmp 24) (x' := .const ((Value.int IntKind.i64 0))) (VScal.one rfl) (VScal.one rfl) (fun ρ h1 h2 w => by go_simp; (try go_bits); with_reducible rfl) rfl) rfl rfl rfl (gle rfl) rfl rfl rfl (gle rfl) (fun _ _ _ _ h => h) ?_
    refine DW.q rfl (ok_pickT (v := V.one (.sc _)) rfl rfl rfl) rfl rfl (gle rfl) (fun _ _ _ _ h => h) ?_
    refine DW.stores ?_
    refine SV.zend ?_
    refine SV.tn ?_
    refine SV.cond rfl (fun hc0 => ?_) (fun hc0 => ?_)
    · skip   -- c0.T
      have hlt : Runs.later Z r = true := by rw [later_at hdd]; simpa using hc0
      refine SV.draw [.q 0, .q 1, .q 2, .q 3, .q 4, .q 5, .m 6, .m 7, .q 8, .q 9] [10] (by kernel_rfl) (by kernel_rfl) ?_
      refine DW.q rfl (ok_move (v := V.one (.bp 0 0)) (.inl rfl) rfl) rfl rfl (gle rfl) (fun _ _ _ _ h => h) ?_
      refine DW.q rfl (ok_move (v := V.one (.bp 0 0)) (.inl rfl) rfl) rfl rfl (gle rfl) (fun _ _ _ _ h => h) ?_
      refine DW.q rfl (ok_nilcheckB rfl rfl) rfl rfl (gle rfl) (fun _ _ _ _ h => h) ?_
      refine DW.q rfl (ok_field_bp (b := 0) (o' := 0) (off := 1) rfl rfl fld_impl_selection_1) rfl rfl (gle rfl) (fun _ _ _ _ h => h) ?_
      refine DW.q rfl (ok_load_bp (b := 0) (i := 1) (ag := false) (m := 1) (ys := [.hd 1]) rfl rfl rfl agg_s_impl_Row sz_s_impl_Row (fun _ => rfl) rfl rfl (gle rfl)) rfl rfl (gle rfl) (fun _ _ _ _ h => h) ?_
      refine DW.q rfl (ok_load_bp (b := 1) (i := 0) (ag := true) (m := 3) (ys := [.sc _, .sc _, .sc _]) rfl rfl rfl agg_impl_Row sz_impl_Row (fun h => by cases h) rfl rfl (gle rfl)) rfl rfl (gle rfl) (fun _ _ _ _ h => h) ?_
      refine DW.m [3] rfl (ok_lit1 (kk := 3) elt_impl_Row (ag := true) (xs := [.sc _, .sc _, .sc _]) rfl rfl rfl rfl (fun h => by cases h) (outs_c rfl (outs_c rfl (outs_c rfl outs_n))) (by simp [two]) rfl (gle rfl)) rfl (gle rfl) (gle rfl) (.inl rfl) (fun j hj => by
          simp only [List.mem_cons, List.not_mem_nil, or_false] at hj
          rcases hj with rfl
          · exact .inr ⟨(gle rfl), (gle rfl), .inl rfl⟩) ?_
      refine DW.m [3] rfl (ok_append (kk := 4) elt_impl_Row (ls := .hd 1) (lx := .hd 3) rfl rfl rfl rfl rfl rfl (by intro i h1 h2; first | (cases h1; done) | (cases h1; cases h2)) (by first | omega | (simp only [List.length_map]; omega) | (simp; done) | (simp; omega)) rfl (gle rfl)) rfl (gle rfl) (gle rfl) (.inr ⟨1, rfl, .inr ⟨(gle rfl), rfl⟩⟩) (fun j hj => by
          simp only [List.mem_cons, List.not_mem_nil, or_false] at hj
          rcases hj with rfl
          · exact .inl (by decide)) ?_
      refine DW.q rfl (ok_nilcheckB rfl rfl) rfl rfl (gle rfl) (fun _ _ _ _ h => h) ?_
      refine DW.q rfl (ok_field_bp (b := 0) (o' := 0) (off := 1) rfl rfl fld_impl_selection_1) rfl rfl (gle rfl) (fun _ _ _ _ h => h) ?_
      refine DW.stores ?_
      refine SV.z rfl (ok_store_bp (b := 0) (i := 1) (m := 1) (ag := false) (zs := [.hd 4]) (ys := [.hd 0, .hd 4, .hd 2]) rfl rfl rfl rfl sz_s_impl_Row (fun _ => rfl) rfl (gle rfl) rfl rfl rfl) rfl ?_
      refine SV.zend ?_
      apply SV.doneH (hpin := hpin) (hbx := rfl) (hf := Try.results93) (ht := rfl) (he := .inr rfl)
      case hr => exact ResAll.nil'
      case h2 => simp [two, ansL]
      case hx => refine ⟨?_, ?_, ?_, trivial⟩ <;> (show some (T.seq _ _) = some (T.seq _ _); refine congrArg (fun z => some (T.seq _ z)) ?_; first | done | rfl | (rw [hlt]; first | done | rfl | (simp [tRow]; done)) | (simp [hlt, tRow]; done))
      exact trivial
    · skip   -- c0.F
      have hlt : Runs.later Z r = false := by rw [later_at hdd]; simpa using hc0
      refine SV.draw [.q 0, .q 1, .q 2, .q 3, .q 4, .q 5, .m 6, .m 7, .q 8, .q 9] [10] (by kernel_rfl) (by kernel_rfl) ?_
      refine DW.q rfl (ok_move (v := V.one (.bp 0 0)) (.inl rfl) rfl) rfl rfl (gle rfl) (fun _ _ _ _ h => h) ?_
      refine DW.q rfl (ok_move (v := V.one (.bp 0 0)) (.inl rfl) rfl) rfl rfl (gle rfl) (fun _ _ _ _ h => h) ?_
      refine DW.q rfl (ok_nilcheckB rfl rfl) rfl rfl (gle rfl) (fun _ _ _ _ h => h) ?_
      refine DW.q rfl (ok_field_bp (b := 0) (o' := 0) (off := 0) rfl rfl fld_impl_selection_0) rfl rfl (gle rfl) (fun _ _ _ _ h => h) ?_
      refine DW.q rfl (ok_load_bp (b := 0) (i := 0) (ag := false) (m := 1) (ys := [.hd 0]) rfl rfl rfl agg_s_impl_Row sz_s_impl_Row (fun _ => rfl) rfl rfl (gle rfl)) rfl rfl (gle rfl) (fun _ _ _ _ h => h) ?_
      refine DW.q rfl (ok_load_bp (b := 1) (i := 0) (ag := true) (m := 3) (ys := [.sc _, .sc _, .sc _]) rfl rfl rfl agg_impl_Row sz_impl_Row (fun h => by cases h) rfl rfl (gle rfl)) rfl rfl (gle rfl) (fun _ _ _ _ h => h) ?_
      refine DW.m [3] rfl (ok_lit1 (kk := 3) elt_impl_Row (ag := true) (xs := [.sc _, .sc _, .sc _]) rfl rfl rfl rfl (fun h => by cases h) (outs_c rfl (outs_c rfl (outs_c rfl outs_n))) (by simp [two]) rfl (gle rfl)) rfl (gle rfl) (gle rfl) (.inl rfl) (fun j hj => by
          simp only [List.mem_cons, List.not_mem_nil, or_false] at hj
          rcases hj with rfl
          · exact .inr ⟨(gle rfl), (gle rfl), .inl rfl⟩) ?_
      refine DW.m [3] rfl (ok_append (kk := 4) elt_impl_Row (ls := .hd 0) (lx := .hd 3) rfl rfl rfl rfl rfl rfl (by intro i h1 h2; first | (cases h1; done) | (cases h1; cases h2)) (by first | omega | (simp only [List.length_map]; omega) | (simp; done) | (simp; omega)) rfl (gle rfl)) rfl (gle rfl) (gle rfl) (.inr ⟨0, rfl, .inr ⟨(gle rfl), rfl⟩⟩) (fun j hj => by
          simp only [List.mem_cons, List.not_mem_nil, or_false] at hj
          rcases hj with rfl
          · exact .inl (by decide)) ?_
      refine DW.q rfl (ok_nilcheckB rfl rfl) rfl rfl (gle rfl) (fun _ _ _ _ h => h) ?_
      refine DW.q rfl (ok_field_bp (b := 0) (o' := 0) (off := 0) rfl rfl fld_impl_selection_0) rfl rfl (gle rfl) (fun _ _ _ _ h => h) ?_
      refine DW.stores ?_
      refine SV.z rfl (ok_store_bp (b := 0) (i := 0) (m := 1) (ag := false) (zs := [.hd 4]) (ys := [.hd 4, .hd 1, .hd 2]) rfl rfl rfl rfl sz_s_impl_Row (fun _ => rfl) rfl (gle rfl) rfl rfl rfl) rfl ?_
      refine SV.zend ?_
      apply SV.doneH (hpin := hpin) (hbx := rfl) (hf := Try.results93) (ht := rfl) (he := .inr rfl)
      case hr => exact ResAll.nil'
      case h2 => simp [two, ansL]
      case hx => refine ⟨?_, ?_, ?_, trivial⟩ <;> (show some (T.seq _ _) = some (T.seq _ _); refine congrArg (fun z => some (T.seq _ z)) ?_; first | done | rfl | (rw [hlt]; first | done | rfl | (simp [tRow]; done)) | (simp [hlt, tRow]; done))
      exact trivial
  · skip   -- g0.F
    have hlt : Runs.later Z r = false := Runs_later_nil (by first | (simpa using hg0) | (simp at hg0; omega) | (simp at hg0; rw [hg0]; rfl))
    refine DW.qN (V' := V.one .dead) rfl rfl rfl rfl (gle rfl) rfl rfl rfl (gle rfl) (fun _ _ _ _ h => h) ?_
    refine DW.qN (V' := V.one .dead) rfl rfl rfl rfl (gle rfl) rfl rfl rfl (gle rfl) (fun _ _ _ _ h => h) ?_
    refine DW.qN (V' := V.one .dead) rfl rfl rfl rfl (gle rfl) rfl rfl rfl (gle rfl) (fun _ _ _ _ h => h) ?_
    refine DW.qN (V' := V.one .dead) rfl rfl rfl rfl (gle rfl) rfl rfl rfl (gle rfl) (fun _ _ _ _ h => h) ?_
    refine DW.qN (V' := V.one .dead) rfl rfl rfl rfl (gle rfl) rfl rfl rfl (gle rfl) (fun _ _ _ _ h => h) ?_
    refine DW.qN (V' := V.one .dead) rfl rfl rfl rfl (gle rfl) rfl rfl rfl (gle rfl) (fun _ _ _ _ h => h) ?_
    refine DW.qN (V' := V.one .dead) rfl rfl rfl rfl (gle rfl) rfl rfl rfl (gle rfl) (fun _ _ _ _ h => h) ?_
    refine DW.qN (V' := V.one .dead) rfl rfl rfl rfl (gle rfl) rfl rfl rfl (gle rfl) (fun _ _ _ _ h => h) ?_
    refine DW.qN (V' := V.one .dead) rfl rfl rfl rfl (gle rfl) rfl rfl rfl (gle rfl) (fun _ _ _ _ h => h) ?_
    refine DW.qN (V' := V.one .dead) rfl rfl rfl rfl (gle rfl) rfl rfl rfl (gle rfl) (fun _ _ _ _ h => h) ?_
    refine DW.qN (V' := V.one .dead) rfl rfl rfl rfl (gle rfl) rfl rfl rfl (gle rfl) (fun _ _ _ _ h => h) ?_
    refine DW.qN (V' := V.one .dead) rfl rfl rfl rfl (gle rfl) rfl rfl rfl (gle rfl) (fun _ _ _ _ h => h) ?_
    refine DW.qN (V' := V.one .dead) rfl rfl rfl rfl (gle rfl) rfl rfl rfl (gle rfl) (fun _ _ _ _ h => h) ?_
    refine DW.mN rfl rfl rfl rfl (gle rfl) rfl rfl rfl (gle rfl) ?_
    refine DW.qN (V' := V.one .dead) rfl rfl rfl rfl (gle rfl) rfl rfl rfl (gle rfl) (fun _ _ _ _ h => h) ?_
    refine DW.q rfl (ok_pickF (v := V.one (.sc _)) rfl rfl rfl) rfl rfl (gle rfl) (fun _ _ _ _ h => h) ?_
    refine DW.stores ?_
    refine SV.zend ?_
    refine SV.tn ?_
    refine SV.cond rfl (fun hc1 => ?_) (fun hc1 => ?_)
    · skip   -- c1.T
      cases hc1
    · skip   -- c1.F
      refine SV.draw [.q 0, .q 1, .q 2, .q 3, .q 4, .q 5, .m 6, .m 7, .q 8, .q 9] [10] (by kernel_rfl) (by kernel_rfl) ?_
      refine DW.q rfl (ok_move (v := V.one (.bp 0 0)) (.inl rfl) rfl) rfl rfl (gle rfl) (fun _ _ _ _ h => h) ?_
      refine DW.q rfl (ok_move (v := V.one (.bp 0 0)) (.inl rfl) rfl) rfl rfl (gle rfl) (fun _ _ _ _ h => h) ?_
      refine DW.q rfl (ok_nilcheckB rfl rfl) rfl rfl (gle rfl) (fun _ _ _ _ h => h) ?_
      refine DW.q rfl (ok_field_bp (b := 0) (o' := 0) (off := 0) rfl rfl fld_impl_selection_0) rfl rfl (gle rfl) (fun _ _ _ _ h => h) ?_
      refine DW.q rfl (ok_load_bp (b := 0) (i := 0) (ag := false) (m := 1) (ys := [.hd 0]) rfl rfl rfl agg_s_impl_Row sz_s_impl_Row (fun _ => rfl) rfl rfl (gle rfl)) rfl rfl (gle rfl) (fun _ _ _ _ h => h) ?_
      refine DW.q rfl (ok_load_bp (b := 1) (i := 0) (ag := true) (m := 3) (ys := [.sc _, .sc _, .sc _]) rfl rfl rfl agg_impl_Row sz_impl_Row (fun h => by cases h) rfl rfl (gle rfl)) rfl rfl (gle rfl) (fun _ _ _ _ h => h) ?_
      refine DW.m [3] rfl (ok_lit1 (kk := 3) elt_impl_Row (ag := true) (xs := [.sc _, .sc _, .sc _]) rfl rfl rfl rfl (fun h => by cases h) (outs_c rfl (outs_c rfl (outs_c rfl outs_n))) (by simp [two]) rfl (gle rfl)) rfl (gle rfl) (gle rfl) (.inl rfl) (fun j hj => by
          simp only [List.mem_cons, List.not_mem_nil, or_false] at hj
          rcases hj with rfl
          · exact .inr ⟨(gle rfl), (gle rfl), .inl rfl⟩) ?_
      refine DW.m [3] rfl (ok_append (kk := 4) elt_impl_Row (ls := .hd 0) (lx := .hd 3) rfl rfl rfl rfl rfl rfl (by intro i h1 h2; first | (cases h1; done) | (cases h1; cases h2)) (by first | omega | (simp only [List.length_map]; omega) | (simp; done) | (simp; omega)) rfl (gle rfl)) rfl (gle rfl) (gle rfl) (.inr ⟨0, rfl, .inr ⟨(gle rfl), rfl⟩⟩) (fun j hj => by
          simp only [List.mem_cons, List.not_mem_nil, or_false] at hj
          rcases hj with rfl
          · exact .inl (by decide)) ?_
      refine DW.q rfl (ok_nilcheckB rfl rfl) rfl rfl (gle rfl) (fun _ _ _ _ h => h) ?_
      refine DW.q rfl (ok_field_bp (b := 0) (o' := 0) (off := 0) rfl rfl fld_impl_selection_0) rfl rfl (gle rfl) (fun _ _ _ _ h => h) ?_
      refine DW.stores ?_
      refine SV.z rfl (ok_store_bp (b := 0) (i := 0) (m := 1) (ag := false) (zs := [.hd 4]) (ys := [.hd 4, .hd 1, .hd 2]) rfl rfl rfl rfl sz_s_impl_Row (fun _ => rfl) rfl (gle rfl) rfl rfl rfl) rfl ?_
      refine SV.zend ?_
      apply SV.doneH (hpin := hpin) (hbx := rfl) (hf := Try.results93) (ht := rfl) (he := .inr rfl)
      case hr => exact ResAll.nil'
      case h2 => simp [two, ansL]
      case hx => refine ⟨?_, ?_, ?_, trivial⟩ <;> (show some (T.seq _ _) = some (T.seq _ _); refine congrArg (fun z => some (T.seq _ z)) ?_; first | done | rfl | (rw [hlt]; first | done | rfl | (simp [tRow]; done)) | (simp [hlt, tRow]; done))
      exact trivial
set_option maxRecDepth 100000 in
set_option maxHeartbeats 2000000 in
theorem vwrite_i (X Y Z : List R) (k : Nat) (e : R) (hki : Runs.idxMin X = (k : Int)) (he : X[k]? = some e) (hxl : X.length ≤ 24) (hzl : Z.length ≤ 24) : VH Try.prog 95 95 [.seq 72 ((X).map tRow), .seq 72 ((Y).map tRow), .seq 72 ((Z).map tRow)] [] [.seq 72 ((X.eraseIdx k).map tRow), .seq 72 ((Y).map tRow), .seq 72 ((Z ++ [e]).map tRow)] false [(true, tRow e)] := by
  refine VH.enter Try.func95 rfl Try.ntmps95 (gle rfl) fun E c hE hpin => ?_
  have hk : k < X.length := Runs.getlt he
  have hvi := vidx_i X (by omega)
  rw [hki] at hvi
  refine SV.seq' ?_
  refine SV.region ?_
  refine SV.op (OpMk.ok (ok_alloc (kk := 1) (xs := [.sc _, .sc _, .sc _]) rfl rfl zero_impl_Row ⟨rfl, rfl, rfl, rfl, rfl, rfl, trivial⟩ rfl (gle rfl))) rfl ?_
  refine SV.nil ?_
  refine SV.tn ?_
  refine SV.seq' ?_
  refine SV.region ?_
  refine SV.op (OpL.ok (nb := 2) (ok_move (v := V.one (.bp 0 0)) (.inl rfl) rfl) rfl (gle rfl)) rfl ?_
  refine SV.op (OpL.ok (nb := 2) (ok_nilcheckB rfl rfl) rfl (gle rfl)) rfl ?_
  refine SV.op (OpL.ok (nb := 2) (ok_field_bp (b := 0) (o' := 0) (off := 0) rfl rfl fld_impl_selection_0) rfl (gle rfl)) rfl ?_
  refine SV.op (OpL.ok (nb := 2) (ok_load_bp (b := 0) (i := 0) (ag := false) (m := 1) (ys := [.hd 0]) rfl rfl rfl agg_s_impl_Row sz_s_impl_Row (fun _ => rfl) rfl rfl (gle rfl)) rfl (gle rfl)) rfl ?_
  refine SV.op (OpMk.ok (ok_call (ls := [(false, [.sc _])]) rfl rfl ⟨_, _, Try.func113, rfl, by decide⟩ (hvi) ⟨⟨[.hd 0], rfl, ⟨rfl, trivial⟩⟩, trivial⟩ rfl (gle rfl))) rfl ?_
  refine SV.op (OpL.ok (nb := 2) (ok_move (v := V.one (.sc _)) (.inr rfl) rfl) rfl (gle rfl)) rfl ?_
  refine SV.nil ?_
  refine SV.tn ?_
  refine SV.seq' ?_
  refine SV.region ?_
  refine SV.op (OpL.ok (nb := 2) (ok_move (v := V.one (.bp 0 0)) (.inl rfl) rfl) rfl (gle rfl)) rfl ?_
  refine SV.op (OpL.ok (nb := 2) (ok_nilcheckB rfl rfl) rfl (gle rfl)) rfl ?_
  refine SV.op (OpL.ok (nb := 2) (ok_field_bp (b := 0) (o' := 0) (off := 0) rfl rfl fld_impl_selection_0) rfl (gle rfl)) rfl ?_
  refine SV.op (OpL.ok (nb := 2) (ok_load_bp (b := 0) (i := 0) (ag := false) (m := 1) (ys := [.hd 0]) rfl rfl rfl agg_s_impl_Row sz_s_impl_Row (fun _ => rfl) rfl rfl (gle rfl)) rfl (gle rfl)) rfl ?_
  refine SV.op (OpL.ok (nb := 2) (ok_move (v := V.one (.sc _)) (.inl rfl) rfl) rfl (gle rfl)) rfl ?_
  refine SV.op (OpL.ok (nb := 2) (ok_index (n := 3) (lf := .hd 0) rfl elt_impl_Row.und sz_impl_Row rfl rfl rfl (map_at he)) rfl (gle rfl)) rfl ?_
  refine SV.op (ok_load_el (p := .ep 0 _ _ _) (ag := true) (m := 3) (ys := [.sc _, .sc _, .sc _]) rfl rfl (cells_ep rfl (map_at he) rfl rfl) agg_impl_Row sz_impl_Row (fun h => by cases h) (gle rfl) rfl rfl (gle rfl)) rfl ?_
  refine SV.op (OpMk.ok (ok_alloc (kk := 2) (xs := [.sc _, .sc _, .sc _]) rfl rfl zero_impl_Row ⟨rfl, rfl, rfl, rfl, rfl, rfl, trivial⟩ rfl (gle rfl))) rfl ?_
  refine SV.op (ok_store_bp (b := 2) (i := 0) (m := 3) (ag := true) (zs := [.sc _, .sc _, .sc _]) (ys := [.sc _, .sc _, .sc _]) rfl rfl rfl rfl sz_impl_Row (fun h => by cases h) rfl (gle rfl) rfl rfl rfl) rfl ?_
  refine SV.nil ?_
  refine SV.tn ?_
  refine SV.seq' ?_
  refine SV.draw [.q 0, .q 1, .q 2, .q 3, .q 4, .q 5, .m 6, .m 7, .q 8, .q 9] [10] (by kernel_rfl) (by kernel_rfl) ?_
  refine DW.q rfl (ok_move (v := V.one (.bp 0 0)) (.inl rfl) rfl) rfl rfl (gle rfl) (fun _ _ _ _ h => h) ?_
  refine DW.q rfl (ok_move (v := V.one (.bp 0 0)) (.inl rfl) rfl) rfl rfl (gle rfl) (fun _ _ _ _ h => h) ?_
  refine DW.q rfl (ok_nilcheckB rfl rfl) rfl rfl (gle rfl) (fun _ _ _ _ h => h) ?_
  refine DW.q rfl (ok_field_bp (b := 0) (o' := 0) (off := 2) rfl rfl fld_impl_selection_2) rfl rfl (gle rfl) (fun _ _ _ _ h => h) ?_
  refine DW.q rfl (ok_load_bp (b := 0) (i := 2) (ag := false) (m := 1) (ys := [.hd 2]) rfl rfl rfl agg_s_impl_Row sz_s_impl_Row (fun _ => rfl) rfl rfl (gle rfl)) rfl rfl (gle rfl) (fun _ _ _ _ h => h) ?_
  refine DW.q rfl (ok_load_bp (b := 2) (i := 0) (ag := true) (m := 3) (ys := [.sc _, .sc _, .sc _]) rfl rfl rfl agg_impl_Row sz_impl_Row (fun h => by cases h) rfl rfl (gle rfl)) rfl rfl (gle rfl) (fun _ _ _ _ h => h) ?_
  refine DW.m [3] rfl (ok_lit1 (kk := 3) elt_impl_Row (ag := true) (xs := [.sc _, .sc _, .sc _]) rfl rfl rfl rfl (fun h => by cases h) (outs_c rfl (outs_c rfl (outs_c rfl outs_n))) (by simp [two]) rfl (gle rfl)) rfl (gle rfl) (gle rfl) (.inl rfl) (fun j hj => by
      simp only [List.mem_cons, List.not_mem_nil, or_false] at hj
      rcases hj with rfl
      · exact .inr ⟨(gle rfl), (gle rfl), .inl rfl⟩) ?_
  refine DW.m [3] rfl (ok_append (kk := 4) elt_impl_Row (ls := .hd 2) (lx := .hd 3) rfl rfl rfl rfl rfl rfl (by intro i h1 h2; first | (cases h1; done) | (cases h1; cases h2)) (by first | omega | (simp only [List.length_map]; omega) | (simp; done) | (simp; omega)) rfl (gle rfl)) rfl (gle rfl) (gle rfl) (.inr ⟨2, rfl, .inr ⟨(gle rfl), rfl⟩⟩) (fun j hj => by
      simp only [List.mem_cons, List.not_mem_nil, or_false] at hj
      rcases hj with rfl
      · exact .inl (by decide)) ?_
  refine DW.q rfl (ok_nilcheckB rfl rfl) rfl rfl (gle rfl) (fun _ _ _ _ h => h) ?_
  refine DW.q rfl (ok_field_bp (b := 0) (o' := 0) (off := 2) rfl rfl fld_impl_selection_2) rfl rfl (gle rfl) (fun _ _ _ _ h => h) ?_
  refine DW.stores ?_
  refine SV.z rfl (ok_store_bp (b := 0) (i := 2) (m := 1) (ag := false) (zs := [.hd 4]) (ys := [.hd 0, .hd 1, .hd 4]) rfl rfl rfl rfl sz_s_impl_Row (fun _ => rfl) rfl (gle rfl) rfl rfl rfl) rfl ?_
  refine SV.zend ?_
  refine SV.tn ?_
  refine SV.seq' ?_
  refine SV.region ?_
  refine SV.op (OpL.ok (nb := 3) (ok_move (v := V.one (.bp 0 0)) (.inl rfl) rfl) rfl (gle rfl)) rfl ?_
  refine SV.op (OpL.ok (nb := 3) (ok_move (v := V.one (.bp 0 0)) (.inl rfl) rfl) rfl (gle rfl)) rfl ?_
  refine SV.op (OpL.ok (nb := 3) (ok_nilcheckB rfl rfl) rfl (gle rfl)) rfl ?_
  refine SV.op (OpL.ok (nb := 3) (ok_field_bp (b := 0) (o' := 0) (off := 0) rfl rfl fld_impl_selection_0) rfl (gle rfl)) rfl ?_
  refine SV.op (OpL.ok (nb := 3) (ok_load_bp (b := 0) (i := 0) (ag := false) (m := 1) (ys := [.hd 0]) rfl rfl rfl agg_s_impl_Row sz_s_impl_Row (fun _ => rfl) rfl rfl (gle rfl)) rfl (gle rfl)) rfl ?_
  refine SV.op (OpL.ok (nb := 3) (ok_move (v := V.one (.sc _)) (.inl rfl) rfl) rfl (gle rfl)) rfl ?_
  refine SV.op (OpL.ok (nb := 3) (ok_move (v := V.one (.sc _)) (.inl rfl) rfl) rfl (gle rfl)) rfl ?_
  refine SV.op (OpL.ok (nb := 3) (ok_s2 (v := .int .i64 ((k : Int) + 1)) (x := .tmp 33) (x' := .const ((Value.int IntKind.i64 1))) (VScal.one rfl) (VScal.one rfl) (fun ρ h1 h2 w => by go_simp; rw [IntWalk.i64_left, IntWalk.wrap64_in _ ⟨by omega, by omega⟩]) rfl) rfl (gle rfl)) rfl ?_
  refine SV.op (ok_callX (i := 0) (kk := 5) rfl rfl ⟨_, _, Try.func123, rfl, by decide⟩ (vdelrow X k hk) ⟨⟨[.hd 0], rfl, ⟨⟨rfl, rfl⟩, trivial⟩⟩, ⟨[.sc _], rfl, ⟨.inl ⟨_, rfl, rfl⟩, trivial⟩⟩, ⟨[.sc _], rfl, ⟨.inl ⟨_, rfl, rfl⟩, trivial⟩⟩, trivial⟩ rfl rfl (gle rfl)) rfl ?_
  refine SV.op (OpL.ok (nb := 3) (ok_nilcheckB rfl rfl) rfl (gle rfl)) rfl ?_
  refine SV.op (OpL.ok (nb := 3) (ok_field_bp (b := 0) (o' := 0) (off := 0) rfl rfl fld_impl_selection_0) rfl (gle rfl)) rfl ?_
  refine SV.op (ok_store_bp (b := 0) (i := 0) (m := 1) (ag := false) (zs := [.hd 5]) (ys := [.hd 5, .hd 1, .hd 4]) rfl rfl rfl rfl sz_s_impl_Row (fun _ => rfl) rfl (gle rfl) rfl rfl rfl) rfl ?_
  refine SV.nil ?_
  refine SV.tn ?_
  refine SV.seq' ?_
  refine SV.region ?_
  refine SV.op (OpL.ok (nb := 3) (ok_load_bp (b := 2) (i := 0) (ag := true) (m := 3) (ys := [.sc _, .sc _, .sc _]) rfl rfl rfl agg_impl_Row sz_impl_Row (fun h => by cases h) rfl rfl (gle rfl)) rfl (gle rfl)) rfl ?_
  refine SV.op (ok_store_bp (b := 1) (i := 0) (m := 3) (ag := true) (zs := [.sc _, .sc _, .sc _]) (ys := [.sc _, .sc _, .sc _]) rfl rfl rfl rfl sz_impl_Row (fun h => by cases h) rfl (gle rfl) rfl rfl rfl) rfl ?_
  refine SV.nil ?_
  refine SV.tn ?_
  refine SV.ret ?_
  apply SV.doneH (hpin := hpin) (hbx := rfl) (hf := Try.results95) (ht := rfl) (he := .inl rfl)
  case hr => exact (ResAll.cons (ResOk.cell (b := 1) (ag := true) (xs := [.sc _, .sc _, .sc _]) rfl rfl agg_impl_Row sz_impl_Row (fun h => by cases h)) ResAll.nil')
  case h2 => simp [two, ansL]
  case hx => refine ⟨?_, ?_, ?_, trivial⟩ <;> (show some (T.seq _ _) = some (T.seq _ _); refine congrArg (fun z => some (T.seq _ z)) ?_; first | done | rfl | (simp [tRow]; done))
  refine ⟨rfl, ⟨?_, ?_, ?_, trivial⟩, trivial⟩ <;> rfl
set_option maxRecDepth 100000 in
set_option maxHeartbeats 2000000 in
theorem vendrun_i (X Y Z : List R) : VH Try.prog 94 95 [.seq 72 ((X).map tRow), .seq 72 ((Y).map tRow), .seq 72 ((Z).map tRow)] [] [.seq 72 ((Y).map tRow), .seq 72 (([]).map tRow), .seq 72 (([]).map tRow)] false [(true, tRun Z)] := by
  refine VH.enter Try.func94 rfl Try.ntmps94 (gle rfl) fun E c hE hpin => ?_
  refine SV.seq' ?_
  refine SV.region ?_
  refine SV.op (OpMk.ok (ok_alloc (kk := 1) (xs := [.nl _]) rfl rfl zero_impl_Run ⟨rfl, ⟨3, by decide, sz_impl_Row⟩, trivial⟩ rfl (gle rfl))) rfl ?_
  refine SV.nil ?_
  refine SV.tn ?_
  refine SV.seq' ?_
  refine SV.region ?_
  refine SV.op (OpL.ok (nb := 2) (ok_move (v := V.one (.bp 0 0)) (.inl rfl) rfl) rfl (gle rfl)) rfl ?_
  refine SV.op (OpL.ok (nb := 2) (ok_nilcheckB rfl rfl) rfl (gle rfl)) rfl ?_
  refine SV.op (OpL.ok (nb := 2) (ok_field_bp (b := 0) (o' := 0) (off := 2) rfl rfl fld_impl_selection_2) rfl (gle rfl)) rfl ?_
  refine SV.op (OpL.ok (nb := 2) (ok_load_bp (b := 0) (i := 2) (ag := false) (m := 1) (ys := [.hd 2]) rfl rfl rfl agg_s_impl_Row sz_s_impl_Row (fun _ => rfl) rfl rfl (gle rfl)) rfl (gle rfl)) rfl ?_
  refine SV.op (OpL.ok (nb := 2) (ok_build (zs := [.nl _]) (ys := [.hd 2]) (qs := [(0, [.hd 2])]) (pl := fun i => ([(0, 1)] : List (Nat × Nat))[i]?) rfl zero_impl_Run ⟨rfl, ⟨3, by decide, sz_impl_Row⟩, trivial⟩ ⟨⟨rfl, false, rfl, (fun _ => rfl), rfl⟩, trivial⟩ bld_impl_Run rfl) rfl (gle rfl)) rfl ?_
  refine SV.op (OpMk.ok (ok_alloc (kk := 2) (xs := [.nl _]) rfl rfl zero_impl_Run ⟨rfl, ⟨3, by decide, sz_impl_Row⟩, trivial⟩ rfl (gle rfl))) rfl ?_
  refine SV.op (ok_store_bp (b := 2) (i := 0) (m := 1) (ag := true) (zs := [.hd 2]) (ys := [.hd 2]) rfl rfl rfl rfl sz_impl_Run (fun h => by cases h) rfl (gle rfl) rfl rfl rfl) rfl ?_
  refine SV.nil ?_
  refine SV.tn ?_
  refine SV.seq' ?_
  refine SV.region ?_
  refine SV.op (OpL.ok (nb := 3) (ok_move (v := V.one (.bp 0 0)) (.inl rfl) rfl) rfl (gle rfl)) rfl ?_
  refine SV.op (OpL.ok (nb := 3) (ok_move (v := V.one (.bp 0 0)) (.inl rfl) rfl) rfl (gle rfl)) rfl ?_
  refine SV.op (OpL.ok (nb := 3) (ok_nilcheckB rfl rfl) rfl (gle rfl)) rfl ?_
  refine SV.op (OpL.ok (nb := 3) (ok_field_bp (b := 0) (o' := 0) (off := 1) rfl rfl fld_impl_selection_1) rfl (gle rfl)) rfl ?_
  refine SV.op (OpL.ok (nb := 3) (ok_load_bp (b := 0) (i := 1) (ag := false) (m := 1) (ys := [.hd 1]) rfl rfl rfl agg_s_impl_Row sz_s_impl_Row (fun _ => rfl) rfl rfl (gle rfl)) rfl (gle rfl)) rfl ?_
  refine SV.op (OpL.ok (nb := 3) (ok_build (zs := [.nl _, .nl _, .nl _]) (ys := [.hd 1, .nl _, .nl _]) (qs := [(0, [.hd 1])]) (pl := fun i => ([(0, 1), (1, 1), (2, 1)] : List (Nat × Nat))[i]?) rfl zero_impl_selection ⟨rfl, ⟨3, by decide, sz_impl_Row⟩, rfl, ⟨3, by decide, sz_impl_Row⟩, rfl, ⟨3, by decide, sz_impl_Row⟩, trivial⟩ ⟨⟨rfl, false, rfl, (fun _ => rfl), rfl⟩, trivial⟩ bld_impl_selection rfl) rfl (gle rfl)) rfl ?_
  refine SV.op (OpL.ok (nb := 3) (ok_nilcheckB rfl rfl) rfl (gle rfl)) rfl ?_
  refine SV.op (ok_store_bp (b := 0) (i := 0) (m := 3) (ag := true) (zs := [.hd 1, .nl _, .nl _]) (ys := [.hd 1, .nl _, .nl _]) rfl rfl rfl rfl sz_impl_selection (fun h => by cases h) rfl (gle rfl) rfl rfl rfl) rfl ?_
  refine SV.nil ?_
  refine SV.tn ?_
  refine SV.seq' ?_
  refine SV.region ?_
  refine SV.op (OpL.ok (nb := 3) (ok_load_bp (b := 2) (i := 0) (ag := true) (m := 1) (ys := [.hd 2]) rfl rfl rfl agg_impl_Run sz_impl_Run (fun h => by cases h) rfl rfl (gle rfl)) rfl (gle rfl)) rfl ?_
  refine SV.op (ok_store_bp (b := 1) (i := 0) (m := 1) (ag := true) (zs := [.hd 2]) (ys := [.hd 2]) rfl rfl rfl rfl sz_impl_Run (fun h => by cases h) rfl (gle rfl) rfl rfl rfl) rfl ?_
  refine SV.nil ?_
  refine SV.tn ?_
  refine SV.ret ?_
  apply SV.doneH (hpin := hpin) (hbx := rfl) (hf := Try.results94) (ht := rfl) (he := .inl rfl)
  case hr => exact (ResAll.cons (ResOk.cell (b := 1) (ag := true) (xs := [.hd 2]) rfl rfl agg_impl_Run sz_impl_Run (fun h => by cases h)) ResAll.nil')
  case h2 => simp [two, ansL]
  case hx => refine ⟨?_, ?_, ?_, trivial⟩ <;> first | rfl | (show some (T.seq _ _) = some (T.seq _ _); refine congrArg (fun z => some (T.seq _ z)) ?_; first | done | rfl | (simp; done))
  refine ⟨rfl, ⟨?_, trivial⟩, trivial⟩ <;> rfl
end Go.Proofs.Ytpnbnbhifpcelaa
