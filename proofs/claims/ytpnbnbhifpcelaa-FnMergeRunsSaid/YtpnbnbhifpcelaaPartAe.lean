/- Texts joined: PruB RunW MrgM MrgS VMk0 PruMs MrgQ CloneR PruMp RunV MrgR PruV. -/
import Derived.Test.YtpnbnbhifpcelaaPartAd
set_option linter.unusedSimpArgs false
set_option linter.unusedVariables false
/- The program's BuildRuns: told by trees. -/
namespace Go.Proofs.Ytpnbnbhifpcelaa
open Go Go.RowKit V
set_option linter.unusedVariables false
set_option maxRecDepth 100000 in
set_option maxHeartbeats 2000000 in
theorem vbuild_i (l : List R) (m : Int) (hW : ∀ r ∈ l, r.wf) (hl : l.length ≤ 1000000000) : VC Try.prog 35 [(false, [.seq 72 ((l).map tRow)]), (false, [.lit (.int .i64 (m))])] true [(false, [.seq 84 ((Runs.build l m).map tRun)]), (false, [.lit (.bool (Runs.can l m))])] := by
  refine VC.enter Try.func35 rfl Try.ntmps35 (gle rfl) fun E hE => ?_
  refine SV.seq' ?_
  refine SV.region ?_
  refine SV.op (OpL.ok (nb := 0) (ok_move (v := V.one (.sc _)) (.inr rfl) rfl) rfl (gle rfl)) rfl ?_
  refine SV.op (OpL.ok (nb := 0) (ok_move (v := V.one (.sc _)) (.inr rfl) rfl) rfl (gle rfl)) rfl ?_
  refine SV.nil ?_
  refine SV.tn ?_
  refine SV.seq' ?_
  refine SV.seq' ?_
  refine SV.region ?_
  refine SV.op (OpL.ok (nb := 0) (ok_move (v := V.one (.ro _)) (.inl rfl) rfl) rfl (gle rfl)) rfl ?_
  refine SV.op (OpMk.ok (ok_call (ls := [(false, [.sc _])]) rfl rfl ⟨_, _, Try.func64, rfl, by decide⟩ (vares_i l hW (by omega)) ⟨⟨[.ro _], rfl, ⟨rfl, trivial⟩⟩, trivial⟩ rfl (gle rfl))) rfl ?_
  refine SV.op (OpL.ok (nb := 0) (ok_s1 (x := .tmp 10) (VScal.one rfl) (fun ρ h1 w => by go_simp; (try go_bits); with_reducible rfl) rfl) rfl (gle rfl)) rfl ?_
  refine SV.op (OpL.ok (nb := 0) (ok_move (v := V.one (.sc _)) (.inl rfl) rfl) rfl (gle rfl)) rfl ?_
  refine SV.split (d := 12) rfl (fun hg0 => ?_) (fun hg0 => ?_)
  · skip   -- g0.T
    refine SV.opN rfl rfl rfl (gle rfl) rfl rfl rfl (gle rfl) ?_
    refine SV.opN rfl rfl rfl (gle rfl) rfl rfl rfl (gle rfl) ?_
    refine SV.opN rfl rfl rfl (gle rfl) rfl rfl rfl (gle rfl) ?_
    refine SV.op (OpL.ok (nb := 0) (ok_pickT (v := V.one (.sc _)) rfl rfl rfl) rfl (gle rfl)) rfl ?_
    refine SV.nil ?_
    refine SV.tn ?_
    refine SV.cond rfl (fun hc0 => ?_) (fun hc0 => ?_)
    · skip   -- c0.T
      have hno : Runs.can l m = false := by
        rw [Bool.eq_false_iff]
        intro h
        unfold Runs.can at h
        rw [Bool.and_eq_true] at h
        obtain ⟨h1, h2⟩ := h
        first | (rw [h1] at hg0; cases hg0; done) | (rw [h2] at hc1; cases hc1; done)
      have hb : Runs.build l m = [] := by unfold Runs.build; rw [if_neg (by rw [hno]; decide)]
      refine SV.seq' ?_
      refine SV.region ?_
      refine SV.op (OpL.ok (nb := 0) (ok_move (v := V.one (.sc _)) (.inr rfl) rfl) rfl (gle rfl)) rfl ?_
      refine SV.op (OpL.ok (nb := 0) (ok_move (v := V.one (.sc _)) (.inr rfl) rfl) rfl (gle rfl)) rfl ?_
      refine SV.nil ?_
      refine SV.tn ?_
      refine SV.ret ?_
      refine SV.tr ?_
      refine SV.nlsc (s := 4) (kk := 0) (n := 1) rfl rfl (by decide) sz_impl_Run (gle rfl) ?_
      apply SV.done (hf := Try.results35) (ht := rfl) (he := .inr rfl)
      case hr => exact (ResAll.cons (ResOk.tmp (ag := false) (xs := [.hd 0]) rfl) (ResAll.cons (ResOk.tmp (ag := false) (xs := [.sc _]) rfl) ResAll.nil'))
      case h2 => simp [two]
      refine ⟨rfl, ⟨?_, trivial⟩, ⟨rfl, ⟨?_, trivial⟩, trivial⟩⟩ <;> first | rfl | (rw [hb]; rfl) | ((show some (T.seq _ _) = some (T.seq _ _); refine congrArg (fun z => some (T.seq _ z)) ?_; rw [hb]; first | done | rfl | (simp [tRun]; done))) | ((show some (T.lit (Value.bool _)) = some (T.lit (Value.bool _)); refine congrArg (fun z => some (T.lit (Value.bool z))) ?_; rw [hno])) | ((show some (T.lit (Value.bool _)) = some (T.lit (Value.bool _)); refine congrArg (fun z => some (T.lit (Value.bool z))) ?_; rw [hcan]))
    · skip   -- c0.F
      cases hc0
  · skip   -- g0.F
    refine SV.opY (OpL.ok (nb := 0) (ok_move (v := V.one (.sc _)) (.inl rfl) rfl) rfl (gle rfl)) rfl rfl rfl (gle rfl) rfl rfl ?_
    refine SV.opY (OpMk.ok (ok_call (ls := [(false, [.sc _])]) rfl rfl ⟨_, _, Try.func84, rfl, by decide⟩ (vismem_i m) ⟨⟨[.sc _], rfl, ⟨rfl, trivial⟩⟩, trivial⟩ rfl (gle rfl))) rfl rfl rfl (gle rfl) rfl rfl ?_
    refine SV.opY (OpL.ok (nb := 0) (ok_s1 (x := .tmp 14) (VScal.one rfl) (fun ρ h1 w => by go_simp; (try go_bits); with_reducible rfl) rfl) rfl (gle rfl)) rfl rfl rfl (gle rfl) rfl rfl ?_
    refine SV.op (OpL.ok (nb := 0) (ok_pickF (v := V.one (.sc _)) rfl rfl rfl) rfl (gle rfl)) rfl ?_
    refine SV.nil ?_
    refine SV.tn ?_
    refine SV.cond rfl (fun hc1 => ?_) (fun hc1 => ?_)
    · skip   -- c1.T
      have hno : Runs.can l m = false := by
        rw [Bool.eq_false_iff]
        intro h
        unfold Runs.can at h
        rw [Bool.and_eq_true] at h
        obtain ⟨h1, h2⟩ := h
        first | (rw [h1] at hg0; cases hg0; done) | (rw [h2] at hc1; cases hc1; done)
      have hb : Runs.build l m = [] := by unfold Runs.build; rw [if_neg (by rw [hno]; decide)]
      refine SV.seq' ?_
      refine SV.region ?_
      refine SV.op (OpL.ok (nb := 0) (ok_move (v := V.one (.sc _)) (.inr rfl) rfl) rfl (gle rfl)) rfl ?_
      refine SV.op (OpL.ok (nb := 0) (ok_move (v := V.one (.sc _)) (.inr rfl) rfl) rfl (gle rfl)) rfl ?_
      refine SV.nil ?_
      refine SV.tn ?_
      refine SV.ret ?_
      refine SV.tr ?_
      refine SV.nlsc (s := 4) (kk := 0) (n := 1) rfl rfl (by decide) sz_impl_Run (gle rfl) ?_
      apply SV.done (hf := Try.results35) (ht := rfl) (he := .inr rfl)
      case hr => exact (ResAll.cons (ResOk.tmp (ag := false) (xs := [.hd 0]) rfl) (ResAll.cons (ResOk.tmp (ag := false) (xs := [.sc _]) rfl) ResAll.nil'))
      case h2 => simp [two]
      refine ⟨rfl, ⟨?_, trivial⟩, ⟨rfl, ⟨?_, trivial⟩, trivial⟩⟩ <;> first | rfl | (rw [hb]; rfl) | ((show some (T.seq _ _) = some (T.seq _ _); refine congrArg (fun z => some (T.seq _ z)) ?_; rw [hb]; first | done | rfl | (simp [tRun]; done))) | ((show some (T.lit (Value.bool _)) = some (T.lit (Value.bool _)); refine congrArg (fun z => some (T.lit (Value.bool z))) ?_; rw [hno])) | ((show some (T.lit (Value.bool _)) = some (T.lit (Value.bool _)); refine congrArg (fun z => some (T.lit (Value.bool z))) ?_; rw [hcan]))
    · skip   -- c1.F
      have hcan : Runs.can l m = true := by
        unfold Runs.can
        rw [Bool.and_eq_true]
        exact ⟨by simpa using hg0, by simpa using hc1⟩
      have hlm : okRows l = true ∧ Runs.isMem m = true := by have h := hcan; unfold Runs.can at h; rw [Bool.and_eq_true] at h; exact h
      refine SV.skip ?_
      refine SV.tn ?_
      refine SV.seq' ?_
      refine SV.region ?_
      refine SV.op (OpL.ok (nb := 0) (ok_move (v := V.one (.sc _)) (.inr rfl) rfl) rfl (gle rfl)) rfl ?_
      refine SV.nil ?_
      refine SV.tn ?_
      refine SV.seq' ?_
      refine SV.region ?_
      refine SV.op (OpMk.ok (ok_alloc (kk := 0) (xs := [.nl _, .nl _, .nl _]) rfl rfl zero_impl_selection ⟨rfl, ⟨3, by decide, sz_impl_Row⟩, rfl, ⟨3, by decide, sz_impl_Row⟩, rfl, ⟨3, by decide, sz_impl_Row⟩, trivial⟩ rfl (gle rfl))) rfl ?_
      refine SV.nil ?_
      refine SV.tn ?_
      refine SV.seq' ?_
      refine SV.region ?_
      refine SV.op (OpL.ok (nb := 1) (ok_move (v := V.one (.ro _)) (.inl rfl) rfl) rfl (gle rfl)) rfl ?_
      refine SV.op (OpL.ok (nb := 1) (ok_move (v := V.one (.ro _)) (.inr rfl) rfl) rfl (gle rfl)) rfl ?_
      refine SV.nil ?_
      refine SV.tn ?_
      refine SV.block ?_
      refine SV.nlsc (s := 6) (kk := 0) (n := 1) rfl rfl (by decide) sz_impl_Run (gle rfl) ?_
      refine SV.nlbox (b := 0) (j := 0) (kk := 1) rfl rfl rfl (ys := [.hd 1, .nl _, .nl _]) rfl ?_
      refine SV.nlbox (b := 0) (j := 1) (kk := 2) rfl rfl rfl (ys := [.hd 1, .hd 2, .nl _]) rfl ?_
      refine SV.nlbox (b := 0) (j := 2) (kk := 3) rfl rfl rfl (ys := [.hd 1, .hd 2, .hd 3]) rfl ?_
      refine SV.loopF (X := Runs.St) (fun (σ : VS) s => (((((((((((VS.nil.new (.seq 84 (s.out.map tRun))).new (.seq 72 (s.heap.map tRow))).new (.seq 72 (s.next.map tRow))).new (.seq 72 (s.cur.map tRow))).box 95 [.hd 1, .hd 2, .hd 3]).put 1 (σ.tm 1)).put 4 (σ.tm 4)).put 5 (σ.tm 5)).put 6 (V.flat false [.hd 0])).put 7 (V.flat false [.bp 0 0])).put 8 (V.flat false [.ro (.seq 72 ((l.drop s.i).map tRow))]))) (fun s => Runs.Going l m s) (fun s => Runs.mu l s) ?_ ?_
      · skip
        refine SV.again (fun i => [0, 1, 2, 3].getD i 0) Runs.init (Runs.going_init l m) (pins hE rfl rfl) (VS.le.mk' (le_put (le_put (le_put (le_put (le_put (le_put (le_box (le_new (le_new (le_new (le_new le_nil))))) (V.le.keep (ag := false) (xs := [.sc _]) (ys := [.sc _]) rfl rfl ⟨rfl, trivial⟩)) (V.le.keep (ag := false) (xs := [.sc _]) (ys := [.sc _]) rfl rfl ⟨rfl, trivial⟩)) (V.le.keep (ag := false) (xs := [.sc _]) (ys := [.sc _]) rfl rfl ⟨rfl, trivial⟩)) (V.le.keep (ag := false) (xs := [.hd 0]) (ys := [.hd 0]) rfl rfl ⟨⟨rfl, (gle rfl), (gle rfl)⟩, trivial⟩)) (V.le.keep (ag := false) (xs := [.bp 0 0]) (ys := [.bp 0 0]) rfl rfl ⟨⟨rfl, (gle rfl)⟩, trivial⟩)) (V.le.keep (ag := false) (xs := [.ro _]) (ys := [.ro _]) rfl rfl ⟨(by first | rfl | (show Leaf.ro _ = Leaf.ro _; refine congrArg Leaf.ro (congrArg (T.seq _) ?_); (rw [hst]; first | done | rfl | (simp [List.map_drop, List.map_take, List.drop_drop, Nat.add_comm]; done) | (simp [List.map_drop, List.map_take, List.drop_drop, Nat.add_comm]; rw [List.take_of_length_le (by simp), List.tail_drop])))), trivial⟩)) ⟨⟨rfl, ⟨⟨rfl, (gle rfl), (gle rfl)⟩, ⟨rfl, (gle rfl), (gle rfl)⟩, ⟨rfl, (gle rfl), (gle rfl)⟩, trivial⟩⟩, trivial⟩ ⟨.inr ⟨_, _, rfl, ?ob1_3, (gle rfl)⟩, ⟨.inr ⟨_, _, rfl, ?ob1_2, (gle rfl)⟩, ⟨.inr ⟨_, _, rfl, ?ob1_1, (gle rfl)⟩, ⟨.inr ⟨_, _, rfl, ?ob1_0, (gle rfl)⟩, trivial⟩⟩⟩⟩ (new_ob (new_ob (new_ob (new_ob nil_ob)))) (fun i j hi hj e => inj_list (l := [0, 1, 2, 3]) (by decide) i j hi hj e))
        case ob1_0 =>
          show some (T.seq _ _) = some (T.seq _ _)
          rfl
        case ob1_1 =>
          show some (T.seq _ _) = some (T.seq _ _)
          rfl
        case ob1_2 =>
          show some (T.seq _ _) = some (T.seq _ _)
          rfl
        case ob1_3 =>
          show some (T.seq _ _) = some (T.seq _ _)
          rfl
      · rintro s hG
        obtain ⟨⟨hl1, hl2, hl3⟩, hl4, hl5, hl6⟩ := going_len hcan hG
        have hwf := going_wf hcan hG hW
        refine SV.block ?_
        refine SV.block ?_
        refine SV.seq' ?_
        refine SV.region ?_
        refine SV.op (OpL.ok (nb := 1) (ok_move (v := V.one (.ro _)) (.inl rfl) rfl) rfl (gle rfl)) rfl ?_
        refine SV.op (OpL.ok (nb := 1) (ok_len (lf := .ro _) rfl elt_impl_Row.und rfl rfl) rfl (gle rfl)) rfl ?_
        refine SV.op (OpL.ok (nb := 1) (ok_s2 (x := .tmp 21) (x' := .const ((Value.int IntKind.i64 0))) (VScal.one rfl) (VScal.one rfl) (fun ρ h1 h2 w => by go_simp; (try go_bits); with_reducible rfl) rfl) rfl (gle rfl)) rfl ?_
        refine SV.op (OpL.ok (nb := 1) (ok_move (v := V.one (.sc _)) (.inl rfl) rfl) rfl (gle rfl)) rfl ?_
        refine SV.split (d := 23) rfl (fun hg1 => ?_) (fun hg1 => ?_)
        · skip   -- g1.T
          have hil : s.i < l.length := by simp at hg1; omega
          obtain ⟨r, hr⟩ : ∃ r, l[s.i]? = some r := ⟨_, List.getElem?_eq_getElem hil⟩
          have hr0 : (l.drop s.i)[0]? = some r := by rw [List.getElem?_drop, Nat.add_zero]; exact hr
          have hd : Runs.done l s = false := by unfold Runs.done; rw [decide_eq_false_iff_not]; omega
          refine SV.opY (OpL.ok (nb := 1) (ok_move (v := V.one (.ro _)) (.inl rfl) rfl) rfl (gle rfl)) rfl rfl rfl (gle rfl) rfl rfl ?_
          refine SV.opY (OpL.ok (nb := 1) (ok_index (n := 3) (lf := .ro _) rfl elt_impl_Row.und sz_impl_Row rfl rfl rfl (map_at hr0)) rfl (gle rfl)) rfl rfl rfl (gle rfl) rfl rfl ?_
          refine SV.opY (OpL.ok (nb := 1) (ok_load_rp (ag := true) (m := 3) (ys := [.sc _, .sc _, .sc _]) rfl rfl agg_impl_Row sz_impl_Row (fun h => by cases h) (gle rfl) rfl) rfl (gle rfl)) rfl rfl rfl (gle rfl) rfl rfl ?_
          refine SV.opY (OpL.ok (nb := 1) (ok_move (v := V.one (.sc _)) (.inl rfl) rfl) rfl (gle rfl)) rfl rfl rfl (gle rfl) rfl rfl ?_
          refine SV.opY (ok_callH (b := 0) (ys := [.hd 1, .hd 2, .hd 3]) (L0 := [.hd 4, .hd 5, .hd 6]) (L := [(false, [.sc _])]) rfl rfl ⟨_, _, Try.func92, rfl, by decide⟩ (vroom_i s.heap s.next s.cur r m hwf.1 hwf.2 hl2 hl3 (hW r (List.mem_of_getElem? hr))) rfl rfl ⟨rfl, rfl, rfl, trivial⟩ (by simp [two]) rfl ⟨⟨[.sc _, .sc _, .sc _], rfl, ⟨.inl ⟨_, rfl, rfl⟩, .inl ⟨_, rfl, rfl⟩, .inl ⟨_, rfl, rfl⟩, trivial⟩⟩, ⟨[.sc _], rfl, ⟨.inl ⟨_, rfl, rfl⟩, trivial⟩⟩, trivial⟩ rfl (gle rfl)) rfl rfl rfl (gle rfl) rfl rfl ?_
          refine SV.op (OpL.ok (nb := 1) (ok_pickT (v := V.one (.sc _)) rfl rfl rfl) rfl (gle rfl)) rfl ?_
          refine SV.op (OpL.ok (nb := 1) (ok_move (v := V.one (.sc _)) (.inr rfl) rfl) rfl (gle rfl)) rfl ?_
          refine SV.nil ?_
          refine SV.tn ?_
          refine SV.cond rfl (fun hc2 => ?_) (fun hc2 => ?_)
          · skip   -- c2.T
            have hroom : Runs.room m s r = true := hc2
            have hst : Runs.step l m s = ⟨s.i + 1, s.out, s.cur, if Runs.later s.cur r = true then s.heap else s.heap ++ [r], if Runs.later s.cur r = true then s.next ++ [r] else s.next⟩ := by rw [Runs.step_read hr hroom]; unfold Runs.take1; split <;> rfl
            refine SV.seq' ?_
            refine SV.region ?_
            refine SV.op (OpL.ok (nb := 1) (ok_move (v := V.one (.ro _)) (.inl rfl) rfl) rfl (gle rfl)) rfl ?_
            refine SV.op (OpL.ok (nb := 1) (ok_index (n := 3) (lf := .ro _) rfl elt_impl_Row.und sz_impl_Row rfl rfl rfl (map_at hr0)) rfl (gle rfl)) rfl ?_
            refine SV.op (OpL.ok (nb := 1) (ok_load_rp (ag := true) (m := 3) (ys := [.sc _, .sc _, .sc _]) rfl rfl agg_impl_Row sz_impl_Row (fun h => by cases h) (gle rfl) rfl) rfl (gle rfl)) rfl ?_
            refine SV.op (ok_callH (b := 0) (ys := [.hd 4, .hd 5, .hd 6]) (L0 := [.hd 7, .hd 8, .hd 9]) (L := []) rfl rfl ⟨_, _, Try.func93, rfl, by decide⟩ (vread_i s.heap s.next s.cur r hl2 hl3 hl1) rfl rfl ⟨rfl, rfl, rfl, trivial⟩ (by simp [two]) rfl ⟨⟨[.sc _, .sc _, .sc _], rfl, ⟨.inl ⟨_, rfl, rfl⟩, .inl ⟨_, rfl, rfl⟩, .inl ⟨_, rfl, rfl⟩, trivial⟩⟩, trivial⟩ rfl (gle rfl)) rfl ?_
            refine SV.nil ?_
            refine SV.tn ?_
            refine SV.region ?_
            refine SV.op (OpL.ok (nb := 1) (ok_move (v := V.one (.ro _)) (.inl rfl) rfl) rfl (gle rfl)) rfl ?_
            refine SV.op (OpL.ok (nb := 1) (ok_slice (l := 1) (h := ((l.drop s.i).map tRow).length) (lf := .ro _) (yy := .ro _) rfl rfl elt_impl_Row.und sz_impl_Row rfl rfl ⟨_, rfl⟩ rfl (by simp; omega) (Nat.le_refl _)) rfl (gle rfl)) rfl ?_
            refine SV.op (OpL.ok (nb := 1) (ok_move (v := V.one (.ro _)) (.inr rfl) rfl) rfl (gle rfl)) rfl ?_
            refine SV.nil ?_
            refine SV.bn ?_
            refine SV.bn ?_
            refine SV.tn ?_
            refine SV.again (fun i => [0, 7, 8, 9].getD i 0) ((Runs.step l m s)) (Runs.going_next hlm.1 hlm.2 hG hd rfl) (pins hE rfl rfl) (VS.le.mk' (le_put (le_put (le_put (le_put (le_put (le_put (le_box (le_new (le_new (le_new (le_new le_nil))))) (V.le.keep (ag := false) (xs := [.sc _]) (ys := [.sc _]) rfl rfl ⟨rfl, trivial⟩)) (V.le.keep (ag := false) (xs := [.sc _]) (ys := [.sc _]) rfl rfl ⟨rfl, trivial⟩)) (V.le.keep (ag := false) (xs := [.sc _]) (ys := [.sc _]) rfl rfl ⟨rfl, trivial⟩)) (V.le.keep (ag := false) (xs := [.hd 0]) (ys := [.hd 0]) rfl rfl ⟨⟨rfl, (gle rfl), (gle rfl)⟩, trivial⟩)) (V.le.keep (ag := false) (xs := [.bp 0 0]) (ys := [.bp 0 0]) rfl rfl ⟨⟨rfl, (gle rfl)⟩, trivial⟩)) (V.le.keep (ag := false) (xs := [.ro _]) (ys := [.ro _]) rfl rfl ⟨(by first | rfl | (show Leaf.ro _ = Leaf.ro _; refine congrArg Leaf.ro (congrArg (T.seq _) ?_); (rw [hst]; first | done | rfl | (simp [List.map_drop, List.map_take, List.drop_drop, Nat.add_comm]; done) | (simp [List.map_drop, List.map_take, List.drop_drop, Nat.add_comm]; rw [List.take_of_length_le (by simp), List.tail_drop])))), trivial⟩)) ⟨⟨rfl, ⟨⟨rfl, (gle rfl), (gle rfl)⟩, ⟨rfl, (gle rfl), (gle rfl)⟩, ⟨rfl, (gle rfl), (gle rfl)⟩, trivial⟩⟩, trivial⟩ ⟨.inr ⟨_, _, rfl, ?ob2_3, (gle rfl)⟩, ⟨.inr ⟨_, _, rfl, ?ob2_2, (gle rfl)⟩, ⟨.inr ⟨_, _, rfl, ?ob2_1, (gle rfl)⟩, ⟨.inr ⟨_, _, rfl, ?ob2_0, (gle rfl)⟩, trivial⟩⟩⟩⟩ (new_ob (new_ob (new_ob (new_ob nil_ob)))) (fun i j hi hj e => inj_list (l := [0, 7, 8, 9]) (by decide) i j hi hj e))
            case ob2_0 =>
              show some (T.seq _ _) = some (T.seq _ _)
              rw [hst]; first | done | rfl | (simp only [List.map_append]; rfl) | (simp [tRun, tRow]; done)
            case ob2_1 =>
              show some (T.seq _ _) = some (T.seq _ _)
              rw [hst]; first | done | rfl | (simp only [List.map_append]; rfl) | (simp [tRun, tRow]; done)
            case ob2_2 =>
              show some (T.seq _ _) = some (T.seq _ _)
              rw [hst]; first | done | rfl | (simp only [List.map_append]; rfl) | (simp [tRun, tRow]; done)
            case ob2_3 =>
              show some (T.seq _ _) = some (T.seq _ _)
              rw [hst]; first | done | rfl | (simp only [List.map_append]; rfl) | (simp [tRun, tRow]; done)
          · skip   -- c2.F
            have hroom : Runs.room m s r = false := hc2
            have hst0 : Runs.step l m s = Runs.step.flow s := Runs.step_flow (by unfold Runs.reads; rw [hr]; exact hroom)
            refine SV.seq' ?_
            refine SV.region ?_
            refine SV.op (OpL.ok (nb := 1) (ok_field_bp (b := 0) (o' := 0) (off := 0) rfl rfl fld_impl_selection_0) rfl (gle rfl)) rfl ?_
            refine SV.op (OpL.ok (nb := 1) (ok_load_bp (b := 0) (i := 0) (ag := false) (m := 1) (ys := [.hd 4]) rfl rfl rfl agg_s_impl_Row sz_s_impl_Row (fun _ => rfl) rfl rfl (gle rfl)) rfl (gle rfl)) rfl ?_
            refine SV.op (OpL.ok (nb := 1) (ok_len (lf := .hd 4) rfl elt_impl_Row.und rfl rfl) rfl (gle rfl)) rfl ?_
            refine SV.op (OpL.ok (nb := 1) (ok_s2 (x := .tmp 39) (x' := .const ((Value.int IntKind.i64 0))) (VScal.one rfl) (VScal.one rfl) (fun ρ h1 h2 w => by go_simp; (try go_bits); with_reducible rfl) rfl) rfl (gle rfl)) rfl ?_
            refine SV.op (OpL.ok (nb := 1) (ok_move (v := V.one (.sc _)) (.inl rfl) rfl) rfl (gle rfl)) rfl ?_
            refine SV.split (d := 41) rfl (fun hg2 => ?_) (fun hg2 => ?_)
            · skip   -- g2.T
              have h0 : s.heap.length = 0 := by first | (simpa using hg2) | (simp at hg2; omega) | (simp at hg2; rw [hg2]; rfl)
              refine SV.opY (OpL.ok (nb := 1) (ok_field_bp (b := 0) (o' := 0) (off := 1) rfl rfl fld_impl_selection_1) rfl (gle rfl)) rfl rfl rfl (gle rfl) rfl rfl ?_
              refine SV.opY (OpL.ok (nb := 1) (ok_load_bp (b := 0) (i := 1) (ag := false) (m := 1) (ys := [.hd 5]) rfl rfl rfl agg_s_impl_Row sz_s_impl_Row (fun _ => rfl) rfl rfl (gle rfl)) rfl (gle rfl)) rfl rfl rfl (gle rfl) rfl rfl ?_
              refine SV.opY (OpL.ok (nb := 1) (ok_len (lf := .hd 5) rfl elt_impl_Row.und rfl rfl) rfl (gle rfl)) rfl rfl rfl (gle rfl) rfl rfl ?_
              refine SV.opY (OpL.ok (nb := 1) (ok_s2 (x := .tmp 44) (x' := .const ((Value.int IntKind.i64 0))) (VScal.one rfl) (VScal.one rfl) (fun ρ h1 h2 w => by go_simp; (try go_bits); with_reducible rfl) rfl) rfl (gle rfl)) rfl rfl rfl (gle rfl) rfl rfl ?_
              refine SV.op (OpL.ok (nb := 1) (ok_pickT (v := V.one (.sc _)) rfl rfl rfl) rfl (gle rfl)) rfl ?_
              refine SV.op (OpL.ok (nb := 1) (ok_move (v := V.one (.sc _)) (.inr rfl) rfl) rfl (gle rfl)) rfl ?_
              refine SV.nil ?_
              refine SV.tn ?_
              refine SV.cond rfl (fun hc3 => ?_) (fun hc3 => ?_)
              · skip   -- c3.T
                have hst : Runs.step l m s = ⟨s.i, s.out ++ [s.cur], [], s.next, []⟩ := by rw [hst0, Runs.flow_turn h0]; rfl
                refine SV.region ?_
                refine SV.op (OpL.ok (nb := 1) (ok_move (v := V.one (.hd 0)) (.inl rfl) rfl) rfl (gle rfl)) rfl ?_
                refine SV.op (ok_callH (b := 0) (ys := [.hd 4, .hd 5, .hd 6]) (L0 := [.hd 7, .hd 8, .hd 9]) (L := [(true, [.hd 10])]) rfl rfl ⟨_, _, Try.func94, rfl, by decide⟩ (vendrun_i s.heap s.next s.cur) rfl rfl ⟨rfl, rfl, rfl, trivial⟩ (by simp [two]) rfl trivial rfl (gle rfl)) rfl ?_
                refine SV.op (OpMk.ok (ok_lit1 (kk := 11) elt_impl_Run (ag := true) (xs := [.hd 10]) rfl rfl rfl rfl (fun h => by cases h) (outs_c rfl outs_n) (by simp [two]) rfl (gle rfl))) rfl ?_
                refine SV.op (OpMk.ok (ok_append (kk := 12) elt_impl_Run (ls := .hd 0) (lx := .hd 11) rfl rfl rfl rfl rfl rfl (by intro i h1 h2; first | (cases h1; done) | (cases h1; cases h2)) (by first | omega | (simp only [List.length_map]; omega) | (simp; done) | (simp; omega)) rfl (gle rfl))) rfl ?_
                refine SV.op (OpL.ok (nb := 1) (ok_move (v := V.one (.hd 12)) (.inr rfl) rfl) rfl (gle rfl)) rfl ?_
                refine SV.nil ?_
                refine SV.bn ?_
                refine SV.bn ?_
                refine SV.tn ?_
                refine SV.again (fun i => [12, 7, 8, 9].getD i 0) ((Runs.step l m s)) (Runs.going_next hlm.1 hlm.2 hG hd rfl) (pins hE rfl rfl) (VS.le.mk' (le_put (le_put (le_put (le_put (le_put (le_put (le_box (le_new (le_new (le_new (le_new le_nil))))) (V.le.keep (ag := false) (xs := [.sc _]) (ys := [.sc _]) rfl rfl ⟨rfl, trivial⟩)) (V.le.keep (ag := false) (xs := [.sc _]) (ys := [.sc _]) rfl rfl ⟨rfl, trivial⟩)) (V.le.keep (ag := false) (xs := [.sc _]) (ys := [.sc _]) rfl rfl ⟨rfl, trivial⟩)) (V.le.keep (ag := false) (xs := [.hd 12]) (ys := [.hd 0]) rfl rfl ⟨⟨rfl, (gle rfl), (gle rfl)⟩, trivial⟩)) (V.le.keep (ag := false) (xs := [.bp 0 0]) (ys := [.bp 0 0]) rfl rfl ⟨⟨rfl, (gle rfl)⟩, trivial⟩)) (V.le.keep (ag := false) (xs := [.ro _]) (ys := [.ro _]) rfl rfl ⟨(by first | rfl | (show Leaf.ro _ = Leaf.ro _; refine congrArg Leaf.ro (congrArg (T.seq _) ?_); (rw [hst]; first | done | rfl | (simp [List.map_drop, List.map_take, List.drop_drop, Nat.add_comm]; done) | (simp [List.map_drop, List.map_take, List.drop_drop, Nat.add_comm]; rw [List.take_of_length_le (by simp), List.tail_drop])))), trivial⟩)) ⟨⟨rfl, ⟨⟨rfl, (gle rfl), (gle rfl)⟩, ⟨rfl, (gle rfl), (gle rfl)⟩, ⟨rfl, (gle rfl), (gle rfl)⟩, trivial⟩⟩, trivial⟩ ⟨.inr ⟨_, _, rfl, ?ob3_3, (gle rfl)⟩, ⟨.inr ⟨_, _, rfl, ?ob3_2, (gle rfl)⟩, ⟨.inr ⟨_, _, rfl, ?ob3_1, (gle rfl)⟩, ⟨.inr ⟨_, _, rfl, ?ob3_0, (gle rfl)⟩, trivial⟩⟩⟩⟩ (new_ob (new_ob (new_ob (new_ob nil_ob)))) (fun i j hi hj e => inj_list (l := [12, 7, 8, 9]) (by decide) i j hi hj e))
                case ob3_0 =>
                  show some (T.seq _ _) = some (T.seq _ _)
                  rw [hst]; first | done | rfl | (simp only [List.map_append]; rfl) | (simp [tRun, tRow]; done)
                case ob3_1 =>
                  show some (T.seq _ _) = some (T.seq _ _)
                  rw [hst]; first | done | rfl | (simp only [List.map_append]; rfl) | (simp [tRun, tRow]; done)
                case ob3_2 =>
                  show some (T.seq _ _) = some (T.seq _ _)
                  rw [hst]; first | done | rfl | (simp only [List.map_append]; rfl) | (simp [tRun, tRow]; done)
                case ob3_3 =>
                  show some (T.seq _ _) = some (T.seq _ _)
                  rw [hst]; first | done | rfl | (simp only [List.map_append]; rfl) | (simp [tRun, tRow]; done)
              · skip   -- c3.F
                (exfalso; have hn0 : s.next.length = 0 := (by first | (simpa using hc3) | (simp at hc3; omega) | (simp at hc3; rw [hc3]; rfl)); have hre := Runs.room_empty hlm.1 hlm.2 hr h0 hn0; rw [hroom] at hre; cases hre)
            · skip   -- g2.F
              have hh : 0 < s.heap.length := by rcases Nat.eq_zero_or_pos s.heap.length with h | h; (exfalso; simp [h] at hg2); (exact h)
              have hk : Runs.minAt s.heap s.heap.length < s.heap.length := Runs.minAt_lt hh
              obtain ⟨e, he⟩ : ∃ e, s.heap[Runs.minAt s.heap s.heap.length]? = some e := ⟨_, List.getElem?_eq_getElem hk⟩
              have hst : Runs.step l m s = ⟨s.i, s.out, s.cur ++ [e], s.heap.eraseIdx (Runs.minAt s.heap s.heap.length), s.next⟩ := by rw [hst0, Runs.flow_give he]; rfl
              have hki := idxMin_pos hh
              refine SV.opN rfl rfl rfl (gle rfl) rfl rfl rfl (gle rfl) ?_
              refine SV.opN rfl rfl rfl (gle rfl) rfl rfl rfl (gle rfl) ?_
              refine SV.opN rfl rfl rfl (gle rfl) rfl rfl rfl (gle rfl) ?_
              refine SV.opN rfl rfl rfl (gle rfl) rfl rfl rfl (gle rfl) ?_
              refine SV.op (OpL.ok (nb := 1) (ok_pickF (v := V.one (.sc _)) rfl rfl rfl) rfl (gle rfl)) rfl ?_
              refine SV.op (OpL.ok (nb := 1) (ok_move (v := V.one (.sc _)) (.inr rfl) rfl) rfl (gle rfl)) rfl ?_
              refine SV.nil ?_
              refine SV.tn ?_
              refine SV.cond rfl (fun hc4 => ?_) (fun hc4 => ?_)
              · skip   -- c4.T
                cases hc4
              · skip   -- c4.F
                refine SV.seq' ?_
                refine SV.region ?_
                refine SV.op (OpL.ok (nb := 1) (ok_field_bp (b := 0) (o' := 0) (off := 0) rfl rfl fld_impl_selection_0) rfl (gle rfl)) rfl ?_
                refine SV.op (OpL.ok (nb := 1) (ok_load_bp (b := 0) (i := 0) (ag := false) (m := 1) (ys := [.hd 4]) rfl rfl rfl agg_s_impl_Row sz_s_impl_Row (fun _ => rfl) rfl rfl (gle rfl)) rfl (gle rfl)) rfl ?_
                refine SV.op (OpL.ok (nb := 1) (ok_len (lf := .hd 4) rfl elt_impl_Row.und rfl rfl) rfl (gle rfl)) rfl ?_
                refine SV.op (OpL.ok (nb := 1) (ok_s2 (x := .tmp 54) (x' := .const ((Value.int IntKind.i64 0))) (VScal.one rfl) (VScal.one rfl) (fun ρ h1 h2 w => by go_simp; (try go_bits); with_reducible rfl) rfl) rfl (gle rfl)) rfl ?_
                refine SV.op (OpL.ok (nb := 1) (ok_move (v := V.one (.sc _)) (.inr rfl) rfl) rfl (gle rfl)) rfl ?_
                refine SV.nil ?_
                refine SV.tn ?_
                refine SV.cond rfl (fun hc5 => ?_) (fun hc5 => ?_)
                · skip   -- c5.T
                  refine SV.region ?_
                  refine SV.op (ok_callH (b := 0) (ys := [.hd 4, .hd 5, .hd 6]) (L0 := [.hd 7, .hd 8, .hd 9]) (L := [(true, [.sc _, .sc _, .sc _])]) rfl rfl ⟨_, _, Try.func95, rfl, by decide⟩ (vwrite_i s.heap s.next s.cur (Runs.minAt s.heap s.heap.length) e hki he hl2 hl1) rfl rfl ⟨rfl, rfl, rfl, trivial⟩ (by simp [two]) rfl trivial rfl (gle rfl)) rfl ?_
                  refine SV.nil ?_
                  refine SV.bn ?_
                  refine SV.bn ?_
                  refine SV.tn ?_
                  refine SV.again (fun i => [0, 7, 8, 9].getD i 0) ((Runs.step l m s)) (Runs.going_next hlm.1 hlm.2 hG hd rfl) (pins hE rfl rfl) (VS.le.mk' (le_put (le_put (le_put (le_put (le_put (le_put (le_box (le_new (le_new (le_new (le_new le_nil))))) (V.le.keep (ag := false) (xs := [.sc _]) (ys := [.sc _]) rfl rfl ⟨rfl, trivial⟩)) (V.le.keep (ag := false) (xs := [.sc _]) (ys := [.sc _]) rfl rfl ⟨rfl, trivial⟩)) (V.le.keep (ag := false) (xs := [.sc _]) (ys := [.sc _]) rfl rfl ⟨rfl, trivial⟩)) (V.le.keep (ag := false) (xs := [.hd 0]) (ys := [.hd 0]) rfl rfl ⟨⟨rfl, (gle rfl), (gle rfl)⟩, trivial⟩)) (V.le.keep (ag := false) (xs := [.bp 0 0]) (ys := [.bp 0 0]) rfl rfl ⟨⟨rfl, (gle rfl)⟩, trivial⟩)) (V.le.keep (ag := false) (xs := [.ro _]) (ys := [.ro _]) rfl rfl ⟨(by first | rfl | (show Leaf.ro _ = Leaf.ro _; refine congrArg Leaf.ro (congrArg (T.seq _) ?_); (rw [hst]; first | done | rfl | (simp [List.map_drop, List.map_take, List.drop_drop, Nat.add_comm]; done) | (simp [List.map_drop, List.map_take, List.drop_drop, Nat.add_comm]; rw [List.take_of_length_le (by simp), List.tail_drop])))), trivial⟩)) ⟨⟨rfl, ⟨⟨rfl, (gle rfl), (gle rfl)⟩, ⟨rfl, (gle rfl), (gle rfl)⟩, ⟨rfl, (gle rfl), (gle rfl)⟩, trivial⟩⟩, trivial⟩ ⟨.inr ⟨_, _, rfl, ?ob4_3, (gle rfl)⟩, ⟨.inr ⟨_, _, rfl, ?ob4_2, (gle rfl)⟩, ⟨.inr ⟨_, _, rfl, ?ob4_1, (gle rfl)⟩, ⟨.inr ⟨_, _, rfl, ?ob4_0, (gle rfl)⟩, trivial⟩⟩⟩⟩ (new_ob (new_ob (new_ob (new_ob nil_ob)))) (fun i j hi hj e => inj_list (l := [0, 7, 8, 9]) (by decide) i j hi hj e))
                  case ob4_0 =>
                    show some (T.seq _ _) = some (T.seq _ _)
                    rw [hst]; first | done | rfl | (simp only [List.map_append]; rfl) | (simp [tRun, tRow]; done)
                  case ob4_1 =>
                    show some (T.seq _ _) = some (T.seq _ _)
                    rw [hst]; first | done | rfl | (simp only [List.map_append]; rfl) | (simp [tRun, tRow]; done)
                  case ob4_2 =>
                    show some (T.seq _ _) = some (T.seq _ _)
                    rw [hst]; first | done | rfl | (simp only [List.map_append]; rfl) | (simp [tRun, tRow]; done)
                  case ob4_3 =>
                    show some (T.seq _ _) = some (T.seq _ _)
                    rw [hst]; first | done | rfl | (simp only [List.map_append]; rfl) | (simp [tRun, tRow]; done)
                · skip   -- c5.F
                  (exfalso; first | (simp at hc5; done) | (simp at hc5; omega) | (simp at hc5; rw [hc5] at hh; simp at hh; done))
        · skip   -- g1.F
          have hil : ¬ s.i < l.length := by simp at hg1; omega
          have hst0 : Runs.step l m s = Runs.step.flow s := Runs.step_flow (by unfold Runs.reads; rw [List.getElem?_eq_none (by omega)])
          refine SV.opN rfl rfl rfl (gle rfl) rfl rfl rfl (gle rfl) ?_
          refine SV.opN rfl rfl rfl (gle rfl) rfl rfl rfl (gle rfl) ?_
          refine SV.opN rfl rfl rfl (gle rfl) rfl rfl rfl (gle rfl) ?_
          refine SV.opN rfl rfl rfl (gle rfl) rfl rfl rfl (gle rfl) ?_
          refine SV.opN rfl rfl rfl (gle rfl) rfl rfl rfl (gle rfl) ?_
          refine SV.op (OpL.ok (nb := 1) (ok_pickF (v := V.one (.sc _)) rfl rfl rfl) rfl (gle rfl)) rfl ?_
          refine SV.op (OpL.ok (nb := 1) (ok_move (v := V.one (.sc _)) (.inr rfl) rfl) rfl (gle rfl)) rfl ?_
          refine SV.nil ?_
          refine SV.tn ?_
          refine SV.cond rfl (fun hc6 => ?_) (fun hc6 => ?_)
          · skip   -- c6.T
            cases hc6
          · skip   -- c6.F
            refine SV.seq' ?_
            refine SV.region ?_
            refine SV.op (OpL.ok (nb := 1) (ok_field_bp (b := 0) (o' := 0) (off := 0) rfl rfl fld_impl_selection_0) rfl (gle rfl)) rfl ?_
            refine SV.op (OpL.ok (nb := 1) (ok_load_bp (b := 0) (i := 0) (ag := false) (m := 1) (ys := [.hd 1]) rfl rfl rfl agg_s_impl_Row sz_s_impl_Row (fun _ => rfl) rfl rfl (gle rfl)) rfl (gle rfl)) rfl ?_
            refine SV.op (OpL.ok (nb := 1) (ok_len (lf := .hd 1) rfl elt_impl_Row.und rfl rfl) rfl (gle rfl)) rfl ?_
            refine SV.op (OpL.ok (nb := 1) (ok_s2 (x := .tmp 39) (x' := .const ((Value.int IntKind.i64 0))) (VScal.one rfl) (VScal.one rfl) (fun ρ h1 h2 w => by go_simp; (try go_bits); with_reducible rfl) rfl) rfl (gle rfl)) rfl ?_
            refine SV.op (OpL.ok (nb := 1) (ok_move (v := V.one (.sc _)) (.inl rfl) rfl) rfl (gle rfl)) rfl ?_
            refine SV.split (d := 41) rfl (fun hg3 => ?_) (fun hg3 => ?_)
            · skip   -- g3.T
              have h0 : s.heap.length = 0 := by first | (simpa using hg3) | (simp at hg3; omega) | (simp at hg3; rw [hg3]; rfl)
              refine SV.opY (OpL.ok (nb := 1) (ok_field_bp (b := 0) (o' := 0) (off := 1) rfl rfl fld_impl_selection_1) rfl (gle rfl)) rfl rfl rfl (gle rfl) rfl rfl ?_
              refine SV.opY (OpL.ok (nb := 1) (ok_load_bp (b := 0) (i := 1) (ag := false) (m := 1) (ys := [.hd 2]) rfl rfl rfl agg_s_impl_Row sz_s_impl_Row (fun _ => rfl) rfl rfl (gle rfl)) rfl (gle rfl)) rfl rfl rfl (gle rfl) rfl rfl ?_
              refine SV.opY (OpL.ok (nb := 1) (ok_len (lf := .hd 2) rfl elt_impl_Row.und rfl rfl) rfl (gle rfl)) rfl rfl rfl (gle rfl) rfl rfl ?_
              refine SV.opY (OpL.ok (nb := 1) (ok_s2 (x := .tmp 44) (x' := .const ((Value.int IntKind.i64 0))) (VScal.one rfl) (VScal.one rfl) (fun ρ h1 h2 w => by go_simp; (try go_bits); with_reducible rfl) rfl) rfl (gle rfl)) rfl rfl rfl (gle rfl) rfl rfl ?_
              refine SV.op (OpL.ok (nb := 1) (ok_pickT (v := V.one (.sc _)) rfl rfl rfl) rfl (gle rfl)) rfl ?_
              refine SV.op (OpL.ok (nb := 1) (ok_move (v := V.one (.sc _)) (.inr rfl) rfl) rfl (gle rfl)) rfl ?_
              refine SV.nil ?_
              refine SV.tn ?_
              refine SV.cond rfl (fun hc7 => ?_) (fun hc7 => ?_)
              · skip   -- c7.T
                have hst : Runs.step l m s = ⟨s.i, s.out ++ [s.cur], [], s.next, []⟩ := by rw [hst0, Runs.flow_turn h0]; rfl
                have hn1 : 0 < s.next.length := by rcases Nat.eq_zero_or_pos s.next.length with h | h; (exfalso; simp [h] at hc7); (exact h)
                have hd : Runs.done l s = false := by unfold Runs.done; rw [decide_eq_false_iff_not]; omega
                refine SV.region ?_
                refine SV.op (OpL.ok (nb := 1) (ok_move (v := V.one (.hd 0)) (.inl rfl) rfl) rfl (gle rfl)) rfl ?_
                refine SV.op (ok_callH (b := 0) (ys := [.hd 1, .hd 2, .hd 3]) (L0 := [.hd 4, .hd 5, .hd 6]) (L := [(true, [.hd 7])]) rfl rfl ⟨_, _, Try.func94, rfl, by decide⟩ (vendrun_i s.heap s.next s.cur) rfl rfl ⟨rfl, rfl, rfl, trivial⟩ (by simp [two]) rfl trivial rfl (gle rfl)) rfl ?_
                refine SV.op (OpMk.ok (ok_lit1 (kk := 8) elt_impl_Run (ag := true) (xs := [.hd 7]) rfl rfl rfl rfl (fun h => by cases h) (outs_c rfl outs_n) (by simp [two]) rfl (gle rfl))) rfl ?_
                refine SV.op (OpMk.ok (ok_append (kk := 9) elt_impl_Run (ls := .hd 0) (lx := .hd 8) rfl rfl rfl rfl rfl rfl (by intro i h1 h2; first | (cases h1; done) | (cases h1; cases h2)) (by first | omega | (simp only [List.length_map]; omega) | (simp; done) | (simp; omega)) rfl (gle rfl))) rfl ?_
                refine SV.op (OpL.ok (nb := 1) (ok_move (v := V.one (.hd 9)) (.inr rfl) rfl) rfl (gle rfl)) rfl ?_
                refine SV.nil ?_
                refine SV.bn ?_
                refine SV.bn ?_
                refine SV.tn ?_
                refine SV.again (fun i => [9, 4, 5, 6].getD i 0) ((Runs.step l m s)) (Runs.going_next hlm.1 hlm.2 hG hd rfl) (pins hE rfl rfl) (VS.le.mk' (le_put (le_put (le_put (le_put (le_put (le_put (le_box (le_new (le_new (le_new (le_new le_nil))))) (V.le.keep (ag := false) (xs := [.sc _]) (ys := [.sc _]) rfl rfl ⟨rfl, trivial⟩)) (V.le.keep (ag := false) (xs := [.sc _]) (ys := [.sc _]) rfl rfl ⟨rfl, trivial⟩)) (V.le.keep (ag := false) (xs := [.sc _]) (ys := [.sc _]) rfl rfl ⟨rfl, trivial⟩)) (V.le.keep (ag := false) (xs := [.hd 9]) (ys := [.hd 0]) rfl rfl ⟨⟨rfl, (gle rfl), (gle rfl)⟩, trivial⟩)) (V.le.keep (ag := false) (xs := [.bp 0 0]) (ys := [.bp 0 0]) rfl rfl ⟨⟨rfl, (gle rfl)⟩, trivial⟩)) (V.le.keep (ag := false) (xs := [.ro _]) (ys := [.ro _]) rfl rfl ⟨(by first | rfl | (show Leaf.ro _ = Leaf.ro _; refine congrArg Leaf.ro (congrArg (T.seq _) ?_); (rw [hst]; first | done | rfl | (simp [List.map_drop, List.map_take, List.drop_drop, Nat.add_comm]; done) | (simp [List.map_drop, List.map_take, List.drop_drop, Nat.add_comm]; rw [List.take_of_length_le (by simp), List.tail_drop])))), trivial⟩)) ⟨⟨rfl, ⟨⟨rfl, (gle rfl), (gle rfl)⟩, ⟨rfl, (gle rfl), (gle rfl)⟩, ⟨rfl, (gle rfl), (gle rfl)⟩, trivial⟩⟩, trivial⟩ ⟨.inr ⟨_, _, rfl, ?ob5_3, (gle rfl)⟩, ⟨.inr ⟨_, _, rfl, ?ob5_2, (gle rfl)⟩, ⟨.inr ⟨_, _, rfl, ?ob5_1, (gle rfl)⟩, ⟨.inr ⟨_, _, rfl, ?ob5_0, (gle rfl)⟩, trivial⟩⟩⟩⟩ (new_ob (new_ob (new_ob (new_ob nil_ob)))) (fun i j hi hj e => inj_list (l := [9, 4, 5, 6]) (by decide) i j hi hj e))
                case ob5_0 =>
                  show some (T.seq _ _) = some (T.seq _ _)
                  rw [hst]; first | done | rfl | (simp only [List.map_append]; rfl) | (simp [tRun, tRow]; done)
                case ob5_1 =>
                  show some (T.seq _ _) = some (T.seq _ _)
                  rw [hst]; first | done | rfl | (simp only [List.map_append]; rfl) | (simp [tRun, tRow]; done)
                case ob5_2 =>
                  show some (T.seq _ _) = some (T.seq _ _)
                  rw [hst]; first | done | rfl | (simp only [List.map_append]; rfl) | (simp [tRun, tRow]; done)
                case ob5_3 =>
                  show some (T.seq _ _) = some (T.seq _ _)
                  rw [hst]; first | done | rfl | (simp only [List.map_append]; rfl) | (simp [tRun, tRow]; done)
              · skip   -- c7.F
                have hn0 : s.next.length = 0 := by first | (simpa using hc7) | (simp at hc7; omega) | (simp at hc7; rw [hc7]; rfl)
                have hd : Runs.done l s = true := by unfold Runs.done; rw [decide_eq_true_eq]; omega
                have hb0 := Runs.going_end hcan hG hd
                refine SV.seq' ?_
                refine SV.region ?_
                refine SV.op (OpL.ok (nb := 1) (ok_field_bp (b := 0) (o' := 0) (off := 0) rfl rfl fld_impl_selection_0) rfl (gle rfl)) rfl ?_
                refine SV.op (OpL.ok (nb := 1) (ok_load_bp (b := 0) (i := 0) (ag := false) (m := 1) (ys := [.hd 1]) rfl rfl rfl agg_s_impl_Row sz_s_impl_Row (fun _ => rfl) rfl rfl (gle rfl)) rfl (gle rfl)) rfl ?_
                refine SV.op (OpL.ok (nb := 1) (ok_len (lf := .hd 1) rfl elt_impl_Row.und rfl rfl) rfl (gle rfl)) rfl ?_
                refine SV.op (OpL.ok (nb := 1) (ok_s2 (x := .tmp 54) (x' := .const ((Value.int IntKind.i64 0))) (VScal.one rfl) (VScal.one rfl) (fun ρ h1 h2 w => by go_simp; (try go_bits); with_reducible rfl) rfl) rfl (gle rfl)) rfl ?_
                refine SV.op (OpL.ok (nb := 1) (ok_move (v := V.one (.sc _)) (.inr rfl) rfl) rfl (gle rfl)) rfl ?_
                refine SV.nil ?_
                refine SV.tn ?_
                refine SV.cond rfl (fun hc8 => ?_) (fun hc8 => ?_)
                · skip   -- c8.T
                  (exfalso; first | (simp at hc8; omega) | (simp [h0] at hc8; done))
                · skip   -- c8.F
                  refine SV.seq' ?_
                  refine SV.region ?_
                  refine SV.op (OpL.ok (nb := 1) (ok_field_bp (b := 0) (o' := 0) (off := 2) rfl rfl fld_impl_selection_2) rfl (gle rfl)) rfl ?_
                  refine SV.op (OpL.ok (nb := 1) (ok_load_bp (b := 0) (i := 2) (ag := false) (m := 1) (ys := [.hd 3]) rfl rfl rfl agg_s_impl_Row sz_s_impl_Row (fun _ => rfl) rfl rfl (gle rfl)) rfl (gle rfl)) rfl ?_
                  refine SV.op (OpL.ok (nb := 1) (ok_len (lf := .hd 3) rfl elt_impl_Row.und rfl rfl) rfl (gle rfl)) rfl ?_
                  refine SV.op (OpL.ok (nb := 1) (ok_s2 (x := .tmp 60) (x' := .const ((Value.int IntKind.i64 0))) (VScal.one rfl) (VScal.one rfl) (fun ρ h1 h2 w => by go_simp; (try go_bits); with_reducible rfl) rfl) rfl (gle rfl)) rfl ?_
                  refine SV.op (OpL.ok (nb := 1) (ok_move (v := V.one (.sc _)) (.inr rfl) rfl) rfl (gle rfl)) rfl ?_
                  refine SV.nil ?_
                  refine SV.tn ?_
                  refine SV.cond rfl (fun hc9 => ?_) (fun hc9 => ?_)
                  · skip   -- c9.T
                    have hcl : s.cur.length ≠ 0 := by intro h; simp [h] at hc9
                    have hb : Runs.build l m = s.out ++ [s.cur] := by rw [hb0]; unfold Runs.fin; rw [if_neg hcl]
                    refine SV.seq' ?_
                    refine SV.region ?_
                    refine SV.op (OpL.ok (nb := 1) (ok_move (v := V.one (.hd 0)) (.inl rfl) rfl) rfl (gle rfl)) rfl ?_
                    refine SV.op (ok_callH (b := 0) (ys := [.hd 1, .hd 2, .hd 3]) (L0 := [.hd 4, .hd 5, .hd 6]) (L := [(true, [.hd 7])]) rfl rfl ⟨_, _, Try.func94, rfl, by decide⟩ (vendrun_i s.heap s.next s.cur) rfl rfl ⟨rfl, rfl, rfl, trivial⟩ (by simp [two]) rfl trivial rfl (gle rfl)) rfl ?_
                    refine SV.op (OpMk.ok (ok_lit1 (kk := 8) elt_impl_Run (ag := true) (xs := [.hd 7]) rfl rfl rfl rfl (fun h => by cases h) (outs_c rfl outs_n) (by simp [two]) rfl (gle rfl))) rfl ?_
                    refine SV.op (OpMk.ok (ok_append (kk := 9) elt_impl_Run (ls := .hd 0) (lx := .hd 8) rfl rfl rfl rfl rfl rfl (by intro i h1 h2; first | (cases h1; done) | (cases h1; cases h2)) (by first | omega | (simp only [List.length_map]; omega) | (simp; done) | (simp; omega)) rfl (gle rfl))) rfl ?_
                    refine SV.op (OpL.ok (nb := 1) (ok_move (v := V.one (.hd 9)) (.inr rfl) rfl) rfl (gle rfl)) rfl ?_
                    refine SV.op (OpL.ok (nb := 1) (ok_move (v := V.one (.sc _)) (.inr rfl) rfl) rfl (gle rfl)) rfl ?_
                    refine SV.nil ?_
                    refine SV.tn ?_
                    refine SV.ret ?_
                    refine SV.br ?_
                    refine SV.br ?_
                    refine SV.tr ?_
                    refine SV.br ?_
                    apply SV.done (hf := Try.results35) (ht := rfl) (he := .inl rfl)
                    case hr => exact (ResAll.cons (ResOk.tmp (ag := false) (xs := [.hd 9]) rfl) (ResAll.cons (ResOk.tmp (ag := false) (xs := [.sc _]) rfl) ResAll.nil'))
                    case h2 => simp [two]
                    refine ⟨rfl, ⟨?_, trivial⟩, ⟨rfl, ⟨?_, trivial⟩, trivial⟩⟩ <;> first | rfl | (rw [hb]; rfl) | ((show some (T.seq _ _) = some (T.seq _ _); refine congrArg (fun z => some (T.seq _ z)) ?_; rw [hb]; first | done | rfl | (simp [tRun]; done))) | ((show some (T.lit (Value.bool _)) = some (T.lit (Value.bool _)); refine congrArg (fun z => some (T.lit (Value.bool z))) ?_; rw [hno])) | ((show some (T.lit (Value.bool _)) = some (T.lit (Value.bool _)); refine congrArg (fun z => some (T.lit (Value.bool z))) ?_; rw [hcan]))
                  · skip   -- c9.F
                    have hcl : s.cur.length = 0 := by first | (simpa using hc9) | (simp at hc9; omega) | (simp at hc9; rw [hc9]; rfl)
                    have hb : Runs.build l m = s.out := by rw [hb0]; unfold Runs.fin; rw [if_pos hcl]
                    refine SV.seq' ?_
                    refine SV.region ?_
                    refine SV.op (OpL.ok (nb := 1) (ok_move (v := V.one (.hd 0)) (.inl rfl) rfl) rfl (gle rfl)) rfl ?_
                    refine SV.op (OpL.ok (nb := 1) (ok_move (v := V.one (.hd 0)) (.inr rfl) rfl) rfl (gle rfl)) rfl ?_
                    refine SV.op (OpL.ok (nb := 1) (ok_move (v := V.one (.sc _)) (.inr rfl) rfl) rfl (gle rfl)) rfl ?_
                    refine SV.nil ?_
                    refine SV.tn ?_
                    refine SV.ret ?_
                    refine SV.br ?_
                    refine SV.br ?_
                    refine SV.tr ?_
                    refine SV.br ?_
                    apply SV.done (hf := Try.results35) (ht := rfl) (he := .inl rfl)
                    case hr => exact (ResAll.cons (ResOk.tmp (ag := false) (xs := [.hd 0]) rfl) (ResAll.cons (ResOk.tmp (ag := false) (xs := [.sc _]) rfl) ResAll.nil'))
                    case h2 => simp [two]
                    refine ⟨rfl, ⟨?_, trivial⟩, ⟨rfl, ⟨?_, trivial⟩, trivial⟩⟩ <;> first | rfl | (rw [hb]; rfl) | ((show some (T.seq _ _) = some (T.seq _ _); refine congrArg (fun z => some (T.seq _ z)) ?_; rw [hb]; first | done | rfl | (simp [tRun]; done))) | ((show some (T.lit (Value.bool _)) = some (T.lit (Value.bool _)); refine congrArg (fun z => some (T.lit (Value.bool z))) ?_; rw [hno])) | ((show some (T.lit (Value.bool _)) = some (T.lit (Value.bool _)); refine congrArg (fun z => some (T.lit (Value.bool z))) ?_; rw [hcan]))
            · skip   -- g3.F
              have hh : 0 < s.heap.length := by rcases Nat.eq_zero_or_pos s.heap.length with h | h; (exfalso; simp [h] at hg3); (exact h)
              have hk : Runs.minAt s.heap s.heap.length < s.heap.length := Runs.minAt_lt hh
              obtain ⟨e, he⟩ : ∃ e, s.heap[Runs.minAt s.heap s.heap.length]? = some e := ⟨_, List.getElem?_eq_getElem hk⟩
              have hst : Runs.step l m s = ⟨s.i, s.out, s.cur ++ [e], s.heap.eraseIdx (Runs.minAt s.heap s.heap.length), s.next⟩ := by rw [hst0, Runs.flow_give he]; rfl
              have hki := idxMin_pos hh
              have hd : Runs.done l s = false := by unfold Runs.done; rw [decide_eq_false_iff_not]; omega
              refine SV.opN rfl rfl rfl (gle rfl) rfl rfl rfl (gle rfl) ?_
              refine SV.opN rfl rfl rfl (gle rfl) rfl rfl rfl (gle rfl) ?_
              refine SV.opN rfl rfl rfl (gle rfl) rfl rfl rfl (gle rfl) ?_
              refine SV.opN rfl rfl rfl (gle rfl) rfl rfl rfl (gle rfl) ?_
              refine SV.op (OpL.ok (nb := 1) (ok_pickF (v := V.one (.sc _)) rfl rfl rfl) rfl (gle rfl)) rfl ?_
              refine SV.op (OpL.ok (nb := 1) (ok_move (v := V.one (.sc _)) (.inr rfl) rfl) rfl (gle rfl)) rfl ?_
              refine SV.nil ?_
              refine SV.tn ?_
              refine SV.cond rfl (fun hc10 => ?_) (fun hc10 => ?_)
              · skip   -- c10.T
                cases hc10
              · skip   -- c10.F
                refine SV.seq' ?_
                refine SV.region ?_
                refine SV.op (OpL.ok (nb := 1) (ok_field_bp (b := 0) (o' := 0) (off := 0) rfl rfl fld_impl_selection_0) rfl (gle rfl)) rfl ?_
                refine SV.op (OpL.ok (nb := 1) (ok_load_bp (b := 0) (i := 0) (ag := false) (m := 1) (ys := [.hd 1]) rfl rfl rfl agg_s_impl_Row sz_s_impl_Row (fun _ => rfl) rfl rfl (gle rfl)) rfl (gle rfl)) rfl ?_
                refine SV.op (OpL.ok (nb := 1) (ok_len (lf := .hd 1) rfl elt_impl_Row.und rfl rfl) rfl (gle rfl)) rfl ?_
                refine SV.op (OpL.ok (nb := 1) (ok_s2 (x := .tmp 54) (x' := .const ((Value.int IntKind.i64 0))) (VScal.one rfl) (VScal.one rfl) (fun ρ h1 h2 w => by go_simp; (try go_bits); with_reducible rfl) rfl) rfl (gle rfl)) rfl ?_
                refine SV.op (OpL.ok (nb := 1) (ok_move (v := V.one (.sc _)) (.inr rfl) rfl) rfl (gle rfl)) rfl ?_
                refine SV.nil ?_
                refine SV.tn ?_
                refine SV.cond rfl (fun hc11 => ?_) (fun hc11 => ?_)
                · skip   -- c11.T
                  refine SV.region ?_
                  refine SV.op (ok_callH (b := 0) (ys := [.hd 1, .hd 2, .hd 3]) (L0 := [.hd 4, .hd 5, .hd 6]) (L := [(true, [.sc _, .sc _, .sc _])]) rfl rfl ⟨_, _, Try.func95, rfl, by decide⟩ (vwrite_i s.heap s.next s.cur (Runs.minAt s.heap s.heap.length) e hki he hl2 hl1) rfl rfl ⟨rfl, rfl, rfl, trivial⟩ (by simp [two]) rfl trivial rfl (gle rfl)) rfl ?_
                  refine SV.nil ?_
                  refine SV.bn ?_
                  refine SV.bn ?_
                  refine SV.tn ?_
                  refine SV.again (fun i => [0, 4, 5, 6].getD i 0) ((Runs.step l m s)) (Runs.going_next hlm.1 hlm.2 hG hd rfl) (pins hE rfl rfl) (VS.le.mk' (le_put (le_put (le_put (le_put (le_put (le_put (le_box (le_new (le_new (le_new (le_new le_nil))))) (V.le.keep (ag := false) (xs := [.sc _]) (ys := [.sc _]) rfl rfl ⟨rfl, trivial⟩)) (V.le.keep (ag := false) (xs := [.sc _]) (ys := [.sc _]) rfl rfl ⟨rfl, trivial⟩)) (V.le.keep (ag := false) (xs := [.sc _]) (ys := [.sc _]) rfl rfl ⟨rfl, trivial⟩)) (V.le.keep (ag := false) (xs := [.hd 0]) (ys := [.hd 0]) rfl rfl ⟨⟨rfl, (gle rfl), (gle rfl)⟩, trivial⟩)) (V.le.keep (ag := false) (xs := [.bp 0 0]) (ys := [.bp 0 0]) rfl rfl ⟨⟨rfl, (gle rfl)⟩, trivial⟩)) (V.le.keep (ag := false) (xs := [.ro _]) (ys := [.ro _]) rfl rfl ⟨(by first | rfl | (show Leaf.ro _ = Leaf.ro _; refine congrArg Leaf.ro (congrArg (T.seq _) ?_); (rw [hst]; first | done | rfl | (simp [List.map_drop, List.map_take, List.drop_drop, Nat.add_comm]; done) | (simp [List.map_drop, List.map_take, List.drop_drop, Nat.add_comm]; rw [List.take_of_length_le (by simp), List.tail_drop])))), trivial⟩)) ⟨⟨rfl, ⟨⟨rfl, (gle rfl), (gle rfl)⟩, ⟨rfl, (gle rfl), (gle rfl)⟩, ⟨rfl, (gle rfl), (gle rfl)⟩, trivial⟩⟩, trivial⟩ ⟨.inr ⟨_, _, rfl, ?ob6_3, (gle rfl)⟩, ⟨.inr ⟨_, _, rfl, ?ob6_2, (gle rfl)⟩, ⟨.inr ⟨_, _, rfl, ?ob6_1, (gle rfl)⟩, ⟨.inr ⟨_, _, rfl, ?ob6_0, (gle rfl)⟩, trivial⟩⟩⟩⟩ (new_ob (new_ob (new_ob (new_ob nil_ob)))) (fun i j hi hj e => inj_list (l := [0, 4, 5, 6]) (by decide) i j hi hj e))
                  case ob6_0 =>
                    show some (T.seq _ _) = some (T.seq _ _)
                    rw [hst]; first | done | rfl | (simp only [List.map_append]; rfl) | (simp [tRun, tRow]; done)
                  case ob6_1 =>
                    show some (T.seq _ _) = some (T.seq _ _)
                    rw [hst]; first | done | rfl | (simp only [List.map_append]; rfl) | (simp [tRun, tRow]; done)
                  case ob6_2 =>
                    show some (T.seq _ _) = some (T.seq _ _)
                    rw [hst]; first | done | rfl | (simp only [List.map_append]; rfl) | (simp [tRun, tRow]; done)
                  case ob6_3 =>
                    show some (T.seq _ _) = some (T.seq _ _)
                    rw [hst]; first | done | rfl | (simp only [List.map_append]; rfl) | (simp [tRun, tRow]; done)
                · skip   -- c11.F
                  (exfalso; first | (simp at hc11; done) | (simp at hc11; omega) | (simp at hc11; rw [hc11] at hh; simp at hh; done))
end Go.Proofs.Ytpnbnbhifpcelaa
/- Runs: their weights; the answer's size: told by trees. -/
namespace Go.Proofs.Ytpnbnbhifpcelaa
open Go Go.RowKit V
set_option linter.unusedVariables false
theorem flat_small {X : List (List R)} {n : Nat} (h : ∀ p ∈ X, p.length ≤ n) : X.flatten.length ≤ n * X.length := by
  induction X with
  | nil => simp
  | cons p X ih =>
    have h1 := h p (List.mem_cons_self ..)
    have h2 := ih fun q hq => h q (List.mem_cons_of_mem _ hq)
    rw [List.flatten_cons, List.length_append, List.length_cons, Nat.mul_succ]
    omega
theorem build_small {l : List R} {m : Int} (hW : ∀ r ∈ l, r.wf) : (∀ p ∈ Runs.build l m, ∀ r ∈ p, r.wf) ∧ (∀ p ∈ Runs.build l m, p.length ≤ l.length) ∧ (Runs.build l m).length ≤ l.length ∧ (Runs.build l m).flatten.length ≤ l.length := by
  cases hc : Runs.can l m with
  | false =>
    have hb : Runs.build l m = [] := by unfold Runs.build; rw [if_neg (by rw [hc]; decide)]
    rw [hb]
    exact ⟨fun p hp => (by cases hp), fun p hp => (by cases hp), Nat.zero_le _, Nat.zero_le _⟩
  | true =>
    obtain ⟨hp, hr, -, -⟩ := Runs.build_facts hc
    have hl := hp.length_eq
    refine ⟨fun p h r hr2 => hW r (hp.mem_iff.1 (List.mem_flatten.2 ⟨p, h, hr2⟩)), fun p h => hl ▸ Runs.mem_len h, ?_, Nat.le_of_eq hl⟩
    rw [← hl]
    generalize Runs.build l m = X at hr
    clear hp hl
    induction X with
    | nil => simp
    | cons p X ih =>
      have hp := (hr p (List.mem_cons_self ..)).1
      have := ih fun q hq => hr q (List.mem_cons_of_mem _ hq)
      rw [List.flatten_cons, List.length_append, List.length_cons]
      omega
theorem runs_wt (X : List (List R)) : wtRuns X = X.length + X.flatten.length := by
  unfold wtRuns wtAll
  congr 1
  induction X with
  | nil => rfl
  | cons p X ih =>
    rw [List.map_cons, List.sum_cons, List.flatten_cons, List.length_append, ih]
    rfl
theorem runs_wt_in {X : List (List R)} {p : List R} (hp : p ∈ X) : p.length ≤ wtRuns X := by
  have := Runs.mem_len hp
  rw [runs_wt]
  omega
end Go.Proofs.Ytpnbnbhifpcelaa
/- Merging runs: two lists into one, a pass, the passes; how many there are; no function of program or reference is walked here. -/
namespace Go.Proofs.Ytpnbnbhifpcelaa
open Go.RowKit
set_option linter.unusedVariables false
namespace Runs
/-! ### Two lists -/
def merge2 (a b : List R) : List R := a.merge b R.leb
theorem merge2_nil (b : List R) : merge2 [] b = b := by unfold merge2; exact List.nil_merge ..
theorem merge2_none (a : List R) : merge2 a [] = a := by unfold merge2; exact List.merge_right ..
theorem merge2_le {a b : List R} {x y : R} (h : R.cmp x y ≤ 0) : merge2 (x :: a) (y :: b) = x :: merge2 a (y :: b) := by
  unfold merge2
  exact List.cons_merge_cons_pos R.leb a b (R.leb_iff.2 h)
theorem merge2_gt {a b : List R} {x y : R} (h : ¬ R.cmp x y ≤ 0) : merge2 (x :: a) (y :: b) = y :: merge2 (x :: a) b := by
  unfold merge2
  exact List.cons_merge_cons_neg R.leb a b (fun hh => h (R.leb_iff.1 hh))
theorem merge2_perm (a b : List R) : (merge2 a b).Perm (a ++ b) := List.merge_perm_append R.leb
theorem merge2_length (a b : List R) : (merge2 a b).length = a.length + b.length := by rw [(merge2_perm a b).length_eq, List.length_append]
theorem merge2_asc {a b : List R} (ha : a.Pairwise fun x y => R.leb x y = true) (hb : b.Pairwise fun x y => R.leb x y = true) : (merge2 a b).Pairwise fun x y => R.leb x y = true :=
  List.pairwise_merge (le := R.leb) (fun a b c h h' => R.leb_iff.2 (R.cmp_trans (R.leb_iff.1 h) (R.leb_iff.1 h'))) (fun a b => by
    rcases R.cmp_total a b with h | h
    · simp [R.leb_iff.2 h]
    · simp [R.leb_iff.2 h]) a b ha hb
theorem drop_at {α : Type} {l : List α} {i : Nat} {x : α} (h : l[i]? = some x) : l.drop i = x :: l.drop (i + 1) := by
  have hi : i < l.length := getlt h
  rw [List.getElem?_eq_getElem hi] at h
  rw [List.drop_eq_getElem_cons hi, Option.some.inj h]
theorem m_last {a b : List R} {i k : Nat} {x : R} (h : a[i]? = some x) (hk : b.length ≤ k) : merge2 (a.drop i) (b.drop k) = x :: merge2 (a.drop (i + 1)) (b.drop k) := by
  rw [List.drop_eq_nil_of_le hk, merge2_none, merge2_none, drop_at h]
theorem m_left {a b : List R} {i k : Nat} {x y : R} (h : a[i]? = some x) (h' : b[k]? = some y) (hc : R.cmp x y ≤ 0) : merge2 (a.drop i) (b.drop k) = x :: merge2 (a.drop (i + 1)) (b.drop k) := by
  rw [drop_at h, drop_at h', merge2_le hc]
theorem m_right {a b : List R} {i k : Nat} {x y : R} (h : a[i]? = some x) (h' : b[k]? = some y) (hc : ¬ R.cmp x y ≤ 0) : merge2 (a.drop i) (b.drop k) = y :: merge2 (a.drop i) (b.drop (k + 1)) := by
  rw [drop_at h, drop_at h', merge2_gt hc]
theorem m_rest {a b : List R} {i k : Nat} {y : R} (hi : a.length ≤ i) (h' : b[k]? = some y) : merge2 (a.drop i) (b.drop k) = y :: merge2 (a.drop i) (b.drop (k + 1)) := by
  rw [List.drop_eq_nil_of_le hi, merge2_nil, merge2_nil, drop_at h']
/-! ### A pass -/
def pass : List (List R) → List (List R)
  | [] => []
  | [p] => [p]
  | p :: q :: X => merge2 p q :: pass X
theorem pass_len : ∀ X : List (List R), (pass X).length = (X.length + 1) / 2
  | [] => rfl
  | [p] => by simp [pass]
  | p :: q :: X => by
    have := pass_len X
    simp only [pass, List.length_cons] at this ⊢
    omega
theorem pass_perm : ∀ X : List (List R), (pass X).flatten.Perm X.flatten
  | [] => List.Perm.refl _
  | [p] => List.Perm.refl _
  | p :: q :: X => by
    have := pass_perm X
    simp only [pass, List.flatten_cons]
    rw [← List.append_assoc]
    exact (merge2_perm p q).append this
theorem pass_asc : ∀ {X : List (List R)}, (∀ p ∈ X, p.Pairwise fun x y => R.leb x y = true) → ∀ p ∈ pass X, p.Pairwise fun x y => R.leb x y = true
  | [], _, p, hp => by simp [pass] at hp
  | [q], h, p, hp => h p hp
  | q :: r :: X, h, p, hp => by
    simp only [pass] at hp
    rcases List.mem_cons.1 hp with rfl | hp
    · exact merge2_asc (h q (by simp)) (h r (by simp))
    · exact pass_asc (fun z hz => h z (by simp [hz])) p hp
theorem pass_end {X : List (List R)} {i : Nat} {p : List R} (h : X[i]? = some p) (hi : i + 1 = X.length) : pass (X.drop i) = [p] := by
  rw [drop_at h, List.drop_eq_nil_of_le (by omega)]
  rfl
theorem pass_two {X : List (List R)} {i : Nat} {p q : List R} (h : X[i]? = some p) (h' : X[i + 1]? = some q) : pass (X.drop i) = merge2 p q :: pass (X.drop (i + 2)) := by
  rw [drop_at h, drop_at h']
  rfl
/-! ### The passes -/
def passes (X : List (List R)) : Nat → List (List R)
  | 0 => X
  | t + 1 => pass (passes X t)
def npass (L : Nat) : Nat := if h : L ≤ 1 then 0 else npass ((L + 1) / 2) + 1
termination_by L
decreasing_by omega
theorem npass_le {L : Nat} (h : L ≤ 1) : npass L = 0 := by rw [npass, dif_pos h]
theorem npass_gt {L : Nat} (h : 1 < L) : npass L = npass ((L + 1) / 2) + 1 := by rw [npass, dif_neg (by omega)]
def allIn (X : List (List R)) : List R := (passes X (npass X.length)).flatten
theorem passes_perm (X : List (List R)) : ∀ t, (passes X t).flatten.Perm X.flatten
  | 0 => List.Perm.refl _
  | t + 1 => (pass_perm _).trans (passes_perm X t)
theorem passes_asc {X : List (List R)} (h : ∀ p ∈ X, p.Pairwise fun x y => R.leb x y = true) : ∀ t, ∀ p ∈ passes X t, p.Pairwise fun x y => R.leb x y = true
  | 0 => h
  | t + 1 => pass_asc (passes_asc h t)
theorem npass_step {X : List (List R)} {t : Nat} (h : npass X.length = t + npass (passes X t).length) (h1 : 1 < (passes X t).length) : npass X.length = t + 1 + npass (passes X (t + 1)).length := by
  rw [h, npass_gt h1, show passes X (t + 1) = pass (passes X t) from rfl, pass_len]
  omega
theorem npass_done {X : List (List R)} {t : Nat} (h : npass X.length = t + npass (passes X t).length) (h1 : (passes X t).length ≤ 1) : npass X.length = t := by
  rw [h, npass_le h1]
  rfl
theorem passes_inv (X : List (List R)) : ∀ t, t ≤ npass X.length → npass X.length = t + npass (passes X t).length
  | 0, _ => by rw [Nat.zero_add]; rfl
  | t + 1, h => by
    have h0 := passes_inv X t (by omega)
    rcases Nat.lt_or_ge 1 (passes X t).length with h1 | h1
    · exact npass_step h0 h1
    · have := npass_done h0 h1
      omega
theorem passes_one (X : List (List R)) : (passes X (npass X.length)).length ≤ 1 := by
  have h := passes_inv X _ (Nat.le_refl _)
  rcases Nat.lt_or_ge 1 (passes X (npass X.length)).length with h1 | h1
  · rw [npass_gt h1] at h
    omega
  · exact h1
theorem allIn_perm (X : List (List R)) : (allIn X).Perm X.flatten := passes_perm X _
theorem allIn_sort {X : List (List R)} (h : ∀ p ∈ X, p.Pairwise fun x y => R.leb x y = true) : allIn X = R.sort X.flatten := by
  refine R.sort_unique (allIn_perm X) ?_
  have h1 := passes_one X
  have h2 := passes_asc h (npass X.length)
  unfold allIn
  generalize passes X (npass X.length) = Y at h1 h2
  match Y, h1, h2 with
  | [], _, _ => exact List.Pairwise.nil
  | [p], _, h2 => simpa using h2 p (by simp)
  | p :: q :: Y, h1, _ => simp at h1
theorem okRuns_asc {X : List (List R)} (h : okRuns X = true) : ∀ p ∈ X, p.Pairwise fun x y => R.leb x y = true := fun p hp => by
  have h1 := List.all_eq_true.1 h p hp
  unfold okRun at h1
  rw [Bool.and_eq_true, Bool.and_eq_true] at h1
  exact R.asc_pairwise.1 h1.2.1
/-! ### How often one is doubled -/
def dbl (n : Int) : Nat → Nat → Nat
  | 0, k => k
  | f + 1, k => if (2 : Int) ^ k < n then dbl n f (k + 1) else k
def mpass (n : Int) : Nat := dbl n 40 0
theorem dbl_go {n : Int} {k : Nat} (hk : k < 40) (h : (2 : Int) ^ k < n) : dbl n (40 - k) k = dbl n (40 - (k + 1)) (k + 1) := by
  have e : 40 - k = (40 - (k + 1)) + 1 := by omega
  rw [e, dbl, if_pos h]
theorem dbl_stop {n : Int} {k : Nat} (hk : k ≤ 40) (h : k = 40 ∨ ¬ (2 : Int) ^ k < n) : dbl n (40 - k) k = k := by
  rcases Nat.lt_or_ge k 40 with h1 | h1
  · have e : 40 - k = (40 - (k + 1)) + 1 := by omega
    rw [e, dbl, if_neg (by rcases h with h | h; (omega); (exact h))]
  · rw [show 40 - k = 0 by omega]; rfl
theorem mpass_eq {n : Int} {k : Nat} (hk : k ≤ 40) (hl : ∀ u, u < k → (2 : Int) ^ u < n) (hn : n ≤ (2 : Int) ^ k) : mpass n = k := by
  have key : ∀ u, u ≤ k → mpass n = dbl n (40 - u) u := by
    intro u
    induction u with
    | zero => intro _; rfl
    | succ u ih => intro h; rw [ih (by omega), dbl_go (by omega) (hl u (by omega))]
  rw [key k (Nat.le_refl _), dbl_stop hk (.inr (by omega))]
theorem npass_pow (L : Nat) : L ≤ 2 ^ npass L ∧ ∀ u, u < npass L → 2 ^ u < L := by
  induction L using Nat.strongRecOn with
  | _ L ih =>
    rcases Nat.lt_or_ge 1 L with h | h
    · obtain ⟨h1, h2⟩ := ih ((L + 1) / 2) (by omega)
      rw [npass_gt h, Nat.pow_succ]
      refine ⟨by omega, fun u hu => ?_⟩
      cases u with
      | zero => rw [Nat.pow_zero]; exact h
      | succ v =>
        have := h2 v (by omega)
        rw [Nat.pow_succ]
        omega
    · rw [npass_le h]
      exact ⟨by rw [Nat.pow_zero]; exact h, fun u hu => absurd hu (Nat.not_lt_zero u)⟩
theorem npass_mpass {L : Nat} (h : L ≤ 1099511627776) : mpass (L : Int) = npass L := by
  obtain ⟨h1, h2⟩ := npass_pow L
  refine mpass_eq ?_ (fun u hu => by have := h2 u hu; exact_mod_cast this) (by exact_mod_cast h1)
  rcases Nat.lt_or_ge 40 (npass L) with h3 | h3
  · have := h2 40 h3
    have e : (2 : Nat) ^ 40 = 1099511627776 := by decide
    omega
  · exact h3
end Runs
end Go.Proofs.Ytpnbnbhifpcelaa
/- The reference's MergeSorted: told by trees. -/
namespace Go.Proofs.Ytpnbnbhifpcelaa
open Go Go.RowKit V
set_option linter.unusedVariables false
set_option maxRecDepth 100000 in
set_option maxHeartbeats 2000000 in
theorem vms_s (a b : List R) (hL : a.length + b.length ≤ 1000000000) : VC Try.prog 39 [(false, [.seq 72 ((a).map tRow)]), (false, [.seq 72 ((b).map tRow)])] false [(false, [.seq 72 ((Runs.merge2 a b).map tRow)])] := by
  refine VC.enter Try.func39 rfl Try.ntmps39 (gle rfl) fun E hE => ?_
  refine SV.seq' ?_
  refine SV.region ?_
  refine SV.op (OpL.ok (nb := 0) (ok_move (v := V.one (.sc _)) (.inr rfl) rfl) rfl (gle rfl)) rfl ?_
  refine SV.nil ?_
  refine SV.tn ?_
  refine SV.seq' ?_
  refine SV.region ?_
  refine SV.op (OpMk.ok (ok_lit0 (kk := 0) elt_impl_Row rfl rfl rfl (gle rfl))) rfl ?_
  refine SV.op (OpL.ok (nb := 0) (ok_move (v := V.one (.hd 0)) (.inr rfl) rfl) rfl (gle rfl)) rfl ?_
  refine SV.nil ?_
  refine SV.tn ?_
  refine SV.seq' ?_
  refine SV.region ?_
  refine SV.op (OpL.ok (nb := 0) (ok_move (v := V.one (.sc _)) (.inr rfl) rfl) rfl (gle rfl)) rfl ?_
  refine SV.nil ?_
  refine SV.tn ?_
  refine SV.seq' ?_
  refine SV.region ?_
  refine SV.op (OpL.ok (nb := 0) (ok_move (v := V.one (.sc _)) (.inr rfl) rfl) rfl (gle rfl)) rfl ?_
  refine SV.nil ?_
  refine SV.tn ?_
  refine SV.seq' ?_
  refine SV.block ?_
  refine SV.loopF (X := Nat × Nat × List R) (fun (σ : VS) z => (((((((VS.nil.new (.seq 72 (z.2.2.map tRow))).put 0 (σ.tm 0)).put 1 (σ.tm 1)).put 4 (σ.tm 4)).put 5 (V.flat false [.hd 0])).put 6 (V.flat false [.sc (.int .i64 ((z.1 : Int)))])).put 7 (V.flat false [.sc (.int .i64 ((z.2.1 : Int)))]))) (fun z => z.1 ≤ a.length ∧ z.2.1 ≤ b.length ∧ z.2.2 ++ Runs.merge2 (a.drop z.1) (b.drop z.2.1) = Runs.merge2 a b) (fun z => (a.length - z.1) + (b.length - z.2.1)) ?_ ?_
  · skip
    refine SV.again (fun i => [0].getD i 0) (0, 0, []) (⟨Nat.zero_le _, Nat.zero_le _, rfl⟩) (pins hE rfl rfl) (VS.le.mk' (le_put (le_put (le_put (le_put (le_put (le_put (le_new le_nil) (V.le.keep (ag := false) (xs := [.ro _]) (ys := [.ro _]) rfl rfl ⟨rfl, trivial⟩)) (V.le.keep (ag := false) (xs := [.ro _]) (ys := [.ro _]) rfl rfl ⟨rfl, trivial⟩)) (V.le.keep (ag := false) (xs := [.sc _]) (ys := [.sc _]) rfl rfl ⟨rfl, trivial⟩)) (V.le.keep (ag := false) (xs := [.hd 0]) (ys := [.hd 0]) rfl rfl ⟨⟨rfl, (gle rfl), (gle rfl)⟩, trivial⟩)) (V.le.keep (ag := false) (xs := [.sc _]) (ys := [.sc _]) rfl rfl ⟨(by first | rfl | (show Leaf.sc _ = Leaf.sc _; refine congrArg Leaf.sc ?_; first | rfl | go_num | (rw [hz]; first | done | rfl; first | done | rfl | go_num | (simp; done) | (simp; omega)) | (simp [cntAll]; done)) | (simp [cntAll]; done) | (simp; omega)), trivial⟩)) (V.le.keep (ag := false) (xs := [.sc _]) (ys := [.sc _]) rfl rfl ⟨(by first | rfl | (show Leaf.sc _ = Leaf.sc _; refine congrArg Leaf.sc ?_; first | rfl | go_num | (rw [hz]; first | done | rfl; first | done | rfl | go_num | (simp; done) | (simp; omega)) | (simp [cntAll]; done)) | (simp [cntAll]; done) | (simp; omega)), trivial⟩)) trivial ⟨.inr ⟨_, _, rfl, ?ob1_0, (gle rfl)⟩, trivial⟩ (new_ob nil_ob) (fun i j hi hj e => inj_list (l := [0]) (by decide) i j hi hj e))
    case ob1_0 =>
      show some (T.seq _ _) = some (T.seq _ _)
      rfl
  · rintro ⟨i, k, o⟩ ⟨hi, hk, ho⟩
    dsimp only at hi hk ho
    have hol : o.length + (a.length - i + (b.length - k)) = a.length + b.length := by have h := congrArg List.length ho; rw [List.length_append, Runs.merge2_length, Runs.merge2_length, List.length_drop, List.length_drop] at h; exact h
    refine SV.seq' ?_
    refine SV.seq' ?_
    refine SV.region ?_
    refine SV.op (OpL.ok (nb := 0) (ok_move (v := V.one (.sc _)) (.inl rfl) rfl) rfl (gle rfl)) rfl ?_
    refine SV.op (OpL.ok (nb := 0) (ok_move (v := V.one (.ro _)) (.inl rfl) rfl) rfl (gle rfl)) rfl ?_
    refine SV.op (OpL.ok (nb := 0) (ok_len (lf := .ro _) rfl elt_impl_Row.und rfl rfl) rfl (gle rfl)) rfl ?_
    refine SV.op (OpL.ok (nb := 0) (ok_s2 (x := .tmp 9) (x' := .tmp 11) (VScal.one rfl) (VScal.one rfl) (fun ρ h1 h2 w => by go_simp; (try go_bits); with_reducible rfl) rfl) rfl (gle rfl)) rfl ?_
    refine SV.op (OpL.ok (nb := 0) (ok_move (v := V.one (.sc _)) (.inl rfl) rfl) rfl (gle rfl)) rfl ?_
    refine SV.split (d := 13) rfl (fun hg0 => ?_) (fun hg0 => ?_)
    · skip   -- g0.T
      have hil : i < a.length := by simpa using hg0
      obtain ⟨x, hx⟩ : ∃ x, a[i]? = some x := ⟨_, List.getElem?_eq_getElem hil⟩
      refine SV.opN rfl rfl rfl (gle rfl) rfl rfl rfl (gle rfl) ?_
      refine SV.opN rfl rfl rfl (gle rfl) rfl rfl rfl (gle rfl) ?_
      refine SV.opN rfl rfl rfl (gle rfl) rfl rfl rfl (gle rfl) ?_
      refine SV.opN rfl rfl rfl (gle rfl) rfl rfl rfl (gle rfl) ?_
      refine SV.op (OpL.ok (nb := 0) (ok_pickT (v := V.one (.sc _)) rfl rfl rfl) rfl (gle rfl)) rfl ?_
      refine SV.nil ?_
      refine SV.tn ?_
      refine SV.cond rfl (fun hc0 => ?_) (fun hc0 => ?_)
      · skip   -- c0.T
        refine SV.skip ?_
        refine SV.tn ?_
        refine SV.block ?_
        refine SV.seq' ?_
        refine SV.draw [.q 0, .q 1, .q 2, .q 3, .q 4, .q 5, .q 6, .q 7, .q 8, .q 9, .q 10, .q 11, .q 12, .q 13, .q 14, .q 15, .q 16, .q 17, .m 18, .q 19, .q 20, .q 21] [] (by kernel_rfl) (by kernel_rfl) ?_
        refine DW.q rfl (ok_move (v := V.one (.sc _)) (.inl rfl) rfl) rfl rfl (gle rfl) (fun _ _ _ _ h => h) ?_
        refine DW.q rfl (ok_move (v := V.one (.ro _)) (.inl rfl) rfl) rfl rfl (gle rfl) (fun _ _ _ _ h => h) ?_
        refine DW.q rfl (ok_len (lf := .ro _) rfl elt_impl_Row.und rfl rfl) rfl rfl (gle rfl) (fun _ _ _ _ h => h) ?_
        refine DW.q rfl (ok_s2 (x := .tmp 19) (x' := .tmp 21) (VScal.one rfl) (VScal.one rfl) (fun ρ h1 h2 w => by go_simp; (try go_bits); with_reducible rfl) rfl) rfl rfl (gle rfl) (fun _ _ _ _ h => h) ?_
        refine DW.q rfl (ok_move (v := V.one (.sc _)) (.inl rfl) rfl) rfl rfl (gle rfl) (fun _ _ _ _ h => h) ?_
        refine DW.split (d := 23) rfl (fun hg1 => ?_) (fun hg1 => ?_)
        · skip   -- g1.T
          refine DW.qN (V' := V.one .dead) rfl rfl rfl rfl (gle rfl) rfl rfl rfl (gle rfl) (fun _ _ _ _ h => h) ?_
          refine DW.qN (V' := V.one .dead) rfl rfl rfl rfl (gle rfl) rfl rfl rfl (gle rfl) (fun _ _ _ _ h => h) ?_
          refine DW.qN (V' := V.one .dead) rfl rfl rfl rfl (gle rfl) rfl rfl rfl (gle rfl) (fun _ _ _ _ h => h) ?_
          refine DW.qN (V' := V.one .dead) rfl rfl rfl rfl (gle rfl) rfl rfl rfl (gle rfl) (fun _ _ _ _ h => h) ?_
          refine DW.qNu rfl rfl rfl rfl (gle rfl) rfl rfl rfl (gle rfl) (fun _ _ _ _ h => h) ?_
          refine DW.qNN rfl rfl rfl rfl (gle rfl) rfl rfl (gle rfl) (fun _ _ _ _ h => h) ?_
          refine DW.qNN rfl rfl rfl rfl (gle rfl) rfl rfl (gle rfl) (fun _ _ _ _ h => h) ?_
          refine DW.qNN rfl rfl rfl rfl (gle rfl) rfl rfl (gle rfl) (fun _ _ _ _ h => h) ?_
          refine DW.qNN rfl rfl rfl rfl (gle rfl) rfl rfl (gle rfl) (fun _ _ _ _ h => h) ?_
          refine DW.qNN rfl rfl rfl rfl (gle rfl) rfl rfl (gle rfl) (fun _ _ _ _ h => h) ?_
          refine DW.qNN rfl rfl rfl rfl (gle rfl) rfl rfl (gle rfl) (fun _ _ _ _ h => h) ?_
          refine DW.qNN rfl rfl rfl rfl (gle rfl) rfl rfl (gle rfl) (fun _ _ _ _ h => h) ?_
          refine DW.qNN rfl rfl rfl rfl (gle rfl) rfl rfl (gle rfl) (fun _ _ _ _ h => h) ?_
          refine DW.mNN rfl rfl rfl rfl (gle rfl) rfl rfl (gle rfl) ?_
          refine DW.qNN rfl rfl rfl rfl (gle rfl) rfl rfl (gle rfl) (fun _ _ _ _ h => h) ?_
          refine DW.qN (V' := V.one .dead) rfl rfl rfl rfl (gle rfl) rfl rfl rfl (gle rfl) (fun _ _ _ _ h => h) ?_
          refine DW.q rfl (ok_pickT (v := V.one (.sc _)) rfl rfl rfl) rfl rfl (gle rfl) (fun _ _ _ _ h => h) ?_
          refine DW.stores ?_
          refine SV.zend ?_
          refine SV.tn ?_
          refine SV.cond rfl (fun hc1 => ?_) (fun hc1 => ?_)
          · skip   -- c1.T
            have hkl : k = b.length := by simp at hg1; omega
            obtain ⟨z', hz⟩ : ∃ z' : Nat × Nat × List R, z' = (i + 1, k, o ++ [x]) := ⟨_, rfl⟩
            have hz2 : (z'.1 ≤ a.length ∧ z'.2.1 ≤ b.length ∧ z'.2.2 ++ Runs.merge2 (a.drop z'.1) (b.drop z'.2.1) = Runs.merge2 a b) ∧ (a.length - z'.1) + (b.length - z'.2.1) < (a.length - i) + (b.length - k) := by
              rw [hz]
              refine ⟨⟨by show i + 1 ≤ a.length; omega, by show k ≤ b.length; omega, ?_⟩, by show (a.length - (i + 1)) + (b.length - k) < _; omega⟩
              show (o ++ [x]) ++ _ = _
              rw [List.append_assoc, ← ho, Runs.m_last hx (by omega)]
              rfl
            refine SV.seq' ?_
            refine SV.region ?_
            refine SV.op (OpL.ok (nb := 0) (ok_move (v := V.one (.hd 0)) (.inl rfl) rfl) rfl (gle rfl)) rfl ?_
            refine SV.op (OpL.ok (nb := 0) (ok_move (v := V.one (.ro _)) (.inl rfl) rfl) rfl (gle rfl)) rfl ?_
            refine SV.op (OpL.ok (nb := 0) (ok_move (v := V.one (.sc _)) (.inl rfl) rfl) rfl (gle rfl)) rfl ?_
            refine SV.op (OpL.ok (nb := 0) (ok_index (n := 3) (lf := .ro _) rfl elt_impl_Row.und sz_impl_Row rfl rfl rfl (map_at hx)) rfl (gle rfl)) rfl ?_
            refine SV.op (OpL.ok (nb := 0) (ok_load_rp (ag := true) (m := 3) (ys := [.sc _, .sc _, .sc _]) rfl rfl agg_impl_Row sz_impl_Row (fun h => by cases h) (gle rfl) rfl) rfl (gle rfl)) rfl ?_
            refine SV.op (OpMk.ok (ok_lit1 (kk := 1) elt_impl_Row (ag := true) (xs := [.sc _, .sc _, .sc _]) rfl rfl rfl rfl (fun h => by cases h) (outs_c rfl (outs_c rfl (outs_c rfl outs_n))) (by simp [two]) rfl (gle rfl))) rfl ?_
            refine SV.op (OpMk.ok (ok_append (kk := 2) elt_impl_Row (ls := .hd 0) (lx := .hd 1) rfl rfl rfl rfl rfl rfl (by intro i h1 h2; first | (cases h1; done) | (cases h1; cases h2)) (by first | omega | (simp only [List.length_map]; omega) | (simp; done) | (simp; omega)) rfl (gle rfl))) rfl ?_
            refine SV.op (OpL.ok (nb := 0) (ok_move (v := V.one (.hd 2)) (.inr rfl) rfl) rfl (gle rfl)) rfl ?_
            refine SV.nil ?_
            refine SV.tn ?_
            refine SV.region ?_
            refine SV.op (OpL.ok (nb := 0) (ok_move (v := V.one (.sc _)) (.inl rfl) rfl) rfl (gle rfl)) rfl ?_
            refine SV.op (OpL.ok (nb := 0) (ok_s2 (x := .tmp 48) (x' := .const ((Value.int IntKind.i64 1))) (VScal.one rfl) (VScal.one rfl) (fun ρ h1 h2 w => by go_simp; (try go_bits); with_reducible rfl) rfl) rfl (gle rfl)) rfl ?_
            refine SV.op (OpL.ok (nb := 0) (ok_move (v := V.one (.sc _)) (.inr rfl) rfl) rfl (gle rfl)) rfl ?_
            refine SV.nil ?_
            refine SV.bn ?_
            refine SV.tn ?_
            refine SV.again (fun i => [2].getD i 0) (z') (hz2) (pins hE rfl rfl) (VS.le.mk' (le_put (le_put (le_put (le_put (le_put (le_put (le_new le_nil) (V.le.keep (ag := false) (xs := [.ro _]) (ys := [.ro _]) rfl rfl ⟨rfl, trivial⟩)) (V.le.keep (ag := false) (xs := [.ro _]) (ys := [.ro _]) rfl rfl ⟨rfl, trivial⟩)) (V.le.keep (ag := false) (xs := [.sc _]) (ys := [.sc _]) rfl rfl ⟨rfl, trivial⟩)) (V.le.keep (ag := false) (xs := [.hd 2]) (ys := [.hd 0]) rfl rfl ⟨⟨rfl, (gle rfl), (gle rfl)⟩, trivial⟩)) (V.le.keep (ag := false) (xs := [.sc _]) (ys := [.sc _]) rfl rfl ⟨(by first | rfl | (show Leaf.sc _ = Leaf.sc _; refine congrArg Leaf.sc ?_; first | rfl | go_num | (rw [hz]; first | done | rfl; first | done | rfl | go_num | (simp; done) | (simp; omega)) | (simp [cntAll]; done)) | (simp [cntAll]; done) | (simp; omega)), trivial⟩)) (V.le.keep (ag := false) (xs := [.sc _]) (ys := [.sc _]) rfl rfl ⟨(by first | rfl | (show Leaf.sc _ = Leaf.sc _; refine congrArg Leaf.sc ?_; first | rfl | go_num | (rw [hz]; first | done | rfl; first | done | rfl | go_num | (simp; done) | (simp; omega)) | (simp [cntAll]; done)) | (simp [cntAll]; done) | (simp; omega)), trivial⟩)) trivial ⟨.inr ⟨_, _, rfl, ?ob2_0, (gle rfl)⟩, trivial⟩ (new_ob nil_ob) (fun i j hi hj e => inj_list (l := [2]) (by decide) i j hi hj e))
            case ob2_0 =>
              show some (T.seq _ _) = some (T.seq _ _)
              rw [hz]; first | done | rfl | (simp only [List.map_append]; rfl) | (simp [tRow]; done)
          · skip   -- c1.F
            cases hc1
        · skip   -- g1.F
          have hkl : k < b.length := by simp at hg1; omega
          obtain ⟨y, hy⟩ : ∃ y, b[k]? = some y := ⟨_, List.getElem?_eq_getElem (by omega)⟩
          refine DW.qY rfl (ok_move (v := V.one (.sc _)) (.inl rfl) rfl) rfl rfl rfl (gle rfl) rfl rfl rfl (gle rfl) (fun _ _ _ _ h => h) ?_
          refine DW.qY rfl (ok_move (v := V.one (.ro _)) (.inl rfl) rfl) rfl rfl rfl (gle rfl) rfl rfl rfl (gle rfl) (fun _ _ _ _ h => h) ?_
          refine DW.qY rfl (ok_len (lf := .ro _) rfl elt_impl_Row.und rfl rfl) rfl rfl rfl (gle rfl) rfl rfl rfl (gle rfl) (fun _ _ _ _ h => h) ?_
          refine DW.qY rfl (ok_s2 (x := .tmp 24) (x' := .tmp 26) (VScal.one rfl) (VScal.one rfl) (fun ρ h1 h2 w => by go_simp; (try go_bits); with_reducible rfl) rfl) rfl rfl rfl (gle rfl) rfl rfl rfl (gle rfl) (fun _ _ _ _ h => h) ?_
          refine DW.qY rfl (ok_move (v := V.one (.sc _)) (.inl rfl) rfl) rfl rfl rfl (gle rfl) rfl rfl rfl (gle rfl) (fun _ _ _ _ h => h) ?_
          refine DW.split (d := 28) rfl (fun hg2 => ?_) (fun hg2 => ?_)
          · skip   -- g2.T
            refine DW.qY rfl (ok_move (v := V.one (.ro _)) (.inl rfl) rfl) rfl rfl rfl (gle rfl) rfl rfl rfl (gle rfl) (fun _ _ _ _ h => h) ?_
            refine DW.qY rfl (ok_move (v := V.one (.sc _)) (.inl rfl) rfl) rfl rfl rfl (gle rfl) rfl rfl rfl (gle rfl) (fun _ _ _ _ h => h) ?_
            refine DW.qY rfl (ok_index (n := 3) (lf := .ro _) rfl elt_impl_Row.und sz_impl_Row rfl rfl rfl (map_at hx)) rfl rfl rfl (gle rfl) rfl rfl rfl (gle rfl) (fun _ _ _ _ h => h) ?_
            refine DW.qY rfl (ok_load_rp (ag := true) (m := 3) (ys := [.sc _, .sc _, .sc _]) rfl rfl agg_impl_Row sz_impl_Row (fun h => by cases h) (gle rfl) rfl) rfl rfl rfl (gle rfl) rfl rfl rfl (gle rfl) (fun _ _ _ _ h => h) ?_
            refine DW.qY rfl (ok_move (v := V.one (.ro _)) (.inl rfl) rfl) rfl rfl rfl (gle rfl) rfl rfl rfl (gle rfl) (fun _ _ _ _ h => h) ?_
            refine DW.qY rfl (ok_move (v := V.one (.sc _)) (.inl rfl) rfl) rfl rfl rfl (gle rfl) rfl rfl rfl (gle rfl) (fun _ _ _ _ h => h) ?_
            refine DW.qY rfl (ok_index (n := 3) (lf := .ro _) rfl elt_impl_Row.und sz_impl_Row rfl rfl rfl (map_at hy)) rfl rfl rfl (gle rfl) rfl rfl rfl (gle rfl) (fun _ _ _ _ h => h) ?_
            refine DW.qY rfl (ok_load_rp (ag := true) (m := 3) (ys := [.sc _, .sc _, .sc _]) rfl rfl agg_impl_Row sz_impl_Row (fun h => by cases h) (gle rfl) rfl) rfl rfl rfl (gle rfl) rfl rfl rfl (gle rfl) (fun _ _ _ _ h => h) ?_
            refine DW.m' [] rfl (ok_call (ls := [(false, [.sc _])]) rfl rfl ⟨_, _, Try.func73, rfl, by decide⟩ (vcmp_t x y) ⟨⟨[.sc _, .sc _, .sc _], rfl, ⟨rfl, rfl, rfl, trivial⟩⟩, ⟨[.sc _, .sc _, .sc _], rfl, ⟨rfl, rfl, rfl, trivial⟩⟩, trivial⟩ rfl (gle rfl)) (fun hr => wantedY hr rfl rfl rfl (gle rfl) rfl rfl) (gle rfl) (gle rfl) (.inl rfl) (fun j hj => by cases hj) ?_
            refine DW.qY rfl (ok_s2 (x := .tmp 37) (x' := .const ((Value.int IntKind.i64 0))) (VScal.one rfl) (VScal.one rfl) (fun ρ h1 h2 w => by go_simp; (try go_bits); with_reducible rfl) rfl) rfl rfl rfl (gle rfl) rfl rfl rfl (gle rfl) (fun _ _ _ _ h => h) ?_
            refine DW.qY rfl (ok_pickT (v := V.one (.sc _)) rfl rfl rfl) rfl rfl rfl (gle rfl) rfl rfl rfl (gle rfl) (fun _ _ _ _ h => h) ?_
            refine DW.q rfl (ok_pickF (v := V.one (.sc _)) rfl rfl rfl) rfl rfl (gle rfl) (fun _ _ _ _ h => h) ?_
            refine DW.stores ?_
            refine SV.zend ?_
            refine SV.tn ?_
            refine SV.cond rfl (fun hc2 => ?_) (fun hc2 => ?_)
            · skip   -- c2.T
              have hcl : R.cmp x y ≤ 0 := by simpa using hc2
              obtain ⟨z', hz⟩ : ∃ z' : Nat × Nat × List R, z' = (i + 1, k, o ++ [x]) := ⟨_, rfl⟩
              have hz2 : (z'.1 ≤ a.length ∧ z'.2.1 ≤ b.length ∧ z'.2.2 ++ Runs.merge2 (a.drop z'.1) (b.drop z'.2.1) = Runs.merge2 a b) ∧ (a.length - z'.1) + (b.length - z'.2.1) < (a.length - i) + (b.length - k) := by
                rw [hz]
                refine ⟨⟨by show i + 1 ≤ a.length; omega, by show k ≤ b.length; omega, ?_⟩, by show (a.length - (i + 1)) + (b.length - k) < _; omega⟩
                show (o ++ [x]) ++ _ = _
                rw [List.append_assoc, ← ho, Runs.m_left hx hy hcl]
                rfl
              refine SV.seq' ?_
              refine SV.region ?_
              refine SV.op (OpL.ok (nb := 0) (ok_move (v := V.one (.hd 0)) (.inl rfl) rfl) rfl (gle rfl)) rfl ?_
              refine SV.op (OpL.ok (nb := 0) (ok_move (v := V.one (.ro _)) (.inl rfl) rfl) rfl (gle rfl)) rfl ?_
              refine SV.op (OpL.ok (nb := 0) (ok_move (v := V.one (.sc _)) (.inl rfl) rfl) rfl (gle rfl)) rfl ?_
              refine SV.op (OpL.ok (nb := 0) (ok_index (n := 3) (lf := .ro _) rfl elt_impl_Row.und sz_impl_Row rfl rfl rfl (map_at hx)) rfl (gle rfl)) rfl ?_
              refine SV.op (OpL.ok (nb := 0) (ok_load_rp (ag := true) (m := 3) (ys := [.sc _, .sc _, .sc _]) rfl rfl agg_impl_Row sz_impl_Row (fun h => by cases h) (gle rfl) rfl) rfl (gle rfl)) rfl ?_
              refine SV.op (OpMk.ok (ok_lit1 (kk := 1) elt_impl_Row (ag := true) (xs := [.sc _, .sc _, .sc _]) rfl rfl rfl rfl (fun h => by cases h) (outs_c rfl (outs_c rfl (outs_c rfl outs_n))) (by simp [two]) rfl (gle rfl))) rfl ?_
              refine SV.op (OpMk.ok (ok_append (kk := 2) elt_impl_Row (ls := .hd 0) (lx := .hd 1) rfl rfl rfl rfl rfl rfl (by intro i h1 h2; first | (cases h1; done) | (cases h1; cases h2)) (by first | omega | (simp only [List.length_map]; omega) | (simp; done) | (simp; omega)) rfl (gle rfl))) rfl ?_
              refine SV.op (OpL.ok (nb := 0) (ok_move (v := V.one (.hd 2)) (.inr rfl) rfl) rfl (gle rfl)) rfl ?_
              refine SV.nil ?_
              refine SV.tn ?_
              refine SV.region ?_
              refine SV.op (OpL.ok (nb := 0) (ok_move (v := V.one (.sc _)) (.inl rfl) rfl) rfl (gle rfl)) rfl ?_
              refine SV.op (OpL.ok (nb := 0) (ok_s2 (x := .tmp 48) (x' := .const ((Value.int IntKind.i64 1))) (VScal.one rfl) (VScal.one rfl) (fun ρ h1 h2 w => by go_simp; (try go_bits); with_reducible rfl) rfl) rfl (gle rfl)) rfl ?_
              refine SV.op (OpL.ok (nb := 0) (ok_move (v := V.one (.sc _)) (.inr rfl) rfl) rfl (gle rfl)) rfl ?_
              refine SV.nil ?_
              refine SV.bn ?_
              refine SV.tn ?_
              refine SV.again (fun i => [2].getD i 0) (z') (hz2) (pins hE rfl rfl) (VS.le.mk' (le_put (le_put (le_put (le_put (le_put (le_put (le_new le_nil) (V.le.keep (ag := false) (xs := [.ro _]) (ys := [.ro _]) rfl rfl ⟨rfl, trivial⟩)) (V.le.keep (ag := false) (xs := [.ro _]) (ys := [.ro _]) rfl rfl ⟨rfl, trivial⟩)) (V.le.keep (ag := false) (xs := [.sc _]) (ys := [.sc _]) rfl rfl ⟨rfl, trivial⟩)) (V.le.keep (ag := false) (xs := [.hd 2]) (ys := [.hd 0]) rfl rfl ⟨⟨rfl, (gle rfl), (gle rfl)⟩, trivial⟩)) (V.le.keep (ag := false) (xs := [.sc _]) (ys := [.sc _]) rfl rfl ⟨(by first | rfl | (show Leaf.sc _ = Leaf.sc _; refine congrArg Leaf.sc ?_; first | rfl | go_num | (rw [hz]; first | done | rfl; first | done | rfl | go_num | (simp; done) | (simp; omega)) | (simp [cntAll]; done)) | (simp [cntAll]; done) | (simp; omega)), trivial⟩)) (V.le.keep (ag := false) (xs := [.sc _]) (ys := [.sc _]) rfl rfl ⟨(by first | rfl | (show Leaf.sc _ = Leaf.sc _; refine congrArg Leaf.sc ?_; first | rfl | go_num | (rw [hz]; first | done | rfl; first | done | rfl | go_num | (simp; done) | (simp; omega)) | (simp [cntAll]; done)) | (simp [cntAll]; done) | (simp; omega)), trivial⟩)) trivial ⟨.inr ⟨_, _, rfl, ?ob3_0, (gle rfl)⟩, trivial⟩ (new_ob nil_ob) (fun i j hi hj e => inj_list (l := [2]) (by decide) i j hi hj e))
              case ob3_0 =>
                show some (T.seq _ _) = some (T.seq _ _)
                rw [hz]; first | done | rfl | (simp only [List.map_append]; rfl) | (simp [tRow]; done)
            · skip   -- c2.F
              have hcl : ¬ R.cmp x y ≤ 0 := by simpa using hc2
              obtain ⟨z', hz⟩ : ∃ z' : Nat × Nat × List R, z' = (i, k + 1, o ++ [y]) := ⟨_, rfl⟩
              have hz2 : (z'.1 ≤ a.length ∧ z'.2.1 ≤ b.length ∧ z'.2.2 ++ Runs.merge2 (a.drop z'.1) (b.drop z'.2.1) = Runs.merge2 a b) ∧ (a.length - z'.1) + (b.length - z'.2.1) < (a.length - i) + (b.length - k) := by
                rw [hz]
                refine ⟨⟨by show i ≤ a.length; omega, by show k + 1 ≤ b.length; omega, ?_⟩, by show (a.length - i) + (b.length - (k + 1)) < _; omega⟩
                show (o ++ [y]) ++ _ = _
                rw [List.append_assoc, ← ho, Runs.m_right hx hy hcl]
                rfl
              refine SV.seq' ?_
              refine SV.region ?_
              refine SV.op (OpL.ok (nb := 0) (ok_move (v := V.one (.hd 0)) (.inl rfl) rfl) rfl (gle rfl)) rfl ?_
              refine SV.op (OpL.ok (nb := 0) (ok_move (v := V.one (.ro _)) (.inl rfl) rfl) rfl (gle rfl)) rfl ?_
              refine SV.op (OpL.ok (nb := 0) (ok_move (v := V.one (.sc _)) (.inl rfl) rfl) rfl (gle rfl)) rfl ?_
              refine SV.op (OpL.ok (nb := 0) (ok_index (n := 3) (lf := .ro _) rfl elt_impl_Row.und sz_impl_Row rfl rfl rfl (map_at hy)) rfl (gle rfl)) rfl ?_
              refine SV.op (OpL.ok (nb := 0) (ok_load_rp (ag := true) (m := 3) (ys := [.sc _, .sc _, .sc _]) rfl rfl agg_impl_Row sz_impl_Row (fun h => by cases h) (gle rfl) rfl) rfl (gle rfl)) rfl ?_
              refine SV.op (OpMk.ok (ok_lit1 (kk := 1) elt_impl_Row (ag := true) (xs := [.sc _, .sc _, .sc _]) rfl rfl rfl rfl (fun h => by cases h) (outs_c rfl (outs_c rfl (outs_c rfl outs_n))) (by simp [two]) rfl (gle rfl))) rfl ?_
              refine SV.op (OpMk.ok (ok_append (kk := 2) elt_impl_Row (ls := .hd 0) (lx := .hd 1) rfl rfl rfl rfl rfl rfl (by intro i h1 h2; first | (cases h1; done) | (cases h1; cases h2)) (by first | omega | (simp only [List.length_map]; omega) | (simp; done) | (simp; omega)) rfl (gle rfl))) rfl ?_
              refine SV.op (OpL.ok (nb := 0) (ok_move (v := V.one (.hd 2)) (.inr rfl) rfl) rfl (gle rfl)) rfl ?_
              refine SV.nil ?_
              refine SV.tn ?_
              refine SV.region ?_
              refine SV.op (OpL.ok (nb := 0) (ok_move (v := V.one (.sc _)) (.inl rfl) rfl) rfl (gle rfl)) rfl ?_
              refine SV.op (OpL.ok (nb := 0) (ok_s2 (x := .tmp 57) (x' := .const ((Value.int IntKind.i64 1))) (VScal.one rfl) (VScal.one rfl) (fun ρ h1 h2 w => by go_simp; (try go_bits); with_reducible rfl) rfl) rfl (gle rfl)) rfl ?_
              refine SV.op (OpL.ok (nb := 0) (ok_move (v := V.one (.sc _)) (.inr rfl) rfl) rfl (gle rfl)) rfl ?_
              refine SV.nil ?_
              refine SV.bn ?_
              refine SV.tn ?_
              refine SV.again (fun i => [2].getD i 0) (z') (hz2) (pins hE rfl rfl) (VS.le.mk' (le_put (le_put (le_put (le_put (le_put (le_put (le_new le_nil) (V.le.keep (ag := false) (xs := [.ro _]) (ys := [.ro _]) rfl rfl ⟨rfl, trivial⟩)) (V.le.keep (ag := false) (xs := [.ro _]) (ys := [.ro _]) rfl rfl ⟨rfl, trivial⟩)) (V.le.keep (ag := false) (xs := [.sc _]) (ys := [.sc _]) rfl rfl ⟨rfl, trivial⟩)) (V.le.keep (ag := false) (xs := [.hd 2]) (ys := [.hd 0]) rfl rfl ⟨⟨rfl, (gle rfl), (gle rfl)⟩, trivial⟩)) (V.le.keep (ag := false) (xs := [.sc _]) (ys := [.sc _]) rfl rfl ⟨(by first | rfl | (show Leaf.sc _ = Leaf.sc _; refine congrArg Leaf.sc ?_; first | rfl | go_num | (rw [hz]; first | done | rfl; first | done | rfl | go_num | (simp; done) | (simp; omega)) | (simp [cntAll]; done)) | (simp [cntAll]; done) | (simp; omega)), trivial⟩)) (V.le.keep (ag := false) (xs := [.sc _]) (ys := [.sc _]) rfl rfl ⟨(by first | rfl | (show Leaf.sc _ = Leaf.sc _; refine congrArg Leaf.sc ?_; first | rfl | go_num | (rw [hz]; first | done | rfl; first | done | rfl | go_num | (simp; done) | (simp; omega)) | (simp [cntAll]; done)) | (simp [cntAll]; done) | (simp; omega)), trivial⟩)) trivial ⟨.inr ⟨_, _, rfl, ?ob4_0, (gle rfl)⟩, trivial⟩ (new_ob nil_ob) (fun i j hi hj e => inj_list (l := [2]) (by decide) i j hi hj e))
              case ob4_0 =>
                show some (T.seq _ _) = some (T.seq _ _)
                rw [hz]; first | done | rfl | (simp only [List.map_append]; rfl) | (simp [tRow]; done)
          · skip   -- g2.F
            (exfalso; first | (cases hg2; done) | (rw [hg0] at hg2; cases hg2))
      · skip   -- c0.F
        cases hc0
    · skip   -- g0.F
      have hil : ¬ i < a.length := by simpa using hg0
      refine SV.opY (OpL.ok (nb := 0) (ok_move (v := V.one (.sc _)) (.inl rfl) rfl) rfl (gle rfl)) rfl rfl rfl (gle rfl) rfl rfl ?_
      refine SV.opY (OpL.ok (nb := 0) (ok_move (v := V.one (.ro _)) (.inl rfl) rfl) rfl (gle rfl)) rfl rfl rfl (gle rfl) rfl rfl ?_
      refine SV.opY (OpL.ok (nb := 0) (ok_len (lf := .ro _) rfl elt_impl_Row.und rfl rfl) rfl (gle rfl)) rfl rfl rfl (gle rfl) rfl rfl ?_
      refine SV.opY (OpL.ok (nb := 0) (ok_s2 (x := .tmp 14) (x' := .tmp 16) (VScal.one rfl) (VScal.one rfl) (fun ρ h1 h2 w => by go_simp; (try go_bits); with_reducible rfl) rfl) rfl (gle rfl)) rfl rfl rfl (gle rfl) rfl rfl ?_
      refine SV.op (OpL.ok (nb := 0) (ok_pickF (v := V.one (.sc _)) rfl rfl rfl) rfl (gle rfl)) rfl ?_
      refine SV.nil ?_
      refine SV.tn ?_
      refine SV.cond rfl (fun hc3 => ?_) (fun hc3 => ?_)
      · skip   -- c3.T
        have hkl : k < b.length := by simpa using hc3
        obtain ⟨y, hy⟩ : ∃ y, b[k]? = some y := ⟨_, List.getElem?_eq_getElem (by omega)⟩
        refine SV.skip ?_
        refine SV.tn ?_
        refine SV.block ?_
        refine SV.seq' ?_
        refine SV.draw [.q 0, .q 1, .q 2, .q 3, .q 4, .q 5, .q 6, .q 7, .q 8, .q 9, .q 10, .q 11, .q 12, .q 13, .q 14, .q 15, .q 16, .q 17, .m 18, .q 19, .q 20, .q 21] [] (by kernel_rfl) (by kernel_rfl) ?_
        refine DW.q rfl (ok_move (v := V.one (.sc _)) (.inl rfl) rfl) rfl rfl (gle rfl) (fun _ _ _ _ h => h) ?_
        refine DW.q rfl (ok_move (v := V.one (.ro _)) (.inl rfl) rfl) rfl rfl (gle rfl) (fun _ _ _ _ h => h) ?_
        refine DW.q rfl (ok_len (lf := .ro _) rfl elt_impl_Row.und rfl rfl) rfl rfl (gle rfl) (fun _ _ _ _ h => h) ?_
        refine DW.q rfl (ok_s2 (x := .tmp 19) (x' := .tmp 21) (VScal.one rfl) (VScal.one rfl) (fun ρ h1 h2 w => by go_simp; (try go_bits); with_reducible rfl) rfl) rfl rfl (gle rfl) (fun _ _ _ _ h => h) ?_
        refine DW.q rfl (ok_move (v := V.one (.sc _)) (.inl rfl) rfl) rfl rfl (gle rfl) (fun _ _ _ _ h => h) ?_
        refine DW.split (d := 23) rfl (fun hg3 => ?_) (fun hg3 => ?_)
        · skip   -- g3.T
          (exfalso; simp at hg3; omega)
        · skip   -- g3.F
          refine DW.qY rfl (ok_move (v := V.one (.sc _)) (.inl rfl) rfl) rfl rfl rfl (gle rfl) rfl rfl rfl (gle rfl) (fun _ _ _ _ h => h) ?_
          refine DW.qY rfl (ok_move (v := V.one (.ro _)) (.inl rfl) rfl) rfl rfl rfl (gle rfl) rfl rfl rfl (gle rfl) (fun _ _ _ _ h => h) ?_
          refine DW.qY rfl (ok_len (lf := .ro _) rfl elt_impl_Row.und rfl rfl) rfl rfl rfl (gle rfl) rfl rfl rfl (gle rfl) (fun _ _ _ _ h => h) ?_
          refine DW.qY rfl (ok_s2 (x := .tmp 24) (x' := .tmp 26) (VScal.one rfl) (VScal.one rfl) (fun ρ h1 h2 w => by go_simp; (try go_bits); with_reducible rfl) rfl) rfl rfl rfl (gle rfl) rfl rfl rfl (gle rfl) (fun _ _ _ _ h => h) ?_
          refine DW.qY rfl (ok_move (v := V.one (.sc _)) (.inl rfl) rfl) rfl rfl rfl (gle rfl) rfl rfl rfl (gle rfl) (fun _ _ _ _ h => h) ?_
          refine DW.split (d := 28) rfl (fun hg4 => ?_) (fun hg4 => ?_)
          · skip   -- g4.T
            (exfalso; first | (cases hg4; done) | (rw [hg0] at hg4; cases hg4))
          · skip   -- g4.F
            refine DW.qN (V' := V.one .dead) rfl rfl rfl rfl (gle rfl) rfl rfl rfl (gle rfl) (fun _ _ _ _ h => h) ?_
            refine DW.qN (V' := V.one .dead) rfl rfl rfl rfl (gle rfl) rfl rfl rfl (gle rfl) (fun _ _ _ _ h => h) ?_
            refine DW.qN (V' := V.one .dead) rfl rfl rfl rfl (gle rfl) rfl rfl rfl (gle rfl) (fun _ _ _ _ h => h) ?_
            refine DW.qN (V' := V.one .dead) rfl rfl rfl rfl (gle rfl) rfl rfl rfl (gle rfl) (fun _ _ _ _ h => h) ?_
            refine DW.qN (V' := V.one .dead) rfl rfl rfl rfl (gle rfl) rfl rfl rfl (gle rfl) (fun _ _ _ _ h => h) ?_
            refine DW.qN (V' := V.one .dead) rfl rfl rfl rfl (gle rfl) rfl rfl rfl (gle rfl) (fun _ _ _ _ h => h) ?_
            refine DW.qN (V' := V.one .dead) rfl rfl rfl rfl (gle rfl) rfl rfl rfl (gle rfl) (fun _ _ _ _ h => h) ?_
            refine DW.qN (V' := V.one .dead) rfl rfl rfl rfl (gle rfl) rfl rfl rfl (gle rfl) (fun _ _ _ _ h => h) ?_
            refine DW.mN rfl rfl rfl rfl (gle rfl) rfl rfl rfl (gle rfl) ?_
            refine DW.qN (V' := V.one .dead) rfl rfl rfl rfl (gle rfl) rfl rfl rfl (gle rfl) (fun _ _ _ _ h => h) ?_
            refine DW.qY rfl (ok_pickF (v := V.one (.sc _)) rfl rfl rfl) rfl rfl rfl (gle rfl) rfl rfl rfl (gle rfl) (fun _ _ _ _ h => h) ?_
            refine DW.q rfl (ok_pickF (v := V.one (.sc _)) rfl rfl rfl) rfl rfl (gle rfl) (fun _ _ _ _ h => h) ?_
            refine DW.stores ?_
            refine SV.zend ?_
            refine SV.tn ?_
            refine SV.cond rfl (fun hc4 => ?_) (fun hc4 => ?_)
            · skip   -- c4.T
              cases hc4
            · skip   -- c4.F
              obtain ⟨z', hz⟩ : ∃ z' : Nat × Nat × List R, z' = (i, k + 1, o ++ [y]) := ⟨_, rfl⟩
              have hz2 : (z'.1 ≤ a.length ∧ z'.2.1 ≤ b.length ∧ z'.2.2 ++ Runs.merge2 (a.drop z'.1) (b.drop z'.2.1) = Runs.merge2 a b) ∧ (a.length - z'.1) + (b.length - z'.2.1) < (a.length - i) + (b.length - k) := by
                rw [hz]
                refine ⟨⟨by show i ≤ a.length; omega, by show k + 1 ≤ b.length; omega, ?_⟩, by show (a.length - i) + (b.length - (k + 1)) < _; omega⟩
                show (o ++ [y]) ++ _ = _
                rw [List.append_assoc, ← ho, Runs.m_rest (by omega) hy]
                rfl
              refine SV.seq' ?_
              refine SV.region ?_
              refine SV.op (OpL.ok (nb := 0) (ok_move (v := V.one (.hd 0)) (.inl rfl) rfl) rfl (gle rfl)) rfl ?_
              refine SV.op (OpL.ok (nb := 0) (ok_move (v := V.one (.ro _)) (.inl rfl) rfl) rfl (gle rfl)) rfl ?_
              refine SV.op (OpL.ok (nb := 0) (ok_move (v := V.one (.sc _)) (.inl rfl) rfl) rfl (gle rfl)) rfl ?_
              refine SV.op (OpL.ok (nb := 0) (ok_index (n := 3) (lf := .ro _) rfl elt_impl_Row.und sz_impl_Row rfl rfl rfl (map_at hy)) rfl (gle rfl)) rfl ?_
              refine SV.op (OpL.ok (nb := 0) (ok_load_rp (ag := true) (m := 3) (ys := [.sc _, .sc _, .sc _]) rfl rfl agg_impl_Row sz_impl_Row (fun h => by cases h) (gle rfl) rfl) rfl (gle rfl)) rfl ?_
              refine SV.op (OpMk.ok (ok_lit1 (kk := 1) elt_impl_Row (ag := true) (xs := [.sc _, .sc _, .sc _]) rfl rfl rfl rfl (fun h => by cases h) (outs_c rfl (outs_c rfl (outs_c rfl outs_n))) (by simp [two]) rfl (gle rfl))) rfl ?_
              refine SV.op (OpMk.ok (ok_append (kk := 2) elt_impl_Row (ls := .hd 0) (lx := .hd 1) rfl rfl rfl rfl rfl rfl (by intro i h1 h2; first | (cases h1; done) | (cases h1; cases h2)) (by first | omega | (simp only [List.length_map]; omega) | (simp; done) | (simp; omega)) rfl (gle rfl))) rfl ?_
              refine SV.op (OpL.ok (nb := 0) (ok_move (v := V.one (.hd 2)) (.inr rfl) rfl) rfl (gle rfl)) rfl ?_
              refine SV.nil ?_
              refine SV.tn ?_
              refine SV.region ?_
              refine SV.op (OpL.ok (nb := 0) (ok_move (v := V.one (.sc _)) (.inl rfl) rfl) rfl (gle rfl)) rfl ?_
              refine SV.op (OpL.ok (nb := 0) (ok_s2 (x := .tmp 57) (x' := .const ((Value.int IntKind.i64 1))) (VScal.one rfl) (VScal.one rfl) (fun ρ h1 h2 w => by go_simp; (try go_bits); with_reducible rfl) rfl) rfl (gle rfl)) rfl ?_
              refine SV.op (OpL.ok (nb := 0) (ok_move (v := V.one (.sc _)) (.inr rfl) rfl) rfl (gle rfl)) rfl ?_
              refine SV.nil ?_
              refine SV.bn ?_
              refine SV.tn ?_
              refine SV.again (fun i => [2].getD i 0) (z') (hz2) (pins hE rfl rfl) (VS.le.mk' (le_put (le_put (le_put (le_put (le_put (le_put (le_new le_nil) (V.le.keep (ag := false) (xs := [.ro _]) (ys := [.ro _]) rfl rfl ⟨rfl, trivial⟩)) (V.le.keep (ag := false) (xs := [.ro _]) (ys := [.ro _]) rfl rfl ⟨rfl, trivial⟩)) (V.le.keep (ag := false) (xs := [.sc _]) (ys := [.sc _]) rfl rfl ⟨rfl, trivial⟩)) (V.le.keep (ag := false) (xs := [.hd 2]) (ys := [.hd 0]) rfl rfl ⟨⟨rfl, (gle rfl), (gle rfl)⟩, trivial⟩)) (V.le.keep (ag := false) (xs := [.sc _]) (ys := [.sc _]) rfl rfl ⟨(by first | rfl | (show Leaf.sc _ = Leaf.sc _; refine congrArg Leaf.sc ?_; first | rfl | go_num | (rw [hz]; first | done | rfl; first | done | rfl | go_num | (simp; done) | (simp; omega)) | (simp [cntAll]; done)) | (simp [cntAll]; done) | (simp; omega)), trivial⟩)) (V.le.keep (ag := false) (xs := [.sc _]) (ys := [.sc _]) rfl rfl ⟨(by first | rfl | (show Leaf.sc _ = Leaf.sc _; refine congrArg Leaf.sc ?_; first | rfl | go_num | (rw [hz]; first | done | rfl; first | done | rfl | go_num | (simp; done) | (simp; omega)) | (simp [cntAll]; done)) | (simp [cntAll]; done) | (simp; omega)), trivial⟩)) trivial ⟨.inr ⟨_, _, rfl, ?ob5_0, (gle rfl)⟩, trivial⟩ (new_ob nil_ob) (fun i j hi hj e => inj_list (l := [2]) (by decide) i j hi hj e))
              case ob5_0 =>
                show some (T.seq _ _) = some (T.seq _ _)
                rw [hz]; first | done | rfl | (simp only [List.map_append]; rfl) | (simp [tRow]; done)
      · skip   -- c3.F
        have hke : ¬ k < b.length := by simpa using hc3
        refine SV.exit ?_
        refine SV.te ?_
        refine SV.te ?_
        refine SV.bh ?_
        refine SV.tn ?_
        refine SV.seq' ?_
        refine SV.region ?_
        refine SV.op (OpL.ok (nb := 0) (ok_move (v := V.one (.hd 0)) (.inl rfl) rfl) rfl (gle rfl)) rfl ?_
        refine SV.op (OpL.ok (nb := 0) (ok_move (v := V.one (.hd 0)) (.inr rfl) rfl) rfl (gle rfl)) rfl ?_
        refine SV.nil ?_
        refine SV.tn ?_
        refine SV.ret ?_
        apply SV.done (hf := Try.results39) (ht := rfl) (he := .inl rfl)
        case hr => exact (ResAll.cons (ResOk.tmp (ag := false) (xs := [.hd 0]) rfl) ResAll.nil')
        case h2 => simp [two]
        refine ⟨rfl, ⟨?_, trivial⟩, trivial⟩ <;> (show some (T.seq _ _) = some (T.seq _ _); refine congrArg (fun z => some (T.seq _ z)) ?_; have e1 : a.drop i = [] := List.drop_eq_nil_of_le (by omega); have e2 : b.drop k = [] := List.drop_eq_nil_of_le (by omega); rw [e1, e2, Runs.merge2_nil, List.append_nil] at ho; rw [ho])
end Go.Proofs.Ytpnbnbhifpcelaa
/- 'make([]T, 0, n)': told by trees. -/
namespace Go.Proofs.Ytpnbnbhifpcelaa.V
open Go Go.RowKit
variable {E : Env} {N : Nat} {σ : VS} {o : Oper}
theorem ok_make0 {d : Nat} {t ty : TypeId} {n bytes : Nat} {z : Value} {x y : Operand} {c0 : Nat} {kl kc : IntKind} (I : ElT t ty n z bytes) {kk : Nat} (hk : σ.nx = kk) (ho : o.op = .makeSlice t x y) (hx : σ.ev x = V.one (.sc (.int kl 0))) (hy : σ.ev y = V.one (.sc (.int kc (c0 : Nat)))) (hl : c0 ≤ 350000000000)
    (hd : o.dst = some d) (hdN : d < N) : OpMk Try.prog E N none σ o ((σ.new (.seq ty [])).put d (V.one (.hd kk))) :=
  fun a w G K Q h k => by
    subst hk
    obtain ⟨i0, hi, hz0, hz1, hz2⟩ := info_parts I.inf
    have hby : i0.bytes * c0 ≤ 281474976710656 := by
      have h1 : i0.bytes * c0 ≤ 400 * 350000000000 := Nat.mul_le_mul (by rw [hz2]; exact I.small) hl
      omega
    have hrun := run_make (P := Try.prog) w t ty i0 z I.und hi hz0 kl kc 0 c0 (Int.le_refl _) (by omega) (by
      have h1 : ((i0.bytes * c0 : Nat) : Int) ≤ 281474976710656 := by omega
      rwa [Int.natCast_mul] at h1) (by omega)
    simp only [Int.toNat_natCast, Int.toNat_zero, hz1] at hrun
    have hown := World.ownsRow_made (base := 0) (w := w) (e := ty) (size := n) (madeCells z.cells (c0 * n)) c0 (Nat.zero_le _) (by unfold maxLen; omega) (size_madeCells _ _)
    obtain ⟨G', hG', ⟨hvl, hvls, hβs⟩, -, -⟩ := h.renew [] (fun x hx => by cases hx) (w' := w.alloc (.cells (madeCells z.cells (c0 * n)) ty)) (t := .seq ty []) (v := .slice (some ⟨w.heap.size, 0, none⟩) 0 c0) (F := fun b => b = w.heap.size) (fun _ => False) (.of_below ((Below.refl _ _).alloc h.low _)) (fun k hk _ => Below.heap_alloc _ _ _ hk) (fun b hb => hb.elim)
      (.seq n I.pos I.sz (fun e he => by cases he) [] (Row.of hown) (fun _ _ => False) (fun k e j t u he hj hu => by simp at he)
        (fun u hu => by cases hu) (fun b hb => by cases hb; rfl) (fun q b hb => hb.elim) (fun q b hb => hb.elim) fun q q' b hb => hb.elim)
      ⟨_, _, rfl⟩ fun b hb => ⟨by subst hb; exact ⟨.inl h.low, by simp⟩, .inl (h.fresh (by rw [hb]; exact Nat.le_refl _))⟩
    refine wp_value (v := .slice (some ⟨w.heap.size, 0, none⟩) 0 c0) (w' := w.alloc (.cells (madeCells z.cells (c0 * n)) ty)) ?_ (by rw [hd]; exact k _ _ _ (hG'.put hdN (vone.2 ⟨⟨Nat.lt_succ_self _, hvl.symm⟩, .inr rfl⟩)) ⟨by simp, .of_below ((Below.refl _ _).alloc h.low _), hvls, fun b _ => by rw [hβs], fun b hb => .inl (Below.heap_alloc _ _ _ hb), fun i e1 e2 b e3 => .inl (by
      have hi : i = σ.nx := Nat.le_antisymm (Nat.le_of_lt_succ e2) e1
      rw [hi, hvl] at e3
      rw [← Option.some.inj e3]; exact Nat.le_refl _)⟩)
    have hxv := h.sc hx
    have hyv := h.sc hy
    simp [execOp, ho, hxv, hyv, hrun, Result.andThen]
end Go.Proofs.Ytpnbnbhifpcelaa.V
/- The program's MergeSorted: told by trees. -/
namespace Go.Proofs.Ytpnbnbhifpcelaa
open Go Go.RowKit V
set_option linter.unusedVariables false
def nextOf (a b : List R) : Bool := match a, b with
  | [], b => b.isEmpty
  | _ :: _, [] => true
  | x :: _, y :: _ => decide (R.cmp x y ≤ 0)
theorem nextOf_none {a b : List R} (h : a.length = 0 ∨ b.length = 0) : nextOf a b = decide (b.length = 0) := by
  cases a with
  | nil => cases b <;> simp [nextOf]
  | cons x a => cases b with
    | nil => simp [nextOf]
    | cons y b => simp at h
theorem nextOf_both {a b : List R} {x y : R} (hx : a[0]? = some x) (hy : b[0]? = some y) : nextOf a b = decide (R.cmp x y ≤ 0) := by
  cases a with
  | nil => simp at hx
  | cons x' a => cases b with
    | nil => simp at hy
    | cons y' b => simp at hx hy; subst hx hy; rfl
theorem next_left {a b : List R} {i k : Nat} (h : nextOf (a.drop i) (b.drop k) = true) (hn : i < a.length ∨ k < b.length) : ∃ x, a[i]? = some x ∧ i < a.length ∧ Runs.merge2 (a.drop i) (b.drop k) = x :: Runs.merge2 (a.drop (i + 1)) (b.drop k) := by
  rcases Nat.lt_or_ge i a.length with hi | hi
  · have hx : a[i]? = some a[i] := List.getElem?_eq_getElem hi
    rcases Nat.lt_or_ge k b.length with hk | hk
    · have hy : b[k]? = some b[k] := List.getElem?_eq_getElem hk
      rw [nextOf_both (x := a[i]) (y := b[k]) (by rw [List.getElem?_drop, Nat.add_zero]; exact hx) (by rw [List.getElem?_drop, Nat.add_zero]; exact hy)] at h
      exact ⟨_, hx, hi, Runs.m_left hx hy (of_decide_eq_true h)⟩
    · exact ⟨_, hx, hi, Runs.m_last hx hk⟩
  · rw [nextOf_none (.inl (by simp; omega))] at h
    have := of_decide_eq_true h
    simp at this
    omega
theorem next_right {a b : List R} {i k : Nat} (h : nextOf (a.drop i) (b.drop k) = false) (hn : i < a.length ∨ k < b.length) : ∃ y, b[k]? = some y ∧ k < b.length ∧ Runs.merge2 (a.drop i) (b.drop k) = y :: Runs.merge2 (a.drop i) (b.drop (k + 1)) := by
  rcases Nat.lt_or_ge k b.length with hk | hk
  · have hy : b[k]? = some b[k] := List.getElem?_eq_getElem hk
    rcases Nat.lt_or_ge i a.length with hi | hi
    · have hx : a[i]? = some a[i] := List.getElem?_eq_getElem hi
      rw [nextOf_both (x := a[i]) (y := b[k]) (by rw [List.getElem?_drop, Nat.add_zero]; exact hx) (by rw [List.getElem?_drop, Nat.add_zero]; exact hy)] at h
      exact ⟨_, hy, hk, Runs.m_right hx hy (of_decide_eq_false h)⟩
    · exact ⟨_, hy, hk, Runs.m_rest hi hy⟩
  · rw [nextOf_none (.inr (by simp; omega))] at h
    exact absurd (by simp; omega) (of_decide_eq_false h)
set_option maxRecDepth 100000 in
set_option maxHeartbeats 2000000 in
theorem vnext_i (a b : List R) : VC Try.prog 97 [(false, [.seq 72 ((a).map tRow)]), (false, [.seq 72 ((b).map tRow)])] false [(false, [.lit (.bool (nextOf a b))])] := by
  refine VC.enter Try.func97 rfl Try.ntmps97 (gle rfl) fun E hE => ?_
  refine SV.seq' ?_
  refine SV.region ?_
  refine SV.op (OpL.ok (nb := 0) (ok_move (v := V.one (.sc _)) (.inr rfl) rfl) rfl (gle rfl)) rfl ?_
  refine SV.nil ?_
  refine SV.tn ?_
  refine SV.seq' ?_
  refine SV.seq' ?_
  refine SV.region ?_
  refine SV.op (OpL.ok (nb := 0) (ok_move (v := V.one (.ro _)) (.inl rfl) rfl) rfl (gle rfl)) rfl ?_
  refine SV.op (OpL.ok (nb := 0) (ok_len (lf := .ro _) rfl elt_impl_Row.und rfl rfl) rfl (gle rfl)) rfl ?_
  refine SV.op (OpL.ok (nb := 0) (ok_s2 (x := .tmp 6) (x' := .const ((Value.int IntKind.i64 0))) (VScal.one rfl) (VScal.one rfl) (fun ρ h1 h2 w => by go_simp; (try go_bits); with_reducible rfl) rfl) rfl (gle rfl)) rfl ?_
  refine SV.op (OpL.ok (nb := 0) (ok_move (v := V.one (.sc _)) (.inl rfl) rfl) rfl (gle rfl)) rfl ?_
  refine SV.split (d := 8) rfl (fun hg0 => ?_) (fun hg0 => ?_)
  · skip   -- g0.T
    have hz : a.length = 0 ∨ b.length = 0 := .inl (by first | (simpa using hg0) | (simp at hg0; omega) | (simp at hg0; rw [hg0]; rfl))
    have hno := nextOf_none hz
    refine SV.opN rfl rfl rfl (gle rfl) rfl rfl rfl (gle rfl) ?_
    refine SV.opN rfl rfl rfl (gle rfl) rfl rfl rfl (gle rfl) ?_
    refine SV.opN rfl rfl rfl (gle rfl) rfl rfl rfl (gle rfl) ?_
    refine SV.op (OpL.ok (nb := 0) (ok_pickT (v := V.one (.sc _)) rfl rfl rfl) rfl (gle rfl)) rfl ?_
    refine SV.nil ?_
    refine SV.tn ?_
    refine SV.cond rfl (fun hc0 => ?_) (fun hc0 => ?_)
    · skip   -- c0.T
      refine SV.seq' ?_
      refine SV.region ?_
      refine SV.op (OpL.ok (nb := 0) (ok_move (v := V.one (.ro _)) (.inl rfl) rfl) rfl (gle rfl)) rfl ?_
      refine SV.op (OpL.ok (nb := 0) (ok_len (lf := .ro _) rfl elt_impl_Row.und rfl rfl) rfl (gle rfl)) rfl ?_
      refine SV.op (OpL.ok (nb := 0) (ok_s2 (x := .tmp 14) (x' := .const ((Value.int IntKind.i64 0))) (VScal.one rfl) (VScal.one rfl) (fun ρ h1 h2 w => by go_simp; (try go_bits); with_reducible rfl) rfl) rfl (gle rfl)) rfl ?_
      refine SV.op (OpL.ok (nb := 0) (ok_move (v := V.one (.sc _)) (.inr rfl) rfl) rfl (gle rfl)) rfl ?_
      refine SV.nil ?_
      refine SV.tn ?_
      refine SV.ret ?_
      refine SV.tr ?_
      apply SV.done (hf := Try.results97) (ht := rfl) (he := .inl rfl)
      case hr => exact (ResAll.cons (ResOk.tmp (ag := false) (xs := [.sc _]) rfl) ResAll.nil')
      case h2 => simp [two]
      refine ⟨rfl, ⟨?_, trivial⟩, trivial⟩ <;> (show some (T.lit (Value.bool _)) = some (T.lit (Value.bool _)); refine congrArg (fun z => some (T.lit (Value.bool z))) ?_; (rw [hno]; first | done | rfl | (rw [Bool.eq_iff_iff]; simp; done) | (simp; done) | (simp; exact List.length_eq_zero_iff.1 (by simpa using hc1))))
    · skip   -- c0.F
      cases hc0
  · skip   -- g0.F
    have hla : 0 < a.length := by rcases Nat.eq_zero_or_pos a.length with h | h; (exfalso; simp [h] at hg0); (exact h)
    obtain ⟨x, hx⟩ : ∃ z, a[0]? = some z := ⟨_, List.getElem?_eq_getElem hla⟩
    refine SV.opY (OpL.ok (nb := 0) (ok_move (v := V.one (.ro _)) (.inl rfl) rfl) rfl (gle rfl)) rfl rfl rfl (gle rfl) rfl rfl ?_
    refine SV.opY (OpL.ok (nb := 0) (ok_len (lf := .ro _) rfl elt_impl_Row.und rfl rfl) rfl (gle rfl)) rfl rfl rfl (gle rfl) rfl rfl ?_
    refine SV.opY (OpL.ok (nb := 0) (ok_s2 (x := .tmp 10) (x' := .const ((Value.int IntKind.i64 0))) (VScal.one rfl) (VScal.one rfl) (fun ρ h1 h2 w => by go_simp; (try go_bits); with_reducible rfl) rfl) rfl (gle rfl)) rfl rfl rfl (gle rfl) rfl rfl ?_
    refine SV.op (OpL.ok (nb := 0) (ok_pickF (v := V.one (.sc _)) rfl rfl rfl) rfl (gle rfl)) rfl ?_
    refine SV.nil ?_
    refine SV.tn ?_
    refine SV.cond rfl (fun hc1 => ?_) (fun hc1 => ?_)
    · skip   -- c1.T
      have hz : a.length = 0 ∨ b.length = 0 := .inr (by first | (simpa using hc1) | (simp at hc1; omega) | (simp at hc1; rw [hc1]; rfl))
      have hno := nextOf_none hz
      refine SV.seq' ?_
      refine SV.region ?_
      refine SV.op (OpL.ok (nb := 0) (ok_move (v := V.one (.ro _)) (.inl rfl) rfl) rfl (gle rfl)) rfl ?_
      refine SV.op (OpL.ok (nb := 0) (ok_len (lf := .ro _) rfl elt_impl_Row.und rfl rfl) rfl (gle rfl)) rfl ?_
      refine SV.op (OpL.ok (nb := 0) (ok_s2 (x := .tmp 14) (x' := .const ((Value.int IntKind.i64 0))) (VScal.one rfl) (VScal.one rfl) (fun ρ h1 h2 w => by go_simp; (try go_bits); with_reducible rfl) rfl) rfl (gle rfl)) rfl ?_
      refine SV.op (OpL.ok (nb := 0) (ok_move (v := V.one (.sc _)) (.inr rfl) rfl) rfl (gle rfl)) rfl ?_
      refine SV.nil ?_
      refine SV.tn ?_
      refine SV.ret ?_
      refine SV.tr ?_
      apply SV.done (hf := Try.results97) (ht := rfl) (he := .inl rfl)
      case hr => exact (ResAll.cons (ResOk.tmp (ag := false) (xs := [.sc _]) rfl) ResAll.nil')
      case h2 => simp [two]
      refine ⟨rfl, ⟨?_, trivial⟩, trivial⟩ <;> (show some (T.lit (Value.bool _)) = some (T.lit (Value.bool _)); refine congrArg (fun z => some (T.lit (Value.bool z))) ?_; (rw [hno]; first | done | rfl | (rw [Bool.eq_iff_iff]; simp; done) | (simp; done) | (simp; exact List.length_eq_zero_iff.1 (by simpa using hc1))))
    · skip   -- c1.F
      have hlb : 0 < b.length := by rcases Nat.eq_zero_or_pos b.length with h | h; (exfalso; simp [h] at hc1); (exact h)
      obtain ⟨y, hy⟩ : ∃ z, b[0]? = some z := ⟨_, List.getElem?_eq_getElem hlb⟩
      have hno := nextOf_both hx hy
      refine SV.skip ?_
      refine SV.tn ?_
      refine SV.seq' ?_
      refine SV.draw [.q 0, .q 1, .q 2, .q 3, .q 4, .q 5, .m 6, .q 7, .q 8] [] (by kernel_rfl) (by kernel_rfl) ?_
      refine DW.q rfl (ok_move (v := V.one (.ro _)) (.inl rfl) rfl) rfl rfl (gle rfl) (fun _ _ _ _ h => h) ?_
      refine DW.q rfl (ok_index (n := 3) (lf := .ro _) rfl elt_impl_Row.und sz_impl_Row rfl rfl rfl (map_at hx)) rfl rfl (gle rfl) (fun _ _ _ _ h => h) ?_
      refine DW.q rfl (ok_load_rp (ag := true) (m := 3) (ys := [.sc _, .sc _, .sc _]) rfl rfl agg_impl_Row sz_impl_Row (fun h => by cases h) (gle rfl) rfl) rfl rfl (gle rfl) (fun _ _ _ _ h => h) ?_
      refine DW.q rfl (ok_move (v := V.one (.ro _)) (.inl rfl) rfl) rfl rfl (gle rfl) (fun _ _ _ _ h => h) ?_
      refine DW.q rfl (ok_index (n := 3) (lf := .ro _) rfl elt_impl_Row.und sz_impl_Row rfl rfl rfl (map_at hy)) rfl rfl (gle rfl) (fun _ _ _ _ h => h) ?_
      refine DW.q rfl (ok_load_rp (ag := true) (m := 3) (ys := [.sc _, .sc _, .sc _]) rfl rfl agg_impl_Row sz_impl_Row (fun h => by cases h) (gle rfl) rfl) rfl rfl (gle rfl) (fun _ _ _ _ h => h) ?_
      refine DW.m [] rfl (ok_call (ls := [(false, [.sc _])]) rfl rfl ⟨_, _, Try.func109, rfl, by decide⟩ (vcmp_i x y) ⟨⟨[.sc _, .sc _, .sc _], rfl, ⟨rfl, rfl, rfl, trivial⟩⟩, ⟨[.sc _, .sc _, .sc _], rfl, ⟨rfl, rfl, rfl, trivial⟩⟩, trivial⟩ rfl (gle rfl)) rfl (gle rfl) (gle rfl) (.inl rfl) (fun j hj => by cases hj) ?_
      refine DW.q rfl (ok_s2 (x := .tmp 22) (x' := .const ((Value.int IntKind.i64 0))) (VScal.one rfl) (VScal.one rfl) (fun ρ h1 h2 w => by go_simp; (try go_bits); with_reducible rfl) rfl) rfl rfl (gle rfl) (fun _ _ _ _ h => h) ?_
      refine DW.q rfl (ok_move (v := V.one (.sc _)) (.inr rfl) rfl) rfl rfl (gle rfl) (fun _ _ _ _ h => h) ?_
      refine DW.stores ?_
      refine SV.zend ?_
      refine SV.tn ?_
      refine SV.ret ?_
      apply SV.done (hf := Try.results97) (ht := rfl) (he := .inl rfl)
      case hr => exact (ResAll.cons (ResOk.tmp (ag := false) (xs := [.sc _]) rfl) ResAll.nil')
      case h2 => simp [two]
      refine ⟨rfl, ⟨?_, trivial⟩, trivial⟩ <;> (show some (T.lit (Value.bool _)) = some (T.lit (Value.bool _)); refine congrArg (fun z => some (T.lit (Value.bool z))) ?_; (rw [hno]; first | done | rfl | (rw [Bool.eq_iff_iff]; simp; done) | (simp; done) | (simp; exact List.length_eq_zero_iff.1 (by simpa using hc1))))
set_option maxRecDepth 100000 in
set_option maxHeartbeats 2000000 in
theorem vms_i (a b : List R) (hA : ∀ r ∈ a, r.wf) (hB : ∀ r ∈ b, r.wf) (hL : a.length + b.length ≤ 1000000000) : VC Try.prog 40 [(false, [.seq 72 ((a).map tRow)]), (false, [.seq 72 ((b).map tRow)])] false [(false, [.seq 72 ((Runs.merge2 a b).map tRow)])] := by
  refine VC.enter Try.func40 rfl Try.ntmps40 (gle rfl) fun E hE => ?_
  refine SV.seq' ?_
  refine SV.region ?_
  refine SV.op (OpL.ok (nb := 0) (ok_move (v := V.one (.sc _)) (.inr rfl) rfl) rfl (gle rfl)) rfl ?_
  refine SV.nil ?_
  refine SV.tn ?_
  refine SV.seq' ?_
  refine SV.region ?_
  refine SV.op (OpL.ok (nb := 0) (ok_move (v := V.one (.ro _)) (.inl rfl) rfl) rfl (gle rfl)) rfl ?_
  refine SV.op (OpL.ok (nb := 0) (ok_len (lf := .ro _) rfl elt_impl_Row.und rfl rfl) rfl (gle rfl)) rfl ?_
  refine SV.op (OpL.ok (nb := 0) (ok_move (v := V.one (.ro _)) (.inl rfl) rfl) rfl (gle rfl)) rfl ?_
  refine SV.op (OpL.ok (nb := 0) (ok_len (lf := .ro _) rfl elt_impl_Row.und rfl rfl) rfl (gle rfl)) rfl ?_
  refine SV.op (OpL.ok (nb := 0) (ok_s2 (v := .int .i64 ((a.length + b.length : Nat) : Int)) (x := .tmp 7) (x' := .tmp 9) (VScal.one rfl) (VScal.one rfl) (fun ρ h1 h2 w => by go_simp; rw [IntWalk.i64_left, IntWalk.wrap64_in _ ⟨by omega, by omega⟩]) rfl) rfl (gle rfl)) rfl ?_
  refine SV.op (OpMk.ok (ok_make0 (kk := 0) elt_impl_Row rfl rfl rfl rfl (by first | omega | (simp only [List.length_map]; omega) | (simp; done) | (simp; omega)) rfl (gle rfl))) rfl ?_
  refine SV.op (OpL.ok (nb := 0) (ok_move (v := V.one (.hd 0)) (.inr rfl) rfl) rfl (gle rfl)) rfl ?_
  refine SV.nil ?_
  refine SV.tn ?_
  refine SV.seq' ?_
  refine SV.block ?_
  refine SV.loopF (X := Nat × Nat × List R) (fun (σ : VS) z => (((((VS.nil.new (.seq 72 (z.2.2.map tRow))).put 0 (V.flat false [.ro (.seq 72 ((a.drop z.1).map tRow))])).put 1 (V.flat false [.ro (.seq 72 ((b.drop z.2.1).map tRow))])).put 4 (σ.tm 4)).put 5 (V.flat false [.hd 0]))) (fun z => z.1 ≤ a.length ∧ z.2.1 ≤ b.length ∧ z.2.2 ++ Runs.merge2 (a.drop z.1) (b.drop z.2.1) = Runs.merge2 a b) (fun z => (a.length - z.1) + (b.length - z.2.1)) ?_ ?_
  · skip
    refine SV.again (fun i => [0].getD i 0) (0, 0, []) (⟨Nat.zero_le _, Nat.zero_le _, rfl⟩) (pins hE rfl rfl) (VS.le.mk' (le_put (le_put (le_put (le_put (le_new le_nil) (V.le.keep (ag := false) (xs := [.ro _]) (ys := [.ro _]) rfl rfl ⟨(by first | rfl | (show Leaf.ro _ = Leaf.ro _; refine congrArg Leaf.ro (congrArg (T.seq _) ?_); (rw [hz]; first | done | rfl | (simp [List.map_drop, List.drop_drop, Nat.add_comm]; done) | (simp [List.map_drop, List.map_take, List.drop_drop, Nat.add_comm]; rw [List.take_of_length_le (by simp), List.tail_drop])))), trivial⟩)) (V.le.keep (ag := false) (xs := [.ro _]) (ys := [.ro _]) rfl rfl ⟨(by first | rfl | (show Leaf.ro _ = Leaf.ro _; refine congrArg Leaf.ro (congrArg (T.seq _) ?_); (rw [hz]; first | done | rfl | (simp [List.map_drop, List.drop_drop, Nat.add_comm]; done) | (simp [List.map_drop, List.map_take, List.drop_drop, Nat.add_comm]; rw [List.take_of_length_le (by simp), List.tail_drop])))), trivial⟩)) (V.le.keep (ag := false) (xs := [.sc _]) (ys := [.sc _]) rfl rfl ⟨rfl, trivial⟩)) (V.le.keep (ag := false) (xs := [.hd 0]) (ys := [.hd 0]) rfl rfl ⟨⟨rfl, (gle rfl), (gle rfl)⟩, trivial⟩)) trivial ⟨.inr ⟨_, _, rfl, ?ob1_0, (gle rfl)⟩, trivial⟩ (new_ob nil_ob) (fun i j hi hj e => inj_list (l := [0]) (by decide) i j hi hj e))
    case ob1_0 =>
      show some (T.seq _ _) = some (T.seq _ _)
      rfl
  · rintro ⟨i, k, o⟩ ⟨hi, hk, ho⟩
    dsimp only at hi hk ho
    have hol : o.length + (a.length - i + (b.length - k)) = a.length + b.length := by have h := congrArg List.length ho; rw [List.length_append, Runs.merge2_length, Runs.merge2_length, List.length_drop, List.length_drop] at h; exact h
    have hnx := vnext_i (a.drop i) (b.drop k)
    refine SV.seq' ?_
    refine SV.seq' ?_
    refine SV.region ?_
    refine SV.op (OpL.ok (nb := 0) (ok_move (v := V.one (.ro _)) (.inl rfl) rfl) rfl (gle rfl)) rfl ?_
    refine SV.op (OpL.ok (nb := 0) (ok_len (lf := .ro _) rfl elt_impl_Row.und rfl rfl) rfl (gle rfl)) rfl ?_
    refine SV.op (OpL.ok (nb := 0) (ok_s2 (x := .tmp 13) (x' := .const ((Value.int IntKind.i64 0))) (VScal.one rfl) (VScal.one rfl) (fun ρ h1 h2 w => by go_simp; (try go_bits); with_reducible rfl) rfl) rfl (gle rfl)) rfl ?_
    refine SV.op (OpL.ok (nb := 0) (ok_move (v := V.one (.sc _)) (.inl rfl) rfl) rfl (gle rfl)) rfl ?_
    refine SV.split (d := 15) rfl (fun hg0 => ?_) (fun hg0 => ?_)
    · skip   -- g0.T
      have hor : i < a.length ∨ k < b.length := .inl (by simp at hg0; omega)
      refine SV.opN rfl rfl rfl (gle rfl) rfl rfl rfl (gle rfl) ?_
      refine SV.opN rfl rfl rfl (gle rfl) rfl rfl rfl (gle rfl) ?_
      refine SV.opN rfl rfl rfl (gle rfl) rfl rfl rfl (gle rfl) ?_
      refine SV.op (OpL.ok (nb := 0) (ok_pickT (v := V.one (.sc _)) rfl rfl rfl) rfl (gle rfl)) rfl ?_
      refine SV.nil ?_
      refine SV.tn ?_
      refine SV.cond rfl (fun hc0 => ?_) (fun hc0 => ?_)
      · skip   -- c0.T
        refine SV.skip ?_
        refine SV.tn ?_
        refine SV.block ?_
        refine SV.seq' ?_
        refine SV.region ?_
        refine SV.op (OpL.ok (nb := 0) (ok_move (v := V.one (.ro _)) (.inl rfl) rfl) rfl (gle rfl)) rfl ?_
        refine SV.op (OpL.ok (nb := 0) (ok_move (v := V.one (.ro _)) (.inl rfl) rfl) rfl (gle rfl)) rfl ?_
        refine SV.op (OpMk.ok (ok_call (ls := [(false, [.sc _])]) rfl rfl ⟨_, _, Try.func97, rfl, by decide⟩ (hnx) ⟨⟨[.ro _], rfl, ⟨rfl, trivial⟩⟩, ⟨[.ro _], rfl, ⟨rfl, trivial⟩⟩, trivial⟩ rfl (gle rfl))) rfl ?_
        refine SV.nil ?_
        refine SV.tn ?_
        refine SV.cond rfl (fun hc1 => ?_) (fun hc1 => ?_)
        · skip   -- c1.T
          have hnt : nextOf (a.drop i) (b.drop k) = true := by simpa using hc1
          obtain ⟨x, hx, hil, hstep⟩ := next_left hnt hor
          have hx0 : (a.drop i)[0]? = some x := by rw [List.getElem?_drop, Nat.add_zero]; exact hx
          obtain ⟨z', hz⟩ : ∃ z' : Nat × Nat × List R, z' = (i + 1, k, o ++ [x]) := ⟨_, rfl⟩
          have hz2 : (z'.1 ≤ a.length ∧ z'.2.1 ≤ b.length ∧ z'.2.2 ++ Runs.merge2 (a.drop z'.1) (b.drop z'.2.1) = Runs.merge2 a b) ∧ (a.length - z'.1) + (b.length - z'.2.1) < (a.length - i) + (b.length - k) := by
            rw [hz]
            refine ⟨⟨by show i + 1 ≤ a.length; omega, by show k ≤ b.length; omega, ?_⟩, by show (a.length - (i + 1)) + (b.length - k) < _; omega⟩
            show (o ++ [x]) ++ _ = _
            rw [List.append_assoc, ← ho, hstep]
            rfl
          refine SV.seq' ?_
          refine SV.region ?_
          refine SV.op (OpL.ok (nb := 0) (ok_move (v := V.one (.hd 0)) (.inl rfl) rfl) rfl (gle rfl)) rfl ?_
          refine SV.op (OpL.ok (nb := 0) (ok_move (v := V.one (.ro _)) (.inl rfl) rfl) rfl (gle rfl)) rfl ?_
          refine SV.op (OpL.ok (nb := 0) (ok_index (n := 3) (lf := .ro _) rfl elt_impl_Row.und sz_impl_Row rfl rfl rfl (map_at hx0)) rfl (gle rfl)) rfl ?_
          refine SV.op (OpL.ok (nb := 0) (ok_load_rp (ag := true) (m := 3) (ys := [.sc _, .sc _, .sc _]) rfl rfl agg_impl_Row sz_impl_Row (fun h => by cases h) (gle rfl) rfl) rfl (gle rfl)) rfl ?_
          refine SV.op (OpMk.ok (ok_lit1 (kk := 1) elt_impl_Row (ag := true) (xs := [.sc _, .sc _, .sc _]) rfl rfl rfl rfl (fun h => by cases h) (outs_c rfl (outs_c rfl (outs_c rfl outs_n))) (by simp [two]) rfl (gle rfl))) rfl ?_
          refine SV.op (OpMk.ok (ok_append (kk := 2) elt_impl_Row (ls := .hd 0) (lx := .hd 1) rfl rfl rfl rfl rfl rfl (by intro i h1 h2; first | (cases h1; done) | (cases h1; cases h2)) (by first | omega | (simp only [List.length_map]; omega) | (simp; done) | (simp; omega)) rfl (gle rfl))) rfl ?_
          refine SV.op (OpL.ok (nb := 0) (ok_move (v := V.one (.hd 2)) (.inr rfl) rfl) rfl (gle rfl)) rfl ?_
          refine SV.nil ?_
          refine SV.tn ?_
          refine SV.region ?_
          refine SV.op (OpL.ok (nb := 0) (ok_move (v := V.one (.ro _)) (.inl rfl) rfl) rfl (gle rfl)) rfl ?_
          refine SV.op (OpL.ok (nb := 0) (ok_slice (l := 1) (h := ((a.drop i).map tRow).length) (lf := .ro _) (yy := .ro _) rfl rfl elt_impl_Row.und sz_impl_Row rfl rfl ⟨_, rfl⟩ rfl (by simp; omega) (Nat.le_refl _)) rfl (gle rfl)) rfl ?_
          refine SV.op (OpL.ok (nb := 0) (ok_move (v := V.one (.ro _)) (.inr rfl) rfl) rfl (gle rfl)) rfl ?_
          refine SV.nil ?_
          refine SV.bn ?_
          refine SV.tn ?_
          refine SV.again (fun i => [2].getD i 0) (z') (hz2) (pins hE rfl rfl) (VS.le.mk' (le_put (le_put (le_put (le_put (le_new le_nil) (V.le.keep (ag := false) (xs := [.ro _]) (ys := [.ro _]) rfl rfl ⟨(by first | rfl | (show Leaf.ro _ = Leaf.ro _; refine congrArg Leaf.ro (congrArg (T.seq _) ?_); (rw [hz]; first | done | rfl | (simp [List.map_drop, List.drop_drop, Nat.add_comm]; done) | (simp [List.map_drop, List.map_take, List.drop_drop, Nat.add_comm]; rw [List.take_of_length_le (by simp), List.tail_drop])))), trivial⟩)) (V.le.keep (ag := false) (xs := [.ro _]) (ys := [.ro _]) rfl rfl ⟨(by first | rfl | (show Leaf.ro _ = Leaf.ro _; refine congrArg Leaf.ro (congrArg (T.seq _) ?_); (rw [hz]; first | done | rfl | (simp [List.map_drop, List.drop_drop, Nat.add_comm]; done) | (simp [List.map_drop, List.map_take, List.drop_drop, Nat.add_comm]; rw [List.take_of_length_le (by simp), List.tail_drop])))), trivial⟩)) (V.le.keep (ag := false) (xs := [.sc _]) (ys := [.sc _]) rfl rfl ⟨rfl, trivial⟩)) (V.le.keep (ag := false) (xs := [.hd 2]) (ys := [.hd 0]) rfl rfl ⟨⟨rfl, (gle rfl), (gle rfl)⟩, trivial⟩)) trivial ⟨.inr ⟨_, _, rfl, ?ob2_0, (gle rfl)⟩, trivial⟩ (new_ob nil_ob) (fun i j hi hj e => inj_list (l := [2]) (by decide) i j hi hj e))
          case ob2_0 =>
            show some (T.seq _ _) = some (T.seq _ _)
            rw [hz]; first | done | rfl | (simp only [List.map_append]; rfl) | (simp [tRow]; done)
        · skip   -- c1.F
          have hnt : nextOf (a.drop i) (b.drop k) = false := by simpa using hc1
          obtain ⟨y, hy, hkl, hstep⟩ := next_right hnt hor
          have hy0 : (b.drop k)[0]? = some y := by rw [List.getElem?_drop, Nat.add_zero]; exact hy
          obtain ⟨z', hz⟩ : ∃ z' : Nat × Nat × List R, z' = (i, k + 1, o ++ [y]) := ⟨_, rfl⟩
          have hz2 : (z'.1 ≤ a.length ∧ z'.2.1 ≤ b.length ∧ z'.2.2 ++ Runs.merge2 (a.drop z'.1) (b.drop z'.2.1) = Runs.merge2 a b) ∧ (a.length - z'.1) + (b.length - z'.2.1) < (a.length - i) + (b.length - k) := by
            rw [hz]
            refine ⟨⟨by show i ≤ a.length; omega, by show k + 1 ≤ b.length; omega, ?_⟩, by show (a.length - i) + (b.length - (k + 1)) < _; omega⟩
            show (o ++ [y]) ++ _ = _
            rw [List.append_assoc, ← ho, hstep]
            rfl
          refine SV.seq' ?_
          refine SV.region ?_
          refine SV.op (OpL.ok (nb := 0) (ok_move (v := V.one (.hd 0)) (.inl rfl) rfl) rfl (gle rfl)) rfl ?_
          refine SV.op (OpL.ok (nb := 0) (ok_move (v := V.one (.ro _)) (.inl rfl) rfl) rfl (gle rfl)) rfl ?_
          refine SV.op (OpL.ok (nb := 0) (ok_index (n := 3) (lf := .ro _) rfl elt_impl_Row.und sz_impl_Row rfl rfl rfl (map_at hy0)) rfl (gle rfl)) rfl ?_
          refine SV.op (OpL.ok (nb := 0) (ok_load_rp (ag := true) (m := 3) (ys := [.sc _, .sc _, .sc _]) rfl rfl agg_impl_Row sz_impl_Row (fun h => by cases h) (gle rfl) rfl) rfl (gle rfl)) rfl ?_
          refine SV.op (OpMk.ok (ok_lit1 (kk := 1) elt_impl_Row (ag := true) (xs := [.sc _, .sc _, .sc _]) rfl rfl rfl rfl (fun h => by cases h) (outs_c rfl (outs_c rfl (outs_c rfl outs_n))) (by simp [two]) rfl (gle rfl))) rfl ?_
          refine SV.op (OpMk.ok (ok_append (kk := 2) elt_impl_Row (ls := .hd 0) (lx := .hd 1) rfl rfl rfl rfl rfl rfl (by intro i h1 h2; first | (cases h1; done) | (cases h1; cases h2)) (by first | omega | (simp only [List.length_map]; omega) | (simp; done) | (simp; omega)) rfl (gle rfl))) rfl ?_
          refine SV.op (OpL.ok (nb := 0) (ok_move (v := V.one (.hd 2)) (.inr rfl) rfl) rfl (gle rfl)) rfl ?_
          refine SV.nil ?_
          refine SV.tn ?_
          refine SV.region ?_
          refine SV.op (OpL.ok (nb := 0) (ok_move (v := V.one (.ro _)) (.inl rfl) rfl) rfl (gle rfl)) rfl ?_
          refine SV.op (OpL.ok (nb := 0) (ok_slice (l := 1) (h := ((b.drop k).map tRow).length) (lf := .ro _) (yy := .ro _) rfl rfl elt_impl_Row.und sz_impl_Row rfl rfl ⟨_, rfl⟩ rfl (by simp; omega) (Nat.le_refl _)) rfl (gle rfl)) rfl ?_
          refine SV.op (OpL.ok (nb := 0) (ok_move (v := V.one (.ro _)) (.inr rfl) rfl) rfl (gle rfl)) rfl ?_
          refine SV.nil ?_
          refine SV.bn ?_
          refine SV.tn ?_
          refine SV.again (fun i => [2].getD i 0) (z') (hz2) (pins hE rfl rfl) (VS.le.mk' (le_put (le_put (le_put (le_put (le_new le_nil) (V.le.keep (ag := false) (xs := [.ro _]) (ys := [.ro _]) rfl rfl ⟨(by first | rfl | (show Leaf.ro _ = Leaf.ro _; refine congrArg Leaf.ro (congrArg (T.seq _) ?_); (rw [hz]; first | done | rfl | (simp [List.map_drop, List.drop_drop, Nat.add_comm]; done) | (simp [List.map_drop, List.map_take, List.drop_drop, Nat.add_comm]; rw [List.take_of_length_le (by simp), List.tail_drop])))), trivial⟩)) (V.le.keep (ag := false) (xs := [.ro _]) (ys := [.ro _]) rfl rfl ⟨(by first | rfl | (show Leaf.ro _ = Leaf.ro _; refine congrArg Leaf.ro (congrArg (T.seq _) ?_); (rw [hz]; first | done | rfl | (simp [List.map_drop, List.drop_drop, Nat.add_comm]; done) | (simp [List.map_drop, List.map_take, List.drop_drop, Nat.add_comm]; rw [List.take_of_length_le (by simp), List.tail_drop])))), trivial⟩)) (V.le.keep (ag := false) (xs := [.sc _]) (ys := [.sc _]) rfl rfl ⟨rfl, trivial⟩)) (V.le.keep (ag := false) (xs := [.hd 2]) (ys := [.hd 0]) rfl rfl ⟨⟨rfl, (gle rfl), (gle rfl)⟩, trivial⟩)) trivial ⟨.inr ⟨_, _, rfl, ?ob3_0, (gle rfl)⟩, trivial⟩ (new_ob nil_ob) (fun i j hi hj e => inj_list (l := [2]) (by decide) i j hi hj e))
          case ob3_0 =>
            show some (T.seq _ _) = some (T.seq _ _)
            rw [hz]; first | done | rfl | (simp only [List.map_append]; rfl) | (simp [tRow]; done)
      · skip   -- c0.F
        cases hc0
    · skip   -- g0.F
      refine SV.opY (OpL.ok (nb := 0) (ok_move (v := V.one (.ro _)) (.inl rfl) rfl) rfl (gle rfl)) rfl rfl rfl (gle rfl) rfl rfl ?_
      refine SV.opY (OpL.ok (nb := 0) (ok_len (lf := .ro _) rfl elt_impl_Row.und rfl rfl) rfl (gle rfl)) rfl rfl rfl (gle rfl) rfl rfl ?_
      refine SV.opY (OpL.ok (nb := 0) (ok_s2 (x := .tmp 17) (x' := .const ((Value.int IntKind.i64 0))) (VScal.one rfl) (VScal.one rfl) (fun ρ h1 h2 w => by go_simp; (try go_bits); with_reducible rfl) rfl) rfl (gle rfl)) rfl rfl rfl (gle rfl) rfl rfl ?_
      refine SV.op (OpL.ok (nb := 0) (ok_pickF (v := V.one (.sc _)) rfl rfl rfl) rfl (gle rfl)) rfl ?_
      refine SV.nil ?_
      refine SV.tn ?_
      refine SV.cond rfl (fun hc2 => ?_) (fun hc2 => ?_)
      · skip   -- c2.T
        have hor : i < a.length ∨ k < b.length := .inr (by simp at hc2; omega)
        refine SV.skip ?_
        refine SV.tn ?_
        refine SV.block ?_
        refine SV.seq' ?_
        refine SV.region ?_
        refine SV.op (OpL.ok (nb := 0) (ok_move (v := V.one (.ro _)) (.inl rfl) rfl) rfl (gle rfl)) rfl ?_
        refine SV.op (OpL.ok (nb := 0) (ok_move (v := V.one (.ro _)) (.inl rfl) rfl) rfl (gle rfl)) rfl ?_
        refine SV.op (OpMk.ok (ok_call (ls := [(false, [.sc _])]) rfl rfl ⟨_, _, Try.func97, rfl, by decide⟩ (hnx) ⟨⟨[.ro _], rfl, ⟨rfl, trivial⟩⟩, ⟨[.ro _], rfl, ⟨rfl, trivial⟩⟩, trivial⟩ rfl (gle rfl))) rfl ?_
        refine SV.nil ?_
        refine SV.tn ?_
        refine SV.cond rfl (fun hc3 => ?_) (fun hc3 => ?_)
        · skip   -- c3.T
          have hnt : nextOf (a.drop i) (b.drop k) = true := by simpa using hc3
          obtain ⟨x, hx, hil, hstep⟩ := next_left hnt hor
          have hx0 : (a.drop i)[0]? = some x := by rw [List.getElem?_drop, Nat.add_zero]; exact hx
          obtain ⟨z', hz⟩ : ∃ z' : Nat × Nat × List R, z' = (i + 1, k, o ++ [x]) := ⟨_, rfl⟩
          have hz2 : (z'.1 ≤ a.length ∧ z'.2.1 ≤ b.length ∧ z'.2.2 ++ Runs.merge2 (a.drop z'.1) (b.drop z'.2.1) = Runs.merge2 a b) ∧ (a.length - z'.1) + (b.length - z'.2.1) < (a.length - i) + (b.length - k) := by
            rw [hz]
            refine ⟨⟨by show i + 1 ≤ a.length; omega, by show k ≤ b.length; omega, ?_⟩, by show (a.length - (i + 1)) + (b.length - k) < _; omega⟩
            show (o ++ [x]) ++ _ = _
            rw [List.append_assoc, ← ho, hstep]
            rfl
          refine SV.seq' ?_
          refine SV.region ?_
          refine SV.op (OpL.ok (nb := 0) (ok_move (v := V.one (.hd 0)) (.inl rfl) rfl) rfl (gle rfl)) rfl ?_
          refine SV.op (OpL.ok (nb := 0) (ok_move (v := V.one (.ro _)) (.inl rfl) rfl) rfl (gle rfl)) rfl ?_
          refine SV.op (OpL.ok (nb := 0) (ok_index (n := 3) (lf := .ro _) rfl elt_impl_Row.und sz_impl_Row rfl rfl rfl (map_at hx0)) rfl (gle rfl)) rfl ?_
          refine SV.op (OpL.ok (nb := 0) (ok_load_rp (ag := true) (m := 3) (ys := [.sc _, .sc _, .sc _]) rfl rfl agg_impl_Row sz_impl_Row (fun h => by cases h) (gle rfl) rfl) rfl (gle rfl)) rfl ?_
          refine SV.op (OpMk.ok (ok_lit1 (kk := 1) elt_impl_Row (ag := true) (xs := [.sc _, .sc _, .sc _]) rfl rfl rfl rfl (fun h => by cases h) (outs_c rfl (outs_c rfl (outs_c rfl outs_n))) (by simp [two]) rfl (gle rfl))) rfl ?_
          refine SV.op (OpMk.ok (ok_append (kk := 2) elt_impl_Row (ls := .hd 0) (lx := .hd 1) rfl rfl rfl rfl rfl rfl (by intro i h1 h2; first | (cases h1; done) | (cases h1; cases h2)) (by first | omega | (simp only [List.length_map]; omega) | (simp; done) | (simp; omega)) rfl (gle rfl))) rfl ?_
          refine SV.op (OpL.ok (nb := 0) (ok_move (v := V.one (.hd 2)) (.inr rfl) rfl) rfl (gle rfl)) rfl ?_
          refine SV.nil ?_
          refine SV.tn ?_
          refine SV.region ?_
          refine SV.op (OpL.ok (nb := 0) (ok_move (v := V.one (.ro _)) (.inl rfl) rfl) rfl (gle rfl)) rfl ?_
          refine SV.op (OpL.ok (nb := 0) (ok_slice (l := 1) (h := ((a.drop i).map tRow).length) (lf := .ro _) (yy := .ro _) rfl rfl elt_impl_Row.und sz_impl_Row rfl rfl ⟨_, rfl⟩ rfl (by simp; omega) (Nat.le_refl _)) rfl (gle rfl)) rfl ?_
          refine SV.op (OpL.ok (nb := 0) (ok_move (v := V.one (.ro _)) (.inr rfl) rfl) rfl (gle rfl)) rfl ?_
          refine SV.nil ?_
          refine SV.bn ?_
          refine SV.tn ?_
          refine SV.again (fun i => [2].getD i 0) (z') (hz2) (pins hE rfl rfl) (VS.le.mk' (le_put (le_put (le_put (le_put (le_new le_nil) (V.le.keep (ag := false) (xs := [.ro _]) (ys := [.ro _]) rfl rfl ⟨(by first | rfl | (show Leaf.ro _ = Leaf.ro _; refine congrArg Leaf.ro (congrArg (T.seq _) ?_); (rw [hz]; first | done | rfl | (simp [List.map_drop, List.drop_drop, Nat.add_comm]; done) | (simp [List.map_drop, List.map_take, List.drop_drop, Nat.add_comm]; rw [List.take_of_length_le (by simp), List.tail_drop])))), trivial⟩)) (V.le.keep (ag := false) (xs := [.ro _]) (ys := [.ro _]) rfl rfl ⟨(by first | rfl | (show Leaf.ro _ = Leaf.ro _; refine congrArg Leaf.ro (congrArg (T.seq _) ?_); (rw [hz]; first | done | rfl | (simp [List.map_drop, List.drop_drop, Nat.add_comm]; done) | (simp [List.map_drop, List.map_take, List.drop_drop, Nat.add_comm]; rw [List.take_of_length_le (by simp), List.tail_drop])))), trivial⟩)) (V.le.keep (ag := false) (xs := [.sc _]) (ys := [.sc _]) rfl rfl ⟨rfl, trivial⟩)) (V.le.keep (ag := false) (xs := [.hd 2]) (ys := [.hd 0]) rfl rfl ⟨⟨rfl, (gle rfl), (gle rfl)⟩, trivial⟩)) trivial ⟨.inr ⟨_, _, rfl, ?ob4_0, (gle rfl)⟩, trivial⟩ (new_ob nil_ob) (fun i j hi hj e => inj_list (l := [2]) (by decide) i j hi hj e))
          case ob4_0 =>
            show some (T.seq _ _) = some (T.seq _ _)
            rw [hz]; first | done | rfl | (simp only [List.map_append]; rfl) | (simp [tRow]; done)
        · skip   -- c3.F
          have hnt : nextOf (a.drop i) (b.drop k) = false := by simpa using hc3
          obtain ⟨y, hy, hkl, hstep⟩ := next_right hnt hor
          have hy0 : (b.drop k)[0]? = some y := by rw [List.getElem?_drop, Nat.add_zero]; exact hy
          obtain ⟨z', hz⟩ : ∃ z' : Nat × Nat × List R, z' = (i, k + 1, o ++ [y]) := ⟨_, rfl⟩
          have hz2 : (z'.1 ≤ a.length ∧ z'.2.1 ≤ b.length ∧ z'.2.2 ++ Runs.merge2 (a.drop z'.1) (b.drop z'.2.1) = Runs.merge2 a b) ∧ (a.length - z'.1) + (b.length - z'.2.1) < (a.length - i) + (b.length - k) := by
            rw [hz]
            refine ⟨⟨by show i ≤ a.length; omega, by show k + 1 ≤ b.length; omega, ?_⟩, by show (a.length - i) + (b.length - (k + 1)) < _; omega⟩
            show (o ++ [y]) ++ _ = _
            rw [List.append_assoc, ← ho, hstep]
            rfl
          refine SV.seq' ?_
          refine SV.region ?_
          refine SV.op (OpL.ok (nb := 0) (ok_move (v := V.one (.hd 0)) (.inl rfl) rfl) rfl (gle rfl)) rfl ?_
          refine SV.op (OpL.ok (nb := 0) (ok_move (v := V.one (.ro _)) (.inl rfl) rfl) rfl (gle rfl)) rfl ?_
          refine SV.op (OpL.ok (nb := 0) (ok_index (n := 3) (lf := .ro _) rfl elt_impl_Row.und sz_impl_Row rfl rfl rfl (map_at hy0)) rfl (gle rfl)) rfl ?_
          refine SV.op (OpL.ok (nb := 0) (ok_load_rp (ag := true) (m := 3) (ys := [.sc _, .sc _, .sc _]) rfl rfl agg_impl_Row sz_impl_Row (fun h => by cases h) (gle rfl) rfl) rfl (gle rfl)) rfl ?_
          refine SV.op (OpMk.ok (ok_lit1 (kk := 1) elt_impl_Row (ag := true) (xs := [.sc _, .sc _, .sc _]) rfl rfl rfl rfl (fun h => by cases h) (outs_c rfl (outs_c rfl (outs_c rfl outs_n))) (by simp [two]) rfl (gle rfl))) rfl ?_
          refine SV.op (OpMk.ok (ok_append (kk := 2) elt_impl_Row (ls := .hd 0) (lx := .hd 1) rfl rfl rfl rfl rfl rfl (by intro i h1 h2; first | (cases h1; done) | (cases h1; cases h2)) (by first | omega | (simp only [List.length_map]; omega) | (simp; done) | (simp; omega)) rfl (gle rfl))) rfl ?_
          refine SV.op (OpL.ok (nb := 0) (ok_move (v := V.one (.hd 2)) (.inr rfl) rfl) rfl (gle rfl)) rfl ?_
          refine SV.nil ?_
          refine SV.tn ?_
          refine SV.region ?_
          refine SV.op (OpL.ok (nb := 0) (ok_move (v := V.one (.ro _)) (.inl rfl) rfl) rfl (gle rfl)) rfl ?_
          refine SV.op (OpL.ok (nb := 0) (ok_slice (l := 1) (h := ((b.drop k).map tRow).length) (lf := .ro _) (yy := .ro _) rfl rfl elt_impl_Row.und sz_impl_Row rfl rfl ⟨_, rfl⟩ rfl (by simp; omega) (Nat.le_refl _)) rfl (gle rfl)) rfl ?_
          refine SV.op (OpL.ok (nb := 0) (ok_move (v := V.one (.ro _)) (.inr rfl) rfl) rfl (gle rfl)) rfl ?_
          refine SV.nil ?_
          refine SV.bn ?_
          refine SV.tn ?_
          refine SV.again (fun i => [2].getD i 0) (z') (hz2) (pins hE rfl rfl) (VS.le.mk' (le_put (le_put (le_put (le_put (le_new le_nil) (V.le.keep (ag := false) (xs := [.ro _]) (ys := [.ro _]) rfl rfl ⟨(by first | rfl | (show Leaf.ro _ = Leaf.ro _; refine congrArg Leaf.ro (congrArg (T.seq _) ?_); (rw [hz]; first | done | rfl | (simp [List.map_drop, List.drop_drop, Nat.add_comm]; done) | (simp [List.map_drop, List.map_take, List.drop_drop, Nat.add_comm]; rw [List.take_of_length_le (by simp), List.tail_drop])))), trivial⟩)) (V.le.keep (ag := false) (xs := [.ro _]) (ys := [.ro _]) rfl rfl ⟨(by first | rfl | (show Leaf.ro _ = Leaf.ro _; refine congrArg Leaf.ro (congrArg (T.seq _) ?_); (rw [hz]; first | done | rfl | (simp [List.map_drop, List.drop_drop, Nat.add_comm]; done) | (simp [List.map_drop, List.map_take, List.drop_drop, Nat.add_comm]; rw [List.take_of_length_le (by simp), List.tail_drop])))), trivial⟩)) (V.le.keep (ag := false) (xs := [.sc _]) (ys := [.sc _]) rfl rfl ⟨rfl, trivial⟩)) (V.le.keep (ag := false) (xs := [.hd 2]) (ys := [.hd 0]) rfl rfl ⟨⟨rfl, (gle rfl), (gle rfl)⟩, trivial⟩)) trivial ⟨.inr ⟨_, _, rfl, ?ob5_0, (gle rfl)⟩, trivial⟩ (new_ob nil_ob) (fun i j hi hj e => inj_list (l := [2]) (by decide) i j hi hj e))
          case ob5_0 =>
            show some (T.seq _ _) = some (T.seq _ _)
            rw [hz]; first | done | rfl | (simp only [List.map_append]; rfl) | (simp [tRow]; done)
      · skip   -- c2.F
        have hkl : b.drop k = [] := List.drop_eq_nil_of_le (by simp at hc2; omega)
        have hil : a.drop i = [] := List.drop_eq_nil_of_le (by simp at hg0; omega)
        have hend : o = Runs.merge2 a b := by rw [← ho, hkl, hil, Runs.merge2_nil, List.append_nil]
        refine SV.exit ?_
        refine SV.te ?_
        refine SV.te ?_
        refine SV.bh ?_
        refine SV.tn ?_
        refine SV.seq' ?_
        refine SV.region ?_
        refine SV.op (OpL.ok (nb := 0) (ok_move (v := V.one (.hd 0)) (.inl rfl) rfl) rfl (gle rfl)) rfl ?_
        refine SV.op (OpL.ok (nb := 0) (ok_move (v := V.one (.hd 0)) (.inr rfl) rfl) rfl (gle rfl)) rfl ?_
        refine SV.nil ?_
        refine SV.tn ?_
        refine SV.ret ?_
        apply SV.done (hf := Try.results40) (ht := rfl) (he := .inl rfl)
        case hr => exact (ResAll.cons (ResOk.tmp (ag := false) (xs := [.hd 0]) rfl) ResAll.nil')
        case h2 => simp [two]
        refine ⟨rfl, ⟨?_, trivial⟩, trivial⟩ <;> (show some (T.seq _ _) = some (T.seq _ _); refine congrArg (fun z => some (T.seq _ z)) ?_; rw [← hend]; first | done | rfl | (simp; done))
end Go.Proofs.Ytpnbnbhifpcelaa
/- The reference's MergePass: told by trees. -/
namespace Go.Proofs.Ytpnbnbhifpcelaa
open Go Go.RowKit V
set_option linter.unusedVariables false
theorem two_len {X : List (List R)} {i : Nat} {p q : List R} (h : X[i]? = some p) (h' : X[i + 1]? = some q) : p.length + q.length ≤ X.flatten.length := by
  have e := congrArg List.length (congrArg List.flatten (List.take_append_drop i X))
  rw [List.flatten_append, Runs.drop_at h, Runs.drop_at h', List.flatten_cons, List.flatten_cons, List.length_append, List.length_append, List.length_append] at e
  omega
set_option maxRecDepth 100000 in
set_option maxHeartbeats 2000000 in
theorem vpass_s (X : List (List R)) (hX : X.length ≤ 1000000000) (hF : X.flatten.length ≤ 1000000000) : VC Try.prog 42 [(false, [.seq 84 ((X).map tRun)])] false [(false, [.seq 84 ((Runs.pass X).map tRun)])] := by
  refine VC.enter Try.func42 rfl Try.ntmps42 (gle rfl) fun E hE => ?_
  refine SV.seq' ?_
  refine SV.region ?_
  refine SV.op (OpL.ok (nb := 0) (ok_move (v := V.one (.sc _)) (.inr rfl) rfl) rfl (gle rfl)) rfl ?_
  refine SV.nil ?_
  refine SV.tn ?_
  refine SV.seq' ?_
  refine SV.region ?_
  refine SV.op (OpMk.ok (ok_lit0 (kk := 0) elt_impl_Run rfl rfl rfl (gle rfl))) rfl ?_
  refine SV.op (OpL.ok (nb := 0) (ok_move (v := V.one (.hd 0)) (.inr rfl) rfl) rfl (gle rfl)) rfl ?_
  refine SV.nil ?_
  refine SV.tn ?_
  refine SV.seq' ?_
  refine SV.seq' ?_
  refine SV.region ?_
  refine SV.op (OpL.ok (nb := 0) (ok_move (v := V.one (.sc _)) (.inr rfl) rfl) rfl (gle rfl)) rfl ?_
  refine SV.nil ?_
  refine SV.tn ?_
  refine SV.block ?_
  refine SV.loopF (X := Nat × List (List R)) (fun (σ : VS) z => (((((VS.nil.new (.seq 84 (z.2.map tRun))).put 0 (σ.tm 0)).put 2 (σ.tm 2)).put 3 (V.flat false [.hd 0])).put 4 (V.flat false [.sc (.int .i64 ((z.1 : Int)))]))) (fun z => z.1 ≤ X.length + 1 ∧ z.2 ++ Runs.pass (X.drop z.1) = Runs.pass X) (fun z => X.length + 1 - z.1) ?_ ?_
  · skip
    refine SV.again (fun i => [0].getD i 0) (0, []) (⟨Nat.zero_le _, rfl⟩) (pins hE rfl rfl) (VS.le.mk' (le_put (le_put (le_put (le_put (le_new le_nil) (V.le.keep (ag := false) (xs := [.ro _]) (ys := [.ro _]) rfl rfl ⟨rfl, trivial⟩)) (V.le.keep (ag := false) (xs := [.sc _]) (ys := [.sc _]) rfl rfl ⟨rfl, trivial⟩)) (V.le.keep (ag := false) (xs := [.hd 0]) (ys := [.hd 0]) rfl rfl ⟨⟨rfl, (gle rfl), (gle rfl)⟩, trivial⟩)) (V.le.keep (ag := false) (xs := [.sc _]) (ys := [.sc _]) rfl rfl ⟨(by first | rfl | (show Leaf.sc _ = Leaf.sc _; refine congrArg Leaf.sc ?_; first | rfl | go_num | (rw [hz]; first | done | rfl | (show (((t + 2 : Nat)) : Int) = _; omega) | (show _ = (((t + 2 : Nat)) : Int); omega); first | done | rfl | go_num | (simp; done) | (simp; omega)) | (simp [cntAll]; done)) | (simp [cntAll]; done) | (simp; omega)), trivial⟩)) trivial ⟨.inr ⟨_, _, rfl, ?ob1_0, (gle rfl)⟩, trivial⟩ (new_ob nil_ob) (fun i j hi hj e => inj_list (l := [0]) (by decide) i j hi hj e))
    case ob1_0 =>
      show some (T.seq _ _) = some (T.seq _ _)
      rfl
  · rintro ⟨t, o⟩ ⟨ht, ho⟩
    dsimp only at ht ho
    have hol : o.length ≤ X.length := by have h := congrArg List.length ho; rw [List.length_append, Runs.pass_len X] at h; omega
    refine SV.seq' ?_
    refine SV.seq' ?_
    refine SV.region ?_
    refine SV.op (OpL.ok (nb := 0) (ok_move (v := V.one (.sc _)) (.inl rfl) rfl) rfl (gle rfl)) rfl ?_
    refine SV.op (OpL.ok (nb := 0) (ok_move (v := V.one (.ro _)) (.inl rfl) rfl) rfl (gle rfl)) rfl ?_
    refine SV.op (OpL.ok (nb := 0) (ok_len (lf := .ro _) rfl elt_impl_Run.und rfl rfl) rfl (gle rfl)) rfl ?_
    refine SV.op (OpL.ok (nb := 0) (ok_s2 (x := .tmp 6) (x' := .tmp 8) (VScal.one rfl) (VScal.one rfl) (fun ρ h1 h2 w => by go_simp; (try go_bits); with_reducible rfl) rfl) rfl (gle rfl)) rfl ?_
    refine SV.nil ?_
    refine SV.tn ?_
    refine SV.cond rfl (fun hc0 => ?_) (fun hc0 => ?_)
    · skip   -- c0.T
      have htl : t < X.length := by simpa using hc0
      obtain ⟨p, hx⟩ : ∃ p, X[t]? = some p := ⟨_, List.getElem?_eq_getElem htl⟩
      have hpl := Runs.mem_len (List.mem_of_getElem? hx)
      refine SV.skip ?_
      refine SV.tn ?_
      refine SV.seq' ?_
      refine SV.block ?_
      refine SV.seq' ?_
      refine SV.region ?_
      refine SV.op (OpL.ok (nb := 0) (ok_move (v := V.one (.sc _)) (.inl rfl) rfl) rfl (gle rfl)) rfl ?_
      refine SV.op (OpL.ok (nb := 0) (ok_s2 (x := .tmp 12) (x' := .const ((Value.int IntKind.i64 1))) (VScal.one rfl) (VScal.one rfl) (fun ρ h1 h2 w => by go_simp; (try go_bits); with_reducible rfl) rfl) rfl (gle rfl)) rfl ?_
      refine SV.op (OpL.ok (nb := 0) (ok_move (v := V.one (.ro _)) (.inl rfl) rfl) rfl (gle rfl)) rfl ?_
      refine SV.op (OpL.ok (nb := 0) (ok_len (lf := .ro _) rfl elt_impl_Run.und rfl rfl) rfl (gle rfl)) rfl ?_
      refine SV.op (OpL.ok (nb := 0) (ok_s2 (x := .tmp 13) (x' := .tmp 15) (VScal.one rfl) (VScal.one rfl) (fun ρ h1 h2 w => by go_simp; (try go_bits); with_reducible rfl) rfl) rfl (gle rfl)) rfl ?_
      refine SV.nil ?_
      refine SV.tn ?_
      refine SV.cond rfl (fun hc1 => ?_) (fun hc1 => ?_)
      · skip   -- c1.T
        have hte : t + 1 = X.length := by simp at hc1; omega
        obtain ⟨z', hz⟩ : ∃ z' : Nat × List (List R), z' = (t + 2, o ++ [p]) := ⟨_, rfl⟩
        have hz2 : (z'.1 ≤ X.length + 1 ∧ z'.2 ++ Runs.pass (X.drop z'.1) = Runs.pass X) ∧ X.length + 1 - z'.1 < X.length + 1 - t := by
          rw [hz]
          refine ⟨⟨by show t + 2 ≤ X.length + 1; omega, ?_⟩, by show X.length + 1 - (t + 2) < _; omega⟩
          show (o ++ [p]) ++ Runs.pass (X.drop (t + 2)) = _
          rw [List.append_assoc, ← ho, Runs.pass_end hx hte]
          rw [List.drop_eq_nil_of_le (by omega)]; rfl
        refine SV.region ?_
        refine SV.op (OpL.ok (nb := 0) (ok_move (v := V.one (.hd 0)) (.inl rfl) rfl) rfl (gle rfl)) rfl ?_
        refine SV.op (OpMk.ok (ok_lit0 (kk := 1) elt_impl_Row rfl rfl rfl (gle rfl))) rfl ?_
        refine SV.op (OpL.ok (nb := 0) (ok_move (v := V.one (.ro _)) (.inl rfl) rfl) rfl (gle rfl)) rfl ?_
        refine SV.op (OpL.ok (nb := 0) (ok_move (v := V.one (.sc _)) (.inl rfl) rfl) rfl (gle rfl)) rfl ?_
        refine SV.op (OpL.ok (nb := 0) (ok_index (n := 1) (lf := .ro _) rfl elt_impl_Run.und sz_impl_Run rfl rfl rfl (map_at hx)) rfl (gle rfl)) rfl ?_
        refine SV.op (OpL.ok (nb := 0) (ok_field_el (p := .rp _) (off := 0) rfl rfl rfl fld_impl_Run_0) rfl (gle rfl)) rfl ?_
        refine SV.op (OpL.ok (nb := 0) (ok_load_rp (ag := false) (m := 1) (ys := [.ro _]) rfl rfl agg_s_impl_Row sz_s_impl_Row (fun _ => rfl) (gle rfl) rfl) rfl (gle rfl)) rfl ?_
        refine SV.op (OpMk.ok (ok_append_ro (kk := 2) elt_impl_Row (ls := .hd 1) (lx := .ro _) rfl rfl rfl rfl rfl rfl (flat_impl_Row _) (by first | omega | (simp only [List.length_map]; omega) | (simp; done) | (simp; omega)) rfl (gle rfl))) rfl ?_
        refine SV.op (OpL.ok (nb := 0) (ok_build (zs := [.nl _]) (ys := [.hd 2]) (qs := [(0, [.hd 2])]) (pl := fun i => ([(0, 1)] : List (Nat × Nat))[i]?) rfl zero_impl_Run ⟨rfl, ⟨3, by decide, sz_impl_Row⟩, trivial⟩ ⟨⟨rfl, false, rfl, (fun _ => rfl), rfl⟩, trivial⟩ bld_impl_Run rfl) rfl (gle rfl)) rfl ?_
        refine SV.op (OpMk.ok (ok_lit1 (kk := 3) elt_impl_Run (ag := true) (xs := [.hd 2]) rfl rfl rfl rfl (fun h => by cases h) (outs_c rfl outs_n) (by simp [two]) rfl (gle rfl))) rfl ?_
        refine SV.op (OpMk.ok (ok_append (kk := 4) elt_impl_Run (ls := .hd 0) (lx := .hd 3) rfl rfl rfl rfl rfl rfl (by intro i h1 h2; first | (cases h1; done) | (cases h1; cases h2)) (by first | omega | (simp only [List.length_map]; omega) | (simp; done) | (simp; omega)) rfl (gle rfl))) rfl ?_
        refine SV.op (OpL.ok (nb := 0) (ok_move (v := V.one (.hd 4)) (.inr rfl) rfl) rfl (gle rfl)) rfl ?_
        refine SV.nil ?_
        refine SV.bn ?_
        refine SV.tn ?_
        refine SV.region ?_
        refine SV.op (OpL.ok (nb := 0) (ok_move (v := V.one (.sc _)) (.inl rfl) rfl) rfl (gle rfl)) rfl ?_
        refine SV.op (OpL.ok (nb := 0) (ok_s2 (x := .tmp 10) (x' := .const ((Value.int IntKind.i64 2))) (VScal.one rfl) (VScal.one rfl) (fun ρ h1 h2 w => by go_simp; (try go_bits); with_reducible rfl) rfl) rfl (gle rfl)) rfl ?_
        refine SV.op (OpL.ok (nb := 0) (ok_move (v := V.one (.sc _)) (.inr rfl) rfl) rfl (gle rfl)) rfl ?_
        refine SV.nil ?_
        refine SV.tn ?_
        refine SV.again (fun i => [4].getD i 0) (z') (hz2) (pins hE rfl rfl) (VS.le.mk' (le_put (le_put (le_put (le_put (le_new le_nil) (V.le.keep (ag := false) (xs := [.ro _]) (ys := [.ro _]) rfl rfl ⟨rfl, trivial⟩)) (V.le.keep (ag := false) (xs := [.sc _]) (ys := [.sc _]) rfl rfl ⟨rfl, trivial⟩)) (V.le.keep (ag := false) (xs := [.hd 4]) (ys := [.hd 0]) rfl rfl ⟨⟨rfl, (gle rfl), (gle rfl)⟩, trivial⟩)) (V.le.keep (ag := false) (xs := [.sc _]) (ys := [.sc _]) rfl rfl ⟨(by first | rfl | (show Leaf.sc _ = Leaf.sc _; refine congrArg Leaf.sc ?_; first | rfl | go_num | (rw [hz]; first | done | rfl | (show (((t + 2 : Nat)) : Int) = _; omega) | (show _ = (((t + 2 : Nat)) : Int); omega); first | done | rfl | go_num | (simp; done) | (simp; omega)) | (simp [cntAll]; done)) | (simp [cntAll]; done) | (simp; omega)), trivial⟩)) trivial ⟨.inr ⟨_, _, rfl, ?ob2_0, (gle rfl)⟩, trivial⟩ (new_ob nil_ob) (fun i j hi hj e => inj_list (l := [4]) (by decide) i j hi hj e))
        case ob2_0 =>
          show some (T.seq _ _) = some (T.seq _ _)
          rw [hz]; first | done | rfl | (simp only [List.map_append]; rfl) | (simp [tRun]; done)
      · skip   -- c1.F
        have htl2 : t + 1 < X.length := by simp at hc1; omega
        obtain ⟨q, hy⟩ : ∃ q, X[t + 1]? = some q := ⟨_, List.getElem?_eq_getElem htl2⟩
        obtain ⟨z', hz⟩ : ∃ z' : Nat × List (List R), z' = (t + 2, o ++ [Runs.merge2 p q]) := ⟨_, rfl⟩
        have hz2 : (z'.1 ≤ X.length + 1 ∧ z'.2 ++ Runs.pass (X.drop z'.1) = Runs.pass X) ∧ X.length + 1 - z'.1 < X.length + 1 - t := by
          rw [hz]
          refine ⟨⟨by show t + 2 ≤ X.length + 1; omega, ?_⟩, by show X.length + 1 - (t + 2) < _; omega⟩
          show (o ++ [Runs.merge2 p q]) ++ Runs.pass (X.drop (t + 2)) = _
          rw [List.append_assoc, ← ho, Runs.pass_two hx hy]
          rfl
        refine SV.draw [.q 0, .q 1, .q 2, .q 3, .q 4, .q 5, .q 6, .q 7, .q 8, .q 9, .q 10, .q 11, .m 12, .q 13, .m 14, .m 15, .q 16] [] (by kernel_rfl) (by kernel_rfl) ?_
        refine DW.q rfl (ok_move (v := V.one (.hd 0)) (.inl rfl) rfl) rfl rfl (gle rfl) (fun _ _ _ _ h => h) ?_
        refine DW.q rfl (ok_move (v := V.one (.ro _)) (.inl rfl) rfl) rfl rfl (gle rfl) (fun _ _ _ _ h => h) ?_
        refine DW.q rfl (ok_move (v := V.one (.sc _)) (.inl rfl) rfl) rfl rfl (gle rfl) (fun _ _ _ _ h => h) ?_
        refine DW.q rfl (ok_index (n := 1) (lf := .ro _) rfl elt_impl_Run.und sz_impl_Run rfl rfl rfl (map_at hx)) rfl rfl (gle rfl) (fun _ _ _ _ h => h) ?_
        refine DW.q rfl (ok_field_el (p := .rp _) (off := 0) rfl rfl rfl fld_impl_Run_0) rfl rfl (gle rfl) (fun _ _ _ _ h => h) ?_
        refine DW.q rfl (ok_load_rp (ag := false) (m := 1) (ys := [.ro _]) rfl rfl agg_s_impl_Row sz_s_impl_Row (fun _ => rfl) (gle rfl) rfl) rfl rfl (gle rfl) (fun _ _ _ _ h => h) ?_
        refine DW.q rfl (ok_move (v := V.one (.ro _)) (.inl rfl) rfl) rfl rfl (gle rfl) (fun _ _ _ _ h => h) ?_
        refine DW.q rfl (ok_move (v := V.one (.sc _)) (.inl rfl) rfl) rfl rfl (gle rfl) (fun _ _ _ _ h => h) ?_
        refine DW.q rfl (ok_s2 (v := .int .i64 ((t + 1 : Nat) : Int)) (x := .tmp 35) (x' := .const ((Value.int IntKind.i64 1))) (VScal.one rfl) (VScal.one rfl) (fun ρ h1 h2 w => by go_simp; all_goals ((try go_bits); first | with_reducible rfl | go_num | (simp; done) | (simp; omega))) rfl) rfl rfl (gle rfl) (fun _ _ _ _ h => h) ?_
        refine DW.q rfl (ok_index (n := 1) (lf := .ro _) rfl elt_impl_Run.und sz_impl_Run rfl rfl rfl (map_at hy)) rfl rfl (gle rfl) (fun _ _ _ _ h => h) ?_
        refine DW.q rfl (ok_field_el (p := .rp _) (off := 0) rfl rfl rfl fld_impl_Run_0) rfl rfl (gle rfl) (fun _ _ _ _ h => h) ?_
        refine DW.q rfl (ok_load_rp (ag := false) (m := 1) (ys := [.ro _]) rfl rfl agg_s_impl_Row sz_s_impl_Row (fun _ => rfl) (gle rfl) rfl) rfl rfl (gle rfl) (fun _ _ _ _ h => h) ?_
        refine DW.m [1] rfl (ok_call (ls := [(false, [.hd 1])]) rfl rfl ⟨_, _, Try.func39, rfl, by decide⟩ (vms_s p q (by have := two_len hx hy; omega)) ⟨⟨[.ro _], rfl, ⟨rfl, trivial⟩⟩, ⟨[.ro _], rfl, ⟨rfl, trivial⟩⟩, trivial⟩ rfl (gle rfl)) rfl (gle rfl) (gle rfl) (.inl rfl) (fun j hj => by
            simp only [List.mem_cons, List.not_mem_nil, or_false] at hj
            rcases hj with rfl
            · exact .inr ⟨(gle rfl), (gle rfl), .inl rfl⟩) ?_
        refine DW.q rfl (ok_build (zs := [.nl _]) (ys := [.hd 1]) (qs := [(0, [.hd 1])]) (pl := fun i => ([(0, 1)] : List (Nat × Nat))[i]?) rfl zero_impl_Run ⟨rfl, ⟨3, by decide, sz_impl_Row⟩, trivial⟩ ⟨⟨rfl, false, rfl, (fun _ => rfl), rfl⟩, trivial⟩ bld_impl_Run rfl) rfl rfl (gle rfl) (fun _ _ _ _ h => h) ?_
        refine DW.m [2, 1] rfl (ok_lit1 (kk := 2) elt_impl_Run (ag := true) (xs := [.hd 1]) rfl rfl rfl rfl (fun h => by cases h) (outs_c rfl outs_n) (by simp [two]) rfl (gle rfl)) rfl (gle rfl) (gle rfl) (.inl rfl) (fun j hj => by
            simp only [List.mem_cons, List.not_mem_nil, or_false] at hj
            rcases hj with rfl | rfl
            · exact .inr ⟨(gle rfl), (gle rfl), .inl rfl⟩
            · exact .inl (by decide)) ?_
        refine DW.m [2, 1] rfl (ok_append (kk := 3) elt_impl_Run (ls := .hd 0) (lx := .hd 2) rfl rfl rfl rfl rfl rfl (by intro i h1 h2; first | (cases h1; done) | (cases h1; cases h2)) (by first | omega | (simp only [List.length_map]; omega) | (simp; done) | (simp; omega)) rfl (gle rfl)) rfl (gle rfl) (gle rfl) (.inr ⟨0, rfl, .inr ⟨(gle rfl), rfl⟩⟩) (fun j hj => by
            simp only [List.mem_cons, List.not_mem_nil, or_false] at hj
            rcases hj with rfl | rfl
            · exact .inl (by decide)
            · exact .inl (by decide)) ?_
        refine DW.q rfl (ok_move (v := V.one (.hd 3)) (.inr rfl) rfl) rfl rfl (gle rfl) (fun _ _ _ _ h => h) ?_
        refine DW.stores ?_
        refine SV.zend ?_
        refine SV.bn ?_
        refine SV.tn ?_
        refine SV.region ?_
        refine SV.op (OpL.ok (nb := 0) (ok_move (v := V.one (.sc _)) (.inl rfl) rfl) rfl (gle rfl)) rfl ?_
        refine SV.op (OpL.ok (nb := 0) (ok_s2 (x := .tmp 10) (x' := .const ((Value.int IntKind.i64 2))) (VScal.one rfl) (VScal.one rfl) (fun ρ h1 h2 w => by go_simp; (try go_bits); with_reducible rfl) rfl) rfl (gle rfl)) rfl ?_
        refine SV.op (OpL.ok (nb := 0) (ok_move (v := V.one (.sc _)) (.inr rfl) rfl) rfl (gle rfl)) rfl ?_
        refine SV.nil ?_
        refine SV.tn ?_
        refine SV.again (fun i => [3].getD i 0) (z') (hz2) (pins hE rfl rfl) (VS.le.mk' (le_put (le_put (le_put (le_put (le_new le_nil) (V.le.keep (ag := false) (xs := [.ro _]) (ys := [.ro _]) rfl rfl ⟨rfl, trivial⟩)) (V.le.keep (ag := false) (xs := [.sc _]) (ys := [.sc _]) rfl rfl ⟨rfl, trivial⟩)) (V.le.keep (ag := false) (xs := [.hd 3]) (ys := [.hd 0]) rfl rfl ⟨⟨rfl, (gle rfl), (gle rfl)⟩, trivial⟩)) (V.le.keep (ag := false) (xs := [.sc _]) (ys := [.sc _]) rfl rfl ⟨(by first | rfl | (show Leaf.sc _ = Leaf.sc _; refine congrArg Leaf.sc ?_; first | rfl | go_num | (rw [hz]; first | done | rfl | (show (((t + 2 : Nat)) : Int) = _; omega) | (show _ = (((t + 2 : Nat)) : Int); omega); first | done | rfl | go_num | (simp; done) | (simp; omega)) | (simp [cntAll]; done)) | (simp [cntAll]; done) | (simp; omega)), trivial⟩)) trivial ⟨.inr ⟨_, _, rfl, ?ob3_0, (gle rfl)⟩, trivial⟩ (new_ob nil_ob) (fun i j hi hj e => inj_list (l := [3]) (by decide) i j hi hj e))
        case ob3_0 =>
          show some (T.seq _ _) = some (T.seq _ _)
          rw [hz]; first | done | rfl | (simp only [List.map_append]; rfl) | (simp [tRun]; done)
    · skip   -- c0.F
      have hte : ¬ t < X.length := by simpa using hc0
      refine SV.exit ?_
      refine SV.te ?_
      refine SV.te ?_
      refine SV.bh ?_
      refine SV.tn ?_
      refine SV.seq' ?_
      refine SV.region ?_
      refine SV.op (OpL.ok (nb := 0) (ok_move (v := V.one (.hd 0)) (.inl rfl) rfl) rfl (gle rfl)) rfl ?_
      refine SV.op (OpL.ok (nb := 0) (ok_move (v := V.one (.hd 0)) (.inr rfl) rfl) rfl (gle rfl)) rfl ?_
      refine SV.nil ?_
      refine SV.tn ?_
      refine SV.ret ?_
      apply SV.done (hf := Try.results42) (ht := rfl) (he := .inl rfl)
      case hr => exact (ResAll.cons (ResOk.tmp (ag := false) (xs := [.hd 0]) rfl) ResAll.nil')
      case h2 => simp [two]
      refine ⟨rfl, ⟨?_, trivial⟩, trivial⟩ <;> (show some (T.seq _ _) = some (T.seq _ _); refine congrArg (fun z => some (T.seq _ z)) ?_; have e1 : X.drop t = [] := List.drop_eq_nil_of_le (by omega); rw [e1] at ho; rw [← ho]; simp [Runs.pass])
end Go.Proofs.Ytpnbnbhifpcelaa
/- slices.Clone at rows: told by trees. -/
namespace Go.Proofs.Ytpnbnbhifpcelaa
open Go Go.RowKit V
set_option linter.unusedVariables false
set_option maxRecDepth 100000 in
set_option maxHeartbeats 2000000 in
theorem vclonerows (p : List R) (hp : p.length ≤ 1000000000) : VC Try.prog 65 [(false, [.seq 72 (p.map tRow)])] false [(false, [.seq 72 (p.map tRow)])] := by
  refine VC.enter Try.func65 rfl Try.ntmps65 (gle rfl) fun E hE => ?_
  refine SV.seq' ?_
  refine SV.region ?_
  refine SV.op (OpL.ok (nb := 0) (ok_move (v := V.one (.sc _)) (.inr rfl) rfl) rfl (gle rfl)) rfl ?_
  refine SV.nil ?_
  refine SV.tn ?_
  refine SV.seq' ?_
  refine SV.seq' ?_
  refine SV.region ?_
  refine SV.op (OpL.ok (nb := 0) (ok_move (v := V.one (.ro _)) (.inl rfl) rfl) rfl (gle rfl)) rfl ?_
  refine SV.isnil (d := 4) (x := .tmp 3) (y := .const ((Value.slice none 0 0))) rfl rfl rfl (gle rfl) rfl (fun ρ ad n c w h1 h2 => by (cases ad <;> (go_simp; first | done | rfl | (simp [h1, h2]; done)))) (fun hg0 => ?_) ?_
  · skip   -- g0.T
    refine SV.nil ?_
    refine SV.tn ?_
    refine SV.cond rfl (fun hc0 => ?_) (fun hc0 => ?_)
    · skip   -- c0.T
      refine SV.seq' ?_
      refine SV.region ?_
      refine SV.op (OpL.ok (nb := 0) (ok_move (v := V.one (.sc _)) (.inr rfl) rfl) rfl (gle rfl)) rfl ?_
      refine SV.nil ?_
      refine SV.tn ?_
      refine SV.ret ?_
      refine SV.tr ?_
      refine SV.nlsc (s := 2) (kk := 0) (n := 3) rfl rfl (by decide) sz_impl_Row (gle rfl) ?_
      apply SV.done (hf := Try.results65) (ht := rfl) (he := .inr rfl)
      case hr => exact (ResAll.cons (ResOk.tmp (ag := false) (xs := [.hd 0]) rfl) ResAll.nil')
      case h2 => simp [two]
      refine ⟨rfl, ⟨?_, trivial⟩, trivial⟩ <;> (show some (T.seq _ _) = some (T.seq _ _); first | rfl | (rw [hg0]; done) | (simp; done))
    · skip   -- c0.F
      cases hc0
  · skip   -- g0.F
    refine SV.nil ?_
    refine SV.tn ?_
    refine SV.cond rfl (fun hc1 => ?_) (fun hc1 => ?_)
    · skip   -- c1.T
      cases hc1
    · skip   -- c1.F
      refine SV.skip ?_
      refine SV.tn ?_
      refine SV.seq' ?_
      refine SV.region ?_
      refine SV.op (OpMk.ok (ok_lit0 (kk := 0) elt_impl_Row rfl rfl rfl (gle rfl))) rfl ?_
      refine SV.op (OpL.ok (nb := 0) (ok_move (v := V.one (.ro _)) (.inl rfl) rfl) rfl (gle rfl)) rfl ?_
      refine SV.op (OpMk.ok (ok_append_ro (kk := 1) elt_impl_Row (ls := .hd 0) (lx := .ro _) rfl rfl rfl rfl rfl rfl (flat_impl_Row _) (by simp; omega) rfl (gle rfl))) rfl ?_
      refine SV.op (OpL.ok (nb := 0) (ok_move (v := V.one (.hd 1)) (.inr rfl) rfl) rfl (gle rfl)) rfl ?_
      refine SV.nil ?_
      refine SV.tn ?_
      refine SV.ret ?_
      apply SV.done (hf := Try.results65) (ht := rfl) (he := .inl rfl)
      case hr => exact (ResAll.cons (ResOk.tmp (ag := false) (xs := [.hd 1]) rfl) ResAll.nil')
      case h2 => simp [two]
      refine ⟨rfl, ⟨?_, trivial⟩, trivial⟩ <;> (show some (T.seq _ _) = some (T.seq _ _); first | rfl | (rw [hg0]; done) | (simp; done))
end Go.Proofs.Ytpnbnbhifpcelaa
/- The program's MergePass: told by trees. -/
namespace Go.Proofs.Ytpnbnbhifpcelaa
open Go Go.RowKit V
set_option linter.unusedVariables false
theorem two_len_i {X : List (List R)} {i : Nat} {p q : List R} (h : X[i]? = some p) (h' : X[i + 1]? = some q) : p.length + q.length ≤ X.flatten.length := by
  have e := congrArg List.length (congrArg List.flatten (List.take_append_drop i X))
  rw [List.flatten_append, Runs.drop_at h, Runs.drop_at h', List.flatten_cons, List.flatten_cons, List.length_append, List.length_append, List.length_append] at e
  omega
set_option maxRecDepth 100000 in
set_option maxHeartbeats 2000000 in
theorem vpass_i (X : List (List R)) (hW : ∀ p ∈ X, ∀ r ∈ p, r.wf) (hp : ∀ p ∈ X, p.length ≤ 1000000000) (hX : X.length ≤ 1048576) (hF : X.flatten.length ≤ 1000000000) : VC Try.prog 44 [(false, [.seq 84 ((X).map tRun)])] false [(false, [.seq 84 ((Runs.pass X).map tRun)])] := by
  refine VC.enter Try.func44 rfl Try.ntmps44 (gle rfl) fun E hE => ?_
  refine SV.seq' ?_
  refine SV.region ?_
  refine SV.op (OpL.ok (nb := 0) (ok_move (v := V.one (.sc _)) (.inr rfl) rfl) rfl (gle rfl)) rfl ?_
  refine SV.nil ?_
  refine SV.tn ?_
  refine SV.seq' ?_
  refine SV.region ?_
  refine SV.op (OpL.ok (nb := 0) (ok_move (v := V.one (.sc _)) (.inr rfl) rfl) rfl (gle rfl)) rfl ?_
  refine SV.nil ?_
  refine SV.tn ?_
  refine SV.seq' ?_
  refine SV.block ?_
  refine SV.nlsc (s := 3) (kk := 0) (n := 1) rfl rfl (by decide) sz_impl_Run (gle rfl) ?_
  refine SV.loopF (X := Nat × List (List R)) (fun (σ : VS) z => ((((VS.nil.new (.seq 84 (z.2.map tRun))).put 0 (V.flat false [.ro (.seq 84 ((X.drop z.1).map tRun))])).put 2 (σ.tm 2)).put 3 (V.flat false [.hd 0]))) (fun z => z.1 ≤ X.length ∧ z.2 ++ Runs.pass (X.drop z.1) = Runs.pass X) (fun z => X.length - z.1) ?_ ?_
  · skip
    refine SV.again (fun i => [0].getD i 0) (0, []) (⟨Nat.zero_le _, rfl⟩) (pins hE rfl rfl) (VS.le.mk' (le_put (le_put (le_put (le_new le_nil) (V.le.keep (ag := false) (xs := [.ro _]) (ys := [.ro _]) rfl rfl ⟨(by first | rfl | (show Leaf.ro _ = Leaf.ro _; refine congrArg Leaf.ro (congrArg (T.seq _) ?_); (rw [hz]; first | done | rfl | (simp [List.map_drop, List.drop_drop, Nat.add_comm]; done) | (simp [List.map_drop, List.map_take, List.drop_drop, Nat.add_comm]; rw [List.take_of_length_le (by simp), List.drop_drop])))), trivial⟩)) (V.le.keep (ag := false) (xs := [.sc _]) (ys := [.sc _]) rfl rfl ⟨rfl, trivial⟩)) (V.le.keep (ag := false) (xs := [.hd 0]) (ys := [.hd 0]) rfl rfl ⟨⟨rfl, (gle rfl), (gle rfl)⟩, trivial⟩)) trivial ⟨.inr ⟨_, _, rfl, ?ob1_0, (gle rfl)⟩, trivial⟩ (new_ob nil_ob) (fun i j hi hj e => inj_list (l := [0]) (by decide) i j hi hj e))
    case ob1_0 =>
      show some (T.seq _ _) = some (T.seq _ _)
      rfl
  · rintro ⟨t, o⟩ ⟨ht, ho⟩
    dsimp only at ht ho
    have hol : o.length ≤ X.length := by have h := congrArg List.length ho; rw [List.length_append, Runs.pass_len X] at h; omega
    refine SV.seq' ?_
    refine SV.seq' ?_
    refine SV.region ?_
    refine SV.op (OpL.ok (nb := 0) (ok_move (v := V.one (.ro _)) (.inl rfl) rfl) rfl (gle rfl)) rfl ?_
    refine SV.op (OpL.ok (nb := 0) (ok_len (lf := .ro _) rfl elt_impl_Run.und rfl rfl) rfl (gle rfl)) rfl ?_
    refine SV.op (OpL.ok (nb := 0) (ok_s2 (x := .tmp 5) (x' := .const ((Value.int IntKind.i64 1))) (VScal.one rfl) (VScal.one rfl) (fun ρ h1 h2 w => by go_simp; (try go_bits); with_reducible rfl) rfl) rfl (gle rfl)) rfl ?_
    refine SV.nil ?_
    refine SV.tn ?_
    refine SV.cond rfl (fun hc0 => ?_) (fun hc0 => ?_)
    · skip   -- c0.T
      have htl : t + 1 < X.length := by simp at hc0; omega
      obtain ⟨p, hx⟩ : ∃ p, X[t]? = some p := ⟨_, List.getElem?_eq_getElem (by omega)⟩
      obtain ⟨q, hy⟩ : ∃ q, X[t + 1]? = some q := ⟨_, List.getElem?_eq_getElem htl⟩
      have hx0 : (X.drop t)[0]? = some p := by rw [List.getElem?_drop, Nat.add_zero]; exact hx
      have hy0 : (X.drop t)[1]? = some q := by rw [List.getElem?_drop]; exact hy
      have hpl := Runs.mem_len (List.mem_of_getElem? hx)
      obtain ⟨z', hz⟩ : ∃ z' : Nat × List (List R), z' = (t + 2, o ++ [Runs.merge2 p q]) := ⟨_, rfl⟩
      have hz2 : (z'.1 ≤ X.length ∧ z'.2 ++ Runs.pass (X.drop z'.1) = Runs.pass X) ∧ X.length - z'.1 < X.length - t := by
        rw [hz]
        refine ⟨⟨by show t + 2 ≤ X.length; omega, ?_⟩, by show X.length - (t + 2) < _; omega⟩
        show (o ++ [Runs.merge2 p q]) ++ Runs.pass (X.drop (t + 2)) = _
        rw [List.append_assoc, ← ho, Runs.pass_two hx hy]
        rfl
      refine SV.skip ?_
      refine SV.tn ?_
      refine SV.block ?_
      refine SV.seq' ?_
      refine SV.draw [.q 0, .q 1, .q 2, .q 3, .q 4, .q 5, .q 6, .q 7, .q 8, .m 9, .q 10, .m 11, .m 12, .q 13] [] (by kernel_rfl) (by kernel_rfl) ?_
      refine DW.q rfl (ok_move (v := V.one (.hd 0)) (.inl rfl) rfl) rfl rfl (gle rfl) (fun _ _ _ _ h => h) ?_
      refine DW.q rfl (ok_move (v := V.one (.ro _)) (.inl rfl) rfl) rfl rfl (gle rfl) (fun _ _ _ _ h => h) ?_
      refine DW.q rfl (ok_index (n := 1) (lf := .ro _) rfl elt_impl_Run.und sz_impl_Run rfl rfl rfl (map_at hx0)) rfl rfl (gle rfl) (fun _ _ _ _ h => h) ?_
      refine DW.q rfl (ok_field_el (p := .rp _) (off := 0) rfl rfl rfl fld_impl_Run_0) rfl rfl (gle rfl) (fun _ _ _ _ h => h) ?_
      refine DW.q rfl (ok_load_rp (ag := false) (m := 1) (ys := [.ro _]) rfl rfl agg_s_impl_Row sz_s_impl_Row (fun _ => rfl) (gle rfl) rfl) rfl rfl (gle rfl) (fun _ _ _ _ h => h) ?_
      refine DW.q rfl (ok_move (v := V.one (.ro _)) (.inl rfl) rfl) rfl rfl (gle rfl) (fun _ _ _ _ h => h) ?_
      refine DW.q rfl (ok_index (n := 1) (lf := .ro _) rfl elt_impl_Run.und sz_impl_Run rfl rfl rfl (map_at hy0)) rfl rfl (gle rfl) (fun _ _ _ _ h => h) ?_
      refine DW.q rfl (ok_field_el (p := .rp _) (off := 0) rfl rfl rfl fld_impl_Run_0) rfl rfl (gle rfl) (fun _ _ _ _ h => h) ?_
      refine DW.q rfl (ok_load_rp (ag := false) (m := 1) (ys := [.ro _]) rfl rfl agg_s_impl_Row sz_s_impl_Row (fun _ => rfl) (gle rfl) rfl) rfl rfl (gle rfl) (fun _ _ _ _ h => h) ?_
      refine DW.m [1] rfl (ok_call (ls := [(false, [.hd 1])]) rfl rfl ⟨_, _, Try.func40, rfl, by decide⟩ (vms_i p q (hW p (List.mem_of_getElem? hx)) (hW q (List.mem_of_getElem? hy)) (by have := two_len_i hx hy; omega)) ⟨⟨[.ro _], rfl, ⟨rfl, trivial⟩⟩, ⟨[.ro _], rfl, ⟨rfl, trivial⟩⟩, trivial⟩ rfl (gle rfl)) rfl (gle rfl) (gle rfl) (.inl rfl) (fun j hj => by
          simp only [List.mem_cons, List.not_mem_nil, or_false] at hj
          rcases hj with rfl
          · exact .inr ⟨(gle rfl), (gle rfl), .inl rfl⟩) ?_
      refine DW.q rfl (ok_build (zs := [.nl _]) (ys := [.hd 1]) (qs := [(0, [.hd 1])]) (pl := fun i => ([(0, 1)] : List (Nat × Nat))[i]?) rfl zero_impl_Run ⟨rfl, ⟨3, by decide, sz_impl_Row⟩, trivial⟩ ⟨⟨rfl, false, rfl, (fun _ => rfl), rfl⟩, trivial⟩ bld_impl_Run rfl) rfl rfl (gle rfl) (fun _ _ _ _ h => h) ?_
      refine DW.m [2, 1] rfl (ok_lit1 (kk := 2) elt_impl_Run (ag := true) (xs := [.hd 1]) rfl rfl rfl rfl (fun h => by cases h) (outs_c rfl outs_n) (by simp [two]) rfl (gle rfl)) rfl (gle rfl) (gle rfl) (.inl rfl) (fun j hj => by
          simp only [List.mem_cons, List.not_mem_nil, or_false] at hj
          rcases hj with rfl | rfl
          · exact .inr ⟨(gle rfl), (gle rfl), .inl rfl⟩
          · exact .inl (by decide)) ?_
      refine DW.m [2, 1] rfl (ok_append (kk := 3) elt_impl_Run (ls := .hd 0) (lx := .hd 2) rfl rfl rfl rfl rfl rfl (by intro i h1 h2; first | (cases h1; done) | (cases h1; cases h2)) (by first | omega | (simp only [List.length_map]; omega) | (simp; done) | (simp; omega)) rfl (gle rfl)) rfl (gle rfl) (gle rfl) (.inr ⟨0, rfl, .inr ⟨(gle rfl), rfl⟩⟩) (fun j hj => by
          simp only [List.mem_cons, List.not_mem_nil, or_false] at hj
          rcases hj with rfl | rfl
          · exact .inl (by decide)
          · exact .inl (by decide)) ?_
      refine DW.q rfl (ok_move (v := V.one (.hd 3)) (.inr rfl) rfl) rfl rfl (gle rfl) (fun _ _ _ _ h => h) ?_
      refine DW.stores ?_
      refine SV.zend ?_
      refine SV.tn ?_
      refine SV.region ?_
      refine SV.op (OpL.ok (nb := 0) (ok_move (v := V.one (.ro _)) (.inl rfl) rfl) rfl (gle rfl)) rfl ?_
      refine SV.op (OpL.ok (nb := 0) (ok_slice (l := 2) (h := ((X.drop t).map tRun).length) (lf := .ro _) (yy := .ro _) rfl rfl elt_impl_Run.und sz_impl_Run rfl rfl ⟨_, rfl⟩ rfl (by simp; omega) (Nat.le_refl _)) rfl (gle rfl)) rfl ?_
      refine SV.op (OpL.ok (nb := 0) (ok_move (v := V.one (.ro _)) (.inr rfl) rfl) rfl (gle rfl)) rfl ?_
      refine SV.nil ?_
      refine SV.bn ?_
      refine SV.tn ?_
      refine SV.again (fun i => [3].getD i 0) (z') (hz2) (pins hE rfl rfl) (VS.le.mk' (le_put (le_put (le_put (le_new le_nil) (V.le.keep (ag := false) (xs := [.ro _]) (ys := [.ro _]) rfl rfl ⟨(by first | rfl | (show Leaf.ro _ = Leaf.ro _; refine congrArg Leaf.ro (congrArg (T.seq _) ?_); (rw [hz]; first | done | rfl | (simp [List.map_drop, List.drop_drop, Nat.add_comm]; done) | (simp [List.map_drop, List.map_take, List.drop_drop, Nat.add_comm]; rw [List.take_of_length_le (by simp), List.drop_drop])))), trivial⟩)) (V.le.keep (ag := false) (xs := [.sc _]) (ys := [.sc _]) rfl rfl ⟨rfl, trivial⟩)) (V.le.keep (ag := false) (xs := [.hd 3]) (ys := [.hd 0]) rfl rfl ⟨⟨rfl, (gle rfl), (gle rfl)⟩, trivial⟩)) trivial ⟨.inr ⟨_, _, rfl, ?ob2_0, (gle rfl)⟩, trivial⟩ (new_ob nil_ob) (fun i j hi hj e => inj_list (l := [3]) (by decide) i j hi hj e))
      case ob2_0 =>
        show some (T.seq _ _) = some (T.seq _ _)
        rw [hz]; first | done | rfl | (simp only [List.map_append]; rfl) | (simp [tRun]; done)
    · skip   -- c0.F
      have hte : X.length ≤ t + 1 := by simp at hc0; omega
      refine SV.exit ?_
      refine SV.te ?_
      refine SV.te ?_
      refine SV.bh ?_
      refine SV.tn ?_
      refine SV.seq' ?_
      refine SV.seq' ?_
      refine SV.region ?_
      refine SV.op (OpL.ok (nb := 0) (ok_move (v := V.one (.ro _)) (.inl rfl) rfl) rfl (gle rfl)) rfl ?_
      refine SV.op (OpL.ok (nb := 0) (ok_len (lf := .ro _) rfl elt_impl_Run.und rfl rfl) rfl (gle rfl)) rfl ?_
      refine SV.op (OpL.ok (nb := 0) (ok_s2 (x := .tmp 23) (x' := .const ((Value.int IntKind.i64 1))) (VScal.one rfl) (VScal.one rfl) (fun ρ h1 h2 w => by go_simp; (try go_bits); with_reducible rfl) rfl) rfl (gle rfl)) rfl ?_
      refine SV.nil ?_
      refine SV.tn ?_
      refine SV.cond rfl (fun hc1 => ?_) (fun hc1 => ?_)
      · skip   -- c1.T
        have htl : t + 1 = X.length := by simp at hc1; omega
        obtain ⟨p, hx⟩ : ∃ p, X[t]? = some p := ⟨_, List.getElem?_eq_getElem (by omega)⟩
        have hx0 : (X.drop t)[0]? = some p := by rw [List.getElem?_drop, Nat.add_zero]; exact hx
        have hpl := Runs.mem_len (List.mem_of_getElem? hx)
        have hend : o ++ [p] = Runs.pass X := by rw [← ho, Runs.pass_end hx htl]
        refine SV.region ?_
        refine SV.op (OpL.ok (nb := 0) (ok_move (v := V.one (.hd 0)) (.inl rfl) rfl) rfl (gle rfl)) rfl ?_
        refine SV.op (OpL.ok (nb := 0) (ok_move (v := V.one (.ro _)) (.inl rfl) rfl) rfl (gle rfl)) rfl ?_
        refine SV.op (OpL.ok (nb := 0) (ok_index (n := 1) (lf := .ro _) rfl elt_impl_Run.und sz_impl_Run rfl rfl rfl (map_at hx0)) rfl (gle rfl)) rfl ?_
        refine SV.op (OpL.ok (nb := 0) (ok_field_el (p := .rp _) (off := 0) rfl rfl rfl fld_impl_Run_0) rfl (gle rfl)) rfl ?_
        refine SV.op (OpL.ok (nb := 0) (ok_load_rp (ag := false) (m := 1) (ys := [.ro _]) rfl rfl agg_s_impl_Row sz_s_impl_Row (fun _ => rfl) (gle rfl) rfl) rfl (gle rfl)) rfl ?_
        refine SV.op (OpMk.ok (ok_call (ls := [(false, [.hd 1])]) rfl rfl ⟨_, _, Try.func65, rfl, by decide⟩ (vclonerows p (by omega)) ⟨⟨[.ro _], rfl, ⟨rfl, trivial⟩⟩, trivial⟩ rfl (gle rfl))) rfl ?_
        refine SV.op (OpL.ok (nb := 0) (ok_build (zs := [.nl _]) (ys := [.hd 1]) (qs := [(0, [.hd 1])]) (pl := fun i => ([(0, 1)] : List (Nat × Nat))[i]?) rfl zero_impl_Run ⟨rfl, ⟨3, by decide, sz_impl_Row⟩, trivial⟩ ⟨⟨rfl, false, rfl, (fun _ => rfl), rfl⟩, trivial⟩ bld_impl_Run rfl) rfl (gle rfl)) rfl ?_
        refine SV.op (OpMk.ok (ok_lit1 (kk := 2) elt_impl_Run (ag := true) (xs := [.hd 1]) rfl rfl rfl rfl (fun h => by cases h) (outs_c rfl outs_n) (by simp [two]) rfl (gle rfl))) rfl ?_
        refine SV.op (OpMk.ok (ok_append (kk := 3) elt_impl_Run (ls := .hd 0) (lx := .hd 2) rfl rfl rfl rfl rfl rfl (by intro i h1 h2; first | (cases h1; done) | (cases h1; cases h2)) (by first | omega | (simp only [List.length_map]; omega) | (simp; done) | (simp; omega)) rfl (gle rfl))) rfl ?_
        refine SV.op (OpL.ok (nb := 0) (ok_move (v := V.one (.hd 3)) (.inr rfl) rfl) rfl (gle rfl)) rfl ?_
        refine SV.nil ?_
        refine SV.tn ?_
        refine SV.seq' ?_
        refine SV.region ?_
        refine SV.op (OpL.ok (nb := 0) (ok_move (v := V.one (.hd 3)) (.inl rfl) rfl) rfl (gle rfl)) rfl ?_
        refine SV.op (OpL.ok (nb := 0) (ok_move (v := V.one (.hd 3)) (.inr rfl) rfl) rfl (gle rfl)) rfl ?_
        refine SV.nil ?_
        refine SV.tn ?_
        refine SV.ret ?_
        apply SV.done (hf := Try.results44) (ht := rfl) (he := .inl rfl)
        case hr => exact (ResAll.cons (ResOk.tmp (ag := false) (xs := [.hd 3]) rfl) ResAll.nil')
        case h2 => simp [two]
        refine ⟨rfl, ⟨?_, trivial⟩, trivial⟩ <;> (show some (T.seq _ _) = some (T.seq _ _); refine congrArg (fun z => some (T.seq _ z)) ?_; rw [← hend]; first | done | rfl | (simp [tRun]; done))
      · skip   -- c1.F
        have htl : X.drop t = [] := List.drop_eq_nil_of_le (by simp at hc1; omega)
        have hend : o = Runs.pass X := by rw [← ho, htl]; simp [Runs.pass]
        refine SV.skip ?_
        refine SV.tn ?_
        refine SV.seq' ?_
        refine SV.region ?_
        refine SV.op (OpL.ok (nb := 0) (ok_move (v := V.one (.hd 0)) (.inl rfl) rfl) rfl (gle rfl)) rfl ?_
        refine SV.op (OpL.ok (nb := 0) (ok_move (v := V.one (.hd 0)) (.inr rfl) rfl) rfl (gle rfl)) rfl ?_
        refine SV.nil ?_
        refine SV.tn ?_
        refine SV.ret ?_
        apply SV.done (hf := Try.results44) (ht := rfl) (he := .inl rfl)
        case hr => exact (ResAll.cons (ResOk.tmp (ag := false) (xs := [.hd 0]) rfl) ResAll.nil')
        case h2 => simp [two]
        refine ⟨rfl, ⟨?_, trivial⟩, trivial⟩ <;> (show some (T.seq _ _) = some (T.seq _ _); refine congrArg (fun z => some (T.seq _ z)) ?_; rw [← hend]; first | done | rfl | (simp [tRun]; done))
end Go.Proofs.Ytpnbnbhifpcelaa
/- The reference's AreValidRuns, FlattenRuns: told by trees. -/
namespace Go.Proofs.Ytpnbnbhifpcelaa
open Go Go.RowKit V
set_option linter.unusedVariables false
theorem okRuns_all {X : List (List R)} (h : ∀ u p, u < X.length → X[u]? = some p → Runs.okRun p = true) : Runs.okRuns X = true := by
  unfold Runs.okRuns
  rw [List.all_eq_true]
  intro p hp
  obtain ⟨u, hu, rfl⟩ := List.mem_iff_getElem.1 hp
  exact h u _ hu (List.getElem?_eq_getElem hu)
theorem okRuns_no {X : List (List R)} {u : Nat} {p : List R} (h : X[u]? = some p) (hp : Runs.okRun p = false) : Runs.okRuns X = false := by
  unfold Runs.okRuns
  rw [List.all_eq_false]
  exact ⟨p, List.mem_of_getElem? h, by rw [hp]; decide⟩
theorem okRun_eq (p : List R) : Runs.okRun p = (decide (0 < p.length) && (R.asc p && okRows p)) := rfl
set_option maxRecDepth 100000 in
set_option maxHeartbeats 2000000 in
theorem vokruns_s (X : List (List R)) (hW : ∀ p ∈ X, ∀ r ∈ p, r.wf) (hp : ∀ p ∈ X, p.length ≤ 1000000000) (hX : X.length ≤ 1000000000) : VC Try.prog 72 [(false, [.seq 84 ((X).map tRun)])] false [(false, [.lit (.bool (Runs.okRuns X))])] := by
  refine VC.enter Try.func72 rfl Try.ntmps72 (gle rfl) fun E hE => ?_
  refine SV.seq' ?_
  refine SV.region ?_
  refine SV.op (OpL.ok (nb := 0) (ok_move (v := V.one (.sc _)) (.inr rfl) rfl) rfl (gle rfl)) rfl ?_
  refine SV.nil ?_
  refine SV.tn ?_
  refine SV.seq' ?_
  refine SV.seq' ?_
  refine SV.region ?_
  refine SV.op (OpL.ok (nb := 0) (ok_move (v := V.one (.sc _)) (.inr rfl) rfl) rfl (gle rfl)) rfl ?_
  refine SV.nil ?_
  refine SV.tn ?_
  refine SV.block ?_
  refine SV.loopF (X := Nat) (fun (σ : VS) t => (((VS.nil.put 0 (σ.tm 0)).put 2 (σ.tm 2)).put 3 (V.flat false [.sc (.int .i64 ((t : Int)))]))) (fun t => t ≤ X.length ∧ ∀ u p, u < t → X[u]? = some p → Runs.okRun p = true) (fun t => X.length - t) ?_ ?_
  · skip
    refine SV.again (fun i => [].getD i 0) 0 (⟨Nat.zero_le _, fun u p h => absurd h (Nat.not_lt_zero u)⟩) (pins hE rfl rfl) (VS.le.mk' (le_put (le_put (le_put le_nil (V.le.keep (ag := false) (xs := [.ro _]) (ys := [.ro _]) rfl rfl ⟨rfl, trivial⟩)) (V.le.keep (ag := false) (xs := [.sc _]) (ys := [.sc _]) rfl rfl ⟨rfl, trivial⟩)) (V.le.keep (ag := false) (xs := [.sc _]) (ys := [.sc _]) rfl rfl ⟨(by first | rfl | (show Leaf.sc _ = Leaf.sc _; refine congrArg Leaf.sc ?_; first | rfl | go_num | (simp [cntAll]; done)) | (simp [cntAll]; done) | (simp; omega)), trivial⟩)) trivial trivial nil_ob (fun i j hi hj e => absurd hi (Nat.not_lt_zero i)))
  · rintro t ⟨ht, hb⟩
    refine SV.seq' ?_
    refine SV.seq' ?_
    refine SV.region ?_
    refine SV.op (OpL.ok (nb := 0) (ok_move (v := V.one (.sc _)) (.inl rfl) rfl) rfl (gle rfl)) rfl ?_
    refine SV.op (OpL.ok (nb := 0) (ok_move (v := V.one (.ro _)) (.inl rfl) rfl) rfl (gle rfl)) rfl ?_
    refine SV.op (OpL.ok (nb := 0) (ok_len (lf := .ro _) rfl elt_impl_Run.und rfl rfl) rfl (gle rfl)) rfl ?_
    refine SV.op (OpL.ok (nb := 0) (ok_s2 (x := .tmp 4) (x' := .tmp 6) (VScal.one rfl) (VScal.one rfl) (fun ρ h1 h2 w => by go_simp; (try go_bits); with_reducible rfl) rfl) rfl (gle rfl)) rfl ?_
    refine SV.nil ?_
    refine SV.tn ?_
    refine SV.cond rfl (fun hc0 => ?_) (fun hc0 => ?_)
    · skip   -- c0.T
      have htl : t < X.length := by simpa using hc0
      obtain ⟨p, hx⟩ : ∃ p, X[t]? = some p := ⟨_, List.getElem?_eq_getElem htl⟩
      refine SV.skip ?_
      refine SV.tn ?_
      refine SV.seq' ?_
      refine SV.block ?_
      refine SV.seq' ?_
      refine SV.region ?_
      refine SV.op (OpL.ok (nb := 0) (ok_move (v := V.one (.ro _)) (.inl rfl) rfl) rfl (gle rfl)) rfl ?_
      refine SV.op (OpL.ok (nb := 0) (ok_move (v := V.one (.sc _)) (.inl rfl) rfl) rfl (gle rfl)) rfl ?_
      refine SV.op (OpL.ok (nb := 0) (ok_index (n := 1) (lf := .ro _) rfl elt_impl_Run.und sz_impl_Run rfl rfl rfl (map_at hx)) rfl (gle rfl)) rfl ?_
      refine SV.op (OpL.ok (nb := 0) (ok_field_el (p := .rp _) (off := 0) rfl rfl rfl fld_impl_Run_0) rfl (gle rfl)) rfl ?_
      refine SV.op (OpL.ok (nb := 0) (ok_load_rp (ag := false) (m := 1) (ys := [.ro _]) rfl rfl agg_s_impl_Row sz_s_impl_Row (fun _ => rfl) (gle rfl) rfl) rfl (gle rfl)) rfl ?_
      refine SV.op (OpL.ok (nb := 0) (ok_len (lf := .ro _) rfl elt_impl_Row.und rfl rfl) rfl (gle rfl)) rfl ?_
      refine SV.op (OpL.ok (nb := 0) (ok_s2 (x := .tmp 15) (x' := .const ((Value.int IntKind.i64 0))) (VScal.one rfl) (VScal.one rfl) (fun ρ h1 h2 w => by go_simp; (try go_bits); with_reducible rfl) rfl) rfl (gle rfl)) rfl ?_
      refine SV.op (OpL.ok (nb := 0) (ok_move (v := V.one (.sc _)) (.inl rfl) rfl) rfl (gle rfl)) rfl ?_
      refine SV.split (d := 17) rfl (fun hg0 => ?_) (fun hg0 => ?_)
      · skip   -- g0.T
        refine SV.opN rfl rfl rfl (gle rfl) rfl rfl rfl (gle rfl) ?_
        refine SV.opN rfl rfl rfl (gle rfl) rfl rfl rfl (gle rfl) ?_
        refine SV.opN rfl rfl rfl (gle rfl) rfl rfl rfl (gle rfl) ?_
        refine SV.opN rfl rfl rfl (gle rfl) rfl rfl rfl (gle rfl) ?_
        refine SV.opN rfl rfl rfl (gle rfl) rfl rfl rfl (gle rfl) ?_
        refine SV.opN rfl rfl rfl (gle rfl) rfl rfl rfl (gle rfl) ?_
        refine SV.opN rfl rfl rfl (gle rfl) rfl rfl rfl (gle rfl) ?_
        refine SV.op (OpL.ok (nb := 0) (ok_pickT (v := V.one (.sc _)) rfl rfl rfl) rfl (gle rfl)) rfl ?_
        refine SV.op (OpL.ok (nb := 0) (ok_move (v := V.one (.sc _)) (.inl rfl) rfl) rfl (gle rfl)) rfl ?_
        refine SV.split (d := 26) rfl (fun hg1 => ?_) (fun hg1 => ?_)
        · skip   -- g1.T
          refine SV.opN rfl rfl rfl (gle rfl) rfl rfl rfl (gle rfl) ?_
          refine SV.opN rfl rfl rfl (gle rfl) rfl rfl rfl (gle rfl) ?_
          refine SV.opN rfl rfl rfl (gle rfl) rfl rfl rfl (gle rfl) ?_
          refine SV.opN rfl rfl rfl (gle rfl) rfl rfl rfl (gle rfl) ?_
          refine SV.opN rfl rfl rfl (gle rfl) rfl rfl rfl (gle rfl) ?_
          refine SV.opN rfl rfl rfl (gle rfl) rfl rfl rfl (gle rfl) ?_
          refine SV.opN rfl rfl rfl (gle rfl) rfl rfl rfl (gle rfl) ?_
          refine SV.op (OpL.ok (nb := 0) (ok_pickT (v := V.one (.sc _)) rfl rfl rfl) rfl (gle rfl)) rfl ?_
          refine SV.nil ?_
          refine SV.tn ?_
          refine SV.cond rfl (fun hc1 => ?_) (fun hc1 => ?_)
          · skip   -- c1.T
            have hbad : Runs.okRun p = false := by
              rw [Bool.eq_false_iff]
              intro h
              rw [okRun_eq] at h
              simp only [Bool.and_eq_true, decide_eq_true_eq] at h
              obtain ⟨h1, h2, h3⟩ := h
              simp at hg0; first | omega | (simp [hg0] at h1; done)
            have hno : Runs.okRuns X = false := okRuns_no hx hbad
            refine SV.seq' ?_
            refine SV.region ?_
            refine SV.op (OpL.ok (nb := 0) (ok_move (v := V.one (.sc _)) (.inr rfl) rfl) rfl (gle rfl)) rfl ?_
            refine SV.nil ?_
            refine SV.tn ?_
            refine SV.ret ?_
            refine SV.br ?_
            refine SV.tr ?_
            refine SV.tr ?_
            refine SV.br ?_
            refine SV.tr ?_
            apply SV.done (hf := Try.results72) (ht := rfl) (he := .inl rfl)
            case hr => exact (ResAll.cons (ResOk.tmp (ag := false) (xs := [.sc _]) rfl) ResAll.nil')
            case h2 => simp [two]
            refine ⟨rfl, ⟨?_, trivial⟩, trivial⟩ <;> (show some (T.lit (Value.bool _)) = some (T.lit (Value.bool _)); refine congrArg (fun z => some (T.lit (Value.bool z))) ?_; rw [hno])
          · skip   -- c1.F
            cases hc1
        · skip   -- g1.F
          (cases hg1)
      · skip   -- g0.F
        refine SV.opY (OpL.ok (nb := 0) (ok_move (v := V.one (.ro _)) (.inl rfl) rfl) rfl (gle rfl)) rfl rfl rfl (gle rfl) rfl rfl ?_
        refine SV.opY (OpL.ok (nb := 0) (ok_move (v := V.one (.sc _)) (.inl rfl) rfl) rfl (gle rfl)) rfl rfl rfl (gle rfl) rfl rfl ?_
        refine SV.opY (OpL.ok (nb := 0) (ok_index (n := 1) (lf := .ro _) rfl elt_impl_Run.und sz_impl_Run rfl rfl rfl (map_at hx)) rfl (gle rfl)) rfl rfl rfl (gle rfl) rfl rfl ?_
        refine SV.opY (OpL.ok (nb := 0) (ok_field_el (p := .rp _) (off := 0) rfl rfl rfl fld_impl_Run_0) rfl (gle rfl)) rfl rfl rfl (gle rfl) rfl rfl ?_
        refine SV.opY (OpL.ok (nb := 0) (ok_load_rp (ag := false) (m := 1) (ys := [.ro _]) rfl rfl agg_s_impl_Row sz_s_impl_Row (fun _ => rfl) (gle rfl) rfl) rfl (gle rfl)) rfl rfl rfl (gle rfl) rfl rfl ?_
        refine SV.opY (OpMk.ok (ok_call (ls := [(false, [.sc _])]) rfl rfl ⟨_, _, Try.func54, rfl, by decide⟩ (vasc_t p (hW p (List.mem_of_getElem? hx)) (hp p (List.mem_of_getElem? hx))) ⟨⟨[.ro _], rfl, ⟨rfl, trivial⟩⟩, trivial⟩ rfl (gle rfl))) rfl rfl rfl (gle rfl) rfl rfl ?_
        refine SV.opY (OpL.ok (nb := 0) (ok_s1 (x := .tmp 23) (VScal.one rfl) (fun ρ h1 w => by go_simp; (try go_bits); with_reducible rfl) rfl) rfl (gle rfl)) rfl rfl rfl (gle rfl) rfl rfl ?_
        refine SV.op (OpL.ok (nb := 0) (ok_pickF (v := V.one (.sc _)) rfl rfl rfl) rfl (gle rfl)) rfl ?_
        refine SV.op (OpL.ok (nb := 0) (ok_move (v := V.one (.sc _)) (.inl rfl) rfl) rfl (gle rfl)) rfl ?_
        refine SV.split (d := 26) rfl (fun hg2 => ?_) (fun hg2 => ?_)
        · skip   -- g2.T
          refine SV.opN rfl rfl rfl (gle rfl) rfl rfl rfl (gle rfl) ?_
          refine SV.opN rfl rfl rfl (gle rfl) rfl rfl rfl (gle rfl) ?_
          refine SV.opN rfl rfl rfl (gle rfl) rfl rfl rfl (gle rfl) ?_
          refine SV.opN rfl rfl rfl (gle rfl) rfl rfl rfl (gle rfl) ?_
          refine SV.opN rfl rfl rfl (gle rfl) rfl rfl rfl (gle rfl) ?_
          refine SV.opN rfl rfl rfl (gle rfl) rfl rfl rfl (gle rfl) ?_
          refine SV.opN rfl rfl rfl (gle rfl) rfl rfl rfl (gle rfl) ?_
          refine SV.op (OpL.ok (nb := 0) (ok_pickT (v := V.one (.sc _)) rfl rfl rfl) rfl (gle rfl)) rfl ?_
          refine SV.nil ?_
          refine SV.tn ?_
          refine SV.cond rfl (fun hc2 => ?_) (fun hc2 => ?_)
          · skip   -- c2.T
            have hbad : Runs.okRun p = false := by
              rw [Bool.eq_false_iff]
              intro h
              rw [okRun_eq] at h
              simp only [Bool.and_eq_true, decide_eq_true_eq] at h
              obtain ⟨h1, h2, h3⟩ := h
              rw [h2] at hg2; cases hg2
            have hno : Runs.okRuns X = false := okRuns_no hx hbad
            refine SV.seq' ?_
            refine SV.region ?_
            refine SV.op (OpL.ok (nb := 0) (ok_move (v := V.one (.sc _)) (.inr rfl) rfl) rfl (gle rfl)) rfl ?_
            refine SV.nil ?_
            refine SV.tn ?_
            refine SV.ret ?_
            refine SV.br ?_
            refine SV.tr ?_
            refine SV.tr ?_
            refine SV.br ?_
            refine SV.tr ?_
            apply SV.done (hf := Try.results72) (ht := rfl) (he := .inl rfl)
            case hr => exact (ResAll.cons (ResOk.tmp (ag := false) (xs := [.sc _]) rfl) ResAll.nil')
            case h2 => simp [two]
            refine ⟨rfl, ⟨?_, trivial⟩, trivial⟩ <;> (show some (T.lit (Value.bool _)) = some (T.lit (Value.bool _)); refine congrArg (fun z => some (T.lit (Value.bool z))) ?_; rw [hno])
          · skip   -- c2.F
            cases hc2
        · skip   -- g2.F
          refine SV.opY (OpL.ok (nb := 0) (ok_move (v := V.one (.ro _)) (.inl rfl) rfl) rfl (gle rfl)) rfl rfl rfl (gle rfl) rfl rfl ?_
          refine SV.opY (OpL.ok (nb := 0) (ok_move (v := V.one (.sc _)) (.inl rfl) rfl) rfl (gle rfl)) rfl rfl rfl (gle rfl) rfl rfl ?_
          refine SV.opY (OpL.ok (nb := 0) (ok_index (n := 1) (lf := .ro _) rfl elt_impl_Run.und sz_impl_Run rfl rfl rfl (map_at hx)) rfl (gle rfl)) rfl rfl rfl (gle rfl) rfl rfl ?_
          refine SV.opY (OpL.ok (nb := 0) (ok_field_el (p := .rp _) (off := 0) rfl rfl rfl fld_impl_Run_0) rfl (gle rfl)) rfl rfl rfl (gle rfl) rfl rfl ?_
          refine SV.opY (OpL.ok (nb := 0) (ok_load_rp (ag := false) (m := 1) (ys := [.ro _]) rfl rfl agg_s_impl_Row sz_s_impl_Row (fun _ => rfl) (gle rfl) rfl) rfl (gle rfl)) rfl rfl rfl (gle rfl) rfl rfl ?_
          refine SV.opY (OpMk.ok (ok_call (ls := [(false, [.sc _])]) rfl rfl ⟨_, _, Try.func62, rfl, by decide⟩ (vares_t p (hW p (List.mem_of_getElem? hx)) (hp p (List.mem_of_getElem? hx))) ⟨⟨[.ro _], rfl, ⟨rfl, trivial⟩⟩, trivial⟩ rfl (gle rfl))) rfl rfl rfl (gle rfl) rfl rfl ?_
          refine SV.opY (OpL.ok (nb := 0) (ok_s1 (x := .tmp 32) (VScal.one rfl) (fun ρ h1 w => by go_simp; (try go_bits); with_reducible rfl) rfl) rfl (gle rfl)) rfl rfl rfl (gle rfl) rfl rfl ?_
          refine SV.op (OpL.ok (nb := 0) (ok_pickF (v := V.one (.sc _)) rfl rfl rfl) rfl (gle rfl)) rfl ?_
          refine SV.nil ?_
          refine SV.tn ?_
          refine SV.cond rfl (fun hc3 => ?_) (fun hc3 => ?_)
          · skip   -- c3.T
            have hbad : Runs.okRun p = false := by
              rw [Bool.eq_false_iff]
              intro h
              rw [okRun_eq] at h
              simp only [Bool.and_eq_true, decide_eq_true_eq] at h
              obtain ⟨h1, h2, h3⟩ := h
              rw [h3] at hc3; cases hc3
            have hno : Runs.okRuns X = false := okRuns_no hx hbad
            refine SV.seq' ?_
            refine SV.region ?_
            refine SV.op (OpL.ok (nb := 0) (ok_move (v := V.one (.sc _)) (.inr rfl) rfl) rfl (gle rfl)) rfl ?_
            refine SV.nil ?_
            refine SV.tn ?_
            refine SV.ret ?_
            refine SV.br ?_
            refine SV.tr ?_
            refine SV.tr ?_
            refine SV.br ?_
            refine SV.tr ?_
            apply SV.done (hf := Try.results72) (ht := rfl) (he := .inl rfl)
            case hr => exact (ResAll.cons (ResOk.tmp (ag := false) (xs := [.sc _]) rfl) ResAll.nil')
            case h2 => simp [two]
            refine ⟨rfl, ⟨?_, trivial⟩, trivial⟩ <;> (show some (T.lit (Value.bool _)) = some (T.lit (Value.bool _)); refine congrArg (fun z => some (T.lit (Value.bool z))) ?_; rw [hno])
          · skip   -- c3.F
            have hgood : Runs.okRun p = true := by
              rw [okRun_eq]
              simp only [Bool.and_eq_true, decide_eq_true_eq]
              refine ⟨?_, by simpa using hg2, by simpa using hc3⟩
              rcases Nat.eq_zero_or_pos p.length with h | h; (exfalso; simp [h] at hg0); (exact h)
            refine SV.skip ?_
            refine SV.bn ?_
            refine SV.tn ?_
            refine SV.region ?_
            refine SV.op (OpL.ok (nb := 0) (ok_move (v := V.one (.sc _)) (.inl rfl) rfl) rfl (gle rfl)) rfl ?_
            refine SV.op (OpL.ok (nb := 0) (ok_s2 (x := .tmp 8) (x' := .const ((Value.int IntKind.i64 1))) (VScal.one rfl) (VScal.one rfl) (fun ρ h1 h2 w => by go_simp; (try go_bits); with_reducible rfl) rfl) rfl (gle rfl)) rfl ?_
            refine SV.op (OpL.ok (nb := 0) (ok_move (v := V.one (.sc _)) (.inr rfl) rfl) rfl (gle rfl)) rfl ?_
            refine SV.nil ?_
            refine SV.tn ?_
            refine SV.again (fun i => [].getD i 0) (t + 1) (⟨⟨by omega, fun u q hu hq => by rcases Nat.lt_or_ge u t with h1 | h1; (exact hb u q h1 hq); (have h2 : u = t := (by omega); subst h2; rw [hx] at hq; cases hq; exact hgood)⟩, by omega⟩) (pins hE rfl rfl) (VS.le.mk' (le_put (le_put (le_put le_nil (V.le.keep (ag := false) (xs := [.ro _]) (ys := [.ro _]) rfl rfl ⟨rfl, trivial⟩)) (V.le.keep (ag := false) (xs := [.sc _]) (ys := [.sc _]) rfl rfl ⟨rfl, trivial⟩)) (V.le.keep (ag := false) (xs := [.sc _]) (ys := [.sc _]) rfl rfl ⟨(by first | rfl | (show Leaf.sc _ = Leaf.sc _; refine congrArg Leaf.sc ?_; first | rfl | go_num | (simp [cntAll]; done)) | (simp [cntAll]; done) | (simp; omega)), trivial⟩)) trivial trivial nil_ob (fun i j hi hj e => absurd hi (Nat.not_lt_zero i)))
    · skip   -- c0.F
      have hte : ¬ t < X.length := by simpa using hc0
      have hno : Runs.okRuns X = true := okRuns_all fun u p hu hx => hb u p (by omega) hx
      refine SV.exit ?_
      refine SV.te ?_
      refine SV.te ?_
      refine SV.bh ?_
      refine SV.tn ?_
      refine SV.seq' ?_
      refine SV.region ?_
      refine SV.op (OpL.ok (nb := 0) (ok_move (v := V.one (.sc _)) (.inr rfl) rfl) rfl (gle rfl)) rfl ?_
      refine SV.nil ?_
      refine SV.tn ?_
      refine SV.ret ?_
      apply SV.done (hf := Try.results72) (ht := rfl) (he := .inl rfl)
      case hr => exact (ResAll.cons (ResOk.tmp (ag := false) (xs := [.sc _]) rfl) ResAll.nil')
      case h2 => simp [two]
      refine ⟨rfl, ⟨?_, trivial⟩, trivial⟩ <;> (show some (T.lit (Value.bool _)) = some (T.lit (Value.bool _)); refine congrArg (fun z => some (T.lit (Value.bool z))) ?_; rw [hno])
end Go.Proofs.Ytpnbnbhifpcelaa
/- The reference's MergeRuns: told by trees. -/
namespace Go.Proofs.Ytpnbnbhifpcelaa
open Go Go.RowKit V
set_option linter.unusedVariables false
theorem passes_le (X : List (List R)) : ∀ t, (Runs.passes X t).length ≤ X.length
  | 0 => Nat.le_refl _
  | t + 1 => by
    have h := passes_le X t
    rw [show Runs.passes X (t + 1) = Runs.pass (Runs.passes X t) from rfl, Runs.pass_len]
    omega
theorem npass_self (L : Nat) : Runs.npass L ≤ L := by
  induction L using Nat.strongRecOn with
  | _ L ih =>
    rcases Nat.lt_or_ge 1 L with h | h
    · have := ih ((L + 1) / 2) (by omega)
      rw [Runs.npass_gt h]
      omega
    · rw [Runs.npass_le h]
      exact Nat.zero_le _
def mrows (X : List (List R)) : List R := if Runs.okRuns X = true then Runs.allIn X else []
def mcount (X : List (List R)) : Nat := if Runs.okRuns X = true then Runs.npass X.length else 0
theorem mrows_end {X : List (List R)} {t : Nat} (ho : Runs.okRuns X = true) (h : Runs.npass X.length = t + Runs.npass (Runs.passes X t).length) (h1 : (Runs.passes X t).length ≤ 1) : mrows X = (Runs.passes X t).flatten ∧ mcount X = t := by
  have h2 := Runs.npass_done h h1
  unfold mrows mcount Runs.allIn
  rw [if_pos ho, if_pos ho, h2]
  exact ⟨rfl, rfl⟩
theorem one_flat {X : List (List R)} {p : List R} (h : X[0]? = some p) (h1 : X.length ≤ 1) : X.flatten = p := by
  match X, h, h1 with
  | [q], h, _ => cases h; simp
  | a :: b :: Y, _, h1 => simp at h1
set_option maxRecDepth 100000 in
set_option maxHeartbeats 2000000 in
theorem vmr_s (X : List (List R)) (hW : ∀ p ∈ X, ∀ r ∈ p, r.wf) (hp : ∀ p ∈ X, p.length ≤ 1000000000) (hX : X.length ≤ 1000000000) (hF : X.flatten.length ≤ 1000000000) : VC Try.prog 45 [(false, [.seq 84 ((X).map tRun)])] true [(false, [.seq 72 ((mrows X).map tRow)]), (false, [.lit (.int .i64 (((mcount X : Nat) : Int)))]), (false, [.lit (.bool (Runs.okRuns X))])] := by
  refine VC.enter Try.func45 rfl Try.ntmps45 (gle rfl) fun E hE => ?_
  refine SV.seq' ?_
  refine SV.region ?_
  refine SV.op (OpL.ok (nb := 0) (ok_move (v := V.one (.sc _)) (.inr rfl) rfl) rfl (gle rfl)) rfl ?_
  refine SV.op (OpL.ok (nb := 0) (ok_move (v := V.one (.sc _)) (.inr rfl) rfl) rfl (gle rfl)) rfl ?_
  refine SV.op (OpL.ok (nb := 0) (ok_move (v := V.one (.sc _)) (.inr rfl) rfl) rfl (gle rfl)) rfl ?_
  refine SV.nil ?_
  refine SV.tn ?_
  refine SV.seq' ?_
  refine SV.seq' ?_
  refine SV.region ?_
  refine SV.op (OpL.ok (nb := 0) (ok_move (v := V.one (.ro _)) (.inl rfl) rfl) rfl (gle rfl)) rfl ?_
  refine SV.op (OpMk.ok (ok_call (ls := [(false, [.sc _])]) rfl rfl ⟨_, _, Try.func72, rfl, by decide⟩ (vokruns_s X hW hp hX) ⟨⟨[.ro _], rfl, ⟨rfl, trivial⟩⟩, trivial⟩ rfl (gle rfl))) rfl ?_
  refine SV.op (OpL.ok (nb := 0) (ok_s1 (x := .tmp 8) (VScal.one rfl) (fun ρ h1 w => by go_simp; (try go_bits); with_reducible rfl) rfl) rfl (gle rfl)) rfl ?_
  refine SV.nil ?_
  refine SV.tn ?_
  refine SV.cond rfl (fun hc0 => ?_) (fun hc0 => ?_)
  · skip   -- c0.T
    have ho : Runs.okRuns X = false := by simpa using hc0
    have hr : mrows X = [] := by unfold mrows; rw [if_neg (by rw [ho]; decide)]
    have hk : mcount X = 0 := by unfold mcount; rw [if_neg (by rw [ho]; decide)]
    refine SV.seq' ?_
    refine SV.region ?_
    refine SV.op (OpMk.ok (ok_lit0 (kk := 0) elt_impl_Row rfl rfl rfl (gle rfl))) rfl ?_
    refine SV.op (OpL.ok (nb := 0) (ok_move (v := V.one (.hd 0)) (.inr rfl) rfl) rfl (gle rfl)) rfl ?_
    refine SV.op (OpL.ok (nb := 0) (ok_move (v := V.one (.sc _)) (.inr rfl) rfl) rfl (gle rfl)) rfl ?_
    refine SV.op (OpL.ok (nb := 0) (ok_move (v := V.one (.sc _)) (.inr rfl) rfl) rfl (gle rfl)) rfl ?_
    refine SV.nil ?_
    refine SV.tn ?_
    refine SV.ret ?_
    refine SV.tr ?_
    apply SV.done (hf := Try.results45) (ht := rfl) (he := .inl rfl)
    case hr => exact (ResAll.cons (ResOk.tmp (ag := false) (xs := [.hd 0]) rfl) (ResAll.cons (ResOk.tmp (ag := false) (xs := [.sc _]) rfl) (ResAll.cons (ResOk.tmp (ag := false) (xs := [.sc _]) rfl) ResAll.nil')))
    case h2 => simp [two]
    refine ⟨rfl, ⟨?_, trivial⟩, ⟨rfl, ⟨?_, trivial⟩, ⟨rfl, ⟨?_, trivial⟩, trivial⟩⟩⟩ <;> first | rfl | ((show some (T.seq _ _) = some (T.seq _ _); refine congrArg (fun z => some (T.seq _ z)) ?_; rw [hr]; first | done | rfl | (rw [he]; rfl) | (rw [hfl]; first | done | rfl | (simp; done)))) | ((show some (T.lit (Value.int .i64 _)) = some (T.lit (Value.int .i64 _)); refine congrArg (fun z => some (T.lit (Value.int .i64 z))) ?_; rw [hk]; first | done | rfl)) | ((show some (T.lit (Value.int .i64 _)) = some (T.lit (Value.int .i64 _)); refine congrArg (fun z => some (T.lit (Value.int .i64 z))) ?_; rw [hk]; simp)) | ((show some (T.lit (Value.bool _)) = some (T.lit (Value.bool _)); refine congrArg (fun z => some (T.lit (Value.bool z))) ?_; rw [ho])) | ((show some (T.lit (Value.bool _)) = some (T.lit (Value.bool _)); refine congrArg (fun z => some (T.lit (Value.bool z))) ?_; first | (rw [ho]; done) | (simp [ho]; done)))
  · skip   -- c0.F
    have ho : Runs.okRuns X = true := by simpa using hc0
    refine SV.skip ?_
    refine SV.tn ?_
    refine SV.seq' ?_
    refine SV.region ?_
    refine SV.op (OpL.ok (nb := 0) (ok_move (v := V.one (.ro _)) (.inl rfl) rfl) rfl (gle rfl)) rfl ?_
    refine SV.op (OpL.ok (nb := 0) (ok_move (v := V.one (.ro _)) (.inr rfl) rfl) rfl (gle rfl)) rfl ?_
    refine SV.nil ?_
    refine SV.tn ?_
    refine SV.seq' ?_
    refine SV.region ?_
    refine SV.op (OpL.ok (nb := 0) (ok_move (v := V.one (.sc _)) (.inr rfl) rfl) rfl (gle rfl)) rfl ?_
    refine SV.nil ?_
    refine SV.tn ?_
    refine SV.seq' ?_
    refine SV.block ?_
    refine SV.loopF (X := Option Nat) (fun (σ : VS) x => match x with | none => (((((VS.nil.put 2 (σ.tm 2)).put 3 (σ.tm 3)).put 4 (σ.tm 4)).put 5 (σ.tm 5)).put 6 (V.flat false [.sc (.int .i64 ((0 : Int)))])) | some y => ((((((VS.nil.new (.seq 84 ((Runs.passes X y).map tRun))).put 2 (σ.tm 2)).put 3 (σ.tm 3)).put 4 (σ.tm 4)).put 5 (V.flat false [.hd 0])).put 6 (V.flat false [.sc (.int .i64 ((y : Int)))]))) (fun x => Runs.npass X.length = x.getD 0 + Runs.npass (Runs.passes X (x.getD 0)).length ∧ (x.isSome = true → 0 < (Runs.passes X (x.getD 0)).length)) (fun x => (Runs.passes X (x.getD 0)).length) ?_ ?_
    · skip
      refine SV.again (fun i => [].getD i 0) none (⟨by show _ = 0 + _; rw [Nat.zero_add]; rfl, fun h => by cases h⟩) (pins hE rfl rfl) (VS.le.mk' (le_put (le_put (le_put (le_put (le_put le_nil (V.le.keep (ag := false) (xs := [.sc _]) (ys := [.sc _]) rfl rfl ⟨rfl, trivial⟩)) (V.le.keep (ag := false) (xs := [.sc _]) (ys := [.sc _]) rfl rfl ⟨rfl, trivial⟩)) (V.le.keep (ag := false) (xs := [.sc _]) (ys := [.sc _]) rfl rfl ⟨rfl, trivial⟩)) (V.le.keep (ag := false) (xs := [.ro _]) (ys := [.ro _]) rfl rfl ⟨rfl, trivial⟩)) (V.le.keep (ag := false) (xs := [.sc _]) (ys := [.sc _]) rfl rfl ⟨(by first | rfl | (show Leaf.sc _ = Leaf.sc _; refine congrArg Leaf.sc ?_; first | rfl | go_num | (first | rfl | (simp; done); first | done | rfl | go_num | (simp; done) | (simp; omega)) | (simp [cntAll]; done)) | (simp [cntAll]; done) | (simp; omega)), trivial⟩)) trivial trivial nil_ob (fun i j hi hj e => absurd hi (Nat.not_lt_zero i)))
    · rintro x hinv
      cases x with
      | none =>
        have hq : Runs.npass X.length = 0 + Runs.npass (Runs.passes X 0).length := hinv.1
        refine SV.seq' ?_
        refine SV.seq' ?_
        refine SV.region ?_
        refine SV.op (OpL.ok (nb := 0) (ok_move (v := V.one (.ro _)) (.inl rfl) rfl) rfl (gle rfl)) rfl ?_
        refine SV.op (OpL.ok (nb := 0) (ok_len (lf := .ro _) rfl elt_impl_Run.und rfl rfl) rfl (gle rfl)) rfl ?_
        refine SV.op (OpL.ok (nb := 0) (ok_s2 (x := .tmp 13) (x' := .const ((Value.int IntKind.i64 1))) (VScal.one rfl) (VScal.one rfl) (fun ρ h1 h2 w => by go_simp; (try go_bits); with_reducible rfl) rfl) rfl (gle rfl)) rfl ?_
        refine SV.nil ?_
        refine SV.tn ?_
        refine SV.cond rfl (fun hc1 => ?_) (fun hc1 => ?_)
        · skip   -- c1.T
          have h1 : 1 < (Runs.passes X 0).length := by show 1 < X.length; simp at hc1; omega
          have hn1 : (Runs.npass X.length = (0 + 1) + Runs.npass (Runs.passes X (0 + 1)).length ∧ ((some (0 + 1)).isSome = true → 0 < (Runs.passes X (0 + 1)).length)) ∧ (Runs.passes X (0 + 1)).length < (Runs.passes X 0).length := by
            have hl := Runs.pass_len (Runs.passes X 0)
            have e : Runs.passes X (0 + 1) = Runs.pass (Runs.passes X 0) := rfl
            refine ⟨⟨Runs.npass_step hq h1, fun _ => ?_⟩, ?_⟩ <;> (rw [e, hl]; omega)
          refine SV.skip ?_
          refine SV.tn ?_
          refine SV.block ?_
          refine SV.seq' ?_
          refine SV.region ?_
          refine SV.op (OpL.ok (nb := 0) (ok_move (v := V.one (.ro _)) (.inl rfl) rfl) rfl (gle rfl)) rfl ?_
          refine SV.op (OpMk.ok (ok_call (ls := [(false, [.hd 0])]) rfl rfl ⟨_, _, Try.func42, rfl, by decide⟩ (vpass_s X hX hF) ⟨⟨[.ro _], rfl, ⟨rfl, trivial⟩⟩, trivial⟩ rfl (gle rfl))) rfl ?_
          refine SV.op (OpL.ok (nb := 0) (ok_move (v := V.one (.hd 0)) (.inr rfl) rfl) rfl (gle rfl)) rfl ?_
          refine SV.nil ?_
          refine SV.tn ?_
          refine SV.region ?_
          refine SV.op (OpL.ok (nb := 0) (ok_move (v := V.one (.sc _)) (.inl rfl) rfl) rfl (gle rfl)) rfl ?_
          refine SV.op (OpL.ok (nb := 0) (ok_s2 (x := .tmp 17) (x' := .const ((Value.int IntKind.i64 1))) (VScal.one rfl) (VScal.one rfl) (fun ρ h1 h2 w => by go_simp; (try go_bits); with_reducible rfl) rfl) rfl (gle rfl)) rfl ?_
          refine SV.op (OpL.ok (nb := 0) (ok_move (v := V.one (.sc _)) (.inr rfl) rfl) rfl (gle rfl)) rfl ?_
          refine SV.nil ?_
          refine SV.bn ?_
          refine SV.tn ?_
          refine SV.again (fun i => [0].getD i 0) (some 1) (hn1) (pins hE rfl rfl) (VS.le.mk' (le_put (le_put (le_put (le_put (le_put (le_new le_nil) (V.le.keep (ag := false) (xs := [.sc _]) (ys := [.sc _]) rfl rfl ⟨rfl, trivial⟩)) (V.le.keep (ag := false) (xs := [.sc _]) (ys := [.sc _]) rfl rfl ⟨rfl, trivial⟩)) (V.le.keep (ag := false) (xs := [.sc _]) (ys := [.sc _]) rfl rfl ⟨rfl, trivial⟩)) (V.le.keep (ag := false) (xs := [.hd 0]) (ys := [.hd 0]) rfl rfl ⟨⟨rfl, (gle rfl), (gle rfl)⟩, trivial⟩)) (V.le.keep (ag := false) (xs := [.sc _]) (ys := [.sc _]) rfl rfl ⟨(by first | rfl | (show Leaf.sc _ = Leaf.sc _; refine congrArg Leaf.sc ?_; first | rfl | go_num | (first | rfl | (simp; done); first | done | rfl | go_num | (simp; done) | (simp; omega)) | (simp [cntAll]; done)) | (simp [cntAll]; done) | (simp; omega)), trivial⟩)) trivial ⟨.inr ⟨_, _, rfl, ?ob2_0, (gle rfl)⟩, trivial⟩ (new_ob nil_ob) (fun i j hi hj e => inj_list (l := [0]) (by decide) i j hi hj e))
          case ob2_0 =>
            show some (T.seq _ _) = some (T.seq _ _)
            rfl
        · skip   -- c1.F
          have h1 : (Runs.passes X 0).length ≤ 1 := by show X.length ≤ 1; simp at hc1; omega
          obtain ⟨hr, hk⟩ := mrows_end ho hq h1
          replace hr : mrows X = X.flatten := hr
          replace h1 : X.length ≤ 1 := h1
          refine SV.exit ?_
          refine SV.te ?_
          refine SV.te ?_
          refine SV.bh ?_
          refine SV.tn ?_
          refine SV.seq' ?_
          refine SV.seq' ?_
          refine SV.region ?_
          refine SV.op (OpL.ok (nb := 0) (ok_move (v := V.one (.ro _)) (.inl rfl) rfl) rfl (gle rfl)) rfl ?_
          refine SV.op (OpL.ok (nb := 0) (ok_len (lf := .ro _) rfl elt_impl_Run.und rfl rfl) rfl (gle rfl)) rfl ?_
          refine SV.op (OpL.ok (nb := 0) (ok_s2 (x := .tmp 20) (x' := .const ((Value.int IntKind.i64 0))) (VScal.one rfl) (VScal.one rfl) (fun ρ h1 h2 w => by go_simp; (try go_bits); with_reducible rfl) rfl) rfl (gle rfl)) rfl ?_
          refine SV.nil ?_
          refine SV.tn ?_
          refine SV.cond rfl (fun hc2 => ?_) (fun hc2 => ?_)
          · skip   -- c2.T
            have he : X = [] := List.eq_nil_of_length_eq_zero (by first | (simpa using hc2) | (simp at hc2; omega) | (simp at hc2; rw [hc2]; rfl))
            refine SV.seq' ?_
            refine SV.region ?_
            refine SV.op (OpMk.ok (ok_lit0 (kk := 0) elt_impl_Row rfl rfl rfl (gle rfl))) rfl ?_
            refine SV.op (OpL.ok (nb := 0) (ok_move (v := V.one (.hd 0)) (.inr rfl) rfl) rfl (gle rfl)) rfl ?_
            refine SV.op (OpL.ok (nb := 0) (ok_move (v := V.one (.sc _)) (.inr rfl) rfl) rfl (gle rfl)) rfl ?_
            refine SV.op (OpL.ok (nb := 0) (ok_move (v := V.one (.sc _)) (.inr rfl) rfl) rfl (gle rfl)) rfl ?_
            refine SV.nil ?_
            refine SV.tn ?_
            refine SV.ret ?_
            refine SV.tr ?_
            apply SV.done (hf := Try.results45) (ht := rfl) (he := .inl rfl)
            case hr => exact (ResAll.cons (ResOk.tmp (ag := false) (xs := [.hd 0]) rfl) (ResAll.cons (ResOk.tmp (ag := false) (xs := [.sc _]) rfl) (ResAll.cons (ResOk.tmp (ag := false) (xs := [.sc _]) rfl) ResAll.nil')))
            case h2 => simp [two]
            refine ⟨rfl, ⟨?_, trivial⟩, ⟨rfl, ⟨?_, trivial⟩, ⟨rfl, ⟨?_, trivial⟩, trivial⟩⟩⟩ <;> first | rfl | ((show some (T.seq _ _) = some (T.seq _ _); refine congrArg (fun z => some (T.seq _ z)) ?_; rw [hr]; first | done | rfl | (rw [he]; rfl) | (rw [hfl]; first | done | rfl | (simp; done)))) | ((show some (T.lit (Value.int .i64 _)) = some (T.lit (Value.int .i64 _)); refine congrArg (fun z => some (T.lit (Value.int .i64 z))) ?_; rw [hk]; first | done | rfl)) | ((show some (T.lit (Value.int .i64 _)) = some (T.lit (Value.int .i64 _)); refine congrArg (fun z => some (T.lit (Value.int .i64 z))) ?_; rw [hk]; simp)) | ((show some (T.lit (Value.bool _)) = some (T.lit (Value.bool _)); refine congrArg (fun z => some (T.lit (Value.bool z))) ?_; rw [ho])) | ((show some (T.lit (Value.bool _)) = some (T.lit (Value.bool _)); refine congrArg (fun z => some (T.lit (Value.bool z))) ?_; first | (rw [ho]; done) | (simp [ho]; done)))
          · skip   -- c2.F
            have h3 : 0 < X.length := by rcases Nat.eq_zero_or_pos X.length with h | h; (exfalso; simp [h] at hc2); (exact h)
            obtain ⟨p, hx⟩ : ∃ p, X[0]? = some p := ⟨_, List.getElem?_eq_getElem h3⟩
            have hfl := one_flat hx h1
            have hpl := Runs.mem_len (List.mem_of_getElem? hx)
            refine SV.skip ?_
            refine SV.tn ?_
            refine SV.seq' ?_
            refine SV.region ?_
            refine SV.op (OpMk.ok (ok_lit0 (kk := 0) elt_impl_Row rfl rfl rfl (gle rfl))) rfl ?_
            refine SV.op (OpL.ok (nb := 0) (ok_move (v := V.one (.ro _)) (.inl rfl) rfl) rfl (gle rfl)) rfl ?_
            refine SV.op (OpL.ok (nb := 0) (ok_index (n := 1) (lf := .ro _) rfl elt_impl_Run.und sz_impl_Run rfl rfl rfl (map_at hx)) rfl (gle rfl)) rfl ?_
            refine SV.op (OpL.ok (nb := 0) (ok_field_el (p := .rp _) (off := 0) rfl rfl rfl fld_impl_Run_0) rfl (gle rfl)) rfl ?_
            refine SV.op (OpL.ok (nb := 0) (ok_load_rp (ag := false) (m := 1) (ys := [.ro _]) rfl rfl agg_s_impl_Row sz_s_impl_Row (fun _ => rfl) (gle rfl) rfl) rfl (gle rfl)) rfl ?_
            refine SV.op (OpMk.ok (ok_append_ro (kk := 1) elt_impl_Row (ls := .hd 0) (lx := .ro _) rfl rfl rfl rfl rfl rfl (flat_impl_Row _) (by first | omega | (simp only [List.length_map]; omega) | (simp; done) | (simp; omega)) rfl (gle rfl))) rfl ?_
            refine SV.op (OpL.ok (nb := 0) (ok_move (v := V.one (.sc _)) (.inl rfl) rfl) rfl (gle rfl)) rfl ?_
            refine SV.op (OpL.ok (nb := 0) (ok_move (v := V.one (.hd 1)) (.inr rfl) rfl) rfl (gle rfl)) rfl ?_
            refine SV.op (OpL.ok (nb := 0) (ok_move (v := V.one (.sc _)) (.inr rfl) rfl) rfl (gle rfl)) rfl ?_
            refine SV.op (OpL.ok (nb := 0) (ok_move (v := V.one (.sc _)) (.inr rfl) rfl) rfl (gle rfl)) rfl ?_
            refine SV.nil ?_
            refine SV.tn ?_
            refine SV.ret ?_
            apply SV.done (hf := Try.results45) (ht := rfl) (he := .inl rfl)
            case hr => exact (ResAll.cons (ResOk.tmp (ag := false) (xs := [.hd 1]) rfl) (ResAll.cons (ResOk.tmp (ag := false) (xs := [.sc _]) rfl) (ResAll.cons (ResOk.tmp (ag := false) (xs := [.sc _]) rfl) ResAll.nil')))
            case h2 => simp [two]
            refine ⟨rfl, ⟨?_, trivial⟩, ⟨rfl, ⟨?_, trivial⟩, ⟨rfl, ⟨?_, trivial⟩, trivial⟩⟩⟩ <;> first | rfl | ((show some (T.seq _ _) = some (T.seq _ _); refine congrArg (fun z => some (T.seq _ z)) ?_; rw [hr]; first | done | rfl | (rw [he]; rfl) | (rw [hfl]; first | done | rfl | (simp; done)))) | ((show some (T.lit (Value.int .i64 _)) = some (T.lit (Value.int .i64 _)); refine congrArg (fun z => some (T.lit (Value.int .i64 z))) ?_; rw [hk]; first | done | rfl)) | ((show some (T.lit (Value.int .i64 _)) = some (T.lit (Value.int .i64 _)); refine congrArg (fun z => some (T.lit (Value.int .i64 z))) ?_; rw [hk]; simp)) | ((show some (T.lit (Value.bool _)) = some (T.lit (Value.bool _)); refine congrArg (fun z => some (T.lit (Value.bool z))) ?_; rw [ho])) | ((show some (T.lit (Value.bool _)) = some (T.lit (Value.bool _)); refine congrArg (fun z => some (T.lit (Value.bool z))) ?_; first | (rw [ho]; done) | (simp [ho]; done)))
      | some y =>
        have hns := npass_self X.length
        have hq : Runs.npass X.length = y + Runs.npass (Runs.passes X y).length := hinv.1
        have h0 : 0 < (Runs.passes X y).length := hinv.2 rfl
        have hple := passes_le X y
        have hpf := (Runs.passes_perm X y).length_eq
        refine SV.seq' ?_
        refine SV.seq' ?_
        refine SV.region ?_
        refine SV.op (OpL.ok (nb := 0) (ok_move (v := V.one (.hd 0)) (.inl rfl) rfl) rfl (gle rfl)) rfl ?_
        refine SV.op (OpL.ok (nb := 0) (ok_len (lf := .hd 0) rfl elt_impl_Run.und rfl rfl) rfl (gle rfl)) rfl ?_
        refine SV.op (OpL.ok (nb := 0) (ok_s2 (x := .tmp 13) (x' := .const ((Value.int IntKind.i64 1))) (VScal.one rfl) (VScal.one rfl) (fun ρ h1 h2 w => by go_simp; (try go_bits); with_reducible rfl) rfl) rfl (gle rfl)) rfl ?_
        refine SV.nil ?_
        refine SV.tn ?_
        refine SV.cond rfl (fun hc3 => ?_) (fun hc3 => ?_)
        · skip   -- c3.T
          have h1 : 1 < (Runs.passes X y).length := by simp at hc3; omega
          have hn1 : (Runs.npass X.length = (y + 1) + Runs.npass (Runs.passes X (y + 1)).length ∧ ((some (y + 1)).isSome = true → 0 < (Runs.passes X (y + 1)).length)) ∧ (Runs.passes X (y + 1)).length < (Runs.passes X y).length := by
            have hl := Runs.pass_len (Runs.passes X y)
            have e : Runs.passes X (y + 1) = Runs.pass (Runs.passes X y) := rfl
            refine ⟨⟨Runs.npass_step hq h1, fun _ => ?_⟩, ?_⟩ <;> (rw [e, hl]; omega)
          refine SV.skip ?_
          refine SV.tn ?_
          refine SV.block ?_
          refine SV.seq' ?_
          refine SV.region ?_
          refine SV.op (OpL.ok (nb := 0) (ok_move (v := V.one (.hd 0)) (.inl rfl) rfl) rfl (gle rfl)) rfl ?_
          refine SV.op (OpMk.ok (ok_call (ls := [(false, [.hd 1])]) rfl rfl ⟨_, _, Try.func42, rfl, by decide⟩ (vpass_s (Runs.passes X y) (by omega) (by omega)) ⟨⟨[.hd 0], rfl, ⟨rfl, trivial⟩⟩, trivial⟩ rfl (gle rfl))) rfl ?_
          refine SV.op (OpL.ok (nb := 0) (ok_move (v := V.one (.hd 1)) (.inr rfl) rfl) rfl (gle rfl)) rfl ?_
          refine SV.nil ?_
          refine SV.tn ?_
          refine SV.region ?_
          refine SV.op (OpL.ok (nb := 0) (ok_move (v := V.one (.sc _)) (.inl rfl) rfl) rfl (gle rfl)) rfl ?_
          refine SV.op (OpL.ok (nb := 0) (ok_s2 (x := .tmp 17) (x' := .const ((Value.int IntKind.i64 1))) (VScal.one rfl) (VScal.one rfl) (fun ρ h1 h2 w => by go_simp; (try go_bits); with_reducible rfl) rfl) rfl (gle rfl)) rfl ?_
          refine SV.op (OpL.ok (nb := 0) (ok_move (v := V.one (.sc _)) (.inr rfl) rfl) rfl (gle rfl)) rfl ?_
          refine SV.nil ?_
          refine SV.bn ?_
          refine SV.tn ?_
          refine SV.again (fun i => [1].getD i 0) (some (y + 1)) (hn1) (pins hE rfl rfl) (VS.le.mk' (le_put (le_put (le_put (le_put (le_put (le_new le_nil) (V.le.keep (ag := false) (xs := [.sc _]) (ys := [.sc _]) rfl rfl ⟨rfl, trivial⟩)) (V.le.keep (ag := false) (xs := [.sc _]) (ys := [.sc _]) rfl rfl ⟨rfl, trivial⟩)) (V.le.keep (ag := false) (xs := [.sc _]) (ys := [.sc _]) rfl rfl ⟨rfl, trivial⟩)) (V.le.keep (ag := false) (xs := [.hd 1]) (ys := [.hd 0]) rfl rfl ⟨⟨rfl, (gle rfl), (gle rfl)⟩, trivial⟩)) (V.le.keep (ag := false) (xs := [.sc _]) (ys := [.sc _]) rfl rfl ⟨(by first | rfl | (show Leaf.sc _ = Leaf.sc _; refine congrArg Leaf.sc ?_; first | rfl | go_num | (first | rfl | (simp; done); first | done | rfl | go_num | (simp; done) | (simp; omega)) | (simp [cntAll]; done)) | (simp [cntAll]; done) | (simp; omega)), trivial⟩)) trivial ⟨.inr ⟨_, _, rfl, ?ob3_0, (gle rfl)⟩, trivial⟩ (new_ob nil_ob) (fun i j hi hj e => inj_list (l := [1]) (by decide) i j hi hj e))
          case ob3_0 =>
            show some (T.seq _ _) = some (T.seq _ _)
            rfl
        · skip   -- c3.F
          have h1 : (Runs.passes X y).length ≤ 1 := by simp at hc3; omega
          obtain ⟨hr, hk⟩ := mrows_end ho hq h1
          obtain ⟨p, hx⟩ : ∃ p, (Runs.passes X y)[0]? = some p := ⟨_, List.getElem?_eq_getElem h0⟩
          have hfl := one_flat hx h1
          have hpl := Runs.mem_len (List.mem_of_getElem? hx)
          refine SV.exit ?_
          refine SV.te ?_
          refine SV.te ?_
          refine SV.bh ?_
          refine SV.tn ?_
          refine SV.seq' ?_
          refine SV.seq' ?_
          refine SV.region ?_
          refine SV.op (OpL.ok (nb := 0) (ok_move (v := V.one (.hd 0)) (.inl rfl) rfl) rfl (gle rfl)) rfl ?_
          refine SV.op (OpL.ok (nb := 0) (ok_len (lf := .hd 0) rfl elt_impl_Run.und rfl rfl) rfl (gle rfl)) rfl ?_
          refine SV.op (OpL.ok (nb := 0) (ok_s2 (x := .tmp 20) (x' := .const ((Value.int IntKind.i64 0))) (VScal.one rfl) (VScal.one rfl) (fun ρ h1 h2 w => by go_simp; (try go_bits); with_reducible rfl) rfl) rfl (gle rfl)) rfl ?_
          refine SV.nil ?_
          refine SV.tn ?_
          refine SV.cond rfl (fun hc4 => ?_) (fun hc4 => ?_)
          · skip   -- c4.T
            (exfalso; simp at hc4; first | omega | (rw [hc4] at h0; simp at h0))
          · skip   -- c4.F
            refine SV.skip ?_
            refine SV.tn ?_
            refine SV.seq' ?_
            refine SV.region ?_
            refine SV.op (OpMk.ok (ok_lit0 (kk := 1) elt_impl_Row rfl rfl rfl (gle rfl))) rfl ?_
            refine SV.op (OpL.ok (nb := 0) (ok_move (v := V.one (.hd 0)) (.inl rfl) rfl) rfl (gle rfl)) rfl ?_
            refine SV.op (OpL.ok (nb := 0) (ok_index (n := 1) (lf := .hd 0) rfl elt_impl_Run.und sz_impl_Run rfl rfl rfl (map_at hx)) rfl (gle rfl)) rfl ?_
            refine SV.op (OpL.ok (nb := 0) (ok_field_el (p := .ep 0 _ _ _) (off := 0) rfl rfl (cells_ep rfl (map_at hx) rfl rfl) fld_impl_Run_0) rfl (gle rfl)) rfl ?_
            refine SV.op (ok_load_el (p := .ep 0 _ _ _) (ag := false) (m := 1) (ys := [.nd 0 _ _ (some _)]) rfl rfl (cells_ep rfl (map_at hx) rfl rfl) agg_s_impl_Row sz_s_impl_Row (fun _ => rfl) (gle rfl) rfl rfl (gle rfl)) rfl ?_
            refine SV.op (OpMk.ok (ok_append_ro (kk := 2) elt_impl_Row (ls := .hd 1) (lx := .nd 0 _ _ (some _)) rfl rfl rfl rfl rfl rfl (flat_impl_Row _) (by first | omega | (simp only [List.length_map]; omega) | (simp; done) | (simp; omega)) rfl (gle rfl))) rfl ?_
            refine SV.op (OpL.ok (nb := 0) (ok_move (v := V.one (.sc _)) (.inl rfl) rfl) rfl (gle rfl)) rfl ?_
            refine SV.op (OpL.ok (nb := 0) (ok_move (v := V.one (.hd 2)) (.inr rfl) rfl) rfl (gle rfl)) rfl ?_
            refine SV.op (OpL.ok (nb := 0) (ok_move (v := V.one (.sc _)) (.inr rfl) rfl) rfl (gle rfl)) rfl ?_
            refine SV.op (OpL.ok (nb := 0) (ok_move (v := V.one (.sc _)) (.inr rfl) rfl) rfl (gle rfl)) rfl ?_
            refine SV.nil ?_
            refine SV.tn ?_
            refine SV.ret ?_
            apply SV.done (hf := Try.results45) (ht := rfl) (he := .inl rfl)
            case hr => exact (ResAll.cons (ResOk.tmp (ag := false) (xs := [.hd 2]) rfl) (ResAll.cons (ResOk.tmp (ag := false) (xs := [.sc _]) rfl) (ResAll.cons (ResOk.tmp (ag := false) (xs := [.sc _]) rfl) ResAll.nil')))
            case h2 => simp [two]
            refine ⟨rfl, ⟨?_, trivial⟩, ⟨rfl, ⟨?_, trivial⟩, ⟨rfl, ⟨?_, trivial⟩, trivial⟩⟩⟩ <;> first | rfl | ((show some (T.seq _ _) = some (T.seq _ _); refine congrArg (fun z => some (T.seq _ z)) ?_; rw [hr]; first | done | rfl | (rw [he]; rfl) | (rw [hfl]; first | done | rfl | (simp; done)))) | ((show some (T.lit (Value.int .i64 _)) = some (T.lit (Value.int .i64 _)); refine congrArg (fun z => some (T.lit (Value.int .i64 z))) ?_; rw [hk]; first | done | rfl)) | ((show some (T.lit (Value.int .i64 _)) = some (T.lit (Value.int .i64 _)); refine congrArg (fun z => some (T.lit (Value.int .i64 z))) ?_; rw [hk]; simp)) | ((show some (T.lit (Value.bool _)) = some (T.lit (Value.bool _)); refine congrArg (fun z => some (T.lit (Value.bool z))) ?_; rw [ho])) | ((show some (T.lit (Value.bool _)) = some (T.lit (Value.bool _)); refine congrArg (fun z => some (T.lit (Value.bool z))) ?_; first | (rw [ho]; done) | (simp [ho]; done)))
end Go.Proofs.Ytpnbnbhifpcelaa
/- The program's AreValidRuns: told by trees. -/
namespace Go.Proofs.Ytpnbnbhifpcelaa
open Go Go.RowKit V
set_option linter.unusedVariables false
set_option maxRecDepth 100000 in
set_option maxHeartbeats 2000000 in
theorem vokruns_i (X : List (List R)) (hW : ∀ p ∈ X, ∀ r ∈ p, r.wf) (hp : ∀ p ∈ X, p.length ≤ 1000000000) (hX : X.length ≤ 1048576) (hF : X.flatten.length ≤ 1000000000) : VC Try.prog 76 [(false, [.seq 84 ((X).map tRun)])] false [(false, [.lit (.bool (Runs.okRuns X))])] := by
  refine VC.enter Try.func76 rfl Try.ntmps76 (gle rfl) fun E hE => ?_
  refine SV.seq' ?_
  refine SV.region ?_
  refine SV.op (OpL.ok (nb := 0) (ok_move (v := V.one (.sc _)) (.inr rfl) rfl) rfl (gle rfl)) rfl ?_
  refine SV.nil ?_
  refine SV.tn ?_
  refine SV.seq' ?_
  refine SV.seq' ?_
  refine SV.region ?_
  refine SV.op (OpL.ok (nb := 0) (ok_move (v := V.one (.ro _)) (.inl rfl) rfl) rfl (gle rfl)) rfl ?_
  refine SV.op (OpL.ok (nb := 0) (ok_len (lf := .ro _) rfl elt_impl_Run.und rfl rfl) rfl (gle rfl)) rfl ?_
  refine SV.op (OpL.ok (nb := 0) (ok_move (v := V.one (.sc _)) (.inl rfl) rfl) rfl (gle rfl)) rfl ?_
  refine SV.nil ?_
  refine SV.tn ?_
  refine SV.block ?_
  refine SV.loopF (X := Nat) (fun (σ : VS) t => ((((VS.nil.put 2 (σ.tm 2)).put 5 (σ.tm 5)).put 6 (σ.tm 6)).put 7 (V.flat false [.sc (.int .i64 ((t : Int)))]))) (fun t => t ≤ X.length ∧ ∀ u p, u < t → X[u]? = some p → Runs.okRun p = true) (fun t => X.length - t) ?_ ?_
  · skip
    refine SV.again (fun i => [].getD i 0) 0 (⟨Nat.zero_le _, fun u p h => absurd h (Nat.not_lt_zero u)⟩) (pins hE rfl rfl) (VS.le.mk' (le_put (le_put (le_put (le_put le_nil (V.le.keep (ag := false) (xs := [.sc _]) (ys := [.sc _]) rfl rfl ⟨rfl, trivial⟩)) (V.le.keep (ag := false) (xs := [.ro _]) (ys := [.ro _]) rfl rfl ⟨rfl, trivial⟩)) (V.le.keep (ag := false) (xs := [.sc _]) (ys := [.sc _]) rfl rfl ⟨rfl, trivial⟩)) (V.le.keep (ag := false) (xs := [.sc _]) (ys := [.sc _]) rfl rfl ⟨(by first | rfl | (show Leaf.sc _ = Leaf.sc _; refine congrArg Leaf.sc ?_; first | rfl | go_num | (simp [cntAll]; done)) | (simp [cntAll]; done) | (simp; omega)), trivial⟩)) trivial trivial nil_ob (fun i j hi hj e => absurd hi (Nat.not_lt_zero i)))
  · rintro t ⟨ht, hb⟩
    refine SV.seq' ?_
    refine SV.region ?_
    refine SV.op (OpL.ok (nb := 0) (ok_s2 (x := .tmp 7) (x' := .tmp 6) (VScal.one rfl) (VScal.one rfl) (fun ρ h1 h2 w => by go_simp; (try go_bits); with_reducible rfl) rfl) rfl (gle rfl)) rfl ?_
    refine SV.nil ?_
    refine SV.tn ?_
    refine SV.seq' ?_
    refine SV.cond rfl (fun hc0 => ?_) (fun hc0 => ?_)
    · skip   -- c0.T
      have htl : t < X.length := by simpa using hc0
      obtain ⟨p, hx⟩ : ∃ p, X[t]? = some p := ⟨_, List.getElem?_eq_getElem htl⟩
      refine SV.skip ?_
      refine SV.tn ?_
      refine SV.seq' ?_
      refine SV.block ?_
      refine SV.seq' ?_
      refine SV.region ?_
      refine SV.op (OpL.ok (nb := 0) (ok_index (n := 1) (lf := .ro _) rfl elt_impl_Run.und sz_impl_Run rfl rfl rfl (map_at hx)) rfl (gle rfl)) rfl ?_
      refine SV.op (OpL.ok (nb := 0) (ok_load_rp (ag := true) (m := 1) (ys := [.ro _]) rfl rfl agg_impl_Run sz_impl_Run (fun h => by cases h) (gle rfl) rfl) rfl (gle rfl)) rfl ?_
      refine SV.op (OpMk.ok (ok_alloc (kk := 0) (xs := [.nl _]) rfl rfl zero_impl_Run ⟨rfl, ⟨3, by decide, sz_impl_Row⟩, trivial⟩ rfl (gle rfl))) rfl ?_
      refine SV.op (ok_store_bp (b := 0) (i := 0) (m := 1) (ag := true) (zs := [.ro _]) (ys := [.ro _]) rfl rfl rfl rfl sz_impl_Run (fun h => by cases h) rfl (gle rfl) rfl rfl rfl) rfl ?_
      refine SV.nil ?_
      refine SV.tn ?_
      refine SV.seq' ?_
      refine SV.region ?_
      refine SV.op (OpL.ok (nb := 1) (ok_field_bp (b := 0) (o' := 0) (off := 0) rfl rfl fld_impl_Run_0) rfl (gle rfl)) rfl ?_
      refine SV.op (OpL.ok (nb := 1) (ok_load_bp (b := 0) (i := 0) (ag := false) (m := 1) (ys := [.ro _]) rfl rfl rfl agg_s_impl_Row sz_s_impl_Row (fun _ => rfl) rfl rfl (gle rfl)) rfl (gle rfl)) rfl ?_
      refine SV.op (OpL.ok (nb := 1) (ok_len (lf := .ro _) rfl elt_impl_Row.und rfl rfl) rfl (gle rfl)) rfl ?_
      refine SV.op (OpL.ok (nb := 1) (ok_s2 (x := .tmp 13) (x' := .const ((Value.int IntKind.i64 0))) (VScal.one rfl) (VScal.one rfl) (fun ρ h1 h2 w => by go_simp; (try go_bits); with_reducible rfl) rfl) rfl (gle rfl)) rfl ?_
      refine SV.op (OpL.ok (nb := 1) (ok_move (v := V.one (.sc _)) (.inl rfl) rfl) rfl (gle rfl)) rfl ?_
      refine SV.split (d := 15) rfl (fun hg0 => ?_) (fun hg0 => ?_)
      · skip   -- g0.T
        refine SV.opN rfl rfl rfl (gle rfl) rfl rfl rfl (gle rfl) ?_
        refine SV.opN rfl rfl rfl (gle rfl) rfl rfl rfl (gle rfl) ?_
        refine SV.opN rfl rfl rfl (gle rfl) rfl rfl rfl (gle rfl) ?_
        refine SV.opN rfl rfl rfl (gle rfl) rfl rfl rfl (gle rfl) ?_
        refine SV.op (OpL.ok (nb := 1) (ok_pickT (v := V.one (.sc _)) rfl rfl rfl) rfl (gle rfl)) rfl ?_
        refine SV.op (OpL.ok (nb := 1) (ok_move (v := V.one (.sc _)) (.inl rfl) rfl) rfl (gle rfl)) rfl ?_
        refine SV.opN rfl rfl rfl (gle rfl) rfl rfl rfl (gle rfl) ?_
        refine SV.opN rfl rfl rfl (gle rfl) rfl rfl rfl (gle rfl) ?_
        refine SV.opN rfl rfl rfl (gle rfl) rfl rfl rfl (gle rfl) ?_
        refine SV.opN rfl rfl rfl (gle rfl) rfl rfl rfl (gle rfl) ?_
        refine SV.op (OpL.ok (nb := 1) (ok_pickT (v := V.one (.sc _)) rfl rfl rfl) rfl (gle rfl)) rfl ?_
        refine SV.nil ?_
        refine SV.tn ?_
        refine SV.cond rfl (fun hc1 => ?_) (fun hc1 => ?_)
        · skip   -- c1.T
          have hbad : Runs.okRun p = false := by
            rw [Bool.eq_false_iff]
            intro h
            rw [okRun_eq] at h
            simp only [Bool.and_eq_true, decide_eq_true_eq] at h
            obtain ⟨h1, h2, h3⟩ := h
            simp at hg0; first | omega | (simp [hg0] at h1; done)
          have hno : Runs.okRuns X = false := okRuns_no hx hbad
          refine SV.seq' ?_
          refine SV.region ?_
          refine SV.op (OpL.ok (nb := 1) (ok_move (v := V.one (.sc _)) (.inr rfl) rfl) rfl (gle rfl)) rfl ?_
          refine SV.nil ?_
          refine SV.tn ?_
          refine SV.ret ?_
          refine SV.br ?_
          refine SV.tr ?_
          refine SV.tr ?_
          refine SV.br ?_
          refine SV.tr ?_
          apply SV.done (hf := Try.results76) (ht := rfl) (he := .inl rfl)
          case hr => exact (ResAll.cons (ResOk.tmp (ag := false) (xs := [.sc _]) rfl) ResAll.nil')
          case h2 => simp [two]
          refine ⟨rfl, ⟨?_, trivial⟩, trivial⟩ <;> (show some (T.lit (Value.bool _)) = some (T.lit (Value.bool _)); refine congrArg (fun z => some (T.lit (Value.bool z))) ?_; rw [hno])
        · skip   -- c1.F
          cases hc1
      · skip   -- g0.F
        refine SV.opY (OpL.ok (nb := 1) (ok_field_bp (b := 0) (o' := 0) (off := 0) rfl rfl fld_impl_Run_0) rfl (gle rfl)) rfl rfl rfl (gle rfl) rfl rfl ?_
        refine SV.opY (OpL.ok (nb := 1) (ok_load_bp (b := 0) (i := 0) (ag := false) (m := 1) (ys := [.ro _]) rfl rfl rfl agg_s_impl_Row sz_s_impl_Row (fun _ => rfl) rfl rfl (gle rfl)) rfl (gle rfl)) rfl rfl rfl (gle rfl) rfl rfl ?_
        refine SV.opY (OpMk.ok (ok_call (ls := [(false, [.sc _])]) rfl rfl ⟨_, _, Try.func55, rfl, by decide⟩ (vasc_i p (hW p (List.mem_of_getElem? hx)) (hp p (List.mem_of_getElem? hx))) ⟨⟨[.ro _], rfl, ⟨rfl, trivial⟩⟩, trivial⟩ rfl (gle rfl))) rfl rfl rfl (gle rfl) rfl rfl ?_
        refine SV.opY (OpL.ok (nb := 1) (ok_s1 (x := .tmp 18) (VScal.one rfl) (fun ρ h1 w => by go_simp; (try go_bits); with_reducible rfl) rfl) rfl (gle rfl)) rfl rfl rfl (gle rfl) rfl rfl ?_
        refine SV.op (OpL.ok (nb := 1) (ok_pickF (v := V.one (.sc _)) rfl rfl rfl) rfl (gle rfl)) rfl ?_
        refine SV.op (OpL.ok (nb := 1) (ok_move (v := V.one (.sc _)) (.inl rfl) rfl) rfl (gle rfl)) rfl ?_
        refine SV.split (d := 21) rfl (fun hg1 => ?_) (fun hg1 => ?_)
        · skip   -- g1.T
          refine SV.opN rfl rfl rfl (gle rfl) rfl rfl rfl (gle rfl) ?_
          refine SV.opN rfl rfl rfl (gle rfl) rfl rfl rfl (gle rfl) ?_
          refine SV.opN rfl rfl rfl (gle rfl) rfl rfl rfl (gle rfl) ?_
          refine SV.opN rfl rfl rfl (gle rfl) rfl rfl rfl (gle rfl) ?_
          refine SV.op (OpL.ok (nb := 1) (ok_pickT (v := V.one (.sc _)) rfl rfl rfl) rfl (gle rfl)) rfl ?_
          refine SV.nil ?_
          refine SV.tn ?_
          refine SV.cond rfl (fun hc2 => ?_) (fun hc2 => ?_)
          · skip   -- c2.T
            have hbad : Runs.okRun p = false := by
              rw [Bool.eq_false_iff]
              intro h
              rw [okRun_eq] at h
              simp only [Bool.and_eq_true, decide_eq_true_eq] at h
              obtain ⟨h1, h2, h3⟩ := h
              rw [h2] at hg1; cases hg1
            have hno : Runs.okRuns X = false := okRuns_no hx hbad
            refine SV.seq' ?_
            refine SV.region ?_
            refine SV.op (OpL.ok (nb := 1) (ok_move (v := V.one (.sc _)) (.inr rfl) rfl) rfl (gle rfl)) rfl ?_
            refine SV.nil ?_
            refine SV.tn ?_
            refine SV.ret ?_
            refine SV.br ?_
            refine SV.tr ?_
            refine SV.tr ?_
            refine SV.br ?_
            refine SV.tr ?_
            apply SV.done (hf := Try.results76) (ht := rfl) (he := .inl rfl)
            case hr => exact (ResAll.cons (ResOk.tmp (ag := false) (xs := [.sc _]) rfl) ResAll.nil')
            case h2 => simp [two]
            refine ⟨rfl, ⟨?_, trivial⟩, trivial⟩ <;> (show some (T.lit (Value.bool _)) = some (T.lit (Value.bool _)); refine congrArg (fun z => some (T.lit (Value.bool z))) ?_; rw [hno])
          · skip   -- c2.F
            cases hc2
        · skip   -- g1.F
          refine SV.opY (OpL.ok (nb := 1) (ok_field_bp (b := 0) (o' := 0) (off := 0) rfl rfl fld_impl_Run_0) rfl (gle rfl)) rfl rfl rfl (gle rfl) rfl rfl ?_
          refine SV.opY (OpL.ok (nb := 1) (ok_load_bp (b := 0) (i := 0) (ag := false) (m := 1) (ys := [.ro _]) rfl rfl rfl agg_s_impl_Row sz_s_impl_Row (fun _ => rfl) rfl rfl (gle rfl)) rfl (gle rfl)) rfl rfl rfl (gle rfl) rfl rfl ?_
          refine SV.opY (OpMk.ok (ok_call (ls := [(false, [.sc _])]) rfl rfl ⟨_, _, Try.func64, rfl, by decide⟩ (vares_i p (hW p (List.mem_of_getElem? hx)) (hp p (List.mem_of_getElem? hx))) ⟨⟨[.ro _], rfl, ⟨rfl, trivial⟩⟩, trivial⟩ rfl (gle rfl))) rfl rfl rfl (gle rfl) rfl rfl ?_
          refine SV.opY (OpL.ok (nb := 1) (ok_s1 (x := .tmp 24) (VScal.one rfl) (fun ρ h1 w => by go_simp; (try go_bits); with_reducible rfl) rfl) rfl (gle rfl)) rfl rfl rfl (gle rfl) rfl rfl ?_
          refine SV.op (OpL.ok (nb := 1) (ok_pickF (v := V.one (.sc _)) rfl rfl rfl) rfl (gle rfl)) rfl ?_
          refine SV.nil ?_
          refine SV.tn ?_
          refine SV.cond rfl (fun hc3 => ?_) (fun hc3 => ?_)
          · skip   -- c3.T
            have hbad : Runs.okRun p = false := by
              rw [Bool.eq_false_iff]
              intro h
              rw [okRun_eq] at h
              simp only [Bool.and_eq_true, decide_eq_true_eq] at h
              obtain ⟨h1, h2, h3⟩ := h
              rw [h3] at hc3; cases hc3
            have hno : Runs.okRuns X = false := okRuns_no hx hbad
            refine SV.seq' ?_
            refine SV.region ?_
            refine SV.op (OpL.ok (nb := 1) (ok_move (v := V.one (.sc _)) (.inr rfl) rfl) rfl (gle rfl)) rfl ?_
            refine SV.nil ?_
            refine SV.tn ?_
            refine SV.ret ?_
            refine SV.br ?_
            refine SV.tr ?_
            refine SV.tr ?_
            refine SV.br ?_
            refine SV.tr ?_
            apply SV.done (hf := Try.results76) (ht := rfl) (he := .inl rfl)
            case hr => exact (ResAll.cons (ResOk.tmp (ag := false) (xs := [.sc _]) rfl) ResAll.nil')
            case h2 => simp [two]
            refine ⟨rfl, ⟨?_, trivial⟩, trivial⟩ <;> (show some (T.lit (Value.bool _)) = some (T.lit (Value.bool _)); refine congrArg (fun z => some (T.lit (Value.bool z))) ?_; rw [hno])
          · skip   -- c3.F
            have hgood : Runs.okRun p = true := by
              rw [okRun_eq]
              simp only [Bool.and_eq_true, decide_eq_true_eq]
              refine ⟨?_, by simpa using hg1, by simpa using hc3⟩
              rcases Nat.eq_zero_or_pos p.length with h | h; (exfalso; simp [h] at hg0); (exact h)
            refine SV.skip ?_
            refine SV.bn ?_
            refine SV.tn ?_
            refine SV.region ?_
            refine SV.op (OpL.ok (nb := 1) (ok_s2 (x := .tmp 7) (x' := .const ((Value.int IntKind.i64 1))) (VScal.one rfl) (VScal.one rfl) (fun ρ h1 h2 w => by go_simp; (try go_bits); with_reducible rfl) rfl) rfl (gle rfl)) rfl ?_
            refine SV.op (OpL.ok (nb := 1) (ok_move (v := V.one (.sc _)) (.inl rfl) rfl) rfl (gle rfl)) rfl ?_
            refine SV.nil ?_
            refine SV.tn ?_
            refine SV.again (fun i => [].getD i 0) (t + 1) (⟨⟨by omega, fun u q hu hq => by rcases Nat.lt_or_ge u t with h1 | h1; (exact hb u q h1 hq); (have h2 : u = t := (by omega); subst h2; rw [hx] at hq; cases hq; exact hgood)⟩, by omega⟩) (pins hE rfl rfl) (VS.le.mk' (le_put (le_put (le_put (le_put le_nil (V.le.keep (ag := false) (xs := [.sc _]) (ys := [.sc _]) rfl rfl ⟨rfl, trivial⟩)) (V.le.keep (ag := false) (xs := [.ro _]) (ys := [.ro _]) rfl rfl ⟨rfl, trivial⟩)) (V.le.keep (ag := false) (xs := [.sc _]) (ys := [.sc _]) rfl rfl ⟨rfl, trivial⟩)) (V.le.keep (ag := false) (xs := [.sc _]) (ys := [.sc _]) rfl rfl ⟨(by first | rfl | (show Leaf.sc _ = Leaf.sc _; refine congrArg Leaf.sc ?_; first | rfl | go_num | (simp [cntAll]; done)) | (simp [cntAll]; done) | (simp; omega)), trivial⟩)) trivial trivial nil_ob (fun i j hi hj e => absurd hi (Nat.not_lt_zero i)))
    · skip   -- c0.F
      have hte : ¬ t < X.length := by simpa using hc0
      have hno : Runs.okRuns X = true := okRuns_all fun u p hu hx => hb u p (by omega) hx
      refine SV.exit ?_
      refine SV.te ?_
      refine SV.te ?_
      refine SV.bh ?_
      refine SV.tn ?_
      refine SV.seq' ?_
      refine SV.region ?_
      refine SV.op (OpL.ok (nb := 0) (ok_move (v := V.one (.sc _)) (.inr rfl) rfl) rfl (gle rfl)) rfl ?_
      refine SV.nil ?_
      refine SV.tn ?_
      refine SV.ret ?_
      apply SV.done (hf := Try.results76) (ht := rfl) (he := .inl rfl)
      case hr => exact (ResAll.cons (ResOk.tmp (ag := false) (xs := [.sc _]) rfl) ResAll.nil')
      case h2 => simp [two]
      refine ⟨rfl, ⟨?_, trivial⟩, trivial⟩ <;> (show some (T.lit (Value.bool _)) = some (T.lit (Value.bool _)); refine congrArg (fun z => some (T.lit (Value.bool z))) ?_; rw [hno])
end Go.Proofs.Ytpnbnbhifpcelaa
