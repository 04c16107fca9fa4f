/- Texts joined: PruStep. -/
import Derived.Test.YtpnbnbhifpcelaaPartCf
set_option linter.unusedSimpArgs false
set_option linter.unusedVariables false
/- The program's StepSorter: told by trees. -/
namespace Go.Proofs.Ytpnbnbhifpcelaa
open Go Go.RowKit V
set_option linter.unusedVariables false
theorem SorterD.can_yes {s : SorterD} {g : Int} (h1 : SorterD.ok s = true) (h2 : Runs.isMem g = true) (h3 : ¬ s.fPhase = 4) : SorterD.can s g = true := by
 unfold SorterD.can
 rw [h1, h2, decide_eq_true h3]
 rfl
set_option maxRecDepth 100000 in
set_option maxHeartbeats 2000000 in
theorem vstep_i (s : SorterD) (g : Int) (hW : s.Wf) : VC Try.prog 30 [(true, tSorter s), (false, [.lit (.int .i64 (g))])] true [(true, tSorter (SorterD.next s g)), (false, [.seq 72 ((SorterD.gives s g).map tRow)]), (false, [.lit (.bool (SorterD.can s g))])] := by
 refine VC.enter Try.func30 rfl Try.ntmps30 (gle rfl) fun E hE => ?_
 have hsz := hW.size
 refine SV.seq' (SV.region ?_)
 refine sm (ok_box (kk := 0) (ag := true) (xs := [.ro _, .sc _, .ro _, .ro _, .ro _, .ro _, .sc _, .sc _, .sc _, .sc _]) rfl rfl rfl (fun h => by cases h) rfl rfl (gle rfl)) ?_
 refine sm (ok_alloc (kk := 1) (xs := [.nl _, .sc _, .nl _, .nl _, .nl _, .nl _, .sc _, .sc _, .sc _, .sc _]) rfl rfl zero_impl_Sorter ⟨rfl, ⟨3, by decide, sz_impl_Row⟩, rfl, rfl, rfl, ⟨3, by decide, sz_impl_Row⟩, rfl, ⟨3, by decide, sz_impl_Row⟩, rfl, ⟨3, by decide, sz_impl_Row⟩, rfl, ⟨1, by decide, sz_impl_Run⟩, rfl, rfl, rfl, rfl, rfl, rfl, rfl, rfl, trivial⟩ rfl (gle rfl)) ?_
 refine sl 2 ms ?_
 refine sl 2 ms ?_
 refine SV.nil (SV.tn (SV.seq' (SV.region ?_)))
 refine sl 2 (lb 0 0 [.ro _, .sc _, .ro _, .ro _, .ro _, .ro _, .sc _, .sc _, .sc _, .sc _] agg_impl_Sorter sz_impl_Sorter (fun h => by cases h)) ?_
 refine sm (cl [(true, [.hd 0, .sc _, .hd 1, .hd 2, .hd 3, .hd 4, .sc _, .sc _, .sc _, .sc _])] rfl Try.func83 (vclone_i s hW) ⟨⟨[.ro _, .sc _, .ro _, .ro _, .ro _, .ro _, .sc _, .sc _, .sc _, .sc _], rfl, ⟨rfl, rfl, rfl, rfl, rfl, rfl, rfl, rfl, rfl, rfl, trivial⟩⟩, trivial⟩) ?_
 refine sm (ok_alloc (kk := 2) (xs := [.nl _, .sc _, .nl _, .nl _, .nl _, .nl _, .sc _, .sc _, .sc _, .sc _]) rfl rfl zero_impl_Sorter ⟨rfl, ⟨3, by decide, sz_impl_Row⟩, rfl, rfl, rfl, ⟨3, by decide, sz_impl_Row⟩, rfl, ⟨3, by decide, sz_impl_Row⟩, rfl, ⟨3, by decide, sz_impl_Row⟩, rfl, ⟨1, by decide, sz_impl_Run⟩, rfl, rfl, rfl, rfl, rfl, rfl, rfl, rfl, trivial⟩ rfl (gle rfl)) ?_
 refine so (st (ag := true) [.hd 0, .sc _, .hd 1, .hd 2, .hd 3, .hd 4, .sc _, .sc _, .sc _, .sc _] [.hd 0, .sc _, .hd 1, .hd 2, .hd 3, .hd 4, .sc _, .sc _, .sc _, .sc _] sz_impl_Sorter (fun h => by cases h)) ?_
 refine SV.nil (SV.tn (SV.seq' (SV.seq' (SV.region ?_))))
 refine sl 3 (lb 0 0 [.ro _, .sc _, .ro _, .ro _, .ro _, .ro _, .sc _, .sc _, .sc _, .sc _] agg_impl_Sorter sz_impl_Sorter (fun h => by cases h)) ?_
 refine sm (cl [(false, [.sc _])] rfl Try.func28 (vokS_i s hW) ⟨⟨[.ro _, .sc _, .ro _, .ro _, .ro _, .ro _, .sc _, .sc _, .sc _, .sc _], rfl, ⟨rfl, rfl, rfl, rfl, rfl, rfl, rfl, rfl, rfl, rfl, trivial⟩⟩, trivial⟩) ?_
 refine sl 3 (s1 (.tmp 13)) ?_
 refine sl 3 ms ?_
 refine SV.split (d := 15) rfl (fun hg0 => ?_) (fun hg0 => ?_)
 ·skip   -- g0.T
  have hok : SorterD.ok s = false := by simpa using hg0
  have hcan : SorterD.can s g = false := by
   rw [Bool.eq_false_iff]
   intro h
   obtain ⟨h1, h2, h3⟩ := SorterD.can_iff.1 h
   rw [h1] at hok; cases hok
  have hnx : SorterD.next s g = s := if_neg (by rw [hcan]; decide)
  have hgv : SorterD.gives s g = [] := if_neg (by rw [hcan]; decide)
  refine sn ?_
  refine sn ?_
  refine sn ?_
  refine sl 3 pt ?_
  refine sl 3 ms ?_
  refine sn ?_
  refine sn ?_
  refine sn ?_
  refine sl 3 pt ?_
  refine SV.nil (SV.tn ?_)
  refine SV.cond rfl (fun hc0 => ?_) (fun hc0 => ?_)
  ·skip   -- c0.T
   refine SV.seq' (SV.region ?_)
   refine sl 3 (lb 2 0 [.hd 0, .sc _, .hd 1, .hd 2, .hd 3, .hd 4, .sc _, .sc _, .sc _, .sc _] agg_impl_Sorter sz_impl_Sorter (fun h => by cases h)) ?_
   refine so (st (ag := true) [.hd 0, .sc _, .hd 1, .hd 2, .hd 3, .hd 4, .sc _, .sc _, .sc _, .sc _] [.hd 0, .sc _, .hd 1, .hd 2, .hd 3, .hd 4, .sc _, .sc _, .sc _, .sc _] sz_impl_Sorter (fun h => by cases h)) ?_
   refine sl 3 ms ?_
   refine sl 3 ms ?_
   refine SV.nil (SV.tn (SV.ret (SV.tr ?_)))
   refine SV.nlsc (s := 5) (kk := 5) (n := 3) rfl rfl (by decide) sz_impl_Row (gle rfl) ?_
   apply SV.done (hf := Try.results30) (ht := rfl) (he := .inr rfl)
   case hr => exact (ResAll.cons (ResOk.cell (b := 1) (ag := true) (xs := [.hd 0, .sc _, .hd 1, .hd 2, .hd 3, .hd 4, .sc _, .sc _, .sc _, .sc _]) rfl rfl agg_impl_Sorter sz_impl_Sorter (fun h => by cases h)) (ResAll.cons (ResOk.tmp (ag := false) (xs := [.hd 5]) rfl) (ResAll.cons (ResOk.tmp (ag := false) (xs := [.sc _]) rfl) ResAll.nil')))
   case h2 => simp [two]
   refine ⟨rfl, ⟨?_, ?_, ?_, ?_, ?_, ?_, ?_, ?_, ?_, ?_, trivial⟩, ⟨rfl, ⟨?_, trivial⟩, ⟨rfl, ⟨?_, trivial⟩, trivial⟩⟩⟩ <;> first | rfl | ((refine lsq ?_; rw [hnx]; first | done | rfl)) | ((refine lsq ?_; rw [hgv]; first | done | rfl)) | ((refine liq ?_; rw [hnx]; first | done | rfl)) | ((refine lbq ?_; rw [hcan]))
  ·skip   -- c0.F
   cases hc0
 ·skip   -- g0.F
  have hok : SorterD.ok s = true := by simpa using hg0
  refine sy 3 ms ?_
  refine SV.opY (OpMk.ok (cl [(false, [.sc _])] rfl Try.func84 (vismem_i g) ⟨⟨[.sc _], rfl, ⟨rfl, trivial⟩⟩, trivial⟩)) rfl rfl rfl (gle rfl) rfl rfl ?_
  refine sy 3 (s1 (.tmp 17)) ?_
  refine sl 3 pf ?_
  refine sl 3 ms ?_
  refine SV.split (d := 20) rfl (fun hg1 => ?_) (fun hg1 => ?_)
  ·skip   -- g1.T
   have hmem : Runs.isMem g = false := by simpa using hg1
   have hcan : SorterD.can s g = false := by
    rw [Bool.eq_false_iff]
    intro h
    obtain ⟨h1, h2, h3⟩ := SorterD.can_iff.1 h
    have hm2 : Runs.isMem g = true := by first | exact h2 | (unfold Runs.isMem; rw [decide_eq_true_eq]; omega) | (unfold Runs.isMem; simp; omega)
    rw [hm2] at hmem; cases hmem
   have hnx : SorterD.next s g = s := if_neg (by rw [hcan]; decide)
   have hgv : SorterD.gives s g = [] := if_neg (by rw [hcan]; decide)
   refine sn ?_
   refine sn ?_
   refine sn ?_
   refine sl 3 pt ?_
   refine SV.nil (SV.tn ?_)
   refine SV.cond rfl (fun hc1 => ?_) (fun hc1 => ?_)
   ·skip   -- c1.T
    refine SV.seq' (SV.region ?_)
    refine sl 3 (lb 2 0 [.hd 0, .sc _, .hd 1, .hd 2, .hd 3, .hd 4, .sc _, .sc _, .sc _, .sc _] agg_impl_Sorter sz_impl_Sorter (fun h => by cases h)) ?_
    refine so (st (ag := true) [.hd 0, .sc _, .hd 1, .hd 2, .hd 3, .hd 4, .sc _, .sc _, .sc _, .sc _] [.hd 0, .sc _, .hd 1, .hd 2, .hd 3, .hd 4, .sc _, .sc _, .sc _, .sc _] sz_impl_Sorter (fun h => by cases h)) ?_
    refine sl 3 ms ?_
    refine sl 3 ms ?_
    refine SV.nil (SV.tn (SV.ret (SV.tr ?_)))
    refine SV.nlsc (s := 5) (kk := 5) (n := 3) rfl rfl (by decide) sz_impl_Row (gle rfl) ?_
    apply SV.done (hf := Try.results30) (ht := rfl) (he := .inr rfl)
    case hr => exact (ResAll.cons (ResOk.cell (b := 1) (ag := true) (xs := [.hd 0, .sc _, .hd 1, .hd 2, .hd 3, .hd 4, .sc _, .sc _, .sc _, .sc _]) rfl rfl agg_impl_Sorter sz_impl_Sorter (fun h => by cases h)) (ResAll.cons (ResOk.tmp (ag := false) (xs := [.hd 5]) rfl) (ResAll.cons (ResOk.tmp (ag := false) (xs := [.sc _]) rfl) ResAll.nil')))
    case h2 => simp [two]
    refine ⟨rfl, ⟨?_, ?_, ?_, ?_, ?_, ?_, ?_, ?_, ?_, ?_, trivial⟩, ⟨rfl, ⟨?_, trivial⟩, ⟨rfl, ⟨?_, trivial⟩, trivial⟩⟩⟩ <;> first | rfl | ((refine lsq ?_; rw [hnx]; first | done | rfl)) | ((refine lsq ?_; rw [hgv]; first | done | rfl)) | ((refine liq ?_; rw [hnx]; first | done | rfl)) | ((refine lbq ?_; rw [hcan]))
   ·skip   -- c1.F
    cases hc1
  ·skip   -- g1.F
   have hmem : Runs.isMem g = true := by simpa using hg1
   refine sy 3 (fb fld_impl_Sorter_8) ?_
   refine sy 3 (lb 0 8 [.sc _] agg_int sz_int (fun _ => rfl)) ?_
   refine sy 3 (s2 (.tmp 22) (.const ((Value.int IntKind.i64 4)))) ?_
   refine sl 3 pf ?_
   refine SV.nil (SV.tn ?_)
   refine SV.cond rfl (fun hc2 => ?_) (fun hc2 => ?_)
   ·skip   -- c2.T
    have hp4 : s.fPhase = 4 := by simpa using hc2
    have hcan : SorterD.can s g = false := by
     rw [Bool.eq_false_iff]
     intro h
     obtain ⟨h1, h2, h3⟩ := SorterD.can_iff.1 h
     exact h3 hp4
    have hnx : SorterD.next s g = s := if_neg (by rw [hcan]; decide)
    have hgv : SorterD.gives s g = [] := if_neg (by rw [hcan]; decide)
    refine SV.seq' (SV.region ?_)
    refine sl 3 (lb 2 0 [.hd 0, .sc _, .hd 1, .hd 2, .hd 3, .hd 4, .sc _, .sc _, .sc _, .sc _] agg_impl_Sorter sz_impl_Sorter (fun h => by cases h)) ?_
    refine so (st (ag := true) [.hd 0, .sc _, .hd 1, .hd 2, .hd 3, .hd 4, .sc _, .sc _, .sc _, .sc _] [.hd 0, .sc _, .hd 1, .hd 2, .hd 3, .hd 4, .sc _, .sc _, .sc _, .sc _] sz_impl_Sorter (fun h => by cases h)) ?_
    refine sl 3 ms ?_
    refine sl 3 ms ?_
    refine SV.nil (SV.tn (SV.ret (SV.tr ?_)))
    refine SV.nlsc (s := 5) (kk := 5) (n := 3) rfl rfl (by decide) sz_impl_Row (gle rfl) ?_
    apply SV.done (hf := Try.results30) (ht := rfl) (he := .inr rfl)
    case hr => exact (ResAll.cons (ResOk.cell (b := 1) (ag := true) (xs := [.hd 0, .sc _, .hd 1, .hd 2, .hd 3, .hd 4, .sc _, .sc _, .sc _, .sc _]) rfl rfl agg_impl_Sorter sz_impl_Sorter (fun h => by cases h)) (ResAll.cons (ResOk.tmp (ag := false) (xs := [.hd 5]) rfl) (ResAll.cons (ResOk.tmp (ag := false) (xs := [.sc _]) rfl) ResAll.nil')))
    case h2 => simp [two]
    refine ⟨rfl, ⟨?_, ?_, ?_, ?_, ?_, ?_, ?_, ?_, ?_, ?_, trivial⟩, ⟨rfl, ⟨?_, trivial⟩, ⟨rfl, ⟨?_, trivial⟩, trivial⟩⟩⟩ <;> first | rfl | ((refine lsq ?_; rw [hnx]; first | done | rfl)) | ((refine lsq ?_; rw [hgv]; first | done | rfl)) | ((refine liq ?_; rw [hnx]; first | done | rfl)) | ((refine lbq ?_; rw [hcan]))
   ·skip   -- c2.F
    have hp4 : ¬ s.fPhase = 4 := by simpa using hc2
    have hcan := SorterD.can_yes hok hmem hp4
    have hnx0 : SorterD.next s g = SorterD.step s g := if_pos hcan
    have hgv0 : SorterD.gives s g = SorterD.emits s := if_pos hcan
    refine SV.skip (SV.tn (SV.seq' ?_))
    obtain ⟨hB, hcase⟩ := SorterD.ok_iff.1 hok
    have hcase' : (s.fPhase = 1 ∧ SorterD.Reads s) ∨ (s.fPhase = 2 ∧ SorterD.Rest s ∧ SorterD.Merges s) ∨ (s.fPhase = 3 ∧ SorterD.Rest s ∧ SorterD.Emits s) := by
     rcases hcase with h | h | h | h
     ·exact .inl h
     ·exact .inr (.inl h)
     ·exact .inr (.inr h)
     ·exact absurd h.1 hp4
    rcases hcase' with ⟨hp1, hR⟩ | ⟨hp2, hQ, hM⟩ | ⟨hp3, hQ, hE3⟩
    ·skip
     obtain ⟨n, hn⟩ : ∃ n : Nat, s.fPos = n := ⟨_, (Int.toNat_of_nonneg hB.pos0).symm⟩
     have hbl := hR.bag.length_eq
     rw [hn, Int.toNat_natCast] at hbl
     simp only [List.length_append, List.length_take] at hbl
     have h24 := (SorterD.okRows_iff.1 hB.rows).1
     have hp1' := hB.pos1
     have hstep := vreadS_i s g n hW hp1 hn (by omega) (by omega) (by omega) (by omega)
     have hnx : SorterD.next s g = SorterD.stepRead s g := hnx0.trans (if_pos hp1)
     have hgv : SorterD.gives s g = [] := hgv0.trans (if_neg (by omega))
     refine SV.region ?_
     refine SV.opBound (b := 2) (j := 8) (f := 120) rfl ⟨_, _, Try.func85, rfl, by decide⟩ rfl rfl rfl (fun w c us h1 h2 => sop1_i w c us h1 (by rw [h2, hp1])) rfl rfl (gle rfl) ?_
     refine SVb.copy (x := 26) (.inr rfl) rfl rfl (gle rfl) ?_
     refine SVb.nil ?_
     refine SVb.tn ?_
     refine SVb.seq' ?_
     refine SVb.region ?_
     refine SVb.copy (x := 8) (.inl rfl) rfl rfl (gle rfl) ?_
     refine SVb.keep (nb := 0) ms rfl rfl (gle rfl) rfl ?_
     refine SVb.call (ys := [.hd 0, .sc _, .hd 1, .hd 2, .hd 3, .hd 4, .sc _, .sc _, .sc _, .sc _]) (L0 := [.hd 5, .sc _, .hd 6, .hd 7, .hd 8, .hd 9, .sc _, .sc _, .sc _, .sc _]) (L := [(false, [.hd 10])]) rfl rfl ⟨_, _, Try.func120, rfl, by decide⟩ hstep rfl ⟨rfl, rfl, rfl, rfl, rfl, rfl, rfl, rfl, rfl, rfl, trivial⟩ (by simp [two]) rfl ⟨⟨[.sc _], rfl, ⟨.inl ⟨_, rfl, rfl⟩, trivial⟩⟩, trivial⟩ rfl rfl (gle rfl) ?_
     refine sl 3 (mv (V.one (.hd 10))) ?_
     refine SV.nil (SV.tn (SV.seq' (SV.region ?_)))
     refine sl 3 (lb 2 0 [.hd 5, .sc _, .hd 6, .hd 7, .hd 8, .hd 9, .sc _, .sc _, .sc _, .sc _] agg_impl_Sorter sz_impl_Sorter (fun h => by cases h)) ?_
     refine sl 3 (mv (V.one (.hd 10))) ?_
     refine so (st (ag := true) [.hd 5, .sc _, .hd 6, .hd 7, .hd 8, .hd 9, .sc _, .sc _, .sc _, .sc _] [.hd 5, .sc _, .hd 6, .hd 7, .hd 8, .hd 9, .sc _, .sc _, .sc _, .sc _] sz_impl_Sorter (fun h => by cases h)) ?_
     refine sl 3 (mv (V.one (.hd 10))) ?_
     refine sl 3 ms ?_
     refine SV.nil (SV.tn (SV.ret ?_))
     apply SV.done (hf := Try.results30) (ht := rfl) (he := .inl rfl)
     case hr => exact (ResAll.cons (ResOk.cell (b := 1) (ag := true) (xs := [.hd 5, .sc _, .hd 6, .hd 7, .hd 8, .hd 9, .sc _, .sc _, .sc _, .sc _]) rfl rfl agg_impl_Sorter sz_impl_Sorter (fun h => by cases h)) (ResAll.cons (ResOk.tmp (ag := false) (xs := [.hd 10]) rfl) (ResAll.cons (ResOk.tmp (ag := false) (xs := [.sc _]) rfl) ResAll.nil')))
     case h2 => simp [two]
     refine ⟨rfl, ⟨?_, ?_, ?_, ?_, ?_, ?_, ?_, ?_, ?_, ?_, trivial⟩, ⟨rfl, ⟨?_, trivial⟩, ⟨rfl, ⟨?_, trivial⟩, trivial⟩⟩⟩ <;> first | rfl | ((refine lsq ?_; rw [hnx]; first | done | rfl)) | ((refine lsq ?_; rw [hgv]; first | done | rfl)) | ((refine liq ?_; rw [hnx]; first | done | rfl)) | ((refine lbq ?_; rw [hcan]))
    ·skip
     have h2r := hM.two
     obtain ⟨p0, hx0⟩ : ∃ p, s.fRuns[0]? = some p := ⟨_, List.getElem?_eq_getElem (by omega)⟩
     obtain ⟨p1, hx1⟩ : ∃ p, s.fRuns[1]? = some p := ⟨_, List.getElem?_eq_getElem (by omega)⟩
     have hf0 : SorterD.fst s = p0 := by unfold SorterD.fst; rw [List.getD_eq_getElem?_getD, hx0]; rfl
     have hf1 : SorterD.snd s = p1 := by unfold SorterD.snd; rw [List.getD_eq_getElem?_getD, hx1]; rfl
     obtain ⟨i, hi⟩ : ∃ i : Nat, s.fLeftPos = i := ⟨_, (Int.toNat_of_nonneg hM.l0).symm⟩
     obtain ⟨k, hk⟩ : ∃ k : Nat, s.fRightPos = k := ⟨_, (Int.toNat_of_nonneg hM.r0).symm⟩
     have hl1 := hM.l1
     have hr1 := hM.r1
     rw [hf0, hi] at hl1
     rw [hf1, hk] at hr1
     have hstep := vmergeS_i s g p0 p1 i k hW hx0 hx1 hi hk (by omega) (by omega)
     have hnx : SorterD.next s g = SorterD.stepMerge s := hnx0.trans ((if_neg (by omega)).trans (if_pos hp2))
     have hgv : SorterD.gives s g = [] := hgv0.trans (if_neg (by omega))
     refine SV.region ?_
     refine SV.opBound (b := 2) (j := 8) (f := 121) rfl ⟨_, _, Try.func85, rfl, by decide⟩ rfl rfl rfl (fun w c us h1 h2 => sop2_i w c us h1 (by rw [h2, hp2])) rfl rfl (gle rfl) ?_
     refine SVb.copy (x := 26) (.inr rfl) rfl rfl (gle rfl) ?_
     refine SVb.nil ?_
     refine SVb.tn ?_
     refine SVb.seq' ?_
     refine SVb.region ?_
     refine SVb.copy (x := 8) (.inl rfl) rfl rfl (gle rfl) ?_
     refine SVb.keep (nb := 0) ms rfl rfl (gle rfl) rfl ?_
     refine SVb.call (ys := [.hd 0, .sc _, .hd 1, .hd 2, .hd 3, .hd 4, .sc _, .sc _, .sc _, .sc _]) (L0 := [.hd 5, .sc _, .hd 6, .hd 7, .hd 8, .hd 9, .sc _, .sc _, .sc _, .sc _]) (L := [(false, [.hd 10])]) rfl rfl ⟨_, _, Try.func121, rfl, by decide⟩ hstep rfl ⟨rfl, rfl, rfl, rfl, rfl, rfl, rfl, rfl, rfl, rfl, trivial⟩ (by simp [two]) rfl ⟨⟨[.sc _], rfl, ⟨.inl ⟨_, rfl, rfl⟩, trivial⟩⟩, trivial⟩ rfl rfl (gle rfl) ?_
     refine sl 3 (mv (V.one (.hd 10))) ?_
     refine SV.nil (SV.tn (SV.seq' (SV.region ?_)))
     refine sl 3 (lb 2 0 [.hd 5, .sc _, .hd 6, .hd 7, .hd 8, .hd 9, .sc _, .sc _, .sc _, .sc _] agg_impl_Sorter sz_impl_Sorter (fun h => by cases h)) ?_
     refine sl 3 (mv (V.one (.hd 10))) ?_
     refine so (st (ag := true) [.hd 5, .sc _, .hd 6, .hd 7, .hd 8, .hd 9, .sc _, .sc _, .sc _, .sc _] [.hd 5, .sc _, .hd 6, .hd 7, .hd 8, .hd 9, .sc _, .sc _, .sc _, .sc _] sz_impl_Sorter (fun h => by cases h)) ?_
     refine sl 3 (mv (V.one (.hd 10))) ?_
     refine sl 3 ms ?_
     refine SV.nil (SV.tn (SV.ret ?_))
     apply SV.done (hf := Try.results30) (ht := rfl) (he := .inl rfl)
     case hr => exact (ResAll.cons (ResOk.cell (b := 1) (ag := true) (xs := [.hd 5, .sc _, .hd 6, .hd 7, .hd 8, .hd 9, .sc _, .sc _, .sc _, .sc _]) rfl rfl agg_impl_Sorter sz_impl_Sorter (fun h => by cases h)) (ResAll.cons (ResOk.tmp (ag := false) (xs := [.hd 10]) rfl) (ResAll.cons (ResOk.tmp (ag := false) (xs := [.sc _]) rfl) ResAll.nil')))
     case h2 => simp [two]
     refine ⟨rfl, ⟨?_, ?_, ?_, ?_, ?_, ?_, ?_, ?_, ?_, ?_, trivial⟩, ⟨rfl, ⟨?_, trivial⟩, ⟨rfl, ⟨?_, trivial⟩, trivial⟩⟩⟩ <;> first | rfl | ((refine lsq ?_; rw [hnx]; first | done | rfl)) | ((refine lsq ?_; rw [hgv]; first | done | rfl)) | ((refine liq ?_; rw [hnx]; first | done | rfl)) | ((refine lbq ?_; rw [hcan]))
    ·skip
     have h1r := hE3.one
     obtain ⟨p0, hx0⟩ : ∃ p, s.fRuns[0]? = some p := ⟨_, List.getElem?_eq_getElem (by omega)⟩
     have hfl : s.fRuns = [p0] := by
      match hX : s.fRuns, h1r with
      | [p], _ => rw [hX] at hx0; cases hx0; rfl
     have hbl := hQ.bag.length_eq
     rw [hfl] at hbl
     simp only [List.flatten_cons, List.flatten_nil, List.append_nil] at hbl
     obtain ⟨q, hq⟩ : ∃ q : Nat, s.fLeftPos = q := ⟨_, (Int.toNat_of_nonneg hE3.l0).symm⟩
     have hl1 := hE3.l1
     have hql : q < p0.length := by omega
     obtain ⟨r, hr⟩ : ∃ r, p0[q]? = some r := ⟨_, List.getElem?_eq_getElem hql⟩
     have hpl := hW.run (List.mem_of_getElem? hx0)
     have hstep := vemit_i s g p0 q r hW hx0 hq hr (by omega)
     have hnx : SorterD.next s g = SorterD.emitS s := hnx0.trans ((if_neg (by omega)).trans (if_neg (by omega)))
     have hgv : SorterD.gives s g = [r] := by
      rw [hgv0]
      unfold SorterD.emits
      rw [if_pos hp3, hq]
      exact SorterD.rowAt_get hx0 hr
     refine SV.region ?_
     refine SV.opBound (b := 2) (j := 8) (f := 122) rfl ⟨_, _, Try.func85, rfl, by decide⟩ rfl rfl rfl (fun w c us h1 h2 => sop3_i w c us h1 (by rw [h2, hp3])) rfl rfl (gle rfl) ?_
     refine SVb.copy (x := 26) (.inr rfl) rfl rfl (gle rfl) ?_
     refine SVb.nil ?_
     refine SVb.tn ?_
     refine SVb.seq' ?_
     refine SVb.region ?_
     refine SVb.copy (x := 8) (.inl rfl) rfl rfl (gle rfl) ?_
     refine SVb.keep (nb := 0) ms rfl rfl (gle rfl) rfl ?_
     refine SVb.call (ys := [.hd 0, .sc _, .hd 1, .hd 2, .hd 3, .hd 4, .sc _, .sc _, .sc _, .sc _]) (L0 := [.hd 5, .sc _, .hd 6, .hd 7, .hd 8, .hd 9, .sc _, .sc _, .sc _, .sc _]) (L := [(false, [.hd 10])]) rfl rfl ⟨_, _, Try.func122, rfl, by decide⟩ hstep rfl ⟨rfl, rfl, rfl, rfl, rfl, rfl, rfl, rfl, rfl, rfl, trivial⟩ (by simp [two]) rfl ⟨⟨[.sc _], rfl, ⟨.inl ⟨_, rfl, rfl⟩, trivial⟩⟩, trivial⟩ rfl rfl (gle rfl) ?_
     refine sl 3 (mv (V.one (.hd 10))) ?_
     refine SV.nil (SV.tn (SV.seq' (SV.region ?_)))
     refine sl 3 (lb 2 0 [.hd 5, .sc _, .hd 6, .hd 7, .hd 8, .hd 9, .sc _, .sc _, .sc _, .sc _] agg_impl_Sorter sz_impl_Sorter (fun h => by cases h)) ?_
     refine sl 3 (mv (V.one (.hd 10))) ?_
     refine so (st (ag := true) [.hd 5, .sc _, .hd 6, .hd 7, .hd 8, .hd 9, .sc _, .sc _, .sc _, .sc _] [.hd 5, .sc _, .hd 6, .hd 7, .hd 8, .hd 9, .sc _, .sc _, .sc _, .sc _] sz_impl_Sorter (fun h => by cases h)) ?_
     refine sl 3 (mv (V.one (.hd 10))) ?_
     refine sl 3 ms ?_
     refine SV.nil (SV.tn (SV.ret ?_))
     apply SV.done (hf := Try.results30) (ht := rfl) (he := .inl rfl)
     case hr => exact (ResAll.cons (ResOk.cell (b := 1) (ag := true) (xs := [.hd 5, .sc _, .hd 6, .hd 7, .hd 8, .hd 9, .sc _, .sc _, .sc _, .sc _]) rfl rfl agg_impl_Sorter sz_impl_Sorter (fun h => by cases h)) (ResAll.cons (ResOk.tmp (ag := false) (xs := [.hd 10]) rfl) (ResAll.cons (ResOk.tmp (ag := false) (xs := [.sc _]) rfl) ResAll.nil')))
     case h2 => simp [two]
     refine ⟨rfl, ⟨?_, ?_, ?_, ?_, ?_, ?_, ?_, ?_, ?_, ?_, trivial⟩, ⟨rfl, ⟨?_, trivial⟩, ⟨rfl, ⟨?_, trivial⟩, trivial⟩⟩⟩ <;> first | rfl | ((refine lsq ?_; rw [hnx]; first | done | rfl)) | ((refine lsq ?_; rw [hgv]; first | done | rfl)) | ((refine liq ?_; rw [hnx]; first | done | rfl)) | ((refine lbq ?_; rw [hcan]))
end Go.Proofs.Ytpnbnbhifpcelaa
