/- Texts joined: SrtS RunW SrtL Iup Validi Arei VCmp IRows CloneR CloneN PruCl PruSop EqRowsI Counts Bags BagE IRowB VMk0 PruMs PruStA PruI RoIn. -/
import Derived.Test.YtpnbnbhifpcelaaPartCd
import Derived.Maps.OwnOps
import Derived.Maps.Ext
import Derived.Maps.OwnSet
import Derived.WideKeyEntry
import Derived.DeepKeys4
import Derived.MapViews
import Derived.Deep.AppendLies
import Derived.Deep.RegionWith
import Derived.Maps.RangeWalk
import Derived.Laws.IdiomRangeMap
set_option linter.unusedSimpArgs false
set_option linter.unusedVariables false
/- The reference's StepSorter: told by trees. -/
namespace Go.Proofs.Ytpnbnbhifpcelaa
open Go Go.RowKit V
set_option linter.unusedVariables false
theorem SorterD.flow_out {s : SorterD} (h : 0 < s.fHeap.length + s.fDeferred.length) : SorterD.flowS s = SorterD.outS s := by
 unfold SorterD.flowS SorterD.outS
 cases hz : s.fHeap[Runs.minAt s.fHeap s.fHeap.length]? with
 | some r => rfl
 | none =>
  have hh : ¬ 0 < s.fHeap.length := fun h0 => by
   have := Runs.minAt_lt (l := s.fHeap) h0
   rw [List.getElem?_eq_getElem this] at hz
   cases hz
  show (if s.fDeferred.length = 0 then _ else _) = _
  rw [if_neg (by omega)]
theorem SorterD.flow_end {s : SorterD} (h : ¬ 0 < s.fHeap.length + s.fDeferred.length) : SorterD.flowS s = SorterD.endS s := by
 unfold SorterD.flowS
 rw [List.getElem?_eq_none (by omega)]
 show (if s.fDeferred.length = 0 then _ else _) = _
 rw [if_pos (by omega)]
theorem SorterD.step_one {s : SorterD} {g : Int} (h : s.fPhase = 1) : SorterD.step s g = SorterD.stepRead s g := if_pos h
theorem SorterD.step_two {s : SorterD} {g : Int} (h1 : ¬ s.fPhase = 1) (h : s.fPhase = 2) : SorterD.step s g = SorterD.stepMerge s := by
 unfold SorterD.step
 rw [if_neg h1, if_pos h]
theorem SorterD.step_tre {s : SorterD} {g : Int} (h1 : ¬ s.fPhase = 1) (h : ¬ s.fPhase = 2) : SorterD.step s g = SorterD.emitS s := by
 unfold SorterD.step
 rw [if_neg h1, if_neg h]
set_option maxRecDepth 100000 in
set_option maxHeartbeats 2000000 in
theorem vstepV_s (s : SorterD) (g : Int) (hW : s.Wf) : VC Try.prog 29 [(true, tSorter s), (false, [.lit (.int .i64 (g))])] true [(true, tSorter (SorterD.next s g)), (false, [.seq 72 ((SorterD.gives s g).map tRow)]), (false, [.lit (.bool (SorterD.can s g))])] := by
 refine VC.enter Try.func29 rfl Try.ntmps29 (gle rfl) fun E hE => ?_
 have hsz := hW.size
 refine SV.seq' (SV.region ?_)
 refine sm (ok_box (kk := 0) (ag := true) (xs := [.ro _, .sc _, .ro _, .ro _, .ro _, .ro _, .sc _, .sc _, .sc _, .sc _]) rfl rfl rfl (fun h => by cases h) rfl rfl (gle rfl)) ?_
 refine sm (ok_alloc (kk := 1) (xs := [.nl _, .sc _, .nl _, .nl _, .nl _, .nl _, .sc _, .sc _, .sc _, .sc _]) rfl rfl zero_impl_Sorter ⟨rfl, ⟨3, by decide, sz_impl_Row⟩, rfl, rfl, rfl, ⟨3, by decide, sz_impl_Row⟩, rfl, ⟨3, by decide, sz_impl_Row⟩, rfl, ⟨3, by decide, sz_impl_Row⟩, rfl, ⟨1, by decide, sz_impl_Run⟩, rfl, rfl, rfl, rfl, rfl, rfl, rfl, rfl, trivial⟩ rfl (gle rfl)) ?_
 refine sl 2 ms ?_
 refine sl 2 ms ?_
 refine SV.nil (SV.tn (SV.seq' (SV.region ?_)))
 refine sl 2 (lb 0 0 [.ro _, .sc _, .ro _, .ro _, .ro _, .ro _, .sc _, .sc _, .sc _, .sc _] agg_impl_Sorter sz_impl_Sorter (fun h => by cases h)) ?_
 refine sm (cl [(true, [.hd 0, .sc _, .hd 1, .hd 2, .hd 3, .hd 4, .sc _, .sc _, .sc _, .sc _])] rfl Try.func79 (vcopys_s s hW) ⟨⟨[.ro _, .sc _, .ro _, .ro _, .ro _, .ro _, .sc _, .sc _, .sc _, .sc _], rfl, ⟨rfl, rfl, rfl, rfl, rfl, rfl, rfl, rfl, rfl, rfl, trivial⟩⟩, trivial⟩) ?_
 refine sm (ok_alloc (kk := 2) (xs := [.nl _, .sc _, .nl _, .nl _, .nl _, .nl _, .sc _, .sc _, .sc _, .sc _]) rfl rfl zero_impl_Sorter ⟨rfl, ⟨3, by decide, sz_impl_Row⟩, rfl, rfl, rfl, ⟨3, by decide, sz_impl_Row⟩, rfl, ⟨3, by decide, sz_impl_Row⟩, rfl, ⟨3, by decide, sz_impl_Row⟩, rfl, ⟨1, by decide, sz_impl_Run⟩, rfl, rfl, rfl, rfl, rfl, rfl, rfl, rfl, trivial⟩ rfl (gle rfl)) ?_
 refine so (st (ag := true) [.hd 0, .sc _, .hd 1, .hd 2, .hd 3, .hd 4, .sc _, .sc _, .sc _, .sc _] [.hd 0, .sc _, .hd 1, .hd 2, .hd 3, .hd 4, .sc _, .sc _, .sc _, .sc _] sz_impl_Sorter (fun h => by cases h)) ?_
 refine SV.nil (SV.tn (SV.seq' (SV.seq' (SV.region ?_))))
 refine sl 3 (lb 0 0 [.ro _, .sc _, .ro _, .ro _, .ro _, .ro _, .sc _, .sc _, .sc _, .sc _] agg_impl_Sorter sz_impl_Sorter (fun h => by cases h)) ?_
 refine sm (cl [(false, [.sc _])] rfl Try.func27 (vokS_s s hW) ⟨⟨[.ro _, .sc _, .ro _, .ro _, .ro _, .ro _, .sc _, .sc _, .sc _, .sc _], rfl, ⟨rfl, rfl, rfl, rfl, rfl, rfl, rfl, rfl, rfl, rfl, trivial⟩⟩, trivial⟩) ?_
 refine sl 3 (s1 (.tmp 14)) ?_
 refine sl 3 ms ?_
 refine SV.split (d := 16) rfl (fun hg0 => ?_) (fun hg0 => ?_)
 ·skip   -- g0.T
  refine sn ?_
  refine sn ?_
  refine sn ?_
  refine sl 3 pt ?_
  refine sl 3 ms ?_
  refine sn ?_
  refine sn ?_
  refine sn ?_
  refine sl 3 pt ?_
  refine SV.nil (SV.tn ?_)
  refine SV.cond rfl (fun hc0 => ?_) (fun hc0 => ?_)
  ·skip   -- c0.T
   have hcan : SorterD.can s g = false := by
    rw [Bool.eq_false_iff]
    intro h
    obtain ⟨h1, h2, h3⟩ := SorterD.can_iff.1 h
    rw [h1] at hg0; cases hg0
   have hnx : SorterD.next s g = s := if_neg (by rw [hcan]; decide)
   have hgv : SorterD.gives s g = [] := if_neg (by rw [hcan]; decide)
   refine SV.seq' (SV.region ?_)
   refine sl 3 (lb 2 0 [.hd 0, .sc _, .hd 1, .hd 2, .hd 3, .hd 4, .sc _, .sc _, .sc _, .sc _] agg_impl_Sorter sz_impl_Sorter (fun h => by cases h)) ?_
   refine sm (ok_lit0 (kk := 5) elt_impl_Row rfl rfl rfl (gle rfl)) ?_
   refine so (st (ag := true) [.hd 0, .sc _, .hd 1, .hd 2, .hd 3, .hd 4, .sc _, .sc _, .sc _, .sc _] [.hd 0, .sc _, .hd 1, .hd 2, .hd 3, .hd 4, .sc _, .sc _, .sc _, .sc _] sz_impl_Sorter (fun h => by cases h)) ?_
   refine sl 3 (mv (V.one (.hd 5))) ?_
   refine sl 3 ms ?_
   refine SV.nil (SV.tn (SV.ret (SV.tr ?_)))
   apply SV.done (hf := Try.results29) (ht := rfl) (he := .inl rfl)
   case hr => exact (ResAll.cons (ResOk.cell (b := 1) (ag := true) (xs := [.hd 0, .sc _, .hd 1, .hd 2, .hd 3, .hd 4, .sc _, .sc _, .sc _, .sc _]) rfl rfl agg_impl_Sorter sz_impl_Sorter (fun h => by cases h)) (ResAll.cons (ResOk.tmp (ag := false) (xs := [.hd 5]) rfl) (ResAll.cons (ResOk.tmp (ag := false) (xs := [.sc _]) rfl) ResAll.nil')))
   case h2 => simp [two]
   refine ⟨rfl, ⟨?_, ?_, ?_, ?_, ?_, ?_, ?_, ?_, ?_, ?_, trivial⟩, ⟨rfl, ⟨?_, trivial⟩, ⟨rfl, ⟨?_, trivial⟩, trivial⟩⟩⟩ <;> first | rfl | (rw [hnx]; first | done | rfl | ((refine lsq ?_; first | done | rfl | (rw [List.map_append]; rfl) | (simp [tRun]; done) | (simp [tRow]; done) | (simp [List.map_drop, tRun]; done) | (rw [hh]; done) | (rw [hdd0]; done) | (rw [ho2]; done) | (simp; done))) | ((refine liq ?_; first | done | rfl | (rw [hn]; done) | (simp; done)))) | ((refine lsq ?_; rw [hgv]; first | done | rfl | (simp [tRow]; done))) | ((refine lbq ?_; rw [hcan]))
  ·skip   -- c0.F
   cases hc0
 ·skip   -- g0.F
  refine sy 3 ms ?_
  refine SV.opY (OpMk.ok (cl [(false, [.sc _])] rfl Try.func71 (vin_s' g 8 60) ⟨⟨[.sc _], rfl, ⟨rfl, trivial⟩⟩, ⟨[.sc _], rfl, ⟨rfl, trivial⟩⟩, ⟨[.sc _], rfl, ⟨rfl, trivial⟩⟩, trivial⟩)) rfl rfl rfl (gle rfl) rfl rfl ?_
  refine sy 3 (s1 (.tmp 18)) ?_
  refine sl 3 pf ?_
  refine sl 3 ms ?_
  refine SV.split (d := 21) rfl (fun hg1 => ?_) (fun hg1 => ?_)
  ·skip   -- g1.T
   refine sn ?_
   refine sn ?_
   refine sn ?_
   refine sl 3 pt ?_
   refine SV.nil (SV.tn ?_)
   refine SV.cond rfl (fun hc1 => ?_) (fun hc1 => ?_)
   ·skip   -- c1.T
    have hcan : SorterD.can s g = false := by
     rw [Bool.eq_false_iff]
     intro h
     obtain ⟨h1, h2, h3⟩ := SorterD.can_iff.1 h
     simp at hg1; omega
    have hnx : SorterD.next s g = s := if_neg (by rw [hcan]; decide)
    have hgv : SorterD.gives s g = [] := if_neg (by rw [hcan]; decide)
    refine SV.seq' (SV.region ?_)
    refine sl 3 (lb 2 0 [.hd 0, .sc _, .hd 1, .hd 2, .hd 3, .hd 4, .sc _, .sc _, .sc _, .sc _] agg_impl_Sorter sz_impl_Sorter (fun h => by cases h)) ?_
    refine sm (ok_lit0 (kk := 5) elt_impl_Row rfl rfl rfl (gle rfl)) ?_
    refine so (st (ag := true) [.hd 0, .sc _, .hd 1, .hd 2, .hd 3, .hd 4, .sc _, .sc _, .sc _, .sc _] [.hd 0, .sc _, .hd 1, .hd 2, .hd 3, .hd 4, .sc _, .sc _, .sc _, .sc _] sz_impl_Sorter (fun h => by cases h)) ?_
    refine sl 3 (mv (V.one (.hd 5))) ?_
    refine sl 3 ms ?_
    refine SV.nil (SV.tn (SV.ret (SV.tr ?_)))
    apply SV.done (hf := Try.results29) (ht := rfl) (he := .inl rfl)
    case hr => exact (ResAll.cons (ResOk.cell (b := 1) (ag := true) (xs := [.hd 0, .sc _, .hd 1, .hd 2, .hd 3, .hd 4, .sc _, .sc _, .sc _, .sc _]) rfl rfl agg_impl_Sorter sz_impl_Sorter (fun h => by cases h)) (ResAll.cons (ResOk.tmp (ag := false) (xs := [.hd 5]) rfl) (ResAll.cons (ResOk.tmp (ag := false) (xs := [.sc _]) rfl) ResAll.nil')))
    case h2 => simp [two]
    refine ⟨rfl, ⟨?_, ?_, ?_, ?_, ?_, ?_, ?_, ?_, ?_, ?_, trivial⟩, ⟨rfl, ⟨?_, trivial⟩, ⟨rfl, ⟨?_, trivial⟩, trivial⟩⟩⟩ <;> first | rfl | (rw [hnx]; first | done | rfl | ((refine lsq ?_; first | done | rfl | (rw [List.map_append]; rfl) | (simp [tRun]; done) | (simp [tRow]; done) | (simp [List.map_drop, tRun]; done) | (rw [hh]; done) | (rw [hdd0]; done) | (rw [ho2]; done) | (simp; done))) | ((refine liq ?_; first | done | rfl | (rw [hn]; done) | (simp; done)))) | ((refine lsq ?_; rw [hgv]; first | done | rfl | (simp [tRow]; done))) | ((refine lbq ?_; rw [hcan]))
   ·skip   -- c1.F
    cases hc1
  ·skip   -- g1.F
   refine sy 3 (fb fld_impl_Sorter_8) ?_
   refine sy 3 (lb 0 8 [.sc _] agg_int sz_int (fun _ => rfl)) ?_
   refine sy 3 (s2 (.tmp 23) (.const ((Value.int IntKind.i64 4)))) ?_
   refine sl 3 pf ?_
   refine SV.nil (SV.tn ?_)
   refine SV.cond rfl (fun hc2 => ?_) (fun hc2 => ?_)
   ·skip   -- c2.T
    have hcan : SorterD.can s g = false := by
     rw [Bool.eq_false_iff]
     intro h
     obtain ⟨h1, h2, h3⟩ := SorterD.can_iff.1 h
     simp at hc2; exact h3 hc2
    have hnx : SorterD.next s g = s := if_neg (by rw [hcan]; decide)
    have hgv : SorterD.gives s g = [] := if_neg (by rw [hcan]; decide)
    refine SV.seq' (SV.region ?_)
    refine sl 3 (lb 2 0 [.hd 0, .sc _, .hd 1, .hd 2, .hd 3, .hd 4, .sc _, .sc _, .sc _, .sc _] agg_impl_Sorter sz_impl_Sorter (fun h => by cases h)) ?_
    refine sm (ok_lit0 (kk := 5) elt_impl_Row rfl rfl rfl (gle rfl)) ?_
    refine so (st (ag := true) [.hd 0, .sc _, .hd 1, .hd 2, .hd 3, .hd 4, .sc _, .sc _, .sc _, .sc _] [.hd 0, .sc _, .hd 1, .hd 2, .hd 3, .hd 4, .sc _, .sc _, .sc _, .sc _] sz_impl_Sorter (fun h => by cases h)) ?_
    refine sl 3 (mv (V.one (.hd 5))) ?_
    refine sl 3 ms ?_
    refine SV.nil (SV.tn (SV.ret (SV.tr ?_)))
    apply SV.done (hf := Try.results29) (ht := rfl) (he := .inl rfl)
    case hr => exact (ResAll.cons (ResOk.cell (b := 1) (ag := true) (xs := [.hd 0, .sc _, .hd 1, .hd 2, .hd 3, .hd 4, .sc _, .sc _, .sc _, .sc _]) rfl rfl agg_impl_Sorter sz_impl_Sorter (fun h => by cases h)) (ResAll.cons (ResOk.tmp (ag := false) (xs := [.hd 5]) rfl) (ResAll.cons (ResOk.tmp (ag := false) (xs := [.sc _]) rfl) ResAll.nil')))
    case h2 => simp [two]
    refine ⟨rfl, ⟨?_, ?_, ?_, ?_, ?_, ?_, ?_, ?_, ?_, ?_, trivial⟩, ⟨rfl, ⟨?_, trivial⟩, ⟨rfl, ⟨?_, trivial⟩, trivial⟩⟩⟩ <;> first | rfl | (rw [hnx]; first | done | rfl | ((refine lsq ?_; first | done | rfl | (rw [List.map_append]; rfl) | (simp [tRun]; done) | (simp [tRow]; done) | (simp [List.map_drop, tRun]; done) | (rw [hh]; done) | (rw [hdd0]; done) | (rw [ho2]; done) | (simp; done))) | ((refine liq ?_; first | done | rfl | (rw [hn]; done) | (simp; done)))) | ((refine lsq ?_; rw [hgv]; first | done | rfl | (simp [tRow]; done))) | ((refine lbq ?_; rw [hcan]))
   ·skip   -- c2.F
    have hcan : SorterD.can s g = true := SorterD.can_iff.2 ⟨by simpa using hg0, by simpa using hg1, by simpa using hc2⟩
    have hst : SorterD.next s g = SorterD.step s g := if_pos hcan
    have hgs : SorterD.gives s g = SorterD.emits s := if_pos hcan
    obtain ⟨hok, hg8, hp4⟩ := SorterD.can_iff.1 hcan
    obtain ⟨hB, hph⟩ := SorterD.ok_iff.1 hok
    refine SV.skip (SV.tn (SV.seq' (SV.seq' (SV.region ?_))))
    refine sl 3 (fb fld_impl_Sorter_8) ?_
    refine sl 3 (lb 0 8 [.sc _] agg_int sz_int (fun _ => rfl)) ?_
    refine SV.nil (SV.tn (SV.block (SV.seq' (SV.region ?_))))
    refine sl 3 (s2 (.tmp 29) (.const ((Value.int IntKind.i64 1)))) ?_
    refine sl 3 ms ?_
    refine SV.nil (SV.tn ?_)
    refine SV.cond rfl (fun hc3 => ?_) (fun hc3 => ?_)
    ·skip   -- c3.T
     have hp1 : s.fPhase = 1 := by simpa using hc3
     have hR : SorterD.Reads s := by rcases hph with h | h | h | h; exact h.2; all_goals (exfalso; have := h.1; omega)
     have hgv : SorterD.gives s g = [] := by rw [hgs]; unfold SorterD.emits; rw [if_neg (by omega)]
     have hst1 := hst.trans (SorterD.step_one hp1)
     obtain ⟨n, hn⟩ : ∃ n : Nat, s.fPos = n := ⟨_, (Int.toNat_of_nonneg hB.pos0).symm⟩
     have hsm := vsmem_s s hW
     unfold tSorter at hsm
     rw [hn] at hsm
     have hmr := SorterD.mem_one hp1
     have ht1 := total_range s.fHeap
     have ht2 := total_range s.fDeferred
     refine SV.seq' (SV.seq' ?_)
     refine SV.tell (fun (σ : VS) => ((((((((((((((VS.nil.new (σ.tree 0)).new (σ.tree 1)).new (σ.tree 2)).new (σ.tree 3)).new (σ.tree 4)).box 27 [σ.bl 0 0, .sc (.int .i64 ((n : Int))), σ.bl 0 2, σ.bl 0 3, σ.bl 0 4, σ.bl 0 5, σ.bl 0 6, σ.bl 0 7, σ.bl 0 8, σ.bl 0 9]).box 27 [σ.bl 1 0, σ.bl 1 1, σ.bl 1 2, σ.bl 1 3, σ.bl 1 4, σ.bl 1 5, σ.bl 1 6, σ.bl 1 7, σ.bl 1 8, σ.bl 1 9]).box 27 [.hd 0, σ.bl 2 1, .hd 1, .hd 2, .hd 3, .hd 4, σ.bl 2 6, σ.bl 2 7, σ.bl 2 8, σ.bl 2 9]).put 1 (σ.tm 1)).put 2 (V.flat false [.bp 0 0])).put 4 (V.flat false [.bp 1 0])).put 5 (σ.tm 5)).put 6 (σ.tm 6)).put 7 (V.flat false [.bp 2 0]))) ?h ?k
     case k =>
      intro hjn
      refine (fun pp le => SV.weaken (fun i => [0, 1, 2, 3, 4].getD i 0) pp le hjn) (pins hE rfl rfl) (VS.le.mk' (le_put (le_put (le_put (le_put (le_put (le_put (le_box (le_box (le_box (le_new (le_new (le_new (le_new (le_new le_nil)))))))) (V.le.keep (ag := false) (xs := [.sc _]) (ys := [.sc _]) rfl rfl ⟨rfl, trivial⟩)) (V.le.keep (ag := false) (xs := [.bp 0 0]) (ys := [.bp 0 0]) rfl rfl ⟨⟨rfl, (gle rfl)⟩, trivial⟩)) (V.le.keep (ag := false) (xs := [.bp 1 0]) (ys := [.bp 1 0]) rfl rfl ⟨⟨rfl, (gle rfl)⟩, trivial⟩)) (V.le.keep (ag := false) (xs := [.sc _]) (ys := [.sc _]) rfl rfl ⟨rfl, trivial⟩)) (V.le.keep (ag := false) (xs := [.sc _]) (ys := [.sc _]) rfl rfl ⟨rfl, trivial⟩)) (V.le.keep (ag := false) (xs := [.bp 2 0]) (ys := [.bp 2 0]) rfl rfl ⟨⟨rfl, (gle rfl)⟩, trivial⟩)) ⟨⟨rfl, ⟨rfl, (by first | rfl | (show Leaf.sc _ = Leaf.sc _; refine congrArg Leaf.sc ?_; first | rfl | go_num | ((exact congrArg _ hn); first | done | rfl | go_num | (simp; done) | (simp; omega)) | (simp [cntAll]; done)) | (simp [cntAll]; done) | (simp; omega)), rfl, rfl, rfl, rfl, rfl, rfl, rfl, rfl, trivial⟩⟩, ⟨⟨rfl, ⟨rfl, rfl, rfl, rfl, rfl, rfl, rfl, rfl, rfl, rfl, trivial⟩⟩, ⟨⟨rfl, ⟨⟨rfl, (gle rfl), (gle rfl)⟩, rfl, ⟨rfl, (gle rfl), (gle rfl)⟩, ⟨rfl, (gle rfl), (gle rfl)⟩, ⟨rfl, (gle rfl), (gle rfl)⟩, ⟨rfl, (gle rfl), (gle rfl)⟩, rfl, rfl, rfl, rfl, trivial⟩⟩, trivial⟩⟩⟩ ⟨.inr ⟨_, _, rfl, rfl, (gle rfl)⟩, ⟨.inr ⟨_, _, rfl, rfl, (gle rfl)⟩, ⟨.inr ⟨_, _, rfl, rfl, (gle rfl)⟩, ⟨.inr ⟨_, _, rfl, rfl, (gle rfl)⟩, ⟨.inr ⟨_, _, rfl, rfl, (gle rfl)⟩, trivial⟩⟩⟩⟩⟩ (new_ob (new_ob (new_ob (new_ob (new_ob nil_ob))))) (fun i j hi hj e => inj_list (l := [0, 1, 2, 3, 4]) (by decide) i j hi hj e))
     case h =>
     refine SV.draw [.q 0, .q 1, .q 2, .q 3, .q 4, .q 5, .q 6, .q 7, .q 9, .q 10, .q 11, .q 12, .q 13, .q 14, .q 17, .m 8, .m 15, .q 16, .q 18, .q 19] [] (by kernel_rfl) (by kernel_rfl) ?_
     refine dq rfl (fb fld_impl_Sorter_1) ?_
     refine dq rfl (lb 0 1 [.sc _] agg_int sz_int (fun _ => rfl)) ?_
     refine dq rfl (fb fld_impl_Sorter_0) ?_
     refine dq rfl (lb 0 0 [.ro _] agg_s_impl_Row sz_s_impl_Row (fun _ => rfl)) ?_
     refine dq rfl (ok_len (lf := .ro _) rfl elt_impl_Row.und rfl rfl) ?_
     refine dq rfl (s2 (.tmp 33) (.tmp 36)) ?_
     refine dq rfl ms ?_
     refine DW.split (d := 38) rfl (fun hg2 => ?_) (fun hg2 => ?_)
     ·skip   -- g2.T
      have hnl : n < s.fInput.length := by simp at hg2; omega
      obtain ⟨r, hr⟩ : ∃ r, s.fInput[n]? = some r := ⟨_, List.getElem?_eq_getElem hnl⟩
      have hrt : s.fInput[s.fPos.toNat]? = some r := by rw [hn]; exact hr
      have hcr := R.cost_range r
      refine dy rfl (lb 0 0 [.ro _, .sc _, .ro _, .ro _, .ro _, .ro _, .sc _, .sc _, .sc _, .sc _] agg_impl_Sorter sz_impl_Sorter (fun h => by cases h)) ?_
      refine dy rfl (fb fld_impl_Sorter_0) ?_
      refine dy rfl (lb 0 0 [.ro _] agg_s_impl_Row sz_s_impl_Row (fun _ => rfl)) ?_
      refine dy rfl (fb fld_impl_Sorter_1) ?_
      refine dy rfl (lb 0 1 [.sc _] agg_int sz_int (fun _ => rfl)) ?_
      refine dy rfl (ok_index (n := 3) (lf := .ro _) rfl elt_impl_Row.und sz_impl_Row rfl rfl rfl (map_at hr)) ?_
      refine dy rfl (ok_load_rp (ag := true) (m := 3) (ys := [.sc _, .sc _, .sc _]) rfl rfl agg_impl_Row sz_impl_Row (fun h => by cases h) (gle rfl) rfl) ?_
      refine dy rfl ms ?_
      refine DW.m' [] rfl (cl [(false, [.sc _])] rfl Try.func24 (hsm) ⟨⟨[.ro _, .sc _, .ro _, .ro _, .ro _, .ro _, .sc _, .sc _, .sc _, .sc _], rfl, ⟨rfl, rfl, rfl, rfl, rfl, rfl, rfl, rfl, rfl, rfl, trivial⟩⟩, trivial⟩) (fun hr => wantedY hr rfl rfl rfl (gle rfl) rfl rfl) (gle rfl) (gle rfl) (.inl rfl) (fun j hj => by cases hj) ?_
      refine DW.m' [] rfl (cl [(false, [.sc _])] rfl Try.func80 (vcost_t r (hW.inp r (List.mem_of_getElem? hr))) ⟨⟨[.sc _, .sc _, .sc _], rfl, ⟨rfl, rfl, rfl, trivial⟩⟩, trivial⟩) (fun hr => wantedY hr rfl rfl rfl (gle rfl) rfl rfl) (gle rfl) (gle rfl) (.inl rfl) (fun j hj => by cases hj) ?_
      refine dy rfl (ok_s2 (v := .int .i64 (SorterD.mem s + r.cost)) (x := .tmp 40) (x' := .tmp 47) (VScal.one rfl) (VScal.one rfl) (fun ρ h1 h2 w => by go_simp; rw [IntWalk.i64_left, IntWalk.wrap64_in _ ⟨by omega, by omega⟩] <;> first | rfl | omega | (congr 1; omega)) rfl) ?_
      refine dy rfl (s2 (.tmp 48) (.tmp 49)) ?_
      refine dq rfl pt ?_
      refine DW.stores ?_
      refine SV.zend ?_
      refine SV.tn ?_
      refine SV.cond rfl (fun hc4 => ?_) (fun hc4 => ?_)
      ·skip   -- c4.T
       have hfit : SorterD.mem s + r.cost ≤ g := by rw [hmr]; exact of_decide_eq_true hc4
       have hrd : SorterD.next s g = SorterD.readS s r := by rw [hst1]; unfold SorterD.stepRead; rw [hrt]; exact if_pos hfit
       refine SV.seq' (SV.region ?_)
       refine sl 3 (fb fld_impl_Sorter_0) ?_
       refine sl 3 (lb 0 0 [.ro _] agg_s_impl_Row sz_s_impl_Row (fun _ => rfl)) ?_
       refine sl 3 (fb fld_impl_Sorter_1) ?_
       refine sl 3 (lb 0 1 [.sc _] agg_int sz_int (fun _ => rfl)) ?_
       refine sl 3 (ok_index (n := 3) (lf := .ro _) rfl elt_impl_Row.und sz_impl_Row rfl rfl rfl (map_at hr)) ?_
       refine sl 3 (ok_load_rp (ag := true) (m := 3) (ys := [.sc _, .sc _, .sc _]) rfl rfl agg_impl_Row sz_impl_Row (fun h => by cases h) (gle rfl) rfl) ?_
       refine sm (ok_alloc (kk := 3) (xs := [.sc _, .sc _, .sc _]) rfl rfl zero_impl_Row ⟨rfl, rfl, rfl, rfl, rfl, rfl, trivial⟩ rfl (gle rfl)) ?_
       refine so (st (ag := true) [.sc _, .sc _, .sc _] [.sc _, .sc _, .sc _] sz_impl_Row (fun h => by cases h)) ?_
       refine SV.nil (SV.tn (SV.seq' (SV.region ?_)))
       refine sl 4 (fb fld_impl_Sorter_1) ?_
       refine sl 4 (lb 0 1 [.sc _] agg_int sz_int (fun _ => rfl)) ?_
       refine sl 4 (ok_s2 (v := .int .i64 ((n : Int) + 1)) (x := .tmp 59) (x' := .const ((Value.int IntKind.i64 1))) (VScal.one rfl) (VScal.one rfl) (fun ρ h1 h2 w => by go_simp; rw [IntWalk.i64_left, IntWalk.wrap64_in _ ⟨by omega, by omega⟩] <;> first | rfl | omega | (congr 1; omega)) rfl) ?_
       refine sl 4 (fb fld_impl_Sorter_1) ?_
       refine so (st (ag := false) [.sc _] [.hd 0, .sc _, .hd 1, .hd 2, .hd 3, .hd 4, .sc _, .sc _, .sc _, .sc _] sz_int (fun _ => rfl)) ?_
       refine SV.nil (SV.tn (SV.seq' (SV.seq' ?_)))
       refine SV.draw [.q 0, .q 1, .q 2, .q 3, .q 4, .q 5, .q 6, .q 7, .q 8, .q 9, .q 10, .q 11, .q 12, .q 13, .m 14, .q 15, .q 16] [] (by kernel_rfl) (by kernel_rfl) ?_
       refine dq rfl (fb fld_impl_Sorter_4) ?_
       refine dq rfl (lb 0 4 [.ro _] agg_s_impl_Row sz_s_impl_Row (fun _ => rfl)) ?_
       refine dq rfl (ok_len (lf := .ro _) rfl elt_impl_Row.und rfl rfl) ?_
       refine dq rfl (s2 (.tmp 64) (.const ((Value.int IntKind.i64 0)))) ?_
       refine dq rfl ms ?_
       refine DW.split (d := 66) rfl (fun hg3 => ?_) (fun hg3 => ?_)
       ·skip   -- g3.T
        have hcl : 0 < s.fOutput.length := by simp at hg3; first | omega | (exact List.length_pos_iff.2 hg3)
        obtain ⟨d, hdd⟩ : ∃ d, s.fOutput[s.fOutput.length - 1]? = some d := ⟨_, List.getElem?_eq_getElem (by omega)⟩
        refine dy rfl (lb 3 0 [.sc _, .sc _, .sc _] agg_impl_Row sz_impl_Row (fun h => by cases h)) ?_
        refine dy rfl (fb fld_impl_Sorter_4) ?_
        refine dy rfl (lb 0 4 [.ro _] agg_s_impl_Row sz_s_impl_Row (fun _ => rfl)) ?_
        refine dy rfl (fb fld_impl_Sorter_4) ?_
        refine dy rfl (lb 0 4 [.ro _] agg_s_impl_Row sz_s_impl_Row (fun _ => rfl)) ?_
        refine dy rfl (ok_len (lf := .ro _) rfl elt_impl_Row.und rfl rfl) ?_
        refine dy rfl (ok_s2 (v := .int .i64 ((s.fOutput.length - 1 : Nat) : Int)) (x := .tmp 72) (x' := .const ((Value.int IntKind.i64 1))) (VScal.one rfl) (VScal.one rfl) (fun ρ h1 h2 w => by go_simp; (try simp only [List.length_map]); first | (rw [IntWalk.i64_left, IntWalk.wrap64_in _ ⟨by omega, by omega⟩]; first | rfl | omega | (congr 1; omega)) | (congr 1; omega)) rfl) ?_
        refine dy rfl (ok_index (n := 3) (lf := .ro _) rfl elt_impl_Row.und sz_impl_Row rfl rfl rfl (map_at hdd)) ?_
        refine dy rfl (ok_load_rp (ag := true) (m := 3) (ys := [.sc _, .sc _, .sc _]) rfl rfl agg_impl_Row sz_impl_Row (fun h => by cases h) (gle rfl) rfl) ?_
        refine DW.m' [] rfl (cl [(false, [.sc _])] rfl Try.func73 (vcmp_t r d) ⟨⟨[.sc _, .sc _, .sc _], rfl, ⟨rfl, rfl, rfl, trivial⟩⟩, ⟨[.sc _, .sc _, .sc _], rfl, ⟨rfl, rfl, rfl, trivial⟩⟩, trivial⟩) (fun hr => wantedY hr rfl rfl rfl (gle rfl) rfl rfl) (gle rfl) (gle rfl) (.inl rfl) (fun j hj => by cases hj) ?_
        refine dy rfl (s2 (.tmp 76) (.const ((Value.int IntKind.i64 0)))) ?_
        refine dq rfl pt ?_
        refine DW.stores ?_
        refine SV.zend ?_
        refine SV.tn ?_
        refine SV.cond rfl (fun hc5 => ?_) (fun hc5 => ?_)
        ·skip   -- c5.T
         have hlt : Runs.later s.fOutput r = true := by rw [later_at hdd]; simpa using hc5
         have hnx : SorterD.next s g = ⟨s.fInput, s.fPos + 1, s.fHeap, s.fDeferred ++ [r], s.fOutput, s.fRuns, s.fLeftPos, s.fRightPos, s.fPhase, s.fWritten⟩ := by rw [hrd]; unfold SorterD.readS; rw [if_pos hlt]
         refine SV.region ?_
         refine sl 4 (fb fld_impl_Sorter_3) ?_
         refine sl 4 (lb 2 3 [.hd 2] agg_s_impl_Row sz_s_impl_Row (fun _ => rfl)) ?_
         refine sl 4 (lb 3 0 [.sc _, .sc _, .sc _] agg_impl_Row sz_impl_Row (fun h => by cases h)) ?_
         refine sm (ok_lit1 (kk := 5) elt_impl_Row (ag := true) (xs := [.sc _, .sc _, .sc _]) rfl rfl rfl rfl (fun h => by cases h) (outs_c rfl (outs_c rfl (outs_c rfl outs_n))) (by simp [two]) rfl (gle rfl)) ?_
         refine sm (ok_append (kk := 6) elt_impl_Row (ls := .hd 2) (lx := .hd 5) rfl rfl rfl rfl rfl rfl (by intro i h1 h2; first | (cases h1; done) | (cases h1; cases h2)) (by first | omega | (simp only [List.length_map]; omega) | (simp; done) | (simp; omega)) rfl (gle rfl)) ?_
         refine sl 4 (fb fld_impl_Sorter_3) ?_
         refine so (st (ag := false) [.hd 6] [.hd 0, .sc _, .hd 1, .hd 6, .hd 3, .hd 4, .sc _, .sc _, .sc _, .sc _] sz_s_impl_Row (fun _ => rfl)) ?_
         refine SV.nil (SV.tn (SV.seq' (SV.region ?_)))
         refine sl 4 (lb 2 0 [.hd 0, .sc _, .hd 1, .hd 6, .hd 3, .hd 4, .sc _, .sc _, .sc _, .sc _] agg_impl_Sorter sz_impl_Sorter (fun h => by cases h)) ?_
         refine sm (ok_lit0 (kk := 7) elt_impl_Row rfl rfl rfl (gle rfl)) ?_
         refine so (st (ag := true) [.hd 0, .sc _, .hd 1, .hd 6, .hd 3, .hd 4, .sc _, .sc _, .sc _, .sc _] [.hd 0, .sc _, .hd 1, .hd 6, .hd 3, .hd 4, .sc _, .sc _, .sc _, .sc _] sz_impl_Sorter (fun h => by cases h)) ?_
         refine sl 4 (mv (V.one (.hd 7))) ?_
         refine sl 4 ms ?_
         refine SV.nil (SV.tn (SV.ret (SV.tr (SV.br (SV.tr ?_)))))
         apply SV.done (hf := Try.results29) (ht := rfl) (he := .inl rfl)
         case hr => exact (ResAll.cons (ResOk.cell (b := 1) (ag := true) (xs := [.hd 0, .sc _, .hd 1, .hd 6, .hd 3, .hd 4, .sc _, .sc _, .sc _, .sc _]) rfl rfl agg_impl_Sorter sz_impl_Sorter (fun h => by cases h)) (ResAll.cons (ResOk.tmp (ag := false) (xs := [.hd 7]) rfl) (ResAll.cons (ResOk.tmp (ag := false) (xs := [.sc _]) rfl) ResAll.nil')))
         case h2 => simp [two]
         refine ⟨rfl, ⟨?_, ?_, ?_, ?_, ?_, ?_, ?_, ?_, ?_, ?_, trivial⟩, ⟨rfl, ⟨?_, trivial⟩, ⟨rfl, ⟨?_, trivial⟩, trivial⟩⟩⟩ <;> first | rfl | (rw [hnx]; first | done | rfl | ((refine lsq ?_; first | done | rfl | (rw [List.map_append]; rfl) | (simp [tRun]; done) | (simp [tRow]; done) | (simp [List.map_drop, tRun]; done) | (rw [hh]; done) | (rw [hdd0]; done) | (rw [ho2]; done) | (simp; done))) | ((refine liq ?_; first | done | rfl | (rw [hn]; done) | (simp; done)))) | ((refine lsq ?_; rw [hgv]; first | done | rfl | (simp [tRow]; done))) | ((refine lbq ?_; rw [hcan]))
        ·skip   -- c5.F
         have hlt : Runs.later s.fOutput r = false := by rw [later_at hdd]; simpa using hc5
         have hnx : SorterD.next s g = ⟨s.fInput, s.fPos + 1, s.fHeap ++ [r], s.fDeferred, s.fOutput, s.fRuns, s.fLeftPos, s.fRightPos, s.fPhase, s.fWritten⟩ := by rw [hrd]; unfold SorterD.readS; rw [if_neg (by rw [hlt]; decide)]
         refine SV.region ?_
         refine sl 4 (fb fld_impl_Sorter_2) ?_
         refine sl 4 (lb 2 2 [.hd 1] agg_s_impl_Row sz_s_impl_Row (fun _ => rfl)) ?_
         refine sl 4 (lb 3 0 [.sc _, .sc _, .sc _] agg_impl_Row sz_impl_Row (fun h => by cases h)) ?_
         refine sm (ok_lit1 (kk := 5) elt_impl_Row (ag := true) (xs := [.sc _, .sc _, .sc _]) rfl rfl rfl rfl (fun h => by cases h) (outs_c rfl (outs_c rfl (outs_c rfl outs_n))) (by simp [two]) rfl (gle rfl)) ?_
         refine sm (ok_append (kk := 6) elt_impl_Row (ls := .hd 1) (lx := .hd 5) rfl rfl rfl rfl rfl rfl (by intro i h1 h2; first | (cases h1; done) | (cases h1; cases h2)) (by first | omega | (simp only [List.length_map]; omega) | (simp; done) | (simp; omega)) rfl (gle rfl)) ?_
         refine sl 4 (fb fld_impl_Sorter_2) ?_
         refine so (st (ag := false) [.hd 6] [.hd 0, .sc _, .hd 6, .hd 2, .hd 3, .hd 4, .sc _, .sc _, .sc _, .sc _] sz_s_impl_Row (fun _ => rfl)) ?_
         refine SV.nil (SV.tn (SV.seq' (SV.region ?_)))
         refine sl 4 (lb 2 0 [.hd 0, .sc _, .hd 6, .hd 2, .hd 3, .hd 4, .sc _, .sc _, .sc _, .sc _] agg_impl_Sorter sz_impl_Sorter (fun h => by cases h)) ?_
         refine sm (ok_lit0 (kk := 7) elt_impl_Row rfl rfl rfl (gle rfl)) ?_
         refine so (st (ag := true) [.hd 0, .sc _, .hd 6, .hd 2, .hd 3, .hd 4, .sc _, .sc _, .sc _, .sc _] [.hd 0, .sc _, .hd 6, .hd 2, .hd 3, .hd 4, .sc _, .sc _, .sc _, .sc _] sz_impl_Sorter (fun h => by cases h)) ?_
         refine sl 4 (mv (V.one (.hd 7))) ?_
         refine sl 4 ms ?_
         refine SV.nil (SV.tn (SV.ret (SV.tr (SV.br (SV.tr ?_)))))
         apply SV.done (hf := Try.results29) (ht := rfl) (he := .inl rfl)
         case hr => exact (ResAll.cons (ResOk.cell (b := 1) (ag := true) (xs := [.hd 0, .sc _, .hd 6, .hd 2, .hd 3, .hd 4, .sc _, .sc _, .sc _, .sc _]) rfl rfl agg_impl_Sorter sz_impl_Sorter (fun h => by cases h)) (ResAll.cons (ResOk.tmp (ag := false) (xs := [.hd 7]) rfl) (ResAll.cons (ResOk.tmp (ag := false) (xs := [.sc _]) rfl) ResAll.nil')))
         case h2 => simp [two]
         refine ⟨rfl, ⟨?_, ?_, ?_, ?_, ?_, ?_, ?_, ?_, ?_, ?_, trivial⟩, ⟨rfl, ⟨?_, trivial⟩, ⟨rfl, ⟨?_, trivial⟩, trivial⟩⟩⟩ <;> first | rfl | (rw [hnx]; first | done | rfl | ((refine lsq ?_; first | done | rfl | (rw [List.map_append]; rfl) | (simp [tRun]; done) | (simp [tRow]; done) | (simp [List.map_drop, tRun]; done) | (rw [hh]; done) | (rw [hdd0]; done) | (rw [ho2]; done) | (simp; done))) | ((refine liq ?_; first | done | rfl | (rw [hn]; done) | (simp; done)))) | ((refine lsq ?_; rw [hgv]; first | done | rfl | (simp [tRow]; done))) | ((refine lbq ?_; rw [hcan]))
       ·skip   -- g3.F
        have hlt : Runs.later s.fOutput r = false := later_nil (by first | (simpa using hg3) | (simp at hg3; omega) | (simp at hg3; rw [hg3]; rfl))
        have hnx : SorterD.next s g = ⟨s.fInput, s.fPos + 1, s.fHeap ++ [r], s.fDeferred, s.fOutput, s.fRuns, s.fLeftPos, s.fRightPos, s.fPhase, s.fWritten⟩ := by rw [hrd]; unfold SorterD.readS; rw [if_neg (by rw [hlt]; decide)]
        refine dn ?_
        refine dn ?_
        refine dn ?_
        refine dn ?_
        refine dn ?_
        refine dn ?_
        refine dn ?_
        refine dn ?_
        refine dn ?_
        refine DW.mN rfl rfl rfl rfl (gle rfl) rfl rfl rfl (gle rfl) ?_
        refine dn ?_
        refine dq rfl pf ?_
        refine DW.stores ?_
        refine SV.zend ?_
        refine SV.tn ?_
        refine SV.cond rfl (fun hc6 => ?_) (fun hc6 => ?_)
        ·skip   -- c6.T
         cases hc6
        ·skip   -- c6.F
         refine SV.region ?_
         refine sl 4 (fb fld_impl_Sorter_2) ?_
         refine sl 4 (lb 2 2 [.hd 1] agg_s_impl_Row sz_s_impl_Row (fun _ => rfl)) ?_
         refine sl 4 (lb 3 0 [.sc _, .sc _, .sc _] agg_impl_Row sz_impl_Row (fun h => by cases h)) ?_
         refine sm (ok_lit1 (kk := 5) elt_impl_Row (ag := true) (xs := [.sc _, .sc _, .sc _]) rfl rfl rfl rfl (fun h => by cases h) (outs_c rfl (outs_c rfl (outs_c rfl outs_n))) (by simp [two]) rfl (gle rfl)) ?_
         refine sm (ok_append (kk := 6) elt_impl_Row (ls := .hd 1) (lx := .hd 5) rfl rfl rfl rfl rfl rfl (by intro i h1 h2; first | (cases h1; done) | (cases h1; cases h2)) (by first | omega | (simp only [List.length_map]; omega) | (simp; done) | (simp; omega)) rfl (gle rfl)) ?_
         refine sl 4 (fb fld_impl_Sorter_2) ?_
         refine so (st (ag := false) [.hd 6] [.hd 0, .sc _, .hd 6, .hd 2, .hd 3, .hd 4, .sc _, .sc _, .sc _, .sc _] sz_s_impl_Row (fun _ => rfl)) ?_
         refine SV.nil (SV.tn (SV.seq' (SV.region ?_)))
         refine sl 4 (lb 2 0 [.hd 0, .sc _, .hd 6, .hd 2, .hd 3, .hd 4, .sc _, .sc _, .sc _, .sc _] agg_impl_Sorter sz_impl_Sorter (fun h => by cases h)) ?_
         refine sm (ok_lit0 (kk := 7) elt_impl_Row rfl rfl rfl (gle rfl)) ?_
         refine so (st (ag := true) [.hd 0, .sc _, .hd 6, .hd 2, .hd 3, .hd 4, .sc _, .sc _, .sc _, .sc _] [.hd 0, .sc _, .hd 6, .hd 2, .hd 3, .hd 4, .sc _, .sc _, .sc _, .sc _] sz_impl_Sorter (fun h => by cases h)) ?_
         refine sl 4 (mv (V.one (.hd 7))) ?_
         refine sl 4 ms ?_
         refine SV.nil (SV.tn (SV.ret (SV.tr (SV.br (SV.tr ?_)))))
         apply SV.done (hf := Try.results29) (ht := rfl) (he := .inl rfl)
         case hr => exact (ResAll.cons (ResOk.cell (b := 1) (ag := true) (xs := [.hd 0, .sc _, .hd 6, .hd 2, .hd 3, .hd 4, .sc _, .sc _, .sc _, .sc _]) rfl rfl agg_impl_Sorter sz_impl_Sorter (fun h => by cases h)) (ResAll.cons (ResOk.tmp (ag := false) (xs := [.hd 7]) rfl) (ResAll.cons (ResOk.tmp (ag := false) (xs := [.sc _]) rfl) ResAll.nil')))
         case h2 => simp [two]
         refine ⟨rfl, ⟨?_, ?_, ?_, ?_, ?_, ?_, ?_, ?_, ?_, ?_, trivial⟩, ⟨rfl, ⟨?_, trivial⟩, ⟨rfl, ⟨?_, trivial⟩, trivial⟩⟩⟩ <;> first | rfl | (rw [hnx]; first | done | rfl | ((refine lsq ?_; first | done | rfl | (rw [List.map_append]; rfl) | (simp [tRun]; done) | (simp [tRow]; done) | (simp [List.map_drop, tRun]; done) | (rw [hh]; done) | (rw [hdd0]; done) | (rw [ho2]; done) | (simp; done))) | ((refine liq ?_; first | done | rfl | (rw [hn]; done) | (simp; done)))) | ((refine lsq ?_; rw [hgv]; first | done | rfl | (simp [tRow]; done))) | ((refine lbq ?_; rw [hcan]))
      ·skip   -- c4.F
       have hfit : ¬ SorterD.mem s + r.cost ≤ g := by rw [hmr]; exact of_decide_eq_false hc4
       have hfl : SorterD.next s g = SorterD.flowS s := by rw [hst1]; unfold SorterD.stepRead; rw [hrt]; exact if_neg hfit
       refine SV.skip (SV.tn (SV.seq' (SV.seq' (SV.region ?_))))
       refine sl 3 (fb fld_impl_Sorter_2) ?_
       refine sl 3 (lb 0 2 [.ro _] agg_s_impl_Row sz_s_impl_Row (fun _ => rfl)) ?_
       refine sl 3 (ok_len (lf := .ro _) rfl elt_impl_Row.und rfl rfl) ?_
       refine sl 3 (fb fld_impl_Sorter_3) ?_
       refine sl 3 (lb 0 3 [.ro _] agg_s_impl_Row sz_s_impl_Row (fun _ => rfl)) ?_
       refine sl 3 (ok_len (lf := .ro _) rfl elt_impl_Row.und rfl rfl) ?_
       refine sl 3 (ok_s2 (v := .int .i64 ((s.fHeap.length : Int) + (s.fDeferred.length : Int))) (x := .tmp 95) (x' := .tmp 98) (VScal.one rfl) (VScal.one rfl) (fun ρ h1 h2 w => by go_simp; (try simp only [List.length_map]); rw [IntWalk.i64_left, IntWalk.wrap64_in _ ⟨by omega, by omega⟩]) rfl) ?_
       refine sl 3 (s2 (.tmp 99) (.const ((Value.int IntKind.i64 0)))) ?_
       refine SV.nil (SV.tn ?_)
       refine SV.cond rfl (fun hc7 => ?_) (fun hc7 => ?_)
       ·skip   -- c7.T
        have hpos : 0 < s.fHeap.length + s.fDeferred.length := by simp at hc7; omega
        have hnx : SorterD.next s g = SorterD.outS s := hfl.trans (SorterD.flow_out hpos)
        refine SV.seq' (SV.region ?_)
        refine sl 3 (lb 2 0 [.hd 0, .sc _, .hd 1, .hd 2, .hd 3, .hd 4, .sc _, .sc _, .sc _, .sc _] agg_impl_Sorter sz_impl_Sorter (fun h => by cases h)) ?_
        refine so (ok_callY (is := [0, 1, 2, 3, 4]) (ls := [(true, [.hd 5, .sc _, .hd 6, .hd 7, .hd 8, .hd 9, .sc _, .sc _, .sc _, .sc _])]) rfl rfl ⟨_, _, Try.func81, rfl, by decide⟩ (vout_s s hW) ⟨⟨[.hd 0, .sc _, .hd 1, .hd 2, .hd 3, .hd 4, .sc _, .sc _, .sc _, .sc _], rfl, ⟨⟨_, rfl, rfl⟩, .inl ⟨_, rfl, rfl⟩, ⟨_, rfl, rfl⟩, ⟨_, rfl, rfl⟩, ⟨_, rfl, rfl⟩, ⟨_, rfl, rfl⟩, .inl ⟨_, rfl, rfl⟩, .inl ⟨_, rfl, rfl⟩, .inl ⟨_, rfl, rfl⟩, .inl ⟨_, rfl, rfl⟩, trivial⟩⟩, trivial⟩ rfl (by decide) rfl (gle rfl)) ?_
        refine sm (ok_lit0 (kk := 10) elt_impl_Row rfl rfl rfl (gle rfl)) ?_
        refine so (st (ag := true) [.hd 5, .sc _, .hd 6, .hd 7, .hd 8, .hd 9, .sc _, .sc _, .sc _, .sc _] [.hd 5, .sc _, .hd 6, .hd 7, .hd 8, .hd 9, .sc _, .sc _, .sc _, .sc _] sz_impl_Sorter (fun h => by cases h)) ?_
        refine sl 3 (mv (V.one (.hd 10))) ?_
        refine sl 3 ms ?_
        refine SV.nil (SV.tn (SV.ret (SV.tr (SV.br (SV.tr ?_)))))
        apply SV.done (hf := Try.results29) (ht := rfl) (he := .inl rfl)
        case hr => exact (ResAll.cons (ResOk.cell (b := 1) (ag := true) (xs := [.hd 5, .sc _, .hd 6, .hd 7, .hd 8, .hd 9, .sc _, .sc _, .sc _, .sc _]) rfl rfl agg_impl_Sorter sz_impl_Sorter (fun h => by cases h)) (ResAll.cons (ResOk.tmp (ag := false) (xs := [.hd 10]) rfl) (ResAll.cons (ResOk.tmp (ag := false) (xs := [.sc _]) rfl) ResAll.nil')))
        case h2 => simp [two]
        refine ⟨rfl, ⟨?_, ?_, ?_, ?_, ?_, ?_, ?_, ?_, ?_, ?_, trivial⟩, ⟨rfl, ⟨?_, trivial⟩, ⟨rfl, ⟨?_, trivial⟩, trivial⟩⟩⟩ <;> first | rfl | (rw [hnx]; first | done | rfl | ((refine lsq ?_; first | done | rfl | (rw [List.map_append]; rfl) | (simp [tRun]; done) | (simp [tRow]; done) | (simp [List.map_drop, tRun]; done) | (rw [hh]; done) | (rw [hdd0]; done) | (rw [ho2]; done) | (simp; done))) | ((refine liq ?_; first | done | rfl | (rw [hn]; done) | (simp; done)))) | ((refine lsq ?_; rw [hgv]; first | done | rfl | (simp [tRow]; done))) | ((refine lbq ?_; rw [hcan]))
       ·skip   -- c7.F
        have hpos : ¬ 0 < s.fHeap.length + s.fDeferred.length := by simp at hc7; omega
        have hend := hfl.trans (SorterD.flow_end hpos)
        have hh : s.fHeap = [] := List.eq_nil_of_length_eq_zero (by omega)
        have hdd0 : s.fDeferred = [] := List.eq_nil_of_length_eq_zero (by omega)
        refine SV.skip (SV.tn (SV.seq' (SV.seq' (SV.region ?_))))
        refine sl 3 (fb fld_impl_Sorter_4) ?_
        refine sl 3 (lb 0 4 [.ro _] agg_s_impl_Row sz_s_impl_Row (fun _ => rfl)) ?_
        refine sl 3 (ok_len (lf := .ro _) rfl elt_impl_Row.und rfl rfl) ?_
        refine sl 3 (s2 (.tmp 106) (.const ((Value.int IntKind.i64 0)))) ?_
        refine SV.nil (SV.tn ?_)
        refine SV.cond rfl (fun hc8 => ?_) (fun hc8 => ?_)
        ·skip   -- c8.T
         have ho1 : ¬ s.fOutput.length = 0 := by intro h; simp [h] at hc8
         have hnx : SorterD.next s g = ⟨s.fInput, s.fPos, [], [], [], s.fRuns ++ [s.fOutput], 0, 0, if (s.fRuns ++ [s.fOutput]).length = 0 then 4 else if (s.fRuns ++ [s.fOutput]).length = 1 then 3 else 2, s.fWritten⟩ := by rw [hend]; unfold SorterD.endS SorterD.turnS; rw [if_neg ho1, hh, hdd0]
         refine SV.seq' (SV.region ?_)
         refine sl 3 (fb fld_impl_Sorter_5) ?_
         refine sl 3 (lb 2 5 [.hd 4] agg_s_impl_Run sz_s_impl_Run (fun _ => rfl)) ?_
         refine sl 3 (fb fld_impl_Sorter_4) ?_
         refine sl 3 (lb 2 4 [.hd 3] agg_s_impl_Row sz_s_impl_Row (fun _ => rfl)) ?_
         refine sl 3 (ok_build (zs := [.nl _]) (ys := [.hd 3]) (qs := [(0, [.hd 3])]) (pl := fun i => ([(0, 1)] : List (Nat × Nat))[i]?) rfl zero_impl_Run ⟨rfl, ⟨3, by decide, sz_impl_Row⟩, trivial⟩ ⟨⟨rfl, false, rfl, (fun _ => rfl), rfl⟩, trivial⟩ bld_impl_Run rfl) ?_
         refine sm (ok_lit1 (kk := 5) elt_impl_Run (ag := true) (xs := [.hd 3]) rfl rfl rfl rfl (fun h => by cases h) (outs_c rfl outs_n) (by simp [two]) rfl (gle rfl)) ?_
         refine sm (ok_append (kk := 6) elt_impl_Run (ls := .hd 4) (lx := .hd 5) rfl rfl rfl rfl rfl rfl (by intro i h1 h2; first | (cases h1; done) | (cases h1; cases h2)) (by first | omega | (simp only [List.length_map]; omega) | (simp; done) | (simp; omega)) rfl (gle rfl)) ?_
         refine sl 3 (fb fld_impl_Sorter_5) ?_
         refine so (st (ag := false) [.hd 6] [.hd 0, .sc _, .hd 1, .hd 2, .hd 3, .hd 6, .sc _, .sc _, .sc _, .sc _] sz_s_impl_Run (fun _ => rfl)) ?_
         refine SV.nil (SV.tn (SV.region ?_))
         refine sm (ok_lit0 (kk := 7) elt_impl_Row rfl rfl rfl (gle rfl)) ?_
         refine sl 3 (fb fld_impl_Sorter_4) ?_
         refine so (st (ag := false) [.hd 7] [.hd 0, .sc _, .hd 1, .hd 2, .hd 7, .hd 6, .sc _, .sc _, .sc _, .sc _] sz_s_impl_Row (fun _ => rfl)) ?_
         refine SV.nil (SV.tn (SV.seq' (SV.region ?_)))
         refine sl 3 (lb 2 0 [.hd 0, .sc _, .hd 1, .hd 2, .hd 7, .hd 6, .sc _, .sc _, .sc _, .sc _] agg_impl_Sorter sz_impl_Sorter (fun h => by cases h)) ?_
         refine sm (ok_callPass (ls := [.hd 0, .sc _, .hd 1, .hd 2, .hd 7, .hd 6, .sc _, .sc _, .sc _, .sc _]) (ys := [.hd 0, .sc _, .hd 1, .hd 2, .hd 7, .hd 6, .sc _, .sc _, .sc _, .sc _]) rfl ⟨_, _, Try.func82, rfl, by decide⟩ rfl (by simp) (fun us hl hS => turn_pass (k := _) us hl fun u hu => hS 5 _ u _ _ rfl rfl hu) rfl (gle rfl)) ?_
         refine sm (ok_lit0 (kk := 8) elt_impl_Row rfl rfl rfl (gle rfl)) ?_
         refine so (st (ag := true) [.hd 0, .sc _, .hd 1, .hd 2, .hd 7, .hd 6, .sc _, .sc _, .sc _, .sc _] [.hd 0, .sc _, .hd 1, .hd 2, .hd 7, .hd 6, .sc _, .sc _, .sc _, .sc _] sz_impl_Sorter (fun h => by cases h)) ?_
         refine sl 3 (mv (V.one (.hd 8))) ?_
         refine sl 3 ms ?_
         refine SV.nil (SV.tn (SV.ret (SV.br (SV.tr ?_))))
         apply SV.done (hf := Try.results29) (ht := rfl) (he := .inl rfl)
         case hr => exact (ResAll.cons (ResOk.cell (b := 1) (ag := true) (xs := [.hd 0, .sc _, .hd 1, .hd 2, .hd 7, .hd 6, .sc _, .sc _, .sc _, .sc _]) rfl rfl agg_impl_Sorter sz_impl_Sorter (fun h => by cases h)) (ResAll.cons (ResOk.tmp (ag := false) (xs := [.hd 8]) rfl) (ResAll.cons (ResOk.tmp (ag := false) (xs := [.sc _]) rfl) ResAll.nil')))
         case h2 => simp [two]
         refine ⟨rfl, ⟨?_, ?_, ?_, ?_, ?_, ?_, ?_, ?_, ?_, ?_, trivial⟩, ⟨rfl, ⟨?_, trivial⟩, ⟨rfl, ⟨?_, trivial⟩, trivial⟩⟩⟩ <;> first | rfl | (rw [hnx]; first | done | rfl | ((refine lsq ?_; first | done | rfl | (rw [List.map_append]; rfl) | (simp [tRun]; done) | (simp [tRow]; done) | (simp [List.map_drop, tRun]; done) | (rw [hh]; done) | (rw [hdd0]; done) | (rw [ho2]; done) | (simp; done))) | ((refine liq ?_; first | done | rfl | (rw [hn]; done) | (simp; done)))) | ((refine lsq ?_; rw [hgv]; first | done | rfl | (simp [tRow]; done))) | ((refine lbq ?_; rw [hcan]))
        ·skip   -- c8.F
         have ho1 : s.fOutput.length = 0 := by first | (simpa using hc8) | (simp at hc8; omega) | (simp at hc8; rw [hc8]; rfl)
         have ho2 : s.fOutput = [] := List.eq_nil_of_length_eq_zero ho1
         have hnx : SorterD.next s g = ⟨s.fInput, s.fPos, [], [], [], s.fRuns, 0, 0, if (s.fRuns).length = 0 then 4 else if (s.fRuns).length = 1 then 3 else 2, s.fWritten⟩ := by rw [hend]; unfold SorterD.endS SorterD.turnS; rw [if_pos ho1, hh, hdd0]
         refine SV.skip (SV.tn (SV.seq' (SV.region ?_)))
         refine sl 3 (lb 2 0 [.hd 0, .sc _, .hd 1, .hd 2, .hd 3, .hd 4, .sc _, .sc _, .sc _, .sc _] agg_impl_Sorter sz_impl_Sorter (fun h => by cases h)) ?_
         refine sm (ok_callPass (ls := [.hd 0, .sc _, .hd 1, .hd 2, .hd 3, .hd 4, .sc _, .sc _, .sc _, .sc _]) (ys := [.hd 0, .sc _, .hd 1, .hd 2, .hd 3, .hd 4, .sc _, .sc _, .sc _, .sc _]) rfl ⟨_, _, Try.func82, rfl, by decide⟩ rfl (by simp) (fun us hl hS => turn_pass (k := _) us hl fun u hu => hS 5 _ u _ _ rfl rfl hu) rfl (gle rfl)) ?_
         refine sm (ok_lit0 (kk := 5) elt_impl_Row rfl rfl rfl (gle rfl)) ?_
         refine so (st (ag := true) [.hd 0, .sc _, .hd 1, .hd 2, .hd 3, .hd 4, .sc _, .sc _, .sc _, .sc _] [.hd 0, .sc _, .hd 1, .hd 2, .hd 3, .hd 4, .sc _, .sc _, .sc _, .sc _] sz_impl_Sorter (fun h => by cases h)) ?_
         refine sl 3 (mv (V.one (.hd 5))) ?_
         refine sl 3 ms ?_
         refine SV.nil (SV.tn (SV.ret (SV.br (SV.tr ?_))))
         apply SV.done (hf := Try.results29) (ht := rfl) (he := .inl rfl)
         case hr => exact (ResAll.cons (ResOk.cell (b := 1) (ag := true) (xs := [.hd 0, .sc _, .hd 1, .hd 2, .hd 3, .hd 4, .sc _, .sc _, .sc _, .sc _]) rfl rfl agg_impl_Sorter sz_impl_Sorter (fun h => by cases h)) (ResAll.cons (ResOk.tmp (ag := false) (xs := [.hd 5]) rfl) (ResAll.cons (ResOk.tmp (ag := false) (xs := [.sc _]) rfl) ResAll.nil')))
         case h2 => simp [two]
         refine ⟨rfl, ⟨?_, ?_, ?_, ?_, ?_, ?_, ?_, ?_, ?_, ?_, trivial⟩, ⟨rfl, ⟨?_, trivial⟩, ⟨rfl, ⟨?_, trivial⟩, trivial⟩⟩⟩ <;> first | rfl | (rw [hnx]; first | done | rfl | ((refine lsq ?_; first | done | rfl | (rw [List.map_append]; rfl) | (simp [tRun]; done) | (simp [tRow]; done) | (simp [List.map_drop, tRun]; done) | (rw [hh]; done) | (rw [hdd0]; done) | (rw [ho2]; done) | (simp; done))) | ((refine liq ?_; first | done | rfl | (rw [hn]; done) | (simp; done)))) | ((refine lsq ?_; rw [hgv]; first | done | rfl | (simp [tRow]; done))) | ((refine lbq ?_; rw [hcan]))
     ·skip   -- g2.F
      have hnl : ¬ n < s.fInput.length := by simp at hg2; omega
      have hfl : SorterD.next s g = SorterD.flowS s := by rw [hst1]; unfold SorterD.stepRead; rw [List.getElem?_eq_none (by rw [hn, Int.toNat_natCast]; omega)]
      refine dn ?_
      refine dn ?_
      refine dn ?_
      refine dn ?_
      refine dn ?_
      refine dn ?_
      refine dn ?_
      refine dn ?_
      refine DW.mN rfl rfl rfl rfl (gle rfl) rfl rfl rfl (gle rfl) ?_
      refine DW.mN rfl rfl rfl rfl (gle rfl) rfl rfl rfl (gle rfl) ?_
      refine dn ?_
      refine dn ?_
      refine dq rfl pf ?_
      refine DW.stores ?_
      refine SV.zend ?_
      refine SV.tn ?_
      refine SV.cond rfl (fun hc9 => ?_) (fun hc9 => ?_)
      ·skip   -- c9.T
       cases hc9
      ·skip   -- c9.F
       refine SV.skip (SV.tn (SV.seq' (SV.seq' (SV.region ?_))))
       refine sl 3 (fb fld_impl_Sorter_2) ?_
       refine sl 3 (lb 0 2 [.ro _] agg_s_impl_Row sz_s_impl_Row (fun _ => rfl)) ?_
       refine sl 3 (ok_len (lf := .ro _) rfl elt_impl_Row.und rfl rfl) ?_
       refine sl 3 (fb fld_impl_Sorter_3) ?_
       refine sl 3 (lb 0 3 [.ro _] agg_s_impl_Row sz_s_impl_Row (fun _ => rfl)) ?_
       refine sl 3 (ok_len (lf := .ro _) rfl elt_impl_Row.und rfl rfl) ?_
       refine sl 3 (ok_s2 (v := .int .i64 ((s.fHeap.length : Int) + (s.fDeferred.length : Int))) (x := .tmp 95) (x' := .tmp 98) (VScal.one rfl) (VScal.one rfl) (fun ρ h1 h2 w => by go_simp; (try simp only [List.length_map]); rw [IntWalk.i64_left, IntWalk.wrap64_in _ ⟨by omega, by omega⟩]) rfl) ?_
       refine sl 3 (s2 (.tmp 99) (.const ((Value.int IntKind.i64 0)))) ?_
       refine SV.nil (SV.tn ?_)
       refine SV.cond rfl (fun hc10 => ?_) (fun hc10 => ?_)
       ·skip   -- c10.T
        have hpos : 0 < s.fHeap.length + s.fDeferred.length := by simp at hc10; omega
        have hnx : SorterD.next s g = SorterD.outS s := hfl.trans (SorterD.flow_out hpos)
        refine SV.seq' (SV.region ?_)
        refine sl 3 (lb 2 0 [.hd 0, .sc _, .hd 1, .hd 2, .hd 3, .hd 4, .sc _, .sc _, .sc _, .sc _] agg_impl_Sorter sz_impl_Sorter (fun h => by cases h)) ?_
        refine so (ok_callY (is := [0, 1, 2, 3, 4]) (ls := [(true, [.hd 5, .sc _, .hd 6, .hd 7, .hd 8, .hd 9, .sc _, .sc _, .sc _, .sc _])]) rfl rfl ⟨_, _, Try.func81, rfl, by decide⟩ (vout_s s hW) ⟨⟨[.hd 0, .sc _, .hd 1, .hd 2, .hd 3, .hd 4, .sc _, .sc _, .sc _, .sc _], rfl, ⟨⟨_, rfl, rfl⟩, .inl ⟨_, rfl, rfl⟩, ⟨_, rfl, rfl⟩, ⟨_, rfl, rfl⟩, ⟨_, rfl, rfl⟩, ⟨_, rfl, rfl⟩, .inl ⟨_, rfl, rfl⟩, .inl ⟨_, rfl, rfl⟩, .inl ⟨_, rfl, rfl⟩, .inl ⟨_, rfl, rfl⟩, trivial⟩⟩, trivial⟩ rfl (by decide) rfl (gle rfl)) ?_
        refine sm (ok_lit0 (kk := 10) elt_impl_Row rfl rfl rfl (gle rfl)) ?_
        refine so (st (ag := true) [.hd 5, .sc _, .hd 6, .hd 7, .hd 8, .hd 9, .sc _, .sc _, .sc _, .sc _] [.hd 5, .sc _, .hd 6, .hd 7, .hd 8, .hd 9, .sc _, .sc _, .sc _, .sc _] sz_impl_Sorter (fun h => by cases h)) ?_
        refine sl 3 (mv (V.one (.hd 10))) ?_
        refine sl 3 ms ?_
        refine SV.nil (SV.tn (SV.ret (SV.tr (SV.br (SV.tr ?_)))))
        apply SV.done (hf := Try.results29) (ht := rfl) (he := .inl rfl)
        case hr => exact (ResAll.cons (ResOk.cell (b := 1) (ag := true) (xs := [.hd 5, .sc _, .hd 6, .hd 7, .hd 8, .hd 9, .sc _, .sc _, .sc _, .sc _]) rfl rfl agg_impl_Sorter sz_impl_Sorter (fun h => by cases h)) (ResAll.cons (ResOk.tmp (ag := false) (xs := [.hd 10]) rfl) (ResAll.cons (ResOk.tmp (ag := false) (xs := [.sc _]) rfl) ResAll.nil')))
        case h2 => simp [two]
        refine ⟨rfl, ⟨?_, ?_, ?_, ?_, ?_, ?_, ?_, ?_, ?_, ?_, trivial⟩, ⟨rfl, ⟨?_, trivial⟩, ⟨rfl, ⟨?_, trivial⟩, trivial⟩⟩⟩ <;> first | rfl | (rw [hnx]; first | done | rfl | ((refine lsq ?_; first | done | rfl | (rw [List.map_append]; rfl) | (simp [tRun]; done) | (simp [tRow]; done) | (simp [List.map_drop, tRun]; done) | (rw [hh]; done) | (rw [hdd0]; done) | (rw [ho2]; done) | (simp; done))) | ((refine liq ?_; first | done | rfl | (rw [hn]; done) | (simp; done)))) | ((refine lsq ?_; rw [hgv]; first | done | rfl | (simp [tRow]; done))) | ((refine lbq ?_; rw [hcan]))
       ·skip   -- c10.F
        have hpos : ¬ 0 < s.fHeap.length + s.fDeferred.length := by simp at hc10; omega
        have hend := hfl.trans (SorterD.flow_end hpos)
        have hh : s.fHeap = [] := List.eq_nil_of_length_eq_zero (by omega)
        have hdd0 : s.fDeferred = [] := List.eq_nil_of_length_eq_zero (by omega)
        refine SV.skip (SV.tn (SV.seq' (SV.seq' (SV.region ?_))))
        refine sl 3 (fb fld_impl_Sorter_4) ?_
        refine sl 3 (lb 0 4 [.ro _] agg_s_impl_Row sz_s_impl_Row (fun _ => rfl)) ?_
        refine sl 3 (ok_len (lf := .ro _) rfl elt_impl_Row.und rfl rfl) ?_
        refine sl 3 (s2 (.tmp 106) (.const ((Value.int IntKind.i64 0)))) ?_
        refine SV.nil (SV.tn ?_)
        refine SV.cond rfl (fun hc11 => ?_) (fun hc11 => ?_)
        ·skip   -- c11.T
         have ho1 : ¬ s.fOutput.length = 0 := by intro h; simp [h] at hc11
         have hnx : SorterD.next s g = ⟨s.fInput, s.fPos, [], [], [], s.fRuns ++ [s.fOutput], 0, 0, if (s.fRuns ++ [s.fOutput]).length = 0 then 4 else if (s.fRuns ++ [s.fOutput]).length = 1 then 3 else 2, s.fWritten⟩ := by rw [hend]; unfold SorterD.endS SorterD.turnS; rw [if_neg ho1, hh, hdd0]
         refine SV.seq' (SV.region ?_)
         refine sl 3 (fb fld_impl_Sorter_5) ?_
         refine sl 3 (lb 2 5 [.hd 4] agg_s_impl_Run sz_s_impl_Run (fun _ => rfl)) ?_
         refine sl 3 (fb fld_impl_Sorter_4) ?_
         refine sl 3 (lb 2 4 [.hd 3] agg_s_impl_Row sz_s_impl_Row (fun _ => rfl)) ?_
         refine sl 3 (ok_build (zs := [.nl _]) (ys := [.hd 3]) (qs := [(0, [.hd 3])]) (pl := fun i => ([(0, 1)] : List (Nat × Nat))[i]?) rfl zero_impl_Run ⟨rfl, ⟨3, by decide, sz_impl_Row⟩, trivial⟩ ⟨⟨rfl, false, rfl, (fun _ => rfl), rfl⟩, trivial⟩ bld_impl_Run rfl) ?_
         refine sm (ok_lit1 (kk := 5) elt_impl_Run (ag := true) (xs := [.hd 3]) rfl rfl rfl rfl (fun h => by cases h) (outs_c rfl outs_n) (by simp [two]) rfl (gle rfl)) ?_
         refine sm (ok_append (kk := 6) elt_impl_Run (ls := .hd 4) (lx := .hd 5) rfl rfl rfl rfl rfl rfl (by intro i h1 h2; first | (cases h1; done) | (cases h1; cases h2)) (by first | omega | (simp only [List.length_map]; omega) | (simp; done) | (simp; omega)) rfl (gle rfl)) ?_
         refine sl 3 (fb fld_impl_Sorter_5) ?_
         refine so (st (ag := false) [.hd 6] [.hd 0, .sc _, .hd 1, .hd 2, .hd 3, .hd 6, .sc _, .sc _, .sc _, .sc _] sz_s_impl_Run (fun _ => rfl)) ?_
         refine SV.nil (SV.tn (SV.region ?_))
         refine sm (ok_lit0 (kk := 7) elt_impl_Row rfl rfl rfl (gle rfl)) ?_
         refine sl 3 (fb fld_impl_Sorter_4) ?_
         refine so (st (ag := false) [.hd 7] [.hd 0, .sc _, .hd 1, .hd 2, .hd 7, .hd 6, .sc _, .sc _, .sc _, .sc _] sz_s_impl_Row (fun _ => rfl)) ?_
         refine SV.nil (SV.tn (SV.seq' (SV.region ?_)))
         refine sl 3 (lb 2 0 [.hd 0, .sc _, .hd 1, .hd 2, .hd 7, .hd 6, .sc _, .sc _, .sc _, .sc _] agg_impl_Sorter sz_impl_Sorter (fun h => by cases h)) ?_
         refine sm (ok_callPass (ls := [.hd 0, .sc _, .hd 1, .hd 2, .hd 7, .hd 6, .sc _, .sc _, .sc _, .sc _]) (ys := [.hd 0, .sc _, .hd 1, .hd 2, .hd 7, .hd 6, .sc _, .sc _, .sc _, .sc _]) rfl ⟨_, _, Try.func82, rfl, by decide⟩ rfl (by simp) (fun us hl hS => turn_pass (k := _) us hl fun u hu => hS 5 _ u _ _ rfl rfl hu) rfl (gle rfl)) ?_
         refine sm (ok_lit0 (kk := 8) elt_impl_Row rfl rfl rfl (gle rfl)) ?_
         refine so (st (ag := true) [.hd 0, .sc _, .hd 1, .hd 2, .hd 7, .hd 6, .sc _, .sc _, .sc _, .sc _] [.hd 0, .sc _, .hd 1, .hd 2, .hd 7, .hd 6, .sc _, .sc _, .sc _, .sc _] sz_impl_Sorter (fun h => by cases h)) ?_
         refine sl 3 (mv (V.one (.hd 8))) ?_
         refine sl 3 ms ?_
         refine SV.nil (SV.tn (SV.ret (SV.br (SV.tr ?_))))
         apply SV.done (hf := Try.results29) (ht := rfl) (he := .inl rfl)
         case hr => exact (ResAll.cons (ResOk.cell (b := 1) (ag := true) (xs := [.hd 0, .sc _, .hd 1, .hd 2, .hd 7, .hd 6, .sc _, .sc _, .sc _, .sc _]) rfl rfl agg_impl_Sorter sz_impl_Sorter (fun h => by cases h)) (ResAll.cons (ResOk.tmp (ag := false) (xs := [.hd 8]) rfl) (ResAll.cons (ResOk.tmp (ag := false) (xs := [.sc _]) rfl) ResAll.nil')))
         case h2 => simp [two]
         refine ⟨rfl, ⟨?_, ?_, ?_, ?_, ?_, ?_, ?_, ?_, ?_, ?_, trivial⟩, ⟨rfl, ⟨?_, trivial⟩, ⟨rfl, ⟨?_, trivial⟩, trivial⟩⟩⟩ <;> first | rfl | (rw [hnx]; first | done | rfl | ((refine lsq ?_; first | done | rfl | (rw [List.map_append]; rfl) | (simp [tRun]; done) | (simp [tRow]; done) | (simp [List.map_drop, tRun]; done) | (rw [hh]; done) | (rw [hdd0]; done) | (rw [ho2]; done) | (simp; done))) | ((refine liq ?_; first | done | rfl | (rw [hn]; done) | (simp; done)))) | ((refine lsq ?_; rw [hgv]; first | done | rfl | (simp [tRow]; done))) | ((refine lbq ?_; rw [hcan]))
        ·skip   -- c11.F
         have ho1 : s.fOutput.length = 0 := by first | (simpa using hc11) | (simp at hc11; omega) | (simp at hc11; rw [hc11]; rfl)
         have ho2 : s.fOutput = [] := List.eq_nil_of_length_eq_zero ho1
         have hnx : SorterD.next s g = ⟨s.fInput, s.fPos, [], [], [], s.fRuns, 0, 0, if (s.fRuns).length = 0 then 4 else if (s.fRuns).length = 1 then 3 else 2, s.fWritten⟩ := by rw [hend]; unfold SorterD.endS SorterD.turnS; rw [if_pos ho1, hh, hdd0]
         refine SV.skip (SV.tn (SV.seq' (SV.region ?_)))
         refine sl 3 (lb 2 0 [.hd 0, .sc _, .hd 1, .hd 2, .hd 3, .hd 4, .sc _, .sc _, .sc _, .sc _] agg_impl_Sorter sz_impl_Sorter (fun h => by cases h)) ?_
         refine sm (ok_callPass (ls := [.hd 0, .sc _, .hd 1, .hd 2, .hd 3, .hd 4, .sc _, .sc _, .sc _, .sc _]) (ys := [.hd 0, .sc _, .hd 1, .hd 2, .hd 3, .hd 4, .sc _, .sc _, .sc _, .sc _]) rfl ⟨_, _, Try.func82, rfl, by decide⟩ rfl (by simp) (fun us hl hS => turn_pass (k := _) us hl fun u hu => hS 5 _ u _ _ rfl rfl hu) rfl (gle rfl)) ?_
         refine sm (ok_lit0 (kk := 5) elt_impl_Row rfl rfl rfl (gle rfl)) ?_
         refine so (st (ag := true) [.hd 0, .sc _, .hd 1, .hd 2, .hd 3, .hd 4, .sc _, .sc _, .sc _, .sc _] [.hd 0, .sc _, .hd 1, .hd 2, .hd 3, .hd 4, .sc _, .sc _, .sc _, .sc _] sz_impl_Sorter (fun h => by cases h)) ?_
         refine sl 3 (mv (V.one (.hd 5))) ?_
         refine sl 3 ms ?_
         refine SV.nil (SV.tn (SV.ret (SV.br (SV.tr ?_))))
         apply SV.done (hf := Try.results29) (ht := rfl) (he := .inl rfl)
         case hr => exact (ResAll.cons (ResOk.cell (b := 1) (ag := true) (xs := [.hd 0, .sc _, .hd 1, .hd 2, .hd 3, .hd 4, .sc _, .sc _, .sc _, .sc _]) rfl rfl agg_impl_Sorter sz_impl_Sorter (fun h => by cases h)) (ResAll.cons (ResOk.tmp (ag := false) (xs := [.hd 5]) rfl) (ResAll.cons (ResOk.tmp (ag := false) (xs := [.sc _]) rfl) ResAll.nil')))
         case h2 => simp [two]
         refine ⟨rfl, ⟨?_, ?_, ?_, ?_, ?_, ?_, ?_, ?_, ?_, ?_, trivial⟩, ⟨rfl, ⟨?_, trivial⟩, ⟨rfl, ⟨?_, trivial⟩, trivial⟩⟩⟩ <;> first | rfl | (rw [hnx]; first | done | rfl | ((refine lsq ?_; first | done | rfl | (rw [List.map_append]; rfl) | (simp [tRun]; done) | (simp [tRow]; done) | (simp [List.map_drop, tRun]; done) | (rw [hh]; done) | (rw [hdd0]; done) | (rw [ho2]; done) | (simp; done))) | ((refine liq ?_; first | done | rfl | (rw [hn]; done) | (simp; done)))) | ((refine lsq ?_; rw [hgv]; first | done | rfl | (simp [tRow]; done))) | ((refine lbq ?_; rw [hcan]))
    ·skip   -- c3.F
     have hp1 : ¬ s.fPhase = 1 := by simpa using hc3
     refine SV.seq' (SV.region ?_)
     refine sl 3 (s2 (.tmp 29) (.const ((Value.int IntKind.i64 2)))) ?_
     refine sl 3 ms ?_
     refine SV.nil (SV.tn ?_)
     refine SV.cond rfl (fun hc12 => ?_) (fun hc12 => ?_)
     ·skip   -- c12.T
      have hp2 : s.fPhase = 2 := by simpa using hc12
      have hMR : SorterD.Rest s ∧ SorterD.Merges s := by rcases hph with h | h | h | h; exact absurd h.1 hp1; exact h.2; all_goals (exfalso; have := h.1; omega)
      obtain ⟨hRest, hM⟩ := hMR
      have hgv : SorterD.gives s g = [] := by rw [hgs]; unfold SorterD.emits; rw [if_neg (by omega)]
      have hst2 := hst.trans (SorterD.step_two hp1 hp2)
      have hfl0 : (SorterD.fst s).length ≤ 100000000 := hW.run (by rw [SorterD.runs_two hM.two]; exact List.mem_cons_self ..)
      have hfl1 : (SorterD.snd s).length ≤ 100000000 := hW.run (by rw [SorterD.runs_two hM.two]; exact List.mem_cons_of_mem _ (List.mem_cons_self ..))
      have hm0 := hM.two
      have hm1 := hM.l0
      have hm2 := hM.l1
      have hm3 := hM.r0
      have hm4 := hM.r1
      refine SV.seq' (SV.region ?_)
      refine sl 3 (fb fld_impl_Sorter_5) ?_
      refine sl 3 (lb 0 5 [.ro _] agg_s_impl_Run sz_s_impl_Run (fun _ => rfl)) ?_
      refine sl 3 (fb fld_impl_Sorter_6) ?_
      refine sl 3 (lb 0 6 [.sc _] agg_int sz_int (fun _ => rfl)) ?_
      refine sm (cl [(false, [.hd 5])] rfl Try.func68 (vl13row_s s.fRuns 0 s.fLeftPos (by omega) hM.l0) ⟨⟨[.ro _], rfl, ⟨rfl, trivial⟩⟩, ⟨[.sc _], rfl, ⟨rfl, trivial⟩⟩, ⟨[.sc _], rfl, ⟨rfl, trivial⟩⟩, trivial⟩) ?_
      refine sl 3 (mv (V.one (.hd 5))) ?_
      refine SV.nil (SV.tn (SV.seq' (SV.region ?_)))
      refine sl 3 (fb fld_impl_Sorter_5) ?_
      refine sl 3 (lb 0 5 [.ro _] agg_s_impl_Run sz_s_impl_Run (fun _ => rfl)) ?_
      refine sl 3 (fb fld_impl_Sorter_7) ?_
      refine sl 3 (lb 0 7 [.sc _] agg_int sz_int (fun _ => rfl)) ?_
      refine sm (cl [(false, [.hd 6])] rfl Try.func68 (vl13row_s s.fRuns 1 s.fRightPos (by omega) hM.r0) ⟨⟨[.ro _], rfl, ⟨rfl, trivial⟩⟩, ⟨[.sc _], rfl, ⟨rfl, trivial⟩⟩, ⟨[.sc _], rfl, ⟨rfl, trivial⟩⟩, trivial⟩) ?_
      refine sl 3 (mv (V.one (.hd 6))) ?_
      refine SV.nil (SV.tn (SV.seq' (SV.seq' ?_)))
      have hA : ((SorterD.fst s)[s.fLeftPos.toNat]? = none ∧ SorterD.rowAt s.fRuns 0 s.fLeftPos = []) ∨ ∃ x, (SorterD.fst s)[s.fLeftPos.toNat]? = some x ∧ SorterD.rowAt s.fRuns 0 s.fLeftPos = [x] := by
       unfold SorterD.rowAt SorterD.fst
       cases h : (s.fRuns.getD 0 [])[s.fLeftPos.toNat]? with
       | none => exact .inl ⟨rfl, rfl⟩
       | some x => exact .inr ⟨x, rfl, rfl⟩
      have hB2 : ((SorterD.snd s)[s.fRightPos.toNat]? = none ∧ SorterD.rowAt s.fRuns 1 s.fRightPos = []) ∨ ∃ y, (SorterD.snd s)[s.fRightPos.toNat]? = some y ∧ SorterD.rowAt s.fRuns 1 s.fRightPos = [y] := by
       unfold SorterD.rowAt SorterD.snd
       cases h : (s.fRuns.getD 1 [])[s.fRightPos.toNat]? with
       | none => exact .inl ⟨rfl, rfl⟩
       | some x => exact .inr ⟨x, rfl, rfl⟩
      have hwA : ∀ x, SorterD.rowAt s.fRuns 0 s.fLeftPos = [x] → x.wf := fun x e => by obtain ⟨p, hp, hr⟩ := SorterD.rowAt_mem (r := x) (by rw [e]; exact List.mem_singleton_self x); exact hW.runs p hp x hr
      have hwB : ∀ x, SorterD.rowAt s.fRuns 1 s.fRightPos = [x] → x.wf := fun x e => by obtain ⟨p, hp, hr⟩ := SorterD.rowAt_mem (r := x) (by rw [e]; exact List.mem_singleton_self x); exact hW.runs p hp x hr
      rcases hA with ⟨hA1, hA2⟩ | ⟨x, hA1, hA2⟩ <;> rcases hB2 with ⟨hB1, hB2⟩ | ⟨y, hB1, hB2⟩
      ·skip
       have hnj : SorterD.next s g = SorterD.joinS s := by rw [hst2]; unfold SorterD.stepMerge; rw [hA1, hB1]
       refine SV.region ?_
       refine sl 3 (mv (V.one (.hd 5))) ?_
       refine sl 3 (ok_len (lf := .hd 5) rfl elt_impl_Row.und rfl rfl) ?_
       refine sl 3 (mv (V.one (.hd 6))) ?_
       refine sl 3 (ok_len (lf := .hd 6) rfl elt_impl_Row.und rfl rfl) ?_
       refine sl 3 (ok_s2 (v := .int .i64 (((SorterD.rowAt s.fRuns 0 s.fLeftPos).length : Int) + ((SorterD.rowAt s.fRuns 1 s.fRightPos).length : Int))) (x := .tmp 134) (x' := .tmp 136) (VScal.one rfl) (VScal.one rfl) (fun ρ h1 h2 w => by go_simp; (try simp only [List.length_map]); have q1 := SorterD.rowAt_len s.fRuns 0 s.fLeftPos; have q2 := SorterD.rowAt_len s.fRuns 1 s.fRightPos; rw [IntWalk.i64_left, IntWalk.wrap64_in _ ⟨by omega, by omega⟩]) rfl) ?_
       refine sl 3 (s2 (.tmp 137) (.const ((Value.int IntKind.i64 0)))) ?_
       refine SV.nil (SV.tn ?_)
       refine SV.cond rfl (fun hc13 => ?_) (fun hc13 => ?_)
       ·skip   -- c13.T
        have hnx : SorterD.next s g = ⟨s.fInput, s.fPos, s.fHeap, s.fDeferred, [], s.fRuns.drop 2 ++ [s.fOutput], 0, 0, if (s.fRuns.drop 2 ++ [s.fOutput]).length = 0 then 4 else if (s.fRuns.drop 2 ++ [s.fOutput]).length = 1 then 3 else 2, s.fWritten⟩ := hnj
        refine SV.seq' ?_
        refine SV.openBox (b := 2) (j := 5) (p := 4) (m := 7) rfl rfl rfl (by simp only [List.length_map]; omega) rfl fun L gg qq cc hL hcc hcm => ?_
        refine SV.drawX [] (Pl.of [.q 0, .q 1, .q 2, .q 3, .q 4, .q 5, .m 6, .m 7, .q 8]) [9] (by kernel_rfl) (by kernel_rfl) ?_
        refine DX.q rfl (fb fld_impl_Sorter_5) rfl rfl (gle rfl) (fun _ _ _ _ h => h) ?_
        refine DX.lb (b := 2) (i' := 5) (ag := false) (m := 1) (ys := [.sc _]) rfl rfl rfl rfl agg_s_impl_Run sz_s_impl_Run (fun _ => rfl) rfl rfl (gle rfl) (by decide) rfl rfl (gle rfl) (fun _ _ _ _ h => h) ?_
        refine DX.q rfl (ok_tailk (g := gg) (q := qq) (c := cc) (m := 2) (n := 1) rfl elt_impl_Run.und sz_impl_Run rfl rfl (by simp only [List.length_map]; omega) (hcc)) rfl rfl (gle rfl) (fun _ _ _ _ h => h) ?_
        refine DX.q rfl (fb fld_impl_Sorter_4) rfl rfl (gle rfl) (fun _ _ _ _ h => h) ?_
        refine DX.lb (b := 2) (i' := 4) (ag := false) (m := 1) (ys := [.hd 3]) rfl rfl rfl rfl agg_s_impl_Row sz_s_impl_Row (fun _ => rfl) rfl rfl (gle rfl) (by decide) rfl rfl (gle rfl) (fun _ _ _ _ h => h) ?_
        refine DX.q rfl (ok_build (zs := [.nl _]) (ys := [.hd 3]) (qs := [(0, [.hd 3])]) (pl := fun i => ([(0, 1)] : List (Nat × Nat))[i]?) rfl zero_impl_Run ⟨rfl, ⟨3, by decide, sz_impl_Row⟩, trivial⟩ ⟨⟨rfl, false, rfl, (fun _ => rfl), rfl⟩, trivial⟩ bld_impl_Run rfl) rfl rfl (gle rfl) (fun _ _ _ _ h => h) ?_
        refine DX.m (wl' := []) rfl (OpMk.b (ok_lit1 (kk := 7) elt_impl_Run (ag := true) (xs := [.hd 3]) rfl rfl rfl rfl (fun h => by cases h) (outs_c rfl outs_n) (by simp [two]) rfl (gle rfl))) rfl (fun c _ h => by cases h) (gle rfl) ?_
        refine DX.m (wl' := []) rfl (ok_append_to (kk := 9) (s := 141) (p := 4) (g := gg) (q := qq) (c := cc) (m := 2) (lx := .hd 7) elt_impl_Run rfl rfl rfl (gle rfl) rfl (rfl) (by show 4 < 7; decide) (hL) rfl (by intro i h1 h2; cases h1; cases h2) (by simp only [List.length_map]; omega) (by simp only [List.length_drop, List.length_map, List.length_cons, List.length_nil]; omega) rfl (gle rfl)) rfl (fun c _ h => by cases h) (gle rfl) ?_
        refine DX.q rfl (fb fld_impl_Sorter_5) rfl rfl (gle rfl) (fun _ _ _ _ h => h) ?_
        refine DX.stores ?_
        refine SV.z rfl (st (ag := false) [.hd 9] [.hd 0, .sc _, .hd 1, .hd 2, .hd 3, .hd 9, .sc _, .sc _, .sc _, .sc _] sz_s_impl_Run (fun _ => rfl)) rfl ?_
        refine SV.zend ?_
        refine SV.tn (SV.seq' ?_)
        refine SV.nameOff hE.1 ?_
        refine SV.region ?_
        refine sm (ok_lit0 (kk := 10) elt_impl_Row rfl rfl rfl (gle rfl)) ?_
        refine sl 3 (fb fld_impl_Sorter_4) ?_
        refine so (st (ag := false) [.hd 10] [.hd 0, .sc _, .hd 1, .hd 2, .hd 10, .hd 9, .sc _, .sc _, .sc _, .sc _] sz_s_impl_Row (fun _ => rfl)) ?_
        refine SV.nil (SV.tn (SV.seq' (SV.region ?_)))
        refine sl 3 (lb 2 0 [.hd 0, .sc _, .hd 1, .hd 2, .hd 10, .hd 9, .sc _, .sc _, .sc _, .sc _] agg_impl_Sorter sz_impl_Sorter (fun h => by cases h)) ?_
        refine sm (ok_callPass (ls := [.hd 0, .sc _, .hd 1, .hd 2, .hd 10, .hd 9, .sc _, .sc _, .sc _, .sc _]) (ys := [.hd 0, .sc _, .hd 1, .hd 2, .hd 10, .hd 9, .sc _, .sc _, .sc _, .sc _]) rfl ⟨_, _, Try.func82, rfl, by decide⟩ rfl (by simp) (fun us hl hS => turn_pass (k := _) us hl fun u hu => hS 5 _ u _ _ rfl rfl hu) rfl (gle rfl)) ?_
        refine sm (ok_lit0 (kk := 11) elt_impl_Row rfl rfl rfl (gle rfl)) ?_
        refine so (st (ag := true) [.hd 0, .sc _, .hd 1, .hd 2, .hd 10, .hd 9, .sc _, .sc _, .sc _, .sc _] [.hd 0, .sc _, .hd 1, .hd 2, .hd 10, .hd 9, .sc _, .sc _, .sc _, .sc _] sz_impl_Sorter (fun h => by cases h)) ?_
        refine sl 3 (mv (V.one (.hd 11))) ?_
        refine sl 3 ms ?_
        refine SV.nil (SV.tn (SV.ret (SV.tr (SV.br (SV.tr ?_)))))
        apply SV.done (hf := Try.results29) (ht := rfl) (he := .inl rfl)
        case hr => exact (ResAll.cons (ResOk.cell (b := 1) (ag := true) (xs := [.hd 0, .sc _, .hd 1, .hd 2, .hd 10, .hd 9, .sc _, .sc _, .sc _, .sc _]) rfl rfl agg_impl_Sorter sz_impl_Sorter (fun h => by cases h)) (ResAll.cons (ResOk.tmp (ag := false) (xs := [.hd 11]) rfl) (ResAll.cons (ResOk.tmp (ag := false) (xs := [.sc _]) rfl) ResAll.nil')))
        case h2 => simp [two]
        refine ⟨rfl, ⟨?_, ?_, ?_, ?_, ?_, ?_, ?_, ?_, ?_, ?_, trivial⟩, ⟨rfl, ⟨?_, trivial⟩, ⟨rfl, ⟨?_, trivial⟩, trivial⟩⟩⟩ <;> first | rfl | (rw [hnx]; first | done | rfl | ((refine lsq ?_; first | done | rfl | (rw [List.map_append]; rfl) | (simp [tRun]; done) | (simp [tRow]; done) | (simp [List.map_drop, tRun]; done) | (rw [hh]; done) | (rw [hdd0]; done) | (rw [ho2]; done) | (simp; done))) | ((refine liq ?_; first | done | rfl | (rw [hn]; done) | (simp; done)))) | ((refine lsq ?_; rw [hgv]; first | done | rfl | (simp [tRow]; done))) | ((refine lbq ?_; rw [hcan]))
       ·skip   -- c13.F
        (exfalso; simp [hA2, hB2] at hc13)
      ·skip
       have hwy := hwB y hB2
       have hyb : (SorterD.rowAt s.fRuns 1 s.fRightPos)[0]? = some y := by rw [hB2]; rfl
       have hnr : SorterD.next s g = SorterD.rightS s y := by rw [hst2]; unfold SorterD.stepMerge; rw [hA1, hB1]
       refine SV.region ?_
       refine sl 3 (mv (V.one (.hd 5))) ?_
       refine sl 3 (ok_len (lf := .hd 5) rfl elt_impl_Row.und rfl rfl) ?_
       refine sl 3 (mv (V.one (.hd 6))) ?_
       refine sl 3 (ok_len (lf := .hd 6) rfl elt_impl_Row.und rfl rfl) ?_
       refine sl 3 (ok_s2 (v := .int .i64 (((SorterD.rowAt s.fRuns 0 s.fLeftPos).length : Int) + ((SorterD.rowAt s.fRuns 1 s.fRightPos).length : Int))) (x := .tmp 134) (x' := .tmp 136) (VScal.one rfl) (VScal.one rfl) (fun ρ h1 h2 w => by go_simp; (try simp only [List.length_map]); have q1 := SorterD.rowAt_len s.fRuns 0 s.fLeftPos; have q2 := SorterD.rowAt_len s.fRuns 1 s.fRightPos; rw [IntWalk.i64_left, IntWalk.wrap64_in _ ⟨by omega, by omega⟩]) rfl) ?_
       refine sl 3 (s2 (.tmp 137) (.const ((Value.int IntKind.i64 0)))) ?_
       refine SV.nil (SV.tn ?_)
       refine SV.cond rfl (fun hc14 => ?_) (fun hc14 => ?_)
       ·skip   -- c14.T
        (exfalso; simp [hA2, hB2] at hc14)
       ·skip   -- c14.F
        refine SV.skip (SV.tn (SV.seq' (SV.seq' ?_)))
        refine SV.draw [.q 0, .q 1, .q 2, .q 3, .q 4, .q 5, .q 6, .q 7, .q 8, .q 9, .q 10, .q 11, .q 12, .q 13, .m 14, .q 15, .q 16, .q 17] [] (by kernel_rfl) (by kernel_rfl) ?_
        refine dq rfl (mv (V.one (.hd 6))) ?_
        refine dq rfl (ok_len (lf := .hd 6) rfl elt_impl_Row.und rfl rfl) ?_
        refine dq rfl (s2 (.tmp 154) (.const ((Value.int IntKind.i64 0)))) ?_
        refine dq rfl ms ?_
        refine DW.split (d := 156) rfl (fun hg4 => ?_) (fun hg4 => ?_)
        ·skip   -- g4.T
         (exfalso; simp [hA2, hB2] at hg4)
        ·skip   -- g4.F
         refine dy rfl (mv (V.one (.hd 5))) ?_
         refine dy rfl (ok_len (lf := .hd 5) rfl elt_impl_Row.und rfl rfl) ?_
         refine dy rfl (s2 (.tmp 158) (.const ((Value.int IntKind.i64 0)))) ?_
         refine dy rfl ms ?_
         refine DW.split (d := 160) rfl (fun hg5 => ?_) (fun hg5 => ?_)
         ·skip   -- g5.T
          (exfalso; simp [hA2, hB2] at hg5)
         ·skip   -- g5.F
          refine dn ?_
          refine dn ?_
          refine dn ?_
          refine dn ?_
          refine dn ?_
          refine dn ?_
          refine DW.mN rfl rfl rfl rfl (gle rfl) rfl rfl rfl (gle rfl) ?_
          refine dn ?_
          refine dy rfl pf ?_
          refine dq rfl pf ?_
          refine DW.stores ?_
          refine SV.zend ?_
          refine SV.tn ?_
          refine SV.cond rfl (fun hc15 => ?_) (fun hc15 => ?_)
          ·skip   -- c15.T
           cases hc15
          ·skip   -- c15.F
           have hnx : SorterD.next s g = ⟨s.fInput, s.fPos, s.fHeap, s.fDeferred, s.fOutput ++ [y], s.fRuns, s.fLeftPos, s.fRightPos + 1, s.fPhase, wrap64 (s.fWritten + y.cost)⟩ := hnr
           refine SV.seq' ?_
           refine SV.draw [.q 0, .q 1, .q 2, .q 3, .q 4, .m 5, .m 6, .q 7] [8] (by kernel_rfl) (by kernel_rfl) ?_
           refine dq rfl (fb fld_impl_Sorter_4) ?_
           refine dq rfl (lb 2 4 [.hd 3] agg_s_impl_Row sz_s_impl_Row (fun _ => rfl)) ?_
           refine dq rfl (mv (V.one (.hd 6))) ?_
           refine dq rfl (ok_index (n := 3) (lf := .hd 6) rfl elt_impl_Row.und sz_impl_Row rfl rfl rfl (map_at hyb)) ?_
           refine DW.el (ag := true) (m := 3) (ys := [.sc _, .sc _, .sc _]) rfl rfl rfl (cells_ep rfl (map_at hyb) rfl rfl) agg_impl_Row sz_impl_Row (fun h => by cases h) (gle rfl) rfl rfl rfl (gle rfl) (fun _ _ _ _ h => h) ?_
           refine DW.m [7] rfl (ok_lit1 (kk := 7) elt_impl_Row (ag := true) (xs := [.sc _, .sc _, .sc _]) rfl rfl rfl rfl (fun h => by cases h) (outs_c rfl (outs_c rfl (outs_c rfl outs_n))) (by simp [two]) rfl (gle rfl)) rfl (gle rfl) (gle rfl) (.inl rfl) (fun j hj => by
             simp only [List.mem_cons, List.not_mem_nil, or_false] at hj
             rcases hj with rfl
             ·exact .inr ⟨(gle rfl), (gle rfl), .inl rfl⟩) ?_
           refine DW.m [7] rfl (ok_append (kk := 8) elt_impl_Row (ls := .hd 3) (lx := .hd 7) rfl rfl rfl rfl rfl rfl (by intro i h1 h2; first | (cases h1; done) | (cases h1; cases h2)) (by first | omega | (simp only [List.length_map]; omega) | (simp; done) | (simp; omega)) rfl (gle rfl)) rfl (gle rfl) (gle rfl) (.inr ⟨3, rfl, .inr ⟨(gle rfl), rfl⟩⟩) (fun j hj => by
             simp only [List.mem_cons, List.not_mem_nil, or_false] at hj
             rcases hj with rfl
             ·exact .inl (by decide)) ?_
           refine dq rfl (fb fld_impl_Sorter_4) ?_
           refine DW.stores ?_
           refine SV.z rfl (st (ag := false) [.hd 8] [.hd 0, .sc _, .hd 1, .hd 2, .hd 8, .hd 4, .sc _, .sc _, .sc _, .sc _] sz_s_impl_Row (fun _ => rfl)) rfl ?_
           refine SV.zend ?_
           refine SV.tn (SV.seq' ?_)
           refine SV.draw [.q 0, .q 1, .q 2, .q 3, .q 4, .m 5, .q 6, .q 7] [8] (by kernel_rfl) (by kernel_rfl) ?_
           refine dq rfl (fb fld_impl_Sorter_9) ?_
           refine dq rfl (lb 2 9 [.sc _] agg_int sz_int (fun _ => rfl)) ?_
           refine dq rfl (mv (V.one (.hd 6))) ?_
           refine dq rfl (ok_index (n := 3) (lf := .hd 6) rfl elt_impl_Row.und sz_impl_Row rfl rfl rfl (map_at hyb)) ?_
           refine DW.el (ag := true) (m := 3) (ys := [.sc _, .sc _, .sc _]) rfl rfl rfl (cells_ep rfl (map_at hyb) rfl rfl) agg_impl_Row sz_impl_Row (fun h => by cases h) (gle rfl) rfl rfl rfl (gle rfl) (fun _ _ _ _ h => h) ?_
           refine DW.m [] rfl (cl [(false, [.sc _])] rfl Try.func80 (vcost_t y hwy) ⟨⟨[.sc _, .sc _, .sc _], rfl, ⟨rfl, rfl, rfl, trivial⟩⟩, trivial⟩) rfl (gle rfl) (gle rfl) (.inl rfl) (fun j hj => by cases hj) ?_
           refine dq rfl (ok_s2 (v := .int .i64 (wrap64 (s.fWritten + y.cost))) (x := .tmp 200) (x' := .tmp 204) (VScal.one rfl) (VScal.one rfl) (fun ρ h1 h2 w => by go_simp; rw [IntWalk.i64_left]) rfl) ?_
           refine dq rfl (fb fld_impl_Sorter_9) ?_
           refine DW.stores ?_
           refine SV.z rfl (st (ag := false) [.sc _] [.hd 0, .sc _, .hd 1, .hd 2, .hd 8, .hd 4, .sc _, .sc _, .sc _, .sc _] sz_int (fun _ => rfl)) rfl ?_
           refine SV.zend ?_
           refine SV.tn (SV.region ?_)
           refine sl 3 (fb fld_impl_Sorter_7) ?_
           refine sl 3 (lb 0 7 [.sc _] agg_int sz_int (fun _ => rfl)) ?_
           refine sl 3 (ok_s2 (v := .int .i64 (s.fRightPos + 1)) (x := .tmp 208) (x' := .const ((Value.int IntKind.i64 1))) (VScal.one rfl) (VScal.one rfl) (fun ρ h1 h2 w => by go_simp; rw [IntWalk.i64_left, IntWalk.wrap64_in _ ⟨by omega, by omega⟩] <;> first | rfl | omega | (congr 1; omega)) rfl) ?_
           refine sl 3 (fb fld_impl_Sorter_7) ?_
           refine so (st (ag := false) [.sc _] [.hd 0, .sc _, .hd 1, .hd 2, .hd 8, .hd 4, .sc _, .sc _, .sc _, .sc _] sz_int (fun _ => rfl)) ?_
           refine SV.nil (SV.tn (SV.seq' (SV.region ?_)))
           refine sl 3 (lb 2 0 [.hd 0, .sc _, .hd 1, .hd 2, .hd 8, .hd 4, .sc _, .sc _, .sc _, .sc _] agg_impl_Sorter sz_impl_Sorter (fun h => by cases h)) ?_
           refine sm (ok_lit0 (kk := 9) elt_impl_Row rfl rfl rfl (gle rfl)) ?_
           refine so (st (ag := true) [.hd 0, .sc _, .hd 1, .hd 2, .hd 8, .hd 4, .sc _, .sc _, .sc _, .sc _] [.hd 0, .sc _, .hd 1, .hd 2, .hd 8, .hd 4, .sc _, .sc _, .sc _, .sc _] sz_impl_Sorter (fun h => by cases h)) ?_
           refine sl 3 (mv (V.one (.hd 9))) ?_
           refine sl 3 ms ?_
           refine SV.nil (SV.tn (SV.ret (SV.br (SV.tr ?_))))
           apply SV.done (hf := Try.results29) (ht := rfl) (he := .inl rfl)
           case hr => exact (ResAll.cons (ResOk.cell (b := 1) (ag := true) (xs := [.hd 0, .sc _, .hd 1, .hd 2, .hd 8, .hd 4, .sc _, .sc _, .sc _, .sc _]) rfl rfl agg_impl_Sorter sz_impl_Sorter (fun h => by cases h)) (ResAll.cons (ResOk.tmp (ag := false) (xs := [.hd 9]) rfl) (ResAll.cons (ResOk.tmp (ag := false) (xs := [.sc _]) rfl) ResAll.nil')))
           case h2 => simp [two]
           refine ⟨rfl, ⟨?_, ?_, ?_, ?_, ?_, ?_, ?_, ?_, ?_, ?_, trivial⟩, ⟨rfl, ⟨?_, trivial⟩, ⟨rfl, ⟨?_, trivial⟩, trivial⟩⟩⟩ <;> first | rfl | (rw [hnx]; first | done | rfl | ((refine lsq ?_; first | done | rfl | (rw [List.map_append]; rfl) | (simp [tRun]; done) | (simp [tRow]; done) | (simp [List.map_drop, tRun]; done) | (rw [hh]; done) | (rw [hdd0]; done) | (rw [ho2]; done) | (simp; done))) | ((refine liq ?_; first | done | rfl | (rw [hn]; done) | (simp; done)))) | ((refine lsq ?_; rw [hgv]; first | done | rfl | (simp [tRow]; done))) | ((refine lbq ?_; rw [hcan]))
      ·skip
       have hwx := hwA x hA2
       have hxa : (SorterD.rowAt s.fRuns 0 s.fLeftPos)[0]? = some x := by rw [hA2]; rfl
       have hnl : SorterD.next s g = SorterD.leftS s x := by rw [hst2]; unfold SorterD.stepMerge; rw [hA1, hB1]
       refine SV.region ?_
       refine sl 3 (mv (V.one (.hd 5))) ?_
       refine sl 3 (ok_len (lf := .hd 5) rfl elt_impl_Row.und rfl rfl) ?_
       refine sl 3 (mv (V.one (.hd 6))) ?_
       refine sl 3 (ok_len (lf := .hd 6) rfl elt_impl_Row.und rfl rfl) ?_
       refine sl 3 (ok_s2 (v := .int .i64 (((SorterD.rowAt s.fRuns 0 s.fLeftPos).length : Int) + ((SorterD.rowAt s.fRuns 1 s.fRightPos).length : Int))) (x := .tmp 134) (x' := .tmp 136) (VScal.one rfl) (VScal.one rfl) (fun ρ h1 h2 w => by go_simp; (try simp only [List.length_map]); have q1 := SorterD.rowAt_len s.fRuns 0 s.fLeftPos; have q2 := SorterD.rowAt_len s.fRuns 1 s.fRightPos; rw [IntWalk.i64_left, IntWalk.wrap64_in _ ⟨by omega, by omega⟩]) rfl) ?_
       refine sl 3 (s2 (.tmp 137) (.const ((Value.int IntKind.i64 0)))) ?_
       refine SV.nil (SV.tn ?_)
       refine SV.cond rfl (fun hc16 => ?_) (fun hc16 => ?_)
       ·skip   -- c16.T
        (exfalso; simp [hA2, hB2] at hc16)
       ·skip   -- c16.F
        refine SV.skip (SV.tn (SV.seq' (SV.seq' ?_)))
        refine SV.draw [.q 0, .q 1, .q 2, .q 3, .q 4, .q 5, .q 6, .q 7, .q 8, .q 9, .q 10, .q 11, .q 12, .q 13, .m 14, .q 15, .q 16, .q 17] [] (by kernel_rfl) (by kernel_rfl) ?_
        refine dq rfl (mv (V.one (.hd 6))) ?_
        refine dq rfl (ok_len (lf := .hd 6) rfl elt_impl_Row.und rfl rfl) ?_
        refine dq rfl (s2 (.tmp 154) (.const ((Value.int IntKind.i64 0)))) ?_
        refine dq rfl ms ?_
        refine DW.split (d := 156) rfl (fun hg6 => ?_) (fun hg6 => ?_)
        ·skip   -- g6.T
         refine dn ?_
         refine dn ?_
         refine dn ?_
         refine DW.qNu rfl rfl rfl rfl (gle rfl) rfl rfl rfl (gle rfl) (fun _ _ _ _ h => h) ?_
         refine DW.qNN rfl rfl rfl rfl (gle rfl) rfl rfl (gle rfl) (fun _ _ _ _ h => h) ?_
         refine DW.qNN rfl rfl rfl rfl (gle rfl) rfl rfl (gle rfl) (fun _ _ _ _ h => h) ?_
         refine DW.qNN rfl rfl rfl rfl (gle rfl) rfl rfl (gle rfl) (fun _ _ _ _ h => h) ?_
         refine DW.qNN rfl rfl rfl rfl (gle rfl) rfl rfl (gle rfl) (fun _ _ _ _ h => h) ?_
         refine DW.qNN rfl rfl rfl rfl (gle rfl) rfl rfl (gle rfl) (fun _ _ _ _ h => h) ?_
         refine DW.qNN rfl rfl rfl rfl (gle rfl) rfl rfl (gle rfl) (fun _ _ _ _ h => h) ?_
         refine DW.mNN rfl rfl rfl rfl (gle rfl) rfl rfl (gle rfl) ?_
         refine DW.qNN rfl rfl rfl rfl (gle rfl) rfl rfl (gle rfl) (fun _ _ _ _ h => h) ?_
         refine dn ?_
         refine dq rfl pt ?_
         refine DW.stores ?_
         refine SV.zend ?_
         refine SV.tn ?_
         refine SV.cond rfl (fun hc17 => ?_) (fun hc17 => ?_)
         ·skip   -- c17.T
          have hnx : SorterD.next s g = ⟨s.fInput, s.fPos, s.fHeap, s.fDeferred, s.fOutput ++ [x], s.fRuns, s.fLeftPos + 1, s.fRightPos, s.fPhase, wrap64 (s.fWritten + x.cost)⟩ := hnl
          refine SV.seq' ?_
          refine SV.draw [.q 0, .q 1, .q 2, .q 3, .q 4, .m 5, .m 6, .q 7] [8] (by kernel_rfl) (by kernel_rfl) ?_
          refine dq rfl (fb fld_impl_Sorter_4) ?_
          refine dq rfl (lb 2 4 [.hd 3] agg_s_impl_Row sz_s_impl_Row (fun _ => rfl)) ?_
          refine dq rfl (mv (V.one (.hd 5))) ?_
          refine dq rfl (ok_index (n := 3) (lf := .hd 5) rfl elt_impl_Row.und sz_impl_Row rfl rfl rfl (map_at hxa)) ?_
          refine DW.el (ag := true) (m := 3) (ys := [.sc _, .sc _, .sc _]) rfl rfl rfl (cells_ep rfl (map_at hxa) rfl rfl) agg_impl_Row sz_impl_Row (fun h => by cases h) (gle rfl) rfl rfl rfl (gle rfl) (fun _ _ _ _ h => h) ?_
          refine DW.m [7] rfl (ok_lit1 (kk := 7) elt_impl_Row (ag := true) (xs := [.sc _, .sc _, .sc _]) rfl rfl rfl rfl (fun h => by cases h) (outs_c rfl (outs_c rfl (outs_c rfl outs_n))) (by simp [two]) rfl (gle rfl)) rfl (gle rfl) (gle rfl) (.inl rfl) (fun j hj => by
            simp only [List.mem_cons, List.not_mem_nil, or_false] at hj
            rcases hj with rfl
            ·exact .inr ⟨(gle rfl), (gle rfl), .inl rfl⟩) ?_
          refine DW.m [7] rfl (ok_append (kk := 8) elt_impl_Row (ls := .hd 3) (lx := .hd 7) rfl rfl rfl rfl rfl rfl (by intro i h1 h2; first | (cases h1; done) | (cases h1; cases h2)) (by first | omega | (simp only [List.length_map]; omega) | (simp; done) | (simp; omega)) rfl (gle rfl)) rfl (gle rfl) (gle rfl) (.inr ⟨3, rfl, .inr ⟨(gle rfl), rfl⟩⟩) (fun j hj => by
            simp only [List.mem_cons, List.not_mem_nil, or_false] at hj
            rcases hj with rfl
            ·exact .inl (by decide)) ?_
          refine dq rfl (fb fld_impl_Sorter_4) ?_
          refine DW.stores ?_
          refine SV.z rfl (st (ag := false) [.hd 8] [.hd 0, .sc _, .hd 1, .hd 2, .hd 8, .hd 4, .sc _, .sc _, .sc _, .sc _] sz_s_impl_Row (fun _ => rfl)) rfl ?_
          refine SV.zend ?_
          refine SV.tn (SV.seq' ?_)
          refine SV.draw [.q 0, .q 1, .q 2, .q 3, .q 4, .m 5, .q 6, .q 7] [8] (by kernel_rfl) (by kernel_rfl) ?_
          refine dq rfl (fb fld_impl_Sorter_9) ?_
          refine dq rfl (lb 2 9 [.sc _] agg_int sz_int (fun _ => rfl)) ?_
          refine dq rfl (mv (V.one (.hd 5))) ?_
          refine dq rfl (ok_index (n := 3) (lf := .hd 5) rfl elt_impl_Row.und sz_impl_Row rfl rfl rfl (map_at hxa)) ?_
          refine DW.el (ag := true) (m := 3) (ys := [.sc _, .sc _, .sc _]) rfl rfl rfl (cells_ep rfl (map_at hxa) rfl rfl) agg_impl_Row sz_impl_Row (fun h => by cases h) (gle rfl) rfl rfl rfl (gle rfl) (fun _ _ _ _ h => h) ?_
          refine DW.m [] rfl (cl [(false, [.sc _])] rfl Try.func80 (vcost_t x hwx) ⟨⟨[.sc _, .sc _, .sc _], rfl, ⟨rfl, rfl, rfl, trivial⟩⟩, trivial⟩) rfl (gle rfl) (gle rfl) (.inl rfl) (fun j hj => by cases hj) ?_
          refine dq rfl (ok_s2 (v := .int .i64 (wrap64 (s.fWritten + x.cost))) (x := .tmp 180) (x' := .tmp 184) (VScal.one rfl) (VScal.one rfl) (fun ρ h1 h2 w => by go_simp; rw [IntWalk.i64_left]) rfl) ?_
          refine dq rfl (fb fld_impl_Sorter_9) ?_
          refine DW.stores ?_
          refine SV.z rfl (st (ag := false) [.sc _] [.hd 0, .sc _, .hd 1, .hd 2, .hd 8, .hd 4, .sc _, .sc _, .sc _, .sc _] sz_int (fun _ => rfl)) rfl ?_
          refine SV.zend ?_
          refine SV.tn (SV.region ?_)
          refine sl 3 (fb fld_impl_Sorter_6) ?_
          refine sl 3 (lb 0 6 [.sc _] agg_int sz_int (fun _ => rfl)) ?_
          refine sl 3 (ok_s2 (v := .int .i64 (s.fLeftPos + 1)) (x := .tmp 188) (x' := .const ((Value.int IntKind.i64 1))) (VScal.one rfl) (VScal.one rfl) (fun ρ h1 h2 w => by go_simp; rw [IntWalk.i64_left, IntWalk.wrap64_in _ ⟨by omega, by omega⟩] <;> first | rfl | omega | (congr 1; omega)) rfl) ?_
          refine sl 3 (fb fld_impl_Sorter_6) ?_
          refine so (st (ag := false) [.sc _] [.hd 0, .sc _, .hd 1, .hd 2, .hd 8, .hd 4, .sc _, .sc _, .sc _, .sc _] sz_int (fun _ => rfl)) ?_
          refine SV.nil (SV.tn (SV.seq' (SV.region ?_)))
          refine sl 3 (lb 2 0 [.hd 0, .sc _, .hd 1, .hd 2, .hd 8, .hd 4, .sc _, .sc _, .sc _, .sc _] agg_impl_Sorter sz_impl_Sorter (fun h => by cases h)) ?_
          refine sm (ok_lit0 (kk := 9) elt_impl_Row rfl rfl rfl (gle rfl)) ?_
          refine so (st (ag := true) [.hd 0, .sc _, .hd 1, .hd 2, .hd 8, .hd 4, .sc _, .sc _, .sc _, .sc _] [.hd 0, .sc _, .hd 1, .hd 2, .hd 8, .hd 4, .sc _, .sc _, .sc _, .sc _] sz_impl_Sorter (fun h => by cases h)) ?_
          refine sl 3 (mv (V.one (.hd 9))) ?_
          refine sl 3 ms ?_
          refine SV.nil (SV.tn (SV.ret (SV.br (SV.tr ?_))))
          apply SV.done (hf := Try.results29) (ht := rfl) (he := .inl rfl)
          case hr => exact (ResAll.cons (ResOk.cell (b := 1) (ag := true) (xs := [.hd 0, .sc _, .hd 1, .hd 2, .hd 8, .hd 4, .sc _, .sc _, .sc _, .sc _]) rfl rfl agg_impl_Sorter sz_impl_Sorter (fun h => by cases h)) (ResAll.cons (ResOk.tmp (ag := false) (xs := [.hd 9]) rfl) (ResAll.cons (ResOk.tmp (ag := false) (xs := [.sc _]) rfl) ResAll.nil')))
          case h2 => simp [two]
          refine ⟨rfl, ⟨?_, ?_, ?_, ?_, ?_, ?_, ?_, ?_, ?_, ?_, trivial⟩, ⟨rfl, ⟨?_, trivial⟩, ⟨rfl, ⟨?_, trivial⟩, trivial⟩⟩⟩ <;> first | rfl | (rw [hnx]; first | done | rfl | ((refine lsq ?_; first | done | rfl | (rw [List.map_append]; rfl) | (simp [tRun]; done) | (simp [tRow]; done) | (simp [List.map_drop, tRun]; done) | (rw [hh]; done) | (rw [hdd0]; done) | (rw [ho2]; done) | (simp; done))) | ((refine liq ?_; first | done | rfl | (rw [hn]; done) | (simp; done)))) | ((refine lsq ?_; rw [hgv]; first | done | rfl | (simp [tRow]; done))) | ((refine lbq ?_; rw [hcan]))
         ·skip   -- c17.F
          cases hc17
        ·skip   -- g6.F
         (exfalso; simp [hA2, hB2] at hg6)
      ·skip
       have hwx := hwA x hA2
       have hxa : (SorterD.rowAt s.fRuns 0 s.fLeftPos)[0]? = some x := by rw [hA2]; rfl
       have hwy := hwB y hB2
       have hyb : (SorterD.rowAt s.fRuns 1 s.fRightPos)[0]? = some y := by rw [hB2]; rfl
       have hn4 : SorterD.next s g = if R.cmp x y ≤ 0 then SorterD.leftS s x else SorterD.rightS s y := by rw [hst2]; unfold SorterD.stepMerge; rw [hA1, hB1]
       refine SV.region ?_
       refine sl 3 (mv (V.one (.hd 5))) ?_
       refine sl 3 (ok_len (lf := .hd 5) rfl elt_impl_Row.und rfl rfl) ?_
       refine sl 3 (mv (V.one (.hd 6))) ?_
       refine sl 3 (ok_len (lf := .hd 6) rfl elt_impl_Row.und rfl rfl) ?_
       refine sl 3 (ok_s2 (v := .int .i64 (((SorterD.rowAt s.fRuns 0 s.fLeftPos).length : Int) + ((SorterD.rowAt s.fRuns 1 s.fRightPos).length : Int))) (x := .tmp 134) (x' := .tmp 136) (VScal.one rfl) (VScal.one rfl) (fun ρ h1 h2 w => by go_simp; (try simp only [List.length_map]); have q1 := SorterD.rowAt_len s.fRuns 0 s.fLeftPos; have q2 := SorterD.rowAt_len s.fRuns 1 s.fRightPos; rw [IntWalk.i64_left, IntWalk.wrap64_in _ ⟨by omega, by omega⟩]) rfl) ?_
       refine sl 3 (s2 (.tmp 137) (.const ((Value.int IntKind.i64 0)))) ?_
       refine SV.nil (SV.tn ?_)
       refine SV.cond rfl (fun hc18 => ?_) (fun hc18 => ?_)
       ·skip   -- c18.T
        (exfalso; simp [hA2, hB2] at hc18)
       ·skip   -- c18.F
        refine SV.skip (SV.tn (SV.seq' (SV.seq' ?_)))
        refine SV.draw [.q 0, .q 1, .q 2, .q 3, .q 4, .q 5, .q 6, .q 7, .q 8, .q 9, .q 10, .q 11, .q 12, .q 13, .m 14, .q 15, .q 16, .q 17] [] (by kernel_rfl) (by kernel_rfl) ?_
        refine dq rfl (mv (V.one (.hd 6))) ?_
        refine dq rfl (ok_len (lf := .hd 6) rfl elt_impl_Row.und rfl rfl) ?_
        refine dq rfl (s2 (.tmp 154) (.const ((Value.int IntKind.i64 0)))) ?_
        refine dq rfl ms ?_
        refine DW.split (d := 156) rfl (fun hg7 => ?_) (fun hg7 => ?_)
        ·skip   -- g7.T
         (exfalso; simp [hA2, hB2] at hg7)
        ·skip   -- g7.F
         refine dy rfl (mv (V.one (.hd 5))) ?_
         refine dy rfl (ok_len (lf := .hd 5) rfl elt_impl_Row.und rfl rfl) ?_
         refine dy rfl (s2 (.tmp 158) (.const ((Value.int IntKind.i64 0)))) ?_
         refine dy rfl ms ?_
         refine DW.split (d := 160) rfl (fun hg8 => ?_) (fun hg8 => ?_)
         ·skip   -- g8.T
          refine dy rfl (mv (V.one (.hd 5))) ?_
          refine dy rfl (ok_index (n := 3) (lf := .hd 5) rfl elt_impl_Row.und sz_impl_Row rfl rfl rfl (map_at hxa)) ?_
          refine DW.el' (ag := true) (m := 3) (ys := [.sc _, .sc _, .sc _]) rfl rfl rfl (cells_ep rfl (map_at hxa) rfl rfl) agg_impl_Row sz_impl_Row (fun h => by cases h) (gle rfl) rfl (fun hr => wantedY hr rfl rfl rfl (gle rfl) rfl rfl) rfl (gle rfl) (fun _ _ _ _ h => h) ?_
          refine dy rfl (mv (V.one (.hd 6))) ?_
          refine dy rfl (ok_index (n := 3) (lf := .hd 6) rfl elt_impl_Row.und sz_impl_Row rfl rfl rfl (map_at hyb)) ?_
          refine DW.el' (ag := true) (m := 3) (ys := [.sc _, .sc _, .sc _]) rfl rfl rfl (cells_ep rfl (map_at hyb) rfl rfl) agg_impl_Row sz_impl_Row (fun h => by cases h) (gle rfl) rfl (fun hr => wantedY hr rfl rfl rfl (gle rfl) rfl rfl) rfl (gle rfl) (fun _ _ _ _ h => h) ?_
          refine DW.m' [] rfl (cl [(false, [.sc _])] rfl Try.func73 (vcmp_t x y) ⟨⟨[.sc _, .sc _, .sc _], rfl, ⟨rfl, rfl, rfl, trivial⟩⟩, ⟨[.sc _, .sc _, .sc _], rfl, ⟨rfl, rfl, rfl, trivial⟩⟩, trivial⟩) (fun hr => wantedY hr rfl rfl rfl (gle rfl) rfl rfl) (gle rfl) (gle rfl) (.inl rfl) (fun j hj => by cases hj) ?_
          refine dy rfl (s2 (.tmp 167) (.const ((Value.int IntKind.i64 0)))) ?_
          refine dy rfl pt ?_
          refine dq rfl pf ?_
          refine DW.stores ?_
          refine SV.zend ?_
          refine SV.tn ?_
          refine SV.cond rfl (fun hc19 => ?_) (fun hc19 => ?_)
          ·skip   -- c19.T
           have hle : R.cmp x y ≤ 0 := by simpa using hc19
           have hnx : SorterD.next s g = ⟨s.fInput, s.fPos, s.fHeap, s.fDeferred, s.fOutput ++ [x], s.fRuns, s.fLeftPos + 1, s.fRightPos, s.fPhase, wrap64 (s.fWritten + x.cost)⟩ := hn4.trans (if_pos hle)
           refine SV.seq' ?_
           refine SV.draw [.q 0, .q 1, .q 2, .q 3, .q 4, .m 5, .m 6, .q 7] [8] (by kernel_rfl) (by kernel_rfl) ?_
           refine dq rfl (fb fld_impl_Sorter_4) ?_
           refine dq rfl (lb 2 4 [.hd 3] agg_s_impl_Row sz_s_impl_Row (fun _ => rfl)) ?_
           refine dq rfl (mv (V.one (.hd 5))) ?_
           refine dq rfl (ok_index (n := 3) (lf := .hd 5) rfl elt_impl_Row.und sz_impl_Row rfl rfl rfl (map_at hxa)) ?_
           refine DW.el (ag := true) (m := 3) (ys := [.sc _, .sc _, .sc _]) rfl rfl rfl (cells_ep rfl (map_at hxa) rfl rfl) agg_impl_Row sz_impl_Row (fun h => by cases h) (gle rfl) rfl rfl rfl (gle rfl) (fun _ _ _ _ h => h) ?_
           refine DW.m [7] rfl (ok_lit1 (kk := 7) elt_impl_Row (ag := true) (xs := [.sc _, .sc _, .sc _]) rfl rfl rfl rfl (fun h => by cases h) (outs_c rfl (outs_c rfl (outs_c rfl outs_n))) (by simp [two]) rfl (gle rfl)) rfl (gle rfl) (gle rfl) (.inl rfl) (fun j hj => by
             simp only [List.mem_cons, List.not_mem_nil, or_false] at hj
             rcases hj with rfl
             ·exact .inr ⟨(gle rfl), (gle rfl), .inl rfl⟩) ?_
           refine DW.m [7] rfl (ok_append (kk := 8) elt_impl_Row (ls := .hd 3) (lx := .hd 7) rfl rfl rfl rfl rfl rfl (by intro i h1 h2; first | (cases h1; done) | (cases h1; cases h2)) (by first | omega | (simp only [List.length_map]; omega) | (simp; done) | (simp; omega)) rfl (gle rfl)) rfl (gle rfl) (gle rfl) (.inr ⟨3, rfl, .inr ⟨(gle rfl), rfl⟩⟩) (fun j hj => by
             simp only [List.mem_cons, List.not_mem_nil, or_false] at hj
             rcases hj with rfl
             ·exact .inl (by decide)) ?_
           refine dq rfl (fb fld_impl_Sorter_4) ?_
           refine DW.stores ?_
           refine SV.z rfl (st (ag := false) [.hd 8] [.hd 0, .sc _, .hd 1, .hd 2, .hd 8, .hd 4, .sc _, .sc _, .sc _, .sc _] sz_s_impl_Row (fun _ => rfl)) rfl ?_
           refine SV.zend ?_
           refine SV.tn (SV.seq' ?_)
           refine SV.draw [.q 0, .q 1, .q 2, .q 3, .q 4, .m 5, .q 6, .q 7] [8] (by kernel_rfl) (by kernel_rfl) ?_
           refine dq rfl (fb fld_impl_Sorter_9) ?_
           refine dq rfl (lb 2 9 [.sc _] agg_int sz_int (fun _ => rfl)) ?_
           refine dq rfl (mv (V.one (.hd 5))) ?_
           refine dq rfl (ok_index (n := 3) (lf := .hd 5) rfl elt_impl_Row.und sz_impl_Row rfl rfl rfl (map_at hxa)) ?_
           refine DW.el (ag := true) (m := 3) (ys := [.sc _, .sc _, .sc _]) rfl rfl rfl (cells_ep rfl (map_at hxa) rfl rfl) agg_impl_Row sz_impl_Row (fun h => by cases h) (gle rfl) rfl rfl rfl (gle rfl) (fun _ _ _ _ h => h) ?_
           refine DW.m [] rfl (cl [(false, [.sc _])] rfl Try.func80 (vcost_t x hwx) ⟨⟨[.sc _, .sc _, .sc _], rfl, ⟨rfl, rfl, rfl, trivial⟩⟩, trivial⟩) rfl (gle rfl) (gle rfl) (.inl rfl) (fun j hj => by cases hj) ?_
           refine dq rfl (ok_s2 (v := .int .i64 (wrap64 (s.fWritten + x.cost))) (x := .tmp 180) (x' := .tmp 184) (VScal.one rfl) (VScal.one rfl) (fun ρ h1 h2 w => by go_simp; rw [IntWalk.i64_left]) rfl) ?_
           refine dq rfl (fb fld_impl_Sorter_9) ?_
           refine DW.stores ?_
           refine SV.z rfl (st (ag := false) [.sc _] [.hd 0, .sc _, .hd 1, .hd 2, .hd 8, .hd 4, .sc _, .sc _, .sc _, .sc _] sz_int (fun _ => rfl)) rfl ?_
           refine SV.zend ?_
           refine SV.tn (SV.region ?_)
           refine sl 3 (fb fld_impl_Sorter_6) ?_
           refine sl 3 (lb 0 6 [.sc _] agg_int sz_int (fun _ => rfl)) ?_
           refine sl 3 (ok_s2 (v := .int .i64 (s.fLeftPos + 1)) (x := .tmp 188) (x' := .const ((Value.int IntKind.i64 1))) (VScal.one rfl) (VScal.one rfl) (fun ρ h1 h2 w => by go_simp; rw [IntWalk.i64_left, IntWalk.wrap64_in _ ⟨by omega, by omega⟩] <;> first | rfl | omega | (congr 1; omega)) rfl) ?_
           refine sl 3 (fb fld_impl_Sorter_6) ?_
           refine so (st (ag := false) [.sc _] [.hd 0, .sc _, .hd 1, .hd 2, .hd 8, .hd 4, .sc _, .sc _, .sc _, .sc _] sz_int (fun _ => rfl)) ?_
           refine SV.nil (SV.tn (SV.seq' (SV.region ?_)))
           refine sl 3 (lb 2 0 [.hd 0, .sc _, .hd 1, .hd 2, .hd 8, .hd 4, .sc _, .sc _, .sc _, .sc _] agg_impl_Sorter sz_impl_Sorter (fun h => by cases h)) ?_
           refine sm (ok_lit0 (kk := 9) elt_impl_Row rfl rfl rfl (gle rfl)) ?_
           refine so (st (ag := true) [.hd 0, .sc _, .hd 1, .hd 2, .hd 8, .hd 4, .sc _, .sc _, .sc _, .sc _] [.hd 0, .sc _, .hd 1, .hd 2, .hd 8, .hd 4, .sc _, .sc _, .sc _, .sc _] sz_impl_Sorter (fun h => by cases h)) ?_
           refine sl 3 (mv (V.one (.hd 9))) ?_
           refine sl 3 ms ?_
           refine SV.nil (SV.tn (SV.ret (SV.br (SV.tr ?_))))
           apply SV.done (hf := Try.results29) (ht := rfl) (he := .inl rfl)
           case hr => exact (ResAll.cons (ResOk.cell (b := 1) (ag := true) (xs := [.hd 0, .sc _, .hd 1, .hd 2, .hd 8, .hd 4, .sc _, .sc _, .sc _, .sc _]) rfl rfl agg_impl_Sorter sz_impl_Sorter (fun h => by cases h)) (ResAll.cons (ResOk.tmp (ag := false) (xs := [.hd 9]) rfl) (ResAll.cons (ResOk.tmp (ag := false) (xs := [.sc _]) rfl) ResAll.nil')))
           case h2 => simp [two]
           refine ⟨rfl, ⟨?_, ?_, ?_, ?_, ?_, ?_, ?_, ?_, ?_, ?_, trivial⟩, ⟨rfl, ⟨?_, trivial⟩, ⟨rfl, ⟨?_, trivial⟩, trivial⟩⟩⟩ <;> first | rfl | (rw [hnx]; first | done | rfl | ((refine lsq ?_; first | done | rfl | (rw [List.map_append]; rfl) | (simp [tRun]; done) | (simp [tRow]; done) | (simp [List.map_drop, tRun]; done) | (rw [hh]; done) | (rw [hdd0]; done) | (rw [ho2]; done) | (simp; done))) | ((refine liq ?_; first | done | rfl | (rw [hn]; done) | (simp; done)))) | ((refine lsq ?_; rw [hgv]; first | done | rfl | (simp [tRow]; done))) | ((refine lbq ?_; rw [hcan]))
          ·skip   -- c19.F
           have hle : ¬ R.cmp x y ≤ 0 := by simpa using hc19
           have hnx : SorterD.next s g = ⟨s.fInput, s.fPos, s.fHeap, s.fDeferred, s.fOutput ++ [y], s.fRuns, s.fLeftPos, s.fRightPos + 1, s.fPhase, wrap64 (s.fWritten + y.cost)⟩ := hn4.trans (if_neg hle)
           refine SV.seq' ?_
           refine SV.draw [.q 0, .q 1, .q 2, .q 3, .q 4, .m 5, .m 6, .q 7] [8] (by kernel_rfl) (by kernel_rfl) ?_
           refine dq rfl (fb fld_impl_Sorter_4) ?_
           refine dq rfl (lb 2 4 [.hd 3] agg_s_impl_Row sz_s_impl_Row (fun _ => rfl)) ?_
           refine dq rfl (mv (V.one (.hd 6))) ?_
           refine dq rfl (ok_index (n := 3) (lf := .hd 6) rfl elt_impl_Row.und sz_impl_Row rfl rfl rfl (map_at hyb)) ?_
           refine DW.el (ag := true) (m := 3) (ys := [.sc _, .sc _, .sc _]) rfl rfl rfl (cells_ep rfl (map_at hyb) rfl rfl) agg_impl_Row sz_impl_Row (fun h => by cases h) (gle rfl) rfl rfl rfl (gle rfl) (fun _ _ _ _ h => h) ?_
           refine DW.m [7] rfl (ok_lit1 (kk := 7) elt_impl_Row (ag := true) (xs := [.sc _, .sc _, .sc _]) rfl rfl rfl rfl (fun h => by cases h) (outs_c rfl (outs_c rfl (outs_c rfl outs_n))) (by simp [two]) rfl (gle rfl)) rfl (gle rfl) (gle rfl) (.inl rfl) (fun j hj => by
             simp only [List.mem_cons, List.not_mem_nil, or_false] at hj
             rcases hj with rfl
             ·exact .inr ⟨(gle rfl), (gle rfl), .inl rfl⟩) ?_
           refine DW.m [7] rfl (ok_append (kk := 8) elt_impl_Row (ls := .hd 3) (lx := .hd 7) rfl rfl rfl rfl rfl rfl (by intro i h1 h2; first | (cases h1; done) | (cases h1; cases h2)) (by first | omega | (simp only [List.length_map]; omega) | (simp; done) | (simp; omega)) rfl (gle rfl)) rfl (gle rfl) (gle rfl) (.inr ⟨3, rfl, .inr ⟨(gle rfl), rfl⟩⟩) (fun j hj => by
             simp only [List.mem_cons, List.not_mem_nil, or_false] at hj
             rcases hj with rfl
             ·exact .inl (by decide)) ?_
           refine dq rfl (fb fld_impl_Sorter_4) ?_
           refine DW.stores ?_
           refine SV.z rfl (st (ag := false) [.hd 8] [.hd 0, .sc _, .hd 1, .hd 2, .hd 8, .hd 4, .sc _, .sc _, .sc _, .sc _] sz_s_impl_Row (fun _ => rfl)) rfl ?_
           refine SV.zend ?_
           refine SV.tn (SV.seq' ?_)
           refine SV.draw [.q 0, .q 1, .q 2, .q 3, .q 4, .m 5, .q 6, .q 7] [8] (by kernel_rfl) (by kernel_rfl) ?_
           refine dq rfl (fb fld_impl_Sorter_9) ?_
           refine dq rfl (lb 2 9 [.sc _] agg_int sz_int (fun _ => rfl)) ?_
           refine dq rfl (mv (V.one (.hd 6))) ?_
           refine dq rfl (ok_index (n := 3) (lf := .hd 6) rfl elt_impl_Row.und sz_impl_Row rfl rfl rfl (map_at hyb)) ?_
           refine DW.el (ag := true) (m := 3) (ys := [.sc _, .sc _, .sc _]) rfl rfl rfl (cells_ep rfl (map_at hyb) rfl rfl) agg_impl_Row sz_impl_Row (fun h => by cases h) (gle rfl) rfl rfl rfl (gle rfl) (fun _ _ _ _ h => h) ?_
           refine DW.m [] rfl (cl [(false, [.sc _])] rfl Try.func80 (vcost_t y hwy) ⟨⟨[.sc _, .sc _, .sc _], rfl, ⟨rfl, rfl, rfl, trivial⟩⟩, trivial⟩) rfl (gle rfl) (gle rfl) (.inl rfl) (fun j hj => by cases hj) ?_
           refine dq rfl (ok_s2 (v := .int .i64 (wrap64 (s.fWritten + y.cost))) (x := .tmp 200) (x' := .tmp 204) (VScal.one rfl) (VScal.one rfl) (fun ρ h1 h2 w => by go_simp; rw [IntWalk.i64_left]) rfl) ?_
           refine dq rfl (fb fld_impl_Sorter_9) ?_
           refine DW.stores ?_
           refine SV.z rfl (st (ag := false) [.sc _] [.hd 0, .sc _, .hd 1, .hd 2, .hd 8, .hd 4, .sc _, .sc _, .sc _, .sc _] sz_int (fun _ => rfl)) rfl ?_
           refine SV.zend ?_
           refine SV.tn (SV.region ?_)
           refine sl 3 (fb fld_impl_Sorter_7) ?_
           refine sl 3 (lb 0 7 [.sc _] agg_int sz_int (fun _ => rfl)) ?_
           refine sl 3 (ok_s2 (v := .int .i64 (s.fRightPos + 1)) (x := .tmp 208) (x' := .const ((Value.int IntKind.i64 1))) (VScal.one rfl) (VScal.one rfl) (fun ρ h1 h2 w => by go_simp; rw [IntWalk.i64_left, IntWalk.wrap64_in _ ⟨by omega, by omega⟩] <;> first | rfl | omega | (congr 1; omega)) rfl) ?_
           refine sl 3 (fb fld_impl_Sorter_7) ?_
           refine so (st (ag := false) [.sc _] [.hd 0, .sc _, .hd 1, .hd 2, .hd 8, .hd 4, .sc _, .sc _, .sc _, .sc _] sz_int (fun _ => rfl)) ?_
           refine SV.nil (SV.tn (SV.seq' (SV.region ?_)))
           refine sl 3 (lb 2 0 [.hd 0, .sc _, .hd 1, .hd 2, .hd 8, .hd 4, .sc _, .sc _, .sc _, .sc _] agg_impl_Sorter sz_impl_Sorter (fun h => by cases h)) ?_
           refine sm (ok_lit0 (kk := 9) elt_impl_Row rfl rfl rfl (gle rfl)) ?_
           refine so (st (ag := true) [.hd 0, .sc _, .hd 1, .hd 2, .hd 8, .hd 4, .sc _, .sc _, .sc _, .sc _] [.hd 0, .sc _, .hd 1, .hd 2, .hd 8, .hd 4, .sc _, .sc _, .sc _, .sc _] sz_impl_Sorter (fun h => by cases h)) ?_
           refine sl 3 (mv (V.one (.hd 9))) ?_
           refine sl 3 ms ?_
           refine SV.nil (SV.tn (SV.ret (SV.br (SV.tr ?_))))
           apply SV.done (hf := Try.results29) (ht := rfl) (he := .inl rfl)
           case hr => exact (ResAll.cons (ResOk.cell (b := 1) (ag := true) (xs := [.hd 0, .sc _, .hd 1, .hd 2, .hd 8, .hd 4, .sc _, .sc _, .sc _, .sc _]) rfl rfl agg_impl_Sorter sz_impl_Sorter (fun h => by cases h)) (ResAll.cons (ResOk.tmp (ag := false) (xs := [.hd 9]) rfl) (ResAll.cons (ResOk.tmp (ag := false) (xs := [.sc _]) rfl) ResAll.nil')))
           case h2 => simp [two]
           refine ⟨rfl, ⟨?_, ?_, ?_, ?_, ?_, ?_, ?_, ?_, ?_, ?_, trivial⟩, ⟨rfl, ⟨?_, trivial⟩, ⟨rfl, ⟨?_, trivial⟩, trivial⟩⟩⟩ <;> first | rfl | (rw [hnx]; first | done | rfl | ((refine lsq ?_; first | done | rfl | (rw [List.map_append]; rfl) | (simp [tRun]; done) | (simp [tRow]; done) | (simp [List.map_drop, tRun]; done) | (rw [hh]; done) | (rw [hdd0]; done) | (rw [ho2]; done) | (simp; done))) | ((refine liq ?_; first | done | rfl | (rw [hn]; done) | (simp; done)))) | ((refine lsq ?_; rw [hgv]; first | done | rfl | (simp [tRow]; done))) | ((refine lbq ?_; rw [hcan]))
         ·skip   -- g8.F
          (exfalso; simp [hA2, hB2] at hg8)
     ·skip   -- c12.F
      have hp2 : ¬ s.fPhase = 2 := by simpa using hc12
      have hp3 : s.fPhase = 3 := by rcases hph with h | h | h | h; exact absurd h.1 hp1; exact absurd h.1 hp2; exact h.1; exact absurd h.1 hp4
      have hME : SorterD.Rest s ∧ SorterD.Emits s := by rcases hph with h | h | h | h; exact absurd h.1 hp1; exact absurd h.1 hp2; exact h.2; exact absurd h.1 hp4
      obtain ⟨hRest, hEm⟩ := hME
      obtain ⟨r, hr0, he⟩ := SorterD.emits_one hRest hEm
      have hgv : SorterD.gives s g = [r] := by rw [hgs]; unfold SorterD.emits; rw [if_pos hp3]; exact he
      have hst3 := hst.trans (SorterD.step_tre hp1 hp2)
      have hm1 := hEm.l0
      have hm2 := hEm.l1
      obtain ⟨a, ha⟩ : ∃ a : Nat, s.fLeftPos = a := ⟨_, (Int.toNat_of_nonneg hm1).symm⟩
      obtain ⟨p, hx0⟩ : ∃ p, s.fRuns[0]? = some p := ⟨_, List.getElem?_eq_getElem (by have := hEm.one; omega)⟩
      have hr : p[a]? = some r := by
       have h1 := hr0
       rw [ha, Int.toNat_natCast] at h1
       unfold SorterD.fst at h1
       rw [List.getD_eq_getElem?_getD, hx0] at h1
       exact h1
      refine SV.skip (SV.bn (SV.tn (SV.seq' (SV.region ?_))))
      refine sl 3 (fb fld_impl_Sorter_6) ?_
      refine sl 3 (lb 0 6 [.sc _] agg_int sz_int (fun _ => rfl)) ?_
      refine sl 3 (ok_s2 (v := .int .i64 (s.fLeftPos + 1)) (x := .tmp 214) (x' := .const ((Value.int IntKind.i64 1))) (VScal.one rfl) (VScal.one rfl) (fun ρ h1 h2 w => by go_simp; rw [IntWalk.i64_left, IntWalk.wrap64_in _ ⟨by omega, by omega⟩] <;> first | rfl | omega | (congr 1; omega)) rfl) ?_
      refine sl 3 (fb fld_impl_Sorter_6) ?_
      refine so (st (ag := false) [.sc _] [.hd 0, .sc _, .hd 1, .hd 2, .hd 3, .hd 4, .sc _, .sc _, .sc _, .sc _] sz_int (fun _ => rfl)) ?_
      refine SV.nil (SV.tn (SV.seq' (SV.seq' (SV.region ?_))))
      refine sl 3 (fb fld_impl_Sorter_6) ?_
      refine sl 3 (lb 2 6 [.sc _] agg_int sz_int (fun _ => rfl)) ?_
      refine sl 3 (fb fld_impl_Sorter_0) ?_
      refine sl 3 (lb 0 0 [.ro _] agg_s_impl_Row sz_s_impl_Row (fun _ => rfl)) ?_
      refine sl 3 (ok_len (lf := .ro _) rfl elt_impl_Row.und rfl rfl) ?_
      refine sl 3 (s2 (.tmp 218) (.tmp 221)) ?_
      refine SV.nil (SV.tn ?_)
      refine SV.cond rfl (fun hc20 => ?_) (fun hc20 => ?_)
      ·skip   -- c20.T
       have hq : s.fLeftPos + 1 = s.fInput.length := by first | (simpa using hc20) | (simp at hc20; omega)
       have hnx : SorterD.next s g = ⟨s.fInput, s.fPos, s.fHeap, s.fDeferred, s.fOutput, s.fRuns, s.fLeftPos + 1, s.fRightPos, 4, s.fWritten⟩ := by rw [hst3]; unfold SorterD.emitS; rw [if_pos hq]
       refine SV.region ?_
       refine sl 3 (fb fld_impl_Sorter_8) ?_
       refine so (st (ag := false) [.sc _] [.hd 0, .sc _, .hd 1, .hd 2, .hd 3, .hd 4, .sc _, .sc _, .sc _, .sc _] sz_int (fun _ => rfl)) ?_
       refine SV.nil (SV.tn (SV.seq' ?_))
       refine SV.tell (fun (σ : VS) => (((((((((((((VS.nil.new (σ.tree 0)).new (σ.tree 1)).new (σ.tree 2)).new (σ.tree 3)).new (σ.tree 4)).box 27 [σ.bl 0 0, σ.bl 0 1, σ.bl 0 2, σ.bl 0 3, σ.bl 0 4, σ.bl 0 5, .sc (.int .i64 ((a : Int))), σ.bl 0 7, σ.bl 0 8, σ.bl 0 9]).box 27 [σ.bl 1 0, σ.bl 1 1, σ.bl 1 2, σ.bl 1 3, σ.bl 1 4, σ.bl 1 5, σ.bl 1 6, σ.bl 1 7, σ.bl 1 8, σ.bl 1 9]).box 27 [.hd 0, σ.bl 2 1, .hd 1, .hd 2, .hd 3, .hd 4, σ.bl 2 6, σ.bl 2 7, σ.bl 2 8, σ.bl 2 9]).put 2 (V.flat false [.bp 0 0])).put 4 (V.flat false [.bp 1 0])).put 5 (σ.tm 5)).put 6 (σ.tm 6)).put 7 (V.flat false [.bp 2 0]))) ?h ?k
       case k =>
        intro hjn
        refine (fun pp le => SV.weaken (fun i => [0, 1, 2, 3, 4].getD i 0) pp le hjn) (pins hE rfl rfl) (VS.le.mk' (le_put (le_put (le_put (le_put (le_put (le_box (le_box (le_box (le_new (le_new (le_new (le_new (le_new le_nil)))))))) (V.le.keep (ag := false) (xs := [.bp 0 0]) (ys := [.bp 0 0]) rfl rfl ⟨⟨rfl, (gle rfl)⟩, trivial⟩)) (V.le.keep (ag := false) (xs := [.bp 1 0]) (ys := [.bp 1 0]) rfl rfl ⟨⟨rfl, (gle rfl)⟩, trivial⟩)) (V.le.keep (ag := false) (xs := [.sc _]) (ys := [.sc _]) rfl rfl ⟨rfl, trivial⟩)) (V.le.keep (ag := false) (xs := [.sc _]) (ys := [.sc _]) rfl rfl ⟨rfl, trivial⟩)) (V.le.keep (ag := false) (xs := [.bp 2 0]) (ys := [.bp 2 0]) rfl rfl ⟨⟨rfl, (gle rfl)⟩, trivial⟩)) ⟨⟨rfl, ⟨rfl, rfl, rfl, rfl, rfl, rfl, (by first | rfl | (show Leaf.sc _ = Leaf.sc _; refine congrArg Leaf.sc ?_; first | rfl | go_num | ((exact congrArg _ ha); first | done | rfl | go_num | (simp; done) | (simp; omega)) | (simp [cntAll]; done)) | (simp [cntAll]; done) | (simp; omega)), rfl, rfl, rfl, trivial⟩⟩, ⟨⟨rfl, ⟨rfl, rfl, rfl, rfl, rfl, rfl, rfl, rfl, rfl, rfl, trivial⟩⟩, ⟨⟨rfl, ⟨⟨rfl, (gle rfl), (gle rfl)⟩, rfl, ⟨rfl, (gle rfl), (gle rfl)⟩, ⟨rfl, (gle rfl), (gle rfl)⟩, ⟨rfl, (gle rfl), (gle rfl)⟩, ⟨rfl, (gle rfl), (gle rfl)⟩, rfl, rfl, rfl, rfl, trivial⟩⟩, trivial⟩⟩⟩ ⟨.inr ⟨_, _, rfl, rfl, (gle rfl)⟩, ⟨.inr ⟨_, _, rfl, rfl, (gle rfl)⟩, ⟨.inr ⟨_, _, rfl, rfl, (gle rfl)⟩, ⟨.inr ⟨_, _, rfl, rfl, (gle rfl)⟩, ⟨.inr ⟨_, _, rfl, rfl, (gle rfl)⟩, trivial⟩⟩⟩⟩⟩ (new_ob (new_ob (new_ob (new_ob (new_ob nil_ob))))) (fun i j hi hj e => inj_list (l := [0, 1, 2, 3, 4]) (by decide) i j hi hj e))
       case h =>
       refine SV.drawCT [1] (.q 0 (.q 1 (.q 2 (.q 3 (.q 4 (.q 5 (.q 6 (.q 7 (.q 8 (.q 9 (.alt 10 (.m 11 (.q 12 (.q 13 .nil))) 11 (.m 10 (.q 12 (.q 13 .nil)))))))))))))) [] (by kernel_rfl) (by kernel_rfl) ?_
       refine DC.lb (b := 2) (i' := 0) (ag := true) (m := 10) (ys := [.hd 0, .sc _, .hd 1, .hd 2, .hd 3, .hd 4, .sc _, .sc _, .sc _, .sc _]) rfl rfl rfl rfl agg_impl_Sorter sz_impl_Sorter (fun h => by cases h) rfl rfl (gle rfl) (by decide) rfl rfl (gle rfl) (fun _ _ _ _ h => h) ?_
       refine DC.q rfl (fb fld_impl_Sorter_5) rfl rfl (gle rfl) (fun _ _ _ _ h => h) ?_
       refine DC.lb (b := 0) (i' := 5) (ag := false) (m := 1) (ys := [.ro _]) rfl rfl rfl rfl agg_s_impl_Run sz_s_impl_Run (fun _ => rfl) rfl rfl (gle rfl) (by decide) rfl rfl (gle rfl) (fun _ _ _ _ h => h) ?_
       refine DC.q rfl (ok_index (n := 1) (lf := .ro _) rfl elt_impl_Run.und sz_impl_Run rfl rfl rfl (map_at hx0)) rfl rfl (gle rfl) (fun _ _ _ _ h => h) ?_
       refine DC.q rfl (ok_field_el (p := .rp _) (off := 0) rfl rfl rfl fld_impl_Run_0) rfl rfl (gle rfl) (fun _ _ _ _ h => h) ?_
       refine DC.q rfl (ok_load_rp (ag := false) (m := 1) (ys := [.ro _]) rfl rfl agg_s_impl_Row sz_s_impl_Row (fun _ => rfl) (gle rfl) rfl) rfl rfl (gle rfl) (fun _ _ _ _ h => h) ?_
       refine DC.q rfl (fb fld_impl_Sorter_6) rfl rfl (gle rfl) (fun _ _ _ _ h => h) ?_
       refine DC.lb (b := 0) (i' := 6) (ag := false) (m := 1) (ys := [.sc _]) rfl rfl rfl rfl agg_int sz_int (fun _ => rfl) rfl rfl (gle rfl) (by decide) rfl rfl (gle rfl) (fun _ _ _ _ h => h) ?_
       refine DC.q rfl (ok_index (n := 3) (lf := .ro _) rfl elt_impl_Row.und sz_impl_Row rfl rfl rfl (map_at hr)) rfl rfl (gle rfl) (fun _ _ _ _ h => h) ?_
       refine DC.q rfl (ok_load_rp (ag := true) (m := 3) (ys := [.sc _, .sc _, .sc _]) rfl rfl agg_impl_Row sz_impl_Row (fun h => by cases h) (gle rfl) rfl) rfl rfl (gle rfl) (fun _ _ _ _ h => h) ?_
       refine DC.alt ?_ ?_
       ·skip   -- first 10
        refine DC.m rfl (ok_lit1 (kk := 5) elt_impl_Row (ag := true) (xs := [.sc _, .sc _, .sc _]) rfl rfl rfl rfl (fun h => by cases h) (outs_c rfl (outs_c rfl (outs_c rfl outs_n))) (by simp [two]) rfl (gle rfl)) rfl rfl (gle rfl) ?_
        refine DC.store (b := 1) (i' := 0) (m := 10) (ag := true) (zs1 := [.hd 0, .sc _, .hd 1, .hd 2, .hd 3, .hd 4, .sc _, .sc _, .sc _, .sc _]) (ys := [.hd 0, .sc _, .hd 1, .hd 2, .hd 3, .hd 4, .sc _, .sc _, .sc _, .sc _]) rfl rfl rfl rfl sz_impl_Sorter (fun h => by cases h) rfl (gle rfl) rfl rfl rfl rfl (by decide) (gle rfl) rfl ?_
        refine DC.q rfl (mv (V.one (.hd 5))) rfl rfl (gle rfl) (fun _ _ _ _ h => h) ?_
        refine DC.q rfl ms rfl rfl (gle rfl) (fun _ _ _ _ h => h) ?_
        refine DC.stores ?_
        refine SV.zend ?_
        refine SV.tn (SV.ret ?_)
        apply SV.done (hf := Try.results29) (ht := rfl) (he := .inl rfl)
        case hr => exact (ResAll.cons (ResOk.cell (b := 1) (ag := true) (xs := [.hd 0, .sc _, .hd 1, .hd 2, .hd 3, .hd 4, .sc _, .sc _, .sc _, .sc _]) rfl rfl agg_impl_Sorter sz_impl_Sorter (fun h => by cases h)) (ResAll.cons (ResOk.tmp (ag := false) (xs := [.hd 5]) rfl) (ResAll.cons (ResOk.tmp (ag := false) (xs := [.sc _]) rfl) ResAll.nil')))
        case h2 => simp [two]
        refine ⟨rfl, ⟨?_, ?_, ?_, ?_, ?_, ?_, ?_, ?_, ?_, ?_, trivial⟩, ⟨rfl, ⟨?_, trivial⟩, ⟨rfl, ⟨?_, trivial⟩, trivial⟩⟩⟩ <;> first | rfl | (rw [hnx]; first | done | rfl | ((refine lsq ?_; first | done | rfl | (rw [List.map_append]; rfl) | (simp [tRun]; done) | (simp [tRow]; done) | (simp [List.map_drop, tRun]; done) | (rw [hh]; done) | (rw [hdd0]; done) | (rw [ho2]; done) | (simp; done))) | ((refine liq ?_; first | done | rfl | (rw [hn]; done) | (simp; done)))) | ((refine lsq ?_; rw [hgv]; first | done | rfl | (simp [tRow]; done))) | ((refine lbq ?_; rw [hcan]))
       ·skip   -- first 11
        refine DC.store (b := 1) (i' := 0) (m := 10) (ag := true) (zs1 := [.hd 0, .sc _, .hd 1, .hd 2, .hd 3, .hd 4, .sc _, .sc _, .sc _, .sc _]) (ys := [.hd 0, .sc _, .hd 1, .hd 2, .hd 3, .hd 4, .sc _, .sc _, .sc _, .sc _]) rfl rfl rfl rfl sz_impl_Sorter (fun h => by cases h) rfl (gle rfl) rfl rfl rfl rfl (by decide) (gle rfl) rfl ?_
        refine DC.m rfl (ok_lit1 (kk := 5) elt_impl_Row (ag := true) (xs := [.sc _, .sc _, .sc _]) rfl rfl rfl rfl (fun h => by cases h) (outs_c rfl (outs_c rfl (outs_c rfl outs_n))) (by simp [two]) rfl (gle rfl)) rfl rfl (gle rfl) ?_
        refine DC.q rfl (mv (V.one (.hd 5))) rfl rfl (gle rfl) (fun _ _ _ _ h => h) ?_
        refine DC.q rfl ms rfl rfl (gle rfl) (fun _ _ _ _ h => h) ?_
        refine DC.stores ?_
        refine SV.zend ?_
        refine SV.tn (SV.ret ?_)
        apply SV.done (hf := Try.results29) (ht := rfl) (he := .inl rfl)
        case hr => exact (ResAll.cons (ResOk.cell (b := 1) (ag := true) (xs := [.hd 0, .sc _, .hd 1, .hd 2, .hd 3, .hd 4, .sc _, .sc _, .sc _, .sc _]) rfl rfl agg_impl_Sorter sz_impl_Sorter (fun h => by cases h)) (ResAll.cons (ResOk.tmp (ag := false) (xs := [.hd 5]) rfl) (ResAll.cons (ResOk.tmp (ag := false) (xs := [.sc _]) rfl) ResAll.nil')))
        case h2 => simp [two]
        refine ⟨rfl, ⟨?_, ?_, ?_, ?_, ?_, ?_, ?_, ?_, ?_, ?_, trivial⟩, ⟨rfl, ⟨?_, trivial⟩, ⟨rfl, ⟨?_, trivial⟩, trivial⟩⟩⟩ <;> first | rfl | (rw [hnx]; first | done | rfl | ((refine lsq ?_; first | done | rfl | (rw [List.map_append]; rfl) | (simp [tRun]; done) | (simp [tRow]; done) | (simp [List.map_drop, tRun]; done) | (rw [hh]; done) | (rw [hdd0]; done) | (rw [ho2]; done) | (simp; done))) | ((refine liq ?_; first | done | rfl | (rw [hn]; done) | (simp; done)))) | ((refine lsq ?_; rw [hgv]; first | done | rfl | (simp [tRow]; done))) | ((refine lbq ?_; rw [hcan]))
      ·skip   -- c20.F
       have hq : ¬ s.fLeftPos + 1 = s.fInput.length := by first | (simpa using hc20) | (simp at hc20; omega)
       have hnx : SorterD.next s g = ⟨s.fInput, s.fPos, s.fHeap, s.fDeferred, s.fOutput, s.fRuns, s.fLeftPos + 1, s.fRightPos, s.fPhase, s.fWritten⟩ := by rw [hst3]; unfold SorterD.emitS; rw [if_neg hq]
       refine SV.skip (SV.tn (SV.seq' ?_))
       refine SV.tell (fun (σ : VS) => (((((((((((((VS.nil.new (σ.tree 0)).new (σ.tree 1)).new (σ.tree 2)).new (σ.tree 3)).new (σ.tree 4)).box 27 [σ.bl 0 0, σ.bl 0 1, σ.bl 0 2, σ.bl 0 3, σ.bl 0 4, σ.bl 0 5, .sc (.int .i64 ((a : Int))), σ.bl 0 7, σ.bl 0 8, σ.bl 0 9]).box 27 [σ.bl 1 0, σ.bl 1 1, σ.bl 1 2, σ.bl 1 3, σ.bl 1 4, σ.bl 1 5, σ.bl 1 6, σ.bl 1 7, σ.bl 1 8, σ.bl 1 9]).box 27 [.hd 0, σ.bl 2 1, .hd 1, .hd 2, .hd 3, .hd 4, σ.bl 2 6, σ.bl 2 7, σ.bl 2 8, σ.bl 2 9]).put 2 (V.flat false [.bp 0 0])).put 4 (V.flat false [.bp 1 0])).put 5 (σ.tm 5)).put 6 (σ.tm 6)).put 7 (V.flat false [.bp 2 0]))) ?h ?k
       case k =>
        intro hjn
        refine (fun pp le => SV.weaken (fun i => [0, 1, 2, 3, 4].getD i 0) pp le hjn) (pins hE rfl rfl) (VS.le.mk' (le_put (le_put (le_put (le_put (le_put (le_box (le_box (le_box (le_new (le_new (le_new (le_new (le_new le_nil)))))))) (V.le.keep (ag := false) (xs := [.bp 0 0]) (ys := [.bp 0 0]) rfl rfl ⟨⟨rfl, (gle rfl)⟩, trivial⟩)) (V.le.keep (ag := false) (xs := [.bp 1 0]) (ys := [.bp 1 0]) rfl rfl ⟨⟨rfl, (gle rfl)⟩, trivial⟩)) (V.le.keep (ag := false) (xs := [.sc _]) (ys := [.sc _]) rfl rfl ⟨rfl, trivial⟩)) (V.le.keep (ag := false) (xs := [.sc _]) (ys := [.sc _]) rfl rfl ⟨rfl, trivial⟩)) (V.le.keep (ag := false) (xs := [.bp 2 0]) (ys := [.bp 2 0]) rfl rfl ⟨⟨rfl, (gle rfl)⟩, trivial⟩)) ⟨⟨rfl, ⟨rfl, rfl, rfl, rfl, rfl, rfl, (by first | rfl | (show Leaf.sc _ = Leaf.sc _; refine congrArg Leaf.sc ?_; first | rfl | go_num | ((exact congrArg _ ha); first | done | rfl | go_num | (simp; done) | (simp; omega)) | (simp [cntAll]; done)) | (simp [cntAll]; done) | (simp; omega)), rfl, rfl, rfl, trivial⟩⟩, ⟨⟨rfl, ⟨rfl, rfl, rfl, rfl, rfl, rfl, rfl, rfl, rfl, rfl, trivial⟩⟩, ⟨⟨rfl, ⟨⟨rfl, (gle rfl), (gle rfl)⟩, rfl, ⟨rfl, (gle rfl), (gle rfl)⟩, ⟨rfl, (gle rfl), (gle rfl)⟩, ⟨rfl, (gle rfl), (gle rfl)⟩, ⟨rfl, (gle rfl), (gle rfl)⟩, rfl, rfl, rfl, rfl, trivial⟩⟩, trivial⟩⟩⟩ ⟨.inr ⟨_, _, rfl, rfl, (gle rfl)⟩, ⟨.inr ⟨_, _, rfl, rfl, (gle rfl)⟩, ⟨.inr ⟨_, _, rfl, rfl, (gle rfl)⟩, ⟨.inr ⟨_, _, rfl, rfl, (gle rfl)⟩, ⟨.inr ⟨_, _, rfl, rfl, (gle rfl)⟩, trivial⟩⟩⟩⟩⟩ (new_ob (new_ob (new_ob (new_ob (new_ob nil_ob))))) (fun i j hi hj e => inj_list (l := [0, 1, 2, 3, 4]) (by decide) i j hi hj e))
       case h =>
       refine SV.drawCT [1] (.q 0 (.q 1 (.q 2 (.q 3 (.q 4 (.q 5 (.q 6 (.q 7 (.q 8 (.q 9 (.alt 10 (.m 11 (.q 12 (.q 13 .nil))) 11 (.m 10 (.q 12 (.q 13 .nil)))))))))))))) [] (by kernel_rfl) (by kernel_rfl) ?_
       refine DC.lb (b := 2) (i' := 0) (ag := true) (m := 10) (ys := [.hd 0, .sc _, .hd 1, .hd 2, .hd 3, .hd 4, .sc _, .sc _, .sc _, .sc _]) rfl rfl rfl rfl agg_impl_Sorter sz_impl_Sorter (fun h => by cases h) rfl rfl (gle rfl) (by decide) rfl rfl (gle rfl) (fun _ _ _ _ h => h) ?_
       refine DC.q rfl (fb fld_impl_Sorter_5) rfl rfl (gle rfl) (fun _ _ _ _ h => h) ?_
       refine DC.lb (b := 0) (i' := 5) (ag := false) (m := 1) (ys := [.ro _]) rfl rfl rfl rfl agg_s_impl_Run sz_s_impl_Run (fun _ => rfl) rfl rfl (gle rfl) (by decide) rfl rfl (gle rfl) (fun _ _ _ _ h => h) ?_
       refine DC.q rfl (ok_index (n := 1) (lf := .ro _) rfl elt_impl_Run.und sz_impl_Run rfl rfl rfl (map_at hx0)) rfl rfl (gle rfl) (fun _ _ _ _ h => h) ?_
       refine DC.q rfl (ok_field_el (p := .rp _) (off := 0) rfl rfl rfl fld_impl_Run_0) rfl rfl (gle rfl) (fun _ _ _ _ h => h) ?_
       refine DC.q rfl (ok_load_rp (ag := false) (m := 1) (ys := [.ro _]) rfl rfl agg_s_impl_Row sz_s_impl_Row (fun _ => rfl) (gle rfl) rfl) rfl rfl (gle rfl) (fun _ _ _ _ h => h) ?_
       refine DC.q rfl (fb fld_impl_Sorter_6) rfl rfl (gle rfl) (fun _ _ _ _ h => h) ?_
       refine DC.lb (b := 0) (i' := 6) (ag := false) (m := 1) (ys := [.sc _]) rfl rfl rfl rfl agg_int sz_int (fun _ => rfl) rfl rfl (gle rfl) (by decide) rfl rfl (gle rfl) (fun _ _ _ _ h => h) ?_
       refine DC.q rfl (ok_index (n := 3) (lf := .ro _) rfl elt_impl_Row.und sz_impl_Row rfl rfl rfl (map_at hr)) rfl rfl (gle rfl) (fun _ _ _ _ h => h) ?_
       refine DC.q rfl (ok_load_rp (ag := true) (m := 3) (ys := [.sc _, .sc _, .sc _]) rfl rfl agg_impl_Row sz_impl_Row (fun h => by cases h) (gle rfl) rfl) rfl rfl (gle rfl) (fun _ _ _ _ h => h) ?_
       refine DC.alt ?_ ?_
       ·skip   -- first 10
        refine DC.m rfl (ok_lit1 (kk := 5) elt_impl_Row (ag := true) (xs := [.sc _, .sc _, .sc _]) rfl rfl rfl rfl (fun h => by cases h) (outs_c rfl (outs_c rfl (outs_c rfl outs_n))) (by simp [two]) rfl (gle rfl)) rfl rfl (gle rfl) ?_
        refine DC.store (b := 1) (i' := 0) (m := 10) (ag := true) (zs1 := [.hd 0, .sc _, .hd 1, .hd 2, .hd 3, .hd 4, .sc _, .sc _, .sc _, .sc _]) (ys := [.hd 0, .sc _, .hd 1, .hd 2, .hd 3, .hd 4, .sc _, .sc _, .sc _, .sc _]) rfl rfl rfl rfl sz_impl_Sorter (fun h => by cases h) rfl (gle rfl) rfl rfl rfl rfl (by decide) (gle rfl) rfl ?_
        refine DC.q rfl (mv (V.one (.hd 5))) rfl rfl (gle rfl) (fun _ _ _ _ h => h) ?_
        refine DC.q rfl ms rfl rfl (gle rfl) (fun _ _ _ _ h => h) ?_
        refine DC.stores ?_
        refine SV.zend ?_
        refine SV.tn (SV.ret ?_)
        apply SV.done (hf := Try.results29) (ht := rfl) (he := .inl rfl)
        case hr => exact (ResAll.cons (ResOk.cell (b := 1) (ag := true) (xs := [.hd 0, .sc _, .hd 1, .hd 2, .hd 3, .hd 4, .sc _, .sc _, .sc _, .sc _]) rfl rfl agg_impl_Sorter sz_impl_Sorter (fun h => by cases h)) (ResAll.cons (ResOk.tmp (ag := false) (xs := [.hd 5]) rfl) (ResAll.cons (ResOk.tmp (ag := false) (xs := [.sc _]) rfl) ResAll.nil')))
        case h2 => simp [two]
        refine ⟨rfl, ⟨?_, ?_, ?_, ?_, ?_, ?_, ?_, ?_, ?_, ?_, trivial⟩, ⟨rfl, ⟨?_, trivial⟩, ⟨rfl, ⟨?_, trivial⟩, trivial⟩⟩⟩ <;> first | rfl | (rw [hnx]; first | done | rfl | ((refine lsq ?_; first | done | rfl | (rw [List.map_append]; rfl) | (simp [tRun]; done) | (simp [tRow]; done) | (simp [List.map_drop, tRun]; done) | (rw [hh]; done) | (rw [hdd0]; done) | (rw [ho2]; done) | (simp; done))) | ((refine liq ?_; first | done | rfl | (rw [hn]; done) | (simp; done)))) | ((refine lsq ?_; rw [hgv]; first | done | rfl | (simp [tRow]; done))) | ((refine lbq ?_; rw [hcan]))
       ·skip   -- first 11
        refine DC.store (b := 1) (i' := 0) (m := 10) (ag := true) (zs1 := [.hd 0, .sc _, .hd 1, .hd 2, .hd 3, .hd 4, .sc _, .sc _, .sc _, .sc _]) (ys := [.hd 0, .sc _, .hd 1, .hd 2, .hd 3, .hd 4, .sc _, .sc _, .sc _, .sc _]) rfl rfl rfl rfl sz_impl_Sorter (fun h => by cases h) rfl (gle rfl) rfl rfl rfl rfl (by decide) (gle rfl) rfl ?_
        refine DC.m rfl (ok_lit1 (kk := 5) elt_impl_Row (ag := true) (xs := [.sc _, .sc _, .sc _]) rfl rfl rfl rfl (fun h => by cases h) (outs_c rfl (outs_c rfl (outs_c rfl outs_n))) (by simp [two]) rfl (gle rfl)) rfl rfl (gle rfl) ?_
        refine DC.q rfl (mv (V.one (.hd 5))) rfl rfl (gle rfl) (fun _ _ _ _ h => h) ?_
        refine DC.q rfl ms rfl rfl (gle rfl) (fun _ _ _ _ h => h) ?_
        refine DC.stores ?_
        refine SV.zend ?_
        refine SV.tn (SV.ret ?_)
        apply SV.done (hf := Try.results29) (ht := rfl) (he := .inl rfl)
        case hr => exact (ResAll.cons (ResOk.cell (b := 1) (ag := true) (xs := [.hd 0, .sc _, .hd 1, .hd 2, .hd 3, .hd 4, .sc _, .sc _, .sc _, .sc _]) rfl rfl agg_impl_Sorter sz_impl_Sorter (fun h => by cases h)) (ResAll.cons (ResOk.tmp (ag := false) (xs := [.hd 5]) rfl) (ResAll.cons (ResOk.tmp (ag := false) (xs := [.sc _]) rfl) ResAll.nil')))
        case h2 => simp [two]
        refine ⟨rfl, ⟨?_, ?_, ?_, ?_, ?_, ?_, ?_, ?_, ?_, ?_, trivial⟩, ⟨rfl, ⟨?_, trivial⟩, ⟨rfl, ⟨?_, trivial⟩, trivial⟩⟩⟩ <;> first | rfl | (rw [hnx]; first | done | rfl | ((refine lsq ?_; first | done | rfl | (rw [List.map_append]; rfl) | (simp [tRun]; done) | (simp [tRow]; done) | (simp [List.map_drop, tRun]; done) | (rw [hh]; done) | (rw [hdd0]; done) | (rw [ho2]; done) | (simp; done))) | ((refine liq ?_; first | done | rfl | (rw [hn]; done) | (simp; done)))) | ((refine lsq ?_; rw [hgv]; first | done | rfl | (simp [tRow]; done))) | ((refine lbq ?_; rw [hcan]))
end Go.Proofs.Ytpnbnbhifpcelaa
/- Runs: their weights; the answer's size: told by trees. -/
namespace Go.Proofs.Ytpnbnbhifpcelaa
open Go Go.RowKit V
set_option linter.unusedVariables false
theorem runs_wt (X : List (List R)) : wtRuns X = X.length + X.flatten.length := by
 unfold wtRuns wtAll
 congr 1
 induction X with
 | nil => rfl
 | cons p X ih =>
  rw [List.map_cons, List.sum_cons, List.flatten_cons, List.length_append, ih]
  rfl
end Go.Proofs.Ytpnbnbhifpcelaa
/- Sorters: weights, and what the laws know of them: told by trees. -/
namespace Go.Proofs.Ytpnbnbhifpcelaa
open Go Go.RowKit V
set_option linter.unusedVariables false
theorem SorterD.Wf.of {X : SorterD} (h : okSorter X) (hw : wtSorter X ≤ 1048576) : X.Wf := by
 obtain ⟨⟨h1, -⟩, h2, ⟨h3, -⟩, ⟨h4, -⟩, ⟨h5, -⟩, ⟨h6, -⟩, h7, h8, h9, h10⟩ := h
 unfold I64 at h2 h7 h8 h10
 refine ⟨h1, h3, h4, h5, fun p hp => (h6 p hp).1, ?_, by unfold i64; omega, by unfold i64; omega, by unfold i64; omega, by unfold i64; omega⟩
 have e := runs_wt X.fRuns
 have e2 : wtSorter X = X.fInput.length + X.fHeap.length + X.fDeferred.length + X.fOutput.length + wtRuns X.fRuns := rfl
 omega
theorem wt_snoc (X : List (List R)) (p : List R) : wtRuns (X ++ [p]) = wtRuns X + 1 + p.length := by
 rw [runs_wt, runs_wt, SorterD.flat_snoc, List.length_append, List.length_append, List.length_singleton]
 omega
theorem wt_drop (X : List (List R)) (n : Nat) : wtRuns (X.drop n) ≤ wtRuns X := by
 rw [runs_wt, runs_wt]
 have h := congrArg (fun Y => (List.flatten Y).length) (List.take_append_drop n X)
 simp only [List.flatten_append, List.length_append] at h
 rw [List.length_drop]
 omega
theorem wt_sorter (s : SorterD) : wtSorter s = s.fInput.length + s.fHeap.length + s.fDeferred.length + s.fOutput.length + wtRuns s.fRuns := rfl
theorem SorterD.wt_flow (s : SorterD) : wtSorter (SorterD.flowS s) ≤ wtSorter s + 1 := by
 unfold SorterD.flowS
 split
 ·rename_i r hr
  have hlt := Runs.getlt hr
  show s.fInput.length + (s.fHeap.eraseIdx _).length + s.fDeferred.length + (s.fOutput ++ [r]).length + wtRuns s.fRuns ≤ _
  rw [wt_sorter, List.length_eraseIdx_of_lt hlt, List.length_append, List.length_singleton]
  omega
 ·split
  ·show s.fInput.length + s.fHeap.length + s.fDeferred.length + 0 + wtRuns (if s.fOutput.length = 0 then s.fRuns else s.fRuns ++ [s.fOutput]) ≤ _
   rw [wt_sorter]
   split
   ·omega
   ·rw [wt_snoc]; omega
  ·show s.fInput.length + s.fDeferred.length + 0 + 0 + wtRuns (s.fRuns ++ [s.fOutput]) ≤ _
   rw [wt_sorter, wt_snoc]
   omega
theorem SorterD.wt_next (s : SorterD) (g : Int) : wtSorter (SorterD.next s g) ≤ wtSorter s + 1 := by
 unfold SorterD.next
 split
 ·unfold SorterD.step
  split
  ·unfold SorterD.stepRead
   split
   ·rename_i r _
    split
    ·unfold SorterD.readS
     split
     ·show s.fInput.length + s.fHeap.length + (s.fDeferred ++ [r]).length + s.fOutput.length + wtRuns s.fRuns ≤ _
      rw [wt_sorter, List.length_append, List.length_singleton]; omega
     ·show s.fInput.length + (s.fHeap ++ [r]).length + s.fDeferred.length + s.fOutput.length + wtRuns s.fRuns ≤ _
      rw [wt_sorter, List.length_append, List.length_singleton]; omega
    ·exact SorterD.wt_flow s
   ·exact SorterD.wt_flow s
  ·have key : ∀ z : R, s.fInput.length + s.fHeap.length + s.fDeferred.length + (s.fOutput ++ [z]).length + wtRuns s.fRuns ≤ wtSorter s + 1 := fun z => by
    rw [wt_sorter, List.length_append, List.length_singleton]; omega
   split
   ·unfold SorterD.stepMerge
    split
    ·show s.fInput.length + s.fHeap.length + s.fDeferred.length + 0 + wtRuns (s.fRuns.drop 2 ++ [s.fOutput]) ≤ _
     have := wt_drop s.fRuns 2
     rw [wt_sorter, wt_snoc]
     omega
    ·exact key _
    ·exact key _
    ·split <;> exact key _
   ·show wtSorter s ≤ _
    omega
 ·omega
theorem SorterD.gives_len (s : SorterD) (g : Int) : (SorterD.gives s g).length ≤ 1 := by
 unfold SorterD.gives
 split
 ·unfold SorterD.emits
  split
  ·exact SorterD.rowAt_len ..
  ·exact Nat.zero_le 1
 ·exact Nat.zero_le 1
end Go.Proofs.Ytpnbnbhifpcelaa
/- The program's isUpTo, by contract. -/
namespace Go.Proofs.Ytpnbnbhifpcelaa
open Go.RowKit
theorem iup (n b : Int) (w : World) : Calls Try.prog 75 #[.int .i64 n, .int .i64 b] w fun e w' => e = .returned (.bool (decide (0 ≤ n ∧ n ≤ b))) ∧ w = w' := by
 go_enter Try.func75, Try.ntmps75
 go_wp2
 all_goals go_ret
 all_goals simp_all
 all_goals omega
end Go.Proofs.Ytpnbnbhifpcelaa
/- The program's IsValidRow and RowCost, by contract. -/
namespace Go.Proofs.Ytpnbnbhifpcelaa
open Go.RowKit
theorem ivalid (r : R) (w : World) : Calls Try.prog 111 #[r.val] w fun e w' => e = .returned (.bool r.ok) ∧ Below w.heap.size w w' := by
 obtain ⟨k, v, d⟩ := r
 unfold R.val
 go_enter Try.func111, Try.ntmps111
 go_wp2_with fail
 refine (iup _ _ _).mono ?_
 rintro e w1 ⟨rfl, rfl⟩
 go_wp2_with fail
 case isTrue =>
  refine (iup _ _ _).mono ?_
  rintro e w1 ⟨rfl, rfl⟩
  go_wp2_with fail
  case isTrue =>
   refine (iup _ _ _).mono ?_
   rintro e w1 ⟨rfl, rfl⟩
   go_wp2_with fail
   all_goals go_ret
   all_goals refine ⟨?_, (Below.refl _ _).alloc (Nat.le_refl _) _⟩
   all_goals simp_all [R.ok]
  all_goals go_ret
  all_goals refine ⟨?_, (Below.refl _ _).alloc (Nat.le_refl _) _⟩
  all_goals simp_all [R.ok]
  all_goals omega
 all_goals go_ret
 all_goals refine ⟨?_, (Below.refl _ _).alloc (Nat.le_refl _) _⟩
 all_goals simp_all [R.ok]
 all_goals omega
theorem icost (r : R) (hr : r.wf) (w : World) : Calls Try.prog 112 #[r.val] w fun e w' => e = .returned (.int .i64 r.cost) ∧ Below w.heap.size w w' := by
 have hw := hr.2.2
 have H := Lib.hid (ivalid r)
 cases hok : r.ok with
 | true =>
  have hc : r.cost = 1 + r.width := by unfold R.cost; rw [hok]; rfl
  have hk := R.ok_iff.1 hok
  rw [hc]
  unfold R.val
  go_enter Try.func112, Try.ntmps112
  go_wp2_with fail
  refine (H.out _).mono ?_
  rintro e w1 ⟨rfl, b1⟩
  obtain ⟨⟨c0, c1, c2⟩, b2⟩ := box_row (r := r) b1
  rw [hok]
  simp only [Nat.zero_add] at c2
  go_wp2_with fail
  go_ret
  exact ⟨rfl, b2⟩
 | false =>
  have hc : r.cost = 0 := by unfold R.cost; rw [hok]; rfl
  rw [hc]
  unfold R.val
  go_enter Try.func112, Try.ntmps112
  go_wp2_with fail
  refine (H.out _).mono ?_
  rintro e w1 ⟨rfl, b1⟩
  obtain ⟨⟨c0, c1, c2⟩, b2⟩ := box_row (r := r) b1
  rw [hok]
  go_wp2_with fail
  go_ret
  exact ⟨rfl, b2⟩
end Go.Proofs.Ytpnbnbhifpcelaa
/- The program's AreValidRows and TotalCost, by contract. -/
namespace Go.Proofs.Ytpnbnbhifpcelaa
open Go.RowKit
set_option maxRecDepth 100000 in
theorem iare (a : Option Addr) (len cap : Nat) (L : List R) (w : World) (h : IsRows w a len L) (hlen : len ≤ 9223372036854775807) :
  Calls Try.prog 64 #[.slice a len cap] w fun e w' => e = .returned (.bool (okRows L)) ∧ Below w.heap.size w w' := by
 obtain ⟨hl, hwf, hc⟩ := h
 have HL := Lib.hid hl
 have HC := Lib.hid hc
 clear hl hwf hc
 by_cases h24 : (24 : Int) < len
 ·have hno : okRows L = false := by unfold okRows; rw [HL.out, decide_eq_false (by omega), Bool.false_and]
  have HN := Lib.hid hno
  clear hno
  go_enter Try.func64, Try.ntmps64
  go_wp2_with fail
  go_ret
  exact ⟨by rw [HN.out]; rfl, Below.refl _ _⟩
 go_enter Try.func64, Try.ntmps64
 go_wp2_with fail
 go_loopw [10] (fun i wr => ∃ k : Nat, i = .int .i64 k ∧ k ≤ len ∧ Hid (allOk (L.take k) = true) ∧ Hid (Below w.heap.size w wr)) (fun i _ => len - (intOf i).toNat)
 case atStart => exact ⟨0, rfl, Nat.zero_le _, rfl, Below.refl _ _⟩
 case round =>
  obtain ⟨k, rfl, hk, hok, hb⟩ := hrel
  by_cases hlt : k < len
  ·obtain ⟨b, o, rfl, hbl, hc⟩ : ∃ b o : Nat, a = some ⟨b, o, none⟩ ∧ b < w.heap.size ∧ ∀ t, t < len → RowAt w b (o + t * 3) (L.getD t R.zero) := by
    rcases HC.out with h0 | h0
    ·omega
    ·exact h0
   obtain ⟨r, hr⟩ : ∃ r, r = L.getD k R.zero := ⟨_, rfl⟩
   have hat : RowAt wr b (o + k * 3) r := by rw [hr]; exact (hc k hlt).below hb.out hbl
   obtain ⟨c0, c1, c2⟩ := hat
   have HR := Lib.hid hr
   clear hr hc
   go_wp2_with fail
   refine (ivalid r _).mono ?_
   rintro e w1 ⟨rfl, b1⟩
   have B1 := Lib.hid (hb.out.trans ((box_row (r := r) b1).2.mono hb.out.size))
   clear b1
   cases hv : r.ok with
   | true =>
    go_wp2_with fail
    go_roundw
    case rel => exact ⟨k + 1, by go_num, by omega, by show _ = _; rw [allOk_take L k (by rw [HL.out]; exact hlt), hok.out, ← HR.out, hv]; rfl, B1⟩
    case measure => simp [intOf]; omega
   | false =>
    have hno : okRows L = false := by unfold okRows; rw [allOk_bad L k (by rw [HL.out]; exact hlt) (by rw [← HR.out]; exact hv), Bool.and_false]
    go_wp2_with fail
    go_ret
    exact ⟨by rw [hno]; rfl, B1.out⟩
  ·have hkl : k = len := by omega
   have hall : okRows L = true := by
    have : allOk L = true := by have := hok.out; rwa [hkl, ← HL.out, List.take_length] at this
    unfold okRows; rw [this, Bool.and_true, HL.out, decide_eq_true_eq]; omega
   clear hkl
   have HA := Lib.hid hall
   clear hall
   go_wp2_with fail
   go_ret
   exact ⟨by rw [HA.out]; rfl, hb.out⟩
set_option maxRecDepth 100000 in
theorem itotal (a : Option Addr) (len cap : Nat) (L : List R) (w : World) (h : IsRows w a len L) (hlen : len ≤ 1000000000000) :
  Calls Try.prog 69 #[.slice a len cap] w fun e w' => e = .returned (.int .i64 (total L)) ∧ Below w.heap.size w w' := by
 have HW := Lib.hid h.wf
 obtain ⟨hl, -, hc⟩ := h
 have HL := Lib.hid hl
 have HC := Lib.hid hc
 clear hl hc
 go_enter Try.func69, Try.ntmps69
 go_wp2_with fail
 go_loopw [3, 8] (fun n i wr => ∃ (k : Nat) (v : Int), n = .int .i64 v ∧ i = .int .i64 k ∧ k ≤ len ∧ 0 ≤ v ∧ v ≤ 4 * k ∧ Hid (total (L.take k) = v) ∧ Hid (Below w.heap.size w wr)) (fun _ i _ => len - (intOf i).toNat)
 case atStart => exact ⟨0, 0, rfl, rfl, Nat.zero_le _, by omega, by omega, rfl, Below.refl _ _⟩
 case round =>
  obtain ⟨k, v, rfl, rfl, hk, hv0, hv1, hsum, hb⟩ := hrel
  by_cases hlt : k < len
  ·obtain ⟨b, o, rfl, hbl, hc⟩ : ∃ b o : Nat, a = some ⟨b, o, none⟩ ∧ b < w.heap.size ∧ ∀ t, t < len → RowAt w b (o + t * 3) (L.getD t R.zero) := by
    rcases HC.out with h0 | h0
    ·omega
    ·exact h0
   obtain ⟨r, hr⟩ : ∃ r, r = L.getD k R.zero := ⟨_, rfl⟩
   have hat : RowAt wr b (o + k * 3) r := by rw [hr]; exact (hc k hlt).below hb.out hbl
   have hrw : r.wf := by rw [hr]; exact HW.out k hlt
   obtain ⟨c0, c1, c2⟩ := hat
   have HR := Lib.hid hr
   have HRW := Lib.hid hrw
   clear hr hc hrw
   go_wp2_with fail
   refine (icost r HRW.out _).mono ?_
   rintro e w1 ⟨rfl, b1⟩
   have B1 := Lib.hid (hb.out.trans ((box_row (r := r) b1).2.mono hb.out.size))
   clear b1
   obtain ⟨x, hx⟩ : ∃ x, x = r.cost := ⟨_, rfl⟩
   have hx0 : 0 ≤ x ∧ x ≤ 4 := by rw [hx]; exact r.cost_range
   obtain ⟨hx0, hx4⟩ := hx0
   have HX := Lib.hid hx
   rw [← hx]
   clear hx
   go_wp2_with fail
   go_roundw
   case rel => exact ⟨k + 1, v + x, by go_num, by go_num, by omega, by omega, by omega, by show _ = _; rw [total_take L k (by rw [HL.out]; exact hlt), hsum.out, ← HR.out, HX.out], B1⟩
   case measure => simp [intOf]; omega
  ·have hkl : k = len := by omega
   have hall : total L = v := by have := hsum.out; rwa [hkl, ← HL.out, List.take_length] at this
   clear hkl
   have HA := Lib.hid hall
   clear hall
   go_wp2_with fail
   go_ret
   exact ⟨by rw [HA.out]; rfl, hb.out⟩
end Go.Proofs.Ytpnbnbhifpcelaa
/- CompareRows: told by trees. -/
namespace Go.Proofs.Ytpnbnbhifpcelaa
open Go Go.RowKit V
set_option linter.unusedVariables false
theorem vcmp_i (a b : R) : VC Try.prog 109 [(true, tRow a), (true, tRow b)] false [(false, [.lit (.int .i64 (R.cmp a b))])] :=
 VC.plain (ins := [(true, [.int .i64 a.key, .int .i64 a.value, .int .i64 a.width]), (true, [.int .i64 b.key, .int .i64 b.value, .int .i64 b.width])]) (ag := false) (rs := [.int .i64 (R.cmp a b)]) (fun u hu => by rw [List.mem_singleton.1 hu]; rfl) fun w => icmp a b w
end Go.Proofs.Ytpnbnbhifpcelaa
/- Functions of rows, the program's: told by trees: told by trees. -/
namespace Go.Proofs.Ytpnbnbhifpcelaa
open Go Go.RowKit V
set_option linter.unusedVariables false
theorem vares_i (L : List R) (hL : ∀ r ∈ L, r.wf) (hl : L.length ≤ 1000000000) : VC Try.prog 64 [(false, [.seq 72 (L.map tRow)])] false [(false, [.lit (.bool (okRows L))])] := VC.rowsP (ag := false) (rs := [.bool (okRows L)]) rfl hL fun w a c h => iare a _ c L w h (by omega)
theorem vtotal_i (L : List R) (hL : ∀ r ∈ L, r.wf) (hl : L.length ≤ 1000000000) : VC Try.prog 69 [(false, [.seq 72 (L.map tRow)])] false [(false, [.lit (.int .i64 (total L))])] := VC.rowsP (ag := false) (rs := [.int .i64 (total L)]) rfl hL fun w a c h => itotal a _ c L w h (by omega)
theorem vasc_i (L : List R) (hL : ∀ r ∈ L, r.wf) (hl : L.length ≤ 1000000000) : VC Try.prog 55 [(false, [.seq 72 (L.map tRow)])] false [(false, [.lit (.bool (R.asc L))])] := VC.rowsP (ag := false) (rs := [.bool (R.asc L)]) rfl hL fun w a c h => iasc a _ c L w h (by omega)
theorem vcost_i (a : R) (ha : a.wf) : VC Try.prog 112 [(true, tRow a)] false [(false, [.lit (.int .i64 a.cost)])] :=
 VC.plain (ins := [(true, [.int .i64 a.key, .int .i64 a.value, .int .i64 a.width])]) (ag := false) (rs := [.int .i64 a.cost]) (oneM rfl) fun w => icost a ha w
set_option maxRecDepth 100000 in
set_option maxHeartbeats 2000000 in
theorem vismem_i (m : Int) : VC Try.prog 84 [(false, [.lit (.int .i64 (m))])] false [(false, [.lit (.bool (Runs.isMem m))])] := by
 refine VC.enter Try.func84 rfl Try.ntmps84 (gle rfl) fun E hE => ?_
 refine SV.seq' (SV.region ?_)
 refine sl 0 ms ?_
 refine SV.nil (SV.tn (SV.seq' (SV.region ?_)))
 refine sl 0 ms ?_
 refine sl 0 (s2 (.tmp 3) (.const ((Value.int IntKind.i64 8)))) ?_
 refine sl 0 ms ?_
 refine SV.split (d := 5) rfl (fun hg0 => ?_) (fun hg0 => ?_)
 ·skip   -- g0.T
  refine sy 0 ms ?_
  refine sy 0 (s2 (.tmp 6) (.const ((Value.int IntKind.i64 60)))) ?_
  refine sl 0 pt ?_
  refine sl 0 ms ?_
  refine SV.nil (SV.tn (SV.ret ?_))
  refine d1 (.sc _) Try.results84 ?_ <;> (refine lbq ?_; (unfold Runs.isMem; simp at hg0; simp; omega))
 ·skip   -- g0.F
  refine sn ?_
  refine sn ?_
  refine sl 0 pf ?_
  refine sl 0 ms ?_
  refine SV.nil (SV.tn (SV.ret ?_))
  refine d1 (.sc _) Try.results84 ?_ <;> (refine lbq ?_; (unfold Runs.isMem; simp at hg0; simp; omega))
end Go.Proofs.Ytpnbnbhifpcelaa
/- slices.Clone at rows: told by trees. -/
namespace Go.Proofs.Ytpnbnbhifpcelaa
open Go Go.RowKit V
set_option linter.unusedVariables false
set_option maxRecDepth 100000 in
set_option maxHeartbeats 2000000 in
theorem vclonerows (p : List R) (hp : p.length ≤ 1000000000) : VC Try.prog 65 [(false, [.seq 72 (p.map tRow)])] false [(false, [.seq 72 (p.map tRow)])] := by
 refine VC.enter Try.func65 rfl Try.ntmps65 (gle rfl) fun E hE => ?_
 refine SV.seq' (SV.region ?_)
 refine sl 0 ms ?_
 refine SV.nil (SV.tn (SV.seq' (SV.seq' (SV.region ?_))))
 refine sl 0 (mv (V.one (.ro _))) ?_
 refine SV.isnil (d := 4) (x := .tmp 3) (y := .const ((Value.slice none 0 0))) rfl rfl rfl (gle rfl) rfl (fun ρ ad n c w h1 h2 => by (cases ad <;> (go_simp; first | done | rfl | (simp [h1, h2]; done)))) (fun hg0 => ?_) ?_
 ·skip   -- g0.T
  refine SV.nil (SV.tn ?_)
  refine SV.cond rfl (fun hc0 => ?_) (fun hc0 => ?_)
  ·skip   -- c0.T
   refine SV.seq' (SV.region ?_)
   refine sl 0 ms ?_
   refine SV.nil (SV.tn (SV.ret (SV.tr ?_)))
   refine SV.nlsc (s := 2) (kk := 0) (n := 3) rfl rfl (by decide) sz_impl_Row (gle rfl) ?_
   refine d1 (.hd 0) Try.results65 ?_ <;> (show some (T.seq _ _) = some (T.seq _ _); first | rfl | (rw [hg0]; done) | (simp; done))
  ·skip   -- c0.F
   cases hc0
 ·skip   -- g0.F
  refine SV.nil (SV.tn ?_)
  refine SV.cond rfl (fun hc1 => ?_) (fun hc1 => ?_)
  ·skip   -- c1.T
   cases hc1
  ·skip   -- c1.F
   refine SV.skip (SV.tn (SV.seq' (SV.region ?_)))
   refine sm (ok_lit0 (kk := 0) elt_impl_Row rfl rfl rfl (gle rfl)) ?_
   refine sl 0 (mv (V.one (.ro _))) ?_
   refine sm (ok_append_ro (kk := 1) elt_impl_Row (ls := .hd 0) (lx := .ro _) rfl rfl rfl rfl rfl rfl (flat_impl_Row _) (by simp; omega) rfl (gle rfl)) ?_
   refine sl 0 (mv (V.one (.hd 1))) ?_
   refine SV.nil (SV.tn (SV.ret ?_))
   refine d1 (.hd 1) Try.results65 ?_ <;> (show some (T.seq _ _) = some (T.seq _ _); first | rfl | (rw [hg0]; done) | (simp; done))
end Go.Proofs.Ytpnbnbhifpcelaa
/- slices.Clone at runs; headers of nested slices as values: told by trees. -/
namespace Go.Proofs.Ytpnbnbhifpcelaa
open Go Go.RowKit V
set_option linter.unusedVariables false
namespace V
variable {E : Env} {N : Nat} {σ : VS} {K : Act → World → Prop}
theorem SV.openNest {b j : Nat} {ty0 ty : TypeId} {xs : List Leaf} {es : List (List T)} (hb : σ.bs[b]? = some (ty0, xs)) (hj : xs[j]? = some (.ro (.seq ty es))) (hz : Sz ty 1)
  (k : ∀ us : List Value, us.length = es.length → (∀ (i : Nat) (u : Value) (t : T), us[i]? = some u → es[i]? = some [t] → Reads E t u ∧ u.oneCell' = true) → SV E N (σ.setb b ty0 (xs.set j (.ro (.seq ty (us.map fun u => [.lit u]))))) K) : SV E N σ K := fun a w G h => by
 obtain ⟨hB, vs, b1, b2, b3⟩ := h.boxes b _ _ hb
 have hjl : j < vs.length := by rw [b2]; exact get_lt hj
 have h1 : Inn E.old w (.seq ty es) vs[j] := (b3 j _ vs[j] hj (List.getElem?_eq_getElem hjl)).1.1
 have hone := (b3 j _ vs[j] hj (List.getElem?_eq_getElem hjl)).2
 generalize hv : vs[j] = v at h1
 cases h1 with
 | @seq ty' es' a' c n hp hz' hn hc hm h0 b' o us ha hb' hcell hr =>
  have hn1 : n = 1 := hz'.eq hz
  subst hn1
  obtain ⟨L, hL⟩ : ∃ L : List Value, L = (List.range es.length).map us := ⟨_, rfl⟩
  have hLl : L.length = es.length := by rw [hL]; simp
  have hLg : ∀ i, i < es.length → L[i]? = some (us i) := fun i hi => by rw [hL, List.getElem?_map, List.getElem?_range hi]; rfl
  have hel : ∀ i t, es[i]? = some [t] → Inn E.old w t (us i) := fun i t hi => by
   have := hr i [t] 0 t hi rfl
   rwa [Nat.mul_one, Nat.add_zero] at this
  have hex : ∀ i, i < es.length → ∃ t, es[i]? = some [t] := fun i hi => by
   have h2 := hn es[i] (List.getElem_mem hi)
   match he : es[i], h2 with
   | [t], _ => exact ⟨t, by rw [List.getElem?_eq_getElem hi, he]⟩
  refine k L hLl (fun i u t hu ht => ?_) a w G (h.setbox (us' := vs) (w' := w) hb (Same.refl _ _) (fun _ _ => rfl) b1 (by rw [List.length_set]; exact b2) fun j' x u hx hu => ?_)
  ·have hi := get_lt ht
   rw [hLg i hi] at hu
   cases hu
   exact ⟨h.reads (hel i t ht), (hel i t ht).one⟩
  ·by_cases hjj : j = j'
   ·subst hjj
    rw [List.getElem?_set_self (get_lt hj)] at hx
    cases hx
    rw [List.getElem?_eq_getElem hjl, hv] at hu
    cases hu
    rw [hv] at hone
    refine ⟨⟨?_, .inr hone⟩, hone⟩
    have e : es.length = (L.map fun u => [T.lit u]).length := by rw [List.length_map, hLl]
    show Inn E.old w (.seq ty (L.map fun u => [T.lit u])) (.slice a' es.length c)
    rw [e]
    refine .seq 1 hp hz (fun e he => by obtain ⟨u, -, rfl⟩ := List.mem_map.1 he; rfl) (by rw [← e]; exact hc) hm h0 b' o us (fun ad h1 h2 => ha ad h1 fun h3 => h2 ?_) (fun h2 => hb' fun h3 => h2 ?_) (fun q e1 p t h1 h2 => ?_) fun q e1 p t h1 h2 => ?_
    ·rw [List.length_eq_zero_iff.1 (show L.length = 0 by rw [hLl, h3]; rfl)]; rfl
    ·rw [List.length_eq_zero_iff.1 (show L.length = 0 by rw [hLl, h3]; rfl)]; rfl
    ·have hq : q < es.length := by have := get_lt h1; rw [List.length_map, hLl] at this; exact this
     obtain ⟨t0, ht0⟩ := hex q hq
     rw [List.getElem?_map, hLg q hq] at h1
     cases h1
     have hp0 : p = 0 := by have := get_lt h2; simpa using this
     subst hp0
     exact hcell q [t0] 0 t0 ht0 rfl
    ·have hq : q < es.length := by have := get_lt h1; rw [List.length_map, hLl] at this; exact this
     obtain ⟨t0, ht0⟩ := hex q hq
     rw [List.getElem?_map, hLg q hq] at h1
     cases h1
     have hp0 : p = 0 := by have := get_lt h2; simpa using this
     subst hp0
     cases h2
     rw [Nat.mul_one, Nat.add_zero]
     exact .lit (hel q t0 ht0).one
   ·rw [List.getElem?_set_ne hjj] at hx
    exact b3 j' x u hx hu
end V
theorem flat_lits (us : List Value) : Flat (us.map fun u => [T.lit u]) := fun k e j t h1 h2 => by
 rw [List.getElem?_map] at h1
 obtain ⟨u, -, rfl⟩ := Option.map_eq_some_iff.1 h1
 cases j with
 | zero => cases h2; exact ⟨u, rfl⟩
 | succ j => simp at h2
def mixR (X : List (List R)) (us : List Value) (t : Nat) : List (List T) := (X.take t).map tRun ++ (us.drop t).map fun u => [T.lit u]
theorem mixR_at {X : List (List R)} {us : List Value} {t : Nat} {u : Value} (h : us.length = X.length) (hu : us[t]? = some u) : (mixR X us t)[t]? = some [T.lit u] := by
 have hl := V.get_lt hu
 unfold mixR
 rw [List.getElem?_append_right (by rw [List.length_map, List.length_take]; omega), List.length_map, List.length_take, Nat.min_eq_left (by omega), Nat.sub_self, List.getElem?_map, List.getElem?_drop, Nat.add_zero, hu]
 rfl
theorem mixR_set {X : List (List R)} {us : List Value} {t : Nat} {p : List R} (h : us.length = X.length) (hx : X[t]? = some p) : (mixR X us t).set t (tRun p) = mixR X us (t + 1) := by
 have hl := V.get_lt hx
 unfold mixR
 have hu : us[t]? = some us[t] := List.getElem?_eq_getElem (by omega)
 rw [List.set_append_right _ _ (by rw [List.length_map, List.length_take]; omega), List.length_map, List.length_take, Nat.min_eq_left (by omega), Nat.sub_self, List.take_add_one, hx, Option.toList_some, List.map_append, List.append_assoc]
 congr 1
 rw [List.drop_eq_getElem_cons (show t < us.length by omega)]
 rfl
theorem mixR_end {X : List (List R)} {us : List Value} (h : us.length = X.length) : mixR X us X.length = X.map tRun := by
 unfold mixR
 rw [List.take_length, List.drop_eq_nil_of_le (by omega)]
 simp
theorem mixR_len {X : List (List R)} {us : List Value} {t : Nat} (h : us.length = X.length) : (mixR X us t).length = X.length := by
 unfold mixR
 rw [List.length_append, List.length_map, List.length_map, List.length_take, List.length_drop]
 omega
set_option maxRecDepth 100000 in
set_option maxHeartbeats 2000000 in
theorem vcloneruns (us : List Value) (hU : us.length ≤ 1000000000) : VC Try.prog 119 [(false, [.seq 84 (us.map fun u => [T.lit u])])] false [(false, [.seq 84 (us.map fun u => [T.lit u])])] := by
 refine VC.enter Try.func119 rfl Try.ntmps119 (gle rfl) fun E hE => ?_
 refine SV.seq' (SV.region ?_)
 refine sl 0 ms ?_
 refine SV.nil (SV.tn (SV.seq' (SV.seq' (SV.region ?_))))
 refine sl 0 (mv (V.one (.ro _))) ?_
 refine SV.isnil (d := 4) (x := .tmp 3) (y := .const ((Value.slice none 0 0))) rfl rfl rfl (gle rfl) rfl (fun ρ ad n c w h1 h2 => by (cases ad <;> (go_simp; first | done | rfl | (simp [h1, h2]; done)))) (fun hg0 => ?_) ?_
 ·skip   -- g0.T
  refine SV.nil (SV.tn ?_)
  refine SV.cond rfl (fun hc0 => ?_) (fun hc0 => ?_)
  ·skip   -- c0.T
   refine SV.seq' (SV.region ?_)
   refine sl 0 ms ?_
   refine SV.nil (SV.tn (SV.ret (SV.tr ?_)))
   refine SV.nlsc (s := 2) (kk := 0) (n := 1) rfl rfl (by decide) sz_impl_Run (gle rfl) ?_
   refine d1 (.hd 0) Try.results119 ?_ <;> (show some (T.seq _ _) = some (T.seq _ _); first | done | rfl | (rw [hg0]; done) | (simp; done))
  ·skip   -- c0.F
   cases hc0
 ·skip   -- g0.F
  refine SV.nil (SV.tn ?_)
  refine SV.cond rfl (fun hc1 => ?_) (fun hc1 => ?_)
  ·skip   -- c1.T
   cases hc1
  ·skip   -- c1.F
   refine SV.skip (SV.tn (SV.seq' (SV.region ?_)))
   refine sm (ok_lit0 (kk := 0) elt_impl_Run rfl rfl rfl (gle rfl)) ?_
   refine sl 0 (mv (V.one (.ro _))) ?_
   refine sm (ok_append_ro (kk := 1) elt_impl_Run (ls := .hd 0) (lx := .ro _) rfl rfl rfl rfl rfl rfl (flat_lits us) (by first | omega | (simp only [List.length_map]; omega) | (simp; done) | (simp; omega)) rfl (gle rfl)) ?_
   refine sl 0 (mv (V.one (.hd 1))) ?_
   refine SV.nil (SV.tn (SV.ret ?_))
   refine d1 (.hd 1) Try.results119 ?_ <;> (show some (T.seq _ _) = some (T.seq _ _); first | done | rfl | (rw [hg0]; done) | (simp; done))
end Go.Proofs.Ytpnbnbhifpcelaa
/- The program's copy of a sorter: told by trees. -/
namespace Go.Proofs.Ytpnbnbhifpcelaa
open Go Go.RowKit V
set_option linter.unusedVariables false
set_option maxRecDepth 100000 in
set_option maxHeartbeats 2000000 in
theorem vclone_i (s : SorterD) (hW : s.Wf) : VC Try.prog 83 [(true, tSorter s)] false [(true, tSorter (s))] := by
 refine VC.enter Try.func83 rfl Try.ntmps83 (gle rfl) fun E hE => ?_
 have hsz := hW.size
 refine SV.seq' (SV.region ?_)
 refine sm (ok_box (kk := 0) (ag := true) (xs := [.ro _, .sc _, .ro _, .ro _, .ro _, .ro _, .sc _, .sc _, .sc _, .sc _]) rfl rfl rfl (fun h => by cases h) rfl rfl (gle rfl)) ?_
 refine sm (ok_alloc (kk := 1) (xs := [.nl _, .sc _, .nl _, .nl _, .nl _, .nl _, .sc _, .sc _, .sc _, .sc _]) rfl rfl zero_impl_Sorter ⟨rfl, ⟨3, by decide, sz_impl_Row⟩, rfl, rfl, rfl, ⟨3, by decide, sz_impl_Row⟩, rfl, ⟨3, by decide, sz_impl_Row⟩, rfl, ⟨3, by decide, sz_impl_Row⟩, rfl, ⟨1, by decide, sz_impl_Run⟩, rfl, rfl, rfl, rfl, rfl, rfl, rfl, rfl, trivial⟩ rfl (gle rfl)) ?_
 refine SV.nil (SV.tn (SV.seq' (SV.region ?_)))
 refine sl 2 (fb fld_impl_Sorter_0) ?_
 refine sl 2 (lb 0 0 [.ro _] agg_s_impl_Row sz_s_impl_Row (fun _ => rfl)) ?_
 refine sm (cl [(false, [.hd 0])] rfl Try.func65 (vclonerows s.fInput (by omega)) ⟨⟨[.ro _], rfl, ⟨rfl, trivial⟩⟩, trivial⟩) ?_
 refine sl 2 (fb fld_impl_Sorter_0) ?_
 refine so (st (ag := false) [.hd 0] [.hd 0, .sc _, .ro _, .ro _, .ro _, .ro _, .sc _, .sc _, .sc _, .sc _] sz_s_impl_Row (fun _ => rfl)) ?_
 refine SV.nil (SV.tn (SV.seq' (SV.region ?_)))
 refine sl 2 (fb fld_impl_Sorter_2) ?_
 refine sl 2 (lb 0 2 [.ro _] agg_s_impl_Row sz_s_impl_Row (fun _ => rfl)) ?_
 refine sm (cl [(false, [.hd 1])] rfl Try.func65 (vclonerows s.fHeap (by omega)) ⟨⟨[.ro _], rfl, ⟨rfl, trivial⟩⟩, trivial⟩) ?_
 refine sl 2 (fb fld_impl_Sorter_2) ?_
 refine so (st (ag := false) [.hd 1] [.hd 0, .sc _, .hd 1, .ro _, .ro _, .ro _, .sc _, .sc _, .sc _, .sc _] sz_s_impl_Row (fun _ => rfl)) ?_
 refine SV.nil (SV.tn (SV.seq' (SV.region ?_)))
 refine sl 2 (fb fld_impl_Sorter_3) ?_
 refine sl 2 (lb 0 3 [.ro _] agg_s_impl_Row sz_s_impl_Row (fun _ => rfl)) ?_
 refine sm (cl [(false, [.hd 2])] rfl Try.func65 (vclonerows s.fDeferred (by omega)) ⟨⟨[.ro _], rfl, ⟨rfl, trivial⟩⟩, trivial⟩) ?_
 refine sl 2 (fb fld_impl_Sorter_3) ?_
 refine so (st (ag := false) [.hd 2] [.hd 0, .sc _, .hd 1, .hd 2, .ro _, .ro _, .sc _, .sc _, .sc _, .sc _] sz_s_impl_Row (fun _ => rfl)) ?_
 refine SV.nil (SV.tn (SV.seq' (SV.region ?_)))
 refine sl 2 (fb fld_impl_Sorter_4) ?_
 refine sl 2 (lb 0 4 [.ro _] agg_s_impl_Row sz_s_impl_Row (fun _ => rfl)) ?_
 refine sm (cl [(false, [.hd 3])] rfl Try.func65 (vclonerows s.fOutput (by omega)) ⟨⟨[.ro _], rfl, ⟨rfl, trivial⟩⟩, trivial⟩) ?_
 refine sl 2 (fb fld_impl_Sorter_4) ?_
 refine so (st (ag := false) [.hd 3] [.hd 0, .sc _, .hd 1, .hd 2, .hd 3, .ro _, .sc _, .sc _, .sc _, .sc _] sz_s_impl_Row (fun _ => rfl)) ?_
 refine SV.nil (SV.tn (SV.seq' ?_))
 refine SV.openNest (b := 0) (j := 5) rfl rfl sz_impl_Run fun us hul hur => ?_
 have hul' : us.length = s.fRuns.length := by rw [hul, List.length_map]
 refine SV.region ?_
 refine sl 2 (fb fld_impl_Sorter_5) ?_
 refine sl 2 (lb 0 5 [.ro _] agg_s_impl_Run sz_s_impl_Run (fun _ => rfl)) ?_
 refine sm (cl [(false, [.hd 4])] rfl Try.func119 (vcloneruns us (by omega)) ⟨⟨[.ro _], rfl, ⟨rfl, trivial⟩⟩, trivial⟩) ?_
 refine sl 2 (fb fld_impl_Sorter_5) ?_
 refine so (st (ag := false) [.hd 4] [.hd 0, .sc _, .hd 1, .hd 2, .hd 3, .hd 4, .sc _, .sc _, .sc _, .sc _] sz_s_impl_Run (fun _ => rfl)) ?_
 refine SV.nil (SV.tn (SV.seq' (SV.seq' (SV.region ?_))))
 refine sl 2 (fb fld_impl_Sorter_5) ?_
 refine sl 2 (lb 0 5 [.hd 4] agg_s_impl_Run sz_s_impl_Run (fun _ => rfl)) ?_
 refine sl 2 (ok_len (lf := .hd 4) rfl elt_impl_Run.und rfl rfl) ?_
 refine sl 2 ms ?_
 refine SV.nil (SV.tn (SV.block ?_))
 refine SV.loopF (X := Nat) (fun (σ : VS) t => ((((((((((((VS.nil.new (.seq 84 (mixR s.fRuns us t))).new (σ.tree 0)).new (σ.tree 1)).new (σ.tree 2)).new (σ.tree 3)).box 27 [.hd 1, σ.bl 0 1, .hd 2, .hd 3, .hd 4, .hd 0, σ.bl 0 6, σ.bl 0 7, σ.bl 0 8, σ.bl 0 9]).box 27 [σ.bl 1 0, σ.bl 1 1, σ.bl 1 2, σ.bl 1 3, σ.bl 1 4, σ.bl 1 5, σ.bl 1 6, σ.bl 1 7, σ.bl 1 8, σ.bl 1 9]).put 1 (V.flat false [.bp 0 0])).put 2 (V.flat false [.bp 1 0])).put 26 (V.flat false [.hd 0])).put 27 (σ.tm 27)).put 28 (V.flat false [.sc (.int .i64 ((t : Int)))]))) (fun t => t ≤ s.fRuns.length) (fun t => s.fRuns.length - t) ?_ ?_
 ·skip
  refine SV.again (fun i => [4, 0, 1, 2, 3].getD i 0) 0 ((Nat.zero_le _)) (pins hE rfl rfl) (VS.le.mk' (le_put (le_put (le_put (le_put (le_put (le_box (le_box (le_new (le_new (le_new (le_new (le_new le_nil))))))) (V.le.keep (ag := false) (xs := [.bp 0 0]) (ys := [.bp 0 0]) rfl rfl ⟨⟨rfl, (gle rfl)⟩, trivial⟩)) (V.le.keep (ag := false) (xs := [.bp 1 0]) (ys := [.bp 1 0]) rfl rfl ⟨⟨rfl, (gle rfl)⟩, trivial⟩)) (V.le.keep (ag := false) (xs := [.hd 4]) (ys := [.hd 0]) rfl rfl ⟨⟨rfl, (gle rfl), (gle rfl)⟩, trivial⟩)) (V.le.keep (ag := false) (xs := [.sc _]) (ys := [.sc _]) rfl rfl ⟨rfl, trivial⟩)) (V.le.keep (ag := false) (xs := [.sc _]) (ys := [.sc _]) rfl rfl ⟨(by first | rfl | (show Leaf.sc _ = Leaf.sc _; refine congrArg Leaf.sc ?_; first | rfl | go_num | (simp [cntAll]; done)) | (simp [cntAll]; done) | (simp; omega)), trivial⟩)) ⟨⟨rfl, ⟨⟨rfl, (gle rfl), (gle rfl)⟩, rfl, ⟨rfl, (gle rfl), (gle rfl)⟩, ⟨rfl, (gle rfl), (gle rfl)⟩, ⟨rfl, (gle rfl), (gle rfl)⟩, ⟨rfl, (gle rfl), (gle rfl)⟩, rfl, rfl, rfl, rfl, trivial⟩⟩, ⟨⟨rfl, ⟨rfl, rfl, rfl, rfl, rfl, rfl, rfl, rfl, rfl, rfl, trivial⟩⟩, trivial⟩⟩ ⟨.inr ⟨_, _, rfl, rfl, (gle rfl)⟩, ⟨.inr ⟨_, _, rfl, rfl, (gle rfl)⟩, ⟨.inr ⟨_, _, rfl, rfl, (gle rfl)⟩, ⟨.inr ⟨_, _, rfl, rfl, (gle rfl)⟩, ⟨.inr ⟨_, _, rfl, ?ob1_0, (gle rfl)⟩, trivial⟩⟩⟩⟩⟩ (new_ob (new_ob (new_ob (new_ob (new_ob nil_ob))))) (fun i j hi hj e => inj_list (l := [4, 0, 1, 2, 3]) (by decide) i j hi hj e))
  case ob1_0 =>
   show some (T.seq _ _) = some (T.seq _ _)
   rfl
 ·rintro t ht
  refine SV.seq' (SV.region ?_)
  refine sl 2 (s2 (.tmp 28) (.tmp 27)) ?_
  refine SV.nil (SV.tn (SV.seq' ?_))
  refine SV.cond rfl (fun hc0 => ?_) (fun hc0 => ?_)
  ·skip   -- c0.T
   have htl : t < s.fRuns.length := by have := mixR_len (t := t) hul'; simp at hc0; omega
   obtain ⟨p, hx⟩ : ∃ p, s.fRuns[t]? = some p := ⟨_, List.getElem?_eq_getElem htl⟩
   obtain ⟨u, hu⟩ : ∃ u, us[t]? = some u := ⟨_, List.getElem?_eq_getElem (by omega)⟩
   have hpl := hW.run (List.mem_of_getElem? hx)
   have hrd := (hur t u _ hu (map_at hx)).1
   have hmx := mixR_at hul' hu
   refine SV.skip (SV.tn (SV.seq' (SV.block (SV.seq' (SV.region ?_)))))
   refine sl 2 ms ?_
   refine sl 2 (ok_index (n := 1) (lf := .hd 0) rfl elt_impl_Run.und sz_impl_Run rfl rfl rfl (hmx)) ?_
   refine so (ok_load_el (p := .ep 0 _ _ _) (ag := true) (m := 1) (ys := [.sc _]) rfl rfl (cells_ep rfl (hmx) rfl rfl) agg_impl_Run sz_impl_Run (fun h => by cases h) (gle rfl) rfl rfl (gle rfl)) ?_
   refine sm (ok_alloc (kk := 2) (xs := [.nl _]) rfl rfl zero_impl_Run ⟨rfl, ⟨3, by decide, sz_impl_Row⟩, trivial⟩ rfl (gle rfl)) ?_
   refine sl 3 ms ?_
   refine so (st (ag := true) [.sc _] [.sc _] sz_impl_Run (fun h => by cases h)) ?_
   refine SV.nil (SV.tn ?_)
   refine SV.draw [.q 0, .q 1, .q 2, .q 3, .q 4, .m 5, .q 6, .q 7] [8] (by kernel_rfl) (by kernel_rfl) ?_
   refine dq rfl (fb fld_impl_Sorter_5) ?_
   refine dq rfl (lb 0 5 [.hd 0] agg_s_impl_Run sz_s_impl_Run (fun _ => rfl)) ?_
   refine dq rfl ms ?_
   refine dq rfl (fb fld_impl_Run_0) ?_
   refine dq rfl (lb 2 0 [.sc _] agg_s_impl_Row sz_s_impl_Row (fun _ => rfl)) ?_
   refine DW.shutRo (d := 37) (t := (.seq 72 (p.map tRow))) rfl (hrd) (gle rfl) ?_
   refine DW.m [5] rfl (cl [(false, [.hd 5])] rfl Try.func65 (vclonerows p (by omega)) ⟨⟨[.ro _], rfl, ⟨rfl, trivial⟩⟩, trivial⟩) rfl (gle rfl) (gle rfl) (.inl rfl) (fun j hj => by
     simp only [List.mem_cons, List.not_mem_nil, or_false] at hj
     rcases hj with rfl
     ·exact .inr ⟨(gle rfl), (gle rfl), .inl rfl⟩) ?_
   refine dq rfl (ok_index (n := 1) (lf := .hd 0) rfl elt_impl_Run.und sz_impl_Run rfl rfl rfl (hmx)) ?_
   refine dq rfl (ok_field_el (p := .ep 0 _ _ _) (off := 0) rfl rfl (cells_ep rfl (hmx) rfl rfl) fld_impl_Run_0) ?_
   refine DW.stores ?_
   refine SV.z rfl (ok_store_ep (i := 0) (n := 1) (m := 1) (ag := false) (zs := [.hd 5]) rfl rfl rfl rfl (hmx) sz_s_impl_Row (fun _ => rfl) rfl sz_impl_Run (gle rfl) (outs_c rfl outs_n) (by simp [two]) rfl rfl rfl) rfl ?_
   refine SV.zend ?_
   refine SV.bn (SV.tn (SV.region ?_))
   refine sl 3 (s2 (.tmp 28) (.const ((Value.int IntKind.i64 1)))) ?_
   refine sl 3 ms ?_
   refine SV.nil (SV.tn ?_)
   refine SV.again (fun i => [0, 1, 2, 3, 4].getD i 0) (t + 1) (⟨by omega, by omega⟩) (pins hE rfl rfl) (VS.le.mk' (le_put (le_put (le_put (le_put (le_put (le_box (le_box (le_new (le_new (le_new (le_new (le_new le_nil))))))) (V.le.keep (ag := false) (xs := [.bp 0 0]) (ys := [.bp 0 0]) rfl rfl ⟨⟨rfl, (gle rfl)⟩, trivial⟩)) (V.le.keep (ag := false) (xs := [.bp 1 0]) (ys := [.bp 1 0]) rfl rfl ⟨⟨rfl, (gle rfl)⟩, trivial⟩)) (V.le.keep (ag := false) (xs := [.hd 0]) (ys := [.hd 0]) rfl rfl ⟨⟨rfl, (gle rfl), (gle rfl)⟩, trivial⟩)) (V.le.keep (ag := false) (xs := [.sc _]) (ys := [.sc _]) rfl rfl ⟨rfl, trivial⟩)) (V.le.keep (ag := false) (xs := [.sc _]) (ys := [.sc _]) rfl rfl ⟨(by first | rfl | (show Leaf.sc _ = Leaf.sc _; refine congrArg Leaf.sc ?_; first | rfl | go_num | (simp [cntAll]; done)) | (simp [cntAll]; done) | (simp; omega)), trivial⟩)) ⟨⟨rfl, ⟨⟨rfl, (gle rfl), (gle rfl)⟩, rfl, ⟨rfl, (gle rfl), (gle rfl)⟩, ⟨rfl, (gle rfl), (gle rfl)⟩, ⟨rfl, (gle rfl), (gle rfl)⟩, ⟨rfl, (gle rfl), (gle rfl)⟩, rfl, rfl, rfl, rfl, trivial⟩⟩, ⟨⟨rfl, ⟨rfl, rfl, rfl, rfl, rfl, rfl, rfl, rfl, rfl, rfl, trivial⟩⟩, trivial⟩⟩ ⟨.inr ⟨_, _, rfl, rfl, (gle rfl)⟩, ⟨.inr ⟨_, _, rfl, rfl, (gle rfl)⟩, ⟨.inr ⟨_, _, rfl, rfl, (gle rfl)⟩, ⟨.inr ⟨_, _, rfl, rfl, (gle rfl)⟩, ⟨.inr ⟨_, _, rfl, ?ob2_0, (gle rfl)⟩, trivial⟩⟩⟩⟩⟩ (new_ob (new_ob (new_ob (new_ob (new_ob nil_ob))))) (fun i j hi hj e => inj_list (l := [0, 1, 2, 3, 4]) (by decide) i j hi hj e))
   case ob2_0 =>
    show some (T.seq _ _) = some (T.seq _ _)
    first | rfl | (rw [← mixR_set hul' hx]; first | done | rfl)
  ·skip   -- c0.F
   have hte : t = s.fRuns.length := by have := mixR_len (t := t) hul'; simp at hc0; omega
   have hend := mixR_end hul'
   refine SV.exit (SV.te (SV.te (SV.bh (SV.tn (SV.seq' (SV.region ?_))))))
   refine sl 2 (lb 0 0 [.hd 1, .sc _, .hd 2, .hd 3, .hd 4, .hd 0, .sc _, .sc _, .sc _, .sc _] agg_impl_Sorter sz_impl_Sorter (fun h => by cases h)) ?_
   refine so (st (ag := true) [.hd 1, .sc _, .hd 2, .hd 3, .hd 4, .hd 0, .sc _, .sc _, .sc _, .sc _] [.hd 1, .sc _, .hd 2, .hd 3, .hd 4, .hd 0, .sc _, .sc _, .sc _, .sc _] sz_impl_Sorter (fun h => by cases h)) ?_
   refine SV.nil (SV.tn (SV.ret ?_))
   apply SV.done (hf := Try.results83) (ht := rfl) (he := .inl rfl)
   case hr => exact (ResAll.cons (ResOk.cell (b := 1) (ag := true) (xs := [.hd 1, .sc _, .hd 2, .hd 3, .hd 4, .hd 0, .sc _, .sc _, .sc _, .sc _]) rfl rfl agg_impl_Sorter sz_impl_Sorter (fun h => by cases h)) ResAll.nil')
   case h2 => simp [two]
   refine ⟨rfl, ⟨?_, ?_, ?_, ?_, ?_, ?_, ?_, ?_, ?_, ?_, trivial⟩, trivial⟩ <;> first | rfl | ((refine lsq ?_; first | done | rfl | (rw [hte, hend]; done) | (subst hte; exact hend) | (simp; done))) | ((refine liq ?_; rfl))
end Go.Proofs.Ytpnbnbhifpcelaa
/- The program's choice of a step: told by trees. -/
namespace Go.Proofs.Ytpnbnbhifpcelaa
open Go Go.RowKit V
set_option linter.unusedVariables false
set_option maxRecDepth 100000 in
theorem sop1_i (w : World) (c : Nat) (us : List Value) (hb : w.heap[c]? = some (.cells us.toArray 27 (0, 0))) (h8 : us[8]? = some (.int .i64 1)) : Calls Try.prog 85 #[.pointer (some ⟨c, 0, none⟩)] w fun e w' => e = .returned (.func (.func 120) #[.pointer (some ⟨c, 0, none⟩)] #[]) ∧ w' = w := by
 have hc : w.cell? ⟨c, 8, none⟩ = some (.int .i64 1) := by
  rw [cell_of_row _ _ _ _ _ _ hb]
  simpa using h8
 clear hb h8
 go_enter Try.func85, Try.ntmps85
 go_wp2
 go_ret
 exact ⟨rfl, rfl⟩
set_option maxRecDepth 100000 in
theorem sop2_i (w : World) (c : Nat) (us : List Value) (hb : w.heap[c]? = some (.cells us.toArray 27 (0, 0))) (h8 : us[8]? = some (.int .i64 2)) : Calls Try.prog 85 #[.pointer (some ⟨c, 0, none⟩)] w fun e w' => e = .returned (.func (.func 121) #[.pointer (some ⟨c, 0, none⟩)] #[]) ∧ w' = w := by
 have hc : w.cell? ⟨c, 8, none⟩ = some (.int .i64 2) := by
  rw [cell_of_row _ _ _ _ _ _ hb]
  simpa using h8
 clear hb h8
 go_enter Try.func85, Try.ntmps85
 go_wp2
 go_ret
 exact ⟨rfl, rfl⟩
set_option maxRecDepth 100000 in
theorem sop3_i (w : World) (c : Nat) (us : List Value) (hb : w.heap[c]? = some (.cells us.toArray 27 (0, 0))) (h8 : us[8]? = some (.int .i64 3)) : Calls Try.prog 85 #[.pointer (some ⟨c, 0, none⟩)] w fun e w' => e = .returned (.func (.func 122) #[.pointer (some ⟨c, 0, none⟩)] #[]) ∧ w' = w := by
 have hc : w.cell? ⟨c, 8, none⟩ = some (.int .i64 3) := by
  rw [cell_of_row _ _ _ _ _ _ hb]
  simpa using h8
 clear hb h8
 go_enter Try.func85, Try.ntmps85
 go_wp2
 go_ret
 exact ⟨rfl, rfl⟩
end Go.Proofs.Ytpnbnbhifpcelaa
/- The library's slices.Equal at rows, by contract. -/
namespace Go.Proofs.Ytpnbnbhifpcelaa
open Go.RowKit
set_option linter.unusedVariables false
set_option maxRecDepth 100000 in
theorem ieqrows (a a' : Option Addr) (len cap len' cap' : Nat) (L M : List R) (w : World) (h : IsRows w a len L) (h' : IsRows w a' len' M) (hlen : len ≤ 9223372036854775807) (hlen' : len' ≤ 9223372036854775807) :
  Calls Try.prog 87 #[.slice a len cap, .slice a' len' cap'] w fun e w' => e = .returned (.bool (decide (L = M))) ∧ Below w.heap.size w w' := by
 have HL := Lib.hid h.1
 have HM := Lib.hid h'.1
 have HI := Lib.hid h
 have HI' := Lib.hid h'
 clear h h'
 by_cases hne : len = len'
 ·subst hne
  go_enter Try.func87, Try.ntmps87
  go_wp2_with fail
  go_loopw [13] (fun i wr => ∃ k : Nat, i = .int .i64 k ∧ k ≤ len ∧ Hid (∀ s, s < k → L.getD s R.zero = M.getD s R.zero) ∧ Hid (Below w.heap.size w wr)) (fun i _ => len - (intOf i).toNat)
  case atStart => exact ⟨0, rfl, Nat.zero_le _, fun s hs => absurd hs (Nat.not_lt_zero _), Below.refl _ _⟩
  case round =>
   obtain ⟨k, rfl, hk, hsm, hb⟩ := hrel
   by_cases hlt : k < len
   ·obtain ⟨b, o, rfl, hbl, hat⟩ := HI.out.at hlt
    obtain ⟨b', o', rfl, hbl', hat'⟩ := HI'.out.at hlt
    obtain ⟨r, hr⟩ : ∃ r, r = L.getD k R.zero := ⟨_, rfl⟩
    obtain ⟨r', hr'⟩ : ∃ r, r = M.getD k R.zero := ⟨_, rfl⟩
    rw [← hr] at hat
    rw [← hr'] at hat'
    obtain ⟨c0, c1, c2⟩ := hat.below hb.out hbl
    obtain ⟨d0, d1, d2⟩ := hat'.below hb.out hbl'
    have HR := Lib.hid hr
    have HR' := Lib.hid hr'
    clear hr hr' hat hat'
    have hq : ∀ v, (binOp .neq 72 (.agg #[.int .i64 r.key, .int .i64 r.value, .int .i64 r.width]) (.agg #[.int .i64 r'.key, .int .i64 r'.value, .int .i64 r'.width])).run Try.prog v = .ok (.bool (!decide (r = r'))) v := fun v => row_neq r r' v
    by_cases he : r = r'
    ·have hd : decide (r = r') = true := decide_eq_true he
     have HE := Lib.hid he
     clear he
     go_wp2_with fail
     go_still_tail 8, (by kernel_rfl)
     go_wp2_with fail
     go_roundw
     case rel =>
      refine ⟨k + 1, by go_num, by omega, fun s hs => ?_, hb.out.drew⟩
      rcases Nat.lt_or_ge s k with h1 | h1
      ·exact hsm.out s h1
      ·obtain rfl : s = k := by omega
       rw [← HR.out, ← HR'.out]; exact HE.out
     case measure => simp [intOf]; omega
    ·have hd : decide (r = r') = false := decide_eq_false he
     have HN := Lib.hid (show decide (L = M) = false from decide_eq_false fun e => he (by rw [HR.out, HR'.out, e]))
     clear he
     go_wp2_with fail
     go_still_tail 8, (by kernel_rfl)
     go_wp2_with fail
     go_ret
     exact ⟨by rw [HN.out]; rfl, hb.out.drew⟩
   ·have HN := Lib.hid (show decide (L = M) = true from decide_eq_true (getD_ext (by rw [HL.out, HM.out]) fun s hs => hsm.out s (by rw [HL.out] at hs; omega)))
    go_wp2_with fail
    go_ret
    exact ⟨by rw [HN.out]; rfl, hb.out⟩
 ·have HN := Lib.hid (show decide (L = M) = false from decide_eq_false fun e => hne (by rw [← HL.out, ← HM.out, e]))
  have hne2 : ¬ (len : Int) = (len' : Int) := by omega
  go_enter Try.func87, Try.ntmps87
  go_wp2_with fail
  go_ret
  exact ⟨by rw [HN.out]; rfl, Below.refl _ _⟩
end Go.Proofs.Ytpnbnbhifpcelaa
/- How often each row occurs, kept in a map that the call made: keys, look-ups, 'm[k]++'; no function of the program is walked here. -/
namespace Go.Proofs.Ytpnbnbhifpcelaa
open Go Go.RowKit Go.Maps Go.WideElems Go.ChangeShapes Go.ChangeMaps Go.MapKept Go.WideShapes Go.Deep Go.Joins
open Go.WideMaps (KeyLaw)
def kl (r : R) : Lit := (R.dat (H := Unit) r).asKey
set_option maxRecDepth 100000 in
theorem laidOut : laidOutB Try.prog = true := by kernel_rfl
set_option maxRecDepth 100000 in
theorem rowIsType : (72 : TypeId) < Try.prog.types.size := of_decide_eq_true (by kernel_rfl)
set_option maxRecDepth 100000 in
theorem rowWide : (match Try.prog.underlying 72 with | some (.array _ _) | some (.struct _) => true | _ => false) = true := by kernel_rfl
set_option maxRecDepth 100000 in
theorem rowDeep : Try.prog.keyTypeAt (Try.prog.types.size + 1) 72 = true := by kernel_rfl
set_option maxRecDepth 100000 in
theorem rowLaw : KeyLaw Try.prog 72 := deep_law_laid laidOut (m := 3) (by omega) rowIsType (by kernel_rfl) rowWide
set_option maxRecDepth 100000 in
theorem rowKeyed : Keyed Try.prog 72 := Keyed.of_law rowLaw
set_option maxRecDepth 100000 in
theorem implRowCells : Try.prog.cellsOf 72 = 3 := by kernel_rfl
set_option maxRecDepth 100000 in
theorem shut_irow {H : Type} {enc : TypeId × Value → H} {w : World} {base : Nat} {spare : Nat → Bool} {held : Bool} (q : R) (hq : q.wf) : DataW.Trod enc Try.prog w base spare held 72 q.val q.dat [] :=
 shut_agg3 (y0 := (.lit (.int .i64 q.key), [])) (y1 := (.lit (.int .i64 q.value), [])) (y2 := (.lit (.int .i64 q.width), [])) Try.underlying72 (by kernel_rfl) implRowCells
  ⟨1, by simp [DataW.trod, Try.underlying3, lit_wf hq.1]⟩ ⟨1, by simp [DataW.trod, Try.underlying3, lit_wf hq.2.1]⟩ ⟨1, by simp [DataW.trod, Try.underlying3, lit_wf hq.2.2]⟩
set_option maxRecDepth 100000 in
theorem formedRow (r : R) : r.val.formed Try.prog 72 = true := by
 simp [Value.formed, R.val, Try.underlying72, implRowCells]
set_option maxRecDepth 100000 in
theorem keyRow (r : R) (hr : r.wf) : keyOf Try.prog 72 r.val = some (kl r) :=
 (keyOf_asKey rowDeep rowWide (formedRow r) (shut_irow (H := Unit) (enc := fun _ => ()) (w := World.mk #[] (fun _ _ => 0) 0 default #[]) (base := 0) (spare := fun _ => false) (held := false) r hr)).1
set_option maxRecDepth 100000 in
theorem kl_inj {r s : R} (hr : r.wf) (hs : s.wf) (h : kl r = kl s) : r = s := by
 have := rowKeyed.inj (keyRow r hr) (h ▸ keyRow s hs)
 obtain ⟨a, b, c⟩ := r
 obtain ⟨a', b', c'⟩ := s
 simpa [R.val] using this
set_option maxRecDepth 100000 in
theorem kl_key (r : R) (hr : r.wf) : WideAt.IsKeyLit (kl r) := rowKeyed.key (keyRow r hr)
set_option maxRecDepth 100000 in
theorem zeroInt (w : World) : (zeroValue 3).run Try.prog w = .ok (.int .i64 0) w := Try.zeroValue3 w
def AtD (D : DataW Unit) (C : R → Int) : Prop := ∀ r, r.wf → D.atKey (kl r) (.lit (.int .i64 0)) = .lit (.int .i64 (C r))
def HasD (D : DataW Unit) (L : List R) : Prop := ∀ k, Maps.has D k = true ↔ ∃ r, r ∈ L ∧ k = kl r
abbrev Own (w : World) (b n : Nat) (D : DataW Unit) : Prop := w.ownsMap Try.prog 72 (plainElem Try.prog 3) b n D
set_option maxRecDepth 100000 in
theorem Own.heap {w w' : World} {b n : Nat} {D : DataW Unit} (h : Own w b n D) (e : w'.heap[b]? = w.heap[b]?) : Own w' b n D := by
 obtain ⟨es, clock, hb, F, hs, hD⟩ := h
 exact ⟨es, clock, e.trans hb, F, hs, hD⟩
set_option maxRecDepth 100000 in
theorem Own.look {w : World} {b n : Nat} {D : DataW Unit} (h : Own w b n D) {C : R → Int} (hC : AtD D C) (r : R) (hr : r.wf) :
  (Instr.lookup 127 (.map (some b)) r.val false).run Try.prog w = .ok (.int .i64 (C r)) w := by
 obtain ⟨c, hrun, hat, -⟩ := h.lookup_int rowKeyed Try.underlying127 Try.underlying3 (zeroInt w) (keyRow r hr)
 rw [hC r hr] at hat
 injection hat with hat
 injection hat with _ hat
 rw [hat]
 exact hrun
set_option maxRecDepth 100000 in
theorem Own.entry {w : World} {b n : Nat} {D : DataW Unit} (h : Own w b n D) (hn : n < maxLen) {C : R → Int} (hC : AtD D C) (r : R) (hr : r.wf) (x : Int) (hx : (Lit.int .i64 x).wf = true) :
  ∃ (st : Nat) (W1 W2 : World), (Instr.mapEntry 127 (.map (some b)) r.val).run Try.prog w = .ok (.tuple #[.int .i64 (C r), goInt st]) W1 ∧
   (Instr.lookup 127 (.map (some b)) r.val false).run Try.prog W1 = .ok (.int .i64 (C r)) W1 ∧
   (Instr.entryStore 127 (.map (some b)) (goInt st) (.int .i64 x)).run Try.prog W1 = .ok () W2 ∧
   Own W2 b (n + 1) (D.put (kl r) (.lit (.int .i64 x))) ∧ w.grownBy W2 (some b) := by
 have hlook := h.look hC r hr
 have ht := Try.underlying127
 have hkey := keyRow r hr
 obtain ⟨W2, hupd, hown2, hg2⟩ := h.update rowKeyed ht hn hkey (plainElem_int (H := Unit) Try.underlying3 hx)
 have hwhole := h
 obtain ⟨es, clock, hb, F, hs, hD⟩ := h
 obtain ⟨v0, st, es1, clock1, hE, hv0, hS⟩ := entry_then_store rowLaw ht (fun u => zeroInt u) hb F hkey
 obtain ⟨es', clock', hst, hup⟩ := hS (setBlock w b (.map es1 clock1)) (.int .i64 x) (heap_setBlock_same hb _)
 have hW2 : setBlock (setBlock w b (.map es1 clock1)) b (.map es' clock') = W2 := by
  rw [hupd] at hup
  injection hup with _ hup
  rw [hup]
  simp [setBlock]
 rw [hW2] at hst
 have key : v0 = .int .i64 (C r) ∧ (Instr.lookup 127 (.map (some b)) r.val false).run Try.prog (setBlock w b (.map es1 clock1)) = .ok (.int .i64 (C r)) (setBlock w b (.map es1 clock1)) := by
  rcases rowLaw.find w hkey es.toList F.keys with ⟨h1, h2⟩ | ⟨j, e0, h1, h2, h3⟩
  ·have hL : (Instr.lookup 127 (.map (some b)) r.val false).run Try.prog w = .ok (.int .i64 0) w := by
    simp [Instr.lookup, run_underlying ht, MapKept.run_getObj_map hb, rowLaw.check w es.isEmpty hkey, h1, Result.andThen]
   have hE' : (Instr.mapEntry 127 (.map (some b)) r.val).run Try.prog w = .ok (.tuple #[.int .i64 0, goInt clock]) (setBlock w b (.map (es.push ⟨r.val, .int .i64 0, clock⟩) (clock + 1))) := by
    simp [Instr.mapEntry, run_underlying ht, MapKept.run_getObj_map hb, rowLaw.check w false hkey, h1, MapKept.run_setObj_map _ hb, Result.andThen, setBlock]
   have hU : (Instr.mapUpdate 127 (.map (some b)) r.val (.int .i64 0)).run Try.prog w = .ok () (setBlock w b (.map (es.push ⟨r.val, .int .i64 0, clock⟩) (clock + 1))) := by
    simp [Instr.mapUpdate, run_underlying ht, MapKept.run_getObj_map hb, rowLaw.check w false hkey, h1, MapKept.run_setObj_map _ hb, Result.andThen, setBlock]
   rw [hL] at hlook
   injection hlook with hc _
   rw [hE] at hE'
   injection hE' with e1 e2
   rw [e2]
   obtain ⟨W3, hupd3, hown3, -⟩ := hwhole.update rowKeyed ht hn hkey (plainElem_int (H := Unit) Try.underlying3 (a := 0) (by decide))
   rw [hU] at hupd3
   injection hupd3 with _ e3
   rw [← e3] at hown3
   have hD0 : IsMap D := ⟨_, hD⟩
   obtain ⟨c, hrun, hat, -⟩ := hown3.lookup_int rowKeyed ht Try.underlying3 (zeroInt _) hkey
   rw [atKey_put_same hD0 (kl_key r hr)] at hat
   injection hat with hat
   injection hat with _ hat
   rw [← hat, hc] at hrun
   rw [← hc]
   refine ⟨?_, by rw [hc]; exact hrun⟩
   injection e1 with e1
   have := congrArg (fun z => z[0]?) e1
   simpa using this
  ·have hj : es[j]? = some e0 := by simpa using h2
   have hL : (Instr.lookup 127 (.map (some b)) r.val false).run Try.prog w = .ok e0.val w := by
    simp [Instr.lookup, run_underlying ht, MapKept.run_getObj_map hb, rowLaw.check w es.isEmpty hkey, h1, Result.andThen]
   have hsame : es.modify j (fun e => { e with key := r.val }) = es := by
    apply Array.ext'
    rw [Array.toList_modify, modify_eq_set _ _ _ _ h2]
    have : ({ e0 with key := r.val } : MapEntry) = e0 := by rw [← h3]
    rw [this]
    exact Go.WideElems.set_self _ _ _ h2
   have hE' : (Instr.mapEntry 127 (.map (some b)) r.val).run Try.prog w = .ok (.tuple #[e0.val, goInt e0.born]) (setBlock w b (.map es clock)) := by
    simp [Instr.mapEntry, run_underlying ht, MapKept.run_getObj_map hb, rowLaw.check w false hkey, h1, hj, h3, rowLaw.stays w hkey, hsame, MapKept.run_setObj_map _ hb, Result.andThen, setBlock]
   rw [hL] at hlook
   injection hlook with hc _
   rw [hE] at hE'
   injection hE' with e1 e2
   rw [e2]
   refine ⟨?_, (hwhole.heap ((heap_setBlock_same hb _).trans hb.symm)).look hC r hr⟩
   injection e1 with e1
   have := congrArg (fun z => z[0]?) e1
   rw [← hc]
   simpa using this
 rw [key.1] at hE
 exact ⟨st, setBlock w b (.map es1 clock1), W2, hE, key.2, hst, hown2, hg2⟩
set_option maxRecDepth 100000 in
theorem Own.map {w : World} {b n : Nat} {D : DataW Unit} (h : Own w b n D) : IsMap D := by
 obtain ⟨es, clock, hb, F, hs, hD⟩ := h
 exact ⟨_, hD⟩
set_option maxRecDepth 100000 in
theorem atD_put {D : DataW Unit} {C : R → Int} (hD : IsMap D) (hC : AtD D C) (r : R) (hr : r.wf) (x : Int) : AtD (D.put (kl r) (.lit (.int .i64 x))) (fun s => if s = r then x else C s) := by
 intro s hs
 by_cases he : s = r
 ·subst he
  rw [atKey_put_same hD (kl_key s hs)]
  simp
 ·rw [atKey_put_other (fun e => he (kl_inj hs hr e)), hC s hs]
  simp [he]
set_option maxRecDepth 100000 in
theorem hasD_put {D : DataW Unit} {L : List R} (hD : IsMap D) (hL : HasD D L) (r : R) (hr : r.wf) (x : DataW Unit) : HasD (D.put (kl r) x) (L ++ [r]) := by
 intro k
 by_cases he : k = kl r
 ·subst he
  rw [has_put_same hD (kl_key r hr)]
  exact ⟨fun _ => ⟨r, by simp, rfl⟩, fun _ => rfl⟩
 ·rw [has_put_other he, hL k]
  constructor
  ·rintro ⟨s, hs, e⟩
   exact ⟨s, by simp [hs], e⟩
  ·rintro ⟨s, hs, e⟩
   rcases List.mem_append.1 hs with h | h
   ·exact ⟨s, h, e⟩
   ·rw [List.mem_singleton.1 h] at e
    exact absurd e he
set_option maxRecDepth 100000 in
theorem atD_none : AtD (.map []) (fun _ => 0) := fun _ _ => rfl
set_option maxRecDepth 100000 in
theorem hasD_none : HasD (.map []) [] := fun k => Iff.intro (fun h => by cases h) (fun ⟨r, hr, _⟩ => by cases hr)
end Go.Proofs.Ytpnbnbhifpcelaa
/- The reference's EqualBags, BagDifference and DistinctRows, by contract. -/
namespace Go.Proofs.Ytpnbnbhifpcelaa
open Go.RowKit
end Go.Proofs.Ytpnbnbhifpcelaa
/- The program's countRows and EqualBags, the library's maps.Equal behind them (walked), by contract. -/
namespace Go.Proofs.Ytpnbnbhifpcelaa
open Go Go.RowKit Go.Maps
set_option maxRecDepth 100000 in
set_option maxHeartbeats 1000000 in
theorem icounts (a : Option Addr) (len cap : Nat) (L : List R) (w : World) (h : IsRows w a len L) (hlen : len ≤ 100000000000) :
  Calls Try.prog 137 #[.slice a len cap] w fun e w' => ∃ b D, e = .returned (.map (some b)) ∧ w.heap.size ≤ b ∧ Own w' b len D ∧ AtD D (fun r => (L.count r : Int)) ∧ HasD D L ∧ Below w.heap.size w w' := by
 have HL := Lib.hid h.1
 have HW := Lib.hid h.2.1
 have HI := Lib.hid h
 have hmm := @run_makeMap Try.prog
 have hb0 : Below w.heap.size w (w.alloc (.map #[] 0)) := (Below.refl _ _).alloc (Nat.le_refl _) _
 have HB0 := Lib.hid hb0
 have HO := Lib.hid (World.ownsMap_made w Try.prog 72 (plainElem (H := Unit) Try.prog 3))
 clear h hb0
 go_enter Try.func137, Try.ntmps137
 go_wp2_with fail
 clear hmm
 go_loopw [9] (fun x wr => ∃ (k : Nat) (D : DataW Unit), x = .int .i64 k ∧ k ≤ len ∧ Hid (Own wr w.heap.size k D) ∧ Hid (AtD D (fun r => ((L.take k).count r : Int))) ∧ Hid (HasD D (L.take k)) ∧ Hid (Below w.heap.size w wr)) (fun x _ => len - (intOf x).toNat)
 case atStart => exact ⟨0, _, rfl, Nat.zero_le _, HO.out, atD_none, hasD_none, HB0.out⟩
 case round =>
  obtain ⟨k, D, rfl, hk, ho, hat, hhas, hb⟩ := hrel
  by_cases hlt : k < len
  ·obtain ⟨b, o, rfl, hbl, hc⟩ := HI.out.at hlt
   obtain ⟨r, hr⟩ : ∃ r, r = L.getD k R.zero := ⟨_, rfl⟩
   rw [← hr] at hc
   obtain ⟨c0, c1, c2⟩ := hc.below hb.out hbl
   have hrw : r.wf := by rw [hr]; exact HI.out.wf k hlt
   obtain ⟨Wa, hWa⟩ : ∃ Wa, Wa = wr.alloc (.cells #[.int .i64 r.key, .int .i64 r.value, .int .i64 r.width] 72) := ⟨_, rfl⟩
   have hbx : RowAt Wa wr.heap.size 0 r := by rw [hWa]; refine ⟨?_, ?_, ?_⟩ <;> simp
   have hba : Below wr.heap.size wr Wa := by rw [hWa]; exact (Below.refl _ _).alloc (Nat.le_refl _) _
   have hoa : Own Wa w.heap.size k D := by rw [hWa]; exact ho.out.alloc _
   have hod : Own Wa.drew w.heap.size k D := hoa.drew
   obtain ⟨n, hn⟩ : ∃ n, n = (L.take k).count r := ⟨_, rfl⟩
   have hnk : n ≤ k := by rw [hn]; have := List.count_le_length (a := r) (l := L.take k); rw [List.length_take] at this; omega
   obtain ⟨st, W1, W2, hE, hL1, hS, hown2, hg2⟩ := hod.entry (by unfold maxLen; omega) hat.out r hrw ((n : Int) + 1) (lit_wf ⟨by omega, by omega⟩)
   have hL0 := hod.look hat.out r hrw
   simp only [← hn] at hE hL1 hL0
   have hE' : (Instr.mapEntry 127 (.map (some w.heap.size)) (.agg #[.int .i64 r.key, .int .i64 r.value, .int .i64 r.width])).run Try.prog Wa.drew = .ok (.tuple #[.int .i64 n, .int .i64 st]) W1 := hE
   have hL0' : (Instr.lookup 127 (.map (some w.heap.size)) (.agg #[.int .i64 r.key, .int .i64 r.value, .int .i64 r.width]) false).run Try.prog Wa.drew = .ok (.int .i64 n) Wa.drew := hL0
   have hL1' : (Instr.lookup 127 (.map (some w.heap.size)) (.agg #[.int .i64 r.key, .int .i64 r.value, .int .i64 r.width]) false).run Try.prog W1 = .ok (.int .i64 n) W1 := hL1
   have hS' : (Instr.entryStore 127 (.map (some w.heap.size)) (.int .i64 st) (.int .i64 (IntKind.i64.wrap ((n : Int) + 1)))).run Try.prog W1 = .ok () W2 := by rw [show IntKind.i64.wrap ((n : Int) + 1) = (n : Int) + 1 by simp [IntKind.wrap, IntKind.bits, IntKind.signed]; omega]; exact hS
   have HOWN := Lib.hid hown2
   have HG := Lib.hid hg2
   have HR := Lib.hid hr
   have HN := Lib.hid hn
   have HRW := Lib.hid hrw
   have HBA := Lib.hid hba
   have HMAP := Lib.hid ho.out.map
   obtain ⟨d0, d1, d2⟩ := hbx
   clear hE hL0 hL1 hS hown2 hg2 hr hn hrw hba hoa hod
   go_wp2_with fail
   rw [← hWa]
   clear hWa
   have hnext : Own W2 w.heap.size (k + 1) (D.put (kl r) (.lit (.int .i64 ((n : Int) + 1)))) ∧ AtD (D.put (kl r) (.lit (.int .i64 ((n : Int) + 1)))) (fun s => ((L.take (k + 1)).count s : Int)) ∧ HasD (D.put (kl r) (.lit (.int .i64 ((n : Int) + 1)))) (L.take (k + 1)) ∧ Below w.heap.size w W2 := by
    have hlk : k < L.length := by rw [HL.out]; exact hlt
    refine ⟨HOWN.out, ?_, ?_, ?_⟩
    ·intro s hs
     rw [atD_put HMAP.out hat.out r HRW.out ((n : Int) + 1) s hs]
     have hct := R.count_take hlk s
     rw [← HR.out] at hct
     simp only [hct]
     by_cases he : s = r
     ·subst he
      simp [HN.out]
     ·have he' : ¬ r = s := fun e => he e.symm
      simp [he, he']
    ·rw [R.take_succ hlk, ← HR.out]
     exact hasD_put HMAP.out hhas.out r HRW.out _
    ·exact ((hb.out.trans (HBA.out.mono hb.out.size)).drew).grown HG.out (Nat.le_trans hb.out.size HBA.out.size) (fun z hz => by have hz' : some w.heap.size = some z := hz; simp only [Option.some.injEq] at hz'; omega)
   have HNX := Lib.hid hnext
   clear hnext
   go_region_with (fail)
   all_goals (
    go_wp2_with fail
    go_roundw
    case rel => exact ⟨k + 1, _, by go_num, by omega, HNX.out.1, HNX.out.2.1, HNX.out.2.2.1, HNX.out.2.2.2⟩
    case measure => simp [intOf]; omega)
  ·have hkl : k = len := by omega
   have hall : L.take k = L := by rw [hkl, ← HL.out, List.take_length]
   rw [hall] at hat hhas
   subst hkl
   clear hall
   go_wp2_with fail
   go_ret
   exact ⟨_, D, rfl, Nat.le_refl _, ho.out, hat.out, hhas.out, hb.out⟩
theorem subset_back {α : Type} : ∀ (A B : List α), A.Nodup → (∀ x ∈ A, x ∈ B) → B.length ≤ A.length → ∀ x ∈ B, x ∈ A
 | [], B, _, _, hl => by
  have : B = [] := List.eq_nil_of_length_eq_zero (by simpa using hl)
  subst this
  simp
 | a :: A, B, hn, hs, hl => by
  intro x hx
  obtain ⟨B1, B2, rfl⟩ := List.append_of_mem (hs a (by simp))
  obtain ⟨hna, hn'⟩ := List.nodup_cons.1 hn
  have ih := subset_back A (B1 ++ B2) hn' (fun y hy => by
   have hy' := hs y (by simp [hy])
   rw [List.mem_append, List.mem_cons] at hy'
   rw [List.mem_append]
   rcases hy' with h | rfl | h
   ·exact .inl h
   ·exact absurd hy hna
   ·exact .inr h) (by simp at hl ⊢; omega)
  rw [List.mem_append, List.mem_cons] at hx
  rcases hx with h | rfl | h
  ·exact List.mem_cons_of_mem _ (ih x (List.mem_append.2 (.inl h)))
  ·simp
  ·exact List.mem_cons_of_mem _ (ih x (List.mem_append.2 (.inr h)))
theorem hasD_mem {es : List (Lit × DataW Unit)} (hk : ∀ p ∈ es, WideAt.IsKeyLit p.1) {k : Lit} : Maps.has (.map es : DataW Unit) k = true ↔ k ∈ es.map (·.1) := by
 rw [has_eq, List.any_eq_true, List.mem_map]
 constructor
 ·rintro ⟨p, hp, hs⟩
  exact ⟨p, hp, WideAt.sameKey_eq hs⟩
 ·rintro ⟨p, hp, rfl⟩
  exact ⟨p, hp, WideAt.sameKey_self (hk p hp)⟩
theorem counts_equal {w : World} {b1 n1 b2 n2 : Nat} {D1 D2 : DataW Unit} {L M : List R} (h1 : Own w b1 n1 D1) (h2 : Own w b2 n2 D2) (k1 : HasD D1 L) (k2 : HasD D2 M) (hL : ∀ r ∈ L, r.wf) (hM : ∀ r ∈ M, r.wf)
  (hsz : Maps.size D1 = Maps.size D2) (hG : ∀ r ∈ L, L.count r = M.count r) : R.eqBags L M = true := by
 obtain ⟨es1, rfl, p1, q1⟩ := h1.entries rowKeyed
 obtain ⟨es2, rfl, p2, q2⟩ := h2.entries rowKeyed
 have hn1 : (es1.map (·.1)).Nodup := by rw [List.Nodup, List.pairwise_map]; exact p1
 have hsub : ∀ k ∈ es1.map (·.1), k ∈ es2.map (·.1) := by
  intro k hk
  obtain ⟨r, hr, rfl⟩ := (k1 k).1 ((hasD_mem q1).2 hk)
  refine (hasD_mem q2).1 ((k2 _).2 ⟨r, ?_, rfl⟩)
  have hp := List.count_pos_iff.2 hr
  rw [hG r hr] at hp
  exact List.count_pos_iff.1 hp
 have hback := subset_back _ _ hn1 hsub (by rw [List.length_map, List.length_map]; exact Nat.le_of_eq hsz.symm)
 refine R.eqBags_iff.2 fun r => ?_
 by_cases hr : r ∈ L
 ·exact hG r hr
 ·by_cases hm : r ∈ M
  ·obtain ⟨s, hs, e⟩ := (k1 _).1 ((hasD_mem q1).2 (hback _ ((hasD_mem q2).1 ((k2 (kl r)).2 ⟨r, hm, rfl⟩))))
   rw [kl_inj (hM r hm) (hL s hs) e] at hr
   exact absurd hs hr
  ·rw [List.count_eq_zero.2 hr, List.count_eq_zero.2 hm]
theorem counts_sizes {w : World} {b1 n1 b2 n2 : Nat} {D1 D2 : DataW Unit} {L M : List R} (h1 : Own w b1 n1 D1) (h2 : Own w b2 n2 D2) (k1 : HasD D1 L) (k2 : HasD D2 M) (h : R.eqBags L M = true) : Maps.size D1 = Maps.size D2 := by
 have hc := R.eqBags_iff.1 h
 have hmem : ∀ r, r ∈ L ↔ r ∈ M := fun r => by rw [← List.count_pos_iff, ← List.count_pos_iff, hc r]
 obtain ⟨es1, rfl, p1, q1⟩ := h1.entries rowKeyed
 obtain ⟨es2, rfl, p2, q2⟩ := h2.entries rowKeyed
 have hn1 : (es1.map (·.1)).Nodup := by rw [List.Nodup, List.pairwise_map]; exact p1
 have hn2 : (es2.map (·.1)).Nodup := by rw [List.Nodup, List.pairwise_map]; exact p2
 have hp : (es1.map (·.1)).Perm (es2.map (·.1)) := (List.perm_ext_iff_of_nodup hn1 hn2).2 fun k => by
  rw [← hasD_mem q1, ← hasD_mem q2, k1 k, k2 k]
  exact ⟨fun ⟨r, hr, e⟩ => ⟨r, (hmem r).1 hr, e⟩, fun ⟨r, hr, e⟩ => ⟨r, (hmem r).2 hr, e⟩⟩
 have := hp.length_eq
 rw [List.length_map, List.length_map] at this
 exact this
set_option maxRecDepth 100000 in
set_option maxHeartbeats 4000000 in
theorem mapsequal (b1 b2 n1 n2 : Nat) (D1 D2 : DataW Unit) (L M : List R) (w : World) (h1 : Own w b1 n1 D1) (h2 : Own w b2 n2 D2) (a1 : AtD D1 (fun r => (L.count r : Int))) (a2 : AtD D2 (fun r => (M.count r : Int))) (k1 : HasD D1 L) (k2 : HasD D2 M)
  (hL : ∀ r ∈ L, r.wf) (hM : ∀ r ∈ M, r.wf) :
  Calls Try.prog 136 #[.map (some b1), .map (some b2)] w fun e w' => e = .returned (.bool (R.eqBags L M)) ∧ w.grownBy w' none := by
 have l1 := fun ty => h1.len (t := 127) Try.underlying127 ty
 have l2 := fun ty => h2.len (t := 127) Try.underlying127 ty
 have hb2 := h2.lt
 have H1 := Lib.hid h1
 have H2 := Lib.hid h2
 have A1 := Lib.hid a1
 have A2 := Lib.hid a2
 have K1 := Lib.hid k1
 have K2 := Lib.hid k2
 have HL := Lib.hid hL
 have HM := Lib.hid hM
 clear a1 a2 k1 k2 hL hM
 obtain ⟨z1, hz1⟩ : ∃ z, z = Maps.size D1 := ⟨_, rfl⟩
 obtain ⟨z2, hz2⟩ : ∃ z, z = Maps.size D2 := ⟨_, rfl⟩
 rw [← hz1] at l1
 rw [← hz2] at l2
 have Z1 := Lib.hid hz1
 have Z2 := Lib.hid hz2
 clear hz1 hz2
 by_cases hsz : z1 = z2
 ·subst hsz
  go_enter Try.func136, Try.ntmps136
  go_wp2_with (first
   | (at_range; refine wpList_range_own _ rfl _ 127 rfl 72 3 rowKeyed Try.underlying127 (plainElem Try.prog 3) b1 n1 D1 rfl h1 ?_; intro w0 hrg0 hg0 hs0)
   | go_in)
  go_frame
  go_loopw [18] (fun _ wr => ∃ (left : Lit → Bool) (cnt : Nat), wr.ranges Try.prog 72 (plainElem Try.prog 3) b1 w.heap.size n1 D1 left cnt ∧ Hid (Own wr b2 n2 D2) ∧ Hid (w.grownBy wr none) ∧ Hid (∀ r ∈ L, left (kl r) = false → L.count r = M.count r))
   (fun _ wr => wr.rangeLeft b1 w.heap.size)
  case atStart =>
   refine ⟨_, _, hrg0, h2.kept hg0 (by simp), hg0, fun r hr h => ?_⟩
   rw [(K1.out _).2 ⟨r, hr, rfl⟩] at h
   cases h
  case round =>
   obtain ⟨left, cnt, hrg, h2r, hgw, G⟩ := hrel
   clear h1 h2 l1 l2 hrg0 hg0 hs0
   go_wp2_with (first
    | (at_next; refine wpList_next_ranges _ rfl _ rfl 72 rowKeyed (plainElem Try.prog 3) id (Value.int .i64) (fun key _ _ => ⟨key, rfl⟩) (fun v y hy => by obtain ⟨c, rfl, _⟩ := plainElem_int_inv Try.underlying3 hy; exact ⟨c, rfl⟩) b1 w.heap.size n1 _ _ _ rfl hrg ?_ ?_)
    | go_in)
   ·intro _ hl0
    have hall := counts_equal H1.out H2.out K1.out K2.out HL.out HM.out (by rw [← Z1.out, ← Z2.out]) fun r hr => G.out r hr (hl0 _)
    have HA := Lib.hid hall
    clear hall hl0
    go_wp2
    go_ret
    exact ⟨by rw [HA.out]; rfl, hgw.out⟩
   ·intro x c kx yd yp w2 cnt1 hkey hlx hv hat hrg1 hlt hg1 hs1 hen
    obtain ⟨r, hr, rfl⟩ := (K1.out kx).1 (has_true_of_atKey hat)
    have hrw := HL.out r hr
    have hx : x = r.val := rowKeyed.inj hkey (keyRow r hrw)
    subst hx
    obtain ⟨c', ec, ey, -⟩ := plainElem_int_inv Try.underlying3 hv
    injection ec with _ ec
    subst ec
    injection ey with ey1 ey2
    subst ey1 ey2
    have hcc : (DataW.lit (Lit.int .i64 c) : DataW Unit) = .lit (.int .i64 ((L.count r : Nat) : Int)) := (hat (.lit (.int .i64 0))).symm.trans (A1.out r hrw)
    injection hcc with hcc
    injection hcc with _ hcc
    subst hcc
    have hen' : (Instr.entry (.pointer (some ⟨w.heap.size, 0, none⟩))).run Try.prog w2 = .ok (.tuple #[.agg #[.int .i64 r.key, .int .i64 r.value, .int .i64 r.width], .int .i64 (L.count r)]) w2 := hen
    have hgw1 : w.grownBy w2 none := hgw.out.andThen hg1 (fun j hj => by cases hj; exact Or.inl (Nat.le_refl _))
    have h2w1 := h2r.out.kept hg1 (fun e => by have := Option.some.inj e; omega)
    have h2a : Own (w2.alloc (.cells #[.int .i64 r.key, .int .i64 r.value, .int .i64 r.width] 72)) b2 n2 D2 := h2w1.alloc _
    have hga : w.grownBy (w2.alloc (.cells #[.int .i64 r.key, .int .i64 r.value, .int .i64 r.width] 72)) none := hgw1.trans (World.grownBy_alloc w2 _ none)
    have HRG := Lib.hid hrg1
    have HGA := Lib.hid hga
    have hkr := keyRow r hrw
    have hpos := List.count_pos_iff.2 hr
    have hat2 : D2.atKey (kl r) (.lit (.int .i64 0)) = .lit (.int .i64 ((M.count r : Nat) : Int)) := A2.out r hrw
    clear hen hat hkey hv hgw1 h2w1 hga hrg1 hg1
    unfold R.val at hkr ⊢
    obtain ⟨x1, hx1⟩ : ∃ x, x = L.count r := ⟨_, rfl⟩
    obtain ⟨x2, hx2⟩ : ∃ x, x = M.count r := ⟨_, rfl⟩
    simp only [← hx1] at hen' hpos ⊢
    simp only [← hx2] at hat2
    have X1 := Lib.hid hx1
    have X2 := Lib.hid hx2
    clear hx1 hx2
    by_cases hcm : x1 = x2
    ·subst hcm
     have hh : Maps.has D2 (kl r) = true := (K2.out _).2 ⟨r, List.count_pos_iff.1 (by rw [← X2.out]; exact hpos), rfl⟩
     go_wp2_with (first
      | (at_lookup; refine wpList_lookup_own_ok_int _ rfl _ _ 127 rfl 72 3 .i64 rowKeyed Try.underlying127 Try.underlying3 (zeroInt _) b2 n2 D2 rfl h2a _ (kl r) rfl hkr ?_; intro c2 hc2 hwc2; rw [hh]; go_frame; rw [hat2] at hc2; injection hc2 with hc2; injection hc2 with _ hc2; subst hc2)
      | go_in)
     have hga2 := HRG.out.alloc (.cells #[.int .i64 r.key, .int .i64 r.value, .int .i64 r.width] 72)
     go_roundw
     case rel =>
      refine ⟨_, cnt1, hga2, h2a, HGA.out, fun s hs hl => ?_⟩
      cases hls : left (kl s) with
      | false => exact G.out s hs hls
      | true =>
       rw [hls, Bool.true_and, Bool.not_eq_false'] at hl
       rw [kl_inj (HL.out s hs) hrw (WideAt.sameKey_eq hl), ← X1.out, ← X2.out]
     case measure => rw [hga2.left_eq, hrg.left_eq]; exact hlt
    ·have hbad : R.eqBags L M = false := by
      cases he : R.eqBags L M with
      | false => rfl
      | true => exact absurd (by rw [X1.out, X2.out]; exact R.eqBags_iff.1 he r) hcm
     have HB := Lib.hid hbad
     clear hbad
     have hcm' : ¬ (x1 : Int) = x2 := by omega
     cases hh : Maps.has D2 (kl r) with
     | true =>
      go_wp2_with (first
       | (at_lookup; refine wpList_lookup_own_ok_int _ rfl _ _ 127 rfl 72 3 .i64 rowKeyed Try.underlying127 Try.underlying3 (zeroInt _) b2 n2 D2 rfl h2a _ (kl r) rfl hkr ?_; intro c2 hc2 hwc2; rw [hh]; go_frame; rw [hat2] at hc2; injection hc2 with hc2; injection hc2 with _ hc2; subst hc2)
       | go_in)
      go_ret
      exact ⟨by rw [HB.out]; rfl, HGA.out⟩
     | false =>
      go_wp2_with (first
       | (at_lookup; refine wpList_lookup_own_ok_int _ rfl _ _ 127 rfl 72 3 .i64 rowKeyed Try.underlying127 Try.underlying3 (zeroInt _) b2 n2 D2 rfl h2a _ (kl r) rfl hkr ?_; intro c2 hc2 hwc2; rw [hh]; go_frame; rw [hat2] at hc2; injection hc2 with hc2; injection hc2 with _ hc2; subst hc2)
       | go_in)
      go_ret
      exact ⟨by rw [HB.out]; rfl, HGA.out⟩
 ·have hbad : R.eqBags L M = false := by
   cases he : R.eqBags L M with
   | false => rfl
   | true => exact absurd (by rw [Z1.out, Z2.out]; exact counts_sizes H1.out H2.out K1.out K2.out he) hsz
  have HB := Lib.hid hbad
  clear hbad h1 h2
  go_enter Try.func136, Try.ntmps136
  go_wp2_with fail
  go_ret
  exact ⟨by rw [HB.out]; rfl, World.grownBy.refl _ _⟩
theorem Own.keep {w w' : World} {b n : Nat} {D : DataW Unit} (h : Own w b n D) (hb : Below w.heap.size w w') : Own w' b n D := h.heap (hb.block b h.lt)
theorem below_grown {w w' : World} (h : w.grownBy w' none) : Below w.heap.size w w' := (Below.refl _ _).grown h (Nat.le_refl _) (fun k hk => by cases hk)
set_option maxRecDepth 100000 in
theorem ieqbags (a a' : Option Addr) (len cap len' cap' : Nat) (L M : List R) (w : World) (h : IsRows w a len L) (h' : IsRows w a' len' M) (hlen : len ≤ 100000000000) (hlen' : len' ≤ 100000000000) :
  Calls Try.prog 130 #[.slice a len cap, .slice a' len' cap'] w fun e w' => e = .returned (.bool (R.eqBags L M)) ∧ Below w.heap.size w w' := by
 have HW := Lib.hid h.2.1
 have HW' := Lib.hid h'.2.1
 have HI := Lib.hid h
 have HI' := Lib.hid h'
 clear h h'
 go_enter Try.func130, Try.ntmps130
 go_wp2_with fail
 refine (icounts a len cap L _ HI.out hlen).mono ?_
 rintro e w1 ⟨m1, D1, rfl, -, o1, t1, k1, b1⟩
 have O1 := Lib.hid o1
 have T1 := Lib.hid t1
 have K1 := Lib.hid k1
 have B1 := Lib.hid b1
 have I1 := Lib.hid (HI'.out.keep b1)
 clear o1 t1 k1 b1
 go_wp2_with fail
 refine (icounts a' len' cap' M _ I1.out hlen').mono ?_
 rintro e w2 ⟨m2, D2, rfl, -, o2, t2, k2, b2⟩
 have HC := Lib.hid (mapsequal m1 m2 len len' D1 D2 L M w2 (O1.out.keep b2) o2 T1.out t2 K1.out k2 HW.out HW'.out)
 have B2 := Lib.hid (B1.out.trans (b2.mono B1.out.size))
 clear o2 t2 k2 b2
 go_wp2_with fail
 refine HC.out.mono ?_
 rintro e w3 ⟨rfl, g3⟩
 have B3 := Lib.hid (B2.out.trans ((below_grown g3).mono B2.out.size))
 clear g3
 go_wp2_with fail
 go_ret
 exact ⟨rfl, B3.out⟩
end Go.Proofs.Ytpnbnbhifpcelaa
/- EqualBags and slices.Equal at rows, the program's: told by trees: told by trees. -/
namespace Go.Proofs.Ytpnbnbhifpcelaa
open Go Go.RowKit V
set_option linter.unusedVariables false
theorem vbags_i (L M : List R) (hL : ∀ r ∈ L, r.wf) (hM : ∀ r ∈ M, r.wf) (hl : L.length ≤ 1000000000) (hm : M.length ≤ 1000000000) : VC Try.prog 130 [(false, [.seq 72 (L.map tRow)]), (false, [.seq 72 (M.map tRow)])] false [(false, [.lit (.bool (R.eqBags L M))])] := fun w vs hv => by
 obtain ⟨k, vs', rfl, h1, h2⟩ := hv.shape (Fits.slice 72 Fits.row) hL
 obtain ⟨q, vs', rfl, h4, h5⟩ := h2.shape (Fits.slice 72 Fits.row) hM
 rw [h5.none]
 have e : k.2.1 = L.length := h1.1.1.symm
 have e' : q.2.1 = M.length := h4.1.1.symm
 exact (ieqbags k.1 q.1 k.2.1 k.2.2 q.2.1 q.2.2 L M w (rows_in h1.1) (rows_in h4.1) (by omega) (by omega)).mono fun e w' he => Gives.plain (ag := false) (rs := [.bool (R.eqBags L M)]) (oneM rfl) he
theorem veqrows_i (L M : List R) (hL : ∀ r ∈ L, r.wf) (hM : ∀ r ∈ M, r.wf) (hl : L.length ≤ 1000000000) (hm : M.length ≤ 1000000000) : VC Try.prog 87 [(false, [.seq 72 (L.map tRow)]), (false, [.seq 72 (M.map tRow)])] false [(false, [.lit (.bool (decide (L = M)))])] := fun w vs hv => by
 obtain ⟨k, vs', rfl, h1, h2⟩ := hv.shape (Fits.slice 72 Fits.row) hL
 obtain ⟨q, vs', rfl, h4, h5⟩ := h2.shape (Fits.slice 72 Fits.row) hM
 rw [h5.none]
 have e : k.2.1 = L.length := h1.1.1.symm
 have e' : q.2.1 = M.length := h4.1.1.symm
 exact (ieqrows k.1 q.1 k.2.1 k.2.2 q.2.1 q.2.2 L M w (rows_in h1.1) (rows_in h4.1) (by omega) (by omega)).mono fun e w' he => Gives.plain (ag := false) (rs := [.bool (decide (L = M))]) (oneM rfl) he
end Go.Proofs.Ytpnbnbhifpcelaa
/- 'make([]T, 0, n)': told by trees. -/
namespace Go.Proofs.Ytpnbnbhifpcelaa.V
open Go Go.RowKit
variable {E : Env} {N : Nat} {σ : VS} {o : Oper}
theorem ok_make0 {d : Nat} {t ty : TypeId} {n bytes : Nat} {z : Value} {x y : Operand} {c0 : Nat} {kl kc : IntKind} (I : ElT t ty n z bytes) {kk : Nat} (hk : σ.nx = kk) (ho : o.op = .makeSlice t x y) (hx : σ.ev x = V.one (.sc (.int kl 0))) (hy : σ.ev y = V.one (.sc (.int kc (c0 : Nat)))) (hl : c0 ≤ 350000000000)
  (hd : o.dst = some d) (hdN : d < N) : OpMk Try.prog E N none σ o ((σ.new (.seq ty [])).put d (V.one (.hd kk))) :=
 fun a w G K Q h k => by
  subst hk
  obtain ⟨i0, hi, hz0, hz1, hz2⟩ := info_parts I.inf
  have hby : i0.bytes * c0 ≤ 281474976710656 := by
   have h1 : i0.bytes * c0 ≤ 400 * 350000000000 := Nat.mul_le_mul (by rw [hz2]; exact I.small) hl
   omega
  have hrun := run_make (P := Try.prog) w t ty i0 z I.und hi hz0 kl kc 0 c0 (Int.le_refl _) (by omega) (by
   have h1 : ((i0.bytes * c0 : Nat) : Int) ≤ 281474976710656 := by omega
   rwa [Int.natCast_mul] at h1) (by omega)
  simp only [Int.toNat_natCast, Int.toNat_zero, hz1] at hrun
  have hown := World.ownsRow_made (base := 0) (w := w) (e := ty) (size := n) (madeCells z.cells (c0 * n)) c0 (Nat.zero_le _) (by unfold maxLen; omega) (size_madeCells _ _)
  obtain ⟨G', hG', ⟨hvl, hvls, hβs⟩, -, -⟩ := h.renew [] (fun x hx => by cases hx) (w' := w.alloc (.cells (madeCells z.cells (c0 * n)) ty)) (t := .seq ty []) (v := .slice (some ⟨w.heap.size, 0, none⟩) 0 c0) (F := fun b => b = w.heap.size) (fun _ => False) (.of_below ((Below.refl _ _).alloc h.low _)) (fun k hk _ => Below.heap_alloc _ _ _ hk) (fun b hb => hb.elim)
   (.seq n I.pos I.sz (fun e he => by cases he) [] (Row.of hown) (fun _ _ => False) (fun k e j t u he hj hu => by simp at he)
    (fun u hu => by cases hu) (fun b hb => by cases hb; rfl) (fun q b hb => hb.elim) (fun q b hb => hb.elim) fun q q' b hb => hb.elim)
   ⟨_, _, rfl⟩ fun b hb => ⟨by subst hb; exact ⟨.inl h.low, by simp⟩, .inl (h.fresh (by rw [hb]; exact Nat.le_refl _))⟩
  refine wp_value (v := .slice (some ⟨w.heap.size, 0, none⟩) 0 c0) (w' := w.alloc (.cells (madeCells z.cells (c0 * n)) ty)) ?_ (by rw [hd]; exact k _ _ _ (hG'.put hdN (vone.2 ⟨⟨Nat.lt_succ_self _, hvl.symm⟩, .inr rfl⟩)) ⟨by simp, .of_below ((Below.refl _ _).alloc h.low _), hvls, fun b _ => by rw [hβs], fun b hb => .inl (Below.heap_alloc _ _ _ hb), fun i e1 e2 b e3 => .inl (by
   have hi : i = σ.nx := Nat.le_antisymm (Nat.le_of_lt_succ e2) e1
   rw [hi, hvl] at e3
   rw [← Option.some.inj e3]; exact Nat.le_refl _)⟩)
  have hxv := h.sc hx
  have hyv := h.sc hy
  simp [execOp, ho, hxv, hyv, hrun, Result.andThen]
end Go.Proofs.Ytpnbnbhifpcelaa.V
/- The program's MergeSorted: told by trees. -/
namespace Go.Proofs.Ytpnbnbhifpcelaa
open Go Go.RowKit V
set_option linter.unusedVariables false
def nextOf (a b : List R) : Bool := match a, b with
 | [], b => b.isEmpty
 | _ :: _, [] => true
 | x :: _, y :: _ => decide (R.cmp x y ≤ 0)
theorem nextOf_none {a b : List R} (h : a.length = 0 ∨ b.length = 0) : nextOf a b = decide (b.length = 0) := by
 cases a with
 | nil => cases b <;> simp [nextOf]
 | cons x a => cases b with
  | nil => simp [nextOf]
  | cons y b => simp at h
theorem nextOf_both {a b : List R} {x y : R} (hx : a[0]? = some x) (hy : b[0]? = some y) : nextOf a b = decide (R.cmp x y ≤ 0) := by
 cases a with
 | nil => simp at hx
 | cons x' a => cases b with
  | nil => simp at hy
  | cons y' b => simp at hx hy; subst hx hy; rfl
theorem next_left {a b : List R} {i k : Nat} (h : nextOf (a.drop i) (b.drop k) = true) (hn : i < a.length ∨ k < b.length) : ∃ x, a[i]? = some x ∧ i < a.length ∧ Runs.merge2 (a.drop i) (b.drop k) = x :: Runs.merge2 (a.drop (i + 1)) (b.drop k) := by
 rcases Nat.lt_or_ge i a.length with hi | hi
 ·have hx : a[i]? = some a[i] := List.getElem?_eq_getElem hi
  rcases Nat.lt_or_ge k b.length with hk | hk
  ·have hy : b[k]? = some b[k] := List.getElem?_eq_getElem hk
   rw [nextOf_both (x := a[i]) (y := b[k]) (by rw [List.getElem?_drop, Nat.add_zero]; exact hx) (by rw [List.getElem?_drop, Nat.add_zero]; exact hy)] at h
   exact ⟨_, hx, hi, Runs.m_left hx hy (of_decide_eq_true h)⟩
  ·exact ⟨_, hx, hi, Runs.m_last hx hk⟩
 ·rw [nextOf_none (.inl (by simp; omega))] at h
  have := of_decide_eq_true h
  simp at this
  omega
theorem next_right {a b : List R} {i k : Nat} (h : nextOf (a.drop i) (b.drop k) = false) (hn : i < a.length ∨ k < b.length) : ∃ y, b[k]? = some y ∧ k < b.length ∧ Runs.merge2 (a.drop i) (b.drop k) = y :: Runs.merge2 (a.drop i) (b.drop (k + 1)) := by
 rcases Nat.lt_or_ge k b.length with hk | hk
 ·have hy : b[k]? = some b[k] := List.getElem?_eq_getElem hk
  rcases Nat.lt_or_ge i a.length with hi | hi
  ·have hx : a[i]? = some a[i] := List.getElem?_eq_getElem hi
   rw [nextOf_both (x := a[i]) (y := b[k]) (by rw [List.getElem?_drop, Nat.add_zero]; exact hx) (by rw [List.getElem?_drop, Nat.add_zero]; exact hy)] at h
   exact ⟨_, hy, hk, Runs.m_right hx hy (of_decide_eq_false h)⟩
  ·exact ⟨_, hy, hk, Runs.m_rest hi hy⟩
 ·rw [nextOf_none (.inr (by simp; omega))] at h
  exact absurd (by simp; omega) (of_decide_eq_false h)
set_option maxRecDepth 100000 in
set_option maxHeartbeats 2000000 in
theorem vnext_i (a b : List R) : VC Try.prog 97 [(false, [.seq 72 ((a).map tRow)]), (false, [.seq 72 ((b).map tRow)])] false [(false, [.lit (.bool (nextOf a b))])] := by
 refine VC.enter Try.func97 rfl Try.ntmps97 (gle rfl) fun E hE => ?_
 refine SV.seq' (SV.region ?_)
 refine sl 0 ms ?_
 refine SV.nil (SV.tn (SV.seq' (SV.seq' (SV.region ?_))))
 refine sl 0 (mv (V.one (.ro _))) ?_
 refine sl 0 (ok_len (lf := .ro _) rfl elt_impl_Row.und rfl rfl) ?_
 refine sl 0 (s2 (.tmp 6) (.const ((Value.int IntKind.i64 0)))) ?_
 refine sl 0 ms ?_
 refine SV.split (d := 8) rfl (fun hg0 => ?_) (fun hg0 => ?_)
 ·skip   -- g0.T
  have hz : a.length = 0 ∨ b.length = 0 := .inl (by first | (simpa using hg0) | (simp at hg0; omega) | (simp at hg0; rw [hg0]; rfl))
  have hno := nextOf_none hz
  refine sn ?_
  refine sn ?_
  refine sn ?_
  refine sl 0 pt ?_
  refine SV.nil (SV.tn ?_)
  refine SV.cond rfl (fun hc0 => ?_) (fun hc0 => ?_)
  ·skip   -- c0.T
   refine SV.seq' (SV.region ?_)
   refine sl 0 (mv (V.one (.ro _))) ?_
   refine sl 0 (ok_len (lf := .ro _) rfl elt_impl_Row.und rfl rfl) ?_
   refine sl 0 (s2 (.tmp 14) (.const ((Value.int IntKind.i64 0)))) ?_
   refine sl 0 ms ?_
   refine SV.nil (SV.tn (SV.ret (SV.tr ?_)))
   refine d1 (.sc _) Try.results97 ?_ <;> (refine lbq ?_; (rw [hno]; first | done | rfl | (rw [Bool.eq_iff_iff]; simp; done) | (simp; done) | (simp; exact List.length_eq_zero_iff.1 (by simpa using hc1))))
  ·skip   -- c0.F
   cases hc0
 ·skip   -- g0.F
  have hla : 0 < a.length := by rcases Nat.eq_zero_or_pos a.length with h | h; (exfalso; simp [h] at hg0); (exact h)
  obtain ⟨x, hx⟩ : ∃ z, a[0]? = some z := ⟨_, List.getElem?_eq_getElem hla⟩
  refine sy 0 (mv (V.one (.ro _))) ?_
  refine sy 0 (ok_len (lf := .ro _) rfl elt_impl_Row.und rfl rfl) ?_
  refine sy 0 (s2 (.tmp 10) (.const ((Value.int IntKind.i64 0)))) ?_
  refine sl 0 pf ?_
  refine SV.nil (SV.tn ?_)
  refine SV.cond rfl (fun hc1 => ?_) (fun hc1 => ?_)
  ·skip   -- c1.T
   have hz : a.length = 0 ∨ b.length = 0 := .inr (by first | (simpa using hc1) | (simp at hc1; omega) | (simp at hc1; rw [hc1]; rfl))
   have hno := nextOf_none hz
   refine SV.seq' (SV.region ?_)
   refine sl 0 (mv (V.one (.ro _))) ?_
   refine sl 0 (ok_len (lf := .ro _) rfl elt_impl_Row.und rfl rfl) ?_
   refine sl 0 (s2 (.tmp 14) (.const ((Value.int IntKind.i64 0)))) ?_
   refine sl 0 ms ?_
   refine SV.nil (SV.tn (SV.ret (SV.tr ?_)))
   refine d1 (.sc _) Try.results97 ?_ <;> (refine lbq ?_; (rw [hno]; first | done | rfl | (rw [Bool.eq_iff_iff]; simp; done) | (simp; done) | (simp; exact List.length_eq_zero_iff.1 (by simpa using hc1))))
  ·skip   -- c1.F
   have hlb : 0 < b.length := by rcases Nat.eq_zero_or_pos b.length with h | h; (exfalso; simp [h] at hc1); (exact h)
   obtain ⟨y, hy⟩ : ∃ z, b[0]? = some z := ⟨_, List.getElem?_eq_getElem hlb⟩
   have hno := nextOf_both hx hy
   refine SV.skip (SV.tn (SV.seq' ?_))
   refine SV.draw [.q 0, .q 1, .q 2, .q 3, .q 4, .q 5, .m 6, .q 7, .q 8] [] (by kernel_rfl) (by kernel_rfl) ?_
   refine dq rfl (mv (V.one (.ro _))) ?_
   refine dq rfl (ok_index (n := 3) (lf := .ro _) rfl elt_impl_Row.und sz_impl_Row rfl rfl rfl (map_at hx)) ?_
   refine dq rfl (ok_load_rp (ag := true) (m := 3) (ys := [.sc _, .sc _, .sc _]) rfl rfl agg_impl_Row sz_impl_Row (fun h => by cases h) (gle rfl) rfl) ?_
   refine dq rfl (mv (V.one (.ro _))) ?_
   refine dq rfl (ok_index (n := 3) (lf := .ro _) rfl elt_impl_Row.und sz_impl_Row rfl rfl rfl (map_at hy)) ?_
   refine dq rfl (ok_load_rp (ag := true) (m := 3) (ys := [.sc _, .sc _, .sc _]) rfl rfl agg_impl_Row sz_impl_Row (fun h => by cases h) (gle rfl) rfl) ?_
   refine DW.m [] rfl (cl [(false, [.sc _])] rfl Try.func109 (vcmp_i x y) ⟨⟨[.sc _, .sc _, .sc _], rfl, ⟨rfl, rfl, rfl, trivial⟩⟩, ⟨[.sc _, .sc _, .sc _], rfl, ⟨rfl, rfl, rfl, trivial⟩⟩, trivial⟩) rfl (gle rfl) (gle rfl) (.inl rfl) (fun j hj => by cases hj) ?_
   refine dq rfl (s2 (.tmp 22) (.const ((Value.int IntKind.i64 0)))) ?_
   refine dq rfl ms ?_
   refine DW.stores ?_
   refine SV.zend ?_
   refine SV.tn (SV.ret ?_)
   refine d1 (.sc _) Try.results97 ?_ <;> (refine lbq ?_; (rw [hno]; first | done | rfl | (rw [Bool.eq_iff_iff]; simp; done) | (simp; done) | (simp; exact List.length_eq_zero_iff.1 (by simpa using hc1))))
set_option maxRecDepth 100000 in
set_option maxHeartbeats 2000000 in
theorem vms_i (a b : List R) (hA : ∀ r ∈ a, r.wf) (hB : ∀ r ∈ b, r.wf) (hL : a.length + b.length ≤ 1000000000) : VC Try.prog 40 [(false, [.seq 72 ((a).map tRow)]), (false, [.seq 72 ((b).map tRow)])] false [(false, [.seq 72 ((Runs.merge2 a b).map tRow)])] := by
 refine VC.enter Try.func40 rfl Try.ntmps40 (gle rfl) fun E hE => ?_
 refine SV.seq' (SV.region ?_)
 refine sl 0 ms ?_
 refine SV.nil (SV.tn (SV.seq' (SV.region ?_)))
 refine sl 0 (mv (V.one (.ro _))) ?_
 refine sl 0 (ok_len (lf := .ro _) rfl elt_impl_Row.und rfl rfl) ?_
 refine sl 0 (mv (V.one (.ro _))) ?_
 refine sl 0 (ok_len (lf := .ro _) rfl elt_impl_Row.und rfl rfl) ?_
 refine sl 0 (ok_s2 (v := .int .i64 ((a.length + b.length : Nat) : Int)) (x := .tmp 7) (x' := .tmp 9) (VScal.one rfl) (VScal.one rfl) (fun ρ h1 h2 w => by go_simp; rw [IntWalk.i64_left, IntWalk.wrap64_in _ ⟨by omega, by omega⟩]) rfl) ?_
 refine sm (ok_make0 (kk := 0) elt_impl_Row rfl rfl rfl rfl (by first | omega | (simp only [List.length_map]; omega) | (simp; done) | (simp; omega)) rfl (gle rfl)) ?_
 refine sl 0 (mv (V.one (.hd 0))) ?_
 refine SV.nil (SV.tn (SV.seq' (SV.block ?_)))
 refine SV.loopF (X := Nat × Nat × List R) (fun (σ : VS) z => (((((VS.nil.new (.seq 72 (z.2.2.map tRow))).put 0 (V.flat false [.ro (.seq 72 ((a.drop z.1).map tRow))])).put 1 (V.flat false [.ro (.seq 72 ((b.drop z.2.1).map tRow))])).put 4 (σ.tm 4)).put 5 (V.flat false [.hd 0]))) (fun z => z.1 ≤ a.length ∧ z.2.1 ≤ b.length ∧ z.2.2 ++ Runs.merge2 (a.drop z.1) (b.drop z.2.1) = Runs.merge2 a b) (fun z => (a.length - z.1) + (b.length - z.2.1)) ?_ ?_
 ·skip
  refine SV.again (fun i => [0].getD i 0) (0, 0, []) (⟨Nat.zero_le _, Nat.zero_le _, rfl⟩) (pins hE rfl rfl) (VS.le.mk' (le_put (le_put (le_put (le_put (le_new le_nil) (V.le.keep (ag := false) (xs := [.ro _]) (ys := [.ro _]) rfl rfl ⟨(by first | rfl | (show Leaf.ro _ = Leaf.ro _; refine congrArg Leaf.ro (congrArg (T.seq _) ?_); (rw [hz]; first | done | rfl | (simp [List.map_drop, List.drop_drop, Nat.add_comm]; done) | (simp [List.map_drop, List.map_take, List.drop_drop, Nat.add_comm]; rw [List.take_of_length_le (by simp), List.tail_drop])))), trivial⟩)) (V.le.keep (ag := false) (xs := [.ro _]) (ys := [.ro _]) rfl rfl ⟨(by first | rfl | (show Leaf.ro _ = Leaf.ro _; refine congrArg Leaf.ro (congrArg (T.seq _) ?_); (rw [hz]; first | done | rfl | (simp [List.map_drop, List.drop_drop, Nat.add_comm]; done) | (simp [List.map_drop, List.map_take, List.drop_drop, Nat.add_comm]; rw [List.take_of_length_le (by simp), List.tail_drop])))), trivial⟩)) (V.le.keep (ag := false) (xs := [.sc _]) (ys := [.sc _]) rfl rfl ⟨rfl, trivial⟩)) (V.le.keep (ag := false) (xs := [.hd 0]) (ys := [.hd 0]) rfl rfl ⟨⟨rfl, (gle rfl), (gle rfl)⟩, trivial⟩)) trivial ⟨.inr ⟨_, _, rfl, ?ob1_0, (gle rfl)⟩, trivial⟩ (new_ob nil_ob) (fun i j hi hj e => inj_list (l := [0]) (by decide) i j hi hj e))
  case ob1_0 =>
   show some (T.seq _ _) = some (T.seq _ _)
   rfl
 ·rintro ⟨i, k, o⟩ ⟨hi, hk, ho⟩
  dsimp only at hi hk ho
  have hol : o.length + (a.length - i + (b.length - k)) = a.length + b.length := by have h := congrArg List.length ho; rw [List.length_append, Runs.merge2_length, Runs.merge2_length, List.length_drop, List.length_drop] at h; exact h
  have hnx := vnext_i (a.drop i) (b.drop k)
  refine SV.seq' (SV.seq' (SV.region ?_))
  refine sl 0 (mv (V.one (.ro _))) ?_
  refine sl 0 (ok_len (lf := .ro _) rfl elt_impl_Row.und rfl rfl) ?_
  refine sl 0 (s2 (.tmp 13) (.const ((Value.int IntKind.i64 0)))) ?_
  refine sl 0 ms ?_
  refine SV.split (d := 15) rfl (fun hg0 => ?_) (fun hg0 => ?_)
  ·skip   -- g0.T
   have hor : i < a.length ∨ k < b.length := .inl (by simp at hg0; omega)
   refine sn ?_
   refine sn ?_
   refine sn ?_
   refine sl 0 pt ?_
   refine SV.nil (SV.tn ?_)
   refine SV.cond rfl (fun hc0 => ?_) (fun hc0 => ?_)
   ·skip   -- c0.T
    refine SV.skip (SV.tn (SV.block (SV.seq' (SV.region ?_))))
    refine sl 0 (mv (V.one (.ro _))) ?_
    refine sl 0 (mv (V.one (.ro _))) ?_
    refine sm (cl [(false, [.sc _])] rfl Try.func97 (hnx) ⟨⟨[.ro _], rfl, ⟨rfl, trivial⟩⟩, ⟨[.ro _], rfl, ⟨rfl, trivial⟩⟩, trivial⟩) ?_
    refine SV.nil (SV.tn ?_)
    refine SV.cond rfl (fun hc1 => ?_) (fun hc1 => ?_)
    ·skip   -- c1.T
     have hnt : nextOf (a.drop i) (b.drop k) = true := by simpa using hc1
     obtain ⟨x, hx, hil, hstep⟩ := next_left hnt hor
     have hx0 : (a.drop i)[0]? = some x := by rw [List.getElem?_drop, Nat.add_zero]; exact hx
     obtain ⟨z', hz⟩ : ∃ z' : Nat × Nat × List R, z' = (i + 1, k, o ++ [x]) := ⟨_, rfl⟩
     have hz2 : (z'.1 ≤ a.length ∧ z'.2.1 ≤ b.length ∧ z'.2.2 ++ Runs.merge2 (a.drop z'.1) (b.drop z'.2.1) = Runs.merge2 a b) ∧ (a.length - z'.1) + (b.length - z'.2.1) < (a.length - i) + (b.length - k) := by
      rw [hz]
      refine ⟨⟨by show i + 1 ≤ a.length; omega, by show k ≤ b.length; omega, ?_⟩, by show (a.length - (i + 1)) + (b.length - k) < _; omega⟩
      show (o ++ [x]) ++ _ = _
      rw [List.append_assoc, ← ho, hstep]
      rfl
     refine SV.seq' (SV.region ?_)
     refine sl 0 (mv (V.one (.hd 0))) ?_
     refine sl 0 (mv (V.one (.ro _))) ?_
     refine sl 0 (ok_index (n := 3) (lf := .ro _) rfl elt_impl_Row.und sz_impl_Row rfl rfl rfl (map_at hx0)) ?_
     refine sl 0 (ok_load_rp (ag := true) (m := 3) (ys := [.sc _, .sc _, .sc _]) rfl rfl agg_impl_Row sz_impl_Row (fun h => by cases h) (gle rfl) rfl) ?_
     refine sm (ok_lit1 (kk := 1) elt_impl_Row (ag := true) (xs := [.sc _, .sc _, .sc _]) rfl rfl rfl rfl (fun h => by cases h) (outs_c rfl (outs_c rfl (outs_c rfl outs_n))) (by simp [two]) rfl (gle rfl)) ?_
     refine sm (ok_append (kk := 2) elt_impl_Row (ls := .hd 0) (lx := .hd 1) rfl rfl rfl rfl rfl rfl (by intro i h1 h2; first | (cases h1; done) | (cases h1; cases h2)) (by first | omega | (simp only [List.length_map]; omega) | (simp; done) | (simp; omega)) rfl (gle rfl)) ?_
     refine sl 0 (mv (V.one (.hd 2))) ?_
     refine SV.nil (SV.tn (SV.region ?_))
     refine sl 0 (mv (V.one (.ro _))) ?_
     refine sl 0 (ok_slice (l := 1) (h := ((a.drop i).map tRow).length) (lf := .ro _) (yy := .ro _) rfl rfl elt_impl_Row.und sz_impl_Row rfl rfl ⟨_, rfl⟩ rfl (by simp; omega) (Nat.le_refl _)) ?_
     refine sl 0 (mv (V.one (.ro _))) ?_
     refine SV.nil (SV.bn (SV.tn ?_))
     refine SV.again (fun i => [2].getD i 0) (z') (hz2) (pins hE rfl rfl) (VS.le.mk' (le_put (le_put (le_put (le_put (le_new le_nil) (V.le.keep (ag := false) (xs := [.ro _]) (ys := [.ro _]) rfl rfl ⟨(by first | rfl | (show Leaf.ro _ = Leaf.ro _; refine congrArg Leaf.ro (congrArg (T.seq _) ?_); (rw [hz]; first | done | rfl | (simp [List.map_drop, List.drop_drop, Nat.add_comm]; done) | (simp [List.map_drop, List.map_take, List.drop_drop, Nat.add_comm]; rw [List.take_of_length_le (by simp), List.tail_drop])))), trivial⟩)) (V.le.keep (ag := false) (xs := [.ro _]) (ys := [.ro _]) rfl rfl ⟨(by first | rfl | (show Leaf.ro _ = Leaf.ro _; refine congrArg Leaf.ro (congrArg (T.seq _) ?_); (rw [hz]; first | done | rfl | (simp [List.map_drop, List.drop_drop, Nat.add_comm]; done) | (simp [List.map_drop, List.map_take, List.drop_drop, Nat.add_comm]; rw [List.take_of_length_le (by simp), List.tail_drop])))), trivial⟩)) (V.le.keep (ag := false) (xs := [.sc _]) (ys := [.sc _]) rfl rfl ⟨rfl, trivial⟩)) (V.le.keep (ag := false) (xs := [.hd 2]) (ys := [.hd 0]) rfl rfl ⟨⟨rfl, (gle rfl), (gle rfl)⟩, trivial⟩)) trivial ⟨.inr ⟨_, _, rfl, ?ob2_0, (gle rfl)⟩, trivial⟩ (new_ob nil_ob) (fun i j hi hj e => inj_list (l := [2]) (by decide) i j hi hj e))
     case ob2_0 =>
      show some (T.seq _ _) = some (T.seq _ _)
      rw [hz]; first | done | rfl | (simp only [List.map_append]; rfl) | (simp [tRow]; done)
    ·skip   -- c1.F
     have hnt : nextOf (a.drop i) (b.drop k) = false := by simpa using hc1
     obtain ⟨y, hy, hkl, hstep⟩ := next_right hnt hor
     have hy0 : (b.drop k)[0]? = some y := by rw [List.getElem?_drop, Nat.add_zero]; exact hy
     obtain ⟨z', hz⟩ : ∃ z' : Nat × Nat × List R, z' = (i, k + 1, o ++ [y]) := ⟨_, rfl⟩
     have hz2 : (z'.1 ≤ a.length ∧ z'.2.1 ≤ b.length ∧ z'.2.2 ++ Runs.merge2 (a.drop z'.1) (b.drop z'.2.1) = Runs.merge2 a b) ∧ (a.length - z'.1) + (b.length - z'.2.1) < (a.length - i) + (b.length - k) := by
      rw [hz]
      refine ⟨⟨by show i ≤ a.length; omega, by show k + 1 ≤ b.length; omega, ?_⟩, by show (a.length - i) + (b.length - (k + 1)) < _; omega⟩
      show (o ++ [y]) ++ _ = _
      rw [List.append_assoc, ← ho, hstep]
      rfl
     refine SV.seq' (SV.region ?_)
     refine sl 0 (mv (V.one (.hd 0))) ?_
     refine sl 0 (mv (V.one (.ro _))) ?_
     refine sl 0 (ok_index (n := 3) (lf := .ro _) rfl elt_impl_Row.und sz_impl_Row rfl rfl rfl (map_at hy0)) ?_
     refine sl 0 (ok_load_rp (ag := true) (m := 3) (ys := [.sc _, .sc _, .sc _]) rfl rfl agg_impl_Row sz_impl_Row (fun h => by cases h) (gle rfl) rfl) ?_
     refine sm (ok_lit1 (kk := 1) elt_impl_Row (ag := true) (xs := [.sc _, .sc _, .sc _]) rfl rfl rfl rfl (fun h => by cases h) (outs_c rfl (outs_c rfl (outs_c rfl outs_n))) (by simp [two]) rfl (gle rfl)) ?_
     refine sm (ok_append (kk := 2) elt_impl_Row (ls := .hd 0) (lx := .hd 1) rfl rfl rfl rfl rfl rfl (by intro i h1 h2; first | (cases h1; done) | (cases h1; cases h2)) (by first | omega | (simp only [List.length_map]; omega) | (simp; done) | (simp; omega)) rfl (gle rfl)) ?_
     refine sl 0 (mv (V.one (.hd 2))) ?_
     refine SV.nil (SV.tn (SV.region ?_))
     refine sl 0 (mv (V.one (.ro _))) ?_
     refine sl 0 (ok_slice (l := 1) (h := ((b.drop k).map tRow).length) (lf := .ro _) (yy := .ro _) rfl rfl elt_impl_Row.und sz_impl_Row rfl rfl ⟨_, rfl⟩ rfl (by simp; omega) (Nat.le_refl _)) ?_
     refine sl 0 (mv (V.one (.ro _))) ?_
     refine SV.nil (SV.bn (SV.tn ?_))
     refine SV.again (fun i => [2].getD i 0) (z') (hz2) (pins hE rfl rfl) (VS.le.mk' (le_put (le_put (le_put (le_put (le_new le_nil) (V.le.keep (ag := false) (xs := [.ro _]) (ys := [.ro _]) rfl rfl ⟨(by first | rfl | (show Leaf.ro _ = Leaf.ro _; refine congrArg Leaf.ro (congrArg (T.seq _) ?_); (rw [hz]; first | done | rfl | (simp [List.map_drop, List.drop_drop, Nat.add_comm]; done) | (simp [List.map_drop, List.map_take, List.drop_drop, Nat.add_comm]; rw [List.take_of_length_le (by simp), List.tail_drop])))), trivial⟩)) (V.le.keep (ag := false) (xs := [.ro _]) (ys := [.ro _]) rfl rfl ⟨(by first | rfl | (show Leaf.ro _ = Leaf.ro _; refine congrArg Leaf.ro (congrArg (T.seq _) ?_); (rw [hz]; first | done | rfl | (simp [List.map_drop, List.drop_drop, Nat.add_comm]; done) | (simp [List.map_drop, List.map_take, List.drop_drop, Nat.add_comm]; rw [List.take_of_length_le (by simp), List.tail_drop])))), trivial⟩)) (V.le.keep (ag := false) (xs := [.sc _]) (ys := [.sc _]) rfl rfl ⟨rfl, trivial⟩)) (V.le.keep (ag := false) (xs := [.hd 2]) (ys := [.hd 0]) rfl rfl ⟨⟨rfl, (gle rfl), (gle rfl)⟩, trivial⟩)) trivial ⟨.inr ⟨_, _, rfl, ?ob3_0, (gle rfl)⟩, trivial⟩ (new_ob nil_ob) (fun i j hi hj e => inj_list (l := [2]) (by decide) i j hi hj e))
     case ob3_0 =>
      show some (T.seq _ _) = some (T.seq _ _)
      rw [hz]; first | done | rfl | (simp only [List.map_append]; rfl) | (simp [tRow]; done)
   ·skip   -- c0.F
    cases hc0
  ·skip   -- g0.F
   refine sy 0 (mv (V.one (.ro _))) ?_
   refine sy 0 (ok_len (lf := .ro _) rfl elt_impl_Row.und rfl rfl) ?_
   refine sy 0 (s2 (.tmp 17) (.const ((Value.int IntKind.i64 0)))) ?_
   refine sl 0 pf ?_
   refine SV.nil (SV.tn ?_)
   refine SV.cond rfl (fun hc2 => ?_) (fun hc2 => ?_)
   ·skip   -- c2.T
    have hor : i < a.length ∨ k < b.length := .inr (by simp at hc2; omega)
    refine SV.skip (SV.tn (SV.block (SV.seq' (SV.region ?_))))
    refine sl 0 (mv (V.one (.ro _))) ?_
    refine sl 0 (mv (V.one (.ro _))) ?_
    refine sm (cl [(false, [.sc _])] rfl Try.func97 (hnx) ⟨⟨[.ro _], rfl, ⟨rfl, trivial⟩⟩, ⟨[.ro _], rfl, ⟨rfl, trivial⟩⟩, trivial⟩) ?_
    refine SV.nil (SV.tn ?_)
    refine SV.cond rfl (fun hc3 => ?_) (fun hc3 => ?_)
    ·skip   -- c3.T
     have hnt : nextOf (a.drop i) (b.drop k) = true := by simpa using hc3
     obtain ⟨x, hx, hil, hstep⟩ := next_left hnt hor
     have hx0 : (a.drop i)[0]? = some x := by rw [List.getElem?_drop, Nat.add_zero]; exact hx
     obtain ⟨z', hz⟩ : ∃ z' : Nat × Nat × List R, z' = (i + 1, k, o ++ [x]) := ⟨_, rfl⟩
     have hz2 : (z'.1 ≤ a.length ∧ z'.2.1 ≤ b.length ∧ z'.2.2 ++ Runs.merge2 (a.drop z'.1) (b.drop z'.2.1) = Runs.merge2 a b) ∧ (a.length - z'.1) + (b.length - z'.2.1) < (a.length - i) + (b.length - k) := by
      rw [hz]
      refine ⟨⟨by show i + 1 ≤ a.length; omega, by show k ≤ b.length; omega, ?_⟩, by show (a.length - (i + 1)) + (b.length - k) < _; omega⟩
      show (o ++ [x]) ++ _ = _
      rw [List.append_assoc, ← ho, hstep]
      rfl
     refine SV.seq' (SV.region ?_)
     refine sl 0 (mv (V.one (.hd 0))) ?_
     refine sl 0 (mv (V.one (.ro _))) ?_
     refine sl 0 (ok_index (n := 3) (lf := .ro _) rfl elt_impl_Row.und sz_impl_Row rfl rfl rfl (map_at hx0)) ?_
     refine sl 0 (ok_load_rp (ag := true) (m := 3) (ys := [.sc _, .sc _, .sc _]) rfl rfl agg_impl_Row sz_impl_Row (fun h => by cases h) (gle rfl) rfl) ?_
     refine sm (ok_lit1 (kk := 1) elt_impl_Row (ag := true) (xs := [.sc _, .sc _, .sc _]) rfl rfl rfl rfl (fun h => by cases h) (outs_c rfl (outs_c rfl (outs_c rfl outs_n))) (by simp [two]) rfl (gle rfl)) ?_
     refine sm (ok_append (kk := 2) elt_impl_Row (ls := .hd 0) (lx := .hd 1) rfl rfl rfl rfl rfl rfl (by intro i h1 h2; first | (cases h1; done) | (cases h1; cases h2)) (by first | omega | (simp only [List.length_map]; omega) | (simp; done) | (simp; omega)) rfl (gle rfl)) ?_
     refine sl 0 (mv (V.one (.hd 2))) ?_
     refine SV.nil (SV.tn (SV.region ?_))
     refine sl 0 (mv (V.one (.ro _))) ?_
     refine sl 0 (ok_slice (l := 1) (h := ((a.drop i).map tRow).length) (lf := .ro _) (yy := .ro _) rfl rfl elt_impl_Row.und sz_impl_Row rfl rfl ⟨_, rfl⟩ rfl (by simp; omega) (Nat.le_refl _)) ?_
     refine sl 0 (mv (V.one (.ro _))) ?_
     refine SV.nil (SV.bn (SV.tn ?_))
     refine SV.again (fun i => [2].getD i 0) (z') (hz2) (pins hE rfl rfl) (VS.le.mk' (le_put (le_put (le_put (le_put (le_new le_nil) (V.le.keep (ag := false) (xs := [.ro _]) (ys := [.ro _]) rfl rfl ⟨(by first | rfl | (show Leaf.ro _ = Leaf.ro _; refine congrArg Leaf.ro (congrArg (T.seq _) ?_); (rw [hz]; first | done | rfl | (simp [List.map_drop, List.drop_drop, Nat.add_comm]; done) | (simp [List.map_drop, List.map_take, List.drop_drop, Nat.add_comm]; rw [List.take_of_length_le (by simp), List.tail_drop])))), trivial⟩)) (V.le.keep (ag := false) (xs := [.ro _]) (ys := [.ro _]) rfl rfl ⟨(by first | rfl | (show Leaf.ro _ = Leaf.ro _; refine congrArg Leaf.ro (congrArg (T.seq _) ?_); (rw [hz]; first | done | rfl | (simp [List.map_drop, List.drop_drop, Nat.add_comm]; done) | (simp [List.map_drop, List.map_take, List.drop_drop, Nat.add_comm]; rw [List.take_of_length_le (by simp), List.tail_drop])))), trivial⟩)) (V.le.keep (ag := false) (xs := [.sc _]) (ys := [.sc _]) rfl rfl ⟨rfl, trivial⟩)) (V.le.keep (ag := false) (xs := [.hd 2]) (ys := [.hd 0]) rfl rfl ⟨⟨rfl, (gle rfl), (gle rfl)⟩, trivial⟩)) trivial ⟨.inr ⟨_, _, rfl, ?ob4_0, (gle rfl)⟩, trivial⟩ (new_ob nil_ob) (fun i j hi hj e => inj_list (l := [2]) (by decide) i j hi hj e))
     case ob4_0 =>
      show some (T.seq _ _) = some (T.seq _ _)
      rw [hz]; first | done | rfl | (simp only [List.map_append]; rfl) | (simp [tRow]; done)
    ·skip   -- c3.F
     have hnt : nextOf (a.drop i) (b.drop k) = false := by simpa using hc3
     obtain ⟨y, hy, hkl, hstep⟩ := next_right hnt hor
     have hy0 : (b.drop k)[0]? = some y := by rw [List.getElem?_drop, Nat.add_zero]; exact hy
     obtain ⟨z', hz⟩ : ∃ z' : Nat × Nat × List R, z' = (i, k + 1, o ++ [y]) := ⟨_, rfl⟩
     have hz2 : (z'.1 ≤ a.length ∧ z'.2.1 ≤ b.length ∧ z'.2.2 ++ Runs.merge2 (a.drop z'.1) (b.drop z'.2.1) = Runs.merge2 a b) ∧ (a.length - z'.1) + (b.length - z'.2.1) < (a.length - i) + (b.length - k) := by
      rw [hz]
      refine ⟨⟨by show i ≤ a.length; omega, by show k + 1 ≤ b.length; omega, ?_⟩, by show (a.length - i) + (b.length - (k + 1)) < _; omega⟩
      show (o ++ [y]) ++ _ = _
      rw [List.append_assoc, ← ho, hstep]
      rfl
     refine SV.seq' (SV.region ?_)
     refine sl 0 (mv (V.one (.hd 0))) ?_
     refine sl 0 (mv (V.one (.ro _))) ?_
     refine sl 0 (ok_index (n := 3) (lf := .ro _) rfl elt_impl_Row.und sz_impl_Row rfl rfl rfl (map_at hy0)) ?_
     refine sl 0 (ok_load_rp (ag := true) (m := 3) (ys := [.sc _, .sc _, .sc _]) rfl rfl agg_impl_Row sz_impl_Row (fun h => by cases h) (gle rfl) rfl) ?_
     refine sm (ok_lit1 (kk := 1) elt_impl_Row (ag := true) (xs := [.sc _, .sc _, .sc _]) rfl rfl rfl rfl (fun h => by cases h) (outs_c rfl (outs_c rfl (outs_c rfl outs_n))) (by simp [two]) rfl (gle rfl)) ?_
     refine sm (ok_append (kk := 2) elt_impl_Row (ls := .hd 0) (lx := .hd 1) rfl rfl rfl rfl rfl rfl (by intro i h1 h2; first | (cases h1; done) | (cases h1; cases h2)) (by first | omega | (simp only [List.length_map]; omega) | (simp; done) | (simp; omega)) rfl (gle rfl)) ?_
     refine sl 0 (mv (V.one (.hd 2))) ?_
     refine SV.nil (SV.tn (SV.region ?_))
     refine sl 0 (mv (V.one (.ro _))) ?_
     refine sl 0 (ok_slice (l := 1) (h := ((b.drop k).map tRow).length) (lf := .ro _) (yy := .ro _) rfl rfl elt_impl_Row.und sz_impl_Row rfl rfl ⟨_, rfl⟩ rfl (by simp; omega) (Nat.le_refl _)) ?_
     refine sl 0 (mv (V.one (.ro _))) ?_
     refine SV.nil (SV.bn (SV.tn ?_))
     refine SV.again (fun i => [2].getD i 0) (z') (hz2) (pins hE rfl rfl) (VS.le.mk' (le_put (le_put (le_put (le_put (le_new le_nil) (V.le.keep (ag := false) (xs := [.ro _]) (ys := [.ro _]) rfl rfl ⟨(by first | rfl | (show Leaf.ro _ = Leaf.ro _; refine congrArg Leaf.ro (congrArg (T.seq _) ?_); (rw [hz]; first | done | rfl | (simp [List.map_drop, List.drop_drop, Nat.add_comm]; done) | (simp [List.map_drop, List.map_take, List.drop_drop, Nat.add_comm]; rw [List.take_of_length_le (by simp), List.tail_drop])))), trivial⟩)) (V.le.keep (ag := false) (xs := [.ro _]) (ys := [.ro _]) rfl rfl ⟨(by first | rfl | (show Leaf.ro _ = Leaf.ro _; refine congrArg Leaf.ro (congrArg (T.seq _) ?_); (rw [hz]; first | done | rfl | (simp [List.map_drop, List.drop_drop, Nat.add_comm]; done) | (simp [List.map_drop, List.map_take, List.drop_drop, Nat.add_comm]; rw [List.take_of_length_le (by simp), List.tail_drop])))), trivial⟩)) (V.le.keep (ag := false) (xs := [.sc _]) (ys := [.sc _]) rfl rfl ⟨rfl, trivial⟩)) (V.le.keep (ag := false) (xs := [.hd 2]) (ys := [.hd 0]) rfl rfl ⟨⟨rfl, (gle rfl), (gle rfl)⟩, trivial⟩)) trivial ⟨.inr ⟨_, _, rfl, ?ob5_0, (gle rfl)⟩, trivial⟩ (new_ob nil_ob) (fun i j hi hj e => inj_list (l := [2]) (by decide) i j hi hj e))
     case ob5_0 =>
      show some (T.seq _ _) = some (T.seq _ _)
      rw [hz]; first | done | rfl | (simp only [List.map_append]; rfl) | (simp [tRow]; done)
   ·skip   -- c2.F
    have hkl : b.drop k = [] := List.drop_eq_nil_of_le (by simp at hc2; omega)
    have hil : a.drop i = [] := List.drop_eq_nil_of_le (by simp at hg0; omega)
    have hend : o = Runs.merge2 a b := by rw [← ho, hkl, hil, Runs.merge2_nil, List.append_nil]
    refine SV.exit (SV.te (SV.te (SV.bh (SV.tn (SV.seq' (SV.region ?_))))))
    refine sl 0 (mv (V.one (.hd 0))) ?_
    refine sl 0 (mv (V.one (.hd 0))) ?_
    refine SV.nil (SV.tn (SV.ret ?_))
    refine d1 (.hd 0) Try.results40 ?_ <;> (refine lsq ?_; rw [← hend]; first | done | rfl | (simp; done))
end Go.Proofs.Ytpnbnbhifpcelaa
/- The program's steps: parts: told by trees. -/
namespace Go.Proofs.Ytpnbnbhifpcelaa
open Go Go.RowKit V
set_option linter.unusedVariables false
set_option maxRecDepth 100000 in
set_option maxHeartbeats 2000000 in
theorem vleave_i (u0 u1 u2 u3 u4 u6 u7 u8 u9 : Value) (a : Option Addr) (k c : Nat) : VH Try.prog 131 27 [.lit u0, .lit u1, .lit u2, .lit u3, .lit u4, .lit (.slice a k c), .lit u6, .lit u7, .lit u8, .lit u9] [] [.lit u0, .lit u1, .lit u2, .lit u3, .lit u4, .lit (.slice a k c), .lit (.int .i64 0), .lit (.int .i64 0), .lit (.int .i64 (if k = 0 then 4 else if k = 1 then 3 else 2)), .lit u9] true [] := by
 refine VH.enter Try.func131 rfl Try.ntmps131 (gle rfl) fun E c hE hpin => ?_
 refine SV.seq' (SV.region ?_)
 refine sl 1 (mv (V.one (.bp 0 0))) ?_
 refine sl 1 (mv (V.one (.bp 0 0))) ?_
 refine sl 1 (ok_nilcheckB rfl rfl) ?_
 refine sl 1 (fb fld_impl_Sorter_6) ?_
 refine so (st (ag := false) [.sc _] [.sc _, .sc _, .sc _, .sc _, .sc _, .sc _, .sc _, .sc _, .sc _, .sc _] sz_int (fun _ => rfl)) ?_
 refine sl 1 (ok_nilcheckB rfl rfl) ?_
 refine sl 1 (fb fld_impl_Sorter_7) ?_
 refine so (st (ag := false) [.sc _] [.sc _, .sc _, .sc _, .sc _, .sc _, .sc _, .sc _, .sc _, .sc _, .sc _] sz_int (fun _ => rfl)) ?_
 refine SV.nil (SV.tn (SV.seq' (SV.region ?_)))
 refine sl 1 (mv (V.one (.bp 0 0))) ?_
 refine sl 1 (ok_nilcheckB rfl rfl) ?_
 refine sl 1 (fb fld_impl_Sorter_5) ?_
 refine sl 1 (lb 0 5 [.sc _] agg_s_impl_Run sz_s_impl_Run (fun _ => rfl)) ?_
 refine sl 1 (s1 (.tmp 11)) ?_
 refine SV.nil (SV.tn (SV.block (SV.seq' (SV.region ?_))))
 refine sl 1 (s2 (.tmp 12) (.const ((Value.int IntKind.i64 0)))) ?_
 refine sl 1 ms ?_
 refine SV.nil (SV.tn ?_)
 refine SV.cond rfl (fun hc0 => ?_) (fun hc0 => ?_)
 ·skip   -- c0.T
  have hk0 : k = 0 := by first | (simp at hc0; done) | (simp at hc0; omega)
  refine SV.region ?_
  refine sl 1 (mv (V.one (.bp 0 0))) ?_
  refine sl 1 (ok_nilcheckB rfl rfl) ?_
  refine sl 1 (fb fld_impl_Sorter_8) ?_
  refine so (st (ag := false) [.sc _] [.sc _, .sc _, .sc _, .sc _, .sc _, .sc _, .sc _, .sc _, .sc _, .sc _] sz_int (fun _ => rfl)) ?_
  refine SV.nil (SV.bn ?_)
  apply SV.doneH (hpin := hpin) (hbx := rfl) (hf := Try.results131) (ht := rfl) (he := .inr rfl)
  case hr => exact ResAll.nil'
  case h2 => simp [two, ansL]
  case hx => refine ⟨?_, ?_, ?_, ?_, ?_, ?_, ?_, ?_, ?_, ?_, trivial⟩ <;> first | rfl | ((refine liq ?_; (first | (rw [if_pos hk0]; done) | (rw [if_neg hk0, if_pos hk]; done) | (rw [if_neg hk0, if_neg hk]; done) | (exfalso; omega))))
  exact trivial
 ·skip   -- c0.F
  have hk0 : ¬ k = 0 := by first | (simp at hc0; done) | (simp at hc0; omega)
  refine SV.seq' (SV.region ?_)
  refine sl 1 (s2 (.tmp 12) (.const ((Value.int IntKind.i64 1)))) ?_
  refine sl 1 ms ?_
  refine SV.nil (SV.tn ?_)
  refine SV.cond rfl (fun hc1 => ?_) (fun hc1 => ?_)
  ·skip   -- c1.T
   have hk : k = 1 := by first | (simp at hc1; done) | (simp at hc1; omega)
   refine SV.region ?_
   refine sl 1 (mv (V.one (.bp 0 0))) ?_
   refine sl 1 (ok_nilcheckB rfl rfl) ?_
   refine sl 1 (fb fld_impl_Sorter_8) ?_
   refine so (st (ag := false) [.sc _] [.sc _, .sc _, .sc _, .sc _, .sc _, .sc _, .sc _, .sc _, .sc _, .sc _] sz_int (fun _ => rfl)) ?_
   refine SV.nil (SV.bn ?_)
   apply SV.doneH (hpin := hpin) (hbx := rfl) (hf := Try.results131) (ht := rfl) (he := .inr rfl)
   case hr => exact ResAll.nil'
   case h2 => simp [two, ansL]
   case hx => refine ⟨?_, ?_, ?_, ?_, ?_, ?_, ?_, ?_, ?_, ?_, trivial⟩ <;> first | rfl | ((refine liq ?_; (first | (rw [if_pos hk0]; done) | (rw [if_neg hk0, if_pos hk]; done) | (rw [if_neg hk0, if_neg hk]; done) | (exfalso; omega))))
   exact trivial
  ·skip   -- c1.F
   have hk : ¬ k = 1 := by first | (simp at hc1; done) | (simp at hc1; omega)
   refine SV.region ?_
   refine sl 1 (mv (V.one (.bp 0 0))) ?_
   refine sl 1 (ok_nilcheckB rfl rfl) ?_
   refine sl 1 (fb fld_impl_Sorter_8) ?_
   refine so (st (ag := false) [.sc _] [.sc _, .sc _, .sc _, .sc _, .sc _, .sc _, .sc _, .sc _, .sc _, .sc _] sz_int (fun _ => rfl)) ?_
   refine SV.nil (SV.bn ?_)
   apply SV.doneH (hpin := hpin) (hbx := rfl) (hf := Try.results131) (ht := rfl) (he := .inr rfl)
   case hr => exact ResAll.nil'
   case h2 => simp [two, ansL]
   case hx => refine ⟨?_, ?_, ?_, ?_, ?_, ?_, ?_, ?_, ?_, ?_, trivial⟩ <;> first | rfl | ((refine liq ?_; (first | (rw [if_pos hk0]; done) | (rw [if_neg hk0, if_pos hk]; done) | (rw [if_neg hk0, if_neg hk]; done) | (exfalso; omega))))
   exact trivial
theorem leave_patch {k : Nat} {l0 l1 l2 l3 l4 l5 l6 l7 l8 l9 : Leaf} (us : List Value) (hl : us.length = [l0, l1, l2, l3, l4, l5, l6, l7, l8, l9].length) (h5 : ∀ u, us[5]? = some u → ∃ (ad : Option Addr) (c : Nat), u = .slice ad k c) :
  VH Try.prog 131 27 (us.map .lit) [] ((turnV k us).map .lit) true [] ∧ (turnV k us).length = [l0, l1, l2, l3, l4, l5, .sc (.int .i64 0), .sc (.int .i64 0), .sc (.int .i64 (if k = 0 then 4 else if k = 1 then 3 else 2)), l9].length ∧
   ∀ (j : Nat) (y : Leaf) (u : Value), [l0, l1, l2, l3, l4, l5, .sc (.int .i64 0), .sc (.int .i64 0), .sc (.int .i64 (if k = 0 then 4 else if k = 1 then 3 else 2)), l9][j]? = some y → (turnV k us)[j]? = some u → (∃ i : Nat, [l0, l1, l2, l3, l4, l5, l6, l7, l8, l9][i]? = some y ∧ us[i]? = some u) ∨ (y = .sc u ∧ u.oneCell' = true) := by
 match us, hl with
 | [u0, u1, u2, u3, u4, u5, u6, u7, u8, u9], _ =>
  obtain ⟨a, c, e⟩ := h5 u5 rfl
  subst e
  refine ⟨vleave_i u0 u1 u2 u3 u4 u6 u7 u8 u9 a k c, rfl, fun j y u hy hu => ?_⟩
  match j, hy, hu with
  | 0, hy, hu => cases hy; cases hu; exact .inl ⟨0, rfl, rfl⟩
  | 1, hy, hu => cases hy; cases hu; exact .inl ⟨1, rfl, rfl⟩
  | 2, hy, hu => cases hy; cases hu; exact .inl ⟨2, rfl, rfl⟩
  | 3, hy, hu => cases hy; cases hu; exact .inl ⟨3, rfl, rfl⟩
  | 4, hy, hu => cases hy; cases hu; exact .inl ⟨4, rfl, rfl⟩
  | 5, hy, hu => cases hy; cases hu; exact .inl ⟨5, rfl, rfl⟩
  | 6, hy, hu => cases hy; cases hu; exact .inr ⟨rfl, rfl⟩
  | 7, hy, hu => cases hy; cases hu; exact .inr ⟨rfl, rfl⟩
  | 8, hy, hu => cases hy; cases hu; exact .inr ⟨rfl, rfl⟩
  | 9, hy, hu => cases hy; cases hu; exact .inl ⟨9, rfl, rfl⟩
set_option maxRecDepth 100000 in
set_option maxHeartbeats 2000000 in
theorem vwmerged_i (s : SorterD) (r : R) (hW : s.Wf) (hr : r.wf) : VH Try.prog 132 27 [.seq 72 ((s.fInput).map tRow), .lit (.int .i64 (s.fPos)), .seq 72 ((s.fHeap).map tRow), .seq 72 ((s.fDeferred).map tRow), .seq 72 ((s.fOutput).map tRow), .seq 84 ((s.fRuns).map tRun), .lit (.int .i64 (s.fLeftPos)), .lit (.int .i64 (s.fRightPos)), .lit (.int .i64 (s.fPhase)), .lit (.int .i64 (s.fWritten))] [(true, tRow r)] [.seq 72 ((s.fInput).map tRow), .lit (.int .i64 (s.fPos)), .seq 72 ((s.fHeap).map tRow), .seq 72 ((s.fDeferred).map tRow), .seq 72 ((s.fOutput ++ [r]).map tRow), .seq 84 ((s.fRuns).map tRun), .lit (.int .i64 (s.fLeftPos)), .lit (.int .i64 (s.fRightPos)), .lit (.int .i64 (s.fPhase)), .lit (.int .i64 (wrap64 (s.fWritten + r.cost)))] true [] := by
 refine VH.enter Try.func132 rfl Try.ntmps132 (gle rfl) fun E c hE hpin => ?_
 have hsz := hW.size
 refine SV.seq' (SV.region ?_)
 refine sm (ok_box (kk := 1) (ag := true) (xs := [.sc _, .sc _, .sc _]) rfl rfl rfl (fun h => by cases h) rfl rfl (gle rfl)) ?_
 refine SV.nil (SV.tn (SV.seq' ?_))
 refine SV.draw [.q 0, .q 1, .q 2, .q 3, .q 4, .q 5, .m 6, .m 7, .q 8, .q 9] [10] (by kernel_rfl) (by kernel_rfl) ?_
 refine dq rfl (mv (V.one (.bp 0 0))) ?_
 refine dq rfl (mv (V.one (.bp 0 0))) ?_
 refine dq rfl (ok_nilcheckB rfl rfl) ?_
 refine dq rfl (fb fld_impl_Sorter_4) ?_
 refine dq rfl (lb 0 4 [.hd 3] agg_s_impl_Row sz_s_impl_Row (fun _ => rfl)) ?_
 refine dq rfl (lb 1 0 [.sc _, .sc _, .sc _] agg_impl_Row sz_impl_Row (fun h => by cases h)) ?_
 refine DW.m [5] rfl (ok_lit1 (kk := 5) elt_impl_Row (ag := true) (xs := [.sc _, .sc _, .sc _]) rfl rfl rfl rfl (fun h => by cases h) (outs_c rfl (outs_c rfl (outs_c rfl outs_n))) (by simp [two]) rfl (gle rfl)) rfl (gle rfl) (gle rfl) (.inl rfl) (fun j hj => by
   simp only [List.mem_cons, List.not_mem_nil, or_false] at hj
   rcases hj with rfl
   ·exact .inr ⟨(gle rfl), (gle rfl), .inl rfl⟩) ?_
 refine DW.m [5] rfl (ok_append (kk := 6) elt_impl_Row (ls := .hd 3) (lx := .hd 5) rfl rfl rfl rfl rfl rfl (by intro i h1 h2; first | (cases h1; done) | (cases h1; cases h2)) (by simp only [List.length_map, List.length_cons, List.length_nil]; omega) rfl (gle rfl)) rfl (gle rfl) (gle rfl) (.inr ⟨3, rfl, .inr ⟨(gle rfl), rfl⟩⟩) (fun j hj => by
   simp only [List.mem_cons, List.not_mem_nil, or_false] at hj
   rcases hj with rfl
   ·exact .inl (by decide)) ?_
 refine dq rfl (ok_nilcheckB rfl rfl) ?_
 refine dq rfl (fb fld_impl_Sorter_4) ?_
 refine DW.stores ?_
 refine SV.z rfl (st (ag := false) [.hd 6] [.hd 0, .sc _, .hd 1, .hd 2, .hd 6, .hd 4, .sc _, .sc _, .sc _, .sc _] sz_s_impl_Row (fun _ => rfl)) rfl ?_
 refine SV.zend ?_
 refine SV.tn ?_
 refine SV.draw [.q 0, .q 1, .q 2, .q 3, .q 4, .m 5, .q 6, .q 7, .q 8] [9] (by kernel_rfl) (by kernel_rfl) ?_
 refine dq rfl (mv (V.one (.bp 0 0))) ?_
 refine dq rfl (ok_nilcheckB rfl rfl) ?_
 refine dq rfl (fb fld_impl_Sorter_9) ?_
 refine dq rfl (lb 0 9 [.sc _] agg_int sz_int (fun _ => rfl)) ?_
 refine dq rfl (lb 1 0 [.sc _, .sc _, .sc _] agg_impl_Row sz_impl_Row (fun h => by cases h)) ?_
 refine DW.m [] rfl (cl [(false, [.sc _])] rfl Try.func112 (vcost_i r hr) ⟨⟨[.sc _, .sc _, .sc _], rfl, ⟨rfl, rfl, rfl, trivial⟩⟩, trivial⟩) rfl (gle rfl) (gle rfl) (.inl rfl) (fun j hj => by cases hj) ?_
 refine dq rfl (ok_s2 (v := .int .i64 (wrap64 (s.fWritten + r.cost))) (x := .tmp 17) (x' := .tmp 19) (VScal.one rfl) (VScal.one rfl) (fun ρ h1 h2 w => by go_simp; rw [IntWalk.i64_left]) rfl) ?_
 refine dq rfl (ok_nilcheckB rfl rfl) ?_
 refine dq rfl (fb fld_impl_Sorter_9) ?_
 refine DW.stores ?_
 refine SV.z rfl (st (ag := false) [.sc _] [.hd 0, .sc _, .hd 1, .hd 2, .hd 6, .hd 4, .sc _, .sc _, .sc _, .sc _] sz_int (fun _ => rfl)) rfl ?_
 refine SV.zend ?_
 apply SV.doneH (hpin := hpin) (hbx := rfl) (hf := Try.results132) (ht := rfl) (he := .inr rfl)
 case hr => exact ResAll.nil'
 case h2 => simp [two, ansL]
 case hx => refine ⟨?_, ?_, ?_, ?_, ?_, ?_, ?_, ?_, ?_, ?_, trivial⟩ <;> first | done | rfl | ((refine lsq ?_; first | done | rfl | (simp [tRun]; done) | (simp [tRow]; done) | (simp; done))) | ((refine liq ?_; first | done | rfl | omega))
 exact trivial
set_option maxRecDepth 100000 in
set_option maxHeartbeats 2000000 in
theorem vemit_i (s : SorterD) (g : Int) (p0 : List R) (q : Nat) (r : R) (hW : s.Wf) (hx0 : s.fRuns[0]? = some p0) (hq : s.fLeftPos = (q : Int)) (hr : p0[q]? = some r) (hql : q ≤ 1000000000) : VH Try.prog 122 27 [.seq 72 ((s.fInput).map tRow), .lit (.int .i64 (s.fPos)), .seq 72 ((s.fHeap).map tRow), .seq 72 ((s.fDeferred).map tRow), .seq 72 ((s.fOutput).map tRow), .seq 84 ((s.fRuns).map tRun), .lit (.int .i64 (s.fLeftPos)), .lit (.int .i64 (s.fRightPos)), .lit (.int .i64 (s.fPhase)), .lit (.int .i64 (s.fWritten))] [(false, [.lit (.int .i64 (g))])] [.seq 72 ((s.fInput).map tRow), .lit (.int .i64 (s.fPos)), .seq 72 ((s.fHeap).map tRow), .seq 72 ((s.fDeferred).map tRow), .seq 72 ((s.fOutput).map tRow), .seq 84 ((s.fRuns).map tRun), .lit (.int .i64 (s.fLeftPos + 1)), .lit (.int .i64 (s.fRightPos)), .lit (.int .i64 (if s.fLeftPos + 1 = s.fInput.length then 4 else s.fPhase)), .lit (.int .i64 (s.fWritten))] false [(false, [.seq 72 (([r]).map tRow)])] := by
 refine VH.enter Try.func122 rfl Try.ntmps122 (gle rfl) fun E c hE hpin => ?_
 have hsz := hW.size
 refine SV.seq' (SV.region ?_)
 refine sl 1 ms ?_
 refine SV.nil (SV.tn (SV.seq' ?_))
 refine SV.tell (fun (σ : VS) => ((((((((VS.nil.new (σ.tree 0)).new (σ.tree 1)).new (σ.tree 2)).new (σ.tree 3)).new (σ.tree 4)).box 27 [.hd 0, σ.bl 0 1, .hd 1, .hd 2, .hd 3, .hd 4, .sc (.int .i64 ((q : Int))), σ.bl 0 7, σ.bl 0 8, σ.bl 0 9]).put 0 (V.flat false [.bp 0 0])).put 4 (σ.tm 4))) ?h ?k
 case k =>
  intro hjn
  refine (fun pp le => SV.weaken (fun i => [0, 1, 2, 3, 4].getD i 0) pp le hjn) (pinsC hE rfl) (VS.le.mk' (le_put (le_put (le_box (le_new (le_new (le_new (le_new (le_new le_nil)))))) (V.le.keep (ag := false) (xs := [.bp 0 0]) (ys := [.bp 0 0]) rfl rfl ⟨⟨rfl, (gle rfl)⟩, trivial⟩)) (V.le.keep (ag := false) (xs := [.sc _]) (ys := [.sc _]) rfl rfl ⟨rfl, trivial⟩)) ⟨⟨rfl, ⟨⟨rfl, (gle rfl), (gle rfl)⟩, rfl, ⟨rfl, (gle rfl), (gle rfl)⟩, ⟨rfl, (gle rfl), (gle rfl)⟩, ⟨rfl, (gle rfl), (gle rfl)⟩, ⟨rfl, (gle rfl), (gle rfl)⟩, (by first | rfl | (show Leaf.sc _ = Leaf.sc _; refine congrArg Leaf.sc ?_; first | rfl | go_num | ((exact congrArg _ hq); first | done | rfl | go_num | (simp; done) | (simp; omega)) | (simp [cntAll]; done)) | (simp [cntAll]; done) | (simp; omega)), rfl, rfl, rfl, trivial⟩⟩, trivial⟩ ⟨.inr ⟨_, _, rfl, rfl, (gle rfl)⟩, ⟨.inr ⟨_, _, rfl, rfl, (gle rfl)⟩, ⟨.inr ⟨_, _, rfl, rfl, (gle rfl)⟩, ⟨.inr ⟨_, _, rfl, rfl, (gle rfl)⟩, ⟨.inr ⟨_, _, rfl, rfl, (gle rfl)⟩, trivial⟩⟩⟩⟩⟩ (new_ob (new_ob (new_ob (new_ob (new_ob nil_ob))))) (fun i j hi hj e => inj_list (l := [0, 1, 2, 3, 4]) (by decide) i j hi hj e))
 case h =>
 refine SV.drawB (Pl.of [.q 0, .q 1, .q 2, .q 3, .q 4, .q 5, .q 6, .q 7, .q 8, .q 9, .q 10, .q 11, .q 12, .m 13]) [14] (by kernel_rfl) (by kernel_rfl) ?_
 refine DB.q rfl (mv (V.one (.bp 0 0))) rfl rfl (gle rfl) (fun _ _ _ _ h => h) ?_
 refine DB.q rfl (ok_nilcheckB rfl rfl) rfl rfl (gle rfl) (fun _ _ _ _ h => h) ?_
 refine DB.q rfl (fb fld_impl_Sorter_5) rfl rfl (gle rfl) (fun _ _ _ _ h => h) ?_
 refine DB.q rfl (lb 0 5 [.hd 4] agg_s_impl_Run sz_s_impl_Run (fun _ => rfl)) rfl rfl (gle rfl) (fun _ _ _ _ h => h) ?_
 refine DB.q rfl (ok_index (n := 1) (lf := .hd 4) rfl elt_impl_Run.und sz_impl_Run rfl rfl rfl (map_at hx0)) rfl rfl (gle rfl) (fun _ _ _ _ h => h) ?_
 refine DB.q rfl (ok_field_el (p := .ep 4 _ _ _) (off := 0) rfl rfl (cells_ep rfl (map_at hx0) rfl rfl) fld_impl_Run_0) rfl rfl (gle rfl) (fun _ _ _ _ h => h) ?_
 refine DB.ld (p := .ep 4 _ _ _) (ag := false) (m := 1) (ys := [.nd 4 _ _ (some _)]) rfl rfl rfl (cells_ep rfl (map_at hx0) rfl rfl) agg_s_impl_Row sz_s_impl_Row (fun _ => rfl) (gle rfl) rfl rfl rfl (gle rfl) (fun _ _ _ _ h => h) ?_
 refine DB.q rfl (mv (V.one (.bp 0 0))) rfl rfl (gle rfl) (fun _ _ _ _ h => h) ?_
 refine DB.q rfl (ok_nilcheckB rfl rfl) rfl rfl (gle rfl) (fun _ _ _ _ h => h) ?_
 refine DB.q rfl (fb fld_impl_Sorter_6) rfl rfl (gle rfl) (fun _ _ _ _ h => h) ?_
 refine DB.q rfl (lb 0 6 [.sc _] agg_int sz_int (fun _ => rfl)) rfl rfl (gle rfl) (fun _ _ _ _ h => h) ?_
 refine DB.q rfl (ok_index (n := 3) (lf := .nd 4 _ _ (some _)) rfl elt_impl_Row.und sz_impl_Row rfl rfl rfl (map_at hr)) rfl rfl (gle rfl) (fun _ _ _ _ h => h) ?_
 refine DB.ld (p := .np 4 _ _) (ag := true) (m := 3) (ys := [.sc _, .sc _, .sc _]) rfl rfl rfl rfl agg_impl_Row sz_impl_Row (fun h => by cases h) (gle rfl) rfl rfl rfl (gle rfl) (fun _ _ _ _ h => h) ?_
 refine DB.m rfl (ok_alloc (kk := 1) (xs := [.sc _, .sc _, .sc _]) rfl rfl zero_impl_Row ⟨rfl, rfl, rfl, rfl, rfl, rfl, trivial⟩ rfl (gle rfl)) rfl ?_
 refine DB.stores ?_
 refine SV.z rfl (st (ag := true) [.sc _, .sc _, .sc _] [.sc _, .sc _, .sc _] sz_impl_Row (fun h => by cases h)) rfl ?_
 refine SV.zend ?_
 refine SV.tn (SV.seq' (SV.region ?_))
 refine sl 2 (mv (V.one (.bp 0 0))) ?_
 refine sl 2 (ok_nilcheckB rfl rfl) ?_
 refine sl 2 (fb fld_impl_Sorter_6) ?_
 refine sl 2 (lb 0 6 [.sc _] agg_int sz_int (fun _ => rfl)) ?_
 refine sl 2 (ok_s2 (v := .int .i64 ((q : Int) + 1)) (x := .tmp 22) (x' := .const ((Value.int IntKind.i64 1))) (VScal.one rfl) (VScal.one rfl) (fun ρ h1 h2 w => by go_simp; rw [IntWalk.i64_left, IntWalk.wrap64_in _ ⟨by omega, by omega⟩]) rfl) ?_
 refine sl 2 (ok_nilcheckB rfl rfl) ?_
 refine sl 2 (fb fld_impl_Sorter_6) ?_
 refine so (st (ag := false) [.sc _] [.hd 0, .sc _, .hd 1, .hd 2, .hd 3, .hd 4, .sc _, .sc _, .sc _, .sc _] sz_int (fun _ => rfl)) ?_
 refine SV.nil (SV.tn (SV.seq' (SV.seq' ?_)))
 refine SV.draw [.q 0, .q 1, .q 2, .q 3, .q 4, .q 5, .q 6, .q 7, .q 8, .q 9] [] (by kernel_rfl) (by kernel_rfl) ?_
 refine dq rfl (mv (V.one (.bp 0 0))) ?_
 refine dq rfl (ok_nilcheckB rfl rfl) ?_
 refine dq rfl (fb fld_impl_Sorter_6) ?_
 refine dq rfl (lb 0 6 [.sc _] agg_int sz_int (fun _ => rfl)) ?_
 refine dq rfl (mv (V.one (.bp 0 0))) ?_
 refine dq rfl (ok_nilcheckB rfl rfl) ?_
 refine dq rfl (fb fld_impl_Sorter_0) ?_
 refine dq rfl (lb 0 0 [.hd 0] agg_s_impl_Row sz_s_impl_Row (fun _ => rfl)) ?_
 refine dq rfl (ok_len (lf := .hd 0) rfl elt_impl_Row.und rfl rfl) ?_
 refine dq rfl (s2 (.tmp 29) (.tmp 34)) ?_
 refine DW.stores ?_
 refine SV.zend ?_
 refine SV.tn ?_
 refine SV.cond rfl (fun hc0 => ?_) (fun hc0 => ?_)
 ·skip   -- c0.T
  have he : s.fLeftPos + 1 = (s.fInput.length : Int) := by rw [hq]; simpa using hc0
  refine SV.region ?_
  refine sl 2 (mv (V.one (.bp 0 0))) ?_
  refine sl 2 (ok_nilcheckB rfl rfl) ?_
  refine sl 2 (fb fld_impl_Sorter_8) ?_
  refine so (st (ag := false) [.sc _] [.hd 0, .sc _, .hd 1, .hd 2, .hd 3, .hd 4, .sc _, .sc _, .sc _, .sc _] sz_int (fun _ => rfl)) ?_
  refine SV.nil (SV.tn (SV.seq' (SV.region ?_)))
  refine sl 2 (lb 1 0 [.sc _, .sc _, .sc _] agg_impl_Row sz_impl_Row (fun h => by cases h)) ?_
  refine sm (ok_lit1 (kk := 5) elt_impl_Row (ag := true) (xs := [.sc _, .sc _, .sc _]) rfl rfl rfl rfl (fun h => by cases h) (outs_c rfl (outs_c rfl (outs_c rfl outs_n))) (by simp [two]) rfl (gle rfl)) ?_
  refine sl 2 (mv (V.one (.hd 5))) ?_
  refine SV.nil (SV.tn (SV.ret ?_))
  apply SV.doneH (hpin := hpin) (hbx := rfl) (hf := Try.results122) (ht := rfl) (he := .inl rfl)
  case hr => exact (ResAll.cons (ResOk.tmp (ag := false) (xs := [.hd 5]) rfl) ResAll.nil')
  case h2 => simp [two, ansL]
  case hx => refine ⟨?_, ?_, ?_, ?_, ?_, ?_, ?_, ?_, ?_, ?_, trivial⟩ <;> first | rfl | ((refine liq ?_; (first | (rw [if_pos he]; done) | (rw [if_neg he]; done)))) | ((refine liq ?_; (rw [hq]; done))) | (first | done | rfl | ((refine lsq ?_; first | done | rfl | (simp [tRun]; done) | (simp [tRow]; done) | (simp; done))) | ((refine liq ?_; first | done | rfl | omega)))
  refine ⟨rfl, ⟨?_, trivial⟩, trivial⟩ <;> first | rfl | ((refine lsq ?_; rfl))
 ·skip   -- c0.F
  have he : ¬ s.fLeftPos + 1 = (s.fInput.length : Int) := by rw [hq]; simpa using hc0
  refine SV.skip (SV.tn (SV.seq' (SV.region ?_)))
  refine sl 2 (lb 1 0 [.sc _, .sc _, .sc _] agg_impl_Row sz_impl_Row (fun h => by cases h)) ?_
  refine sm (ok_lit1 (kk := 5) elt_impl_Row (ag := true) (xs := [.sc _, .sc _, .sc _]) rfl rfl rfl rfl (fun h => by cases h) (outs_c rfl (outs_c rfl (outs_c rfl outs_n))) (by simp [two]) rfl (gle rfl)) ?_
  refine sl 2 (mv (V.one (.hd 5))) ?_
  refine SV.nil (SV.tn (SV.ret ?_))
  apply SV.doneH (hpin := hpin) (hbx := rfl) (hf := Try.results122) (ht := rfl) (he := .inl rfl)
  case hr => exact (ResAll.cons (ResOk.tmp (ag := false) (xs := [.hd 5]) rfl) ResAll.nil')
  case h2 => simp [two, ansL]
  case hx => refine ⟨?_, ?_, ?_, ?_, ?_, ?_, ?_, ?_, ?_, ?_, trivial⟩ <;> first | rfl | ((refine liq ?_; (first | (rw [if_pos he]; done) | (rw [if_neg he]; done)))) | ((refine liq ?_; (rw [hq]; done))) | (first | done | rfl | ((refine lsq ?_; first | done | rfl | (simp [tRun]; done) | (simp [tRow]; done) | (simp; done))) | ((refine liq ?_; first | done | rfl | omega)))
  refine ⟨rfl, ⟨?_, trivial⟩, trivial⟩ <;> first | rfl | ((refine lsq ?_; rfl))
end Go.Proofs.Ytpnbnbhifpcelaa
/- The program's first least row: told by trees. -/
namespace Go.Proofs.Ytpnbnbhifpcelaa
open Go Go.RowKit V
set_option linter.unusedVariables false
set_option maxRecDepth 100000 in
set_option maxHeartbeats 2000000 in
theorem vidx_i (l : List R) (hL : l.length ≤ 1000000000) : VC Try.prog 113 [(false, [.seq 72 ((l).map tRow)])] false [(false, [.lit (.int .i64 (Runs.idxMin l))])] := by
 refine VC.enter Try.func113 rfl Try.ntmps113 (gle rfl) fun E hE => ?_
 refine SV.seq' (SV.region ?_)
 refine sl 0 ms ?_
 refine SV.nil (SV.tn (SV.seq' (SV.region ?_)))
 refine sl 0 ms ?_
 refine SV.nil (SV.tn (SV.seq' (SV.seq' (SV.region ?_))))
 refine sl 0 (mv (V.one (.ro _))) ?_
 refine sl 0 (ok_len (lf := .ro _) rfl elt_impl_Row.und rfl rfl) ?_
 refine sl 0 ms ?_
 refine SV.nil (SV.tn (SV.block ?_))
 refine SV.loopF (X := Nat) (fun (σ : VS) t => ((((((VS.nil.put 0 (σ.tm 0)).put 2 (σ.tm 2)).put 3 (V.flat false [.sc (.int .i64 (idxI l t))])).put 6 (σ.tm 6)).put 7 (σ.tm 7)).put 8 (V.flat false [.sc (.int .i64 ((t : Int)))]))) (fun t => t ≤ l.length) (fun t => l.length - t) ?_ ?_
 ·skip
  refine SV.again (fun i => [].getD i 0) 0 ((by first | exact Nat.zero_le _ | (refine ⟨Nat.zero_le _, ?_⟩; simp; done) | (simp; done) | omega)) (pins hE rfl rfl) (VS.le.mk' (le_put (le_put (le_put (le_put (le_put (le_put le_nil (V.le.keep (ag := false) (xs := [.ro _]) (ys := [.ro _]) rfl rfl ⟨rfl, trivial⟩)) (V.le.keep (ag := false) (xs := [.sc _]) (ys := [.sc _]) rfl rfl ⟨rfl, trivial⟩)) (V.le.keep (ag := false) (xs := [.sc _]) (ys := [.sc _]) rfl rfl ⟨(by first | rfl | (show Leaf.sc _ = Leaf.sc _; refine congrArg Leaf.sc ?_; first | rfl | go_num | (first | rw [hn] | rfl; first | done | rfl | go_num | (simp; done) | (simp; omega)) | (simp [cntAll]; done)) | (simp [cntAll]; done) | (simp; omega)), trivial⟩)) (V.le.keep (ag := false) (xs := [.ro _]) (ys := [.ro _]) rfl rfl ⟨rfl, trivial⟩)) (V.le.keep (ag := false) (xs := [.sc _]) (ys := [.sc _]) rfl rfl ⟨rfl, trivial⟩)) (V.le.keep (ag := false) (xs := [.sc _]) (ys := [.sc _]) rfl rfl ⟨(by first | rfl | (show Leaf.sc _ = Leaf.sc _; refine congrArg Leaf.sc ?_; first | rfl | go_num | (first | rw [hn] | rfl; first | done | rfl | go_num | (simp; done) | (simp; omega)) | (simp [cntAll]; done)) | (simp [cntAll]; done) | (simp; omega)), trivial⟩)) trivial trivial nil_ob (fun i j hi hj e => absurd hi (Nat.not_lt_zero i)))
 ·rintro t ht
  refine SV.seq' (SV.region ?_)
  refine sl 0 (s2 (.tmp 8) (.tmp 7)) ?_
  refine SV.nil (SV.tn (SV.seq' ?_))
  refine SV.cond rfl (fun hc0 => ?_) (fun hc0 => ?_)
  ·skip   -- c0.T
   have htl : t < l.length := by simpa using hc0
   refine SV.skip (SV.tn (SV.seq' (SV.block (SV.seq' ?_))))
   obtain rfl | ⟨u, rfl⟩ : t = 0 ∨ ∃ u, t = u + 1 := by cases t with | zero => exact .inl rfl | succ u => exact .inr ⟨u, rfl⟩
   ·skip
    obtain ⟨c, hx⟩ : ∃ c, l[0]? = some c := ⟨_, List.getElem?_eq_getElem htl⟩
    have hn : idxI l (0 + 1) = ((0 : Nat) : Int) := by show ((Runs.minAt l 1 : Nat) : Int) = _; rw [Runs.minAt_one]
    refine SV.region ?_
    refine sl 0 ms ?_
    refine sl 0 (ok_index (n := 3) (lf := .ro _) rfl elt_impl_Row.und sz_impl_Row rfl rfl rfl (map_at hx)) ?_
    refine sl 0 (ok_load_rp (ag := true) (m := 3) (ys := [.sc _, .sc _, .sc _]) rfl rfl agg_impl_Row sz_impl_Row (fun h => by cases h) (gle rfl) rfl) ?_
    refine sm (ok_alloc (kk := 0) (xs := [.sc _, .sc _, .sc _]) rfl rfl zero_impl_Row ⟨rfl, rfl, rfl, rfl, rfl, rfl, trivial⟩ rfl (gle rfl)) ?_
    refine sl 1 ms ?_
    refine so (st (ag := true) [.sc _, .sc _, .sc _] [.sc _, .sc _, .sc _] sz_impl_Row (fun h => by cases h)) ?_
    refine SV.nil (SV.tn (SV.seq' ?_))
    refine SV.draw [.q 0, .q 1, .q 2, .q 3, .q 4, .q 5, .q 6, .q 7, .m 8, .q 9, .q 10] [] (by kernel_rfl) (by kernel_rfl) ?_
    refine dq rfl ms ?_
    refine dq rfl (s2 (.tmp 13) (.const ((Value.int IntKind.i64 0)))) ?_
    refine dq rfl ms ?_
    refine DW.split (d := 15) rfl (fun hg0 => ?_) (fun hg0 => ?_)
    ·skip   -- g0.T
     refine dn ?_
     refine dn ?_
     refine dn ?_
     refine dn ?_
     refine dn ?_
     refine DW.mN rfl rfl rfl rfl (gle rfl) rfl rfl rfl (gle rfl) ?_
     refine dn ?_
     refine dq rfl pt ?_
     refine DW.stores ?_
     refine SV.zend ?_
     refine SV.tn ?_
     refine SV.cond rfl (fun hc1 => ?_) (fun hc1 => ?_)
     ·skip   -- c1.T
      refine SV.region ?_
      refine sl 1 ms ?_
      refine sl 1 ms ?_
      refine SV.nil (SV.bn (SV.tn (SV.region ?_)))
      refine sl 1 (s2 (.tmp 8) (.const ((Value.int IntKind.i64 1)))) ?_
      refine sl 1 ms ?_
      refine SV.nil (SV.tn ?_)
      refine SV.again (fun i => [].getD i 0) (0 + 1) (⟨by omega, by omega⟩) (pins hE rfl rfl) (VS.le.mk' (le_put (le_put (le_put (le_put (le_put (le_put le_nil (V.le.keep (ag := false) (xs := [.ro _]) (ys := [.ro _]) rfl rfl ⟨rfl, trivial⟩)) (V.le.keep (ag := false) (xs := [.sc _]) (ys := [.sc _]) rfl rfl ⟨rfl, trivial⟩)) (V.le.keep (ag := false) (xs := [.sc _]) (ys := [.sc _]) rfl rfl ⟨(by first | rfl | (show Leaf.sc _ = Leaf.sc _; refine congrArg Leaf.sc ?_; first | rfl | go_num | (first | rw [hn] | rfl; first | done | rfl | go_num | (simp; done) | (simp; omega)) | (simp [cntAll]; done)) | (simp [cntAll]; done) | (simp; omega)), trivial⟩)) (V.le.keep (ag := false) (xs := [.ro _]) (ys := [.ro _]) rfl rfl ⟨rfl, trivial⟩)) (V.le.keep (ag := false) (xs := [.sc _]) (ys := [.sc _]) rfl rfl ⟨rfl, trivial⟩)) (V.le.keep (ag := false) (xs := [.sc _]) (ys := [.sc _]) rfl rfl ⟨(by first | rfl | (show Leaf.sc _ = Leaf.sc _; refine congrArg Leaf.sc ?_; first | rfl | go_num | (first | rw [hn] | rfl; first | done | rfl | go_num | (simp; done) | (simp; omega)) | (simp [cntAll]; done)) | (simp [cntAll]; done) | (simp; omega)), trivial⟩)) trivial trivial nil_ob (fun i j hi hj e => absurd hi (Nat.not_lt_zero i)))
     ·skip   -- c1.F
      cases hc1
    ·skip   -- g0.F
     (exfalso; first | (have hc' : ((Runs.minAt l (u + 1) : Nat) : Int) < 0 := of_decide_eq_true hg0; omega) | exact of_decide_eq_false hg0 (by show (-1 : Int) < 0; decide))
   ·skip
    have hml : Runs.minAt l (u + 1) < u + 1 := Runs.minAt_lt (Nat.succ_pos u)
    obtain ⟨c, hx⟩ : ∃ c, l[u + 1]? = some c := ⟨_, List.getElem?_eq_getElem htl⟩
    obtain ⟨d, hy⟩ : ∃ d, l[Runs.minAt l (u + 1)]? = some d := ⟨_, List.getElem?_eq_getElem (by omega)⟩
    have hst := Runs.minAt_step hx hy
    refine SV.region ?_
    refine sl 0 ms ?_
    refine sl 0 (ok_index (n := 3) (lf := .ro _) rfl elt_impl_Row.und sz_impl_Row rfl rfl rfl (map_at hx)) ?_
    refine sl 0 (ok_load_rp (ag := true) (m := 3) (ys := [.sc _, .sc _, .sc _]) rfl rfl agg_impl_Row sz_impl_Row (fun h => by cases h) (gle rfl) rfl) ?_
    refine sm (ok_alloc (kk := 0) (xs := [.sc _, .sc _, .sc _]) rfl rfl zero_impl_Row ⟨rfl, rfl, rfl, rfl, rfl, rfl, trivial⟩ rfl (gle rfl)) ?_
    refine sl 1 ms ?_
    refine so (st (ag := true) [.sc _, .sc _, .sc _] [.sc _, .sc _, .sc _] sz_impl_Row (fun h => by cases h)) ?_
    refine SV.nil (SV.tn (SV.seq' ?_))
    refine SV.draw [.q 0, .q 1, .q 2, .q 3, .q 4, .q 5, .q 6, .q 7, .m 8, .q 9, .q 10] [] (by kernel_rfl) (by kernel_rfl) ?_
    refine dq rfl ms ?_
    refine dq rfl (s2 (.tmp 13) (.const ((Value.int IntKind.i64 0)))) ?_
    refine dq rfl ms ?_
    refine DW.split (d := 15) rfl (fun hg1 => ?_) (fun hg1 => ?_)
    ·skip   -- g1.T
     (exfalso; first | (have hc' : ((Runs.minAt l (u + 1) : Nat) : Int) < 0 := of_decide_eq_true hg1; omega) | exact of_decide_eq_false hg1 (by show (-1 : Int) < 0; decide))
    ·skip   -- g1.F
     refine dy rfl (lb 0 0 [.sc _, .sc _, .sc _] agg_impl_Row sz_impl_Row (fun h => by cases h)) ?_
     refine dy rfl (mv (V.one (.ro _))) ?_
     refine dy rfl ms ?_
     refine dy rfl (ok_index (n := 3) (lf := .ro _) rfl elt_impl_Row.und sz_impl_Row rfl rfl rfl (map_at hy)) ?_
     refine dy rfl (ok_load_rp (ag := true) (m := 3) (ys := [.sc _, .sc _, .sc _]) rfl rfl agg_impl_Row sz_impl_Row (fun h => by cases h) (gle rfl) rfl) ?_
     refine DW.m' [] rfl (cl [(false, [.sc _])] rfl Try.func109 (vcmp_i c d) ⟨⟨[.sc _, .sc _, .sc _], rfl, ⟨rfl, rfl, rfl, trivial⟩⟩, ⟨[.sc _, .sc _, .sc _], rfl, ⟨rfl, rfl, rfl, trivial⟩⟩, trivial⟩) (fun hr => wantedY hr rfl rfl rfl (gle rfl) rfl rfl) (gle rfl) (gle rfl) (.inl rfl) (fun j hj => by cases hj) ?_
     refine dy rfl (s2 (.tmp 21) (.const ((Value.int IntKind.i64 0)))) ?_
     refine dq rfl pf ?_
     refine DW.stores ?_
     refine SV.zend ?_
     refine SV.tn ?_
     refine SV.cond rfl (fun hc2 => ?_) (fun hc2 => ?_)
     ·skip   -- c2.T
      have hn : idxI l (u + 1 + 1) = ((u + 1 : Nat) : Int) := by show ((Runs.minAt l (u + 1 + 1) : Nat) : Int) = _; rw [hst, if_pos (by simpa using hc2)]
      refine SV.region ?_
      refine sl 1 ms ?_
      refine sl 1 ms ?_
      refine SV.nil (SV.bn (SV.tn (SV.region ?_)))
      refine sl 1 (s2 (.tmp 8) (.const ((Value.int IntKind.i64 1)))) ?_
      refine sl 1 ms ?_
      refine SV.nil (SV.tn ?_)
      refine SV.again (fun i => [].getD i 0) (u + 1 + 1) (⟨by omega, by omega⟩) (pins hE rfl rfl) (VS.le.mk' (le_put (le_put (le_put (le_put (le_put (le_put le_nil (V.le.keep (ag := false) (xs := [.ro _]) (ys := [.ro _]) rfl rfl ⟨rfl, trivial⟩)) (V.le.keep (ag := false) (xs := [.sc _]) (ys := [.sc _]) rfl rfl ⟨rfl, trivial⟩)) (V.le.keep (ag := false) (xs := [.sc _]) (ys := [.sc _]) rfl rfl ⟨(by first | rfl | (show Leaf.sc _ = Leaf.sc _; refine congrArg Leaf.sc ?_; first | rfl | go_num | (first | rw [hn] | rfl; first | done | rfl | go_num | (simp; done) | (simp; omega)) | (simp [cntAll]; done)) | (simp [cntAll]; done) | (simp; omega)), trivial⟩)) (V.le.keep (ag := false) (xs := [.ro _]) (ys := [.ro _]) rfl rfl ⟨rfl, trivial⟩)) (V.le.keep (ag := false) (xs := [.sc _]) (ys := [.sc _]) rfl rfl ⟨rfl, trivial⟩)) (V.le.keep (ag := false) (xs := [.sc _]) (ys := [.sc _]) rfl rfl ⟨(by first | rfl | (show Leaf.sc _ = Leaf.sc _; refine congrArg Leaf.sc ?_; first | rfl | go_num | (first | rw [hn] | rfl; first | done | rfl | go_num | (simp; done) | (simp; omega)) | (simp [cntAll]; done)) | (simp [cntAll]; done) | (simp; omega)), trivial⟩)) trivial trivial nil_ob (fun i j hi hj e => absurd hi (Nat.not_lt_zero i)))
     ·skip   -- c2.F
      have hn : idxI l (u + 1 + 1) = idxI l (u + 1) := by show ((Runs.minAt l (u + 1 + 1) : Nat) : Int) = ((Runs.minAt l (u + 1) : Nat) : Int); rw [hst, if_neg (by simpa using hc2)]
      refine SV.skip (SV.bn (SV.tn (SV.region ?_)))
      refine sl 1 (s2 (.tmp 8) (.const ((Value.int IntKind.i64 1)))) ?_
      refine sl 1 ms ?_
      refine SV.nil (SV.tn ?_)
      refine SV.again (fun i => [].getD i 0) (u + 1 + 1) (⟨by omega, by omega⟩) (pins hE rfl rfl) (VS.le.mk' (le_put (le_put (le_put (le_put (le_put (le_put le_nil (V.le.keep (ag := false) (xs := [.ro _]) (ys := [.ro _]) rfl rfl ⟨rfl, trivial⟩)) (V.le.keep (ag := false) (xs := [.sc _]) (ys := [.sc _]) rfl rfl ⟨rfl, trivial⟩)) (V.le.keep (ag := false) (xs := [.sc _]) (ys := [.sc _]) rfl rfl ⟨(by first | rfl | (show Leaf.sc _ = Leaf.sc _; refine congrArg Leaf.sc ?_; first | rfl | go_num | (first | rw [hn] | rfl; first | done | rfl | go_num | (simp; done) | (simp; omega)) | (simp [cntAll]; done)) | (simp [cntAll]; done) | (simp; omega)), trivial⟩)) (V.le.keep (ag := false) (xs := [.ro _]) (ys := [.ro _]) rfl rfl ⟨rfl, trivial⟩)) (V.le.keep (ag := false) (xs := [.sc _]) (ys := [.sc _]) rfl rfl ⟨rfl, trivial⟩)) (V.le.keep (ag := false) (xs := [.sc _]) (ys := [.sc _]) rfl rfl ⟨(by first | rfl | (show Leaf.sc _ = Leaf.sc _; refine congrArg Leaf.sc ?_; first | rfl | go_num | (first | rw [hn] | rfl; first | done | rfl | go_num | (simp; done) | (simp; omega)) | (simp [cntAll]; done)) | (simp [cntAll]; done) | (simp; omega)), trivial⟩)) trivial trivial nil_ob (fun i j hi hj e => absurd hi (Nat.not_lt_zero i)))
  ·skip   -- c0.F
   have hte : t = l.length := by simp at hc0; omega
   refine SV.exit (SV.te (SV.te (SV.bh (SV.tn (SV.seq' (SV.region ?_))))))
   refine sl 0 ms ?_
   refine sl 0 ms ?_
   refine SV.nil (SV.tn (SV.ret ?_))
   refine d1 (.sc _) Try.results113 ?_ <;> (refine liq ?_; rw [hte, idxI_end])
end Go.Proofs.Ytpnbnbhifpcelaa
/- Rows that lie in memory, as cells; a slice of rows told by trees lies so. -/
namespace Go.Proofs.Ytpnbnbhifpcelaa
open Go Go.RowKit V
set_option linter.unusedVariables false
def RoIn (w : World) (a : Option Addr) (L : List R) : Prop := ∀ (t : Nat) (c : R), L[t]? = some c → ∃ b o : Nat, a = some ⟨b, o, none⟩ ∧ b < w.heap.size ∧
 w.cell? ⟨b, o + t * 3, none⟩ = some (.int .i64 c.key) ∧ w.cell? ⟨b, o + t * 3 + 1, none⟩ = some (.int .i64 c.value) ∧ w.cell? ⟨b, o + t * 3 + 2, none⟩ = some (.int .i64 c.width)
theorem RoIn.keep {w w' : World} {a : Option Addr} {L : List R} (h : RoIn w a L) (hb : Below w.heap.size w w') : RoIn w' a L := fun t c ht => by
 obtain ⟨b, o, h1, h2, h3, h4, h5⟩ := h t c ht
 exact ⟨b, o, h1, Nat.lt_of_lt_of_le h2 hb.size, (hb.cell h2).trans h3, (hb.cell h2).trans h4, (hb.cell h2).trans h5⟩
end Go.Proofs.Ytpnbnbhifpcelaa
