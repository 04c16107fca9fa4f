/- Proved: for every sorter and every grant the law FnExactStepSorter returns true: the program's StepSorter answers as the reference's, leaves its arguments alone, and answers in memory of its own that a later call does not touch (the law itself answers true above 2^20). No condition. -/
import Derived.Test.YtpnbnbhifpcelaaPartCg
import Derived.Test.YtpnbnbhifpcelaaRows
import Derived.ProofKit
import Derived.OpenShut
import Derived.ShutString
import Derived.ChangeOld
set_option linter.unusedSimpArgs false
set_option linter.unusedVariables false
namespace Go.Proofs.Ytpnbnbhifpcelaa.FnExactStepSorter
open Go Go.ChangeShapes Go.WideShapes Go.ChangeAt Go.RowKit
open V hiding T
open Go.ChangeMaps (open_string shut_string)
set_option linter.unusedVariables false
set_option maxRecDepth 100000 in
set_option maxHeartbeats 2000000 in
theorem vlaw (X0 : SorterD) (a1 : Int) (Y0 : SorterD) (Y1 : List R) (Y2 : Bool) (hs : wtSorter X0 ≤ 1048576 → VC Try.prog 29 [(true, tSorter (X0)), (false, [.lit (.int .i64 (a1))])] true [(true, tSorter (Y0)), (false, [.seq 72 ((Y1).map tRow)]), (false, [.lit (.bool (Y2))])]) (hi : wtSorter X0 ≤ 1048576 → VC Try.prog 30 [(true, tSorter (X0)), (false, [.lit (.int .i64 (a1))])] true [(true, tSorter (Y0)), (false, [.seq 72 ((Y1).map tRow)]), (false, [.lit (.bool (Y2))])]) (hY0 : wtSorter X0 ≤ 1048576 → wtSorter Y0 ≤ 300000000000) (hY1 : wtSorter X0 ≤ 1048576 → wtRows Y1 ≤ 300000000000) : VC Try.prog 6 [(true, uSorter (X0)), (false, [.lit (.int .i64 (a1))])] false [(false, [.lit (.bool true)])] := by
 refine VC.enter Try.func6 rfl Try.ntmps6 (gle rfl) fun E hE => ?_
 have hC_X0_0 := cnt_rows X0.fInput
 have hC_X0_1 := cnt_rows X0.fHeap
 have hC_X0_2 := cnt_rows X0.fDeferred
 have hC_X0_3 := cnt_rows X0.fOutput
 have hC_X0_4 := cnt_runs X0.fRuns
 have hWv_X0 : wtSorter X0 = wtRows X0.fInput + wtRows X0.fHeap + wtRows X0.fDeferred + wtRows X0.fOutput + wtRuns X0.fRuns := rfl
 have hC_Y0_0 := cnt_rows Y0.fInput
 have hC_Y0_1 := cnt_rows Y0.fHeap
 have hC_Y0_2 := cnt_rows Y0.fDeferred
 have hC_Y0_3 := cnt_rows Y0.fOutput
 have hC_Y0_4 := cnt_runs Y0.fRuns
 have hWv_Y0 : wtSorter Y0 = wtRows Y0.fInput + wtRows Y0.fHeap + wtRows Y0.fDeferred + wtRows Y0.fOutput + wtRuns Y0.fRuns := rfl
 have hC_Y1 := cnt_rows Y1
 refine SV.seq' (SV.region ?_)
 refine sm (ok_box (kk := 0) (ag := true) (xs := [.ro _, .sc _, .ro _, .ro _, .ro _, .ro _, .sc _, .sc _, .sc _, .sc _]) rfl rfl rfl (fun h => by cases h) rfl rfl (gle rfl)) ?_
 refine sl 1 ms ?_
 refine SV.nil (SV.tn (SV.seq' (SV.region ?_)))
 refine sl 1 ms ?_
 refine SV.nil (SV.tn (SV.seq' (SV.region ?_)))
 refine sl 1 (lb 0 0 [.ro _, .sc _, .ro _, .ro _, .ro _, .ro _, .sc _, .sc _, .sc _, .sc _] agg_laws_Sorter sz_laws_Sorter (fun h => by cases h)) ?_
 refine sl 1 ms ?_
 refine sm (cl [(false, [.sc _])] rfl Try.func23 (vsz_sorter X0 (1048576) (by omega) (by omega)) ⟨⟨[.ro _, .sc _, .ro _, .ro _, .ro _, .ro _, .sc _, .sc _, .sc _, .sc _], rfl, ⟨rfl, rfl, rfl, rfl, rfl, rfl, rfl, rfl, rfl, rfl, trivial⟩⟩, ⟨[.sc _], rfl, ⟨rfl, trivial⟩⟩, trivial⟩) ?_
 refine sl 1 ms ?_
 refine SV.nil (SV.tn (SV.seq' (SV.seq' (SV.region ?_))))
 refine sl 1 ms ?_
 refine sl 1 (s2 (.tmp 22) (.const ((Value.int IntKind.i64 0)))) ?_
 refine SV.nil (SV.tn ?_)
 refine SV.cond rfl (fun hc0 => ?_) (fun hc0 => ?_)
 ·skip   -- c0.T
  have hs0 := sz_stop rfl (show szR (1048576) (wtSorter X0) < 0 by first | simpa using hc0 | simpa [szR] using hc0 | exact of_decide_eq_true hc0)
  refine SV.seq' (SV.region ?_)
  refine sl 1 ms ?_
  refine SV.nil (SV.tn (SV.ret (SV.tr ?_)))
  refine d1 (.sc _) Try.results6 ?_ <;> rfl
 ·skip   -- c0.F
  have hs0 := sz_step rfl (show 0 ≤ szR (1048576) (wtSorter X0) by first | simpa using hc0 | simpa [szR] using hc0 | exact Int.not_lt.1 (of_decide_eq_false hc0))
  have hYw0 := hY0 (by omega)
  have hYw1 := hY1 (by omega)
  refine SV.skip (SV.tn (SV.seq' (SV.region ?_)))
  refine sl 1 (lb 0 0 [.ro _, .sc _, .ro _, .ro _, .ro _, .ro _, .sc _, .sc _, .sc _, .sc _] agg_laws_Sorter sz_laws_Sorter (fun h => by cases h)) ?_
  refine sm (cl [(true, [.hd 0, .sc _, .hd 1, .hd 2, .hd 3, .hd 4, .sc _, .sc _, .sc _, .sc _])] rfl Try.func25 (vto_sorter X0 (by omega)) ⟨⟨[.ro _, .sc _, .ro _, .ro _, .ro _, .ro _, .sc _, .sc _, .sc _, .sc _], rfl, ⟨rfl, rfl, rfl, rfl, rfl, rfl, rfl, rfl, rfl, rfl, trivial⟩⟩, trivial⟩) ?_
  refine sl 1 ms ?_
  refine sm (cl [(true, [.hd 5, .sc _, .hd 6, .hd 7, .hd 8, .hd 9, .sc _, .sc _, .sc _, .sc _]), (false, [.hd 10]), (false, [.sc _])] rfl Try.func29 (hs (by omega)) ⟨⟨[.hd 0, .sc _, .hd 1, .hd 2, .hd 3, .hd 4, .sc _, .sc _, .sc _, .sc _], rfl, ⟨rfl, rfl, rfl, rfl, rfl, rfl, rfl, rfl, rfl, rfl, trivial⟩⟩, ⟨[.sc _], rfl, ⟨rfl, trivial⟩⟩, trivial⟩) ?_
  refine sl 1 (mv (⟨true, [(true, [.hd 5, .sc _, .hd 6, .hd 7, .hd 8, .hd 9, .sc _, .sc _, .sc _, .sc _]), (false, [.hd 10]), (false, [.sc _])]⟩)) ?_
  refine sl 1 (ok_extract (ag := true) (xs := [.hd 5, .sc _, .hd 6, .hd 7, .hd 8, .hd 9, .sc _, .sc _, .sc _, .sc _]) rfl rfl rfl) ?_
  refine sl 1 (ok_extract (ag := false) (xs := [.hd 10]) rfl rfl rfl) ?_
  refine sl 1 (ok_extract (ag := false) (xs := [.sc _]) rfl rfl rfl) ?_
  refine sm (ok_alloc (kk := 1) (xs := [.nl _, .sc _, .nl _, .nl _, .nl _, .nl _, .sc _, .sc _, .sc _, .sc _]) rfl rfl zero_impl_Sorter ⟨rfl, ⟨3, by decide, sz_impl_Row⟩, rfl, rfl, rfl, ⟨3, by decide, sz_impl_Row⟩, rfl, ⟨3, by decide, sz_impl_Row⟩, rfl, ⟨3, by decide, sz_impl_Row⟩, rfl, ⟨1, by decide, sz_impl_Run⟩, rfl, rfl, rfl, rfl, rfl, rfl, rfl, rfl, trivial⟩ rfl (gle rfl)) ?_
  refine so (st (ag := true) [.hd 5, .sc _, .hd 6, .hd 7, .hd 8, .hd 9, .sc _, .sc _, .sc _, .sc _] [.hd 5, .sc _, .hd 6, .hd 7, .hd 8, .hd 9, .sc _, .sc _, .sc _, .sc _] sz_impl_Sorter (fun h => by cases h)) ?_
  refine sl 2 (mv (V.one (.hd 10))) ?_
  refine sl 2 ms ?_
  refine SV.nil (SV.tn (SV.seq' (SV.region ?_)))
  refine sl 2 (lb 0 0 [.ro _, .sc _, .ro _, .ro _, .ro _, .ro _, .sc _, .sc _, .sc _, .sc _] agg_laws_Sorter sz_laws_Sorter (fun h => by cases h)) ?_
  refine sm (cl [(true, [.hd 11, .sc _, .hd 12, .hd 13, .hd 14, .hd 15, .sc _, .sc _, .sc _, .sc _])] rfl Try.func25 (vto_sorter X0 (by omega)) ⟨⟨[.ro _, .sc _, .ro _, .ro _, .ro _, .ro _, .sc _, .sc _, .sc _, .sc _], rfl, ⟨rfl, rfl, rfl, rfl, rfl, rfl, rfl, rfl, rfl, rfl, trivial⟩⟩, trivial⟩) ?_
  refine sm (ok_alloc (kk := 2) (xs := [.nl _, .sc _, .nl _, .nl _, .nl _, .nl _, .sc _, .sc _, .sc _, .sc _]) rfl rfl zero_impl_Sorter ⟨rfl, ⟨3, by decide, sz_impl_Row⟩, rfl, rfl, rfl, ⟨3, by decide, sz_impl_Row⟩, rfl, ⟨3, by decide, sz_impl_Row⟩, rfl, ⟨3, by decide, sz_impl_Row⟩, rfl, ⟨1, by decide, sz_impl_Run⟩, rfl, rfl, rfl, rfl, rfl, rfl, rfl, rfl, trivial⟩ rfl (gle rfl)) ?_
  refine so (st (ag := true) [.hd 11, .sc _, .hd 12, .hd 13, .hd 14, .hd 15, .sc _, .sc _, .sc _, .sc _] [.hd 11, .sc _, .hd 12, .hd 13, .hd 14, .hd 15, .sc _, .sc _, .sc _, .sc _] sz_impl_Sorter (fun h => by cases h)) ?_
  refine SV.nil (SV.tn (SV.seq' (SV.region ?_)))
  refine sl 3 (lb 2 0 [.hd 11, .sc _, .hd 12, .hd 13, .hd 14, .hd 15, .sc _, .sc _, .sc _, .sc _] agg_impl_Sorter sz_impl_Sorter (fun h => by cases h)) ?_
  refine sl 3 ms ?_
  refine sm (cl [(true, [.hd 16, .sc _, .hd 17, .hd 18, .hd 19, .hd 20, .sc _, .sc _, .sc _, .sc _]), (false, [.hd 21]), (false, [.sc _])] rfl Try.func30 (hi (by omega)) ⟨⟨[.hd 11, .sc _, .hd 12, .hd 13, .hd 14, .hd 15, .sc _, .sc _, .sc _, .sc _], rfl, ⟨rfl, rfl, rfl, rfl, rfl, rfl, rfl, rfl, rfl, rfl, trivial⟩⟩, ⟨[.sc _], rfl, ⟨rfl, trivial⟩⟩, trivial⟩) ?_
  refine sl 3 (mv (⟨true, [(true, [.hd 16, .sc _, .hd 17, .hd 18, .hd 19, .hd 20, .sc _, .sc _, .sc _, .sc _]), (false, [.hd 21]), (false, [.sc _])]⟩)) ?_
  refine sl 3 (ok_extract (ag := true) (xs := [.hd 16, .sc _, .hd 17, .hd 18, .hd 19, .hd 20, .sc _, .sc _, .sc _, .sc _]) rfl rfl rfl) ?_
  refine sl 3 (ok_extract (ag := false) (xs := [.hd 21]) rfl rfl rfl) ?_
  refine sl 3 (ok_extract (ag := false) (xs := [.sc _]) rfl rfl rfl) ?_
  refine sm (ok_alloc (kk := 3) (xs := [.nl _, .sc _, .nl _, .nl _, .nl _, .nl _, .sc _, .sc _, .sc _, .sc _]) rfl rfl zero_impl_Sorter ⟨rfl, ⟨3, by decide, sz_impl_Row⟩, rfl, rfl, rfl, ⟨3, by decide, sz_impl_Row⟩, rfl, ⟨3, by decide, sz_impl_Row⟩, rfl, ⟨3, by decide, sz_impl_Row⟩, rfl, ⟨1, by decide, sz_impl_Run⟩, rfl, rfl, rfl, rfl, rfl, rfl, rfl, rfl, trivial⟩ rfl (gle rfl)) ?_
  refine so (st (ag := true) [.hd 16, .sc _, .hd 17, .hd 18, .hd 19, .hd 20, .sc _, .sc _, .sc _, .sc _] [.hd 16, .sc _, .hd 17, .hd 18, .hd 19, .hd 20, .sc _, .sc _, .sc _, .sc _] sz_impl_Sorter (fun h => by cases h)) ?_
  refine sl 4 (mv (V.one (.hd 21))) ?_
  refine sl 4 ms ?_
  refine SV.nil (SV.tn (SV.seq' (SV.seq' (SV.region ?_))))
  refine sl 4 (lb 3 0 [.hd 16, .sc _, .hd 17, .hd 18, .hd 19, .hd 20, .sc _, .sc _, .sc _, .sc _] agg_impl_Sorter sz_impl_Sorter (fun h => by cases h)) ?_
  refine sl 4 (lb 1 0 [.hd 5, .sc _, .hd 6, .hd 7, .hd 8, .hd 9, .sc _, .sc _, .sc _, .sc _] agg_impl_Sorter sz_impl_Sorter (fun h => by cases h)) ?_
  refine sm (cl [(false, [.sc _])] rfl Try.func18 (veq_sorter Y0 (by omega)) ⟨⟨[.hd 16, .sc _, .hd 17, .hd 18, .hd 19, .hd 20, .sc _, .sc _, .sc _, .sc _], rfl, ⟨rfl, rfl, rfl, rfl, rfl, rfl, rfl, rfl, rfl, rfl, trivial⟩⟩, ⟨[.hd 5, .sc _, .hd 6, .hd 7, .hd 8, .hd 9, .sc _, .sc _, .sc _, .sc _], rfl, ⟨rfl, rfl, rfl, rfl, rfl, rfl, rfl, rfl, rfl, rfl, trivial⟩⟩, trivial⟩) ?_
  refine sl 4 (s1 (.tmp 43)) ?_
  refine sl 4 ms ?_
  refine SV.split (d := 45) rfl (fun hg0 => ?_) (fun hg0 => ?_)
  ·skip   -- g0.T
   (exfalso; first | (simp at hg0; done) | (simp at hg0; omega))
  ·skip   -- g0.F
   refine sy 4 (mv (V.one (.hd 21))) ?_
   refine sy 4 (mv (V.one (.hd 10))) ?_
   refine SV.opY (OpMk.ok (cl [(false, [.sc _])] rfl Try.func19 (veq_rows Y1 (by omega)) ⟨⟨[.hd 21], rfl, ⟨rfl, trivial⟩⟩, ⟨[.hd 10], rfl, ⟨rfl, trivial⟩⟩, trivial⟩)) rfl rfl rfl (gle rfl) rfl rfl ?_
   refine sy 4 (s1 (.tmp 48)) ?_
   refine sl 4 pf ?_
   refine sl 4 ms ?_
   refine SV.split (d := 51) rfl (fun hg1 => ?_) (fun hg1 => ?_)
   ·skip   -- g1.T
    (exfalso; first | (simp at hg1; done) | (simp at hg1; omega))
   ·skip   -- g1.F
    refine sy 4 ms ?_
    refine sy 4 ms ?_
    refine sy 4 (s2 (.tmp 52) (.tmp 53)) ?_
    refine sl 4 pf ?_
    refine SV.nil (SV.tn ?_)
    refine SV.cond rfl (fun hc1 => ?_) (fun hc1 => ?_)
    ·skip   -- c1.T
     (exfalso; first | (simp at hc1; done) | (simp at hc1; omega))
    ·skip   -- c1.F
     refine SV.skip (SV.tn (SV.seq' (SV.seq' ?_)))
     refine SV.draw [.q 0, .q 1, .m 2, .m 3, .q 4] [] (by kernel_rfl) (by kernel_rfl) ?_
     refine dq rfl (lb 2 0 [.hd 11, .sc _, .hd 12, .hd 13, .hd 14, .hd 15, .sc _, .sc _, .sc _, .sc _] agg_impl_Sorter sz_impl_Sorter (fun h => by cases h)) ?_
     refine dq rfl (lb 0 0 [.ro _, .sc _, .ro _, .ro _, .ro _, .ro _, .sc _, .sc _, .sc _, .sc _] agg_laws_Sorter sz_laws_Sorter (fun h => by cases h)) ?_
     refine DW.m [22, 23, 24, 25, 26] rfl (cl [(true, [.hd 22, .sc _, .hd 23, .hd 24, .hd 25, .hd 26, .sc _, .sc _, .sc _, .sc _])] rfl Try.func25 (vto_sorter X0 (by omega)) ⟨⟨[.ro _, .sc _, .ro _, .ro _, .ro _, .ro _, .sc _, .sc _, .sc _, .sc _], rfl, ⟨rfl, rfl, rfl, rfl, rfl, rfl, rfl, rfl, rfl, rfl, trivial⟩⟩, trivial⟩) rfl (gle rfl) (gle rfl) (.inl rfl) (fun j hj => by
       simp only [List.mem_cons, List.not_mem_nil, or_false] at hj
       rcases hj with rfl | rfl | rfl | rfl | rfl
       ·exact .inr ⟨(gle rfl), (gle rfl), .inl rfl⟩
       ·exact .inr ⟨(gle rfl), (gle rfl), .inl rfl⟩
       ·exact .inr ⟨(gle rfl), (gle rfl), .inl rfl⟩
       ·exact .inr ⟨(gle rfl), (gle rfl), .inl rfl⟩
       ·exact .inr ⟨(gle rfl), (gle rfl), .inl rfl⟩) ?_
     refine DW.m [22, 23, 24, 25, 26] rfl (cl [(false, [.sc _])] rfl Try.func18 (veq_sorter X0 (by omega)) ⟨⟨[.hd 11, .sc _, .hd 12, .hd 13, .hd 14, .hd 15, .sc _, .sc _, .sc _, .sc _], rfl, ⟨rfl, rfl, rfl, rfl, rfl, rfl, rfl, rfl, rfl, rfl, trivial⟩⟩, ⟨[.hd 22, .sc _, .hd 23, .hd 24, .hd 25, .hd 26, .sc _, .sc _, .sc _, .sc _], rfl, ⟨rfl, rfl, rfl, rfl, rfl, rfl, rfl, rfl, rfl, rfl, trivial⟩⟩, trivial⟩) rfl (gle rfl) (gle rfl) (.inl rfl) (fun j hj => by
       simp only [List.mem_cons, List.not_mem_nil, or_false] at hj
       rcases hj with rfl | rfl | rfl | rfl | rfl
       ·exact .inl (by decide)
       ·exact .inl (by decide)
       ·exact .inl (by decide)
       ·exact .inl (by decide)
       ·exact .inl (by decide)) ?_
     refine dq rfl (s1 (.tmp 59)) ?_
     refine DW.stores ?_
     refine SV.zend ?_
     refine SV.tn ?_
     refine SV.cond rfl (fun hc2 => ?_) (fun hc2 => ?_)
     ·skip   -- c2.T
      (exfalso; first | (simp at hc2; done) | (simp at hc2; omega))
     ·skip   -- c2.F
      refine SV.skip (SV.tn (SV.seq' (SV.region ?_)))
      refine sl 4 ms ?_
      refine SV.nil (SV.tn (SV.seq' (SV.region ?_)))
      refine sl 4 (lb 2 0 [.hd 11, .sc _, .hd 12, .hd 13, .hd 14, .hd 15, .sc _, .sc _, .sc _, .sc _] agg_impl_Sorter sz_impl_Sorter (fun h => by cases h)) ?_
      refine sl 4 ms ?_
      refine so (ok_callM (is := [11, 12, 13, 14, 15]) rfl ⟨_, _, Try.func21, rfl, by decide⟩ (vmkv_sorter X0 (1) (by omega) (by omega)) ⟨⟨[.hd 11, .sc _, .hd 12, .hd 13, .hd 14, .hd 15, .sc _, .sc _, .sc _, .sc _], rfl, ⟨rfl, ⟨_, rfl, rfl⟩, rfl, rfl, rfl, rfl, ⟨_, rfl, rfl⟩, ⟨_, rfl, rfl⟩, ⟨_, rfl, rfl⟩, ⟨_, rfl, rfl⟩, trivial⟩⟩, ⟨[.sc _], rfl, ⟨⟨_, rfl, rfl⟩, trivial⟩⟩, trivial⟩ ⟨⟨⟨_, rfl⟩, _, _, rfl⟩, ⟨⟨_, rfl⟩, _, _, rfl⟩, ⟨⟨_, rfl⟩, _, _, rfl⟩, ⟨⟨_, rfl⟩, _, _, rfl⟩, ⟨⟨_, rfl⟩, _, _, rfl⟩, trivial⟩ (by decide) rfl rfl (gle rfl)) ?_
      refine sl 4 ms ?_
      refine SV.nil (SV.tn (SV.seq' (SV.seq' (SV.region ?_))))
      refine sl 4 ms ?_
      refine sl 4 (s2 (.tmp 64) (.const ((Value.int IntKind.i64 0)))) ?_
      refine sl 4 ms ?_
      refine SV.split (d := 66) rfl (fun hg2 => ?_) (fun hg2 => ?_)
      ·skip   -- g2.T
       (exfalso; first | (simp at hg2; done) | (simp at hg2; omega))
      ·skip   -- g2.F
       refine sy 4 (lb 3 0 [.hd 16, .sc _, .hd 17, .hd 18, .hd 19, .hd 20, .sc _, .sc _, .sc _, .sc _] agg_impl_Sorter sz_impl_Sorter (fun h => by cases h)) ?_
       refine sy 4 (lb 1 0 [.hd 5, .sc _, .hd 6, .hd 7, .hd 8, .hd 9, .sc _, .sc _, .sc _, .sc _] agg_impl_Sorter sz_impl_Sorter (fun h => by cases h)) ?_
       refine SV.opY (OpMk.ok (cl [(false, [.sc _])] rfl Try.func18 (veq_sorter Y0 (by omega)) ⟨⟨[.hd 16, .sc _, .hd 17, .hd 18, .hd 19, .hd 20, .sc _, .sc _, .sc _, .sc _], rfl, ⟨rfl, rfl, rfl, rfl, rfl, rfl, rfl, rfl, rfl, rfl, trivial⟩⟩, ⟨[.hd 5, .sc _, .hd 6, .hd 7, .hd 8, .hd 9, .sc _, .sc _, .sc _, .sc _], rfl, ⟨rfl, rfl, rfl, rfl, rfl, rfl, rfl, rfl, rfl, rfl, trivial⟩⟩, trivial⟩)) rfl rfl rfl (gle rfl) rfl rfl ?_
       refine sy 4 (s1 (.tmp 69)) ?_
       refine sl 4 pf ?_
       refine sl 4 ms ?_
       refine SV.split (d := 72) rfl (fun hg3 => ?_) (fun hg3 => ?_)
       ·skip   -- g3.T
        (exfalso; first | (simp at hg3; done) | (simp at hg3; omega))
       ·skip   -- g3.F
        refine sy 4 (mv (V.one (.hd 21))) ?_
        refine sy 4 (mv (V.one (.hd 10))) ?_
        refine SV.opY (OpMk.ok (cl [(false, [.sc _])] rfl Try.func19 (veq_rows Y1 (by omega)) ⟨⟨[.hd 21], rfl, ⟨rfl, trivial⟩⟩, ⟨[.hd 10], rfl, ⟨rfl, trivial⟩⟩, trivial⟩)) rfl rfl rfl (gle rfl) rfl rfl ?_
        refine sy 4 (s1 (.tmp 75)) ?_
        refine sl 4 pf ?_
        refine sl 4 ms ?_
        refine SV.split (d := 78) rfl (fun hg4 => ?_) (fun hg4 => ?_)
        ·skip   -- g4.T
         (exfalso; first | (simp at hg4; done) | (simp at hg4; omega))
        ·skip   -- g4.F
         refine sy 4 ms ?_
         refine sy 4 ms ?_
         refine sy 4 (s2 (.tmp 79) (.tmp 80)) ?_
         refine sl 4 pf ?_
         refine SV.nil (SV.tn ?_)
         refine SV.cond rfl (fun hc3 => ?_) (fun hc3 => ?_)
         ·skip   -- c3.T
          (exfalso; first | (simp at hc3; done) | (simp at hc3; omega))
         ·skip   -- c3.F
          refine SV.skip (SV.tn (SV.seq' (SV.region ?_)))
          refine sl 4 ms ?_
          refine SV.nil (SV.tn (SV.seq' (SV.region ?_)))
          refine sl 4 (lb 3 0 [.hd 16, .sc _, .hd 17, .hd 18, .hd 19, .hd 20, .sc _, .sc _, .sc _, .sc _] agg_impl_Sorter sz_impl_Sorter (fun h => by cases h)) ?_
          refine sl 4 ms ?_
          refine so (ok_callM (is := [16, 17, 18, 19, 20]) rfl ⟨_, _, Try.func21, rfl, by decide⟩ (vmkv_sorter Y0 (1) (by omega) (by omega)) ⟨⟨[.hd 16, .sc _, .hd 17, .hd 18, .hd 19, .hd 20, .sc _, .sc _, .sc _, .sc _], rfl, ⟨rfl, ⟨_, rfl, rfl⟩, rfl, rfl, rfl, rfl, ⟨_, rfl, rfl⟩, ⟨_, rfl, rfl⟩, ⟨_, rfl, rfl⟩, ⟨_, rfl, rfl⟩, trivial⟩⟩, ⟨[.sc _], rfl, ⟨⟨_, rfl, rfl⟩, trivial⟩⟩, trivial⟩ ⟨⟨⟨_, rfl⟩, _, _, rfl⟩, ⟨⟨_, rfl⟩, _, _, rfl⟩, ⟨⟨_, rfl⟩, _, _, rfl⟩, ⟨⟨_, rfl⟩, _, _, rfl⟩, ⟨⟨_, rfl⟩, _, _, rfl⟩, trivial⟩ (by decide) rfl rfl (gle rfl)) ?_
          refine sl 4 ms ?_
          refine SV.nil (SV.tn (SV.seq' (SV.region ?_)))
          refine sl 4 (mv (V.one (.hd 21))) ?_
          refine sl 4 ms ?_
          refine so (ok_callM (is := [21]) rfl ⟨_, _, Try.func20, rfl, by decide⟩ (vmk_rows Y1 (1 + (rowsMk.cnt Y0.fInput : Nat) + (rowsMk.cnt Y0.fHeap : Nat) + (rowsMk.cnt Y0.fDeferred : Nat) + (rowsMk.cnt Y0.fOutput : Nat) + (runsMk.cnt Y0.fRuns : Nat)) (by omega) (by omega)) ⟨⟨[.hd 21], rfl, ⟨rfl, trivial⟩⟩, ⟨[.sc _], rfl, ⟨⟨_, rfl, rfl⟩, trivial⟩⟩, trivial⟩ ⟨⟨⟨_, rfl⟩, _, _, rfl⟩, trivial⟩ (by decide) rfl rfl (gle rfl)) ?_
          refine sl 4 ms ?_
          refine SV.nil (SV.tn (SV.seq' (SV.region ?_)))
          refine sl 4 ms ?_
          refine SV.nil (SV.tn (SV.seq' (SV.region ?_)))
          refine sl 4 (lb 3 0 [.hd 16, .sc _, .hd 17, .hd 18, .hd 19, .hd 20, .sc _, .sc _, .sc _, .sc _] agg_impl_Sorter sz_impl_Sorter (fun h => by cases h)) ?_
          refine sl 4 ms ?_
          refine sm (cl [(false, [.sc _])] rfl Try.func22 (vhdv_sorter Y0 (1) (by omega) (by omega)) ⟨⟨[.hd 16, .sc _, .hd 17, .hd 18, .hd 19, .hd 20, .sc _, .sc _, .sc _, .sc _], rfl, ⟨rfl, rfl, rfl, rfl, rfl, rfl, rfl, rfl, rfl, rfl, trivial⟩⟩, ⟨[.sc _], rfl, ⟨rfl, trivial⟩⟩, trivial⟩) ?_
          refine sl 4 ms ?_
          refine SV.nil (SV.tn (SV.seq' (SV.seq' (SV.region ?_))))
          refine sl 4 ms ?_
          refine sl 4 (s2 (.tmp 92) (.const ((Value.int IntKind.i64 0)))) ?_
          refine SV.nil (SV.tn ?_)
          refine SV.cond rfl (fun hc4 => ?_) (fun hc4 => ?_)
          ·skip   -- c4.T
           (exfalso; first | (simp at hc4; done) | (simp at hc4; omega))
          ·skip   -- c4.F
           refine SV.skip (SV.tn (SV.seq' (SV.region ?_)))
           refine sl 4 (mv (V.one (.hd 21))) ?_
           refine sl 4 ms ?_
           refine sm (cl [(false, [.sc _])] rfl Try.func31 (vhd_rows Y1 (1 + (rowsMk.cnt Y0.fInput : Nat) + (rowsMk.cnt Y0.fHeap : Nat) + (rowsMk.cnt Y0.fDeferred : Nat) + (rowsMk.cnt Y0.fOutput : Nat) + (runsMk.cnt Y0.fRuns : Nat)) (by omega) (by omega)) ⟨⟨[.hd 21], rfl, ⟨rfl, trivial⟩⟩, ⟨[.sc _], rfl, ⟨rfl, trivial⟩⟩, trivial⟩) ?_
           refine sl 4 ms ?_
           refine SV.nil (SV.tn (SV.seq' (SV.seq' (SV.region ?_))))
           refine sl 4 ms ?_
           refine sl 4 (s2 (.tmp 97) (.const ((Value.int IntKind.i64 0)))) ?_
           refine SV.nil (SV.tn ?_)
           refine SV.cond rfl (fun hc5 => ?_) (fun hc5 => ?_)
           ·skip   -- c5.T
            (exfalso; first | (simp at hc5; done) | (simp at hc5; omega))
           ·skip   -- c5.F
            refine SV.skip (SV.tn (SV.seq' (SV.seq' (SV.region ?_))))
            refine sl 4 ms ?_
            refine sl 4 ms ?_
            refine sl 4 (s2 (.tmp 99) (.tmp 100)) ?_
            refine SV.nil (SV.tn ?_)
            refine SV.cond rfl (fun hc6 => ?_) (fun hc6 => ?_)
            ·skip   -- c6.T
             (exfalso; first | (simp at hc6; done) | (simp at hc6; omega))
            ·skip   -- c6.F
             refine SV.skip (SV.tn (SV.seq' (SV.region ?_)))
             refine sl 4 (lb 0 0 [.ro _, .sc _, .ro _, .ro _, .ro _, .ro _, .sc _, .sc _, .sc _, .sc _] agg_laws_Sorter sz_laws_Sorter (fun h => by cases h)) ?_
             refine sm (cl [(true, [.hd 27, .sc _, .hd 28, .hd 29, .hd 30, .hd 31, .sc _, .sc _, .sc _, .sc _])] rfl Try.func25 (vto_sorter X0 (by omega)) ⟨⟨[.ro _, .sc _, .ro _, .ro _, .ro _, .ro _, .sc _, .sc _, .sc _, .sc _], rfl, ⟨rfl, rfl, rfl, rfl, rfl, rfl, rfl, rfl, rfl, rfl, trivial⟩⟩, trivial⟩) ?_
             refine sl 4 ms ?_
             refine sm (cl [(true, [.hd 32, .sc _, .hd 33, .hd 34, .hd 35, .hd 36, .sc _, .sc _, .sc _, .sc _]), (false, [.hd 37]), (false, [.sc _])] rfl Try.func30 (hi (by omega)) ⟨⟨[.hd 27, .sc _, .hd 28, .hd 29, .hd 30, .hd 31, .sc _, .sc _, .sc _, .sc _], rfl, ⟨rfl, rfl, rfl, rfl, rfl, rfl, rfl, rfl, rfl, rfl, trivial⟩⟩, ⟨[.sc _], rfl, ⟨rfl, trivial⟩⟩, trivial⟩) ?_
             refine sl 4 (mv (⟨true, [(true, [.hd 32, .sc _, .hd 33, .hd 34, .hd 35, .hd 36, .sc _, .sc _, .sc _, .sc _]), (false, [.hd 37]), (false, [.sc _])]⟩)) ?_
             refine sl 4 (ok_extract (ag := true) (xs := [.hd 32, .sc _, .hd 33, .hd 34, .hd 35, .hd 36, .sc _, .sc _, .sc _, .sc _]) rfl rfl rfl) ?_
             refine sl 4 (ok_extract (ag := false) (xs := [.hd 37]) rfl rfl rfl) ?_
             refine sl 4 (ok_extract (ag := false) (xs := [.sc _]) rfl rfl rfl) ?_
             refine sm (ok_alloc (kk := 4) (xs := [.nl _, .sc _, .nl _, .nl _, .nl _, .nl _, .sc _, .sc _, .sc _, .sc _]) rfl rfl zero_impl_Sorter ⟨rfl, ⟨3, by decide, sz_impl_Row⟩, rfl, rfl, rfl, ⟨3, by decide, sz_impl_Row⟩, rfl, ⟨3, by decide, sz_impl_Row⟩, rfl, ⟨3, by decide, sz_impl_Row⟩, rfl, ⟨1, by decide, sz_impl_Run⟩, rfl, rfl, rfl, rfl, rfl, rfl, rfl, rfl, trivial⟩ rfl (gle rfl)) ?_
             refine so (st (ag := true) [.hd 32, .sc _, .hd 33, .hd 34, .hd 35, .hd 36, .sc _, .sc _, .sc _, .sc _] [.hd 32, .sc _, .hd 33, .hd 34, .hd 35, .hd 36, .sc _, .sc _, .sc _, .sc _] sz_impl_Sorter (fun h => by cases h)) ?_
             refine sl 5 (mv (V.one (.hd 37))) ?_
             refine sl 5 ms ?_
             refine SV.nil (SV.tn (SV.seq' (SV.seq' (SV.region ?_))))
             refine sl 5 (lb 4 0 [.hd 32, .sc _, .hd 33, .hd 34, .hd 35, .hd 36, .sc _, .sc _, .sc _, .sc _] agg_impl_Sorter sz_impl_Sorter (fun h => by cases h)) ?_
             refine sl 5 (lb 1 0 [.hd 5, .sc _, .hd 6, .hd 7, .hd 8, .hd 9, .sc _, .sc _, .sc _, .sc _] agg_impl_Sorter sz_impl_Sorter (fun h => by cases h)) ?_
             refine sm (cl [(false, [.sc _])] rfl Try.func18 (veq_sorter Y0 (by omega)) ⟨⟨[.hd 32, .sc _, .hd 33, .hd 34, .hd 35, .hd 36, .sc _, .sc _, .sc _, .sc _], rfl, ⟨rfl, rfl, rfl, rfl, rfl, rfl, rfl, rfl, rfl, rfl, trivial⟩⟩, ⟨[.hd 5, .sc _, .hd 6, .hd 7, .hd 8, .hd 9, .sc _, .sc _, .sc _, .sc _], rfl, ⟨rfl, rfl, rfl, rfl, rfl, rfl, rfl, rfl, rfl, rfl, trivial⟩⟩, trivial⟩) ?_
             refine sl 5 (s1 (.tmp 112)) ?_
             refine sl 5 ms ?_
             refine SV.split (d := 114) rfl (fun hg5 => ?_) (fun hg5 => ?_)
             ·skip   -- g5.T
              (exfalso; first | (simp at hg5; done) | (simp at hg5; omega))
             ·skip   -- g5.F
              refine sy 5 (mv (V.one (.hd 37))) ?_
              refine sy 5 (mv (V.one (.hd 10))) ?_
              refine SV.opY (OpMk.ok (cl [(false, [.sc _])] rfl Try.func19 (veq_rows Y1 (by omega)) ⟨⟨[.hd 37], rfl, ⟨rfl, trivial⟩⟩, ⟨[.hd 10], rfl, ⟨rfl, trivial⟩⟩, trivial⟩)) rfl rfl rfl (gle rfl) rfl rfl ?_
              refine sy 5 (s1 (.tmp 117)) ?_
              refine sl 5 pf ?_
              refine sl 5 ms ?_
              refine SV.split (d := 120) rfl (fun hg6 => ?_) (fun hg6 => ?_)
              ·skip   -- g6.T
               (exfalso; first | (simp at hg6; done) | (simp at hg6; omega))
              ·skip   -- g6.F
               refine sy 5 ms ?_
               refine sy 5 ms ?_
               refine sy 5 (s2 (.tmp 121) (.tmp 122)) ?_
               refine sl 5 pf ?_
               refine SV.nil (SV.tn ?_)
               refine SV.cond rfl (fun hc7 => ?_) (fun hc7 => ?_)
               ·skip   -- c7.T
                (exfalso; first | (simp at hc7; done) | (simp at hc7; omega))
               ·skip   -- c7.F
                refine SV.skip (SV.tn (SV.seq' (SV.region ?_)))
                refine sl 5 ms ?_
                refine SV.nil (SV.tn (SV.seq' (SV.region ?_)))
                refine sl 5 (lb 3 0 [.hd 16, .sc _, .hd 17, .hd 18, .hd 19, .hd 20, .sc _, .sc _, .sc _, .sc _] agg_impl_Sorter sz_impl_Sorter (fun h => by cases h)) ?_
                refine sl 5 ms ?_
                refine sm (cl [(false, [.sc _])] rfl Try.func22 (vhdv_sorter Y0 (1) (by omega) (by omega)) ⟨⟨[.hd 16, .sc _, .hd 17, .hd 18, .hd 19, .hd 20, .sc _, .sc _, .sc _, .sc _], rfl, ⟨rfl, rfl, rfl, rfl, rfl, rfl, rfl, rfl, rfl, rfl, trivial⟩⟩, ⟨[.sc _], rfl, ⟨rfl, trivial⟩⟩, trivial⟩) ?_
                refine sl 5 ms ?_
                refine SV.nil (SV.tn (SV.seq' (SV.seq' (SV.region ?_))))
                refine sl 5 ms ?_
                refine sl 5 (s2 (.tmp 128) (.const ((Value.int IntKind.i64 0)))) ?_
                refine SV.nil (SV.tn ?_)
                refine SV.cond rfl (fun hc8 => ?_) (fun hc8 => ?_)
                ·skip   -- c8.T
                 (exfalso; first | (simp at hc8; done) | (simp at hc8; omega))
                ·skip   -- c8.F
                 refine SV.skip (SV.tn (SV.seq' (SV.region ?_)))
                 refine sl 5 (mv (V.one (.hd 21))) ?_
                 refine sl 5 ms ?_
                 refine sm (cl [(false, [.sc _])] rfl Try.func31 (vhd_rows Y1 (1 + (rowsMk.cnt Y0.fInput : Nat) + (rowsMk.cnt Y0.fHeap : Nat) + (rowsMk.cnt Y0.fDeferred : Nat) + (rowsMk.cnt Y0.fOutput : Nat) + (runsMk.cnt Y0.fRuns : Nat)) (by omega) (by omega)) ⟨⟨[.hd 21], rfl, ⟨rfl, trivial⟩⟩, ⟨[.sc _], rfl, ⟨rfl, trivial⟩⟩, trivial⟩) ?_
                 refine sl 5 ms ?_
                 refine SV.nil (SV.tn (SV.seq' (SV.seq' (SV.region ?_))))
                 refine sl 5 ms ?_
                 refine sl 5 (s2 (.tmp 133) (.const ((Value.int IntKind.i64 0)))) ?_
                 refine SV.nil (SV.tn ?_)
                 refine SV.cond rfl (fun hc9 => ?_) (fun hc9 => ?_)
                 ·skip   -- c9.T
                  (exfalso; first | (simp at hc9; done) | (simp at hc9; omega))
                 ·skip   -- c9.F
                  refine SV.skip (SV.tn (SV.seq' (SV.seq' (SV.region ?_))))
                  refine sl 5 ms ?_
                  refine sl 5 ms ?_
                  refine sl 5 (s2 (.tmp 135) (.tmp 136)) ?_
                  refine SV.nil (SV.tn ?_)
                  refine SV.cond rfl (fun hc10 => ?_) (fun hc10 => ?_)
                  ·skip   -- c10.T
                   (exfalso; first | (simp at hc10; done) | (simp at hc10; omega))
                  ·skip   -- c10.F
                   refine SV.skip (SV.tn (SV.seq' (SV.region ?_)))
                   refine sl 5 ms ?_
                   refine SV.nil (SV.tn (SV.ret ?_))
                   refine d1 (.sc _) Try.results6 ?_ <;> rfl
theorem walk (v0 : Value) (X0 : SorterD) (w : World) (o0 : okSorter X0) (g0 : ArgT w true (uSorter X0) v0) (a1 : Int) (o1 : (Lit.int .i64 a1).wf = true) : Calls Try.prog 6 #[v0, .int .i64 a1] w fun e w' => e = .returned (.bool true) ∧ Below w.heap.size w w' :=
 VC.law (vlaw X0 a1 (SorterD.next X0 a1) (SorterD.gives X0 a1) (SorterD.can X0 a1) (fun hw => vstepV_s X0 a1 (SorterD.Wf.of o0 (by omega))) (fun hw => vstep_i X0 a1 (SorterD.Wf.of o0 (by omega))) (fun hw => (by have h1 := SorterD.wt_next X0 a1; omega)) (fun hw => (by have h1 := SorterD.gives_len X0 a1; have h2 : wtRows (SorterD.gives X0 a1) = (SorterD.gives X0 a1).length := rfl; omega))) (argsIn_cons g0 (argsIn_cons (ArgT.lit rfl) argsIn_nil))
/-! ### The row's step -/
theorem own : ownKnob Try.prog.godebug = none := by kernel_rfl
theorem laidOut : laidOutB Try.prog = true := by kernel_rfl
set_option maxRecDepth 100000 in
theorem lifted (os : Os) (started : os.Started) (H : Type) (enc : TypeId × Value → H) :
  ReturnsInHanded {} Try.checked os 6 .any (Rows.fnExactStepSorterSpec.pre6 enc Try.prog Try.f6 Rows.fnExactStepSorterRow.domain false) (Rows.fnExactStepSorterSpec.post enc Try.prog Try.f6 false true false false) := by
 refine returnsInHanded_of_change (C := Try.checked) own started (by kernel_rfl) Try.func6
  (ChangeSpec.witness6 (enc := enc) (C := Try.checked) false ⟨#[], #[.agg #[.slice none 0 0, .int .i64 0, .slice none 0 0, .slice none 0 0, .slice none 0 0, .slice none 0 0, .int .i64 0, .int .i64 0, .int .i64 0, .int .i64 0], .int .i64 0], []⟩ 8 (by kernel_rfl) (by kernel_rfl) (by kernel_rfl) (by kernel_rfl)) ?_
 intro W base args ds gs before hval0 hW hcnd hsz
 have hval : ∀ (j : Nat) t v, Try.f6.params[j]? = some t → args[j]? = some v → Value.okWide Try.prog W .any base t v := hval0
 have hW' := hW
 obtain ⟨p, q, hA0, hV, rfl, hfz, hnd⟩ := hW
 have hA : DataW.TrodAll enc Try.prog W 0 (fun _ => true) true Try.f6.params.toList args.toList ds p := hA0
 rw [Try.params6] at hA hval
 obtain ⟨v0, vs0, d0, ds0, p0, q0, hargs, rfl, rfl, h0, r0⟩ := trodAll_cons hA
 obtain ⟨v1, vs1, d1, ds1, p1, q1, rfl, rfl, rfl, h1, r1⟩ := trodAll_cons r0
 obtain ⟨rfl, rfl, rfl⟩ := trodAll_nil r1
 obtain rfl : args = #[v0, v1] := by cases args; simp_all
 obtain ⟨rfl, rfl⟩ := trodVars_none hV
 have k0 := h0
 have lt0 : ∀ x ∈ p0, x.block < W.heap.size := by obtain ⟨m, hm⟩ := k0; exact DataW.trod_lt m _ _ _ hm
 obtain ⟨L0, o0, g0⟩ := OpensT.sorter.val Try.underlying38 (by kernel_rfl) (hval 0 38 v0 rfl rfl) h0
 obtain ⟨a1, rfl, rfl, rfl, w1⟩ := open_int Try.underlying3 (hval 1 3 v1 rfl rfl) h1
 clear hA0 hval0
 refine (walk v0 L0 W o0 g0 a1 w1).mono fun e W' ⟨he, bel⟩ => ?_
 subst he
 exact ⟨_, rfl, _, _, _, [], _, [], hW', trodAll_mk1 (shut_bool Try.underlying4 _), (trodAll_cons_mk (Below.trod laidOut (by kernel_rfl) (of_decide_eq_true (by kernel_rfl)) k0 bel lt0) (trodAll_cons_mk (shut_int Try.underlying3 w1) trodAll_mk0)), rfl, bel.frame _, fun h => by cases h⟩
theorem over : Rows.fnExactStepSorterRow.holds Try.pinned (OpenSpec.ofChange Rows.fnExactStepSorterSpec) :=
 OpenClaim.holds_of_wide 6 Try.f6 rfl rfl rfl rfl rfl rfl rfl ⟨rfl, rfl, rfl, rfl, rfl⟩ rfl rfl rfl rfl rfl (by kernel_rfl) Try.func6 (by kernel_rfl)
  (of_decide_eq_true (by kernel_rfl)) (by unfold Func.isWrapper; first | (rw [if_pos (by decide +kernel)]; kernel_rfl) | (rw [if_neg (by decide +kernel)]; exact ⟨rfl, rfl⟩))
  (fun os started H enc _ => lifted os started H enc)
theorem proved : Rows.FnExactStepSorterSaid := over
#print axioms proved
end Go.Proofs.Ytpnbnbhifpcelaa.FnExactStepSorter
