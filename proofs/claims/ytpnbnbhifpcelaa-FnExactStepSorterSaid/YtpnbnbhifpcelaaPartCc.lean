/- Texts joined: VWSorter VOpRun VOpSorter RunM RunN MrgM SrtM SrtW SrtN Fits VQ Valids Ares SameRows Counti Cmps Cmpi Asc Class Sorts EqBagS Kit In Bits Fmt Frows FmtRows RowsT EqRowsS RowsU SrtA VP VY InT RunI RunB SrtO VHb VTl VTm VTp SrtT. -/
import Derived.Test.YtpnbnbhifpcelaaPartCb
import Derived.Deep.QuietTactic
import Derived.BigQuiet
import Derived.StillTailTactics
import Derived.Laws.StructEq
import Derived.Deep.RegionWith
import Derived.Deep.Quiet
import Derived.WalkKit
import Derived.Deep.RegionLaw
import Derived.Lib.SliceRun
import Derived.Test.YtpnbnbhifpcelaaProg
import Derived.Below
import Derived.Lib.Hide
import Derived.OwnWalk
import Derived.Laws.IdiomStrings
import Derived.IntWalk
import Derived.Laws.OwnMore
import Derived.Laws.BitsAllLaws
import Derived.Laws.BitsLemmas
import Derived.Deep.RegionHeld3
import Derived.Deep.AppendSrc
import Derived.Deep.OwnRows
import Derived.Laws.IdiomCopy
set_option linter.unusedSimpArgs false
set_option linter.unusedVariables false
/- Sorter: the laws' own functions over it, told by trees: each by its contract. -/
namespace Go.Proofs.Ytpnbnbhifpcelaa
open Go Go.RowKit V
set_option linter.unusedVariables false
set_option maxRecDepth 100000 in
set_option maxHeartbeats 2000000 in
theorem vsz_sorter (x : SorterD) (left : Int) (h0 : 0 ≤ left) (h1 : left ≤ 1048576) : VC Try.prog 23 [(true, uSorter x), (false, [.lit (.int .i64 left)])] false [(false, [.lit (.int .i64 (szR left (wtSorter x)))])] := by
 refine VC.enter Try.func23 rfl Try.ntmps23 (gle rfl) fun E hE => ?_
 have hW : wtSorter x = wtRows x.fInput + wtRows x.fHeap + wtRows x.fDeferred + wtRows x.fOutput + wtRuns x.fRuns := rfl
 refine SV.seq' (SV.region ?_)
 refine sm (ok_box (kk := 0) (ag := true) (xs := [.ro _, .sc _, .ro _, .ro _, .ro _, .ro _, .sc _, .sc _, .sc _, .sc _]) rfl rfl rfl (fun h => by cases h) rfl rfl (gle rfl)) ?_
 refine sl 1 ms ?_
 refine SV.nil (SV.tn (SV.seq' (SV.region ?_)))
 refine sl 1 (fb fld_laws_Sorter_0) ?_
 refine sl 1 (lb 0 0 [.ro _] agg_s_laws_Row sz_s_laws_Row (fun _ => rfl)) ?_
 refine sl 1 ms ?_
 refine sm (cl [(false, [.sc _])] rfl Try.func14 (vsz_rows x.fInput (left) (by omega) (by omega)) ⟨⟨[.ro _], rfl, ⟨rfl, trivial⟩⟩, ⟨[.sc _], rfl, ⟨rfl, trivial⟩⟩, trivial⟩) ?_
 refine sl 1 ms ?_
 refine SV.nil (SV.tn (SV.seq' (SV.seq' (SV.region ?_))))
 refine sl 1 ms ?_
 refine sl 1 (s2 (.tmp 9) (.const ((Value.int IntKind.i64 0)))) ?_
 refine SV.nil (SV.tn ?_)
 refine SV.cond rfl (fun hc0 => ?_) (fun hc0 => ?_)
 ·skip   -- c0.T
  have hs0 := sz_stop rfl (show szR (left) (wtRows x.fInput) < 0 by first | exact of_decide_eq_true hc0 | simpa using hc0 | simpa [szR] using hc0)
  refine SV.seq' (SV.region ?_)
  refine sl 1 ms ?_
  refine SV.nil (SV.tn (SV.ret (SV.tr ?_)))
  refine d1 (.sc _) Try.results23 ?_ <;> (refine liq ?_; first | rfl | (unfold szR; split <;> omega) | (rw [hs4.2, hs3.2, hs2.2, hs1.2, hs0.2]; unfold szR; split <;> omega))
 ·skip   -- c0.F
  have hs0 := sz_step rfl (show 0 ≤ szR (left) (wtRows x.fInput) by first | exact Int.not_lt.1 (of_decide_eq_false hc0) | simpa using hc0 | simpa [szR] using hc0)
  refine SV.skip (SV.tn (SV.seq' (SV.region ?_)))
  refine sl 1 (fb fld_laws_Sorter_2) ?_
  refine sl 1 (lb 0 2 [.ro _] agg_s_laws_Row sz_s_laws_Row (fun _ => rfl)) ?_
  refine sl 1 ms ?_
  refine sm (cl [(false, [.sc _])] rfl Try.func14 (vsz_rows x.fHeap (szR (left) (wtRows x.fInput)) (by omega) (by omega)) ⟨⟨[.ro _], rfl, ⟨rfl, trivial⟩⟩, ⟨[.sc _], rfl, ⟨rfl, trivial⟩⟩, trivial⟩) ?_
  refine sl 1 ms ?_
  refine SV.nil (SV.tn (SV.seq' (SV.seq' (SV.region ?_))))
  refine sl 1 ms ?_
  refine sl 1 (s2 (.tmp 15) (.const ((Value.int IntKind.i64 0)))) ?_
  refine SV.nil (SV.tn ?_)
  refine SV.cond rfl (fun hc1 => ?_) (fun hc1 => ?_)
  ·skip   -- c1.T
   have hs1 := sz_stop rfl (show szR (szR (left) (wtRows x.fInput)) (wtRows x.fHeap) < 0 by first | exact of_decide_eq_true hc1 | simpa using hc1 | simpa [hs0.2] using hc1)
   refine SV.seq' (SV.region ?_)
   refine sl 1 ms ?_
   refine SV.nil (SV.tn (SV.ret (SV.tr ?_)))
   refine d1 (.sc _) Try.results23 ?_ <;> (refine liq ?_; first | rfl | (unfold szR; split <;> omega) | (rw [hs4.2, hs3.2, hs2.2, hs1.2, hs0.2]; unfold szR; split <;> omega))
  ·skip   -- c1.F
   have hs1 := sz_step rfl (show 0 ≤ szR (szR (left) (wtRows x.fInput)) (wtRows x.fHeap) by first | exact Int.not_lt.1 (of_decide_eq_false hc1) | simpa using hc1 | simpa [hs0.2] using hc1)
   refine SV.skip (SV.tn (SV.seq' (SV.region ?_)))
   refine sl 1 (fb fld_laws_Sorter_3) ?_
   refine sl 1 (lb 0 3 [.ro _] agg_s_laws_Row sz_s_laws_Row (fun _ => rfl)) ?_
   refine sl 1 ms ?_
   refine sm (cl [(false, [.sc _])] rfl Try.func14 (vsz_rows x.fDeferred (szR (szR (left) (wtRows x.fInput)) (wtRows x.fHeap)) (by omega) (by omega)) ⟨⟨[.ro _], rfl, ⟨rfl, trivial⟩⟩, ⟨[.sc _], rfl, ⟨rfl, trivial⟩⟩, trivial⟩) ?_
   refine sl 1 ms ?_
   refine SV.nil (SV.tn (SV.seq' (SV.seq' (SV.region ?_))))
   refine sl 1 ms ?_
   refine sl 1 (s2 (.tmp 21) (.const ((Value.int IntKind.i64 0)))) ?_
   refine SV.nil (SV.tn ?_)
   refine SV.cond rfl (fun hc2 => ?_) (fun hc2 => ?_)
   ·skip   -- c2.T
    have hs2 := sz_stop rfl (show szR (szR (szR (left) (wtRows x.fInput)) (wtRows x.fHeap)) (wtRows x.fDeferred) < 0 by first | exact of_decide_eq_true hc2 | simpa using hc2 | simpa [hs0.2, hs1.2] using hc2)
    refine SV.seq' (SV.region ?_)
    refine sl 1 ms ?_
    refine SV.nil (SV.tn (SV.ret (SV.tr ?_)))
    refine d1 (.sc _) Try.results23 ?_ <;> (refine liq ?_; first | rfl | (unfold szR; split <;> omega) | (rw [hs4.2, hs3.2, hs2.2, hs1.2, hs0.2]; unfold szR; split <;> omega))
   ·skip   -- c2.F
    have hs2 := sz_step rfl (show 0 ≤ szR (szR (szR (left) (wtRows x.fInput)) (wtRows x.fHeap)) (wtRows x.fDeferred) by first | exact Int.not_lt.1 (of_decide_eq_false hc2) | simpa using hc2 | simpa [hs0.2, hs1.2] using hc2)
    refine SV.skip (SV.tn (SV.seq' (SV.region ?_)))
    refine sl 1 (fb fld_laws_Sorter_4) ?_
    refine sl 1 (lb 0 4 [.ro _] agg_s_laws_Row sz_s_laws_Row (fun _ => rfl)) ?_
    refine sl 1 ms ?_
    refine sm (cl [(false, [.sc _])] rfl Try.func14 (vsz_rows x.fOutput (szR (szR (szR (left) (wtRows x.fInput)) (wtRows x.fHeap)) (wtRows x.fDeferred)) (by omega) (by omega)) ⟨⟨[.ro _], rfl, ⟨rfl, trivial⟩⟩, ⟨[.sc _], rfl, ⟨rfl, trivial⟩⟩, trivial⟩) ?_
    refine sl 1 ms ?_
    refine SV.nil (SV.tn (SV.seq' (SV.seq' (SV.region ?_))))
    refine sl 1 ms ?_
    refine sl 1 (s2 (.tmp 27) (.const ((Value.int IntKind.i64 0)))) ?_
    refine SV.nil (SV.tn ?_)
    refine SV.cond rfl (fun hc3 => ?_) (fun hc3 => ?_)
    ·skip   -- c3.T
     have hs3 := sz_stop rfl (show szR (szR (szR (szR (left) (wtRows x.fInput)) (wtRows x.fHeap)) (wtRows x.fDeferred)) (wtRows x.fOutput) < 0 by first | exact of_decide_eq_true hc3 | simpa using hc3 | simpa [hs0.2, hs1.2, hs2.2] using hc3)
     refine SV.seq' (SV.region ?_)
     refine sl 1 ms ?_
     refine SV.nil (SV.tn (SV.ret (SV.tr ?_)))
     refine d1 (.sc _) Try.results23 ?_ <;> (refine liq ?_; first | rfl | (unfold szR; split <;> omega) | (rw [hs4.2, hs3.2, hs2.2, hs1.2, hs0.2]; unfold szR; split <;> omega))
    ·skip   -- c3.F
     have hs3 := sz_step rfl (show 0 ≤ szR (szR (szR (szR (left) (wtRows x.fInput)) (wtRows x.fHeap)) (wtRows x.fDeferred)) (wtRows x.fOutput) by first | exact Int.not_lt.1 (of_decide_eq_false hc3) | simpa using hc3 | simpa [hs0.2, hs1.2, hs2.2] using hc3)
     refine SV.skip (SV.tn (SV.seq' (SV.region ?_)))
     refine sl 1 (fb fld_laws_Sorter_5) ?_
     refine sl 1 (lb 0 5 [.ro _] agg_s_laws_Run sz_s_laws_Run (fun _ => rfl)) ?_
     refine sl 1 ms ?_
     refine sm (cl [(false, [.sc _])] rfl Try.func41 (vsz_runs x.fRuns (szR (szR (szR (szR (left) (wtRows x.fInput)) (wtRows x.fHeap)) (wtRows x.fDeferred)) (wtRows x.fOutput)) (by omega) (by omega)) ⟨⟨[.ro _], rfl, ⟨rfl, trivial⟩⟩, ⟨[.sc _], rfl, ⟨rfl, trivial⟩⟩, trivial⟩) ?_
     refine sl 1 ms ?_
     refine SV.nil (SV.tn (SV.seq' (SV.seq' (SV.region ?_))))
     refine sl 1 ms ?_
     refine sl 1 (s2 (.tmp 33) (.const ((Value.int IntKind.i64 0)))) ?_
     refine SV.nil (SV.tn ?_)
     refine SV.cond rfl (fun hc4 => ?_) (fun hc4 => ?_)
     ·skip   -- c4.T
      have hs4 := sz_stop rfl (show szR (szR (szR (szR (szR (left) (wtRows x.fInput)) (wtRows x.fHeap)) (wtRows x.fDeferred)) (wtRows x.fOutput)) (wtRuns x.fRuns) < 0 by first | exact of_decide_eq_true hc4 | simpa using hc4 | simpa [hs0.2, hs1.2, hs2.2, hs3.2] using hc4)
      refine SV.seq' (SV.region ?_)
      refine sl 1 ms ?_
      refine SV.nil (SV.tn (SV.ret (SV.tr ?_)))
      refine d1 (.sc _) Try.results23 ?_ <;> (refine liq ?_; first | rfl | (unfold szR; split <;> omega) | (rw [hs4.2, hs3.2, hs2.2, hs1.2, hs0.2]; unfold szR; split <;> omega))
     ·skip   -- c4.F
      have hs4 := sz_step rfl (show 0 ≤ szR (szR (szR (szR (szR (left) (wtRows x.fInput)) (wtRows x.fHeap)) (wtRows x.fDeferred)) (wtRows x.fOutput)) (wtRuns x.fRuns) by first | exact Int.not_lt.1 (of_decide_eq_false hc4) | simpa using hc4 | simpa [hs0.2, hs1.2, hs2.2, hs3.2] using hc4)
      refine SV.skip (SV.tn (SV.seq' (SV.region ?_)))
      refine sl 1 ms ?_
      refine sl 1 ms ?_
      refine SV.nil (SV.tn (SV.ret ?_))
      refine d1 (.sc _) Try.results23 ?_ <;> (refine liq ?_; first | rfl | (unfold szR; split <;> omega) | (rw [hs4.2, hs3.2, hs2.2, hs1.2, hs0.2]; unfold szR; split <;> omega))
set_option maxRecDepth 100000 in
set_option maxHeartbeats 2000000 in
theorem vmkv_sorter (x : SorterD) (q : Int) (hq0 : 0 ≤ q) (hq1 : q + 64 * wtSorter x ≤ 100000000000000) : VM Try.prog 21 [(true, [.ln 0, .rd (.lit (.int .i64 x.fPos)), .ln 1, .ln 2, .ln 3, .ln 4, .rd (.lit (.int .i64 x.fLeftPos)), .rd (.lit (.int .i64 x.fRightPos)), .rd (.lit (.int .i64 x.fPhase)), .rd (.lit (.int .i64 x.fWritten))]), (false, [.rd (.lit (.int .i64 q))])] [.seq 72 (x.fInput.map tRow), .seq 72 (x.fHeap.map tRow), .seq 72 (x.fDeferred.map tRow), .seq 72 (x.fOutput.map tRow), .seq 84 (x.fRuns.map tRun)] [.seq 72 ((rowsMk.mark (q) x.fInput).map tRow), .seq 72 ((rowsMk.mark (q + (rowsMk.cnt x.fInput : Nat)) x.fHeap).map tRow), .seq 72 ((rowsMk.mark (q + (rowsMk.cnt x.fInput : Nat) + (rowsMk.cnt x.fHeap : Nat)) x.fDeferred).map tRow), .seq 72 ((rowsMk.mark (q + (rowsMk.cnt x.fInput : Nat) + (rowsMk.cnt x.fHeap : Nat) + (rowsMk.cnt x.fDeferred : Nat)) x.fOutput).map tRow), .seq 84 ((runsMk.mark (q + (rowsMk.cnt x.fInput : Nat) + (rowsMk.cnt x.fHeap : Nat) + (rowsMk.cnt x.fDeferred : Nat) + (rowsMk.cnt x.fOutput : Nat)) x.fRuns).map tRun)] (.int .i64 (q + (rowsMk.cnt x.fInput : Nat) + (rowsMk.cnt x.fHeap : Nat) + (rowsMk.cnt x.fDeferred : Nat) + (rowsMk.cnt x.fOutput : Nat) + (runsMk.cnt x.fRuns : Nat))) := by
 refine VM.enter (m := 5) rfl Try.func21 rfl Try.ntmps21 (gle rfl) fun E hE => ?_
 have hC0 := cnt_rows x.fInput
 have hC2 := cnt_rows x.fHeap
 have hC3 := cnt_rows x.fDeferred
 have hC4 := cnt_rows x.fOutput
 have hC5 := cnt_runs x.fRuns
 have hW : wtSorter x = wtRows x.fInput + wtRows x.fHeap + wtRows x.fDeferred + wtRows x.fOutput + wtRuns x.fRuns := rfl
 refine SV.seq' (SV.region ?_)
 refine sm (ok_box (kk := 0) (ag := true) (xs := [.hd 0, .sc _, .hd 1, .hd 2, .hd 3, .hd 4, .sc _, .sc _, .sc _, .sc _]) rfl rfl rfl (fun h => by cases h) rfl rfl (gle rfl)) ?_
 refine sl 1 ms ?_
 refine SV.nil (SV.tn (SV.seq' (SV.region ?_)))
 refine sl 1 (fb fld_impl_Sorter_0) ?_
 refine sl 1 (lb 0 0 [.hd 0] agg_s_impl_Row sz_s_impl_Row (fun _ => rfl)) ?_
 refine sl 1 ms ?_
 refine so (ok_callM (is := [0]) rfl ⟨_, _, Try.func20, rfl, by decide⟩ (vmk_rows x.fInput (q) (by omega) (by omega)) ⟨⟨[.hd 0], rfl, ⟨rfl, trivial⟩⟩, ⟨[.sc _], rfl, ⟨⟨_, rfl, rfl⟩, trivial⟩⟩, trivial⟩ ⟨⟨⟨_, rfl⟩, _, _, rfl⟩, trivial⟩ (by decide) rfl rfl (gle rfl)) ?_
 refine sl 1 ms ?_
 refine SV.nil (SV.tn (SV.seq' (SV.region ?_)))
 refine sl 1 (fb fld_impl_Sorter_2) ?_
 refine sl 1 (lb 0 2 [.hd 1] agg_s_impl_Row sz_s_impl_Row (fun _ => rfl)) ?_
 refine sl 1 ms ?_
 refine so (ok_callM (is := [1]) rfl ⟨_, _, Try.func20, rfl, by decide⟩ (vmk_rows x.fHeap (q + (rowsMk.cnt x.fInput : Nat)) (by omega) (by omega)) ⟨⟨[.hd 1], rfl, ⟨rfl, trivial⟩⟩, ⟨[.sc _], rfl, ⟨⟨_, rfl, rfl⟩, trivial⟩⟩, trivial⟩ ⟨⟨⟨_, rfl⟩, _, _, rfl⟩, trivial⟩ (by decide) rfl rfl (gle rfl)) ?_
 refine sl 1 ms ?_
 refine SV.nil (SV.tn (SV.seq' (SV.region ?_)))
 refine sl 1 (fb fld_impl_Sorter_3) ?_
 refine sl 1 (lb 0 3 [.hd 2] agg_s_impl_Row sz_s_impl_Row (fun _ => rfl)) ?_
 refine sl 1 ms ?_
 refine so (ok_callM (is := [2]) rfl ⟨_, _, Try.func20, rfl, by decide⟩ (vmk_rows x.fDeferred (q + (rowsMk.cnt x.fInput : Nat) + (rowsMk.cnt x.fHeap : Nat)) (by omega) (by omega)) ⟨⟨[.hd 2], rfl, ⟨rfl, trivial⟩⟩, ⟨[.sc _], rfl, ⟨⟨_, rfl, rfl⟩, trivial⟩⟩, trivial⟩ ⟨⟨⟨_, rfl⟩, _, _, rfl⟩, trivial⟩ (by decide) rfl rfl (gle rfl)) ?_
 refine sl 1 ms ?_
 refine SV.nil (SV.tn (SV.seq' (SV.region ?_)))
 refine sl 1 (fb fld_impl_Sorter_4) ?_
 refine sl 1 (lb 0 4 [.hd 3] agg_s_impl_Row sz_s_impl_Row (fun _ => rfl)) ?_
 refine sl 1 ms ?_
 refine so (ok_callM (is := [3]) rfl ⟨_, _, Try.func20, rfl, by decide⟩ (vmk_rows x.fOutput (q + (rowsMk.cnt x.fInput : Nat) + (rowsMk.cnt x.fHeap : Nat) + (rowsMk.cnt x.fDeferred : Nat)) (by omega) (by omega)) ⟨⟨[.hd 3], rfl, ⟨rfl, trivial⟩⟩, ⟨[.sc _], rfl, ⟨⟨_, rfl, rfl⟩, trivial⟩⟩, trivial⟩ ⟨⟨⟨_, rfl⟩, _, _, rfl⟩, trivial⟩ (by decide) rfl rfl (gle rfl)) ?_
 refine sl 1 ms ?_
 refine SV.nil (SV.tn (SV.seq' (SV.region ?_)))
 refine sl 1 (fb fld_impl_Sorter_5) ?_
 refine sl 1 (lb 0 5 [.hd 4] agg_s_impl_Run sz_s_impl_Run (fun _ => rfl)) ?_
 refine sl 1 ms ?_
 refine so (ok_callM (is := [4]) rfl ⟨_, _, Try.func37, rfl, by decide⟩ (vmk_runs x.fRuns (q + (rowsMk.cnt x.fInput : Nat) + (rowsMk.cnt x.fHeap : Nat) + (rowsMk.cnt x.fDeferred : Nat) + (rowsMk.cnt x.fOutput : Nat)) (by omega) (by omega)) ⟨⟨[.hd 4], rfl, ⟨rfl, trivial⟩⟩, ⟨[.sc _], rfl, ⟨⟨_, rfl, rfl⟩, trivial⟩⟩, trivial⟩ ⟨⟨⟨_, rfl⟩, _, _, rfl⟩, trivial⟩ (by decide) rfl rfl (gle rfl)) ?_
 refine sl 1 ms ?_
 refine SV.nil (SV.tn (SV.seq' (SV.region ?_)))
 refine sl 1 ms ?_
 refine sl 1 ms ?_
 refine SV.nil (SV.tn (SV.ret ?_))
 refine SV.doneM hE rfl ⟨?_, ?_, ?_, ?_, ?_, trivial⟩ (.inl rfl) ?_
 ·rfl
 ·rfl
 ·rfl
 ·rfl
 ·rfl
 refine d1 (.sc _) Try.results21 ?_ <;> rfl
set_option maxRecDepth 100000 in
set_option maxHeartbeats 2000000 in
theorem vhdv_sorter (x : SorterD) (q : Int) (hq0 : 0 ≤ q) (hq1 : q + 64 * wtSorter x ≤ 100000000000000) : VC Try.prog 22 [(true, tSorter (sorterMkV.mark q x)), (false, [.lit (.int .i64 q)])] false [(false, [.lit (.int .i64 (q + (rowsMk.cnt x.fInput : Nat) + (rowsMk.cnt x.fHeap : Nat) + (rowsMk.cnt x.fDeferred : Nat) + (rowsMk.cnt x.fOutput : Nat) + (runsMk.cnt x.fRuns : Nat)))])] := by
 refine VC.enter Try.func22 rfl Try.ntmps22 (gle rfl) fun E hE => ?_
 have hC0 := cnt_rows x.fInput
 have hC1 := cnt_rows x.fHeap
 have hC2 := cnt_rows x.fDeferred
 have hC3 := cnt_rows x.fOutput
 have hC4 := cnt_runs x.fRuns
 have hW : wtSorter x = wtRows x.fInput + wtRows x.fHeap + wtRows x.fDeferred + wtRows x.fOutput + wtRuns x.fRuns := rfl
 refine SV.seq' (SV.region ?_)
 refine sm (ok_box (kk := 0) (ag := true) (xs := [.ro _, .sc _, .ro _, .ro _, .ro _, .ro _, .sc _, .sc _, .sc _, .sc _]) rfl rfl rfl (fun h => by cases h) rfl rfl (gle rfl)) ?_
 refine sl 1 ms ?_
 refine SV.nil (SV.tn (SV.seq' (SV.region ?_)))
 refine sl 1 (fb fld_impl_Sorter_0) ?_
 refine sl 1 (lb 0 0 [.ro _] agg_s_impl_Row sz_s_impl_Row (fun _ => rfl)) ?_
 refine sl 1 ms ?_
 refine sm (cl [(false, [.sc _])] rfl Try.func31 (vhd_rows x.fInput (q) (by omega) (by omega)) ⟨⟨[.ro _], rfl, ⟨rfl, trivial⟩⟩, ⟨[.sc _], rfl, ⟨rfl, trivial⟩⟩, trivial⟩) ?_
 refine sl 1 ms ?_
 refine SV.nil (SV.tn (SV.seq' (SV.seq' (SV.region ?_))))
 refine sl 1 ms ?_
 refine sl 1 (s2 (.tmp 9) (.const ((Value.int IntKind.i64 0)))) ?_
 refine SV.nil (SV.tn ?_)
 refine SV.cond rfl (fun hc0 => ?_) (fun hc0 => ?_)
 ·skip   -- c0.T
  (exfalso; simp at hc0; omega)
 ·skip   -- c0.F
  refine SV.skip (SV.tn (SV.seq' (SV.region ?_)))
  refine sl 1 (fb fld_impl_Sorter_2) ?_
  refine sl 1 (lb 0 2 [.ro _] agg_s_impl_Row sz_s_impl_Row (fun _ => rfl)) ?_
  refine sl 1 ms ?_
  refine sm (cl [(false, [.sc _])] rfl Try.func31 (vhd_rows x.fHeap (q + (rowsMk.cnt x.fInput : Nat)) (by omega) (by omega)) ⟨⟨[.ro _], rfl, ⟨rfl, trivial⟩⟩, ⟨[.sc _], rfl, ⟨rfl, trivial⟩⟩, trivial⟩) ?_
  refine sl 1 ms ?_
  refine SV.nil (SV.tn (SV.seq' (SV.seq' (SV.region ?_))))
  refine sl 1 ms ?_
  refine sl 1 (s2 (.tmp 15) (.const ((Value.int IntKind.i64 0)))) ?_
  refine SV.nil (SV.tn ?_)
  refine SV.cond rfl (fun hc1 => ?_) (fun hc1 => ?_)
  ·skip   -- c1.T
   (exfalso; simp at hc1; omega)
  ·skip   -- c1.F
   refine SV.skip (SV.tn (SV.seq' (SV.region ?_)))
   refine sl 1 (fb fld_impl_Sorter_3) ?_
   refine sl 1 (lb 0 3 [.ro _] agg_s_impl_Row sz_s_impl_Row (fun _ => rfl)) ?_
   refine sl 1 ms ?_
   refine sm (cl [(false, [.sc _])] rfl Try.func31 (vhd_rows x.fDeferred (q + (rowsMk.cnt x.fInput : Nat) + (rowsMk.cnt x.fHeap : Nat)) (by omega) (by omega)) ⟨⟨[.ro _], rfl, ⟨rfl, trivial⟩⟩, ⟨[.sc _], rfl, ⟨rfl, trivial⟩⟩, trivial⟩) ?_
   refine sl 1 ms ?_
   refine SV.nil (SV.tn (SV.seq' (SV.seq' (SV.region ?_))))
   refine sl 1 ms ?_
   refine sl 1 (s2 (.tmp 21) (.const ((Value.int IntKind.i64 0)))) ?_
   refine SV.nil (SV.tn ?_)
   refine SV.cond rfl (fun hc2 => ?_) (fun hc2 => ?_)
   ·skip   -- c2.T
    (exfalso; simp at hc2; omega)
   ·skip   -- c2.F
    refine SV.skip (SV.tn (SV.seq' (SV.region ?_)))
    refine sl 1 (fb fld_impl_Sorter_4) ?_
    refine sl 1 (lb 0 4 [.ro _] agg_s_impl_Row sz_s_impl_Row (fun _ => rfl)) ?_
    refine sl 1 ms ?_
    refine sm (cl [(false, [.sc _])] rfl Try.func31 (vhd_rows x.fOutput (q + (rowsMk.cnt x.fInput : Nat) + (rowsMk.cnt x.fHeap : Nat) + (rowsMk.cnt x.fDeferred : Nat)) (by omega) (by omega)) ⟨⟨[.ro _], rfl, ⟨rfl, trivial⟩⟩, ⟨[.sc _], rfl, ⟨rfl, trivial⟩⟩, trivial⟩) ?_
    refine sl 1 ms ?_
    refine SV.nil (SV.tn (SV.seq' (SV.seq' (SV.region ?_))))
    refine sl 1 ms ?_
    refine sl 1 (s2 (.tmp 27) (.const ((Value.int IntKind.i64 0)))) ?_
    refine SV.nil (SV.tn ?_)
    refine SV.cond rfl (fun hc3 => ?_) (fun hc3 => ?_)
    ·skip   -- c3.T
     (exfalso; simp at hc3; omega)
    ·skip   -- c3.F
     refine SV.skip (SV.tn (SV.seq' (SV.region ?_)))
     refine sl 1 (fb fld_impl_Sorter_5) ?_
     refine sl 1 (lb 0 5 [.ro _] agg_s_impl_Run sz_s_impl_Run (fun _ => rfl)) ?_
     refine sl 1 ms ?_
     refine sm (cl [(false, [.sc _])] rfl Try.func38 (vhd_runs x.fRuns (q + (rowsMk.cnt x.fInput : Nat) + (rowsMk.cnt x.fHeap : Nat) + (rowsMk.cnt x.fDeferred : Nat) + (rowsMk.cnt x.fOutput : Nat)) (by omega) (by omega)) ⟨⟨[.ro _], rfl, ⟨rfl, trivial⟩⟩, ⟨[.sc _], rfl, ⟨rfl, trivial⟩⟩, trivial⟩) ?_
     refine sl 1 ms ?_
     refine SV.nil (SV.tn (SV.seq' (SV.seq' (SV.region ?_))))
     refine sl 1 ms ?_
     refine sl 1 (s2 (.tmp 33) (.const ((Value.int IntKind.i64 0)))) ?_
     refine SV.nil (SV.tn ?_)
     refine SV.cond rfl (fun hc4 => ?_) (fun hc4 => ?_)
     ·skip   -- c4.T
      (exfalso; simp at hc4; omega)
     ·skip   -- c4.F
      refine SV.skip (SV.tn (SV.seq' (SV.region ?_)))
      refine sl 1 ms ?_
      refine sl 1 ms ?_
      refine SV.nil (SV.tn (SV.ret ?_))
      refine d1 (.sc _) Try.results22 ?_ <;> rfl
set_option maxRecDepth 100000 in
set_option maxHeartbeats 2000000 in
theorem veq_sorter (x : SorterD) (hL : wtSorter x ≤ 300000000000) : VC Try.prog 18 [(true, tSorter x), (true, tSorter x)] false [(false, [.lit (.bool true)])] := by
 refine VC.enter Try.func18 rfl Try.ntmps18 (gle rfl) fun E hE => ?_
 have hW : wtSorter x = wtRows x.fInput + wtRows x.fHeap + wtRows x.fDeferred + wtRows x.fOutput + wtRuns x.fRuns := rfl
 refine SV.seq' (SV.region ?_)
 refine sm (ok_box (kk := 0) (ag := true) (xs := [.ro _, .sc _, .ro _, .ro _, .ro _, .ro _, .sc _, .sc _, .sc _, .sc _]) rfl rfl rfl (fun h => by cases h) rfl rfl (gle rfl)) ?_
 refine sm (ok_box (kk := 1) (ag := true) (xs := [.ro _, .sc _, .ro _, .ro _, .ro _, .ro _, .sc _, .sc _, .sc _, .sc _]) rfl rfl rfl (fun h => by cases h) rfl rfl (gle rfl)) ?_
 refine sl 2 ms ?_
 refine SV.nil (SV.tn (SV.seq' (SV.seq' (SV.region ?_))))
 refine sl 2 (fb fld_impl_Sorter_0) ?_
 refine sl 2 (lb 0 0 [.ro _] agg_s_impl_Row sz_s_impl_Row (fun _ => rfl)) ?_
 refine sl 2 (fb fld_impl_Sorter_0) ?_
 refine sl 2 (lb 1 0 [.ro _] agg_s_impl_Row sz_s_impl_Row (fun _ => rfl)) ?_
 refine sm (cl [(false, [.sc _])] rfl Try.func19 (veq_rows x.fInput (by omega)) ⟨⟨[.ro _], rfl, ⟨rfl, trivial⟩⟩, ⟨[.ro _], rfl, ⟨rfl, trivial⟩⟩, trivial⟩) ?_
 refine sl 2 (s1 (.tmp 9)) ?_
 refine SV.nil (SV.tn ?_)
 refine SV.cond rfl (fun hc0 => ?_) (fun hc0 => ?_)
 ·skip   -- c0.T
  simp at hc0
 ·skip   -- c0.F
  refine SV.skip (SV.tn (SV.seq' (SV.seq' (SV.region ?_))))
  refine sl 2 (fb fld_impl_Sorter_1) ?_
  refine sl 2 (lb 0 1 [.sc _] agg_int sz_int (fun _ => rfl)) ?_
  refine sl 2 (fb fld_impl_Sorter_1) ?_
  refine sl 2 (lb 1 1 [.sc _] agg_int sz_int (fun _ => rfl)) ?_
  refine sl 2 (s2 (.tmp 12) (.tmp 14)) ?_
  refine SV.nil (SV.tn ?_)
  refine SV.cond rfl (fun hc1 => ?_) (fun hc1 => ?_)
  ·skip   -- c1.T
   simp at hc1
  ·skip   -- c1.F
   refine SV.skip (SV.tn (SV.seq' (SV.seq' (SV.region ?_))))
   refine sl 2 (fb fld_impl_Sorter_2) ?_
   refine sl 2 (lb 0 2 [.ro _] agg_s_impl_Row sz_s_impl_Row (fun _ => rfl)) ?_
   refine sl 2 (fb fld_impl_Sorter_2) ?_
   refine sl 2 (lb 1 2 [.ro _] agg_s_impl_Row sz_s_impl_Row (fun _ => rfl)) ?_
   refine sm (cl [(false, [.sc _])] rfl Try.func19 (veq_rows x.fHeap (by omega)) ⟨⟨[.ro _], rfl, ⟨rfl, trivial⟩⟩, ⟨[.ro _], rfl, ⟨rfl, trivial⟩⟩, trivial⟩) ?_
   refine sl 2 (s1 (.tmp 20)) ?_
   refine SV.nil (SV.tn ?_)
   refine SV.cond rfl (fun hc2 => ?_) (fun hc2 => ?_)
   ·skip   -- c2.T
    simp at hc2
   ·skip   -- c2.F
    refine SV.skip (SV.tn (SV.seq' (SV.seq' (SV.region ?_))))
    refine sl 2 (fb fld_impl_Sorter_3) ?_
    refine sl 2 (lb 0 3 [.ro _] agg_s_impl_Row sz_s_impl_Row (fun _ => rfl)) ?_
    refine sl 2 (fb fld_impl_Sorter_3) ?_
    refine sl 2 (lb 1 3 [.ro _] agg_s_impl_Row sz_s_impl_Row (fun _ => rfl)) ?_
    refine sm (cl [(false, [.sc _])] rfl Try.func19 (veq_rows x.fDeferred (by omega)) ⟨⟨[.ro _], rfl, ⟨rfl, trivial⟩⟩, ⟨[.ro _], rfl, ⟨rfl, trivial⟩⟩, trivial⟩) ?_
    refine sl 2 (s1 (.tmp 26)) ?_
    refine SV.nil (SV.tn ?_)
    refine SV.cond rfl (fun hc3 => ?_) (fun hc3 => ?_)
    ·skip   -- c3.T
     simp at hc3
    ·skip   -- c3.F
     refine SV.skip (SV.tn (SV.seq' (SV.seq' (SV.region ?_))))
     refine sl 2 (fb fld_impl_Sorter_4) ?_
     refine sl 2 (lb 0 4 [.ro _] agg_s_impl_Row sz_s_impl_Row (fun _ => rfl)) ?_
     refine sl 2 (fb fld_impl_Sorter_4) ?_
     refine sl 2 (lb 1 4 [.ro _] agg_s_impl_Row sz_s_impl_Row (fun _ => rfl)) ?_
     refine sm (cl [(false, [.sc _])] rfl Try.func19 (veq_rows x.fOutput (by omega)) ⟨⟨[.ro _], rfl, ⟨rfl, trivial⟩⟩, ⟨[.ro _], rfl, ⟨rfl, trivial⟩⟩, trivial⟩) ?_
     refine sl 2 (s1 (.tmp 32)) ?_
     refine SV.nil (SV.tn ?_)
     refine SV.cond rfl (fun hc4 => ?_) (fun hc4 => ?_)
     ·skip   -- c4.T
      simp at hc4
     ·skip   -- c4.F
      refine SV.skip (SV.tn (SV.seq' (SV.seq' (SV.region ?_))))
      refine sl 2 (fb fld_impl_Sorter_5) ?_
      refine sl 2 (lb 0 5 [.ro _] agg_s_impl_Run sz_s_impl_Run (fun _ => rfl)) ?_
      refine sl 2 (fb fld_impl_Sorter_5) ?_
      refine sl 2 (lb 1 5 [.ro _] agg_s_impl_Run sz_s_impl_Run (fun _ => rfl)) ?_
      refine sm (cl [(false, [.sc _])] rfl Try.func36 (veq_runs x.fRuns (by omega)) ⟨⟨[.ro _], rfl, ⟨rfl, trivial⟩⟩, ⟨[.ro _], rfl, ⟨rfl, trivial⟩⟩, trivial⟩) ?_
      refine sl 2 (s1 (.tmp 38)) ?_
      refine SV.nil (SV.tn ?_)
      refine SV.cond rfl (fun hc5 => ?_) (fun hc5 => ?_)
      ·skip   -- c5.T
       simp at hc5
      ·skip   -- c5.F
       refine SV.skip (SV.tn (SV.seq' (SV.seq' (SV.region ?_))))
       refine sl 2 (fb fld_impl_Sorter_6) ?_
       refine sl 2 (lb 0 6 [.sc _] agg_int sz_int (fun _ => rfl)) ?_
       refine sl 2 (fb fld_impl_Sorter_6) ?_
       refine sl 2 (lb 1 6 [.sc _] agg_int sz_int (fun _ => rfl)) ?_
       refine sl 2 (s2 (.tmp 41) (.tmp 43)) ?_
       refine SV.nil (SV.tn ?_)
       refine SV.cond rfl (fun hc6 => ?_) (fun hc6 => ?_)
       ·skip   -- c6.T
        simp at hc6
       ·skip   -- c6.F
        refine SV.skip (SV.tn (SV.seq' (SV.seq' (SV.region ?_))))
        refine sl 2 (fb fld_impl_Sorter_7) ?_
        refine sl 2 (lb 0 7 [.sc _] agg_int sz_int (fun _ => rfl)) ?_
        refine sl 2 (fb fld_impl_Sorter_7) ?_
        refine sl 2 (lb 1 7 [.sc _] agg_int sz_int (fun _ => rfl)) ?_
        refine sl 2 (s2 (.tmp 46) (.tmp 48)) ?_
        refine SV.nil (SV.tn ?_)
        refine SV.cond rfl (fun hc7 => ?_) (fun hc7 => ?_)
        ·skip   -- c7.T
         simp at hc7
        ·skip   -- c7.F
         refine SV.skip (SV.tn (SV.seq' (SV.seq' (SV.region ?_))))
         refine sl 2 (fb fld_impl_Sorter_8) ?_
         refine sl 2 (lb 0 8 [.sc _] agg_int sz_int (fun _ => rfl)) ?_
         refine sl 2 (fb fld_impl_Sorter_8) ?_
         refine sl 2 (lb 1 8 [.sc _] agg_int sz_int (fun _ => rfl)) ?_
         refine sl 2 (s2 (.tmp 51) (.tmp 53)) ?_
         refine SV.nil (SV.tn ?_)
         refine SV.cond rfl (fun hc8 => ?_) (fun hc8 => ?_)
         ·skip   -- c8.T
          simp at hc8
         ·skip   -- c8.F
          refine SV.skip (SV.tn (SV.seq' (SV.seq' (SV.region ?_))))
          refine sl 2 (fb fld_impl_Sorter_9) ?_
          refine sl 2 (lb 0 9 [.sc _] agg_int sz_int (fun _ => rfl)) ?_
          refine sl 2 (fb fld_impl_Sorter_9) ?_
          refine sl 2 (lb 1 9 [.sc _] agg_int sz_int (fun _ => rfl)) ?_
          refine sl 2 (s2 (.tmp 56) (.tmp 58)) ?_
          refine SV.nil (SV.tn ?_)
          refine SV.cond rfl (fun hc9 => ?_) (fun hc9 => ?_)
          ·skip   -- c9.T
           simp at hc9
          ·skip   -- c9.F
           refine SV.skip (SV.tn (SV.seq' (SV.region ?_)))
           refine sl 2 ms ?_
           refine SV.nil (SV.tn (SV.ret ?_))
           refine d1 (.sc _) Try.results18 ?_ <;> rfl
set_option maxRecDepth 100000 in
set_option maxHeartbeats 2000000 in
theorem vto_sorter (x : SorterD) (hL : wtSorter x ≤ 300000000000) : VC Try.prog 25 [(true, uSorter x)] false [(true, tSorter x)] := by
 refine VC.enter Try.func25 rfl Try.ntmps25 (gle rfl) fun E hE => ?_
 have hW : wtSorter x = wtRows x.fInput + wtRows x.fHeap + wtRows x.fDeferred + wtRows x.fOutput + wtRuns x.fRuns := rfl
 refine SV.seq' (SV.region ?_)
 refine sm (ok_box (kk := 0) (ag := true) (xs := [.ro _, .sc _, .ro _, .ro _, .ro _, .ro _, .sc _, .sc _, .sc _, .sc _]) rfl rfl rfl (fun h => by cases h) rfl rfl (gle rfl)) ?_
 refine sm (ok_alloc (kk := 1) (xs := [.nl _, .sc _, .nl _, .nl _, .nl _, .nl _, .sc _, .sc _, .sc _, .sc _]) rfl rfl zero_impl_Sorter ⟨rfl, ⟨3, by decide, sz_impl_Row⟩, rfl, rfl, rfl, ⟨3, by decide, sz_impl_Row⟩, rfl, ⟨3, by decide, sz_impl_Row⟩, rfl, ⟨3, by decide, sz_impl_Row⟩, rfl, ⟨1, by decide, sz_impl_Run⟩, rfl, rfl, rfl, rfl, rfl, rfl, rfl, rfl, trivial⟩ rfl (gle rfl)) ?_
 refine SV.nil (SV.tn (SV.seq' (SV.region ?_)))
 refine sm (ok_alloc (kk := 2) (xs := [.nl _, .sc _, .nl _, .nl _, .nl _, .nl _, .sc _, .sc _, .sc _, .sc _]) rfl rfl zero_impl_Sorter ⟨rfl, ⟨3, by decide, sz_impl_Row⟩, rfl, rfl, rfl, ⟨3, by decide, sz_impl_Row⟩, rfl, ⟨3, by decide, sz_impl_Row⟩, rfl, ⟨3, by decide, sz_impl_Row⟩, rfl, ⟨1, by decide, sz_impl_Run⟩, rfl, rfl, rfl, rfl, rfl, rfl, rfl, rfl, trivial⟩ rfl (gle rfl)) ?_
 refine SV.nil (SV.tn (SV.seq' (SV.region ?_)))
 refine sl 3 (fb fld_laws_Sorter_0) ?_
 refine sl 3 (lb 0 0 [.ro _] agg_s_laws_Row sz_s_laws_Row (fun _ => rfl)) ?_
 refine sm (cl [(false, [.hd 0])] rfl Try.func16 (vto_rows x.fInput (by omega)) ⟨⟨[.ro _], rfl, ⟨rfl, trivial⟩⟩, trivial⟩) ?_
 refine sl 3 (fb fld_impl_Sorter_0) ?_
 refine so (st (ag := false) [.hd 0] [.hd 0, .sc _, .nl _, .nl _, .nl _, .nl _, .sc _, .sc _, .sc _, .sc _] sz_s_impl_Row (fun _ => rfl)) ?_
 refine SV.nil (SV.tn (SV.seq' (SV.region ?_)))
 refine sl 3 (fb fld_laws_Sorter_1) ?_
 refine sl 3 (lb 0 1 [.sc _] agg_int sz_int (fun _ => rfl)) ?_
 refine sl 3 (fb fld_impl_Sorter_1) ?_
 refine so (st (ag := false) [.sc _] [.hd 0, .sc _, .nl _, .nl _, .nl _, .nl _, .sc _, .sc _, .sc _, .sc _] sz_int (fun _ => rfl)) ?_
 refine SV.nil (SV.tn (SV.seq' (SV.region ?_)))
 refine sl 3 (fb fld_laws_Sorter_2) ?_
 refine sl 3 (lb 0 2 [.ro _] agg_s_laws_Row sz_s_laws_Row (fun _ => rfl)) ?_
 refine sm (cl [(false, [.hd 1])] rfl Try.func16 (vto_rows x.fHeap (by omega)) ⟨⟨[.ro _], rfl, ⟨rfl, trivial⟩⟩, trivial⟩) ?_
 refine sl 3 (fb fld_impl_Sorter_2) ?_
 refine so (st (ag := false) [.hd 1] [.hd 0, .sc _, .hd 1, .nl _, .nl _, .nl _, .sc _, .sc _, .sc _, .sc _] sz_s_impl_Row (fun _ => rfl)) ?_
 refine SV.nil (SV.tn (SV.seq' (SV.region ?_)))
 refine sl 3 (fb fld_laws_Sorter_3) ?_
 refine sl 3 (lb 0 3 [.ro _] agg_s_laws_Row sz_s_laws_Row (fun _ => rfl)) ?_
 refine sm (cl [(false, [.hd 2])] rfl Try.func16 (vto_rows x.fDeferred (by omega)) ⟨⟨[.ro _], rfl, ⟨rfl, trivial⟩⟩, trivial⟩) ?_
 refine sl 3 (fb fld_impl_Sorter_3) ?_
 refine so (st (ag := false) [.hd 2] [.hd 0, .sc _, .hd 1, .hd 2, .nl _, .nl _, .sc _, .sc _, .sc _, .sc _] sz_s_impl_Row (fun _ => rfl)) ?_
 refine SV.nil (SV.tn (SV.seq' (SV.region ?_)))
 refine sl 3 (fb fld_laws_Sorter_4) ?_
 refine sl 3 (lb 0 4 [.ro _] agg_s_laws_Row sz_s_laws_Row (fun _ => rfl)) ?_
 refine sm (cl [(false, [.hd 3])] rfl Try.func16 (vto_rows x.fOutput (by omega)) ⟨⟨[.ro _], rfl, ⟨rfl, trivial⟩⟩, trivial⟩) ?_
 refine sl 3 (fb fld_impl_Sorter_4) ?_
 refine so (st (ag := false) [.hd 3] [.hd 0, .sc _, .hd 1, .hd 2, .hd 3, .nl _, .sc _, .sc _, .sc _, .sc _] sz_s_impl_Row (fun _ => rfl)) ?_
 refine SV.nil (SV.tn (SV.seq' (SV.region ?_)))
 refine sl 3 (fb fld_laws_Sorter_5) ?_
 refine sl 3 (lb 0 5 [.ro _] agg_s_laws_Run sz_s_laws_Run (fun _ => rfl)) ?_
 refine sm (cl [(false, [.hd 4])] rfl Try.func43 (vto_runs x.fRuns (by omega)) ⟨⟨[.ro _], rfl, ⟨rfl, trivial⟩⟩, trivial⟩) ?_
 refine sl 3 (fb fld_impl_Sorter_5) ?_
 refine so (st (ag := false) [.hd 4] [.hd 0, .sc _, .hd 1, .hd 2, .hd 3, .hd 4, .sc _, .sc _, .sc _, .sc _] sz_s_impl_Run (fun _ => rfl)) ?_
 refine SV.nil (SV.tn (SV.seq' (SV.region ?_)))
 refine sl 3 (fb fld_laws_Sorter_6) ?_
 refine sl 3 (lb 0 6 [.sc _] agg_int sz_int (fun _ => rfl)) ?_
 refine sl 3 (fb fld_impl_Sorter_6) ?_
 refine so (st (ag := false) [.sc _] [.hd 0, .sc _, .hd 1, .hd 2, .hd 3, .hd 4, .sc _, .sc _, .sc _, .sc _] sz_int (fun _ => rfl)) ?_
 refine SV.nil (SV.tn (SV.seq' (SV.region ?_)))
 refine sl 3 (fb fld_laws_Sorter_7) ?_
 refine sl 3 (lb 0 7 [.sc _] agg_int sz_int (fun _ => rfl)) ?_
 refine sl 3 (fb fld_impl_Sorter_7) ?_
 refine so (st (ag := false) [.sc _] [.hd 0, .sc _, .hd 1, .hd 2, .hd 3, .hd 4, .sc _, .sc _, .sc _, .sc _] sz_int (fun _ => rfl)) ?_
 refine SV.nil (SV.tn (SV.seq' (SV.region ?_)))
 refine sl 3 (fb fld_laws_Sorter_8) ?_
 refine sl 3 (lb 0 8 [.sc _] agg_int sz_int (fun _ => rfl)) ?_
 refine sl 3 (fb fld_impl_Sorter_8) ?_
 refine so (st (ag := false) [.sc _] [.hd 0, .sc _, .hd 1, .hd 2, .hd 3, .hd 4, .sc _, .sc _, .sc _, .sc _] sz_int (fun _ => rfl)) ?_
 refine SV.nil (SV.tn (SV.seq' (SV.region ?_)))
 refine sl 3 (fb fld_laws_Sorter_9) ?_
 refine sl 3 (lb 0 9 [.sc _] agg_int sz_int (fun _ => rfl)) ?_
 refine sl 3 (fb fld_impl_Sorter_9) ?_
 refine so (st (ag := false) [.sc _] [.hd 0, .sc _, .hd 1, .hd 2, .hd 3, .hd 4, .sc _, .sc _, .sc _, .sc _] sz_int (fun _ => rfl)) ?_
 refine SV.nil (SV.tn (SV.seq' (SV.region ?_)))
 refine sl 3 (lb 2 0 [.hd 0, .sc _, .hd 1, .hd 2, .hd 3, .hd 4, .sc _, .sc _, .sc _, .sc _] agg_impl_Sorter sz_impl_Sorter (fun h => by cases h)) ?_
 refine so (st (ag := true) [.hd 0, .sc _, .hd 1, .hd 2, .hd 3, .hd 4, .sc _, .sc _, .sc _, .sc _] [.hd 0, .sc _, .hd 1, .hd 2, .hd 3, .hd 4, .sc _, .sc _, .sc _, .sc _] sz_impl_Sorter (fun h => by cases h)) ?_
 refine SV.nil (SV.tn (SV.ret ?_))
 apply SV.done (hf := Try.results25) (ht := rfl) (he := .inl rfl)
 case hr => exact (ResAll.cons (ResOk.cell (b := 1) (ag := true) (xs := [.hd 0, .sc _, .hd 1, .hd 2, .hd 3, .hd 4, .sc _, .sc _, .sc _, .sc _]) rfl rfl agg_impl_Sorter sz_impl_Sorter (fun h => by cases h)) ResAll.nil')
 case h2 => simp [two]
 refine ⟨rfl, ⟨?_, ?_, ?_, ?_, ?_, ?_, ?_, ?_, ?_, ?_, trivial⟩, trivial⟩ <;> rfl
end Go.Proofs.Ytpnbnbhifpcelaa
/- Run among the arguments, told by trees; no function of program or reference is walked here. -/
namespace Go.Proofs.Ytpnbnbhifpcelaa
open Go Go.RowKit V
set_option linter.unusedVariables false
def okRun (x : List R) : Prop := ((∀ e ∈ x, okRow e) ∧ x.length ≤ maxLen)
set_option maxRecDepth 100000 in
theorem OpensT.run : OpensT 102 1 uRun okRun := by
 intro H enc w spare held fuel cs x h hl
 obtain ⟨xs, m, -, -, -, hxl, hf⟩ := DataW.trod_struct Try.underlying102 h
 match cs, hl with
 | [c0], _ =>
  obtain ⟨z0, q0⟩ := field_at hf hxl 0 _ rfl 0 1 rfl (by kernel_rfl)
  have q0 : DataW.trod enc Try.prog w 0 spare held m 22 [c0] = some z0 := q0
  obtain ⟨y0, o0, -, g0⟩ := OpensT.rows H enc w spare held m _ _ q0 rfl
  refine ⟨y0, o0, rfl, fun j t u h1 h2 => ?_⟩
  match j, h1, h2 with
  | 0, h1, h2 => cases h1; cases h2; exact g0 0 _ _ rfl rfl
set_option maxRecDepth 100000 in
theorem OpensT.runs : OpensT 36 1 (fun X : List (List R) => [.seq 102 (X.map uRun)]) (fun X => (∀ x ∈ X, okRun x) ∧ X.length ≤ maxLen) := OpensT.seq Try.underlying36 (by kernel_rfl) (by decide) (Sz.of (by kernel_rfl)) OpensT.run
end Go.Proofs.Ytpnbnbhifpcelaa
/- Sorter among the arguments, told by trees; no function of program or reference is walked here. -/
namespace Go.Proofs.Ytpnbnbhifpcelaa
open Go Go.RowKit V
set_option linter.unusedVariables false
def okSorter (x : SorterD) : Prop := ((∀ e ∈ x.fInput, okRow e) ∧ x.fInput.length ≤ maxLen) ∧ I64 x.fPos ∧ ((∀ e ∈ x.fHeap, okRow e) ∧ x.fHeap.length ≤ maxLen) ∧ ((∀ e ∈ x.fDeferred, okRow e) ∧ x.fDeferred.length ≤ maxLen) ∧ ((∀ e ∈ x.fOutput, okRow e) ∧ x.fOutput.length ≤ maxLen) ∧ ((∀ e ∈ x.fRuns, okRun e) ∧ x.fRuns.length ≤ maxLen) ∧ I64 x.fLeftPos ∧ I64 x.fRightPos ∧ I64 x.fPhase ∧ I64 x.fWritten
set_option maxRecDepth 100000 in
theorem OpensT.sorter : OpensT 38 10 uSorter okSorter := by
 intro H enc w spare held fuel cs x h hl
 obtain ⟨xs, m, -, -, -, hxl, hf⟩ := DataW.trod_struct Try.underlying38 h
 match cs, hl with
 | [c0, c1, c2, c3, c4, c5, c6, c7, c8, c9], _ =>
  obtain ⟨z0, q0⟩ := field_at hf hxl 0 _ rfl 0 1 rfl (by kernel_rfl)
  have q0 : DataW.trod enc Try.prog w 0 spare held m 22 [c0] = some z0 := q0
  obtain ⟨y0, o0, -, g0⟩ := OpensT.rows H enc w spare held m _ _ q0 rfl
  obtain ⟨z1, q1⟩ := field_at hf hxl 1 _ rfl 1 1 rfl (by kernel_rfl)
  have q1 : DataW.trod enc Try.prog w 0 spare held m 3 [c1] = some z1 := q1
  obtain ⟨y1, o1, -, g1⟩ := OpensT.int H enc w spare held m _ _ q1 rfl
  obtain ⟨z2, q2⟩ := field_at hf hxl 2 _ rfl 2 1 rfl (by kernel_rfl)
  have q2 : DataW.trod enc Try.prog w 0 spare held m 22 [c2] = some z2 := q2
  obtain ⟨y2, o2, -, g2⟩ := OpensT.rows H enc w spare held m _ _ q2 rfl
  obtain ⟨z3, q3⟩ := field_at hf hxl 3 _ rfl 3 1 rfl (by kernel_rfl)
  have q3 : DataW.trod enc Try.prog w 0 spare held m 22 [c3] = some z3 := q3
  obtain ⟨y3, o3, -, g3⟩ := OpensT.rows H enc w spare held m _ _ q3 rfl
  obtain ⟨z4, q4⟩ := field_at hf hxl 4 _ rfl 4 1 rfl (by kernel_rfl)
  have q4 : DataW.trod enc Try.prog w 0 spare held m 22 [c4] = some z4 := q4
  obtain ⟨y4, o4, -, g4⟩ := OpensT.rows H enc w spare held m _ _ q4 rfl
  obtain ⟨z5, q5⟩ := field_at hf hxl 5 _ rfl 5 1 rfl (by kernel_rfl)
  have q5 : DataW.trod enc Try.prog w 0 spare held m 36 [c5] = some z5 := q5
  obtain ⟨y5, o5, -, g5⟩ := OpensT.runs H enc w spare held m _ _ q5 rfl
  obtain ⟨z6, q6⟩ := field_at hf hxl 6 _ rfl 6 1 rfl (by kernel_rfl)
  have q6 : DataW.trod enc Try.prog w 0 spare held m 3 [c6] = some z6 := q6
  obtain ⟨y6, o6, -, g6⟩ := OpensT.int H enc w spare held m _ _ q6 rfl
  obtain ⟨z7, q7⟩ := field_at hf hxl 7 _ rfl 7 1 rfl (by kernel_rfl)
  have q7 : DataW.trod enc Try.prog w 0 spare held m 3 [c7] = some z7 := q7
  obtain ⟨y7, o7, -, g7⟩ := OpensT.int H enc w spare held m _ _ q7 rfl
  obtain ⟨z8, q8⟩ := field_at hf hxl 8 _ rfl 8 1 rfl (by kernel_rfl)
  have q8 : DataW.trod enc Try.prog w 0 spare held m 3 [c8] = some z8 := q8
  obtain ⟨y8, o8, -, g8⟩ := OpensT.int H enc w spare held m _ _ q8 rfl
  obtain ⟨z9, q9⟩ := field_at hf hxl 9 _ rfl 9 1 rfl (by kernel_rfl)
  have q9 : DataW.trod enc Try.prog w 0 spare held m 3 [c9] = some z9 := q9
  obtain ⟨y9, o9, -, g9⟩ := OpensT.int H enc w spare held m _ _ q9 rfl
  refine ⟨⟨y0, y1, y2, y3, y4, y5, y6, y7, y8, y9⟩, ⟨o0, o1, o2, o3, o4, o5, o6, o7, o8, o9⟩, rfl, fun j t u h1 h2 => ?_⟩
  match j, h1, h2 with
  | 0, h1, h2 => cases h1; cases h2; exact g0 0 _ _ rfl rfl
  | 1, h1, h2 => cases h1; cases h2; exact g1 0 _ _ rfl rfl
  | 2, h1, h2 => cases h1; cases h2; exact g2 0 _ _ rfl rfl
  | 3, h1, h2 => cases h1; cases h2; exact g3 0 _ _ rfl rfl
  | 4, h1, h2 => cases h1; cases h2; exact g4 0 _ _ rfl rfl
  | 5, h1, h2 => cases h1; cases h2; exact g5 0 _ _ rfl rfl
  | 6, h1, h2 => cases h1; cases h2; exact g6 0 _ _ rfl rfl
  | 7, h1, h2 => cases h1; cases h2; exact g7 0 _ _ rfl rfl
  | 8, h1, h2 => cases h1; cases h2; exact g8 0 _ _ rfl rfl
  | 9, h1, h2 => cases h1; cases h2; exact g9 0 _ _ rfl rfl
end Go.Proofs.Ytpnbnbhifpcelaa
/- Runs by replacement selection, as plain mathematics: the first least row, the steps, and what holds of the runs; no function of program or reference is walked here. -/
namespace Go.Proofs.Ytpnbnbhifpcelaa
open Go.RowKit
set_option linter.unusedVariables false
namespace Runs
/-! ### The first least row -/
def minAt (l : List R) : Nat → Nat
 | 0 => 0
 | t + 1 => match l[t]?, l[minAt l t]? with
  | some c, some d => if R.cmp c d < 0 then t else minAt l t
  | _, _ => minAt l t
def idxMin (l : List R) : Int := if l.length = 0 then -1 else (minAt l l.length : Nat)
theorem getlt {α : Type} {l : List α} {k : Nat} {x : α} (h : l[k]? = some x) : k < l.length := (List.getElem?_eq_some_iff.1 h).1
theorem minAt_le (l : List R) : ∀ t, minAt l t ≤ t - 1
 | 0 => Nat.le_refl 0
 | t + 1 => by
  have := minAt_le l t
  rw [minAt]
  split
  ·split <;> omega
  ·omega
theorem minAt_lt {l : List R} {t : Nat} (h : 0 < t) : minAt l t < t := by have := minAt_le l t; omega
theorem minAt_step {l : List R} {t : Nat} {c d : R} (hc : l[t]? = some c) (hd : l[minAt l t]? = some d) : minAt l (t + 1) = if R.cmp c d < 0 then t else minAt l t := by rw [minAt, hc, hd]
theorem minAt_one (l : List R) : minAt l 1 = 0 := by
 have := minAt_le l 1
 omega
theorem minAt_least {l : List R} : ∀ {t : Nat} {d : R}, t ≤ l.length → 0 < t → l[minAt l t]? = some d → ∀ u x, u < t → l[u]? = some x → R.cmp d x ≤ 0
 | t + 1, d, ht, _, hd, u, x, hu, hx => by
  obtain ⟨c, hc⟩ : ∃ c, l[t]? = some c := ⟨_, List.getElem?_eq_getElem (by omega)⟩
  rcases Nat.eq_zero_or_pos t with h0 | h0
  ·subst h0
   have hu0 : u = 0 := by omega
   subst hu0
   rw [minAt_one, hx] at hd
   cases hd
   rw [(R.cmp_zero _ _).2 rfl]; exact Int.le_refl _
  ·obtain ⟨e, he⟩ : ∃ e, l[minAt l t]? = some e := ⟨_, List.getElem?_eq_getElem (by have := minAt_lt (l := l) h0; omega)⟩
   have ih := minAt_least (t := t) (by omega) h0 he
   rw [minAt_step hc he] at hd
   by_cases hlt : R.cmp c e < 0
   ·rw [if_pos hlt, hc] at hd
    cases hd
    rcases Nat.lt_or_ge u t with h | h
    ·exact R.cmp_trans (Int.le_of_lt hlt) (ih u x h hx)
    ·have e1 : u = t := by omega
     subst e1
     rw [hc] at hx
     cases hx
     rw [(R.cmp_zero _ _).2 rfl]; exact Int.le_refl _
   ·rw [if_neg hlt, he] at hd
    cases hd
    rcases Nat.lt_or_ge u t with h | h
    ·exact ih u x h hx
    ·have e1 : u = t := by omega
     subst e1
     rw [hc] at hx
     cases hx
     have := R.cmp_anti x d
     omega
/-! ### The steps -/
structure St where
 i : Nat
 out : List (List R)
 cur : List R
 heap : List R
 next : List R
def init : St := ⟨0, [], [], [], []⟩
def room (mem : Int) (s : St) (r : R) : Bool := decide (total s.heap + total s.next + r.cost ≤ mem)
def later (cur : List R) (r : R) : Bool := match cur.getLast? with
 | some d => decide (R.cmp r d < 0)
 | none => false
def reads (l : List R) (mem : Int) (s : St) : Bool := match l[s.i]? with
 | some r => room mem s r
 | none => false
def take1 (s : St) (r : R) : St := if later s.cur r = true then ⟨s.i + 1, s.out, s.cur, s.heap, s.next ++ [r]⟩ else ⟨s.i + 1, s.out, s.cur, s.heap ++ [r], s.next⟩
def turn (s : St) : St := ⟨s.i, s.out ++ [s.cur], [], s.next, []⟩
def give (s : St) (r : R) : St := ⟨s.i, s.out, s.cur ++ [r], s.heap.eraseIdx (minAt s.heap s.heap.length), s.next⟩
def step (l : List R) (mem : Int) (s : St) : St := match l[s.i]? with
 | some r => if room mem s r = true then take1 s r else flow s
 | none => flow s
where flow (s : St) : St := match s.heap[minAt s.heap s.heap.length]? with
 | some r => give s r
 | none => turn s
def done (l : List R) (s : St) : Bool := decide (l.length ≤ s.i ∧ s.heap.length + s.next.length = 0)
def sts (l : List R) (mem : Int) : Nat → St
 | 0 => init
 | t + 1 => if done l (sts l mem t) = true then sts l mem t else step l mem (sts l mem t)
def fin (s : St) : List (List R) := if s.cur.length = 0 then s.out else s.out ++ [s.cur]
def isMem (m : Int) : Bool := decide (8 ≤ m ∧ m ≤ 60)
def can (l : List R) (m : Int) : Bool := okRows l && isMem m
def build (l : List R) (m : Int) : List (List R) := if can l m = true then fin (sts l m (3 * l.length)) else []
theorem flow_give {s : St} {r : R} (h : s.heap[minAt s.heap s.heap.length]? = some r) : step.flow s = give s r := by
 unfold step.flow
 rw [h]
/-! ### It ends -/
def mu (l : List R) (s : St) : Nat := 3 * (l.length - s.i) + 2 * s.next.length + s.heap.length
end Runs
end Go.Proofs.Ytpnbnbhifpcelaa
/- What holds of runs by replacement selection, as plain mathematics; no function of program or reference is walked here. -/
namespace Go.Proofs.Ytpnbnbhifpcelaa
open Go.RowKit
set_option linter.unusedVariables false
namespace Runs
theorem total_one (r : R) : total [r] = r.cost := by simp [total]
structure Inv (l : List R) (m : Int) (s : St) : Prop where
 ile : s.i ≤ l.length
 perm : (s.out.flatten ++ (s.cur ++ (s.heap ++ s.next))).Perm (l.take s.i)
 start : s.cur.length = 0 → s.next.length = 0
 full : 0 < s.cur.length → m - 4 < total s.cur + total s.heap ∨ (s.i = l.length ∧ s.next.length = 0)
 asc : s.cur.Pairwise fun a b => R.cmp a b ≤ 0
 low : ∀ a ∈ s.cur, ∀ b ∈ s.heap, R.cmp a b ≤ 0
 runs : ∀ p ∈ s.out, 0 < p.length ∧ (p.Pairwise fun a b => R.cmp a b ≤ 0) ∧ m - 4 < total p
 fits : total l ≤ m → s.out = [] ∧ s.next.length = 0 ∧ (s.i < l.length → s.cur.length = 0)
theorem take_next {l : List R} {i : Nat} {r : R} (h : l[i]? = some r) : l.take (i + 1) = l.take i ++ [r] := by
 have hl := getlt h
 rw [List.take_succ_eq_append_getElem hl]
 rw [List.getElem?_eq_getElem hl] at h
 rw [Option.some.inj h]
def Going (l : List R) (m : Int) (s : St) : Prop := ∃ t, s = sts l m t ∧ ∀ u, u < t → done l (sts l m u) = false
def okRun (p : List R) : Bool := decide (0 < p.length) && (R.asc p && okRows p)
def okRuns (X : List (List R)) : Bool := X.all okRun
def fmtRuns (X : List (List R)) : List UInt8 := Go.Lib.join (X.map fmtRows) [124]
theorem mem_len {p : List R} : ∀ {X : List (List R)}, p ∈ X → p.length ≤ X.flatten.length
 | q :: X, h => by
  rw [List.flatten_cons, List.length_append]
  rcases List.mem_cons.1 h with rfl | h
  ·omega
  ·have := mem_len h; omega
end Runs
end Go.Proofs.Ytpnbnbhifpcelaa
/- Merging runs: two lists into one, a pass, the passes; how many there are; no function of program or reference is walked here. -/
namespace Go.Proofs.Ytpnbnbhifpcelaa
open Go.RowKit
set_option linter.unusedVariables false
namespace Runs
/-! ### Two lists -/
def merge2 (a b : List R) : List R := a.merge b R.leb
theorem merge2_nil (b : List R) : merge2 [] b = b := by unfold merge2; exact List.nil_merge ..
theorem merge2_none (a : List R) : merge2 a [] = a := by unfold merge2; exact List.merge_right ..
theorem merge2_le {a b : List R} {x y : R} (h : R.cmp x y ≤ 0) : merge2 (x :: a) (y :: b) = x :: merge2 a (y :: b) := by
 unfold merge2
 exact List.cons_merge_cons_pos R.leb a b (R.leb_iff.2 h)
theorem merge2_gt {a b : List R} {x y : R} (h : ¬ R.cmp x y ≤ 0) : merge2 (x :: a) (y :: b) = y :: merge2 (x :: a) b := by
 unfold merge2
 exact List.cons_merge_cons_neg R.leb a b (fun hh => h (R.leb_iff.1 hh))
theorem merge2_perm (a b : List R) : (merge2 a b).Perm (a ++ b) := List.merge_perm_append R.leb
theorem merge2_length (a b : List R) : (merge2 a b).length = a.length + b.length := by rw [(merge2_perm a b).length_eq, List.length_append]
theorem merge2_asc {a b : List R} (ha : a.Pairwise fun x y => R.leb x y = true) (hb : b.Pairwise fun x y => R.leb x y = true) : (merge2 a b).Pairwise fun x y => R.leb x y = true :=
 List.pairwise_merge (le := R.leb) (fun a b c h h' => R.leb_iff.2 (R.cmp_trans (R.leb_iff.1 h) (R.leb_iff.1 h'))) (fun a b => by
  rcases R.cmp_total a b with h | h
  ·simp [R.leb_iff.2 h]
  ·simp [R.leb_iff.2 h]) a b ha hb
theorem drop_at {α : Type} {l : List α} {i : Nat} {x : α} (h : l[i]? = some x) : l.drop i = x :: l.drop (i + 1) := by
 have hi : i < l.length := getlt h
 rw [List.getElem?_eq_getElem hi] at h
 rw [List.drop_eq_getElem_cons hi, Option.some.inj h]
theorem m_last {a b : List R} {i k : Nat} {x : R} (h : a[i]? = some x) (hk : b.length ≤ k) : merge2 (a.drop i) (b.drop k) = x :: merge2 (a.drop (i + 1)) (b.drop k) := by
 rw [List.drop_eq_nil_of_le hk, merge2_none, merge2_none, drop_at h]
theorem m_left {a b : List R} {i k : Nat} {x y : R} (h : a[i]? = some x) (h' : b[k]? = some y) (hc : R.cmp x y ≤ 0) : merge2 (a.drop i) (b.drop k) = x :: merge2 (a.drop (i + 1)) (b.drop k) := by
 rw [drop_at h, drop_at h', merge2_le hc]
theorem m_right {a b : List R} {i k : Nat} {x y : R} (h : a[i]? = some x) (h' : b[k]? = some y) (hc : ¬ R.cmp x y ≤ 0) : merge2 (a.drop i) (b.drop k) = y :: merge2 (a.drop i) (b.drop (k + 1)) := by
 rw [drop_at h, drop_at h', merge2_gt hc]
theorem m_rest {a b : List R} {i k : Nat} {y : R} (hi : a.length ≤ i) (h' : b[k]? = some y) : merge2 (a.drop i) (b.drop k) = y :: merge2 (a.drop i) (b.drop (k + 1)) := by
 rw [List.drop_eq_nil_of_le hi, merge2_nil, merge2_nil, drop_at h']
/-! ### A pass -/
def pass : List (List R) → List (List R)
 | [] => []
 | [p] => [p]
 | p :: q :: X => merge2 p q :: pass X
/-! ### The passes -/
def passes (X : List (List R)) : Nat → List (List R)
 | 0 => X
 | t + 1 => pass (passes X t)
def npass (L : Nat) : Nat := if h : L ≤ 1 then 0 else npass ((L + 1) / 2) + 1
termination_by L
decreasing_by omega
def allIn (X : List (List R)) : List R := (passes X (npass X.length)).flatten
/-! ### How often one is doubled -/
def dbl (n : Int) : Nat → Nat → Nat
 | 0, k => k
 | f + 1, k => if (2 : Int) ^ k < n then dbl n f (k + 1) else k
def mpass (n : Int) : Nat := dbl n 40 0
end Runs
end Go.Proofs.Ytpnbnbhifpcelaa
/- The sort operator as plain mathematics: what a sorter holds, valid sorters, a step; no function of program or reference is walked here. -/
namespace Go.Proofs.Ytpnbnbhifpcelaa
open Go.RowKit
set_option linter.unusedVariables false
namespace SorterD
open Runs
/-! ### What a sorter holds -/
def rowAt (X : List (List R)) (n : Nat) (k : Int) : List R := match (X.getD n [])[k.toNat]? with
 | some r => [r]
 | none => []
def mem (s : SorterD) : Int :=
 if s.fPhase = 1 then total s.fHeap + total s.fDeferred
 else if s.fPhase = 2 then (if s.fLeftPos < 0 ∨ s.fRightPos < 0 then 0 else total (rowAt s.fRuns 0 s.fLeftPos) + total (rowAt s.fRuns 1 s.fRightPos))
 else if s.fPhase = 3 then (if s.fLeftPos < 0 then 0 else total (rowAt s.fRuns 0 s.fLeftPos)) else 0
def low (s : SorterD) : Bool := s.fHeap.all fun r => !later s.fOutput r
def okBase (s : SorterD) : Bool := okRows s.fInput && (decide (0 ≤ s.fPos ∧ s.fPos ≤ s.fInput.length) && (okRuns s.fRuns && (decide (0 ≤ s.fWritten) && (R.asc s.fOutput && low s))))
def okRead (s : SorterD) : Bool := decide (s.fLeftPos = 0 ∧ s.fRightPos = 0 ∧ (s.fDeferred.length = 0 ∨ 0 < s.fOutput.length) ∧ mem s ≤ 60) && R.eqBags (s.fRuns.flatten ++ s.fOutput ++ s.fHeap ++ s.fDeferred) (s.fInput.take s.fPos.toNat)
def okRest (s : SorterD) : Bool := decide (s.fPos = s.fInput.length ∧ s.fHeap.length + s.fDeferred.length = 0)
def fst (s : SorterD) : List R := s.fRuns.getD 0 []
def snd (s : SorterD) : List R := s.fRuns.getD 1 []
def okMerge (s : SorterD) : Bool := decide (2 ≤ s.fRuns.length ∧ (0 ≤ s.fLeftPos ∧ s.fLeftPos ≤ (fst s).length) ∧ 0 ≤ s.fRightPos ∧ s.fRightPos ≤ (snd s).length) &&
 (decide (s.fOutput = (merge2 (fst s) (snd s)).take (s.fLeftPos + s.fRightPos).toNat) && (decide (merge2 ((fst s).take s.fLeftPos.toNat) ((snd s).take s.fRightPos.toNat) = s.fOutput) && R.eqBags s.fRuns.flatten s.fInput))
def okEnd (s : SorterD) : Bool := decide (s.fRuns.length ≤ 1 ∧ s.fRightPos = 0 ∧ s.fOutput.length = 0) &&
 (R.eqBags s.fRuns.flatten s.fInput && if s.fPhase = 3 then decide (s.fRuns.length = 1 ∧ 0 ≤ s.fLeftPos ∧ s.fLeftPos ≤ (s.fInput.length : Int) - 1) else decide (s.fPhase = 4 ∧ s.fLeftPos = s.fInput.length))
def ok (s : SorterD) : Bool := okBase s && if s.fPhase = 1 then okRead s else okRest s && if s.fPhase = 2 then okMerge s else okEnd s
/-! ### A step -/
def turnS (x : SorterD) : SorterD := { x with fLeftPos := 0, fRightPos := 0, fPhase := if x.fRuns.length = 0 then 4 else if x.fRuns.length = 1 then 3 else 2 }
def readS (s : SorterD) (r : R) : SorterD := if later s.fOutput r = true then { s with fPos := s.fPos + 1, fDeferred := s.fDeferred ++ [r] } else { s with fPos := s.fPos + 1, fHeap := s.fHeap ++ [r] }
def swapS (s : SorterD) : SorterD := { s with fRuns := s.fRuns ++ [s.fOutput], fOutput := [], fHeap := s.fDeferred, fDeferred := [] }
def giveS (s : SorterD) (r : R) : SorterD := { s with fWritten := wrap64 (s.fWritten + r.cost), fOutput := s.fOutput ++ [r], fHeap := s.fHeap.eraseIdx (minAt s.fHeap s.fHeap.length) }
def endS (s : SorterD) : SorterD := turnS { s with fRuns := if s.fOutput.length = 0 then s.fRuns else s.fRuns ++ [s.fOutput], fOutput := [] }
def flowS (s : SorterD) : SorterD := match s.fHeap[minAt s.fHeap s.fHeap.length]? with
 | some r => giveS s r
 | none => if s.fDeferred.length = 0 then endS s else swapS s
def stepRead (s : SorterD) (g : Int) : SorterD := match s.fInput[s.fPos.toNat]? with
 | some r => if mem s + r.cost ≤ g then readS s r else flowS s
 | none => flowS s
def joinS (s : SorterD) : SorterD := turnS { s with fRuns := s.fRuns.drop 2 ++ [s.fOutput], fOutput := [] }
def leftS (s : SorterD) (r : R) : SorterD := { s with fOutput := s.fOutput ++ [r], fWritten := wrap64 (s.fWritten + r.cost), fLeftPos := s.fLeftPos + 1 }
def rightS (s : SorterD) (r : R) : SorterD := { s with fOutput := s.fOutput ++ [r], fWritten := wrap64 (s.fWritten + r.cost), fRightPos := s.fRightPos + 1 }
def stepMerge (s : SorterD) : SorterD := match (fst s)[s.fLeftPos.toNat]?, (snd s)[s.fRightPos.toNat]? with
 | none, none => joinS s
 | some x, none => leftS s x
 | none, some y => rightS s y
 | some x, some y => if R.cmp x y ≤ 0 then leftS s x else rightS s y
def emitS (s : SorterD) : SorterD := { s with fLeftPos := s.fLeftPos + 1, fPhase := if s.fLeftPos + 1 = s.fInput.length then 4 else s.fPhase }
def step (s : SorterD) (g : Int) : SorterD := if s.fPhase = 1 then stepRead s g else if s.fPhase = 2 then stepMerge s else emitS s
def emits (s : SorterD) : List R := if s.fPhase = 3 then rowAt s.fRuns 0 s.fLeftPos else []
def can (s : SorterD) (g : Int) : Bool := ok s && (isMem g && decide (s.fPhase ≠ 4))
def next (s : SorterD) (g : Int) : SorterD := if can s g = true then step s g else s
def gives (s : SorterD) (g : Int) : List R := if can s g = true then emits s else []
def left (s : SorterD) : Int := if ok s = true then (if s.fPhase = 3 ∨ s.fPhase = 4 then s.fInput.length - s.fLeftPos else s.fInput.length) else 0
def new (l : List R) : SorterD := if okRows l = true then ⟨l, 0, [], [], [], [], 0, 0, 1, 0⟩ else ⟨[], 0, [], [], [], [], 0, 0, 0, 0⟩
/-! ### Valid sorters -/
abbrev Asc (l : List R) : Prop := l.Pairwise fun a b => R.leb a b = true
theorem okRows_iff {L : List R} : okRows L = true ↔ L.length ≤ 24 ∧ ∀ r ∈ L, r.ok = true := by
 unfold okRows allOk
 rw [Bool.and_eq_true, decide_eq_true_eq, List.all_eq_true]
theorem eqBags_perm {a b : List R} : R.eqBags a b = true ↔ a.Perm b := by
 rw [R.eqBags_iff, List.perm_iff_count]
structure Base (s : SorterD) : Prop where
 rows : okRows s.fInput = true
 pos0 : 0 ≤ s.fPos
 pos1 : s.fPos ≤ s.fInput.length
 runs : okRuns s.fRuns = true
 wr : 0 ≤ s.fWritten
 asc : Asc s.fOutput
 low : ∀ r ∈ s.fHeap, later s.fOutput r = false
structure Reads (s : SorterD) : Prop where
 l0 : s.fLeftPos = 0
 r0 : s.fRightPos = 0
 late : s.fDeferred = [] ∨ s.fOutput ≠ []
 fits : total s.fHeap + total s.fDeferred ≤ 60
 bag : (s.fRuns.flatten ++ s.fOutput ++ s.fHeap ++ s.fDeferred).Perm (s.fInput.take s.fPos.toNat)
structure Rest (s : SorterD) : Prop where
 pos : s.fPos = s.fInput.length
 heap : s.fHeap = []
 late : s.fDeferred = []
 bag : s.fRuns.flatten.Perm s.fInput
structure Merges (s : SorterD) : Prop where
 two : 2 ≤ s.fRuns.length
 l0 : 0 ≤ s.fLeftPos
 l1 : s.fLeftPos ≤ (fst s).length
 r0 : 0 ≤ s.fRightPos
 r1 : s.fRightPos ≤ (snd s).length
 out : s.fOutput = (merge2 (fst s) (snd s)).take (s.fLeftPos.toNat + s.fRightPos.toNat)
 part : merge2 ((fst s).take s.fLeftPos.toNat) ((snd s).take s.fRightPos.toNat) = s.fOutput
structure Emits (s : SorterD) : Prop where
 one : s.fRuns.length = 1
 l0 : 0 ≤ s.fLeftPos
 l1 : s.fLeftPos < s.fInput.length
 r0 : s.fRightPos = 0
 out : s.fOutput = []
structure Done (s : SorterD) : Prop where
 one : s.fRuns.length ≤ 1
 l0 : s.fLeftPos = s.fInput.length
 r0 : s.fRightPos = 0
 out : s.fOutput = []
theorem nil_len {α : Type} {l : List α} : l.length = 0 ↔ l = [] := List.length_eq_zero_iff
theorem base_iff {s : SorterD} : okBase s = true ↔ Base s := by
 unfold okBase low
 simp only [Bool.and_eq_true, decide_eq_true_eq, List.all_eq_true, Bool.not_eq_true', R.asc_pairwise]
 exact ⟨fun ⟨h1, ⟨h2, h3⟩, h4, h5, h6, h7⟩ => ⟨h1, h2, h3, h4, h5, h6, h7⟩, fun h => ⟨h.rows, ⟨h.pos0, h.pos1⟩, h.runs, h.wr, h.asc, h.low⟩⟩
theorem mem_one {s : SorterD} (h : s.fPhase = 1) : mem s = total s.fHeap + total s.fDeferred := by unfold mem; rw [if_pos h]
theorem reads_iff {s : SorterD} (hp : s.fPhase = 1) : okRead s = true ↔ Reads s := by
 unfold okRead
 rw [mem_one hp]
 simp only [Bool.and_eq_true, decide_eq_true_eq, eqBags_perm]
 refine ⟨fun ⟨⟨h1, h2, h3, h4⟩, h5⟩ => ⟨h1, h2, h3.imp nil_len.1 fun h e => by rw [e] at h; exact absurd h (Nat.lt_irrefl 0), h4, h5⟩, fun h => ⟨⟨h.l0, h.r0, h.late.imp nil_len.2 fun e => List.length_pos_iff.2 e, h.fits⟩, h.bag⟩⟩
theorem ok_iff {s : SorterD} : ok s = true ↔ Base s ∧ ((s.fPhase = 1 ∧ Reads s) ∨ (s.fPhase = 2 ∧ Rest s ∧ Merges s) ∨ (s.fPhase = 3 ∧ Rest s ∧ Emits s) ∨ (s.fPhase = 4 ∧ Rest s ∧ Done s)) := by
 unfold ok
 rw [Bool.and_eq_true, base_iff]
 refine and_congr_right fun hb => ?_
 by_cases h1 : s.fPhase = 1
 ·rw [if_pos h1, reads_iff h1]
  exact ⟨fun h => .inl ⟨h1, h⟩, fun h => by rcases h with h | h | h | h; exact h.2; all_goals (exfalso; omega)⟩
 ·rw [if_neg h1, Bool.and_eq_true]
  by_cases h2 : s.fPhase = 2
  ·rw [if_pos h2]
   unfold okRest okMerge
   simp only [Bool.and_eq_true, decide_eq_true_eq, eqBags_perm]
   constructor
   ·rintro ⟨⟨a1, a2⟩, ⟨b1, ⟨b2, b3⟩, b4, b5⟩, c1, c2, c3⟩
    have e : (s.fLeftPos + s.fRightPos).toNat = s.fLeftPos.toNat + s.fRightPos.toNat := by omega
    exact .inr (.inl ⟨h2, ⟨a1, nil_len.1 (by omega), nil_len.1 (by omega), c3⟩, b1, b2, b3, b4, b5, by rw [← e]; exact c1, c2⟩)
   ·rintro (h | ⟨-, h, k⟩ | h | h)
    ·exact absurd h.1 h1
    ·have e : (s.fLeftPos + s.fRightPos).toNat = s.fLeftPos.toNat + s.fRightPos.toNat := by have := k.l0; have := k.r0; omega
     exact ⟨⟨h.pos, by rw [h.heap, h.late]; rfl⟩, ⟨k.two, ⟨k.l0, k.l1⟩, k.r0, k.r1⟩, by rw [e]; exact k.out, k.part, h.bag⟩
    ·exfalso; omega
    ·exfalso; omega
  ·rw [if_neg h2]
   unfold okRest okEnd
   by_cases h3 : s.fPhase = 3
   ·rw [if_pos h3]
    simp only [Bool.and_eq_true, decide_eq_true_eq, eqBags_perm]
    constructor
    ·rintro ⟨⟨a1, a2⟩, ⟨b1, b2, b3⟩, c1, c2, c3, c4⟩
     exact .inr (.inr (.inl ⟨h3, ⟨a1, nil_len.1 (by omega), nil_len.1 (by omega), c1⟩, c2, c3, by omega, b2, nil_len.1 b3⟩))
    ·rintro (h | h | ⟨-, h, k⟩ | h)
     ·exact absurd h.1 h1
     ·exact absurd h.1 h2
     ·exact ⟨⟨h.pos, by rw [h.heap, h.late]; rfl⟩, ⟨by rw [k.one]; exact Nat.le_refl 1, k.r0, nil_len.2 k.out⟩, h.bag, k.one, k.l0, by have := k.l1; omega⟩
     ·exfalso; omega
   ·rw [if_neg h3]
    simp only [Bool.and_eq_true, decide_eq_true_eq, eqBags_perm]
    constructor
    ·rintro ⟨⟨a1, a2⟩, ⟨b1, b2, b3⟩, c1, c2, c3⟩
     exact .inr (.inr (.inr ⟨c2, ⟨a1, nil_len.1 (by omega), nil_len.1 (by omega), c1⟩, b1, c3, b2, nil_len.1 b3⟩))
    ·rintro (h | h | h | ⟨h4, h, k⟩)
     ·exact absurd h.1 h1
     ·exact absurd h.1 h2
     ·exact absurd h.1 h3
     ·exact ⟨⟨h.pos, by rw [h.heap, h.late]; rfl⟩, ⟨k.one, k.r0, nil_len.2 k.out⟩, h.bag, h4, k.l0⟩
/-! ### Merging, a row at a time -/
theorem asc_cons {x : R} {l : List R} (h1 : ∀ y ∈ l, R.leb x y = true) (h : Asc l) : Asc (x :: l) := List.pairwise_cons.2 ⟨h1, h⟩
theorem leb_trans {a b c : R} (h : R.leb a b = true) (k : R.leb b c = true) : R.leb a c = true := R.leb_iff.2 (R.cmp_trans (R.leb_iff.1 h) (R.leb_iff.1 k))
theorem leb_refl (a : R) : R.leb a a = true := R.leb_iff.2 (by rw [(R.cmp_zero a a).2 rfl]; exact Int.le_refl 0)
theorem asc_eq {a b : List R} (hp : a.Perm b) (ha : Asc a) (hb : Asc b) : a = b := (R.sort_unique hp ha).trans (R.sort_unique (List.Perm.refl b) hb).symm
theorem asc_head {a : List R} {i : Nat} {x : R} (ha : Asc a) (hx : a[i]? = some x) : ∀ y ∈ a.drop i, R.leb x y = true := fun y hy => by
 rw [drop_at hx] at hy
 rcases List.mem_cons.1 hy with rfl | hy
 ·exact leb_refl _
 ·have h2 : Asc (a.drop i) := ha.drop
  rw [drop_at hx] at h2
  exact (List.pairwise_cons.1 h2).1 y hy
theorem merge_pick {a b : List R} {i j : Nat} {z : R} {rest : List R} (ha : Asc a) (hb : Asc b) (hi : i ≤ a.length) (hj : j ≤ b.length) (hm : merge2 (a.take i) (b.take j) = (merge2 a b).take (i + j))
  (hp : (a.drop i ++ b.drop j).Perm (z :: rest)) (hz : ∀ y ∈ rest, R.leb z y = true) : (merge2 a b).take (i + j + 1) = (merge2 a b).take (i + j) ++ [z] ∧ Asc ((merge2 a b).take (i + j) ++ [z]) := by
 have hM := merge2_asc ha hb
 obtain ⟨o, ho⟩ : ∃ o, o = (merge2 a b).take (i + j) := ⟨_, rfl⟩
 obtain ⟨D, hD⟩ : ∃ D, D = (merge2 a b).drop (i + j) := ⟨_, rfl⟩
 have hoD : merge2 a b = o ++ D := by rw [ho, hD, List.take_append_drop]
 have hop : o.Perm (a.take i ++ b.take j) := by rw [ho, ← hm]; exact merge2_perm _ _
 have hDp : D.Perm (a.drop i ++ b.drop j) := by
  have h1 : (o ++ D).Perm (a ++ b) := by rw [← hoD]; exact merge2_perm a b
  have h2 : (a ++ b).Perm ((a.take i ++ b.take j) ++ (a.drop i ++ b.drop j)) := by
   have e1 := List.take_append_drop i a
   have e2 := List.take_append_drop j b
   refine List.perm_iff_count.2 fun r => ?_
   have c1 := congrArg (List.count r) e1
   have c2 := congrArg (List.count r) e2
   simp only [List.count_append] at *
   omega
  have h3 := h1.trans h2
  exact (List.perm_append_left_iff (a.take i ++ b.take j)).1 ((hop.symm.append_right D).trans h3)
 have hDa : Asc D := by rw [hD]; exact hM.drop
 have hDe : D = z :: R.sort rest := asc_eq (hDp.trans (hp.trans ((R.sort_perm rest).symm.cons z))) hDa (asc_cons (fun y hy => hz y ((R.sort_perm rest).mem_iff.1 hy)) (R.sort_asc rest))
 have hol : o.length = i + j := by rw [ho, List.length_take, merge2_length]; omega
 have ht : (merge2 a b).take (i + j + 1) = o ++ [z] := by
  rw [hoD, hDe, List.take_append, List.take_of_length_le (by omega), hol, show i + j + 1 - (i + j) = 1 by omega]
  rfl
 rw [← ho]
 exact ⟨ht, by rw [← ht]; exact hM.take⟩
theorem merge_right {a b : List R} {i j : Nat} {y : R} (ha : Asc a) (hb : Asc b) (hi : i ≤ a.length) (hy : b[j]? = some y) (hx : ∀ x, a[i]? = some x → ¬ R.cmp x y ≤ 0) (hm : merge2 (a.take i) (b.take j) = (merge2 a b).take (i + j)) :
  (merge2 a b).take (i + j + 1) = (merge2 a b).take (i + j) ++ [y] ∧ merge2 (a.take i) (b.take (j + 1)) = (merge2 a b).take (i + j) ++ [y] := by
 have hjl := getlt hy
 obtain ⟨h1, h2⟩ := merge_pick (z := y) (rest := a.drop i ++ b.drop (j + 1)) ha hb hi (Nat.le_of_lt hjl) hm (by rw [drop_at hy]; exact List.perm_middle) fun w hw => by
  rcases List.mem_append.1 hw with h | h
  ·cases ha0 : a[i]? with
   | none => rw [List.drop_eq_nil_of_le (List.getElem?_eq_none_iff.1 ha0)] at h; cases h
   | some x =>
    have h3 := hx x ha0
    have h4 := R.cmp_anti x y
    exact leb_trans (R.leb_iff.2 (by omega)) (asc_head ha ha0 w h)
  ·exact asc_head hb hy w (by rw [drop_at hy]; exact List.mem_cons_of_mem _ h)
 refine ⟨h1, asc_eq ?_ (merge2_asc ha.take hb.take) h2⟩
 rw [← hm, take_next hy]
 refine List.perm_iff_count.2 fun r => ?_
 have c1 := (merge2_perm (a.take i) (b.take j ++ [y])).count_eq r
 have c2 := (merge2_perm (a.take i) (b.take j)).count_eq r
 simp only [List.count_append] at *
 omega
end SorterD
end Go.Proofs.Ytpnbnbhifpcelaa
/- Sorters: what the laws know of one; a run's row: told by trees. -/
namespace Go.Proofs.Ytpnbnbhifpcelaa
open Go Go.RowKit V
set_option linter.unusedVariables false
def i64 (x : Int) : Prop := -9223372036854775808 ≤ x ∧ x ≤ 9223372036854775807
structure SorterD.Wf (s : SorterD) : Prop where
 inp : ∀ r ∈ s.fInput, r.wf
 heap : ∀ r ∈ s.fHeap, r.wf
 late : ∀ r ∈ s.fDeferred, r.wf
 out : ∀ r ∈ s.fOutput, r.wf
 runs : ∀ p ∈ s.fRuns, ∀ r ∈ p, r.wf
 size : s.fInput.length + s.fHeap.length + s.fDeferred.length + s.fOutput.length + s.fRuns.length + s.fRuns.flatten.length ≤ 100000000
 pos : i64 s.fPos
 lp : i64 s.fLeftPos
 rp : i64 s.fRightPos
 wr : i64 s.fWritten
theorem SorterD.Wf.run {s : SorterD} (h : s.Wf) {p : List R} (hp : p ∈ s.fRuns) : p.length ≤ 100000000 := by
 have h1 := h.size
 have h2 := Runs.mem_len hp
 omega
theorem SorterD.rowAt_get {X : List (List R)} {n k : Nat} {p : List R} {r : R} (h : X[n]? = some p) (hr : p[k]? = some r) : SorterD.rowAt X n (k : Int) = [r] := by
 unfold SorterD.rowAt
 rw [List.getD_eq_getElem?_getD, h]
 show (match p[(k : Int).toNat]? with | some r => [r] | none => []) = _
 rw [Int.toNat_natCast, hr]
theorem SorterD.rowAt_off {X : List (List R)} {n k : Nat} {p : List R} (h : X[n]? = some p) (hr : p.length ≤ k) : SorterD.rowAt X n (k : Int) = [] := by
 unfold SorterD.rowAt
 rw [List.getD_eq_getElem?_getD, h]
 show (match p[(k : Int).toNat]? with | some r => [r] | none => []) = _
 rw [Int.toNat_natCast, List.getElem?_eq_none hr]
theorem SorterD.rowAt_no {X : List (List R)} {n : Nat} {k : Int} (h : X.length ≤ n) : SorterD.rowAt X n k = [] := by
 unfold SorterD.rowAt
 rw [List.getD_eq_getElem?_getD, List.getElem?_eq_none h]
 rfl
theorem SorterD.rowAt_mem {X : List (List R)} {n : Nat} {k : Int} {r : R} (h : r ∈ SorterD.rowAt X n k) : ∃ p ∈ X, r ∈ p := by
 unfold SorterD.rowAt at h
 split at h
 ·rename_i q hq
  rw [List.mem_singleton.1 h]
  rw [List.getD_eq_getElem?_getD] at hq
  cases hn : X[n]? with
  | none => rw [hn] at hq; simp at hq
  | some p => rw [hn] at hq; exact ⟨p, List.mem_of_getElem? hn, List.mem_of_getElem? hq⟩
 ·cases h
theorem SorterD.rowAt_len (X : List (List R)) (n : Nat) (k : Int) : (SorterD.rowAt X n k).length ≤ 1 := by
 unfold SorterD.rowAt
 split
 ·exact Nat.le_refl 1
 ·exact Nat.zero_le 1
end Go.Proofs.Ytpnbnbhifpcelaa
/- The sort operator: what a step of a valid sorter keeps; no function of program or reference is walked here. -/
namespace Go.Proofs.Ytpnbnbhifpcelaa
open Go.RowKit
set_option linter.unusedVariables false
namespace SorterD
open Runs
theorem rowAt_cost (X : List (List R)) (n : Nat) (k : Int) : 0 ≤ total (rowAt X n k) ∧ total (rowAt X n k) ≤ 4 := by
 unfold rowAt
 split
 ·rename_i r _
  rw [total_one]
  exact R.cost_range r
 ·exact ⟨Int.le_refl 0, by decide⟩
theorem flat_snoc (X : List (List R)) (p : List R) : (X ++ [p]).flatten = X.flatten ++ p := by simp
structure Good (s s' : SorterD) (g : Int) (e : List R) : Prop where
 ok : ok s' = true
 mem : mem s' ≤ max (mem s) g
 inp : s'.fInput = s.fInput
 w0 : s.fWritten ≤ s'.fWritten
 w1 : s'.fWritten ≤ s.fWritten + 4
 pos : s.fPos ≤ s'.fPos
 rem : left s' = left s - e.length
 one : e.length ≤ 1
/-! ### Reading -/
section
variable {s : SorterD} {g : Int}
/-! ### Merging -/
theorem runs_two (h : 2 ≤ s.fRuns.length) : s.fRuns = fst s :: snd s :: s.fRuns.drop 2 := by
 unfold fst snd
 match s.fRuns, h with
 | p :: q :: X, _ => rfl
/-! ### Emitting -/
theorem run_one (h : s.fRuns.length = 1) : s.fRuns = [fst s] := by
 unfold fst
 match s.fRuns, h with
 | [p], _ => rfl
theorem emits_one (hRest : Rest s) (hE : Emits s) : ∃ r, (fst s)[s.fLeftPos.toNat]? = some r ∧ rowAt s.fRuns 0 s.fLeftPos = [r] := by
 have h1 := hRest.bag.length_eq
 rw [run_one hE.one] at h1
 simp at h1
 have l0 := hE.l0; have l1 := hE.l1
 have hlt : s.fLeftPos.toNat < (fst s).length := by omega
 refine ⟨_, List.getElem?_eq_getElem hlt, ?_⟩
 unfold rowAt
 rw [show s.fRuns.getD 0 [] = fst s from rfl, List.getElem?_eq_getElem hlt]
/-! ### A step of a valid sorter -/
theorem can_iff : can s g = true ↔ ok s = true ∧ (8 ≤ g ∧ g ≤ 60) ∧ s.fPhase ≠ 4 := by
 unfold can isMem
 rw [Bool.and_eq_true, Bool.and_eq_true, decide_eq_true_eq, decide_eq_true_eq]
end
end SorterD
end Go.Proofs.Ytpnbnbhifpcelaa
/- What may be read as a tree lies in memory in a shape: contracts over shapes serve callers that are told by trees. -/
namespace Go.Proofs.Ytpnbnbhifpcelaa.V
open Go Go.RowKit
set_option linter.unusedVariables false
def Cel (ok : Nat → Prop) (w : World) (ts : List T) (us : List Value) : Prop := us.length = ts.length ∧ ∀ (j : Nat) (t : T) (u : Value), ts[j]? = some t → us[j]? = some u → Inn ok w t u
theorem Cel.cons {ok : Nat → Prop} {w : World} {t : T} {ts : List T} {us : List Value} (h : Cel ok w (t :: ts) us) : ∃ u us', us = u :: us' ∧ Inn ok w t u ∧ Cel ok w ts us' := by
 obtain ⟨h1, h2⟩ := h
 match us, h1, h2 with
 | u :: us', h1, h2 => exact ⟨u, us', rfl, h2 0 t u rfl rfl, ⟨by simpa using h1, fun j t u hj hu => h2 (j + 1) t u hj hu⟩⟩
theorem Cel.nil {ok : Nat → Prop} {w : World} {us : List Value} (h : Cel ok w [] us) : us = [] := List.eq_nil_of_length_eq_zero h.1
def Fits {α : Type} (r : Rep α) (e : α → List T) (good : α → Prop) : Prop := (∀ x, (e x).length = r.size) ∧ ∀ (ok : Nat → Prop) (w : World) (x : α) (us : List Value), good x → Cel ok w (e x) us → ∃ h, r.cells x h = us ∧ r.inn w x h
theorem inn_seqIn {α : Type} {r : Rep α} {e : α → List T} {g : α → Prop} {ty : TypeId} {ok : Nat → Prop} {w : World} {xs : List α} {v : Value} (hf : Fits r e g) (h : Inn ok w (.seq ty (xs.map e)) v) (hg : ∀ x ∈ xs, g x) :
  ∃ a c, v = .slice a xs.length c ∧ SeqIn r w a xs.length xs ∧ (a = none → c = 0) := by
 obtain ⟨es, he⟩ : ∃ es, es = xs.map e := ⟨_, rfl⟩
 rw [← he] at h
 cases h with
 | @seq ty es a c n hp hz hn hc hm h0 b o us ha hb hcell hr =>
  have hl : es.length = xs.length := by rw [he, List.length_map]
  refine ⟨a, c, by rw [hl], ⟨rfl, by omega, ?_⟩, h0⟩
  by_cases hx : xs = []
  ·left; rw [hx]; rfl
  ·right
   obtain ⟨x0, xs0, hx0⟩ := List.exists_cons_of_ne_nil hx
   have hne : es ≠ [] := fun h => hx (List.eq_nil_of_length_eq_zero (by rw [← hl, h]; rfl))
   have hpos : 0 < es.length := List.length_pos_iff.2 hne
   have had : a = some ⟨b, o, none⟩ := by
    cases a with
    | none => have := h0 rfl; omega
    | some ad => rw [ha ad rfl hne]
   have hsz : r.size = n := by rw [← hf.1 x0]; exact hn _ (by rw [he, hx0]; exact List.mem_cons_self)
   have key : ∀ t x, xs[t]? = some x → ∃ h, r.cells x h = (List.range n).map (fun j => us (t * n + j)) ∧ r.inn w x h := fun t x hx => by
    refine hf.2 ok w x _ (hg x (List.mem_of_getElem? hx)) ⟨by rw [List.length_map, List.length_range, hf.1 x, hsz], fun j t' u hj hu => ?_⟩
    rw [List.getElem?_map] at hu
    obtain ⟨j', hj', rfl⟩ := Option.map_eq_some_iff.1 hu
    obtain ⟨hj1, hj2⟩ := List.getElem?_eq_some_iff.1 hj'
    rw [List.getElem_range] at hj2
    subst hj2
    exact hr t (e x) j t' (by rw [he, List.getElem?_map, hx]; rfl) hj
   have hall : ∀ t, ∃ h : r.H, ∀ x, xs[t]? = some x → r.cells x h = (List.range n).map (fun j => us (t * n + j)) ∧ r.inn w x h := fun t => by
    cases hxt : xs[t]? with
    | none => obtain ⟨h, -⟩ := key 0 x0 (by rw [hx0]; rfl); exact ⟨h, fun x hx => by cases hx⟩
    | some x => obtain ⟨h, h1⟩ := key t x hxt; exact ⟨h, fun y hy => by cases hy; exact h1⟩
   obtain ⟨hs, hhs⟩ := Classical.axiomOfChoice hall
   refine ⟨b, o, had, (hb hne).2, hs, fun t x hx => ⟨fun j u hj => ?_, (hhs t x hx).2⟩⟩
   rw [(hhs t x hx).1, List.getElem?_map] at hj
   obtain ⟨j', hj', rfl⟩ := Option.map_eq_some_iff.1 hj
   obtain ⟨hj1, hj2⟩ := List.getElem?_eq_some_iff.1 hj'
   rw [List.getElem_range] at hj2
   subst hj2
   rw [List.length_range] at hj1
   have hjl : j < (e x).length := by rw [hf.1 x, hsz]; exact hj1
   rw [hsz, Nat.add_assoc]
   exact hcell t (e x) j (e x)[j] (by rw [he, List.getElem?_map, hx]; rfl) (List.getElem?_eq_getElem hjl)
theorem Fits.fin : Fits endRep (fun _ => []) (fun _ => True) := ⟨fun _ => rfl, fun ok w x us _ h => ⟨(), h.nil.symm, trivial⟩⟩
theorem Fits.int {β : Type} {s : Rep β} {e : β → List T} {g : β → Prop} (h : Fits s e g) : Fits (intAnd s) (fun x => .lit (.int .i64 x.1) :: e x.2) (fun x => I64 x.1 ∧ g x.2) :=
 ⟨fun x => by rw [List.length_cons, h.1]; rfl, fun ok w x us hg hc => by
  obtain ⟨u, us', rfl, h1, h2⟩ := hc.cons
  obtain ⟨k, rfl, h4⟩ := h.2 ok w x.2 us' hg.2 h2
  rw [inn_lit h1]
  exact ⟨k, rfl, hg.1, h4⟩⟩
theorem Fits.bool {β : Type} {s : Rep β} {e : β → List T} {g : β → Prop} (h : Fits s e g) : Fits (boolAnd s) (fun x => .lit (.bool x.1) :: e x.2) (fun x => g x.2) :=
 ⟨fun x => by rw [List.length_cons, h.1]; rfl, fun ok w x us hg hc => by
  obtain ⟨u, us', rfl, h1, h2⟩ := hc.cons
  obtain ⟨k, rfl, h4⟩ := h.2 ok w x.2 us' hg h2
  rw [inn_lit h1]
  exact ⟨k, rfl, h4⟩⟩
theorem Fits.slice {α : Type} {r : Rep α} {e : α → List T} {g : α → Prop} (ty : TypeId) (hf : Fits r e g) : Fits (seqRep r) (fun xs => [.seq ty (xs.map e)]) (fun xs => ∀ x ∈ xs, g x) :=
 ⟨fun _ => rfl, fun ok w x us hg hc => by
  obtain ⟨u, us', rfl, h1, h2⟩ := hc.cons
  obtain ⟨a, c, rfl, h3, h4⟩ := inn_seqIn hf h1 hg
  rw [h2.nil]
  exact ⟨(a, x.length, c), rfl, h3, h4⟩⟩
theorem Fits.seq {α β : Type} {r : Rep α} {e : α → List T} {g : α → Prop} (ty : TypeId) (hf : Fits r e g) {s : Rep β} {f : β → List T} {k : β → Prop} (h : Fits s f k) : Fits (seqAnd r s) (fun x => .seq ty (x.1.map e) :: f x.2) (fun x => (∀ y ∈ x.1, g y) ∧ k x.2) :=
 ⟨fun x => by rw [List.length_cons, h.1]; rfl, fun ok w x us hg hc => by
  obtain ⟨u, us', rfl, h1, h2⟩ := hc.cons
  obtain ⟨a, c, rfl, h3, h4⟩ := inn_seqIn hf h1 hg.1
  obtain ⟨m, rfl, h6⟩ := h.2 ok w x.2 us' hg.2 h2
  exact ⟨((a, x.1.length, c), m), rfl, ⟨h3, h4⟩, h6⟩⟩
theorem Fits.row : Fits rowRep (fun r => [.lit (.int .i64 r.key), .lit (.int .i64 r.value), .lit (.int .i64 r.width)]) R.wf :=
 ⟨fun _ => rfl, fun ok w x us hg hc => by
  obtain ⟨u1, us1, rfl, h1, hc⟩ := hc.cons
  obtain ⟨u2, us2, rfl, h2, hc⟩ := hc.cons
  obtain ⟨u3, us3, rfl, h3, hc⟩ := hc.cons
  rw [inn_lit h1, inn_lit h2, inn_lit h3, hc.nil]
  exact ⟨(), rfl, hg⟩⟩
/-! ### Arguments, one behind the other -/
theorem ArgsIn.cut {E : Env} {w : World} {ag : Bool} {ts : List T} {ins : List (Bool × List T)} {vs : List Value} (h : ArgsIn E w ((ag, ts) :: ins) vs) : ∃ us vs', vs = cval ag us :: vs' ∧ Cel E.old w ts us ∧ ArgsIn E w ins vs' := by
 obtain ⟨h1, h2⟩ := h
 match vs, h1, h2 with
 | v :: vs', h1, h2 =>
  obtain ⟨us, rfl, h3, h4⟩ := h2 0 ag ts v rfl rfl
  exact ⟨us, vs', rfl, ⟨h3, h4⟩, ⟨by simpa using h1, fun c ag ts v hc hv => h2 (c + 1) ag ts v hc hv⟩⟩
theorem ArgsIn.none {E : Env} {w : World} {vs : List Value} (h : ArgsIn E w [] vs) : vs = [] := List.eq_nil_of_length_eq_zero h.1
theorem ArgsIn.shape {α : Type} {r : Rep α} {e : α → List T} {g : α → Prop} (hf : Fits r e g) {E : Env} {w : World} {ag : Bool} {x : α} (hg : g x) {ins : List (Bool × List T)} {vs : List Value} (h : ArgsIn E w ((ag, e x) :: ins) vs) : ∃ k vs', vs = cval ag (r.cells x k) :: vs' ∧ r.inn w x k ∧ ArgsIn E w ins vs' := by
 obtain ⟨us, vs', rfl, h1, h2⟩ := h.cut
 obtain ⟨k, rfl, h4⟩ := hf.2 _ w x us hg h1
 exact ⟨k, vs', rfl, h4, h2⟩
theorem ArgsIn.lit {E : Env} {w : World} {u : Value} {ins : List (Bool × List T)} {vs : List Value} (h : ArgsIn E w ((false, [.lit u]) :: ins) vs) : ∃ vs', vs = u :: vs' ∧ ArgsIn E w ins vs' := by
 obtain ⟨us, vs', rfl, h1, h2⟩ := h.cut
 obtain ⟨v, us', rfl, h3, h4⟩ := h1.cons
 rw [inn_lit h3]
 exact ⟨vs', rfl, h2⟩
theorem Gives.plain {w w' : World} {e : Ending} {ag : Bool} {rs : List Value} (h1 : ∀ u ∈ rs, u.oneCell' = true) (h : e = .returned (cval ag rs) ∧ Below w.heap.size w w') : Gives (Env.of w) false [(ag, rs.map T.lit)] e w' := by
 refine ⟨[rs], fun _ _ _ => False, rfl, by rw [h.1]; rfl, fun c ag' ts us hc hu => ?_, fun c j c' j' b hb => hb.elim, fun c j b hb => hb.elim, .of_below h.2⟩
 cases c with
 | zero =>
  cases hc; cases hu
  refine ⟨by simp, fun j t u hj hu => ?_⟩
  rw [List.getElem?_map, hu] at hj
  cases hj
  exact .lit (h1 u (get_mem hu))
 | succ c => simp at hc
end Go.Proofs.Ytpnbnbhifpcelaa.V
/- States told by trees: comparisons with nil, calls that write into what they are lent and answer nothing. -/
namespace Go.Proofs.Ytpnbnbhifpcelaa.V
open Go Go.RowKit
set_option linter.unusedVariables false
variable {P : Program} {E : Env} {N nb : Nat} {σ σ' τ : VS} {o : Oper} {a : Act} {w : World} {G : Ghost} {Q : Exit → Act → World → Prop} {K : Act → World → Prop}
def VU (P : Program) (f : FuncId) (ins : List (Bool × List AC)) (ls ls' : List T) : Prop :=
 ∀ (w : World) (lv : Nat → Value) (F : Nat → Nat → Prop) (hF : ∀ i b, i < ls.length → F i b → b < w.heap.size) (vs : List Value), (∀ i t, ls[i]? = some t → Own w 0 t (lv i) (F i) ∧ ∃ ty es, t = .seq ty es) → (∀ i j b, i < ls.length → j < ls.length → i ≠ j → F i b → ¬ F j b) → ArgsM (Env.lend w lv F ls.length hF) ins vs →
  Calls P f vs.toArray w fun e w' => (∃ v, e = .returned v ∧ Same (Env.lend w lv F ls.length hF) (Env.lend w lv F ls.length hF).w0 w') ∧ Lents (Env.lend w lv F ls.length hF) ls' w'
theorem flat_sub {fs : List (List T)} (h : Flat fs) (l n : Nat) : Flat ((fs.take n).drop l) := fun k e j t h1 h2 => by
 rw [List.getElem?_drop, List.getElem?_take] at h1
 split at h1
 ·exact h _ e j t h1 h2
 ·cases h1
theorem SV.isnil {d : Nat} {x y : Operand} {ty : TypeId} {es : List (List T)} {rest : List Oper} {ops : Array Oper} (hx : σ.ev x = V.one (.ro (.seq ty es))) (hy : σ.ev y = V.one (.sc (.slice none 0 0))) (hd : o.dst = some d) (hdN : d < N) (hg : o.guard = none)
  (hrun : ∀ (ρ : Operand → Value) (ad : Option Addr) (n c : Nat) (w : World), ρ x = .slice ad n c → ρ y = .slice none 0 0 → (execOp ρ o).run P w = .ok (.value (.bool ad.isNone)) w)
  (ht : es = [] → SV E N (σ.put d (V.one (.sc (.bool true)))) (wpList P ops Q rest)) (hf : SV E N (σ.put d (V.one (.sc (.bool false)))) (wpList P ops Q rest)) : SV E N σ (wpList P ops Q (o :: rest)) := fun a w G hr => by
 have h1 := hr.ev x
 rw [hx, vone] at h1
 have h2 := hr.sc hy
 have h3 : Inn E.old w (.seq ty es) (a.eval x) := h1.1
 cases hv : a.eval x with
 | slice ad n c =>
  rw [hv] at h3
  refine wpList_step fun K hK => ?_
  rw [if_pos (by simp [Region.wanted, hg])]
  refine wp_value (v := .bool ad.isNone) (w' := w) (hrun _ ad n c w hv h2) ?_
  rw [hd]
  cases ad with
  | none =>
   have he : es = [] := by
    cases h3 with
    | seq n' hp hz hn hc hm h0 => have := h0 rfl; subst this; exact List.eq_nil_of_length_eq_zero (by omega)
   exact hK _ _ (ht he _ _ G (hr.put hdN (vone.2 ⟨rfl, .inr rfl⟩)))
  | some ad => exact hK _ _ (hf _ _ G (hr.put hdN (vone.2 ⟨rfl, .inr rfl⟩)))
 | _ => rw [hv] at h3; cases h3
theorem SV.nlscb {b j kk n : Nat} {ty ty' : TypeId} {xs : List Leaf} (hb : σ.bs[b]? = some (ty', xs)) (hk : σ.nx = kk) (hj : xs[j]? = some (.sc (.slice none 0 0))) (hp : 0 < n) (hz : Sz ty n) {ys : List Leaf} (hy : xs.set j (.hd kk) = ys) (k : SV E N ((σ.new (.seq ty [])).setb b ty' ys) K) : SV E N σ K := fun a w G h => by
 subst hk
 subst hy
 obtain ⟨hB, us, h1, h2, h3⟩ := h.boxes b ty' xs hb
 have hjl := get_lt hj
 obtain ⟨⟨h4, -⟩, -⟩ := h3 j _ us[j] hj (List.getElem?_eq_getElem (by omega))
 obtain ⟨G', k1, k2, hβ, k3⟩ := h.newnil hp hz
 have h4' : us[j] = .slice none 0 0 := h4
 have k4 := k1.setbox (b := b) (ty := ty') (xs := xs) (xs' := xs.set j (.hd σ.nx)) (us' := us) (w' := w) hb (Same.refl _ _) (fun _ _ => rfl) (by rw [hβ]; exact h1) (by simpa using h2) (fun q x u hq hu => by
  by_cases hqj : j = q
  ·subst hqj
   rw [List.getElem?_set_self hjl] at hq
   have hu' : us[j] = u := by rw [List.getElem?_eq_getElem (by omega)] at hu; exact Option.some.inj hu
   rw [← Option.some.inj hq, ← hu', h4']
   exact ⟨⟨⟨Nat.lt_succ_self _, k2.symm⟩, .inr rfl⟩, rfl⟩
  ·rw [List.getElem?_set_ne hqj] at hq
   exact ⟨k3 x u (h3 q x u hq hu).1, (h3 q x u hq hu).2⟩)
 exact k a w G' k4
end Go.Proofs.Ytpnbnbhifpcelaa.V
/- The reference's IsValidRow and RowCost, by contract. -/
namespace Go.Proofs.Ytpnbnbhifpcelaa
open Go.RowKit
theorem sin (n a b : Int) (w : World) : Calls Try.prog 71 #[.int .i64 n, .int .i64 a, .int .i64 b] w fun e w' => e = .returned (.bool (decide (a ≤ n ∧ n ≤ b))) ∧ w = w' := by
 go_enter Try.func71, Try.ntmps71
 go_wp2
 all_goals go_ret
 all_goals simp_all
 all_goals omega
theorem svalid (r : R) (w : World) : Calls Try.prog 110 #[r.val] w fun e w' => e = .returned (.bool r.ok) ∧ Below w.heap.size w w' := by
 obtain ⟨k, v, d⟩ := r
 unfold R.val
 go_enter Try.func110, Try.ntmps110
 go_wp2_with fail
 refine (sin _ _ _ _).mono ?_
 rintro e w1 ⟨rfl, rfl⟩
 go_wp2_with fail
 case isTrue =>
  refine (sin _ _ _ _).mono ?_
  rintro e w1 ⟨rfl, rfl⟩
  go_wp2_with fail
  case isTrue =>
   refine (sin _ _ _ _).mono ?_
   rintro e w1 ⟨rfl, rfl⟩
   go_wp2_with fail
   all_goals go_ret
   all_goals refine ⟨?_, (Below.refl _ _).alloc (Nat.le_refl _) _⟩
   all_goals simp_all [R.ok]
  all_goals go_ret
  all_goals refine ⟨?_, (Below.refl _ _).alloc (Nat.le_refl _) _⟩
  all_goals simp_all [R.ok]
  all_goals omega
 all_goals go_ret
 all_goals refine ⟨?_, (Below.refl _ _).alloc (Nat.le_refl _) _⟩
 all_goals simp_all [R.ok]
 all_goals omega
theorem scost (r : R) (hr : r.wf) (w : World) : Calls Try.prog 80 #[r.val] w fun e w' => e = .returned (.int .i64 r.cost) ∧ Below w.heap.size w w' := by
 have hw := hr.2.2
 have H := Lib.hid (svalid r)
 cases hok : r.ok with
 | true =>
  have hc : r.cost = 1 + r.width := by unfold R.cost; rw [hok]; rfl
  have hk := R.ok_iff.1 hok
  rw [hc]
  unfold R.val
  go_enter Try.func80, Try.ntmps80
  go_wp2_with fail
  refine (H.out _).mono ?_
  rintro e w1 ⟨rfl, b1⟩
  obtain ⟨⟨c0, c1, c2⟩, b2⟩ := box_row (r := r) b1
  rw [hok]
  simp only [Nat.zero_add] at c2
  go_wp2_with fail
  go_ret
  exact ⟨rfl, b2⟩
 | false =>
  have hc : r.cost = 0 := by unfold R.cost; rw [hok]; rfl
  rw [hc]
  unfold R.val
  go_enter Try.func80, Try.ntmps80
  go_wp2_with fail
  refine (H.out _).mono ?_
  rintro e w1 ⟨rfl, b1⟩
  obtain ⟨⟨c0, c1, c2⟩, b2⟩ := box_row (r := r) b1
  rw [hok]
  go_wp2_with fail
  go_ret
  exact ⟨rfl, b2⟩
end Go.Proofs.Ytpnbnbhifpcelaa
/- The reference's AreValidRows and TotalCost, by contract. -/
namespace Go.Proofs.Ytpnbnbhifpcelaa
open Go.RowKit
set_option maxRecDepth 100000 in
theorem sare (a : Option Addr) (len cap : Nat) (L : List R) (w : World) (h : IsRows w a len L) (hlen : len ≤ 9223372036854775807) :
  Calls Try.prog 62 #[.slice a len cap] w fun e w' => e = .returned (.bool (okRows L)) ∧ Below w.heap.size w w' := by
 obtain ⟨hl, hwf, hc⟩ := h
 have HL := Lib.hid hl
 have HC := Lib.hid hc
 clear hl hwf hc
 go_enter Try.func62, Try.ntmps62
 go_wp2_with fail
 go_loopw [3] (fun i wr => ∃ k : Nat, i = .int .i64 k ∧ k ≤ len ∧ Hid (allOk (L.take k) = true) ∧ Hid (Below w.heap.size w wr)) (fun i _ => len - (intOf i).toNat)
 case atStart => exact ⟨0, rfl, Nat.zero_le _, rfl, Below.refl _ _⟩
 case round =>
  obtain ⟨k, rfl, hk, hok, hb⟩ := hrel
  by_cases hlt : k < len
  ·obtain ⟨b, o, rfl, hbl, hc⟩ : ∃ b o : Nat, a = some ⟨b, o, none⟩ ∧ b < w.heap.size ∧ ∀ t, t < len → RowAt w b (o + t * 3) (L.getD t R.zero) := by
    rcases HC.out with h0 | h0
    ·omega
    ·exact h0
   obtain ⟨r, hr⟩ : ∃ r, r = L.getD k R.zero := ⟨_, rfl⟩
   have hat : RowAt wr b (o + k * 3) r := by rw [hr]; exact (hc k hlt).below hb.out hbl
   obtain ⟨c0, c1, c2⟩ := hat
   have HR := Lib.hid hr
   clear hr hc
   go_wp2_with fail
   refine (svalid r _).mono ?_
   rintro e w1 ⟨rfl, b1⟩
   have B1 := Lib.hid (hb.out.trans (b1.mono hb.out.size))
   clear b1
   cases hv : r.ok with
   | true =>
    go_wp2_with fail
    go_roundw
    case rel => exact ⟨k + 1, by go_num, by omega, by show _ = _; rw [allOk_take L k (by rw [HL.out]; exact hlt), hok.out, ← HR.out, hv]; rfl, B1⟩
    case measure => simp [intOf]; omega
   | false =>
    have hno : okRows L = false := by unfold okRows; rw [allOk_bad L k (by rw [HL.out]; exact hlt) (by rw [← HR.out]; exact hv), Bool.and_false]
    go_wp2_with fail
    go_ret
    exact ⟨by rw [hno]; rfl, B1.out⟩
  ·have hkl : k = len := by omega
   have hall : okRows L = decide ((len : Int) ≤ 24) := by
    have : allOk L = true := by have := hok.out; rwa [hkl, ← HL.out, List.take_length] at this
    unfold okRows; rw [this, Bool.and_true, HL.out]
    simp; omega
   clear hkl
   have HA := Lib.hid hall
   clear hall
   go_wp2_with fail
   go_ret
   exact ⟨by rw [HA.out]; rfl, hb.out⟩
set_option maxRecDepth 100000 in
theorem stotal (a : Option Addr) (len cap : Nat) (L : List R) (w : World) (h : IsRows w a len L) (hlen : len ≤ 1000000000000) :
  Calls Try.prog 67 #[.slice a len cap] w fun e w' => e = .returned (.int .i64 (total L)) ∧ Below w.heap.size w w' := by
 have HW := Lib.hid h.wf
 obtain ⟨hl, -, hc⟩ := h
 have HL := Lib.hid hl
 have HC := Lib.hid hc
 clear hl hc
 go_enter Try.func67, Try.ntmps67
 go_wp2_with fail
 go_loopw [3, 4] (fun n i wr => ∃ (k : Nat) (v : Int), n = .int .i64 v ∧ i = .int .i64 k ∧ k ≤ len ∧ 0 ≤ v ∧ v ≤ 4 * k ∧ Hid (total (L.take k) = v) ∧ Hid (Below w.heap.size w wr)) (fun _ i _ => len - (intOf i).toNat)
 case atStart => exact ⟨0, 0, rfl, rfl, Nat.zero_le _, by omega, by omega, rfl, Below.refl _ _⟩
 case round =>
  obtain ⟨k, v, rfl, rfl, hk, hv0, hv1, hsum, hb⟩ := hrel
  by_cases hlt : k < len
  ·obtain ⟨b, o, rfl, hbl, hc⟩ : ∃ b o : Nat, a = some ⟨b, o, none⟩ ∧ b < w.heap.size ∧ ∀ t, t < len → RowAt w b (o + t * 3) (L.getD t R.zero) := by
    rcases HC.out with h0 | h0
    ·omega
    ·exact h0
   obtain ⟨r, hr⟩ : ∃ r, r = L.getD k R.zero := ⟨_, rfl⟩
   have hat : RowAt wr b (o + k * 3) r := by rw [hr]; exact (hc k hlt).below hb.out hbl
   have hrw : r.wf := by rw [hr]; exact HW.out k hlt
   obtain ⟨c0, c1, c2⟩ := hat
   have HR := Lib.hid hr
   have HRW := Lib.hid hrw
   clear hr hc hrw
   go_wp2_with fail
   refine (scost r HRW.out _).mono ?_
   rintro e w1 ⟨rfl, b1⟩
   have B1 := Lib.hid (hb.out.trans (b1.mono hb.out.size))
   clear b1
   obtain ⟨x, hx⟩ : ∃ x, x = r.cost := ⟨_, rfl⟩
   have hx0 : 0 ≤ x ∧ x ≤ 4 := by rw [hx]; exact r.cost_range
   obtain ⟨hx0, hx4⟩ := hx0
   have HX := Lib.hid hx
   rw [← hx]
   clear hx
   go_wp2_with fail
   go_roundw
   case rel => exact ⟨k + 1, v + x, by go_num, by go_num, by omega, by omega, by omega, by show _ = _; rw [total_take L k (by rw [HL.out]; exact hlt), hsum.out, ← HR.out, HX.out], B1⟩
   case measure => simp [intOf]; omega
  ·have hkl : k = len := by omega
   have hall : total L = v := by have := hsum.out; rwa [hkl, ← HL.out, List.take_length] at this
   clear hkl
   have HA := Lib.hid hall
   clear hall
   go_wp2_with fail
   go_ret
   exact ⟨by rw [HA.out]; rfl, hb.out⟩
end Go.Proofs.Ytpnbnbhifpcelaa
/- The laws' comparison of two slices of rows by '!=' on the structs (sameRows), by contract: where both read as the same rows. -/
namespace Go.Proofs.Ytpnbnbhifpcelaa
open Go.RowKit
theorem row_neq (a b : R) (w : World) : (binOp .neq 72 (.agg #[.int .i64 a.key, .int .i64 a.value, .int .i64 a.width]) (.agg #[.int .i64 b.key, .int .i64 b.value, .int .i64 b.width])).run Try.prog w = .ok (.bool (!decide (a = b))) w := by
 have h1 : (Op.equalIn 10000 72 (.agg #[.int .i64 a.key, .int .i64 a.value, .int .i64 a.width]) (.agg #[.int .i64 b.key, .int .i64 b.value, .int .i64 b.width])).run Try.prog w = .ok (decide (a = b)) w := by
  rw [run_equalIn_agg w 9999 72 _ _ (by kernel_rfl) (by kernel_rfl)]
  obtain ⟨k, v, d⟩ := a
  obtain ⟨k', v', d'⟩ := b
  have e : decide (R.mk k v d = R.mk k' v' d') = decide (k = k' ∧ v = v' ∧ d = d') := by simp
  rw [e]
  by_cases hk : k = k' <;> by_cases hv : v = v' <;> by_cases hd : d = d' <;> simp [go_sem, Try.underlying72, Try.underlying3, hk, hv, hd]
 rw [run_neq_struct, h1]
 rfl
end Go.Proofs.Ytpnbnbhifpcelaa
/- CountRow of the program and of the reference, by contract. -/
namespace Go.Proofs.Ytpnbnbhifpcelaa
open Go.RowKit
end Go.Proofs.Ytpnbnbhifpcelaa
/- The reference's CompareRows, by contract. -/
namespace Go.Proofs.Ytpnbnbhifpcelaa
open Go.RowKit
theorem IsRows.at2 {w : World} {a : Option Addr} {len : Nat} {L : List R} (h : IsRows w a len L) {t u : Nat} (ht : t < len) (hu : u < len) : ∃ b o : Nat, a = some ⟨b, o, none⟩ ∧ b < w.heap.size ∧ RowAt w b (o + t * 3) (L.getD t R.zero) ∧ RowAt w b (o + u * 3) (L.getD u R.zero) := by
 obtain ⟨-, -, h0 | ⟨b, o, e, hb, hc⟩⟩ := h
 ·omega
 ·exact ⟨b, o, e, hb, hc t ht, hc u hu⟩
theorem box4 (w : World) (a b : R) (s t : TypeId) : ∃ W, W = (((w.alloc (.cells #[.int .i64 a.key, .int .i64 a.value, .int .i64 a.width] s)).alloc (.cells #[.int .i64 b.key, .int .i64 b.value, .int .i64 b.width] s)).alloc
   (.cells #[.int .i64 a.key, .int .i64 a.value, .int .i64 a.width] t)).alloc (.cells #[.int .i64 b.key, .int .i64 b.value, .int .i64 b.width] t) ∧
  (∀ k, k < 3 → W.cell? ⟨w.heap.size + 1 + 1, k, none⟩ = some (.int .i64 (a.fld k))) ∧ (∀ k, k < 3 → W.cell? ⟨w.heap.size + 1 + 1 + 1, k, none⟩ = some (.int .i64 (b.fld k))) ∧ Below w.heap.size w W := by
 have hb : Below w.heap.size w ((w.alloc (.cells #[.int .i64 a.key, .int .i64 a.value, .int .i64 a.width] s)).alloc (.cells #[.int .i64 b.key, .int .i64 b.value, .int .i64 b.width] s)) := Joins.below_alloc2 _ _ _
 have hz : ((w.alloc (.cells #[.int .i64 a.key, .int .i64 a.value, .int .i64 a.width] s)).alloc (.cells #[.int .i64 b.key, .int .i64 b.value, .int .i64 b.width] s)).heap.size = w.heap.size + 1 + 1 := by simp
 generalize (w.alloc (.cells #[.int .i64 a.key, .int .i64 a.value, .int .i64 a.width] s)).alloc (.cells #[.int .i64 b.key, .int .i64 b.value, .int .i64 b.width] s) = V at hb hz ⊢
 rw [← hz]
 refine ⟨_, rfl, fun k hk => ?_, fun k hk => ?_, (hb.alloc hb.size _).alloc (by have := hb.size; simp; omega) _⟩
 ·match k, hk with
  | 0, _ => simp [R.fld]
  | 1, _ => simp [R.fld]
  | 2, _ => simp [R.fld]
 ·match k, hk with
  | 0, _ => simp [R.fld]
  | 1, _ => simp [R.fld]
  | 2, _ => simp [R.fld]
set_option maxRecDepth 100000 in
theorem scmp (a b : R) (w : World) : Calls Try.prog 73 #[a.val, b.val] w fun e w' => e = .returned (.int .i64 (R.cmp a b)) ∧ Below w.heap.size w w' := by
 unfold R.val
 obtain ⟨W, hW, hx, hy, b2⟩ := box4 w a b 72 3
 have HX := Lib.hid hx
 have HY := Lib.hid hy
 have B2 := Lib.hid b2
 have HW := Lib.hid hW
 clear b2 hx hy hW
 go_enter Try.func73, Try.ntmps73
 go_wp2_with fail
 rw [← HW.out]
 clear HW
 go_loopw [7] (fun i wr => ∃ k : Nat, i = .int .i64 k ∧ k ≤ 3 ∧ Hid (∀ t, t < k → a.fld t = b.fld t) ∧ Hid (∀ k, k < 3 → wr.cell? ⟨w.heap.size + 1 + 1, k, none⟩ = some (.int .i64 (a.fld k))) ∧ Hid (∀ k, k < 3 → wr.cell? ⟨w.heap.size + 1 + 1 + 1, k, none⟩ = some (.int .i64 (b.fld k))) ∧ Hid (Below w.heap.size w wr)) (fun i _ => 3 - (intOf i).toNat)
 case atStart => exact ⟨0, rfl, Nat.zero_le _, fun t ht => absurd ht (Nat.not_lt_zero _), HX, HY, B2⟩
 case round =>
  obtain ⟨k, rfl, hk, he, hx, hy, hb⟩ := hrel
  by_cases hlt : k < 3
  ·have c := hx.out k hlt
   have d := hy.out k hlt
   obtain ⟨x, hxx⟩ : ∃ x, x = a.fld k := ⟨_, rfl⟩
   obtain ⟨y, hyy⟩ : ∃ y, y = b.fld k := ⟨_, rfl⟩
   rw [← hxx] at c
   rw [← hyy] at d
   have XX := Lib.hid hxx
   have YY := Lib.hid hyy
   clear hxx hyy
   have hki : (k : Int) < 3 := by omega
   by_cases h1 : x < y
   ·have hans : R.cmp a b = -1 := R.cmp_less a b k hlt he.out (by rw [← XX.out, ← YY.out]; exact h1)
    have HA := Lib.hid hans
    clear hans
    go_wp2_with fail
    go_quiet (fail)
    go_wp2_with fail
    go_ret
    exact ⟨by rw [HA.out]; rfl, by first | exact hb.out.trans (Joins.below_draws _ _ _) | exact (hb.out.trans (Joins.below_draws _ _ _)).trans (Joins.below_draws _ _ _)⟩
   ·by_cases h2 : y < x
    ·have hans : R.cmp a b = 1 := R.cmp_more a b k hlt he.out (by rw [← XX.out, ← YY.out]; exact h2)
     have HA := Lib.hid hans
     clear hans
     go_wp2_with fail
     go_quiet (fail)
     go_wp2_with fail
     go_quiet (fail)
     go_wp2_with fail
     go_ret
     exact ⟨by rw [HA.out]; rfl, by first | exact hb.out.trans (Joins.below_draws _ _ _) | exact (hb.out.trans (Joins.below_draws _ _ _)).trans (Joins.below_draws _ _ _)⟩
    ·have hxy : x = y := by omega
     have HXY := Lib.hid hxy
     clear hxy
     go_wp2_with fail
     go_quiet (fail)
     go_wp2_with fail
     go_quiet (fail)
     go_wp2_with fail
     go_roundw
     case rel =>
      refine ⟨k + 1, by go_num, by omega, fun t ht => ?_, fun t ht => hx.out t ht, fun t ht => hy.out t ht, by first | exact hb.out.trans (Joins.below_draws _ _ _) | exact (hb.out.trans (Joins.below_draws _ _ _)).trans (Joins.below_draws _ _ _)⟩
      rcases Nat.lt_or_ge t k with h | h
      ·exact he.out t h
      ·obtain rfl : t = k := by omega
       rw [← XX.out, ← YY.out]; exact HXY.out
     case measure => simp [intOf]; omega
  ·have hkl : k = 3 := by omega
   have hans : R.cmp a b = 0 := R.cmp_same a b (by rw [← hkl]; exact he.out)
   have HA := Lib.hid hans
   clear hans hkl
   go_wp2_with fail
   go_ret
   exact ⟨by rw [HA.out]; rfl, hb.out⟩
end Go.Proofs.Ytpnbnbhifpcelaa
/- The program's CompareRows and the library's cmp.Compare and cmp.Or at int, by contract. -/
namespace Go.Proofs.Ytpnbnbhifpcelaa
open Go.RowKit
theorem compare (x y : Int) (w : World) : Calls Try.prog 128 #[.int .i64 x, .int .i64 y] w fun e w' => e = .returned (.int .i64 (R.one x y)) ∧ w' = w := by
 unfold R.one
 go_enter Try.func128, Try.ntmps128
 go_wp2
 all_goals go_ret
 all_goals simp_all
def firstOf : List Int → Int
 | [] => 0
 | x :: l => if x = 0 then firstOf l else x
theorem firstOf_at : ∀ (L : List Int) (k : Nat), k < L.length → (∀ t, t < k → L.getD t 0 = 0) → L.getD k 0 ≠ 0 → firstOf L = L.getD k 0
 | x :: L, 0, _, _, h => by unfold firstOf; exact if_neg h
 | x :: L, k + 1, hk, hz, h => by
  have hx : x = 0 := hz 0 (by omega)
  unfold firstOf
  rw [if_pos hx]
  exact firstOf_at L k (by simpa using hk) (fun t ht => hz (t + 1) (by omega)) h
theorem firstOf_none : ∀ (L : List Int), (∀ t, t < L.length → L.getD t 0 = 0) → firstOf L = 0
 | [], _ => rfl
 | x :: L, h => by
  have hx : x = 0 := h 0 (by simp)
  unfold firstOf
  rw [if_pos hx]
  exact firstOf_none L fun t ht => h (t + 1) (by simpa using ht)
theorem cmpor (g len cap : Nat) (L : List Int) (w : World) (hl : L.length = len) (hlen : len ≤ 1000000000000) (hc : ∀ t, t < len → w.cell? ⟨g, t, none⟩ = some (.int .i64 (L.getD t 0))) :
  Calls Try.prog 127 #[.slice (some ⟨g, 0, none⟩) len cap] w fun e w' => e = .returned (.int .i64 (firstOf L)) ∧ w' = w := by
 have HL := Lib.hid hl
 have HC := Lib.hid hc
 clear hl hc
 go_enter Try.func127, Try.ntmps127
 go_wp2
 go_loop [8] (fun i => ∃ k : Nat, i = .int .i64 k ∧ k ≤ len ∧ Hid (∀ t, t < k → L.getD t 0 = 0)) (fun i => len - (intOf i).toNat)
 case atStart => exact ⟨0, rfl, Nat.zero_le _, fun t ht => absurd ht (Nat.not_lt_zero _)⟩
 case round =>
  obtain ⟨k, rfl, hk, hz⟩ := hrel
  by_cases hlt : k < len
  ·have hck := HC.out k hlt
   obtain ⟨x, hx⟩ : ∃ x, x = L.getD k 0 := ⟨_, rfl⟩
   rw [← hx] at hck
   have HX := Lib.hid hx
   clear hx
   by_cases h0 : x = 0
   ·subst h0
    go_wp2
    go_round
    case rel =>
     refine ⟨k + 1, by go_num, by omega, fun t ht => ?_⟩
     rcases Nat.lt_or_ge t k with h | h
     ·exact hz.out t h
     ·obtain rfl : t = k := by omega
      exact HX.out.symm
    case measure => simp [intOf]; omega
   ·have ha : firstOf L = x := by rw [HX.out]; exact firstOf_at L k (by rw [HL.out]; exact hlt) hz.out (by rw [← HX.out]; exact h0)
    have HA := Lib.hid ha
    clear ha
    go_wp2
    go_ret
    exact ⟨by rw [HA.out]; rfl, rfl⟩
  ·have hkl : k = len := by omega
   have ha : firstOf L = 0 := firstOf_none L (by rw [HL.out, ← hkl]; exact hz.out)
   have HA := Lib.hid ha
   clear ha hkl
   go_wp2
   go_ret
   exact ⟨by rw [HA.out]; rfl, rfl⟩
theorem cmp_first (a b : R) : R.cmp a b = firstOf [R.one a.key b.key, R.one a.value b.value, R.one a.width b.width] := by
 rw [R.cmp_or]
 simp only [firstOf]
 (repeat' split) <;> first | rfl | simp_all | omega
set_option maxRecDepth 100000 in
theorem icmp (a b : R) (w : World) : Calls Try.prog 109 #[a.val, b.val] w fun e w' => e = .returned (.int .i64 (R.cmp a b)) ∧ Below w.heap.size w w' := by
 have HA := Lib.hid (cmp_first a b)
 unfold R.val
 obtain ⟨x, hx⟩ : ∃ x, x = R.one a.key b.key := ⟨_, rfl⟩
 obtain ⟨y, hy⟩ : ∃ y, y = R.one a.value b.value := ⟨_, rfl⟩
 obtain ⟨z, hz⟩ : ∃ z, z = R.one a.width b.width := ⟨_, rfl⟩
 have C1 := Lib.hid (compare a.key b.key)
 have C2 := Lib.hid (compare a.value b.value)
 have C3 := Lib.hid (compare a.width b.width)
 rw [← hx] at C1 HA
 rw [← hy] at C2 HA
 rw [← hz] at C3 HA
 clear hx hy hz
 obtain ⟨W, hW, ⟨c0, c1, c2⟩, ⟨d0, d1, d2⟩, b2, hsz⟩ := box2 w a b 72 72
 simp only [Nat.zero_add] at c1 c2 d1 d2
 have B2 := Lib.hid b2
 clear b2
 go_enter Try.func109, Try.ntmps109
 go_wp2_with fail
 rw [← hW]
 clear hW
 refine wp_region_still_tail 15 (by kernel_rfl) (by kernel_rfl) ?_
 simp only [List.take_succ_cons, List.take_zero, List.drop_succ_cons, List.drop_zero]
 repeat still_step
 still_call (C1.out _)
 repeat still_step
 still_call (C2.out _)
 repeat still_step
 still_call (C3.out _)
 repeat still_step
 refine wpStill_nil ?_
 go_wp2_with fail
 refine (cmpor _ 3 3 [x, y, z] _ rfl (by omega) ?cells).mono ?_
 case cells =>
  intro t ht
  match t, ht with
  | 0, _ => simp
  | 1, _ => simp
  | 2, _ => simp
 rintro e w1 ⟨rfl, rfl⟩
 go_wp2_with fail
 go_ret
 exact ⟨by rw [HA.out]; rfl, (B2.out.alloc (by omega) _).drew⟩
end Go.Proofs.Ytpnbnbhifpcelaa
/- IsSorted of the program, the library's IsSortedFunc behind it, and the reference's IsSorted, by contract. -/
namespace Go.Proofs.Ytpnbnbhifpcelaa
open Go.RowKit
set_option maxRecDepth 100000 in
theorem sasc (a : Option Addr) (len cap : Nat) (L : List R) (w : World) (h : IsRows w a len L) (hlen : len ≤ 1000000000000) :
  Calls Try.prog 54 #[.slice a len cap] w fun e w' => e = .returned (.bool (R.asc L)) ∧ Below w.heap.size w w' := by
 have HL := Lib.hid h.1
 have HI := Lib.hid h
 clear h
 go_enter Try.func54, Try.ntmps54
 go_wp2_with fail
 go_loopw [3] (fun i wr => ∃ k : Nat, i = .int .i64 ((k : Int) + 1) ∧ (k = 0 ∨ k < len) ∧ Hid (∀ t, t < k → R.cmp (L.getD t R.zero) (L.getD (t + 1) R.zero) ≤ 0) ∧ Hid (Below w.heap.size w wr)) (fun i _ => len + 1 - (intOf i).toNat)
 case atStart => exact ⟨0, rfl, .inl rfl, fun t ht => absurd ht (Nat.not_lt_zero _), Below.refl _ _⟩
 case round =>
  obtain ⟨k, rfl, hk, hasc, hb⟩ := hrel
  have hk' : k ≤ 1000000000000 := by omega
  by_cases hlt : k + 1 < len
  ·obtain ⟨b, o, rfl, hbl, hat, hat'⟩ := (HI.out.keep hb.out).at2 (t := k) (u := k + 1) (by omega) hlt
   obtain ⟨p, hp⟩ : ∃ p, p = L.getD k R.zero := ⟨_, rfl⟩
   obtain ⟨q, hq⟩ : ∃ q, q = L.getD (k + 1) R.zero := ⟨_, rfl⟩
   rw [← hp] at hat
   rw [← hq] at hat'
   obtain ⟨c0, c1, c2⟩ := hat
   obtain ⟨d0, d1, d2⟩ := hat'
   have HP := Lib.hid hp
   have HQ := Lib.hid hq
   clear hp hq
   have hwr : IntKind.i64.wrap (k : Int) = k := by simp [IntKind.wrap, IntKind.bits, IntKind.signed]; omega
   have hkl : (k : Int) < len := by omega
   have hkl2 : (k : Int) + 1 < len := by omega
   have hkn : ((k : Int) + 1).toNat = k + 1 := by omega
   have hkp : 0 ≤ (k : Int) + 1 := by omega
   go_wp2_with fail
   go_still_tail 9, (by kernel_rfl)
   go_wp2_with fail
   refine (scmp p q _).mono ?_
   rintro e w1 ⟨rfl, b1⟩
   obtain ⟨x, hx⟩ : ∃ x, x = R.cmp p q := ⟨_, rfl⟩
   rw [← hx]
   have B1 := Lib.hid ((hb.out.drew).trans (b1.mono hb.out.size))
   have HX := Lib.hid hx
   clear hx b1
   by_cases hgt : 0 < x
   ·have hbad : R.asc L = false := R.asc_bad k (by rw [HL.out]; exact hlt) (by rw [← HP.out, ← HQ.out, ← HX.out]; exact hgt)
    have HB := Lib.hid hbad
    clear hbad
    go_wp2_with fail
    go_ret
    exact ⟨by rw [HB.out]; rfl, B1.out⟩
   ·go_wp2_with fail
    go_roundw
    case rel =>
     refine ⟨k + 1, by go_num, .inr hlt, fun t ht => ?_, B1.out⟩
     rcases Nat.lt_or_ge t k with h | h
     ·exact hasc.out t h
     ·obtain rfl : t = k := by omega
      rw [← HP.out, ← HQ.out, ← HX.out]; omega
    case measure => simp [intOf]; omega
  ·have hall : R.asc L = true := R.asc_iff.2 fun t ht => hasc.out t (by rw [HL.out] at ht; omega)
   have HA := Lib.hid hall
   clear hall
   go_wp2_with fail
   go_ret
   exact ⟨by rw [HA.out]; rfl, hb.out⟩
set_option maxRecDepth 100000 in
theorem lasc (a : Option Addr) (len cap : Nat) (L : List R) (w : World) (h : IsRows w a len L) (hlen : len ≤ 1000000000000) :
  Calls Try.prog 108 #[.slice a len cap, .func (.func 109) #[] #[]] w fun e w' => e = .returned (.bool (R.asc L)) ∧ Below w.heap.size w w' := by
 have HL := Lib.hid h.1
 have HI := Lib.hid h
 clear h
 go_enter Try.func108, Try.ntmps108
 go_wp2_with fail
 go_loopw [5] (fun i wr => ∃ k : Nat, i = .int .i64 ((k : Int) - 1) ∧ k ≤ len ∧ Hid (∀ t, k ≤ t + 1 → t + 1 < len → R.cmp (L.getD t R.zero) (L.getD (t + 1) R.zero) ≤ 0) ∧ Hid (Below w.heap.size w wr)) (fun i _ => (intOf i + 1).toNat)
 case atStart => exact ⟨len, by go_num, Nat.le_refl _, fun t h1 h2 => by omega, Below.refl _ _⟩
 case round =>
  obtain ⟨k, rfl, hk, hasc, hb⟩ := hrel
  by_cases hlt : 1 < k
  ·obtain ⟨m, rfl⟩ : ∃ m, k = m + 2 := ⟨k - 2, by omega⟩
   have e1 : ((m + 2 : Nat) : Int) - 1 = (m : Int) + 1 := by omega
   rw [e1]
   clear e1
   obtain ⟨b, o, rfl, hbl, hat, hat'⟩ := (HI.out.keep hb.out).at2 (t := m) (u := m + 1) (by omega) (by omega)
   obtain ⟨p, hp⟩ : ∃ p, p = L.getD m R.zero := ⟨_, rfl⟩
   obtain ⟨q, hq⟩ : ∃ q, q = L.getD (m + 1) R.zero := ⟨_, rfl⟩
   rw [← hp] at hat
   rw [← hq] at hat'
   obtain ⟨c0, c1, c2⟩ := hat
   obtain ⟨d0, d1, d2⟩ := hat'
   have HP := Lib.hid hp
   have HQ := Lib.hid hq
   clear hp hq
   have HC := Lib.hid (fun W => icmp q p W)
   unfold R.val at HC
   have hwr : IntKind.i64.wrap (m : Int) = m := by simp [IntKind.wrap, IntKind.bits, IntKind.signed]; omega
   have hkl : (m : Int) < len := by omega
   have hkl2 : (m : Int) + 1 < len := by omega
   have hkn : ((m : Int) + 1).toNat = m + 1 := by omega
   have hkp : 0 ≤ (m : Int) + 1 := by omega
   go_wp2_with fail
   go_still_tail 10, (by kernel_rfl)
   go_wp2_with fail
   refine (HC.out _).mono ?_
   rintro e w1 ⟨rfl, b1⟩
   obtain ⟨x, hx⟩ : ∃ x, x = R.cmp q p := ⟨_, rfl⟩
   rw [← hx]
   have B1 := Lib.hid ((hb.out.drew).trans (b1.mono hb.out.size))
   have HX := Lib.hid (hx.trans (R.cmp_anti p q))
   clear hx b1
   by_cases hgt : x < 0
   ·have hbad : R.asc L = false := R.asc_bad m (by rw [HL.out]; omega) (by have := HX.out; rw [← HP.out, ← HQ.out]; omega)
    have HB := Lib.hid hbad
    clear hbad
    go_wp2_with fail
    go_ret
    exact ⟨by rw [HB.out]; rfl, B1.out⟩
   ·go_wp2_with fail
    go_roundw
    case rel =>
     refine ⟨m + 1, by go_num, by omega, fun t h1 h2 => ?_, B1.out⟩
     rcases Nat.lt_or_ge t (m + 1) with h | h
     ·obtain rfl : t = m := by omega
      have := HX.out
      rw [← HP.out, ← HQ.out]; omega
     ·exact hasc.out t (by omega) h2
    case measure => simp [intOf]; omega
  ·have hall : R.asc L = true := R.asc_iff.2 fun t ht => hasc.out t (by omega) (by rw [HL.out] at ht; exact ht)
   have HA := Lib.hid hall
   clear hall
   go_wp2_with fail
   go_ret
   exact ⟨by rw [HA.out]; rfl, hb.out⟩
theorem iasc (a : Option Addr) (len cap : Nat) (L : List R) (w : World) (h : IsRows w a len L) (hlen : len ≤ 1000000000000) :
  Calls Try.prog 55 #[.slice a len cap] w fun e w' => e = .returned (.bool (R.asc L)) ∧ Below w.heap.size w w' := by
 have HC := Lib.hid (lasc a len cap L w h hlen)
 clear h
 go_enter Try.func55, Try.ntmps55
 go_wp2_with fail
 refine HC.out.mono ?_
 rintro e w1 ⟨rfl, b1⟩
 have B1 := Lib.hid b1
 clear b1
 go_wp2_with fail
 go_ret
 exact ⟨rfl, B1.out⟩
end Go.Proofs.Ytpnbnbhifpcelaa
/- A region that draws its order, walked once in the order of its text, for a class of worlds of the prover's own: every operation yields one value in each world of the class and leaves a world of the class (the library's 'wp_region_quiet', met step by step); no function of the program. -/
namespace Go.Proofs.Ytpnbnbhifpcelaa
open Go Go.RowKit
theorem region_class {P : Program} {id : Nat} {Q : Exit → Act → World → Prop} {a : Act} {w : World} {l : List Oper} (C : World → Prop) (hm : P.follows .mixedOrders = true) (hB : Region.lexB .any l.toArray = true) (hC : C w.drew)
  (h : wpQuiet P l.toArray C (fun a' => ∀ w', C w' → Q .normal a' w') l a) : (Code.region id l.toArray true).wp P Q a w :=
 wp_region_quiet (C := C) hm hB hC (by simpa using h)
end Go.Proofs.Ytpnbnbhifpcelaa
/- The reference's SortRows (insertion), by contract. -/
namespace Go.Proofs.Ytpnbnbhifpcelaa
open Go.RowKit
set_option maxRecDepth 100000 in
set_option maxHeartbeats 1000000 in
theorem ssort (a : Option Addr) (len cap : Nat) (L : List R) (w : World) (h : IsRows w a len L) (hlen : len ≤ 1000000000) :
  Calls Try.prog 102 #[.slice a len cap] w fun e w' => ∃ g c, e = .returned (.slice (some ⟨g, 0, none⟩) len c) ∧ Mine w' w.heap.size (.slice (some ⟨g, 0, none⟩) len c) (R.sort L) ∧ Below w.heap.size w w' := by
 have HL := Lib.hid h.1
 have HI := Lib.hid h
 have HZ := Lib.hid (mine_zero w w.heap.size (Nat.le_refl _))
 have hb0 : Below w.heap.size w (w.alloc (.cells #[] 72)) := (Below.refl _ _).alloc (Nat.le_refl _) _
 have HB0 := Lib.hid hb0
 clear h hb0
 go_enter Try.func102, Try.ntmps102
 go_wp2_with fail
 go_loopw [3, 4] (fun v x wr => ∃ i g c : Nat, v = .slice (some ⟨g, 0, none⟩) i c ∧ x = .int .i64 i ∧ i ≤ len ∧ Hid (Mine wr w.heap.size (.slice (some ⟨g, 0, none⟩) i c) (R.sort (L.take i))) ∧ Hid (Below w.heap.size w wr)) (fun _ x _ => len - (intOf x).toNat)
 case atStart => exact ⟨0, _, _, rfl, rfl, Nat.zero_le _, by rw [List.take_zero, R.sort_nil]; exact HZ.out, HB0.out⟩
 case round =>
  obtain ⟨i, g, c, rfl, rfl, hi, hm, hb⟩ := hrel
  obtain ⟨w1, hw1⟩ : ∃ w1, w1 = wr := ⟨_, rfl⟩
  subst hw1
  by_cases hlt : i < len
  ·obtain ⟨b, o, rfl, hbl, hat⟩ := HI.out.at hlt
   obtain ⟨r, hr⟩ : ∃ r, r = L.getD i R.zero := ⟨_, rfl⟩
   rw [← hr] at hat
   have hat := hat.below hb.out hbl
   obtain ⟨S, hS⟩ : ∃ S, S = R.sort (L.take i) := ⟨_, rfl⟩
   rw [← hS] at hm
   have HAT := Lib.hid hat
   have HR := Lib.hid hr
   have HS := Lib.hid hS
   have HBL := Lib.hid (Nat.lt_of_lt_of_le hbl hb.out.size)
   clear hat hr hS hbl
   go_wp2_with fail
   go_loopw [5] (fun x wx => ∃ k : Nat, x = .int .i64 k ∧ k ≤ i ∧ Hid (∀ t, k ≤ t → t < i → 0 < R.cmp (S.getD t R.zero) r) ∧ Hid (Below w1.heap.size w1 wx)) (fun x _ => (intOf x).toNat)
   case atStart => exact ⟨i, rfl, Nat.le_refl _, fun t h1 h2 => by omega, Below.refl _ _⟩
   case round =>
    obtain ⟨k, rfl, hk, hup, hbx⟩ := hrel
    have hgl : g < w1.heap.size := hm.out.lt
    rcases Nat.eq_zero_or_pos k with h0 | h0
    ·subst h0
     have hlow : 0 = 0 ∨ R.cmp (S.getD (0 - 1) R.zero) r ≤ 0 := .inl rfl
     have HLOW := Lib.hid hlow
     clear hlow
     go_wp2_with fail
     refine region_class (Below w1.heap.size w1) (by kernel_rfl) (by kernel_rfl) hbx.out.drew ?_
     repeat (first | go_big_quiet_skip | (go_big_quiet_want; go_big_quiet_op; first | go_big_quiet_on | (apply Exists.intro; refine ⟨fun v hv => ?_, ?_⟩; (focus (first | exact rfl | ((fail); done) | ((skip); go_simp; done) | ((skip); go_simp; exact rfl) | ((skip); go_simp; exact ⟨rfl, rfl⟩))); go_big_quiet_on)))
     refine wpQuiet_nil ?_
     intro v hv
     go_wp2_with fail
     have hwv : w.heap.size ≤ v.heap.size := Nat.le_trans hb.out.size hv.size
     have hbo : ∀ o : Obj, Below v.heap.size v (v.alloc o) := fun o => (Below.refl _ _).alloc (Nat.le_refl _) o
     have MO := Lib.hid fun (o : Obj) => (hm.out.keep hv).keep (hbo o)
     obtain ⟨d0, d1, d2⟩ := HAT.out.below hv HBL.out
     have HO := Lib.hid (mine_one v w.heap.size hwv r)
     have hw2 : w.heap.size ≤ (v.alloc (.cells #[.int .i64 r.key, .int .i64 r.value, .int .i64 r.width] 72)).heap.size := by simp; omega
     have HAL : Hid (S.length = i) := Lib.hid hm.out.len
     have HAC := Lib.hid fun (o : Obj) => (MO.out o).cells
     have hkc : 0 ≤ c := Nat.le_trans (Nat.zero_le i) hm.out.cap
     have hln : [r].length + i ≤ 1000000000000 := by simp; omega
     have HBO := Lib.hid hbo
     have HV := Lib.hid hv
     clear hv hbo
     go_region_law (refine step_appendR (w := (v.alloc (.cells #[.int .i64 r.key, .int .i64 r.value, .int .i64 r.width] 72)).drew) (L := S) (M := [r]) _ _ ⟨g, 0, none⟩ i c rfl rfl rfl rfl HO.out HAL.out (HAC.out _) hw2 hln ?_; intro v6 w6 hm6 hg6 hn6)
     have hn6' : v6 ≠ .slice none 0 0 := fun e => by first | exact hn6 e | (have h9 : Value.slice (some ⟨v.heap.size, 0, none⟩) 1 1 = .slice none 0 0 := (hn6.1 e).1; simp at h9)
     have hm6' : Mine w6 w.heap.size v6 (r :: S) := hm6
     clear hm6
     have hm6 := hm6'
     obtain ⟨g6, c6, rfl, -, hl6⟩ := hm6.addr hn6'
     have hsl : (([] : List R)).length = 0 := by have := hm.out.len; simp
     have e6 : (r :: S).length = 1 + i := by rw [List.length_cons, HAL.out]; omega
     rw [e6] at hm6 ⊢
     have hgv : g < v.heap.size := Nat.lt_of_lt_of_le hgl HV.out.size
     have M6 := Lib.hid hm6
     have G6 : Hid (Mine w6 w.heap.size (.slice (some ⟨g, 0, none⟩) i c) S) := Lib.hid (((MO.out _).drew).grown hg6 fun z hz e => by
      have hz' : some g = some z := hz
      have e' : some v.heap.size = some z := e
      simp only [Option.some.injEq] at hz' e'
      omega)
     have b6 : Below w.heap.size w w6 := (((hb.out.trans (HV.out.mono hb.out.size)).alloc hwv (.cells #[.int .i64 r.key, .int .i64 r.value, .int .i64 r.width] 72)).drew).grown hg6 hw2 (fun z hz => by have hz' : some v.heap.size = some z := hz; simp only [Option.some.injEq] at hz'; omega)
     have hw6 : w.heap.size ≤ w6.heap.size := b6.size
     have B6 := Lib.hid b6
     have HZ7 := Lib.hid (mine_zero w6 w.heap.size hw6)
     have C7 : Hid (Mine (w6.alloc (.cells #[] 72)) w.heap.size (.slice (some ⟨g, 0, none⟩) 0 c) (([] : List R))) := Lib.hid ((G6.out.keep ((Below.refl _ _).alloc (Nat.le_refl _) (.cells #[] 72))).take (Nat.zero_le i))
     have M7 := Lib.hid (M6.out.keep ((Below.refl _ _).alloc (Nat.le_refl _) (.cells #[] 72)))
     have hw7 : w.heap.size ≤ (w6.alloc (.cells #[] 72)).heap.size := by simp; omega
     have HSL := Lib.hid hsl
     clear hm6 hg6 hn6 b6 e6 hsl
     go_wp2_with (at_builtin; refine wpList_appendR (L := ([] : List R)) (M := []) _ _ ⟨g, 0, none⟩ 0 c rfl rfl rfl rfl HZ7.out HSL.out C7.out.cells hw7 ?qc4 ?_)
     case qc4 => simp <;> omega
     intro v8 w8 hm8 hg8 hn8
     have hn8' : v8 ≠ .slice none 0 0 := fun e => by first | exact hn8 e | (have h9 : Value.slice (some ⟨w6.heap.size, 0, none⟩) 0 0 = .slice none 0 0 := (hn8.1 e).1; simp at h9)
     have hm8' : Mine w8 w.heap.size v8 (([] : List R)) := hm8
     clear hm8
     have hm8 := hm8'
     obtain ⟨g8, c8, rfl, -, hl8⟩ := hm8.addr hn8'
     have e8 : (([] : List R)).length = 0 := HSL.out
     rw [e8] at hm8 ⊢
     have M8 := Lib.hid hm8
     have N8 : Hid (Mine w8 w.heap.size (.slice (some ⟨g6, 0, none⟩) (1 + i) c6) (r :: S)) := Lib.hid (M7.out.grown hg8 fun z hz e => by
      have hz' : some g6 = some z := hz
      have e' : some w6.heap.size = some z := e
      simp only [Option.some.injEq] at hz' e'
      omega)
     have b8 : Below w.heap.size w w8 := ((B6.out.alloc hw6 (.cells #[] 72))).grown hg8 hw7 (fun z hz => by have hz' : some w6.heap.size = some z := hz; simp only [Option.some.injEq] at hz'; omega)
     have B8 := Lib.hid b8
     have hw8 : w.heap.size ≤ w8.heap.size := b8.size
     clear hm8 hg8 hn8 b8 e8
     go_wp2_with (at_builtin; refine wpList_appendR (L := r :: S) (M := ([] : List R)) _ _ ⟨g6, 0, none⟩ (1 + i) c6 rfl rfl rfl rfl M8.out N8.out.len N8.out.cells hw8 ?qc5 ?_)
     case qc5 => rw [HSL.out]; omega
     intro v9 w9 hm9 hg9 hn9
     have hn9' : v9 ≠ .slice none 0 0 := fun e => by first | exact hn9 e | (have h9 := (hn9.1 e).1; simp at h9)
     have hm9' : Mine w9 w.heap.size v9 (([] : List R) ++ (r :: S)) := hm9
     clear hm9
     have hm9 := hm9'
     obtain ⟨g9, c9, rfl, -, hl9⟩ := hm9.addr hn9'
     have e9 : (([] : List R) ++ (r :: S)).length = i + 1 := by rw [List.length_append, List.length_cons, HAL.out, HSL.out]; omega
     rw [e9] at hm9 ⊢
     have hfin : ([] : List R) ++ r :: S = R.sort (L.take (i + 1)) := by
      have := R.sort_insert (L := L) (i := i) (k := 0) (by rw [HL.out]; exact hlt) (Nat.zero_le i) (by rw [← HS.out, ← HR.out]; exact .inl rfl) (fun t h1 h2 => by rw [← HS.out, ← HR.out]; exact hup.out t h1 h2)
      rw [← HS.out, ← HR.out] at this
      exact this
     rw [hfin] at hm9
     have M9 := Lib.hid hm9
     have B9 := Lib.hid (B8.out.grown hg9 hw8 M8.out.own')
     clear hm9 hg9 hn9 e9 hfin
     go_wp2_with fail
     go_roundw
     case rel => exact ⟨i + 1, g9, c9, rfl, by go_num, by omega, M9.out, B9.out⟩
     case measure => simp [intOf]; omega
    ·obtain ⟨g', eg, -, -, hq, -, -⟩ := hm.out.at (k := k - 1) (by omega)
     injection eg with eg
     injection eg with eg
     subst eg
     obtain ⟨q, hqe⟩ : ∃ q, q = S.getD (k - 1) R.zero := ⟨_, rfl⟩
     rw [← hqe] at hq
     obtain ⟨x, hx⟩ : ∃ x, x = R.cmp q r := ⟨_, rfl⟩
     have HC := Lib.hid fun v (hv : Below w1.heap.size w1 v) => (scmp q r v).mono fun e v' (h : e = .returned (.int .i64 (R.cmp q r)) ∧ Below v.heap.size v v') => (⟨h.1, hv.trans (h.2.mono hv.size)⟩ : _ ∧ Below w1.heap.size w1 v')
     rw [← hx] at HC
     unfold R.val at HC
     have HX := Lib.hid hx
     have HQ := Lib.hid hq
     have HQE := Lib.hid hqe
     have hbl1 : b < w1.heap.size := HBL.out
     have hwr : IntKind.i64.wrap ((k : Int) - 1) = (k : Int) - 1 := by simp [IntKind.wrap, IntKind.bits, IntKind.signed]; omega
     have hmi : (k : Int) - 1 < i := by omega
     have hmp : 0 ≤ (k : Int) - 1 := by omega
     have hmn : ((k : Int) - 1).toNat = k - 1 := by omega
     have hp1 : 0 < (k : Int) := by omega
     clear hx hq hqe
     go_wp2_with fail
     refine region_class (Below w1.heap.size w1) (by kernel_rfl) (by kernel_rfl) hbx.out.drew ?_
     repeat (first | go_big_quiet_skip | (go_big_quiet_want; go_big_quiet_op; first | go_big_quiet_on | (apply Exists.intro; refine ⟨fun v hv => ?_, ?_⟩; (focus (first | exact rfl | ((go_at_call 73; exact HC.out v hv); done) | ((obtain ⟨c0, c1, c2⟩ := RowAt.below HQ.out hv hgl; obtain ⟨d0, d1, d2⟩ := RowAt.below HAT.out hv hbl1); go_simp; done) | ((obtain ⟨c0, c1, c2⟩ := RowAt.below HQ.out hv hgl; obtain ⟨d0, d1, d2⟩ := RowAt.below HAT.out hv hbl1); go_simp; exact rfl) | ((obtain ⟨c0, c1, c2⟩ := RowAt.below HQ.out hv hgl; obtain ⟨d0, d1, d2⟩ := RowAt.below HAT.out hv hbl1); go_simp; exact ⟨rfl, rfl⟩))); go_big_quiet_on)))
     refine wpQuiet_nil ?_
     intro v hv
     by_cases hgt : 0 < x
     ·go_wp2_with fail
      go_roundw
      case rel =>
       refine ⟨k - 1, by go_num, by omega, fun t h1 h2 => ?_, hv⟩
       rcases Nat.lt_or_ge t k with h | h
       ·obtain rfl : t = k - 1 := by omega
        rw [← HQE.out, ← HX.out]; exact hgt
       ·exact hup.out t h h2
      case measure => simp [intOf]; omega
     ·have hlow : k = 0 ∨ R.cmp (S.getD (k - 1) R.zero) r ≤ 0 := .inr (by rw [← HQE.out, ← HX.out]; omega)
      have HLOW := Lib.hid hlow
      clear hlow h0 hbl1 hwr hmi hmp hmn hp1
      go_wp2_with fail
      have hwv : w.heap.size ≤ v.heap.size := Nat.le_trans hb.out.size hv.size
      have hbo : ∀ o : Obj, Below v.heap.size v (v.alloc o) := fun o => (Below.refl _ _).alloc (Nat.le_refl _) o
      have MO := Lib.hid fun (o : Obj) => (hm.out.keep hv).keep (hbo o)
      obtain ⟨d0, d1, d2⟩ := HAT.out.below hv HBL.out
      have HO := Lib.hid (mine_one v w.heap.size hwv r)
      have hw2 : w.heap.size ≤ (v.alloc (.cells #[.int .i64 r.key, .int .i64 r.value, .int .i64 r.width] 72)).heap.size := by simp; omega
      obtain ⟨A, hA, hAl, hAc⟩ : ∃ A : Addr, (if c = k then some (⟨g, 0, none⟩ : Addr) else some ⟨g, k * 3, none⟩) = some A ∧ (S.drop k).length = i - k ∧ ∀ (o : Obj) j u, (cells3 (S.drop k))[j]? = some u → (v.alloc o).cell? (A.add j) = some u := by
       obtain ⟨A, hA, hAl, hAc⟩ := (hm.out.keep hv).from hk
       exact ⟨A, hA, hAl, fun o j u hj => Lib.cell?_alloc_some _ (hAc j u hj)⟩
      have HAL := Lib.hid hAl
      have HAC := Lib.hid hAc
      have HAE := Lib.hid hA
      clear hAl hAc
      have hkc : k ≤ c := Nat.le_trans hk hm.out.cap
      have hln : [r].length + (i - k) ≤ 1000000000000 := by simp; omega
      have HBO := Lib.hid hbo
      have HV := Lib.hid hv
      clear hv hbo
      go_region_law (refine step_appendR (w := (v.alloc (.cells #[.int .i64 r.key, .int .i64 r.value, .int .i64 r.width] 72)).drew) (L := S.drop k) (M := [r]) _ _ A (i - k) (c - k) rfl rfl rfl rfl HO.out HAL.out (HAC.out _) hw2 hln ?_; intro v6 w6 hm6 hg6 hn6)
      have hn6' : v6 ≠ .slice none 0 0 := fun e => by first | exact hn6 e | (have h9 : Value.slice (some ⟨v.heap.size, 0, none⟩) 1 1 = .slice none 0 0 := (hn6.1 e).1; simp at h9)
      have hm6' : Mine w6 w.heap.size v6 (r :: S.drop k) := hm6
      clear hm6
      have hm6 := hm6'
      obtain ⟨g6, c6, rfl, -, hl6⟩ := hm6.addr hn6'
      have hsl : (S.take k).length = k := by have := hm.out.len; rw [List.length_take]; omega
      have e6 : (r :: S.drop k).length = 1 + (i - k) := by rw [List.length_cons, HAL.out]; omega
      rw [e6] at hm6 ⊢
      have hgv : g < v.heap.size := Nat.lt_of_lt_of_le hgl HV.out.size
      have M6 := Lib.hid hm6
      have G6 : Hid (Mine w6 w.heap.size (.slice (some ⟨g, 0, none⟩) i c) S) := Lib.hid (((MO.out _).drew).grown hg6 fun z hz e => by
       have hz' : some g = some z := hz
       have e' : some v.heap.size = some z := e
       simp only [Option.some.injEq] at hz' e'
       omega)
      have b6 : Below w.heap.size w w6 := (((hb.out.trans (HV.out.mono hb.out.size)).alloc hwv (.cells #[.int .i64 r.key, .int .i64 r.value, .int .i64 r.width] 72)).drew).grown hg6 hw2 (fun z hz => by have hz' : some v.heap.size = some z := hz; simp only [Option.some.injEq] at hz'; omega)
      have hw6 : w.heap.size ≤ w6.heap.size := b6.size
      have B6 := Lib.hid b6
      have HZ7 := Lib.hid (mine_zero w6 w.heap.size hw6)
      have C7 : Hid (Mine (w6.alloc (.cells #[] 72)) w.heap.size (.slice (some ⟨g, 0, none⟩) k c) (S.take k)) := Lib.hid ((G6.out.keep ((Below.refl _ _).alloc (Nat.le_refl _) (.cells #[] 72))).take hk)
      have M7 := Lib.hid (M6.out.keep ((Below.refl _ _).alloc (Nat.le_refl _) (.cells #[] 72)))
      have hw7 : w.heap.size ≤ (w6.alloc (.cells #[] 72)).heap.size := by simp; omega
      have HSL := Lib.hid hsl
      clear hm6 hg6 hn6 b6 e6 hsl
      go_wp2_with (at_builtin; refine wpList_appendR (L := S.take k) (M := []) _ _ ⟨g, 0, none⟩ k c rfl rfl rfl rfl HZ7.out HSL.out C7.out.cells hw7 ?qc4 ?_)
      case qc4 => simp <;> omega
      intro v8 w8 hm8 hg8 hn8
      have hn8' : v8 ≠ .slice none 0 0 := fun e => by first | exact hn8 e | (have h9 : Value.slice (some ⟨w6.heap.size, 0, none⟩) 0 0 = .slice none 0 0 := (hn8.1 e).1; simp at h9)
      have hm8' : Mine w8 w.heap.size v8 (S.take k) := hm8
      clear hm8
      have hm8 := hm8'
      obtain ⟨g8, c8, rfl, -, hl8⟩ := hm8.addr hn8'
      have e8 : (S.take k).length = k := HSL.out
      rw [e8] at hm8 ⊢
      have M8 := Lib.hid hm8
      have N8 : Hid (Mine w8 w.heap.size (.slice (some ⟨g6, 0, none⟩) (1 + (i - k)) c6) (r :: S.drop k)) := Lib.hid (M7.out.grown hg8 fun z hz e => by
       have hz' : some g6 = some z := hz
       have e' : some w6.heap.size = some z := e
       simp only [Option.some.injEq] at hz' e'
       omega)
      have b8 : Below w.heap.size w w8 := ((B6.out.alloc hw6 (.cells #[] 72))).grown hg8 hw7 (fun z hz => by have hz' : some w6.heap.size = some z := hz; simp only [Option.some.injEq] at hz'; omega)
      have B8 := Lib.hid b8
      have hw8 : w.heap.size ≤ w8.heap.size := b8.size
      clear hm8 hg8 hn8 b8 e8
      go_wp2_with (at_builtin; refine wpList_appendR (L := r :: S.drop k) (M := S.take k) _ _ ⟨g6, 0, none⟩ (1 + (i - k)) c6 rfl rfl rfl rfl M8.out N8.out.len N8.out.cells hw8 ?qc5 ?_)
      case qc5 => rw [HSL.out]; omega
      intro v9 w9 hm9 hg9 hn9
      have hn9' : v9 ≠ .slice none 0 0 := fun e => by first | exact hn9 e | (have h9 := (hn9.1 e).1; simp at h9)
      have hm9' : Mine w9 w.heap.size v9 (S.take k ++ (r :: S.drop k)) := hm9
      clear hm9
      have hm9 := hm9'
      obtain ⟨g9, c9, rfl, -, hl9⟩ := hm9.addr hn9'
      have e9 : (S.take k ++ (r :: S.drop k)).length = i + 1 := by rw [List.length_append, List.length_cons, HAL.out, HSL.out]; omega
      rw [e9] at hm9 ⊢
      have hfin : S.take k ++ r :: S.drop k = R.sort (L.take (i + 1)) := by
       have := R.sort_insert (L := L) (i := i) (k := k) (by rw [HL.out]; exact hlt) hk (by rw [← HS.out, ← HR.out]; exact HLOW.out) (fun t h1 h2 => by rw [← HS.out, ← HR.out]; exact hup.out t h1 h2)
       rw [← HS.out, ← HR.out] at this
       exact this
      rw [hfin] at hm9
      have M9 := Lib.hid hm9
      have B9 := Lib.hid (B8.out.grown hg9 hw8 M8.out.own')
      clear hm9 hg9 hn9 e9 hfin
      go_wp2_with fail
      go_roundw
      case rel => exact ⟨i + 1, g9, c9, rfl, by go_num, by omega, M9.out, B9.out⟩
      case measure => simp [intOf]; omega
  ·have hil : i = len := by omega
   have hfin : Mine w1 w.heap.size (.slice (some ⟨g, 0, none⟩) len c) (R.sort L) := by
    have := hm.out
    rw [hil, ← HL.out, List.take_length, HL.out] at this
    exact this
   have HF := Lib.hid hfin
   subst hil
   clear hfin
   go_wp2_with fail
   go_ret
   exact ⟨g, c, rfl, HF.out, hb.out⟩
end Go.Proofs.Ytpnbnbhifpcelaa
/- The reference's EqualBags, by contract. -/
namespace Go.Proofs.Ytpnbnbhifpcelaa
open Go.RowKit
set_option maxRecDepth 100000 in
theorem seqbags (a a' : Option Addr) (len cap len' cap' : Nat) (L M : List R) (w : World) (h : IsRows w a len L) (h' : IsRows w a' len' M) (hlen : len ≤ 1000000000) (hlen' : len' ≤ 1000000000) :
  Calls Try.prog 53 #[.slice a len cap, .slice a' len' cap'] w fun e w' => e = .returned (.bool (R.eqBags L M)) ∧ Below w.heap.size w w' := by
 have HL := Lib.hid h.1
 have HL' := Lib.hid h'.1
 have HW := Lib.hid h.2.1
 have HW' := Lib.hid h'.2.1
 have HI := Lib.hid h
 have HI' := Lib.hid h'
 clear h h'
 go_enter Try.func53, Try.ntmps53
 go_wp2_with fail
 refine (ssort a len cap L _ HI.out hlen).mono ?_
 rintro e w1 ⟨g1, c1, rfl, m1, b1⟩
 have M1 := Lib.hid m1
 have B1 := Lib.hid b1
 have I1 := Lib.hid (HI'.out.keep b1)
 clear m1 b1
 go_wp2_with fail
 refine (ssort a' len' cap' M _ I1.out hlen').mono ?_
 rintro e w2 ⟨g2, c2, rfl, m2, b2⟩
 have X := Lib.hid ((M1.out.keep b2).rows (R.sort_wf HW.out))
 have Y := Lib.hid (m2.rows (R.sort_wf HW'.out))
 have B2 := Lib.hid (B1.out.trans (b2.mono B1.out.size))
 clear m2 b2
 by_cases hne : len = len'
 ·subst hne
  go_wp2_with fail
  go_loopw [7] (fun x wr => ∃ k : Nat, x = .int .i64 k ∧ k ≤ len ∧ Hid (∀ t, t < k → (R.sort L).getD t R.zero = (R.sort M).getD t R.zero) ∧ Hid (Below w2.heap.size w2 wr)) (fun x _ => len - (intOf x).toNat)
  case atStart => exact ⟨0, rfl, Nat.zero_le _, fun t h => by omega, Below.refl _ _⟩
  case round =>
   obtain ⟨k, rfl, hk, hsame, hb⟩ := hrel
   by_cases hlt : k < len
   ·obtain ⟨b, o, e1, hbl, hat⟩ := (X.out.keep hb.out).at hlt
    injection e1 with e1
    injection e1 with e1 e2
    subst e1
    subst e2
    obtain ⟨b', o', e1, hbl', hat'⟩ := (Y.out.keep hb.out).at hlt
    injection e1 with e1
    injection e1 with e1 e2
    subst e1
    subst e2
    obtain ⟨p, hp⟩ : ∃ p, p = (R.sort L).getD k R.zero := ⟨_, rfl⟩
    obtain ⟨q, hq⟩ : ∃ q, q = (R.sort M).getD k R.zero := ⟨_, rfl⟩
    rw [← hp] at hat
    rw [← hq] at hat'
    simp only [Nat.zero_add] at hat hat'
    obtain ⟨c0, c1, c2⟩ := hat
    obtain ⟨d0, d1, d2⟩ := hat'
    have HP := Lib.hid hp
    have HQ := Lib.hid hq
    have hn := row_neq p q
    clear hp hq
    by_cases he : p = q
    ·have HE := Lib.hid he
     rw [decide_eq_true he] at hn
     clear he
     go_wp2_with fail
     go_still_tail 8, (by kernel_rfl)
     go_wp2_with fail
     go_roundw
     case rel =>
      refine ⟨k + 1, by go_num, by omega, fun t h => ?_, hb.out.drew⟩
      rcases Nat.lt_or_ge t k with h1 | h1
      ·exact hsame.out t h1
      ·obtain rfl : t = k := by omega
       rw [← HP.out, ← HQ.out, HE.out]
     case measure => simp [intOf]; omega
    ·have hbad : R.eqBags L M = false := by
      unfold R.eqBags
      exact decide_eq_false fun e => he (by rw [HP.out, HQ.out, e])
     have HB := Lib.hid hbad
     rw [decide_eq_false he] at hn
     clear he hbad
     go_wp2_with fail
     go_still_tail 8, (by kernel_rfl)
     go_wp2_with fail
     go_ret
     exact ⟨by rw [HB.out]; rfl, B2.out.trans (hb.out.drew.mono B2.out.size)⟩
   ·have hkl : k = len := by omega
    have hall : R.eqBags L M = true := by
     unfold R.eqBags
     have hl1 : (R.sort L).length = len := by rw [R.sort_length, HL.out]
     have hl2 : (R.sort M).length = len := by rw [R.sort_length, HL'.out]
     exact decide_eq_true (getD_ext (by rw [hl1, hl2]) fun t ht => hsame.out t (by omega))
    have HA := Lib.hid hall
    clear hall hkl
    go_wp2_with fail
    go_ret
    exact ⟨by rw [HA.out]; rfl, B2.out.trans (hb.out.mono B2.out.size)⟩
 ·have hbad : R.eqBags L M = false := by
   unfold R.eqBags
   refine decide_eq_false fun e => hne ?_
   have := congrArg List.length e
   rw [R.sort_length, R.sort_length, HL.out, HL'.out] at this
   exact this
  have HB := Lib.hid hbad
  clear hbad
  go_wp2_with fail
  go_ret
  exact ⟨by rw [HB.out]; rfl, B2.out⟩
end Go.Proofs.Ytpnbnbhifpcelaa
/- Small lemmas about rows of bytes that a call made itself: what is appended, what string(b) reads; no function of the program is walked here. -/
namespace Go.Proofs.Ytpnbnbhifpcelaa
open Go.RowKit
def b8 (l : List UInt8) : List Value := l.map fun b => Value.int .u8 (b.toNat : Int)
end Go.Proofs.Ytpnbnbhifpcelaa
/- The reference's l1In, by contract; a string's ending. -/
namespace Go.Proofs.Ytpnbnbhifpcelaa
open Go.RowKit
end Go.Proofs.Ytpnbnbhifpcelaa
/- What '&', '|' and '<<' of the program's integers are on numbers that are not below zero; no function of the program. -/
namespace Go.Proofs.Ytpnbnbhifpcelaa
open Go.RowKit
end Go.Proofs.Ytpnbnbhifpcelaa
/- FormatInt of the reference: the decimal numeral of every integer. -/
namespace Go.Proofs.Ytpnbnbhifpcelaa
open Go.RowKit Num Dec
end Go.Proofs.Ytpnbnbhifpcelaa
/- The reference's FormatRow, by contract. -/
namespace Go.Proofs.Ytpnbnbhifpcelaa
open Go.RowKit Go.Lib
structure Boxed (w : World) (r : R) (v : World) : Prop where
 c0 : v.cell? ⟨w.heap.size, 0, none⟩ = some (.int .i64 r.key)
 c1 : v.cell? ⟨w.heap.size, 1, none⟩ = some (.int .i64 r.value)
 c2 : v.cell? ⟨w.heap.size, 2, none⟩ = some (.int .i64 r.width)
 old : Below w.heap.size w v
 big : w.heap.size < v.heap.size
theorem Boxed.drew {w v : World} {r : R} (h : Boxed w r v) : Boxed w r v.drew := ⟨h.c0, h.c1, h.c2, h.old.drew, h.big⟩
theorem Boxed.next {w v v' : World} {r : R} (h : Boxed w r v) (hb : Below v.heap.size v v') : Boxed w r v' :=
 ⟨(hb.cell h.big).trans h.c0, (hb.cell h.big).trans h.c1, (hb.cell h.big).trans h.c2, h.old.trans (hb.mono (Nat.le_of_lt h.big)), Nat.lt_of_lt_of_le h.big hb.size⟩
end Go.Proofs.Ytpnbnbhifpcelaa
/- The reference's FormatRows, by contract. -/
namespace Go.Proofs.Ytpnbnbhifpcelaa
open Go.RowKit Go.Lib
end Go.Proofs.Ytpnbnbhifpcelaa
/- Functions of rows, the reference's: told by trees. -/
namespace Go.Proofs.Ytpnbnbhifpcelaa
open Go Go.RowKit V
set_option linter.unusedVariables false
theorem oneM {vs : List Value} (h : vs.all (fun u => u.oneCell') = true) : ∀ u ∈ vs, u.oneCell' = true := fun u hu => List.all_eq_true.1 h u hu
theorem VC.rowsP {P : Program} {f : FuncId} {L : List R} {ag : Bool} {rs : List Value} (h1 : rs.all (fun u => u.oneCell') = true) (hL : ∀ r ∈ L, r.wf)
  (h : ∀ (w : World) (a : Option Addr) (c : Nat), IsRows w a L.length L → Calls P f #[.slice a L.length c] w fun e w' => e = .returned (cval ag rs) ∧ Below w.heap.size w w') : VC P f [(false, [.seq 72 (L.map tRow)])] false [(ag, rs.map T.lit)] := fun w vs hv => by
 obtain ⟨k, vs', rfl, h2, h3⟩ := hv.shape (Fits.slice 72 Fits.row) hL
 rw [h3.none]
 have e : k.2.1 = L.length := h2.1.1.symm
 have h4 := h w k.1 k.2.2 (e ▸ rows_in h2.1)
 rw [← e] at h4
 exact h4.mono fun e w' he => Gives.plain (oneM h1) he
theorem vares_t (L : List R) (hL : ∀ r ∈ L, r.wf) (hl : L.length ≤ 1000000000) : VC Try.prog 62 [(false, [.seq 72 (L.map tRow)])] false [(false, [.lit (.bool (okRows L))])] := VC.rowsP (ag := false) (rs := [.bool (okRows L)]) rfl hL fun w a c h => sare a _ c L w h (by omega)
theorem vtotal_t (L : List R) (hL : ∀ r ∈ L, r.wf) (hl : L.length ≤ 1000000000) : VC Try.prog 67 [(false, [.seq 72 (L.map tRow)])] false [(false, [.lit (.int .i64 (total L))])] := VC.rowsP (ag := false) (rs := [.int .i64 (total L)]) rfl hL fun w a c h => stotal a _ c L w h (by omega)
theorem vasc_t (L : List R) (hL : ∀ r ∈ L, r.wf) (hl : L.length ≤ 1000000000) : VC Try.prog 54 [(false, [.seq 72 (L.map tRow)])] false [(false, [.lit (.bool (R.asc L))])] := VC.rowsP (ag := false) (rs := [.bool (R.asc L)]) rfl hL fun w a c h => sasc a _ c L w h (by omega)
theorem vcmp_t (a b : R) : VC Try.prog 73 [(true, tRow a), (true, tRow b)] false [(false, [.lit (.int .i64 (R.cmp a b))])] :=
 VC.plain (ins := [(true, [.int .i64 a.key, .int .i64 a.value, .int .i64 a.width]), (true, [.int .i64 b.key, .int .i64 b.value, .int .i64 b.width])]) (ag := false) (rs := [.int .i64 (R.cmp a b)]) (oneM rfl) fun w => scmp a b w
theorem vcost_t (a : R) (ha : a.wf) : VC Try.prog 80 [(true, tRow a)] false [(false, [.lit (.int .i64 a.cost)])] :=
 VC.plain (ins := [(true, [.int .i64 a.key, .int .i64 a.value, .int .i64 a.width])]) (ag := false) (rs := [.int .i64 a.cost]) (oneM rfl) fun w => scost a ha w
end Go.Proofs.Ytpnbnbhifpcelaa
/- The reference's comparison of two slices of rows (l6Rows), by contract. -/
namespace Go.Proofs.Ytpnbnbhifpcelaa
open Go.RowKit
set_option linter.unusedVariables false
set_option maxRecDepth 100000 in
theorem seqrows (a a' : Option Addr) (len cap len' cap' : Nat) (L M : List R) (w : World) (h : IsRows w a len L) (h' : IsRows w a' len' M) (hlen : len ≤ 9223372036854775807) (hlen' : len' ≤ 9223372036854775807) :
  Calls Try.prog 74 #[.slice a len cap, .slice a' len' cap'] w fun e w' => e = .returned (.bool (decide (L = M))) ∧ Below w.heap.size w w' := by
 have HL := Lib.hid h.1
 have HM := Lib.hid h'.1
 have HI := Lib.hid h
 have HI' := Lib.hid h'
 clear h h'
 by_cases hne : len = len'
 ·subst hne
  go_enter Try.func74, Try.ntmps74
  go_wp2_with fail
  go_loopw [5] (fun i wr => ∃ k : Nat, i = .int .i64 k ∧ k ≤ len ∧ Hid (∀ s, s < k → L.getD s R.zero = M.getD s R.zero) ∧ Hid (Below w.heap.size w wr)) (fun i _ => len - (intOf i).toNat)
  case atStart => exact ⟨0, rfl, Nat.zero_le _, fun s hs => absurd hs (Nat.not_lt_zero _), Below.refl _ _⟩
  case round =>
   obtain ⟨k, rfl, hk, hsm, hb⟩ := hrel
   by_cases hlt : k < len
   ·obtain ⟨b, o, rfl, hbl, hat⟩ := HI.out.at hlt
    obtain ⟨b', o', rfl, hbl', hat'⟩ := HI'.out.at hlt
    obtain ⟨r, hr⟩ : ∃ r, r = L.getD k R.zero := ⟨_, rfl⟩
    obtain ⟨r', hr'⟩ : ∃ r, r = M.getD k R.zero := ⟨_, rfl⟩
    rw [← hr] at hat
    rw [← hr'] at hat'
    obtain ⟨c0, c1, c2⟩ := hat.below hb.out hbl
    obtain ⟨d0, d1, d2⟩ := hat'.below hb.out hbl'
    have HR := Lib.hid hr
    have HR' := Lib.hid hr'
    clear hr hr' hat hat'
    have hq : ∀ v, (binOp .neq 72 (.agg #[.int .i64 r.key, .int .i64 r.value, .int .i64 r.width]) (.agg #[.int .i64 r'.key, .int .i64 r'.value, .int .i64 r'.width])).run Try.prog v = .ok (.bool (!decide (r = r'))) v := fun v => row_neq r r' v
    by_cases he : r = r'
    ·have hd : decide (r = r') = true := decide_eq_true he
     have HE := Lib.hid he
     clear he
     go_wp2_with fail
     go_still_tail 8, (by kernel_rfl)
     go_wp2_with fail
     go_roundw
     case rel =>
      refine ⟨k + 1, by go_num, by omega, fun s hs => ?_, hb.out.drew⟩
      rcases Nat.lt_or_ge s k with h1 | h1
      ·exact hsm.out s h1
      ·obtain rfl : s = k := by omega
       rw [← HR.out, ← HR'.out]; exact HE.out
     case measure => simp [intOf]; omega
    ·have hd : decide (r = r') = false := decide_eq_false he
     have HN := Lib.hid (show decide (L = M) = false from decide_eq_false fun e => he (by rw [HR.out, HR'.out, e]))
     clear he
     go_wp2_with fail
     go_still_tail 8, (by kernel_rfl)
     go_wp2_with fail
     go_ret
     exact ⟨by rw [HN.out]; rfl, hb.out.drew⟩
   ·have HN := Lib.hid (show decide (L = M) = true from decide_eq_true (getD_ext (by rw [HL.out, HM.out]) fun s hs => hsm.out s (by rw [HL.out] at hs; omega)))
    go_wp2_with fail
    go_ret
    exact ⟨by rw [HN.out]; rfl, hb.out⟩
 ·have HN := Lib.hid (show decide (L = M) = false from decide_eq_false fun e => hne (by rw [← HL.out, ← HM.out, e]))
  have hne2 : ¬ (len : Int) = (len' : Int) := by omega
  go_enter Try.func74, Try.ntmps74
  go_wp2_with fail
  go_ret
  exact ⟨by rw [HN.out]; rfl, Below.refl _ _⟩
end Go.Proofs.Ytpnbnbhifpcelaa
/- EqualBags and l6Rows, the reference's: told by trees: told by trees. -/
namespace Go.Proofs.Ytpnbnbhifpcelaa
open Go Go.RowKit V
set_option linter.unusedVariables false
theorem vbags_t (L M : List R) (hL : ∀ r ∈ L, r.wf) (hM : ∀ r ∈ M, r.wf) (hl : L.length ≤ 1000000000) (hm : M.length ≤ 1000000000) : VC Try.prog 53 [(false, [.seq 72 (L.map tRow)]), (false, [.seq 72 (M.map tRow)])] false [(false, [.lit (.bool (R.eqBags L M))])] := fun w vs hv => by
 obtain ⟨k, vs', rfl, h1, h2⟩ := hv.shape (Fits.slice 72 Fits.row) hL
 obtain ⟨q, vs', rfl, h4, h5⟩ := h2.shape (Fits.slice 72 Fits.row) hM
 rw [h5.none]
 have e : k.2.1 = L.length := h1.1.1.symm
 have e' : q.2.1 = M.length := h4.1.1.symm
 exact (seqbags k.1 q.1 k.2.1 k.2.2 q.2.1 q.2.2 L M w (rows_in h1.1) (rows_in h4.1) (by omega) (by omega)).mono fun e w' he => Gives.plain (ag := false) (rs := [.bool (R.eqBags L M)]) (oneM rfl) he
theorem vl6_t (L M : List R) (hL : ∀ r ∈ L, r.wf) (hM : ∀ r ∈ M, r.wf) (hl : L.length ≤ 1000000000) (hm : M.length ≤ 1000000000) : VC Try.prog 74 [(false, [.seq 72 (L.map tRow)]), (false, [.seq 72 (M.map tRow)])] false [(false, [.lit (.bool (decide (L = M)))])] := fun w vs hv => by
 obtain ⟨k, vs', rfl, h1, h2⟩ := hv.shape (Fits.slice 72 Fits.row) hL
 obtain ⟨q, vs', rfl, h4, h5⟩ := h2.shape (Fits.slice 72 Fits.row) hM
 rw [h5.none]
 have e : k.2.1 = L.length := h1.1.1.symm
 have e' : q.2.1 = M.length := h4.1.1.symm
 exact (seqrows k.1 q.1 k.2.1 k.2.2 q.2.1 q.2.2 L M w (rows_in h1.1) (rows_in h4.1) (by omega) (by omega)).mono fun e w' he => Gives.plain (ag := false) (rs := [.bool (decide (L = M))]) (oneM rfl) he
end Go.Proofs.Ytpnbnbhifpcelaa
/- The reference's SorterMemory: told by trees. -/
namespace Go.Proofs.Ytpnbnbhifpcelaa
open Go Go.RowKit V
set_option linter.unusedVariables false
set_option maxRecDepth 100000 in
set_option maxHeartbeats 2000000 in
theorem vl13row_n (X : List (List R)) (n k : Nat) (hX : X.length ≤ 1000000000) : VC Try.prog 68 [(false, [.seq 84 ((X).map tRun)]), (false, [.lit (.int .i64 ((n : Nat)))]), (false, [.lit (.int .i64 ((k : Nat)))])] false [(false, [.seq 72 ((SorterD.rowAt X n (k : Int)).map tRow)])] := by
 refine VC.enter Try.func68 rfl Try.ntmps68 (gle rfl) fun E hE => ?_
 refine SV.seq' (SV.region ?_)
 refine sl 0 ms ?_
 refine SV.nil (SV.tn (SV.seq' (SV.seq' (SV.region ?_))))
 refine sl 0 ms ?_
 refine sl 0 (mv (V.one (.ro _))) ?_
 refine sl 0 (ok_len (lf := .ro _) rfl elt_impl_Run.und rfl rfl) ?_
 refine sl 0 (s2 (.tmp 7) (.tmp 9)) ?_
 refine sl 0 ms ?_
 refine SV.split (d := 11) rfl (fun hg0 => ?_) (fun hg0 => ?_)
 ·skip   -- g0.T
  have hnl : n < X.length := by simp at hg0; omega
  obtain ⟨p, hx⟩ : ∃ p, X[n]? = some p := ⟨_, List.getElem?_eq_getElem hnl⟩
  refine sy 0 ms ?_
  refine sy 0 (mv (V.one (.ro _))) ?_
  refine sy 0 ms ?_
  refine sy 0 (ok_index (n := 1) (lf := .ro _) rfl elt_impl_Run.und sz_impl_Run rfl rfl rfl (map_at hx)) ?_
  refine sy 0 (ok_field_el (p := .rp _) (off := 0) rfl rfl rfl fld_impl_Run_0) ?_
  refine sy 0 (ok_load_rp (ag := false) (m := 1) (ys := [.ro _]) rfl rfl agg_s_impl_Row sz_s_impl_Row (fun _ => rfl) (gle rfl) rfl) ?_
  refine sy 0 (ok_len (lf := .ro _) rfl elt_impl_Row.und rfl rfl) ?_
  refine sy 0 (s2 (.tmp 12) (.tmp 18)) ?_
  refine sl 0 pt ?_
  refine SV.nil (SV.tn ?_)
  refine SV.cond rfl (fun hc0 => ?_) (fun hc0 => ?_)
  ·skip   -- c0.T
   have hkl : k < p.length := by simp at hc0; omega
   obtain ⟨r, hr⟩ : ∃ r, p[k]? = some r := ⟨_, List.getElem?_eq_getElem hkl⟩
   have ho := SorterD.rowAt_get hx hr
   refine SV.seq' (SV.region ?_)
   refine sl 0 (mv (V.one (.ro _))) ?_
   refine sl 0 ms ?_
   refine sl 0 (ok_index (n := 1) (lf := .ro _) rfl elt_impl_Run.und sz_impl_Run rfl rfl rfl (map_at hx)) ?_
   refine sl 0 (ok_field_el (p := .rp _) (off := 0) rfl rfl rfl fld_impl_Run_0) ?_
   refine sl 0 (ok_load_rp (ag := false) (m := 1) (ys := [.ro _]) rfl rfl agg_s_impl_Row sz_s_impl_Row (fun _ => rfl) (gle rfl) rfl) ?_
   refine sl 0 ms ?_
   refine sl 0 (ok_index (n := 3) (lf := .ro _) rfl elt_impl_Row.und sz_impl_Row rfl rfl rfl (map_at hr)) ?_
   refine sl 0 (ok_load_rp (ag := true) (m := 3) (ys := [.sc _, .sc _, .sc _]) rfl rfl agg_impl_Row sz_impl_Row (fun h => by cases h) (gle rfl) rfl) ?_
   refine sm (ok_lit1 (kk := 0) elt_impl_Row (ag := true) (xs := [.sc _, .sc _, .sc _]) rfl rfl rfl rfl (fun h => by cases h) (outs_c rfl (outs_c rfl (outs_c rfl outs_n))) (by simp [two]) rfl (gle rfl)) ?_
   refine sl 0 (mv (V.one (.hd 0))) ?_
   refine SV.nil (SV.tn (SV.ret (SV.tr ?_)))
   refine d1 (.hd 0) Try.results68 ?_ <;> (refine lsq ?_; rw [ho]; first | done | rfl)
  ·skip   -- c0.F
   have ho := SorterD.rowAt_off hx (k := k) (by simp at hc0; omega)
   refine SV.skip (SV.tn (SV.seq' (SV.region ?_)))
   refine sm (ok_lit0 (kk := 0) elt_impl_Row rfl rfl rfl (gle rfl)) ?_
   refine sl 0 (mv (V.one (.hd 0))) ?_
   refine SV.nil (SV.tn (SV.ret ?_))
   refine d1 (.hd 0) Try.results68 ?_ <;> (refine lsq ?_; rw [ho]; first | done | rfl)
 ·skip   -- g0.F
  have ho : SorterD.rowAt X n (k : Int) = [] := SorterD.rowAt_no (by simp at hg0; omega)
  refine sn ?_
  refine sn ?_
  refine sn ?_
  refine sn ?_
  refine sn ?_
  refine sn ?_
  refine sn ?_
  refine sn ?_
  refine sl 0 pf ?_
  refine SV.nil (SV.tn ?_)
  refine SV.cond rfl (fun hc1 => ?_) (fun hc1 => ?_)
  ·skip   -- c1.T
   cases hc1
  ·skip   -- c1.F
   refine SV.skip (SV.tn (SV.seq' (SV.region ?_)))
   refine sm (ok_lit0 (kk := 0) elt_impl_Row rfl rfl rfl (gle rfl)) ?_
   refine sl 0 (mv (V.one (.hd 0))) ?_
   refine SV.nil (SV.tn (SV.ret ?_))
   refine d1 (.hd 0) Try.results68 ?_ <;> (refine lsq ?_; rw [ho]; first | done | rfl)
theorem vl13row_s (X : List (List R)) (n : Nat) (k : Int) (hX : X.length ≤ 1000000000) (hk : 0 ≤ k) : VC Try.prog 68 [(false, [.seq 84 (X.map tRun)]), (false, [.lit (.int .i64 (n : Nat))]), (false, [.lit (.int .i64 k)])] false [(false, [.seq 72 ((SorterD.rowAt X n k).map tRow)])] := by
 obtain ⟨q, rfl⟩ := Int.eq_ofNat_of_zero_le hk
 exact vl13row_n X n q hX
set_option maxRecDepth 100000 in
set_option maxHeartbeats 2000000 in
theorem vsmem_s (s : SorterD) (hW : s.Wf) : VC Try.prog 24 [(true, tSorter s)] false [(false, [.lit (.int .i64 (SorterD.mem s))])] := by
 refine VC.enter Try.func24 rfl Try.ntmps24 (gle rfl) fun E hE => ?_
 have t1 := total_range s.fHeap
 have t2 := total_range s.fDeferred
 have t3 := SorterD.rowAt_cost s.fRuns 0 s.fLeftPos
 have t4 := SorterD.rowAt_cost s.fRuns 1 s.fRightPos
 have hsz := hW.size
 refine SV.seq' (SV.region ?_)
 refine sm (ok_box (kk := 0) (ag := true) (xs := [.ro _, .sc _, .ro _, .ro _, .ro _, .ro _, .sc _, .sc _, .sc _, .sc _]) rfl rfl rfl (fun h => by cases h) rfl rfl (gle rfl)) ?_
 refine sl 1 ms ?_
 refine SV.nil (SV.tn (SV.seq' (SV.seq' (SV.region ?_))))
 refine sl 1 (fb fld_impl_Sorter_8) ?_
 refine sl 1 (lb 0 8 [.sc _] agg_int sz_int (fun _ => rfl)) ?_
 refine SV.nil (SV.tn (SV.block (SV.seq' (SV.region ?_))))
 refine sl 1 (s2 (.tmp 4) (.const ((Value.int IntKind.i64 1)))) ?_
 refine sl 1 ms ?_
 refine SV.nil (SV.tn ?_)
 refine SV.cond rfl (fun hc0 => ?_) (fun hc0 => ?_)
 ·skip   -- c0.T
  have hp1 : s.fPhase = 1 := by simpa using hc0
  have hm := SorterD.mem_one hp1
  refine SV.seq' ?_
  refine SV.draw [.q 0, .q 1, .q 3, .q 4, .m 2, .m 5, .q 6, .q 7] [] (by kernel_rfl) (by kernel_rfl) ?_
  refine dq rfl (fb fld_impl_Sorter_2) ?_
  refine dq rfl (lb 0 2 [.ro _] agg_s_impl_Row sz_s_impl_Row (fun _ => rfl)) ?_
  refine dq rfl (fb fld_impl_Sorter_3) ?_
  refine dq rfl (lb 0 3 [.ro _] agg_s_impl_Row sz_s_impl_Row (fun _ => rfl)) ?_
  refine DW.m [] rfl (cl [(false, [.sc _])] rfl Try.func67 (vtotal_t s.fHeap hW.heap (by have := hW.size; omega)) ⟨⟨[.ro _], rfl, ⟨rfl, trivial⟩⟩, trivial⟩) rfl (gle rfl) (gle rfl) (.inl rfl) (fun j hj => by cases hj) ?_
  refine DW.m [] rfl (cl [(false, [.sc _])] rfl Try.func67 (vtotal_t s.fDeferred hW.late (by have := hW.size; omega)) ⟨⟨[.ro _], rfl, ⟨rfl, trivial⟩⟩, trivial⟩) rfl (gle rfl) (gle rfl) (.inl rfl) (fun j hj => by cases hj) ?_
  refine dq rfl (ok_s2 (v := .int .i64 (total s.fHeap + total s.fDeferred)) (x := .tmp 9) (x' := .tmp 12) (VScal.one rfl) (VScal.one rfl) (fun ρ h1 h2 w => by go_simp; rw [IntWalk.i64_left, IntWalk.wrap64_in _ ⟨by omega, by omega⟩] <;> first | rfl | omega | (congr 1; omega)) rfl) ?_
  refine dq rfl ms ?_
  refine DW.stores ?_
  refine SV.zend ?_
  refine SV.tn (SV.ret (SV.br (SV.tr ?_)))
  refine d1 (.sc _) Try.results24 ?_ <;> (refine liq ?_; rw [hm])
 ·skip   -- c0.F
  have hp1 : ¬ s.fPhase = 1 := by simpa using hc0
  refine SV.seq' (SV.region ?_)
  refine sl 1 (s2 (.tmp 4) (.const ((Value.int IntKind.i64 2)))) ?_
  refine sl 1 ms ?_
  refine SV.nil (SV.tn ?_)
  refine SV.cond rfl (fun hc1 => ?_) (fun hc1 => ?_)
  ·skip   -- c1.T
   have hp2 : s.fPhase = 2 := by simpa using hc1
   have hm2 : SorterD.mem s = if s.fLeftPos < 0 ∨ s.fRightPos < 0 then 0 else total (SorterD.rowAt s.fRuns 0 s.fLeftPos) + total (SorterD.rowAt s.fRuns 1 s.fRightPos) := by unfold SorterD.mem; rw [if_neg hp1, if_pos hp2]
   refine SV.seq' (SV.seq' (SV.region ?_))
   refine sl 1 (fb fld_impl_Sorter_6) ?_
   refine sl 1 (lb 0 6 [.sc _] agg_int sz_int (fun _ => rfl)) ?_
   refine sl 1 (s2 (.tmp 17) (.const ((Value.int IntKind.i64 0)))) ?_
   refine sl 1 ms ?_
   refine SV.split (d := 19) rfl (fun hg0 => ?_) (fun hg0 => ?_)
   ·skip   -- g0.T
    have hl : s.fLeftPos < 0 := by simpa using hg0
    have hm := hm2.trans (if_pos (.inl hl))
    refine sn ?_
    refine sn ?_
    refine sn ?_
    refine sl 1 pt ?_
    refine SV.nil (SV.tn ?_)
    refine SV.cond rfl (fun hc2 => ?_) (fun hc2 => ?_)
    ·skip   -- c2.T
     refine SV.seq' (SV.region ?_)
     refine sl 1 ms ?_
     refine SV.nil (SV.tn (SV.ret (SV.tr (SV.br (SV.tr ?_)))))
     refine d1 (.sc _) Try.results24 ?_ <;> (refine liq ?_; rw [hm])
    ·skip   -- c2.F
     cases hc2
   ·skip   -- g0.F
    have hl : ¬ s.fLeftPos < 0 := by simpa using hg0
    refine sy 1 (fb fld_impl_Sorter_7) ?_
    refine sy 1 (lb 0 7 [.sc _] agg_int sz_int (fun _ => rfl)) ?_
    refine sy 1 (s2 (.tmp 21) (.const ((Value.int IntKind.i64 0)))) ?_
    refine sl 1 pf ?_
    refine SV.nil (SV.tn ?_)
    refine SV.cond rfl (fun hc3 => ?_) (fun hc3 => ?_)
    ·skip   -- c3.T
     have hr : s.fRightPos < 0 := by simpa using hc3
     have hm := hm2.trans (if_pos (.inr hr))
     refine SV.seq' (SV.region ?_)
     refine sl 1 ms ?_
     refine SV.nil (SV.tn (SV.ret (SV.tr (SV.br (SV.tr ?_)))))
     refine d1 (.sc _) Try.results24 ?_ <;> (refine liq ?_; rw [hm])
    ·skip   -- c3.F
     have hr : ¬ s.fRightPos < 0 := by simpa using hc3
     have hm := hm2.trans (if_neg (by omega))
     refine SV.skip (SV.tn (SV.seq' ?_))
     refine SV.draw [.q 0, .q 1, .q 2, .q 3, .q 6, .q 7, .q 8, .q 9, .m 4, .m 5, .m 10, .m 11, .q 12, .q 13] [] (by kernel_rfl) (by kernel_rfl) ?_
     refine dq rfl (fb fld_impl_Sorter_5) ?_
     refine dq rfl (lb 0 5 [.ro _] agg_s_impl_Run sz_s_impl_Run (fun _ => rfl)) ?_
     refine dq rfl (fb fld_impl_Sorter_6) ?_
     refine dq rfl (lb 0 6 [.sc _] agg_int sz_int (fun _ => rfl)) ?_
     refine dq rfl (fb fld_impl_Sorter_5) ?_
     refine dq rfl (lb 0 5 [.ro _] agg_s_impl_Run sz_s_impl_Run (fun _ => rfl)) ?_
     refine dq rfl (fb fld_impl_Sorter_7) ?_
     refine dq rfl (lb 0 7 [.sc _] agg_int sz_int (fun _ => rfl)) ?_
     refine DW.m [0] rfl (cl [(false, [.hd 0])] rfl Try.func68 (vl13row_s s.fRuns 0 s.fLeftPos (by have := hW.size; omega) (by omega)) ⟨⟨[.ro _], rfl, ⟨rfl, trivial⟩⟩, ⟨[.sc _], rfl, ⟨rfl, trivial⟩⟩, ⟨[.sc _], rfl, ⟨rfl, trivial⟩⟩, trivial⟩) rfl (gle rfl) (gle rfl) (.inl rfl) (fun j hj => by
       simp only [List.mem_cons, List.not_mem_nil, or_false] at hj
       rcases hj with rfl
       ·exact .inr ⟨(gle rfl), (gle rfl), .inl rfl⟩) ?_
     refine DW.m [0] rfl (cl [(false, [.sc _])] rfl Try.func67 (vtotal_t (SorterD.rowAt s.fRuns 0 s.fLeftPos) (fun r hr => by obtain ⟨p, hp, hr2⟩ := SorterD.rowAt_mem hr; exact hW.runs p hp r hr2) (by have := SorterD.rowAt_len s.fRuns 0 s.fLeftPos; omega)) ⟨⟨[.hd 0], rfl, ⟨rfl, trivial⟩⟩, trivial⟩) rfl (gle rfl) (gle rfl) (.inl rfl) (fun j hj => by
       simp only [List.mem_cons, List.not_mem_nil, or_false] at hj
       rcases hj with rfl
       ·exact .inl (by decide)) ?_
     refine DW.m [1, 0] rfl (cl [(false, [.hd 1])] rfl Try.func68 (vl13row_s s.fRuns 1 s.fRightPos (by have := hW.size; omega) (by omega)) ⟨⟨[.ro _], rfl, ⟨rfl, trivial⟩⟩, ⟨[.sc _], rfl, ⟨rfl, trivial⟩⟩, ⟨[.sc _], rfl, ⟨rfl, trivial⟩⟩, trivial⟩) rfl (gle rfl) (gle rfl) (.inl rfl) (fun j hj => by
       simp only [List.mem_cons, List.not_mem_nil, or_false] at hj
       rcases hj with rfl | rfl
       ·exact .inr ⟨(gle rfl), (gle rfl), .inl rfl⟩
       ·exact .inl (by decide)) ?_
     refine DW.m [1, 0] rfl (cl [(false, [.sc _])] rfl Try.func67 (vtotal_t (SorterD.rowAt s.fRuns 1 s.fRightPos) (fun r hr => by obtain ⟨p, hp, hr2⟩ := SorterD.rowAt_mem hr; exact hW.runs p hp r hr2) (by have := SorterD.rowAt_len s.fRuns 1 s.fRightPos; omega)) ⟨⟨[.hd 1], rfl, ⟨rfl, trivial⟩⟩, trivial⟩) rfl (gle rfl) (gle rfl) (.inl rfl) (fun j hj => by
       simp only [List.mem_cons, List.not_mem_nil, or_false] at hj
       rcases hj with rfl | rfl
       ·exact .inl (by decide)
       ·exact .inl (by decide)) ?_
     refine dq rfl (ok_s2 (v := .int .i64 (total (SorterD.rowAt s.fRuns 0 s.fLeftPos) + total (SorterD.rowAt s.fRuns 1 s.fRightPos))) (x := .tmp 29) (x' := .tmp 35) (VScal.one rfl) (VScal.one rfl) (fun ρ h1 h2 w => by go_simp; rw [IntWalk.i64_left, IntWalk.wrap64_in _ ⟨by omega, by omega⟩] <;> first | rfl | omega | (congr 1; omega)) rfl) ?_
     refine dq rfl ms ?_
     refine DW.stores ?_
     refine SV.zend ?_
     refine SV.tn (SV.ret (SV.br (SV.tr ?_)))
     refine d1 (.sc _) Try.results24 ?_ <;> (refine liq ?_; rw [hm])
  ·skip   -- c1.F
   have hp2 : ¬ s.fPhase = 2 := by simpa using hc1
   refine SV.seq' (SV.region ?_)
   refine sl 1 (s2 (.tmp 4) (.const ((Value.int IntKind.i64 3)))) ?_
   refine sl 1 ms ?_
   refine SV.nil (SV.tn ?_)
   refine SV.cond rfl (fun hc4 => ?_) (fun hc4 => ?_)
   ·skip   -- c4.T
    have hp3 : s.fPhase = 3 := by simpa using hc4
    have hm3 : SorterD.mem s = if s.fLeftPos < 0 then 0 else total (SorterD.rowAt s.fRuns 0 s.fLeftPos) := by unfold SorterD.mem; rw [if_neg hp1, if_neg hp2, if_pos hp3]
    refine SV.seq' (SV.seq' (SV.region ?_))
    refine sl 1 (fb fld_impl_Sorter_6) ?_
    refine sl 1 (lb 0 6 [.sc _] agg_int sz_int (fun _ => rfl)) ?_
    refine sl 1 (s2 (.tmp 40) (.const ((Value.int IntKind.i64 0)))) ?_
    refine SV.nil (SV.tn ?_)
    refine SV.cond rfl (fun hc5 => ?_) (fun hc5 => ?_)
    ·skip   -- c5.T
     have hl : s.fLeftPos < 0 := by simpa using hc5
     have hm := hm3.trans (if_pos hl)
     refine SV.seq' (SV.region ?_)
     refine sl 1 ms ?_
     refine SV.nil (SV.tn (SV.ret (SV.tr (SV.br (SV.tr ?_)))))
     refine d1 (.sc _) Try.results24 ?_ <;> (refine liq ?_; rw [hm])
    ·skip   -- c5.F
     have hl : ¬ s.fLeftPos < 0 := by simpa using hc5
     have hm := hm3.trans (if_neg hl)
     refine SV.skip (SV.tn (SV.seq' (SV.region ?_)))
     refine sl 1 (fb fld_impl_Sorter_5) ?_
     refine sl 1 (lb 0 5 [.ro _] agg_s_impl_Run sz_s_impl_Run (fun _ => rfl)) ?_
     refine sl 1 (fb fld_impl_Sorter_6) ?_
     refine sl 1 (lb 0 6 [.sc _] agg_int sz_int (fun _ => rfl)) ?_
     refine sm (cl [(false, [.hd 0])] rfl Try.func68 (vl13row_s s.fRuns 0 s.fLeftPos (by have := hW.size; omega) (by omega)) ⟨⟨[.ro _], rfl, ⟨rfl, trivial⟩⟩, ⟨[.sc _], rfl, ⟨rfl, trivial⟩⟩, ⟨[.sc _], rfl, ⟨rfl, trivial⟩⟩, trivial⟩) ?_
     refine sm (cl [(false, [.sc _])] rfl Try.func67 (vtotal_t (SorterD.rowAt s.fRuns 0 s.fLeftPos) (fun r hr => by obtain ⟨p, hp, hr2⟩ := SorterD.rowAt_mem hr; exact hW.runs p hp r hr2) (by have := SorterD.rowAt_len s.fRuns 0 s.fLeftPos; omega)) ⟨⟨[.hd 0], rfl, ⟨rfl, trivial⟩⟩, trivial⟩) ?_
     refine sl 1 ms ?_
     refine SV.nil (SV.tn (SV.ret (SV.br (SV.tr ?_))))
     refine d1 (.sc _) Try.results24 ?_ <;> (refine liq ?_; rw [hm])
   ·skip   -- c4.F
    have hp3 : ¬ s.fPhase = 3 := by simpa using hc4
    have hm : SorterD.mem s = 0 := by unfold SorterD.mem; rw [if_neg hp1, if_neg hp2, if_neg hp3]
    refine SV.skip (SV.bn (SV.tn (SV.seq' (SV.region ?_))))
    refine sl 1 ms ?_
    refine SV.nil (SV.tn (SV.ret ?_))
    refine d1 (.sc _) Try.results24 ?_ <;> (refine liq ?_; rw [hm])
end Go.Proofs.Ytpnbnbhifpcelaa
/- States told by trees: contracts of functions that are handed a slice to keep (it is appended to, and comes back in the answer), and their calls. -/
namespace Go.Proofs.Ytpnbnbhifpcelaa.V
open Go Go.RowKit
set_option linter.unusedVariables false
def VX (P : Program) (f : FuncId) (ins : List (Bool × List AC)) (ls : List T) (tup : Bool) (rs : List (Bool × List T)) : Prop :=
 ∀ (w : World) (lv : Nat → Value) (F : Nat → Nat → Prop) (hF : ∀ i b, i < ls.length → F i b → b < w.heap.size) (vs : List Value), (∀ i t, ls[i]? = some t → Own w 0 t (lv i) (F i) ∧ ∃ ty es, t = .seq ty es) → (∀ i j b, i < ls.length → j < ls.length → i ≠ j → F i b → ¬ F j b) → ArgsM (Env.lend w lv F ls.length hF) ins vs →
  Calls P f vs.toArray w (Gives (Env.lend w lv F ls.length hF) tup rs)
def Env.free (E : Env) : Env := { E with nl := 0 }
variable {P : Program} {E : Env} {N : Nat} {σ σ' : VS} {o : Oper} {a : Act} {w : World} {G : Ghost}
theorem Rel.free (h : Rel E N σ a w G) : Rel E.free N σ a w G :=
 ⟨⟨h.below.os, h.below.tape, h.below.output, h.below.size, fun k hk => h.below.block k hk⟩, h.dfr, h.nsz, h.tmps, h.boxes, h.inj, h.boxft, h.objs, h.disj, h.ftlt, ⟨Nat.zero_le _, fun i hi => absurd hi (Nat.not_lt_zero i), h.lent.2.2⟩⟩
theorem VX.enter {f : FuncId} {fn : Func} {c : Go.Code} {n : Nat} {ins : List (Bool × List AC)} {ls : List T} {tup : Bool} {rs : List (Bool × List T)} (hf : P.funcs[f]? = some fn) (hb : fn.body = some c) (hn : fn.ntmps = n) (hl : ins.length ≤ n)
  (h : ∀ E, E.plain 0 → SV E n (VS.initM (ins.map fun p => V.flat p.1 (p.2.map AC.leaf)) ls) (c.wp P (bodyPost P fn (Gives E tup rs)))) : VX P f ins ls tup rs := fun w lv F hF vs h1 h2 hv => by
 refine calls_of_wp hf hb ?_
 obtain ⟨G, hG⟩ := init_relM (E := Env.lend w lv F ls.length hF) (F := F) ⟨rfl, rfl⟩ h1 h2 (fun i b hi hb => ⟨.inr ⟨i, hi, hb⟩, hF i b hi hb⟩) hv (n := n) (by rw [hv.1]; exact hl)
 have h3 := h (Env.lend w lv F ls.length hF).free ⟨rfl, rfl⟩ _ _ G hG.free
 have hg : ∀ e w', Gives (Env.lend w lv F ls.length hF).free tup rs e w' → Gives (Env.lend w lv F ls.length hF) tup rs e w' := fun e w' ⟨uss, F', k1, k2, k3, k4, k5, k6⟩ => ⟨uss, F', k1, k2, k3, k4, k5, ⟨k6.os, k6.tape, k6.output, k6.size, fun k hk => k6.block k hk⟩⟩
 rw [hn]
 have h4 := wp_mono h3 (Q' := bodyPost P fn (Gives (Env.lend w lv F ls.length hF) tup rs)) fun e a w' hq => by
  cases e with
  | normal => obtain ⟨k1, v, k2, k3⟩ := hq; exact ⟨k1, v, k2, hg _ _ k3⟩
  | ret => obtain ⟨k1, v, k2, k3⟩ := hq; exact ⟨k1, v, k2, hg _ _ k3⟩
  | exit id => exact hq
  | goto l => exact hq
  | panic ch => first | exact hq | exact hg _ _ hq | exact ⟨hq.1, hg _ _ hq.2⟩
  | outgrown => first | exact hq | exact hg _ _ hq
 have e : (Env.lend w lv F ls.length hF).w0 = w := rfl
 rw [e] at h4
 simpa using h4
def VS.argX (p : Leaf) : List Leaf → List AC → Prop
 | [], [] => True
 | x :: xs, .rd t :: ts => ((∃ u, t = .lit u ∧ x = .sc u) ∨ x = .ro t) ∧ VS.argX p xs ts
 | x :: xs, .ln i :: ts => (i = 0 ∧ x = p) ∧ VS.argX p xs ts
 | _, _ => False
theorem argX_get {p : Leaf} : ∀ {xs : List Leaf} {ts : List AC}, VS.argX p xs ts → xs.length = ts.length ∧ ∀ (j : Nat) (t : AC), ts[j]? = some t → ∃ x, xs[j]? = some x ∧ match t with
  | .rd t => (∃ u, t = .lit u ∧ x = .sc u) ∨ x = .ro t
  | .ln i => i = 0 ∧ x = p
 | [], [], _ => ⟨rfl, fun j t h => by simp at h⟩
 | x :: xs, .rd t :: ts, h => by
  obtain ⟨h1, h2⟩ := argX_get h.2
  refine ⟨by simp [h1], fun j s hj => ?_⟩
  cases j with
  | zero => cases hj; exact ⟨x, rfl, h.1⟩
  | succ j => exact h2 j s (by simpa using hj)
 | x :: xs, .ln i :: ts, h => by
  obtain ⟨h1, h2⟩ := argX_get h.2
  refine ⟨by simp [h1], fun j s hj => ?_⟩
  cases j with
  | zero => cases hj; exact ⟨x, rfl, h.1⟩
  | succ j => exact h2 j s (by simpa using hj)
def VS.argsX (σ : VS) (p : Leaf) : List Operand → List (Bool × List AC) → Prop
 | [], [] => True
 | x :: xs, q :: qs => (∃ ls, σ.ev x = V.flat q.1 ls ∧ VS.argX p ls q.2) ∧ σ.argsX p xs qs
 | _, _ => False
theorem Rel.argsX (h : Rel E N σ a w G) {i : Nat} {E' : Env} (hw : E'.w0 = w) (hold : ∀ b, E.old b → E'.old b) (hn : 0 < E'.nl) (hv : E'.lv 0 = G.vl i) : ∀ {xs : List Operand} {qs : List (Bool × List AC)}, σ.argsX (.hd i) xs qs → ArgsM E' qs (xs.map a.eval)
 | [], [], _ => ⟨rfl, fun c ag ts v hc => by simp at hc⟩
 | x :: xs, q :: qs, hq => by
  obtain ⟨⟨ls, h1, h2⟩, h3⟩ := hq
  obtain ⟨h4, h5⟩ := h.argsX hw hold hn hv h3
  refine ⟨by simpa using h4, fun c ag ts v hc hv' => ?_⟩
  cases c with
  | zero =>
   cases hc
   cases hv'
   have h6 := h.ev x
   rw [h1, vflat] at h6
   obtain ⟨us, h7, h8, h9⟩ := h6
   obtain ⟨h10, h11⟩ := argX_get h2
   refine ⟨us, h7, h8.trans h10, fun j t u hj hu => ?_⟩
   obtain ⟨y, h12, h13⟩ := h11 j t hj
   have h14 := h9 j y u h12 hu
   cases t with
   | ln k =>
    obtain ⟨rfl, rfl⟩ := h13
    exact ⟨hn, h14.1.2.trans hv.symm⟩
   | rd t =>
    rcases h13 with ⟨z, rfl, rfl⟩ | rfl
    ·rcases h14.2 with h15 | h15
     ·cases h15
     ·have h16 : u = z := h14.1
      rw [h16] at h15 ⊢
      exact .lit h15
    ·have h16 : Inn E.old w t u := h14.1
     show Inn E'.old E'.w0 t u
     rw [hw]
     exact h16.frame (Nat.le_refl _) fun b hb _ => ⟨hold b hb, rfl⟩
  | succ c => exact h5 c ag ts v (by simpa using hc) (by simpa using hv')
theorem ok_callX {d : Nat} {f : FuncId} {xs : List Operand} {ats : Array TypeId} {ins : List (Bool × List AC)} {t0 : T} {ty : TypeId} {es : List (List T)} {i kk : Nat} (hk : σ.nx = kk) (ho : o.op = .call { callee := .value (.func f), args := xs.toArray, argTypes := ats }) (hb : ∃ fn c, P.funcs[f]? = some fn ∧ fn.body = some c ∧ fn.name ≠ "runtime.NumGoroutine")
  (hc : VX P f ins [t0] false [(false, [.seq ty es])]) (hx : σ.argsX (.hd i) xs ins) (hi : (σ.ob i).map (·.2) = some t0) (hd : o.dst = some d) (hdN : d < N) : OpOk P E N σ o (((σ.kills [.hd i]).new (.seq ty es)).put d (V.one (.hd kk))) :=
 fun a w G K Q h k => by
  subst hk
  obtain ⟨fn, c, h1, h2, h2'⟩ := hb
  obtain ⟨⟨ver, t1⟩, hob, rfl⟩ := Option.map_eq_some_iff.1 hi
  have hlive : σ.ob i ≠ none := by rw [hob]; simp
  have hft : ∀ b, G.ft i b → (E.B ≤ b ∨ E.ln b) ∧ b < w.heap.size := fun b hb => h.ftlt i b hlive hb
  have hF : ∀ (q b : Nat), q < [t1].length → G.ft i b → b < w.heap.size := fun q b _ hb => (hft b hb).2
  have hnot : ∀ b, E.old b → ¬ G.ft i b := fun b hb hf => (hft b hf).1.elim (fun h1 => by have := hb.1; omega) hb.2
  have hcall := hc w (fun _ => G.vl i) (fun _ => G.ft i) hF (xs.map a.eval) (fun q t hq => by
   obtain ⟨-, e5, e6⟩ := h.objs i ver t1 hob
   have hq0 := get_lt hq
   have : q = 0 := by simpa using hq0
   subst this
   cases hq
   exact ⟨e5, e6⟩) (fun q q' b hq hq' hne _ => absurd (show q = q' by simp at hq hq'; omega) hne) (h.argsX (i := i) (E' := Env.lend w (fun _ => G.vl i) (fun _ => G.ft i) 1 hF) rfl (fun b hb => ⟨Nat.lt_of_lt_of_le hb.1 h.low, fun ⟨q, hq, hqb⟩ => hnot b hb hqb⟩) Nat.one_pos rfl hx)
  have hrun : (execOp a.eval o).run P w = .ok (.enter f (xs.map a.eval).toArray) w := by
   simp [execOp, ho, resolve, Act.eval, Deferred.ofValue, invoke, callFunc, h1, h2, h2', Result.andThen]
  unfold Oper.wp
  rw [hrun]
  refine hcall.mono fun e w' ⟨uss, F', g1, g2, g3, g4, g5, g6⟩ => ?_
  match uss, g1 with
  | [us], _ =>
   obtain ⟨g7, g8⟩ := g3 0 false [.seq ty es] us rfl rfl
   match us, g7 with
   | [u], _ =>
    have hown := g8 0 (.seq ty es) u rfl rfl
    have hsm : Same E w w' := ⟨g6.os, g6.tape, g6.output, g6.size, fun b hb => g6.block b ⟨Nat.lt_of_lt_of_le hb.1 h.low, fun ⟨q, hq, hqb⟩ => hnot b hb hqb⟩⟩
    obtain ⟨G', hG', ⟨hvl, -, -⟩, -, -⟩ := h.renew [.hd i] (fun x hx => by rw [List.mem_singleton.1 hx]; exact ⟨t1, by show (σ.ob i).map (·.2) = _; rw [hob]; rfl⟩) (w' := w') (t := .seq ty es) (v := u) (F := F' 0 0) (G.ft i) hsm (fun k hk hnD => g6.block k ⟨hk, fun ⟨q, hq, hqb⟩ => hnD hqb⟩) (fun b hb => ⟨.hd i, List.mem_singleton_self _, hb⟩) hown ⟨_, _, rfl⟩ fun b hb => by
     obtain ⟨m1, m2⟩ := g5 0 0 b hb
     rcases m1 with m1 | ⟨q, m1, m3⟩
     ·exact ⟨⟨.inl (Nat.le_trans h.low m1), m2⟩, .inl (h.fresh m1)⟩
     ·exact ⟨⟨(hft b m3).1, m2⟩, .inr ⟨.hd i, List.mem_singleton_self _, m3⟩⟩
    subst g2
    rw [hd]
    exact k _ _ _ (hG'.put hdN (vone.2 ⟨⟨Nat.lt_succ_self _, hvl.symm⟩, .inr hown.one⟩))
end Go.Proofs.Ytpnbnbhifpcelaa.V
/- States told by trees: a call that is handed several objects to keep, whose answers may be structs and tuples; a call of a function value that is known. -/
namespace Go.Proofs.Ytpnbnbhifpcelaa.V
open Go Go.RowKit
set_option linter.unusedVariables false
variable {P : Program} {E : Env} {N nb : Nat} {σ σ' : VS} {o : Oper} {a : Act} {w : World} {G : Ghost}
def VS.argY (is : List Nat) : List Leaf → List AC → Prop
 | [], [] => True
 | x :: xs, .rd t :: ts => ((∃ u, t = .lit u ∧ x = .sc u) ∨ x = .ro t) ∧ VS.argY is xs ts
 | x :: xs, .ln i :: ts => (∃ p, is[i]? = some p ∧ x = .hd p) ∧ VS.argY is xs ts
 | _, _ => False
theorem argY_get {is : List Nat} : ∀ {xs : List Leaf} {ts : List AC}, VS.argY is xs ts → xs.length = ts.length ∧ ∀ (j : Nat) (t : AC), ts[j]? = some t → ∃ x, xs[j]? = some x ∧ match t with
  | .rd t => (∃ u, t = .lit u ∧ x = .sc u) ∨ x = .ro t
  | .ln i => ∃ p, is[i]? = some p ∧ x = .hd p
 | [], [], _ => ⟨rfl, fun j t h => by simp at h⟩
 | x :: xs, .rd t :: ts, h => by
  obtain ⟨h1, h2⟩ := argY_get h.2
  refine ⟨by simp [h1], fun j s hj => ?_⟩
  cases j with
  | zero => cases hj; exact ⟨x, rfl, h.1⟩
  | succ j => exact h2 j s (by simpa using hj)
 | x :: xs, .ln i :: ts, h => by
  obtain ⟨h1, h2⟩ := argY_get h.2
  refine ⟨by simp [h1], fun j s hj => ?_⟩
  cases j with
  | zero => cases hj; exact ⟨x, rfl, h.1⟩
  | succ j => exact h2 j s (by simpa using hj)
def VS.argsY (σ : VS) (is : List Nat) : List Operand → List (Bool × List AC) → Prop
 | [], [] => True
 | x :: xs, q :: qs => (∃ ls, σ.ev x = V.flat q.1 ls ∧ VS.argY is ls q.2) ∧ σ.argsY is xs qs
 | _, _ => False
theorem Rel.argsY (h : Rel E N σ a w G) {is : List Nat} {E' : Env} (hw : E'.w0 = w) (hold : ∀ b, E.old b → E'.old b) (hn : ∀ i p, is[i]? = some p → i < E'.nl ∧ E'.lv i = G.vl p) : ∀ {xs : List Operand} {qs : List (Bool × List AC)}, σ.argsY is xs qs → ArgsM E' qs (xs.map a.eval)
 | [], [], _ => ⟨rfl, fun c ag ts v hc => by simp at hc⟩
 | x :: xs, q :: qs, hq => by
  obtain ⟨⟨ls, h1, h2⟩, h3⟩ := hq
  obtain ⟨h4, h5⟩ := h.argsY hw hold hn h3
  refine ⟨by simpa using h4, fun c ag ts v hc hv' => ?_⟩
  cases c with
  | zero =>
   cases hc
   cases hv'
   have h6 := h.ev x
   rw [h1, vflat] at h6
   obtain ⟨us, h7, h8, h9⟩ := h6
   obtain ⟨h10, h11⟩ := argY_get h2
   refine ⟨us, h7, h8.trans h10, fun j t u hj hu => ?_⟩
   obtain ⟨y, h12, h13⟩ := h11 j t hj
   have h14 := h9 j y u h12 hu
   cases t with
   | ln k =>
    obtain ⟨p, hp, rfl⟩ := h13
    obtain ⟨e1, e2⟩ := hn k p hp
    exact ⟨e1, h14.1.2.trans e2.symm⟩
   | rd t =>
    rcases h13 with ⟨z, rfl, rfl⟩ | rfl
    ·rcases h14.2 with h15 | h15
     ·cases h15
     ·have h16 : u = z := h14.1
      rw [h16] at h15 ⊢
      exact .lit h15
    ·have h16 : Inn E.old w t u := h14.1
     show Inn E'.old E'.w0 t u
     rw [hw]
     exact h16.frame (Nat.le_refl _) fun b hb _ => ⟨hold b hb, rfl⟩
  | succ c => exact h5 c ag ts v (by simpa using hc) (by simpa using hv')
theorem killY {cs : List Leaf} {i : Nat} {p : Nat × T} (h : (σ.kills cs).ob i = some p) : σ.ob i = some p ∧ cs.any (isHd i) = false := by
 have h1 : (bif cs.any (isHd i) then none else σ.ob i) = some p := h
 cases hc : cs.any (isHd i) with
 | true => rw [hc] at h1; cases h1
 | false => rw [hc] at h1; exact ⟨h1, rfl⟩
theorem ok_callY {d : Nat} {f : FuncId} {xs : List Operand} {ats : Array TypeId} {ins : List (Bool × List AC)} {ts : List T} {tup : Bool} {rs : List (Bool × List T)} {ls : List (Bool × List Leaf)} {is : List Nat} (hk : ansLs σ.nx rs = ls) (ho : o.op = .call { callee := .value (.func f), args := xs.toArray, argTypes := ats }) (hb : ∃ fn c, P.funcs[f]? = some fn ∧ fn.body = some c ∧ fn.name ≠ "runtime.NumGoroutine")
  (hc : VX P f ins ts tup rs) (hx : σ.argsY is xs ins) (hi : is.map (fun i => (σ.ob i).map (·.2)) = ts.map some) (hnd : is.Nodup) (hd : o.dst = some d) (hdN : d < N) : OpOk P E N σ o ((ansSs (σ.kills (is.map .hd)) rs).put d ⟨tup, ls⟩) :=
 fun a w G K Q h k => by
  subst hk
  obtain ⟨fn, c, h1, h2, h2'⟩ := hb
  have hlen : is.length = ts.length := by simpa using congrArg List.length hi
  have hat : ∀ (q : Nat) (p : Nat), is[q]? = some p → ∃ ver t, ts[q]? = some t ∧ σ.ob p = some (ver, t) := fun q p hq => by
   have e := congrArg (fun l => l[q]?) hi
   simp only [List.getElem?_map, hq, Option.map_some] at e
   cases ht : ts[q]? with
   | none => have := get_lt hq; rw [List.getElem?_eq_none_iff] at ht; omega
   | some t =>
    rw [ht] at e
    have e2 := Option.some.inj e
    obtain ⟨⟨ver, t'⟩, e3, e4⟩ := Option.map_eq_some_iff.1 e2
    exact ⟨ver, t, rfl, by rw [e3]; simp at e4; rw [e4]⟩
  have hlive : ∀ (q : Nat) (p : Nat), is[q]? = some p → σ.ob p ≠ none := fun q p hq => by obtain ⟨v, t, -, e⟩ := hat q p hq; rw [e]; simp
  have hgd : ∀ q, q < ts.length → is[q]? = some (is.getD q 0) := fun q hq => by rw [List.getD, List.getElem?_eq_getElem (by omega)]; rfl
  have hF : ∀ (q b : Nat), q < ts.length → G.ft (is.getD q 0) b → b < w.heap.size := fun q b hq hb => (h.ftlt _ b (hlive q _ (hgd q hq)) hb).2
  have hnot : ∀ b, E.old b → ∀ p ∈ is, ¬ G.ft p b := fun b hb p hp hf => by
   obtain ⟨q, hq⟩ := List.getElem?_of_mem hp
   exact (h.ftlt p b (hlive q p hq) hf).1.elim (fun h1 => by have := hb.1; omega) hb.2
  have hne : ∀ q q', q < ts.length → q' < ts.length → q ≠ q' → is.getD q 0 ≠ is.getD q' 0 := fun q q' hq hq' hqq e => by
   have e1 := hgd q hq
   have e2 := hgd q' hq'
   rw [List.getElem?_eq_getElem (by omega)] at e1 e2
   have e3 : is[q]'(by omega) = is[q']'(by omega) := by rw [Option.some.inj e1, Option.some.inj e2, e]
   rcases Nat.lt_or_gt_of_ne hqq with h | h
   ·exact List.pairwise_iff_getElem.1 hnd q q' (by omega) (by omega) h e3
   ·exact List.pairwise_iff_getElem.1 hnd q' q (by omega) (by omega) h e3.symm
  have hcall := hc w (fun q => G.vl (is.getD q 0)) (fun q => G.ft (is.getD q 0)) hF (xs.map a.eval) (fun q t hq => by
   obtain ⟨v, t', e1, e2⟩ := hat q _ (hgd q (get_lt hq))
   rw [hq] at e1
   cases e1
   obtain ⟨-, e5, e6⟩ := h.objs _ v t e2
   exact ⟨e5, e6⟩) (fun q q' b hq hq' hqq => h.disj _ _ b (hlive q _ (hgd q hq)) (hlive q' _ (hgd q' hq')) (hne q q' hq hq' hqq))
   (h.argsY (is := is) (E' := Env.lend w (fun q => G.vl (is.getD q 0)) (fun q => G.ft (is.getD q 0)) ts.length hF) rfl (fun b hb => ⟨Nat.lt_of_lt_of_le hb.1 h.low, fun ⟨q, hq, hqb⟩ => hnot b hb _ (get_mem (hgd q hq)) hqb⟩)
    (fun i p hp => ⟨by have := get_lt hp; show i < ts.length; omega, by show G.vl (is.getD i 0) = _; rw [List.getD, hp]; rfl⟩) hx)
  have hrun : (execOp a.eval o).run P w = .ok (.enter f (xs.map a.eval).toArray) w := by
   simp [execOp, ho, resolve, Act.eval, Deferred.ofValue, invoke, callFunc, h1, h2, h2', Result.andThen]
  unfold Oper.wp
  rw [hrun]
  refine hcall.mono fun e w' ⟨uss, F', g1, g2, g3, g4, g5, g6⟩ => ?_
  have hin : ∀ b, (∃ q, q < ts.length ∧ G.ft (is.getD q 0) b) → ∃ p ∈ is, G.ft p b := fun b ⟨q, hq, hb⟩ => ⟨_, get_mem (hgd q hq), hb⟩
  have hsm : Same E w w' := ⟨g6.os, g6.tape, g6.output, g6.size, fun b hb => g6.block b ⟨Nat.lt_of_lt_of_le hb.1 h.low, fun hh => by obtain ⟨p, hp, hpb⟩ := hin b hh; exact hnot b hb p hp hpb⟩⟩
  have hlv : ∀ p ∈ is, σ.ob p ≠ none := fun p hp => by obtain ⟨q, hq⟩ := List.getElem?_of_mem hp; exact hlive q p hq
  have hoff : ∀ i p, (σ.kills (is.map .hd)).ob i = some p → σ.ob i = some p ∧ i ∉ is := fun i p hp => by
   obtain ⟨e1, e2⟩ := killY hp
   refine ⟨e1, fun hm => ?_⟩
   rw [List.any_eq_false] at e2
   exact e2 (.hd i) (List.mem_map.2 ⟨i, hm, rfl⟩) (Nat.beq_refl i)
  have hkill : Rel E N (σ.kills (is.map .hd)) a w' G := by
   refine (h.turn (σ' := σ.kills (is.map .hd)) (G' := G) (fun b => ∃ p ∈ is, G.ft p b) rfl rfl rfl hsm (fun b hb hD => g6.block b ⟨hb, fun hh => hD (hin b hh)⟩) (fun c hc ⟨p, hp, hpb⟩ => h.boxft c p hc (hlv p hp) hpb) (Nat.le_refl _) (fun _ _ => rfl) (fun i v' t' hv => ?_) (fun i j b hi hj hij => ?_)).1
   ·obtain ⟨e1, e2⟩ := hoff i _ hv
    exact .inl ⟨e1, fun b => Iff.rfl, fun b hb ⟨p, hp, hpb⟩ => h.disj i p b (by rw [e1]; simp) (hlv p hp) (fun e => e2 (e ▸ hp)) hb hpb⟩
   ·obtain ⟨vi, hvi⟩ := Option.ne_none_iff_exists'.1 hi
    obtain ⟨vj, hvj⟩ := Option.ne_none_iff_exists'.1 hj
    exact h.disj i j b (by rw [(hoff i _ hvi).1]; simp) (by rw [(hoff j _ hvj).1]; simp) hij
  subst g2
  obtain ⟨G', k1, k2, k3, k4, k5, k6, k7, k8⟩ := hkill.addAlls rs uss F' g1 (fun c ag ts us hc hu => ⟨(g3 c ag ts us hc hu).1, fun j t u hj hu' => (g3 c ag ts us hc hu).2 j t u hj hu'⟩) (fun c j b hb => by
   obtain ⟨m1, m2⟩ := g5 c j b hb
   rcases m1 with m1 | hm
   ·refine ⟨⟨fun i hi hf => ?_, fun c' hc' e => ?_⟩, .inl (Nat.le_trans h.low m1), m2⟩
    ·obtain ⟨vi, hvi⟩ := Option.ne_none_iff_exists'.1 hi
     have := (h.ftlt i b (by rw [(hoff i _ hvi).1]; simp) hf).2
     have hm1 : w.heap.size ≤ b := m1
     omega
    ·exact (h.fresh m1).2 c' hc' e
   ·obtain ⟨p, hp, hpb⟩ := hin b hm
    refine ⟨⟨fun i hi hf => ?_, fun c' hc' e => ?_⟩, (h.ftlt p b (hlv p hp) hpb).1, m2⟩
    ·obtain ⟨vi, hvi⟩ := Option.ne_none_iff_exists'.1 hi
     obtain ⟨e1, e2⟩ := hoff i _ hvi
     exact h.disj i p b (by rw [e1]; simp) (hlv p hp) (fun e => e2 (e ▸ hp)) hf hpb
    ·exact h.boxft c' p hc' (hlv p hp) (by rw [e]; exact hpb)) g4
  rw [hd]
  refine k _ _ _ (?_ : Rel E N _ _ _ G')
  have hfin := k1.put hdN (v := ⟨tup, ansLs σ.nx rs⟩) (u := vval tup (List.zipWith (fun c us => cval c.1 us) (ansLs σ.nx rs) uss)) ⟨uss, g1.trans k3.symm, rfl, fun c ag xs us hc hu => ⟨(k4 c ag xs us hc hu).1, (k4 c ag xs us hc hu).2.2⟩⟩
  have hz : List.zipWith (fun r us => cval r.1 us) rs uss = List.zipWith (fun c us => cval c.1 us) (ansLs σ.nx rs) uss := by
   apply List.ext_getElem?
   intro c
   rw [List.getElem?_zipWith, List.getElem?_zipWith]
   cases hq : (ansLs σ.nx rs)[c]? with
   | none =>
    have : rs[c]? = none := by
     have k3' : (ansLs σ.nx rs).length = rs.length := k3
     rw [List.getElem?_eq_none_iff] at hq ⊢; omega
    rw [this]
   | some q =>
    obtain ⟨ag, xs'⟩ := q
    have k3' : (ansLs σ.nx rs).length = rs.length := k3
    have hcl : c < uss.length := by have := get_lt hq; omega
    obtain ⟨-, ⟨ts', hts⟩, -⟩ := k4 c ag xs' uss[c] hq (List.getElem?_eq_getElem hcl)
    rw [hts, List.getElem?_eq_getElem hcl]
  rw [hz]
  exact hfin
end Go.Proofs.Ytpnbnbhifpcelaa.V
/- Numbers within bounds: told by trees. -/
namespace Go.Proofs.Ytpnbnbhifpcelaa
open Go Go.RowKit V
set_option linter.unusedVariables false
set_option maxRecDepth 100000 in
set_option maxHeartbeats 2000000 in
theorem vin_s' (x lo hi : Int) : VC Try.prog 71 [(false, [.lit (.int .i64 (x))]), (false, [.lit (.int .i64 (lo))]), (false, [.lit (.int .i64 (hi))])] false [(false, [.lit (.bool (decide (lo ≤ x ∧ x ≤ hi)))])] := by
 refine VC.enter Try.func71 rfl Try.ntmps71 (gle rfl) fun E hE => ?_
 refine SV.seq' (SV.region ?_)
 refine sl 0 ms ?_
 refine SV.nil (SV.tn (SV.seq' (SV.region ?_)))
 refine sl 0 ms ?_
 refine sl 0 ms ?_
 refine sl 0 (s2 (.tmp 7) (.tmp 8)) ?_
 refine sl 0 ms ?_
 refine SV.split (d := 10) rfl (fun hg0 => ?_) (fun hg0 => ?_)
 ·skip   -- g0.T
  have h0 := hg0
  refine sy 0 ms ?_
  refine sy 0 ms ?_
  refine sy 0 (s2 (.tmp 11) (.tmp 12)) ?_
  refine sl 0 pt ?_
  refine sl 0 ms ?_
  refine SV.nil (SV.tn (SV.ret ?_))
  refine d1 (.sc _) Try.results71 ?_ <;> (refine lbq ?_; (simp at hg0; simp; omega))
 ·skip   -- g0.F
  have h0 := hg0
  refine sn ?_
  refine sn ?_
  refine sn ?_
  refine sl 0 pf ?_
  refine sl 0 ms ?_
  refine SV.nil (SV.tn (SV.ret ?_))
  refine d1 (.sc _) Try.results71 ?_ <;> (refine lbq ?_; (simp at hg0; simp; omega))
set_option maxRecDepth 100000 in
set_option maxHeartbeats 2000000 in
theorem vupto_i (x hi : Int) : VC Try.prog 75 [(false, [.lit (.int .i64 (x))]), (false, [.lit (.int .i64 (hi))])] false [(false, [.lit (.bool (decide (0 ≤ x ∧ x ≤ hi)))])] := by
 refine VC.enter Try.func75 rfl Try.ntmps75 (gle rfl) fun E hE => ?_
 refine SV.seq' (SV.region ?_)
 refine sl 0 ms ?_
 refine SV.nil (SV.tn (SV.seq' (SV.region ?_)))
 refine sl 0 ms ?_
 refine sl 0 (s2 (.tmp 5) (.const ((Value.int IntKind.i64 0)))) ?_
 refine sl 0 ms ?_
 refine SV.split (d := 7) rfl (fun hg0 => ?_) (fun hg0 => ?_)
 ·skip   -- g0.T
  have h0 := hg0
  refine sy 0 ms ?_
  refine sy 0 ms ?_
  refine sy 0 (s2 (.tmp 8) (.tmp 9)) ?_
  refine sl 0 pt ?_
  refine sl 0 ms ?_
  refine SV.nil (SV.tn (SV.ret ?_))
  refine d1 (.sc _) Try.results75 ?_ <;> (refine lbq ?_; (simp at hg0; simp; omega))
 ·skip   -- g0.F
  have h0 := hg0
  refine sn ?_
  refine sn ?_
  refine sn ?_
  refine sl 0 pf ?_
  refine sl 0 ms ?_
  refine SV.nil (SV.tn (SV.ret ?_))
  refine d1 (.sc _) Try.results75 ?_ <;> (refine lbq ?_; (simp at hg0; simp; omega))
end Go.Proofs.Ytpnbnbhifpcelaa
/- The reference's first least row, and a row dropped: told by trees. -/
namespace Go.Proofs.Ytpnbnbhifpcelaa
open Go Go.RowKit V
set_option linter.unusedVariables false
def idxI (l : List R) : Nat → Int
 | 0 => -1
 | t + 1 => (Runs.minAt l (t + 1) : Nat)
theorem idxI_end (l : List R) : idxI l l.length = Runs.idxMin l := by
 unfold Runs.idxMin
 cases l with
 | nil => rfl
 | cons x l => rw [if_neg (by simp)]; rfl
set_option maxRecDepth 100000 in
set_option maxHeartbeats 2000000 in
theorem vidx_s (l : List R) (hL : l.length ≤ 1000000000) : VC Try.prog 90 [(false, [.seq 72 ((l).map tRow)])] false [(false, [.lit (.int .i64 (Runs.idxMin l))])] := by
 refine VC.enter Try.func90 rfl Try.ntmps90 (gle rfl) fun E hE => ?_
 refine SV.seq' (SV.region ?_)
 refine sl 0 ms ?_
 refine SV.nil (SV.tn (SV.seq' (SV.region ?_)))
 refine sl 0 ms ?_
 refine SV.nil (SV.tn (SV.seq' (SV.seq' (SV.region ?_))))
 refine sl 0 ms ?_
 refine SV.nil (SV.tn (SV.block ?_))
 refine SV.loopF (X := Nat) (fun (σ : VS) t => ((((VS.nil.put 0 (σ.tm 0)).put 2 (σ.tm 2)).put 3 (V.flat false [.sc (.int .i64 (idxI l t))])).put 4 (V.flat false [.sc (.int .i64 ((t : Int)))]))) (fun t => t ≤ l.length) (fun t => l.length - t) ?_ ?_
 ·skip
  refine SV.again (fun i => [].getD i 0) 0 ((by first | exact Nat.zero_le _ | (refine ⟨Nat.zero_le _, ?_⟩; simp; done) | (simp; done) | omega)) (pins hE rfl rfl) (VS.le.mk' (le_put (le_put (le_put (le_put le_nil (V.le.keep (ag := false) (xs := [.ro _]) (ys := [.ro _]) rfl rfl ⟨rfl, trivial⟩)) (V.le.keep (ag := false) (xs := [.sc _]) (ys := [.sc _]) rfl rfl ⟨rfl, trivial⟩)) (V.le.keep (ag := false) (xs := [.sc _]) (ys := [.sc _]) rfl rfl ⟨(by first | rfl | (show Leaf.sc _ = Leaf.sc _; refine congrArg Leaf.sc ?_; first | rfl | go_num | (first | rw [hn] | rfl; first | done | rfl | go_num | (simp; done) | (simp; omega)) | (simp [cntAll]; done)) | (simp [cntAll]; done) | (simp; omega)), trivial⟩)) (V.le.keep (ag := false) (xs := [.sc _]) (ys := [.sc _]) rfl rfl ⟨(by first | rfl | (show Leaf.sc _ = Leaf.sc _; refine congrArg Leaf.sc ?_; first | rfl | go_num | (first | rw [hn] | rfl; first | done | rfl | go_num | (simp; done) | (simp; omega)) | (simp [cntAll]; done)) | (simp [cntAll]; done) | (simp; omega)), trivial⟩)) trivial trivial nil_ob (fun i j hi hj e => absurd hi (Nat.not_lt_zero i)))
 ·rintro t ht
  refine SV.seq' (SV.seq' (SV.region ?_))
  refine sl 0 ms ?_
  refine sl 0 (mv (V.one (.ro _))) ?_
  refine sl 0 (ok_len (lf := .ro _) rfl elt_impl_Row.und rfl rfl) ?_
  refine sl 0 (s2 (.tmp 5) (.tmp 7)) ?_
  refine SV.nil (SV.tn ?_)
  refine SV.cond rfl (fun hc0 => ?_) (fun hc0 => ?_)
  ·skip   -- c0.T
   have htl : t < l.length := by simpa using hc0
   refine SV.skip (SV.tn (SV.seq' (SV.block (SV.seq' ?_))))
   obtain rfl | ⟨u, rfl⟩ : t = 0 ∨ ∃ u, t = u + 1 := by cases t with | zero => exact .inl rfl | succ u => exact .inr ⟨u, rfl⟩
   ·skip
    obtain ⟨c, hx⟩ : ∃ c, l[0]? = some c := ⟨_, List.getElem?_eq_getElem htl⟩
    have hn : idxI l (0 + 1) = ((0 : Nat) : Int) := by show ((Runs.minAt l 1 : Nat) : Int) = _; rw [Runs.minAt_one]
    refine SV.draw [.q 0, .q 1, .q 2, .q 3, .q 4, .q 5, .q 6, .q 7, .q 8, .q 9, .q 10, .m 11, .q 12, .q 13] [] (by kernel_rfl) (by kernel_rfl) ?_
    refine dq rfl ms ?_
    refine dq rfl (s2 (.tmp 11) (.const ((Value.int IntKind.i64 0)))) ?_
    refine dq rfl ms ?_
    refine DW.split (d := 13) rfl (fun hg0 => ?_) (fun hg0 => ?_)
    ·skip   -- g0.T
     refine dn ?_
     refine dn ?_
     refine dn ?_
     refine dn ?_
     refine dn ?_
     refine dn ?_
     refine dn ?_
     refine dn ?_
     refine DW.mN rfl rfl rfl rfl (gle rfl) rfl rfl rfl (gle rfl) ?_
     refine dn ?_
     refine dq rfl pt ?_
     refine DW.stores ?_
     refine SV.zend ?_
     refine SV.tn ?_
     refine SV.cond rfl (fun hc1 => ?_) (fun hc1 => ?_)
     ·skip   -- c1.T
      refine SV.region ?_
      refine sl 0 ms ?_
      refine sl 0 ms ?_
      refine SV.nil (SV.bn (SV.tn (SV.region ?_)))
      refine sl 0 ms ?_
      refine sl 0 (s2 (.tmp 9) (.const ((Value.int IntKind.i64 1)))) ?_
      refine sl 0 ms ?_
      refine SV.nil (SV.tn ?_)
      refine SV.again (fun i => [].getD i 0) (0 + 1) (⟨by omega, by omega⟩) (pins hE rfl rfl) (VS.le.mk' (le_put (le_put (le_put (le_put le_nil (V.le.keep (ag := false) (xs := [.ro _]) (ys := [.ro _]) rfl rfl ⟨rfl, trivial⟩)) (V.le.keep (ag := false) (xs := [.sc _]) (ys := [.sc _]) rfl rfl ⟨rfl, trivial⟩)) (V.le.keep (ag := false) (xs := [.sc _]) (ys := [.sc _]) rfl rfl ⟨(by first | rfl | (show Leaf.sc _ = Leaf.sc _; refine congrArg Leaf.sc ?_; first | rfl | go_num | (first | rw [hn] | rfl; first | done | rfl | go_num | (simp; done) | (simp; omega)) | (simp [cntAll]; done)) | (simp [cntAll]; done) | (simp; omega)), trivial⟩)) (V.le.keep (ag := false) (xs := [.sc _]) (ys := [.sc _]) rfl rfl ⟨(by first | rfl | (show Leaf.sc _ = Leaf.sc _; refine congrArg Leaf.sc ?_; first | rfl | go_num | (first | rw [hn] | rfl; first | done | rfl | go_num | (simp; done) | (simp; omega)) | (simp [cntAll]; done)) | (simp [cntAll]; done) | (simp; omega)), trivial⟩)) trivial trivial nil_ob (fun i j hi hj e => absurd hi (Nat.not_lt_zero i)))
     ·skip   -- c1.F
      cases hc1
    ·skip   -- g0.F
     (exfalso; first | (have hc' : ((Runs.minAt l (u + 1) : Nat) : Int) < 0 := of_decide_eq_true hg0; omega) | exact of_decide_eq_false hg0 (by show (-1 : Int) < 0; decide))
   ·skip
    have hml : Runs.minAt l (u + 1) < u + 1 := Runs.minAt_lt (Nat.succ_pos u)
    obtain ⟨c, hx⟩ : ∃ c, l[u + 1]? = some c := ⟨_, List.getElem?_eq_getElem htl⟩
    obtain ⟨d, hy⟩ : ∃ d, l[Runs.minAt l (u + 1)]? = some d := ⟨_, List.getElem?_eq_getElem (by omega)⟩
    have hst := Runs.minAt_step hx hy
    refine SV.draw [.q 0, .q 1, .q 2, .q 3, .q 4, .q 5, .q 6, .q 7, .q 8, .q 9, .q 10, .m 11, .q 12, .q 13] [] (by kernel_rfl) (by kernel_rfl) ?_
    refine dq rfl ms ?_
    refine dq rfl (s2 (.tmp 11) (.const ((Value.int IntKind.i64 0)))) ?_
    refine dq rfl ms ?_
    refine DW.split (d := 13) rfl (fun hg1 => ?_) (fun hg1 => ?_)
    ·skip   -- g1.T
     (exfalso; first | (have hc' : ((Runs.minAt l (u + 1) : Nat) : Int) < 0 := of_decide_eq_true hg1; omega) | exact of_decide_eq_false hg1 (by show (-1 : Int) < 0; decide))
    ·skip   -- g1.F
     refine dy rfl (mv (V.one (.ro _))) ?_
     refine dy rfl ms ?_
     refine dy rfl (ok_index (n := 3) (lf := .ro _) rfl elt_impl_Row.und sz_impl_Row rfl rfl rfl (map_at hx)) ?_
     refine dy rfl (ok_load_rp (ag := true) (m := 3) (ys := [.sc _, .sc _, .sc _]) rfl rfl agg_impl_Row sz_impl_Row (fun h => by cases h) (gle rfl) rfl) ?_
     refine dy rfl (mv (V.one (.ro _))) ?_
     refine dy rfl ms ?_
     refine dy rfl (ok_index (n := 3) (lf := .ro _) rfl elt_impl_Row.und sz_impl_Row rfl rfl rfl (map_at hy)) ?_
     refine dy rfl (ok_load_rp (ag := true) (m := 3) (ys := [.sc _, .sc _, .sc _]) rfl rfl agg_impl_Row sz_impl_Row (fun h => by cases h) (gle rfl) rfl) ?_
     refine DW.m' [] rfl (cl [(false, [.sc _])] rfl Try.func73 (vcmp_t c d) ⟨⟨[.sc _, .sc _, .sc _], rfl, ⟨rfl, rfl, rfl, trivial⟩⟩, ⟨[.sc _, .sc _, .sc _], rfl, ⟨rfl, rfl, rfl, trivial⟩⟩, trivial⟩) (fun hr => wantedY hr rfl rfl rfl (gle rfl) rfl rfl) (gle rfl) (gle rfl) (.inl rfl) (fun j hj => by cases hj) ?_
     refine dy rfl (s2 (.tmp 22) (.const ((Value.int IntKind.i64 0)))) ?_
     refine dq rfl pf ?_
     refine DW.stores ?_
     refine SV.zend ?_
     refine SV.tn ?_
     refine SV.cond rfl (fun hc2 => ?_) (fun hc2 => ?_)
     ·skip   -- c2.T
      have hn : idxI l (u + 1 + 1) = ((u + 1 : Nat) : Int) := by show ((Runs.minAt l (u + 1 + 1) : Nat) : Int) = _; rw [hst, if_pos (by simpa using hc2)]
      refine SV.region ?_
      refine sl 0 ms ?_
      refine sl 0 ms ?_
      refine SV.nil (SV.bn (SV.tn (SV.region ?_)))
      refine sl 0 ms ?_
      refine sl 0 (s2 (.tmp 9) (.const ((Value.int IntKind.i64 1)))) ?_
      refine sl 0 ms ?_
      refine SV.nil (SV.tn ?_)
      refine SV.again (fun i => [].getD i 0) (u + 1 + 1) (⟨by omega, by omega⟩) (pins hE rfl rfl) (VS.le.mk' (le_put (le_put (le_put (le_put le_nil (V.le.keep (ag := false) (xs := [.ro _]) (ys := [.ro _]) rfl rfl ⟨rfl, trivial⟩)) (V.le.keep (ag := false) (xs := [.sc _]) (ys := [.sc _]) rfl rfl ⟨rfl, trivial⟩)) (V.le.keep (ag := false) (xs := [.sc _]) (ys := [.sc _]) rfl rfl ⟨(by first | rfl | (show Leaf.sc _ = Leaf.sc _; refine congrArg Leaf.sc ?_; first | rfl | go_num | (first | rw [hn] | rfl; first | done | rfl | go_num | (simp; done) | (simp; omega)) | (simp [cntAll]; done)) | (simp [cntAll]; done) | (simp; omega)), trivial⟩)) (V.le.keep (ag := false) (xs := [.sc _]) (ys := [.sc _]) rfl rfl ⟨(by first | rfl | (show Leaf.sc _ = Leaf.sc _; refine congrArg Leaf.sc ?_; first | rfl | go_num | (first | rw [hn] | rfl; first | done | rfl | go_num | (simp; done) | (simp; omega)) | (simp [cntAll]; done)) | (simp [cntAll]; done) | (simp; omega)), trivial⟩)) trivial trivial nil_ob (fun i j hi hj e => absurd hi (Nat.not_lt_zero i)))
     ·skip   -- c2.F
      have hn : idxI l (u + 1 + 1) = idxI l (u + 1) := by show ((Runs.minAt l (u + 1 + 1) : Nat) : Int) = ((Runs.minAt l (u + 1) : Nat) : Int); rw [hst, if_neg (by simpa using hc2)]
      refine SV.skip (SV.bn (SV.tn (SV.region ?_)))
      refine sl 0 ms ?_
      refine sl 0 (s2 (.tmp 9) (.const ((Value.int IntKind.i64 1)))) ?_
      refine sl 0 ms ?_
      refine SV.nil (SV.tn ?_)
      refine SV.again (fun i => [].getD i 0) (u + 1 + 1) (⟨by omega, by omega⟩) (pins hE rfl rfl) (VS.le.mk' (le_put (le_put (le_put (le_put le_nil (V.le.keep (ag := false) (xs := [.ro _]) (ys := [.ro _]) rfl rfl ⟨rfl, trivial⟩)) (V.le.keep (ag := false) (xs := [.sc _]) (ys := [.sc _]) rfl rfl ⟨rfl, trivial⟩)) (V.le.keep (ag := false) (xs := [.sc _]) (ys := [.sc _]) rfl rfl ⟨(by first | rfl | (show Leaf.sc _ = Leaf.sc _; refine congrArg Leaf.sc ?_; first | rfl | go_num | (first | rw [hn] | rfl; first | done | rfl | go_num | (simp; done) | (simp; omega)) | (simp [cntAll]; done)) | (simp [cntAll]; done) | (simp; omega)), trivial⟩)) (V.le.keep (ag := false) (xs := [.sc _]) (ys := [.sc _]) rfl rfl ⟨(by first | rfl | (show Leaf.sc _ = Leaf.sc _; refine congrArg Leaf.sc ?_; first | rfl | go_num | (first | rw [hn] | rfl; first | done | rfl | go_num | (simp; done) | (simp; omega)) | (simp [cntAll]; done)) | (simp [cntAll]; done) | (simp; omega)), trivial⟩)) trivial trivial nil_ob (fun i j hi hj e => absurd hi (Nat.not_lt_zero i)))
  ·skip   -- c0.F
   have hte : t = l.length := by simp at hc0; omega
   refine SV.exit (SV.te (SV.te (SV.bh (SV.tn (SV.seq' (SV.region ?_))))))
   refine sl 0 ms ?_
   refine sl 0 ms ?_
   refine SV.nil (SV.tn (SV.ret ?_))
   refine d1 (.sc _) Try.results90 ?_ <;> (refine liq ?_; rw [hte, idxI_end])
theorem erase_at2 (l : List R) (k : Nat) : l.eraseIdx k = l.take k ++ l.drop (k + 1) := List.eraseIdx_eq_take_drop_succ l k
set_option maxRecDepth 100000 in
set_option maxHeartbeats 2000000 in
theorem vdrop11_s (l : List R) (k : Nat) (hk : k < l.length) (hL : l.length ≤ 1000000000) : VC Try.prog 91 [(false, [.seq 72 ((l).map tRow)]), (false, [.lit (.int .i64 ((k : Nat)))])] false [(false, [.seq 72 ((l.eraseIdx k).map tRow)])] := by
 refine VC.enter Try.func91 rfl Try.ntmps91 (gle rfl) fun E hE => ?_
 refine SV.seq' (SV.region ?_)
 refine sl 0 ms ?_
 refine SV.nil (SV.tn (SV.seq' ?_))
 refine SV.draw [.q 1, .q 2, .q 3, .q 5, .q 6, .q 7, .q 8, .m 0, .m 4, .m 9, .q 10] [] (by kernel_rfl) (by kernel_rfl) ?_
 refine dq rfl (mv (V.one (.ro _))) ?_
 refine dq rfl ms ?_
 refine dq rfl (ok_slice (l := 0) (h := k) (lf := .ro _) (yy := .ro _) rfl rfl elt_impl_Row.und sz_impl_Row rfl rfl rfl ⟨_, rfl⟩ (by omega) (by simp; omega)) ?_
 refine dq rfl (mv (V.one (.ro _))) ?_
 refine dq rfl ms ?_
 refine dq rfl (ok_s2 (v := .int .i64 ((k + 1 : Nat) : Int)) (x := .tmp 11) (x' := .const ((Value.int IntKind.i64 1))) (VScal.one rfl) (VScal.one rfl) (fun ρ h1 h2 w => by go_simp; all_goals ((try go_bits); first | with_reducible rfl | go_num | (simp; done) | (simp; omega))) rfl) ?_
 refine dq rfl (ok_slice (l := k + 1) (h := (l.map tRow).length) (lf := .ro _) (yy := .ro _) rfl rfl elt_impl_Row.und sz_impl_Row rfl rfl ⟨_, rfl⟩ rfl (by simp; omega) (Nat.le_refl _)) ?_
 refine DW.m [0] rfl (ok_lit0 (kk := 0) elt_impl_Row rfl rfl rfl (gle rfl)) rfl (gle rfl) (gle rfl) (.inl rfl) (fun j hj => by
   simp only [List.mem_cons, List.not_mem_nil, or_false] at hj
   rcases hj with rfl
   ·exact .inr ⟨(gle rfl), (gle rfl), .inl rfl⟩) ?_
 refine DW.m [1, 0] rfl (ok_append_ro (kk := 1) elt_impl_Row (ls := .hd 0) (lx := .ro _) rfl rfl rfl rfl rfl rfl (flat_sub (flat_impl_Row _) _ _) (by simp; omega) rfl (gle rfl)) rfl (gle rfl) (gle rfl) (.inr ⟨0, rfl, .inl (by decide)⟩) (fun j hj => by
   simp only [List.mem_cons, List.not_mem_nil, or_false] at hj
   rcases hj with rfl | rfl
   ·exact .inr ⟨(gle rfl), (gle rfl), .inr ⟨0, rfl, by decide⟩⟩
   ·exact .inl (by decide)) ?_
 refine DW.m [2, 1, 0] rfl (ok_append_ro (kk := 2) elt_impl_Row (ls := .hd 1) (lx := .ro _) rfl rfl rfl rfl rfl rfl (flat_sub (flat_impl_Row _) _ _) (by simp; omega) rfl (gle rfl)) rfl (gle rfl) (gle rfl) (.inr ⟨1, rfl, .inl (by decide)⟩) (fun j hj => by
   simp only [List.mem_cons, List.not_mem_nil, or_false] at hj
   rcases hj with rfl | rfl | rfl
   ·exact .inr ⟨(gle rfl), (gle rfl), .inr ⟨1, rfl, by decide⟩⟩
   ·exact .inl (by decide)
   ·exact .inl (by decide)) ?_
 refine dq rfl (mv (V.one (.hd 2))) ?_
 refine DW.stores ?_
 refine SV.zend ?_
 refine SV.tn (SV.ret ?_)
 refine d1 (.hd 2) Try.results91 ?_ <;> (refine lsq ?_; rw [erase_at2 l k, List.take_length]; simp [List.map_take, List.map_drop])
end Go.Proofs.Ytpnbnbhifpcelaa
/- The reference's BuildRuns: told by trees. -/
namespace Go.Proofs.Ytpnbnbhifpcelaa
open Go Go.RowKit V
set_option linter.unusedVariables false
theorem later_at {cur : List R} {r d : R} (h : cur[cur.length - 1]? = some d) : Runs.later cur r = decide (R.cmp r d < 0) := by
 unfold Runs.later
 rw [List.getLast?_eq_getElem?, h]
theorem later_nil {cur : List R} {r : R} (h : cur.length = 0) : Runs.later cur r = false := by
 rw [List.eq_nil_of_length_eq_zero h]
 rfl
theorem idxMin_pos {l : List R} (h : 0 < l.length) : Runs.idxMin l = ((Runs.minAt l l.length : Nat) : Int) := by
 unfold Runs.idxMin
 rw [if_neg (by omega)]
end Go.Proofs.Ytpnbnbhifpcelaa
/- The reference's handing out: told by trees. -/
namespace Go.Proofs.Ytpnbnbhifpcelaa
open Go Go.RowKit V
set_option linter.unusedVariables false
def SorterD.outS (s : SorterD) : SorterD := match s.fHeap[Runs.minAt s.fHeap s.fHeap.length]? with
 | some r => SorterD.giveS s r
 | none => SorterD.swapS s
set_option maxRecDepth 100000 in
set_option maxHeartbeats 2000000 in
theorem vout_s (s : SorterD) (hW : s.Wf) : VX Try.prog 81 [(true, [.ln 0, .rd (.lit (.int .i64 s.fPos)), .ln 1, .ln 2, .ln 3, .ln 4, .rd (.lit (.int .i64 s.fLeftPos)), .rd (.lit (.int .i64 s.fRightPos)), .rd (.lit (.int .i64 s.fPhase)), .rd (.lit (.int .i64 s.fWritten))])] [.seq 72 ((s.fInput).map tRow), .seq 72 ((s.fHeap).map tRow), .seq 72 ((s.fDeferred).map tRow), .seq 72 ((s.fOutput).map tRow), .seq 84 (s.fRuns.map tRun)] false [(true, tSorter (SorterD.outS s))] := by
 refine VX.enter Try.func81 rfl Try.ntmps81 (gle rfl) fun E hE => ?_
 have hsz := hW.size
 refine SV.seq' (SV.region ?_)
 refine sm (ok_box (kk := 0) (ag := true) (xs := [.hd 0, .sc _, .hd 1, .hd 2, .hd 3, .hd 4, .sc _, .sc _, .sc _, .sc _]) rfl rfl rfl (fun h => by cases h) rfl rfl (gle rfl)) ?_
 refine sm (ok_alloc (kk := 1) (xs := [.nl _, .sc _, .nl _, .nl _, .nl _, .nl _, .sc _, .sc _, .sc _, .sc _]) rfl rfl zero_impl_Sorter ⟨rfl, ⟨3, by decide, sz_impl_Row⟩, rfl, rfl, rfl, ⟨3, by decide, sz_impl_Row⟩, rfl, ⟨3, by decide, sz_impl_Row⟩, rfl, ⟨3, by decide, sz_impl_Row⟩, rfl, ⟨1, by decide, sz_impl_Run⟩, rfl, rfl, rfl, rfl, rfl, rfl, rfl, rfl, trivial⟩ rfl (gle rfl)) ?_
 refine SV.nil (SV.tn (SV.seq' (SV.seq' (SV.region ?_))))
 refine sl 2 (fb fld_impl_Sorter_2) ?_
 refine sl 2 (lb 0 2 [.hd 1] agg_s_impl_Row sz_s_impl_Row (fun _ => rfl)) ?_
 refine sl 2 (ok_len (lf := .hd 1) rfl elt_impl_Row.und rfl rfl) ?_
 refine sl 2 (s2 (.tmp 6) (.const ((Value.int IntKind.i64 0)))) ?_
 refine SV.nil (SV.tn ?_)
 refine SV.cond rfl (fun hc0 => ?_) (fun hc0 => ?_)
 ·skip   -- c0.T
  have h0 : s.fHeap.length = 0 := by first | (simpa using hc0) | (simp at hc0; omega) | (simp at hc0; rw [hc0]; rfl)
  have ho : SorterD.outS s = ⟨s.fInput, s.fPos, s.fDeferred, [], [], s.fRuns ++ [s.fOutput], s.fLeftPos, s.fRightPos, s.fPhase, s.fWritten⟩ := by
   unfold SorterD.outS
   rw [List.getElem?_eq_none (by omega)]
   rfl
  refine SV.seq' (SV.region ?_)
  refine sl 2 (fb fld_impl_Sorter_5) ?_
  refine sl 2 (lb 0 5 [.hd 4] agg_s_impl_Run sz_s_impl_Run (fun _ => rfl)) ?_
  refine sl 2 (fb fld_impl_Sorter_4) ?_
  refine sl 2 (lb 0 4 [.hd 3] agg_s_impl_Row sz_s_impl_Row (fun _ => rfl)) ?_
  refine sl 2 (ok_build (zs := [.nl _]) (ys := [.hd 3]) (qs := [(0, [.hd 3])]) (pl := fun i => ([(0, 1)] : List (Nat × Nat))[i]?) rfl zero_impl_Run ⟨rfl, ⟨3, by decide, sz_impl_Row⟩, trivial⟩ ⟨⟨rfl, false, rfl, (fun _ => rfl), rfl⟩, trivial⟩ bld_impl_Run rfl) ?_
  refine sm (ok_lit1 (kk := 5) elt_impl_Run (ag := true) (xs := [.hd 3]) rfl rfl rfl rfl (fun h => by cases h) (outs_c rfl outs_n) (by simp [two]) rfl (gle rfl)) ?_
  refine sm (ok_append (kk := 6) elt_impl_Run (ls := .hd 4) (lx := .hd 5) rfl rfl rfl rfl rfl rfl (by intro i h1 h2; first | (cases h1; done) | (cases h1; cases h2)) (by first | omega | (simp only [List.length_map]; omega) | (simp; done) | (simp; omega)) rfl (gle rfl)) ?_
  refine sl 2 (fb fld_impl_Sorter_5) ?_
  refine so (st (ag := false) [.hd 6] [.hd 0, .sc _, .hd 1, .hd 2, .hd 3, .hd 6, .sc _, .sc _, .sc _, .sc _] sz_s_impl_Run (fun _ => rfl)) ?_
  refine SV.nil (SV.tn (SV.seq' (SV.region ?_)))
  refine sm (ok_lit0 (kk := 7) elt_impl_Row rfl rfl rfl (gle rfl)) ?_
  refine sl 2 (fb fld_impl_Sorter_4) ?_
  refine so (st (ag := false) [.hd 7] [.hd 0, .sc _, .hd 1, .hd 2, .hd 7, .hd 6, .sc _, .sc _, .sc _, .sc _] sz_s_impl_Row (fun _ => rfl)) ?_
  refine SV.nil (SV.tn (SV.seq' (SV.region ?_)))
  refine sl 2 (fb fld_impl_Sorter_3) ?_
  refine sl 2 (lb 0 3 [.hd 2] agg_s_impl_Row sz_s_impl_Row (fun _ => rfl)) ?_
  refine sl 2 (fb fld_impl_Sorter_2) ?_
  refine so (st (ag := false) [.hd 2] [.hd 0, .sc _, .hd 2, .hd 2, .hd 7, .hd 6, .sc _, .sc _, .sc _, .sc _] sz_s_impl_Row (fun _ => rfl)) ?_
  refine SV.nil (SV.tn (SV.seq' (SV.region ?_)))
  refine sm (ok_lit0 (kk := 8) elt_impl_Row rfl rfl rfl (gle rfl)) ?_
  refine sl 2 (fb fld_impl_Sorter_3) ?_
  refine so (st (ag := false) [.hd 8] [.hd 0, .sc _, .hd 2, .hd 8, .hd 7, .hd 6, .sc _, .sc _, .sc _, .sc _] sz_s_impl_Row (fun _ => rfl)) ?_
  refine SV.nil (SV.tn (SV.seq' (SV.region ?_)))
  refine sl 2 (lb 0 0 [.hd 0, .sc _, .hd 2, .hd 8, .hd 7, .hd 6, .sc _, .sc _, .sc _, .sc _] agg_impl_Sorter sz_impl_Sorter (fun h => by cases h)) ?_
  refine so (st (ag := true) [.hd 0, .sc _, .hd 2, .hd 8, .hd 7, .hd 6, .sc _, .sc _, .sc _, .sc _] [.hd 0, .sc _, .hd 2, .hd 8, .hd 7, .hd 6, .sc _, .sc _, .sc _, .sc _] sz_impl_Sorter (fun h => by cases h)) ?_
  refine SV.nil (SV.tn (SV.ret (SV.tr ?_)))
  apply SV.done (hf := Try.results81) (ht := rfl) (he := .inl rfl)
  case hr => exact (ResAll.cons (ResOk.cell (b := 1) (ag := true) (xs := [.hd 0, .sc _, .hd 2, .hd 8, .hd 7, .hd 6, .sc _, .sc _, .sc _, .sc _]) rfl rfl agg_impl_Sorter sz_impl_Sorter (fun h => by cases h)) ResAll.nil')
  case h2 => simp [two]
  refine ⟨rfl, ⟨?_, ?_, ?_, ?_, ?_, ?_, ?_, ?_, ?_, ?_, trivial⟩, trivial⟩ <;> first | rfl | (rw [ho]; first | done | rfl | ((refine lsq ?_; first | done | rfl | (simp [tRun]; done) | (simp [tRow]; done) | (simp; done))) | ((refine liq ?_; first | done | rfl)))
 ·skip   -- c0.F
  have hh : 0 < s.fHeap.length := by rcases Nat.eq_zero_or_pos s.fHeap.length with h | h; (exfalso; simp [h] at hc0); (exact h)
  have hk : Runs.minAt s.fHeap s.fHeap.length < s.fHeap.length := Runs.minAt_lt hh
  obtain ⟨r, hr⟩ : ∃ r, s.fHeap[Runs.minAt s.fHeap s.fHeap.length]? = some r := ⟨_, List.getElem?_eq_getElem hk⟩
  have ho : SorterD.outS s = ⟨s.fInput, s.fPos, s.fHeap.eraseIdx (Runs.minAt s.fHeap s.fHeap.length), s.fDeferred, s.fOutput ++ [r], s.fRuns, s.fLeftPos, s.fRightPos, s.fPhase, wrap64 (s.fWritten + r.cost)⟩ := by
   unfold SorterD.outS
   rw [hr]
   rfl
  have hvi := vidx_s s.fHeap (by omega)
  rw [idxMin_pos hh] at hvi
  refine SV.skip (SV.tn (SV.seq' (SV.region ?_)))
  refine sl 2 (fb fld_impl_Sorter_2) ?_
  refine sl 2 (lb 0 2 [.hd 1] agg_s_impl_Row sz_s_impl_Row (fun _ => rfl)) ?_
  refine sm (cl [(false, [.sc _])] rfl Try.func90 (hvi) ⟨⟨[.hd 1], rfl, ⟨rfl, trivial⟩⟩, trivial⟩) ?_
  refine sl 2 ms ?_
  refine SV.nil (SV.tn (SV.seq' ?_))
  refine SV.draw [.q 0, .q 1, .q 2, .q 3, .q 4, .q 5, .q 6, .m 7, .q 8, .q 9] [10] (by kernel_rfl) (by kernel_rfl) ?_
  refine dq rfl (fb fld_impl_Sorter_9) ?_
  refine dq rfl (lb 0 9 [.sc _] agg_int sz_int (fun _ => rfl)) ?_
  refine dq rfl (fb fld_impl_Sorter_2) ?_
  refine dq rfl (lb 0 2 [.hd 1] agg_s_impl_Row sz_s_impl_Row (fun _ => rfl)) ?_
  refine dq rfl ms ?_
  refine dq rfl (ok_index (n := 3) (lf := .hd 1) rfl elt_impl_Row.und sz_impl_Row rfl rfl rfl (map_at hr)) ?_
  refine DW.el (ag := true) (m := 3) (ys := [.sc _, .sc _, .sc _]) rfl rfl rfl (cells_ep rfl (map_at hr) rfl rfl) agg_impl_Row sz_impl_Row (fun h => by cases h) (gle rfl) rfl rfl rfl (gle rfl) (fun _ _ _ _ h => h) ?_
  refine DW.m [] rfl (cl [(false, [.sc _])] rfl Try.func80 (vcost_t r (hW.heap r (List.mem_of_getElem? hr))) ⟨⟨[.sc _, .sc _, .sc _], rfl, ⟨rfl, rfl, rfl, trivial⟩⟩, trivial⟩) rfl (gle rfl) (gle rfl) (.inl rfl) (fun j hj => by cases hj) ?_
  refine dq rfl (ok_s2 (v := .int .i64 (wrap64 (s.fWritten + r.cost))) (x := .tmp 28) (x' := .tmp 34) (VScal.one rfl) (VScal.one rfl) (fun ρ h1 h2 w => by go_simp; rw [IntWalk.i64_left]) rfl) ?_
  refine dq rfl (fb fld_impl_Sorter_9) ?_
  refine DW.stores ?_
  refine SV.z rfl (st (ag := false) [.sc _] [.hd 0, .sc _, .hd 1, .hd 2, .hd 3, .hd 4, .sc _, .sc _, .sc _, .sc _] sz_int (fun _ => rfl)) rfl ?_
  refine SV.zend ?_
  refine SV.tn (SV.seq' ?_)
  refine SV.draw [.q 0, .q 1, .q 2, .q 3, .q 4, .q 5, .q 6, .m 7, .m 8, .q 9] [10] (by kernel_rfl) (by kernel_rfl) ?_
  refine dq rfl (fb fld_impl_Sorter_4) ?_
  refine dq rfl (lb 0 4 [.hd 3] agg_s_impl_Row sz_s_impl_Row (fun _ => rfl)) ?_
  refine dq rfl (fb fld_impl_Sorter_2) ?_
  refine dq rfl (lb 0 2 [.hd 1] agg_s_impl_Row sz_s_impl_Row (fun _ => rfl)) ?_
  refine dq rfl ms ?_
  refine dq rfl (ok_index (n := 3) (lf := .hd 1) rfl elt_impl_Row.und sz_impl_Row rfl rfl rfl (map_at hr)) ?_
  refine DW.el (ag := true) (m := 3) (ys := [.sc _, .sc _, .sc _]) rfl rfl rfl (cells_ep rfl (map_at hr) rfl rfl) agg_impl_Row sz_impl_Row (fun h => by cases h) (gle rfl) rfl rfl rfl (gle rfl) (fun _ _ _ _ h => h) ?_
  refine DW.m [5] rfl (ok_lit1 (kk := 5) elt_impl_Row (ag := true) (xs := [.sc _, .sc _, .sc _]) rfl rfl rfl rfl (fun h => by cases h) (outs_c rfl (outs_c rfl (outs_c rfl outs_n))) (by simp [two]) rfl (gle rfl)) rfl (gle rfl) (gle rfl) (.inl rfl) (fun j hj => by
    simp only [List.mem_cons, List.not_mem_nil, or_false] at hj
    rcases hj with rfl
    ·exact .inr ⟨(gle rfl), (gle rfl), .inl rfl⟩) ?_
  refine DW.m [5] rfl (ok_append (kk := 6) elt_impl_Row (ls := .hd 3) (lx := .hd 5) rfl rfl rfl rfl rfl rfl (by intro i h1 h2; first | (cases h1; done) | (cases h1; cases h2)) (by first | omega | (simp only [List.length_map]; omega) | (simp; done) | (simp; omega)) rfl (gle rfl)) rfl (gle rfl) (gle rfl) (.inr ⟨3, rfl, .inr ⟨(gle rfl), rfl⟩⟩) (fun j hj => by
    simp only [List.mem_cons, List.not_mem_nil, or_false] at hj
    rcases hj with rfl
    ·exact .inl (by decide)) ?_
  refine dq rfl (fb fld_impl_Sorter_4) ?_
  refine DW.stores ?_
  refine SV.z rfl (st (ag := false) [.hd 6] [.hd 0, .sc _, .hd 1, .hd 2, .hd 6, .hd 4, .sc _, .sc _, .sc _, .sc _] sz_s_impl_Row (fun _ => rfl)) rfl ?_
  refine SV.zend ?_
  refine SV.tn (SV.seq' (SV.region ?_))
  refine sl 2 (fb fld_impl_Sorter_2) ?_
  refine sl 2 (lb 0 2 [.hd 1] agg_s_impl_Row sz_s_impl_Row (fun _ => rfl)) ?_
  refine sl 2 ms ?_
  refine sm (cl [(false, [.hd 7])] rfl Try.func91 (vdrop11_s s.fHeap (Runs.minAt s.fHeap s.fHeap.length) hk (by omega)) ⟨⟨[.hd 1], rfl, ⟨rfl, trivial⟩⟩, ⟨[.sc _], rfl, ⟨rfl, trivial⟩⟩, trivial⟩) ?_
  refine sl 2 (fb fld_impl_Sorter_2) ?_
  refine so (st (ag := false) [.hd 7] [.hd 0, .sc _, .hd 7, .hd 2, .hd 6, .hd 4, .sc _, .sc _, .sc _, .sc _] sz_s_impl_Row (fun _ => rfl)) ?_
  refine SV.nil (SV.tn (SV.seq' (SV.region ?_)))
  refine sl 2 (lb 0 0 [.hd 0, .sc _, .hd 7, .hd 2, .hd 6, .hd 4, .sc _, .sc _, .sc _, .sc _] agg_impl_Sorter sz_impl_Sorter (fun h => by cases h)) ?_
  refine so (st (ag := true) [.hd 0, .sc _, .hd 7, .hd 2, .hd 6, .hd 4, .sc _, .sc _, .sc _, .sc _] [.hd 0, .sc _, .hd 7, .hd 2, .hd 6, .hd 4, .sc _, .sc _, .sc _, .sc _] sz_impl_Sorter (fun h => by cases h)) ?_
  refine SV.nil (SV.tn (SV.ret ?_))
  apply SV.done (hf := Try.results81) (ht := rfl) (he := .inl rfl)
  case hr => exact (ResAll.cons (ResOk.cell (b := 1) (ag := true) (xs := [.hd 0, .sc _, .hd 7, .hd 2, .hd 6, .hd 4, .sc _, .sc _, .sc _, .sc _]) rfl rfl agg_impl_Sorter sz_impl_Sorter (fun h => by cases h)) ResAll.nil')
  case h2 => simp [two]
  refine ⟨rfl, ⟨?_, ?_, ?_, ?_, ?_, ?_, ?_, ?_, ?_, ?_, trivial⟩, trivial⟩ <;> first | rfl | (rw [ho]; first | done | rfl | ((refine lsq ?_; first | done | rfl | (simp [tRun]; done) | (simp [tRow]; done) | (simp; done))) | ((refine liq ?_; first | done | rfl)))
end Go.Proofs.Ytpnbnbhifpcelaa
/- States told by trees: functions that are handed the address of a box of their caller's, with slices of its own in it; their contracts, beginnings, answers and calls. -/
namespace Go.Proofs.Ytpnbnbhifpcelaa.V
open Go Go.RowKit
set_option linter.unusedVariables false
def Env.bx (w : World) (c : Nat) (F : Nat → Prop) (hc : c < w.heap.size) (hF : ∀ b, F b → b < w.heap.size) : Env := ⟨w, fun b => b = c ∨ F b, fun b h => h.elim (fun e => e ▸ hc) (hF b), fun _ => undef, 0, some c⟩
def Env.bx0 (w : World) (c : Nat) (F : Nat → Prop) (hc : c < w.heap.size) (hF : ∀ b, F b → b < w.heap.size) : Env := ⟨w, fun b => b = c ∨ F b, fun b h => h.elim (fun e => e ▸ hc) (hF b), fun _ => undef, 0, none⟩
def GivesH (E : Env) (c : Nat) (ty : TypeId) (ls : List T) (tup : Bool) (rs : List (Bool × List T)) (e : Ending) (w' : World) : Prop :=
 ∃ (us : List Value) (uss : List (List Value)) (F : Nat → Nat → Nat → Prop), w'.heap[c]? = some (.cells us.toArray ty (0, 0)) ∧ uss.length = rs.length ∧ e = .returned (vval tup (List.zipWith (fun r us => cval r.1 us) rs uss)) ∧
  (∀ (k : Nat) (ag : Bool) (ts : List T) (vs : List Value), ((false, ls) :: rs)[k]? = some (ag, ts) → (us :: uss)[k]? = some vs → vs.length = ts.length ∧ ∀ (j : Nat) (t : T) (u : Value), ts[j]? = some t → vs[j]? = some u → Own w' 0 t u (F k j)) ∧
  (∀ c1 j c2 j' b, F c1 j b → F c2 j' b → c1 = c2 ∧ j = j') ∧ (∀ c1 j b, F c1 j b → (E.B ≤ b ∨ E.ln b) ∧ b < w'.heap.size ∧ b ≠ c) ∧ Same E E.w0 w'
def VH (P : Program) (f : FuncId) (ty : TypeId) (ls : List T) (ins : List (Bool × List T)) (ls' : List T) (tup : Bool) (rs : List (Bool × List T)) : Prop :=
 ∀ (w : World) (c : Nat) (us : List Value) (F : Nat → Nat → Prop) (hc : c < w.heap.size) (hF : ∀ b, (∃ j, F j b) → b < w.heap.size) (vs : List Value),
  w.heap[c]? = some (.cells us.toArray ty (0, 0)) → us.length = ls.length → (∀ (j : Nat) (t : T) (u : Value), ls[j]? = some t → us[j]? = some u → Own w 0 t u (F j)) → (∀ i j b, F i b → F j b → i = j) → (∀ j b, F j b → b ≠ c) →
  ArgsIn (Env.bx w c (fun b => ∃ j, F j b) hc hF) w ins vs →
  Calls P f (Value.pointer (some ⟨c, 0, none⟩) :: vs).toArray w (GivesH (Env.bx w c (fun b => ∃ j, F j b) hc hF) c ty ls' tup rs)
variable {P : Program} {E : Env} {N : Nat} {σ σ' : VS} {o : Oper} {a : Act} {w : World} {G : Ghost}
theorem VH.enter {f : FuncId} {fn : Func} {c0 : Go.Code} {n : Nat} {ty : TypeId} {ls ls' : List T} {ins rs : List (Bool × List T)} {tup : Bool} (hf : P.funcs[f]? = some fn) (hb : fn.body = some c0) (hn : fn.ntmps = n) (hl : ins.length + 1 ≤ n)
  (h : ∀ (E : Env) (c : Nat), E.nl = 0 → E.pin = some c → SV E n ((ansS ⟨fun s => (V.one (.bp 0 0) :: ins.map fun p => V.flat p.1 (p.2.map argLeaf)).getD s (V.one .dead), [(ty, ls.map fun _ => .dead)], fun _ => none, 0⟩ ls).setb 0 ty (ansL 0 ls).1) (c0.wp P (bodyPost P fn (GivesH E c ty ls' tup rs)))) : VH P f ty ls ins ls' tup rs := fun w c us F hc hF vs hbox hus hown hdj hne hv => by
 refine calls_of_wp hf hb ?_
 have hv' : ArgsIn (Env.bx0 w c (fun b => ∃ j, F j b) hc hF) w ((false, [.any]) :: ins) (Value.pointer (some ⟨c, 0, none⟩) :: vs) := ⟨by simp [hv.1], fun c' ag ts v h1 h2 => by
  cases c' with
  | zero =>
   cases h1; cases h2
   refine ⟨[Value.pointer (some ⟨c, 0, none⟩)], rfl, rfl, fun j t u h3 h4 => ?_⟩
   match j, h3, h4 with
   | 0, h3, h4 => cases h3; cases h4; exact .any rfl
  | succ c' =>
   obtain ⟨us, e1, e2, e3⟩ := hv.2 c' ag ts v (by simpa using h1) (by simpa using h2)
   exact ⟨us, e1, e2, fun j t u h3 h4 => e3 j t u h3 h4⟩⟩
 obtain ⟨G0, h0'⟩ := init_rel (E := (Env.bx0 w c (fun b => ∃ j, F j b) hc hF)) (n := n) ⟨rfl, rfl⟩ hv' (by have := hv.1; simp; omega)
 have hone : ∀ (j : Nat) (u : Value), us[j]? = some u → u.oneCell' = true := fun j u hu => by
  have hj : j < ls.length := by rw [← hus]; exact get_lt hu
  exact (hown j ls[j] u (List.getElem?_eq_getElem hj) hu).one
 have base : Rel (Env.bx w c (fun b => ∃ j, F j b) hc hF) n ⟨fun s => (V.one (.bp 0 0) :: ins.map fun p => V.flat p.1 (p.2.map argLeaf)).getD s (V.one .dead), [(ty, ls.map fun _ => .dead)], fun _ => none, 0⟩ { tmps := (Value.pointer (some ⟨c, 0, none⟩) :: vs).toArray ++ Array.replicate (n - (Value.pointer (some ⟨c, 0, none⟩) :: vs).length) undef, defers := [] } w ⟨fun _ => c, fun _ => undef, fun _ _ => False⟩ := by
  refine ⟨Same.refl _ _, rfl, h0'.nsz, fun s => ?_, fun b ty' xs hb => ?_, fun b b' hb hb' _ => (by simp at hb hb'; omega), fun b i hb hi => absurd rfl hi, fun i v t hi => (by cases hi), fun i j b hi => absurd rfl hi, fun i b hi => absurd rfl hi, ⟨Nat.le_refl _, fun i hi => absurd hi (Nat.not_lt_zero i), fun c' hc' => ⟨by simp, Option.some.inj hc'⟩⟩⟩
  ·cases s with
   | zero =>
    have e0 : ((Value.pointer (some ⟨c, 0, none⟩) :: vs).toArray ++ Array.replicate (n - (Value.pointer (some ⟨c, 0, none⟩) :: vs).length) undef).getD 0 undef = Value.pointer (some ⟨c, 0, none⟩) := by
     simp only [Array.getD_eq_getD_getElem?]
     rw [Array.getElem?_append_left (by simp)]
     simp
    show VHolds _ _ _ _ (V.one (.bp 0 0)) _
    rw [e0]
    exact vone.2 ⟨⟨by simp, rfl⟩, .inr rfl⟩
   | succ s =>
    refine (h0'.tmps (s + 1)).step fun x u hx => ?_
    obtain ⟨h1, h2⟩ := hx
    refine ⟨?_, h2⟩
    cases x with
    | dead => trivial
    | sc v => exact h1
    | nl ty => exact h1
    | ro t => exact h1
    | rp es => exact h1
    | hd i => exact absurd h1.1 (Nat.not_lt_zero i)
    | nd i ver t loc => exact absurd h1.1 (Nat.not_lt_zero i)
    | np i ver es => exact absurd h1.1 (Nat.not_lt_zero i)
    | ep i k n o => exact absurd h1.1 (Nat.not_lt_zero i)
    | bp b o => exact absurd h1.1 (Nat.not_lt_zero b)
  ·have hb0 : b = 0 := by have := get_lt hb; simpa using this
   subst hb0
   cases hb
   refine ⟨.inr (.inl rfl), us, hbox, by simp [hus], fun j x u hj hu => ⟨?_, hone j u hu⟩⟩
   rw [List.getElem?_map] at hj
   obtain ⟨_, -, rfl⟩ := Option.map_eq_some_iff.1 hj
   exact ⟨trivial, .inl rfl⟩
 obtain ⟨G1, k1, k2, k3, k4, k5, k6, k7, k8, k9, k10, k11⟩ := Rel.addAll ls us F base hus hown (fun j b hb => ⟨⟨fun i hi => absurd rfl hi, fun c' hc' e => hne j b hb e.symm⟩, .inr (.inr ⟨j, hb⟩), hF b ⟨j, hb⟩⟩) hdj
 have k := k1.setbox (b := 0) (ty := ty) (xs := ls.map fun _ => .dead) (xs' := (ansL 0 ls).1) (us' := us) (w' := w) (by rw [k2]; rfl) (Same.refl _ _) (fun _ _ => rfl) (by rw [k10]; exact hbox) (hus.trans k7.symm) fun j x u hx hu => ⟨k8 j x u hx hu, hone j u hu⟩
 have h1 := h (Env.bx w c (fun b => ∃ j, F j b) hc hF) c rfl rfl _ _ _ k
 rw [hn]
 simpa using h1
theorem Rel.apart (h : Rel E N σ a w G) {b : Nat} {x x' : Leaf} (k1 : x.foot G b) (k2 : x'.foot G b) (k3 : ∃ t, σ.out x = some t) (k4 : ∃ t, σ.out x' = some t) : ¬ two x x' := fun k5 => by
 cases x with
 | hd i =>
  cases x' with
  | hd i' =>
   by_cases hii : i = i'
   ·exact k5 i rfl (by rw [hii])
   ·obtain ⟨t, k3⟩ := k3
    obtain ⟨t', k4⟩ := k4
    obtain ⟨p, e1, -⟩ := Option.map_eq_some_iff.1 k3
    obtain ⟨p', e2, -⟩ := Option.map_eq_some_iff.1 k4
    exact h.disj i i' b (by rw [e1]; simp) (by rw [e2]; simp) hii k1 k2
  | _ => exact k2
 | _ => exact k1
theorem Rel.foots (h : Rel E N σ a w G) {b : Nat} {x : Leaf} (k1 : x.foot G b) (k2 : ∃ t, σ.out x = some t) : ∃ i, x = .hd i ∧ σ.ob i ≠ none ∧ G.ft i b := by
 cases x with
 | hd i =>
  obtain ⟨t, k2⟩ := k2
  obtain ⟨p, e1, -⟩ := Option.map_eq_some_iff.1 k2
  exact ⟨i, rfl, by rw [e1]; simp, k1⟩
 | _ => exact k1.elim
theorem foot_inj (h : Rel E N σ a w G) {ys : List Leaf} (ho : ∀ x ∈ ys, ∃ t, σ.out x = some t) (h2 : ys.Pairwise two) {i j b : Nat} (hi : ∃ y, ys[i]? = some y ∧ y.foot G b) (hj : ∃ y, ys[j]? = some y ∧ y.foot G b) : i = j := by
 obtain ⟨x, x1, x2⟩ := hi
 obtain ⟨y, y1, y2⟩ := hj
 have hil := get_lt x1
 have hjl := get_lt y1
 have ex : ys[i] = x := by rw [List.getElem?_eq_getElem hil] at x1; exact Option.some.inj x1
 have ey : ys[j] = y := by rw [List.getElem?_eq_getElem hjl] at y1; exact Option.some.inj y1
 rcases Nat.lt_trichotomy i j with hij | hij | hij
 ·have := (List.pairwise_iff_getElem.1 h2) i j hil hjl hij
  rw [ex, ey] at this
  exact absurd this (h.apart x2 y2 (ho _ (get_mem x1)) (ho _ (get_mem y1)))
 ·exact hij
 ·have := (List.pairwise_iff_getElem.1 h2) j i hjl hil hij
  rw [ex, ey] at this
  exact absurd this (h.apart y2 x2 (ho _ (get_mem y1)) (ho _ (get_mem x1)))
theorem SV.doneH {fn : Func} {rvs : List ResultVar} {ps : List (Bool × List Leaf)} {tup : Bool} {ls : List T} {qs : List (Bool × List T)} {c : Nat} {ty : TypeId} {xs : List Leaf} (hpin : E.pin = some c) (hbx : σ.bs[0]? = some (ty, xs)) (hf : fn.results = rvs.toArray) (hr : ResAll P σ rvs ps) (hx : σ.outs xs ls) (ho : σ.outss ps qs) (ht : (!(Nat.beq qs.length 1)) = tup) (h2 : (xs :: ps.map (·.2)).flatten.Pairwise two) {e : Exit} (he : e = .ret ∨ e = .normal) : SV E N σ (bodyPost P fn (GivesH E c ty ls tup qs) e) := fun a w G h => by
 obtain ⟨uss, h3, h4, h5⟩ := h.resAll hr
 obtain ⟨h6, h7⟩ := outss_get ho
 have hrun := results_run hf h4
 have hlen : (List.zipWith (fun (p : Bool × List Leaf) us => cval p.1 us) ps uss).length = qs.length := by simp [h3, h6]
 have hzip : List.zipWith (fun (p : Bool × List Leaf) us => cval p.1 us) ps uss = List.zipWith (fun (q : Bool × List T) us => cval q.1 us) qs uss := by
  apply List.ext_getElem?
  intro c
  rw [List.getElem?_zipWith, List.getElem?_zipWith]
  cases hq : qs[c]? with
  | none =>
   have : ps[c]? = none := by rw [List.getElem?_eq_none_iff] at hq ⊢; omega
   rw [this]
  | some q =>
   obtain ⟨ag, ts⟩ := q
   obtain ⟨xs, hp, -⟩ := h7 c ag ts hq
   rw [hp]
   cases uss[c]? <;> rfl
 rw [hlen, ht, hzip] at hrun
 obtain ⟨hB, us0, b1, b2, b3⟩ := h.boxes 0 _ _ hbx
 obtain ⟨hb0, hβ⟩ := h.lent.2.2 c hpin
 obtain ⟨ps', hps⟩ : ∃ ps', ps' = (false, xs) :: ps := ⟨_, rfl⟩
 have hag : ∀ (k : Nat) (ag : Bool) (ts : List T), ((false, ls) :: qs)[k]? = some (ag, ts) → ∃ ys, ps'[k]? = some (ag, ys) ∧ σ.outs ys ts := fun k ag ts hk => by
  rw [hps]
  cases k with
  | zero => cases hk; exact ⟨xs, rfl, hx⟩
  | succ k => exact h7 k ag ts (by simpa using hk)
 have hl' : ps'.length = ((false, ls) :: qs).length := by rw [hps]; simp [h6]
 have h5' : ∀ (k : Nat) (ag : Bool) (ys : List Leaf) (us : List Value), ps'[k]? = some (ag, ys) → (us0 :: uss)[k]? = some us → us.length = ys.length ∧ ∀ (j : Nat) (x : Leaf) (u : Value), ys[j]? = some x → us[j]? = some u → Holds G σ E w x u := fun k ag ys us hk hu => by
  rw [hps] at hk
  cases k with
  | zero => cases hk; cases hu; exact ⟨b2, fun j x u h1 h2 => (b3 j x u h1 h2).1⟩
  | succ k => exact h5 k ag ys us (by simpa using hk) (by simpa using hu)
 have h2' : (ps'.flatMap (·.2)).Pairwise two := by rw [hps, List.flatMap_cons]; rw [List.flatten_cons] at h2; rw [List.flatMap_def]; exact h2
 have hout : ∀ {c j : Nat} {ag : Bool} {xs : List Leaf} {x : Leaf}, ps'[c]? = some (ag, xs) → xs[j]? = some x → ∃ t, σ.out x = some t := fun {c j ag xs x} k1 k2 => by
  have hc : c < ((false, ls) :: qs).length := by rw [← hl']; exact get_lt k1
  obtain ⟨xs', k3, k4⟩ := hag c ((false, ls) :: qs)[c].1 ((false, ls) :: qs)[c].2 (by rw [List.getElem?_eq_getElem hc])
  rw [k1] at k3
  cases k3
  obtain ⟨k5, k6⟩ := outs_get k4
  have hj : j < ((false, ls) :: qs)[c].2.length := by rw [← k5]; exact get_lt k2
  obtain ⟨y, k7, k8⟩ := k6 j ((false, ls) :: qs)[c].2[j] (List.getElem?_eq_getElem hj)
  rw [k2] at k7
  cases k7
  exact ⟨_, k8⟩
 have hpost : a.defers = [] ∧ ∃ v, (results fn a.tmps).run P w = .ok v w ∧ GivesH E c ty ls tup qs (.returned v) w := by
  refine ⟨h.dfr, _, hrun, us0, uss, (fun k j b => ∃ ag xs x, ps'[k]? = some (ag, xs) ∧ xs[j]? = some x ∧ x.foot G b), by rw [← hβ]; exact b1, h3.trans h6, rfl, fun k ag ts us hq hu => ?_, ?_, ?_, h.below⟩
  ·obtain ⟨xs, hp, hx⟩ := hag k ag ts hq
   obtain ⟨h8, h9⟩ := outs_get hx
   obtain ⟨h10, h11⟩ := h5' k ag xs us hp hu
   refine ⟨h10.trans h8, fun j t u hj hu' => ?_⟩
   obtain ⟨x, hx1, hx2⟩ := h9 j t hj
   exact (h.out (h11 j x u hx1 hu') hx2).mono fun b hb => ⟨ag, xs, x, hp, hx1, hb⟩
  ·rintro c j c' j' b ⟨ag, xs, x, h8, h9, h10⟩ ⟨ag', xs', x', h8', h9', h10'⟩
   rw [List.pairwise_flatMap] at h2'
   have o1 := hout h8 h9
   have o2 := hout h8' h9'
   have hc1 := get_lt h8
   have hc2 := get_lt h8'
   have g1 : ps'[c] = (ag, xs) := by rw [List.getElem?_eq_getElem hc1] at h8; exact Option.some.inj h8
   have g2 : ps'[c'] = (ag', xs') := by rw [List.getElem?_eq_getElem hc2] at h8'; exact Option.some.inj h8'
   have m1 := get_mem h9
   have m2 := get_mem h9'
   rcases Nat.lt_trichotomy c c' with hcc | hcc | hcc
   ·have := (List.pairwise_iff_getElem.1 h2'.2) c c' hc1 hc2 hcc x (by rw [g1]; exact m1) x' (by rw [g2]; exact m2)
    exact absurd this (h.apart h10 h10' o1 o2)
   ·subst hcc
    rw [h8] at h8'
    cases h8'
    refine ⟨rfl, foot_inj h (fun y hy => ?_) (h2'.1 _ (get_mem h8)) ⟨x, h9, h10⟩ ⟨x', h9', h10'⟩⟩
    obtain ⟨q, hq⟩ := List.getElem?_of_mem hy
    exact hout h8 hq
   ·have := (List.pairwise_iff_getElem.1 h2'.2) c' c hc2 hc1 hcc x' (by rw [g2]; exact m2) x (by rw [g1]; exact m1)
    exact absurd this (h.apart h10' h10 o2 o1)
  ·rintro c' j b ⟨ag, xs, x, h8, h9, h10⟩
   obtain ⟨i, -, hi, hf⟩ := h.foots h10 (hout h8 h9)
   refine ⟨(h.ftlt i b hi hf).1, (h.ftlt i b hi hf).2, fun e => ?_⟩
   subst e
   rw [← hβ] at hf
   exact h.boxft 0 i hb0 hi hf
 rcases he with rfl | rfl <;> exact hpost
theorem Rel.lose (h : Rel E N σ a w G) {b : Nat} {ty : TypeId} {ys : List Leaf} {us' : List Value} {w' : World} (hb : σ.bs[b]? = some (ty, ys)) (ho : ∀ x ∈ ys, ∃ t, σ.out x = some t) (hbel : Same E w w') (hblk : ∀ k, k < w.heap.size → k ≠ G.β b → ¬ (∃ x ∈ ys, x.foot G k) → w'.heap[k]? = w.heap[k]?) (hnew : w'.heap[G.β b]? = some (.cells us'.toArray ty (0, 0)))
  (hl : us'.length = ys.length) (h1 : ∀ (j : Nat) (u : Value), us'[j]? = some u → u.oneCell' = true) : Rel E N ((σ.kills ys).setb b ty (ys.map fun _ => .dead)) a w' G := by
 have hbl := get_lt hb
 obtain ⟨σ1, hσ⟩ : ∃ σ1, σ1 = (σ.kills ys).setb b ty (ys.map fun _ => .dead) := ⟨_, rfl⟩
 have hlive : ∀ (i : Nat) (v : Nat × T), σ1.ob i = some v → σ.ob i = some v ∧ ys.any (isHd i) = false := fun i v hv => by
  have h1 : (bif ys.any (isHd i) then none else σ.ob i) = some v := by rw [hσ] at hv; exact hv
  cases hc : ys.any (isHd i) with
  | true => rw [hc] at h1; cases h1
  | false => rw [hc] at h1; exact ⟨h1, rfl⟩
 have hliv : ∀ i, σ1.ob i ≠ none → σ.ob i ≠ none := fun i hi => by
  obtain ⟨v, hv⟩ := Option.ne_none_iff_exists'.1 hi
  rw [(hlive i v hv).1]; simp
 have hfar : ∀ (i : Nat) (v : Nat × T) (k : Nat), σ1.ob i = some v → G.ft i k → k < w.heap.size ∧ k ≠ G.β b ∧ ¬ ∃ x ∈ ys, x.foot G k := fun i v k hv hk => by
  obtain ⟨e1, e2⟩ := hlive i v hv
  have hi : σ.ob i ≠ none := by rw [e1]; simp
  refine ⟨(h.ftlt i k hi hk).2, fun e => h.boxft b i hbl hi (by rw [← e]; exact hk), fun ⟨x, hx, hf⟩ => ?_⟩
  obtain ⟨j, rfl, hj, hjk⟩ := h.foots hf (ho x hx)
  by_cases hij : i = j
  ·subst hij
   have : ys.any (isHd i) = true := List.any_eq_true.2 ⟨_, hx, Nat.beq_refl i⟩
   rw [e2] at this; cases this
  ·exact h.disj i j k hi hj hij hk hjk
 have hbs : σ1.bs = σ.bs.set b (ty, ys.map fun _ => .dead) := by rw [hσ]; rfl
 have hbn : σ1.bs.length = σ.bs.length := by rw [hbs]; simp
 have hnx : σ1.nx = σ.nx := by rw [hσ]; rfl
 have htm : σ1.tm = σ.tm := by rw [hσ]; rfl
 have s : Step E σ σ1 w w' G G := ⟨hbel.size, fun k hk => hbel.block k hk, by rw [hnx]; exact Nat.le_refl _, by rw [hbn]; exact Nat.le_refl _, fun _ _ => rfl, fun _ _ => rfl,
  fun i v' t' hi hv => ⟨v', t', (hlive i _ hv).1, Nat.le_refl _, fun _ => ⟨rfl, fun k hk => (hfar i _ k hv hk).1, fun k hk => ⟨hk, by obtain ⟨q1, q2, q3⟩ := hfar i _ k hv hk; exact hblk k q1 q2 q3⟩⟩⟩⟩
 rw [← hσ]
 refine ⟨h.below.trans hbel, h.dfr, h.nsz, fun k => by rw [htm]; exact (h.tmps k).step fun x u hx => h.leaf s hx, fun c ty' zs hc => ?_, fun c c' q1 q2 => h.inj c c' (by rw [← hbn]; exact q1) (by rw [← hbn]; exact q2), fun c i q1 q2 => h.boxft c i (by rw [← hbn]; exact q1) (hliv i q2), fun i v t hi => ?_, fun i j k q1 q2 => h.disj i j k (hliv i q1) (hliv j q2), fun i k q1 hk => ⟨(h.ftlt i k (hliv i q1) hk).1, Nat.lt_of_lt_of_le (h.ftlt i k (hliv i q1) hk).2 hbel.size⟩, ⟨by rw [hnx]; exact h.lent.1, h.lent.2.1, fun c hc => ⟨by rw [hbn]; exact (h.lent.2.2 c hc).1, (h.lent.2.2 c hc).2⟩⟩⟩
 ·rw [hbs] at hc
  by_cases hcb : b = c
  ·subst hcb
   have he : (ty, ys.map fun _ => Leaf.dead) = (ty', zs) := by simpa [hbl] using hc
   injection he with e1 e2
   subst e1 e2
   obtain ⟨q1, -⟩ := h.boxes b ty ys hb
   refine ⟨q1, us', hnew, by simp [hl], fun j x u hx hu => ⟨?_, h1 j u hu⟩⟩
   rw [List.getElem?_map] at hx
   obtain ⟨_, -, rfl⟩ := Option.map_eq_some_iff.1 hx
   exact ⟨trivial, .inl rfl⟩
  ·have hc' : σ.bs[c]? = some (ty', zs) := by rw [← hc]; exact (List.getElem?_set_ne hcb).symm
   obtain ⟨q1, us, q2, q3, q4⟩ := h.boxes c ty' zs hc'
   refine ⟨q1, us, (hblk _ (lt_of_block q2) (fun e => hcb (h.inj c b (get_lt hc') hbl e).symm) fun ⟨x, hx, hf⟩ => ?_).trans q2, q3, fun j x u hx hu => ⟨h.leaf s (q4 j x u hx hu).1, (q4 j x u hx hu).2⟩⟩
   obtain ⟨i, rfl, hi, hik⟩ := h.foots hf (ho x hx)
   exact h.boxft c i (get_lt hc') hi hik
 ·obtain ⟨q1, q2, q3⟩ := h.objs i v t (hlive i _ hi).1
  exact ⟨by rw [hnx]; exact q1, q2.frame fun k hk => by obtain ⟨e1, e2, e3⟩ := hfar i _ k hi hk; exact hblk k e1 e2 e3, q3⟩
def VS.argH : List Leaf → List T → Prop
 | [], [] => True
 | x :: xs, t :: ts => ((∃ u, t = .lit u ∧ x = .sc u) ∨ x = .ro t) ∧ VS.argH xs ts
 | _, _ => False
theorem argH_get : ∀ {xs : List Leaf} {ts : List T}, VS.argH xs ts → xs.length = ts.length ∧ ∀ (j : Nat) (t : T), ts[j]? = some t → ∃ x, xs[j]? = some x ∧ ((∃ u, t = .lit u ∧ x = .sc u) ∨ x = .ro t)
 | [], [], _ => ⟨rfl, fun j t h => by simp at h⟩
 | x :: xs, t :: ts, h => by
  obtain ⟨h1, h2⟩ := argH_get h.2
  refine ⟨by simp [h1], fun j s hj => ?_⟩
  cases j with
  | zero => cases hj; exact ⟨x, rfl, h.1⟩
  | succ j => exact h2 j s (by simpa using hj)
def VS.argsH (σ : VS) : List Operand → List (Bool × List T) → Prop
 | [], [] => True
 | x :: xs, q :: qs => (∃ ls, σ.ev x = V.flat q.1 ls ∧ VS.argH ls q.2) ∧ σ.argsH xs qs
 | _, _ => False
theorem Rel.argsH (h : Rel E N σ a w G) {E' : Env} (hold : ∀ b, E.old b → E'.old b) : ∀ {xs : List Operand} {qs : List (Bool × List T)}, σ.argsH xs qs → ArgsIn E' w qs (xs.map a.eval)
 | [], [], _ => ⟨rfl, fun c ag ts v hc => by simp at hc⟩
 | x :: xs, q :: qs, hq => by
  obtain ⟨⟨ls, h1, h2⟩, h3⟩ := hq
  obtain ⟨h4, h5⟩ := h.argsH hold h3
  refine ⟨by simpa using h4, fun c ag ts v hc hv' => ?_⟩
  cases c with
  | zero =>
   cases hc
   cases hv'
   have h6 := h.ev x
   rw [h1, vflat] at h6
   obtain ⟨us, h7, h8, h9⟩ := h6
   obtain ⟨h10, h11⟩ := argH_get h2
   refine ⟨us, h7, h8.trans h10, fun j t u hj hu => ?_⟩
   obtain ⟨y, h12, h13⟩ := h11 j t hj
   have h14 := h9 j y u h12 hu
   rcases h13 with ⟨z, rfl, rfl⟩ | rfl
   ·rcases h14.2 with h15 | h15
    ·cases h15
    ·have h16 : u = z := h14.1
     rw [h16] at h15 ⊢
     exact .lit h15
   ·have h16 : Inn E.old w t u := h14.1
    exact h16.frame (Nat.le_refl _) fun b hb _ => ⟨hold b hb, rfl⟩
  | succ c => exact h5 c ag ts v (by simpa using hc) (by simpa using hv')
theorem ansS_bsH : ∀ (ts : List T) (σ : VS), (ansS σ ts).bs = σ.bs
 | [], σ => rfl
 | .any :: ts, σ => ansS_bsH ts σ
 | .lit v :: ts, σ => ansS_bsH ts σ
 | .seq ty es :: ts, σ => ansS_bsH ts (σ.new (.seq ty es))
theorem ansSs_bsH : ∀ (qs : List (Bool × List T)) (σ : VS), (ansSs σ qs).bs = σ.bs
 | [], σ => rfl
 | (ag, ts) :: qs, σ => (ansSs_bsH qs (ansS σ ts)).trans (ansS_bsH ts σ)
theorem ok_callH {d b : Nat} {f : FuncId} {x0 : Operand} {xs : List Operand} {ats : Array TypeId} {ty : TypeId} {ls ls' : List T} {ins rs : List (Bool × List T)} {tup : Bool} {ys L0 : List Leaf} {L : List (Bool × List Leaf)} (hk : ansLs σ.nx ((false, ls') :: rs) = (false, L0) :: L) (ho : o.op = .call { callee := .value (.func f), args := (x0 :: xs).toArray, argTypes := ats }) (hb : ∃ fn c, P.funcs[f]? = some fn ∧ fn.body = some c ∧ fn.name ≠ "runtime.NumGoroutine")
  (hc : VH P f ty ls ins ls' tup rs) (hx0 : σ.ev x0 = V.one (.bp b 0)) (hbx : σ.bs[b]? = some (ty, ys)) (hys : σ.outs ys ls) (h2 : ys.Pairwise two) (hls : ls'.length = ys.length) (hx : σ.argsH xs ins) (hd : o.dst = some d) (hdN : d < N) :
  OpOk P E N σ o (((ansSs ((σ.kills ys).setb b ty (ys.map fun _ => .dead)) ((false, ls') :: rs)).setb b ty L0).put d ⟨tup, L⟩) :=
 fun a w G K Q h k => by
  obtain ⟨fn, c, h1, hb2, h2'⟩ := hb
  have hbl := get_lt hbx
  obtain ⟨hB, us0, b1, b2, b3⟩ := h.boxes b _ _ hbx
  obtain ⟨hy1, hy2⟩ := outs_get hys
  have hout : ∀ x ∈ ys, ∃ t, σ.out x = some t := fun x hx => by
   obtain ⟨j, hj⟩ := List.getElem?_of_mem hx
   have hjl : j < ls.length := by rw [← hy1]; exact get_lt hj
   obtain ⟨y, e1, e2⟩ := hy2 j ls[j] (List.getElem?_eq_getElem hjl)
   rw [hj] at e1
   cases e1
   exact ⟨_, e2⟩
  obtain ⟨F, hF⟩ : ∃ F : Nat → Nat → Prop, F = fun j k => ∃ y, ys[j]? = some y ∧ y.foot G k := ⟨_, rfl⟩
  have hFi : ∀ j k, F j k → ∃ i, Leaf.hd i ∈ ys ∧ σ.ob i ≠ none ∧ G.ft i k := fun j k hk => by
   rw [hF] at hk
   obtain ⟨y, e1, e2⟩ := hk
   obtain ⟨i, rfl, hi, hf⟩ := h.foots e2 (hout y (get_mem e1))
   exact ⟨i, get_mem e1, hi, hf⟩
  have hcl : G.β b < w.heap.size := lt_of_block b1
  have hFl : ∀ k, (∃ j, F j k) → k < w.heap.size := fun k ⟨j, hk⟩ => by
   obtain ⟨i, -, hi, hf⟩ := hFi j k hk
   exact (h.ftlt i k hi hf).2
  have hFb : ∀ j k, F j k → k ≠ G.β b := fun j k hk e => by
   obtain ⟨i, -, hi, hf⟩ := hFi j k hk
   exact h.boxft b i hbl hi (by rw [← e]; exact hf)
  have hnot : ∀ k, E.old k → k ≠ G.β b ∧ ¬ ∃ j, F j k := fun k hk => ⟨fun e => by
   subst e
   exact hB.elim (fun h1 => by have := hk.1; omega) hk.2, fun ⟨j, hj⟩ => by
   obtain ⟨i, -, hi, hf⟩ := hFi j k hj
   exact (h.ftlt i k hi hf).1.elim (fun h1 => by have := hk.1; omega) hk.2⟩
  have hcall := hc w (G.β b) us0 F hcl hFl (xs.map a.eval) b1 (b2.trans hy1) (fun j t u hj hu => by
   obtain ⟨y, e1, e2⟩ := hy2 j t hj
   rw [hF]
   exact (h.out (b3 j y u e1 hu).1 e2).mono fun k hk => ⟨y, e1, hk⟩) (fun i j k hi hj => by rw [hF] at hi hj; exact foot_inj h hout h2 hi hj) hFb (h.argsH (E' := Env.bx w (G.β b) (fun k => ∃ j, F j k) hcl hFl) (fun k hk => ⟨Nat.lt_of_lt_of_le hk.1 h.low, fun e => Or.elim e (hnot k hk).1 (hnot k hk).2⟩) hx)
  have hx0v : a.eval x0 = .pointer (some ⟨G.β b, 0, none⟩) := by
   have := h.ev x0
   rw [hx0, vone] at this
   exact this.1.2
  have hev : (x0 :: xs).map a.eval = Value.pointer (some ⟨G.β b, 0, none⟩) :: xs.map a.eval := by rw [List.map_cons, hx0v]
  have hrun : (execOp a.eval o).run P w = .ok (.enter f ((x0 :: xs).map a.eval).toArray) w := by
   simp [execOp, ho, resolve, Act.eval, Deferred.ofValue, invoke, callFunc, h1, hb2, h2', Result.andThen]
  unfold Oper.wp
  rw [hrun, hev]
  refine hcall.mono fun e w' ⟨us', uss, F', g0, g1, g2, g3, g4, g5, g6⟩ => ?_
  subst g2
  have hsame : Same E w w' := ⟨g6.os, g6.tape, g6.output, g6.size, fun k hk => g6.block k ⟨Nat.lt_of_lt_of_le hk.1 h.low, fun e => e.elim (hnot k hk).1 (hnot k hk).2⟩⟩
  obtain ⟨g7, g8⟩ := g3 0 false ls' us' rfl rfl
  have hone : ∀ (j : Nat) (u : Value), us'[j]? = some u → u.oneCell' = true := fun j u hu => by
   have hj : j < ls'.length := by rw [← g7]; exact get_lt hu
   exact (g8 j ls'[j] u (List.getElem?_eq_getElem hj) hu).one
  have k0 := h.lose (us' := us') (w' := w') hbx hout hsame (fun k hk hkb hkF => g6.block k ⟨hk, fun e => e.elim hkb fun ⟨j, hj⟩ => by
   rw [hF] at hj
   obtain ⟨y, e1, e2⟩ := hj
   exact hkF ⟨y, get_mem e1, e2⟩⟩) g0 (g7.trans hls) hone
  obtain ⟨σ1, hσ⟩ : ∃ σ1, σ1 = (σ.kills ys).setb b ty (ys.map fun _ => .dead) := ⟨_, rfl⟩
  rw [← hσ] at k0 k
  have hlive : ∀ i, σ1.ob i ≠ none → σ.ob i ≠ none ∧ ¬ Leaf.hd i ∈ ys := fun i hi => by
   have h1 : (bif ys.any (isHd i) then none else σ.ob i) ≠ none := by rw [hσ] at hi; exact hi
   cases hc : ys.any (isHd i) with
   | true => rw [hc] at h1; exact absurd rfl h1
   | false =>
    rw [hc] at h1
    refine ⟨h1, fun hm => ?_⟩
    have : ys.any (isHd i) = true := List.any_eq_true.2 ⟨_, hm, Nat.beq_refl i⟩
    rw [hc] at this; cases this
  have hbn : σ1.bs.length = σ.bs.length := by rw [hσ]; show (σ.bs.set b _).length = _; simp
  have hnx : σ1.nx = σ.nx := by rw [hσ]; rfl
  obtain ⟨G', k1, k2, k3, k4, k5, k6, k7, k8⟩ := k0.addAlls ((false, ls') :: rs) (us' :: uss) F' (by simp [g1]) g3 (fun q j k hk => by
   obtain ⟨e1, e2, e3⟩ := g5 q j k hk
   rcases e1 with e1 | e1 | ⟨j', hj'⟩
   ·have e1' : w.heap.size ≤ k := e1
    exact ⟨⟨fun i hi hf => (h.fresh e1').1 i (hlive i hi).1 hf, fun c' hc' => (h.fresh e1').2 c' (by rw [← hbn]; exact hc')⟩, .inl (Nat.le_trans h.low e1'), e2⟩
   ·exact absurd e1 e3
   ·obtain ⟨i, hm, hi, hf⟩ := hFi j' k hj'
    refine ⟨⟨fun i' hi' hf' => ?_, fun c' hc' e => ?_⟩, (h.ftlt i k hi hf).1, e2⟩
    ·obtain ⟨q1, q2⟩ := hlive i' hi'
     by_cases hii : i' = i
     ·subst hii; exact q2 hm
     ·exact h.disj i' i k q1 hi hii hf' hf
    ·exact h.boxft c' i (by rw [← hbn]; exact hc') hi (by rw [e]; exact hf)) g4
  rw [hnx, hk] at k3 k4
  have k3' : L.length = rs.length := by simpa using k3
  obtain ⟨m1, -, m3⟩ := k4 0 false L0 us' rfl rfl
  have hbs1 : (ansSs σ1 ((false, ls') :: rs)).bs[b]? = some (ty, ys.map fun _ => .dead) := by
   rw [ansSs_bsH, hσ]
   show (σ.bs.set b _)[b]? = _
   rw [List.getElem?_set_self hbl]
  have r1 := k1.setbox (xs' := L0) (us' := us') (w' := w') hbs1 (Same.refl _ _) (fun _ _ => rfl) (by rw [k7]; exact g0) m1 fun j x u hx hu => ⟨m3 j x u hx hu, hone j u hu⟩
  rw [hd]
  have hup : ∀ x u, Holds G' (ansSs σ1 ((false, ls') :: rs)) E w' x u → Holds G' ((ansSs σ1 ((false, ls') :: rs)).setb b ty L0) E w' x u := fun x u hx => by
   refine ⟨?_, hx.2⟩
   have hx1 := hx.1
   cases x with
   | bp b' o' => exact ⟨by show b' < ((ansSs σ1 ((false, ls') :: rs)).bs.set b (ty, L0)).length; rw [List.length_set]; exact hx1.1, hx1.2⟩
   | _ => exact hx1
  refine k _ _ _ (r1.put hdN ⟨uss, g1.trans k3'.symm, ?_, fun q ag zs us hq hu => ?_⟩)
  ·congr 1
   apply List.ext_getElem?
   intro q
   rw [List.getElem?_zipWith, List.getElem?_zipWith]
   cases hq : L[q]? with
   | none =>
    have : rs[q]? = none := by rw [List.getElem?_eq_none_iff] at hq ⊢; omega
    rw [this]
   | some p =>
    obtain ⟨ag, xs'⟩ := p
    have hcl : q < uss.length := by have := get_lt hq; omega
    obtain ⟨-, ⟨ts, hts⟩, -⟩ := k4 (q + 1) ag xs' uss[q] (by simpa using hq) (by simp [hcl])
    have hts' : rs[q]? = some (ag, ts) := by simpa using hts
    rw [hts', List.getElem?_eq_getElem hcl]
  ·obtain ⟨e1, -, e3⟩ := k4 (q + 1) ag zs us (by simpa using hq) (by simpa using hu)
   exact ⟨e1, fun j x u hj hu' => hup x u (e3 j x u hj hu')⟩
theorem ok_nilcheckB {nb : Nat} {x : Operand} {b q : Nat} (ho : o.op = .nilCheck x) (hx : σ.ev x = V.one (.bp b q)) : OpL P E N nb σ o (V.one (.bp b q)) :=
 fun a w G h => ⟨a.eval x, fun v' _ => by
  have h0 := h.ev x
  rw [hx, vone] at h0
  obtain ⟨⟨-, h1⟩, -⟩ := h0
  simp [execOp, ho, h1], by rw [← hx]; exact h.ev x⟩
end Go.Proofs.Ytpnbnbhifpcelaa.V
/- States told by trees: all but the first elements of a slice of the call's own, appended to: what comes of it may only be read, and lies in a vault. -/
namespace Go.Proofs.Ytpnbnbhifpcelaa.V
open Go Go.RowKit
set_option linter.unusedVariables false
/-! ### Memory -/
def tailV (g k c m n : Nat) : Value := .slice (some (if c = m then ⟨g, 0, none⟩ else ⟨g, m * n, none⟩)) (k - m) (c - m)
end Go.Proofs.Ytpnbnbhifpcelaa.V
/- States told by trees: answers that may only be read, without a cursor; what is appended behind all but the first elements of a slice. -/
namespace Go.Proofs.Ytpnbnbhifpcelaa.V
open Go Go.RowKit
set_option linter.unusedVariables false
variable {P : Program} {E : Env} {N nb : Nat} {σ σ' τ : VS} {o : Oper} {a : Act} {w : World} {G : Ghost} {Q : Exit → Act → World → Prop} {K : Act → World → Prop}
def inLeafR (i : Nat) : T → Leaf
 | .lit u => .sc u
 | .any => .dead
 | .seq ty es => .nd i 0 (.seq ty es) none
def inLsR (i : Nat) (rs : List (Bool × List T)) : List (Bool × List Leaf) := rs.map fun r => (r.1, r.2.map (inLeafR i))
def GivesR (ok : Nat → Prop) (tup : Bool) (rs : List (Bool × List T)) (e : Ending) (w' : World) : Prop :=
 ∃ uss : List (List Value), uss.length = rs.length ∧ e = .returned (vval tup (List.zipWith (fun r us => cval r.1 us) rs uss)) ∧
  ∀ (c : Nat) (ag : Bool) (ts : List T) (us : List Value), rs[c]? = some (ag, ts) → uss[c]? = some us → us.length = ts.length ∧ ∀ (j : Nat) (t : T) (u : Value), ts[j]? = some t → us[j]? = some u → Inn ok w' t u
def NewlyR (w w' : World) (b : Nat) : Prop := w.heap.size ≤ b ∧ b < w'.heap.size
/-! ### Answers -/
def VS.mayR (σ : VS) : Leaf → Option T
 | .sc u => some (.lit u)
 | .nl ty => some (.seq ty [])
 | .hd i => (σ.ob i).map (·.2)
 | .nd i ver t _ => (σ.ob i).bind fun p => bif Nat.beq p.1 ver then some t else none
 | _ => none
def VS.maysR (σ : VS) : List Leaf → List T → Prop
 | [], [] => True
 | x :: xs, t :: ts => σ.mayR x = some t ∧ σ.maysR xs ts
 | _, _ => False
def VS.mayssR (σ : VS) : List (Bool × List Leaf) → List (Bool × List T) → Prop
 | [], [] => True
 | p :: ps, q :: qs => p.1 = q.1 ∧ σ.maysR p.2 q.2 ∧ σ.mayssR ps qs
 | _, _ => False
theorem Rel.mayR (h : Rel E N σ a w G) {x : Leaf} {u : Value} {t : T} (hx : Holds G σ E w x u) (ht : σ.mayR x = some t) : Inn (fun b => ∃ i, σ.ob i ≠ none ∧ G.ft i b) w t u := by
 have key : ∀ i, x.okIn G E = G.ft i → σ.tr x = some t → σ.ob i ≠ none → Inn (fun b => ∃ i, σ.ob i ≠ none ∧ G.ft i b) w t u := fun i h1 h2 h3 =>
  (h.tree hx h2).frame (Nat.le_refl _) fun b hb _ => ⟨⟨i, h3, by rw [← h1]; exact hb⟩, rfl⟩
 cases x with
 | sc v =>
  have := h.tree (t := .lit v) hx rfl
  cases ht
  cases this with
  | lit hv => exact .lit hv
 | nl ty =>
  have := h.tree (t := .seq ty []) hx rfl
  cases ht
  cases this with
  | seq n hp hz hn hc hm h0 b o us ha hb hcell hr => exact Inn.seq (es := []) n hp hz hn hc hm h0 b o us ha (fun h => absurd rfl h) hcell (fun k e j t h => by simp at h)
 | hd i => exact key i rfl ht (fun e => by simp [VS.mayR, e] at ht)
 | nd i ver s loc => exact key i rfl ht (fun e => by simp [VS.mayR, e] at ht)
 | _ => cases ht
theorem GivesR.mono {ok ok' : Nat → Prop} {tup : Bool} {rs : List (Bool × List T)} {e : Ending} (h : GivesR ok tup rs e w) (hk : ∀ b, ok b → b < w.heap.size → ok' b) : GivesR ok' tup rs e w := by
 obtain ⟨uss, h1, h2, h3⟩ := h
 exact ⟨uss, h1, h2, fun c ag ts us hc hu => ⟨(h3 c ag ts us hc hu).1, fun j t u hj hu' => ((h3 c ag ts us hc hu).2 j t u hj hu').frame (Nat.le_refl _) fun b hb hl => ⟨hk b hb hl, rfl⟩⟩⟩
def VCR (P : Program) (f : FuncId) (ins : List (Bool × List T)) (tup : Bool) (rs : List (Bool × List T)) : Prop := ∀ (w : World) (vs : List Value), ArgsIn (Env.of w) w ins vs → Calls P f vs.toArray w fun e w' => GivesR (NewlyR w w') tup rs e w' ∧ Below w.heap.size w w'
theorem VCR.enter {f : FuncId} {fn : Func} {c : Go.Code} {n : Nat} {ins rs : List (Bool × List T)} {tup : Bool} (hf : P.funcs[f]? = some fn) (hb : fn.body = some c) (hn : fn.ntmps = n) (hl : ins.length ≤ n)
  (h : ∀ E, E.plain 0 → (∀ b, ¬ E.ln b) → SV E n (VS.init (ins.map fun p => V.flat p.1 (p.2.map argLeaf))) (c.wp P (bodyPost P fn fun e w' => GivesR (NewlyR E.w0 w') tup rs e w' ∧ Below E.w0.heap.size E.w0 w'))) : VCR P f ins tup rs := fun w vs hv => by
 refine calls_of_wp hf hb ?_
 obtain ⟨G, hG⟩ := init_rel (E := Env.of w) ⟨rfl, rfl⟩ (n := n) hv (by rw [hv.1]; exact hl)
 have := h (Env.of w) ⟨rfl, rfl⟩ (fun _ h => h) _ _ G hG
 rw [hn]
 have e : (Env.of w).w0 = w := rfl
 rw [e] at this
 simpa using this
/-! ### A named slice without its first elements -/
theorem nameR (h : Rel E N σ a w G) (L : Nat → Value) (hL : ∀ i, i < σ.nx → G.vl i = L i) : Rel { E with lv := L, nl := σ.nx } N σ a w G :=
 ⟨⟨h.below.os, h.below.tape, h.below.output, h.below.size, h.below.block⟩, h.dfr, h.nsz, h.tmps, h.boxes, h.inj, h.boxft, h.objs, h.disj, h.ftlt, ⟨Nat.le_refl _, hL, h.lent.2.2⟩⟩
end Go.Proofs.Ytpnbnbhifpcelaa.V
/- States told by trees: a call that hands its argument's cells on: what was known of them is known of the answer's. -/
namespace Go.Proofs.Ytpnbnbhifpcelaa.V
open Go Go.RowKit
set_option linter.unusedVariables false
variable {P : Program} {E : Env} {N nb : Nat} {σ σ' τ : VS} {o : Oper} {a : Act} {w : World} {G : Ghost}
theorem inn_len {ok : Nat → Prop} {w : World} {ty : TypeId} {es : List (List T)} {u : Value} (h : Inn ok w (.seq ty es) u) : ∃ (ad : Option Addr) (c : Nat), u = .slice ad es.length c := by
 cases h with
 | seq n hp hz hn hc hm h0 b o us ha hb hcell hr => exact ⟨_, _, rfl⟩
theorem own_lit {w : World} {B : Nat} {u v : Value} {F : Nat → Prop} (h : Own w B (.lit v) u F) : u = v := by
 cases h with
 | lit h => rfl
theorem ok_callPass {d : Nat} {f : FuncId} {x : Operand} {ats : Array TypeId} {ls ys : List Leaf} {g : List Value → List Value} (ho : o.op = .call { callee := .value (.func f), args := [x].toArray, argTypes := ats }) (hb : ∃ fn c, P.funcs[f]? = some fn ∧ fn.body = some c ∧ fn.name ≠ "runtime.NumGoroutine")
  (hx : σ.ev x = V.flat true ls) (hl : ∀ l ∈ ls, l ≠ .dead)
  (hc : ∀ us : List Value, us.length = ls.length → (∀ (j : Nat) (l : Leaf) (u : Value) (ty : TypeId) (es : List (List T)), ls[j]? = some l → σ.tr l = some (.seq ty es) → us[j]? = some u → ∃ (ad : Option Addr) (c : Nat), u = .slice ad es.length c) →
   VC P f [(true, us.map .lit)] false [(true, (g us).map .lit)] ∧ (g us).length = ys.length ∧ ∀ (j : Nat) (y : Leaf) (u : Value), ys[j]? = some y → (g us)[j]? = some u → (∃ i : Nat, ls[i]? = some y ∧ us[i]? = some u) ∨ (y = .sc u ∧ u.oneCell' = true))
  (hd : o.dst = some d) (hdN : d < N) : OpMk P E N none σ o (σ.put d (V.flat true ys)) :=
 fun a w G K Q h k => by
  have hv := h.ev x
  rw [hx, vflat] at hv
  obtain ⟨us, e1, e2, e3⟩ := hv
  obtain ⟨hvc, hgl, hg⟩ := hc us e2 fun j l u ty es hj ht hu => inn_len (h.tree (e3 j l u hj hu) ht)
  have hone : ∀ (j : Nat) (u : Value), us[j]? = some u → u.oneCell' = true := fun j u hu => by
   have hj : j < ls.length := by rw [← e2]; exact get_lt hu
   rcases (e3 j ls[j] u (List.getElem?_eq_getElem hj) hu).2 with h1 | h1
   ·exact absurd h1 (hl _ (List.getElem_mem hj))
   ·exact h1
  obtain ⟨fn, c, h1, h2, h2'⟩ := hb
  have hcall := hvc w [a.eval x] ⟨rfl, fun c ag ts v hc hv => by
   match c, hc, hv with
   | 0, hc, hv =>
    cases hc; cases hv
    refine ⟨us, e1, by simp, fun j t u hj hu => ?_⟩
    rw [List.getElem?_map, hu] at hj
    cases hj
    exact .lit (hone j u hu)⟩
  have hrun : (execOp a.eval o).run P w = .ok (.enter f ([x].map a.eval).toArray) w := by
   simp [execOp, ho, resolve, Act.eval, Deferred.ofValue, invoke, callFunc, h1, h2, h2', Result.andThen]
  unfold Oper.wp
  rw [hrun]
  refine hcall.mono fun e w' ⟨uss, F, h3, h4, h5, h6, h6', h7'⟩ => ?_
  have h7 : Below w.heap.size w w' := ⟨h7'.os, h7'.tape, h7'.output, h7'.size, fun k hk => h7'.block k (Env.of_old.2 hk)⟩
  subst h4
  have h' := h.ext h7
  match uss, h3 with
  | [vs], _ =>
   obtain ⟨q1, q2⟩ := h5 0 true _ vs rfl rfl
   have hvs : vs = g us := by
    apply List.ext_getElem?
    intro j
    rcases Nat.lt_or_ge j (g us).length with hj | hj
    ·have hj' : j < vs.length := by rw [q1]; simpa using hj
     have q3 := q2 j (.lit (g us)[j]) vs[j] (by simp [hj]) (List.getElem?_eq_getElem hj')
     rw [List.getElem?_eq_getElem hj', List.getElem?_eq_getElem hj]
     exact congrArg some (own_lit q3)
    ·rw [List.getElem?_eq_none hj, List.getElem?_eq_none (by rw [q1]; simpa using hj)]
   subst hvs
   rw [hd]
   refine k _ _ _ (h'.put hdN (vflat.2 ⟨g us, rfl, hgl, fun j y u hj hu => ?_⟩)) ⟨h7.size, .of_below (h7.mono h.low), fun _ _ => rfl, fun b _ => rfl, fun b hb => .inl (h7.block b hb), fun i e1 e2 => absurd e2 (Nat.not_lt.2 e1)⟩
   have hold : ∀ l u, Holds G σ E w l u → Holds G σ E w' l u := fun l u hh => h.leaf ⟨h7.size, fun b hb => h7.block b (Nat.lt_of_lt_of_le hb.1 h.low), Nat.le_refl _, Nat.le_refl _, fun _ _ => rfl, fun _ _ => rfl, fun i v' t' hi hv => ⟨v', t', hv, Nat.le_refl _, fun _ => ⟨rfl, fun b hb => (h.ftlt i b (by rw [hv]; simp) hb).2, fun b hb => ⟨hb, h7.block b (h.ftlt i b (by rw [hv]; simp) hb).2⟩⟩⟩⟩ hh
   rcases hg j y u hj hu with ⟨i, hi, hui⟩ | ⟨rfl, ho1⟩
   ·exact hold y u (e3 i y u hi hui)
   ·exact ⟨rfl, .inr ho1⟩
end Go.Proofs.Ytpnbnbhifpcelaa.V
/- The reference's change of phase: cells handed on: told by trees. -/
namespace Go.Proofs.Ytpnbnbhifpcelaa
open Go Go.RowKit V
set_option linter.unusedVariables false
set_option maxRecDepth 100000 in
set_option maxHeartbeats 2000000 in
theorem vturn_s (u0 u1 u2 u3 u4 u6 u7 u8 u9 : Value) (a : Option Addr) (k c : Nat) : VC Try.prog 82 [(true, [.lit u0, .lit u1, .lit u2, .lit u3, .lit u4, .lit (.slice a k c), .lit u6, .lit u7, .lit u8, .lit u9])] false [(true, [.lit u0, .lit u1, .lit u2, .lit u3, .lit u4, .lit (.slice a k c), .lit (.int .i64 0), .lit (.int .i64 0), .lit (.int .i64 (if k = 0 then 4 else if k = 1 then 3 else 2)), .lit u9])] := by
 refine VC.enter Try.func82 rfl Try.ntmps82 (gle rfl) fun E hE => ?_
 refine SV.seq' (SV.region ?_)
 refine sm (ok_box (kk := 0) (ag := true) (xs := [.sc _, .sc _, .sc _, .sc _, .sc _, .sc _, .sc _, .sc _, .sc _, .sc _]) rfl rfl rfl (fun h => by cases h) rfl rfl (gle rfl)) ?_
 refine sm (ok_alloc (kk := 1) (xs := [.nl _, .sc _, .nl _, .nl _, .nl _, .nl _, .sc _, .sc _, .sc _, .sc _]) rfl rfl zero_impl_Sorter ⟨rfl, ⟨3, by decide, sz_impl_Row⟩, rfl, rfl, rfl, ⟨3, by decide, sz_impl_Row⟩, rfl, ⟨3, by decide, sz_impl_Row⟩, rfl, ⟨3, by decide, sz_impl_Row⟩, rfl, ⟨1, by decide, sz_impl_Run⟩, rfl, rfl, rfl, rfl, rfl, rfl, rfl, rfl, trivial⟩ rfl (gle rfl)) ?_
 refine SV.nil (SV.tn (SV.seq' (SV.region ?_)))
 refine sl 2 (fb fld_impl_Sorter_6) ?_
 refine so (st (ag := false) [.sc _] [.sc _, .sc _, .sc _, .sc _, .sc _, .sc _, .sc _, .sc _, .sc _, .sc _] sz_int (fun _ => rfl)) ?_
 refine SV.nil (SV.tn (SV.seq' (SV.region ?_)))
 refine sl 2 (fb fld_impl_Sorter_7) ?_
 refine so (st (ag := false) [.sc _] [.sc _, .sc _, .sc _, .sc _, .sc _, .sc _, .sc _, .sc _, .sc _, .sc _] sz_int (fun _ => rfl)) ?_
 refine SV.nil (SV.tn (SV.seq' (SV.region ?_)))
 refine sl 2 (fb fld_impl_Sorter_8) ?_
 refine so (st (ag := false) [.sc _] [.sc _, .sc _, .sc _, .sc _, .sc _, .sc _, .sc _, .sc _, .sc _, .sc _] sz_int (fun _ => rfl)) ?_
 refine SV.nil (SV.tn (SV.seq' (SV.seq' (SV.region ?_))))
 refine sl 2 (fb fld_impl_Sorter_5) ?_
 refine sl 2 (lb 0 5 [.sc _] agg_s_impl_Run sz_s_impl_Run (fun _ => rfl)) ?_
 refine sl 2 (s1 (.tmp 7)) ?_
 refine sl 2 (s2 (.tmp 8) (.const ((Value.int IntKind.i64 1)))) ?_
 refine SV.nil (SV.tn ?_)
 refine SV.cond rfl (fun hc0 => ?_) (fun hc0 => ?_)
 ·skip   -- c0.T
  have hk : k = 1 := by first | (simp at hc0; done) | (simp at hc0; omega)
  refine SV.region ?_
  refine sl 2 (fb fld_impl_Sorter_8) ?_
  refine so (st (ag := false) [.sc _] [.sc _, .sc _, .sc _, .sc _, .sc _, .sc _, .sc _, .sc _, .sc _, .sc _] sz_int (fun _ => rfl)) ?_
  refine SV.nil (SV.tn (SV.seq' (SV.seq' (SV.region ?_))))
  refine sl 2 (fb fld_impl_Sorter_5) ?_
  refine sl 2 (lb 0 5 [.sc _] agg_s_impl_Run sz_s_impl_Run (fun _ => rfl)) ?_
  refine sl 2 (s1 (.tmp 12)) ?_
  refine sl 2 (s2 (.tmp 13) (.const ((Value.int IntKind.i64 0)))) ?_
  refine SV.nil (SV.tn ?_)
  refine SV.cond rfl (fun hc1 => ?_) (fun hc1 => ?_)
  ·skip   -- c1.T
   have hk0 : k = 0 := by first | (simp at hc1; done) | (simp at hc1; omega)
   refine SV.region ?_
   refine sl 2 (fb fld_impl_Sorter_8) ?_
   refine so (st (ag := false) [.sc _] [.sc _, .sc _, .sc _, .sc _, .sc _, .sc _, .sc _, .sc _, .sc _, .sc _] sz_int (fun _ => rfl)) ?_
   refine SV.nil (SV.tn (SV.seq' (SV.region ?_)))
   refine sl 2 (lb 0 0 [.sc _, .sc _, .sc _, .sc _, .sc _, .sc _, .sc _, .sc _, .sc _, .sc _] agg_impl_Sorter sz_impl_Sorter (fun h => by cases h)) ?_
   refine so (st (ag := true) [.sc _, .sc _, .sc _, .sc _, .sc _, .sc _, .sc _, .sc _, .sc _, .sc _] [.sc _, .sc _, .sc _, .sc _, .sc _, .sc _, .sc _, .sc _, .sc _, .sc _] sz_impl_Sorter (fun h => by cases h)) ?_
   refine SV.nil (SV.tn (SV.ret ?_))
   apply SV.done (hf := Try.results82) (ht := rfl) (he := .inl rfl)
   case hr => exact (ResAll.cons (ResOk.cell (b := 1) (ag := true) (xs := [.sc _, .sc _, .sc _, .sc _, .sc _, .sc _, .sc _, .sc _, .sc _, .sc _]) rfl rfl agg_impl_Sorter sz_impl_Sorter (fun h => by cases h)) ResAll.nil')
   case h2 => simp [two]
   refine ⟨rfl, ⟨?_, ?_, ?_, ?_, ?_, ?_, ?_, ?_, ?_, ?_, trivial⟩, trivial⟩ <;> first | rfl | ((refine liq ?_; (first | (rw [if_pos hk0]; done) | (rw [if_neg hk0, if_pos hk]; done) | (rw [if_neg hk0, if_neg hk]; done) | (exfalso; omega))))
  ·skip   -- c1.F
   have hk0 : ¬ k = 0 := by first | (simp at hc1; done) | (simp at hc1; omega)
   refine SV.skip (SV.tn (SV.seq' (SV.region ?_)))
   refine sl 2 (lb 0 0 [.sc _, .sc _, .sc _, .sc _, .sc _, .sc _, .sc _, .sc _, .sc _, .sc _] agg_impl_Sorter sz_impl_Sorter (fun h => by cases h)) ?_
   refine so (st (ag := true) [.sc _, .sc _, .sc _, .sc _, .sc _, .sc _, .sc _, .sc _, .sc _, .sc _] [.sc _, .sc _, .sc _, .sc _, .sc _, .sc _, .sc _, .sc _, .sc _, .sc _] sz_impl_Sorter (fun h => by cases h)) ?_
   refine SV.nil (SV.tn (SV.ret ?_))
   apply SV.done (hf := Try.results82) (ht := rfl) (he := .inl rfl)
   case hr => exact (ResAll.cons (ResOk.cell (b := 1) (ag := true) (xs := [.sc _, .sc _, .sc _, .sc _, .sc _, .sc _, .sc _, .sc _, .sc _, .sc _]) rfl rfl agg_impl_Sorter sz_impl_Sorter (fun h => by cases h)) ResAll.nil')
   case h2 => simp [two]
   refine ⟨rfl, ⟨?_, ?_, ?_, ?_, ?_, ?_, ?_, ?_, ?_, ?_, trivial⟩, trivial⟩ <;> first | rfl | ((refine liq ?_; (first | (rw [if_pos hk0]; done) | (rw [if_neg hk0, if_pos hk]; done) | (rw [if_neg hk0, if_neg hk]; done) | (exfalso; omega))))
 ·skip   -- c0.F
  have hk : ¬ k = 1 := by first | (simp at hc0; done) | (simp at hc0; omega)
  refine SV.skip (SV.tn (SV.seq' (SV.seq' (SV.region ?_))))
  refine sl 2 (fb fld_impl_Sorter_5) ?_
  refine sl 2 (lb 0 5 [.sc _] agg_s_impl_Run sz_s_impl_Run (fun _ => rfl)) ?_
  refine sl 2 (s1 (.tmp 12)) ?_
  refine sl 2 (s2 (.tmp 13) (.const ((Value.int IntKind.i64 0)))) ?_
  refine SV.nil (SV.tn ?_)
  refine SV.cond rfl (fun hc2 => ?_) (fun hc2 => ?_)
  ·skip   -- c2.T
   have hk0 : k = 0 := by first | (simp at hc2; done) | (simp at hc2; omega)
   refine SV.region ?_
   refine sl 2 (fb fld_impl_Sorter_8) ?_
   refine so (st (ag := false) [.sc _] [.sc _, .sc _, .sc _, .sc _, .sc _, .sc _, .sc _, .sc _, .sc _, .sc _] sz_int (fun _ => rfl)) ?_
   refine SV.nil (SV.tn (SV.seq' (SV.region ?_)))
   refine sl 2 (lb 0 0 [.sc _, .sc _, .sc _, .sc _, .sc _, .sc _, .sc _, .sc _, .sc _, .sc _] agg_impl_Sorter sz_impl_Sorter (fun h => by cases h)) ?_
   refine so (st (ag := true) [.sc _, .sc _, .sc _, .sc _, .sc _, .sc _, .sc _, .sc _, .sc _, .sc _] [.sc _, .sc _, .sc _, .sc _, .sc _, .sc _, .sc _, .sc _, .sc _, .sc _] sz_impl_Sorter (fun h => by cases h)) ?_
   refine SV.nil (SV.tn (SV.ret ?_))
   apply SV.done (hf := Try.results82) (ht := rfl) (he := .inl rfl)
   case hr => exact (ResAll.cons (ResOk.cell (b := 1) (ag := true) (xs := [.sc _, .sc _, .sc _, .sc _, .sc _, .sc _, .sc _, .sc _, .sc _, .sc _]) rfl rfl agg_impl_Sorter sz_impl_Sorter (fun h => by cases h)) ResAll.nil')
   case h2 => simp [two]
   refine ⟨rfl, ⟨?_, ?_, ?_, ?_, ?_, ?_, ?_, ?_, ?_, ?_, trivial⟩, trivial⟩ <;> first | rfl | ((refine liq ?_; (first | (rw [if_pos hk0]; done) | (rw [if_neg hk0, if_pos hk]; done) | (rw [if_neg hk0, if_neg hk]; done) | (exfalso; omega))))
  ·skip   -- c2.F
   have hk0 : ¬ k = 0 := by first | (simp at hc2; done) | (simp at hc2; omega)
   refine SV.skip (SV.tn (SV.seq' (SV.region ?_)))
   refine sl 2 (lb 0 0 [.sc _, .sc _, .sc _, .sc _, .sc _, .sc _, .sc _, .sc _, .sc _, .sc _] agg_impl_Sorter sz_impl_Sorter (fun h => by cases h)) ?_
   refine so (st (ag := true) [.sc _, .sc _, .sc _, .sc _, .sc _, .sc _, .sc _, .sc _, .sc _, .sc _] [.sc _, .sc _, .sc _, .sc _, .sc _, .sc _, .sc _, .sc _, .sc _, .sc _] sz_impl_Sorter (fun h => by cases h)) ?_
   refine SV.nil (SV.tn (SV.ret ?_))
   apply SV.done (hf := Try.results82) (ht := rfl) (he := .inl rfl)
   case hr => exact (ResAll.cons (ResOk.cell (b := 1) (ag := true) (xs := [.sc _, .sc _, .sc _, .sc _, .sc _, .sc _, .sc _, .sc _, .sc _, .sc _]) rfl rfl agg_impl_Sorter sz_impl_Sorter (fun h => by cases h)) ResAll.nil')
   case h2 => simp [two]
   refine ⟨rfl, ⟨?_, ?_, ?_, ?_, ?_, ?_, ?_, ?_, ?_, ?_, trivial⟩, trivial⟩ <;> first | rfl | ((refine liq ?_; (first | (rw [if_pos hk0]; done) | (rw [if_neg hk0, if_pos hk]; done) | (rw [if_neg hk0, if_neg hk]; done) | (exfalso; omega))))
def turnV (k : Nat) : List Value → List Value
 | [u0, u1, u2, u3, u4, u5, _, _, _, u9] => [u0, u1, u2, u3, u4, u5, .int .i64 0, .int .i64 0, .int .i64 (if k = 0 then 4 else if k = 1 then 3 else 2), u9]
 | _ => []
theorem turn_pass {k : Nat} {l0 l1 l2 l3 l4 l5 l6 l7 l8 l9 : Leaf} (us : List Value) (hl : us.length = [l0, l1, l2, l3, l4, l5, l6, l7, l8, l9].length) (h5 : ∀ u, us[5]? = some u → ∃ (ad : Option Addr) (c : Nat), u = .slice ad k c) :
  VC Try.prog 82 [(true, us.map .lit)] false [(true, (turnV k us).map .lit)] ∧ (turnV k us).length = [l0, l1, l2, l3, l4, l5, .sc (.int .i64 0), .sc (.int .i64 0), .sc (.int .i64 (if k = 0 then 4 else if k = 1 then 3 else 2)), l9].length ∧
   ∀ (j : Nat) (y : Leaf) (u : Value), [l0, l1, l2, l3, l4, l5, .sc (.int .i64 0), .sc (.int .i64 0), .sc (.int .i64 (if k = 0 then 4 else if k = 1 then 3 else 2)), l9][j]? = some y → (turnV k us)[j]? = some u → (∃ i : Nat, [l0, l1, l2, l3, l4, l5, l6, l7, l8, l9][i]? = some y ∧ us[i]? = some u) ∨ (y = .sc u ∧ u.oneCell' = true) := by
 match us, hl with
 | [u0, u1, u2, u3, u4, u5, u6, u7, u8, u9], _ =>
  obtain ⟨a, c, e⟩ := h5 u5 rfl
  subst e
  refine ⟨vturn_s u0 u1 u2 u3 u4 u6 u7 u8 u9 a k c, rfl, fun j y u hy hu => ?_⟩
  match j, hy, hu with
  | 0, hy, hu => cases hy; cases hu; exact .inl ⟨0, rfl, rfl⟩
  | 1, hy, hu => cases hy; cases hu; exact .inl ⟨1, rfl, rfl⟩
  | 2, hy, hu => cases hy; cases hu; exact .inl ⟨2, rfl, rfl⟩
  | 3, hy, hu => cases hy; cases hu; exact .inl ⟨3, rfl, rfl⟩
  | 4, hy, hu => cases hy; cases hu; exact .inl ⟨4, rfl, rfl⟩
  | 5, hy, hu => cases hy; cases hu; exact .inl ⟨5, rfl, rfl⟩
  | 6, hy, hu => cases hy; cases hu; exact .inr ⟨rfl, rfl⟩
  | 7, hy, hu => cases hy; cases hu; exact .inr ⟨rfl, rfl⟩
  | 8, hy, hu => cases hy; cases hu; exact .inr ⟨rfl, rfl⟩
  | 9, hy, hu => cases hy; cases hu; exact .inl ⟨9, rfl, rfl⟩
end Go.Proofs.Ytpnbnbhifpcelaa
