/- Proved: for every two sorters the law FnExactEqualSorters returns true: the program's EqualSorters answers as the reference's, leaves its arguments alone (the law itself answers true above 2^20). No condition. -/
import Derived.Test.YtpnbnbhifpcelaaPartBg
import Derived.Test.YtpnbnbhifpcelaaRows
import Derived.ProofKit
import Derived.OpenShut
import Derived.ShutString
import Derived.ChangeOld
set_option linter.unusedSimpArgs false
set_option linter.unusedVariables false
namespace Go.Proofs.Ytpnbnbhifpcelaa.FnExactEqualSorters
open Go Go.ChangeShapes Go.WideShapes Go.ChangeAt Go.RowKit
open V hiding T
open Go.ChangeMaps (open_string shut_string)
set_option linter.unusedVariables false
set_option maxRecDepth 100000 in
set_option maxHeartbeats 2000000 in
theorem vlaw (X0 : SorterD) (X1 : SorterD) (Y0 : Bool) (hs : wtSorter X0 + wtSorter X1 ≤ 1048576 → VC Try.prog 32 [(true, tSorter (X0)), (true, tSorter (X1))] false [(false, [.lit (.bool (Y0))])]) (hi : wtSorter X0 + wtSorter X1 ≤ 1048576 → VC Try.prog 33 [(true, tSorter (X0)), (true, tSorter (X1))] false [(false, [.lit (.bool (Y0))])]) : VC Try.prog 7 [(true, uSorter (X0)), (true, uSorter (X1))] false [(false, [.lit (.bool true)])] := by
  refine VC.enter Try.func7 rfl Try.ntmps7 (gle rfl) fun E hE => ?_
  have hC_X0_0 := cnt_rows X0.fInput
  have hC_X0_1 := cnt_rows X0.fHeap
  have hC_X0_2 := cnt_rows X0.fDeferred
  have hC_X0_3 := cnt_rows X0.fOutput
  have hC_X0_4 := cnt_runs X0.fRuns
  have hWv_X0 : wtSorter X0 = wtRows X0.fInput + wtRows X0.fHeap + wtRows X0.fDeferred + wtRows X0.fOutput + wtRuns X0.fRuns := rfl
  have hC_X1_0 := cnt_rows X1.fInput
  have hC_X1_1 := cnt_rows X1.fHeap
  have hC_X1_2 := cnt_rows X1.fDeferred
  have hC_X1_3 := cnt_rows X1.fOutput
  have hC_X1_4 := cnt_runs X1.fRuns
  have hWv_X1 : wtSorter X1 = wtRows X1.fInput + wtRows X1.fHeap + wtRows X1.fDeferred + wtRows X1.fOutput + wtRuns X1.fRuns := rfl
  refine SV.seq' ?_
  refine SV.region ?_
  refine SV.op (OpMk.ok (ok_box (kk := 0) (ag := true) (xs := [.ro _, .sc _, .ro _, .ro _, .ro _, .ro _, .sc _, .sc _, .sc _, .sc _]) rfl rfl rfl (fun h => by cases h) rfl rfl (gle rfl))) rfl ?_
  refine SV.op (OpMk.ok (ok_box (kk := 1) (ag := true) (xs := [.ro _, .sc _, .ro _, .ro _, .ro _, .ro _, .sc _, .sc _, .sc _, .sc _]) rfl rfl rfl (fun h => by cases h) rfl rfl (gle rfl))) rfl ?_
  refine SV.op (OpL.ok (nb := 2) (ok_move (v := V.one (.sc _)) (.inr rfl) rfl) rfl (gle rfl)) rfl ?_
  refine SV.nil ?_
  refine SV.tn ?_
  refine SV.seq' ?_
  refine SV.region ?_
  refine SV.op (OpL.ok (nb := 2) (ok_move (v := V.one (.sc _)) (.inr rfl) rfl) rfl (gle rfl)) rfl ?_
  refine SV.nil ?_
  refine SV.tn ?_
  refine SV.seq' ?_
  refine SV.region ?_
  refine SV.op (OpL.ok (nb := 2) (ok_load_bp (b := 0) (i := 0) (ag := true) (m := 10) (ys := [.ro _, .sc _, .ro _, .ro _, .ro _, .ro _, .sc _, .sc _, .sc _, .sc _]) rfl rfl rfl agg_laws_Sorter sz_laws_Sorter (fun h => by cases h) rfl rfl (gle rfl)) rfl (gle rfl)) rfl ?_
  refine SV.op (OpL.ok (nb := 2) (ok_move (v := V.one (.sc _)) (.inl rfl) rfl) rfl (gle rfl)) rfl ?_
  refine SV.op (OpMk.ok (ok_call (ls := [(false, [.sc _])]) rfl rfl ⟨_, _, Try.func23, rfl, by decide⟩ (vsz_sorter X0 (1048576) (by omega) (by omega)) ⟨⟨[.ro _, .sc _, .ro _, .ro _, .ro _, .ro _, .sc _, .sc _, .sc _, .sc _], rfl, ⟨rfl, rfl, rfl, rfl, rfl, rfl, rfl, rfl, rfl, rfl, trivial⟩⟩, ⟨[.sc _], rfl, ⟨rfl, trivial⟩⟩, trivial⟩ rfl (gle rfl))) rfl ?_
  refine SV.op (OpL.ok (nb := 2) (ok_move (v := V.one (.sc _)) (.inr rfl) rfl) rfl (gle rfl)) rfl ?_
  refine SV.nil ?_
  refine SV.tn ?_
  refine SV.seq' ?_
  refine SV.seq' ?_
  refine SV.region ?_
  refine SV.op (OpL.ok (nb := 2) (ok_move (v := V.one (.sc _)) (.inl rfl) rfl) rfl (gle rfl)) rfl ?_
  refine SV.op (OpL.ok (nb := 2) (ok_s2 (x := .tmp 13) (x' := .const ((Value.int IntKind.i64 0))) (VScal.one rfl) (VScal.one rfl) (fun ρ h1 h2 w => by go_simp; (try go_bits); with_reducible rfl) rfl) rfl (gle rfl)) rfl ?_
  refine SV.nil ?_
  refine SV.tn ?_
  refine SV.cond rfl (fun hc0 => ?_) (fun hc0 => ?_)
  · skip   -- c0.T
    have hs0 := sz_stop rfl (show szR (1048576) (wtSorter X0) < 0 by first | simpa using hc0 | simpa [szR] using hc0 | exact of_decide_eq_true hc0)
    refine SV.seq' ?_
    refine SV.region ?_
    refine SV.op (OpL.ok (nb := 2) (ok_move (v := V.one (.sc _)) (.inr rfl) rfl) rfl (gle rfl)) rfl ?_
    refine SV.nil ?_
    refine SV.tn ?_
    refine SV.ret ?_
    refine SV.tr ?_
    apply SV.done (hf := Try.results7) (ht := rfl) (he := .inl rfl)
    case hr => exact (ResAll.cons (ResOk.tmp (ag := false) (xs := [.sc _]) rfl) ResAll.nil')
    case h2 => simp [two]
    refine ⟨rfl, ⟨?_, trivial⟩, trivial⟩ <;> rfl
  · skip   -- c0.F
    have hs0 := sz_step rfl (show 0 ≤ szR (1048576) (wtSorter X0) by first | simpa using hc0 | simpa [szR] using hc0 | exact Int.not_lt.1 (of_decide_eq_false hc0))
    refine SV.skip ?_
    refine SV.tn ?_
    refine SV.seq' ?_
    refine SV.region ?_
    refine SV.op (OpL.ok (nb := 2) (ok_load_bp (b := 1) (i := 0) (ag := true) (m := 10) (ys := [.ro _, .sc _, .ro _, .ro _, .ro _, .ro _, .sc _, .sc _, .sc _, .sc _]) rfl rfl rfl agg_laws_Sorter sz_laws_Sorter (fun h => by cases h) rfl rfl (gle rfl)) rfl (gle rfl)) rfl ?_
    refine SV.op (OpL.ok (nb := 2) (ok_move (v := V.one (.sc _)) (.inl rfl) rfl) rfl (gle rfl)) rfl ?_
    refine SV.op (OpMk.ok (ok_call (ls := [(false, [.sc _])]) rfl rfl ⟨_, _, Try.func23, rfl, by decide⟩ (vsz_sorter X1 (szR (1048576) (wtSorter X0)) (by omega) (by omega)) ⟨⟨[.ro _, .sc _, .ro _, .ro _, .ro _, .ro _, .sc _, .sc _, .sc _, .sc _], rfl, ⟨rfl, rfl, rfl, rfl, rfl, rfl, rfl, rfl, rfl, rfl, trivial⟩⟩, ⟨[.sc _], rfl, ⟨rfl, trivial⟩⟩, trivial⟩ rfl (gle rfl))) rfl ?_
    refine SV.op (OpL.ok (nb := 2) (ok_move (v := V.one (.sc _)) (.inr rfl) rfl) rfl (gle rfl)) rfl ?_
    refine SV.nil ?_
    refine SV.tn ?_
    refine SV.seq' ?_
    refine SV.seq' ?_
    refine SV.region ?_
    refine SV.op (OpL.ok (nb := 2) (ok_move (v := V.one (.sc _)) (.inl rfl) rfl) rfl (gle rfl)) rfl ?_
    refine SV.op (OpL.ok (nb := 2) (ok_s2 (x := .tmp 18) (x' := .const ((Value.int IntKind.i64 0))) (VScal.one rfl) (VScal.one rfl) (fun ρ h1 h2 w => by go_simp; (try go_bits); with_reducible rfl) rfl) rfl (gle rfl)) rfl ?_
    refine SV.nil ?_
    refine SV.tn ?_
    refine SV.cond rfl (fun hc1 => ?_) (fun hc1 => ?_)
    · skip   -- c1.T
      have hs1 := sz_stop rfl (show szR (szR (1048576) (wtSorter X0)) (wtSorter X1) < 0 by first | simpa using hc1 | simpa [hs0.2] using hc1 | exact of_decide_eq_true hc1)
      refine SV.seq' ?_
      refine SV.region ?_
      refine SV.op (OpL.ok (nb := 2) (ok_move (v := V.one (.sc _)) (.inr rfl) rfl) rfl (gle rfl)) rfl ?_
      refine SV.nil ?_
      refine SV.tn ?_
      refine SV.ret ?_
      refine SV.tr ?_
      apply SV.done (hf := Try.results7) (ht := rfl) (he := .inl rfl)
      case hr => exact (ResAll.cons (ResOk.tmp (ag := false) (xs := [.sc _]) rfl) ResAll.nil')
      case h2 => simp [two]
      refine ⟨rfl, ⟨?_, trivial⟩, trivial⟩ <;> rfl
    · skip   -- c1.F
      have hs1 := sz_step rfl (show 0 ≤ szR (szR (1048576) (wtSorter X0)) (wtSorter X1) by first | simpa using hc1 | simpa [hs0.2] using hc1 | exact Int.not_lt.1 (of_decide_eq_false hc1))
      refine SV.skip ?_
      refine SV.tn ?_
      refine SV.seq' ?_
      refine SV.draw [.q 0, .q 2, .m 1, .m 3, .m 4, .q 5] [] (by kernel_rfl) (by kernel_rfl) ?_
      refine DW.q rfl (ok_load_bp (b := 0) (i := 0) (ag := true) (m := 10) (ys := [.ro _, .sc _, .ro _, .ro _, .ro _, .ro _, .sc _, .sc _, .sc _, .sc _]) rfl rfl rfl agg_laws_Sorter sz_laws_Sorter (fun h => by cases h) rfl rfl (gle rfl)) rfl rfl (gle rfl) (fun _ _ _ _ h => h) ?_
      refine DW.q rfl (ok_load_bp (b := 1) (i := 0) (ag := true) (m := 10) (ys := [.ro _, .sc _, .ro _, .ro _, .ro _, .ro _, .sc _, .sc _, .sc _, .sc _]) rfl rfl rfl agg_laws_Sorter sz_laws_Sorter (fun h => by cases h) rfl rfl (gle rfl)) rfl rfl (gle rfl) (fun _ _ _ _ h => h) ?_
      refine DW.m [0, 1, 2, 3, 4] rfl (ok_call (ls := [(true, [.hd 0, .sc _, .hd 1, .hd 2, .hd 3, .hd 4, .sc _, .sc _, .sc _, .sc _])]) rfl rfl ⟨_, _, Try.func25, rfl, by decide⟩ (vto_sorter X0 (by omega)) ⟨⟨[.ro _, .sc _, .ro _, .ro _, .ro _, .ro _, .sc _, .sc _, .sc _, .sc _], rfl, ⟨rfl, rfl, rfl, rfl, rfl, rfl, rfl, rfl, rfl, rfl, trivial⟩⟩, trivial⟩ rfl (gle rfl)) rfl (gle rfl) (gle rfl) (.inl rfl) (fun j hj => by
          simp only [List.mem_cons, List.not_mem_nil, or_false] at hj
          rcases hj with rfl | rfl | rfl | rfl | rfl
          · exact .inr ⟨(gle rfl), (gle rfl), .inl rfl⟩
          · exact .inr ⟨(gle rfl), (gle rfl), .inl rfl⟩
          · exact .inr ⟨(gle rfl), (gle rfl), .inl rfl⟩
          · exact .inr ⟨(gle rfl), (gle rfl), .inl rfl⟩
          · exact .inr ⟨(gle rfl), (gle rfl), .inl rfl⟩) ?_
      refine DW.m [5, 6, 7, 8, 9, 0, 1, 2, 3, 4] rfl (ok_call (ls := [(true, [.hd 5, .sc _, .hd 6, .hd 7, .hd 8, .hd 9, .sc _, .sc _, .sc _, .sc _])]) rfl rfl ⟨_, _, Try.func25, rfl, by decide⟩ (vto_sorter X1 (by omega)) ⟨⟨[.ro _, .sc _, .ro _, .ro _, .ro _, .ro _, .sc _, .sc _, .sc _, .sc _], rfl, ⟨rfl, rfl, rfl, rfl, rfl, rfl, rfl, rfl, rfl, rfl, trivial⟩⟩, trivial⟩ rfl (gle rfl)) rfl (gle rfl) (gle rfl) (.inl rfl) (fun j hj => by
          simp only [List.mem_cons, List.not_mem_nil, or_false] at hj
          rcases hj with rfl | rfl | rfl | rfl | rfl | rfl | rfl | rfl | rfl | rfl
          · exact .inr ⟨(gle rfl), (gle rfl), .inl rfl⟩
          · exact .inr ⟨(gle rfl), (gle rfl), .inl rfl⟩
          · exact .inr ⟨(gle rfl), (gle rfl), .inl rfl⟩
          · exact .inr ⟨(gle rfl), (gle rfl), .inl rfl⟩
          · exact .inr ⟨(gle rfl), (gle rfl), .inl rfl⟩
          · exact .inl (by decide)
          · exact .inl (by decide)
          · exact .inl (by decide)
          · exact .inl (by decide)
          · exact .inl (by decide)) ?_
      refine DW.m [5, 6, 7, 8, 9, 0, 1, 2, 3, 4] rfl (ok_call (ls := [(false, [.sc _])]) rfl rfl ⟨_, _, Try.func32, rfl, by decide⟩ (hs (by omega)) ⟨⟨[.hd 0, .sc _, .hd 1, .hd 2, .hd 3, .hd 4, .sc _, .sc _, .sc _, .sc _], rfl, ⟨rfl, rfl, rfl, rfl, rfl, rfl, rfl, rfl, rfl, rfl, trivial⟩⟩, ⟨[.hd 5, .sc _, .hd 6, .hd 7, .hd 8, .hd 9, .sc _, .sc _, .sc _, .sc _], rfl, ⟨rfl, rfl, rfl, rfl, rfl, rfl, rfl, rfl, rfl, rfl, trivial⟩⟩, trivial⟩ rfl (gle rfl)) rfl (gle rfl) (gle rfl) (.inl rfl) (fun j hj => by
          simp only [List.mem_cons, List.not_mem_nil, or_false] at hj
          rcases hj with rfl | rfl | rfl | rfl | rfl | rfl | rfl | rfl | rfl | rfl
          · exact .inl (by decide)
          · exact .inl (by decide)
          · exact .inl (by decide)
          · exact .inl (by decide)
          · exact .inl (by decide)
          · exact .inl (by decide)
          · exact .inl (by decide)
          · exact .inl (by decide)
          · exact .inl (by decide)
          · exact .inl (by decide)) ?_
      refine DW.q rfl (ok_move (v := V.one (.sc _)) (.inr rfl) rfl) rfl rfl (gle rfl) (fun _ _ _ _ h => h) ?_
      refine DW.stores ?_
      refine SV.zend ?_
      refine SV.tn ?_
      refine SV.seq' ?_
      refine SV.region ?_
      refine SV.op (OpL.ok (nb := 2) (ok_load_bp (b := 0) (i := 0) (ag := true) (m := 10) (ys := [.ro _, .sc _, .ro _, .ro _, .ro _, .ro _, .sc _, .sc _, .sc _, .sc _]) rfl rfl rfl agg_laws_Sorter sz_laws_Sorter (fun h => by cases h) rfl rfl (gle rfl)) rfl (gle rfl)) rfl ?_
      refine SV.op (OpMk.ok (ok_call (ls := [(true, [.hd 10, .sc _, .hd 11, .hd 12, .hd 13, .hd 14, .sc _, .sc _, .sc _, .sc _])]) rfl rfl ⟨_, _, Try.func25, rfl, by decide⟩ (vto_sorter X0 (by omega)) ⟨⟨[.ro _, .sc _, .ro _, .ro _, .ro _, .ro _, .sc _, .sc _, .sc _, .sc _], rfl, ⟨rfl, rfl, rfl, rfl, rfl, rfl, rfl, rfl, rfl, rfl, trivial⟩⟩, trivial⟩ rfl (gle rfl))) rfl ?_
      refine SV.op (OpMk.ok (ok_alloc (kk := 2) (xs := [.nl _, .sc _, .nl _, .nl _, .nl _, .nl _, .sc _, .sc _, .sc _, .sc _]) rfl rfl zero_impl_Sorter ⟨rfl, ⟨3, by decide, sz_impl_Row⟩, rfl, rfl, rfl, ⟨3, by decide, sz_impl_Row⟩, rfl, ⟨3, by decide, sz_impl_Row⟩, rfl, ⟨3, by decide, sz_impl_Row⟩, rfl, ⟨1, by decide, sz_impl_Run⟩, rfl, rfl, rfl, rfl, rfl, rfl, rfl, rfl, trivial⟩ rfl (gle rfl))) rfl ?_
      refine SV.op (ok_store_bp (b := 2) (i := 0) (m := 10) (ag := true) (zs := [.hd 10, .sc _, .hd 11, .hd 12, .hd 13, .hd 14, .sc _, .sc _, .sc _, .sc _]) (ys := [.hd 10, .sc _, .hd 11, .hd 12, .hd 13, .hd 14, .sc _, .sc _, .sc _, .sc _]) rfl rfl rfl rfl sz_impl_Sorter (fun h => by cases h) rfl (gle rfl) rfl rfl rfl) rfl ?_
      refine SV.nil ?_
      refine SV.tn ?_
      refine SV.seq' ?_
      refine SV.region ?_
      refine SV.op (OpL.ok (nb := 3) (ok_load_bp (b := 1) (i := 0) (ag := true) (m := 10) (ys := [.ro _, .sc _, .ro _, .ro _, .ro _, .ro _, .sc _, .sc _, .sc _, .sc _]) rfl rfl rfl agg_laws_Sorter sz_laws_Sorter (fun h => by cases h) rfl rfl (gle rfl)) rfl (gle rfl)) rfl ?_
      refine SV.op (OpMk.ok (ok_call (ls := [(true, [.hd 15, .sc _, .hd 16, .hd 17, .hd 18, .hd 19, .sc _, .sc _, .sc _, .sc _])]) rfl rfl ⟨_, _, Try.func25, rfl, by decide⟩ (vto_sorter X1 (by omega)) ⟨⟨[.ro _, .sc _, .ro _, .ro _, .ro _, .ro _, .sc _, .sc _, .sc _, .sc _], rfl, ⟨rfl, rfl, rfl, rfl, rfl, rfl, rfl, rfl, rfl, rfl, trivial⟩⟩, trivial⟩ rfl (gle rfl))) rfl ?_
      refine SV.op (OpMk.ok (ok_alloc (kk := 3) (xs := [.nl _, .sc _, .nl _, .nl _, .nl _, .nl _, .sc _, .sc _, .sc _, .sc _]) rfl rfl zero_impl_Sorter ⟨rfl, ⟨3, by decide, sz_impl_Row⟩, rfl, rfl, rfl, ⟨3, by decide, sz_impl_Row⟩, rfl, ⟨3, by decide, sz_impl_Row⟩, rfl, ⟨3, by decide, sz_impl_Row⟩, rfl, ⟨1, by decide, sz_impl_Run⟩, rfl, rfl, rfl, rfl, rfl, rfl, rfl, rfl, trivial⟩ rfl (gle rfl))) rfl ?_
      refine SV.op (ok_store_bp (b := 3) (i := 0) (m := 10) (ag := true) (zs := [.hd 15, .sc _, .hd 16, .hd 17, .hd 18, .hd 19, .sc _, .sc _, .sc _, .sc _]) (ys := [.hd 15, .sc _, .hd 16, .hd 17, .hd 18, .hd 19, .sc _, .sc _, .sc _, .sc _]) rfl rfl rfl rfl sz_impl_Sorter (fun h => by cases h) rfl (gle rfl) rfl rfl rfl) rfl ?_
      refine SV.nil ?_
      refine SV.tn ?_
      refine SV.seq' ?_
      refine SV.region ?_
      refine SV.op (OpL.ok (nb := 4) (ok_load_bp (b := 2) (i := 0) (ag := true) (m := 10) (ys := [.hd 10, .sc _, .hd 11, .hd 12, .hd 13, .hd 14, .sc _, .sc _, .sc _, .sc _]) rfl rfl rfl agg_impl_Sorter sz_impl_Sorter (fun h => by cases h) rfl rfl (gle rfl)) rfl (gle rfl)) rfl ?_
      refine SV.op (OpL.ok (nb := 4) (ok_load_bp (b := 3) (i := 0) (ag := true) (m := 10) (ys := [.hd 15, .sc _, .hd 16, .hd 17, .hd 18, .hd 19, .sc _, .sc _, .sc _, .sc _]) rfl rfl rfl agg_impl_Sorter sz_impl_Sorter (fun h => by cases h) rfl rfl (gle rfl)) rfl (gle rfl)) rfl ?_
      refine SV.op (OpMk.ok (ok_call (ls := [(false, [.sc _])]) rfl rfl ⟨_, _, Try.func33, rfl, by decide⟩ (hi (by omega)) ⟨⟨[.hd 10, .sc _, .hd 11, .hd 12, .hd 13, .hd 14, .sc _, .sc _, .sc _, .sc _], rfl, ⟨rfl, rfl, rfl, rfl, rfl, rfl, rfl, rfl, rfl, rfl, trivial⟩⟩, ⟨[.hd 15, .sc _, .hd 16, .hd 17, .hd 18, .hd 19, .sc _, .sc _, .sc _, .sc _], rfl, ⟨rfl, rfl, rfl, rfl, rfl, rfl, rfl, rfl, rfl, rfl, trivial⟩⟩, trivial⟩ rfl (gle rfl))) rfl ?_
      refine SV.op (OpL.ok (nb := 4) (ok_move (v := V.one (.sc _)) (.inr rfl) rfl) rfl (gle rfl)) rfl ?_
      refine SV.nil ?_
      refine SV.tn ?_
      refine SV.seq' ?_
      refine SV.seq' ?_
      refine SV.region ?_
      refine SV.op (OpL.ok (nb := 4) (ok_move (v := V.one (.sc _)) (.inl rfl) rfl) rfl (gle rfl)) rfl ?_
      refine SV.op (OpL.ok (nb := 4) (ok_move (v := V.one (.sc _)) (.inl rfl) rfl) rfl (gle rfl)) rfl ?_
      refine SV.op (OpL.ok (nb := 4) (ok_s2 (x := .tmp 32) (x' := .tmp 33) (VScal.one rfl) (VScal.one rfl) (fun ρ h1 h2 w => by go_simp; (try go_bits); with_reducible rfl) rfl) rfl (gle rfl)) rfl ?_
      refine SV.nil ?_
      refine SV.tn ?_
      refine SV.cond rfl (fun hc2 => ?_) (fun hc2 => ?_)
      · skip   -- c2.T
        (exfalso; first | (simp at hc2; done) | (simp at hc2; omega))
      · skip   -- c2.F
        refine SV.skip ?_
        refine SV.tn ?_
        refine SV.seq' ?_
        refine SV.seq' ?_
        refine SV.draw [.q 0, .q 1, .m 2, .m 3, .q 4] [] (by kernel_rfl) (by kernel_rfl) ?_
        refine DW.q rfl (ok_load_bp (b := 2) (i := 0) (ag := true) (m := 10) (ys := [.hd 10, .sc _, .hd 11, .hd 12, .hd 13, .hd 14, .sc _, .sc _, .sc _, .sc _]) rfl rfl rfl agg_impl_Sorter sz_impl_Sorter (fun h => by cases h) rfl rfl (gle rfl)) rfl rfl (gle rfl) (fun _ _ _ _ h => h) ?_
        refine DW.q rfl (ok_load_bp (b := 0) (i := 0) (ag := true) (m := 10) (ys := [.ro _, .sc _, .ro _, .ro _, .ro _, .ro _, .sc _, .sc _, .sc _, .sc _]) rfl rfl rfl agg_laws_Sorter sz_laws_Sorter (fun h => by cases h) rfl rfl (gle rfl)) rfl rfl (gle rfl) (fun _ _ _ _ h => h) ?_
        refine DW.m [20, 21, 22, 23, 24] rfl (ok_call (ls := [(true, [.hd 20, .sc _, .hd 21, .hd 22, .hd 23, .hd 24, .sc _, .sc _, .sc _, .sc _])]) rfl rfl ⟨_, _, Try.func25, rfl, by decide⟩ (vto_sorter X0 (by omega)) ⟨⟨[.ro _, .sc _, .ro _, .ro _, .ro _, .ro _, .sc _, .sc _, .sc _, .sc _], rfl, ⟨rfl, rfl, rfl, rfl, rfl, rfl, rfl, rfl, rfl, rfl, trivial⟩⟩, trivial⟩ rfl (gle rfl)) rfl (gle rfl) (gle rfl) (.inl rfl) (fun j hj => by
            simp only [List.mem_cons, List.not_mem_nil, or_false] at hj
            rcases hj with rfl | rfl | rfl | rfl | rfl
            · exact .inr ⟨(gle rfl), (gle rfl), .inl rfl⟩
            · exact .inr ⟨(gle rfl), (gle rfl), .inl rfl⟩
            · exact .inr ⟨(gle rfl), (gle rfl), .inl rfl⟩
            · exact .inr ⟨(gle rfl), (gle rfl), .inl rfl⟩
            · exact .inr ⟨(gle rfl), (gle rfl), .inl rfl⟩) ?_
        refine DW.m [20, 21, 22, 23, 24] rfl (ok_call (ls := [(false, [.sc _])]) rfl rfl ⟨_, _, Try.func18, rfl, by decide⟩ (veq_sorter X0 (by omega)) ⟨⟨[.hd 10, .sc _, .hd 11, .hd 12, .hd 13, .hd 14, .sc _, .sc _, .sc _, .sc _], rfl, ⟨rfl, rfl, rfl, rfl, rfl, rfl, rfl, rfl, rfl, rfl, trivial⟩⟩, ⟨[.hd 20, .sc _, .hd 21, .hd 22, .hd 23, .hd 24, .sc _, .sc _, .sc _, .sc _], rfl, ⟨rfl, rfl, rfl, rfl, rfl, rfl, rfl, rfl, rfl, rfl, trivial⟩⟩, trivial⟩ rfl (gle rfl)) rfl (gle rfl) (gle rfl) (.inl rfl) (fun j hj => by
            simp only [List.mem_cons, List.not_mem_nil, or_false] at hj
            rcases hj with rfl | rfl | rfl | rfl | rfl
            · exact .inl (by decide)
            · exact .inl (by decide)
            · exact .inl (by decide)
            · exact .inl (by decide)
            · exact .inl (by decide)) ?_
        refine DW.q rfl (ok_s1 (x := .tmp 38) (VScal.one rfl) (fun ρ h1 w => by go_simp; (try go_bits); with_reducible rfl) rfl) rfl rfl (gle rfl) (fun _ _ _ _ h => h) ?_
        refine DW.stores ?_
        refine SV.zend ?_
        refine SV.tn ?_
        refine SV.cond rfl (fun hc3 => ?_) (fun hc3 => ?_)
        · skip   -- c3.T
          (exfalso; first | (simp at hc3; done) | (simp at hc3; omega))
        · skip   -- c3.F
          refine SV.skip ?_
          refine SV.tn ?_
          refine SV.seq' ?_
          refine SV.seq' ?_
          refine SV.draw [.q 0, .q 1, .m 2, .m 3, .q 4] [] (by kernel_rfl) (by kernel_rfl) ?_
          refine DW.q rfl (ok_load_bp (b := 3) (i := 0) (ag := true) (m := 10) (ys := [.hd 15, .sc _, .hd 16, .hd 17, .hd 18, .hd 19, .sc _, .sc _, .sc _, .sc _]) rfl rfl rfl agg_impl_Sorter sz_impl_Sorter (fun h => by cases h) rfl rfl (gle rfl)) rfl rfl (gle rfl) (fun _ _ _ _ h => h) ?_
          refine DW.q rfl (ok_load_bp (b := 1) (i := 0) (ag := true) (m := 10) (ys := [.ro _, .sc _, .ro _, .ro _, .ro _, .ro _, .sc _, .sc _, .sc _, .sc _]) rfl rfl rfl agg_laws_Sorter sz_laws_Sorter (fun h => by cases h) rfl rfl (gle rfl)) rfl rfl (gle rfl) (fun _ _ _ _ h => h) ?_
          refine DW.m [25, 26, 27, 28, 29] rfl (ok_call (ls := [(true, [.hd 25, .sc _, .hd 26, .hd 27, .hd 28, .hd 29, .sc _, .sc _, .sc _, .sc _])]) rfl rfl ⟨_, _, Try.func25, rfl, by decide⟩ (vto_sorter X1 (by omega)) ⟨⟨[.ro _, .sc _, .ro _, .ro _, .ro _, .ro _, .sc _, .sc _, .sc _, .sc _], rfl, ⟨rfl, rfl, rfl, rfl, rfl, rfl, rfl, rfl, rfl, rfl, trivial⟩⟩, trivial⟩ rfl (gle rfl)) rfl (gle rfl) (gle rfl) (.inl rfl) (fun j hj => by
              simp only [List.mem_cons, List.not_mem_nil, or_false] at hj
              rcases hj with rfl | rfl | rfl | rfl | rfl
              · exact .inr ⟨(gle rfl), (gle rfl), .inl rfl⟩
              · exact .inr ⟨(gle rfl), (gle rfl), .inl rfl⟩
              · exact .inr ⟨(gle rfl), (gle rfl), .inl rfl⟩
              · exact .inr ⟨(gle rfl), (gle rfl), .inl rfl⟩
              · exact .inr ⟨(gle rfl), (gle rfl), .inl rfl⟩) ?_
          refine DW.m [25, 26, 27, 28, 29] rfl (ok_call (ls := [(false, [.sc _])]) rfl rfl ⟨_, _, Try.func18, rfl, by decide⟩ (veq_sorter X1 (by omega)) ⟨⟨[.hd 15, .sc _, .hd 16, .hd 17, .hd 18, .hd 19, .sc _, .sc _, .sc _, .sc _], rfl, ⟨rfl, rfl, rfl, rfl, rfl, rfl, rfl, rfl, rfl, rfl, trivial⟩⟩, ⟨[.hd 25, .sc _, .hd 26, .hd 27, .hd 28, .hd 29, .sc _, .sc _, .sc _, .sc _], rfl, ⟨rfl, rfl, rfl, rfl, rfl, rfl, rfl, rfl, rfl, rfl, trivial⟩⟩, trivial⟩ rfl (gle rfl)) rfl (gle rfl) (gle rfl) (.inl rfl) (fun j hj => by
              simp only [List.mem_cons, List.not_mem_nil, or_false] at hj
              rcases hj with rfl | rfl | rfl | rfl | rfl
              · exact .inl (by decide)
              · exact .inl (by decide)
              · exact .inl (by decide)
              · exact .inl (by decide)
              · exact .inl (by decide)) ?_
          refine DW.q rfl (ok_s1 (x := .tmp 43) (VScal.one rfl) (fun ρ h1 w => by go_simp; (try go_bits); with_reducible rfl) rfl) rfl rfl (gle rfl) (fun _ _ _ _ h => h) ?_
          refine DW.stores ?_
          refine SV.zend ?_
          refine SV.tn ?_
          refine SV.cond rfl (fun hc4 => ?_) (fun hc4 => ?_)
          · skip   -- c4.T
            (exfalso; first | (simp at hc4; done) | (simp at hc4; omega))
          · skip   -- c4.F
            refine SV.skip ?_
            refine SV.tn ?_
            refine SV.seq' ?_
            refine SV.region ?_
            refine SV.op (OpL.ok (nb := 4) (ok_move (v := V.one (.sc _)) (.inr rfl) rfl) rfl (gle rfl)) rfl ?_
            refine SV.nil ?_
            refine SV.tn ?_
            refine SV.ret ?_
            apply SV.done (hf := Try.results7) (ht := rfl) (he := .inl rfl)
            case hr => exact (ResAll.cons (ResOk.tmp (ag := false) (xs := [.sc _]) rfl) ResAll.nil')
            case h2 => simp [two]
            refine ⟨rfl, ⟨?_, trivial⟩, trivial⟩ <;> rfl
theorem walk (v0 : Value) (X0 : SorterD) (w : World) (o0 : okSorter X0) (g0 : ArgT w true (uSorter X0) v0) (v1 : Value) (X1 : SorterD) (o1 : okSorter X1) (g1 : ArgT w true (uSorter X1) v1) : Calls Try.prog 7 #[v0, v1] w fun e w' => e = .returned (.bool true) ∧ Below w.heap.size w w' :=
  VC.law (vlaw X0 X1 (decide (X0 = X1)) (fun hw => veqsort_s X0 X1 (SorterD.Wf.of o0 (by omega)) (SorterD.Wf.of o1 (by omega))) (fun hw => veqsort_i X0 X1 (SorterD.Wf.of o0 (by omega)) (SorterD.Wf.of o1 (by omega))) ) (argsIn_cons g0 (argsIn_cons g1 argsIn_nil))
/-! ### The row's step -/
theorem own : ownKnob Try.prog.godebug = none := by kernel_rfl
theorem laidOut : laidOutB Try.prog = true := by kernel_rfl
set_option maxRecDepth 100000 in
theorem lifted (os : Os) (started : os.Started) (H : Type) (enc : TypeId × Value → H) :
    ReturnsInHanded {} Try.checked os 7 .any (Rows.fnExactEqualSortersSpec.pre6 enc Try.prog Try.f7 Rows.fnExactEqualSortersRow.domain false) (Rows.fnExactEqualSortersSpec.post enc Try.prog Try.f7 false true false false) := by
  refine returnsInHanded_of_change (C := Try.checked) own started (by kernel_rfl) Try.func7
    (ChangeSpec.witness6 (enc := enc) (C := Try.checked) false ⟨#[], #[.agg #[.slice none 0 0, .int .i64 0, .slice none 0 0, .slice none 0 0, .slice none 0 0, .slice none 0 0, .int .i64 0, .int .i64 0, .int .i64 0, .int .i64 0], .agg #[.slice none 0 0, .int .i64 0, .slice none 0 0, .slice none 0 0, .slice none 0 0, .slice none 0 0, .int .i64 0, .int .i64 0, .int .i64 0, .int .i64 0]], []⟩ 8 (by kernel_rfl) (by kernel_rfl) (by kernel_rfl) (by kernel_rfl)) ?_
  intro W base args ds gs before hval0 hW hcnd hsz
  have hval : ∀ (j : Nat) t v, Try.f7.params[j]? = some t → args[j]? = some v → Value.okWide Try.prog W .any base t v := hval0
  have hW' := hW
  obtain ⟨p, q, hA0, hV, rfl, hfz, hnd⟩ := hW
  have hA : DataW.TrodAll enc Try.prog W 0 (fun _ => true) true Try.f7.params.toList args.toList ds p := hA0
  rw [Try.params7] at hA hval
  obtain ⟨v0, vs0, d0, ds0, p0, q0, hargs, rfl, rfl, h0, r0⟩ := trodAll_cons hA
  obtain ⟨v1, vs1, d1, ds1, p1, q1, rfl, rfl, rfl, h1, r1⟩ := trodAll_cons r0
  obtain ⟨rfl, rfl, rfl⟩ := trodAll_nil r1
  obtain rfl : args = #[v0, v1] := by cases args; simp_all
  obtain ⟨rfl, rfl⟩ := trodVars_none hV
  have k0 := h0
  have lt0 : ∀ x ∈ p0, x.block < W.heap.size := by obtain ⟨m, hm⟩ := k0; exact DataW.trod_lt m _ _ _ hm
  obtain ⟨L0, o0, g0⟩ := OpensT.sorter.val Try.underlying38 (by kernel_rfl) (hval 0 38 v0 rfl rfl) h0
  have k1 := h1
  have lt1 : ∀ x ∈ p1, x.block < W.heap.size := by obtain ⟨m, hm⟩ := k1; exact DataW.trod_lt m _ _ _ hm
  obtain ⟨L1, o1, g1⟩ := OpensT.sorter.val Try.underlying38 (by kernel_rfl) (hval 1 38 v1 rfl rfl) h1
  clear hA0 hval0
  refine (walk v0 L0 W o0 g0 v1 L1 o1 g1).mono fun e W' ⟨he, bel⟩ => ?_
  subst he
  exact ⟨_, rfl, _, _, _, [], _, [], hW', trodAll_mk1 (shut_bool Try.underlying4 _), (trodAll_cons_mk (Below.trod laidOut (by kernel_rfl) (of_decide_eq_true (by kernel_rfl)) k0 bel lt0) (trodAll_cons_mk (Below.trod laidOut (by kernel_rfl) (of_decide_eq_true (by kernel_rfl)) k1 bel lt1) trodAll_mk0)), rfl, bel.frame _, fun h => by cases h⟩
theorem over : Rows.fnExactEqualSortersRow.holds Try.pinned (OpenSpec.ofChange Rows.fnExactEqualSortersSpec) :=
  OpenClaim.holds_of_wide 7 Try.f7 rfl rfl rfl rfl rfl rfl rfl ⟨rfl, rfl, rfl, rfl, rfl⟩ rfl rfl rfl rfl rfl (by kernel_rfl) Try.func7 (by kernel_rfl)
    (of_decide_eq_true (by kernel_rfl)) (by unfold Func.isWrapper; first | (rw [if_pos (by decide +kernel)]; kernel_rfl) | (rw [if_neg (by decide +kernel)]; exact ⟨rfl, rfl⟩))
    (fun os started H enc _ => lifted os started H enc)
theorem proved : Rows.FnExactEqualSortersSaid := over
#print axioms proved
end Go.Proofs.Ytpnbnbhifpcelaa.FnExactEqualSorters
