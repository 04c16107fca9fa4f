/- Texts joined: OkG GMap GVals GSeq SortG Cmpi GSort. -/
import Derived.Test.YtmlcdhblofjpbaaDoorPartGroupAlgebrai
import Derived.Maps.OwnSet
import Derived.Maps.Ext
import Derived.Maps.Range
import Derived.MapViews
import Derived.Test.YtmlcdhblofjpbaaDoorProg
import Derived.Shelf.SlIter.Collect
import Derived.Shelf.SlSortCmp.NoneTotal
import Derived.Shelf.SlSortCmp.WholeK
import Derived.StillTailTactics
import Derived.Test.YtmlcdhblofjpbaaDoorShelfSort
import Derived.RangeFuncBound
/- Valid groups: told by trees. -/
namespace Go.Proofs.YtmlcdhblofjpbaaDoor
open Go Go.RowKit V
set_option linter.unusedVariables false
set_option maxRecDepth 100000 in
set_option maxHeartbeats 2000000 in
theorem vokg_s (g : GroupD) : VC Tryd.prog 24 [(true, tGroup g)] false [(false, [.lit (.bool (GroupD.okG g))])] := by
  refine VC.enter Tryd.func24 rfl Tryd.ntmps24 (Nat.le_of_ble_eq_true rfl) fun E hE => ?_
  refine SV.seq' ?_
  refine SV.region ?_
  refine SV.op (OpMk.ok (ok_box (kk := 0) (ag := true) (xs := [.sc _, .sc _, .sc _, .sc _, .sc _]) rfl rfl rfl (fun h => by cases h) rfl rfl (Nat.le_of_ble_eq_true rfl))) rfl ?_
  refine SV.op (OpL.ok (nb := 1) (ok_move (v := V.one (.sc _)) (.inr rfl) rfl) rfl (Nat.le_of_ble_eq_true rfl)) rfl ?_
  refine SV.nil ?_
  refine SV.tn ?_
  refine SV.seq' ?_
  refine SV.region ?_
  refine SV.op (OpL.ok (nb := 1) (ok_field_bp (b := 0) (o' := 0) (off := 0) rfl rfl fld_impl_Group_0) rfl (Nat.le_of_ble_eq_true rfl)) rfl ?_
  refine SV.op (OpL.ok (nb := 1) (ok_load_bp (b := 0) (i := 0) (ag := false) (m := 1) (ys := [.sc _]) rfl rfl rfl agg_int sz_int (fun _ => rfl) rfl rfl (Nat.le_of_ble_eq_true rfl)) rfl (Nat.le_of_ble_eq_true rfl)) rfl ?_
  refine SV.op (OpMk.ok (ok_call (ls := [(false, [.sc _])]) rfl rfl ⟨_, _, Tryd.func66, rfl, by decide⟩ (vin_s' g.fKey 0 9) ⟨⟨[.sc _], rfl, ⟨rfl, trivial⟩⟩, ⟨[.sc _], rfl, ⟨rfl, trivial⟩⟩, ⟨[.sc _], rfl, ⟨rfl, trivial⟩⟩, trivial⟩ rfl (Nat.le_of_ble_eq_true rfl))) rfl ?_
  refine SV.op (OpL.ok (nb := 1) (ok_move (v := V.one (.sc _)) (.inl rfl) rfl) rfl (Nat.le_of_ble_eq_true rfl)) rfl ?_
  refine SV.split (d := 6) rfl (fun hg0 => ?_) (fun hg0 => ?_)
  · skip   -- g0.T
    refine SV.opY (OpL.ok (nb := 1) (ok_field_bp (b := 0) (o' := 0) (off := 1) rfl rfl fld_impl_Group_1) rfl (Nat.le_of_ble_eq_true rfl)) rfl rfl rfl (Nat.le_of_ble_eq_true rfl) rfl rfl ?_
    refine SV.opY (OpL.ok (nb := 1) (ok_load_bp (b := 0) (i := 1) (ag := false) (m := 1) (ys := [.sc _]) rfl rfl rfl agg_int sz_int (fun _ => rfl) rfl rfl (Nat.le_of_ble_eq_true rfl)) rfl (Nat.le_of_ble_eq_true rfl)) rfl rfl rfl (Nat.le_of_ble_eq_true rfl) rfl rfl ?_
    refine SV.opY (OpMk.ok (ok_call (ls := [(false, [.sc _])]) rfl rfl ⟨_, _, Tryd.func66, rfl, by decide⟩ (vin_s' g.fCount 1 24) ⟨⟨[.sc _], rfl, ⟨rfl, trivial⟩⟩, ⟨[.sc _], rfl, ⟨rfl, trivial⟩⟩, ⟨[.sc _], rfl, ⟨rfl, trivial⟩⟩, trivial⟩ rfl (Nat.le_of_ble_eq_true rfl))) rfl rfl rfl (Nat.le_of_ble_eq_true rfl) rfl rfl ?_
    refine SV.op (OpL.ok (nb := 1) (ok_pickT (v := V.one (.sc _)) rfl rfl rfl) rfl (Nat.le_of_ble_eq_true rfl)) rfl ?_
    refine SV.op (OpL.ok (nb := 1) (ok_move (v := V.one (.sc _)) (.inl rfl) rfl) rfl (Nat.le_of_ble_eq_true rfl)) rfl ?_
    refine SV.split (d := 11) rfl (fun hg1 => ?_) (fun hg1 => ?_)
    · skip   -- g1.T
      refine SV.opY (OpL.ok (nb := 1) (ok_field_bp (b := 0) (o' := 0) (off := 3) rfl rfl fld_impl_Group_3) rfl (Nat.le_of_ble_eq_true rfl)) rfl rfl rfl (Nat.le_of_ble_eq_true rfl) rfl rfl ?_
      refine SV.opY (OpL.ok (nb := 1) (ok_load_bp (b := 0) (i := 3) (ag := false) (m := 1) (ys := [.sc _]) rfl rfl rfl agg_int sz_int (fun _ => rfl) rfl rfl (Nat.le_of_ble_eq_true rfl)) rfl (Nat.le_of_ble_eq_true rfl)) rfl rfl rfl (Nat.le_of_ble_eq_true rfl) rfl rfl ?_
      refine SV.opY (OpL.ok (nb := 1) (ok_field_bp (b := 0) (o' := 0) (off := 4) rfl rfl fld_impl_Group_4) rfl (Nat.le_of_ble_eq_true rfl)) rfl rfl rfl (Nat.le_of_ble_eq_true rfl) rfl rfl ?_
      refine SV.opY (OpL.ok (nb := 1) (ok_load_bp (b := 0) (i := 4) (ag := false) (m := 1) (ys := [.sc _]) rfl rfl rfl agg_int sz_int (fun _ => rfl) rfl rfl (Nat.le_of_ble_eq_true rfl)) rfl (Nat.le_of_ble_eq_true rfl)) rfl rfl rfl (Nat.le_of_ble_eq_true rfl) rfl rfl ?_
      refine SV.opY (OpMk.ok (ok_call (ls := [(false, [.sc _])]) rfl rfl ⟨_, _, Tryd.func66, rfl, by decide⟩ (vin_s' g.fMin 0 g.fMax) ⟨⟨[.sc _], rfl, ⟨rfl, trivial⟩⟩, ⟨[.sc _], rfl, ⟨rfl, trivial⟩⟩, ⟨[.sc _], rfl, ⟨rfl, trivial⟩⟩, trivial⟩ rfl (Nat.le_of_ble_eq_true rfl))) rfl rfl rfl (Nat.le_of_ble_eq_true rfl) rfl rfl ?_
      refine SV.op (OpL.ok (nb := 1) (ok_pickT (v := V.one (.sc _)) rfl rfl rfl) rfl (Nat.le_of_ble_eq_true rfl)) rfl ?_
      refine SV.op (OpL.ok (nb := 1) (ok_move (v := V.one (.sc _)) (.inl rfl) rfl) rfl (Nat.le_of_ble_eq_true rfl)) rfl ?_
      refine SV.split (d := 18) rfl (fun hg2 => ?_) (fun hg2 => ?_)
      · skip   -- g2.T
        refine SV.opY (OpL.ok (nb := 1) (ok_field_bp (b := 0) (o' := 0) (off := 4) rfl rfl fld_impl_Group_4) rfl (Nat.le_of_ble_eq_true rfl)) rfl rfl rfl (Nat.le_of_ble_eq_true rfl) rfl rfl ?_
        refine SV.opY (OpL.ok (nb := 1) (ok_load_bp (b := 0) (i := 4) (ag := false) (m := 1) (ys := [.sc _]) rfl rfl rfl agg_int sz_int (fun _ => rfl) rfl rfl (Nat.le_of_ble_eq_true rfl)) rfl (Nat.le_of_ble_eq_true rfl)) rfl rfl rfl (Nat.le_of_ble_eq_true rfl) rfl rfl ?_
        refine SV.opY (OpL.ok (nb := 1) (ok_field_bp (b := 0) (o' := 0) (off := 3) rfl rfl fld_impl_Group_3) rfl (Nat.le_of_ble_eq_true rfl)) rfl rfl rfl (Nat.le_of_ble_eq_true rfl) rfl rfl ?_
        refine SV.opY (OpL.ok (nb := 1) (ok_load_bp (b := 0) (i := 3) (ag := false) (m := 1) (ys := [.sc _]) rfl rfl rfl agg_int sz_int (fun _ => rfl) rfl rfl (Nat.le_of_ble_eq_true rfl)) rfl (Nat.le_of_ble_eq_true rfl)) rfl rfl rfl (Nat.le_of_ble_eq_true rfl) rfl rfl ?_
        refine SV.opY (OpMk.ok (ok_call (ls := [(false, [.sc _])]) rfl rfl ⟨_, _, Tryd.func66, rfl, by decide⟩ (vin_s' g.fMax g.fMin 99) ⟨⟨[.sc _], rfl, ⟨rfl, trivial⟩⟩, ⟨[.sc _], rfl, ⟨rfl, trivial⟩⟩, ⟨[.sc _], rfl, ⟨rfl, trivial⟩⟩, trivial⟩ rfl (Nat.le_of_ble_eq_true rfl))) rfl rfl rfl (Nat.le_of_ble_eq_true rfl) rfl rfl ?_
        refine SV.op (OpL.ok (nb := 1) (ok_pickT (v := V.one (.sc _)) rfl rfl rfl) rfl (Nat.le_of_ble_eq_true rfl)) rfl ?_
        refine SV.op (OpL.ok (nb := 1) (ok_move (v := V.one (.sc _)) (.inl rfl) rfl) rfl (Nat.le_of_ble_eq_true rfl)) rfl ?_
        refine SV.split (d := 25) rfl (fun hg3 => ?_) (fun hg3 => ?_)
        · skip   -- g3.T
          simp at hg0
          simp at hg1
          simp at hg2
          simp at hg3
          have hw1 : wrap64 (g.fMin * g.fCount) = g.fMin * g.fCount := IntWalk.wrap64_in _ (GroupD.mul_in (by omega) (by omega) (by omega) (by omega))
          have hw2 : wrap64 (g.fMax * g.fCount) = g.fMax * g.fCount := IntWalk.wrap64_in _ (GroupD.mul_in (by omega) (by omega) (by omega) (by omega))
          have hc1' : g.fCount * g.fMin = g.fMin * g.fCount := Int.mul_comm _ _
          have hc2' : g.fCount * g.fMax = g.fMax * g.fCount := Int.mul_comm _ _
          refine SV.opY (OpL.ok (nb := 1) (ok_field_bp (b := 0) (o' := 0) (off := 2) rfl rfl fld_impl_Group_2) rfl (Nat.le_of_ble_eq_true rfl)) rfl rfl rfl (Nat.le_of_ble_eq_true rfl) rfl rfl ?_
          refine SV.opY (OpL.ok (nb := 1) (ok_load_bp (b := 0) (i := 2) (ag := false) (m := 1) (ys := [.sc _]) rfl rfl rfl agg_int sz_int (fun _ => rfl) rfl rfl (Nat.le_of_ble_eq_true rfl)) rfl (Nat.le_of_ble_eq_true rfl)) rfl rfl rfl (Nat.le_of_ble_eq_true rfl) rfl rfl ?_
          refine SV.opY (OpL.ok (nb := 1) (ok_field_bp (b := 0) (o' := 0) (off := 3) rfl rfl fld_impl_Group_3) rfl (Nat.le_of_ble_eq_true rfl)) rfl rfl rfl (Nat.le_of_ble_eq_true rfl) rfl rfl ?_
          refine SV.opY (OpL.ok (nb := 1) (ok_load_bp (b := 0) (i := 3) (ag := false) (m := 1) (ys := [.sc _]) rfl rfl rfl agg_int sz_int (fun _ => rfl) rfl rfl (Nat.le_of_ble_eq_true rfl)) rfl (Nat.le_of_ble_eq_true rfl)) rfl rfl rfl (Nat.le_of_ble_eq_true rfl) rfl rfl ?_
          refine SV.opY (OpL.ok (nb := 1) (ok_field_bp (b := 0) (o' := 0) (off := 1) rfl rfl fld_impl_Group_1) rfl (Nat.le_of_ble_eq_true rfl)) rfl rfl rfl (Nat.le_of_ble_eq_true rfl) rfl rfl ?_
          refine SV.opY (OpL.ok (nb := 1) (ok_load_bp (b := 0) (i := 1) (ag := false) (m := 1) (ys := [.sc _]) rfl rfl rfl agg_int sz_int (fun _ => rfl) rfl rfl (Nat.le_of_ble_eq_true rfl)) rfl (Nat.le_of_ble_eq_true rfl)) rfl rfl rfl (Nat.le_of_ble_eq_true rfl) rfl rfl ?_
          refine SV.opY (OpL.ok (nb := 1) (ok_s2 (v := .int .i64 (g.fMin * g.fCount)) (x := .tmp 29) (x' := .tmp 31) (VScal.one rfl) (VScal.one rfl) (fun ρ h1 h2 w => by go_simp; rw [IntWalk.i64_left, hw1]) rfl) rfl (Nat.le_of_ble_eq_true rfl)) rfl rfl rfl (Nat.le_of_ble_eq_true rfl) rfl rfl ?_
          refine SV.opY (OpL.ok (nb := 1) (ok_field_bp (b := 0) (o' := 0) (off := 4) rfl rfl fld_impl_Group_4) rfl (Nat.le_of_ble_eq_true rfl)) rfl rfl rfl (Nat.le_of_ble_eq_true rfl) rfl rfl ?_
          refine SV.opY (OpL.ok (nb := 1) (ok_load_bp (b := 0) (i := 4) (ag := false) (m := 1) (ys := [.sc _]) rfl rfl rfl agg_int sz_int (fun _ => rfl) rfl rfl (Nat.le_of_ble_eq_true rfl)) rfl (Nat.le_of_ble_eq_true rfl)) rfl rfl rfl (Nat.le_of_ble_eq_true rfl) rfl rfl ?_
          refine SV.opY (OpL.ok (nb := 1) (ok_field_bp (b := 0) (o' := 0) (off := 1) rfl rfl fld_impl_Group_1) rfl (Nat.le_of_ble_eq_true rfl)) rfl rfl rfl (Nat.le_of_ble_eq_true rfl) rfl rfl ?_
          refine SV.opY (OpL.ok (nb := 1) (ok_load_bp (b := 0) (i := 1) (ag := false) (m := 1) (ys := [.sc _]) rfl rfl rfl agg_int sz_int (fun _ => rfl) rfl rfl (Nat.le_of_ble_eq_true rfl)) rfl (Nat.le_of_ble_eq_true rfl)) rfl rfl rfl (Nat.le_of_ble_eq_true rfl) rfl rfl ?_
          refine SV.opY (OpL.ok (nb := 1) (ok_s2 (v := .int .i64 (g.fMax * g.fCount)) (x := .tmp 34) (x' := .tmp 36) (VScal.one rfl) (VScal.one rfl) (fun ρ h1 h2 w => by go_simp; rw [IntWalk.i64_left, hw2]) rfl) rfl (Nat.le_of_ble_eq_true rfl)) rfl rfl rfl (Nat.le_of_ble_eq_true rfl) rfl rfl ?_
          refine SV.opY (OpMk.ok (ok_call (ls := [(false, [.sc _])]) rfl rfl ⟨_, _, Tryd.func66, rfl, by decide⟩ (vin_s' g.fSum (g.fMin * g.fCount) (g.fMax * g.fCount)) ⟨⟨[.sc _], rfl, ⟨rfl, trivial⟩⟩, ⟨[.sc _], rfl, ⟨rfl, trivial⟩⟩, ⟨[.sc _], rfl, ⟨rfl, trivial⟩⟩, trivial⟩ rfl (Nat.le_of_ble_eq_true rfl))) rfl rfl rfl (Nat.le_of_ble_eq_true rfl) rfl rfl ?_
          refine SV.op (OpL.ok (nb := 1) (ok_pickT (v := V.one (.sc _)) rfl rfl rfl) rfl (Nat.le_of_ble_eq_true rfl)) rfl ?_
          refine SV.op (OpL.ok (nb := 1) (ok_move (v := V.one (.sc _)) (.inr rfl) rfl) rfl (Nat.le_of_ble_eq_true rfl)) rfl ?_
          refine SV.nil ?_
          refine SV.tn ?_
          refine SV.ret ?_
          apply SV.done (hf := Tryd.results24) (ht := rfl) (he := .inl rfl)
          case hr => exact (ResAll.cons (ResOk.tmp (ag := false) (xs := [.sc _]) rfl) ResAll.nil')
          case h2 => simp [two]
          refine ⟨rfl, ⟨?_, trivial⟩, trivial⟩ <;> (show some (T.lit (Value.bool _)) = some (T.lit (Value.bool _)); refine congrArg (fun z => some (T.lit (Value.bool z))) ?_; unfold GroupD.okG; (try rw [hc1', hc2']); first | (simp only [decide_eq_true_eq, decide_eq_false_iff_not] at hg6; rw [eq_comm, decide_eq_false_iff_not]; omega) | (simp only [decide_eq_true_eq, decide_eq_false_iff_not] at hg6; rw [Bool.eq_iff_iff]; simp only [decide_eq_true_eq]; omega) | (rw [eq_comm, decide_eq_false_iff_not]; simp at *; omega) | (rw [Bool.eq_iff_iff]; simp; omega))
        · skip   -- g3.F
          refine SV.opN rfl rfl rfl (Nat.le_of_ble_eq_true rfl) rfl rfl rfl (Nat.le_of_ble_eq_true rfl) ?_
          refine SV.opN rfl rfl rfl (Nat.le_of_ble_eq_true rfl) rfl rfl rfl (Nat.le_of_ble_eq_true rfl) ?_
          refine SV.opN rfl rfl rfl (Nat.le_of_ble_eq_true rfl) rfl rfl rfl (Nat.le_of_ble_eq_true rfl) ?_
          refine SV.opN rfl rfl rfl (Nat.le_of_ble_eq_true rfl) rfl rfl rfl (Nat.le_of_ble_eq_true rfl) ?_
          refine SV.opN rfl rfl rfl (Nat.le_of_ble_eq_true rfl) rfl rfl rfl (Nat.le_of_ble_eq_true rfl) ?_
          refine SV.opN rfl rfl rfl (Nat.le_of_ble_eq_true rfl) rfl rfl rfl (Nat.le_of_ble_eq_true rfl) ?_
          refine SV.opN rfl rfl rfl (Nat.le_of_ble_eq_true rfl) rfl rfl rfl (Nat.le_of_ble_eq_true rfl) ?_
          refine SV.opN rfl rfl rfl (Nat.le_of_ble_eq_true rfl) rfl rfl rfl (Nat.le_of_ble_eq_true rfl) ?_
          refine SV.opN rfl rfl rfl (Nat.le_of_ble_eq_true rfl) rfl rfl rfl (Nat.le_of_ble_eq_true rfl) ?_
          refine SV.opN rfl rfl rfl (Nat.le_of_ble_eq_true rfl) rfl rfl rfl (Nat.le_of_ble_eq_true rfl) ?_
          refine SV.opN rfl rfl rfl (Nat.le_of_ble_eq_true rfl) rfl rfl rfl (Nat.le_of_ble_eq_true rfl) ?_
          refine SV.opN rfl rfl rfl (Nat.le_of_ble_eq_true rfl) rfl rfl rfl (Nat.le_of_ble_eq_true rfl) ?_
          refine SV.opN rfl rfl rfl (Nat.le_of_ble_eq_true rfl) rfl rfl rfl (Nat.le_of_ble_eq_true rfl) ?_
          refine SV.op (OpL.ok (nb := 1) (ok_pickF (v := V.one (.sc _)) rfl rfl rfl) rfl (Nat.le_of_ble_eq_true rfl)) rfl ?_
          refine SV.op (OpL.ok (nb := 1) (ok_move (v := V.one (.sc _)) (.inr rfl) rfl) rfl (Nat.le_of_ble_eq_true rfl)) rfl ?_
          refine SV.nil ?_
          refine SV.tn ?_
          refine SV.ret ?_
          apply SV.done (hf := Tryd.results24) (ht := rfl) (he := .inl rfl)
          case hr => exact (ResAll.cons (ResOk.tmp (ag := false) (xs := [.sc _]) rfl) ResAll.nil')
          case h2 => simp [two]
          refine ⟨rfl, ⟨?_, trivial⟩, trivial⟩ <;> (show some (T.lit (Value.bool _)) = some (T.lit (Value.bool _)); refine congrArg (fun z => some (T.lit (Value.bool z))) ?_; unfold GroupD.okG; (try rw [hc1', hc2']); first | (simp only [decide_eq_true_eq, decide_eq_false_iff_not] at hg6; rw [eq_comm, decide_eq_false_iff_not]; omega) | (simp only [decide_eq_true_eq, decide_eq_false_iff_not] at hg6; rw [Bool.eq_iff_iff]; simp only [decide_eq_true_eq]; omega) | (rw [eq_comm, decide_eq_false_iff_not]; simp at *; omega) | (rw [Bool.eq_iff_iff]; simp; omega))
      · skip   -- g2.F
        refine SV.opN rfl rfl rfl (Nat.le_of_ble_eq_true rfl) rfl rfl rfl (Nat.le_of_ble_eq_true rfl) ?_
        refine SV.opN rfl rfl rfl (Nat.le_of_ble_eq_true rfl) rfl rfl rfl (Nat.le_of_ble_eq_true rfl) ?_
        refine SV.opN rfl rfl rfl (Nat.le_of_ble_eq_true rfl) rfl rfl rfl (Nat.le_of_ble_eq_true rfl) ?_
        refine SV.opN rfl rfl rfl (Nat.le_of_ble_eq_true rfl) rfl rfl rfl (Nat.le_of_ble_eq_true rfl) ?_
        refine SV.opN rfl rfl rfl (Nat.le_of_ble_eq_true rfl) rfl rfl rfl (Nat.le_of_ble_eq_true rfl) ?_
        refine SV.op (OpL.ok (nb := 1) (ok_pickF (v := V.one (.sc _)) rfl rfl rfl) rfl (Nat.le_of_ble_eq_true rfl)) rfl ?_
        refine SV.op (OpL.ok (nb := 1) (ok_move (v := V.one (.sc _)) (.inl rfl) rfl) rfl (Nat.le_of_ble_eq_true rfl)) rfl ?_
        refine SV.split (d := 25) rfl (fun hg4 => ?_) (fun hg4 => ?_)
        · skip   -- g4.T
          simp at hg4
        · skip   -- g4.F
          refine SV.opN rfl rfl rfl (Nat.le_of_ble_eq_true rfl) rfl rfl rfl (Nat.le_of_ble_eq_true rfl) ?_
          refine SV.opN rfl rfl rfl (Nat.le_of_ble_eq_true rfl) rfl rfl rfl (Nat.le_of_ble_eq_true rfl) ?_
          refine SV.opN rfl rfl rfl (Nat.le_of_ble_eq_true rfl) rfl rfl rfl (Nat.le_of_ble_eq_true rfl) ?_
          refine SV.opN rfl rfl rfl (Nat.le_of_ble_eq_true rfl) rfl rfl rfl (Nat.le_of_ble_eq_true rfl) ?_
          refine SV.opN rfl rfl rfl (Nat.le_of_ble_eq_true rfl) rfl rfl rfl (Nat.le_of_ble_eq_true rfl) ?_
          refine SV.opN rfl rfl rfl (Nat.le_of_ble_eq_true rfl) rfl rfl rfl (Nat.le_of_ble_eq_true rfl) ?_
          refine SV.opN rfl rfl rfl (Nat.le_of_ble_eq_true rfl) rfl rfl rfl (Nat.le_of_ble_eq_true rfl) ?_
          refine SV.opN rfl rfl rfl (Nat.le_of_ble_eq_true rfl) rfl rfl rfl (Nat.le_of_ble_eq_true rfl) ?_
          refine SV.opN rfl rfl rfl (Nat.le_of_ble_eq_true rfl) rfl rfl rfl (Nat.le_of_ble_eq_true rfl) ?_
          refine SV.opN rfl rfl rfl (Nat.le_of_ble_eq_true rfl) rfl rfl rfl (Nat.le_of_ble_eq_true rfl) ?_
          refine SV.opN rfl rfl rfl (Nat.le_of_ble_eq_true rfl) rfl rfl rfl (Nat.le_of_ble_eq_true rfl) ?_
          refine SV.opN rfl rfl rfl (Nat.le_of_ble_eq_true rfl) rfl rfl rfl (Nat.le_of_ble_eq_true rfl) ?_
          refine SV.opN rfl rfl rfl (Nat.le_of_ble_eq_true rfl) rfl rfl rfl (Nat.le_of_ble_eq_true rfl) ?_
          refine SV.op (OpL.ok (nb := 1) (ok_pickF (v := V.one (.sc _)) rfl rfl rfl) rfl (Nat.le_of_ble_eq_true rfl)) rfl ?_
          refine SV.op (OpL.ok (nb := 1) (ok_move (v := V.one (.sc _)) (.inr rfl) rfl) rfl (Nat.le_of_ble_eq_true rfl)) rfl ?_
          refine SV.nil ?_
          refine SV.tn ?_
          refine SV.ret ?_
          apply SV.done (hf := Tryd.results24) (ht := rfl) (he := .inl rfl)
          case hr => exact (ResAll.cons (ResOk.tmp (ag := false) (xs := [.sc _]) rfl) ResAll.nil')
          case h2 => simp [two]
          refine ⟨rfl, ⟨?_, trivial⟩, trivial⟩ <;> (show some (T.lit (Value.bool _)) = some (T.lit (Value.bool _)); refine congrArg (fun z => some (T.lit (Value.bool z))) ?_; unfold GroupD.okG; (try rw [hc1', hc2']); first | (simp only [decide_eq_true_eq, decide_eq_false_iff_not] at hg6; rw [eq_comm, decide_eq_false_iff_not]; omega) | (simp only [decide_eq_true_eq, decide_eq_false_iff_not] at hg6; rw [Bool.eq_iff_iff]; simp only [decide_eq_true_eq]; omega) | (rw [eq_comm, decide_eq_false_iff_not]; simp at *; omega) | (rw [Bool.eq_iff_iff]; simp; omega))
    · skip   -- g1.F
      refine SV.opN rfl rfl rfl (Nat.le_of_ble_eq_true rfl) rfl rfl rfl (Nat.le_of_ble_eq_true rfl) ?_
      refine SV.opN rfl rfl rfl (Nat.le_of_ble_eq_true rfl) rfl rfl rfl (Nat.le_of_ble_eq_true rfl) ?_
      refine SV.opN rfl rfl rfl (Nat.le_of_ble_eq_true rfl) rfl rfl rfl (Nat.le_of_ble_eq_true rfl) ?_
      refine SV.opN rfl rfl rfl (Nat.le_of_ble_eq_true rfl) rfl rfl rfl (Nat.le_of_ble_eq_true rfl) ?_
      refine SV.opN rfl rfl rfl (Nat.le_of_ble_eq_true rfl) rfl rfl rfl (Nat.le_of_ble_eq_true rfl) ?_
      refine SV.op (OpL.ok (nb := 1) (ok_pickF (v := V.one (.sc _)) rfl rfl rfl) rfl (Nat.le_of_ble_eq_true rfl)) rfl ?_
      refine SV.op (OpL.ok (nb := 1) (ok_move (v := V.one (.sc _)) (.inl rfl) rfl) rfl (Nat.le_of_ble_eq_true rfl)) rfl ?_
      refine SV.split (d := 18) rfl (fun hg5 => ?_) (fun hg5 => ?_)
      · skip   -- g5.T
        simp at hg5
      · skip   -- g5.F
        refine SV.opN rfl rfl rfl (Nat.le_of_ble_eq_true rfl) rfl rfl rfl (Nat.le_of_ble_eq_true rfl) ?_
        refine SV.opN rfl rfl rfl (Nat.le_of_ble_eq_true rfl) rfl rfl rfl (Nat.le_of_ble_eq_true rfl) ?_
        refine SV.opN rfl rfl rfl (Nat.le_of_ble_eq_true rfl) rfl rfl rfl (Nat.le_of_ble_eq_true rfl) ?_
        refine SV.opN rfl rfl rfl (Nat.le_of_ble_eq_true rfl) rfl rfl rfl (Nat.le_of_ble_eq_true rfl) ?_
        refine SV.opN rfl rfl rfl (Nat.le_of_ble_eq_true rfl) rfl rfl rfl (Nat.le_of_ble_eq_true rfl) ?_
        refine SV.op (OpL.ok (nb := 1) (ok_pickF (v := V.one (.sc _)) rfl rfl rfl) rfl (Nat.le_of_ble_eq_true rfl)) rfl ?_
        refine SV.op (OpL.ok (nb := 1) (ok_move (v := V.one (.sc _)) (.inl rfl) rfl) rfl (Nat.le_of_ble_eq_true rfl)) rfl ?_
        refine SV.split (d := 25) rfl (fun hg6 => ?_) (fun hg6 => ?_)
        · skip   -- g6.T
          simp at hg6
        · skip   -- g6.F
          refine SV.opN rfl rfl rfl (Nat.le_of_ble_eq_true rfl) rfl rfl rfl (Nat.le_of_ble_eq_true rfl) ?_
          refine SV.opN rfl rfl rfl (Nat.le_of_ble_eq_true rfl) rfl rfl rfl (Nat.le_of_ble_eq_true rfl) ?_
          refine SV.opN rfl rfl rfl (Nat.le_of_ble_eq_true rfl) rfl rfl rfl (Nat.le_of_ble_eq_true rfl) ?_
          refine SV.opN rfl rfl rfl (Nat.le_of_ble_eq_true rfl) rfl rfl rfl (Nat.le_of_ble_eq_true rfl) ?_
          refine SV.opN rfl rfl rfl (Nat.le_of_ble_eq_true rfl) rfl rfl rfl (Nat.le_of_ble_eq_true rfl) ?_
          refine SV.opN rfl rfl rfl (Nat.le_of_ble_eq_true rfl) rfl rfl rfl (Nat.le_of_ble_eq_true rfl) ?_
          refine SV.opN rfl rfl rfl (Nat.le_of_ble_eq_true rfl) rfl rfl rfl (Nat.le_of_ble_eq_true rfl) ?_
          refine SV.opN rfl rfl rfl (Nat.le_of_ble_eq_true rfl) rfl rfl rfl (Nat.le_of_ble_eq_true rfl) ?_
          refine SV.opN rfl rfl rfl (Nat.le_of_ble_eq_true rfl) rfl rfl rfl (Nat.le_of_ble_eq_true rfl) ?_
          refine SV.opN rfl rfl rfl (Nat.le_of_ble_eq_true rfl) rfl rfl rfl (Nat.le_of_ble_eq_true rfl) ?_
          refine SV.opN rfl rfl rfl (Nat.le_of_ble_eq_true rfl) rfl rfl rfl (Nat.le_of_ble_eq_true rfl) ?_
          refine SV.opN rfl rfl rfl (Nat.le_of_ble_eq_true rfl) rfl rfl rfl (Nat.le_of_ble_eq_true rfl) ?_
          refine SV.opN rfl rfl rfl (Nat.le_of_ble_eq_true rfl) rfl rfl rfl (Nat.le_of_ble_eq_true rfl) ?_
          refine SV.op (OpL.ok (nb := 1) (ok_pickF (v := V.one (.sc _)) rfl rfl rfl) rfl (Nat.le_of_ble_eq_true rfl)) rfl ?_
          refine SV.op (OpL.ok (nb := 1) (ok_move (v := V.one (.sc _)) (.inr rfl) rfl) rfl (Nat.le_of_ble_eq_true rfl)) rfl ?_
          refine SV.nil ?_
          refine SV.tn ?_
          refine SV.ret ?_
          apply SV.done (hf := Tryd.results24) (ht := rfl) (he := .inl rfl)
          case hr => exact (ResAll.cons (ResOk.tmp (ag := false) (xs := [.sc _]) rfl) ResAll.nil')
          case h2 => simp [two]
          refine ⟨rfl, ⟨?_, trivial⟩, trivial⟩ <;> (show some (T.lit (Value.bool _)) = some (T.lit (Value.bool _)); refine congrArg (fun z => some (T.lit (Value.bool z))) ?_; unfold GroupD.okG; (try rw [hc1', hc2']); first | (simp only [decide_eq_true_eq, decide_eq_false_iff_not] at hg6; rw [eq_comm, decide_eq_false_iff_not]; omega) | (simp only [decide_eq_true_eq, decide_eq_false_iff_not] at hg6; rw [Bool.eq_iff_iff]; simp only [decide_eq_true_eq]; omega) | (rw [eq_comm, decide_eq_false_iff_not]; simp at *; omega) | (rw [Bool.eq_iff_iff]; simp; omega))
  · skip   -- g0.F
    refine SV.opN rfl rfl rfl (Nat.le_of_ble_eq_true rfl) rfl rfl rfl (Nat.le_of_ble_eq_true rfl) ?_
    refine SV.opN rfl rfl rfl (Nat.le_of_ble_eq_true rfl) rfl rfl rfl (Nat.le_of_ble_eq_true rfl) ?_
    refine SV.opN rfl rfl rfl (Nat.le_of_ble_eq_true rfl) rfl rfl rfl (Nat.le_of_ble_eq_true rfl) ?_
    refine SV.op (OpL.ok (nb := 1) (ok_pickF (v := V.one (.sc _)) rfl rfl rfl) rfl (Nat.le_of_ble_eq_true rfl)) rfl ?_
    refine SV.op (OpL.ok (nb := 1) (ok_move (v := V.one (.sc _)) (.inl rfl) rfl) rfl (Nat.le_of_ble_eq_true rfl)) rfl ?_
    refine SV.split (d := 11) rfl (fun hg7 => ?_) (fun hg7 => ?_)
    · skip   -- g7.T
      simp at hg7
    · skip   -- g7.F
      refine SV.opN rfl rfl rfl (Nat.le_of_ble_eq_true rfl) rfl rfl rfl (Nat.le_of_ble_eq_true rfl) ?_
      refine SV.opN rfl rfl rfl (Nat.le_of_ble_eq_true rfl) rfl rfl rfl (Nat.le_of_ble_eq_true rfl) ?_
      refine SV.opN rfl rfl rfl (Nat.le_of_ble_eq_true rfl) rfl rfl rfl (Nat.le_of_ble_eq_true rfl) ?_
      refine SV.opN rfl rfl rfl (Nat.le_of_ble_eq_true rfl) rfl rfl rfl (Nat.le_of_ble_eq_true rfl) ?_
      refine SV.opN rfl rfl rfl (Nat.le_of_ble_eq_true rfl) rfl rfl rfl (Nat.le_of_ble_eq_true rfl) ?_
      refine SV.op (OpL.ok (nb := 1) (ok_pickF (v := V.one (.sc _)) rfl rfl rfl) rfl (Nat.le_of_ble_eq_true rfl)) rfl ?_
      refine SV.op (OpL.ok (nb := 1) (ok_move (v := V.one (.sc _)) (.inl rfl) rfl) rfl (Nat.le_of_ble_eq_true rfl)) rfl ?_
      refine SV.split (d := 18) rfl (fun hg8 => ?_) (fun hg8 => ?_)
      · skip   -- g8.T
        simp at hg8
      · skip   -- g8.F
        refine SV.opN rfl rfl rfl (Nat.le_of_ble_eq_true rfl) rfl rfl rfl (Nat.le_of_ble_eq_true rfl) ?_
        refine SV.opN rfl rfl rfl (Nat.le_of_ble_eq_true rfl) rfl rfl rfl (Nat.le_of_ble_eq_true rfl) ?_
        refine SV.opN rfl rfl rfl (Nat.le_of_ble_eq_true rfl) rfl rfl rfl (Nat.le_of_ble_eq_true rfl) ?_
        refine SV.opN rfl rfl rfl (Nat.le_of_ble_eq_true rfl) rfl rfl rfl (Nat.le_of_ble_eq_true rfl) ?_
        refine SV.opN rfl rfl rfl (Nat.le_of_ble_eq_true rfl) rfl rfl rfl (Nat.le_of_ble_eq_true rfl) ?_
        refine SV.op (OpL.ok (nb := 1) (ok_pickF (v := V.one (.sc _)) rfl rfl rfl) rfl (Nat.le_of_ble_eq_true rfl)) rfl ?_
        refine SV.op (OpL.ok (nb := 1) (ok_move (v := V.one (.sc _)) (.inl rfl) rfl) rfl (Nat.le_of_ble_eq_true rfl)) rfl ?_
        refine SV.split (d := 25) rfl (fun hg9 => ?_) (fun hg9 => ?_)
        · skip   -- g9.T
          simp at hg9
        · skip   -- g9.F
          refine SV.opN rfl rfl rfl (Nat.le_of_ble_eq_true rfl) rfl rfl rfl (Nat.le_of_ble_eq_true rfl) ?_
          refine SV.opN rfl rfl rfl (Nat.le_of_ble_eq_true rfl) rfl rfl rfl (Nat.le_of_ble_eq_true rfl) ?_
          refine SV.opN rfl rfl rfl (Nat.le_of_ble_eq_true rfl) rfl rfl rfl (Nat.le_of_ble_eq_true rfl) ?_
          refine SV.opN rfl rfl rfl (Nat.le_of_ble_eq_true rfl) rfl rfl rfl (Nat.le_of_ble_eq_true rfl) ?_
          refine SV.opN rfl rfl rfl (Nat.le_of_ble_eq_true rfl) rfl rfl rfl (Nat.le_of_ble_eq_true rfl) ?_
          refine SV.opN rfl rfl rfl (Nat.le_of_ble_eq_true rfl) rfl rfl rfl (Nat.le_of_ble_eq_true rfl) ?_
          refine SV.opN rfl rfl rfl (Nat.le_of_ble_eq_true rfl) rfl rfl rfl (Nat.le_of_ble_eq_true rfl) ?_
          refine SV.opN rfl rfl rfl (Nat.le_of_ble_eq_true rfl) rfl rfl rfl (Nat.le_of_ble_eq_true rfl) ?_
          refine SV.opN rfl rfl rfl (Nat.le_of_ble_eq_true rfl) rfl rfl rfl (Nat.le_of_ble_eq_true rfl) ?_
          refine SV.opN rfl rfl rfl (Nat.le_of_ble_eq_true rfl) rfl rfl rfl (Nat.le_of_ble_eq_true rfl) ?_
          refine SV.opN rfl rfl rfl (Nat.le_of_ble_eq_true rfl) rfl rfl rfl (Nat.le_of_ble_eq_true rfl) ?_
          refine SV.opN rfl rfl rfl (Nat.le_of_ble_eq_true rfl) rfl rfl rfl (Nat.le_of_ble_eq_true rfl) ?_
          refine SV.opN rfl rfl rfl (Nat.le_of_ble_eq_true rfl) rfl rfl rfl (Nat.le_of_ble_eq_true rfl) ?_
          refine SV.op (OpL.ok (nb := 1) (ok_pickF (v := V.one (.sc _)) rfl rfl rfl) rfl (Nat.le_of_ble_eq_true rfl)) rfl ?_
          refine SV.op (OpL.ok (nb := 1) (ok_move (v := V.one (.sc _)) (.inr rfl) rfl) rfl (Nat.le_of_ble_eq_true rfl)) rfl ?_
          refine SV.nil ?_
          refine SV.tn ?_
          refine SV.ret ?_
          apply SV.done (hf := Tryd.results24) (ht := rfl) (he := .inl rfl)
          case hr => exact (ResAll.cons (ResOk.tmp (ag := false) (xs := [.sc _]) rfl) ResAll.nil')
          case h2 => simp [two]
          refine ⟨rfl, ⟨?_, trivial⟩, trivial⟩ <;> (show some (T.lit (Value.bool _)) = some (T.lit (Value.bool _)); refine congrArg (fun z => some (T.lit (Value.bool z))) ?_; unfold GroupD.okG; (try rw [hc1', hc2']); first | (simp only [decide_eq_true_eq, decide_eq_false_iff_not] at hg6; rw [eq_comm, decide_eq_false_iff_not]; omega) | (simp only [decide_eq_true_eq, decide_eq_false_iff_not] at hg6; rw [Bool.eq_iff_iff]; simp only [decide_eq_true_eq]; omega) | (rw [eq_comm, decide_eq_false_iff_not]; simp at *; omega) | (rw [Bool.eq_iff_iff]; simp; omega))
set_option maxRecDepth 100000 in
set_option maxHeartbeats 2000000 in
theorem vokg_i (g : GroupD) : VC Tryd.prog 17 [(true, tGroup g)] false [(false, [.lit (.bool (GroupD.okG g))])] := by
  refine VC.enter Tryd.func17 rfl Tryd.ntmps17 (Nat.le_of_ble_eq_true rfl) fun E hE => ?_
  refine SV.seq' ?_
  refine SV.region ?_
  refine SV.op (OpMk.ok (ok_box (kk := 0) (ag := true) (xs := [.sc _, .sc _, .sc _, .sc _, .sc _]) rfl rfl rfl (fun h => by cases h) rfl rfl (Nat.le_of_ble_eq_true rfl))) rfl ?_
  refine SV.op (OpL.ok (nb := 1) (ok_move (v := V.one (.sc _)) (.inr rfl) rfl) rfl (Nat.le_of_ble_eq_true rfl)) rfl ?_
  refine SV.nil ?_
  refine SV.tn ?_
  refine SV.seq' ?_
  refine SV.seq' ?_
  refine SV.region ?_
  refine SV.op (OpL.ok (nb := 1) (ok_field_bp (b := 0) (o' := 0) (off := 0) rfl rfl fld_impl_Group_0) rfl (Nat.le_of_ble_eq_true rfl)) rfl ?_
  refine SV.op (OpL.ok (nb := 1) (ok_load_bp (b := 0) (i := 0) (ag := false) (m := 1) (ys := [.sc _]) rfl rfl rfl agg_int sz_int (fun _ => rfl) rfl rfl (Nat.le_of_ble_eq_true rfl)) rfl (Nat.le_of_ble_eq_true rfl)) rfl ?_
  refine SV.op (OpMk.ok (ok_call (ls := [(false, [.sc _])]) rfl rfl ⟨_, _, Tryd.func62, rfl, by decide⟩ (vupto_i g.fKey 9) ⟨⟨[.sc _], rfl, ⟨rfl, trivial⟩⟩, ⟨[.sc _], rfl, ⟨rfl, trivial⟩⟩, trivial⟩ rfl (Nat.le_of_ble_eq_true rfl))) rfl ?_
  refine SV.op (OpL.ok (nb := 1) (ok_s1 (x := .tmp 5) (VScal.one rfl) (fun ρ h1 w => by go_simp; (try go_bits); with_reducible rfl) rfl) rfl (Nat.le_of_ble_eq_true rfl)) rfl ?_
  refine SV.op (OpL.ok (nb := 1) (ok_move (v := V.one (.sc _)) (.inl rfl) rfl) rfl (Nat.le_of_ble_eq_true rfl)) rfl ?_
  refine SV.split (d := 7) rfl (fun hg0 => ?_) (fun hg0 => ?_)
  · skip   -- g0.T
    refine SV.opN rfl rfl rfl (Nat.le_of_ble_eq_true rfl) rfl rfl rfl (Nat.le_of_ble_eq_true rfl) ?_
    refine SV.opN rfl rfl rfl (Nat.le_of_ble_eq_true rfl) rfl rfl rfl (Nat.le_of_ble_eq_true rfl) ?_
    refine SV.opN rfl rfl rfl (Nat.le_of_ble_eq_true rfl) rfl rfl rfl (Nat.le_of_ble_eq_true rfl) ?_
    refine SV.op (OpL.ok (nb := 1) (ok_pickT (v := V.one (.sc _)) rfl rfl rfl) rfl (Nat.le_of_ble_eq_true rfl)) rfl ?_
    refine SV.op (OpL.ok (nb := 1) (ok_move (v := V.one (.sc _)) (.inl rfl) rfl) rfl (Nat.le_of_ble_eq_true rfl)) rfl ?_
    refine SV.split (d := 12) rfl (fun hg1 => ?_) (fun hg1 => ?_)
    · skip   -- g1.T
      refine SV.opN rfl rfl rfl (Nat.le_of_ble_eq_true rfl) rfl rfl rfl (Nat.le_of_ble_eq_true rfl) ?_
      refine SV.opN rfl rfl rfl (Nat.le_of_ble_eq_true rfl) rfl rfl rfl (Nat.le_of_ble_eq_true rfl) ?_
      refine SV.opN rfl rfl rfl (Nat.le_of_ble_eq_true rfl) rfl rfl rfl (Nat.le_of_ble_eq_true rfl) ?_
      refine SV.op (OpL.ok (nb := 1) (ok_pickT (v := V.one (.sc _)) rfl rfl rfl) rfl (Nat.le_of_ble_eq_true rfl)) rfl ?_
      refine SV.nil ?_
      refine SV.tn ?_
      refine SV.cond rfl (fun hc0 => ?_) (fun hc0 => ?_)
      · skip   -- c0.T
        refine SV.seq' ?_
        refine SV.region ?_
        refine SV.op (OpL.ok (nb := 1) (ok_move (v := V.one (.sc _)) (.inr rfl) rfl) rfl (Nat.le_of_ble_eq_true rfl)) rfl ?_
        refine SV.nil ?_
        refine SV.tn ?_
        refine SV.ret ?_
        refine SV.tr ?_
        apply SV.done (hf := Tryd.results17) (ht := rfl) (he := .inl rfl)
        case hr => exact (ResAll.cons (ResOk.tmp (ag := false) (xs := [.sc _]) rfl) ResAll.nil')
        case h2 => simp [two]
        refine ⟨rfl, ⟨?_, trivial⟩, trivial⟩ <;> (show some (T.lit (Value.bool _)) = some (T.lit (Value.bool _)); refine congrArg (fun z => some (T.lit (Value.bool z))) ?_; unfold GroupD.okG; (try rw [hc1', hc2']); first | (simp only [decide_eq_true_eq, decide_eq_false_iff_not] at hg6; rw [eq_comm, decide_eq_false_iff_not]; omega) | (simp only [decide_eq_true_eq, decide_eq_false_iff_not] at hg6; rw [Bool.eq_iff_iff]; simp only [decide_eq_true_eq]; omega) | (rw [eq_comm, decide_eq_false_iff_not]; simp at *; omega) | (rw [Bool.eq_iff_iff]; simp; omega))
      · skip   -- c0.F
        cases hc0
    · skip   -- g1.F
      simp at hg1
  · skip   -- g0.F
    refine SV.opY (OpL.ok (nb := 1) (ok_field_bp (b := 0) (o' := 0) (off := 1) rfl rfl fld_impl_Group_1) rfl (Nat.le_of_ble_eq_true rfl)) rfl rfl rfl (Nat.le_of_ble_eq_true rfl) rfl rfl ?_
    refine SV.opY (OpL.ok (nb := 1) (ok_load_bp (b := 0) (i := 1) (ag := false) (m := 1) (ys := [.sc _]) rfl rfl rfl agg_int sz_int (fun _ => rfl) rfl rfl (Nat.le_of_ble_eq_true rfl)) rfl (Nat.le_of_ble_eq_true rfl)) rfl rfl rfl (Nat.le_of_ble_eq_true rfl) rfl rfl ?_
    refine SV.opY (OpL.ok (nb := 1) (ok_s2 (x := .tmp 9) (x' := .const ((Value.int IntKind.i64 1))) (VScal.one rfl) (VScal.one rfl) (fun ρ h1 h2 w => by go_simp; (try go_bits); with_reducible rfl) rfl) rfl (Nat.le_of_ble_eq_true rfl)) rfl rfl rfl (Nat.le_of_ble_eq_true rfl) rfl rfl ?_
    refine SV.op (OpL.ok (nb := 1) (ok_pickF (v := V.one (.sc _)) rfl rfl rfl) rfl (Nat.le_of_ble_eq_true rfl)) rfl ?_
    refine SV.op (OpL.ok (nb := 1) (ok_move (v := V.one (.sc _)) (.inl rfl) rfl) rfl (Nat.le_of_ble_eq_true rfl)) rfl ?_
    refine SV.split (d := 12) rfl (fun hg2 => ?_) (fun hg2 => ?_)
    · skip   -- g2.T
      refine SV.opN rfl rfl rfl (Nat.le_of_ble_eq_true rfl) rfl rfl rfl (Nat.le_of_ble_eq_true rfl) ?_
      refine SV.opN rfl rfl rfl (Nat.le_of_ble_eq_true rfl) rfl rfl rfl (Nat.le_of_ble_eq_true rfl) ?_
      refine SV.opN rfl rfl rfl (Nat.le_of_ble_eq_true rfl) rfl rfl rfl (Nat.le_of_ble_eq_true rfl) ?_
      refine SV.op (OpL.ok (nb := 1) (ok_pickT (v := V.one (.sc _)) rfl rfl rfl) rfl (Nat.le_of_ble_eq_true rfl)) rfl ?_
      refine SV.nil ?_
      refine SV.tn ?_
      refine SV.cond rfl (fun hc1 => ?_) (fun hc1 => ?_)
      · skip   -- c1.T
        refine SV.seq' ?_
        refine SV.region ?_
        refine SV.op (OpL.ok (nb := 1) (ok_move (v := V.one (.sc _)) (.inr rfl) rfl) rfl (Nat.le_of_ble_eq_true rfl)) rfl ?_
        refine SV.nil ?_
        refine SV.tn ?_
        refine SV.ret ?_
        refine SV.tr ?_
        apply SV.done (hf := Tryd.results17) (ht := rfl) (he := .inl rfl)
        case hr => exact (ResAll.cons (ResOk.tmp (ag := false) (xs := [.sc _]) rfl) ResAll.nil')
        case h2 => simp [two]
        refine ⟨rfl, ⟨?_, trivial⟩, trivial⟩ <;> (show some (T.lit (Value.bool _)) = some (T.lit (Value.bool _)); refine congrArg (fun z => some (T.lit (Value.bool z))) ?_; unfold GroupD.okG; (try rw [hc1', hc2']); first | (simp only [decide_eq_true_eq, decide_eq_false_iff_not] at hg6; rw [eq_comm, decide_eq_false_iff_not]; omega) | (simp only [decide_eq_true_eq, decide_eq_false_iff_not] at hg6; rw [Bool.eq_iff_iff]; simp only [decide_eq_true_eq]; omega) | (rw [eq_comm, decide_eq_false_iff_not]; simp at *; omega) | (rw [Bool.eq_iff_iff]; simp; omega))
      · skip   -- c1.F
        cases hc1
    · skip   -- g2.F
      refine SV.opY (OpL.ok (nb := 1) (ok_field_bp (b := 0) (o' := 0) (off := 1) rfl rfl fld_impl_Group_1) rfl (Nat.le_of_ble_eq_true rfl)) rfl rfl rfl (Nat.le_of_ble_eq_true rfl) rfl rfl ?_
      refine SV.opY (OpL.ok (nb := 1) (ok_load_bp (b := 0) (i := 1) (ag := false) (m := 1) (ys := [.sc _]) rfl rfl rfl agg_int sz_int (fun _ => rfl) rfl rfl (Nat.le_of_ble_eq_true rfl)) rfl (Nat.le_of_ble_eq_true rfl)) rfl rfl rfl (Nat.le_of_ble_eq_true rfl) rfl rfl ?_
      refine SV.opY (OpL.ok (nb := 1) (ok_s2 (x := .tmp 14) (x' := .const ((Value.int IntKind.i64 24))) (VScal.one rfl) (VScal.one rfl) (fun ρ h1 h2 w => by go_simp; (try go_bits); with_reducible rfl) rfl) rfl (Nat.le_of_ble_eq_true rfl)) rfl rfl rfl (Nat.le_of_ble_eq_true rfl) rfl rfl ?_
      refine SV.op (OpL.ok (nb := 1) (ok_pickF (v := V.one (.sc _)) rfl rfl rfl) rfl (Nat.le_of_ble_eq_true rfl)) rfl ?_
      refine SV.nil ?_
      refine SV.tn ?_
      refine SV.cond rfl (fun hc2 => ?_) (fun hc2 => ?_)
      · skip   -- c2.T
        refine SV.seq' ?_
        refine SV.region ?_
        refine SV.op (OpL.ok (nb := 1) (ok_move (v := V.one (.sc _)) (.inr rfl) rfl) rfl (Nat.le_of_ble_eq_true rfl)) rfl ?_
        refine SV.nil ?_
        refine SV.tn ?_
        refine SV.ret ?_
        refine SV.tr ?_
        apply SV.done (hf := Tryd.results17) (ht := rfl) (he := .inl rfl)
        case hr => exact (ResAll.cons (ResOk.tmp (ag := false) (xs := [.sc _]) rfl) ResAll.nil')
        case h2 => simp [two]
        refine ⟨rfl, ⟨?_, trivial⟩, trivial⟩ <;> (show some (T.lit (Value.bool _)) = some (T.lit (Value.bool _)); refine congrArg (fun z => some (T.lit (Value.bool z))) ?_; unfold GroupD.okG; (try rw [hc1', hc2']); first | (simp only [decide_eq_true_eq, decide_eq_false_iff_not] at hg6; rw [eq_comm, decide_eq_false_iff_not]; omega) | (simp only [decide_eq_true_eq, decide_eq_false_iff_not] at hg6; rw [Bool.eq_iff_iff]; simp only [decide_eq_true_eq]; omega) | (rw [eq_comm, decide_eq_false_iff_not]; simp at *; omega) | (rw [Bool.eq_iff_iff]; simp; omega))
      · skip   -- c2.F
        refine SV.skip ?_
        refine SV.tn ?_
        refine SV.seq' ?_
        refine SV.seq' ?_
        refine SV.region ?_
        refine SV.op (OpL.ok (nb := 1) (ok_field_bp (b := 0) (o' := 0) (off := 3) rfl rfl fld_impl_Group_3) rfl (Nat.le_of_ble_eq_true rfl)) rfl ?_
        refine SV.op (OpL.ok (nb := 1) (ok_load_bp (b := 0) (i := 3) (ag := false) (m := 1) (ys := [.sc _]) rfl rfl rfl agg_int sz_int (fun _ => rfl) rfl rfl (Nat.le_of_ble_eq_true rfl)) rfl (Nat.le_of_ble_eq_true rfl)) rfl ?_
        refine SV.op (OpL.ok (nb := 1) (ok_s2 (x := .tmp 18) (x' := .const ((Value.int IntKind.i64 0))) (VScal.one rfl) (VScal.one rfl) (fun ρ h1 h2 w => by go_simp; (try go_bits); with_reducible rfl) rfl) rfl (Nat.le_of_ble_eq_true rfl)) rfl ?_
        refine SV.op (OpL.ok (nb := 1) (ok_move (v := V.one (.sc _)) (.inl rfl) rfl) rfl (Nat.le_of_ble_eq_true rfl)) rfl ?_
        refine SV.split (d := 20) rfl (fun hg3 => ?_) (fun hg3 => ?_)
        · skip   -- g3.T
          refine SV.opN rfl rfl rfl (Nat.le_of_ble_eq_true rfl) rfl rfl rfl (Nat.le_of_ble_eq_true rfl) ?_
          refine SV.opN rfl rfl rfl (Nat.le_of_ble_eq_true rfl) rfl rfl rfl (Nat.le_of_ble_eq_true rfl) ?_
          refine SV.opN rfl rfl rfl (Nat.le_of_ble_eq_true rfl) rfl rfl rfl (Nat.le_of_ble_eq_true rfl) ?_
          refine SV.opN rfl rfl rfl (Nat.le_of_ble_eq_true rfl) rfl rfl rfl (Nat.le_of_ble_eq_true rfl) ?_
          refine SV.opN rfl rfl rfl (Nat.le_of_ble_eq_true rfl) rfl rfl rfl (Nat.le_of_ble_eq_true rfl) ?_
          refine SV.op (OpL.ok (nb := 1) (ok_pickT (v := V.one (.sc _)) rfl rfl rfl) rfl (Nat.le_of_ble_eq_true rfl)) rfl ?_
          refine SV.op (OpL.ok (nb := 1) (ok_move (v := V.one (.sc _)) (.inl rfl) rfl) rfl (Nat.le_of_ble_eq_true rfl)) rfl ?_
          refine SV.split (d := 27) rfl (fun hg4 => ?_) (fun hg4 => ?_)
          · skip   -- g4.T
            refine SV.opN rfl rfl rfl (Nat.le_of_ble_eq_true rfl) rfl rfl rfl (Nat.le_of_ble_eq_true rfl) ?_
            refine SV.opN rfl rfl rfl (Nat.le_of_ble_eq_true rfl) rfl rfl rfl (Nat.le_of_ble_eq_true rfl) ?_
            refine SV.opN rfl rfl rfl (Nat.le_of_ble_eq_true rfl) rfl rfl rfl (Nat.le_of_ble_eq_true rfl) ?_
            refine SV.op (OpL.ok (nb := 1) (ok_pickT (v := V.one (.sc _)) rfl rfl rfl) rfl (Nat.le_of_ble_eq_true rfl)) rfl ?_
            refine SV.nil ?_
            refine SV.tn ?_
            refine SV.cond rfl (fun hc3 => ?_) (fun hc3 => ?_)
            · skip   -- c3.T
              refine SV.seq' ?_
              refine SV.region ?_
              refine SV.op (OpL.ok (nb := 1) (ok_move (v := V.one (.sc _)) (.inr rfl) rfl) rfl (Nat.le_of_ble_eq_true rfl)) rfl ?_
              refine SV.nil ?_
              refine SV.tn ?_
              refine SV.ret ?_
              refine SV.tr ?_
              apply SV.done (hf := Tryd.results17) (ht := rfl) (he := .inl rfl)
              case hr => exact (ResAll.cons (ResOk.tmp (ag := false) (xs := [.sc _]) rfl) ResAll.nil')
              case h2 => simp [two]
              refine ⟨rfl, ⟨?_, trivial⟩, trivial⟩ <;> (show some (T.lit (Value.bool _)) = some (T.lit (Value.bool _)); refine congrArg (fun z => some (T.lit (Value.bool z))) ?_; unfold GroupD.okG; (try rw [hc1', hc2']); first | (simp only [decide_eq_true_eq, decide_eq_false_iff_not] at hg6; rw [eq_comm, decide_eq_false_iff_not]; omega) | (simp only [decide_eq_true_eq, decide_eq_false_iff_not] at hg6; rw [Bool.eq_iff_iff]; simp only [decide_eq_true_eq]; omega) | (rw [eq_comm, decide_eq_false_iff_not]; simp at *; omega) | (rw [Bool.eq_iff_iff]; simp; omega))
            · skip   -- c3.F
              cases hc3
          · skip   -- g4.F
            simp at hg4
        · skip   -- g3.F
          refine SV.opY (OpL.ok (nb := 1) (ok_field_bp (b := 0) (o' := 0) (off := 3) rfl rfl fld_impl_Group_3) rfl (Nat.le_of_ble_eq_true rfl)) rfl rfl rfl (Nat.le_of_ble_eq_true rfl) rfl rfl ?_
          refine SV.opY (OpL.ok (nb := 1) (ok_load_bp (b := 0) (i := 3) (ag := false) (m := 1) (ys := [.sc _]) rfl rfl rfl agg_int sz_int (fun _ => rfl) rfl rfl (Nat.le_of_ble_eq_true rfl)) rfl (Nat.le_of_ble_eq_true rfl)) rfl rfl rfl (Nat.le_of_ble_eq_true rfl) rfl rfl ?_
          refine SV.opY (OpL.ok (nb := 1) (ok_field_bp (b := 0) (o' := 0) (off := 4) rfl rfl fld_impl_Group_4) rfl (Nat.le_of_ble_eq_true rfl)) rfl rfl rfl (Nat.le_of_ble_eq_true rfl) rfl rfl ?_
          refine SV.opY (OpL.ok (nb := 1) (ok_load_bp (b := 0) (i := 4) (ag := false) (m := 1) (ys := [.sc _]) rfl rfl rfl agg_int sz_int (fun _ => rfl) rfl rfl (Nat.le_of_ble_eq_true rfl)) rfl (Nat.le_of_ble_eq_true rfl)) rfl rfl rfl (Nat.le_of_ble_eq_true rfl) rfl rfl ?_
          refine SV.opY (OpL.ok (nb := 1) (ok_s2 (x := .tmp 22) (x' := .tmp 24) (VScal.one rfl) (VScal.one rfl) (fun ρ h1 h2 w => by go_simp; (try go_bits); with_reducible rfl) rfl) rfl (Nat.le_of_ble_eq_true rfl)) rfl rfl rfl (Nat.le_of_ble_eq_true rfl) rfl rfl ?_
          refine SV.op (OpL.ok (nb := 1) (ok_pickF (v := V.one (.sc _)) rfl rfl rfl) rfl (Nat.le_of_ble_eq_true rfl)) rfl ?_
          refine SV.op (OpL.ok (nb := 1) (ok_move (v := V.one (.sc _)) (.inl rfl) rfl) rfl (Nat.le_of_ble_eq_true rfl)) rfl ?_
          refine SV.split (d := 27) rfl (fun hg5 => ?_) (fun hg5 => ?_)
          · skip   -- g5.T
            refine SV.opN rfl rfl rfl (Nat.le_of_ble_eq_true rfl) rfl rfl rfl (Nat.le_of_ble_eq_true rfl) ?_
            refine SV.opN rfl rfl rfl (Nat.le_of_ble_eq_true rfl) rfl rfl rfl (Nat.le_of_ble_eq_true rfl) ?_
            refine SV.opN rfl rfl rfl (Nat.le_of_ble_eq_true rfl) rfl rfl rfl (Nat.le_of_ble_eq_true rfl) ?_
            refine SV.op (OpL.ok (nb := 1) (ok_pickT (v := V.one (.sc _)) rfl rfl rfl) rfl (Nat.le_of_ble_eq_true rfl)) rfl ?_
            refine SV.nil ?_
            refine SV.tn ?_
            refine SV.cond rfl (fun hc4 => ?_) (fun hc4 => ?_)
            · skip   -- c4.T
              refine SV.seq' ?_
              refine SV.region ?_
              refine SV.op (OpL.ok (nb := 1) (ok_move (v := V.one (.sc _)) (.inr rfl) rfl) rfl (Nat.le_of_ble_eq_true rfl)) rfl ?_
              refine SV.nil ?_
              refine SV.tn ?_
              refine SV.ret ?_
              refine SV.tr ?_
              apply SV.done (hf := Tryd.results17) (ht := rfl) (he := .inl rfl)
              case hr => exact (ResAll.cons (ResOk.tmp (ag := false) (xs := [.sc _]) rfl) ResAll.nil')
              case h2 => simp [two]
              refine ⟨rfl, ⟨?_, trivial⟩, trivial⟩ <;> (show some (T.lit (Value.bool _)) = some (T.lit (Value.bool _)); refine congrArg (fun z => some (T.lit (Value.bool z))) ?_; unfold GroupD.okG; (try rw [hc1', hc2']); first | (simp only [decide_eq_true_eq, decide_eq_false_iff_not] at hg6; rw [eq_comm, decide_eq_false_iff_not]; omega) | (simp only [decide_eq_true_eq, decide_eq_false_iff_not] at hg6; rw [Bool.eq_iff_iff]; simp only [decide_eq_true_eq]; omega) | (rw [eq_comm, decide_eq_false_iff_not]; simp at *; omega) | (rw [Bool.eq_iff_iff]; simp; omega))
            · skip   -- c4.F
              cases hc4
          · skip   -- g5.F
            refine SV.opY (OpL.ok (nb := 1) (ok_field_bp (b := 0) (o' := 0) (off := 4) rfl rfl fld_impl_Group_4) rfl (Nat.le_of_ble_eq_true rfl)) rfl rfl rfl (Nat.le_of_ble_eq_true rfl) rfl rfl ?_
            refine SV.opY (OpL.ok (nb := 1) (ok_load_bp (b := 0) (i := 4) (ag := false) (m := 1) (ys := [.sc _]) rfl rfl rfl agg_int sz_int (fun _ => rfl) rfl rfl (Nat.le_of_ble_eq_true rfl)) rfl (Nat.le_of_ble_eq_true rfl)) rfl rfl rfl (Nat.le_of_ble_eq_true rfl) rfl rfl ?_
            refine SV.opY (OpL.ok (nb := 1) (ok_s2 (x := .tmp 29) (x' := .const ((Value.int IntKind.i64 99))) (VScal.one rfl) (VScal.one rfl) (fun ρ h1 h2 w => by go_simp; (try go_bits); with_reducible rfl) rfl) rfl (Nat.le_of_ble_eq_true rfl)) rfl rfl rfl (Nat.le_of_ble_eq_true rfl) rfl rfl ?_
            refine SV.op (OpL.ok (nb := 1) (ok_pickF (v := V.one (.sc _)) rfl rfl rfl) rfl (Nat.le_of_ble_eq_true rfl)) rfl ?_
            refine SV.nil ?_
            refine SV.tn ?_
            refine SV.cond rfl (fun hc5 => ?_) (fun hc5 => ?_)
            · skip   -- c5.T
              refine SV.seq' ?_
              refine SV.region ?_
              refine SV.op (OpL.ok (nb := 1) (ok_move (v := V.one (.sc _)) (.inr rfl) rfl) rfl (Nat.le_of_ble_eq_true rfl)) rfl ?_
              refine SV.nil ?_
              refine SV.tn ?_
              refine SV.ret ?_
              refine SV.tr ?_
              apply SV.done (hf := Tryd.results17) (ht := rfl) (he := .inl rfl)
              case hr => exact (ResAll.cons (ResOk.tmp (ag := false) (xs := [.sc _]) rfl) ResAll.nil')
              case h2 => simp [two]
              refine ⟨rfl, ⟨?_, trivial⟩, trivial⟩ <;> (show some (T.lit (Value.bool _)) = some (T.lit (Value.bool _)); refine congrArg (fun z => some (T.lit (Value.bool z))) ?_; unfold GroupD.okG; (try rw [hc1', hc2']); first | (simp only [decide_eq_true_eq, decide_eq_false_iff_not] at hg6; rw [eq_comm, decide_eq_false_iff_not]; omega) | (simp only [decide_eq_true_eq, decide_eq_false_iff_not] at hg6; rw [Bool.eq_iff_iff]; simp only [decide_eq_true_eq]; omega) | (rw [eq_comm, decide_eq_false_iff_not]; simp at *; omega) | (rw [Bool.eq_iff_iff]; simp; omega))
            · skip   -- c5.F
              simp at hg0
              simp at hg2
              simp at hc2
              simp at hg3
              simp at hg5
              simp at hc5
              have hw1 : wrap64 (g.fMin * g.fCount) = g.fMin * g.fCount := IntWalk.wrap64_in _ (GroupD.mul_in (by omega) (by omega) (by omega) (by omega))
              have hw2 : wrap64 (g.fMax * g.fCount) = g.fMax * g.fCount := IntWalk.wrap64_in _ (GroupD.mul_in (by omega) (by omega) (by omega) (by omega))
              have hc1' : g.fCount * g.fMin = g.fMin * g.fCount := Int.mul_comm _ _
              have hc2' : g.fCount * g.fMax = g.fMax * g.fCount := Int.mul_comm _ _
              refine SV.skip ?_
              refine SV.tn ?_
              refine SV.seq' ?_
              refine SV.region ?_
              refine SV.op (OpL.ok (nb := 1) (ok_field_bp (b := 0) (o' := 0) (off := 2) rfl rfl fld_impl_Group_2) rfl (Nat.le_of_ble_eq_true rfl)) rfl ?_
              refine SV.op (OpL.ok (nb := 1) (ok_load_bp (b := 0) (i := 2) (ag := false) (m := 1) (ys := [.sc _]) rfl rfl rfl agg_int sz_int (fun _ => rfl) rfl rfl (Nat.le_of_ble_eq_true rfl)) rfl (Nat.le_of_ble_eq_true rfl)) rfl ?_
              refine SV.op (OpL.ok (nb := 1) (ok_field_bp (b := 0) (o' := 0) (off := 1) rfl rfl fld_impl_Group_1) rfl (Nat.le_of_ble_eq_true rfl)) rfl ?_
              refine SV.op (OpL.ok (nb := 1) (ok_load_bp (b := 0) (i := 1) (ag := false) (m := 1) (ys := [.sc _]) rfl rfl rfl agg_int sz_int (fun _ => rfl) rfl rfl (Nat.le_of_ble_eq_true rfl)) rfl (Nat.le_of_ble_eq_true rfl)) rfl ?_
              refine SV.op (OpL.ok (nb := 1) (ok_field_bp (b := 0) (o' := 0) (off := 3) rfl rfl fld_impl_Group_3) rfl (Nat.le_of_ble_eq_true rfl)) rfl ?_
              refine SV.op (OpL.ok (nb := 1) (ok_load_bp (b := 0) (i := 3) (ag := false) (m := 1) (ys := [.sc _]) rfl rfl rfl agg_int sz_int (fun _ => rfl) rfl rfl (Nat.le_of_ble_eq_true rfl)) rfl (Nat.le_of_ble_eq_true rfl)) rfl ?_
              refine SV.op (OpL.ok (nb := 1) (ok_s2 (v := .int .i64 (g.fMin * g.fCount)) (x := .tmp 35) (x' := .tmp 37) (VScal.one rfl) (VScal.one rfl) (fun ρ h1 h2 w => by go_simp; rw [IntWalk.i64_left, hw1]) rfl) rfl (Nat.le_of_ble_eq_true rfl)) rfl ?_
              refine SV.op (OpL.ok (nb := 1) (ok_s2 (x := .tmp 33) (x' := .tmp 38) (VScal.one rfl) (VScal.one rfl) (fun ρ h1 h2 w => by go_simp; (try go_bits); with_reducible rfl) rfl) rfl (Nat.le_of_ble_eq_true rfl)) rfl ?_
              refine SV.op (OpL.ok (nb := 1) (ok_move (v := V.one (.sc _)) (.inl rfl) rfl) rfl (Nat.le_of_ble_eq_true rfl)) rfl ?_
              refine SV.split (d := 40) rfl (fun hg6 => ?_) (fun hg6 => ?_)
              · skip   -- g6.T
                refine SV.opY (OpL.ok (nb := 1) (ok_field_bp (b := 0) (o' := 0) (off := 2) rfl rfl fld_impl_Group_2) rfl (Nat.le_of_ble_eq_true rfl)) rfl rfl rfl (Nat.le_of_ble_eq_true rfl) rfl rfl ?_
                refine SV.opY (OpL.ok (nb := 1) (ok_load_bp (b := 0) (i := 2) (ag := false) (m := 1) (ys := [.sc _]) rfl rfl rfl agg_int sz_int (fun _ => rfl) rfl rfl (Nat.le_of_ble_eq_true rfl)) rfl (Nat.le_of_ble_eq_true rfl)) rfl rfl rfl (Nat.le_of_ble_eq_true rfl) rfl rfl ?_
                refine SV.opY (OpL.ok (nb := 1) (ok_field_bp (b := 0) (o' := 0) (off := 1) rfl rfl fld_impl_Group_1) rfl (Nat.le_of_ble_eq_true rfl)) rfl rfl rfl (Nat.le_of_ble_eq_true rfl) rfl rfl ?_
                refine SV.opY (OpL.ok (nb := 1) (ok_load_bp (b := 0) (i := 1) (ag := false) (m := 1) (ys := [.sc _]) rfl rfl rfl agg_int sz_int (fun _ => rfl) rfl rfl (Nat.le_of_ble_eq_true rfl)) rfl (Nat.le_of_ble_eq_true rfl)) rfl rfl rfl (Nat.le_of_ble_eq_true rfl) rfl rfl ?_
                refine SV.opY (OpL.ok (nb := 1) (ok_field_bp (b := 0) (o' := 0) (off := 4) rfl rfl fld_impl_Group_4) rfl (Nat.le_of_ble_eq_true rfl)) rfl rfl rfl (Nat.le_of_ble_eq_true rfl) rfl rfl ?_
                refine SV.opY (OpL.ok (nb := 1) (ok_load_bp (b := 0) (i := 4) (ag := false) (m := 1) (ys := [.sc _]) rfl rfl rfl agg_int sz_int (fun _ => rfl) rfl rfl (Nat.le_of_ble_eq_true rfl)) rfl (Nat.le_of_ble_eq_true rfl)) rfl rfl rfl (Nat.le_of_ble_eq_true rfl) rfl rfl ?_
                refine SV.opY (OpL.ok (nb := 1) (ok_s2 (v := .int .i64 (g.fMax * g.fCount)) (x := .tmp 44) (x' := .tmp 46) (VScal.one rfl) (VScal.one rfl) (fun ρ h1 h2 w => by go_simp; rw [IntWalk.i64_left, hw2]) rfl) rfl (Nat.le_of_ble_eq_true rfl)) rfl rfl rfl (Nat.le_of_ble_eq_true rfl) rfl rfl ?_
                refine SV.opY (OpL.ok (nb := 1) (ok_s2 (x := .tmp 42) (x' := .tmp 47) (VScal.one rfl) (VScal.one rfl) (fun ρ h1 h2 w => by go_simp; (try go_bits); with_reducible rfl) rfl) rfl (Nat.le_of_ble_eq_true rfl)) rfl rfl rfl (Nat.le_of_ble_eq_true rfl) rfl rfl ?_
                refine SV.op (OpL.ok (nb := 1) (ok_pickT (v := V.one (.sc _)) rfl rfl rfl) rfl (Nat.le_of_ble_eq_true rfl)) rfl ?_
                refine SV.op (OpL.ok (nb := 1) (ok_move (v := V.one (.sc _)) (.inr rfl) rfl) rfl (Nat.le_of_ble_eq_true rfl)) rfl ?_
                refine SV.nil ?_
                refine SV.tn ?_
                refine SV.ret ?_
                apply SV.done (hf := Tryd.results17) (ht := rfl) (he := .inl rfl)
                case hr => exact (ResAll.cons (ResOk.tmp (ag := false) (xs := [.sc _]) rfl) ResAll.nil')
                case h2 => simp [two]
                refine ⟨rfl, ⟨?_, trivial⟩, trivial⟩ <;> (show some (T.lit (Value.bool _)) = some (T.lit (Value.bool _)); refine congrArg (fun z => some (T.lit (Value.bool z))) ?_; unfold GroupD.okG; (try rw [hc1', hc2']); first | (simp only [decide_eq_true_eq, decide_eq_false_iff_not] at hg6; rw [eq_comm, decide_eq_false_iff_not]; omega) | (simp only [decide_eq_true_eq, decide_eq_false_iff_not] at hg6; rw [Bool.eq_iff_iff]; simp only [decide_eq_true_eq]; omega) | (rw [eq_comm, decide_eq_false_iff_not]; simp at *; omega) | (rw [Bool.eq_iff_iff]; simp; omega))
              · skip   -- g6.F
                refine SV.opN rfl rfl rfl (Nat.le_of_ble_eq_true rfl) rfl rfl rfl (Nat.le_of_ble_eq_true rfl) ?_
                refine SV.opN rfl rfl rfl (Nat.le_of_ble_eq_true rfl) rfl rfl rfl (Nat.le_of_ble_eq_true rfl) ?_
                refine SV.opN rfl rfl rfl (Nat.le_of_ble_eq_true rfl) rfl rfl rfl (Nat.le_of_ble_eq_true rfl) ?_
                refine SV.opN rfl rfl rfl (Nat.le_of_ble_eq_true rfl) rfl rfl rfl (Nat.le_of_ble_eq_true rfl) ?_
                refine SV.opN rfl rfl rfl (Nat.le_of_ble_eq_true rfl) rfl rfl rfl (Nat.le_of_ble_eq_true rfl) ?_
                refine SV.opN rfl rfl rfl (Nat.le_of_ble_eq_true rfl) rfl rfl rfl (Nat.le_of_ble_eq_true rfl) ?_
                refine SV.opN rfl rfl rfl (Nat.le_of_ble_eq_true rfl) rfl rfl rfl (Nat.le_of_ble_eq_true rfl) ?_
                refine SV.opN rfl rfl rfl (Nat.le_of_ble_eq_true rfl) rfl rfl rfl (Nat.le_of_ble_eq_true rfl) ?_
                refine SV.op (OpL.ok (nb := 1) (ok_pickF (v := V.one (.sc _)) rfl rfl rfl) rfl (Nat.le_of_ble_eq_true rfl)) rfl ?_
                refine SV.op (OpL.ok (nb := 1) (ok_move (v := V.one (.sc _)) (.inr rfl) rfl) rfl (Nat.le_of_ble_eq_true rfl)) rfl ?_
                refine SV.nil ?_
                refine SV.tn ?_
                refine SV.ret ?_
                apply SV.done (hf := Tryd.results17) (ht := rfl) (he := .inl rfl)
                case hr => exact (ResAll.cons (ResOk.tmp (ag := false) (xs := [.sc _]) rfl) ResAll.nil')
                case h2 => simp [two]
                refine ⟨rfl, ⟨?_, trivial⟩, trivial⟩ <;> (show some (T.lit (Value.bool _)) = some (T.lit (Value.bool _)); refine congrArg (fun z => some (T.lit (Value.bool z))) ?_; unfold GroupD.okG; (try rw [hc1', hc2']); first | (simp only [decide_eq_true_eq, decide_eq_false_iff_not] at hg6; rw [eq_comm, decide_eq_false_iff_not]; omega) | (simp only [decide_eq_true_eq, decide_eq_false_iff_not] at hg6; rw [Bool.eq_iff_iff]; simp only [decide_eq_true_eq]; omega) | (rw [eq_comm, decide_eq_false_iff_not]; simp at *; omega) | (rw [Bool.eq_iff_iff]; simp; omega))
end Go.Proofs.YtmlcdhblofjpbaaDoor
/- A map of groups that the call made, as plain mathematics over the library's words: what it has at a key; how a group lies in it; no function of the program is walked here. -/
namespace Go.Proofs.YtmlcdhblofjpbaaDoor
open Go Go.RowKit Go.Maps Go.ChangeMaps Go.MapKept
set_option linter.unusedVariables false
/-- A group's cells, its value, and how it reads in a map. -/
def GroupD.cells (g : GroupD) : List Value := [.int .i64 g.fKey, .int .i64 g.fCount, .int .i64 g.fSum, .int .i64 g.fMin, .int .i64 g.fMax]
def GroupD.val (g : GroupD) : Value := .agg #[.int .i64 g.fKey, .int .i64 g.fCount, .int .i64 g.fSum, .int .i64 g.fMin, .int .i64 g.fMax]
def datG (g : GroupD) : DataW Unit := .agg [.lit (.int .i64 g.fKey), .lit (.int .i64 g.fCount), .lit (.int .i64 g.fSum), .lit (.int .i64 g.fMin), .lit (.int .i64 g.fMax)]
def rG (v : Value) : Option (DataW Unit × List MemPlace) := match v with
  | .agg xs => match xs.toList with
    | [.int .i64 a, .int .i64 b, .int .i64 c, .int .i64 d, .int .i64 e] => some (.agg [.lit (.int .i64 a), .lit (.int .i64 b), .lit (.int .i64 c), .lit (.int .i64 d), .lit (.int .i64 e)], [])
    | _ => none
  | _ => none
theorem rG_val (g : GroupD) : rG g.val = some (datG g, []) := rfl
theorem rG_inv {v : Value} {y : DataW Unit × List MemPlace} (h : rG v = some y) : ∃ g : GroupD, v = g.val ∧ y = (datG g, []) := by
  unfold rG at h
  split at h
  · rename_i xs
    split at h
    · rename_i a b c d e hx
      cases h
      refine ⟨⟨a, b, c, d, e⟩, ?_, rfl⟩
      have : xs = #[.int .i64 a, .int .i64 b, .int .i64 c, .int .i64 d, .int .i64 e] := by apply Array.toList_inj.1; rw [hx]
      rw [this]; rfl
    · cases h
  · cases h
theorem datG_inj {g h : GroupD} (e : datG g = datG h) : g = h := by
  obtain ⟨a, b, c, d, f⟩ := g
  obtain ⟨a', b', c', d', f'⟩ := h
  simpa [datG] using e
theorem val_inj {g h : GroupD} (e : g.val = h.val) : g = h := by
  obtain ⟨a, b, c, d, f⟩ := g
  obtain ⟨a', b', c', d', f'⟩ := h
  simpa [GroupD.val] using e
/-- The map has, at each key, what the list has for it. -/
def AtG (D : DataW Unit) (M : List GroupD) : Prop := ∀ x : Int, Maps.has D (.int .i64 x) = (GroupD.get x M).isSome ∧ ∀ g, GroupD.get x M = some g → ∀ zd, D.atKey (.int .i64 x) zd = datG g
theorem atG_nil : AtG (.map []) [] := fun x => ⟨rfl, fun g h => by cases h⟩
theorem atG_put {D : DataW Unit} {M : List GroupD} (hD : IsMap D) (h : AtG D M) {g o : GroupD} (ho : GroupD.opt (GroupD.get g.fKey M) g = some o) : AtG (D.put (.int .i64 g.fKey) (datG o)) (M ++ [g]) := by
  intro x
  by_cases e : x = g.fKey
  · subst e
    rw [GroupD.get_snoc, if_pos rfl, ho]
    refine ⟨has_put_same hD (show WideAt.IsKeyLit (.int .i64 g.fKey) from trivial) _, fun o' h' zd => ?_⟩
    cases h'
    exact atKey_put_same hD (show WideAt.IsKeyLit (.int .i64 g.fKey) from trivial) _ _
  · have ne : (Lit.int .i64 x) ≠ .int .i64 g.fKey := fun h => e (by cases h; rfl)
    rw [GroupD.get_snoc, if_neg (fun h => e h.symm)]
    refine ⟨(has_put_other ne _).trans (h x).1, fun o' h' zd => ?_⟩
    rw [atKey_put_other ne]
    exact (h x).2 o' h' zd
abbrev OwnM (w : World) (b n : Nat) (D : DataW Unit) : Prop := w.ownsMap Tryd.prog 3 rG b n D
theorem intKeyed : Keyed Tryd.prog 3 := int_keyed Tryd.underlying3
/-- What has come of a map's groups, and what is still to come. -/
structure CameG (D0 : DataW Unit) (M : List GroupD) (left : Lit → Bool) (ps : List GroupD) : Prop where
  nodup : (ps.map (·.fKey)).Nodup
  keys : ∀ x, x ∈ ps.map (·.fKey) ↔ (has D0 (.int .i64 x) = true ∧ left (.int .i64 x) = false)
  vals : ∀ p ∈ ps, GroupD.get p.fKey M = some p
theorem CameG.start (D0 : DataW Unit) (M : List GroupD) : CameG D0 M (has D0) [] := ⟨List.nodup_nil, fun x => by cases has D0 (.int .i64 x) <;> simp, fun p h => by cases h⟩
theorem CameG.step {D0 : DataW Unit} {M : List GroupD} {left : Lit → Bool} {ps : List GroupD} (h : CameG D0 M left ps) (hA : AtG D0 M) {x : Int} {g : GroupD} (hl : left (.int .i64 x) = true) (hat : ∀ zd, D0.atKey (.int .i64 x) zd = datG g) :
    CameG D0 M (fun z => left z && !z.sameKey (.int .i64 x)) (ps ++ [g]) := by
  have hh : has D0 (.int .i64 x) = true := has_true_of_atKey hat
  obtain ⟨o, ho⟩ := Option.isSome_iff_exists.1 ((hA x).1 ▸ hh)
  have hog : o = g := datG_inj (((hA x).2 o ho .nil).symm.trans (hat .nil))
  subst hog
  have hk : o.fKey = x := GroupD.get_key ho
  have hs : ∀ y : Int, (Lit.int IntKind.i64 y).sameKey (.int .i64 x) = decide (y = x) := fun y => by simp [Lit.sameKey]
  have hn : x ∉ ps.map (·.fKey) := fun hm => by rw [((h.keys x).1 hm).2] at hl; cases hl
  refine ⟨?_, fun y => ?_, fun p hp => ?_⟩
  · rw [List.map_append, List.map_singleton, List.nodup_append]
    refine ⟨h.nodup, by simp, fun a ha b hb => ?_⟩
    rw [List.mem_singleton.1 hb, hk]
    exact fun e => hn (e ▸ ha)
  · rw [List.map_append, List.map_singleton, List.mem_append, List.mem_singleton, hk, h.keys y, hs y]
    by_cases e : y = x
    · subst e; simp [hh]
    · simp [e]
  · rcases List.mem_append.1 hp with hp | hp
    · exact h.vals p hp
    · rw [List.mem_singleton.1 hp, hk]; exact ho
theorem CameG.perm {D0 : DataW Unit} {M : List GroupD} {left : Lit → Bool} {ps : List GroupD} (h : CameG D0 M left ps) (hA : AtG D0 M) (hl : ∀ z, left z = false) : ps.Perm (GroupD.merge M) := by
  have hnd : ps.Nodup := (List.pairwise_map.1 h.nodup).imp fun {a b} hab e => hab (by rw [e])
  refine (List.perm_ext_iff_of_nodup hnd (GroupD.asc_nodup (GroupD.merge_asc M))).2 fun g => ?_
  rw [GroupD.asc_mem (GroupD.merge_asc M), GroupD.at_merge]
  refine ⟨h.vals g, fun hg => ?_⟩
  have : g.fKey ∈ ps.map (·.fKey) := (h.keys _).2 ⟨by rw [(hA _).1, hg]; rfl, hl _⟩
  obtain ⟨p, hp, he⟩ := List.mem_map.1 this
  have := h.vals p hp
  rw [he, hg] at this
  cases this
  exact hp
/-- Groups sorted by their keys. -/
def kcmp (a b : GroupD) : Int := R.one a.fKey b.fKey
end Go.Proofs.YtmlcdhblofjpbaaDoor
/- maps.Values over a map of groups that the call made: every group comes once. -/
namespace Go.Proofs.YtmlcdhblofjpbaaDoor
open Go Go.RowKit Go.Maps Go.Sort
set_option linter.unusedVariables false
set_option maxRecDepth 100000 in
set_option maxHeartbeats 1000000 in
theorem gvals_in (F : Fence) (n : Nat) (hf : F.fn 96) (hro : F.round = none) (hn : 1 ≤ n) (l Bm b nn : Nat) (D0 : DataW Unit) (M : List GroupD) (hA : AtG D0 M) (J : List GroupD → World → Prop)
    (hY : ∀ pre x W, J pre W → pre.length < Maps.size D0 → YieldAt F (n - 1) Tryd.prog l #[x.val] W fun e W' => e = .returned (.bool true) ∧ J (pre ++ [x]) W' ∧ KeepsWalks W W')
    (W : World) (hJ : AbidesFrom W.heap.size J) (hm : W.cell? ⟨Bm, 0, none⟩ = some (.map (some b))) (hown : OwnM W b nn D0) (h0 : J [] W) :
    CallsIn F n Tryd.prog 96 #[.func (.yield l) #[] #[], .pointer (some ⟨Bm, 0, none⟩)] W fun e W' => (∃ v, e = .returned v) ∧ ∃ ps, ps.Perm (GroupD.merge M) ∧ J ps W' := by
  refine callsIn_of_wp Tryd.func96 rfl hf ?_ hro
  simp only [Tryd.ntmps96, List.size_toArray, List.length_cons, List.length_nil, Nat.reduceAdd, Nat.reduceSub, Array.replicate_succ, Array.replicate_zero, List.push_toArray, List.append_toArray, List.nil_append, List.cons_append]
  gi_wp2_with (first
    | (gi_at_range; refine wpListIn_range_own _ rfl _ 80 rfl 3 33 intKeyed Tryd.underlying80 _ b nn _ rfl hown ?_; intro w0 hrg0 hg0 hs0)
    | gi_in)
  go_frame
  gi_loopw [4] (fun _ wr => ∃ (left : Lit → Bool) (cnt : Nat) (ps : List GroupD), wr.ranges Tryd.prog 3 rG b W.heap.size nn D0 left cnt ∧ ps.length + cnt ≤ Maps.size D0 ∧ CameG D0 M left ps ∧ J ps wr)
    (fun _ wr => wr.rangeLeft b W.heap.size)
  case atStart =>
    exact ⟨_, _, [], hrg0, by simp, CameG.start D0 M, hJ [] W w0 none h0 hg0 (fun r e => by cases e)⟩
  case round =>
    obtain ⟨left, cnt, ps, hrg, hcs, hC, hJs⟩ := hrel
    gi_wp2_with (first
      | (gi_at_next; refine wpListIn_next_ranges _ rfl _ rfl 3 intKeyed rG (Value.int .i64) GroupD.val (fun key kl hk => by obtain ⟨c, hc, _⟩ := Maps.keyOf_int_inv Tryd.underlying3 hk; exact ⟨c, hc⟩) (fun v y hv => by obtain ⟨g, hg, _⟩ := rG_inv hv; exact ⟨g, hg⟩) b W.heap.size nn _ _ _ rfl hrg ?_ ?_)
      | gi_in)
    · intro hc0 hl0
      gi_wp2
      go_end0
      exact ⟨⟨_, rfl⟩, ps, hC.perm hA hl0, hJs⟩
    · intro x c kl yd yp w2 cnt2 hkey hlk hv hat hrg2 hlt hg2 hs2 hen
      obtain ⟨x', ex, rfl, _⟩ := Maps.keyOf_int_inv Tryd.underlying3 hkey
      obtain rfl : x = x' := by simpa using ex
      obtain ⟨c', ec, ez⟩ := rG_inv hv
      obtain rfl : c = c' := val_inj ec
      obtain rfl : yd = datG c := (Prod.mk.inj ez).1
      have hJ2 : J ps w2 := hJ ps wr w2 (some W.heap.size) hJs hg2 (fun r e => by cases e; exact ⟨Nat.le_refl _, hrg.iter_walk⟩)
      have hC2 := hC.step hA hlk hat
      obtain ⟨w3, hw3⟩ : ∃ w3, w3 = w2.alloc (.cells #[.int .i64 c.fKey, .int .i64 c.fCount, .int .i64 c.fSum, .int .i64 c.fMin, .int .i64 c.fMax] 33) := ⟨_, rfl⟩
      have hJ3 : J ps w3 := by rw [hw3]; exact hJ ps w2 _ none hJ2 (World.grownBy_alloc w2 _ none) (fun r e => by cases e)
      have hrg3 := hrg2.of_walks (by rw [hw3]; exact KeepsWalks.alloc w2 _ : KeepsWalks w2 w3)
      obtain ⟨fn, tmps, assign, body, hy, hR⟩ := hY ps c w3 hJ3 (by omega)
      unfold GroupD.val at hen hy
      subst hw3
      clear hs2
      gi_wp2
      refine hR.mono ?_
      rintro e W3 ⟨rfl, hJ4, hk4⟩
      have hrg4 := hrg3.of_walks hk4
      gi_wp2
      go_roundw
      case rel => exact ⟨_, cnt2, ps ++ [c], hrg4, by simp; omega, hC2, hJ4⟩
      case measure => rw [hrg4.left_eq, hrg.left_eq]; exact hlt
end Go.Proofs.YtmlcdhblofjpbaaDoor
/- slices.AppendSeq and slices.Collect at groups, against any iterator that gives its groups one by one. -/
namespace Go.Proofs.YtmlcdhblofjpbaaDoor
open Go Go.RowKit Go.Maps Go.Sort
set_option linter.unusedVariables false
abbrev OwnG (w : World) (B : Nat) (v : Value) (M : List GroupD) : Prop := w.ownsRow B 33 5 v M.length (M.flatMap GroupD.cells)
theorem groupInfo5 : (Tryd.prog.info? 33).map (fun i => (i.zero, i.size, i.bytes)) = some (some (.agg #[.int .i64 0, .int .i64 0, .int .i64 0, .int .i64 0, .int .i64 0]), 5, 40) := by kernel_rfl
/-- The loop's two parts: the variable, the append. -/
def gAssign : Go.Code := .region 2 #[{ dst := some 5, op := .alloc 33, type := 0, pos := "iter.go:51", after := #[], guard := none }, { dst := none, op := .store 33 (.tmp 5) (.tmp 7), type := 0, pos := "iter.go:51", after := #[{ on := 0, ground := .data }, { on := 0, ground := .phase }], guard := none }] false
def gBody : Go.Code := .block 1 (.region 3 #[{ dst := some 8, op := .load 26 (.tmp 2), type := 26, pos := "iter.go:52", after := #[], guard := none }, { dst := some 9, op := .load 33 (.tmp 5), type := 33, pos := "iter.go:52", after := #[], guard := none },
  { dst := some 10, op := .buildSlice 26 1 #[(0, .tmp 9)], type := 26, pos := "iter.go:52", after := #[{ on := 1, ground := .data }], guard := none },
  { dst := some 11, op := .call { callee := .builtin .append, args := #[.tmp 8, .tmp 10], argTypes := #[26, 26] }, type := 26, pos := "iter.go:52", after := #[{ on := 0, ground := .data }, { on := 2, ground := .data }], guard := none },
  { dst := none, op := .store 26 (.tmp 2) (.tmp 11), type := 0, pos := "iter.go:52", after := #[{ on := 3, ground := .data }, { on := 3, ground := .chain }, { on := 0, ground := .phase }, { on := 1, ground := .phase }, { on := 2, ground := .phase }, { on := 3, ground := .phase }], guard := none }] false)
def gRec (fn : FuncId) (sv : Value) (Bs D : Nat) (st : LoopState) (pend : Option Go.Code) : Loop :=
  { state := st, pending := pend, fn, tmps := #[.slice none 0 0, sv, .pointer (some ⟨Bs, 0, none⟩), undef, .slice none 0 0, undef, sv, undef, undef, undef, undef, undef, undef], params := #[7], assign := gAssign, body := gBody, defers := D }
/-- Between two rounds. -/
structure ApG (w0 : World) (fn : FuncId) (sv : Value) (Bs l D : Nat) (ps : List GroupD) (W : World) : Prop where
  box : ∃ v, W.heap[Bs]? = some (.cells #[v] 26 (0, 0)) ∧ OwnG W w0.heap.size v ps
  L : W.heap[l]? = some (.loop (gRec fn sv Bs D .ready none))
  K : W.heap[D]? = some (.deferred (some []))
  below : Below w0.heap.size w0 W
theorem apG_abides (w0 : World) (fn : FuncId) (sv : Value) (Bs l D B : Nat) (hB : w0.heap.size ≤ B) : AbidesFrom B (ApG w0 fn sv Bs l D) := fun s W W' row h hg hrow => by
  have hrow' : ∀ r, row = some r → ∃ o : Obj, W.heap[r]? = some o ∧ o.isWalk = true := fun r e => (hrow r e).2
  obtain ⟨v, hv, hr⟩ := h.box
  exact ⟨⟨v, (grownBy_keeps hg hrow' hv rfl).trans hv, ownsRow_abides_a hr hg hrow'⟩, (grownBy_keeps hg hrow' h.L rfl).trans h.L, (grownBy_keeps hg hrow' h.K rfl).trans h.K,
    h.below.grown hg h.below.size (fun k e => Nat.le_trans hB (hrow k e).1)⟩
theorem box_ne {ps : List GroupD} {v : Value} {cur : Array Value} : (Obj.cells #[v] 26 (0, 0)) ≠ .cells cur 33 (0, 0) := fun e => by
  injection e with _ e
  exact absurd e (by decide)
set_option maxRecDepth 100000 in
set_option maxHeartbeats 2000000 in
theorem gYield (F : Fence) (m : Nat) (w0 : World) (fn : FuncId) (hfn : F.fn fn) (sv : Value) (Bs l D : Nat) (hBl : Bs ≠ l) (hDl : D ≠ l) (hDB : D ≠ Bs) (h0B : w0.heap.size ≤ Bs) (h0l : w0.heap.size ≤ l)
    (ps : List GroupD) (x : GroupD) (W : World) (h : ApG w0 fn sv Bs l D ps W) (hlen : ps.length < 350000000000) :
    YieldAt F m Tryd.prog l #[x.val] W fun e W' => e = .returned (.bool true) ∧ ApG w0 fn sv Bs l D (ps ++ [x]) W' ∧ KeepsWalks W W' := by
  obtain ⟨i0, hi, hz0, hz1, hz2⟩ := info_parts groupInfo5
  refine ⟨fn, #[.slice none 0 0, sv, .pointer (some ⟨Bs, 0, none⟩), undef, .slice none 0 0, undef, sv, x.val, undef, undef, undef, undef, undef], gAssign, gBody, by simpa [gRec] using run_yield (P := Tryd.prog) (args := #[x.val]) h.L rfl, roundIn_of_wpIn hfn ?_⟩
  have hl0 : l < W.heap.size := (Array.getElem?_eq_some_iff.1 h.L).1
  obtain ⟨Wa, hWa⟩ : ∃ Wa, Wa = W.alloc (.cells #[.int .i64 x.fKey, .int .i64 x.fCount, .int .i64 x.fSum, .int .i64 x.fMin, .int .i64 x.fMax] 33) := ⟨_, rfl⟩
  have ha : ApG w0 fn sv Bs l D ps Wa := by rw [hWa]; exact apG_abides w0 fn sv Bs l D w0.heap.size (Nat.le_refl _) ps W _ none h (World.grownBy_alloc W _ none) (fun r e => by cases e)
  have hka : KeepsWalks W Wa := by rw [hWa]; exact KeepsWalks.alloc W _
  have hxa : Wa.heap[W.heap.size]? = some (.cells x.cells.toArray 33 (0, 0)) := by rw [hWa]; exact World.alloc_heap_new W _
  have hl : l < Wa.heap.size := by rw [hWa]; simp; omega
  obtain ⟨v, hv, hrow⟩ := ha.box
  have hbr := run_beginRound (P := Tryd.prog) ha.L rfl
  obtain ⟨W2, hW2⟩ : ∃ W2, Wa.putObj l (.loop { gRec fn sv Bs D .ready none with state := .busy }) = W2 := ⟨_, rfl⟩
  rw [hW2] at hbr
  have hg2 : Wa.grownBy W2 (some l) := by rw [← hW2]; exact grownBy_putObj_a _ _ _
  have hk2 : KeepsWalks Wa W2 := by rw [← hW2]; exact KeepsWalks.putObj _ ha.L rfl
  have hv2 : W2.heap[Bs]? = some (.cells #[v] 26 (0, 0)) := by rw [← hW2]; exact (World.putObj_heap_other hBl).trans hv
  have hK2 : W2.heap[D]? = some (.deferred (some [])) := by rw [← hW2]; exact (World.putObj_heap_other hDl).trans ha.K
  have hL2 : W2.heap[l]? = some (.loop { gRec fn sv Bs D .ready none with state := .busy }) := by rw [← hW2]; exact World.putObj_heap_same hl
  have hx2 : W2.heap[W.heap.size]? = some (.cells x.cells.toArray 33 (0, 0)) := by rw [← hW2]; exact (World.putObj_heap_other (by omega)).trans hxa
  have hrow2 : OwnG W2 w0.heap.size v ps := hrow.kept hg2 (ownsRow_ne_a hrow ha.L (fun cur e => by cases e))
  have hb2 : Below w0.heap.size w0 W2 := ha.below.grown hg2 ha.below.size (fun k e => by cases e; exact h0l)
  obtain ⟨hc2, hf2⟩ := cell_of_box_a hv2
  have hBlt : Bs < W2.heap.size := (Array.getElem?_eq_some_iff.1 hv2).1
  have hl2 : l < W2.heap.size := (Array.getElem?_eq_some_iff.1 hL2).1
  have hDlt : D < W2.heap.size := (Array.getElem?_eq_some_iff.1 hK2).1
  have hxlt : W.heap.size < W2.heap.size := (Array.getElem?_eq_some_iff.1 hx2).1
  have ne_of : ∀ {j : Nat} {o : Obj}, W2.heap[j]? = some o → (∀ cur, o ≠ .cells cur 33 (0, 0)) → some j ≠ v.ownBlock := fun hj hno => by
    rcases ownsRow_ne_a hrow2 hj hno with e | e
    · rw [e]; simp
    · exact fun e' => e e'.symm
  obtain ⟨x0, x1, x2, x3, x4⟩ : W2.cell? ⟨W.heap.size, 0, none⟩ = some (.int .i64 x.fKey) ∧ W2.cell? ⟨W.heap.size, 1, none⟩ = some (.int .i64 x.fCount) ∧ W2.cell? ⟨W.heap.size, 2, none⟩ = some (.int .i64 x.fSum) ∧ W2.cell? ⟨W.heap.size, 3, none⟩ = some (.int .i64 x.fMin) ∧ W2.cell? ⟨W.heap.size, 4, none⟩ = some (.int .i64 x.fMax) := by
    refine ⟨?_, ?_, ?_, ?_, ?_⟩ <;> simp [World.cell?, hx2, GroupD.cells]
  clear hW2
  subst hWa
  unfold gAssign GroupD.val
  gi_wp2_with gi_round_op_a
  unfold gBody
  have hlow := hb2.size
  gi_wp2_with (first
    | (gi_at_builtin; refine wpListIn_append_own _ rfl _ _ 26 rfl w0.heap.size 33 i0 (.agg #[.int .i64 0, .int .i64 0, .int .i64 0, .int .i64 0, .int .i64 0]) 5 40 Tryd.underlying26 hi hz0 hz1 hz2 rfl (by decide) _ _ _ rfl (hrow2.alloc _) ⟨W2.heap.size, 0, none⟩ 1 1 x.cells rfl rfl ?hcell ?hone (by unfold maxLen; omega) (by omega) (by simp; omega) ?_; rotate_left 2; intro v' w3 hown' hg3 hnil3
       have hg3' : (W2.alloc (.cells #[.int .i64 x.fKey, .int .i64 x.fCount, .int .i64 x.fSum, .int .i64 x.fMin, .int .i64 x.fMax] 33)).grownBy w3 v.ownBlock := hg3
       have hv3 : w3.heap[Bs]? = some (.cells #[v] 26 (0, 0)) := (hg3'.block Bs (by simp; omega) (ne_of hv2 (fun cur e => by cases e))).trans ((Below.heap_alloc _ _ Bs hBlt).trans hv2)
       obtain ⟨hc3, hf3⟩ := cell_of_box_a hv3
       obtain ⟨g', cap', cur', rfl, hbase', hgb', hr1, hr2, hr3, hr4⟩ : ∃ g' cap' cur', v' = .slice (some ⟨g', 0, none⟩) (ps.length + 1) cap' ∧ w0.heap.size ≤ g' ∧ w3.heap[g']? = some (.cells cur' 33 (0, 0)) ∧ ps.length + 1 ≤ cap' ∧ cap' ≤ maxLen ∧ cur'.size = cap' * 5 ∧ cur'.toList.take ((ps.length + 1) * 5) = ps.flatMap GroupD.cells ++ x.cells := by
         rcases hown'.2 with ⟨_, h0⟩ | h'
         · exact absurd h0 (by omega)
         · exact h'
       clear hg3 hnil3
       go_frame)
    | gi_round_op_a)
  case hcell =>
    intro j u hj
    have hnew := World.alloc_heap_new W2 (.cells #[.int .i64 x.fKey, .int .i64 x.fCount, .int .i64 x.fSum, .int .i64 x.fMin, .int .i64 x.fMax] 33)
    rw [Addr.add_lit]
    simp only [World.cell?, hnew]
    rw [Nat.zero_add]
    have : (x.cells.toArray)[j]? = some u := by simpa using hj
    exact this
  case hone =>
    intro u hu
    simp only [GroupD.cells, List.mem_cons, List.not_mem_nil, or_false] at hu
    rcases hu with rfl | rfl | rfl | rfl | rfl <;> rfl
  have hL3 : w3.heap[l]? = some (.loop { gRec fn sv Bs D .ready none with state := .busy }) := (hg3'.block l (by simp; omega) (ne_of hL2 (fun cur e => by cases e))).trans ((Below.heap_alloc _ _ l hl2).trans hL2)
  have hK3 : w3.heap[D]? = some (.deferred (some [])) := (hg3'.block D (by simp; omega) (ne_of hK2 (fun cur e => by cases e))).trans ((Below.heap_alloc _ _ D hDlt).trans hK2)
  obtain ⟨w4, hw4⟩ : ∃ w4, w3.setCell ⟨Bs, 0, none⟩ (.slice (some ⟨g', 0, none⟩) (ps.length + 1) cap') = w4 := ⟨_, rfl⟩
  rw [hw4]
  have hg4 : w3.grownBy w4 (some Bs) := by rw [← hw4]; exact grownBy_setCell0_a _ _ _
  have hv4 : w4.heap[Bs]? = some (.cells #[.slice (some ⟨g', 0, none⟩) (ps.length + 1) cap'] 26 (0, 0)) := by rw [← hw4]; exact heap_setCell_box_a _ hv3
  have hL4 : w4.heap[l]? = some (.loop { gRec fn sv Bs D .ready none with state := .busy }) := (hg4.block l (Array.getElem?_eq_some_iff.1 hL3).1 (fun e => hBl (by cases e; rfl))).trans hL3
  have hK4 : w4.heap[D]? = some (.deferred (some [])) := (hg4.block D (Array.getElem?_eq_some_iff.1 hK3).1 (fun e => hDB (by cases e; rfl))).trans hK3
  have hrow4 := hown'.kept hg4 (ownsRow_ne_a hown' hv3 (fun cur e => by cases e))
  have hl4 : l < w4.heap.size := (Array.getElem?_eq_some_iff.1 hL4).1
  have hb3 : Below w0.heap.size w0 w3 := (hb2.alloc hb2.size _).grown hg3' (by have := hb2.size; simp; omega) (fun k e => (hrow2.lt k e).1)
  have hb4 : Below w0.heap.size w0 w4 := hb3.grown hg4 hb3.size (fun k e => by cases e; exact h0B)
  have hk4 : KeepsWalks W w4 := ((((hka.trans hk2).trans (KeepsWalks.alloc _ _)).trans (KeepsWalks.of_grownBy hg3' (ownsRow_not_walk_a (hrow2.alloc _)))).trans (by rw [← hw4]; exact KeepsWalks.setCell _ _ _))
  clear hw4
  refine ⟨_, _, run_endRound none hL4, rfl, ⟨⟨_, (World.putObj_heap_other hBl).trans hv4, ?_⟩, World.putObj_heap_same hl4, (World.putObj_heap_other hDl).trans hK4, hb4.grown (grownBy_putObj_a _ _ _) hb4.size (fun k e => by cases e; exact h0l)⟩, hk4.trans (KeepsWalks.putObj _ hL4 rfl)⟩
  have := hrow4.kept (grownBy_putObj_a w4 l (.loop { { gRec fn sv Bs D .ready none with state := .busy } with state := if (none : Option Go.Code).isNone then .ready else .done, pending := none })) (ownsRow_ne_a hrow4 hL4 (fun cur e => by cases e))
  show World.ownsRow _ _ _ _ _ (ps ++ [x]).length ((ps ++ [x]).flatMap GroupD.cells)
  simpa using this
set_option maxRecDepth 100000 in
set_option maxHeartbeats 2000000 in
/-- slices.AppendSeq(nil, seq). -/
theorem gappend_in (F : Fence) (n : Nat) (hf : F.fn 126) (hro : F.round = none) (hn : 2 ≤ n) (g : Nat) (lb : Array Value) (hFg : F.fn g) (eg : ∀ args w, (callFunc g args).run Tryd.prog w = .ok (.enter g args) w)
    (S : List GroupD → Prop) (N : Nat) (hN : N ≤ 350000000000) (w : World) (hseq : SeqGives F (n - 1) Tryd.prog g lb GroupD.val S N w) :
    CallsIn F n Tryd.prog 126 #[.slice none 0 0, .func (.func g) #[] lb] w fun e w' => ∃ (v : Value) (ps : List GroupD), e = .returned v ∧ S ps ∧ OwnG w' w.heap.size v ps ∧ Below w.heap.size w w' := by
  have h1 : 1 ≤ n := by omega
  refine callsIn_of_wp_marks Tryd.func126 rfl hf ?_ hro
  simp only [Tryd.ntmps126, List.size_toArray, List.length_cons, List.length_nil, Nat.reduceAdd, Nat.reduceSub, Array.replicate_succ, Array.replicate_zero, List.push_toArray, List.append_toArray, List.nil_append, List.cons_append]
  gi_wp2
  refine wpIn_rangeFunc ?_
  intro fn hfn
  rw [hro]
  obtain ⟨W0, hW0⟩ : ∃ W0, w.alloc (.cells #[.slice none 0 0] 26) = W0 := ⟨_, rfl⟩
  have hs0 : W0.heap.size = w.heap.size + 1 := by rw [← hW0]; simp
  have hv0 : W0.heap[w.heap.size]? = some (.cells #[.slice none 0 0] 26 (0, 0)) := by rw [← hW0]; exact World.alloc_heap_new w _
  have hb0 : Below w.heap.size w W0 := by rw [← hW0]; exact (Below.refl _ w).alloc (Nat.le_refl _) _
  rw [hW0]
  obtain ⟨W1, hW1⟩ : ∃ W1, (W0.alloc (.deferred (some []))).alloc (.loop (gRec fn (.func (.func g) #[] lb) w.heap.size W0.heap.size .ready none)) = W1 := ⟨_, rfl⟩
  have hold : ∀ k, k < W0.heap.size → W1.heap[k]? = W0.heap[k]? := fun k hk => by
    rw [← hW1]; exact (Below.heap_alloc _ _ k (by simp; omega)).trans (Below.heap_alloc _ _ k hk)
  have hb1 : Below w.heap.size w W1 := by rw [← hW1]; exact (hb0.alloc hb0.size _).alloc (by have := hb0.size; simp; omega) _
  have hs1 : W1.heap.size = W0.heap.size + 2 := by rw [← hW1]; simp
  have hM : ApG w fn (.func (.func g) #[] lb) w.heap.size (W0.heap.size + 1) W0.heap.size [] W1 :=
    ⟨⟨_, (hold w.heap.size (by omega)).trans hv0, ⟨rfl, .inl ⟨rfl, rfl⟩⟩⟩,
     by rw [← hW1]; have := World.alloc_heap_new (W0.alloc (.deferred (some []))) (.loop (gRec fn (.func (.func g) #[] lb) w.heap.size W0.heap.size .ready none)); rwa [World.size_alloc] at this,
     by rw [← hW1]; exact (Below.heap_alloc _ _ _ (by simp)).trans (World.alloc_heap_new W0 _), hb1⟩
  refine ⟨W0.heap.size + 1, [{ target := .collected W0.heap.size, args := #[] }], W1, { target := .fn (.func g) lb, args := #[.func (.yield (W0.heap.size + 1)) #[] #[]] }, W1, g,
    #[.func (.yield (W0.heap.size + 1)) #[] #[]] ++ lb, W1, ?_, ?_, ?_, ?_, fun _ => h1, ?_⟩
  · rw [← hW1]; exact run_enterLoop_outer _ _ _ _ _
  · simp [resolve, go_sem]
  · intro f' hf'; simp [Target.leads] at hf'; subst hf'; exact hFg
  · simp [invoke, go_sem, eg]
  · refine (hseq (W0.heap.size + 1) (ApG w fn (.func (.func g) #[] lb) w.heap.size (W0.heap.size + 1) W0.heap.size) W1 hb1 (apG_abides _ _ _ _ _ _ _ hb1.size)
      (fun pre x W hJ hl => gYield F (n - 1 - 1) w fn hfn _ w.heap.size (W0.heap.size + 1) W0.heap.size (by omega) (by omega) (by omega) (Nat.le_refl _) (by omega) pre x W hJ (by omega)) hM).mono ?_
    rintro e W2 ⟨⟨v0, rfl⟩, ps, hS, h2⟩
    obtain ⟨v, hv, hrow⟩ := h2.box
    have hend := run_endLoop (P := Tryd.prog) h2.L (by simp [gRec])
    obtain ⟨W3, hW3⟩ : ∃ W3, W2.putObj (W0.heap.size + 1) (.loop { gRec fn (.func (.func g) #[] lb) w.heap.size W0.heap.size .ready none with state := .exhausted }) = W3 := ⟨_, rfl⟩
    rw [hW3] at hend
    have hg3 : W2.grownBy W3 (some (W0.heap.size + 1)) := by rw [← hW3]; exact grownBy_putObj_a _ _ _
    have hv3 : W3.heap[w.heap.size]? = some (.cells #[v] 26 (0, 0)) := by rw [← hW3]; exact (World.putObj_heap_other (by omega)).trans hv
    have hK3 : W3.heap[W0.heap.size]? = some (.deferred (some [])) := by rw [← hW3]; exact (World.putObj_heap_other (by omega)).trans h2.K
    have hrow3 := hrow.kept hg3 (ownsRow_ne_a hrow h2.L (fun cur e => by cases e))
    have hb3 : Below w.heap.size w W3 := h2.below.grown hg3 h2.below.size (fun k e => by cases e; omega)
    obtain ⟨hc3, hf3⟩ := cell_of_box_a hv3
    clear hW3
    refine ⟨none, W3, hend, ?_⟩
    gi_wp2
    rw [← hs0]
    refine ⟨by simp, .inl ⟨_, _, rfl, run_takeDeferred hK3, ?_⟩⟩
    exact ⟨_, results_tmp rfl _ _ _, v, ps, rfl, hS, hrow3.kept (grownBy_putObj_a _ _ _) (ownsRow_ne_a hrow3 hK3 (fun cur e => by cases e)), hb3.grown (grownBy_putObj_a _ _ _) hb3.size (fun k e => by cases e; omega)⟩
set_option maxHeartbeats 1000000 in
/-- slices.Collect(seq). -/
theorem gcollect_in (F : Fence) (n : Nat) (hf : F.fn 94) (hf2 : F.fn 126) (hro : F.round = none) (hn : 3 ≤ n) (g : Nat) (lb : Array Value) (hFg : F.fn g) (eg : ∀ args w, (callFunc g args).run Tryd.prog w = .ok (.enter g args) w)
    (S : List GroupD → Prop) (N : Nat) (hN : N ≤ 350000000000) (w : World) (hseq : SeqGives F (n - 1 - 1) Tryd.prog g lb GroupD.val S N w) :
    CallsIn F n Tryd.prog 94 #[.func (.func g) #[] lb] w fun e w' => ∃ (v : Value) (ps : List GroupD), e = .returned v ∧ S ps ∧ OwnG w' w.heap.size v ps ∧ Below w.heap.size w w' := by
  have h1 : 1 ≤ n := by omega
  refine callsIn_of_wp Tryd.func94 rfl hf ?_ hro
  simp only [Tryd.ntmps94, List.size_toArray, List.length_cons, List.length_nil, Nat.reduceAdd, Nat.reduceSub, Array.replicate_succ, Array.replicate_zero, List.push_toArray, List.append_toArray, List.nil_append, List.cons_append]
  gi_wp2
  refine (gappend_in F (n - 1) hf2 hro (by omega) g lb hFg eg S N hN _ hseq).mono ?_
  rintro e w' ⟨v, ps, rfl, hS, hrow, hb⟩
  gi_wp2
  go_ret
  exact ⟨v, ps, rfl, hS, hrow, hb⟩
/-- maps.Values of a map of groups gives each of them once. -/
theorem gvals_gives (F : Fence) (n : Nat) (hf : F.fn 96) (hro : F.round = none) (hn : 1 ≤ n) (Bm b nn : Nat) (D0 : DataW Unit) (M : List GroupD) (hA : AtG D0 M) (w : World) (hBm : Bm < w.heap.size)
    (hm : w.cell? ⟨Bm, 0, none⟩ = some (.map (some b))) (hown : OwnM w b nn D0) :
    SeqGives F n Tryd.prog 96 #[.pointer (some ⟨Bm, 0, none⟩)] GroupD.val (fun ps => ps.Perm (GroupD.merge M)) (Maps.size D0) w := fun l J W hW hJ hY h0 => by
  have hown' : OwnM W b nn D0 := by
    have hbl := hown.lt
    obtain ⟨es, clock, hb, Ft, hs, hD⟩ := hown
    exact ⟨es, clock, (hW.block b hbl).trans hb, Ft, hs, hD⟩
  exact gvals_in F n hf hro hn l Bm b nn D0 M hA J hY W hJ ((hW.cell (p := ⟨Bm, 0, none⟩) hBm).trans hm) hown' h0
end Go.Proofs.YtmlcdhblofjpbaaDoor
/- slices.SortFunc at structs that are told by trees, out of the library's contract. -/
namespace Go.Proofs.YtmlcdhblofjpbaaDoor.V
open Go Go.RowKit Go.Sort
set_option linter.unusedVariables false
theorem swo_of {α : Type} {cmp : α → α → Int} (H : IsOrd cmp) : SWO (ltOf cmp) where
  irrefl x := by unfold ltOf; simp; rw [(H.zero x x).2 rfl]; exact Int.le_refl _
  trans x y z h1 h2 := by
    unfold ltOf at *
    simp only [decide_eq_true_eq] at *
    have a1 := H.anti x y
    have a2 := H.anti y z
    have a3 := H.anti x z
    rcases (show cmp x z < 0 ∨ 0 ≤ cmp x z by omega) with h | h
    · exact h
    · have := H.trans x y z (by omega) (by omega)
      have e : cmp x z = 0 := by omega
      have e2 := (H.zero x z).1 e
      subst e2
      omega
  ntrans x y z h1 h2 := by
    unfold ltOf at *
    simp only [decide_eq_false_iff_not, Int.not_lt] at *
    have a1 := H.anti x y
    have a2 := H.anti y z
    have a3 := H.anti x z
    have := H.trans z y x (by omega) (by omega)
    omega
theorem heap_sortK {α : Type} [Inhabited α] {enc : α → List Value} {k : Nat} {g : Nat} {w : World} (n : Nat) (d : Array α) (os : Array Obj) {b : Nat} (hb : b < w.heap.size) : (sortWorldK enc k w g 0 n d os).heap[b]? = if g = b then (w.heap[b]?).map (onCells (Go.Sort.putCells id 0 (flatK enc k d))) else w.heap[b]? := by
  show ((w.heap.modify g (onCells (Go.Sort.putCells id 0 (flatK enc k d)))) ++ os)[b]? = _
  rw [Array.getElem?_append_left (by simpa using hb), Array.getElem?_modify]
theorem put_takeK (F : Array Value) (cur : Array Value) (h : F.size ≤ cur.size) : (Go.Sort.putCells id 0 F cur).toList.take F.size = F.toList := by
  apply List.ext_getElem?
  intro k
  rw [List.getElem?_take]
  by_cases hk : k < F.size
  · rw [if_pos hk]
    simp only [Go.Sort.putCells, Array.getElem?_toList, Array.getElem?_mapIdx, Nat.zero_le, true_and, Nat.zero_add, hk, if_true, Nat.sub_zero, id]
    rw [Array.getElem?_eq_getElem (by omega), Array.getElem?_eq_getElem hk, getElem!_pos F k hk]
    rfl
  · rw [if_neg hk]
    simp [Array.getElem?_eq_none (Nat.le_of_not_lt hk)]
theorem sorted_listK {α : Type} [Inhabited α] {cmp : α → α → Int} (H : IsOrd cmp) {d d' : Array α} (hp : PermIn 0 d.size d d') (hs : SortedIn (ltOf cmp) 0 d.size d') : d'.toList = Ord.sort cmp d.toList := by
  obtain ⟨hsz, -, hperm⟩ := hp
  have e1 : (d'.extract 0 d.size).toList = d'.toList := by rw [← hsz]; simp
  have e2 : (d.extract 0 d.size).toList = d.toList := by simp
  rw [e1, e2] at hperm
  refine Ord.sort_unique H hperm (List.pairwise_iff_getElem.2 fun i j hi hj hij => Ord.leb_iff.2 ?_)
  rw [Array.length_toList] at hi hj
  have := hs i j (Nat.zero_le _) hij (by omega)
  unfold ltOf at this
  rw [getElem!_pos d' j hj, getElem!_pos d' i hi] at this
  simp only [decide_eq_false_iff_not, Int.not_lt] at this
  have a := H.anti d'[i] d'[j]
  simp only [Array.getElem_toList]
  omega
theorem mapk_get {α : Type} {enc : α → List Value} {k : Nat} (hk : ∀ x, (enc x).length = k) (X : List α) (q : Nat) (hq : q < X.length * k) : ∃ (h1 : q / k < X.length) (u : Value), (enc X[q / k])[q % k]? = some u ∧ (X.flatMap enc)[q]? = some u := by
  have hkp : 0 < k := Nat.pos_of_ne_zero fun e => by subst e; simp at hq
  have h1 : q / k < X.length := (Nat.div_lt_iff_lt_mul hkp).2 hq
  have h2 : q % k < k := Nat.mod_lt _ hkp
  obtain ⟨u, hu⟩ : ∃ u, (enc X[q / k])[q % k]? = some u := by
    have h2' : q % k < (enc X[q / k]).length := by rw [hk (X[q / k])]; exact h2
    exact ⟨(enc X[q / k])[q % k], List.getElem?_eq_getElem h2'⟩
  refine ⟨h1, u, hu, ?_⟩
  have h3 := flat_ix (fs := X.map fun x => (enc x).map T.lit) (n := k) (fun e he => by obtain ⟨x, -, rfl⟩ := List.mem_map.1 he; rw [List.length_map, hk]) (q / k) (q % k) ((enc X[q / k]).map T.lit) (T.lit u) (by rw [List.getElem?_map, List.getElem?_eq_getElem h1]; rfl) (by rw [List.getElem?_map, hu]; rfl)
  have e1 : q / k * k + q % k = q := by rw [Nat.mul_comm]; exact Nat.div_add_mod q k
  rw [e1] at h3
  have e2 : (X.map fun x => (enc x).map T.lit).flatMap (fun e => e.map litv) = X.flatMap enc := by
    rw [List.flatMap_map]
    congr 1
    funext x
    simp [Function.comp_def, litv]
  rw [e2] at h3
  exact h3
theorem flatMap_len {α : Type} {enc : α → List Value} {k : Nat} (hk : ∀ x, (enc x).length = k) : ∀ X : List α, (X.flatMap enc).length = X.length * k
  | [] => by simp
  | x :: X => by rw [List.flatMap_cons, List.length_append, hk, flatMap_len hk X, List.length_cons, Nat.add_mul, Nat.one_mul, Nat.add_comm]
theorem flatK_list {α : Type} [Inhabited α] {enc : α → List Value} {k : Nat} (hk : ∀ x, (enc x).length = k) (d : Array α) : (flatK enc k d).toList = d.toList.flatMap enc := by
  apply List.ext_getElem?
  intro q
  rcases Nat.lt_or_ge q (d.size * k) with hq | hq
  · obtain ⟨h1, u, h2, h3⟩ := mapk_get hk d.toList q (by simpa using hq)
    rw [h3]
    have h4 := get_flatK enc k d q hq
    rw [getElem!_pos _ q (by rw [size_flatK]; exact hq)] at h4
    rw [Array.getElem?_toList, Array.getElem?_eq_getElem (by rw [size_flatK]; exact hq), h4]
    have h5 : q / k < d.size := by simpa using h1
    have h6 : d.toList[q / k] = d[q / k] := by simp
    rw [h6] at h2
    rw [getElem!_pos d (q / k) h5, List.getElem!_eq_getElem?_getD, h2]
    rfl
  · rw [List.getElem?_eq_none (by simp; omega), List.getElem?_eq_none (by rw [flatMap_len hk]; simpa using hq)]
variable {P : Program}
theorem vsort_gen {α : Type} [Inhabited α] {enc : α → List Value} {k : Nat} {f : α → List T} (hf : ∀ x, f x = (enc x).map T.lit) (hk : ∀ x, (enc x).length = k) (h1 : ∀ x, ∀ v ∈ enc x, v.oneCell' = true) {cmp : α → α → Int} (H : IsOrd cmp) {fid : FuncId} {ty : TypeId} (hz : Sz ty k) (hp : 0 < k) {cb : Value}
    (hnone : ∀ (p : Option Addr) (cap : Nat) (w : World), Calls P fid #[.slice p 0 cap, cb] w fun e w' => e = .returned (.tuple #[]) ∧ w' = w)
    (hcon : ∀ (g cap : Nat) (d : Array α) (w : World), HoldsK enc k w g 0 d → g < w.heap.size → d.size < 4611686018427387904 → Calls P fid #[.slice (some ⟨g, 0, none⟩) d.size cap, cb] w fun e w' => e = .returned (.tuple #[]) ∧ ∃ d' n os, PermIn 0 d.size d d' ∧ SortedIn (ltOf cmp) 0 d.size d' ∧ w' = sortWorldK enc k w g 0 n d' os)
    (X : List α) (hX : X.length ≤ 350000000000) : VU P fid [(false, [.ln 0]), (false, [.rd (.lit cb)])] [.seq ty (X.map f)] [.seq ty ((Ord.sort cmp X).map f)] := fun w lv F hF vs hown hdis hargs => by
  have hvs : vs = [lv 0, cb] := by
    obtain ⟨hl, ha⟩ := hargs
    match vs, hl with
    | [v, u], _ =>
      obtain ⟨us, e1, e2, e3⟩ := ha 0 false [.ln 0] v rfl rfl
      obtain ⟨us', f1, f2, f3⟩ := ha 1 false [.rd (.lit cb)] u rfl rfl
      match us, e2 with
      | [x], _ =>
        match us', f2 with
        | [y], _ =>
          have g1 := (e3 0 (.ln 0) x rfl rfl).2
          have g2 : Inn _ _ (.lit cb) y := f3 0 (.rd (.lit cb)) y rfl rfl
          have g3 := inn_lit g2
          rw [e1, f1, g3]
          show [x, cb] = _
          rw [g1]; rfl
  obtain ⟨ho, -⟩ := hown 0 _ rfl
  subst hvs
  cases ho with
  | seq n hp' hz' hn xs hrow Gs hr hone hFb hG hne hd =>
    have hnk : n = k := hz'.eq hz
    subst hnk
    have hxl : xs.length = X.length * n := by have := hrow.1; rwa [List.length_map] at this
    have hxs : xs = X.flatMap enc := by
      apply List.ext_getElem?
      intro q
      rcases Nat.lt_or_ge q (X.length * n) with hq | hq
      · obtain ⟨k1, v0, k2, k3⟩ := mapk_get hk X q hq
        rw [k3]
        have e1 : q / n * n + q % n = q := by rw [Nat.mul_comm]; exact Nat.div_add_mod q n
        have hu := hr (q / n) (f X[q / n]) (q % n) (T.lit v0) xs[q] (by rw [List.getElem?_map, List.getElem?_eq_getElem k1]; rfl) (by rw [hf, List.getElem?_map, k2]; rfl) (by rw [e1, List.getElem?_eq_getElem (by omega)])
        have hl : ∀ {B : Nat} {t u : Value} {G : Nat → Prop}, Own w B (.lit t) u G → u = t := fun h => by cases h; rfl
        rw [List.getElem?_eq_getElem (by omega), hl hu]
      · rw [List.getElem?_eq_none (by omega), List.getElem?_eq_none (by rw [flatMap_len hk]; omega)]
    obtain ⟨a, c, hv, hc, hm, h0, hg⟩ := own_slice hrow
    rw [List.length_map] at hv hc hg
    rcases Nat.eq_zero_or_pos X.length with hX0 | hX0
    · have hXe : X = [] := List.eq_nil_of_length_eq_zero hX0
      rw [hX0] at hv
      rw [hv]
      refine (hnone a c w).mono fun e w' ⟨he, hw⟩ => ?_
      subst hw
      subst hXe
      refine ⟨⟨_, he, Same.refl _ _⟩, F, fun i t hi => ?_, fun i j b hi hj hij => absurd (show i = j by simp at hi hj; omega) hij, fun i b hi hb => ⟨.inr ⟨i, hi, hb⟩, hF i b hi hb⟩⟩
      rw [Ord.sort_nil] at hi
      exact (hown i t hi).1
    · obtain ⟨g, rfl, hB, hlt, hcell, hfr⟩ := hg hX0
      rw [hv]
      have hFg : F 0 g := hFb g (by rw [hv]; rfl)
      have hH : HoldsK enc n w g 0 X.toArray := by
        intro j hj
        rw [size_flatK] at hj
        have hj' : j < X.length * n := by simpa using hj
        refine ⟨?_, hfr _⟩
        rw [Nat.zero_add]
        refine hcell j _ ?_
        rw [hxs]
        have h5 := flatK_list hk X.toArray
        have h6 : (flatK enc n X.toArray).toList[j]? = some ((flatK enc n X.toArray)[j]!) := by
          rw [Array.getElem?_toList, getElem!_pos _ j (by rw [size_flatK]; exact hj), Array.getElem?_eq_getElem (by rw [size_flatK]; exact hj)]
        rw [h5] at h6
        simpa using h6
      have hcall := hcon g c X.toArray w hH hlt (by simp; omega)
      have hxsz : X.toArray.size = X.length := List.size_toArray
      rw [hxsz] at hcall
      refine hcall.mono fun e w' ⟨he, d', m, os, hpm, hst, hw⟩ => ?_
      subst hw
      have hd' : d'.toList = Ord.sort cmp X := sorted_listK H (d := X.toArray) (by rw [hxsz]; exact hpm) (by rw [hxsz]; exact hst)
      have hsl : (Ord.sort cmp X).length = X.length := Ord.sort_length X
      have hsize : w.heap.size ≤ (sortWorldK enc n w g 0 m d' os).heap.size := by simp [sortWorldK, grow, putRowK, putRow, mapBlock]
      refine ⟨⟨_, he, ⟨rfl, rfl, rfl, hsize, fun b hb => ?_⟩⟩, F, fun i t hi => ?_, fun i j b hi hj hij => absurd (show i = j by simp at hi hj; omega) hij, fun i b hi hb => ⟨.inr ⟨i, hi, hb⟩, Nat.lt_of_lt_of_le (hF i b hi hb) hsize⟩⟩
      · have hgb : ¬ g = b := fun e => by
          subst e
          exact hb.2 ⟨0, by simp, hFg⟩
        rw [heap_sortK m d' os (show b < w.heap.size from hb.1), if_neg hgb]
        rfl
      · have hi0 : i = 0 := by have := get_lt hi; simpa using this
        subst hi0
        cases hi
        show Own _ 0 _ (lv 0) _
        rw [hv]
        obtain ⟨q1, ⟨q2, -⟩ | ⟨g', cap, cur, q3, q4, q5, q6, q7, q8, q9⟩⟩ := hrow
        · rw [hv] at q2; cases q2
        · rw [hv] at q3
          injection q3 with q3 q3a q3b
          injection q3 with q3
          injection q3 with q3
          subst q3 q3b
          have hFs : (flatK enc n d').size = X.length * n := by rw [size_flatK, ← Array.length_toList, hd', hsl]
          rw [List.length_map] at q6 q9
          have hcur : X.length * n ≤ cur.size := by rw [q8]; exact Nat.mul_le_mul_right _ q6
          refine .seq n hp' hz' (fun e he => by obtain ⟨x, -, rfl⟩ := List.mem_map.1 he; rw [hf, List.length_map, hk]) ((Ord.sort cmp X).flatMap enc) ⟨by rw [flatMap_len hk, List.length_map], .inr ⟨g, c, Go.Sort.putCells id 0 (flatK enc n d') cur, by rw [List.length_map, hsl], q4, ?_, by rw [List.length_map, hsl]; exact q6, q7, ?_, ?_⟩⟩ (fun _ _ => False) (fun k' e j t u e1 e2 e3 => ?_) (fun u hu => ?_) (fun b hb => ?_) (fun q b hb => hb.elim) (fun q b hb => hb.elim) fun q q' b hb => hb.elim
          · rw [heap_sortK m d' os hlt, if_pos rfl, q5]; rfl
          · simp [Go.Sort.putCells, q8]
          · rw [List.length_map, hsl, ← hFs, put_takeK _ _ (by rw [hFs]; exact hcur), flatK_list hk, hd']
          · rw [List.getElem?_map] at e1
            obtain ⟨x, e4, rfl⟩ := Option.map_eq_some_iff.1 e1
            rw [hf, List.getElem?_map] at e2
            obtain ⟨v, e5, rfl⟩ := Option.map_eq_some_iff.1 e2
            have hjl := get_lt e5
            rw [hk] at hjl
            obtain ⟨k1, u0, k2, k3⟩ := mapk_get hk (Ord.sort cmp X) (k' * n + j) (at_lt (get_lt e4) hjl)
            rw [k3] at e3
            have d1 : (k' * n + j) / n = k' := by rw [Nat.add_comm, Nat.add_mul_div_right _ _ hp', Nat.div_eq_of_lt hjl, Nat.zero_add]
            have d2 : (k' * n + j) % n = j := by rw [Nat.add_comm, Nat.add_mul_mod_self_right, Nat.mod_eq_of_lt hjl]
            have hu : u = v := by
              have e7 : (Ord.sort cmp X)[(k' * n + j) / n] = x := by
                have e8 : (Ord.sort cmp X)[(k' * n + j) / n]? = some x := by rw [d1]; exact e4
                rw [List.getElem?_eq_getElem k1] at e8
                exact Option.some.inj e8
              rw [e7, d2, e5] at k2
              rw [← Option.some.inj e3, ← Option.some.inj k2]
            rw [hu]
            exact .lit (h1 x v (get_mem e5))
          · obtain ⟨x, -, hx⟩ := List.mem_flatMap.1 hu
            exact h1 x u hx
          · exact hFb b (by rw [hv]; exact hb)
end Go.Proofs.YtmlcdhblofjpbaaDoor.V
/- The program's CompareRows and the library's cmp.Compare and cmp.Or at int, by contract. -/
namespace Go.Proofs.YtmlcdhblofjpbaaDoor
open Go.RowKit

theorem compare (x y : Int) (w : World) : Calls Tryd.prog 97 #[.int .i64 x, .int .i64 y] w fun e w' => e = .returned (.int .i64 (R.one x y)) ∧ w' = w := by
  unfold R.one
  go_enter Tryd.func97, Tryd.ntmps97
  go_wp2
  all_goals go_ret
  all_goals simp_all
/-- The first that is not 0. -/
def firstOf : List Int → Int
  | [] => 0
  | x :: l => if x = 0 then firstOf l else x
theorem firstOf_at : ∀ (L : List Int) (k : Nat), k < L.length → (∀ t, t < k → L.getD t 0 = 0) → L.getD k 0 ≠ 0 → firstOf L = L.getD k 0
  | x :: L, 0, _, _, h => by unfold firstOf; exact if_neg h
  | x :: L, k + 1, hk, hz, h => by
    have hx : x = 0 := hz 0 (by omega)
    unfold firstOf
    rw [if_pos hx]
    exact firstOf_at L k (by simpa using hk) (fun t ht => hz (t + 1) (by omega)) h
theorem firstOf_none : ∀ (L : List Int), (∀ t, t < L.length → L.getD t 0 = 0) → firstOf L = 0
  | [], _ => rfl
  | x :: L, h => by
    have hx : x = 0 := h 0 (by simp)
    unfold firstOf
    rw [if_pos hx]
    exact firstOf_none L fun t ht => h (t + 1) (by simpa using ht)
theorem cmp_first (a b : R) : R.cmp a b = firstOf [R.one a.key b.key, R.one a.value b.value, R.one a.width b.width] := by
  rw [R.cmp_or]
  simp only [firstOf]
  (repeat' split) <;> first | rfl | simp_all | omega
end Go.Proofs.YtmlcdhblofjpbaaDoor
/- slices.SortedFunc over the values of a map of groups, by the keys. -/
namespace Go.Proofs.YtmlcdhblofjpbaaDoor
open Go Go.RowKit Go.Maps Go.Sort
set_option linter.unusedVariables false
instance : Inhabited GroupD := ⟨⟨0, 0, 0, 0, 0⟩⟩
theorem kcmp_lt (a b : GroupD) : kcmp a b < 0 ↔ a.fKey < b.fKey := by unfold kcmp R.one; repeat' split <;> omega
theorem swo_keys : SWO (ltOf kcmp) where
  irrefl x := by unfold ltOf; simp only [decide_eq_false_iff_not, kcmp_lt]; omega
  trans x y z h1 h2 := by unfold ltOf at *; simp only [decide_eq_true_eq, kcmp_lt] at *; omega
  ntrans x y z h1 h2 := by unfold ltOf at *; simp only [decide_eq_false_iff_not, kcmp_lt] at *; omega
theorem sorted_keys {d d' : Array GroupD} {M : List GroupD} (hp : PermIn 0 d.size d d') (hs : SortedIn (ltOf kcmp) 0 d.size d') (h : d.toList.Perm (GroupD.merge M)) : d'.toList = GroupD.merge M := by
  obtain ⟨hsz, -, hperm⟩ := hp
  have e1 : (d'.extract 0 d.size).toList = d'.toList := by rw [← hsz]; simp
  have e2 : (d.extract 0 d.size).toList = d.toList := by simp
  rw [e1, e2] at hperm
  have hP := hperm.trans h
  refine GroupD.asc_perm ?_ (GroupD.merge_asc M) hP
  have hnd : (d'.toList.map (·.fKey)).Nodup := ((hP.map (·.fKey)).nodup_iff).2 (List.pairwise_map.2 ((GroupD.merge_asc M).imp fun {a b} hab => by omega))
  refine List.pairwise_iff_getElem.2 fun i j hi hj hij => ?_
  have hne := List.pairwise_iff_getElem.1 (List.pairwise_map.1 hnd) i j hi hj hij
  rw [Array.length_toList] at hi hj
  have := hs i j (Nat.zero_le _) hij (by omega)
  unfold ltOf at this
  rw [getElem!_pos d' j hj, getElem!_pos d' i hi] at this
  simp only [decide_eq_false_iff_not, kcmp_lt] at this
  simp only [Array.getElem_toList] at hne ⊢
  omega
set_option maxRecDepth 100000 in
theorem gcmpG (x y : GroupD) (w : World) : Calls Tryd.prog 57 #[.agg x.cells.toArray, .agg y.cells.toArray] w fun e w' => e = .returned (.int .i64 (kcmp x y)) ∧ ∃ q os', w' = grow (w.drewN q) os' := by
  unfold GroupD.cells kcmp
  go_enter Tryd.func57, Tryd.ntmps57
  go_wp2_with fail
  refine (compare x.fKey y.fKey _).mono ?_
  rintro e w1 ⟨rfl, rfl⟩
  go_wp2_with fail
  go_ret
  exact ⟨rfl, 0, _, by simp only [alloc_eq_grow, grow_grow]; rfl⟩
theorem cells_len (x : GroupD) : x.cells.length = 5 := rfl
theorem cells_one (x : GroupD) : ∀ v ∈ x.cells, v.oneCell' = true := fun v hv => by
  simp only [GroupD.cells, List.mem_cons, List.not_mem_nil, or_false] at hv
  rcases hv with rfl | rfl | rfl | rfl | rfl <;> rfl
set_option maxRecDepth 100000 in
set_option maxHeartbeats 2000000 in
theorem gsorted (Bm b nn : Nat) (D0 : DataW Unit) (M : List GroupD) (hA : AtG D0 M) (w : World) (hBm : Bm < w.heap.size) (hm : w.cell? ⟨Bm, 0, none⟩ = some (.map (some b))) (hown : OwnM w b nn D0) (hnn : nn ≤ 350000000000) :
    Calls Tryd.prog 55 #[.func (.func 96) #[] #[.pointer (some ⟨Bm, 0, none⟩)], .func (.func 57) #[] #[]] w fun e w' => ∃ v, e = .returned v ∧ OwnG w' w.heap.size v (GroupD.merge M) ∧ Below w.heap.size w w' := by
  have eg : ∀ args w, (callFunc 57 args).run Tryd.prog w = .ok (.enter 57 args) w := enters_of Tryd.func57 (by kernel_rfl) rfl
  have ev : ∀ args w, (callFunc 96 args).run Tryd.prog w = .ok (.enter 96 args) w := enters_of Tryd.func96 (by kernel_rfl) rfl
  have hsz := hown.size_le
  have hcol := callsIn_wide.1 (gcollect_in Fence.wide 3 trivial trivial rfl (Nat.le_refl _) _ _ trivial ev _ (Maps.size D0) (by omega) w (gvals_gives Fence.wide 1 trivial rfl (Nat.le_refl _) Bm b nn D0 M hA w hBm hm hown).bounded)
  go_enter Tryd.func55, Tryd.ntmps55
  go_wp2_with fail
  refine hcol.mono ?_
  rintro e w1 ⟨v, ps, rfl, ⟨hS, hlen⟩, hrow, hb⟩
  rcases hrow.2 with ⟨rfl, hz⟩ | ⟨gb, cap, cur, rfl, hbase, hgb, r1, r2, r3, r4⟩
  · have hps : ps = [] := List.eq_nil_of_length_eq_zero hz
    subst hps
    have hM : GroupD.merge M = [] := List.Perm.eq_nil hS.symm
    go_wp2_with fail
    refine (AnyF.slices_SortFunc_none Tryd.sortGroups none 0 (.func (.func 57) #[] #[]) w1).mono ?_
    rintro e w2 ⟨rfl, rfl⟩
    go_wp2_with fail
    go_ret
    exact ⟨_, rfl, by rw [hM]; exact hrow, hb⟩
  · have hgl : gb < w1.heap.size := (Array.getElem?_eq_some_iff.1 hgb).1
    have hH : HoldsK GroupD.cells 5 w1 gb 0 ps.toArray := by
      intro j hj
      rw [size_flatK] at hj
      have hj' : j < ps.length * 5 := by simpa using hj
      refine ⟨?_, by simp [World.frozen?, hgb]⟩
      rw [Nat.zero_add]
      have h6 : (flatK GroupD.cells 5 ps.toArray).toList[j]? = some ((flatK GroupD.cells 5 ps.toArray)[j]!) := by
        rw [Array.getElem?_toList, getElem!_pos _ j (by rw [size_flatK]; exact hj), Array.getElem?_eq_getElem (by rw [size_flatK]; exact hj)]
      rw [V.flatK_list cells_len] at h6
      simp only [World.cell?, hgb]
      have h7 : (cur.toList.take (ps.length * 5))[j]? = (ps.toArray.toList.flatMap GroupD.cells)[j]? := by rw [r4]
      rw [List.getElem?_take, if_pos hj', h6] at h7
      simpa using h7
    go_wp2_with fail
    have hcon := AnyQ.slices_SortFunc Tryd.sortGroups 5 Tryd.isAgg33 Tryd.sizeOf33 GroupD.cells cells_len cells_one kcmp swo_keys 57 #[] gb 0 cap ps.toArray w1 eg (fun m os dk _ x y => gcmpG x y _) hH hgl (by simp; omega)
    rw [List.size_toArray] at hcon
    refine hcon.mono ?_
    rintro e w2 ⟨rfl, d', n, os, hpm, hst, rfl⟩
    go_wp2_with fail
    go_ret
    have hd' : d'.toList = GroupD.merge M := sorted_keys (d := ps.toArray) (by simpa using hpm) (by simpa using hst) hS
    have hsl : (GroupD.merge M).length = ps.length := hS.length_eq.symm
    have hFs : (flatK GroupD.cells 5 d').size = ps.length * 5 := by rw [size_flatK, ← Array.length_toList, hd', hsl]
    have hcur : ps.length * 5 ≤ cur.size := by rw [r3]; exact Nat.mul_le_mul_right _ r1
    refine ⟨.slice (some ⟨gb, 0, none⟩) ps.length cap, rfl, ⟨by rw [V.flatMap_len cells_len, hsl], .inr ⟨gb, cap, Go.Sort.putCells id 0 (flatK GroupD.cells 5 d') cur, by rw [hsl], hbase, ?_, by rw [hsl]; exact r1, r2, ?_, ?_⟩⟩, ?_⟩
    · rw [V.heap_sortK n d' os hgl, if_pos rfl, hgb]; rfl
    · simp [Go.Sort.putCells, r3]
    · rw [hsl, ← hFs, V.put_takeK _ _ (by rw [hFs]; exact hcur), V.flatK_list cells_len, hd']
    · refine ⟨hb.os, hb.tape, hb.output, Nat.le_trans hb.size (by simp [sortWorldK, grow, putRowK, putRow, mapBlock]), fun k hk => ?_⟩
      have hkl : k < w1.heap.size := Nat.lt_of_lt_of_le hk hb.size
      rw [V.heap_sortK n d' os hkl, if_neg (by omega)]
      exact hb.block k hk
end Go.Proofs.YtmlcdhblofjpbaaDoor
