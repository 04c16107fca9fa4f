/- Texts joined: SrtV EqRowsI Counts Bags BagE IRowB VMk0 PruMs. -/
import Derived.Test.YtpnbnbhifpcelaaPartBd
import Derived.Maps.OwnOps
import Derived.Maps.Ext
import Derived.Maps.OwnSet
import Derived.WideKeyEntry
import Derived.DeepKeys4
import Derived.MapViews
import Derived.Deep.AppendLies
import Derived.Deep.RegionWith
import Derived.Maps.RangeWalk
import Derived.Laws.IdiomRangeMap
set_option linter.unusedSimpArgs false
set_option linter.unusedVariables false
/- The reference's IsValidSorter: told by trees. -/
namespace Go.Proofs.Ytpnbnbhifpcelaa
open Go Go.RowKit V
set_option linter.unusedVariables false
set_option maxRecDepth 100000 in
set_option maxHeartbeats 2000000 in
theorem vokS_s (s : SorterD) (hW : s.Wf) : VC Try.prog 27 [(true, tSorter s)] false [(false, [.lit (.bool (SorterD.ok s))])] := by
  refine VC.enter Try.func27 rfl Try.ntmps27 (gle rfl) fun E hE => ?_
  have hsz := hW.size
  refine SV.seq' ?_
  refine SV.region ?_
  refine SV.op (OpMk.ok (ok_box (kk := 0) (ag := true) (xs := [.ro _, .sc _, .ro _, .ro _, .ro _, .ro _, .sc _, .sc _, .sc _, .sc _]) rfl rfl rfl (fun h => by cases h) rfl rfl (gle rfl))) rfl ?_
  refine SV.op (OpL.ok (nb := 1) (ok_move (v := V.one (.sc _)) (.inr rfl) rfl) rfl (gle rfl)) rfl ?_
  refine SV.nil ?_
  refine SV.tn ?_
  refine SV.seq' ?_
  refine SV.seq' ?_
  refine SV.region ?_
  refine SV.op (OpL.ok (nb := 1) (ok_field_bp (b := 0) (o' := 0) (off := 0) rfl rfl fld_impl_Sorter_0) rfl (gle rfl)) rfl ?_
  refine SV.op (OpL.ok (nb := 1) (ok_load_bp (b := 0) (i := 0) (ag := false) (m := 1) (ys := [.ro _]) rfl rfl rfl agg_s_impl_Row sz_s_impl_Row (fun _ => rfl) rfl rfl (gle rfl)) rfl (gle rfl)) rfl ?_
  refine SV.op (OpMk.ok (ok_call (ls := [(false, [.sc _])]) rfl rfl ⟨_, _, Try.func62, rfl, by decide⟩ (vares_t s.fInput hW.inp (by omega)) ⟨⟨[.ro _], rfl, ⟨rfl, trivial⟩⟩, trivial⟩ rfl (gle rfl))) rfl ?_
  refine SV.op (OpL.ok (nb := 1) (ok_s1 (x := .tmp 9) (VScal.one rfl) (fun ρ h1 w => by go_simp; (try go_bits); with_reducible rfl) rfl) rfl (gle rfl)) rfl ?_
  refine SV.op (OpL.ok (nb := 1) (ok_move (v := V.one (.sc _)) (.inl rfl) rfl) rfl (gle rfl)) rfl ?_
  refine SV.split (d := 11) rfl (fun hg0 => ?_) (fun hg0 => ?_)
  · skip   -- g0.T
    refine SV.opN rfl rfl rfl (gle rfl) rfl rfl rfl (gle rfl) ?_
    refine SV.opN rfl rfl rfl (gle rfl) rfl rfl rfl (gle rfl) ?_
    refine SV.opN rfl rfl rfl (gle rfl) rfl rfl rfl (gle rfl) ?_
    refine SV.opN rfl rfl rfl (gle rfl) rfl rfl rfl (gle rfl) ?_
    refine SV.opN rfl rfl rfl (gle rfl) rfl rfl rfl (gle rfl) ?_
    refine SV.opN rfl rfl rfl (gle rfl) rfl rfl rfl (gle rfl) ?_
    refine SV.opN rfl rfl rfl (gle rfl) rfl rfl rfl (gle rfl) ?_
    refine SV.op (OpL.ok (nb := 1) (ok_pickT (v := V.one (.sc _)) rfl rfl rfl) rfl (gle rfl)) rfl ?_
    refine SV.op (OpL.ok (nb := 1) (ok_move (v := V.one (.sc _)) (.inl rfl) rfl) rfl (gle rfl)) rfl ?_
    refine SV.opN rfl rfl rfl (gle rfl) rfl rfl rfl (gle rfl) ?_
    refine SV.opN rfl rfl rfl (gle rfl) rfl rfl rfl (gle rfl) ?_
    refine SV.opN rfl rfl rfl (gle rfl) rfl rfl rfl (gle rfl) ?_
    refine SV.opN rfl rfl rfl (gle rfl) rfl rfl rfl (gle rfl) ?_
    refine SV.op (OpL.ok (nb := 1) (ok_pickT (v := V.one (.sc _)) rfl rfl rfl) rfl (gle rfl)) rfl ?_
    refine SV.op (OpL.ok (nb := 1) (ok_move (v := V.one (.sc _)) (.inl rfl) rfl) rfl (gle rfl)) rfl ?_
    refine SV.opN rfl rfl rfl (gle rfl) rfl rfl rfl (gle rfl) ?_
    refine SV.opN rfl rfl rfl (gle rfl) rfl rfl rfl (gle rfl) ?_
    refine SV.opN rfl rfl rfl (gle rfl) rfl rfl rfl (gle rfl) ?_
    refine SV.op (OpL.ok (nb := 1) (ok_pickT (v := V.one (.sc _)) rfl rfl rfl) rfl (gle rfl)) rfl ?_
    refine SV.op (OpL.ok (nb := 1) (ok_move (v := V.one (.sc _)) (.inl rfl) rfl) rfl (gle rfl)) rfl ?_
    refine SV.opN rfl rfl rfl (gle rfl) rfl rfl rfl (gle rfl) ?_
    refine SV.opN rfl rfl rfl (gle rfl) rfl rfl rfl (gle rfl) ?_
    refine SV.opN rfl rfl rfl (gle rfl) rfl rfl rfl (gle rfl) ?_
    refine SV.opN rfl rfl rfl (gle rfl) rfl rfl rfl (gle rfl) ?_
    refine SV.op (OpL.ok (nb := 1) (ok_pickT (v := V.one (.sc _)) rfl rfl rfl) rfl (gle rfl)) rfl ?_
    refine SV.nil ?_
    refine SV.tn ?_
    refine SV.cond rfl (fun hc0 => ?_) (fun hc0 => ?_)
    · skip   -- c0.T
      have hno : SorterD.ok s = false := by
        rw [Bool.eq_false_iff]
        intro h
        obtain ⟨hB, -⟩ := SorterD.ok_iff.1 h
        have h1 := hB.rows; rw [h1] at hg0; cases hg0
      refine SV.seq' ?_
      refine SV.region ?_
      refine SV.op (OpL.ok (nb := 1) (ok_move (v := V.one (.sc _)) (.inr rfl) rfl) rfl (gle rfl)) rfl ?_
      refine SV.nil ?_
      refine SV.tn ?_
      refine SV.ret ?_
      refine SV.tr ?_
      apply SV.done (hf := Try.results27) (ht := rfl) (he := .inl rfl)
      case hr => exact (ResAll.cons (ResOk.tmp (ag := false) (xs := [.sc _]) rfl) ResAll.nil')
      case h2 => simp [two]
      refine ⟨rfl, ⟨?_, trivial⟩, trivial⟩ <;> (show some (T.lit (Value.bool _)) = some (T.lit (Value.bool _)); refine congrArg (fun z => some (T.lit (Value.bool z))) ?_; first | (rw [hno]; done) | (rw [hno]; simp; done) | (rw [hno, Bool.eq_iff_iff]; simp; done) | (rw [hno]; rfl))
    · skip   -- c0.F
      cases hc0
  · skip   -- g0.F
    refine SV.opY (OpL.ok (nb := 1) (ok_field_bp (b := 0) (o' := 0) (off := 1) rfl rfl fld_impl_Sorter_1) rfl (gle rfl)) rfl rfl rfl (gle rfl) rfl rfl ?_
    refine SV.opY (OpL.ok (nb := 1) (ok_load_bp (b := 0) (i := 1) (ag := false) (m := 1) (ys := [.sc _]) rfl rfl rfl agg_int sz_int (fun _ => rfl) rfl rfl (gle rfl)) rfl (gle rfl)) rfl rfl rfl (gle rfl) rfl rfl ?_
    refine SV.opY (OpL.ok (nb := 1) (ok_field_bp (b := 0) (o' := 0) (off := 0) rfl rfl fld_impl_Sorter_0) rfl (gle rfl)) rfl rfl rfl (gle rfl) rfl rfl ?_
    refine SV.opY (OpL.ok (nb := 1) (ok_load_bp (b := 0) (i := 0) (ag := false) (m := 1) (ys := [.ro _]) rfl rfl rfl agg_s_impl_Row sz_s_impl_Row (fun _ => rfl) rfl rfl (gle rfl)) rfl (gle rfl)) rfl rfl rfl (gle rfl) rfl rfl ?_
    refine SV.opY (OpL.ok (nb := 1) (ok_len (lf := .ro _) rfl elt_impl_Row.und rfl rfl) rfl (gle rfl)) rfl rfl rfl (gle rfl) rfl rfl ?_
    refine SV.opY (OpMk.ok (ok_call (ls := [(false, [.sc _])]) rfl rfl ⟨_, _, Try.func71, rfl, by decide⟩ (vin_s' s.fPos 0 ((s.fInput.map tRow).length : Int)) ⟨⟨[.sc _], rfl, ⟨rfl, trivial⟩⟩, ⟨[.sc _], rfl, ⟨rfl, trivial⟩⟩, ⟨[.sc _], rfl, ⟨rfl, trivial⟩⟩, trivial⟩ rfl (gle rfl))) rfl rfl rfl (gle rfl) rfl rfl ?_
    refine SV.opY (OpL.ok (nb := 1) (ok_s1 (x := .tmp 17) (VScal.one rfl) (fun ρ h1 w => by go_simp; (try go_bits); with_reducible rfl) rfl) rfl (gle rfl)) rfl rfl rfl (gle rfl) rfl rfl ?_
    refine SV.op (OpL.ok (nb := 1) (ok_pickF (v := V.one (.sc _)) rfl rfl rfl) rfl (gle rfl)) rfl ?_
    refine SV.op (OpL.ok (nb := 1) (ok_move (v := V.one (.sc _)) (.inl rfl) rfl) rfl (gle rfl)) rfl ?_
    refine SV.split (d := 20) rfl (fun hg1 => ?_) (fun hg1 => ?_)
    · skip   -- g1.T
      refine SV.opN rfl rfl rfl (gle rfl) rfl rfl rfl (gle rfl) ?_
      refine SV.opN rfl rfl rfl (gle rfl) rfl rfl rfl (gle rfl) ?_
      refine SV.opN rfl rfl rfl (gle rfl) rfl rfl rfl (gle rfl) ?_
      refine SV.opN rfl rfl rfl (gle rfl) rfl rfl rfl (gle rfl) ?_
      refine SV.op (OpL.ok (nb := 1) (ok_pickT (v := V.one (.sc _)) rfl rfl rfl) rfl (gle rfl)) rfl ?_
      refine SV.op (OpL.ok (nb := 1) (ok_move (v := V.one (.sc _)) (.inl rfl) rfl) rfl (gle rfl)) rfl ?_
      refine SV.opN rfl rfl rfl (gle rfl) rfl rfl rfl (gle rfl) ?_
      refine SV.opN rfl rfl rfl (gle rfl) rfl rfl rfl (gle rfl) ?_
      refine SV.opN rfl rfl rfl (gle rfl) rfl rfl rfl (gle rfl) ?_
      refine SV.op (OpL.ok (nb := 1) (ok_pickT (v := V.one (.sc _)) rfl rfl rfl) rfl (gle rfl)) rfl ?_
      refine SV.op (OpL.ok (nb := 1) (ok_move (v := V.one (.sc _)) (.inl rfl) rfl) rfl (gle rfl)) rfl ?_
      refine SV.opN rfl rfl rfl (gle rfl) rfl rfl rfl (gle rfl) ?_
      refine SV.opN rfl rfl rfl (gle rfl) rfl rfl rfl (gle rfl) ?_
      refine SV.opN rfl rfl rfl (gle rfl) rfl rfl rfl (gle rfl) ?_
      refine SV.opN rfl rfl rfl (gle rfl) rfl rfl rfl (gle rfl) ?_
      refine SV.op (OpL.ok (nb := 1) (ok_pickT (v := V.one (.sc _)) rfl rfl rfl) rfl (gle rfl)) rfl ?_
      refine SV.nil ?_
      refine SV.tn ?_
      refine SV.cond rfl (fun hc1 => ?_) (fun hc1 => ?_)
      · skip   -- c1.T
        have hno : SorterD.ok s = false := by
          rw [Bool.eq_false_iff]
          intro h
          obtain ⟨hB, -⟩ := SorterD.ok_iff.1 h
          have h1 := hB.pos0; have h2 := hB.pos1; simp at hg1; omega
        refine SV.seq' ?_
        refine SV.region ?_
        refine SV.op (OpL.ok (nb := 1) (ok_move (v := V.one (.sc _)) (.inr rfl) rfl) rfl (gle rfl)) rfl ?_
        refine SV.nil ?_
        refine SV.tn ?_
        refine SV.ret ?_
        refine SV.tr ?_
        apply SV.done (hf := Try.results27) (ht := rfl) (he := .inl rfl)
        case hr => exact (ResAll.cons (ResOk.tmp (ag := false) (xs := [.sc _]) rfl) ResAll.nil')
        case h2 => simp [two]
        refine ⟨rfl, ⟨?_, trivial⟩, trivial⟩ <;> (show some (T.lit (Value.bool _)) = some (T.lit (Value.bool _)); refine congrArg (fun z => some (T.lit (Value.bool z))) ?_; first | (rw [hno]; done) | (rw [hno]; simp; done) | (rw [hno, Bool.eq_iff_iff]; simp; done) | (rw [hno]; rfl))
      · skip   -- c1.F
        cases hc1
    · skip   -- g1.F
      refine SV.opY (OpL.ok (nb := 1) (ok_field_bp (b := 0) (o' := 0) (off := 5) rfl rfl fld_impl_Sorter_5) rfl (gle rfl)) rfl rfl rfl (gle rfl) rfl rfl ?_
      refine SV.opY (OpL.ok (nb := 1) (ok_load_bp (b := 0) (i := 5) (ag := false) (m := 1) (ys := [.ro _]) rfl rfl rfl agg_s_impl_Run sz_s_impl_Run (fun _ => rfl) rfl rfl (gle rfl)) rfl (gle rfl)) rfl rfl rfl (gle rfl) rfl rfl ?_
      refine SV.opY (OpMk.ok (ok_call (ls := [(false, [.sc _])]) rfl rfl ⟨_, _, Try.func72, rfl, by decide⟩ (vokruns_s s.fRuns hW.runs (fun p hp => by have := hW.run hp; omega) (by omega)) ⟨⟨[.ro _], rfl, ⟨rfl, trivial⟩⟩, trivial⟩ rfl (gle rfl))) rfl rfl rfl (gle rfl) rfl rfl ?_
      refine SV.opY (OpL.ok (nb := 1) (ok_s1 (x := .tmp 23) (VScal.one rfl) (fun ρ h1 w => by go_simp; (try go_bits); with_reducible rfl) rfl) rfl (gle rfl)) rfl rfl rfl (gle rfl) rfl rfl ?_
      refine SV.op (OpL.ok (nb := 1) (ok_pickF (v := V.one (.sc _)) rfl rfl rfl) rfl (gle rfl)) rfl ?_
      refine SV.op (OpL.ok (nb := 1) (ok_move (v := V.one (.sc _)) (.inl rfl) rfl) rfl (gle rfl)) rfl ?_
      refine SV.split (d := 26) rfl (fun hg2 => ?_) (fun hg2 => ?_)
      · skip   -- g2.T
        refine SV.opN rfl rfl rfl (gle rfl) rfl rfl rfl (gle rfl) ?_
        refine SV.opN rfl rfl rfl (gle rfl) rfl rfl rfl (gle rfl) ?_
        refine SV.opN rfl rfl rfl (gle rfl) rfl rfl rfl (gle rfl) ?_
        refine SV.op (OpL.ok (nb := 1) (ok_pickT (v := V.one (.sc _)) rfl rfl rfl) rfl (gle rfl)) rfl ?_
        refine SV.op (OpL.ok (nb := 1) (ok_move (v := V.one (.sc _)) (.inl rfl) rfl) rfl (gle rfl)) rfl ?_
        refine SV.opN rfl rfl rfl (gle rfl) rfl rfl rfl (gle rfl) ?_
        refine SV.opN rfl rfl rfl (gle rfl) rfl rfl rfl (gle rfl) ?_
        refine SV.opN rfl rfl rfl (gle rfl) rfl rfl rfl (gle rfl) ?_
        refine SV.opN rfl rfl rfl (gle rfl) rfl rfl rfl (gle rfl) ?_
        refine SV.op (OpL.ok (nb := 1) (ok_pickT (v := V.one (.sc _)) rfl rfl rfl) rfl (gle rfl)) rfl ?_
        refine SV.nil ?_
        refine SV.tn ?_
        refine SV.cond rfl (fun hc2 => ?_) (fun hc2 => ?_)
        · skip   -- c2.T
          have hno : SorterD.ok s = false := by
            rw [Bool.eq_false_iff]
            intro h
            obtain ⟨hB, -⟩ := SorterD.ok_iff.1 h
            have h1 := hB.runs; rw [h1] at hg2; cases hg2
          refine SV.seq' ?_
          refine SV.region ?_
          refine SV.op (OpL.ok (nb := 1) (ok_move (v := V.one (.sc _)) (.inr rfl) rfl) rfl (gle rfl)) rfl ?_
          refine SV.nil ?_
          refine SV.tn ?_
          refine SV.ret ?_
          refine SV.tr ?_
          apply SV.done (hf := Try.results27) (ht := rfl) (he := .inl rfl)
          case hr => exact (ResAll.cons (ResOk.tmp (ag := false) (xs := [.sc _]) rfl) ResAll.nil')
          case h2 => simp [two]
          refine ⟨rfl, ⟨?_, trivial⟩, trivial⟩ <;> (show some (T.lit (Value.bool _)) = some (T.lit (Value.bool _)); refine congrArg (fun z => some (T.lit (Value.bool z))) ?_; first | (rw [hno]; done) | (rw [hno]; simp; done) | (rw [hno, Bool.eq_iff_iff]; simp; done) | (rw [hno]; rfl))
        · skip   -- c2.F
          cases hc2
      · skip   -- g2.F
        refine SV.opY (OpL.ok (nb := 1) (ok_field_bp (b := 0) (o' := 0) (off := 9) rfl rfl fld_impl_Sorter_9) rfl (gle rfl)) rfl rfl rfl (gle rfl) rfl rfl ?_
        refine SV.opY (OpL.ok (nb := 1) (ok_load_bp (b := 0) (i := 9) (ag := false) (m := 1) (ys := [.sc _]) rfl rfl rfl agg_int sz_int (fun _ => rfl) rfl rfl (gle rfl)) rfl (gle rfl)) rfl rfl rfl (gle rfl) rfl rfl ?_
        refine SV.opY (OpL.ok (nb := 1) (ok_s2 (x := .tmp 28) (x' := .const ((Value.int IntKind.i64 0))) (VScal.one rfl) (VScal.one rfl) (fun ρ h1 h2 w => by go_simp; (try go_bits); with_reducible rfl) rfl) rfl (gle rfl)) rfl rfl rfl (gle rfl) rfl rfl ?_
        refine SV.op (OpL.ok (nb := 1) (ok_pickF (v := V.one (.sc _)) rfl rfl rfl) rfl (gle rfl)) rfl ?_
        refine SV.op (OpL.ok (nb := 1) (ok_move (v := V.one (.sc _)) (.inl rfl) rfl) rfl (gle rfl)) rfl ?_
        refine SV.split (d := 31) rfl (fun hg3 => ?_) (fun hg3 => ?_)
        · skip   -- g3.T
          refine SV.opN rfl rfl rfl (gle rfl) rfl rfl rfl (gle rfl) ?_
          refine SV.opN rfl rfl rfl (gle rfl) rfl rfl rfl (gle rfl) ?_
          refine SV.opN rfl rfl rfl (gle rfl) rfl rfl rfl (gle rfl) ?_
          refine SV.opN rfl rfl rfl (gle rfl) rfl rfl rfl (gle rfl) ?_
          refine SV.op (OpL.ok (nb := 1) (ok_pickT (v := V.one (.sc _)) rfl rfl rfl) rfl (gle rfl)) rfl ?_
          refine SV.nil ?_
          refine SV.tn ?_
          refine SV.cond rfl (fun hc3 => ?_) (fun hc3 => ?_)
          · skip   -- c3.T
            have hno : SorterD.ok s = false := by
              rw [Bool.eq_false_iff]
              intro h
              obtain ⟨hB, -⟩ := SorterD.ok_iff.1 h
              have h1 := hB.wr; simp at hg3; omega
            refine SV.seq' ?_
            refine SV.region ?_
            refine SV.op (OpL.ok (nb := 1) (ok_move (v := V.one (.sc _)) (.inr rfl) rfl) rfl (gle rfl)) rfl ?_
            refine SV.nil ?_
            refine SV.tn ?_
            refine SV.ret ?_
            refine SV.tr ?_
            apply SV.done (hf := Try.results27) (ht := rfl) (he := .inl rfl)
            case hr => exact (ResAll.cons (ResOk.tmp (ag := false) (xs := [.sc _]) rfl) ResAll.nil')
            case h2 => simp [two]
            refine ⟨rfl, ⟨?_, trivial⟩, trivial⟩ <;> (show some (T.lit (Value.bool _)) = some (T.lit (Value.bool _)); refine congrArg (fun z => some (T.lit (Value.bool z))) ?_; first | (rw [hno]; done) | (rw [hno]; simp; done) | (rw [hno, Bool.eq_iff_iff]; simp; done) | (rw [hno]; rfl))
          · skip   -- c3.F
            cases hc3
        · skip   -- g3.F
          refine SV.opY (OpL.ok (nb := 1) (ok_field_bp (b := 0) (o' := 0) (off := 4) rfl rfl fld_impl_Sorter_4) rfl (gle rfl)) rfl rfl rfl (gle rfl) rfl rfl ?_
          refine SV.opY (OpL.ok (nb := 1) (ok_load_bp (b := 0) (i := 4) (ag := false) (m := 1) (ys := [.ro _]) rfl rfl rfl agg_s_impl_Row sz_s_impl_Row (fun _ => rfl) rfl rfl (gle rfl)) rfl (gle rfl)) rfl rfl rfl (gle rfl) rfl rfl ?_
          refine SV.opY (OpMk.ok (ok_call (ls := [(false, [.sc _])]) rfl rfl ⟨_, _, Try.func54, rfl, by decide⟩ (vasc_t s.fOutput hW.out (by omega)) ⟨⟨[.ro _], rfl, ⟨rfl, trivial⟩⟩, trivial⟩ rfl (gle rfl))) rfl rfl rfl (gle rfl) rfl rfl ?_
          refine SV.opY (OpL.ok (nb := 1) (ok_s1 (x := .tmp 34) (VScal.one rfl) (fun ρ h1 w => by go_simp; (try go_bits); with_reducible rfl) rfl) rfl (gle rfl)) rfl rfl rfl (gle rfl) rfl rfl ?_
          refine SV.op (OpL.ok (nb := 1) (ok_pickF (v := V.one (.sc _)) rfl rfl rfl) rfl (gle rfl)) rfl ?_
          refine SV.nil ?_
          refine SV.tn ?_
          refine SV.cond rfl (fun hc4 => ?_) (fun hc4 => ?_)
          · skip   -- c4.T
            have hno : SorterD.ok s = false := by
              rw [Bool.eq_false_iff]
              intro h
              obtain ⟨hB, -⟩ := SorterD.ok_iff.1 h
              have h1 := R.asc_pairwise.2 hB.asc; rw [h1] at hc4; cases hc4
            refine SV.seq' ?_
            refine SV.region ?_
            refine SV.op (OpL.ok (nb := 1) (ok_move (v := V.one (.sc _)) (.inr rfl) rfl) rfl (gle rfl)) rfl ?_
            refine SV.nil ?_
            refine SV.tn ?_
            refine SV.ret ?_
            refine SV.tr ?_
            apply SV.done (hf := Try.results27) (ht := rfl) (he := .inl rfl)
            case hr => exact (ResAll.cons (ResOk.tmp (ag := false) (xs := [.sc _]) rfl) ResAll.nil')
            case h2 => simp [two]
            refine ⟨rfl, ⟨?_, trivial⟩, trivial⟩ <;> (show some (T.lit (Value.bool _)) = some (T.lit (Value.bool _)); refine congrArg (fun z => some (T.lit (Value.bool z))) ?_; first | (rw [hno]; done) | (rw [hno]; simp; done) | (rw [hno, Bool.eq_iff_iff]; simp; done) | (rw [hno]; rfl))
          · skip   -- c4.F
            have ho1 : okRows s.fInput = true := by simpa using hg0
            have ho2 : 0 ≤ s.fPos ∧ s.fPos ≤ s.fInput.length := by simpa using hg1
            have ho3 : Runs.okRuns s.fRuns = true := by simpa using hg2
            have ho4 : 0 ≤ s.fWritten := by simpa using hg3
            have ho5 : R.asc s.fOutput = true := by simpa using hc4
            refine SV.skip ?_
            refine SV.tn ?_
            refine SV.seq' ?_
            refine SV.forget (L := [(1, V.one (.bp 0 0)), (2, V.one (.sc _))]) (B := [(27, [.ro _, .sc _, .ro _, .ro _, .ro _, .ro _, .sc _, .sc _, .sc _, .sc _])]) (O := []) (n := 0) ⟨rfl, rfl, trivial⟩ rfl trivial rfl ?_
            refine SV.region ?_
            refine SV.op (OpL.ok (nb := 1) (ok_field_bp (b := 0) (o' := 0) (off := 4) rfl rfl fld_impl_Sorter_4) rfl (gle rfl)) rfl ?_
            refine SV.op (OpL.ok (nb := 1) (ok_load_bp (b := 0) (i := 4) (ag := false) (m := 1) (ys := [.ro _]) rfl rfl rfl agg_s_impl_Row sz_s_impl_Row (fun _ => rfl) rfl rfl (gle rfl)) rfl (gle rfl)) rfl ?_
            refine SV.op (OpL.ok (nb := 1) (ok_len (lf := .ro _) rfl elt_impl_Row.und rfl rfl) rfl (gle rfl)) rfl ?_
            refine SV.op (OpL.ok (nb := 1) (ok_s2 (v := .int .i64 ((s.fOutput.length : Int) - 1)) (x := .tmp 39) (x' := .const ((Value.int IntKind.i64 1))) (VScal.one rfl) (VScal.one rfl) (fun ρ h1 h2 w => by go_simp; (try simp only [List.length_map]); rw [IntWalk.i64_left, IntWalk.wrap64_in _ ⟨by omega, by omega⟩]) rfl) rfl (gle rfl)) rfl ?_
            refine SV.op (OpL.ok (nb := 1) (ok_move (v := V.one (.sc _)) (.inr rfl) rfl) rfl (gle rfl)) rfl ?_
            refine SV.nil ?_
            refine SV.tn ?_
            refine SV.seq' ?_
            refine SV.seq' ?_
            refine SV.region ?_
            refine SV.op (OpL.ok (nb := 1) (ok_move (v := V.one (.sc _)) (.inr rfl) rfl) rfl (gle rfl)) rfl ?_
            refine SV.nil ?_
            refine SV.tn ?_
            refine SV.block ?_
            refine SV.loopF (X := Nat) (fun (σ : VS) t => (((((VS.nil.box 27 [σ.bl 0 0, σ.bl 0 1, σ.bl 0 2, σ.bl 0 3, σ.bl 0 4, σ.bl 0 5, σ.bl 0 6, σ.bl 0 7, σ.bl 0 8, σ.bl 0 9]).put 1 (V.flat false [.bp 0 0])).put 2 (σ.tm 2)).put 3 (σ.tm 3)).put 4 (V.flat false [.sc (.int .i64 ((t : Int)))]))) (fun t => t ≤ s.fHeap.length ∧ ∀ u r, u < t → s.fHeap[u]? = some r → Runs.later s.fOutput r = false) (fun t => s.fHeap.length - t) ?_ ?_
            · skip
              refine SV.again (fun i => [].getD i 0) 0 (⟨Nat.zero_le _, fun u r h => absurd h (Nat.not_lt_zero u)⟩) (pins hE rfl rfl) (VS.le.mk' (le_put (le_put (le_put (le_put (le_box le_nil) (V.le.keep (ag := false) (xs := [.bp 0 0]) (ys := [.bp 0 0]) rfl rfl ⟨⟨rfl, (gle rfl)⟩, trivial⟩)) (V.le.keep (ag := false) (xs := [.sc _]) (ys := [.sc _]) rfl rfl ⟨rfl, trivial⟩)) (V.le.keep (ag := false) (xs := [.sc _]) (ys := [.sc _]) rfl rfl ⟨rfl, trivial⟩)) (V.le.keep (ag := false) (xs := [.sc _]) (ys := [.sc _]) rfl rfl ⟨(by first | rfl | (show Leaf.sc _ = Leaf.sc _; refine congrArg Leaf.sc ?_; first | rfl | go_num | (simp [cntAll]; done)) | (simp [cntAll]; done) | (simp; omega)), trivial⟩)) ⟨⟨rfl, ⟨rfl, rfl, rfl, rfl, rfl, rfl, rfl, rfl, rfl, rfl, trivial⟩⟩, trivial⟩ trivial nil_ob (fun i j hi hj e => absurd hi (Nat.not_lt_zero i)))
            · rintro t ⟨ht, hlo⟩
              refine SV.seq' ?_
              refine SV.seq' ?_
              refine SV.region ?_
              refine SV.op (OpL.ok (nb := 1) (ok_move (v := V.one (.sc _)) (.inl rfl) rfl) rfl (gle rfl)) rfl ?_
              refine SV.op (OpL.ok (nb := 1) (ok_field_bp (b := 0) (o' := 0) (off := 2) rfl rfl fld_impl_Sorter_2) rfl (gle rfl)) rfl ?_
              refine SV.op (OpL.ok (nb := 1) (ok_load_bp (b := 0) (i := 2) (ag := false) (m := 1) (ys := [.ro _]) rfl rfl rfl agg_s_impl_Row sz_s_impl_Row (fun _ => rfl) rfl rfl (gle rfl)) rfl (gle rfl)) rfl ?_
              refine SV.op (OpL.ok (nb := 1) (ok_len (lf := .ro _) rfl elt_impl_Row.und rfl rfl) rfl (gle rfl)) rfl ?_
              refine SV.op (OpL.ok (nb := 1) (ok_s2 (x := .tmp 41) (x' := .tmp 44) (VScal.one rfl) (VScal.one rfl) (fun ρ h1 h2 w => by go_simp; (try go_bits); with_reducible rfl) rfl) rfl (gle rfl)) rfl ?_
              refine SV.nil ?_
              refine SV.tn ?_
              refine SV.cond rfl (fun hc5 => ?_) (fun hc5 => ?_)
              · skip   -- c5.T
                have htl : t < s.fHeap.length := by simpa using hc5
                obtain ⟨r, hx⟩ : ∃ r, s.fHeap[t]? = some r := ⟨_, List.getElem?_eq_getElem htl⟩
                refine SV.skip ?_
                refine SV.tn ?_
                refine SV.seq' ?_
                refine SV.block ?_
                refine SV.seq' ?_
                refine SV.draw [.q 0, .q 1, .q 2, .q 3, .q 4, .q 5, .q 6, .q 7, .q 8, .q 9, .q 10, .q 11, .q 12, .m 13, .q 14, .q 15] [] (by kernel_rfl) (by kernel_rfl) ?_
                refine DW.q rfl (ok_move (v := V.one (.sc _)) (.inl rfl) rfl) rfl rfl (gle rfl) (fun _ _ _ _ h => h) ?_
                refine DW.q rfl (ok_s2 (x := .tmp 48) (x' := .const ((Value.int IntKind.i64 0))) (VScal.one rfl) (VScal.one rfl) (fun ρ h1 h2 w => by go_simp; (try go_bits); with_reducible rfl) rfl) rfl rfl (gle rfl) (fun _ _ _ _ h => h) ?_
                refine DW.q rfl (ok_move (v := V.one (.sc _)) (.inl rfl) rfl) rfl rfl (gle rfl) (fun _ _ _ _ h => h) ?_
                refine DW.split (d := 50) rfl (fun hg4 => ?_) (fun hg4 => ?_)
                · skip   -- g4.T
                  have hl : 0 < s.fOutput.length := by simp at hg4; omega
                  obtain ⟨d, hdd⟩ : ∃ d, s.fOutput[s.fOutput.length - 1]? = some d := ⟨_, List.getElem?_eq_getElem (by omega)⟩
                  have e : (s.fOutput.length : Int) - 1 = ((s.fOutput.length - 1 : Nat) : Int) := by omega
                  rw [e]
                  refine DW.qY rfl (ok_field_bp (b := 0) (o' := 0) (off := 2) rfl rfl fld_impl_Sorter_2) rfl rfl rfl (gle rfl) rfl rfl rfl (gle rfl) (fun _ _ _ _ h => h) ?_
                  refine DW.qY rfl (ok_load_bp (b := 0) (i := 2) (ag := false) (m := 1) (ys := [.ro _]) rfl rfl rfl agg_s_impl_Row sz_s_impl_Row (fun _ => rfl) rfl rfl (gle rfl)) rfl rfl rfl (gle rfl) rfl rfl rfl (gle rfl) (fun _ _ _ _ h => h) ?_
                  refine DW.qY rfl (ok_move (v := V.one (.sc _)) (.inl rfl) rfl) rfl rfl rfl (gle rfl) rfl rfl rfl (gle rfl) (fun _ _ _ _ h => h) ?_
                  refine DW.qY rfl (ok_index (n := 3) (lf := .ro _) rfl elt_impl_Row.und sz_impl_Row rfl rfl rfl (map_at hx)) rfl rfl rfl (gle rfl) rfl rfl rfl (gle rfl) (fun _ _ _ _ h => h) ?_
                  refine DW.qY rfl (ok_load_rp (ag := true) (m := 3) (ys := [.sc _, .sc _, .sc _]) rfl rfl agg_impl_Row sz_impl_Row (fun h => by cases h) (gle rfl) rfl) rfl rfl rfl (gle rfl) rfl rfl rfl (gle rfl) (fun _ _ _ _ h => h) ?_
                  refine DW.qY rfl (ok_field_bp (b := 0) (o' := 0) (off := 4) rfl rfl fld_impl_Sorter_4) rfl rfl rfl (gle rfl) rfl rfl rfl (gle rfl) (fun _ _ _ _ h => h) ?_
                  refine DW.qY rfl (ok_load_bp (b := 0) (i := 4) (ag := false) (m := 1) (ys := [.ro _]) rfl rfl rfl agg_s_impl_Row sz_s_impl_Row (fun _ => rfl) rfl rfl (gle rfl)) rfl rfl rfl (gle rfl) rfl rfl rfl (gle rfl) (fun _ _ _ _ h => h) ?_
                  refine DW.qY rfl (ok_move (v := V.one (.sc _)) (.inl rfl) rfl) rfl rfl rfl (gle rfl) rfl rfl rfl (gle rfl) (fun _ _ _ _ h => h) ?_
                  refine DW.qY rfl (ok_index (n := 3) (lf := .ro _) rfl elt_impl_Row.und sz_impl_Row rfl rfl rfl (map_at hdd)) rfl rfl rfl (gle rfl) rfl rfl rfl (gle rfl) (fun _ _ _ _ h => h) ?_
                  refine DW.qY rfl (ok_load_rp (ag := true) (m := 3) (ys := [.sc _, .sc _, .sc _]) rfl rfl agg_impl_Row sz_impl_Row (fun h => by cases h) (gle rfl) rfl) rfl rfl rfl (gle rfl) rfl rfl rfl (gle rfl) (fun _ _ _ _ h => h) ?_
                  refine DW.m' [] rfl (ok_call (ls := [(false, [.sc _])]) rfl rfl ⟨_, _, Try.func73, rfl, by decide⟩ (vcmp_t r d) ⟨⟨[.sc _, .sc _, .sc _], rfl, ⟨rfl, rfl, rfl, trivial⟩⟩, ⟨[.sc _, .sc _, .sc _], rfl, ⟨rfl, rfl, rfl, trivial⟩⟩, trivial⟩ rfl (gle rfl)) (fun hr => wantedY hr rfl rfl rfl (gle rfl) rfl rfl) (gle rfl) (gle rfl) (.inl rfl) (fun j hj => by cases hj) ?_
                  refine DW.qY rfl (ok_s2 (x := .tmp 61) (x' := .const ((Value.int IntKind.i64 0))) (VScal.one rfl) (VScal.one rfl) (fun ρ h1 h2 w => by go_simp; (try go_bits); with_reducible rfl) rfl) rfl rfl rfl (gle rfl) rfl rfl rfl (gle rfl) (fun _ _ _ _ h => h) ?_
                  refine DW.q rfl (ok_pickT (v := V.one (.sc _)) rfl rfl rfl) rfl rfl (gle rfl) (fun _ _ _ _ h => h) ?_
                  refine DW.stores ?_
                  refine SV.zend ?_
                  refine SV.tn ?_
                  refine SV.cond rfl (fun hc6 => ?_) (fun hc6 => ?_)
                  · skip   -- c6.T
                    have hla : Runs.later s.fOutput r = true := by rw [later_at hdd]; simpa using hc6
                    have hno : SorterD.ok s = false := by
                      rw [Bool.eq_false_iff]
                      intro h
                      obtain ⟨hB, -⟩ := SorterD.ok_iff.1 h
                      have h1 := hB.low r (List.mem_of_getElem? hx); rw [h1] at hla; cases hla
                    refine SV.seq' ?_
                    refine SV.region ?_
                    refine SV.op (OpL.ok (nb := 1) (ok_move (v := V.one (.sc _)) (.inr rfl) rfl) rfl (gle rfl)) rfl ?_
                    refine SV.nil ?_
                    refine SV.tn ?_
                    refine SV.ret ?_
                    refine SV.br ?_
                    refine SV.tr ?_
                    refine SV.tr ?_
                    refine SV.br ?_
                    refine SV.tr ?_
                    apply SV.done (hf := Try.results27) (ht := rfl) (he := .inl rfl)
                    case hr => exact (ResAll.cons (ResOk.tmp (ag := false) (xs := [.sc _]) rfl) ResAll.nil')
                    case h2 => simp [two]
                    refine ⟨rfl, ⟨?_, trivial⟩, trivial⟩ <;> (show some (T.lit (Value.bool _)) = some (T.lit (Value.bool _)); refine congrArg (fun z => some (T.lit (Value.bool z))) ?_; first | (rw [hno]; done) | (rw [hno]; simp; done) | (rw [hno, Bool.eq_iff_iff]; simp; done) | (rw [hno]; rfl))
                  · skip   -- c6.F
                    have hgood : Runs.later s.fOutput r = false := by rw [later_at hdd]; simpa using hc6
                    refine SV.skip ?_
                    refine SV.bn ?_
                    refine SV.tn ?_
                    refine SV.region ?_
                    refine SV.op (OpL.ok (nb := 1) (ok_move (v := V.one (.sc _)) (.inl rfl) rfl) rfl (gle rfl)) rfl ?_
                    refine SV.op (OpL.ok (nb := 1) (ok_s2 (x := .tmp 46) (x' := .const ((Value.int IntKind.i64 1))) (VScal.one rfl) (VScal.one rfl) (fun ρ h1 h2 w => by go_simp; (try go_bits); with_reducible rfl) rfl) rfl (gle rfl)) rfl ?_
                    refine SV.op (OpL.ok (nb := 1) (ok_move (v := V.one (.sc _)) (.inr rfl) rfl) rfl (gle rfl)) rfl ?_
                    refine SV.nil ?_
                    refine SV.tn ?_
                    refine SV.again (fun i => [].getD i 0) (t + 1) (⟨⟨by omega, fun u q hu hq => by rcases Nat.lt_or_ge u t with h1 | h1; (exact hlo u q h1 hq); (have h2 : u = t := (by omega); subst h2; rw [hx] at hq; cases hq; exact hgood)⟩, by omega⟩) (pins hE rfl rfl) (VS.le.mk' (le_put (le_put (le_put (le_put (le_box le_nil) (V.le.keep (ag := false) (xs := [.bp 0 0]) (ys := [.bp 0 0]) rfl rfl ⟨⟨rfl, (gle rfl)⟩, trivial⟩)) (V.le.keep (ag := false) (xs := [.sc _]) (ys := [.sc _]) rfl rfl ⟨rfl, trivial⟩)) (V.le.keep (ag := false) (xs := [.sc _]) (ys := [.sc _]) rfl rfl ⟨rfl, trivial⟩)) (V.le.keep (ag := false) (xs := [.sc _]) (ys := [.sc _]) rfl rfl ⟨(by first | rfl | (show Leaf.sc _ = Leaf.sc _; refine congrArg Leaf.sc ?_; first | rfl | go_num | (simp [cntAll]; done)) | (simp [cntAll]; done) | (simp; omega)), trivial⟩)) ⟨⟨rfl, ⟨rfl, rfl, rfl, rfl, rfl, rfl, rfl, rfl, rfl, rfl, trivial⟩⟩, trivial⟩ trivial nil_ob (fun i j hi hj e => absurd hi (Nat.not_lt_zero i)))
                · skip   -- g4.F
                  have hgood : Runs.later s.fOutput r = false := later_nil (by simp at hg4; omega)
                  refine DW.qN (V' := V.one .dead) rfl rfl rfl rfl (gle rfl) rfl rfl rfl (gle rfl) (fun _ _ _ _ h => h) ?_
                  refine DW.qN (V' := V.one .dead) rfl rfl rfl rfl (gle rfl) rfl rfl rfl (gle rfl) (fun _ _ _ _ h => h) ?_
                  refine DW.qN (V' := V.one .dead) rfl rfl rfl rfl (gle rfl) rfl rfl rfl (gle rfl) (fun _ _ _ _ h => h) ?_
                  refine DW.qN (V' := V.one .dead) rfl rfl rfl rfl (gle rfl) rfl rfl rfl (gle rfl) (fun _ _ _ _ h => h) ?_
                  refine DW.qN (V' := V.one .dead) rfl rfl rfl rfl (gle rfl) rfl rfl rfl (gle rfl) (fun _ _ _ _ h => h) ?_
                  refine DW.qN (V' := V.one .dead) rfl rfl rfl rfl (gle rfl) rfl rfl rfl (gle rfl) (fun _ _ _ _ h => h) ?_
                  refine DW.qN (V' := V.one .dead) rfl rfl rfl rfl (gle rfl) rfl rfl rfl (gle rfl) (fun _ _ _ _ h => h) ?_
                  refine DW.qN (V' := V.one .dead) rfl rfl rfl rfl (gle rfl) rfl rfl rfl (gle rfl) (fun _ _ _ _ h => h) ?_
                  refine DW.qN (V' := V.one .dead) rfl rfl rfl rfl (gle rfl) rfl rfl rfl (gle rfl) (fun _ _ _ _ h => h) ?_
                  refine DW.qN (V' := V.one .dead) rfl rfl rfl rfl (gle rfl) rfl rfl rfl (gle rfl) (fun _ _ _ _ h => h) ?_
                  refine DW.mN rfl rfl rfl rfl (gle rfl) rfl rfl rfl (gle rfl) ?_
                  refine DW.qN (V' := V.one .dead) rfl rfl rfl rfl (gle rfl) rfl rfl rfl (gle rfl) (fun _ _ _ _ h => h) ?_
                  refine DW.q rfl (ok_pickF (v := V.one (.sc _)) rfl rfl rfl) rfl rfl (gle rfl) (fun _ _ _ _ h => h) ?_
                  refine DW.stores ?_
                  refine SV.zend ?_
                  refine SV.tn ?_
                  refine SV.cond rfl (fun hc7 => ?_) (fun hc7 => ?_)
                  · skip   -- c7.T
                    cases hc7
                  · skip   -- c7.F
                    refine SV.skip ?_
                    refine SV.bn ?_
                    refine SV.tn ?_
                    refine SV.region ?_
                    refine SV.op (OpL.ok (nb := 1) (ok_move (v := V.one (.sc _)) (.inl rfl) rfl) rfl (gle rfl)) rfl ?_
                    refine SV.op (OpL.ok (nb := 1) (ok_s2 (x := .tmp 46) (x' := .const ((Value.int IntKind.i64 1))) (VScal.one rfl) (VScal.one rfl) (fun ρ h1 h2 w => by go_simp; (try go_bits); with_reducible rfl) rfl) rfl (gle rfl)) rfl ?_
                    refine SV.op (OpL.ok (nb := 1) (ok_move (v := V.one (.sc _)) (.inr rfl) rfl) rfl (gle rfl)) rfl ?_
                    refine SV.nil ?_
                    refine SV.tn ?_
                    refine SV.again (fun i => [].getD i 0) (t + 1) (⟨⟨by omega, fun u q hu hq => by rcases Nat.lt_or_ge u t with h1 | h1; (exact hlo u q h1 hq); (have h2 : u = t := (by omega); subst h2; rw [hx] at hq; cases hq; exact hgood)⟩, by omega⟩) (pins hE rfl rfl) (VS.le.mk' (le_put (le_put (le_put (le_put (le_box le_nil) (V.le.keep (ag := false) (xs := [.bp 0 0]) (ys := [.bp 0 0]) rfl rfl ⟨⟨rfl, (gle rfl)⟩, trivial⟩)) (V.le.keep (ag := false) (xs := [.sc _]) (ys := [.sc _]) rfl rfl ⟨rfl, trivial⟩)) (V.le.keep (ag := false) (xs := [.sc _]) (ys := [.sc _]) rfl rfl ⟨rfl, trivial⟩)) (V.le.keep (ag := false) (xs := [.sc _]) (ys := [.sc _]) rfl rfl ⟨(by first | rfl | (show Leaf.sc _ = Leaf.sc _; refine congrArg Leaf.sc ?_; first | rfl | go_num | (simp [cntAll]; done)) | (simp [cntAll]; done) | (simp; omega)), trivial⟩)) ⟨⟨rfl, ⟨rfl, rfl, rfl, rfl, rfl, rfl, rfl, rfl, rfl, rfl, trivial⟩⟩, trivial⟩ trivial nil_ob (fun i j hi hj e => absurd hi (Nat.not_lt_zero i)))
              · skip   -- c5.F
                have hte : ¬ t < s.fHeap.length := by simpa using hc5
                have hbase : SorterD.okBase s = true := SorterD.base_iff.2 ⟨ho1, ho2.1, ho2.2, ho3, ho4, R.asc_pairwise.1 ho5, fun r hr => by obtain ⟨u, hu, rfl⟩ := List.mem_iff_getElem.1 hr; exact hlo u _ (by omega) (List.getElem?_eq_getElem hu)⟩
                have hok : SorterD.ok s = if s.fPhase = 1 then SorterD.okRead s else SorterD.okRest s && if s.fPhase = 2 then SorterD.okMerge s else SorterD.okEnd s := by unfold SorterD.ok; rw [hbase]; rfl
                refine SV.exit ?_
                refine SV.te ?_
                refine SV.te ?_
                refine SV.bh ?_
                refine SV.tn ?_
                refine SV.seq' ?_
                refine SV.seq' ?_
                refine SV.forget (L := [(1, V.one (.bp 0 0)), (2, V.one (.sc _)), (3, V.one (.sc _))]) (B := [(27, [.ro _, .sc _, .ro _, .ro _, .ro _, .ro _, .sc _, .sc _, .sc _, .sc _])]) (O := []) (n := 0) ⟨rfl, rfl, rfl, trivial⟩ rfl trivial rfl ?_
                refine SV.region ?_
                refine SV.op (OpL.ok (nb := 1) (ok_field_bp (b := 0) (o' := 0) (off := 8) rfl rfl fld_impl_Sorter_8) rfl (gle rfl)) rfl ?_
                refine SV.op (OpL.ok (nb := 1) (ok_load_bp (b := 0) (i := 8) (ag := false) (m := 1) (ys := [.sc _]) rfl rfl rfl agg_int sz_int (fun _ => rfl) rfl rfl (gle rfl)) rfl (gle rfl)) rfl ?_
                refine SV.op (OpL.ok (nb := 1) (ok_s2 (x := .tmp 65) (x' := .const ((Value.int IntKind.i64 1))) (VScal.one rfl) (VScal.one rfl) (fun ρ h1 h2 w => by go_simp; (try go_bits); with_reducible rfl) rfl) rfl (gle rfl)) rfl ?_
                refine SV.nil ?_
                refine SV.tn ?_
                refine SV.cond rfl (fun hc8 => ?_) (fun hc8 => ?_)
                · skip   -- c8.T
                  have hp1 : s.fPhase = 1 := by simpa using hc8
                  have hok1 : SorterD.ok s = SorterD.okRead s := hok.trans (if_pos hp1)
                  obtain ⟨n, hn⟩ : ∃ n : Nat, s.fPos = n := ⟨_, (Int.toNat_of_nonneg ho2.1).symm⟩
                  have hbg := vbags_t (s.fRuns.flatten ++ s.fOutput ++ s.fHeap ++ s.fDeferred) (s.fInput.take n) (fun r hr => by simp only [List.mem_append, List.mem_flatten] at hr; rcases hr with ((⟨p, hp, hr⟩ | hr) | hr) | hr; exact hW.runs p hp r hr; exact hW.out r hr; exact hW.heap r hr; exact hW.late r hr) (fun r hr => hW.inp r (List.mem_of_mem_take hr)) (by simp only [List.length_append]; omega) (by rw [List.length_take]; omega)
                  rw [List.map_append, List.map_append, List.map_append, List.map_take] at hbg
                  refine SV.seq' ?_
                  have hsm := vsmem_s s hW
                  unfold tSorter at hsm
                  rw [hn] at hsm
                  refine SV.tell (fun (σ : VS) => ((((VS.nil.box 27 [σ.bl 0 0, .sc (.int .i64 ((n : Int))), σ.bl 0 2, σ.bl 0 3, σ.bl 0 4, σ.bl 0 5, σ.bl 0 6, σ.bl 0 7, σ.bl 0 8, σ.bl 0 9]).put 1 (V.flat false [.bp 0 0])).put 2 (σ.tm 2)).put 3 (σ.tm 3))) ?h ?k
                  case k =>
                    intro hjn
                    refine (fun pp le => SV.weaken (fun i => [].getD i 0) pp le hjn) (pins hE rfl rfl) (VS.le.mk' (le_put (le_put (le_put (le_box le_nil) (V.le.keep (ag := false) (xs := [.bp 0 0]) (ys := [.bp 0 0]) rfl rfl ⟨⟨rfl, (gle rfl)⟩, trivial⟩)) (V.le.keep (ag := false) (xs := [.sc _]) (ys := [.sc _]) rfl rfl ⟨rfl, trivial⟩)) (V.le.keep (ag := false) (xs := [.sc _]) (ys := [.sc _]) rfl rfl ⟨rfl, trivial⟩)) ⟨⟨rfl, ⟨rfl, (by first | rfl | (show Leaf.sc _ = Leaf.sc _; refine congrArg Leaf.sc ?_; first | rfl | go_num | ((exact congrArg _ hn); first | done | rfl | go_num | (simp; done) | (simp; omega)) | (simp [cntAll]; done)) | (simp [cntAll]; done) | (simp; omega)), rfl, rfl, rfl, rfl, rfl, rfl, rfl, rfl, trivial⟩⟩, trivial⟩ trivial nil_ob (fun i j hi hj e => absurd hi (Nat.not_lt_zero i)))
                  case h =>
                  refine SV.draw [.q 0, .q 1, .q 3, .q 4, .q 6, .q 7, .q 9, .q 10, .m 2, .m 5, .m 8, .m 11, .q 12] [] (by kernel_rfl) (by kernel_rfl) ?_
                  refine DW.q rfl (ok_field_bp (b := 0) (o' := 0) (off := 5) rfl rfl fld_impl_Sorter_5) rfl rfl (gle rfl) (fun _ _ _ _ h => h) ?_
                  refine DW.q rfl (ok_load_bp (b := 0) (i := 5) (ag := false) (m := 1) (ys := [.ro _]) rfl rfl rfl agg_s_impl_Run sz_s_impl_Run (fun _ => rfl) rfl rfl (gle rfl)) rfl rfl (gle rfl) (fun _ _ _ _ h => h) ?_
                  refine DW.q rfl (ok_field_bp (b := 0) (o' := 0) (off := 4) rfl rfl fld_impl_Sorter_4) rfl rfl (gle rfl) (fun _ _ _ _ h => h) ?_
                  refine DW.q rfl (ok_load_bp (b := 0) (i := 4) (ag := false) (m := 1) (ys := [.ro _]) rfl rfl rfl agg_s_impl_Row sz_s_impl_Row (fun _ => rfl) rfl rfl (gle rfl)) rfl rfl (gle rfl) (fun _ _ _ _ h => h) ?_
                  refine DW.q rfl (ok_field_bp (b := 0) (o' := 0) (off := 2) rfl rfl fld_impl_Sorter_2) rfl rfl (gle rfl) (fun _ _ _ _ h => h) ?_
                  refine DW.q rfl (ok_load_bp (b := 0) (i := 2) (ag := false) (m := 1) (ys := [.ro _]) rfl rfl rfl agg_s_impl_Row sz_s_impl_Row (fun _ => rfl) rfl rfl (gle rfl)) rfl rfl (gle rfl) (fun _ _ _ _ h => h) ?_
                  refine DW.q rfl (ok_field_bp (b := 0) (o' := 0) (off := 3) rfl rfl fld_impl_Sorter_3) rfl rfl (gle rfl) (fun _ _ _ _ h => h) ?_
                  refine DW.q rfl (ok_load_bp (b := 0) (i := 3) (ag := false) (m := 1) (ys := [.ro _]) rfl rfl rfl agg_s_impl_Row sz_s_impl_Row (fun _ => rfl) rfl rfl (gle rfl)) rfl rfl (gle rfl) (fun _ _ _ _ h => h) ?_
                  refine DW.m [0] rfl (ok_call (ls := [(false, [.hd 0])]) rfl rfl ⟨_, _, Try.func59, rfl, by decide⟩ (vflat_s s.fRuns (by omega) (by omega)) ⟨⟨[.ro _], rfl, ⟨rfl, trivial⟩⟩, trivial⟩ rfl (gle rfl)) rfl (gle rfl) (gle rfl) (.inl rfl) (fun j hj => by
                      simp only [List.mem_cons, List.not_mem_nil, or_false] at hj
                      rcases hj with rfl
                      · exact .inr ⟨(gle rfl), (gle rfl), .inl rfl⟩) ?_
                  refine DW.m [1, 0] rfl (ok_append_ro (kk := 1) elt_impl_Row (ls := .hd 0) (lx := .ro _) rfl rfl rfl rfl rfl rfl (flat_impl_Row _) (by simp only [List.length_map]; omega) rfl (gle rfl)) rfl (gle rfl) (gle rfl) (.inr ⟨0, rfl, .inl (by decide)⟩) (fun j hj => by
                      simp only [List.mem_cons, List.not_mem_nil, or_false] at hj
                      rcases hj with rfl | rfl
                      · exact .inr ⟨(gle rfl), (gle rfl), .inr ⟨0, rfl, by decide⟩⟩
                      · exact .inl (by decide)) ?_
                  refine DW.m [2, 1, 0] rfl (ok_append_ro (kk := 2) elt_impl_Row (ls := .hd 1) (lx := .ro _) rfl rfl rfl rfl rfl rfl (flat_impl_Row _) (by simp only [List.length_append, List.length_map]; omega) rfl (gle rfl)) rfl (gle rfl) (gle rfl) (.inr ⟨1, rfl, .inl (by decide)⟩) (fun j hj => by
                      simp only [List.mem_cons, List.not_mem_nil, or_false] at hj
                      rcases hj with rfl | rfl | rfl
                      · exact .inr ⟨(gle rfl), (gle rfl), .inr ⟨1, rfl, by decide⟩⟩
                      · exact .inl (by decide)
                      · exact .inl (by decide)) ?_
                  refine DW.m [3, 2, 1, 0] rfl (ok_append_ro (kk := 3) elt_impl_Row (ls := .hd 2) (lx := .ro _) rfl rfl rfl rfl rfl rfl (flat_impl_Row _) (by simp only [List.length_append, List.length_map]; omega) rfl (gle rfl)) rfl (gle rfl) (gle rfl) (.inr ⟨2, rfl, .inl (by decide)⟩) (fun j hj => by
                      simp only [List.mem_cons, List.not_mem_nil, or_false] at hj
                      rcases hj with rfl | rfl | rfl | rfl
                      · exact .inr ⟨(gle rfl), (gle rfl), .inr ⟨2, rfl, by decide⟩⟩
                      · exact .inl (by decide)
                      · exact .inl (by decide)
                      · exact .inl (by decide)) ?_
                  refine DW.q rfl (ok_move (v := V.one (.hd 3)) (.inr rfl) rfl) rfl rfl (gle rfl) (fun _ _ _ _ h => h) ?_
                  refine DW.stores ?_
                  refine SV.zend ?_
                  refine SV.tn ?_
                  refine SV.seq' ?_
                  refine SV.region ?_
                  refine SV.op (OpL.ok (nb := 1) (ok_field_bp (b := 0) (o' := 0) (off := 6) rfl rfl fld_impl_Sorter_6) rfl (gle rfl)) rfl ?_
                  refine SV.op (OpL.ok (nb := 1) (ok_load_bp (b := 0) (i := 6) (ag := false) (m := 1) (ys := [.sc _]) rfl rfl rfl agg_int sz_int (fun _ => rfl) rfl rfl (gle rfl)) rfl (gle rfl)) rfl ?_
                  refine SV.op (OpL.ok (nb := 1) (ok_s2 (x := .tmp 80) (x' := .const ((Value.int IntKind.i64 0))) (VScal.one rfl) (VScal.one rfl) (fun ρ h1 h2 w => by go_simp; (try go_bits); with_reducible rfl) rfl) rfl (gle rfl)) rfl ?_
                  refine SV.op (OpL.ok (nb := 1) (ok_move (v := V.one (.sc _)) (.inl rfl) rfl) rfl (gle rfl)) rfl ?_
                  refine SV.split (d := 82) rfl (fun hg5 => ?_) (fun hg5 => ?_)
                  · skip   -- g5.T
                    have hl0 : s.fLeftPos = 0 := by simpa using hg5
                    refine SV.opY (OpL.ok (nb := 1) (ok_field_bp (b := 0) (o' := 0) (off := 7) rfl rfl fld_impl_Sorter_7) rfl (gle rfl)) rfl rfl rfl (gle rfl) rfl rfl ?_
                    refine SV.opY (OpL.ok (nb := 1) (ok_load_bp (b := 0) (i := 7) (ag := false) (m := 1) (ys := [.sc _]) rfl rfl rfl agg_int sz_int (fun _ => rfl) rfl rfl (gle rfl)) rfl (gle rfl)) rfl rfl rfl (gle rfl) rfl rfl ?_
                    refine SV.opY (OpL.ok (nb := 1) (ok_s2 (x := .tmp 84) (x' := .const ((Value.int IntKind.i64 0))) (VScal.one rfl) (VScal.one rfl) (fun ρ h1 h2 w => by go_simp; (try go_bits); with_reducible rfl) rfl) rfl (gle rfl)) rfl rfl rfl (gle rfl) rfl rfl ?_
                    refine SV.op (OpL.ok (nb := 1) (ok_pickT (v := V.one (.sc _)) rfl rfl rfl) rfl (gle rfl)) rfl ?_
                    refine SV.op (OpL.ok (nb := 1) (ok_move (v := V.one (.sc _)) (.inl rfl) rfl) rfl (gle rfl)) rfl ?_
                    refine SV.split (d := 87) rfl (fun hg6 => ?_) (fun hg6 => ?_)
                    · skip   -- g6.T
                      have hr0 : s.fRightPos = 0 := by simpa using hg6
                      refine SV.opY (OpL.ok (nb := 1) (ok_field_bp (b := 0) (o' := 0) (off := 3) rfl rfl fld_impl_Sorter_3) rfl (gle rfl)) rfl rfl rfl (gle rfl) rfl rfl ?_
                      refine SV.opY (OpL.ok (nb := 1) (ok_load_bp (b := 0) (i := 3) (ag := false) (m := 1) (ys := [.ro _]) rfl rfl rfl agg_s_impl_Row sz_s_impl_Row (fun _ => rfl) rfl rfl (gle rfl)) rfl (gle rfl)) rfl rfl rfl (gle rfl) rfl rfl ?_
                      refine SV.opY (OpL.ok (nb := 1) (ok_len (lf := .ro _) rfl elt_impl_Row.und rfl rfl) rfl (gle rfl)) rfl rfl rfl (gle rfl) rfl rfl ?_
                      refine SV.opY (OpL.ok (nb := 1) (ok_s2 (x := .tmp 90) (x' := .const ((Value.int IntKind.i64 0))) (VScal.one rfl) (VScal.one rfl) (fun ρ h1 h2 w => by go_simp; (try go_bits); with_reducible rfl) rfl) rfl (gle rfl)) rfl rfl rfl (gle rfl) rfl rfl ?_
                      refine SV.opY (OpL.ok (nb := 1) (ok_move (v := V.one (.sc _)) (.inl rfl) rfl) rfl (gle rfl)) rfl rfl rfl (gle rfl) rfl rfl ?_
                      refine SV.split (d := 92) rfl (fun hg7 => ?_) (fun hg7 => ?_)
                      · skip   -- g7.T
                        have hd : s.fDeferred.length = 0 ∨ 0 < s.fOutput.length := .inl (by first | (simpa using hg7) | (simp at hg7; omega) | (simp at hg7; rw [hg7]; rfl))
                        refine SV.opN rfl rfl rfl (gle rfl) rfl rfl rfl (gle rfl) ?_
                        refine SV.opN rfl rfl rfl (gle rfl) rfl rfl rfl (gle rfl) ?_
                        refine SV.opY (OpL.ok (nb := 1) (ok_pickT (v := V.one (.sc _)) rfl rfl rfl) rfl (gle rfl)) rfl rfl rfl (gle rfl) rfl rfl ?_
                        refine SV.op (OpL.ok (nb := 1) (ok_pickT (v := V.one (.sc _)) rfl rfl rfl) rfl (gle rfl)) rfl ?_
                        refine SV.op (OpL.ok (nb := 1) (ok_move (v := V.one (.sc _)) (.inl rfl) rfl) rfl (gle rfl)) rfl ?_
                        refine SV.opY (OpL.ok (nb := 1) (ok_load_bp (b := 0) (i := 0) (ag := true) (m := 10) (ys := [.ro _, .sc _, .ro _, .ro _, .ro _, .ro _, .sc _, .sc _, .sc _, .sc _]) rfl rfl rfl agg_impl_Sorter sz_impl_Sorter (fun h => by cases h) rfl rfl (gle rfl)) rfl (gle rfl)) rfl rfl rfl (gle rfl) rfl rfl ?_
                        refine SV.opY (OpMk.ok (ok_call (ls := [(false, [.sc _])]) rfl rfl ⟨_, _, Try.func24, rfl, by decide⟩ (hsm) ⟨⟨[.ro _, .sc _, .ro _, .ro _, .ro _, .ro _, .sc _, .sc _, .sc _, .sc _], rfl, ⟨rfl, rfl, rfl, rfl, rfl, rfl, rfl, rfl, rfl, rfl, trivial⟩⟩, trivial⟩ rfl (gle rfl))) rfl rfl rfl (gle rfl) rfl rfl ?_
                        refine SV.opY (OpL.ok (nb := 1) (ok_s2 (x := .tmp 99) (x' := .const ((Value.int IntKind.i64 60))) (VScal.one rfl) (VScal.one rfl) (fun ρ h1 h2 w => by go_simp; (try go_bits); with_reducible rfl) rfl) rfl (gle rfl)) rfl rfl rfl (gle rfl) rfl rfl ?_
                        refine SV.op (OpL.ok (nb := 1) (ok_pickT (v := V.one (.sc _)) rfl rfl rfl) rfl (gle rfl)) rfl ?_
                        refine SV.op (OpL.ok (nb := 1) (ok_move (v := V.one (.sc _)) (.inl rfl) rfl) rfl (gle rfl)) rfl ?_
                        refine SV.split (d := 102) rfl (fun hg8 => ?_) (fun hg8 => ?_)
                        · skip   -- g8.T
                          have hm : SorterD.mem s ≤ 60 := by simpa using hg8
                          have hno : SorterD.ok s = R.eqBags (s.fRuns.flatten ++ s.fOutput ++ s.fHeap ++ s.fDeferred) (s.fInput.take n) := by
                            rw [hok1]
                            unfold SorterD.okRead
                            rw [decide_eq_true (⟨hl0, hr0, hd, hm⟩ : s.fLeftPos = 0 ∧ s.fRightPos = 0 ∧ (s.fDeferred.length = 0 ∨ 0 < s.fOutput.length) ∧ SorterD.mem s ≤ 60), hn, Int.toNat_natCast]; rfl
                          refine SV.opY (OpL.ok (nb := 1) (ok_move (v := V.one (.hd 3)) (.inl rfl) rfl) rfl (gle rfl)) rfl rfl rfl (gle rfl) rfl rfl ?_
                          refine SV.opY (OpL.ok (nb := 1) (ok_field_bp (b := 0) (o' := 0) (off := 0) rfl rfl fld_impl_Sorter_0) rfl (gle rfl)) rfl rfl rfl (gle rfl) rfl rfl ?_
                          refine SV.opY (OpL.ok (nb := 1) (ok_load_bp (b := 0) (i := 0) (ag := false) (m := 1) (ys := [.ro _]) rfl rfl rfl agg_s_impl_Row sz_s_impl_Row (fun _ => rfl) rfl rfl (gle rfl)) rfl (gle rfl)) rfl rfl rfl (gle rfl) rfl rfl ?_
                          refine SV.opY (OpL.ok (nb := 1) (ok_field_bp (b := 0) (o' := 0) (off := 1) rfl rfl fld_impl_Sorter_1) rfl (gle rfl)) rfl rfl rfl (gle rfl) rfl rfl ?_
                          refine SV.opY (OpL.ok (nb := 1) (ok_load_bp (b := 0) (i := 1) (ag := false) (m := 1) (ys := [.sc _]) rfl rfl rfl agg_int sz_int (fun _ => rfl) rfl rfl (gle rfl)) rfl (gle rfl)) rfl rfl rfl (gle rfl) rfl rfl ?_
                          refine SV.opY (OpL.ok (nb := 1) (ok_slice (l := 0) (h := n) (lf := .ro _) (yy := .ro _) rfl rfl elt_impl_Row.und sz_impl_Row rfl rfl rfl ⟨_, rfl⟩ (Nat.zero_le _) (by simp only [List.length_map]; omega)) rfl (gle rfl)) rfl rfl rfl (gle rfl) rfl rfl ?_
                          refine SV.opY (OpMk.ok (ok_call (ls := [(false, [.sc _])]) rfl rfl ⟨_, _, Try.func53, rfl, by decide⟩ (hbg) ⟨⟨[.hd 3], rfl, ⟨rfl, trivial⟩⟩, ⟨[.ro _], rfl, ⟨rfl, trivial⟩⟩, trivial⟩ rfl (gle rfl))) rfl rfl rfl (gle rfl) rfl rfl ?_
                          refine SV.op (OpL.ok (nb := 1) (ok_pickT (v := V.one (.sc _)) rfl rfl rfl) rfl (gle rfl)) rfl ?_
                          refine SV.op (OpL.ok (nb := 1) (ok_move (v := V.one (.sc _)) (.inr rfl) rfl) rfl (gle rfl)) rfl ?_
                          refine SV.nil ?_
                          refine SV.tn ?_
                          refine SV.ret ?_
                          refine SV.tr ?_
                          apply SV.done (hf := Try.results27) (ht := rfl) (he := .inl rfl)
                          case hr => exact (ResAll.cons (ResOk.tmp (ag := false) (xs := [.sc _]) rfl) ResAll.nil')
                          case h2 => simp [two]
                          refine ⟨rfl, ⟨?_, trivial⟩, trivial⟩ <;> (show some (T.lit (Value.bool _)) = some (T.lit (Value.bool _)); refine congrArg (fun z => some (T.lit (Value.bool z))) ?_; first | (rw [hno]; done) | (rw [hno]; simp; done) | (rw [hno, Bool.eq_iff_iff]; simp; done) | (rw [hno]; rfl))
                        · skip   -- g8.F
                          have hm : ¬ SorterD.mem s ≤ 60 := by simpa using hg8
                          have hno : SorterD.ok s = false := by
                            rw [hok1]
                            unfold SorterD.okRead
                            rw [decide_eq_false (fun hh => by exact hm hh.2.2.2), Bool.false_and]
                          refine SV.opN rfl rfl rfl (gle rfl) rfl rfl rfl (gle rfl) ?_
                          refine SV.opN rfl rfl rfl (gle rfl) rfl rfl rfl (gle rfl) ?_
                          refine SV.opN rfl rfl rfl (gle rfl) rfl rfl rfl (gle rfl) ?_
                          refine SV.opN rfl rfl rfl (gle rfl) rfl rfl rfl (gle rfl) ?_
                          refine SV.opN rfl rfl rfl (gle rfl) rfl rfl rfl (gle rfl) ?_
                          refine SV.opN rfl rfl rfl (gle rfl) rfl rfl rfl (gle rfl) ?_
                          refine SV.opN rfl rfl rfl (gle rfl) rfl rfl rfl (gle rfl) ?_
                          refine SV.op (OpL.ok (nb := 1) (ok_pickF (v := V.one (.sc _)) rfl rfl rfl) rfl (gle rfl)) rfl ?_
                          refine SV.op (OpL.ok (nb := 1) (ok_move (v := V.one (.sc _)) (.inr rfl) rfl) rfl (gle rfl)) rfl ?_
                          refine SV.nil ?_
                          refine SV.tn ?_
                          refine SV.ret ?_
                          refine SV.tr ?_
                          apply SV.done (hf := Try.results27) (ht := rfl) (he := .inl rfl)
                          case hr => exact (ResAll.cons (ResOk.tmp (ag := false) (xs := [.sc _]) rfl) ResAll.nil')
                          case h2 => simp [two]
                          refine ⟨rfl, ⟨?_, trivial⟩, trivial⟩ <;> (show some (T.lit (Value.bool _)) = some (T.lit (Value.bool _)); refine congrArg (fun z => some (T.lit (Value.bool z))) ?_; first | (rw [hno]; done) | (rw [hno]; simp; done) | (rw [hno, Bool.eq_iff_iff]; simp; done) | (rw [hno]; rfl))
                      · skip   -- g7.F
                        have hd0 : ¬ s.fDeferred.length = 0 := fun h => by simp [h] at hg7
                        refine SV.opY (OpL.ok (nb := 1) (ok_move (v := V.one (.sc _)) (.inl rfl) rfl) rfl (gle rfl)) rfl rfl rfl (gle rfl) rfl rfl ?_
                        refine SV.opY (OpL.ok (nb := 1) (ok_s2 (x := .tmp 93) (x' := .const ((Value.int IntKind.i64 0))) (VScal.one rfl) (VScal.one rfl) (fun ρ h1 h2 w => by go_simp; (try go_bits); with_reducible rfl) rfl) rfl (gle rfl)) rfl rfl rfl (gle rfl) rfl rfl ?_
                        refine SV.opY (OpL.ok (nb := 1) (ok_pickF (v := V.one (.sc _)) rfl rfl rfl) rfl (gle rfl)) rfl rfl rfl (gle rfl) rfl rfl ?_
                        refine SV.op (OpL.ok (nb := 1) (ok_pickT (v := V.one (.sc _)) rfl rfl rfl) rfl (gle rfl)) rfl ?_
                        refine SV.op (OpL.ok (nb := 1) (ok_move (v := V.one (.sc _)) (.inl rfl) rfl) rfl (gle rfl)) rfl ?_
                        refine SV.split (d := 97) rfl (fun hg9 => ?_) (fun hg9 => ?_)
                        · skip   -- g9.T
                          have hd : s.fDeferred.length = 0 ∨ 0 < s.fOutput.length := .inr (by simp at hg9; omega)
                          refine SV.opY (OpL.ok (nb := 1) (ok_load_bp (b := 0) (i := 0) (ag := true) (m := 10) (ys := [.ro _, .sc _, .ro _, .ro _, .ro _, .ro _, .sc _, .sc _, .sc _, .sc _]) rfl rfl rfl agg_impl_Sorter sz_impl_Sorter (fun h => by cases h) rfl rfl (gle rfl)) rfl (gle rfl)) rfl rfl rfl (gle rfl) rfl rfl ?_
                          refine SV.opY (OpMk.ok (ok_call (ls := [(false, [.sc _])]) rfl rfl ⟨_, _, Try.func24, rfl, by decide⟩ (hsm) ⟨⟨[.ro _, .sc _, .ro _, .ro _, .ro _, .ro _, .sc _, .sc _, .sc _, .sc _], rfl, ⟨rfl, rfl, rfl, rfl, rfl, rfl, rfl, rfl, rfl, rfl, trivial⟩⟩, trivial⟩ rfl (gle rfl))) rfl rfl rfl (gle rfl) rfl rfl ?_
                          refine SV.opY (OpL.ok (nb := 1) (ok_s2 (x := .tmp 99) (x' := .const ((Value.int IntKind.i64 60))) (VScal.one rfl) (VScal.one rfl) (fun ρ h1 h2 w => by go_simp; (try go_bits); with_reducible rfl) rfl) rfl (gle rfl)) rfl rfl rfl (gle rfl) rfl rfl ?_
                          refine SV.op (OpL.ok (nb := 1) (ok_pickT (v := V.one (.sc _)) rfl rfl rfl) rfl (gle rfl)) rfl ?_
                          refine SV.op (OpL.ok (nb := 1) (ok_move (v := V.one (.sc _)) (.inl rfl) rfl) rfl (gle rfl)) rfl ?_
                          refine SV.split (d := 102) rfl (fun hg10 => ?_) (fun hg10 => ?_)
                          · skip   -- g10.T
                            have hm : SorterD.mem s ≤ 60 := by simpa using hg10
                            have hno : SorterD.ok s = R.eqBags (s.fRuns.flatten ++ s.fOutput ++ s.fHeap ++ s.fDeferred) (s.fInput.take n) := by
                              rw [hok1]
                              unfold SorterD.okRead
                              rw [decide_eq_true (⟨hl0, hr0, hd, hm⟩ : s.fLeftPos = 0 ∧ s.fRightPos = 0 ∧ (s.fDeferred.length = 0 ∨ 0 < s.fOutput.length) ∧ SorterD.mem s ≤ 60), hn, Int.toNat_natCast]; rfl
                            refine SV.opY (OpL.ok (nb := 1) (ok_move (v := V.one (.hd 3)) (.inl rfl) rfl) rfl (gle rfl)) rfl rfl rfl (gle rfl) rfl rfl ?_
                            refine SV.opY (OpL.ok (nb := 1) (ok_field_bp (b := 0) (o' := 0) (off := 0) rfl rfl fld_impl_Sorter_0) rfl (gle rfl)) rfl rfl rfl (gle rfl) rfl rfl ?_
                            refine SV.opY (OpL.ok (nb := 1) (ok_load_bp (b := 0) (i := 0) (ag := false) (m := 1) (ys := [.ro _]) rfl rfl rfl agg_s_impl_Row sz_s_impl_Row (fun _ => rfl) rfl rfl (gle rfl)) rfl (gle rfl)) rfl rfl rfl (gle rfl) rfl rfl ?_
                            refine SV.opY (OpL.ok (nb := 1) (ok_field_bp (b := 0) (o' := 0) (off := 1) rfl rfl fld_impl_Sorter_1) rfl (gle rfl)) rfl rfl rfl (gle rfl) rfl rfl ?_
                            refine SV.opY (OpL.ok (nb := 1) (ok_load_bp (b := 0) (i := 1) (ag := false) (m := 1) (ys := [.sc _]) rfl rfl rfl agg_int sz_int (fun _ => rfl) rfl rfl (gle rfl)) rfl (gle rfl)) rfl rfl rfl (gle rfl) rfl rfl ?_
                            refine SV.opY (OpL.ok (nb := 1) (ok_slice (l := 0) (h := n) (lf := .ro _) (yy := .ro _) rfl rfl elt_impl_Row.und sz_impl_Row rfl rfl rfl ⟨_, rfl⟩ (Nat.zero_le _) (by simp only [List.length_map]; omega)) rfl (gle rfl)) rfl rfl rfl (gle rfl) rfl rfl ?_
                            refine SV.opY (OpMk.ok (ok_call (ls := [(false, [.sc _])]) rfl rfl ⟨_, _, Try.func53, rfl, by decide⟩ (hbg) ⟨⟨[.hd 3], rfl, ⟨rfl, trivial⟩⟩, ⟨[.ro _], rfl, ⟨rfl, trivial⟩⟩, trivial⟩ rfl (gle rfl))) rfl rfl rfl (gle rfl) rfl rfl ?_
                            refine SV.op (OpL.ok (nb := 1) (ok_pickT (v := V.one (.sc _)) rfl rfl rfl) rfl (gle rfl)) rfl ?_
                            refine SV.op (OpL.ok (nb := 1) (ok_move (v := V.one (.sc _)) (.inr rfl) rfl) rfl (gle rfl)) rfl ?_
                            refine SV.nil ?_
                            refine SV.tn ?_
                            refine SV.ret ?_
                            refine SV.tr ?_
                            apply SV.done (hf := Try.results27) (ht := rfl) (he := .inl rfl)
                            case hr => exact (ResAll.cons (ResOk.tmp (ag := false) (xs := [.sc _]) rfl) ResAll.nil')
                            case h2 => simp [two]
                            refine ⟨rfl, ⟨?_, trivial⟩, trivial⟩ <;> (show some (T.lit (Value.bool _)) = some (T.lit (Value.bool _)); refine congrArg (fun z => some (T.lit (Value.bool z))) ?_; first | (rw [hno]; done) | (rw [hno]; simp; done) | (rw [hno, Bool.eq_iff_iff]; simp; done) | (rw [hno]; rfl))
                          · skip   -- g10.F
                            have hm : ¬ SorterD.mem s ≤ 60 := by simpa using hg10
                            have hno : SorterD.ok s = false := by
                              rw [hok1]
                              unfold SorterD.okRead
                              rw [decide_eq_false (fun hh => by exact hm hh.2.2.2), Bool.false_and]
                            refine SV.opN rfl rfl rfl (gle rfl) rfl rfl rfl (gle rfl) ?_
                            refine SV.opN rfl rfl rfl (gle rfl) rfl rfl rfl (gle rfl) ?_
                            refine SV.opN rfl rfl rfl (gle rfl) rfl rfl rfl (gle rfl) ?_
                            refine SV.opN rfl rfl rfl (gle rfl) rfl rfl rfl (gle rfl) ?_
                            refine SV.opN rfl rfl rfl (gle rfl) rfl rfl rfl (gle rfl) ?_
                            refine SV.opN rfl rfl rfl (gle rfl) rfl rfl rfl (gle rfl) ?_
                            refine SV.opN rfl rfl rfl (gle rfl) rfl rfl rfl (gle rfl) ?_
                            refine SV.op (OpL.ok (nb := 1) (ok_pickF (v := V.one (.sc _)) rfl rfl rfl) rfl (gle rfl)) rfl ?_
                            refine SV.op (OpL.ok (nb := 1) (ok_move (v := V.one (.sc _)) (.inr rfl) rfl) rfl (gle rfl)) rfl ?_
                            refine SV.nil ?_
                            refine SV.tn ?_
                            refine SV.ret ?_
                            refine SV.tr ?_
                            apply SV.done (hf := Try.results27) (ht := rfl) (he := .inl rfl)
                            case hr => exact (ResAll.cons (ResOk.tmp (ag := false) (xs := [.sc _]) rfl) ResAll.nil')
                            case h2 => simp [two]
                            refine ⟨rfl, ⟨?_, trivial⟩, trivial⟩ <;> (show some (T.lit (Value.bool _)) = some (T.lit (Value.bool _)); refine congrArg (fun z => some (T.lit (Value.bool z))) ?_; first | (rw [hno]; done) | (rw [hno]; simp; done) | (rw [hno, Bool.eq_iff_iff]; simp; done) | (rw [hno]; rfl))
                        · skip   -- g9.F
                          have hd1 : ¬ 0 < s.fOutput.length := by simp at hg9; omega
                          have hno : SorterD.ok s = false := by
                            rw [hok1]
                            unfold SorterD.okRead
                            rw [decide_eq_false (fun hh => by rcases hh.2.2.1 with h | h; exact hd0 h; exact hd1 h), Bool.false_and]
                          refine SV.opN rfl rfl rfl (gle rfl) rfl rfl rfl (gle rfl) ?_
                          refine SV.opN rfl rfl rfl (gle rfl) rfl rfl rfl (gle rfl) ?_
                          refine SV.opN rfl rfl rfl (gle rfl) rfl rfl rfl (gle rfl) ?_
                          refine SV.op (OpL.ok (nb := 1) (ok_pickF (v := V.one (.sc _)) rfl rfl rfl) rfl (gle rfl)) rfl ?_
                          refine SV.op (OpL.ok (nb := 1) (ok_move (v := V.one (.sc _)) (.inl rfl) rfl) rfl (gle rfl)) rfl ?_
                          refine SV.opN rfl rfl rfl (gle rfl) rfl rfl rfl (gle rfl) ?_
                          refine SV.opN rfl rfl rfl (gle rfl) rfl rfl rfl (gle rfl) ?_
                          refine SV.opN rfl rfl rfl (gle rfl) rfl rfl rfl (gle rfl) ?_
                          refine SV.opN rfl rfl rfl (gle rfl) rfl rfl rfl (gle rfl) ?_
                          refine SV.opN rfl rfl rfl (gle rfl) rfl rfl rfl (gle rfl) ?_
                          refine SV.opN rfl rfl rfl (gle rfl) rfl rfl rfl (gle rfl) ?_
                          refine SV.opN rfl rfl rfl (gle rfl) rfl rfl rfl (gle rfl) ?_
                          refine SV.op (OpL.ok (nb := 1) (ok_pickF (v := V.one (.sc _)) rfl rfl rfl) rfl (gle rfl)) rfl ?_
                          refine SV.op (OpL.ok (nb := 1) (ok_move (v := V.one (.sc _)) (.inr rfl) rfl) rfl (gle rfl)) rfl ?_
                          refine SV.nil ?_
                          refine SV.tn ?_
                          refine SV.ret ?_
                          refine SV.tr ?_
                          apply SV.done (hf := Try.results27) (ht := rfl) (he := .inl rfl)
                          case hr => exact (ResAll.cons (ResOk.tmp (ag := false) (xs := [.sc _]) rfl) ResAll.nil')
                          case h2 => simp [two]
                          refine ⟨rfl, ⟨?_, trivial⟩, trivial⟩ <;> (show some (T.lit (Value.bool _)) = some (T.lit (Value.bool _)); refine congrArg (fun z => some (T.lit (Value.bool z))) ?_; first | (rw [hno]; done) | (rw [hno]; simp; done) | (rw [hno, Bool.eq_iff_iff]; simp; done) | (rw [hno]; rfl))
                    · skip   -- g6.F
                      have hr0 : ¬ s.fRightPos = 0 := by simpa using hg6
                      have hno : SorterD.ok s = false := by
                        rw [hok1]
                        unfold SorterD.okRead
                        rw [decide_eq_false (fun hh => by exact hr0 hh.2.1), Bool.false_and]
                      refine SV.opN rfl rfl rfl (gle rfl) rfl rfl rfl (gle rfl) ?_
                      refine SV.opN rfl rfl rfl (gle rfl) rfl rfl rfl (gle rfl) ?_
                      refine SV.opN rfl rfl rfl (gle rfl) rfl rfl rfl (gle rfl) ?_
                      refine SV.opN rfl rfl rfl (gle rfl) rfl rfl rfl (gle rfl) ?_
                      refine SV.opNu rfl rfl rfl (gle rfl) rfl rfl rfl (gle rfl) ?_
                      refine SV.opNN rfl rfl rfl (gle rfl) rfl rfl (gle rfl) ?_
                      refine SV.opNN rfl rfl rfl (gle rfl) rfl rfl (gle rfl) ?_
                      refine SV.opN rfl rfl rfl (gle rfl) rfl rfl rfl (gle rfl) ?_
                      refine SV.op (OpL.ok (nb := 1) (ok_pickF (v := V.one (.sc _)) rfl rfl rfl) rfl (gle rfl)) rfl ?_
                      refine SV.op (OpL.ok (nb := 1) (ok_move (v := V.one (.sc _)) (.inl rfl) rfl) rfl (gle rfl)) rfl ?_
                      refine SV.opN rfl rfl rfl (gle rfl) rfl rfl rfl (gle rfl) ?_
                      refine SV.opN rfl rfl rfl (gle rfl) rfl rfl rfl (gle rfl) ?_
                      refine SV.opN rfl rfl rfl (gle rfl) rfl rfl rfl (gle rfl) ?_
                      refine SV.op (OpL.ok (nb := 1) (ok_pickF (v := V.one (.sc _)) rfl rfl rfl) rfl (gle rfl)) rfl ?_
                      refine SV.op (OpL.ok (nb := 1) (ok_move (v := V.one (.sc _)) (.inl rfl) rfl) rfl (gle rfl)) rfl ?_
                      refine SV.opN rfl rfl rfl (gle rfl) rfl rfl rfl (gle rfl) ?_
                      refine SV.opN rfl rfl rfl (gle rfl) rfl rfl rfl (gle rfl) ?_
                      refine SV.opN rfl rfl rfl (gle rfl) rfl rfl rfl (gle rfl) ?_
                      refine SV.opN rfl rfl rfl (gle rfl) rfl rfl rfl (gle rfl) ?_
                      refine SV.opN rfl rfl rfl (gle rfl) rfl rfl rfl (gle rfl) ?_
                      refine SV.opN rfl rfl rfl (gle rfl) rfl rfl rfl (gle rfl) ?_
                      refine SV.opN rfl rfl rfl (gle rfl) rfl rfl rfl (gle rfl) ?_
                      refine SV.op (OpL.ok (nb := 1) (ok_pickF (v := V.one (.sc _)) rfl rfl rfl) rfl (gle rfl)) rfl ?_
                      refine SV.op (OpL.ok (nb := 1) (ok_move (v := V.one (.sc _)) (.inr rfl) rfl) rfl (gle rfl)) rfl ?_
                      refine SV.nil ?_
                      refine SV.tn ?_
                      refine SV.ret ?_
                      refine SV.tr ?_
                      apply SV.done (hf := Try.results27) (ht := rfl) (he := .inl rfl)
                      case hr => exact (ResAll.cons (ResOk.tmp (ag := false) (xs := [.sc _]) rfl) ResAll.nil')
                      case h2 => simp [two]
                      refine ⟨rfl, ⟨?_, trivial⟩, trivial⟩ <;> (show some (T.lit (Value.bool _)) = some (T.lit (Value.bool _)); refine congrArg (fun z => some (T.lit (Value.bool z))) ?_; first | (rw [hno]; done) | (rw [hno]; simp; done) | (rw [hno, Bool.eq_iff_iff]; simp; done) | (rw [hno]; rfl))
                  · skip   -- g5.F
                    have hl0 : ¬ s.fLeftPos = 0 := by simpa using hg5
                    have hno : SorterD.ok s = false := by
                      rw [hok1]
                      unfold SorterD.okRead
                      rw [decide_eq_false (fun hh => by exact hl0 hh.1), Bool.false_and]
                    refine SV.opN rfl rfl rfl (gle rfl) rfl rfl rfl (gle rfl) ?_
                    refine SV.opN rfl rfl rfl (gle rfl) rfl rfl rfl (gle rfl) ?_
                    refine SV.opN rfl rfl rfl (gle rfl) rfl rfl rfl (gle rfl) ?_
                    refine SV.op (OpL.ok (nb := 1) (ok_pickF (v := V.one (.sc _)) rfl rfl rfl) rfl (gle rfl)) rfl ?_
                    refine SV.op (OpL.ok (nb := 1) (ok_move (v := V.one (.sc _)) (.inl rfl) rfl) rfl (gle rfl)) rfl ?_
                    refine SV.opN rfl rfl rfl (gle rfl) rfl rfl rfl (gle rfl) ?_
                    refine SV.opN rfl rfl rfl (gle rfl) rfl rfl rfl (gle rfl) ?_
                    refine SV.opN rfl rfl rfl (gle rfl) rfl rfl rfl (gle rfl) ?_
                    refine SV.opN rfl rfl rfl (gle rfl) rfl rfl rfl (gle rfl) ?_
                    refine SV.opNu rfl rfl rfl (gle rfl) rfl rfl rfl (gle rfl) ?_
                    refine SV.opNN rfl rfl rfl (gle rfl) rfl rfl (gle rfl) ?_
                    refine SV.opNN rfl rfl rfl (gle rfl) rfl rfl (gle rfl) ?_
                    refine SV.opN rfl rfl rfl (gle rfl) rfl rfl rfl (gle rfl) ?_
                    refine SV.op (OpL.ok (nb := 1) (ok_pickF (v := V.one (.sc _)) rfl rfl rfl) rfl (gle rfl)) rfl ?_
                    refine SV.op (OpL.ok (nb := 1) (ok_move (v := V.one (.sc _)) (.inl rfl) rfl) rfl (gle rfl)) rfl ?_
                    refine SV.opN rfl rfl rfl (gle rfl) rfl rfl rfl (gle rfl) ?_
                    refine SV.opN rfl rfl rfl (gle rfl) rfl rfl rfl (gle rfl) ?_
                    refine SV.opN rfl rfl rfl (gle rfl) rfl rfl rfl (gle rfl) ?_
                    refine SV.op (OpL.ok (nb := 1) (ok_pickF (v := V.one (.sc _)) rfl rfl rfl) rfl (gle rfl)) rfl ?_
                    refine SV.op (OpL.ok (nb := 1) (ok_move (v := V.one (.sc _)) (.inl rfl) rfl) rfl (gle rfl)) rfl ?_
                    refine SV.opN rfl rfl rfl (gle rfl) rfl rfl rfl (gle rfl) ?_
                    refine SV.opN rfl rfl rfl (gle rfl) rfl rfl rfl (gle rfl) ?_
                    refine SV.opN rfl rfl rfl (gle rfl) rfl rfl rfl (gle rfl) ?_
                    refine SV.opN rfl rfl rfl (gle rfl) rfl rfl rfl (gle rfl) ?_
                    refine SV.opN rfl rfl rfl (gle rfl) rfl rfl rfl (gle rfl) ?_
                    refine SV.opN rfl rfl rfl (gle rfl) rfl rfl rfl (gle rfl) ?_
                    refine SV.opN rfl rfl rfl (gle rfl) rfl rfl rfl (gle rfl) ?_
                    refine SV.op (OpL.ok (nb := 1) (ok_pickF (v := V.one (.sc _)) rfl rfl rfl) rfl (gle rfl)) rfl ?_
                    refine SV.op (OpL.ok (nb := 1) (ok_move (v := V.one (.sc _)) (.inr rfl) rfl) rfl (gle rfl)) rfl ?_
                    refine SV.nil ?_
                    refine SV.tn ?_
                    refine SV.ret ?_
                    refine SV.tr ?_
                    apply SV.done (hf := Try.results27) (ht := rfl) (he := .inl rfl)
                    case hr => exact (ResAll.cons (ResOk.tmp (ag := false) (xs := [.sc _]) rfl) ResAll.nil')
                    case h2 => simp [two]
                    refine ⟨rfl, ⟨?_, trivial⟩, trivial⟩ <;> (show some (T.lit (Value.bool _)) = some (T.lit (Value.bool _)); refine congrArg (fun z => some (T.lit (Value.bool z))) ?_; first | (rw [hno]; done) | (rw [hno]; simp; done) | (rw [hno, Bool.eq_iff_iff]; simp; done) | (rw [hno]; rfl))
                · skip   -- c8.F
                  have hp1 : ¬ s.fPhase = 1 := by simpa using hc8
                  have hok2 := hok.trans (if_neg hp1)
                  refine SV.skip ?_
                  refine SV.tn ?_
                  refine SV.seq' ?_
                  refine SV.seq' ?_
                  refine SV.forget (L := [(1, V.one (.bp 0 0)), (2, V.one (.sc _))]) (B := [(27, [.ro _, .sc _, .ro _, .ro _, .ro _, .ro _, .sc _, .sc _, .sc _, .sc _])]) (O := []) (n := 0) ⟨rfl, rfl, trivial⟩ rfl trivial rfl ?_
                  refine SV.region ?_
                  refine SV.op (OpL.ok (nb := 1) (ok_field_bp (b := 0) (o' := 0) (off := 1) rfl rfl fld_impl_Sorter_1) rfl (gle rfl)) rfl ?_
                  refine SV.op (OpL.ok (nb := 1) (ok_load_bp (b := 0) (i := 1) (ag := false) (m := 1) (ys := [.sc _]) rfl rfl rfl agg_int sz_int (fun _ => rfl) rfl rfl (gle rfl)) rfl (gle rfl)) rfl ?_
                  refine SV.op (OpL.ok (nb := 1) (ok_field_bp (b := 0) (o' := 0) (off := 0) rfl rfl fld_impl_Sorter_0) rfl (gle rfl)) rfl ?_
                  refine SV.op (OpL.ok (nb := 1) (ok_load_bp (b := 0) (i := 0) (ag := false) (m := 1) (ys := [.ro _]) rfl rfl rfl agg_s_impl_Row sz_s_impl_Row (fun _ => rfl) rfl rfl (gle rfl)) rfl (gle rfl)) rfl ?_
                  refine SV.op (OpL.ok (nb := 1) (ok_len (lf := .ro _) rfl elt_impl_Row.und rfl rfl) rfl (gle rfl)) rfl ?_
                  refine SV.op (OpL.ok (nb := 1) (ok_s2 (x := .tmp 112) (x' := .tmp 115) (VScal.one rfl) (VScal.one rfl) (fun ρ h1 h2 w => by go_simp; (try go_bits); with_reducible rfl) rfl) rfl (gle rfl)) rfl ?_
                  refine SV.op (OpL.ok (nb := 1) (ok_move (v := V.one (.sc _)) (.inl rfl) rfl) rfl (gle rfl)) rfl ?_
                  refine SV.split (d := 117) rfl (fun hg11 => ?_) (fun hg11 => ?_)
                  · skip   -- g11.T
                    refine SV.opN rfl rfl rfl (gle rfl) rfl rfl rfl (gle rfl) ?_
                    refine SV.opN rfl rfl rfl (gle rfl) rfl rfl rfl (gle rfl) ?_
                    refine SV.opN rfl rfl rfl (gle rfl) rfl rfl rfl (gle rfl) ?_
                    refine SV.opN rfl rfl rfl (gle rfl) rfl rfl rfl (gle rfl) ?_
                    refine SV.opN rfl rfl rfl (gle rfl) rfl rfl rfl (gle rfl) ?_
                    refine SV.opN rfl rfl rfl (gle rfl) rfl rfl rfl (gle rfl) ?_
                    refine SV.opN rfl rfl rfl (gle rfl) rfl rfl rfl (gle rfl) ?_
                    refine SV.opN rfl rfl rfl (gle rfl) rfl rfl rfl (gle rfl) ?_
                    refine SV.op (OpL.ok (nb := 1) (ok_pickT (v := V.one (.sc _)) rfl rfl rfl) rfl (gle rfl)) rfl ?_
                    refine SV.nil ?_
                    refine SV.tn ?_
                    refine SV.cond rfl (fun hc9 => ?_) (fun hc9 => ?_)
                    · skip   -- c9.T
                      have hno : SorterD.ok s = false := by
                        rw [hok2]
                        unfold SorterD.okRest
                        rw [decide_eq_false (fun hh => by simp at hg11; exact hg11 hh.1), Bool.false_and]
                      refine SV.seq' ?_
                      refine SV.region ?_
                      refine SV.op (OpL.ok (nb := 1) (ok_move (v := V.one (.sc _)) (.inr rfl) rfl) rfl (gle rfl)) rfl ?_
                      refine SV.nil ?_
                      refine SV.tn ?_
                      refine SV.ret ?_
                      refine SV.tr ?_
                      apply SV.done (hf := Try.results27) (ht := rfl) (he := .inl rfl)
                      case hr => exact (ResAll.cons (ResOk.tmp (ag := false) (xs := [.sc _]) rfl) ResAll.nil')
                      case h2 => simp [two]
                      refine ⟨rfl, ⟨?_, trivial⟩, trivial⟩ <;> (show some (T.lit (Value.bool _)) = some (T.lit (Value.bool _)); refine congrArg (fun z => some (T.lit (Value.bool z))) ?_; first | (rw [hno]; done) | (rw [hno]; simp; done) | (rw [hno, Bool.eq_iff_iff]; simp; done) | (rw [hno]; rfl))
                    · skip   -- c9.F
                      cases hc9
                  · skip   -- g11.F
                    refine SV.opY (OpL.ok (nb := 1) (ok_field_bp (b := 0) (o' := 0) (off := 2) rfl rfl fld_impl_Sorter_2) rfl (gle rfl)) rfl rfl rfl (gle rfl) rfl rfl ?_
                    refine SV.opY (OpL.ok (nb := 1) (ok_load_bp (b := 0) (i := 2) (ag := false) (m := 1) (ys := [.ro _]) rfl rfl rfl agg_s_impl_Row sz_s_impl_Row (fun _ => rfl) rfl rfl (gle rfl)) rfl (gle rfl)) rfl rfl rfl (gle rfl) rfl rfl ?_
                    refine SV.opY (OpL.ok (nb := 1) (ok_len (lf := .ro _) rfl elt_impl_Row.und rfl rfl) rfl (gle rfl)) rfl rfl rfl (gle rfl) rfl rfl ?_
                    refine SV.opY (OpL.ok (nb := 1) (ok_field_bp (b := 0) (o' := 0) (off := 3) rfl rfl fld_impl_Sorter_3) rfl (gle rfl)) rfl rfl rfl (gle rfl) rfl rfl ?_
                    refine SV.opY (OpL.ok (nb := 1) (ok_load_bp (b := 0) (i := 3) (ag := false) (m := 1) (ys := [.ro _]) rfl rfl rfl agg_s_impl_Row sz_s_impl_Row (fun _ => rfl) rfl rfl (gle rfl)) rfl (gle rfl)) rfl rfl rfl (gle rfl) rfl rfl ?_
                    refine SV.opY (OpL.ok (nb := 1) (ok_len (lf := .ro _) rfl elt_impl_Row.und rfl rfl) rfl (gle rfl)) rfl rfl rfl (gle rfl) rfl rfl ?_
                    refine SV.opY (OpL.ok (nb := 1) (ok_s2 (v := .int .i64 ((s.fHeap.length : Int) + (s.fDeferred.length : Int))) (x := .tmp 120) (x' := .tmp 123) (VScal.one rfl) (VScal.one rfl) (fun ρ h1 h2 w => by go_simp; (try simp only [List.length_map]); rw [IntWalk.i64_left, IntWalk.wrap64_in _ ⟨by omega, by omega⟩]) rfl) rfl (gle rfl)) rfl rfl rfl (gle rfl) rfl rfl ?_
                    refine SV.opY (OpL.ok (nb := 1) (ok_s2 (x := .tmp 124) (x' := .const ((Value.int IntKind.i64 0))) (VScal.one rfl) (VScal.one rfl) (fun ρ h1 h2 w => by go_simp; (try go_bits); with_reducible rfl) rfl) rfl (gle rfl)) rfl rfl rfl (gle rfl) rfl rfl ?_
                    refine SV.op (OpL.ok (nb := 1) (ok_pickF (v := V.one (.sc _)) rfl rfl rfl) rfl (gle rfl)) rfl ?_
                    refine SV.nil ?_
                    refine SV.tn ?_
                    refine SV.cond rfl (fun hc10 => ?_) (fun hc10 => ?_)
                    · skip   -- c10.T
                      have hno : SorterD.ok s = false := by
                        rw [hok2]
                        unfold SorterD.okRest
                        rw [decide_eq_false (fun hh => by simp at hc10; omega), Bool.false_and]
                      refine SV.seq' ?_
                      refine SV.region ?_
                      refine SV.op (OpL.ok (nb := 1) (ok_move (v := V.one (.sc _)) (.inr rfl) rfl) rfl (gle rfl)) rfl ?_
                      refine SV.nil ?_
                      refine SV.tn ?_
                      refine SV.ret ?_
                      refine SV.tr ?_
                      apply SV.done (hf := Try.results27) (ht := rfl) (he := .inl rfl)
                      case hr => exact (ResAll.cons (ResOk.tmp (ag := false) (xs := [.sc _]) rfl) ResAll.nil')
                      case h2 => simp [two]
                      refine ⟨rfl, ⟨?_, trivial⟩, trivial⟩ <;> (show some (T.lit (Value.bool _)) = some (T.lit (Value.bool _)); refine congrArg (fun z => some (T.lit (Value.bool z))) ?_; first | (rw [hno]; done) | (rw [hno]; simp; done) | (rw [hno, Bool.eq_iff_iff]; simp; done) | (rw [hno]; rfl))
                    · skip   -- c10.F
                      have hrest : SorterD.okRest s = true := by
                        unfold SorterD.okRest
                        rw [decide_eq_true_eq]
                        exact ⟨by simpa using hg11, by simp at hc10; omega⟩
                      have hok3 : SorterD.ok s = if s.fPhase = 2 then SorterD.okMerge s else SorterD.okEnd s := by rw [hok2, hrest]; rfl
                      refine SV.skip ?_
                      refine SV.tn ?_
                      refine SV.seq' ?_
                      refine SV.seq' ?_
                      refine SV.forget (L := [(1, V.one (.bp 0 0)), (2, V.one (.sc _))]) (B := [(27, [.ro _, .sc _, .ro _, .ro _, .ro _, .ro _, .sc _, .sc _, .sc _, .sc _])]) (O := []) (n := 0) ⟨rfl, rfl, trivial⟩ rfl trivial rfl ?_
                      refine SV.region ?_
                      refine SV.op (OpL.ok (nb := 1) (ok_field_bp (b := 0) (o' := 0) (off := 8) rfl rfl fld_impl_Sorter_8) rfl (gle rfl)) rfl ?_
                      refine SV.op (OpL.ok (nb := 1) (ok_load_bp (b := 0) (i := 8) (ag := false) (m := 1) (ys := [.sc _]) rfl rfl rfl agg_int sz_int (fun _ => rfl) rfl rfl (gle rfl)) rfl (gle rfl)) rfl ?_
                      refine SV.op (OpL.ok (nb := 1) (ok_s2 (x := .tmp 128) (x' := .const ((Value.int IntKind.i64 2))) (VScal.one rfl) (VScal.one rfl) (fun ρ h1 h2 w => by go_simp; (try go_bits); with_reducible rfl) rfl) rfl (gle rfl)) rfl ?_
                      refine SV.nil ?_
                      refine SV.tn ?_
                      refine SV.cond rfl (fun hc11 => ?_) (fun hc11 => ?_)
                      · skip   -- c11.T
                        have hp2 : s.fPhase = 2 := by simpa using hc11
                        have hok4 : SorterD.ok s = SorterD.okMerge s := hok3.trans (if_pos hp2)
                        refine SV.seq' ?_
                        refine SV.seq' ?_
                        refine SV.forget (L := [(1, V.one (.bp 0 0)), (2, V.one (.sc _))]) (B := [(27, [.ro _, .sc _, .ro _, .ro _, .ro _, .ro _, .sc _, .sc _, .sc _, .sc _])]) (O := []) (n := 0) ⟨rfl, rfl, trivial⟩ rfl trivial rfl ?_
                        refine SV.draw [.q 0, .q 1, .q 2, .q 3, .q 4, .q 5, .q 6, .q 7, .q 8, .q 9, .q 10, .q 11, .q 12, .m 13, .q 14, .q 15, .q 16, .q 17, .q 18, .q 19, .q 20, .q 21, .q 22, .q 23, .q 24, .m 25, .q 26, .q 27] [] (by kernel_rfl) (by kernel_rfl) ?_
                        refine DW.q rfl (ok_field_bp (b := 0) (o' := 0) (off := 5) rfl rfl fld_impl_Sorter_5) rfl rfl (gle rfl) (fun _ _ _ _ h => h) ?_
                        refine DW.q rfl (ok_load_bp (b := 0) (i := 5) (ag := false) (m := 1) (ys := [.ro _]) rfl rfl rfl agg_s_impl_Run sz_s_impl_Run (fun _ => rfl) rfl rfl (gle rfl)) rfl rfl (gle rfl) (fun _ _ _ _ h => h) ?_
                        refine DW.q rfl (ok_len (lf := .ro _) rfl elt_impl_Run.und rfl rfl) rfl rfl (gle rfl) (fun _ _ _ _ h => h) ?_
                        refine DW.q rfl (ok_s2 (x := .tmp 132) (x' := .const ((Value.int IntKind.i64 2))) (VScal.one rfl) (VScal.one rfl) (fun ρ h1 h2 w => by go_simp; (try go_bits); with_reducible rfl) rfl) rfl rfl (gle rfl) (fun _ _ _ _ h => h) ?_
                        refine DW.q rfl (ok_move (v := V.one (.sc _)) (.inl rfl) rfl) rfl rfl (gle rfl) (fun _ _ _ _ h => h) ?_
                        refine DW.split (d := 134) rfl (fun hg12 => ?_) (fun hg12 => ?_)
                        · skip   -- g12.T
                          refine DW.qN (V' := V.one .dead) rfl rfl rfl rfl (gle rfl) rfl rfl rfl (gle rfl) (fun _ _ _ _ h => h) ?_
                          refine DW.qN (V' := V.one .dead) rfl rfl rfl rfl (gle rfl) rfl rfl rfl (gle rfl) (fun _ _ _ _ h => h) ?_
                          refine DW.qN (V' := V.one .dead) rfl rfl rfl rfl (gle rfl) rfl rfl rfl (gle rfl) (fun _ _ _ _ h => h) ?_
                          refine DW.qN (V' := V.one .dead) rfl rfl rfl rfl (gle rfl) rfl rfl rfl (gle rfl) (fun _ _ _ _ h => h) ?_
                          refine DW.qN (V' := V.one .dead) rfl rfl rfl rfl (gle rfl) rfl rfl rfl (gle rfl) (fun _ _ _ _ h => h) ?_
                          refine DW.qN (V' := V.one .dead) rfl rfl rfl rfl (gle rfl) rfl rfl rfl (gle rfl) (fun _ _ _ _ h => h) ?_
                          refine DW.qN (V' := V.one .dead) rfl rfl rfl rfl (gle rfl) rfl rfl rfl (gle rfl) (fun _ _ _ _ h => h) ?_
                          refine DW.qN (V' := V.one .dead) rfl rfl rfl rfl (gle rfl) rfl rfl rfl (gle rfl) (fun _ _ _ _ h => h) ?_
                          refine DW.mN rfl rfl rfl rfl (gle rfl) rfl rfl rfl (gle rfl) ?_
                          refine DW.qN (V' := V.one .dead) rfl rfl rfl rfl (gle rfl) rfl rfl rfl (gle rfl) (fun _ _ _ _ h => h) ?_
                          refine DW.q rfl (ok_pickT (v := V.one (.sc _)) rfl rfl rfl) rfl rfl (gle rfl) (fun _ _ _ _ h => h) ?_
                          refine DW.q rfl (ok_move (v := V.one (.sc _)) (.inl rfl) rfl) rfl rfl (gle rfl) (fun _ _ _ _ h => h) ?_
                          refine DW.qN (V' := V.one .dead) rfl rfl rfl rfl (gle rfl) rfl rfl rfl (gle rfl) (fun _ _ _ _ h => h) ?_
                          refine DW.qN (V' := V.one .dead) rfl rfl rfl rfl (gle rfl) rfl rfl rfl (gle rfl) (fun _ _ _ _ h => h) ?_
                          refine DW.qN (V' := V.one .dead) rfl rfl rfl rfl (gle rfl) rfl rfl rfl (gle rfl) (fun _ _ _ _ h => h) ?_
                          refine DW.qN (V' := V.one .dead) rfl rfl rfl rfl (gle rfl) rfl rfl rfl (gle rfl) (fun _ _ _ _ h => h) ?_
                          refine DW.qN (V' := V.one .dead) rfl rfl rfl rfl (gle rfl) rfl rfl rfl (gle rfl) (fun _ _ _ _ h => h) ?_
                          refine DW.qN (V' := V.one .dead) rfl rfl rfl rfl (gle rfl) rfl rfl rfl (gle rfl) (fun _ _ _ _ h => h) ?_
                          refine DW.qN (V' := V.one .dead) rfl rfl rfl rfl (gle rfl) rfl rfl rfl (gle rfl) (fun _ _ _ _ h => h) ?_
                          refine DW.qN (V' := V.one .dead) rfl rfl rfl rfl (gle rfl) rfl rfl rfl (gle rfl) (fun _ _ _ _ h => h) ?_
                          refine DW.mN rfl rfl rfl rfl (gle rfl) rfl rfl rfl (gle rfl) ?_
                          refine DW.qN (V' := V.one .dead) rfl rfl rfl rfl (gle rfl) rfl rfl rfl (gle rfl) (fun _ _ _ _ h => h) ?_
                          refine DW.q rfl (ok_pickT (v := V.one (.sc _)) rfl rfl rfl) rfl rfl (gle rfl) (fun _ _ _ _ h => h) ?_
                          refine DW.stores ?_
                          refine SV.zend ?_
                          refine SV.tn ?_
                          refine SV.cond rfl (fun hc12 => ?_) (fun hc12 => ?_)
                          · skip   -- c12.T
                            have hno : SorterD.ok s = false := by
                              rw [hok4]
                              unfold SorterD.okMerge
                              rw [decide_eq_false (fun hh => by have h1 := hh.1; simp at hg12; omega), Bool.false_and]
                            refine SV.seq' ?_
                            refine SV.region ?_
                            refine SV.op (OpL.ok (nb := 1) (ok_move (v := V.one (.sc _)) (.inr rfl) rfl) rfl (gle rfl)) rfl ?_
                            refine SV.nil ?_
                            refine SV.tn ?_
                            refine SV.ret ?_
                            refine SV.tr ?_
                            refine SV.tr ?_
                            apply SV.done (hf := Try.results27) (ht := rfl) (he := .inl rfl)
                            case hr => exact (ResAll.cons (ResOk.tmp (ag := false) (xs := [.sc _]) rfl) ResAll.nil')
                            case h2 => simp [two]
                            refine ⟨rfl, ⟨?_, trivial⟩, trivial⟩ <;> (show some (T.lit (Value.bool _)) = some (T.lit (Value.bool _)); refine congrArg (fun z => some (T.lit (Value.bool z))) ?_; first | (rw [hno]; done) | (rw [hno]; simp; done) | (rw [hno, Bool.eq_iff_iff]; simp; done) | (rw [hno]; rfl))
                          · skip   -- c12.F
                            cases hc12
                        · skip   -- g12.F
                          have h2 : 2 ≤ s.fRuns.length := by simp at hg12; omega
                          obtain ⟨p0, hx0⟩ : ∃ p, s.fRuns[0]? = some p := ⟨_, List.getElem?_eq_getElem (by omega)⟩
                          obtain ⟨p1, hx1⟩ : ∃ p, s.fRuns[1]? = some p := ⟨_, List.getElem?_eq_getElem (by omega)⟩
                          have hf0 : SorterD.fst s = p0 := by unfold SorterD.fst; rw [List.getD_eq_getElem?_getD, hx0]; rfl
                          have hf1 : SorterD.snd s = p1 := by unfold SorterD.snd; rw [List.getD_eq_getElem?_getD, hx1]; rfl
                          have hq0 := hW.run (List.mem_of_getElem? hx0)
                          have hq1 := hW.run (List.mem_of_getElem? hx1)
                          refine DW.qY rfl (ok_field_bp (b := 0) (o' := 0) (off := 6) rfl rfl fld_impl_Sorter_6) rfl rfl rfl (gle rfl) rfl rfl rfl (gle rfl) (fun _ _ _ _ h => h) ?_
                          refine DW.qY rfl (ok_load_bp (b := 0) (i := 6) (ag := false) (m := 1) (ys := [.sc _]) rfl rfl rfl agg_int sz_int (fun _ => rfl) rfl rfl (gle rfl)) rfl rfl rfl (gle rfl) rfl rfl rfl (gle rfl) (fun _ _ _ _ h => h) ?_
                          refine DW.qY rfl (ok_field_bp (b := 0) (o' := 0) (off := 5) rfl rfl fld_impl_Sorter_5) rfl rfl rfl (gle rfl) rfl rfl rfl (gle rfl) (fun _ _ _ _ h => h) ?_
                          refine DW.qY rfl (ok_load_bp (b := 0) (i := 5) (ag := false) (m := 1) (ys := [.ro _]) rfl rfl rfl agg_s_impl_Run sz_s_impl_Run (fun _ => rfl) rfl rfl (gle rfl)) rfl rfl rfl (gle rfl) rfl rfl rfl (gle rfl) (fun _ _ _ _ h => h) ?_
                          refine DW.qY rfl (ok_index (n := 1) (lf := .ro _) rfl elt_impl_Run.und sz_impl_Run rfl rfl rfl (map_at hx0)) rfl rfl rfl (gle rfl) rfl rfl rfl (gle rfl) (fun _ _ _ _ h => h) ?_
                          refine DW.qY rfl (ok_field_el (p := .rp _) (off := 0) rfl rfl rfl fld_impl_Run_0) rfl rfl rfl (gle rfl) rfl rfl rfl (gle rfl) (fun _ _ _ _ h => h) ?_
                          refine DW.qY rfl (ok_load_rp (ag := false) (m := 1) (ys := [.ro _]) rfl rfl agg_s_impl_Row sz_s_impl_Row (fun _ => rfl) (gle rfl) rfl) rfl rfl rfl (gle rfl) rfl rfl rfl (gle rfl) (fun _ _ _ _ h => h) ?_
                          refine DW.qY rfl (ok_len (lf := .ro _) rfl elt_impl_Row.und rfl rfl) rfl rfl rfl (gle rfl) rfl rfl rfl (gle rfl) (fun _ _ _ _ h => h) ?_
                          refine DW.m' [] rfl (ok_call (ls := [(false, [.sc _])]) rfl rfl ⟨_, _, Try.func71, rfl, by decide⟩ (vin_s' s.fLeftPos 0 ((p0.map tRow).length : Int)) ⟨⟨[.sc _], rfl, ⟨rfl, trivial⟩⟩, ⟨[.sc _], rfl, ⟨rfl, trivial⟩⟩, ⟨[.sc _], rfl, ⟨rfl, trivial⟩⟩, trivial⟩ rfl (gle rfl)) (fun hr => wantedY hr rfl rfl rfl (gle rfl) rfl rfl) (gle rfl) (gle rfl) (.inl rfl) (fun j hj => by cases hj) ?_
                          refine DW.qY rfl (ok_s1 (x := .tmp 143) (VScal.one rfl) (fun ρ h1 w => by go_simp; (try go_bits); with_reducible rfl) rfl) rfl rfl rfl (gle rfl) rfl rfl rfl (gle rfl) (fun _ _ _ _ h => h) ?_
                          refine DW.q rfl (ok_pickF (v := V.one (.sc _)) rfl rfl rfl) rfl rfl (gle rfl) (fun _ _ _ _ h => h) ?_
                          refine DW.q rfl (ok_move (v := V.one (.sc _)) (.inl rfl) rfl) rfl rfl (gle rfl) (fun _ _ _ _ h => h) ?_
                          refine DW.split (d := 146) rfl (fun hg13 => ?_) (fun hg13 => ?_)
                          · skip   -- g13.T
                            refine DW.qN (V' := V.one .dead) rfl rfl rfl rfl (gle rfl) rfl rfl rfl (gle rfl) (fun _ _ _ _ h => h) ?_
                            refine DW.qN (V' := V.one .dead) rfl rfl rfl rfl (gle rfl) rfl rfl rfl (gle rfl) (fun _ _ _ _ h => h) ?_
                            refine DW.qN (V' := V.one .dead) rfl rfl rfl rfl (gle rfl) rfl rfl rfl (gle rfl) (fun _ _ _ _ h => h) ?_
                            refine DW.qN (V' := V.one .dead) rfl rfl rfl rfl (gle rfl) rfl rfl rfl (gle rfl) (fun _ _ _ _ h => h) ?_
                            refine DW.qN (V' := V.one .dead) rfl rfl rfl rfl (gle rfl) rfl rfl rfl (gle rfl) (fun _ _ _ _ h => h) ?_
                            refine DW.qN (V' := V.one .dead) rfl rfl rfl rfl (gle rfl) rfl rfl rfl (gle rfl) (fun _ _ _ _ h => h) ?_
                            refine DW.qN (V' := V.one .dead) rfl rfl rfl rfl (gle rfl) rfl rfl rfl (gle rfl) (fun _ _ _ _ h => h) ?_
                            refine DW.qN (V' := V.one .dead) rfl rfl rfl rfl (gle rfl) rfl rfl rfl (gle rfl) (fun _ _ _ _ h => h) ?_
                            refine DW.mN rfl rfl rfl rfl (gle rfl) rfl rfl rfl (gle rfl) ?_
                            refine DW.qN (V' := V.one .dead) rfl rfl rfl rfl (gle rfl) rfl rfl rfl (gle rfl) (fun _ _ _ _ h => h) ?_
                            refine DW.q rfl (ok_pickT (v := V.one (.sc _)) rfl rfl rfl) rfl rfl (gle rfl) (fun _ _ _ _ h => h) ?_
                            refine DW.stores ?_
                            refine SV.zend ?_
                            refine SV.tn ?_
                            refine SV.cond rfl (fun hc13 => ?_) (fun hc13 => ?_)
                            · skip   -- c13.T
                              have hno : SorterD.ok s = false := by
                                rw [hok4]
                                unfold SorterD.okMerge
                                rw [decide_eq_false (fun hh => by have h1 := hh.2.1; rw [hf0] at h1; simp at hg13; omega), Bool.false_and]
                              refine SV.seq' ?_
                              refine SV.region ?_
                              refine SV.op (OpL.ok (nb := 1) (ok_move (v := V.one (.sc _)) (.inr rfl) rfl) rfl (gle rfl)) rfl ?_
                              refine SV.nil ?_
                              refine SV.tn ?_
                              refine SV.ret ?_
                              refine SV.tr ?_
                              refine SV.tr ?_
                              apply SV.done (hf := Try.results27) (ht := rfl) (he := .inl rfl)
                              case hr => exact (ResAll.cons (ResOk.tmp (ag := false) (xs := [.sc _]) rfl) ResAll.nil')
                              case h2 => simp [two]
                              refine ⟨rfl, ⟨?_, trivial⟩, trivial⟩ <;> (show some (T.lit (Value.bool _)) = some (T.lit (Value.bool _)); refine congrArg (fun z => some (T.lit (Value.bool z))) ?_; first | (rw [hno]; done) | (rw [hno]; simp; done) | (rw [hno, Bool.eq_iff_iff]; simp; done) | (rw [hno]; rfl))
                            · skip   -- c13.F
                              cases hc13
                          · skip   -- g13.F
                            have hle : 0 ≤ s.fLeftPos ∧ s.fLeftPos ≤ p0.length := by simpa using hg13
                            refine DW.qY rfl (ok_field_bp (b := 0) (o' := 0) (off := 7) rfl rfl fld_impl_Sorter_7) rfl rfl rfl (gle rfl) rfl rfl rfl (gle rfl) (fun _ _ _ _ h => h) ?_
                            refine DW.qY rfl (ok_load_bp (b := 0) (i := 7) (ag := false) (m := 1) (ys := [.sc _]) rfl rfl rfl agg_int sz_int (fun _ => rfl) rfl rfl (gle rfl)) rfl rfl rfl (gle rfl) rfl rfl rfl (gle rfl) (fun _ _ _ _ h => h) ?_
                            refine DW.qY rfl (ok_field_bp (b := 0) (o' := 0) (off := 5) rfl rfl fld_impl_Sorter_5) rfl rfl rfl (gle rfl) rfl rfl rfl (gle rfl) (fun _ _ _ _ h => h) ?_
                            refine DW.qY rfl (ok_load_bp (b := 0) (i := 5) (ag := false) (m := 1) (ys := [.ro _]) rfl rfl rfl agg_s_impl_Run sz_s_impl_Run (fun _ => rfl) rfl rfl (gle rfl)) rfl rfl rfl (gle rfl) rfl rfl rfl (gle rfl) (fun _ _ _ _ h => h) ?_
                            refine DW.qY rfl (ok_index (n := 1) (lf := .ro _) rfl elt_impl_Run.und sz_impl_Run rfl rfl rfl (map_at hx1)) rfl rfl rfl (gle rfl) rfl rfl rfl (gle rfl) (fun _ _ _ _ h => h) ?_
                            refine DW.qY rfl (ok_field_el (p := .rp _) (off := 0) rfl rfl rfl fld_impl_Run_0) rfl rfl rfl (gle rfl) rfl rfl rfl (gle rfl) (fun _ _ _ _ h => h) ?_
                            refine DW.qY rfl (ok_load_rp (ag := false) (m := 1) (ys := [.ro _]) rfl rfl agg_s_impl_Row sz_s_impl_Row (fun _ => rfl) (gle rfl) rfl) rfl rfl rfl (gle rfl) rfl rfl rfl (gle rfl) (fun _ _ _ _ h => h) ?_
                            refine DW.qY rfl (ok_len (lf := .ro _) rfl elt_impl_Row.und rfl rfl) rfl rfl rfl (gle rfl) rfl rfl rfl (gle rfl) (fun _ _ _ _ h => h) ?_
                            refine DW.m' [] rfl (ok_call (ls := [(false, [.sc _])]) rfl rfl ⟨_, _, Try.func71, rfl, by decide⟩ (vin_s' s.fRightPos 0 ((p1.map tRow).length : Int)) ⟨⟨[.sc _], rfl, ⟨rfl, trivial⟩⟩, ⟨[.sc _], rfl, ⟨rfl, trivial⟩⟩, ⟨[.sc _], rfl, ⟨rfl, trivial⟩⟩, trivial⟩ rfl (gle rfl)) (fun hr => wantedY hr rfl rfl rfl (gle rfl) rfl rfl) (gle rfl) (gle rfl) (.inl rfl) (fun j hj => by cases hj) ?_
                            refine DW.qY rfl (ok_s1 (x := .tmp 155) (VScal.one rfl) (fun ρ h1 w => by go_simp; (try go_bits); with_reducible rfl) rfl) rfl rfl rfl (gle rfl) rfl rfl rfl (gle rfl) (fun _ _ _ _ h => h) ?_
                            refine DW.q rfl (ok_pickF (v := V.one (.sc _)) rfl rfl rfl) rfl rfl (gle rfl) (fun _ _ _ _ h => h) ?_
                            refine DW.stores ?_
                            refine SV.zend ?_
                            refine SV.tn ?_
                            refine SV.cond rfl (fun hc14 => ?_) (fun hc14 => ?_)
                            · skip   -- c14.T
                              have hno : SorterD.ok s = false := by
                                rw [hok4]
                                unfold SorterD.okMerge
                                rw [decide_eq_false (fun hh => by have h1 := hh.2.2; rw [hf1] at h1; simp at hc14; omega), Bool.false_and]
                              refine SV.seq' ?_
                              refine SV.region ?_
                              refine SV.op (OpL.ok (nb := 1) (ok_move (v := V.one (.sc _)) (.inr rfl) rfl) rfl (gle rfl)) rfl ?_
                              refine SV.nil ?_
                              refine SV.tn ?_
                              refine SV.ret ?_
                              refine SV.tr ?_
                              refine SV.tr ?_
                              apply SV.done (hf := Try.results27) (ht := rfl) (he := .inl rfl)
                              case hr => exact (ResAll.cons (ResOk.tmp (ag := false) (xs := [.sc _]) rfl) ResAll.nil')
                              case h2 => simp [two]
                              refine ⟨rfl, ⟨?_, trivial⟩, trivial⟩ <;> (show some (T.lit (Value.bool _)) = some (T.lit (Value.bool _)); refine congrArg (fun z => some (T.lit (Value.bool z))) ?_; first | (rw [hno]; done) | (rw [hno]; simp; done) | (rw [hno, Bool.eq_iff_iff]; simp; done) | (rw [hno]; rfl))
                            · skip   -- c14.F
                              have hri : 0 ≤ s.fRightPos ∧ s.fRightPos ≤ p1.length := by simpa using hc14
                              obtain ⟨a, ha⟩ : ∃ a : Nat, s.fLeftPos = a := ⟨_, (Int.toNat_of_nonneg hle.1).symm⟩
                              obtain ⟨b, hb⟩ : ∃ b : Nat, s.fRightPos = b := ⟨_, (Int.toNat_of_nonneg hri.1).symm⟩
                              have hms := vms_s (p0.take a) (p1.take b) (by rw [List.length_take, List.length_take]; omega)
                              rw [List.map_take, List.map_take] at hms
                              have hwm : ∀ r ∈ Runs.merge2 (p0.take a) (p1.take b), r.wf := fun r hr => by
                                rcases List.mem_append.1 ((Runs.merge2_perm _ _).mem_iff.1 hr) with h | h
                                · exact hW.runs p0 (List.mem_of_getElem? hx0) r (List.mem_of_mem_take h)
                                · exact hW.runs p1 (List.mem_of_getElem? hx1) r (List.mem_of_mem_take h)
                              have hwn : ∀ r ∈ (Runs.merge2 p0 p1).take (a + b), r.wf := fun r hr => by
                                rcases List.mem_append.1 ((Runs.merge2_perm _ _).mem_iff.1 (List.mem_of_mem_take hr)) with h | h
                                · exact hW.runs p0 (List.mem_of_getElem? hx0) r h
                                · exact hW.runs p1 (List.mem_of_getElem? hx1) r h
                              have hml := Runs.merge2_length p0 p1
                              have hl1 := vl6_t s.fOutput ((Runs.merge2 p0 p1).take (a + b)) hW.out hwn (by omega) (by rw [List.length_take]; omega)
                              rw [List.map_take] at hl1
                              have hbd : decide (2 ≤ s.fRuns.length ∧ (0 ≤ s.fLeftPos ∧ s.fLeftPos ≤ (SorterD.fst s).length) ∧ 0 ≤ s.fRightPos ∧ s.fRightPos ≤ (SorterD.snd s).length) = true := decide_eq_true (by rw [hf0, hf1]; exact ⟨h2, hle, hri⟩)
                              have hmm : SorterD.okMerge s = (decide (s.fOutput = (Runs.merge2 p0 p1).take (a + b)) && (decide (Runs.merge2 (p0.take a) (p1.take b) = s.fOutput) && R.eqBags s.fRuns.flatten s.fInput)) := by
                                unfold SorterD.okMerge
                                rw [hbd, hf0, hf1, ha, hb]
                                rfl
                              refine SV.skip ?_
                              refine SV.tn ?_
                              refine SV.seq' ?_
                              refine SV.forget (L := [(1, V.one (.bp 0 0)), (2, V.one (.sc _))]) (B := [(27, [.ro _, .sc _, .ro _, .ro _, .ro _, .ro _, .sc _, .sc _, .sc _, .sc _])]) (O := []) (n := 0) ⟨rfl, rfl, trivial⟩ rfl trivial rfl ?_
                              refine SV.tell (fun (σ : VS) => (((VS.nil.box 27 [σ.bl 0 0, σ.bl 0 1, σ.bl 0 2, σ.bl 0 3, σ.bl 0 4, σ.bl 0 5, .sc (.int .i64 ((a : Int))), .sc (.int .i64 ((b : Int))), σ.bl 0 8, σ.bl 0 9]).put 1 (V.flat false [.bp 0 0])).put 2 (σ.tm 2))) ?h ?k
                              case k =>
                                intro hjn
                                refine (fun pp le => SV.weaken (fun i => [].getD i 0) pp le hjn) (pins hE rfl rfl) (VS.le.mk' (le_put (le_put (le_box le_nil) (V.le.keep (ag := false) (xs := [.bp 0 0]) (ys := [.bp 0 0]) rfl rfl ⟨⟨rfl, (gle rfl)⟩, trivial⟩)) (V.le.keep (ag := false) (xs := [.sc _]) (ys := [.sc _]) rfl rfl ⟨rfl, trivial⟩)) ⟨⟨rfl, ⟨rfl, rfl, rfl, rfl, rfl, rfl, (by first | rfl | (show Leaf.sc _ = Leaf.sc _; refine congrArg Leaf.sc ?_; first | rfl | go_num | ((first | exact congrArg _ ha | exact congrArg _ hb); first | done | rfl | go_num | (simp; done) | (simp; omega)) | (simp [cntAll]; done)) | (simp [cntAll]; done) | (simp; omega)), (by first | rfl | (show Leaf.sc _ = Leaf.sc _; refine congrArg Leaf.sc ?_; first | rfl | go_num | ((first | exact congrArg _ ha | exact congrArg _ hb); first | done | rfl | go_num | (simp; done) | (simp; omega)) | (simp [cntAll]; done)) | (simp [cntAll]; done) | (simp; omega)), rfl, rfl, trivial⟩⟩, trivial⟩ trivial nil_ob (fun i j hi hj e => absurd hi (Nat.not_lt_zero i)))
                              case h =>
                              refine SV.draw [.q 0, .q 1, .q 2, .q 3, .q 4, .q 5, .q 6, .q 7, .q 8, .q 9, .q 10, .q 11, .q 12, .q 13, .q 14, .q 15, .m 16, .q 17] [] (by kernel_rfl) (by kernel_rfl) ?_
                              refine DW.q rfl (ok_field_bp (b := 0) (o' := 0) (off := 5) rfl rfl fld_impl_Sorter_5) rfl rfl (gle rfl) (fun _ _ _ _ h => h) ?_
                              refine DW.q rfl (ok_load_bp (b := 0) (i := 5) (ag := false) (m := 1) (ys := [.ro _]) rfl rfl rfl agg_s_impl_Run sz_s_impl_Run (fun _ => rfl) rfl rfl (gle rfl)) rfl rfl (gle rfl) (fun _ _ _ _ h => h) ?_
                              refine DW.q rfl (ok_index (n := 1) (lf := .ro _) rfl elt_impl_Run.und sz_impl_Run rfl rfl rfl (map_at hx0)) rfl rfl (gle rfl) (fun _ _ _ _ h => h) ?_
                              refine DW.q rfl (ok_field_el (p := .rp _) (off := 0) rfl rfl rfl fld_impl_Run_0) rfl rfl (gle rfl) (fun _ _ _ _ h => h) ?_
                              refine DW.q rfl (ok_load_rp (ag := false) (m := 1) (ys := [.ro _]) rfl rfl agg_s_impl_Row sz_s_impl_Row (fun _ => rfl) (gle rfl) rfl) rfl rfl (gle rfl) (fun _ _ _ _ h => h) ?_
                              refine DW.q rfl (ok_field_bp (b := 0) (o' := 0) (off := 6) rfl rfl fld_impl_Sorter_6) rfl rfl (gle rfl) (fun _ _ _ _ h => h) ?_
                              refine DW.q rfl (ok_load_bp (b := 0) (i := 6) (ag := false) (m := 1) (ys := [.sc _]) rfl rfl rfl agg_int sz_int (fun _ => rfl) rfl rfl (gle rfl)) rfl rfl (gle rfl) (fun _ _ _ _ h => h) ?_
                              refine DW.q rfl (ok_slice (l := 0) (h := a) (lf := .ro _) (yy := .ro _) rfl rfl elt_impl_Row.und sz_impl_Row rfl rfl rfl ⟨_, rfl⟩ (Nat.zero_le _) (by simp only [List.length_map]; omega)) rfl rfl (gle rfl) (fun _ _ _ _ h => h) ?_
                              refine DW.q rfl (ok_field_bp (b := 0) (o' := 0) (off := 5) rfl rfl fld_impl_Sorter_5) rfl rfl (gle rfl) (fun _ _ _ _ h => h) ?_
                              refine DW.q rfl (ok_load_bp (b := 0) (i := 5) (ag := false) (m := 1) (ys := [.ro _]) rfl rfl rfl agg_s_impl_Run sz_s_impl_Run (fun _ => rfl) rfl rfl (gle rfl)) rfl rfl (gle rfl) (fun _ _ _ _ h => h) ?_
                              refine DW.q rfl (ok_index (n := 1) (lf := .ro _) rfl elt_impl_Run.und sz_impl_Run rfl rfl rfl (map_at hx1)) rfl rfl (gle rfl) (fun _ _ _ _ h => h) ?_
                              refine DW.q rfl (ok_field_el (p := .rp _) (off := 0) rfl rfl rfl fld_impl_Run_0) rfl rfl (gle rfl) (fun _ _ _ _ h => h) ?_
                              refine DW.q rfl (ok_load_rp (ag := false) (m := 1) (ys := [.ro _]) rfl rfl agg_s_impl_Row sz_s_impl_Row (fun _ => rfl) (gle rfl) rfl) rfl rfl (gle rfl) (fun _ _ _ _ h => h) ?_
                              refine DW.q rfl (ok_field_bp (b := 0) (o' := 0) (off := 7) rfl rfl fld_impl_Sorter_7) rfl rfl (gle rfl) (fun _ _ _ _ h => h) ?_
                              refine DW.q rfl (ok_load_bp (b := 0) (i := 7) (ag := false) (m := 1) (ys := [.sc _]) rfl rfl rfl agg_int sz_int (fun _ => rfl) rfl rfl (gle rfl)) rfl rfl (gle rfl) (fun _ _ _ _ h => h) ?_
                              refine DW.q rfl (ok_slice (l := 0) (h := b) (lf := .ro _) (yy := .ro _) rfl rfl elt_impl_Row.und sz_impl_Row rfl rfl rfl ⟨_, rfl⟩ (Nat.zero_le _) (by simp only [List.length_map]; omega)) rfl rfl (gle rfl) (fun _ _ _ _ h => h) ?_
                              refine DW.m [0] rfl (ok_call (ls := [(false, [.hd 0])]) rfl rfl ⟨_, _, Try.func39, rfl, by decide⟩ (hms) ⟨⟨[.ro _], rfl, ⟨rfl, trivial⟩⟩, ⟨[.ro _], rfl, ⟨rfl, trivial⟩⟩, trivial⟩ rfl (gle rfl)) rfl (gle rfl) (gle rfl) (.inl rfl) (fun j hj => by
                                  simp only [List.mem_cons, List.not_mem_nil, or_false] at hj
                                  rcases hj with rfl
                                  · exact .inr ⟨(gle rfl), (gle rfl), .inl rfl⟩) ?_
                              refine DW.q rfl (ok_move (v := V.one (.hd 0)) (.inr rfl) rfl) rfl rfl (gle rfl) (fun _ _ _ _ h => h) ?_
                              refine DW.stores ?_
                              refine SV.zend ?_
                              refine SV.tn ?_
                              refine SV.seq' ?_
                              refine SV.forget (L := [(1, V.one (.bp 0 0)), (2, V.one (.sc _)), (6, V.one (.hd 0))]) (B := [(27, [.ro _, .sc _, .ro _, .ro _, .ro _, .ro _, .sc _, .sc _, .sc _, .sc _])]) (O := [(0, _, _)]) (n := 1) ⟨rfl, rfl, rfl, trivial⟩ rfl ⟨rfl, trivial⟩ rfl ?_
                              refine SV.draw [.q 0, .q 1, .q 2, .q 3, .q 4, .q 5, .q 6, .q 7, .q 8, .q 9, .q 10, .q 11, .q 13, .q 14, .q 15, .q 16, .q 17, .m 12, .q 18, .m 19, .q 20, .q 21, .q 22, .q 23, .m 24, .q 25, .q 26, .q 27, .q 28, .q 30, .q 31, .m 29, .m 32, .q 33, .q 34] [] (by kernel_rfl) (by kernel_rfl) ?_
                              refine DW.q rfl (ok_field_bp (b := 0) (o' := 0) (off := 4) rfl rfl fld_impl_Sorter_4) rfl rfl (gle rfl) (fun _ _ _ _ h => h) ?_
                              refine DW.q rfl (ok_load_bp (b := 0) (i := 4) (ag := false) (m := 1) (ys := [.ro _]) rfl rfl rfl agg_s_impl_Row sz_s_impl_Row (fun _ => rfl) rfl rfl (gle rfl)) rfl rfl (gle rfl) (fun _ _ _ _ h => h) ?_
                              refine DW.q rfl (ok_field_bp (b := 0) (o' := 0) (off := 5) rfl rfl fld_impl_Sorter_5) rfl rfl (gle rfl) (fun _ _ _ _ h => h) ?_
                              refine DW.q rfl (ok_load_bp (b := 0) (i := 5) (ag := false) (m := 1) (ys := [.ro _]) rfl rfl rfl agg_s_impl_Run sz_s_impl_Run (fun _ => rfl) rfl rfl (gle rfl)) rfl rfl (gle rfl) (fun _ _ _ _ h => h) ?_
                              refine DW.q rfl (ok_index (n := 1) (lf := .ro _) rfl elt_impl_Run.und sz_impl_Run rfl rfl rfl (map_at hx0)) rfl rfl (gle rfl) (fun _ _ _ _ h => h) ?_
                              refine DW.q rfl (ok_field_el (p := .rp _) (off := 0) rfl rfl rfl fld_impl_Run_0) rfl rfl (gle rfl) (fun _ _ _ _ h => h) ?_
                              refine DW.q rfl (ok_load_rp (ag := false) (m := 1) (ys := [.ro _]) rfl rfl agg_s_impl_Row sz_s_impl_Row (fun _ => rfl) (gle rfl) rfl) rfl rfl (gle rfl) (fun _ _ _ _ h => h) ?_
                              refine DW.q rfl (ok_field_bp (b := 0) (o' := 0) (off := 5) rfl rfl fld_impl_Sorter_5) rfl rfl (gle rfl) (fun _ _ _ _ h => h) ?_
                              refine DW.q rfl (ok_load_bp (b := 0) (i := 5) (ag := false) (m := 1) (ys := [.ro _]) rfl rfl rfl agg_s_impl_Run sz_s_impl_Run (fun _ => rfl) rfl rfl (gle rfl)) rfl rfl (gle rfl) (fun _ _ _ _ h => h) ?_
                              refine DW.q rfl (ok_index (n := 1) (lf := .ro _) rfl elt_impl_Run.und sz_impl_Run rfl rfl rfl (map_at hx1)) rfl rfl (gle rfl) (fun _ _ _ _ h => h) ?_
                              refine DW.q rfl (ok_field_el (p := .rp _) (off := 0) rfl rfl rfl fld_impl_Run_0) rfl rfl (gle rfl) (fun _ _ _ _ h => h) ?_
                              refine DW.q rfl (ok_load_rp (ag := false) (m := 1) (ys := [.ro _]) rfl rfl agg_s_impl_Row sz_s_impl_Row (fun _ => rfl) (gle rfl) rfl) rfl rfl (gle rfl) (fun _ _ _ _ h => h) ?_
                              refine DW.q rfl (ok_field_bp (b := 0) (o' := 0) (off := 6) rfl rfl fld_impl_Sorter_6) rfl rfl (gle rfl) (fun _ _ _ _ h => h) ?_
                              refine DW.q rfl (ok_load_bp (b := 0) (i := 6) (ag := false) (m := 1) (ys := [.sc _]) rfl rfl rfl agg_int sz_int (fun _ => rfl) rfl rfl (gle rfl)) rfl rfl (gle rfl) (fun _ _ _ _ h => h) ?_
                              refine DW.q rfl (ok_field_bp (b := 0) (o' := 0) (off := 7) rfl rfl fld_impl_Sorter_7) rfl rfl (gle rfl) (fun _ _ _ _ h => h) ?_
                              refine DW.q rfl (ok_load_bp (b := 0) (i := 7) (ag := false) (m := 1) (ys := [.sc _]) rfl rfl rfl agg_int sz_int (fun _ => rfl) rfl rfl (gle rfl)) rfl rfl (gle rfl) (fun _ _ _ _ h => h) ?_
                              refine DW.q rfl (ok_s2 (v := .int .i64 ((a + b : Nat) : Int)) (x := .tmp 189) (x' := .tmp 191) (VScal.one rfl) (VScal.one rfl) (fun ρ h1 h2 w => by go_simp; rw [IntWalk.i64_left, IntWalk.wrap64_in _ ⟨by omega, by omega⟩]) rfl) rfl rfl (gle rfl) (fun _ _ _ _ h => h) ?_
                              refine DW.m [1] rfl (ok_call (ls := [(false, [.hd 1])]) rfl rfl ⟨_, _, Try.func39, rfl, by decide⟩ (vms_s p0 p1 (by omega)) ⟨⟨[.ro _], rfl, ⟨rfl, trivial⟩⟩, ⟨[.ro _], rfl, ⟨rfl, trivial⟩⟩, trivial⟩ rfl (gle rfl)) rfl (gle rfl) (gle rfl) (.inl rfl) (fun j hj => by
                                  simp only [List.mem_cons, List.not_mem_nil, or_false] at hj
                                  rcases hj with rfl
                                  · exact .inr ⟨(gle rfl), (gle rfl), .inl rfl⟩) ?_
                              refine DW.q rfl (ok_slice (l := 0) (h := a + b) (lf := .hd 1) (yy := .nd 1 _ _ none) rfl rfl elt_impl_Row.und sz_impl_Row rfl rfl rfl ⟨_, rfl⟩ (Nat.zero_le _) (by simp only [List.length_map]; omega)) rfl rfl (gle rfl) (fun _ _ _ _ h => h) ?_
                              refine DW.m [1] rfl (ok_call (ls := [(false, [.sc _])]) rfl rfl ⟨_, _, Try.func74, rfl, by decide⟩ (hl1) ⟨⟨[.ro _], rfl, ⟨rfl, trivial⟩⟩, ⟨[.nd 1 _ _ none], rfl, ⟨rfl, trivial⟩⟩, trivial⟩ rfl (gle rfl)) rfl (gle rfl) (gle rfl) (.inl rfl) (fun j hj => by
                                  simp only [List.mem_cons, List.not_mem_nil, or_false] at hj
                                  rcases hj with rfl
                                  · exact .inl (by decide)) ?_
                              refine DW.q rfl (ok_move (v := V.one (.sc _)) (.inl rfl) rfl) rfl rfl (gle rfl) (fun _ _ _ _ h => h) ?_
                              refine DW.split (d := 195) rfl (fun hg14 => ?_) (fun hg14 => ?_)
                              · skip   -- g14.T
                                refine DW.qY rfl (ok_move (v := V.one (.hd 0)) (.inl rfl) rfl) rfl rfl rfl (gle rfl) rfl rfl rfl (gle rfl) (fun _ _ _ _ h => h) ?_
                                refine DW.qY rfl (ok_field_bp (b := 0) (o' := 0) (off := 4) rfl rfl fld_impl_Sorter_4) rfl rfl rfl (gle rfl) rfl rfl rfl (gle rfl) (fun _ _ _ _ h => h) ?_
                                refine DW.qY rfl (ok_load_bp (b := 0) (i := 4) (ag := false) (m := 1) (ys := [.ro _]) rfl rfl rfl agg_s_impl_Row sz_s_impl_Row (fun _ => rfl) rfl rfl (gle rfl)) rfl rfl rfl (gle rfl) rfl rfl rfl (gle rfl) (fun _ _ _ _ h => h) ?_
                                refine DW.m' [1] rfl (ok_call (ls := [(false, [.sc _])]) rfl rfl ⟨_, _, Try.func74, rfl, by decide⟩ (vl6_t _ _ hwm hW.out (by rw [Runs.merge2_length, List.length_take, List.length_take]; omega) (by omega)) ⟨⟨[.hd 0], rfl, ⟨rfl, trivial⟩⟩, ⟨[.ro _], rfl, ⟨rfl, trivial⟩⟩, trivial⟩ rfl (gle rfl)) (fun hr => wantedY hr rfl rfl rfl (gle rfl) rfl rfl) (gle rfl) (gle rfl) (.inl rfl) (fun j hj => by
                                    simp only [List.mem_cons, List.not_mem_nil, or_false] at hj
                                    rcases hj with rfl
                                    · exact .inl (by decide)) ?_
                                refine DW.q rfl (ok_pickT (v := V.one (.sc _)) rfl rfl rfl) rfl rfl (gle rfl) (fun _ _ _ _ h => h) ?_
                                refine DW.q rfl (ok_move (v := V.one (.sc _)) (.inl rfl) rfl) rfl rfl (gle rfl) (fun _ _ _ _ h => h) ?_
                                refine DW.split (d := 201) rfl (fun hg15 => ?_) (fun hg15 => ?_)
                                · skip   -- g15.T
                                  have hno : SorterD.ok s = R.eqBags s.fRuns.flatten s.fInput := by rw [hok4, hmm, hg14, hg15]; rfl
                                  refine DW.qY rfl (ok_field_bp (b := 0) (o' := 0) (off := 5) rfl rfl fld_impl_Sorter_5) rfl rfl rfl (gle rfl) rfl rfl rfl (gle rfl) (fun _ _ _ _ h => h) ?_
                                  refine DW.qY rfl (ok_load_bp (b := 0) (i := 5) (ag := false) (m := 1) (ys := [.ro _]) rfl rfl rfl agg_s_impl_Run sz_s_impl_Run (fun _ => rfl) rfl rfl (gle rfl)) rfl rfl rfl (gle rfl) rfl rfl rfl (gle rfl) (fun _ _ _ _ h => h) ?_
                                  refine DW.qY rfl (ok_field_bp (b := 0) (o' := 0) (off := 0) rfl rfl fld_impl_Sorter_0) rfl rfl rfl (gle rfl) rfl rfl rfl (gle rfl) (fun _ _ _ _ h => h) ?_
                                  refine DW.qY rfl (ok_load_bp (b := 0) (i := 0) (ag := false) (m := 1) (ys := [.ro _]) rfl rfl rfl agg_s_impl_Row sz_s_impl_Row (fun _ => rfl) rfl rfl (gle rfl)) rfl rfl rfl (gle rfl) rfl rfl rfl (gle rfl) (fun _ _ _ _ h => h) ?_
                                  refine DW.m' [2, 1] rfl (ok_call (ls := [(false, [.hd 2])]) rfl rfl ⟨_, _, Try.func59, rfl, by decide⟩ (vflat_s s.fRuns (by omega) (by omega)) ⟨⟨[.ro _], rfl, ⟨rfl, trivial⟩⟩, trivial⟩ rfl (gle rfl)) (fun hr => wantedY hr rfl rfl rfl (gle rfl) rfl rfl) (gle rfl) (gle rfl) (.inl rfl) (fun j hj => by
                                      simp only [List.mem_cons, List.not_mem_nil, or_false] at hj
                                      rcases hj with rfl | rfl
                                      · exact .inr ⟨(gle rfl), (gle rfl), .inl rfl⟩
                                      · exact .inl (by decide)) ?_
                                  refine DW.m' [2, 1] rfl (ok_call (ls := [(false, [.sc _])]) rfl rfl ⟨_, _, Try.func53, rfl, by decide⟩ (vbags_t s.fRuns.flatten s.fInput (fun r hr => by obtain ⟨p, hp, hr2⟩ := List.mem_flatten.1 hr; exact hW.runs p hp r hr2) hW.inp (by omega) (by omega)) ⟨⟨[.hd 2], rfl, ⟨rfl, trivial⟩⟩, ⟨[.ro _], rfl, ⟨rfl, trivial⟩⟩, trivial⟩ rfl (gle rfl)) (fun hr => wantedY hr rfl rfl rfl (gle rfl) rfl rfl) (gle rfl) (gle rfl) (.inl rfl) (fun j hj => by
                                      simp only [List.mem_cons, List.not_mem_nil, or_false] at hj
                                      rcases hj with rfl | rfl
                                      · exact .inl (by decide)
                                      · exact .inl (by decide)) ?_
                                  refine DW.q rfl (ok_pickT (v := V.one (.sc _)) rfl rfl rfl) rfl rfl (gle rfl) (fun _ _ _ _ h => h) ?_
                                  refine DW.q rfl (ok_move (v := V.one (.sc _)) (.inr rfl) rfl) rfl rfl (gle rfl) (fun _ _ _ _ h => h) ?_
                                  refine DW.stores ?_
                                  refine SV.zend ?_
                                  refine SV.tn ?_
                                  refine SV.ret ?_
                                  refine SV.tr ?_
                                  apply SV.done (hf := Try.results27) (ht := rfl) (he := .inl rfl)
                                  case hr => exact (ResAll.cons (ResOk.tmp (ag := false) (xs := [.sc _]) rfl) ResAll.nil')
                                  case h2 => simp [two]
                                  refine ⟨rfl, ⟨?_, trivial⟩, trivial⟩ <;> (show some (T.lit (Value.bool _)) = some (T.lit (Value.bool _)); refine congrArg (fun z => some (T.lit (Value.bool z))) ?_; first | (rw [hno]; done) | (rw [hno]; simp; done) | (rw [hno, Bool.eq_iff_iff]; simp; done) | (rw [hno]; rfl))
                                · skip   -- g15.F
                                  have hno : SorterD.ok s = false := by rw [hok4, hmm, hg14, hg15]; rfl
                                  refine DW.qN (V' := V.one .dead) rfl rfl rfl rfl (gle rfl) rfl rfl rfl (gle rfl) (fun _ _ _ _ h => h) ?_
                                  refine DW.qN (V' := V.one .dead) rfl rfl rfl rfl (gle rfl) rfl rfl rfl (gle rfl) (fun _ _ _ _ h => h) ?_
                                  refine DW.qN (V' := V.one .dead) rfl rfl rfl rfl (gle rfl) rfl rfl rfl (gle rfl) (fun _ _ _ _ h => h) ?_
                                  refine DW.qN (V' := V.one .dead) rfl rfl rfl rfl (gle rfl) rfl rfl rfl (gle rfl) (fun _ _ _ _ h => h) ?_
                                  refine DW.mN rfl rfl rfl rfl (gle rfl) rfl rfl rfl (gle rfl) ?_
                                  refine DW.mN rfl rfl rfl rfl (gle rfl) rfl rfl rfl (gle rfl) ?_
                                  refine DW.q rfl (ok_pickF (v := V.one (.sc _)) rfl rfl rfl) rfl rfl (gle rfl) (fun _ _ _ _ h => h) ?_
                                  refine DW.q rfl (ok_move (v := V.one (.sc _)) (.inr rfl) rfl) rfl rfl (gle rfl) (fun _ _ _ _ h => h) ?_
                                  refine DW.stores ?_
                                  refine SV.zend ?_
                                  refine SV.tn ?_
                                  refine SV.ret ?_
                                  refine SV.tr ?_
                                  apply SV.done (hf := Try.results27) (ht := rfl) (he := .inl rfl)
                                  case hr => exact (ResAll.cons (ResOk.tmp (ag := false) (xs := [.sc _]) rfl) ResAll.nil')
                                  case h2 => simp [two]
                                  refine ⟨rfl, ⟨?_, trivial⟩, trivial⟩ <;> (show some (T.lit (Value.bool _)) = some (T.lit (Value.bool _)); refine congrArg (fun z => some (T.lit (Value.bool z))) ?_; first | (rw [hno]; done) | (rw [hno]; simp; done) | (rw [hno, Bool.eq_iff_iff]; simp; done) | (rw [hno]; rfl))
                              · skip   -- g14.F
                                have hno : SorterD.ok s = false := by rw [hok4, hmm, hg14]; rfl
                                refine DW.qN (V' := V.one .dead) rfl rfl rfl rfl (gle rfl) rfl rfl rfl (gle rfl) (fun _ _ _ _ h => h) ?_
                                refine DW.qN (V' := V.one .dead) rfl rfl rfl rfl (gle rfl) rfl rfl rfl (gle rfl) (fun _ _ _ _ h => h) ?_
                                refine DW.qN (V' := V.one .dead) rfl rfl rfl rfl (gle rfl) rfl rfl rfl (gle rfl) (fun _ _ _ _ h => h) ?_
                                refine DW.mN rfl rfl rfl rfl (gle rfl) rfl rfl rfl (gle rfl) ?_
                                refine DW.q rfl (ok_pickF (v := V.one (.sc _)) rfl rfl rfl) rfl rfl (gle rfl) (fun _ _ _ _ h => h) ?_
                                refine DW.q rfl (ok_move (v := V.one (.sc _)) (.inl rfl) rfl) rfl rfl (gle rfl) (fun _ _ _ _ h => h) ?_
                                refine DW.qN (V' := V.one .dead) rfl rfl rfl rfl (gle rfl) rfl rfl rfl (gle rfl) (fun _ _ _ _ h => h) ?_
                                refine DW.qN (V' := V.one .dead) rfl rfl rfl rfl (gle rfl) rfl rfl rfl (gle rfl) (fun _ _ _ _ h => h) ?_
                                refine DW.qN (V' := V.one .dead) rfl rfl rfl rfl (gle rfl) rfl rfl rfl (gle rfl) (fun _ _ _ _ h => h) ?_
                                refine DW.qN (V' := V.one .dead) rfl rfl rfl rfl (gle rfl) rfl rfl rfl (gle rfl) (fun _ _ _ _ h => h) ?_
                                refine DW.mN rfl rfl rfl rfl (gle rfl) rfl rfl rfl (gle rfl) ?_
                                refine DW.mN rfl rfl rfl rfl (gle rfl) rfl rfl rfl (gle rfl) ?_
                                refine DW.q rfl (ok_pickF (v := V.one (.sc _)) rfl rfl rfl) rfl rfl (gle rfl) (fun _ _ _ _ h => h) ?_
                                refine DW.q rfl (ok_move (v := V.one (.sc _)) (.inr rfl) rfl) rfl rfl (gle rfl) (fun _ _ _ _ h => h) ?_
                                refine DW.stores ?_
                                refine SV.zend ?_
                                refine SV.tn ?_
                                refine SV.ret ?_
                                refine SV.tr ?_
                                apply SV.done (hf := Try.results27) (ht := rfl) (he := .inl rfl)
                                case hr => exact (ResAll.cons (ResOk.tmp (ag := false) (xs := [.sc _]) rfl) ResAll.nil')
                                case h2 => simp [two]
                                refine ⟨rfl, ⟨?_, trivial⟩, trivial⟩ <;> (show some (T.lit (Value.bool _)) = some (T.lit (Value.bool _)); refine congrArg (fun z => some (T.lit (Value.bool z))) ?_; first | (rw [hno]; done) | (rw [hno]; simp; done) | (rw [hno, Bool.eq_iff_iff]; simp; done) | (rw [hno]; rfl))
                      · skip   -- c11.F
                        have hp2 : ¬ s.fPhase = 2 := by simpa using hc11
                        have hok5 : SorterD.ok s = SorterD.okEnd s := hok3.trans (if_neg hp2)
                        refine SV.skip ?_
                        refine SV.tn ?_
                        refine SV.seq' ?_
                        refine SV.seq' ?_
                        refine SV.forget (L := [(1, V.one (.bp 0 0)), (2, V.one (.sc _))]) (B := [(27, [.ro _, .sc _, .ro _, .ro _, .ro _, .ro _, .sc _, .sc _, .sc _, .sc _])]) (O := []) (n := 0) ⟨rfl, rfl, trivial⟩ rfl trivial rfl ?_
                        refine SV.draw [.q 0, .q 1, .q 2, .q 3, .q 4, .q 5, .q 6, .q 7, .q 8, .q 9, .q 10, .q 11, .q 12, .q 13, .q 14, .q 15, .q 16, .q 17, .q 19, .q 20, .m 18, .m 21, .q 22, .q 23] [] (by kernel_rfl) (by kernel_rfl) ?_
                        refine DW.q rfl (ok_field_bp (b := 0) (o' := 0) (off := 5) rfl rfl fld_impl_Sorter_5) rfl rfl (gle rfl) (fun _ _ _ _ h => h) ?_
                        refine DW.q rfl (ok_load_bp (b := 0) (i := 5) (ag := false) (m := 1) (ys := [.ro _]) rfl rfl rfl agg_s_impl_Run sz_s_impl_Run (fun _ => rfl) rfl rfl (gle rfl)) rfl rfl (gle rfl) (fun _ _ _ _ h => h) ?_
                        refine DW.q rfl (ok_len (lf := .ro _) rfl elt_impl_Run.und rfl rfl) rfl rfl (gle rfl) (fun _ _ _ _ h => h) ?_
                        refine DW.q rfl (ok_s2 (x := .tmp 211) (x' := .const ((Value.int IntKind.i64 1))) (VScal.one rfl) (VScal.one rfl) (fun ρ h1 h2 w => by go_simp; (try go_bits); with_reducible rfl) rfl) rfl rfl (gle rfl) (fun _ _ _ _ h => h) ?_
                        refine DW.q rfl (ok_move (v := V.one (.sc _)) (.inl rfl) rfl) rfl rfl (gle rfl) (fun _ _ _ _ h => h) ?_
                        refine DW.split (d := 213) rfl (fun hg16 => ?_) (fun hg16 => ?_)
                        · skip   -- g16.T
                          refine DW.qN (V' := V.one .dead) rfl rfl rfl rfl (gle rfl) rfl rfl rfl (gle rfl) (fun _ _ _ _ h => h) ?_
                          refine DW.qN (V' := V.one .dead) rfl rfl rfl rfl (gle rfl) rfl rfl rfl (gle rfl) (fun _ _ _ _ h => h) ?_
                          refine DW.qN (V' := V.one .dead) rfl rfl rfl rfl (gle rfl) rfl rfl rfl (gle rfl) (fun _ _ _ _ h => h) ?_
                          refine DW.q rfl (ok_pickT (v := V.one (.sc _)) rfl rfl rfl) rfl rfl (gle rfl) (fun _ _ _ _ h => h) ?_
                          refine DW.q rfl (ok_move (v := V.one (.sc _)) (.inl rfl) rfl) rfl rfl (gle rfl) (fun _ _ _ _ h => h) ?_
                          refine DW.qN (V' := V.one .dead) rfl rfl rfl rfl (gle rfl) rfl rfl rfl (gle rfl) (fun _ _ _ _ h => h) ?_
                          refine DW.qN (V' := V.one .dead) rfl rfl rfl rfl (gle rfl) rfl rfl rfl (gle rfl) (fun _ _ _ _ h => h) ?_
                          refine DW.qN (V' := V.one .dead) rfl rfl rfl rfl (gle rfl) rfl rfl rfl (gle rfl) (fun _ _ _ _ h => h) ?_
                          refine DW.qN (V' := V.one .dead) rfl rfl rfl rfl (gle rfl) rfl rfl rfl (gle rfl) (fun _ _ _ _ h => h) ?_
                          refine DW.q rfl (ok_pickT (v := V.one (.sc _)) rfl rfl rfl) rfl rfl (gle rfl) (fun _ _ _ _ h => h) ?_
                          refine DW.q rfl (ok_move (v := V.one (.sc _)) (.inl rfl) rfl) rfl rfl (gle rfl) (fun _ _ _ _ h => h) ?_
                          refine DW.qN (V' := V.one .dead) rfl rfl rfl rfl (gle rfl) rfl rfl rfl (gle rfl) (fun _ _ _ _ h => h) ?_
                          refine DW.qN (V' := V.one .dead) rfl rfl rfl rfl (gle rfl) rfl rfl rfl (gle rfl) (fun _ _ _ _ h => h) ?_
                          refine DW.qN (V' := V.one .dead) rfl rfl rfl rfl (gle rfl) rfl rfl rfl (gle rfl) (fun _ _ _ _ h => h) ?_
                          refine DW.qN (V' := V.one .dead) rfl rfl rfl rfl (gle rfl) rfl rfl rfl (gle rfl) (fun _ _ _ _ h => h) ?_
                          refine DW.mN rfl rfl rfl rfl (gle rfl) rfl rfl rfl (gle rfl) ?_
                          refine DW.mN rfl rfl rfl rfl (gle rfl) rfl rfl rfl (gle rfl) ?_
                          refine DW.qN (V' := V.one .dead) rfl rfl rfl rfl (gle rfl) rfl rfl rfl (gle rfl) (fun _ _ _ _ h => h) ?_
                          refine DW.q rfl (ok_pickT (v := V.one (.sc _)) rfl rfl rfl) rfl rfl (gle rfl) (fun _ _ _ _ h => h) ?_
                          refine DW.stores ?_
                          refine SV.zend ?_
                          refine SV.tn ?_
                          refine SV.cond rfl (fun hc15 => ?_) (fun hc15 => ?_)
                          · skip   -- c15.T
                            have hno : SorterD.ok s = false := by
                              rw [hok5]
                              unfold SorterD.okEnd
                              rw [decide_eq_false (fun hh => by have h1 := hh.1; simp at hg16; omega), Bool.false_and]
                            refine SV.seq' ?_
                            refine SV.region ?_
                            refine SV.op (OpL.ok (nb := 1) (ok_move (v := V.one (.sc _)) (.inr rfl) rfl) rfl (gle rfl)) rfl ?_
                            refine SV.nil ?_
                            refine SV.tn ?_
                            refine SV.ret ?_
                            refine SV.tr ?_
                            apply SV.done (hf := Try.results27) (ht := rfl) (he := .inl rfl)
                            case hr => exact (ResAll.cons (ResOk.tmp (ag := false) (xs := [.sc _]) rfl) ResAll.nil')
                            case h2 => simp [two]
                            refine ⟨rfl, ⟨?_, trivial⟩, trivial⟩ <;> (show some (T.lit (Value.bool _)) = some (T.lit (Value.bool _)); refine congrArg (fun z => some (T.lit (Value.bool z))) ?_; first | (rw [hno]; done) | (rw [hno]; simp; done) | (rw [hno, Bool.eq_iff_iff]; simp; done) | (rw [hno]; rfl))
                          · skip   -- c15.F
                            cases hc15
                        · skip   -- g16.F
                          refine DW.qY rfl (ok_field_bp (b := 0) (o' := 0) (off := 7) rfl rfl fld_impl_Sorter_7) rfl rfl rfl (gle rfl) rfl rfl rfl (gle rfl) (fun _ _ _ _ h => h) ?_
                          refine DW.qY rfl (ok_load_bp (b := 0) (i := 7) (ag := false) (m := 1) (ys := [.sc _]) rfl rfl rfl agg_int sz_int (fun _ => rfl) rfl rfl (gle rfl)) rfl rfl rfl (gle rfl) rfl rfl rfl (gle rfl) (fun _ _ _ _ h => h) ?_
                          refine DW.qY rfl (ok_s2 (x := .tmp 215) (x' := .const ((Value.int IntKind.i64 0))) (VScal.one rfl) (VScal.one rfl) (fun ρ h1 h2 w => by go_simp; (try go_bits); with_reducible rfl) rfl) rfl rfl rfl (gle rfl) rfl rfl rfl (gle rfl) (fun _ _ _ _ h => h) ?_
                          refine DW.q rfl (ok_pickF (v := V.one (.sc _)) rfl rfl rfl) rfl rfl (gle rfl) (fun _ _ _ _ h => h) ?_
                          refine DW.q rfl (ok_move (v := V.one (.sc _)) (.inl rfl) rfl) rfl rfl (gle rfl) (fun _ _ _ _ h => h) ?_
                          refine DW.split (d := 218) rfl (fun hg17 => ?_) (fun hg17 => ?_)
                          · skip   -- g17.T
                            refine DW.qN (V' := V.one .dead) rfl rfl rfl rfl (gle rfl) rfl rfl rfl (gle rfl) (fun _ _ _ _ h => h) ?_
                            refine DW.qN (V' := V.one .dead) rfl rfl rfl rfl (gle rfl) rfl rfl rfl (gle rfl) (fun _ _ _ _ h => h) ?_
                            refine DW.qN (V' := V.one .dead) rfl rfl rfl rfl (gle rfl) rfl rfl rfl (gle rfl) (fun _ _ _ _ h => h) ?_
                            refine DW.qN (V' := V.one .dead) rfl rfl rfl rfl (gle rfl) rfl rfl rfl (gle rfl) (fun _ _ _ _ h => h) ?_
                            refine DW.q rfl (ok_pickT (v := V.one (.sc _)) rfl rfl rfl) rfl rfl (gle rfl) (fun _ _ _ _ h => h) ?_
                            refine DW.q rfl (ok_move (v := V.one (.sc _)) (.inl rfl) rfl) rfl rfl (gle rfl) (fun _ _ _ _ h => h) ?_
                            refine DW.qN (V' := V.one .dead) rfl rfl rfl rfl (gle rfl) rfl rfl rfl (gle rfl) (fun _ _ _ _ h => h) ?_
                            refine DW.qN (V' := V.one .dead) rfl rfl rfl rfl (gle rfl) rfl rfl rfl (gle rfl) (fun _ _ _ _ h => h) ?_
                            refine DW.qN (V' := V.one .dead) rfl rfl rfl rfl (gle rfl) rfl rfl rfl (gle rfl) (fun _ _ _ _ h => h) ?_
                            refine DW.qN (V' := V.one .dead) rfl rfl rfl rfl (gle rfl) rfl rfl rfl (gle rfl) (fun _ _ _ _ h => h) ?_
                            refine DW.mN rfl rfl rfl rfl (gle rfl) rfl rfl rfl (gle rfl) ?_
                            refine DW.mN rfl rfl rfl rfl (gle rfl) rfl rfl rfl (gle rfl) ?_
                            refine DW.qN (V' := V.one .dead) rfl rfl rfl rfl (gle rfl) rfl rfl rfl (gle rfl) (fun _ _ _ _ h => h) ?_
                            refine DW.q rfl (ok_pickT (v := V.one (.sc _)) rfl rfl rfl) rfl rfl (gle rfl) (fun _ _ _ _ h => h) ?_
                            refine DW.stores ?_
                            refine SV.zend ?_
                            refine SV.tn ?_
                            refine SV.cond rfl (fun hc16 => ?_) (fun hc16 => ?_)
                            · skip   -- c16.T
                              have hno : SorterD.ok s = false := by
                                rw [hok5]
                                unfold SorterD.okEnd
                                rw [decide_eq_false (fun hh => by have h1 := hh.2.1; simp at hg17; exact hg17 h1), Bool.false_and]
                              refine SV.seq' ?_
                              refine SV.region ?_
                              refine SV.op (OpL.ok (nb := 1) (ok_move (v := V.one (.sc _)) (.inr rfl) rfl) rfl (gle rfl)) rfl ?_
                              refine SV.nil ?_
                              refine SV.tn ?_
                              refine SV.ret ?_
                              refine SV.tr ?_
                              apply SV.done (hf := Try.results27) (ht := rfl) (he := .inl rfl)
                              case hr => exact (ResAll.cons (ResOk.tmp (ag := false) (xs := [.sc _]) rfl) ResAll.nil')
                              case h2 => simp [two]
                              refine ⟨rfl, ⟨?_, trivial⟩, trivial⟩ <;> (show some (T.lit (Value.bool _)) = some (T.lit (Value.bool _)); refine congrArg (fun z => some (T.lit (Value.bool z))) ?_; first | (rw [hno]; done) | (rw [hno]; simp; done) | (rw [hno, Bool.eq_iff_iff]; simp; done) | (rw [hno]; rfl))
                            · skip   -- c16.F
                              cases hc16
                          · skip   -- g17.F
                            refine DW.qY rfl (ok_field_bp (b := 0) (o' := 0) (off := 4) rfl rfl fld_impl_Sorter_4) rfl rfl rfl (gle rfl) rfl rfl rfl (gle rfl) (fun _ _ _ _ h => h) ?_
                            refine DW.qY rfl (ok_load_bp (b := 0) (i := 4) (ag := false) (m := 1) (ys := [.ro _]) rfl rfl rfl agg_s_impl_Row sz_s_impl_Row (fun _ => rfl) rfl rfl (gle rfl)) rfl rfl rfl (gle rfl) rfl rfl rfl (gle rfl) (fun _ _ _ _ h => h) ?_
                            refine DW.qY rfl (ok_len (lf := .ro _) rfl elt_impl_Row.und rfl rfl) rfl rfl rfl (gle rfl) rfl rfl rfl (gle rfl) (fun _ _ _ _ h => h) ?_
                            refine DW.qY rfl (ok_s2 (x := .tmp 221) (x' := .const ((Value.int IntKind.i64 0))) (VScal.one rfl) (VScal.one rfl) (fun ρ h1 h2 w => by go_simp; (try go_bits); with_reducible rfl) rfl) rfl rfl rfl (gle rfl) rfl rfl rfl (gle rfl) (fun _ _ _ _ h => h) ?_
                            refine DW.q rfl (ok_pickF (v := V.one (.sc _)) rfl rfl rfl) rfl rfl (gle rfl) (fun _ _ _ _ h => h) ?_
                            refine DW.q rfl (ok_move (v := V.one (.sc _)) (.inl rfl) rfl) rfl rfl (gle rfl) (fun _ _ _ _ h => h) ?_
                            refine DW.split (d := 224) rfl (fun hg18 => ?_) (fun hg18 => ?_)
                            · skip   -- g18.T
                              refine DW.qN (V' := V.one .dead) rfl rfl rfl rfl (gle rfl) rfl rfl rfl (gle rfl) (fun _ _ _ _ h => h) ?_
                              refine DW.qN (V' := V.one .dead) rfl rfl rfl rfl (gle rfl) rfl rfl rfl (gle rfl) (fun _ _ _ _ h => h) ?_
                              refine DW.qN (V' := V.one .dead) rfl rfl rfl rfl (gle rfl) rfl rfl rfl (gle rfl) (fun _ _ _ _ h => h) ?_
                              refine DW.qN (V' := V.one .dead) rfl rfl rfl rfl (gle rfl) rfl rfl rfl (gle rfl) (fun _ _ _ _ h => h) ?_
                              refine DW.mN rfl rfl rfl rfl (gle rfl) rfl rfl rfl (gle rfl) ?_
                              refine DW.mN rfl rfl rfl rfl (gle rfl) rfl rfl rfl (gle rfl) ?_
                              refine DW.qN (V' := V.one .dead) rfl rfl rfl rfl (gle rfl) rfl rfl rfl (gle rfl) (fun _ _ _ _ h => h) ?_
                              refine DW.q rfl (ok_pickT (v := V.one (.sc _)) rfl rfl rfl) rfl rfl (gle rfl) (fun _ _ _ _ h => h) ?_
                              refine DW.stores ?_
                              refine SV.zend ?_
                              refine SV.tn ?_
                              refine SV.cond rfl (fun hc17 => ?_) (fun hc17 => ?_)
                              · skip   -- c17.T
                                have hno : SorterD.ok s = false := by
                                  rw [hok5]
                                  unfold SorterD.okEnd
                                  rw [decide_eq_false (fun hh => by have h1 := hh.2.2; simp at hg18; first | omega | (rw [List.length_eq_zero_iff] at h1; exact hg18 h1)), Bool.false_and]
                                refine SV.seq' ?_
                                refine SV.region ?_
                                refine SV.op (OpL.ok (nb := 1) (ok_move (v := V.one (.sc _)) (.inr rfl) rfl) rfl (gle rfl)) rfl ?_
                                refine SV.nil ?_
                                refine SV.tn ?_
                                refine SV.ret ?_
                                refine SV.tr ?_
                                apply SV.done (hf := Try.results27) (ht := rfl) (he := .inl rfl)
                                case hr => exact (ResAll.cons (ResOk.tmp (ag := false) (xs := [.sc _]) rfl) ResAll.nil')
                                case h2 => simp [two]
                                refine ⟨rfl, ⟨?_, trivial⟩, trivial⟩ <;> (show some (T.lit (Value.bool _)) = some (T.lit (Value.bool _)); refine congrArg (fun z => some (T.lit (Value.bool z))) ?_; first | (rw [hno]; done) | (rw [hno]; simp; done) | (rw [hno, Bool.eq_iff_iff]; simp; done) | (rw [hno]; rfl))
                              · skip   -- c17.F
                                cases hc17
                            · skip   -- g18.F
                              have hbd : decide (s.fRuns.length ≤ 1 ∧ s.fRightPos = 0 ∧ s.fOutput.length = 0) = true := decide_eq_true ⟨by simp at hg16; omega, by simpa using hg17, by first | (simpa using hg18) | (simp at hg18; omega) | (simp at hg18; rw [hg18]; rfl)⟩
                              refine DW.qY rfl (ok_field_bp (b := 0) (o' := 0) (off := 5) rfl rfl fld_impl_Sorter_5) rfl rfl rfl (gle rfl) rfl rfl rfl (gle rfl) (fun _ _ _ _ h => h) ?_
                              refine DW.qY rfl (ok_load_bp (b := 0) (i := 5) (ag := false) (m := 1) (ys := [.ro _]) rfl rfl rfl agg_s_impl_Run sz_s_impl_Run (fun _ => rfl) rfl rfl (gle rfl)) rfl rfl rfl (gle rfl) rfl rfl rfl (gle rfl) (fun _ _ _ _ h => h) ?_
                              refine DW.qY rfl (ok_field_bp (b := 0) (o' := 0) (off := 0) rfl rfl fld_impl_Sorter_0) rfl rfl rfl (gle rfl) rfl rfl rfl (gle rfl) (fun _ _ _ _ h => h) ?_
                              refine DW.qY rfl (ok_load_bp (b := 0) (i := 0) (ag := false) (m := 1) (ys := [.ro _]) rfl rfl rfl agg_s_impl_Row sz_s_impl_Row (fun _ => rfl) rfl rfl (gle rfl)) rfl rfl rfl (gle rfl) rfl rfl rfl (gle rfl) (fun _ _ _ _ h => h) ?_
                              refine DW.m' [0] rfl (ok_call (ls := [(false, [.hd 0])]) rfl rfl ⟨_, _, Try.func59, rfl, by decide⟩ (vflat_s s.fRuns (by omega) (by omega)) ⟨⟨[.ro _], rfl, ⟨rfl, trivial⟩⟩, trivial⟩ rfl (gle rfl)) (fun hr => wantedY hr rfl rfl rfl (gle rfl) rfl rfl) (gle rfl) (gle rfl) (.inl rfl) (fun j hj => by
                                  simp only [List.mem_cons, List.not_mem_nil, or_false] at hj
                                  rcases hj with rfl
                                  · exact .inr ⟨(gle rfl), (gle rfl), .inl rfl⟩) ?_
                              refine DW.m' [0] rfl (ok_call (ls := [(false, [.sc _])]) rfl rfl ⟨_, _, Try.func53, rfl, by decide⟩ (vbags_t s.fRuns.flatten s.fInput (fun r hr => by obtain ⟨p, hp, hr2⟩ := List.mem_flatten.1 hr; exact hW.runs p hp r hr2) hW.inp (by omega) (by omega)) ⟨⟨[.hd 0], rfl, ⟨rfl, trivial⟩⟩, ⟨[.ro _], rfl, ⟨rfl, trivial⟩⟩, trivial⟩ rfl (gle rfl)) (fun hr => wantedY hr rfl rfl rfl (gle rfl) rfl rfl) (gle rfl) (gle rfl) (.inl rfl) (fun j hj => by
                                  simp only [List.mem_cons, List.not_mem_nil, or_false] at hj
                                  rcases hj with rfl
                                  · exact .inl (by decide)) ?_
                              refine DW.qY rfl (ok_s1 (x := .tmp 230) (VScal.one rfl) (fun ρ h1 w => by go_simp; (try go_bits); with_reducible rfl) rfl) rfl rfl rfl (gle rfl) rfl rfl rfl (gle rfl) (fun _ _ _ _ h => h) ?_
                              refine DW.q rfl (ok_pickF (v := V.one (.sc _)) rfl rfl rfl) rfl rfl (gle rfl) (fun _ _ _ _ h => h) ?_
                              refine DW.stores ?_
                              refine SV.zend ?_
                              refine SV.tn ?_
                              refine SV.cond rfl (fun hc18 => ?_) (fun hc18 => ?_)
                              · skip   -- c18.T
                                have hno : SorterD.ok s = false := by
                                  rw [hok5]
                                  unfold SorterD.okEnd
                                  rw [hbd, show R.eqBags s.fRuns.flatten s.fInput = false by simpa using hc18]; rfl
                                refine SV.seq' ?_
                                refine SV.region ?_
                                refine SV.op (OpL.ok (nb := 1) (ok_move (v := V.one (.sc _)) (.inr rfl) rfl) rfl (gle rfl)) rfl ?_
                                refine SV.nil ?_
                                refine SV.tn ?_
                                refine SV.ret ?_
                                refine SV.tr ?_
                                apply SV.done (hf := Try.results27) (ht := rfl) (he := .inl rfl)
                                case hr => exact (ResAll.cons (ResOk.tmp (ag := false) (xs := [.sc _]) rfl) ResAll.nil')
                                case h2 => simp [two]
                                refine ⟨rfl, ⟨?_, trivial⟩, trivial⟩ <;> (show some (T.lit (Value.bool _)) = some (T.lit (Value.bool _)); refine congrArg (fun z => some (T.lit (Value.bool z))) ?_; first | (rw [hno]; done) | (rw [hno]; simp; done) | (rw [hno, Bool.eq_iff_iff]; simp; done) | (rw [hno]; rfl))
                              · skip   -- c18.F
                                have hbe : R.eqBags s.fRuns.flatten s.fInput = true := by simpa using hc18
                                have hee : SorterD.ok s = if s.fPhase = 3 then decide (s.fRuns.length = 1 ∧ 0 ≤ s.fLeftPos ∧ s.fLeftPos ≤ (s.fInput.length : Int) - 1) else decide (s.fPhase = 4 ∧ s.fLeftPos = s.fInput.length) := by
                                  rw [hok5]
                                  unfold SorterD.okEnd
                                  rw [hbd, hbe]
                                  rfl
                                refine SV.skip ?_
                                refine SV.tn ?_
                                refine SV.seq' ?_
                                refine SV.seq' ?_
                                refine SV.forget (L := [(1, V.one (.bp 0 0)), (2, V.one (.sc _))]) (B := [(27, [.ro _, .sc _, .ro _, .ro _, .ro _, .ro _, .sc _, .sc _, .sc _, .sc _])]) (O := []) (n := 1) ⟨rfl, rfl, trivial⟩ rfl trivial rfl ?_
                                refine SV.region ?_
                                refine SV.op (OpL.ok (nb := 1) (ok_field_bp (b := 0) (o' := 0) (off := 8) rfl rfl fld_impl_Sorter_8) rfl (gle rfl)) rfl ?_
                                refine SV.op (OpL.ok (nb := 1) (ok_load_bp (b := 0) (i := 8) (ag := false) (m := 1) (ys := [.sc _]) rfl rfl rfl agg_int sz_int (fun _ => rfl) rfl rfl (gle rfl)) rfl (gle rfl)) rfl ?_
                                refine SV.op (OpL.ok (nb := 1) (ok_s2 (x := .tmp 234) (x' := .const ((Value.int IntKind.i64 3))) (VScal.one rfl) (VScal.one rfl) (fun ρ h1 h2 w => by go_simp; (try go_bits); with_reducible rfl) rfl) rfl (gle rfl)) rfl ?_
                                refine SV.nil ?_
                                refine SV.tn ?_
                                refine SV.cond rfl (fun hc19 => ?_) (fun hc19 => ?_)
                                · skip   -- c19.T
                                  have hp3 : s.fPhase = 3 := by simpa using hc19
                                  refine SV.seq' ?_
                                  refine SV.region ?_
                                  refine SV.op (OpL.ok (nb := 1) (ok_field_bp (b := 0) (o' := 0) (off := 5) rfl rfl fld_impl_Sorter_5) rfl (gle rfl)) rfl ?_
                                  refine SV.op (OpL.ok (nb := 1) (ok_load_bp (b := 0) (i := 5) (ag := false) (m := 1) (ys := [.ro _]) rfl rfl rfl agg_s_impl_Run sz_s_impl_Run (fun _ => rfl) rfl rfl (gle rfl)) rfl (gle rfl)) rfl ?_
                                  refine SV.op (OpL.ok (nb := 1) (ok_len (lf := .ro _) rfl elt_impl_Run.und rfl rfl) rfl (gle rfl)) rfl ?_
                                  refine SV.op (OpL.ok (nb := 1) (ok_s2 (x := .tmp 238) (x' := .const ((Value.int IntKind.i64 1))) (VScal.one rfl) (VScal.one rfl) (fun ρ h1 h2 w => by go_simp; (try go_bits); with_reducible rfl) rfl) rfl (gle rfl)) rfl ?_
                                  refine SV.op (OpL.ok (nb := 1) (ok_move (v := V.one (.sc _)) (.inl rfl) rfl) rfl (gle rfl)) rfl ?_
                                  refine SV.split (d := 240) rfl (fun hg19 => ?_) (fun hg19 => ?_)
                                  · skip   -- g19.T
                                    have h1 : s.fRuns.length = 1 := by simp at hg19; omega
                                    have hno : SorterD.ok s = decide (0 ≤ s.fLeftPos ∧ s.fLeftPos ≤ (s.fInput.length : Int) - 1) := by rw [hee, if_pos hp3, Bool.eq_iff_iff]; simp [h1]
                                    refine SV.opY (OpL.ok (nb := 1) (ok_field_bp (b := 0) (o' := 0) (off := 6) rfl rfl fld_impl_Sorter_6) rfl (gle rfl)) rfl rfl rfl (gle rfl) rfl rfl ?_
                                    refine SV.opY (OpL.ok (nb := 1) (ok_load_bp (b := 0) (i := 6) (ag := false) (m := 1) (ys := [.sc _]) rfl rfl rfl agg_int sz_int (fun _ => rfl) rfl rfl (gle rfl)) rfl (gle rfl)) rfl rfl rfl (gle rfl) rfl rfl ?_
                                    refine SV.opY (OpL.ok (nb := 1) (ok_field_bp (b := 0) (o' := 0) (off := 0) rfl rfl fld_impl_Sorter_0) rfl (gle rfl)) rfl rfl rfl (gle rfl) rfl rfl ?_
                                    refine SV.opY (OpL.ok (nb := 1) (ok_load_bp (b := 0) (i := 0) (ag := false) (m := 1) (ys := [.ro _]) rfl rfl rfl agg_s_impl_Row sz_s_impl_Row (fun _ => rfl) rfl rfl (gle rfl)) rfl (gle rfl)) rfl rfl rfl (gle rfl) rfl rfl ?_
                                    refine SV.opY (OpL.ok (nb := 1) (ok_len (lf := .ro _) rfl elt_impl_Row.und rfl rfl) rfl (gle rfl)) rfl rfl rfl (gle rfl) rfl rfl ?_
                                    refine SV.opY (OpL.ok (nb := 1) (ok_s2 (v := .int .i64 ((s.fInput.length : Int) - 1)) (x := .tmp 245) (x' := .const ((Value.int IntKind.i64 1))) (VScal.one rfl) (VScal.one rfl) (fun ρ h1 h2 w => by go_simp; (try simp only [List.length_map]); rw [IntWalk.i64_left, IntWalk.wrap64_in _ ⟨by omega, by omega⟩]) rfl) rfl (gle rfl)) rfl rfl rfl (gle rfl) rfl rfl ?_
                                    refine SV.opY (OpMk.ok (ok_call (ls := [(false, [.sc _])]) rfl rfl ⟨_, _, Try.func71, rfl, by decide⟩ (vin_s' s.fLeftPos 0 ((s.fInput.length : Int) - 1)) ⟨⟨[.sc _], rfl, ⟨rfl, trivial⟩⟩, ⟨[.sc _], rfl, ⟨rfl, trivial⟩⟩, ⟨[.sc _], rfl, ⟨rfl, trivial⟩⟩, trivial⟩ rfl (gle rfl))) rfl rfl rfl (gle rfl) rfl rfl ?_
                                    refine SV.op (OpL.ok (nb := 1) (ok_pickT (v := V.one (.sc _)) rfl rfl rfl) rfl (gle rfl)) rfl ?_
                                    refine SV.op (OpL.ok (nb := 1) (ok_move (v := V.one (.sc _)) (.inr rfl) rfl) rfl (gle rfl)) rfl ?_
                                    refine SV.nil ?_
                                    refine SV.tn ?_
                                    refine SV.ret ?_
                                    refine SV.tr ?_
                                    apply SV.done (hf := Try.results27) (ht := rfl) (he := .inl rfl)
                                    case hr => exact (ResAll.cons (ResOk.tmp (ag := false) (xs := [.sc _]) rfl) ResAll.nil')
                                    case h2 => simp [two]
                                    refine ⟨rfl, ⟨?_, trivial⟩, trivial⟩ <;> (show some (T.lit (Value.bool _)) = some (T.lit (Value.bool _)); refine congrArg (fun z => some (T.lit (Value.bool z))) ?_; first | (rw [hno]; done) | (rw [hno]; simp; done) | (rw [hno, Bool.eq_iff_iff]; simp; done) | (rw [hno]; rfl))
                                  · skip   -- g19.F
                                    have h1 : ¬ s.fRuns.length = 1 := by simp at hg19; omega
                                    have hno : SorterD.ok s = false := by rw [hee, if_pos hp3, decide_eq_false (fun hh => h1 hh.1)]
                                    refine SV.opN rfl rfl rfl (gle rfl) rfl rfl rfl (gle rfl) ?_
                                    refine SV.opN rfl rfl rfl (gle rfl) rfl rfl rfl (gle rfl) ?_
                                    refine SV.opN rfl rfl rfl (gle rfl) rfl rfl rfl (gle rfl) ?_
                                    refine SV.opN rfl rfl rfl (gle rfl) rfl rfl rfl (gle rfl) ?_
                                    refine SV.opN rfl rfl rfl (gle rfl) rfl rfl rfl (gle rfl) ?_
                                    refine SV.opN rfl rfl rfl (gle rfl) rfl rfl rfl (gle rfl) ?_
                                    refine SV.opN rfl rfl rfl (gle rfl) rfl rfl rfl (gle rfl) ?_
                                    refine SV.op (OpL.ok (nb := 1) (ok_pickF (v := V.one (.sc _)) rfl rfl rfl) rfl (gle rfl)) rfl ?_
                                    refine SV.op (OpL.ok (nb := 1) (ok_move (v := V.one (.sc _)) (.inr rfl) rfl) rfl (gle rfl)) rfl ?_
                                    refine SV.nil ?_
                                    refine SV.tn ?_
                                    refine SV.ret ?_
                                    refine SV.tr ?_
                                    apply SV.done (hf := Try.results27) (ht := rfl) (he := .inl rfl)
                                    case hr => exact (ResAll.cons (ResOk.tmp (ag := false) (xs := [.sc _]) rfl) ResAll.nil')
                                    case h2 => simp [two]
                                    refine ⟨rfl, ⟨?_, trivial⟩, trivial⟩ <;> (show some (T.lit (Value.bool _)) = some (T.lit (Value.bool _)); refine congrArg (fun z => some (T.lit (Value.bool z))) ?_; first | (rw [hno]; done) | (rw [hno]; simp; done) | (rw [hno, Bool.eq_iff_iff]; simp; done) | (rw [hno]; rfl))
                                · skip   -- c19.F
                                  have hp3 : ¬ s.fPhase = 3 := by simpa using hc19
                                  refine SV.skip ?_
                                  refine SV.tn ?_
                                  refine SV.seq' ?_
                                  refine SV.region ?_
                                  refine SV.op (OpL.ok (nb := 1) (ok_field_bp (b := 0) (o' := 0) (off := 8) rfl rfl fld_impl_Sorter_8) rfl (gle rfl)) rfl ?_
                                  refine SV.op (OpL.ok (nb := 1) (ok_load_bp (b := 0) (i := 8) (ag := false) (m := 1) (ys := [.sc _]) rfl rfl rfl agg_int sz_int (fun _ => rfl) rfl rfl (gle rfl)) rfl (gle rfl)) rfl ?_
                                  refine SV.op (OpL.ok (nb := 1) (ok_s2 (x := .tmp 250) (x' := .const ((Value.int IntKind.i64 4))) (VScal.one rfl) (VScal.one rfl) (fun ρ h1 h2 w => by go_simp; (try go_bits); with_reducible rfl) rfl) rfl (gle rfl)) rfl ?_
                                  refine SV.op (OpL.ok (nb := 1) (ok_move (v := V.one (.sc _)) (.inl rfl) rfl) rfl (gle rfl)) rfl ?_
                                  refine SV.split (d := 252) rfl (fun hg20 => ?_) (fun hg20 => ?_)
                                  · skip   -- g20.T
                                    have h1 : s.fPhase = 4 := by simpa using hg20
                                    have hno : SorterD.ok s = decide (s.fLeftPos = s.fInput.length) := by rw [hee, if_neg hp3, Bool.eq_iff_iff]; simp [h1]
                                    refine SV.opY (OpL.ok (nb := 1) (ok_field_bp (b := 0) (o' := 0) (off := 6) rfl rfl fld_impl_Sorter_6) rfl (gle rfl)) rfl rfl rfl (gle rfl) rfl rfl ?_
                                    refine SV.opY (OpL.ok (nb := 1) (ok_load_bp (b := 0) (i := 6) (ag := false) (m := 1) (ys := [.sc _]) rfl rfl rfl agg_int sz_int (fun _ => rfl) rfl rfl (gle rfl)) rfl (gle rfl)) rfl rfl rfl (gle rfl) rfl rfl ?_
                                    refine SV.opY (OpL.ok (nb := 1) (ok_field_bp (b := 0) (o' := 0) (off := 0) rfl rfl fld_impl_Sorter_0) rfl (gle rfl)) rfl rfl rfl (gle rfl) rfl rfl ?_
                                    refine SV.opY (OpL.ok (nb := 1) (ok_load_bp (b := 0) (i := 0) (ag := false) (m := 1) (ys := [.ro _]) rfl rfl rfl agg_s_impl_Row sz_s_impl_Row (fun _ => rfl) rfl rfl (gle rfl)) rfl (gle rfl)) rfl rfl rfl (gle rfl) rfl rfl ?_
                                    refine SV.opY (OpL.ok (nb := 1) (ok_len (lf := .ro _) rfl elt_impl_Row.und rfl rfl) rfl (gle rfl)) rfl rfl rfl (gle rfl) rfl rfl ?_
                                    refine SV.opY (OpL.ok (nb := 1) (ok_s2 (x := .tmp 254) (x' := .tmp 257) (VScal.one rfl) (VScal.one rfl) (fun ρ h1 h2 w => by go_simp; (try go_bits); with_reducible rfl) rfl) rfl (gle rfl)) rfl rfl rfl (gle rfl) rfl rfl ?_
                                    refine SV.op (OpL.ok (nb := 1) (ok_pickT (v := V.one (.sc _)) rfl rfl rfl) rfl (gle rfl)) rfl ?_
                                    refine SV.op (OpL.ok (nb := 1) (ok_move (v := V.one (.sc _)) (.inr rfl) rfl) rfl (gle rfl)) rfl ?_
                                    refine SV.nil ?_
                                    refine SV.tn ?_
                                    refine SV.ret ?_
                                    apply SV.done (hf := Try.results27) (ht := rfl) (he := .inl rfl)
                                    case hr => exact (ResAll.cons (ResOk.tmp (ag := false) (xs := [.sc _]) rfl) ResAll.nil')
                                    case h2 => simp [two]
                                    refine ⟨rfl, ⟨?_, trivial⟩, trivial⟩ <;> (show some (T.lit (Value.bool _)) = some (T.lit (Value.bool _)); refine congrArg (fun z => some (T.lit (Value.bool z))) ?_; first | (rw [hno]; done) | (rw [hno]; simp; done) | (rw [hno, Bool.eq_iff_iff]; simp; done) | (rw [hno]; rfl))
                                  · skip   -- g20.F
                                    have h1 : ¬ s.fPhase = 4 := by simpa using hg20
                                    have hno : SorterD.ok s = false := by rw [hee, if_neg hp3, decide_eq_false (fun hh => h1 hh.1)]
                                    refine SV.opN rfl rfl rfl (gle rfl) rfl rfl rfl (gle rfl) ?_
                                    refine SV.opN rfl rfl rfl (gle rfl) rfl rfl rfl (gle rfl) ?_
                                    refine SV.opN rfl rfl rfl (gle rfl) rfl rfl rfl (gle rfl) ?_
                                    refine SV.opN rfl rfl rfl (gle rfl) rfl rfl rfl (gle rfl) ?_
                                    refine SV.opN rfl rfl rfl (gle rfl) rfl rfl rfl (gle rfl) ?_
                                    refine SV.opN rfl rfl rfl (gle rfl) rfl rfl rfl (gle rfl) ?_
                                    refine SV.op (OpL.ok (nb := 1) (ok_pickF (v := V.one (.sc _)) rfl rfl rfl) rfl (gle rfl)) rfl ?_
                                    refine SV.op (OpL.ok (nb := 1) (ok_move (v := V.one (.sc _)) (.inr rfl) rfl) rfl (gle rfl)) rfl ?_
                                    refine SV.nil ?_
                                    refine SV.tn ?_
                                    refine SV.ret ?_
                                    apply SV.done (hf := Try.results27) (ht := rfl) (he := .inl rfl)
                                    case hr => exact (ResAll.cons (ResOk.tmp (ag := false) (xs := [.sc _]) rfl) ResAll.nil')
                                    case h2 => simp [two]
                                    refine ⟨rfl, ⟨?_, trivial⟩, trivial⟩ <;> (show some (T.lit (Value.bool _)) = some (T.lit (Value.bool _)); refine congrArg (fun z => some (T.lit (Value.bool z))) ?_; first | (rw [hno]; done) | (rw [hno]; simp; done) | (rw [hno, Bool.eq_iff_iff]; simp; done) | (rw [hno]; rfl))
end Go.Proofs.Ytpnbnbhifpcelaa
/- The library's slices.Equal at rows, by contract. -/
namespace Go.Proofs.Ytpnbnbhifpcelaa
open Go.RowKit
set_option linter.unusedVariables false
set_option maxRecDepth 100000 in
theorem ieqrows (a a' : Option Addr) (len cap len' cap' : Nat) (L M : List R) (w : World) (h : IsRows w a len L) (h' : IsRows w a' len' M) (hlen : len ≤ 9223372036854775807) (hlen' : len' ≤ 9223372036854775807) :
    Calls Try.prog 87 #[.slice a len cap, .slice a' len' cap'] w fun e w' => e = .returned (.bool (decide (L = M))) ∧ Below w.heap.size w w' := by
  have HL := Lib.hid h.1
  have HM := Lib.hid h'.1
  have HI := Lib.hid h
  have HI' := Lib.hid h'
  clear h h'
  by_cases hne : len = len'
  · subst hne
    go_enter Try.func87, Try.ntmps87
    go_wp2_with fail
    go_loopw [13] (fun i wr => ∃ k : Nat, i = .int .i64 k ∧ k ≤ len ∧ Hid (∀ s, s < k → L.getD s R.zero = M.getD s R.zero) ∧ Hid (Below w.heap.size w wr)) (fun i _ => len - (intOf i).toNat)
    case atStart => exact ⟨0, rfl, Nat.zero_le _, fun s hs => absurd hs (Nat.not_lt_zero _), Below.refl _ _⟩
    case round =>
      obtain ⟨k, rfl, hk, hsm, hb⟩ := hrel
      by_cases hlt : k < len
      · obtain ⟨b, o, rfl, hbl, hat⟩ := HI.out.at hlt
        obtain ⟨b', o', rfl, hbl', hat'⟩ := HI'.out.at hlt
        obtain ⟨r, hr⟩ : ∃ r, r = L.getD k R.zero := ⟨_, rfl⟩
        obtain ⟨r', hr'⟩ : ∃ r, r = M.getD k R.zero := ⟨_, rfl⟩
        rw [← hr] at hat
        rw [← hr'] at hat'
        obtain ⟨c0, c1, c2⟩ := hat.below hb.out hbl
        obtain ⟨d0, d1, d2⟩ := hat'.below hb.out hbl'
        have HR := Lib.hid hr
        have HR' := Lib.hid hr'
        clear hr hr' hat hat'
        have hq : ∀ v, (binOp .neq 72 (.agg #[.int .i64 r.key, .int .i64 r.value, .int .i64 r.width]) (.agg #[.int .i64 r'.key, .int .i64 r'.value, .int .i64 r'.width])).run Try.prog v = .ok (.bool (!decide (r = r'))) v := fun v => row_neq r r' v
        by_cases he : r = r'
        · have hd : decide (r = r') = true := decide_eq_true he
          have HE := Lib.hid he
          clear he
          go_wp2_with fail
          go_still_tail 8, (by kernel_rfl)
          go_wp2_with fail
          go_roundw
          case rel =>
            refine ⟨k + 1, by go_num, by omega, fun s hs => ?_, hb.out.drew⟩
            rcases Nat.lt_or_ge s k with h1 | h1
            · exact hsm.out s h1
            · obtain rfl : s = k := by omega
              rw [← HR.out, ← HR'.out]; exact HE.out
          case measure => simp [intOf]; omega
        · have hd : decide (r = r') = false := decide_eq_false he
          have HN := Lib.hid (show decide (L = M) = false from decide_eq_false fun e => he (by rw [HR.out, HR'.out, e]))
          clear he
          go_wp2_with fail
          go_still_tail 8, (by kernel_rfl)
          go_wp2_with fail
          go_ret
          exact ⟨by rw [HN.out]; rfl, hb.out.drew⟩
      · have HN := Lib.hid (show decide (L = M) = true from decide_eq_true (getD_ext (by rw [HL.out, HM.out]) fun s hs => hsm.out s (by rw [HL.out] at hs; omega)))
        go_wp2_with fail
        go_ret
        exact ⟨by rw [HN.out]; rfl, hb.out⟩
  · have HN := Lib.hid (show decide (L = M) = false from decide_eq_false fun e => hne (by rw [← HL.out, ← HM.out, e]))
    have hne2 : ¬ (len : Int) = (len' : Int) := by omega
    go_enter Try.func87, Try.ntmps87
    go_wp2_with fail
    go_ret
    exact ⟨by rw [HN.out]; rfl, Below.refl _ _⟩
end Go.Proofs.Ytpnbnbhifpcelaa
/- How often each row occurs, kept in a map that the call made: keys, look-ups, 'm[k]++'; no function of the program is walked here. -/
namespace Go.Proofs.Ytpnbnbhifpcelaa
open Go Go.RowKit Go.Maps Go.WideElems Go.ChangeShapes Go.ChangeMaps Go.MapKept Go.WideShapes Go.Deep Go.Joins
open Go.WideMaps (KeyLaw)
def kl (r : R) : Lit := (R.dat (H := Unit) r).asKey
set_option maxRecDepth 100000 in
theorem laidOut : laidOutB Try.prog = true := by kernel_rfl
set_option maxRecDepth 100000 in
theorem rowIsType : (72 : TypeId) < Try.prog.types.size := of_decide_eq_true (by kernel_rfl)
set_option maxRecDepth 100000 in
theorem rowWide : (match Try.prog.underlying 72 with | some (.array _ _) | some (.struct _) => true | _ => false) = true := by kernel_rfl
set_option maxRecDepth 100000 in
theorem rowDeep : Try.prog.keyTypeAt (Try.prog.types.size + 1) 72 = true := by kernel_rfl
set_option maxRecDepth 100000 in
theorem rowLaw : KeyLaw Try.prog 72 := deep_law_laid laidOut (m := 3) (by omega) rowIsType (by kernel_rfl) rowWide
set_option maxRecDepth 100000 in
theorem rowKeyed : Keyed Try.prog 72 := Keyed.of_law rowLaw
set_option maxRecDepth 100000 in
theorem implRowCells : Try.prog.cellsOf 72 = 3 := by kernel_rfl
set_option maxRecDepth 100000 in
theorem shut_irow {H : Type} {enc : TypeId × Value → H} {w : World} {base : Nat} {spare : Nat → Bool} {held : Bool} (q : R) (hq : q.wf) : DataW.Trod enc Try.prog w base spare held 72 q.val q.dat [] :=
  shut_agg3 (y0 := (.lit (.int .i64 q.key), [])) (y1 := (.lit (.int .i64 q.value), [])) (y2 := (.lit (.int .i64 q.width), [])) Try.underlying72 (by kernel_rfl) implRowCells
    ⟨1, by simp [DataW.trod, Try.underlying3, lit_wf hq.1]⟩ ⟨1, by simp [DataW.trod, Try.underlying3, lit_wf hq.2.1]⟩ ⟨1, by simp [DataW.trod, Try.underlying3, lit_wf hq.2.2]⟩
set_option maxRecDepth 100000 in
theorem formedRow (r : R) : r.val.formed Try.prog 72 = true := by
  simp [Value.formed, R.val, Try.underlying72, implRowCells]
set_option maxRecDepth 100000 in
theorem keyRow (r : R) (hr : r.wf) : keyOf Try.prog 72 r.val = some (kl r) :=
  (keyOf_asKey rowDeep rowWide (formedRow r) (shut_irow (H := Unit) (enc := fun _ => ()) (w := World.mk #[] (fun _ _ => 0) 0 default #[]) (base := 0) (spare := fun _ => false) (held := false) r hr)).1
set_option maxRecDepth 100000 in
theorem kl_inj {r s : R} (hr : r.wf) (hs : s.wf) (h : kl r = kl s) : r = s := by
  have := rowKeyed.inj (keyRow r hr) (h ▸ keyRow s hs)
  obtain ⟨a, b, c⟩ := r
  obtain ⟨a', b', c'⟩ := s
  simpa [R.val] using this
set_option maxRecDepth 100000 in
theorem kl_key (r : R) (hr : r.wf) : WideAt.IsKeyLit (kl r) := rowKeyed.key (keyRow r hr)
set_option maxRecDepth 100000 in
theorem zeroInt (w : World) : (zeroValue 3).run Try.prog w = .ok (.int .i64 0) w := Try.zeroValue3 w
def AtD (D : DataW Unit) (C : R → Int) : Prop := ∀ r, r.wf → D.atKey (kl r) (.lit (.int .i64 0)) = .lit (.int .i64 (C r))
def HasD (D : DataW Unit) (L : List R) : Prop := ∀ k, Maps.has D k = true ↔ ∃ r, r ∈ L ∧ k = kl r
abbrev Own (w : World) (b n : Nat) (D : DataW Unit) : Prop := w.ownsMap Try.prog 72 (plainElem Try.prog 3) b n D
set_option maxRecDepth 100000 in
theorem Own.heap {w w' : World} {b n : Nat} {D : DataW Unit} (h : Own w b n D) (e : w'.heap[b]? = w.heap[b]?) : Own w' b n D := by
  obtain ⟨es, clock, hb, F, hs, hD⟩ := h
  exact ⟨es, clock, e.trans hb, F, hs, hD⟩
set_option maxRecDepth 100000 in
theorem Own.look {w : World} {b n : Nat} {D : DataW Unit} (h : Own w b n D) {C : R → Int} (hC : AtD D C) (r : R) (hr : r.wf) :
    (Instr.lookup 127 (.map (some b)) r.val false).run Try.prog w = .ok (.int .i64 (C r)) w := by
  obtain ⟨c, hrun, hat, -⟩ := h.lookup_int rowKeyed Try.underlying127 Try.underlying3 (zeroInt w) (keyRow r hr)
  rw [hC r hr] at hat
  injection hat with hat
  injection hat with _ hat
  rw [hat]
  exact hrun
set_option maxRecDepth 100000 in
theorem Own.entry {w : World} {b n : Nat} {D : DataW Unit} (h : Own w b n D) (hn : n < maxLen) {C : R → Int} (hC : AtD D C) (r : R) (hr : r.wf) (x : Int) (hx : (Lit.int .i64 x).wf = true) :
    ∃ (st : Nat) (W1 W2 : World), (Instr.mapEntry 127 (.map (some b)) r.val).run Try.prog w = .ok (.tuple #[.int .i64 (C r), goInt st]) W1 ∧
      (Instr.lookup 127 (.map (some b)) r.val false).run Try.prog W1 = .ok (.int .i64 (C r)) W1 ∧
      (Instr.entryStore 127 (.map (some b)) (goInt st) (.int .i64 x)).run Try.prog W1 = .ok () W2 ∧
      Own W2 b (n + 1) (D.put (kl r) (.lit (.int .i64 x))) ∧ w.grownBy W2 (some b) := by
  have hlook := h.look hC r hr
  have ht := Try.underlying127
  have hkey := keyRow r hr
  obtain ⟨W2, hupd, hown2, hg2⟩ := h.update rowKeyed ht hn hkey (plainElem_int (H := Unit) Try.underlying3 hx)
  have hwhole := h
  obtain ⟨es, clock, hb, F, hs, hD⟩ := h
  obtain ⟨v0, st, es1, clock1, hE, hv0, hS⟩ := entry_then_store rowLaw ht (fun u => zeroInt u) hb F hkey
  obtain ⟨es', clock', hst, hup⟩ := hS (setBlock w b (.map es1 clock1)) (.int .i64 x) (heap_setBlock_same hb _)
  have hW2 : setBlock (setBlock w b (.map es1 clock1)) b (.map es' clock') = W2 := by
    rw [hupd] at hup
    injection hup with _ hup
    rw [hup]
    simp [setBlock]
  rw [hW2] at hst
  have key : v0 = .int .i64 (C r) ∧ (Instr.lookup 127 (.map (some b)) r.val false).run Try.prog (setBlock w b (.map es1 clock1)) = .ok (.int .i64 (C r)) (setBlock w b (.map es1 clock1)) := by
    rcases rowLaw.find w hkey es.toList F.keys with ⟨h1, h2⟩ | ⟨j, e0, h1, h2, h3⟩
    · have hL : (Instr.lookup 127 (.map (some b)) r.val false).run Try.prog w = .ok (.int .i64 0) w := by
        simp [Instr.lookup, run_underlying ht, MapKept.run_getObj_map hb, rowLaw.check w es.isEmpty hkey, h1, Result.andThen]
      have hE' : (Instr.mapEntry 127 (.map (some b)) r.val).run Try.prog w = .ok (.tuple #[.int .i64 0, goInt clock]) (setBlock w b (.map (es.push ⟨r.val, .int .i64 0, clock⟩) (clock + 1))) := by
        simp [Instr.mapEntry, run_underlying ht, MapKept.run_getObj_map hb, rowLaw.check w false hkey, h1, MapKept.run_setObj_map _ hb, Result.andThen, setBlock]
      have hU : (Instr.mapUpdate 127 (.map (some b)) r.val (.int .i64 0)).run Try.prog w = .ok () (setBlock w b (.map (es.push ⟨r.val, .int .i64 0, clock⟩) (clock + 1))) := by
        simp [Instr.mapUpdate, run_underlying ht, MapKept.run_getObj_map hb, rowLaw.check w false hkey, h1, MapKept.run_setObj_map _ hb, Result.andThen, setBlock]
      rw [hL] at hlook
      injection hlook with hc _
      rw [hE] at hE'
      injection hE' with e1 e2
      rw [e2]
      obtain ⟨W3, hupd3, hown3, -⟩ := hwhole.update rowKeyed ht hn hkey (plainElem_int (H := Unit) Try.underlying3 (a := 0) (by decide))
      rw [hU] at hupd3
      injection hupd3 with _ e3
      rw [← e3] at hown3
      have hD0 : IsMap D := ⟨_, hD⟩
      obtain ⟨c, hrun, hat, -⟩ := hown3.lookup_int rowKeyed ht Try.underlying3 (zeroInt _) hkey
      rw [atKey_put_same hD0 (kl_key r hr)] at hat
      injection hat with hat
      injection hat with _ hat
      rw [← hat, hc] at hrun
      rw [← hc]
      refine ⟨?_, by rw [hc]; exact hrun⟩
      injection e1 with e1
      have := congrArg (fun z => z[0]?) e1
      simpa using this
    · have hj : es[j]? = some e0 := by simpa using h2
      have hL : (Instr.lookup 127 (.map (some b)) r.val false).run Try.prog w = .ok e0.val w := by
        simp [Instr.lookup, run_underlying ht, MapKept.run_getObj_map hb, rowLaw.check w es.isEmpty hkey, h1, Result.andThen]
      have hsame : es.modify j (fun e => { e with key := r.val }) = es := by
        apply Array.ext'
        rw [Array.toList_modify, modify_eq_set _ _ _ _ h2]
        have : ({ e0 with key := r.val } : MapEntry) = e0 := by rw [← h3]
        rw [this]
        exact Go.WideElems.set_self _ _ _ h2
      have hE' : (Instr.mapEntry 127 (.map (some b)) r.val).run Try.prog w = .ok (.tuple #[e0.val, goInt e0.born]) (setBlock w b (.map es clock)) := by
        simp [Instr.mapEntry, run_underlying ht, MapKept.run_getObj_map hb, rowLaw.check w false hkey, h1, hj, h3, rowLaw.stays w hkey, hsame, MapKept.run_setObj_map _ hb, Result.andThen, setBlock]
      rw [hL] at hlook
      injection hlook with hc _
      rw [hE] at hE'
      injection hE' with e1 e2
      rw [e2]
      refine ⟨?_, (hwhole.heap ((heap_setBlock_same hb _).trans hb.symm)).look hC r hr⟩
      injection e1 with e1
      have := congrArg (fun z => z[0]?) e1
      rw [← hc]
      simpa using this
  rw [key.1] at hE
  exact ⟨st, setBlock w b (.map es1 clock1), W2, hE, key.2, hst, hown2, hg2⟩
set_option maxRecDepth 100000 in
theorem Own.map {w : World} {b n : Nat} {D : DataW Unit} (h : Own w b n D) : IsMap D := by
  obtain ⟨es, clock, hb, F, hs, hD⟩ := h
  exact ⟨_, hD⟩
set_option maxRecDepth 100000 in
theorem atD_put {D : DataW Unit} {C : R → Int} (hD : IsMap D) (hC : AtD D C) (r : R) (hr : r.wf) (x : Int) : AtD (D.put (kl r) (.lit (.int .i64 x))) (fun s => if s = r then x else C s) := by
  intro s hs
  by_cases he : s = r
  · subst he
    rw [atKey_put_same hD (kl_key s hs)]
    simp
  · rw [atKey_put_other (fun e => he (kl_inj hs hr e)), hC s hs]
    simp [he]
set_option maxRecDepth 100000 in
theorem hasD_put {D : DataW Unit} {L : List R} (hD : IsMap D) (hL : HasD D L) (r : R) (hr : r.wf) (x : DataW Unit) : HasD (D.put (kl r) x) (L ++ [r]) := by
  intro k
  by_cases he : k = kl r
  · subst he
    rw [has_put_same hD (kl_key r hr)]
    exact ⟨fun _ => ⟨r, by simp, rfl⟩, fun _ => rfl⟩
  · rw [has_put_other he, hL k]
    constructor
    · rintro ⟨s, hs, e⟩
      exact ⟨s, by simp [hs], e⟩
    · rintro ⟨s, hs, e⟩
      rcases List.mem_append.1 hs with h | h
      · exact ⟨s, h, e⟩
      · rw [List.mem_singleton.1 h] at e
        exact absurd e he
set_option maxRecDepth 100000 in
theorem atD_none : AtD (.map []) (fun _ => 0) := fun _ _ => rfl
set_option maxRecDepth 100000 in
theorem hasD_none : HasD (.map []) [] := fun k => Iff.intro (fun h => by cases h) (fun ⟨r, hr, _⟩ => by cases hr)
end Go.Proofs.Ytpnbnbhifpcelaa
/- The reference's EqualBags, BagDifference and DistinctRows, by contract. -/
namespace Go.Proofs.Ytpnbnbhifpcelaa
open Go.RowKit
end Go.Proofs.Ytpnbnbhifpcelaa
/- The program's countRows and EqualBags, the library's maps.Equal behind them (walked), by contract. -/
namespace Go.Proofs.Ytpnbnbhifpcelaa
open Go Go.RowKit Go.Maps
set_option maxRecDepth 100000 in
set_option maxHeartbeats 1000000 in
theorem icounts (a : Option Addr) (len cap : Nat) (L : List R) (w : World) (h : IsRows w a len L) (hlen : len ≤ 100000000000) :
    Calls Try.prog 137 #[.slice a len cap] w fun e w' => ∃ b D, e = .returned (.map (some b)) ∧ w.heap.size ≤ b ∧ Own w' b len D ∧ AtD D (fun r => (L.count r : Int)) ∧ HasD D L ∧ Below w.heap.size w w' := by
  have HL := Lib.hid h.1
  have HW := Lib.hid h.2.1
  have HI := Lib.hid h
  have hmm := @run_makeMap Try.prog
  have hb0 : Below w.heap.size w (w.alloc (.map #[] 0)) := (Below.refl _ _).alloc (Nat.le_refl _) _
  have HB0 := Lib.hid hb0
  have HO := Lib.hid (World.ownsMap_made w Try.prog 72 (plainElem (H := Unit) Try.prog 3))
  clear h hb0
  go_enter Try.func137, Try.ntmps137
  go_wp2_with fail
  clear hmm
  go_loopw [9] (fun x wr => ∃ (k : Nat) (D : DataW Unit), x = .int .i64 k ∧ k ≤ len ∧ Hid (Own wr w.heap.size k D) ∧ Hid (AtD D (fun r => ((L.take k).count r : Int))) ∧ Hid (HasD D (L.take k)) ∧ Hid (Below w.heap.size w wr)) (fun x _ => len - (intOf x).toNat)
  case atStart => exact ⟨0, _, rfl, Nat.zero_le _, HO.out, atD_none, hasD_none, HB0.out⟩
  case round =>
    obtain ⟨k, D, rfl, hk, ho, hat, hhas, hb⟩ := hrel
    by_cases hlt : k < len
    · obtain ⟨b, o, rfl, hbl, hc⟩ := HI.out.at hlt
      obtain ⟨r, hr⟩ : ∃ r, r = L.getD k R.zero := ⟨_, rfl⟩
      rw [← hr] at hc
      obtain ⟨c0, c1, c2⟩ := hc.below hb.out hbl
      have hrw : r.wf := by rw [hr]; exact HI.out.wf k hlt
      obtain ⟨Wa, hWa⟩ : ∃ Wa, Wa = wr.alloc (.cells #[.int .i64 r.key, .int .i64 r.value, .int .i64 r.width] 72) := ⟨_, rfl⟩
      have hbx : RowAt Wa wr.heap.size 0 r := by rw [hWa]; refine ⟨?_, ?_, ?_⟩ <;> simp
      have hba : Below wr.heap.size wr Wa := by rw [hWa]; exact (Below.refl _ _).alloc (Nat.le_refl _) _
      have hoa : Own Wa w.heap.size k D := by rw [hWa]; exact ho.out.alloc _
      have hod : Own Wa.drew w.heap.size k D := hoa.drew
      obtain ⟨n, hn⟩ : ∃ n, n = (L.take k).count r := ⟨_, rfl⟩
      have hnk : n ≤ k := by rw [hn]; have := List.count_le_length (a := r) (l := L.take k); rw [List.length_take] at this; omega
      obtain ⟨st, W1, W2, hE, hL1, hS, hown2, hg2⟩ := hod.entry (by unfold maxLen; omega) hat.out r hrw ((n : Int) + 1) (lit_wf ⟨by omega, by omega⟩)
      have hL0 := hod.look hat.out r hrw
      simp only [← hn] at hE hL1 hL0
      have hE' : (Instr.mapEntry 127 (.map (some w.heap.size)) (.agg #[.int .i64 r.key, .int .i64 r.value, .int .i64 r.width])).run Try.prog Wa.drew = .ok (.tuple #[.int .i64 n, .int .i64 st]) W1 := hE
      have hL0' : (Instr.lookup 127 (.map (some w.heap.size)) (.agg #[.int .i64 r.key, .int .i64 r.value, .int .i64 r.width]) false).run Try.prog Wa.drew = .ok (.int .i64 n) Wa.drew := hL0
      have hL1' : (Instr.lookup 127 (.map (some w.heap.size)) (.agg #[.int .i64 r.key, .int .i64 r.value, .int .i64 r.width]) false).run Try.prog W1 = .ok (.int .i64 n) W1 := hL1
      have hS' : (Instr.entryStore 127 (.map (some w.heap.size)) (.int .i64 st) (.int .i64 (IntKind.i64.wrap ((n : Int) + 1)))).run Try.prog W1 = .ok () W2 := by rw [show IntKind.i64.wrap ((n : Int) + 1) = (n : Int) + 1 by simp [IntKind.wrap, IntKind.bits, IntKind.signed]; omega]; exact hS
      have HOWN := Lib.hid hown2
      have HG := Lib.hid hg2
      have HR := Lib.hid hr
      have HN := Lib.hid hn
      have HRW := Lib.hid hrw
      have HBA := Lib.hid hba
      have HMAP := Lib.hid ho.out.map
      obtain ⟨d0, d1, d2⟩ := hbx
      clear hE hL0 hL1 hS hown2 hg2 hr hn hrw hba hoa hod
      go_wp2_with fail
      rw [← hWa]
      clear hWa
      have hnext : Own W2 w.heap.size (k + 1) (D.put (kl r) (.lit (.int .i64 ((n : Int) + 1)))) ∧ AtD (D.put (kl r) (.lit (.int .i64 ((n : Int) + 1)))) (fun s => ((L.take (k + 1)).count s : Int)) ∧ HasD (D.put (kl r) (.lit (.int .i64 ((n : Int) + 1)))) (L.take (k + 1)) ∧ Below w.heap.size w W2 := by
        have hlk : k < L.length := by rw [HL.out]; exact hlt
        refine ⟨HOWN.out, ?_, ?_, ?_⟩
        · intro s hs
          rw [atD_put HMAP.out hat.out r HRW.out ((n : Int) + 1) s hs]
          have hct := R.count_take hlk s
          rw [← HR.out] at hct
          simp only [hct]
          by_cases he : s = r
          · subst he
            simp [HN.out]
          · have he' : ¬ r = s := fun e => he e.symm
            simp [he, he']
        · rw [R.take_succ hlk, ← HR.out]
          exact hasD_put HMAP.out hhas.out r HRW.out _
        · exact ((hb.out.trans (HBA.out.mono hb.out.size)).drew).grown HG.out (Nat.le_trans hb.out.size HBA.out.size) (fun z hz => by have hz' : some w.heap.size = some z := hz; simp only [Option.some.injEq] at hz'; omega)
      have HNX := Lib.hid hnext
      clear hnext
      go_region_with (fail)
      all_goals (
        go_wp2_with fail
        go_roundw
        case rel => exact ⟨k + 1, _, by go_num, by omega, HNX.out.1, HNX.out.2.1, HNX.out.2.2.1, HNX.out.2.2.2⟩
        case measure => simp [intOf]; omega)
    · have hkl : k = len := by omega
      have hall : L.take k = L := by rw [hkl, ← HL.out, List.take_length]
      rw [hall] at hat hhas
      subst hkl
      clear hall
      go_wp2_with fail
      go_ret
      exact ⟨_, D, rfl, Nat.le_refl _, ho.out, hat.out, hhas.out, hb.out⟩
theorem subset_back {α : Type} : ∀ (A B : List α), A.Nodup → (∀ x ∈ A, x ∈ B) → B.length ≤ A.length → ∀ x ∈ B, x ∈ A
  | [], B, _, _, hl => by
    have : B = [] := List.eq_nil_of_length_eq_zero (by simpa using hl)
    subst this
    simp
  | a :: A, B, hn, hs, hl => by
    intro x hx
    obtain ⟨B1, B2, rfl⟩ := List.append_of_mem (hs a (by simp))
    obtain ⟨hna, hn'⟩ := List.nodup_cons.1 hn
    have ih := subset_back A (B1 ++ B2) hn' (fun y hy => by
      have hy' := hs y (by simp [hy])
      rw [List.mem_append, List.mem_cons] at hy'
      rw [List.mem_append]
      rcases hy' with h | rfl | h
      · exact .inl h
      · exact absurd hy hna
      · exact .inr h) (by simp at hl ⊢; omega)
    rw [List.mem_append, List.mem_cons] at hx
    rcases hx with h | rfl | h
    · exact List.mem_cons_of_mem _ (ih x (List.mem_append.2 (.inl h)))
    · simp
    · exact List.mem_cons_of_mem _ (ih x (List.mem_append.2 (.inr h)))
theorem hasD_mem {es : List (Lit × DataW Unit)} (hk : ∀ p ∈ es, WideAt.IsKeyLit p.1) {k : Lit} : Maps.has (.map es : DataW Unit) k = true ↔ k ∈ es.map (·.1) := by
  rw [has_eq, List.any_eq_true, List.mem_map]
  constructor
  · rintro ⟨p, hp, hs⟩
    exact ⟨p, hp, WideAt.sameKey_eq hs⟩
  · rintro ⟨p, hp, rfl⟩
    exact ⟨p, hp, WideAt.sameKey_self (hk p hp)⟩
theorem counts_equal {w : World} {b1 n1 b2 n2 : Nat} {D1 D2 : DataW Unit} {L M : List R} (h1 : Own w b1 n1 D1) (h2 : Own w b2 n2 D2) (k1 : HasD D1 L) (k2 : HasD D2 M) (hL : ∀ r ∈ L, r.wf) (hM : ∀ r ∈ M, r.wf)
    (hsz : Maps.size D1 = Maps.size D2) (hG : ∀ r ∈ L, L.count r = M.count r) : R.eqBags L M = true := by
  obtain ⟨es1, rfl, p1, q1⟩ := h1.entries rowKeyed
  obtain ⟨es2, rfl, p2, q2⟩ := h2.entries rowKeyed
  have hn1 : (es1.map (·.1)).Nodup := by rw [List.Nodup, List.pairwise_map]; exact p1
  have hsub : ∀ k ∈ es1.map (·.1), k ∈ es2.map (·.1) := by
    intro k hk
    obtain ⟨r, hr, rfl⟩ := (k1 k).1 ((hasD_mem q1).2 hk)
    refine (hasD_mem q2).1 ((k2 _).2 ⟨r, ?_, rfl⟩)
    have hp := List.count_pos_iff.2 hr
    rw [hG r hr] at hp
    exact List.count_pos_iff.1 hp
  have hback := subset_back _ _ hn1 hsub (by rw [List.length_map, List.length_map]; exact Nat.le_of_eq hsz.symm)
  refine R.eqBags_iff.2 fun r => ?_
  by_cases hr : r ∈ L
  · exact hG r hr
  · by_cases hm : r ∈ M
    · obtain ⟨s, hs, e⟩ := (k1 _).1 ((hasD_mem q1).2 (hback _ ((hasD_mem q2).1 ((k2 (kl r)).2 ⟨r, hm, rfl⟩))))
      rw [kl_inj (hM r hm) (hL s hs) e] at hr
      exact absurd hs hr
    · rw [List.count_eq_zero.2 hr, List.count_eq_zero.2 hm]
theorem counts_sizes {w : World} {b1 n1 b2 n2 : Nat} {D1 D2 : DataW Unit} {L M : List R} (h1 : Own w b1 n1 D1) (h2 : Own w b2 n2 D2) (k1 : HasD D1 L) (k2 : HasD D2 M) (h : R.eqBags L M = true) : Maps.size D1 = Maps.size D2 := by
  have hc := R.eqBags_iff.1 h
  have hmem : ∀ r, r ∈ L ↔ r ∈ M := fun r => by rw [← List.count_pos_iff, ← List.count_pos_iff, hc r]
  obtain ⟨es1, rfl, p1, q1⟩ := h1.entries rowKeyed
  obtain ⟨es2, rfl, p2, q2⟩ := h2.entries rowKeyed
  have hn1 : (es1.map (·.1)).Nodup := by rw [List.Nodup, List.pairwise_map]; exact p1
  have hn2 : (es2.map (·.1)).Nodup := by rw [List.Nodup, List.pairwise_map]; exact p2
  have hp : (es1.map (·.1)).Perm (es2.map (·.1)) := (List.perm_ext_iff_of_nodup hn1 hn2).2 fun k => by
    rw [← hasD_mem q1, ← hasD_mem q2, k1 k, k2 k]
    exact ⟨fun ⟨r, hr, e⟩ => ⟨r, (hmem r).1 hr, e⟩, fun ⟨r, hr, e⟩ => ⟨r, (hmem r).2 hr, e⟩⟩
  have := hp.length_eq
  rw [List.length_map, List.length_map] at this
  exact this
set_option maxRecDepth 100000 in
set_option maxHeartbeats 4000000 in
theorem mapsequal (b1 b2 n1 n2 : Nat) (D1 D2 : DataW Unit) (L M : List R) (w : World) (h1 : Own w b1 n1 D1) (h2 : Own w b2 n2 D2) (a1 : AtD D1 (fun r => (L.count r : Int))) (a2 : AtD D2 (fun r => (M.count r : Int))) (k1 : HasD D1 L) (k2 : HasD D2 M)
    (hL : ∀ r ∈ L, r.wf) (hM : ∀ r ∈ M, r.wf) :
    Calls Try.prog 136 #[.map (some b1), .map (some b2)] w fun e w' => e = .returned (.bool (R.eqBags L M)) ∧ w.grownBy w' none := by
  have l1 := fun ty => h1.len (t := 127) Try.underlying127 ty
  have l2 := fun ty => h2.len (t := 127) Try.underlying127 ty
  have hb2 := h2.lt
  have H1 := Lib.hid h1
  have H2 := Lib.hid h2
  have A1 := Lib.hid a1
  have A2 := Lib.hid a2
  have K1 := Lib.hid k1
  have K2 := Lib.hid k2
  have HL := Lib.hid hL
  have HM := Lib.hid hM
  clear a1 a2 k1 k2 hL hM
  obtain ⟨z1, hz1⟩ : ∃ z, z = Maps.size D1 := ⟨_, rfl⟩
  obtain ⟨z2, hz2⟩ : ∃ z, z = Maps.size D2 := ⟨_, rfl⟩
  rw [← hz1] at l1
  rw [← hz2] at l2
  have Z1 := Lib.hid hz1
  have Z2 := Lib.hid hz2
  clear hz1 hz2
  by_cases hsz : z1 = z2
  · subst hsz
    go_enter Try.func136, Try.ntmps136
    go_wp2_with (first
      | (at_range; refine wpList_range_own _ rfl _ 127 rfl 72 3 rowKeyed Try.underlying127 (plainElem Try.prog 3) b1 n1 D1 rfl h1 ?_; intro w0 hrg0 hg0 hs0)
      | go_in)
    go_frame
    go_loopw [18] (fun _ wr => ∃ (left : Lit → Bool) (cnt : Nat), wr.ranges Try.prog 72 (plainElem Try.prog 3) b1 w.heap.size n1 D1 left cnt ∧ Hid (Own wr b2 n2 D2) ∧ Hid (w.grownBy wr none) ∧ Hid (∀ r ∈ L, left (kl r) = false → L.count r = M.count r))
      (fun _ wr => wr.rangeLeft b1 w.heap.size)
    case atStart =>
      refine ⟨_, _, hrg0, h2.kept hg0 (by simp), hg0, fun r hr h => ?_⟩
      rw [(K1.out _).2 ⟨r, hr, rfl⟩] at h
      cases h
    case round =>
      obtain ⟨left, cnt, hrg, h2r, hgw, G⟩ := hrel
      clear h1 h2 l1 l2 hrg0 hg0 hs0
      go_wp2_with (first
        | (at_next; refine wpList_next_ranges _ rfl _ rfl 72 rowKeyed (plainElem Try.prog 3) id (Value.int .i64) (fun key _ _ => ⟨key, rfl⟩) (fun v y hy => by obtain ⟨c, rfl, _⟩ := plainElem_int_inv Try.underlying3 hy; exact ⟨c, rfl⟩) b1 w.heap.size n1 _ _ _ rfl hrg ?_ ?_)
        | go_in)
      · intro _ hl0
        have hall := counts_equal H1.out H2.out K1.out K2.out HL.out HM.out (by rw [← Z1.out, ← Z2.out]) fun r hr => G.out r hr (hl0 _)
        have HA := Lib.hid hall
        clear hall hl0
        go_wp2
        go_ret
        exact ⟨by rw [HA.out]; rfl, hgw.out⟩
      · intro x c kx yd yp w2 cnt1 hkey hlx hv hat hrg1 hlt hg1 hs1 hen
        obtain ⟨r, hr, rfl⟩ := (K1.out kx).1 (has_true_of_atKey hat)
        have hrw := HL.out r hr
        have hx : x = r.val := rowKeyed.inj hkey (keyRow r hrw)
        subst hx
        obtain ⟨c', ec, ey, -⟩ := plainElem_int_inv Try.underlying3 hv
        injection ec with _ ec
        subst ec
        injection ey with ey1 ey2
        subst ey1 ey2
        have hcc : (DataW.lit (Lit.int .i64 c) : DataW Unit) = .lit (.int .i64 ((L.count r : Nat) : Int)) := (hat (.lit (.int .i64 0))).symm.trans (A1.out r hrw)
        injection hcc with hcc
        injection hcc with _ hcc
        subst hcc
        have hen' : (Instr.entry (.pointer (some ⟨w.heap.size, 0, none⟩))).run Try.prog w2 = .ok (.tuple #[.agg #[.int .i64 r.key, .int .i64 r.value, .int .i64 r.width], .int .i64 (L.count r)]) w2 := hen
        have hgw1 : w.grownBy w2 none := hgw.out.andThen hg1 (fun j hj => by cases hj; exact Or.inl (Nat.le_refl _))
        have h2w1 := h2r.out.kept hg1 (fun e => by have := Option.some.inj e; omega)
        have h2a : Own (w2.alloc (.cells #[.int .i64 r.key, .int .i64 r.value, .int .i64 r.width] 72)) b2 n2 D2 := h2w1.alloc _
        have hga : w.grownBy (w2.alloc (.cells #[.int .i64 r.key, .int .i64 r.value, .int .i64 r.width] 72)) none := hgw1.trans (World.grownBy_alloc w2 _ none)
        have HRG := Lib.hid hrg1
        have HGA := Lib.hid hga
        have hkr := keyRow r hrw
        have hpos := List.count_pos_iff.2 hr
        have hat2 : D2.atKey (kl r) (.lit (.int .i64 0)) = .lit (.int .i64 ((M.count r : Nat) : Int)) := A2.out r hrw
        clear hen hat hkey hv hgw1 h2w1 hga hrg1 hg1
        unfold R.val at hkr ⊢
        obtain ⟨x1, hx1⟩ : ∃ x, x = L.count r := ⟨_, rfl⟩
        obtain ⟨x2, hx2⟩ : ∃ x, x = M.count r := ⟨_, rfl⟩
        simp only [← hx1] at hen' hpos ⊢
        simp only [← hx2] at hat2
        have X1 := Lib.hid hx1
        have X2 := Lib.hid hx2
        clear hx1 hx2
        by_cases hcm : x1 = x2
        · subst hcm
          have hh : Maps.has D2 (kl r) = true := (K2.out _).2 ⟨r, List.count_pos_iff.1 (by rw [← X2.out]; exact hpos), rfl⟩
          go_wp2_with (first
            | (at_lookup; refine wpList_lookup_own_ok_int _ rfl _ _ 127 rfl 72 3 .i64 rowKeyed Try.underlying127 Try.underlying3 (zeroInt _) b2 n2 D2 rfl h2a _ (kl r) rfl hkr ?_; intro c2 hc2 hwc2; rw [hh]; go_frame; rw [hat2] at hc2; injection hc2 with hc2; injection hc2 with _ hc2; subst hc2)
            | go_in)
          have hga2 := HRG.out.alloc (.cells #[.int .i64 r.key, .int .i64 r.value, .int .i64 r.width] 72)
          go_roundw
          case rel =>
            refine ⟨_, cnt1, hga2, h2a, HGA.out, fun s hs hl => ?_⟩
            cases hls : left (kl s) with
            | false => exact G.out s hs hls
            | true =>
              rw [hls, Bool.true_and, Bool.not_eq_false'] at hl
              rw [kl_inj (HL.out s hs) hrw (WideAt.sameKey_eq hl), ← X1.out, ← X2.out]
          case measure => rw [hga2.left_eq, hrg.left_eq]; exact hlt
        · have hbad : R.eqBags L M = false := by
            cases he : R.eqBags L M with
            | false => rfl
            | true => exact absurd (by rw [X1.out, X2.out]; exact R.eqBags_iff.1 he r) hcm
          have HB := Lib.hid hbad
          clear hbad
          have hcm' : ¬ (x1 : Int) = x2 := by omega
          cases hh : Maps.has D2 (kl r) with
          | true =>
            go_wp2_with (first
              | (at_lookup; refine wpList_lookup_own_ok_int _ rfl _ _ 127 rfl 72 3 .i64 rowKeyed Try.underlying127 Try.underlying3 (zeroInt _) b2 n2 D2 rfl h2a _ (kl r) rfl hkr ?_; intro c2 hc2 hwc2; rw [hh]; go_frame; rw [hat2] at hc2; injection hc2 with hc2; injection hc2 with _ hc2; subst hc2)
              | go_in)
            go_ret
            exact ⟨by rw [HB.out]; rfl, HGA.out⟩
          | false =>
            go_wp2_with (first
              | (at_lookup; refine wpList_lookup_own_ok_int _ rfl _ _ 127 rfl 72 3 .i64 rowKeyed Try.underlying127 Try.underlying3 (zeroInt _) b2 n2 D2 rfl h2a _ (kl r) rfl hkr ?_; intro c2 hc2 hwc2; rw [hh]; go_frame; rw [hat2] at hc2; injection hc2 with hc2; injection hc2 with _ hc2; subst hc2)
              | go_in)
            go_ret
            exact ⟨by rw [HB.out]; rfl, HGA.out⟩
  · have hbad : R.eqBags L M = false := by
      cases he : R.eqBags L M with
      | false => rfl
      | true => exact absurd (by rw [Z1.out, Z2.out]; exact counts_sizes H1.out H2.out K1.out K2.out he) hsz
    have HB := Lib.hid hbad
    clear hbad h1 h2
    go_enter Try.func136, Try.ntmps136
    go_wp2_with fail
    go_ret
    exact ⟨by rw [HB.out]; rfl, World.grownBy.refl _ _⟩
theorem Own.keep {w w' : World} {b n : Nat} {D : DataW Unit} (h : Own w b n D) (hb : Below w.heap.size w w') : Own w' b n D := h.heap (hb.block b h.lt)
theorem below_grown {w w' : World} (h : w.grownBy w' none) : Below w.heap.size w w' := (Below.refl _ _).grown h (Nat.le_refl _) (fun k hk => by cases hk)
set_option maxRecDepth 100000 in
theorem ieqbags (a a' : Option Addr) (len cap len' cap' : Nat) (L M : List R) (w : World) (h : IsRows w a len L) (h' : IsRows w a' len' M) (hlen : len ≤ 100000000000) (hlen' : len' ≤ 100000000000) :
    Calls Try.prog 130 #[.slice a len cap, .slice a' len' cap'] w fun e w' => e = .returned (.bool (R.eqBags L M)) ∧ Below w.heap.size w w' := by
  have HW := Lib.hid h.2.1
  have HW' := Lib.hid h'.2.1
  have HI := Lib.hid h
  have HI' := Lib.hid h'
  clear h h'
  go_enter Try.func130, Try.ntmps130
  go_wp2_with fail
  refine (icounts a len cap L _ HI.out hlen).mono ?_
  rintro e w1 ⟨m1, D1, rfl, -, o1, t1, k1, b1⟩
  have O1 := Lib.hid o1
  have T1 := Lib.hid t1
  have K1 := Lib.hid k1
  have B1 := Lib.hid b1
  have I1 := Lib.hid (HI'.out.keep b1)
  clear o1 t1 k1 b1
  go_wp2_with fail
  refine (icounts a' len' cap' M _ I1.out hlen').mono ?_
  rintro e w2 ⟨m2, D2, rfl, -, o2, t2, k2, b2⟩
  have HC := Lib.hid (mapsequal m1 m2 len len' D1 D2 L M w2 (O1.out.keep b2) o2 T1.out t2 K1.out k2 HW.out HW'.out)
  have B2 := Lib.hid (B1.out.trans (b2.mono B1.out.size))
  clear o2 t2 k2 b2
  go_wp2_with fail
  refine HC.out.mono ?_
  rintro e w3 ⟨rfl, g3⟩
  have B3 := Lib.hid (B2.out.trans ((below_grown g3).mono B2.out.size))
  clear g3
  go_wp2_with fail
  go_ret
  exact ⟨rfl, B3.out⟩
end Go.Proofs.Ytpnbnbhifpcelaa
/- EqualBags and slices.Equal at rows, the program's: told by trees: told by trees. -/
namespace Go.Proofs.Ytpnbnbhifpcelaa
open Go Go.RowKit V
set_option linter.unusedVariables false
theorem vbags_i (L M : List R) (hL : ∀ r ∈ L, r.wf) (hM : ∀ r ∈ M, r.wf) (hl : L.length ≤ 1000000000) (hm : M.length ≤ 1000000000) : VC Try.prog 130 [(false, [.seq 72 (L.map tRow)]), (false, [.seq 72 (M.map tRow)])] false [(false, [.lit (.bool (R.eqBags L M))])] := fun w vs hv => by
  obtain ⟨k, vs', rfl, h1, h2⟩ := hv.shape (Fits.slice 72 Fits.row) hL
  obtain ⟨q, vs', rfl, h4, h5⟩ := h2.shape (Fits.slice 72 Fits.row) hM
  rw [h5.none]
  have e : k.2.1 = L.length := h1.1.1.symm
  have e' : q.2.1 = M.length := h4.1.1.symm
  exact (ieqbags k.1 q.1 k.2.1 k.2.2 q.2.1 q.2.2 L M w (rows_in h1.1) (rows_in h4.1) (by omega) (by omega)).mono fun e w' he => Gives.plain (ag := false) (rs := [.bool (R.eqBags L M)]) (oneM rfl) he
theorem veqrows_i (L M : List R) (hL : ∀ r ∈ L, r.wf) (hM : ∀ r ∈ M, r.wf) (hl : L.length ≤ 1000000000) (hm : M.length ≤ 1000000000) : VC Try.prog 87 [(false, [.seq 72 (L.map tRow)]), (false, [.seq 72 (M.map tRow)])] false [(false, [.lit (.bool (decide (L = M)))])] := fun w vs hv => by
  obtain ⟨k, vs', rfl, h1, h2⟩ := hv.shape (Fits.slice 72 Fits.row) hL
  obtain ⟨q, vs', rfl, h4, h5⟩ := h2.shape (Fits.slice 72 Fits.row) hM
  rw [h5.none]
  have e : k.2.1 = L.length := h1.1.1.symm
  have e' : q.2.1 = M.length := h4.1.1.symm
  exact (ieqrows k.1 q.1 k.2.1 k.2.2 q.2.1 q.2.2 L M w (rows_in h1.1) (rows_in h4.1) (by omega) (by omega)).mono fun e w' he => Gives.plain (ag := false) (rs := [.bool (decide (L = M))]) (oneM rfl) he
end Go.Proofs.Ytpnbnbhifpcelaa
/- 'make([]T, 0, n)': told by trees. -/
namespace Go.Proofs.Ytpnbnbhifpcelaa.V
open Go Go.RowKit
variable {E : Env} {N : Nat} {σ : VS} {o : Oper}
theorem ok_make0 {d : Nat} {t ty : TypeId} {n bytes : Nat} {z : Value} {x y : Operand} {c0 : Nat} {kl kc : IntKind} (I : ElT t ty n z bytes) {kk : Nat} (hk : σ.nx = kk) (ho : o.op = .makeSlice t x y) (hx : σ.ev x = V.one (.sc (.int kl 0))) (hy : σ.ev y = V.one (.sc (.int kc (c0 : Nat)))) (hl : c0 ≤ 350000000000)
    (hd : o.dst = some d) (hdN : d < N) : OpMk Try.prog E N none σ o ((σ.new (.seq ty [])).put d (V.one (.hd kk))) :=
  fun a w G K Q h k => by
    subst hk
    obtain ⟨i0, hi, hz0, hz1, hz2⟩ := info_parts I.inf
    have hby : i0.bytes * c0 ≤ 281474976710656 := by
      have h1 : i0.bytes * c0 ≤ 400 * 350000000000 := Nat.mul_le_mul (by rw [hz2]; exact I.small) hl
      omega
    have hrun := run_make (P := Try.prog) w t ty i0 z I.und hi hz0 kl kc 0 c0 (Int.le_refl _) (by omega) (by
      have h1 : ((i0.bytes * c0 : Nat) : Int) ≤ 281474976710656 := by omega
      rwa [Int.natCast_mul] at h1) (by omega)
    simp only [Int.toNat_natCast, Int.toNat_zero, hz1] at hrun
    have hown := World.ownsRow_made (base := 0) (w := w) (e := ty) (size := n) (madeCells z.cells (c0 * n)) c0 (Nat.zero_le _) (by unfold maxLen; omega) (size_madeCells _ _)
    obtain ⟨G', hG', ⟨hvl, hvls, hβs⟩, -, -⟩ := h.renew [] (fun x hx => by cases hx) (w' := w.alloc (.cells (madeCells z.cells (c0 * n)) ty)) (t := .seq ty []) (v := .slice (some ⟨w.heap.size, 0, none⟩) 0 c0) (F := fun b => b = w.heap.size) (fun _ => False) (.of_below ((Below.refl _ _).alloc h.low _)) (fun k hk _ => Below.heap_alloc _ _ _ hk) (fun b hb => hb.elim)
      (.seq n I.pos I.sz (fun e he => by cases he) [] (Row.of hown) (fun _ _ => False) (fun k e j t u he hj hu => by simp at he)
        (fun u hu => by cases hu) (fun b hb => by cases hb; rfl) (fun q b hb => hb.elim) (fun q b hb => hb.elim) fun q q' b hb => hb.elim)
      ⟨_, _, rfl⟩ fun b hb => ⟨by subst hb; exact ⟨.inl h.low, by simp⟩, .inl (h.fresh (by rw [hb]; exact Nat.le_refl _))⟩
    refine wp_value (v := .slice (some ⟨w.heap.size, 0, none⟩) 0 c0) (w' := w.alloc (.cells (madeCells z.cells (c0 * n)) ty)) ?_ (by rw [hd]; exact k _ _ _ (hG'.put hdN (vone.2 ⟨⟨Nat.lt_succ_self _, hvl.symm⟩, .inr rfl⟩)) ⟨by simp, .of_below ((Below.refl _ _).alloc h.low _), hvls, fun b _ => by rw [hβs], fun b hb => .inl (Below.heap_alloc _ _ _ hb), fun i e1 e2 b e3 => .inl (by
      have hi : i = σ.nx := Nat.le_antisymm (Nat.le_of_lt_succ e2) e1
      rw [hi, hvl] at e3
      rw [← Option.some.inj e3]; exact Nat.le_refl _)⟩)
    have hxv := h.sc hx
    have hyv := h.sc hy
    simp [execOp, ho, hxv, hyv, hrun, Result.andThen]
end Go.Proofs.Ytpnbnbhifpcelaa.V
/- The program's MergeSorted: told by trees. -/
namespace Go.Proofs.Ytpnbnbhifpcelaa
open Go Go.RowKit V
set_option linter.unusedVariables false
def nextOf (a b : List R) : Bool := match a, b with
  | [], b => b.isEmpty
  | _ :: _, [] => true
  | x :: _, y :: _ => decide (R.cmp x y ≤ 0)
theorem nextOf_none {a b : List R} (h : a.length = 0 ∨ b.length = 0) : nextOf a b = decide (b.length = 0) := by
  cases a with
  | nil => cases b <;> simp [nextOf]
  | cons x a => cases b with
    | nil => simp [nextOf]
    | cons y b => simp at h
theorem nextOf_both {a b : List R} {x y : R} (hx : a[0]? = some x) (hy : b[0]? = some y) : nextOf a b = decide (R.cmp x y ≤ 0) := by
  cases a with
  | nil => simp at hx
  | cons x' a => cases b with
    | nil => simp at hy
    | cons y' b => simp at hx hy; subst hx hy; rfl
theorem next_left {a b : List R} {i k : Nat} (h : nextOf (a.drop i) (b.drop k) = true) (hn : i < a.length ∨ k < b.length) : ∃ x, a[i]? = some x ∧ i < a.length ∧ Runs.merge2 (a.drop i) (b.drop k) = x :: Runs.merge2 (a.drop (i + 1)) (b.drop k) := by
  rcases Nat.lt_or_ge i a.length with hi | hi
  · have hx : a[i]? = some a[i] := List.getElem?_eq_getElem hi
    rcases Nat.lt_or_ge k b.length with hk | hk
    · have hy : b[k]? = some b[k] := List.getElem?_eq_getElem hk
      rw [nextOf_both (x := a[i]) (y := b[k]) (by rw [List.getElem?_drop, Nat.add_zero]; exact hx) (by rw [List.getElem?_drop, Nat.add_zero]; exact hy)] at h
      exact ⟨_, hx, hi, Runs.m_left hx hy (of_decide_eq_true h)⟩
    · exact ⟨_, hx, hi, Runs.m_last hx hk⟩
  · rw [nextOf_none (.inl (by simp; omega))] at h
    have := of_decide_eq_true h
    simp at this
    omega
theorem next_right {a b : List R} {i k : Nat} (h : nextOf (a.drop i) (b.drop k) = false) (hn : i < a.length ∨ k < b.length) : ∃ y, b[k]? = some y ∧ k < b.length ∧ Runs.merge2 (a.drop i) (b.drop k) = y :: Runs.merge2 (a.drop i) (b.drop (k + 1)) := by
  rcases Nat.lt_or_ge k b.length with hk | hk
  · have hy : b[k]? = some b[k] := List.getElem?_eq_getElem hk
    rcases Nat.lt_or_ge i a.length with hi | hi
    · have hx : a[i]? = some a[i] := List.getElem?_eq_getElem hi
      rw [nextOf_both (x := a[i]) (y := b[k]) (by rw [List.getElem?_drop, Nat.add_zero]; exact hx) (by rw [List.getElem?_drop, Nat.add_zero]; exact hy)] at h
      exact ⟨_, hy, hk, Runs.m_right hx hy (of_decide_eq_false h)⟩
    · exact ⟨_, hy, hk, Runs.m_rest hi hy⟩
  · rw [nextOf_none (.inr (by simp; omega))] at h
    exact absurd (by simp; omega) (of_decide_eq_false h)
set_option maxRecDepth 100000 in
set_option maxHeartbeats 2000000 in
theorem vnext_i (a b : List R) : VC Try.prog 97 [(false, [.seq 72 ((a).map tRow)]), (false, [.seq 72 ((b).map tRow)])] false [(false, [.lit (.bool (nextOf a b))])] := by
  refine VC.enter Try.func97 rfl Try.ntmps97 (gle rfl) fun E hE => ?_
  refine SV.seq' ?_
  refine SV.region ?_
  refine SV.op (OpL.ok (nb := 0) (ok_move (v := V.one (.sc _)) (.inr rfl) rfl) rfl (gle rfl)) rfl ?_
  refine SV.nil ?_
  refine SV.tn ?_
  refine SV.seq' ?_
  refine SV.seq' ?_
  refine SV.region ?_
  refine SV.op (OpL.ok (nb := 0) (ok_move (v := V.one (.ro _)) (.inl rfl) rfl) rfl (gle rfl)) rfl ?_
  refine SV.op (OpL.ok (nb := 0) (ok_len (lf := .ro _) rfl elt_impl_Row.und rfl rfl) rfl (gle rfl)) rfl ?_
  refine SV.op (OpL.ok (nb := 0) (ok_s2 (x := .tmp 6) (x' := .const ((Value.int IntKind.i64 0))) (VScal.one rfl) (VScal.one rfl) (fun ρ h1 h2 w => by go_simp; (try go_bits); with_reducible rfl) rfl) rfl (gle rfl)) rfl ?_
  refine SV.op (OpL.ok (nb := 0) (ok_move (v := V.one (.sc _)) (.inl rfl) rfl) rfl (gle rfl)) rfl ?_
  refine SV.split (d := 8) rfl (fun hg0 => ?_) (fun hg0 => ?_)
  · skip   -- g0.T
    have hz : a.length = 0 ∨ b.length = 0 := .inl (by first | (simpa using hg0) | (simp at hg0; omega) | (simp at hg0; rw [hg0]; rfl))
    have hno := nextOf_none hz
    refine SV.opN rfl rfl rfl (gle rfl) rfl rfl rfl (gle rfl) ?_
    refine SV.opN rfl rfl rfl (gle rfl) rfl rfl rfl (gle rfl) ?_
    refine SV.opN rfl rfl rfl (gle rfl) rfl rfl rfl (gle rfl) ?_
    refine SV.op (OpL.ok (nb := 0) (ok_pickT (v := V.one (.sc _)) rfl rfl rfl) rfl (gle rfl)) rfl ?_
    refine SV.nil ?_
    refine SV.tn ?_
    refine SV.cond rfl (fun hc0 => ?_) (fun hc0 => ?_)
    · skip   -- c0.T
      refine SV.seq' ?_
      refine SV.region ?_
      refine SV.op (OpL.ok (nb := 0) (ok_move (v := V.one (.ro _)) (.inl rfl) rfl) rfl (gle rfl)) rfl ?_
      refine SV.op (OpL.ok (nb := 0) (ok_len (lf := .ro _) rfl elt_impl_Row.und rfl rfl) rfl (gle rfl)) rfl ?_
      refine SV.op (OpL.ok (nb := 0) (ok_s2 (x := .tmp 14) (x' := .const ((Value.int IntKind.i64 0))) (VScal.one rfl) (VScal.one rfl) (fun ρ h1 h2 w => by go_simp; (try go_bits); with_reducible rfl) rfl) rfl (gle rfl)) rfl ?_
      refine SV.op (OpL.ok (nb := 0) (ok_move (v := V.one (.sc _)) (.inr rfl) rfl) rfl (gle rfl)) rfl ?_
      refine SV.nil ?_
      refine SV.tn ?_
      refine SV.ret ?_
      refine SV.tr ?_
      apply SV.done (hf := Try.results97) (ht := rfl) (he := .inl rfl)
      case hr => exact (ResAll.cons (ResOk.tmp (ag := false) (xs := [.sc _]) rfl) ResAll.nil')
      case h2 => simp [two]
      refine ⟨rfl, ⟨?_, trivial⟩, trivial⟩ <;> (show some (T.lit (Value.bool _)) = some (T.lit (Value.bool _)); refine congrArg (fun z => some (T.lit (Value.bool z))) ?_; (rw [hno]; first | done | rfl | (rw [Bool.eq_iff_iff]; simp; done) | (simp; done) | (simp; exact List.length_eq_zero_iff.1 (by simpa using hc1))))
    · skip   -- c0.F
      cases hc0
  · skip   -- g0.F
    have hla : 0 < a.length := by rcases Nat.eq_zero_or_pos a.length with h | h; (exfalso; simp [h] at hg0); (exact h)
    obtain ⟨x, hx⟩ : ∃ z, a[0]? = some z := ⟨_, List.getElem?_eq_getElem hla⟩
    refine SV.opY (OpL.ok (nb := 0) (ok_move (v := V.one (.ro _)) (.inl rfl) rfl) rfl (gle rfl)) rfl rfl rfl (gle rfl) rfl rfl ?_
    refine SV.opY (OpL.ok (nb := 0) (ok_len (lf := .ro _) rfl elt_impl_Row.und rfl rfl) rfl (gle rfl)) rfl rfl rfl (gle rfl) rfl rfl ?_
    refine SV.opY (OpL.ok (nb := 0) (ok_s2 (x := .tmp 10) (x' := .const ((Value.int IntKind.i64 0))) (VScal.one rfl) (VScal.one rfl) (fun ρ h1 h2 w => by go_simp; (try go_bits); with_reducible rfl) rfl) rfl (gle rfl)) rfl rfl rfl (gle rfl) rfl rfl ?_
    refine SV.op (OpL.ok (nb := 0) (ok_pickF (v := V.one (.sc _)) rfl rfl rfl) rfl (gle rfl)) rfl ?_
    refine SV.nil ?_
    refine SV.tn ?_
    refine SV.cond rfl (fun hc1 => ?_) (fun hc1 => ?_)
    · skip   -- c1.T
      have hz : a.length = 0 ∨ b.length = 0 := .inr (by first | (simpa using hc1) | (simp at hc1; omega) | (simp at hc1; rw [hc1]; rfl))
      have hno := nextOf_none hz
      refine SV.seq' ?_
      refine SV.region ?_
      refine SV.op (OpL.ok (nb := 0) (ok_move (v := V.one (.ro _)) (.inl rfl) rfl) rfl (gle rfl)) rfl ?_
      refine SV.op (OpL.ok (nb := 0) (ok_len (lf := .ro _) rfl elt_impl_Row.und rfl rfl) rfl (gle rfl)) rfl ?_
      refine SV.op (OpL.ok (nb := 0) (ok_s2 (x := .tmp 14) (x' := .const ((Value.int IntKind.i64 0))) (VScal.one rfl) (VScal.one rfl) (fun ρ h1 h2 w => by go_simp; (try go_bits); with_reducible rfl) rfl) rfl (gle rfl)) rfl ?_
      refine SV.op (OpL.ok (nb := 0) (ok_move (v := V.one (.sc _)) (.inr rfl) rfl) rfl (gle rfl)) rfl ?_
      refine SV.nil ?_
      refine SV.tn ?_
      refine SV.ret ?_
      refine SV.tr ?_
      apply SV.done (hf := Try.results97) (ht := rfl) (he := .inl rfl)
      case hr => exact (ResAll.cons (ResOk.tmp (ag := false) (xs := [.sc _]) rfl) ResAll.nil')
      case h2 => simp [two]
      refine ⟨rfl, ⟨?_, trivial⟩, trivial⟩ <;> (show some (T.lit (Value.bool _)) = some (T.lit (Value.bool _)); refine congrArg (fun z => some (T.lit (Value.bool z))) ?_; (rw [hno]; first | done | rfl | (rw [Bool.eq_iff_iff]; simp; done) | (simp; done) | (simp; exact List.length_eq_zero_iff.1 (by simpa using hc1))))
    · skip   -- c1.F
      have hlb : 0 < b.length := by rcases Nat.eq_zero_or_pos b.length with h | h; (exfalso; simp [h] at hc1); (exact h)
      obtain ⟨y, hy⟩ : ∃ z, b[0]? = some z := ⟨_, List.getElem?_eq_getElem hlb⟩
      have hno := nextOf_both hx hy
      refine SV.skip ?_
      refine SV.tn ?_
      refine SV.seq' ?_
      refine SV.draw [.q 0, .q 1, .q 2, .q 3, .q 4, .q 5, .m 6, .q 7, .q 8] [] (by kernel_rfl) (by kernel_rfl) ?_
      refine DW.q rfl (ok_move (v := V.one (.ro _)) (.inl rfl) rfl) rfl rfl (gle rfl) (fun _ _ _ _ h => h) ?_
      refine DW.q rfl (ok_index (n := 3) (lf := .ro _) rfl elt_impl_Row.und sz_impl_Row rfl rfl rfl (map_at hx)) rfl rfl (gle rfl) (fun _ _ _ _ h => h) ?_
      refine DW.q rfl (ok_load_rp (ag := true) (m := 3) (ys := [.sc _, .sc _, .sc _]) rfl rfl agg_impl_Row sz_impl_Row (fun h => by cases h) (gle rfl) rfl) rfl rfl (gle rfl) (fun _ _ _ _ h => h) ?_
      refine DW.q rfl (ok_move (v := V.one (.ro _)) (.inl rfl) rfl) rfl rfl (gle rfl) (fun _ _ _ _ h => h) ?_
      refine DW.q rfl (ok_index (n := 3) (lf := .ro _) rfl elt_impl_Row.und sz_impl_Row rfl rfl rfl (map_at hy)) rfl rfl (gle rfl) (fun _ _ _ _ h => h) ?_
      refine DW.q rfl (ok_load_rp (ag := true) (m := 3) (ys := [.sc _, .sc _, .sc _]) rfl rfl agg_impl_Row sz_impl_Row (fun h => by cases h) (gle rfl) rfl) rfl rfl (gle rfl) (fun _ _ _ _ h => h) ?_
      refine DW.m [] rfl (ok_call (ls := [(false, [.sc _])]) rfl rfl ⟨_, _, Try.func109, rfl, by decide⟩ (vcmp_i x y) ⟨⟨[.sc _, .sc _, .sc _], rfl, ⟨rfl, rfl, rfl, trivial⟩⟩, ⟨[.sc _, .sc _, .sc _], rfl, ⟨rfl, rfl, rfl, trivial⟩⟩, trivial⟩ rfl (gle rfl)) rfl (gle rfl) (gle rfl) (.inl rfl) (fun j hj => by cases hj) ?_
      refine DW.q rfl (ok_s2 (x := .tmp 22) (x' := .const ((Value.int IntKind.i64 0))) (VScal.one rfl) (VScal.one rfl) (fun ρ h1 h2 w => by go_simp; (try go_bits); with_reducible rfl) rfl) rfl rfl (gle rfl) (fun _ _ _ _ h => h) ?_
      refine DW.q rfl (ok_move (v := V.one (.sc _)) (.inr rfl) rfl) rfl rfl (gle rfl) (fun _ _ _ _ h => h) ?_
      refine DW.stores ?_
      refine SV.zend ?_
      refine SV.tn ?_
      refine SV.ret ?_
      apply SV.done (hf := Try.results97) (ht := rfl) (he := .inl rfl)
      case hr => exact (ResAll.cons (ResOk.tmp (ag := false) (xs := [.sc _]) rfl) ResAll.nil')
      case h2 => simp [two]
      refine ⟨rfl, ⟨?_, trivial⟩, trivial⟩ <;> (show some (T.lit (Value.bool _)) = some (T.lit (Value.bool _)); refine congrArg (fun z => some (T.lit (Value.bool z))) ?_; (rw [hno]; first | done | rfl | (rw [Bool.eq_iff_iff]; simp; done) | (simp; done) | (simp; exact List.length_eq_zero_iff.1 (by simpa using hc1))))
set_option maxRecDepth 100000 in
set_option maxHeartbeats 2000000 in
theorem vms_i (a b : List R) (hA : ∀ r ∈ a, r.wf) (hB : ∀ r ∈ b, r.wf) (hL : a.length + b.length ≤ 1000000000) : VC Try.prog 40 [(false, [.seq 72 ((a).map tRow)]), (false, [.seq 72 ((b).map tRow)])] false [(false, [.seq 72 ((Runs.merge2 a b).map tRow)])] := by
  refine VC.enter Try.func40 rfl Try.ntmps40 (gle rfl) fun E hE => ?_
  refine SV.seq' ?_
  refine SV.region ?_
  refine SV.op (OpL.ok (nb := 0) (ok_move (v := V.one (.sc _)) (.inr rfl) rfl) rfl (gle rfl)) rfl ?_
  refine SV.nil ?_
  refine SV.tn ?_
  refine SV.seq' ?_
  refine SV.region ?_
  refine SV.op (OpL.ok (nb := 0) (ok_move (v := V.one (.ro _)) (.inl rfl) rfl) rfl (gle rfl)) rfl ?_
  refine SV.op (OpL.ok (nb := 0) (ok_len (lf := .ro _) rfl elt_impl_Row.und rfl rfl) rfl (gle rfl)) rfl ?_
  refine SV.op (OpL.ok (nb := 0) (ok_move (v := V.one (.ro _)) (.inl rfl) rfl) rfl (gle rfl)) rfl ?_
  refine SV.op (OpL.ok (nb := 0) (ok_len (lf := .ro _) rfl elt_impl_Row.und rfl rfl) rfl (gle rfl)) rfl ?_
  refine SV.op (OpL.ok (nb := 0) (ok_s2 (v := .int .i64 ((a.length + b.length : Nat) : Int)) (x := .tmp 7) (x' := .tmp 9) (VScal.one rfl) (VScal.one rfl) (fun ρ h1 h2 w => by go_simp; rw [IntWalk.i64_left, IntWalk.wrap64_in _ ⟨by omega, by omega⟩]) rfl) rfl (gle rfl)) rfl ?_
  refine SV.op (OpMk.ok (ok_make0 (kk := 0) elt_impl_Row rfl rfl rfl rfl (by first | omega | (simp only [List.length_map]; omega) | (simp; done) | (simp; omega)) rfl (gle rfl))) rfl ?_
  refine SV.op (OpL.ok (nb := 0) (ok_move (v := V.one (.hd 0)) (.inr rfl) rfl) rfl (gle rfl)) rfl ?_
  refine SV.nil ?_
  refine SV.tn ?_
  refine SV.seq' ?_
  refine SV.block ?_
  refine SV.loopF (X := Nat × Nat × List R) (fun (σ : VS) z => (((((VS.nil.new (.seq 72 (z.2.2.map tRow))).put 0 (V.flat false [.ro (.seq 72 ((a.drop z.1).map tRow))])).put 1 (V.flat false [.ro (.seq 72 ((b.drop z.2.1).map tRow))])).put 4 (σ.tm 4)).put 5 (V.flat false [.hd 0]))) (fun z => z.1 ≤ a.length ∧ z.2.1 ≤ b.length ∧ z.2.2 ++ Runs.merge2 (a.drop z.1) (b.drop z.2.1) = Runs.merge2 a b) (fun z => (a.length - z.1) + (b.length - z.2.1)) ?_ ?_
  · skip
    refine SV.again (fun i => [0].getD i 0) (0, 0, []) (⟨Nat.zero_le _, Nat.zero_le _, rfl⟩) (pins hE rfl rfl) (VS.le.mk' (le_put (le_put (le_put (le_put (le_new le_nil) (V.le.keep (ag := false) (xs := [.ro _]) (ys := [.ro _]) rfl rfl ⟨(by first | rfl | (show Leaf.ro _ = Leaf.ro _; refine congrArg Leaf.ro (congrArg (T.seq _) ?_); (rw [hz]; first | done | rfl | (simp [List.map_drop, List.drop_drop, Nat.add_comm]; done) | (simp [List.map_drop, List.map_take, List.drop_drop, Nat.add_comm]; rw [List.take_of_length_le (by simp), List.tail_drop])))), trivial⟩)) (V.le.keep (ag := false) (xs := [.ro _]) (ys := [.ro _]) rfl rfl ⟨(by first | rfl | (show Leaf.ro _ = Leaf.ro _; refine congrArg Leaf.ro (congrArg (T.seq _) ?_); (rw [hz]; first | done | rfl | (simp [List.map_drop, List.drop_drop, Nat.add_comm]; done) | (simp [List.map_drop, List.map_take, List.drop_drop, Nat.add_comm]; rw [List.take_of_length_le (by simp), List.tail_drop])))), trivial⟩)) (V.le.keep (ag := false) (xs := [.sc _]) (ys := [.sc _]) rfl rfl ⟨rfl, trivial⟩)) (V.le.keep (ag := false) (xs := [.hd 0]) (ys := [.hd 0]) rfl rfl ⟨⟨rfl, (gle rfl), (gle rfl)⟩, trivial⟩)) trivial ⟨.inr ⟨_, _, rfl, ?ob1_0, (gle rfl)⟩, trivial⟩ (new_ob nil_ob) (fun i j hi hj e => inj_list (l := [0]) (by decide) i j hi hj e))
    case ob1_0 =>
      show some (T.seq _ _) = some (T.seq _ _)
      rfl
  · rintro ⟨i, k, o⟩ ⟨hi, hk, ho⟩
    dsimp only at hi hk ho
    have hol : o.length + (a.length - i + (b.length - k)) = a.length + b.length := by have h := congrArg List.length ho; rw [List.length_append, Runs.merge2_length, Runs.merge2_length, List.length_drop, List.length_drop] at h; exact h
    have hnx := vnext_i (a.drop i) (b.drop k)
    refine SV.seq' ?_
    refine SV.seq' ?_
    refine SV.region ?_
    refine SV.op (OpL.ok (nb := 0) (ok_move (v := V.one (.ro _)) (.inl rfl) rfl) rfl (gle rfl)) rfl ?_
    refine SV.op (OpL.ok (nb := 0) (ok_len (lf := .ro _) rfl elt_impl_Row.und rfl rfl) rfl (gle rfl)) rfl ?_
    refine SV.op (OpL.ok (nb := 0) (ok_s2 (x := .tmp 13) (x' := .const ((Value.int IntKind.i64 0))) (VScal.one rfl) (VScal.one rfl) (fun ρ h1 h2 w => by go_simp; (try go_bits); with_reducible rfl) rfl) rfl (gle rfl)) rfl ?_
    refine SV.op (OpL.ok (nb := 0) (ok_move (v := V.one (.sc _)) (.inl rfl) rfl) rfl (gle rfl)) rfl ?_
    refine SV.split (d := 15) rfl (fun hg0 => ?_) (fun hg0 => ?_)
    · skip   -- g0.T
      have hor : i < a.length ∨ k < b.length := .inl (by simp at hg0; omega)
      refine SV.opN rfl rfl rfl (gle rfl) rfl rfl rfl (gle rfl) ?_
      refine SV.opN rfl rfl rfl (gle rfl) rfl rfl rfl (gle rfl) ?_
      refine SV.opN rfl rfl rfl (gle rfl) rfl rfl rfl (gle rfl) ?_
      refine SV.op (OpL.ok (nb := 0) (ok_pickT (v := V.one (.sc _)) rfl rfl rfl) rfl (gle rfl)) rfl ?_
      refine SV.nil ?_
      refine SV.tn ?_
      refine SV.cond rfl (fun hc0 => ?_) (fun hc0 => ?_)
      · skip   -- c0.T
        refine SV.skip ?_
        refine SV.tn ?_
        refine SV.block ?_
        refine SV.seq' ?_
        refine SV.region ?_
        refine SV.op (OpL.ok (nb := 0) (ok_move (v := V.one (.ro _)) (.inl rfl) rfl) rfl (gle rfl)) rfl ?_
        refine SV.op (OpL.ok (nb := 0) (ok_move (v := V.one (.ro _)) (.inl rfl) rfl) rfl (gle rfl)) rfl ?_
        refine SV.op (OpMk.ok (ok_call (ls := [(false, [.sc _])]) rfl rfl ⟨_, _, Try.func97, rfl, by decide⟩ (hnx) ⟨⟨[.ro _], rfl, ⟨rfl, trivial⟩⟩, ⟨[.ro _], rfl, ⟨rfl, trivial⟩⟩, trivial⟩ rfl (gle rfl))) rfl ?_
        refine SV.nil ?_
        refine SV.tn ?_
        refine SV.cond rfl (fun hc1 => ?_) (fun hc1 => ?_)
        · skip   -- c1.T
          have hnt : nextOf (a.drop i) (b.drop k) = true := by simpa using hc1
          obtain ⟨x, hx, hil, hstep⟩ := next_left hnt hor
          have hx0 : (a.drop i)[0]? = some x := by rw [List.getElem?_drop, Nat.add_zero]; exact hx
          obtain ⟨z', hz⟩ : ∃ z' : Nat × Nat × List R, z' = (i + 1, k, o ++ [x]) := ⟨_, rfl⟩
          have hz2 : (z'.1 ≤ a.length ∧ z'.2.1 ≤ b.length ∧ z'.2.2 ++ Runs.merge2 (a.drop z'.1) (b.drop z'.2.1) = Runs.merge2 a b) ∧ (a.length - z'.1) + (b.length - z'.2.1) < (a.length - i) + (b.length - k) := by
            rw [hz]
            refine ⟨⟨by show i + 1 ≤ a.length; omega, by show k ≤ b.length; omega, ?_⟩, by show (a.length - (i + 1)) + (b.length - k) < _; omega⟩
            show (o ++ [x]) ++ _ = _
            rw [List.append_assoc, ← ho, hstep]
            rfl
          refine SV.seq' ?_
          refine SV.region ?_
          refine SV.op (OpL.ok (nb := 0) (ok_move (v := V.one (.hd 0)) (.inl rfl) rfl) rfl (gle rfl)) rfl ?_
          refine SV.op (OpL.ok (nb := 0) (ok_move (v := V.one (.ro _)) (.inl rfl) rfl) rfl (gle rfl)) rfl ?_
          refine SV.op (OpL.ok (nb := 0) (ok_index (n := 3) (lf := .ro _) rfl elt_impl_Row.und sz_impl_Row rfl rfl rfl (map_at hx0)) rfl (gle rfl)) rfl ?_
          refine SV.op (OpL.ok (nb := 0) (ok_load_rp (ag := true) (m := 3) (ys := [.sc _, .sc _, .sc _]) rfl rfl agg_impl_Row sz_impl_Row (fun h => by cases h) (gle rfl) rfl) rfl (gle rfl)) rfl ?_
          refine SV.op (OpMk.ok (ok_lit1 (kk := 1) elt_impl_Row (ag := true) (xs := [.sc _, .sc _, .sc _]) rfl rfl rfl rfl (fun h => by cases h) (outs_c rfl (outs_c rfl (outs_c rfl outs_n))) (by simp [two]) rfl (gle rfl))) rfl ?_
          refine SV.op (OpMk.ok (ok_append (kk := 2) elt_impl_Row (ls := .hd 0) (lx := .hd 1) rfl rfl rfl rfl rfl rfl (by intro i h1 h2; first | (cases h1; done) | (cases h1; cases h2)) (by first | omega | (simp only [List.length_map]; omega) | (simp; done) | (simp; omega)) rfl (gle rfl))) rfl ?_
          refine SV.op (OpL.ok (nb := 0) (ok_move (v := V.one (.hd 2)) (.inr rfl) rfl) rfl (gle rfl)) rfl ?_
          refine SV.nil ?_
          refine SV.tn ?_
          refine SV.region ?_
          refine SV.op (OpL.ok (nb := 0) (ok_move (v := V.one (.ro _)) (.inl rfl) rfl) rfl (gle rfl)) rfl ?_
          refine SV.op (OpL.ok (nb := 0) (ok_slice (l := 1) (h := ((a.drop i).map tRow).length) (lf := .ro _) (yy := .ro _) rfl rfl elt_impl_Row.und sz_impl_Row rfl rfl ⟨_, rfl⟩ rfl (by simp; omega) (Nat.le_refl _)) rfl (gle rfl)) rfl ?_
          refine SV.op (OpL.ok (nb := 0) (ok_move (v := V.one (.ro _)) (.inr rfl) rfl) rfl (gle rfl)) rfl ?_
          refine SV.nil ?_
          refine SV.bn ?_
          refine SV.tn ?_
          refine SV.again (fun i => [2].getD i 0) (z') (hz2) (pins hE rfl rfl) (VS.le.mk' (le_put (le_put (le_put (le_put (le_new le_nil) (V.le.keep (ag := false) (xs := [.ro _]) (ys := [.ro _]) rfl rfl ⟨(by first | rfl | (show Leaf.ro _ = Leaf.ro _; refine congrArg Leaf.ro (congrArg (T.seq _) ?_); (rw [hz]; first | done | rfl | (simp [List.map_drop, List.drop_drop, Nat.add_comm]; done) | (simp [List.map_drop, List.map_take, List.drop_drop, Nat.add_comm]; rw [List.take_of_length_le (by simp), List.tail_drop])))), trivial⟩)) (V.le.keep (ag := false) (xs := [.ro _]) (ys := [.ro _]) rfl rfl ⟨(by first | rfl | (show Leaf.ro _ = Leaf.ro _; refine congrArg Leaf.ro (congrArg (T.seq _) ?_); (rw [hz]; first | done | rfl | (simp [List.map_drop, List.drop_drop, Nat.add_comm]; done) | (simp [List.map_drop, List.map_take, List.drop_drop, Nat.add_comm]; rw [List.take_of_length_le (by simp), List.tail_drop])))), trivial⟩)) (V.le.keep (ag := false) (xs := [.sc _]) (ys := [.sc _]) rfl rfl ⟨rfl, trivial⟩)) (V.le.keep (ag := false) (xs := [.hd 2]) (ys := [.hd 0]) rfl rfl ⟨⟨rfl, (gle rfl), (gle rfl)⟩, trivial⟩)) trivial ⟨.inr ⟨_, _, rfl, ?ob2_0, (gle rfl)⟩, trivial⟩ (new_ob nil_ob) (fun i j hi hj e => inj_list (l := [2]) (by decide) i j hi hj e))
          case ob2_0 =>
            show some (T.seq _ _) = some (T.seq _ _)
            rw [hz]; first | done | rfl | (simp only [List.map_append]; rfl) | (simp [tRow]; done)
        · skip   -- c1.F
          have hnt : nextOf (a.drop i) (b.drop k) = false := by simpa using hc1
          obtain ⟨y, hy, hkl, hstep⟩ := next_right hnt hor
          have hy0 : (b.drop k)[0]? = some y := by rw [List.getElem?_drop, Nat.add_zero]; exact hy
          obtain ⟨z', hz⟩ : ∃ z' : Nat × Nat × List R, z' = (i, k + 1, o ++ [y]) := ⟨_, rfl⟩
          have hz2 : (z'.1 ≤ a.length ∧ z'.2.1 ≤ b.length ∧ z'.2.2 ++ Runs.merge2 (a.drop z'.1) (b.drop z'.2.1) = Runs.merge2 a b) ∧ (a.length - z'.1) + (b.length - z'.2.1) < (a.length - i) + (b.length - k) := by
            rw [hz]
            refine ⟨⟨by show i ≤ a.length; omega, by show k + 1 ≤ b.length; omega, ?_⟩, by show (a.length - i) + (b.length - (k + 1)) < _; omega⟩
            show (o ++ [y]) ++ _ = _
            rw [List.append_assoc, ← ho, hstep]
            rfl
          refine SV.seq' ?_
          refine SV.region ?_
          refine SV.op (OpL.ok (nb := 0) (ok_move (v := V.one (.hd 0)) (.inl rfl) rfl) rfl (gle rfl)) rfl ?_
          refine SV.op (OpL.ok (nb := 0) (ok_move (v := V.one (.ro _)) (.inl rfl) rfl) rfl (gle rfl)) rfl ?_
          refine SV.op (OpL.ok (nb := 0) (ok_index (n := 3) (lf := .ro _) rfl elt_impl_Row.und sz_impl_Row rfl rfl rfl (map_at hy0)) rfl (gle rfl)) rfl ?_
          refine SV.op (OpL.ok (nb := 0) (ok_load_rp (ag := true) (m := 3) (ys := [.sc _, .sc _, .sc _]) rfl rfl agg_impl_Row sz_impl_Row (fun h => by cases h) (gle rfl) rfl) rfl (gle rfl)) rfl ?_
          refine SV.op (OpMk.ok (ok_lit1 (kk := 1) elt_impl_Row (ag := true) (xs := [.sc _, .sc _, .sc _]) rfl rfl rfl rfl (fun h => by cases h) (outs_c rfl (outs_c rfl (outs_c rfl outs_n))) (by simp [two]) rfl (gle rfl))) rfl ?_
          refine SV.op (OpMk.ok (ok_append (kk := 2) elt_impl_Row (ls := .hd 0) (lx := .hd 1) rfl rfl rfl rfl rfl rfl (by intro i h1 h2; first | (cases h1; done) | (cases h1; cases h2)) (by first | omega | (simp only [List.length_map]; omega) | (simp; done) | (simp; omega)) rfl (gle rfl))) rfl ?_
          refine SV.op (OpL.ok (nb := 0) (ok_move (v := V.one (.hd 2)) (.inr rfl) rfl) rfl (gle rfl)) rfl ?_
          refine SV.nil ?_
          refine SV.tn ?_
          refine SV.region ?_
          refine SV.op (OpL.ok (nb := 0) (ok_move (v := V.one (.ro _)) (.inl rfl) rfl) rfl (gle rfl)) rfl ?_
          refine SV.op (OpL.ok (nb := 0) (ok_slice (l := 1) (h := ((b.drop k).map tRow).length) (lf := .ro _) (yy := .ro _) rfl rfl elt_impl_Row.und sz_impl_Row rfl rfl ⟨_, rfl⟩ rfl (by simp; omega) (Nat.le_refl _)) rfl (gle rfl)) rfl ?_
          refine SV.op (OpL.ok (nb := 0) (ok_move (v := V.one (.ro _)) (.inr rfl) rfl) rfl (gle rfl)) rfl ?_
          refine SV.nil ?_
          refine SV.bn ?_
          refine SV.tn ?_
          refine SV.again (fun i => [2].getD i 0) (z') (hz2) (pins hE rfl rfl) (VS.le.mk' (le_put (le_put (le_put (le_put (le_new le_nil) (V.le.keep (ag := false) (xs := [.ro _]) (ys := [.ro _]) rfl rfl ⟨(by first | rfl | (show Leaf.ro _ = Leaf.ro _; refine congrArg Leaf.ro (congrArg (T.seq _) ?_); (rw [hz]; first | done | rfl | (simp [List.map_drop, List.drop_drop, Nat.add_comm]; done) | (simp [List.map_drop, List.map_take, List.drop_drop, Nat.add_comm]; rw [List.take_of_length_le (by simp), List.tail_drop])))), trivial⟩)) (V.le.keep (ag := false) (xs := [.ro _]) (ys := [.ro _]) rfl rfl ⟨(by first | rfl | (show Leaf.ro _ = Leaf.ro _; refine congrArg Leaf.ro (congrArg (T.seq _) ?_); (rw [hz]; first | done | rfl | (simp [List.map_drop, List.drop_drop, Nat.add_comm]; done) | (simp [List.map_drop, List.map_take, List.drop_drop, Nat.add_comm]; rw [List.take_of_length_le (by simp), List.tail_drop])))), trivial⟩)) (V.le.keep (ag := false) (xs := [.sc _]) (ys := [.sc _]) rfl rfl ⟨rfl, trivial⟩)) (V.le.keep (ag := false) (xs := [.hd 2]) (ys := [.hd 0]) rfl rfl ⟨⟨rfl, (gle rfl), (gle rfl)⟩, trivial⟩)) trivial ⟨.inr ⟨_, _, rfl, ?ob3_0, (gle rfl)⟩, trivial⟩ (new_ob nil_ob) (fun i j hi hj e => inj_list (l := [2]) (by decide) i j hi hj e))
          case ob3_0 =>
            show some (T.seq _ _) = some (T.seq _ _)
            rw [hz]; first | done | rfl | (simp only [List.map_append]; rfl) | (simp [tRow]; done)
      · skip   -- c0.F
        cases hc0
    · skip   -- g0.F
      refine SV.opY (OpL.ok (nb := 0) (ok_move (v := V.one (.ro _)) (.inl rfl) rfl) rfl (gle rfl)) rfl rfl rfl (gle rfl) rfl rfl ?_
      refine SV.opY (OpL.ok (nb := 0) (ok_len (lf := .ro _) rfl elt_impl_Row.und rfl rfl) rfl (gle rfl)) rfl rfl rfl (gle rfl) rfl rfl ?_
      refine SV.opY (OpL.ok (nb := 0) (ok_s2 (x := .tmp 17) (x' := .const ((Value.int IntKind.i64 0))) (VScal.one rfl) (VScal.one rfl) (fun ρ h1 h2 w => by go_simp; (try go_bits); with_reducible rfl) rfl) rfl (gle rfl)) rfl rfl rfl (gle rfl) rfl rfl ?_
      refine SV.op (OpL.ok (nb := 0) (ok_pickF (v := V.one (.sc _)) rfl rfl rfl) rfl (gle rfl)) rfl ?_
      refine SV.nil ?_
      refine SV.tn ?_
      refine SV.cond rfl (fun hc2 => ?_) (fun hc2 => ?_)
      · skip   -- c2.T
        have hor : i < a.length ∨ k < b.length := .inr (by simp at hc2; omega)
        refine SV.skip ?_
        refine SV.tn ?_
        refine SV.block ?_
        refine SV.seq' ?_
        refine SV.region ?_
        refine SV.op (OpL.ok (nb := 0) (ok_move (v := V.one (.ro _)) (.inl rfl) rfl) rfl (gle rfl)) rfl ?_
        refine SV.op (OpL.ok (nb := 0) (ok_move (v := V.one (.ro _)) (.inl rfl) rfl) rfl (gle rfl)) rfl ?_
        refine SV.op (OpMk.ok (ok_call (ls := [(false, [.sc _])]) rfl rfl ⟨_, _, Try.func97, rfl, by decide⟩ (hnx) ⟨⟨[.ro _], rfl, ⟨rfl, trivial⟩⟩, ⟨[.ro _], rfl, ⟨rfl, trivial⟩⟩, trivial⟩ rfl (gle rfl))) rfl ?_
        refine SV.nil ?_
        refine SV.tn ?_
        refine SV.cond rfl (fun hc3 => ?_) (fun hc3 => ?_)
        · skip   -- c3.T
          have hnt : nextOf (a.drop i) (b.drop k) = true := by simpa using hc3
          obtain ⟨x, hx, hil, hstep⟩ := next_left hnt hor
          have hx0 : (a.drop i)[0]? = some x := by rw [List.getElem?_drop, Nat.add_zero]; exact hx
          obtain ⟨z', hz⟩ : ∃ z' : Nat × Nat × List R, z' = (i + 1, k, o ++ [x]) := ⟨_, rfl⟩
          have hz2 : (z'.1 ≤ a.length ∧ z'.2.1 ≤ b.length ∧ z'.2.2 ++ Runs.merge2 (a.drop z'.1) (b.drop z'.2.1) = Runs.merge2 a b) ∧ (a.length - z'.1) + (b.length - z'.2.1) < (a.length - i) + (b.length - k) := by
            rw [hz]
            refine ⟨⟨by show i + 1 ≤ a.length; omega, by show k ≤ b.length; omega, ?_⟩, by show (a.length - (i + 1)) + (b.length - k) < _; omega⟩
            show (o ++ [x]) ++ _ = _
            rw [List.append_assoc, ← ho, hstep]
            rfl
          refine SV.seq' ?_
          refine SV.region ?_
          refine SV.op (OpL.ok (nb := 0) (ok_move (v := V.one (.hd 0)) (.inl rfl) rfl) rfl (gle rfl)) rfl ?_
          refine SV.op (OpL.ok (nb := 0) (ok_move (v := V.one (.ro _)) (.inl rfl) rfl) rfl (gle rfl)) rfl ?_
          refine SV.op (OpL.ok (nb := 0) (ok_index (n := 3) (lf := .ro _) rfl elt_impl_Row.und sz_impl_Row rfl rfl rfl (map_at hx0)) rfl (gle rfl)) rfl ?_
          refine SV.op (OpL.ok (nb := 0) (ok_load_rp (ag := true) (m := 3) (ys := [.sc _, .sc _, .sc _]) rfl rfl agg_impl_Row sz_impl_Row (fun h => by cases h) (gle rfl) rfl) rfl (gle rfl)) rfl ?_
          refine SV.op (OpMk.ok (ok_lit1 (kk := 1) elt_impl_Row (ag := true) (xs := [.sc _, .sc _, .sc _]) rfl rfl rfl rfl (fun h => by cases h) (outs_c rfl (outs_c rfl (outs_c rfl outs_n))) (by simp [two]) rfl (gle rfl))) rfl ?_
          refine SV.op (OpMk.ok (ok_append (kk := 2) elt_impl_Row (ls := .hd 0) (lx := .hd 1) rfl rfl rfl rfl rfl rfl (by intro i h1 h2; first | (cases h1; done) | (cases h1; cases h2)) (by first | omega | (simp only [List.length_map]; omega) | (simp; done) | (simp; omega)) rfl (gle rfl))) rfl ?_
          refine SV.op (OpL.ok (nb := 0) (ok_move (v := V.one (.hd 2)) (.inr rfl) rfl) rfl (gle rfl)) rfl ?_
          refine SV.nil ?_
          refine SV.tn ?_
          refine SV.region ?_
          refine SV.op (OpL.ok (nb := 0) (ok_move (v := V.one (.ro _)) (.inl rfl) rfl) rfl (gle rfl)) rfl ?_
          refine SV.op (OpL.ok (nb := 0) (ok_slice (l := 1) (h := ((a.drop i).map tRow).length) (lf := .ro _) (yy := .ro _) rfl rfl elt_impl_Row.und sz_impl_Row rfl rfl ⟨_, rfl⟩ rfl (by simp; omega) (Nat.le_refl _)) rfl (gle rfl)) rfl ?_
          refine SV.op (OpL.ok (nb := 0) (ok_move (v := V.one (.ro _)) (.inr rfl) rfl) rfl (gle rfl)) rfl ?_
          refine SV.nil ?_
          refine SV.bn ?_
          refine SV.tn ?_
          refine SV.again (fun i => [2].getD i 0) (z') (hz2) (pins hE rfl rfl) (VS.le.mk' (le_put (le_put (le_put (le_put (le_new le_nil) (V.le.keep (ag := false) (xs := [.ro _]) (ys := [.ro _]) rfl rfl ⟨(by first | rfl | (show Leaf.ro _ = Leaf.ro _; refine congrArg Leaf.ro (congrArg (T.seq _) ?_); (rw [hz]; first | done | rfl | (simp [List.map_drop, List.drop_drop, Nat.add_comm]; done) | (simp [List.map_drop, List.map_take, List.drop_drop, Nat.add_comm]; rw [List.take_of_length_le (by simp), List.tail_drop])))), trivial⟩)) (V.le.keep (ag := false) (xs := [.ro _]) (ys := [.ro _]) rfl rfl ⟨(by first | rfl | (show Leaf.ro _ = Leaf.ro _; refine congrArg Leaf.ro (congrArg (T.seq _) ?_); (rw [hz]; first | done | rfl | (simp [List.map_drop, List.drop_drop, Nat.add_comm]; done) | (simp [List.map_drop, List.map_take, List.drop_drop, Nat.add_comm]; rw [List.take_of_length_le (by simp), List.tail_drop])))), trivial⟩)) (V.le.keep (ag := false) (xs := [.sc _]) (ys := [.sc _]) rfl rfl ⟨rfl, trivial⟩)) (V.le.keep (ag := false) (xs := [.hd 2]) (ys := [.hd 0]) rfl rfl ⟨⟨rfl, (gle rfl), (gle rfl)⟩, trivial⟩)) trivial ⟨.inr ⟨_, _, rfl, ?ob4_0, (gle rfl)⟩, trivial⟩ (new_ob nil_ob) (fun i j hi hj e => inj_list (l := [2]) (by decide) i j hi hj e))
          case ob4_0 =>
            show some (T.seq _ _) = some (T.seq _ _)
            rw [hz]; first | done | rfl | (simp only [List.map_append]; rfl) | (simp [tRow]; done)
        · skip   -- c3.F
          have hnt : nextOf (a.drop i) (b.drop k) = false := by simpa using hc3
          obtain ⟨y, hy, hkl, hstep⟩ := next_right hnt hor
          have hy0 : (b.drop k)[0]? = some y := by rw [List.getElem?_drop, Nat.add_zero]; exact hy
          obtain ⟨z', hz⟩ : ∃ z' : Nat × Nat × List R, z' = (i, k + 1, o ++ [y]) := ⟨_, rfl⟩
          have hz2 : (z'.1 ≤ a.length ∧ z'.2.1 ≤ b.length ∧ z'.2.2 ++ Runs.merge2 (a.drop z'.1) (b.drop z'.2.1) = Runs.merge2 a b) ∧ (a.length - z'.1) + (b.length - z'.2.1) < (a.length - i) + (b.length - k) := by
            rw [hz]
            refine ⟨⟨by show i ≤ a.length; omega, by show k + 1 ≤ b.length; omega, ?_⟩, by show (a.length - i) + (b.length - (k + 1)) < _; omega⟩
            show (o ++ [y]) ++ _ = _
            rw [List.append_assoc, ← ho, hstep]
            rfl
          refine SV.seq' ?_
          refine SV.region ?_
          refine SV.op (OpL.ok (nb := 0) (ok_move (v := V.one (.hd 0)) (.inl rfl) rfl) rfl (gle rfl)) rfl ?_
          refine SV.op (OpL.ok (nb := 0) (ok_move (v := V.one (.ro _)) (.inl rfl) rfl) rfl (gle rfl)) rfl ?_
          refine SV.op (OpL.ok (nb := 0) (ok_index (n := 3) (lf := .ro _) rfl elt_impl_Row.und sz_impl_Row rfl rfl rfl (map_at hy0)) rfl (gle rfl)) rfl ?_
          refine SV.op (OpL.ok (nb := 0) (ok_load_rp (ag := true) (m := 3) (ys := [.sc _, .sc _, .sc _]) rfl rfl agg_impl_Row sz_impl_Row (fun h => by cases h) (gle rfl) rfl) rfl (gle rfl)) rfl ?_
          refine SV.op (OpMk.ok (ok_lit1 (kk := 1) elt_impl_Row (ag := true) (xs := [.sc _, .sc _, .sc _]) rfl rfl rfl rfl (fun h => by cases h) (outs_c rfl (outs_c rfl (outs_c rfl outs_n))) (by simp [two]) rfl (gle rfl))) rfl ?_
          refine SV.op (OpMk.ok (ok_append (kk := 2) elt_impl_Row (ls := .hd 0) (lx := .hd 1) rfl rfl rfl rfl rfl rfl (by intro i h1 h2; first | (cases h1; done) | (cases h1; cases h2)) (by first | omega | (simp only [List.length_map]; omega) | (simp; done) | (simp; omega)) rfl (gle rfl))) rfl ?_
          refine SV.op (OpL.ok (nb := 0) (ok_move (v := V.one (.hd 2)) (.inr rfl) rfl) rfl (gle rfl)) rfl ?_
          refine SV.nil ?_
          refine SV.tn ?_
          refine SV.region ?_
          refine SV.op (OpL.ok (nb := 0) (ok_move (v := V.one (.ro _)) (.inl rfl) rfl) rfl (gle rfl)) rfl ?_
          refine SV.op (OpL.ok (nb := 0) (ok_slice (l := 1) (h := ((b.drop k).map tRow).length) (lf := .ro _) (yy := .ro _) rfl rfl elt_impl_Row.und sz_impl_Row rfl rfl ⟨_, rfl⟩ rfl (by simp; omega) (Nat.le_refl _)) rfl (gle rfl)) rfl ?_
          refine SV.op (OpL.ok (nb := 0) (ok_move (v := V.one (.ro _)) (.inr rfl) rfl) rfl (gle rfl)) rfl ?_
          refine SV.nil ?_
          refine SV.bn ?_
          refine SV.tn ?_
          refine SV.again (fun i => [2].getD i 0) (z') (hz2) (pins hE rfl rfl) (VS.le.mk' (le_put (le_put (le_put (le_put (le_new le_nil) (V.le.keep (ag := false) (xs := [.ro _]) (ys := [.ro _]) rfl rfl ⟨(by first | rfl | (show Leaf.ro _ = Leaf.ro _; refine congrArg Leaf.ro (congrArg (T.seq _) ?_); (rw [hz]; first | done | rfl | (simp [List.map_drop, List.drop_drop, Nat.add_comm]; done) | (simp [List.map_drop, List.map_take, List.drop_drop, Nat.add_comm]; rw [List.take_of_length_le (by simp), List.tail_drop])))), trivial⟩)) (V.le.keep (ag := false) (xs := [.ro _]) (ys := [.ro _]) rfl rfl ⟨(by first | rfl | (show Leaf.ro _ = Leaf.ro _; refine congrArg Leaf.ro (congrArg (T.seq _) ?_); (rw [hz]; first | done | rfl | (simp [List.map_drop, List.drop_drop, Nat.add_comm]; done) | (simp [List.map_drop, List.map_take, List.drop_drop, Nat.add_comm]; rw [List.take_of_length_le (by simp), List.tail_drop])))), trivial⟩)) (V.le.keep (ag := false) (xs := [.sc _]) (ys := [.sc _]) rfl rfl ⟨rfl, trivial⟩)) (V.le.keep (ag := false) (xs := [.hd 2]) (ys := [.hd 0]) rfl rfl ⟨⟨rfl, (gle rfl), (gle rfl)⟩, trivial⟩)) trivial ⟨.inr ⟨_, _, rfl, ?ob5_0, (gle rfl)⟩, trivial⟩ (new_ob nil_ob) (fun i j hi hj e => inj_list (l := [2]) (by decide) i j hi hj e))
          case ob5_0 =>
            show some (T.seq _ _) = some (T.seq _ _)
            rw [hz]; first | done | rfl | (simp only [List.map_append]; rfl) | (simp [tRow]; done)
      · skip   -- c2.F
        have hkl : b.drop k = [] := List.drop_eq_nil_of_le (by simp at hc2; omega)
        have hil : a.drop i = [] := List.drop_eq_nil_of_le (by simp at hg0; omega)
        have hend : o = Runs.merge2 a b := by rw [← ho, hkl, hil, Runs.merge2_nil, List.append_nil]
        refine SV.exit ?_
        refine SV.te ?_
        refine SV.te ?_
        refine SV.bh ?_
        refine SV.tn ?_
        refine SV.seq' ?_
        refine SV.region ?_
        refine SV.op (OpL.ok (nb := 0) (ok_move (v := V.one (.hd 0)) (.inl rfl) rfl) rfl (gle rfl)) rfl ?_
        refine SV.op (OpL.ok (nb := 0) (ok_move (v := V.one (.hd 0)) (.inr rfl) rfl) rfl (gle rfl)) rfl ?_
        refine SV.nil ?_
        refine SV.tn ?_
        refine SV.ret ?_
        apply SV.done (hf := Try.results40) (ht := rfl) (he := .inl rfl)
        case hr => exact (ResAll.cons (ResOk.tmp (ag := false) (xs := [.hd 0]) rfl) ResAll.nil')
        case h2 => simp [two]
        refine ⟨rfl, ⟨?_, trivial⟩, trivial⟩ <;> (show some (T.seq _ _) = some (T.seq _ _); refine congrArg (fun z => some (T.seq _ z)) ?_; rw [← hend]; first | done | rfl | (simp; done))
end Go.Proofs.Ytpnbnbhifpcelaa
