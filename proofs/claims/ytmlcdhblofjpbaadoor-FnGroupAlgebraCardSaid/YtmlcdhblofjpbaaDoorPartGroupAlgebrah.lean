/- Texts joined: Comb DrawG1 VQ MergeS RefS. -/
import Derived.Test.YtmlcdhblofjpbaaDoorPartGroupAlgebrag
/- Two groups combined, the group of a row: told by trees. -/
namespace Go.Proofs.YtmlcdhblofjpbaaDoor
open Go Go.RowKit V
set_option linter.unusedVariables false
set_option maxRecDepth 100000 in
set_option maxHeartbeats 2000000 in
theorem vcomb_s (a b : GroupD) : VC Tryd.prog 23 [(true, tGroup a), (true, tGroup b)] false [(true, tGroup (GroupD.comb a b))] := by
  refine VC.enter Tryd.func23 rfl Tryd.ntmps23 (Nat.le_of_ble_eq_true rfl) fun E hE => ?_
  refine SV.seq' ?_
  refine SV.region ?_
  refine SV.op (OpMk.ok (ok_box (kk := 0) (ag := true) (xs := [.sc _, .sc _, .sc _, .sc _, .sc _]) rfl rfl rfl (fun h => by cases h) rfl rfl (Nat.le_of_ble_eq_true rfl))) rfl ?_
  refine SV.op (OpMk.ok (ok_box (kk := 1) (ag := true) (xs := [.sc _, .sc _, .sc _, .sc _, .sc _]) rfl rfl rfl (fun h => by cases h) rfl rfl (Nat.le_of_ble_eq_true rfl))) rfl ?_
  refine SV.op (OpMk.ok (ok_alloc (kk := 2) (xs := [.sc _, .sc _, .sc _, .sc _, .sc _]) rfl rfl zero_impl_Group ⟨rfl, rfl, rfl, rfl, rfl, rfl, rfl, rfl, rfl, rfl, trivial⟩ rfl (Nat.le_of_ble_eq_true rfl))) rfl ?_
  refine SV.nil ?_
  refine SV.tn ?_
  refine SV.seq' ?_
  refine SV.seq' ?_
  refine SV.region ?_
  refine SV.op (OpL.ok (nb := 3) (ok_field_bp (b := 0) (o' := 0) (off := 0) rfl rfl fld_impl_Group_0) rfl (Nat.le_of_ble_eq_true rfl)) rfl ?_
  refine SV.op (OpL.ok (nb := 3) (ok_load_bp (b := 0) (i := 0) (ag := false) (m := 1) (ys := [.sc _]) rfl rfl rfl agg_int sz_int (fun _ => rfl) rfl rfl (Nat.le_of_ble_eq_true rfl)) rfl (Nat.le_of_ble_eq_true rfl)) rfl ?_
  refine SV.op (OpL.ok (nb := 3) (ok_field_bp (b := 1) (o' := 0) (off := 0) rfl rfl fld_impl_Group_0) rfl (Nat.le_of_ble_eq_true rfl)) rfl ?_
  refine SV.op (OpL.ok (nb := 3) (ok_load_bp (b := 1) (i := 0) (ag := false) (m := 1) (ys := [.sc _]) rfl rfl rfl agg_int sz_int (fun _ => rfl) rfl rfl (Nat.le_of_ble_eq_true rfl)) rfl (Nat.le_of_ble_eq_true rfl)) rfl ?_
  refine SV.op (OpL.ok (nb := 3) (ok_s2 (x := .tmp 6) (x' := .tmp 8) (VScal.one rfl) (VScal.one rfl) (fun ρ h1 h2 w => by go_simp; (try go_bits); with_reducible rfl) rfl) rfl (Nat.le_of_ble_eq_true rfl)) rfl ?_
  refine SV.nil ?_
  refine SV.tn ?_
  refine SV.cond rfl (fun hc0 => ?_) (fun hc0 => ?_)
  · skip   -- c0.T
    have ho : GroupD.comb a b = a := by unfold GroupD.comb; rw [if_neg (by simpa using hc0)]
    refine SV.seq' ?_
    refine SV.region ?_
    refine SV.op (OpL.ok (nb := 3) (ok_load_bp (b := 0) (i := 0) (ag := true) (m := 5) (ys := [.sc _, .sc _, .sc _, .sc _, .sc _]) rfl rfl rfl agg_impl_Group sz_impl_Group (fun h => by cases h) rfl rfl (Nat.le_of_ble_eq_true rfl)) rfl (Nat.le_of_ble_eq_true rfl)) rfl ?_
    refine SV.op (ok_store_bp (b := 2) (i := 0) (m := 5) (ag := true) (zs := [.sc _, .sc _, .sc _, .sc _, .sc _]) (ys := [.sc _, .sc _, .sc _, .sc _, .sc _]) rfl rfl rfl rfl sz_impl_Group (fun h => by cases h) rfl (Nat.le_of_ble_eq_true rfl) rfl rfl rfl) rfl ?_
    refine SV.nil ?_
    refine SV.tn ?_
    refine SV.ret ?_
    refine SV.tr ?_
    apply SV.done (hf := Tryd.results23) (ht := rfl) (he := .inl rfl)
    case hr => exact (ResAll.cons (ResOk.cell (b := 2) (ag := true) (xs := [.sc _, .sc _, .sc _, .sc _, .sc _]) rfl rfl agg_impl_Group sz_impl_Group (fun h => by cases h)) ResAll.nil')
    case h2 => simp [two]
    refine ⟨rfl, ⟨?_, ?_, ?_, ?_, ?_, trivial⟩, trivial⟩ <;> (rw [ho]; first | rfl | (show some (T.lit (Value.int .i64 _)) = some (T.lit (Value.int .i64 _)); refine congrArg (fun z => some (T.lit (Value.int .i64 z))) ?_; first | rfl | (dsimp only; omega)))
  · skip   -- c0.F
    have ho : GroupD.comb a b = ⟨a.fKey, wrap64 (a.fCount + b.fCount), wrap64 (a.fSum + b.fSum), min a.fMin b.fMin, max a.fMax b.fMax⟩ := by unfold GroupD.comb; rw [if_pos (by simpa using hc0)]
    refine SV.skip ?_
    refine SV.tn ?_
    refine SV.seq' ?_
    refine SV.region ?_
    refine SV.op (OpL.ok (nb := 3) (ok_field_bp (b := 0) (o' := 0) (off := 0) rfl rfl fld_impl_Group_0) rfl (Nat.le_of_ble_eq_true rfl)) rfl ?_
    refine SV.op (OpL.ok (nb := 3) (ok_load_bp (b := 0) (i := 0) (ag := false) (m := 1) (ys := [.sc _]) rfl rfl rfl agg_int sz_int (fun _ => rfl) rfl rfl (Nat.le_of_ble_eq_true rfl)) rfl (Nat.le_of_ble_eq_true rfl)) rfl ?_
    refine SV.op (OpL.ok (nb := 3) (ok_field_bp (b := 0) (o' := 0) (off := 1) rfl rfl fld_impl_Group_1) rfl (Nat.le_of_ble_eq_true rfl)) rfl ?_
    refine SV.op (OpL.ok (nb := 3) (ok_load_bp (b := 0) (i := 1) (ag := false) (m := 1) (ys := [.sc _]) rfl rfl rfl agg_int sz_int (fun _ => rfl) rfl rfl (Nat.le_of_ble_eq_true rfl)) rfl (Nat.le_of_ble_eq_true rfl)) rfl ?_
    refine SV.op (OpL.ok (nb := 3) (ok_field_bp (b := 1) (o' := 0) (off := 1) rfl rfl fld_impl_Group_1) rfl (Nat.le_of_ble_eq_true rfl)) rfl ?_
    refine SV.op (OpL.ok (nb := 3) (ok_load_bp (b := 1) (i := 1) (ag := false) (m := 1) (ys := [.sc _]) rfl rfl rfl agg_int sz_int (fun _ => rfl) rfl rfl (Nat.le_of_ble_eq_true rfl)) rfl (Nat.le_of_ble_eq_true rfl)) rfl ?_
    refine SV.op (OpL.ok (nb := 3) (ok_s2 (x := .tmp 14) (x' := .tmp 16) (VScal.one rfl) (VScal.one rfl) (fun ρ h1 h2 w => by go_simp; (try go_bits); with_reducible rfl) rfl) rfl (Nat.le_of_ble_eq_true rfl)) rfl ?_
    refine SV.op (OpL.ok (nb := 3) (ok_field_bp (b := 0) (o' := 0) (off := 2) rfl rfl fld_impl_Group_2) rfl (Nat.le_of_ble_eq_true rfl)) rfl ?_
    refine SV.op (OpL.ok (nb := 3) (ok_load_bp (b := 0) (i := 2) (ag := false) (m := 1) (ys := [.sc _]) rfl rfl rfl agg_int sz_int (fun _ => rfl) rfl rfl (Nat.le_of_ble_eq_true rfl)) rfl (Nat.le_of_ble_eq_true rfl)) rfl ?_
    refine SV.op (OpL.ok (nb := 3) (ok_field_bp (b := 1) (o' := 0) (off := 2) rfl rfl fld_impl_Group_2) rfl (Nat.le_of_ble_eq_true rfl)) rfl ?_
    refine SV.op (OpL.ok (nb := 3) (ok_load_bp (b := 1) (i := 2) (ag := false) (m := 1) (ys := [.sc _]) rfl rfl rfl agg_int sz_int (fun _ => rfl) rfl rfl (Nat.le_of_ble_eq_true rfl)) rfl (Nat.le_of_ble_eq_true rfl)) rfl ?_
    refine SV.op (OpL.ok (nb := 3) (ok_s2 (x := .tmp 19) (x' := .tmp 21) (VScal.one rfl) (VScal.one rfl) (fun ρ h1 h2 w => by go_simp; (try go_bits); with_reducible rfl) rfl) rfl (Nat.le_of_ble_eq_true rfl)) rfl ?_
    refine SV.op (OpL.ok (nb := 3) (ok_field_bp (b := 0) (o' := 0) (off := 3) rfl rfl fld_impl_Group_3) rfl (Nat.le_of_ble_eq_true rfl)) rfl ?_
    refine SV.op (OpL.ok (nb := 3) (ok_load_bp (b := 0) (i := 3) (ag := false) (m := 1) (ys := [.sc _]) rfl rfl rfl agg_int sz_int (fun _ => rfl) rfl rfl (Nat.le_of_ble_eq_true rfl)) rfl (Nat.le_of_ble_eq_true rfl)) rfl ?_
    refine SV.op (OpL.ok (nb := 3) (ok_field_bp (b := 1) (o' := 0) (off := 3) rfl rfl fld_impl_Group_3) rfl (Nat.le_of_ble_eq_true rfl)) rfl ?_
    refine SV.op (OpL.ok (nb := 3) (ok_load_bp (b := 1) (i := 3) (ag := false) (m := 1) (ys := [.sc _]) rfl rfl rfl agg_int sz_int (fun _ => rfl) rfl rfl (Nat.le_of_ble_eq_true rfl)) rfl (Nat.le_of_ble_eq_true rfl)) rfl ?_
    refine SV.op (OpL.ok (nb := 3) (ok_s2 (x := .tmp 24) (x' := .tmp 26) (VScal.one rfl) (VScal.one rfl) (fun ρ h1 h2 w => by go_simp; (try go_bits); with_reducible rfl) rfl) rfl (Nat.le_of_ble_eq_true rfl)) rfl ?_
    refine SV.op (OpL.ok (nb := 3) (ok_field_bp (b := 0) (o' := 0) (off := 4) rfl rfl fld_impl_Group_4) rfl (Nat.le_of_ble_eq_true rfl)) rfl ?_
    refine SV.op (OpL.ok (nb := 3) (ok_load_bp (b := 0) (i := 4) (ag := false) (m := 1) (ys := [.sc _]) rfl rfl rfl agg_int sz_int (fun _ => rfl) rfl rfl (Nat.le_of_ble_eq_true rfl)) rfl (Nat.le_of_ble_eq_true rfl)) rfl ?_
    refine SV.op (OpL.ok (nb := 3) (ok_field_bp (b := 1) (o' := 0) (off := 4) rfl rfl fld_impl_Group_4) rfl (Nat.le_of_ble_eq_true rfl)) rfl ?_
    refine SV.op (OpL.ok (nb := 3) (ok_load_bp (b := 1) (i := 4) (ag := false) (m := 1) (ys := [.sc _]) rfl rfl rfl agg_int sz_int (fun _ => rfl) rfl rfl (Nat.le_of_ble_eq_true rfl)) rfl (Nat.le_of_ble_eq_true rfl)) rfl ?_
    refine SV.op (OpL.ok (nb := 3) (ok_s2 (x := .tmp 29) (x' := .tmp 31) (VScal.one rfl) (VScal.one rfl) (fun ρ h1 h2 w => by go_simp; (try go_bits); with_reducible rfl) rfl) rfl (Nat.le_of_ble_eq_true rfl)) rfl ?_
    refine SV.op (OpL.ok (nb := 3) (ok_build (zs := [.sc _, .sc _, .sc _, .sc _, .sc _]) (ys := [.sc _, .sc _, .sc _, .sc _, .sc _]) (qs := [(0, [.sc _]), (1, [.sc _]), (2, [.sc _]), (3, [.sc _]), (4, [.sc _])]) (pl := fun i => ([(0, 1), (1, 1), (2, 1), (3, 1), (4, 1)] : List (Nat × Nat))[i]?) rfl zero_impl_Group ⟨rfl, rfl, rfl, rfl, rfl, rfl, rfl, rfl, rfl, rfl, trivial⟩ ⟨⟨rfl, false, rfl, (fun _ => rfl), rfl⟩, ⟨rfl, false, rfl, (fun _ => rfl), rfl⟩, ⟨rfl, false, rfl, (fun _ => rfl), rfl⟩, ⟨rfl, false, rfl, (fun _ => rfl), rfl⟩, ⟨rfl, false, rfl, (fun _ => rfl), rfl⟩, trivial⟩ bld_impl_Group rfl) rfl (Nat.le_of_ble_eq_true rfl)) rfl ?_
    refine SV.op (ok_store_bp (b := 2) (i := 0) (m := 5) (ag := true) (zs := [.sc _, .sc _, .sc _, .sc _, .sc _]) (ys := [.sc _, .sc _, .sc _, .sc _, .sc _]) rfl rfl rfl rfl sz_impl_Group (fun h => by cases h) rfl (Nat.le_of_ble_eq_true rfl) rfl rfl rfl) rfl ?_
    refine SV.nil ?_
    refine SV.tn ?_
    refine SV.ret ?_
    apply SV.done (hf := Tryd.results23) (ht := rfl) (he := .inl rfl)
    case hr => exact (ResAll.cons (ResOk.cell (b := 2) (ag := true) (xs := [.sc _, .sc _, .sc _, .sc _, .sc _]) rfl rfl agg_impl_Group sz_impl_Group (fun h => by cases h)) ResAll.nil')
    case h2 => simp [two]
    refine ⟨rfl, ⟨?_, ?_, ?_, ?_, ?_, trivial⟩, trivial⟩ <;> (rw [ho]; first | rfl | (show some (T.lit (Value.int .i64 _)) = some (T.lit (Value.int .i64 _)); refine congrArg (fun z => some (T.lit (Value.int .i64 z))) ?_; first | rfl | (dsimp only; omega)))
set_option maxRecDepth 100000 in
set_option maxHeartbeats 2000000 in
theorem vofrow_s (r : R) : VC Tryd.prog 27 [(true, tRow r)] false [(true, tGroup (GroupD.ofRow r))] := by
  refine VC.enter Tryd.func27 rfl Tryd.ntmps27 (Nat.le_of_ble_eq_true rfl) fun E hE => ?_
  refine SV.seq' ?_
  refine SV.region ?_
  refine SV.op (OpMk.ok (ok_box (kk := 0) (ag := true) (xs := [.sc _, .sc _, .sc _]) rfl rfl rfl (fun h => by cases h) rfl rfl (Nat.le_of_ble_eq_true rfl))) rfl ?_
  refine SV.op (OpMk.ok (ok_alloc (kk := 1) (xs := [.sc _, .sc _, .sc _, .sc _, .sc _]) rfl rfl zero_impl_Group ⟨rfl, rfl, rfl, rfl, rfl, rfl, rfl, rfl, rfl, rfl, trivial⟩ rfl (Nat.le_of_ble_eq_true rfl))) rfl ?_
  refine SV.nil ?_
  refine SV.tn ?_
  refine SV.seq' ?_
  refine SV.region ?_
  refine SV.op (OpL.ok (nb := 2) (ok_field_bp (b := 0) (o' := 0) (off := 0) rfl rfl fld_impl_Row_0) rfl (Nat.le_of_ble_eq_true rfl)) rfl ?_
  refine SV.op (OpL.ok (nb := 2) (ok_load_bp (b := 0) (i := 0) (ag := false) (m := 1) (ys := [.sc _]) rfl rfl rfl agg_int sz_int (fun _ => rfl) rfl rfl (Nat.le_of_ble_eq_true rfl)) rfl (Nat.le_of_ble_eq_true rfl)) rfl ?_
  refine SV.op (OpL.ok (nb := 2) (ok_field_bp (b := 0) (o' := 0) (off := 1) rfl rfl fld_impl_Row_1) rfl (Nat.le_of_ble_eq_true rfl)) rfl ?_
  refine SV.op (OpL.ok (nb := 2) (ok_load_bp (b := 0) (i := 1) (ag := false) (m := 1) (ys := [.sc _]) rfl rfl rfl agg_int sz_int (fun _ => rfl) rfl rfl (Nat.le_of_ble_eq_true rfl)) rfl (Nat.le_of_ble_eq_true rfl)) rfl ?_
  refine SV.op (OpL.ok (nb := 2) (ok_field_bp (b := 0) (o' := 0) (off := 1) rfl rfl fld_impl_Row_1) rfl (Nat.le_of_ble_eq_true rfl)) rfl ?_
  refine SV.op (OpL.ok (nb := 2) (ok_load_bp (b := 0) (i := 1) (ag := false) (m := 1) (ys := [.sc _]) rfl rfl rfl agg_int sz_int (fun _ => rfl) rfl rfl (Nat.le_of_ble_eq_true rfl)) rfl (Nat.le_of_ble_eq_true rfl)) rfl ?_
  refine SV.op (OpL.ok (nb := 2) (ok_field_bp (b := 0) (o' := 0) (off := 1) rfl rfl fld_impl_Row_1) rfl (Nat.le_of_ble_eq_true rfl)) rfl ?_
  refine SV.op (OpL.ok (nb := 2) (ok_load_bp (b := 0) (i := 1) (ag := false) (m := 1) (ys := [.sc _]) rfl rfl rfl agg_int sz_int (fun _ => rfl) rfl rfl (Nat.le_of_ble_eq_true rfl)) rfl (Nat.le_of_ble_eq_true rfl)) rfl ?_
  refine SV.op (OpL.ok (nb := 2) (ok_build (zs := [.sc _, .sc _, .sc _, .sc _, .sc _]) (ys := [.sc _, .sc _, .sc _, .sc _, .sc _]) (qs := [(0, [.sc _]), (1, [.sc _]), (2, [.sc _]), (3, [.sc _]), (4, [.sc _])]) (pl := fun i => ([(0, 1), (1, 1), (2, 1), (3, 1), (4, 1)] : List (Nat × Nat))[i]?) rfl zero_impl_Group ⟨rfl, rfl, rfl, rfl, rfl, rfl, rfl, rfl, rfl, rfl, trivial⟩ ⟨⟨rfl, false, rfl, (fun _ => rfl), rfl⟩, ⟨rfl, false, rfl, (fun _ => rfl), rfl⟩, ⟨rfl, false, rfl, (fun _ => rfl), rfl⟩, ⟨rfl, false, rfl, (fun _ => rfl), rfl⟩, ⟨rfl, false, rfl, (fun _ => rfl), rfl⟩, trivial⟩ bld_impl_Group rfl) rfl (Nat.le_of_ble_eq_true rfl)) rfl ?_
  refine SV.op (ok_store_bp (b := 1) (i := 0) (m := 5) (ag := true) (zs := [.sc _, .sc _, .sc _, .sc _, .sc _]) (ys := [.sc _, .sc _, .sc _, .sc _, .sc _]) rfl rfl rfl rfl sz_impl_Group (fun h => by cases h) rfl (Nat.le_of_ble_eq_true rfl) rfl rfl rfl) rfl ?_
  refine SV.nil ?_
  refine SV.tn ?_
  refine SV.ret ?_
  apply SV.done (hf := Tryd.results27) (ht := rfl) (he := .inl rfl)
  case hr => exact (ResAll.cons (ResOk.cell (b := 1) (ag := true) (xs := [.sc _, .sc _, .sc _, .sc _, .sc _]) rfl rfl agg_impl_Group sz_impl_Group (fun h => by cases h)) ResAll.nil')
  case h2 => simp [two]
  refine ⟨rfl, ⟨?_, ?_, ?_, ?_, ?_, trivial⟩, trivial⟩ <;> rfl
set_option maxRecDepth 100000 in
set_option maxHeartbeats 2000000 in
theorem vcomb_i (a b : GroupD) : VC Tryd.prog 22 [(true, tGroup a), (true, tGroup b)] false [(true, tGroup (GroupD.comb a b))] := by
  refine VC.enter Tryd.func22 rfl Tryd.ntmps22 (Nat.le_of_ble_eq_true rfl) fun E hE => ?_
  refine SV.seq' ?_
  refine SV.region ?_
  refine SV.op (OpMk.ok (ok_box (kk := 0) (ag := true) (xs := [.sc _, .sc _, .sc _, .sc _, .sc _]) rfl rfl rfl (fun h => by cases h) rfl rfl (Nat.le_of_ble_eq_true rfl))) rfl ?_
  refine SV.op (OpMk.ok (ok_box (kk := 1) (ag := true) (xs := [.sc _, .sc _, .sc _, .sc _, .sc _]) rfl rfl rfl (fun h => by cases h) rfl rfl (Nat.le_of_ble_eq_true rfl))) rfl ?_
  refine SV.op (OpMk.ok (ok_alloc (kk := 2) (xs := [.sc _, .sc _, .sc _, .sc _, .sc _]) rfl rfl zero_impl_Group ⟨rfl, rfl, rfl, rfl, rfl, rfl, rfl, rfl, rfl, rfl, trivial⟩ rfl (Nat.le_of_ble_eq_true rfl))) rfl ?_
  refine SV.nil ?_
  refine SV.tn ?_
  refine SV.seq' ?_
  refine SV.seq' ?_
  refine SV.region ?_
  refine SV.op (OpL.ok (nb := 3) (ok_field_bp (b := 0) (o' := 0) (off := 0) rfl rfl fld_impl_Group_0) rfl (Nat.le_of_ble_eq_true rfl)) rfl ?_
  refine SV.op (OpL.ok (nb := 3) (ok_load_bp (b := 0) (i := 0) (ag := false) (m := 1) (ys := [.sc _]) rfl rfl rfl agg_int sz_int (fun _ => rfl) rfl rfl (Nat.le_of_ble_eq_true rfl)) rfl (Nat.le_of_ble_eq_true rfl)) rfl ?_
  refine SV.op (OpL.ok (nb := 3) (ok_field_bp (b := 1) (o' := 0) (off := 0) rfl rfl fld_impl_Group_0) rfl (Nat.le_of_ble_eq_true rfl)) rfl ?_
  refine SV.op (OpL.ok (nb := 3) (ok_load_bp (b := 1) (i := 0) (ag := false) (m := 1) (ys := [.sc _]) rfl rfl rfl agg_int sz_int (fun _ => rfl) rfl rfl (Nat.le_of_ble_eq_true rfl)) rfl (Nat.le_of_ble_eq_true rfl)) rfl ?_
  refine SV.op (OpL.ok (nb := 3) (ok_s2 (x := .tmp 6) (x' := .tmp 8) (VScal.one rfl) (VScal.one rfl) (fun ρ h1 h2 w => by go_simp; (try go_bits); with_reducible rfl) rfl) rfl (Nat.le_of_ble_eq_true rfl)) rfl ?_
  refine SV.nil ?_
  refine SV.tn ?_
  refine SV.cond rfl (fun hc0 => ?_) (fun hc0 => ?_)
  · skip   -- c0.T
    have ho : GroupD.comb a b = a := by unfold GroupD.comb; rw [if_neg (by simpa using hc0)]
    refine SV.seq' ?_
    refine SV.region ?_
    refine SV.op (OpL.ok (nb := 3) (ok_load_bp (b := 0) (i := 0) (ag := true) (m := 5) (ys := [.sc _, .sc _, .sc _, .sc _, .sc _]) rfl rfl rfl agg_impl_Group sz_impl_Group (fun h => by cases h) rfl rfl (Nat.le_of_ble_eq_true rfl)) rfl (Nat.le_of_ble_eq_true rfl)) rfl ?_
    refine SV.op (ok_store_bp (b := 2) (i := 0) (m := 5) (ag := true) (zs := [.sc _, .sc _, .sc _, .sc _, .sc _]) (ys := [.sc _, .sc _, .sc _, .sc _, .sc _]) rfl rfl rfl rfl sz_impl_Group (fun h => by cases h) rfl (Nat.le_of_ble_eq_true rfl) rfl rfl rfl) rfl ?_
    refine SV.nil ?_
    refine SV.tn ?_
    refine SV.ret ?_
    refine SV.tr ?_
    apply SV.done (hf := Tryd.results22) (ht := rfl) (he := .inl rfl)
    case hr => exact (ResAll.cons (ResOk.cell (b := 2) (ag := true) (xs := [.sc _, .sc _, .sc _, .sc _, .sc _]) rfl rfl agg_impl_Group sz_impl_Group (fun h => by cases h)) ResAll.nil')
    case h2 => simp [two]
    refine ⟨rfl, ⟨?_, ?_, ?_, ?_, ?_, trivial⟩, trivial⟩ <;> (rw [ho]; first | rfl | (show some (T.lit (Value.int .i64 _)) = some (T.lit (Value.int .i64 _)); refine congrArg (fun z => some (T.lit (Value.int .i64 z))) ?_; first | rfl | (dsimp only; omega)))
  · skip   -- c0.F
    have ho : GroupD.comb a b = ⟨a.fKey, wrap64 (a.fCount + b.fCount), wrap64 (a.fSum + b.fSum), min a.fMin b.fMin, max a.fMax b.fMax⟩ := by unfold GroupD.comb; rw [if_pos (by simpa using hc0)]
    refine SV.skip ?_
    refine SV.tn ?_
    refine SV.seq' ?_
    refine SV.region ?_
    refine SV.op (OpL.ok (nb := 3) (ok_field_bp (b := 0) (o' := 0) (off := 0) rfl rfl fld_impl_Group_0) rfl (Nat.le_of_ble_eq_true rfl)) rfl ?_
    refine SV.op (OpL.ok (nb := 3) (ok_load_bp (b := 0) (i := 0) (ag := false) (m := 1) (ys := [.sc _]) rfl rfl rfl agg_int sz_int (fun _ => rfl) rfl rfl (Nat.le_of_ble_eq_true rfl)) rfl (Nat.le_of_ble_eq_true rfl)) rfl ?_
    refine SV.op (OpL.ok (nb := 3) (ok_field_bp (b := 0) (o' := 0) (off := 1) rfl rfl fld_impl_Group_1) rfl (Nat.le_of_ble_eq_true rfl)) rfl ?_
    refine SV.op (OpL.ok (nb := 3) (ok_load_bp (b := 0) (i := 1) (ag := false) (m := 1) (ys := [.sc _]) rfl rfl rfl agg_int sz_int (fun _ => rfl) rfl rfl (Nat.le_of_ble_eq_true rfl)) rfl (Nat.le_of_ble_eq_true rfl)) rfl ?_
    refine SV.op (OpL.ok (nb := 3) (ok_field_bp (b := 1) (o' := 0) (off := 1) rfl rfl fld_impl_Group_1) rfl (Nat.le_of_ble_eq_true rfl)) rfl ?_
    refine SV.op (OpL.ok (nb := 3) (ok_load_bp (b := 1) (i := 1) (ag := false) (m := 1) (ys := [.sc _]) rfl rfl rfl agg_int sz_int (fun _ => rfl) rfl rfl (Nat.le_of_ble_eq_true rfl)) rfl (Nat.le_of_ble_eq_true rfl)) rfl ?_
    refine SV.op (OpL.ok (nb := 3) (ok_s2 (x := .tmp 14) (x' := .tmp 16) (VScal.one rfl) (VScal.one rfl) (fun ρ h1 h2 w => by go_simp; (try go_bits); with_reducible rfl) rfl) rfl (Nat.le_of_ble_eq_true rfl)) rfl ?_
    refine SV.op (OpL.ok (nb := 3) (ok_field_bp (b := 0) (o' := 0) (off := 2) rfl rfl fld_impl_Group_2) rfl (Nat.le_of_ble_eq_true rfl)) rfl ?_
    refine SV.op (OpL.ok (nb := 3) (ok_load_bp (b := 0) (i := 2) (ag := false) (m := 1) (ys := [.sc _]) rfl rfl rfl agg_int sz_int (fun _ => rfl) rfl rfl (Nat.le_of_ble_eq_true rfl)) rfl (Nat.le_of_ble_eq_true rfl)) rfl ?_
    refine SV.op (OpL.ok (nb := 3) (ok_field_bp (b := 1) (o' := 0) (off := 2) rfl rfl fld_impl_Group_2) rfl (Nat.le_of_ble_eq_true rfl)) rfl ?_
    refine SV.op (OpL.ok (nb := 3) (ok_load_bp (b := 1) (i := 2) (ag := false) (m := 1) (ys := [.sc _]) rfl rfl rfl agg_int sz_int (fun _ => rfl) rfl rfl (Nat.le_of_ble_eq_true rfl)) rfl (Nat.le_of_ble_eq_true rfl)) rfl ?_
    refine SV.op (OpL.ok (nb := 3) (ok_s2 (x := .tmp 19) (x' := .tmp 21) (VScal.one rfl) (VScal.one rfl) (fun ρ h1 h2 w => by go_simp; (try go_bits); with_reducible rfl) rfl) rfl (Nat.le_of_ble_eq_true rfl)) rfl ?_
    refine SV.op (OpL.ok (nb := 3) (ok_field_bp (b := 0) (o' := 0) (off := 3) rfl rfl fld_impl_Group_3) rfl (Nat.le_of_ble_eq_true rfl)) rfl ?_
    refine SV.op (OpL.ok (nb := 3) (ok_load_bp (b := 0) (i := 3) (ag := false) (m := 1) (ys := [.sc _]) rfl rfl rfl agg_int sz_int (fun _ => rfl) rfl rfl (Nat.le_of_ble_eq_true rfl)) rfl (Nat.le_of_ble_eq_true rfl)) rfl ?_
    refine SV.op (OpL.ok (nb := 3) (ok_field_bp (b := 1) (o' := 0) (off := 3) rfl rfl fld_impl_Group_3) rfl (Nat.le_of_ble_eq_true rfl)) rfl ?_
    refine SV.op (OpL.ok (nb := 3) (ok_load_bp (b := 1) (i := 3) (ag := false) (m := 1) (ys := [.sc _]) rfl rfl rfl agg_int sz_int (fun _ => rfl) rfl rfl (Nat.le_of_ble_eq_true rfl)) rfl (Nat.le_of_ble_eq_true rfl)) rfl ?_
    refine SV.op (OpL.ok (nb := 3) (ok_s2 (x := .tmp 24) (x' := .tmp 26) (VScal.one rfl) (VScal.one rfl) (fun ρ h1 h2 w => by go_simp; (try go_bits); with_reducible rfl) rfl) rfl (Nat.le_of_ble_eq_true rfl)) rfl ?_
    refine SV.op (OpL.ok (nb := 3) (ok_field_bp (b := 0) (o' := 0) (off := 4) rfl rfl fld_impl_Group_4) rfl (Nat.le_of_ble_eq_true rfl)) rfl ?_
    refine SV.op (OpL.ok (nb := 3) (ok_load_bp (b := 0) (i := 4) (ag := false) (m := 1) (ys := [.sc _]) rfl rfl rfl agg_int sz_int (fun _ => rfl) rfl rfl (Nat.le_of_ble_eq_true rfl)) rfl (Nat.le_of_ble_eq_true rfl)) rfl ?_
    refine SV.op (OpL.ok (nb := 3) (ok_field_bp (b := 1) (o' := 0) (off := 4) rfl rfl fld_impl_Group_4) rfl (Nat.le_of_ble_eq_true rfl)) rfl ?_
    refine SV.op (OpL.ok (nb := 3) (ok_load_bp (b := 1) (i := 4) (ag := false) (m := 1) (ys := [.sc _]) rfl rfl rfl agg_int sz_int (fun _ => rfl) rfl rfl (Nat.le_of_ble_eq_true rfl)) rfl (Nat.le_of_ble_eq_true rfl)) rfl ?_
    refine SV.op (OpL.ok (nb := 3) (ok_s2 (x := .tmp 29) (x' := .tmp 31) (VScal.one rfl) (VScal.one rfl) (fun ρ h1 h2 w => by go_simp; (try go_bits); with_reducible rfl) rfl) rfl (Nat.le_of_ble_eq_true rfl)) rfl ?_
    refine SV.op (OpL.ok (nb := 3) (ok_build (zs := [.sc _, .sc _, .sc _, .sc _, .sc _]) (ys := [.sc _, .sc _, .sc _, .sc _, .sc _]) (qs := [(0, [.sc _]), (1, [.sc _]), (2, [.sc _]), (3, [.sc _]), (4, [.sc _])]) (pl := fun i => ([(0, 1), (1, 1), (2, 1), (3, 1), (4, 1)] : List (Nat × Nat))[i]?) rfl zero_impl_Group ⟨rfl, rfl, rfl, rfl, rfl, rfl, rfl, rfl, rfl, rfl, trivial⟩ ⟨⟨rfl, false, rfl, (fun _ => rfl), rfl⟩, ⟨rfl, false, rfl, (fun _ => rfl), rfl⟩, ⟨rfl, false, rfl, (fun _ => rfl), rfl⟩, ⟨rfl, false, rfl, (fun _ => rfl), rfl⟩, ⟨rfl, false, rfl, (fun _ => rfl), rfl⟩, trivial⟩ bld_impl_Group rfl) rfl (Nat.le_of_ble_eq_true rfl)) rfl ?_
    refine SV.op (ok_store_bp (b := 2) (i := 0) (m := 5) (ag := true) (zs := [.sc _, .sc _, .sc _, .sc _, .sc _]) (ys := [.sc _, .sc _, .sc _, .sc _, .sc _]) rfl rfl rfl rfl sz_impl_Group (fun h => by cases h) rfl (Nat.le_of_ble_eq_true rfl) rfl rfl rfl) rfl ?_
    refine SV.nil ?_
    refine SV.tn ?_
    refine SV.ret ?_
    apply SV.done (hf := Tryd.results22) (ht := rfl) (he := .inl rfl)
    case hr => exact (ResAll.cons (ResOk.cell (b := 2) (ag := true) (xs := [.sc _, .sc _, .sc _, .sc _, .sc _]) rfl rfl agg_impl_Group sz_impl_Group (fun h => by cases h)) ResAll.nil')
    case h2 => simp [two]
    refine ⟨rfl, ⟨?_, ?_, ?_, ?_, ?_, trivial⟩, trivial⟩ <;> (rw [ho]; first | rfl | (show some (T.lit (Value.int .i64 _)) = some (T.lit (Value.int .i64 _)); refine congrArg (fun z => some (T.lit (Value.int .i64 z))) ?_; first | rfl | (dsimp only; omega)))
set_option maxRecDepth 100000 in
set_option maxHeartbeats 2000000 in
theorem vofrow_i (r : R) : VC Tryd.prog 26 [(true, tRow r)] false [(true, tGroup (GroupD.ofRow r))] := by
  refine VC.enter Tryd.func26 rfl Tryd.ntmps26 (Nat.le_of_ble_eq_true rfl) fun E hE => ?_
  refine SV.seq' ?_
  refine SV.region ?_
  refine SV.op (OpMk.ok (ok_box (kk := 0) (ag := true) (xs := [.sc _, .sc _, .sc _]) rfl rfl rfl (fun h => by cases h) rfl rfl (Nat.le_of_ble_eq_true rfl))) rfl ?_
  refine SV.op (OpMk.ok (ok_alloc (kk := 1) (xs := [.sc _, .sc _, .sc _, .sc _, .sc _]) rfl rfl zero_impl_Group ⟨rfl, rfl, rfl, rfl, rfl, rfl, rfl, rfl, rfl, rfl, trivial⟩ rfl (Nat.le_of_ble_eq_true rfl))) rfl ?_
  refine SV.nil ?_
  refine SV.tn ?_
  refine SV.seq' ?_
  refine SV.region ?_
  refine SV.op (OpL.ok (nb := 2) (ok_field_bp (b := 0) (o' := 0) (off := 0) rfl rfl fld_impl_Row_0) rfl (Nat.le_of_ble_eq_true rfl)) rfl ?_
  refine SV.op (OpL.ok (nb := 2) (ok_load_bp (b := 0) (i := 0) (ag := false) (m := 1) (ys := [.sc _]) rfl rfl rfl agg_int sz_int (fun _ => rfl) rfl rfl (Nat.le_of_ble_eq_true rfl)) rfl (Nat.le_of_ble_eq_true rfl)) rfl ?_
  refine SV.op (OpL.ok (nb := 2) (ok_field_bp (b := 0) (o' := 0) (off := 1) rfl rfl fld_impl_Row_1) rfl (Nat.le_of_ble_eq_true rfl)) rfl ?_
  refine SV.op (OpL.ok (nb := 2) (ok_load_bp (b := 0) (i := 1) (ag := false) (m := 1) (ys := [.sc _]) rfl rfl rfl agg_int sz_int (fun _ => rfl) rfl rfl (Nat.le_of_ble_eq_true rfl)) rfl (Nat.le_of_ble_eq_true rfl)) rfl ?_
  refine SV.op (OpL.ok (nb := 2) (ok_field_bp (b := 0) (o' := 0) (off := 1) rfl rfl fld_impl_Row_1) rfl (Nat.le_of_ble_eq_true rfl)) rfl ?_
  refine SV.op (OpL.ok (nb := 2) (ok_load_bp (b := 0) (i := 1) (ag := false) (m := 1) (ys := [.sc _]) rfl rfl rfl agg_int sz_int (fun _ => rfl) rfl rfl (Nat.le_of_ble_eq_true rfl)) rfl (Nat.le_of_ble_eq_true rfl)) rfl ?_
  refine SV.op (OpL.ok (nb := 2) (ok_field_bp (b := 0) (o' := 0) (off := 1) rfl rfl fld_impl_Row_1) rfl (Nat.le_of_ble_eq_true rfl)) rfl ?_
  refine SV.op (OpL.ok (nb := 2) (ok_load_bp (b := 0) (i := 1) (ag := false) (m := 1) (ys := [.sc _]) rfl rfl rfl agg_int sz_int (fun _ => rfl) rfl rfl (Nat.le_of_ble_eq_true rfl)) rfl (Nat.le_of_ble_eq_true rfl)) rfl ?_
  refine SV.op (OpL.ok (nb := 2) (ok_build (zs := [.sc _, .sc _, .sc _, .sc _, .sc _]) (ys := [.sc _, .sc _, .sc _, .sc _, .sc _]) (qs := [(0, [.sc _]), (1, [.sc _]), (2, [.sc _]), (3, [.sc _]), (4, [.sc _])]) (pl := fun i => ([(0, 1), (1, 1), (2, 1), (3, 1), (4, 1)] : List (Nat × Nat))[i]?) rfl zero_impl_Group ⟨rfl, rfl, rfl, rfl, rfl, rfl, rfl, rfl, rfl, rfl, trivial⟩ ⟨⟨rfl, false, rfl, (fun _ => rfl), rfl⟩, ⟨rfl, false, rfl, (fun _ => rfl), rfl⟩, ⟨rfl, false, rfl, (fun _ => rfl), rfl⟩, ⟨rfl, false, rfl, (fun _ => rfl), rfl⟩, ⟨rfl, false, rfl, (fun _ => rfl), rfl⟩, trivial⟩ bld_impl_Group rfl) rfl (Nat.le_of_ble_eq_true rfl)) rfl ?_
  refine SV.op (ok_store_bp (b := 1) (i := 0) (m := 5) (ag := true) (zs := [.sc _, .sc _, .sc _, .sc _, .sc _]) (ys := [.sc _, .sc _, .sc _, .sc _, .sc _]) rfl rfl rfl rfl sz_impl_Group (fun h => by cases h) rfl (Nat.le_of_ble_eq_true rfl) rfl rfl rfl) rfl ?_
  refine SV.nil ?_
  refine SV.tn ?_
  refine SV.ret ?_
  apply SV.done (hf := Tryd.results26) (ht := rfl) (he := .inl rfl)
  case hr => exact (ResAll.cons (ResOk.cell (b := 1) (ag := true) (xs := [.sc _, .sc _, .sc _, .sc _, .sc _]) rfl rfl agg_impl_Group sz_impl_Group (fun h => by cases h)) ResAll.nil')
  case h2 => simp [two]
  refine ⟨rfl, ⟨?_, ?_, ?_, ?_, ?_, trivial⟩, trivial⟩ <;> rfl
end Go.Proofs.YtmlcdhblofjpbaaDoor
/- A group that is drawn: told by trees. -/
namespace Go.Proofs.YtmlcdhblofjpbaaDoor
open Go Go.RowKit V
set_option linter.unusedVariables false
set_option maxRecDepth 100000 in
set_option maxHeartbeats 2000000 in
theorem vk_one {ad : Option Addr} {len cap : Nat} {zs : List Int}  : VK ad len cap zs (fun _ : GroupD => True) Tryd.prog 63 [] false (fun y => [(true, tGroup y)]) := by
  refine VK.enter Tryd.func63 rfl Tryd.ntmps63 (Nat.le_of_ble_eq_true rfl) (by simp) fun E c p h0 hE hC hpin hp => ?_
  refine SV.seq' ?_
  refine SV.region ?_
  refine SV.op (OpMk.ok (ok_alloc (kk := 1) (xs := [.sc _, .sc _, .sc _, .sc _, .sc _]) rfl rfl zero_impl_Group ⟨rfl, rfl, rfl, rfl, rfl, rfl, rfl, rfl, rfl, rfl, trivial⟩ rfl (Nat.le_of_ble_eq_true rfl))) rfl ?_
  refine SV.nil ?_
  refine SV.tn ?_
  refine SV.seq' ?_
  refine SV.region ?_
  refine SV.op (OpL.ok (nb := 2) (ok_move (v := V.one (.bp 0 0)) (.inl rfl) rfl) rfl (Nat.le_of_ble_eq_true rfl)) rfl ?_
  refine SV.callK (b := 0) hC rfl ⟨_, _, Tryd.func102, rfl, by decide⟩ (vk_row 3 (by decide) (by decide)) rfl ⟨rfl, trivial⟩ rfl hp rfl (Nat.le_of_ble_eq_true rfl) (fun _ => wanted0 rfl) ?_
  rintro r0 p1 h1 hr hp1
  refine SV.op (OpMk.ok (ok_call (ls := [(true, [.sc _, .sc _, .sc _, .sc _, .sc _])]) rfl rfl ⟨_, _, Tryd.func27, rfl, by decide⟩ (vofrow_s r0) ⟨⟨[.sc _, .sc _, .sc _], rfl, ⟨rfl, rfl, rfl, trivial⟩⟩, trivial⟩ rfl (Nat.le_of_ble_eq_true rfl))) rfl ?_
  refine SV.op (OpMk.ok (ok_alloc (kk := 2) (xs := [.sc _, .sc _, .sc _, .sc _, .sc _]) rfl rfl zero_impl_Group ⟨rfl, rfl, rfl, rfl, rfl, rfl, rfl, rfl, rfl, rfl, trivial⟩ rfl (Nat.le_of_ble_eq_true rfl))) rfl ?_
  refine SV.op (ok_store_bp (b := 2) (i := 0) (m := 5) (ag := true) (zs := [.sc _, .sc _, .sc _, .sc _, .sc _]) (ys := [.sc _, .sc _, .sc _, .sc _, .sc _]) rfl rfl rfl rfl sz_impl_Group (fun h => by cases h) rfl (Nat.le_of_ble_eq_true rfl) rfl rfl rfl) rfl ?_
  refine SV.nil ?_
  refine SV.tn ?_
  refine SV.seq' ?_
  refine SV.seq' ?_
  refine SV.region ?_
  refine SV.op (OpL.ok (nb := 3) (ok_move (v := V.one (.bp 0 0)) (.inl rfl) rfl) rfl (Nat.le_of_ble_eq_true rfl)) rfl ?_
  refine SV.callK (b := 0) hC rfl ⟨_, _, Tryd.func103, rfl, by decide⟩ (vk_below 4 (by decide) (by decide)) rfl ⟨rfl, trivial⟩ rfl hp1 rfl (Nat.le_of_ble_eq_true rfl) (fun _ => wanted0 rfl) ?_
  rintro k0 p2 h2 ⟨hk0, hk1⟩ hp2
  refine SV.op (OpL.ok (nb := 3) (ok_move (v := V.one (.sc _)) (.inr rfl) rfl) rfl (Nat.le_of_ble_eq_true rfl)) rfl ?_
  refine SV.nil ?_
  refine SV.tn ?_
  refine SV.block ?_
  refine SV.loopF (X := Int × Int × Int × GroupD) (fun (σ : VS) z => (((((((VS.nil.box 121 [σ.bl 0 0, .sc (.int .i64 (z.1)), .sc (.int .i64 (z.2.1))]).box 33 [σ.bl 1 0, σ.bl 1 1, σ.bl 1 2, σ.bl 1 3, σ.bl 1 4]).box 33 [.sc (.int .i64 (z.2.2.2.fKey)), .sc (.int .i64 (z.2.2.2.fCount)), .sc (.int .i64 (z.2.2.2.fSum)), .sc (.int .i64 (z.2.2.2.fMin)), .sc (.int .i64 (z.2.2.2.fMax))]).put 0 (V.flat false [.bp 0 0])).put 2 (V.flat false [.bp 1 0])).put 3 (V.flat false [.bp 2 0])).put 4 (V.flat false [.sc (.int .i64 (z.2.2.1))]))) (fun z => (0 ≤ z.1 ∧ z.1 ≤ len) ∧ 0 ≤ z.2.2.1 ∧ z.2.2.1 < 4) (fun z => z.2.2.1.toNat) ?_ ?_
  · skip
    refine SV.again (fun i => [].getD i 0) (p2, h2, k0, GroupD.ofRow r0) (⟨hp2, hk0, hk1⟩) (pinsC hE rfl) (VS.le.mk' (le_put (le_put (le_put (le_put (le_box (le_box (le_box le_nil))) (V.le.keep (ag := false) (xs := [.bp 0 0]) (ys := [.bp 0 0]) rfl rfl ⟨⟨rfl, (Nat.le_of_ble_eq_true rfl)⟩, trivial⟩)) (V.le.keep (ag := false) (xs := [.bp 1 0]) (ys := [.bp 1 0]) rfl rfl ⟨⟨rfl, (Nat.le_of_ble_eq_true rfl)⟩, trivial⟩)) (V.le.keep (ag := false) (xs := [.bp 2 0]) (ys := [.bp 2 0]) rfl rfl ⟨⟨rfl, (Nat.le_of_ble_eq_true rfl)⟩, trivial⟩)) (V.le.keep (ag := false) (xs := [.sc _]) (ys := [.sc _]) rfl rfl ⟨(by first | rfl | (show Leaf.sc _ = Leaf.sc _; refine congrArg Leaf.sc ?_; first | rfl | go_num | (simp [cntAll]; done)) | (simp [cntAll]; done) | (simp; omega)), trivial⟩)) ⟨⟨rfl, ⟨rfl, (by first | rfl | (show Leaf.sc _ = Leaf.sc _; refine congrArg Leaf.sc ?_; first | rfl | go_num | (simp [cntAll]; done)) | (simp [cntAll]; done) | (simp; omega)), (by first | rfl | (show Leaf.sc _ = Leaf.sc _; refine congrArg Leaf.sc ?_; first | rfl | go_num | (simp [cntAll]; done)) | (simp [cntAll]; done) | (simp; omega)), trivial⟩⟩, ⟨⟨rfl, ⟨rfl, rfl, rfl, rfl, rfl, trivial⟩⟩, ⟨⟨rfl, ⟨(by first | rfl | (show Leaf.sc _ = Leaf.sc _; refine congrArg Leaf.sc ?_; first | rfl | go_num | (simp [cntAll]; done)) | (simp [cntAll]; done) | (simp; omega)), (by first | rfl | (show Leaf.sc _ = Leaf.sc _; refine congrArg Leaf.sc ?_; first | rfl | go_num | (simp [cntAll]; done)) | (simp [cntAll]; done) | (simp; omega)), (by first | rfl | (show Leaf.sc _ = Leaf.sc _; refine congrArg Leaf.sc ?_; first | rfl | go_num | (simp [cntAll]; done)) | (simp [cntAll]; done) | (simp; omega)), (by first | rfl | (show Leaf.sc _ = Leaf.sc _; refine congrArg Leaf.sc ?_; first | rfl | go_num | (simp [cntAll]; done)) | (simp [cntAll]; done) | (simp; omega)), (by first | rfl | (show Leaf.sc _ = Leaf.sc _; refine congrArg Leaf.sc ?_; first | rfl | go_num | (simp [cntAll]; done)) | (simp [cntAll]; done) | (simp; omega)), trivial⟩⟩, trivial⟩⟩⟩ trivial nil_ob (fun i j hi hj e => absurd hi (Nat.not_lt_zero i)))
  · rintro ⟨p, h, n, g⟩ ⟨hq, hn0, hn1⟩
    dsimp only at hq hn0 hn1
    refine SV.seq' ?_
    refine SV.seq' ?_
    refine SV.region ?_
    refine SV.op (OpL.ok (nb := 3) (ok_move (v := V.one (.sc _)) (.inl rfl) rfl) rfl (Nat.le_of_ble_eq_true rfl)) rfl ?_
    refine SV.op (OpL.ok (nb := 3) (ok_s2 (x := .tmp 11) (x' := .const ((Value.int IntKind.i64 0))) (VScal.one rfl) (VScal.one rfl) (fun ρ h1 h2 w => by go_simp; (try go_bits); with_reducible rfl) rfl) rfl (Nat.le_of_ble_eq_true rfl)) rfl ?_
    refine SV.nil ?_
    refine SV.tn ?_
    refine SV.cond rfl (fun hc0 => ?_) (fun hc0 => ?_)
    · skip   -- c0.T
      have hn2 : 0 < n := by simpa using hc0
      refine SV.skip ?_
      refine SV.tn ?_
      refine SV.seq' ?_
      refine SV.block ?_
      refine SV.seq' ?_
      refine SV.region ?_
      refine SV.op (OpL.ok (nb := 3) (ok_move (v := V.one (.bp 0 0)) (.inl rfl) rfl) rfl (Nat.le_of_ble_eq_true rfl)) rfl ?_
      refine SV.callK (b := 0) hC rfl ⟨_, _, Tryd.func102, rfl, by decide⟩ (vk_row 3 (by decide) (by decide)) rfl ⟨rfl, trivial⟩ rfl hq rfl (Nat.le_of_ble_eq_true rfl) (fun _ => wanted0 rfl) ?_
      rintro r p3 h3 hr hp3
      refine SV.op (OpMk.ok (ok_alloc (kk := 3) (xs := [.sc _, .sc _, .sc _]) rfl rfl zero_impl_Row ⟨rfl, rfl, rfl, rfl, rfl, rfl, trivial⟩ rfl (Nat.le_of_ble_eq_true rfl))) rfl ?_
      refine SV.op (ok_store_bp (b := 3) (i := 0) (m := 3) (ag := true) (zs := [.sc _, .sc _, .sc _]) (ys := [.sc _, .sc _, .sc _]) rfl rfl rfl rfl sz_impl_Row (fun h => by cases h) rfl (Nat.le_of_ble_eq_true rfl) rfl rfl rfl) rfl ?_
      refine SV.nil ?_
      refine SV.tn ?_
      refine SV.seq' ?_
      refine SV.region ?_
      refine SV.op (OpL.ok (nb := 4) (ok_field_bp (b := 2) (o' := 0) (off := 0) rfl rfl fld_impl_Group_0) rfl (Nat.le_of_ble_eq_true rfl)) rfl ?_
      refine SV.op (OpL.ok (nb := 4) (ok_load_bp (b := 2) (i := 0) (ag := false) (m := 1) (ys := [.sc _]) rfl rfl rfl agg_int sz_int (fun _ => rfl) rfl rfl (Nat.le_of_ble_eq_true rfl)) rfl (Nat.le_of_ble_eq_true rfl)) rfl ?_
      refine SV.op (OpL.ok (nb := 4) (ok_field_bp (b := 3) (o' := 0) (off := 0) rfl rfl fld_impl_Row_0) rfl (Nat.le_of_ble_eq_true rfl)) rfl ?_
      refine SV.op (ok_store_bp (b := 3) (i := 0) (m := 1) (ag := false) (zs := [.sc _]) (ys := [.sc _, .sc _, .sc _]) rfl rfl rfl rfl sz_int (fun _ => rfl) rfl (Nat.le_of_ble_eq_true rfl) rfl rfl rfl) rfl ?_
      refine SV.nil ?_
      refine SV.tn ?_
      refine SV.draw [.q 0, .q 1, .m 2, .m 3] [4] (by kernel_rfl) (by kernel_rfl) ?_
      refine DW.q rfl (ok_load_bp (b := 2) (i := 0) (ag := true) (m := 5) (ys := [.sc _, .sc _, .sc _, .sc _, .sc _]) rfl rfl rfl agg_impl_Group sz_impl_Group (fun h => by cases h) rfl rfl (Nat.le_of_ble_eq_true rfl)) rfl rfl (Nat.le_of_ble_eq_true rfl) (fun _ _ _ _ h => h) ?_
      refine DW.q rfl (ok_load_bp (b := 3) (i := 0) (ag := true) (m := 3) (ys := [.sc _, .sc _, .sc _]) rfl rfl rfl agg_impl_Row sz_impl_Row (fun h => by cases h) rfl rfl (Nat.le_of_ble_eq_true rfl)) rfl rfl (Nat.le_of_ble_eq_true rfl) (fun _ _ _ _ h => h) ?_
      refine DW.m [] rfl (ok_call (ls := [(true, [.sc _, .sc _, .sc _, .sc _, .sc _])]) rfl rfl ⟨_, _, Tryd.func27, rfl, by decide⟩ (vofrow_s ⟨g.fKey, r.value, r.width⟩) ⟨⟨[.sc _, .sc _, .sc _], rfl, ⟨rfl, rfl, rfl, trivial⟩⟩, trivial⟩ rfl (Nat.le_of_ble_eq_true rfl)) rfl (Nat.le_of_ble_eq_true rfl) (Nat.le_of_ble_eq_true rfl) (.inl rfl) (fun j hj => by cases hj) ?_
      refine DW.m [] rfl (ok_call (ls := [(true, [.sc _, .sc _, .sc _, .sc _, .sc _])]) rfl rfl ⟨_, _, Tryd.func23, rfl, by decide⟩ (vcomb_s g (GroupD.ofRow ⟨g.fKey, r.value, r.width⟩)) ⟨⟨[.sc _, .sc _, .sc _, .sc _, .sc _], rfl, ⟨rfl, rfl, rfl, rfl, rfl, trivial⟩⟩, ⟨[.sc _, .sc _, .sc _, .sc _, .sc _], rfl, ⟨rfl, rfl, rfl, rfl, rfl, trivial⟩⟩, trivial⟩ rfl (Nat.le_of_ble_eq_true rfl)) rfl (Nat.le_of_ble_eq_true rfl) (Nat.le_of_ble_eq_true rfl) (.inl rfl) (fun j hj => by cases hj) ?_
      refine DW.stores ?_
      refine SV.z rfl (ok_store_bp (b := 2) (i := 0) (m := 5) (ag := true) (zs := [.sc _, .sc _, .sc _, .sc _, .sc _]) (ys := [.sc _, .sc _, .sc _, .sc _, .sc _]) rfl rfl rfl rfl sz_impl_Group (fun h => by cases h) rfl (Nat.le_of_ble_eq_true rfl) rfl rfl rfl) rfl ?_
      refine SV.zend ?_
      refine SV.bn ?_
      refine SV.tn ?_
      refine SV.region ?_
      refine SV.op (OpL.ok (nb := 4) (ok_move (v := V.one (.sc _)) (.inl rfl) rfl) rfl (Nat.le_of_ble_eq_true rfl)) rfl ?_
      refine SV.op (OpL.ok (nb := 4) (ok_s2 (x := .tmp 13) (x' := .const ((Value.int IntKind.i64 1))) (VScal.one rfl) (VScal.one rfl) (fun ρ h1 h2 w => by go_simp; (try go_bits); with_reducible rfl) rfl) rfl (Nat.le_of_ble_eq_true rfl)) rfl ?_
      refine SV.op (OpL.ok (nb := 4) (ok_move (v := V.one (.sc _)) (.inr rfl) rfl) rfl (Nat.le_of_ble_eq_true rfl)) rfl ?_
      refine SV.nil ?_
      refine SV.tn ?_
      refine SV.again (fun i => [].getD i 0) ((p3, h3, n - 1, GroupD.comb g (GroupD.ofRow ⟨g.fKey, r.value, r.width⟩))) (⟨⟨hp3, (by show (0 : Int) ≤ n - 1; omega), (by show n - 1 < (4 : Int); omega)⟩, (by show (n - 1).toNat < n.toNat; omega)⟩) (pinsC hE rfl) (VS.le.mk' (le_put (le_put (le_put (le_put (le_box (le_box (le_box le_nil))) (V.le.keep (ag := false) (xs := [.bp 0 0]) (ys := [.bp 0 0]) rfl rfl ⟨⟨rfl, (Nat.le_of_ble_eq_true rfl)⟩, trivial⟩)) (V.le.keep (ag := false) (xs := [.bp 1 0]) (ys := [.bp 1 0]) rfl rfl ⟨⟨rfl, (Nat.le_of_ble_eq_true rfl)⟩, trivial⟩)) (V.le.keep (ag := false) (xs := [.bp 2 0]) (ys := [.bp 2 0]) rfl rfl ⟨⟨rfl, (Nat.le_of_ble_eq_true rfl)⟩, trivial⟩)) (V.le.keep (ag := false) (xs := [.sc _]) (ys := [.sc _]) rfl rfl ⟨(by first | rfl | (show Leaf.sc _ = Leaf.sc _; refine congrArg Leaf.sc ?_; first | rfl | go_num | (simp [cntAll]; done)) | (simp [cntAll]; done) | (simp; omega)), trivial⟩)) ⟨⟨rfl, ⟨rfl, (by first | rfl | (show Leaf.sc _ = Leaf.sc _; refine congrArg Leaf.sc ?_; first | rfl | go_num | (simp [cntAll]; done)) | (simp [cntAll]; done) | (simp; omega)), (by first | rfl | (show Leaf.sc _ = Leaf.sc _; refine congrArg Leaf.sc ?_; first | rfl | go_num | (simp [cntAll]; done)) | (simp [cntAll]; done) | (simp; omega)), trivial⟩⟩, ⟨⟨rfl, ⟨rfl, rfl, rfl, rfl, rfl, trivial⟩⟩, ⟨⟨rfl, ⟨(by first | rfl | (show Leaf.sc _ = Leaf.sc _; refine congrArg Leaf.sc ?_; first | rfl | go_num | (simp [cntAll]; done)) | (simp [cntAll]; done) | (simp; omega)), (by first | rfl | (show Leaf.sc _ = Leaf.sc _; refine congrArg Leaf.sc ?_; first | rfl | go_num | (simp [cntAll]; done)) | (simp [cntAll]; done) | (simp; omega)), (by first | rfl | (show Leaf.sc _ = Leaf.sc _; refine congrArg Leaf.sc ?_; first | rfl | go_num | (simp [cntAll]; done)) | (simp [cntAll]; done) | (simp; omega)), (by first | rfl | (show Leaf.sc _ = Leaf.sc _; refine congrArg Leaf.sc ?_; first | rfl | go_num | (simp [cntAll]; done)) | (simp [cntAll]; done) | (simp; omega)), (by first | rfl | (show Leaf.sc _ = Leaf.sc _; refine congrArg Leaf.sc ?_; first | rfl | go_num | (simp [cntAll]; done)) | (simp [cntAll]; done) | (simp; omega)), trivial⟩⟩, trivial⟩⟩⟩ trivial nil_ob (fun i j hi hj e => absurd hi (Nat.not_lt_zero i)))
    · skip   -- c0.F
      refine SV.exit ?_
      refine SV.te ?_
      refine SV.te ?_
      refine SV.bh ?_
      refine SV.tn ?_
      refine SV.seq' ?_
      refine SV.seq' ?_
      refine SV.region ?_
      refine SV.op (OpL.ok (nb := 3) (ok_move (v := V.one (.bp 0 0)) (.inl rfl) rfl) rfl (Nat.le_of_ble_eq_true rfl)) rfl ?_
      refine SV.callK (b := 0) hC rfl ⟨_, _, Tryd.func103, rfl, by decide⟩ (vk_below 10 (by decide) (by decide)) rfl ⟨rfl, trivial⟩ rfl hq rfl (Nat.le_of_ble_eq_true rfl) (fun _ => wanted0 rfl) ?_
      rintro k1 p4 h4 ⟨hk0, hk1⟩ hp4
      refine SV.nil ?_
      refine SV.tn ?_
      refine SV.block ?_
      refine SV.seq' ?_
      refine SV.region ?_
      refine SV.op (OpL.ok (nb := 3) (ok_s2 (x := .tmp 25) (x' := .const ((Value.int IntKind.i64 0))) (VScal.one rfl) (VScal.one rfl) (fun ρ h1 h2 w => by go_simp; (try go_bits); with_reducible rfl) rfl) rfl (Nat.le_of_ble_eq_true rfl)) rfl ?_
      refine SV.op (OpL.ok (nb := 3) (ok_move (v := V.one (.sc _)) (.inr rfl) rfl) rfl (Nat.le_of_ble_eq_true rfl)) rfl ?_
      refine SV.nil ?_
      refine SV.tn ?_
      refine SV.cond rfl (fun hc1 => ?_) (fun hc1 => ?_)
      · skip   -- c1.T
        refine SV.drawC [0] [.q 0, .q 1, .q 2, .m 3, .m 4, .q 5, .q 6] [7] (by kernel_rfl) (by kernel_rfl) ?_
        refine DC.q rfl (ok_field_bp (b := 2) (o' := 0) (off := 2) rfl rfl fld_impl_Group_2) rfl rfl (Nat.le_of_ble_eq_true rfl) (fun _ _ _ _ h => h) ?_
        refine DC.lb (b := 2) (i' := 2) (ag := false) (m := 1) (ys := [.sc _]) rfl rfl rfl rfl agg_int sz_int (fun _ => rfl) rfl rfl (Nat.le_of_ble_eq_true rfl) (by decide) rfl rfl (Nat.le_of_ble_eq_true rfl) (fun _ _ _ _ h => h) ?_
        refine DC.q rfl (ok_move (v := V.one (.bp 0 0)) (.inl rfl) rfl) rfl rfl (Nat.le_of_ble_eq_true rfl) (fun _ _ _ _ h => h) ?_
        refine DC.m rfl (ok_litS (kk := 0) (xs := [.const ((Value.int IntKind.i64 (-100))), .const ((Value.int IntKind.i64 300))]) (us := [_, _]) elt_int rfl rfl rfl rfl (by decide) (by decide) ⟨rfl, rfl, trivial⟩ rfl (Nat.le_of_ble_eq_true rfl)) rfl (Nat.le_of_ble_eq_true rfl) (Nat.le_of_ble_eq_true rfl) ?_
        refine DC.mKT (b := 0) hC rfl rfl ⟨_, _, Tryd.func104, rfl, by decide⟩ (vk_pick [-100, 300] (by decide) (by decide)) rfl ⟨⟨[.hd 0], rfl, ⟨rfl, trivial⟩⟩, trivial⟩ rfl (by decide) (Nat.le_of_ble_eq_true rfl) hp4 rfl (Nat.le_of_ble_eq_true rfl) rfl ?_
        rintro x p5 h5 hx hp5
        refine DC.q rfl (ok_s2 (x := .tmp 29) (x' := .tmp 32) (VScal.one rfl) (VScal.one rfl) (fun ρ h1 h2 w => by go_simp; (try go_bits); with_reducible rfl) rfl) rfl rfl (Nat.le_of_ble_eq_true rfl) (fun _ _ _ _ h => h) ?_
        refine DC.q rfl (ok_field_bp (b := 2) (o' := 0) (off := 2) rfl rfl fld_impl_Group_2) rfl rfl (Nat.le_of_ble_eq_true rfl) (fun _ _ _ _ h => h) ?_
        refine DC.stores ?_
        refine SV.z rfl (ok_store_bp (b := 2) (i := 2) (m := 1) (ag := false) (zs := [.sc _]) (ys := [.sc _, .sc _, .sc _, .sc _, .sc _]) rfl rfl rfl rfl sz_int (fun _ => rfl) rfl (Nat.le_of_ble_eq_true rfl) rfl rfl rfl) rfl ?_
        refine SV.zend ?_
        refine SV.bn ?_
        refine SV.tn ?_
        refine SV.seq' ?_
        refine SV.region ?_
        refine SV.op (OpL.ok (nb := 3) (ok_load_bp (b := 2) (i := 0) (ag := true) (m := 5) (ys := [.sc _, .sc _, .sc _, .sc _, .sc _]) rfl rfl rfl agg_impl_Group sz_impl_Group (fun h => by cases h) rfl rfl (Nat.le_of_ble_eq_true rfl)) rfl (Nat.le_of_ble_eq_true rfl)) rfl ?_
        refine SV.op (ok_store_bp (b := 1) (i := 0) (m := 5) (ag := true) (zs := [.sc _, .sc _, .sc _, .sc _, .sc _]) (ys := [.sc _, .sc _, .sc _, .sc _, .sc _]) rfl rfl rfl rfl sz_impl_Group (fun h => by cases h) rfl (Nat.le_of_ble_eq_true rfl) rfl rfl rfl) rfl ?_
        refine SV.nil ?_
        refine SV.tn ?_
        refine SV.ret ?_
        apply SV.doneK (Pr := fun _ : GroupD => True) (rs := fun y => [(true, tGroup y)]) (y := ⟨g.fKey, g.fCount, wrap64 (g.fSum + x), g.fMin, g.fMax⟩) (hy := trivial) (hC := hC) (hpin := hpin) (hp := hp5) (hbx := rfl) (hf := Tryd.results63) (ht := rfl) (he := .inl rfl)
        case hr => exact (ResAll.cons (ResOk.cell (b := 1) (ag := true) (xs := [.sc _, .sc _, .sc _, .sc _, .sc _]) rfl rfl agg_impl_Group sz_impl_Group (fun h => by cases h)) ResAll.nil')
        case h2 => simp [two]
        refine ⟨rfl, ⟨?_, ?_, ?_, ?_, ?_, trivial⟩, trivial⟩ <;> rfl
      · skip   -- c1.F
        refine SV.seq' ?_
        refine SV.region ?_
        refine SV.op (OpL.ok (nb := 3) (ok_s2 (x := .tmp 25) (x' := .const ((Value.int IntKind.i64 1))) (VScal.one rfl) (VScal.one rfl) (fun ρ h1 h2 w => by go_simp; (try go_bits); with_reducible rfl) rfl) rfl (Nat.le_of_ble_eq_true rfl)) rfl ?_
        refine SV.op (OpL.ok (nb := 3) (ok_move (v := V.one (.sc _)) (.inr rfl) rfl) rfl (Nat.le_of_ble_eq_true rfl)) rfl ?_
        refine SV.nil ?_
        refine SV.tn ?_
        refine SV.cond rfl (fun hc2 => ?_) (fun hc2 => ?_)
        · skip   -- c2.T
          refine SV.region ?_
          refine SV.op (OpL.ok (nb := 3) (ok_move (v := V.one (.bp 0 0)) (.inl rfl) rfl) rfl (Nat.le_of_ble_eq_true rfl)) rfl ?_
          refine SV.op (OpMk.ok (ok_litS (kk := 0) (xs := [.const ((Value.int IntKind.i64 0)), .const ((Value.int IntKind.i64 25))]) (us := [_, _]) elt_int rfl rfl rfl rfl (by decide) (by decide) ⟨rfl, rfl, trivial⟩ rfl (Nat.le_of_ble_eq_true rfl))) rfl ?_
          refine SV.callKT (b := 0) hC rfl ⟨_, _, Tryd.func104, rfl, by decide⟩ (vk_pick [0, 25] (by decide) (by decide)) rfl ⟨⟨[.hd 0], rfl, ⟨rfl, trivial⟩⟩, trivial⟩ rfl hp4 rfl (Nat.le_of_ble_eq_true rfl) (fun _ => wanted0 rfl) ?_
          rintro x p6 h6 hx hp6
          refine SV.op (OpL.ok (nb := 3) (ok_field_bp (b := 2) (o' := 0) (off := 1) rfl rfl fld_impl_Group_1) rfl (Nat.le_of_ble_eq_true rfl)) rfl ?_
          refine SV.op (ok_store_bp (b := 2) (i := 1) (m := 1) (ag := false) (zs := [.sc _]) (ys := [.sc _, .sc _, .sc _, .sc _, .sc _]) rfl rfl rfl rfl sz_int (fun _ => rfl) rfl (Nat.le_of_ble_eq_true rfl) rfl rfl rfl) rfl ?_
          refine SV.nil ?_
          refine SV.bn ?_
          refine SV.tn ?_
          refine SV.seq' ?_
          refine SV.region ?_
          refine SV.op (OpL.ok (nb := 3) (ok_load_bp (b := 2) (i := 0) (ag := true) (m := 5) (ys := [.sc _, .sc _, .sc _, .sc _, .sc _]) rfl rfl rfl agg_impl_Group sz_impl_Group (fun h => by cases h) rfl rfl (Nat.le_of_ble_eq_true rfl)) rfl (Nat.le_of_ble_eq_true rfl)) rfl ?_
          refine SV.op (ok_store_bp (b := 1) (i := 0) (m := 5) (ag := true) (zs := [.sc _, .sc _, .sc _, .sc _, .sc _]) (ys := [.sc _, .sc _, .sc _, .sc _, .sc _]) rfl rfl rfl rfl sz_impl_Group (fun h => by cases h) rfl (Nat.le_of_ble_eq_true rfl) rfl rfl rfl) rfl ?_
          refine SV.nil ?_
          refine SV.tn ?_
          refine SV.ret ?_
          apply SV.doneK (Pr := fun _ : GroupD => True) (rs := fun y => [(true, tGroup y)]) (y := ⟨g.fKey, x, g.fSum, g.fMin, g.fMax⟩) (hy := trivial) (hC := hC) (hpin := hpin) (hp := hp6) (hbx := rfl) (hf := Tryd.results63) (ht := rfl) (he := .inl rfl)
          case hr => exact (ResAll.cons (ResOk.cell (b := 1) (ag := true) (xs := [.sc _, .sc _, .sc _, .sc _, .sc _]) rfl rfl agg_impl_Group sz_impl_Group (fun h => by cases h)) ResAll.nil')
          case h2 => simp [two]
          refine ⟨rfl, ⟨?_, ?_, ?_, ?_, ?_, trivial⟩, trivial⟩ <;> rfl
        · skip   -- c2.F
          refine SV.seq' ?_
          refine SV.region ?_
          refine SV.op (OpL.ok (nb := 3) (ok_s2 (x := .tmp 25) (x' := .const ((Value.int IntKind.i64 2))) (VScal.one rfl) (VScal.one rfl) (fun ρ h1 h2 w => by go_simp; (try go_bits); with_reducible rfl) rfl) rfl (Nat.le_of_ble_eq_true rfl)) rfl ?_
          refine SV.op (OpL.ok (nb := 3) (ok_move (v := V.one (.sc _)) (.inr rfl) rfl) rfl (Nat.le_of_ble_eq_true rfl)) rfl ?_
          refine SV.nil ?_
          refine SV.tn ?_
          refine SV.cond rfl (fun hc3 => ?_) (fun hc3 => ?_)
          · skip   -- c3.T
            refine SV.region ?_
            refine SV.op (OpL.ok (nb := 3) (ok_field_bp (b := 2) (o' := 0) (off := 4) rfl rfl fld_impl_Group_4) rfl (Nat.le_of_ble_eq_true rfl)) rfl ?_
            refine SV.op (OpL.ok (nb := 3) (ok_load_bp (b := 2) (i := 4) (ag := false) (m := 1) (ys := [.sc _]) rfl rfl rfl agg_int sz_int (fun _ => rfl) rfl rfl (Nat.le_of_ble_eq_true rfl)) rfl (Nat.le_of_ble_eq_true rfl)) rfl ?_
            refine SV.op (OpL.ok (nb := 3) (ok_s2 (x := .tmp 44) (x' := .const ((Value.int IntKind.i64 1))) (VScal.one rfl) (VScal.one rfl) (fun ρ h1 h2 w => by go_simp; (try go_bits); with_reducible rfl) rfl) rfl (Nat.le_of_ble_eq_true rfl)) rfl ?_
            refine SV.op (OpL.ok (nb := 3) (ok_field_bp (b := 2) (o' := 0) (off := 3) rfl rfl fld_impl_Group_3) rfl (Nat.le_of_ble_eq_true rfl)) rfl ?_
            refine SV.op (ok_store_bp (b := 2) (i := 3) (m := 1) (ag := false) (zs := [.sc _]) (ys := [.sc _, .sc _, .sc _, .sc _, .sc _]) rfl rfl rfl rfl sz_int (fun _ => rfl) rfl (Nat.le_of_ble_eq_true rfl) rfl rfl rfl) rfl ?_
            refine SV.nil ?_
            refine SV.bn ?_
            refine SV.tn ?_
            refine SV.seq' ?_
            refine SV.region ?_
            refine SV.op (OpL.ok (nb := 3) (ok_load_bp (b := 2) (i := 0) (ag := true) (m := 5) (ys := [.sc _, .sc _, .sc _, .sc _, .sc _]) rfl rfl rfl agg_impl_Group sz_impl_Group (fun h => by cases h) rfl rfl (Nat.le_of_ble_eq_true rfl)) rfl (Nat.le_of_ble_eq_true rfl)) rfl ?_
            refine SV.op (ok_store_bp (b := 1) (i := 0) (m := 5) (ag := true) (zs := [.sc _, .sc _, .sc _, .sc _, .sc _]) (ys := [.sc _, .sc _, .sc _, .sc _, .sc _]) rfl rfl rfl rfl sz_impl_Group (fun h => by cases h) rfl (Nat.le_of_ble_eq_true rfl) rfl rfl rfl) rfl ?_
            refine SV.nil ?_
            refine SV.tn ?_
            refine SV.ret ?_
            apply SV.doneK (Pr := fun _ : GroupD => True) (rs := fun y => [(true, tGroup y)]) (y := ⟨g.fKey, g.fCount, g.fSum, wrap64 (g.fMax + 1), g.fMax⟩) (hy := trivial) (hC := hC) (hpin := hpin) (hp := hp4) (hbx := rfl) (hf := Tryd.results63) (ht := rfl) (he := .inl rfl)
            case hr => exact (ResAll.cons (ResOk.cell (b := 1) (ag := true) (xs := [.sc _, .sc _, .sc _, .sc _, .sc _]) rfl rfl agg_impl_Group sz_impl_Group (fun h => by cases h)) ResAll.nil')
            case h2 => simp [two]
            refine ⟨rfl, ⟨?_, ?_, ?_, ?_, ?_, trivial⟩, trivial⟩ <;> rfl
          · skip   -- c3.F
            refine SV.skip ?_
            refine SV.bn ?_
            refine SV.tn ?_
            refine SV.seq' ?_
            refine SV.region ?_
            refine SV.op (OpL.ok (nb := 3) (ok_load_bp (b := 2) (i := 0) (ag := true) (m := 5) (ys := [.sc _, .sc _, .sc _, .sc _, .sc _]) rfl rfl rfl agg_impl_Group sz_impl_Group (fun h => by cases h) rfl rfl (Nat.le_of_ble_eq_true rfl)) rfl (Nat.le_of_ble_eq_true rfl)) rfl ?_
            refine SV.op (ok_store_bp (b := 1) (i := 0) (m := 5) (ag := true) (zs := [.sc _, .sc _, .sc _, .sc _, .sc _]) (ys := [.sc _, .sc _, .sc _, .sc _, .sc _]) rfl rfl rfl rfl sz_impl_Group (fun h => by cases h) rfl (Nat.le_of_ble_eq_true rfl) rfl rfl rfl) rfl ?_
            refine SV.nil ?_
            refine SV.tn ?_
            refine SV.ret ?_
            apply SV.doneK (Pr := fun _ : GroupD => True) (rs := fun y => [(true, tGroup y)]) (y := g) (hy := trivial) (hC := hC) (hpin := hpin) (hp := hp4) (hbx := rfl) (hf := Tryd.results63) (ht := rfl) (he := .inl rfl)
            case hr => exact (ResAll.cons (ResOk.cell (b := 1) (ag := true) (xs := [.sc _, .sc _, .sc _, .sc _, .sc _]) rfl rfl agg_impl_Group sz_impl_Group (fun h => by cases h)) ResAll.nil')
            case h2 => simp [two]
            refine ⟨rfl, ⟨?_, ?_, ?_, ?_, ?_, trivial⟩, trivial⟩ <;> rfl
end Go.Proofs.YtmlcdhblofjpbaaDoor
/- States told by trees: comparisons with nil, calls that write into what they are lent and answer nothing. -/
namespace Go.Proofs.YtmlcdhblofjpbaaDoor.V
open Go Go.RowKit
set_option linter.unusedVariables false
variable {P : Program} {E : Env} {N nb : Nat} {σ σ' τ : VS} {o : Oper} {a : Act} {w : World} {G : Ghost} {Q : Exit → Act → World → Prop} {K : Act → World → Prop}
/-- The call turns the lent objects from ls into ls', whatever the memory. -/
def VU (P : Program) (f : FuncId) (ins : List (Bool × List AC)) (ls ls' : List T) : Prop :=
  ∀ (w : World) (lv : Nat → Value) (F : Nat → Nat → Prop) (hF : ∀ i b, i < ls.length → F i b → b < w.heap.size) (vs : List Value), (∀ i t, ls[i]? = some t → Own w 0 t (lv i) (F i) ∧ ∃ ty es, t = .seq ty es) → (∀ i j b, i < ls.length → j < ls.length → i ≠ j → F i b → ¬ F j b) → ArgsM (Env.lend w lv F ls.length hF) ins vs →
    Calls P f vs.toArray w fun e w' => (∃ v, e = .returned v ∧ Same (Env.lend w lv F ls.length hF) (Env.lend w lv F ls.length hF).w0 w') ∧ Lents (Env.lend w lv F ls.length hF) ls' w'
/-- A call that writes into objects of the caller's, its answer not wanted. -/
theorem ok_callU {d : Nat} {f : FuncId} {xs : List Operand} {ats : Array TypeId} {ins : List (Bool × List AC)} {ls ls' : List T} {is : List Nat} (ho : o.op = .call { callee := .value (.func f), args := xs.toArray, argTypes := ats }) (hb : ∃ fn c, P.funcs[f]? = some fn ∧ fn.body = some c ∧ fn.name ≠ "runtime.NumGoroutine")
    (hc : VU P f ins ls ls') (hx : σ.argsM (is.map .hd) xs ins) (hi : σ.lentIs is ls ls') (hnd : is.Nodup) (hd : o.dst = some d) (hdN : d < N) : OpOk P E N σ o ((σ.setobs is ls').put d (V.one .dead)) :=
  fun a w G K Q h k => by
    obtain ⟨fn, c, h1, h2, h2'⟩ := hb
    obtain ⟨l1, l2, l3⟩ := lentIs_get hi
    obtain ⟨F, hFd⟩ : ∃ F : Nat → Nat → Prop, F = fun q => G.ft (is.getD q 0) := ⟨_, rfl⟩
    obtain ⟨lv, hlv⟩ : ∃ lv : Nat → Value, lv = fun q => G.vl (is.getD q 0) := ⟨_, rfl⟩
    have hat : ∀ q i, is[q]? = some i → F q = G.ft i ∧ lv q = G.vl i := fun q i hq => by rw [hFd, hlv]; simp [List.getD, hq]
    have hin : ∀ q, q < ls.length → ∃ i ver t t', is[q]? = some i ∧ ls[q]? = some t ∧ ls'[q]? = some t' ∧ σ.ob i = some (ver, t) ∧ (∃ ty es, t' = .seq ty es) ∧ F q = G.ft i ∧ lv q = G.vl i := fun q hq => by
      obtain ⟨i, ver, t', e1, e2, e3, e4⟩ := l3 q ls[q] (List.getElem?_eq_getElem hq)
      exact ⟨i, ver, ls[q], t', e1, List.getElem?_eq_getElem hq, e2, e3, e4, hat q i e1⟩
    have hF : ∀ q b, q < ls.length → F q b → (E.B ≤ b ∨ E.ln b) ∧ b < w.heap.size := fun q b hq hb => by
      obtain ⟨i, ver, t, t', e1, e2, e3, e4, e5, e6, e7⟩ := hin q hq
      rw [e6] at hb
      exact h.ftlt i b (by rw [e4]; simp) hb
    have hinj : ∀ q q' i, is[q]? = some i → is[q']? = some i → q = q' := fun q q' i h1 h2 => by
      rcases Nat.lt_trichotomy q q' with hlt | he | hgt
      · exact absurd rfl (by
          have := (List.pairwise_iff_getElem.1 hnd) q q' (get_lt h1) (get_lt h2) hlt
          rw [List.getElem?_eq_getElem (get_lt h1)] at h1
          rw [List.getElem?_eq_getElem (get_lt h2)] at h2
          rw [Option.some.inj h1, Option.some.inj h2] at this
          exact this)
      · exact he
      · exact absurd rfl (by
          have := (List.pairwise_iff_getElem.1 hnd) q' q (get_lt h2) (get_lt h1) hgt
          rw [List.getElem?_eq_getElem (get_lt h1)] at h1
          rw [List.getElem?_eq_getElem (get_lt h2)] at h2
          rw [Option.some.inj h1, Option.some.inj h2] at this
          exact this)
    have hcall := hc w lv F (fun q b hq hb => (hF q b hq hb).2) (xs.map a.eval) (fun q t hq => by
      obtain ⟨i, ver, t', e1, e2, e3, e4⟩ := l3 q t hq
      obtain ⟨-, e5, e6⟩ := h.objs i ver t e3
      rw [(hat q i e1).1, (hat q i e1).2]
      exact ⟨e5, e6⟩) (fun q q' b hq hq' hne hb => by
      obtain ⟨i, ver, t, t', e1, e2, e3, e4, e5, e6, e7⟩ := hin q hq
      obtain ⟨i', ver', s, s', f1, f2, f3, f4, f5, f6, f7⟩ := hin q' hq'
      rw [e6] at hb
      rw [f6]
      refine h.disj i i' b (by rw [e4]; simp) (by rw [f4]; simp) (fun e => hne ?_) hb
      subst e
      exact hinj q q' i e1 f1) (h.argsM (fun q x u hq hu => by
      rw [List.getElem?_map] at hq
      obtain ⟨i, e1, e2⟩ := Option.map_eq_some_iff.1 hq
      subst e2
      exact ⟨by show q < ls.length; rw [← l1]; exact get_lt e1, by rw [hu.1.2]; exact (hat q i e1).2.symm⟩) hx)
    have hrun : (execOp a.eval o).run P w = .ok (.enter f (xs.map a.eval).toArray) w := by
      simp [execOp, ho, resolve, Act.eval, Deferred.ofValue, invoke, callFunc, h1, h2, h2', Result.andThen]
    unfold Oper.wp
    rw [hrun]
    refine hcall.mono fun e w' ⟨⟨v, he, hsame⟩, F', o', d', l'⟩ => ?_
    subst he
    have hsm : Same E w w' := ⟨hsame.os, hsame.tape, hsame.output, hsame.size, fun b hb => hsame.block b ⟨Nat.lt_of_lt_of_le hb.1 h.low, fun ⟨q, hq, hqb⟩ => (hF q b hq hqb).1.elim (fun h1 => by have := hb.1; omega) hb.2⟩⟩
    obtain ⟨s1, s2, s3⟩ := setobs_same (is := is) (ts := ls') (σ := σ)
    have hmem : ∀ i, i ∈ is → ∃ q t t' ver, is[q]? = some i ∧ ls[q]? = some t ∧ ls'[q]? = some t' ∧ σ.ob i = some (ver, t) ∧ (∃ ty es, t' = .seq ty es) ∧ (σ.setobs is ls').ob i = some (ver + 1, t') := fun i hi => by
      obtain ⟨q, hq, rfl⟩ := List.getElem_of_mem hi
      obtain ⟨i', ver, t, t', e1, e2, e3, e4, e5, -⟩ := hin q (by omega)
      have : is[q] = i' := by rw [List.getElem?_eq_getElem hq] at e1; exact Option.some.inj e1
      subst this
      exact ⟨q, t, t', ver, e1, e2, e3, e4, e5, by rw [setobs_at hnd e1 e3, e4]; rfl⟩
    have hturn := h.turn (σ' := σ.setobs is ls') (w' := w') (G' := ⟨G.β, G.vl, fun i b => (i ∉ is ∧ G.ft i b) ∨ ∃ q, is[q]? = some i ∧ F' q b⟩) (fun b => ∃ q, q < ls.length ∧ F q b) s1 s2 rfl hsm (fun b hb hnD => hsame.block b ⟨hb, hnD⟩) (fun b hb ⟨q, hq, hqb⟩ => by
      obtain ⟨i, ver, t, t', e1, e2, e3, e4, e5, e6, e7⟩ := hin q hq
      rw [e6] at hqb
      exact h.boxft b i hb (by rw [e4]; simp) hqb) (Nat.le_of_eq s3.symm) (fun i hi => rfl) (fun i v' t' hv' => ?_) (fun i j b hi hj hij hbi hbj => ?_)
    · rw [hd]
      exact k _ _ _ (hturn.1.put hdN (vone.2 ⟨trivial, .inl rfl⟩))
    · by_cases him : i ∈ is
      · obtain ⟨q, t, t2, ver, e1, e2, e3, e4, e5, e6⟩ := hmem i him
        rw [e6] at hv'
        cases hv'
        have hq := get_lt e3
        have hqi : ∀ b, ((i ∉ is ∧ G.ft i b) ∨ ∃ q, is[q]? = some i ∧ F' q b) → F' q b := fun b hb => by
          rcases hb with ⟨hb, -⟩ | ⟨q', f1, f2⟩
          · exact absurd him hb
          · rw [hinj q q' i e1 f1]; exact f2
        refine .inr ⟨by rw [s3]; exact (h.objs i ver t e4).1, fun _ => ⟨ver, t, e4, Nat.lt_succ_self _⟩, ?_, e5, fun b hb => ?_, fun b hb c hc e => ?_⟩
        · have := o' q t' e3
          rw [show (Env.lend w lv F ls.length _).lv q = G.vl i from (hat q i e1).2] at this
          exact this.mono fun b hb => .inr ⟨q, e1, hb⟩
        · obtain ⟨m1, m2⟩ := l' q b hq (hqi b hb)
          refine ⟨?_, m2⟩
          rcases m1 with m1 | ⟨q', m1, m3⟩
          · exact .inl (Nat.le_trans h.low m1)
          · exact (hF q' b m1 m3).1
        · obtain ⟨m1, m2⟩ := l' q b hq (hqi b hb)
          rcases m1 with m1 | ⟨q', m1, m3⟩
          · exact (h.fresh m1).2 c hc e
          · obtain ⟨i', ver', s, s', f1, f2, f3, f4, f5, f6, f7⟩ := hin q' m1
            rw [f6, ← e] at m3
            exact h.boxft c i' hc (by rw [f4]; simp) m3
      · rw [setobs_far him] at hv'
        refine .inl ⟨hv', fun b => ⟨fun hb => ?_, fun hb => .inl ⟨him, hb⟩⟩, fun b hb ⟨q, hq, hqb⟩ => ?_⟩
        · rcases hb with hb | ⟨q, f1, -⟩
          · exact hb.2
          · exact absurd (get_mem f1) him
        · obtain ⟨i', ver', s, s', f1, f2, f3, f4, f5, f6, f7⟩ := hin q hq
          rw [f6] at hqb
          exact h.disj i i' b (by rw [hv']; simp) (by rw [f4]; simp) (fun e => him (by rw [e]; exact get_mem f1)) hb hqb
    · have key : ∀ i q b, is[q]? = some i → F' q b → ∀ j, j ∉ is → σ.ob j ≠ none → ¬ G.ft j b := fun i q b e1 e2 j hj1 hj2 hjb => by
        have hq : q < ls'.length := by have := get_lt e1; omega
        obtain ⟨m1, m2⟩ := l' q b hq e2
        rcases m1 with m1 | ⟨q', m1, m3⟩
        · have := (h.ftlt j b hj2 hjb).2
          have m1' : w.heap.size ≤ b := m1
          omega
        · obtain ⟨i', ver', s, s', f1, f2, f3, f4, f5, f6, f7⟩ := hin q' m1
          rw [f6] at m3
          exact h.disj j i' b hj2 (by rw [f4]; simp) (fun e => hj1 (by rw [e]; exact get_mem f1)) hjb m3
      rcases hbi with ⟨hi1, hi2⟩ | ⟨q, hi1, hi2⟩ <;> rcases hbj with ⟨hj1, hj2⟩ | ⟨q', hj1, hj2⟩
      · rw [setobs_far hi1] at hi
        rw [setobs_far hj1] at hj
        exact h.disj i j b hi hj hij hi2 hj2
      · rw [setobs_far hi1] at hi
        exact key j q' b hj1 hj2 i hi1 hi hi2
      · rw [setobs_far hj1] at hj
        exact key i q b hi1 hi2 j hj1 hj hj2
      · have hq : q < ls'.length := by have := get_lt hi1; omega
        have hq' : q' < ls'.length := by have := get_lt hj1; omega
        exact d' q q' b hq hq' (fun e => hij (by subst e; rw [hi1] at hj1; exact Option.some.inj hj1)) hi2 hj2
theorem flat_sub {fs : List (List T)} (h : Flat fs) (l n : Nat) : Flat ((fs.take n).drop l) := fun k e j t h1 h2 => by
  rw [List.getElem?_drop, List.getElem?_take] at h1
  split at h1
  · exact h _ e j t h1 h2
  · cases h1
theorem flat_app {fs gs : List (List T)} (h : Flat fs) (k : Flat gs) : Flat (fs ++ gs) := fun q e j t h1 h2 => by
  rcases cat_el h1 with ⟨-, h3⟩ | ⟨-, h3⟩
  · exact h q e j t h3 h2
  · exact k _ e j t h3 h2
theorem flat_one {ts : List T} (h : ts.all isLit = true) : Flat [ts] := flat_of (f := fun _ : Unit => ts) (fun _ => h) [()]
/-- A slice that is read is compared with nil: nil only where it is empty. -/
theorem SV.isnil {d : Nat} {x y : Operand} {ty : TypeId} {es : List (List T)} {rest : List Oper} {ops : Array Oper} (hx : σ.ev x = V.one (.ro (.seq ty es))) (hy : σ.ev y = V.one (.sc (.slice none 0 0))) (hd : o.dst = some d) (hdN : d < N) (hg : o.guard = none)
    (hrun : ∀ (ρ : Operand → Value) (ad : Option Addr) (n c : Nat) (w : World), ρ x = .slice ad n c → ρ y = .slice none 0 0 → (execOp ρ o).run P w = .ok (.value (.bool ad.isNone)) w)
    (ht : es = [] → SV E N (σ.put d (V.one (.sc (.bool true)))) (wpList P ops Q rest)) (hf : SV E N (σ.put d (V.one (.sc (.bool false)))) (wpList P ops Q rest)) : SV E N σ (wpList P ops Q (o :: rest)) := fun a w G hr => by
  have h1 := hr.ev x
  rw [hx, vone] at h1
  have h2 := hr.sc hy
  have h3 : Inn E.old w (.seq ty es) (a.eval x) := h1.1
  cases hv : a.eval x with
  | slice ad n c =>
    rw [hv] at h3
    refine wpList_step fun K hK => ?_
    rw [if_pos (by simp [Region.wanted, hg])]
    refine wp_value (v := .bool ad.isNone) (w' := w) (hrun _ ad n c w hv h2) ?_
    rw [hd]
    cases ad with
    | none =>
      have he : es = [] := by
        cases h3 with
        | seq n' hp hz hn hc hm h0 => have := h0 rfl; subst this; exact List.eq_nil_of_length_eq_zero (by omega)
      exact hK _ _ (ht he _ _ G (hr.put hdN (vone.2 ⟨rfl, .inr rfl⟩)))
    | some ad => exact hK _ _ (hf _ _ G (hr.put hdN (vone.2 ⟨rfl, .inr rfl⟩)))
  | _ => rw [hv] at h3; cases h3
/-- An empty slice that a constant gave, in a box, is an object. -/
theorem SV.nlscb {b j kk n : Nat} {ty ty' : TypeId} {xs : List Leaf} (hb : σ.bs[b]? = some (ty', xs)) (hk : σ.nx = kk) (hj : xs[j]? = some (.sc (.slice none 0 0))) (hp : 0 < n) (hz : Sz ty n) {ys : List Leaf} (hy : xs.set j (.hd kk) = ys) (k : SV E N ((σ.new (.seq ty [])).setb b ty' ys) K) : SV E N σ K := fun a w G h => by
  subst hk
  subst hy
  obtain ⟨hB, us, h1, h2, h3⟩ := h.boxes b ty' xs hb
  have hjl := get_lt hj
  obtain ⟨⟨h4, -⟩, -⟩ := h3 j _ us[j] hj (List.getElem?_eq_getElem (by omega))
  obtain ⟨G', k1, k2, hβ, k3⟩ := h.newnil hp hz
  have h4' : us[j] = .slice none 0 0 := h4
  have k4 := k1.setbox (b := b) (ty := ty') (xs := xs) (xs' := xs.set j (.hd σ.nx)) (us' := us) (w' := w) hb (Same.refl _ _) (fun _ _ => rfl) (by rw [hβ]; exact h1) (by simpa using h2) (fun q x u hq hu => by
    by_cases hqj : j = q
    · subst hqj
      rw [List.getElem?_set_self hjl] at hq
      have hu' : us[j] = u := by rw [List.getElem?_eq_getElem (by omega)] at hu; exact Option.some.inj hu
      rw [← Option.some.inj hq, ← hu', h4']
      exact ⟨⟨⟨Nat.lt_succ_self _, k2.symm⟩, .inr rfl⟩, rfl⟩
    · rw [List.getElem?_set_ne hqj] at hq
      exact ⟨k3 x u (h3 q x u hq hu).1, (h3 q x u hq hu).2⟩)
  exact k a w G' k4
end Go.Proofs.YtmlcdhblofjpbaaDoor.V
/- The reference's merge of groups: told by trees. -/
namespace Go.Proofs.YtmlcdhblofjpbaaDoor
open Go Go.RowKit V
set_option linter.unusedVariables false
set_option maxRecDepth 100000 in
set_option maxHeartbeats 2000000 in
theorem vmerge_s (L : List GroupD) (hL : L.length ≤ 300000000000) : VC Tryd.prog 25 [(false, [.seq 33 ((L).map tGroup)])] false [(false, [.seq 33 ((GroupD.merge L).map tGroup)])] := by
  refine VC.enter Tryd.func25 rfl Tryd.ntmps25 (Nat.le_of_ble_eq_true rfl) fun E hE => ?_
  refine SV.seq' ?_
  refine SV.region ?_
  refine SV.op (OpL.ok (nb := 0) (ok_move (v := V.one (.sc _)) (.inr rfl) rfl) rfl (Nat.le_of_ble_eq_true rfl)) rfl ?_
  refine SV.nil ?_
  refine SV.tn ?_
  refine SV.seq' ?_
  refine SV.region ?_
  refine SV.op (OpMk.ok (ok_lit0 (kk := 0) elt_impl_Group rfl rfl rfl (Nat.le_of_ble_eq_true rfl))) rfl ?_
  refine SV.op (OpL.ok (nb := 0) (ok_move (v := V.one (.hd 0)) (.inr rfl) rfl) rfl (Nat.le_of_ble_eq_true rfl)) rfl ?_
  refine SV.nil ?_
  refine SV.tn ?_
  refine SV.seq' ?_
  refine SV.seq' ?_
  refine SV.region ?_
  refine SV.op (OpL.ok (nb := 0) (ok_move (v := V.one (.sc _)) (.inr rfl) rfl) rfl (Nat.le_of_ble_eq_true rfl)) rfl ?_
  refine SV.nil ?_
  refine SV.tn ?_
  refine SV.block ?_
  refine SV.loopF (X := Nat) (fun (σ : VS) t => (((((VS.nil.new (.seq 33 ((GroupD.merge (L.take t)).map tGroup))).put 0 (σ.tm 0)).put 2 (σ.tm 2)).put 3 (V.flat false [.hd 0])).put 4 (V.flat false [.sc (.int .i64 ((t : Int)))]))) (fun t => t ≤ L.length) (fun t => L.length - t) ?_ ?_
  · skip
    refine SV.again (fun i => [0].getD i 0) 0 ((by first | exact Nat.zero_le _ | (refine ⟨Nat.zero_le _, ?_⟩; simp; done) | (simp; done) | omega)) (pins hE rfl rfl) (VS.le.mk' (le_put (le_put (le_put (le_put (le_new le_nil) (V.le.keep (ag := false) (xs := [.ro _]) (ys := [.ro _]) rfl rfl ⟨rfl, trivial⟩)) (V.le.keep (ag := false) (xs := [.sc _]) (ys := [.sc _]) rfl rfl ⟨rfl, trivial⟩)) (V.le.keep (ag := false) (xs := [.hd 0]) (ys := [.hd 0]) rfl rfl ⟨⟨rfl, (Nat.le_of_ble_eq_true rfl), (Nat.le_of_ble_eq_true rfl)⟩, trivial⟩)) (V.le.keep (ag := false) (xs := [.sc _]) (ys := [.sc _]) rfl rfl ⟨(by first | rfl | (show Leaf.sc _ = Leaf.sc _; refine congrArg Leaf.sc ?_; first | rfl | go_num | (simp [cntAll]; done)) | (simp [cntAll]; done) | (simp; omega)), trivial⟩)) trivial ⟨.inr ⟨_, _, rfl, ?ob1_0, (Nat.le_of_ble_eq_true rfl)⟩, trivial⟩ (new_ob nil_ob) (fun i j hi hj e => inj_list (l := [0]) (by decide) i j hi hj e))
    case ob1_0 =>
      show some (T.seq _ _) = some (T.seq _ _)
      simp [GroupD.merge_nil]
  · rintro t ht
    refine SV.seq' ?_
    refine SV.seq' ?_
    refine SV.region ?_
    refine SV.op (OpL.ok (nb := 0) (ok_move (v := V.one (.sc _)) (.inl rfl) rfl) rfl (Nat.le_of_ble_eq_true rfl)) rfl ?_
    refine SV.op (OpL.ok (nb := 0) (ok_move (v := V.one (.ro _)) (.inl rfl) rfl) rfl (Nat.le_of_ble_eq_true rfl)) rfl ?_
    refine SV.op (OpL.ok (nb := 0) (ok_len (lf := .ro _) rfl elt_impl_Group.und rfl rfl) rfl (Nat.le_of_ble_eq_true rfl)) rfl ?_
    refine SV.op (OpL.ok (nb := 0) (ok_s2 (x := .tmp 8) (x' := .tmp 10) (VScal.one rfl) (VScal.one rfl) (fun ρ h1 h2 w => by go_simp; (try go_bits); with_reducible rfl) rfl) rfl (Nat.le_of_ble_eq_true rfl)) rfl ?_
    refine SV.nil ?_
    refine SV.tn ?_
    refine SV.cond rfl (fun hc0 => ?_) (fun hc0 => ?_)
    · skip   -- c0.T
      have htl : t < L.length := by simpa using hc0
      have hx : L[t]? = some L[t] := by simp [htl]
      have hML : (GroupD.merge (L.take t)).length ≤ t := by have := GroupD.merge_length (L.take t); simp at this; omega
      have hnx := GroupD.merge_next L t htl
      refine SV.skip ?_
      refine SV.tn ?_
      refine SV.seq' ?_
      refine SV.block ?_
      refine SV.seq' ?_
      refine SV.region ?_
      refine SV.op (OpL.ok (nb := 0) (ok_move (v := V.one (.sc _)) (.inr rfl) rfl) rfl (Nat.le_of_ble_eq_true rfl)) rfl ?_
      refine SV.nil ?_
      refine SV.tn ?_
      refine SV.seq' ?_
      refine SV.block ?_
      refine SV.loopF (X := Nat) (fun (σ : VS) q => ((((((VS.nil.new (σ.tree 0)).put 0 (σ.tm 0)).put 2 (σ.tm 2)).put 3 (V.flat false [.hd 0])).put 4 (σ.tm 4)).put 5 (V.flat false [.sc (.int .i64 ((q : Int)))]))) (fun q => q ≤ (GroupD.merge (L.take t)).length ∧ ∀ u y, u < q → (GroupD.merge (L.take t))[u]? = some y → y.fKey < L[t].fKey) (fun q => (GroupD.merge (L.take t)).length - q) ?_ ?_
      · skip
        refine SV.again (fun i => [0].getD i 0) 0 (⟨Nat.zero_le _, fun u y hu => absurd hu (Nat.not_lt_zero u)⟩) (pins hE rfl rfl) (VS.le.mk' (le_put (le_put (le_put (le_put (le_put (le_new le_nil) (V.le.keep (ag := false) (xs := [.ro _]) (ys := [.ro _]) rfl rfl ⟨rfl, trivial⟩)) (V.le.keep (ag := false) (xs := [.sc _]) (ys := [.sc _]) rfl rfl ⟨rfl, trivial⟩)) (V.le.keep (ag := false) (xs := [.hd 0]) (ys := [.hd 0]) rfl rfl ⟨⟨rfl, (Nat.le_of_ble_eq_true rfl), (Nat.le_of_ble_eq_true rfl)⟩, trivial⟩)) (V.le.keep (ag := false) (xs := [.sc _]) (ys := [.sc _]) rfl rfl ⟨rfl, trivial⟩)) (V.le.keep (ag := false) (xs := [.sc _]) (ys := [.sc _]) rfl rfl ⟨(by first | rfl | (show Leaf.sc _ = Leaf.sc _; refine congrArg Leaf.sc ?_; first | rfl | go_num | (simp [cntAll]; done)) | (simp [cntAll]; done) | (simp; omega)), trivial⟩)) trivial ⟨.inr ⟨_, _, rfl, rfl, (Nat.le_of_ble_eq_true rfl)⟩, trivial⟩ (new_ob nil_ob) (fun i j hi hj e => inj_list (l := [0]) (by decide) i j hi hj e))
      · rintro q ⟨hq, hlow⟩
        refine SV.seq' ?_
        refine SV.seq' ?_
        refine SV.draw [.q 0, .q 1, .q 2, .q 3, .q 4, .q 5, .q 6, .q 7, .q 8, .q 9, .q 10, .q 11, .q 12, .q 13, .q 14, .q 15, .q 16] [] (by kernel_rfl) (by kernel_rfl) ?_
        refine DW.q rfl (ok_move (v := V.one (.sc _)) (.inl rfl) rfl) rfl rfl (Nat.le_of_ble_eq_true rfl) (fun _ _ _ _ h => h) ?_
        refine DW.q rfl (ok_move (v := V.one (.hd 0)) (.inl rfl) rfl) rfl rfl (Nat.le_of_ble_eq_true rfl) (fun _ _ _ _ h => h) ?_
        refine DW.q rfl (ok_len (lf := .hd 0) rfl elt_impl_Group.und rfl rfl) rfl rfl (Nat.le_of_ble_eq_true rfl) (fun _ _ _ _ h => h) ?_
        refine DW.q rfl (ok_s2 (x := .tmp 14) (x' := .tmp 16) (VScal.one rfl) (VScal.one rfl) (fun ρ h1 h2 w => by go_simp; (try go_bits); with_reducible rfl) rfl) rfl rfl (Nat.le_of_ble_eq_true rfl) (fun _ _ _ _ h => h) ?_
        refine DW.q rfl (ok_move (v := V.one (.sc _)) (.inl rfl) rfl) rfl rfl (Nat.le_of_ble_eq_true rfl) (fun _ _ _ _ h => h) ?_
        refine DW.split (d := 18) rfl (fun hg0 => ?_) (fun hg0 => ?_)
        · skip   -- g0.T
          have hql : q < (GroupD.merge (L.take t)).length := by simpa using hg0
          obtain ⟨y, hy⟩ : ∃ y, (GroupD.merge (L.take t))[q]? = some y := ⟨_, List.getElem?_eq_getElem hql⟩
          refine DW.qY rfl (ok_move (v := V.one (.hd 0)) (.inl rfl) rfl) rfl rfl rfl (Nat.le_of_ble_eq_true rfl) rfl rfl rfl (Nat.le_of_ble_eq_true rfl) (fun _ _ _ _ h => h) ?_
          refine DW.qY rfl (ok_move (v := V.one (.sc _)) (.inl rfl) rfl) rfl rfl rfl (Nat.le_of_ble_eq_true rfl) rfl rfl rfl (Nat.le_of_ble_eq_true rfl) (fun _ _ _ _ h => h) ?_
          refine DW.qY rfl (ok_index (n := 5) (lf := .hd 0) rfl elt_impl_Group.und sz_impl_Group rfl rfl rfl (map_at hy)) rfl rfl rfl (Nat.le_of_ble_eq_true rfl) rfl rfl rfl (Nat.le_of_ble_eq_true rfl) (fun _ _ _ _ h => h) ?_
          refine DW.qY rfl (ok_field_el (p := .ep 0 _ _ _) (off := 0) rfl rfl (cells_ep rfl (map_at hy) rfl rfl) fld_impl_Group_0) rfl rfl rfl (Nat.le_of_ble_eq_true rfl) rfl rfl rfl (Nat.le_of_ble_eq_true rfl) (fun _ _ _ _ h => h) ?_
          refine DW.el' (ag := false) (m := 1) (ys := [.sc _]) rfl rfl rfl (cells_ep rfl (map_at hy) rfl rfl) agg_int sz_int (fun _ => rfl) (Nat.le_of_ble_eq_true rfl) rfl (fun hr => wantedY hr rfl rfl rfl (Nat.le_of_ble_eq_true rfl) rfl rfl) rfl (Nat.le_of_ble_eq_true rfl) (fun _ _ _ _ h => h) ?_
          refine DW.qY rfl (ok_move (v := V.one (.ro _)) (.inl rfl) rfl) rfl rfl rfl (Nat.le_of_ble_eq_true rfl) rfl rfl rfl (Nat.le_of_ble_eq_true rfl) (fun _ _ _ _ h => h) ?_
          refine DW.qY rfl (ok_move (v := V.one (.sc _)) (.inl rfl) rfl) rfl rfl rfl (Nat.le_of_ble_eq_true rfl) rfl rfl rfl (Nat.le_of_ble_eq_true rfl) (fun _ _ _ _ h => h) ?_
          refine DW.qY rfl (ok_index (n := 5) (lf := .ro _) rfl elt_impl_Group.und sz_impl_Group rfl rfl rfl (map_at hx)) rfl rfl rfl (Nat.le_of_ble_eq_true rfl) rfl rfl rfl (Nat.le_of_ble_eq_true rfl) (fun _ _ _ _ h => h) ?_
          refine DW.qY rfl (ok_field_el (p := .rp _) (off := 0) rfl rfl rfl fld_impl_Group_0) rfl rfl rfl (Nat.le_of_ble_eq_true rfl) rfl rfl rfl (Nat.le_of_ble_eq_true rfl) (fun _ _ _ _ h => h) ?_
          refine DW.qY rfl (ok_load_rp (ag := false) (m := 1) (ys := [.sc _]) rfl rfl agg_int sz_int (fun _ => rfl) (Nat.le_of_ble_eq_true rfl) rfl) rfl rfl rfl (Nat.le_of_ble_eq_true rfl) rfl rfl rfl (Nat.le_of_ble_eq_true rfl) (fun _ _ _ _ h => h) ?_
          refine DW.qY rfl (ok_s2 (x := .tmp 23) (x' := .tmp 28) (VScal.one rfl) (VScal.one rfl) (fun ρ h1 h2 w => by go_simp; (try go_bits); with_reducible rfl) rfl) rfl rfl rfl (Nat.le_of_ble_eq_true rfl) rfl rfl rfl (Nat.le_of_ble_eq_true rfl) (fun _ _ _ _ h => h) ?_
          refine DW.q rfl (ok_pickT (v := V.one (.sc _)) rfl rfl rfl) rfl rfl (Nat.le_of_ble_eq_true rfl) (fun _ _ _ _ h => h) ?_
          refine DW.stores ?_
          refine SV.zend ?_
          refine SV.tn ?_
          refine SV.cond rfl (fun hc1 => ?_) (fun hc1 => ?_)
          · skip   -- c1.T
            refine SV.skip ?_
            refine SV.tn ?_
            refine SV.block ?_
            refine SV.region ?_
            refine SV.op (OpL.ok (nb := 0) (ok_move (v := V.one (.sc _)) (.inl rfl) rfl) rfl (Nat.le_of_ble_eq_true rfl)) rfl ?_
            refine SV.op (OpL.ok (nb := 0) (ok_s2 (x := .tmp 31) (x' := .const ((Value.int IntKind.i64 1))) (VScal.one rfl) (VScal.one rfl) (fun ρ h1 h2 w => by go_simp; (try go_bits); with_reducible rfl) rfl) rfl (Nat.le_of_ble_eq_true rfl)) rfl ?_
            refine SV.op (OpL.ok (nb := 0) (ok_move (v := V.one (.sc _)) (.inr rfl) rfl) rfl (Nat.le_of_ble_eq_true rfl)) rfl ?_
            refine SV.nil ?_
            refine SV.bn ?_
            refine SV.tn ?_
            refine SV.again (fun i => [0].getD i 0) (q + 1) (⟨⟨by omega, fun u z hu hz => by rcases Nat.lt_or_ge u q with h1 | h1; (exact hlow u z h1 hz); (have h2 : u = q := (by omega); subst h2; rw [hy] at hz; cases hz; simpa using hc1)⟩, by omega⟩) (pins hE rfl rfl) (VS.le.mk' (le_put (le_put (le_put (le_put (le_put (le_new le_nil) (V.le.keep (ag := false) (xs := [.ro _]) (ys := [.ro _]) rfl rfl ⟨rfl, trivial⟩)) (V.le.keep (ag := false) (xs := [.sc _]) (ys := [.sc _]) rfl rfl ⟨rfl, trivial⟩)) (V.le.keep (ag := false) (xs := [.hd 0]) (ys := [.hd 0]) rfl rfl ⟨⟨rfl, (Nat.le_of_ble_eq_true rfl), (Nat.le_of_ble_eq_true rfl)⟩, trivial⟩)) (V.le.keep (ag := false) (xs := [.sc _]) (ys := [.sc _]) rfl rfl ⟨rfl, trivial⟩)) (V.le.keep (ag := false) (xs := [.sc _]) (ys := [.sc _]) rfl rfl ⟨(by first | rfl | (show Leaf.sc _ = Leaf.sc _; refine congrArg Leaf.sc ?_; first | rfl | go_num | (simp [cntAll]; done)) | (simp [cntAll]; done) | (simp; omega)), trivial⟩)) trivial ⟨.inr ⟨_, _, rfl, rfl, (Nat.le_of_ble_eq_true rfl)⟩, trivial⟩ (new_ob nil_ob) (fun i j hi hj e => inj_list (l := [0]) (by decide) i j hi hj e))
          · skip   -- c1.F
            have hpl := GroupD.add_place (g := L[t]) hq hlow (fun z hz => by rw [hy] at hz; cases hz; simpa using hc1)
            rw [← hnx, hy] at hpl
            refine SV.exit ?_
            refine SV.te ?_
            refine SV.te ?_
            refine SV.bh ?_
            refine SV.tn ?_
            refine SV.seq' ?_
            refine SV.seq' ?_
            refine SV.draw [.q 0, .q 1, .q 2, .q 3, .q 4, .q 5, .q 6, .q 7, .q 8, .q 9, .q 10, .q 11, .q 12, .q 13, .q 14, .q 15, .q 16] [] (by kernel_rfl) (by kernel_rfl) ?_
            refine DW.q rfl (ok_move (v := V.one (.sc _)) (.inl rfl) rfl) rfl rfl (Nat.le_of_ble_eq_true rfl) (fun _ _ _ _ h => h) ?_
            refine DW.q rfl (ok_move (v := V.one (.hd 0)) (.inl rfl) rfl) rfl rfl (Nat.le_of_ble_eq_true rfl) (fun _ _ _ _ h => h) ?_
            refine DW.q rfl (ok_len (lf := .hd 0) rfl elt_impl_Group.und rfl rfl) rfl rfl (Nat.le_of_ble_eq_true rfl) (fun _ _ _ _ h => h) ?_
            refine DW.q rfl (ok_s2 (x := .tmp 33) (x' := .tmp 35) (VScal.one rfl) (VScal.one rfl) (fun ρ h1 h2 w => by go_simp; (try go_bits); with_reducible rfl) rfl) rfl rfl (Nat.le_of_ble_eq_true rfl) (fun _ _ _ _ h => h) ?_
            refine DW.q rfl (ok_move (v := V.one (.sc _)) (.inl rfl) rfl) rfl rfl (Nat.le_of_ble_eq_true rfl) (fun _ _ _ _ h => h) ?_
            refine DW.split (d := 37) rfl (fun hg1 => ?_) (fun hg1 => ?_)
            · skip   -- g1.T
              refine DW.qY rfl (ok_move (v := V.one (.hd 0)) (.inl rfl) rfl) rfl rfl rfl (Nat.le_of_ble_eq_true rfl) rfl rfl rfl (Nat.le_of_ble_eq_true rfl) (fun _ _ _ _ h => h) ?_
              refine DW.qY rfl (ok_move (v := V.one (.sc _)) (.inl rfl) rfl) rfl rfl rfl (Nat.le_of_ble_eq_true rfl) rfl rfl rfl (Nat.le_of_ble_eq_true rfl) (fun _ _ _ _ h => h) ?_
              refine DW.qY rfl (ok_index (n := 5) (lf := .hd 0) rfl elt_impl_Group.und sz_impl_Group rfl rfl rfl (map_at hy)) rfl rfl rfl (Nat.le_of_ble_eq_true rfl) rfl rfl rfl (Nat.le_of_ble_eq_true rfl) (fun _ _ _ _ h => h) ?_
              refine DW.qY rfl (ok_field_el (p := .ep 0 _ _ _) (off := 0) rfl rfl (cells_ep rfl (map_at hy) rfl rfl) fld_impl_Group_0) rfl rfl rfl (Nat.le_of_ble_eq_true rfl) rfl rfl rfl (Nat.le_of_ble_eq_true rfl) (fun _ _ _ _ h => h) ?_
              refine DW.el' (ag := false) (m := 1) (ys := [.sc _]) rfl rfl rfl (cells_ep rfl (map_at hy) rfl rfl) agg_int sz_int (fun _ => rfl) (Nat.le_of_ble_eq_true rfl) rfl (fun hr => wantedY hr rfl rfl rfl (Nat.le_of_ble_eq_true rfl) rfl rfl) rfl (Nat.le_of_ble_eq_true rfl) (fun _ _ _ _ h => h) ?_
              refine DW.qY rfl (ok_move (v := V.one (.ro _)) (.inl rfl) rfl) rfl rfl rfl (Nat.le_of_ble_eq_true rfl) rfl rfl rfl (Nat.le_of_ble_eq_true rfl) (fun _ _ _ _ h => h) ?_
              refine DW.qY rfl (ok_move (v := V.one (.sc _)) (.inl rfl) rfl) rfl rfl rfl (Nat.le_of_ble_eq_true rfl) rfl rfl rfl (Nat.le_of_ble_eq_true rfl) (fun _ _ _ _ h => h) ?_
              refine DW.qY rfl (ok_index (n := 5) (lf := .ro _) rfl elt_impl_Group.und sz_impl_Group rfl rfl rfl (map_at hx)) rfl rfl rfl (Nat.le_of_ble_eq_true rfl) rfl rfl rfl (Nat.le_of_ble_eq_true rfl) (fun _ _ _ _ h => h) ?_
              refine DW.qY rfl (ok_field_el (p := .rp _) (off := 0) rfl rfl rfl fld_impl_Group_0) rfl rfl rfl (Nat.le_of_ble_eq_true rfl) rfl rfl rfl (Nat.le_of_ble_eq_true rfl) (fun _ _ _ _ h => h) ?_
              refine DW.qY rfl (ok_load_rp (ag := false) (m := 1) (ys := [.sc _]) rfl rfl agg_int sz_int (fun _ => rfl) (Nat.le_of_ble_eq_true rfl) rfl) rfl rfl rfl (Nat.le_of_ble_eq_true rfl) rfl rfl rfl (Nat.le_of_ble_eq_true rfl) (fun _ _ _ _ h => h) ?_
              refine DW.qY rfl (ok_s2 (x := .tmp 42) (x' := .tmp 47) (VScal.one rfl) (VScal.one rfl) (fun ρ h1 h2 w => by go_simp; (try go_bits); with_reducible rfl) rfl) rfl rfl rfl (Nat.le_of_ble_eq_true rfl) rfl rfl rfl (Nat.le_of_ble_eq_true rfl) (fun _ _ _ _ h => h) ?_
              refine DW.q rfl (ok_pickT (v := V.one (.sc _)) rfl rfl rfl) rfl rfl (Nat.le_of_ble_eq_true rfl) (fun _ _ _ _ h => h) ?_
              refine DW.stores ?_
              refine SV.zend ?_
              refine SV.tn ?_
              refine SV.cond rfl (fun hc2 => ?_) (fun hc2 => ?_)
              · skip   -- c2.T
                have hn : GroupD.merge (L.take (t + 1)) = (GroupD.merge (L.take t)).set q (GroupD.comb y L[t]) := by rw [hpl]; simp only; rw [if_pos (by simpa using hc2)]
                refine SV.seq' ?_
                refine SV.draw [.q 0, .q 1, .q 2, .q 3, .q 4, .q 5, .q 6, .q 7, .q 8, .q 9, .m 10, .q 11] [12] (by kernel_rfl) (by kernel_rfl) ?_
                refine DW.q rfl (ok_move (v := V.one (.hd 0)) (.inl rfl) rfl) rfl rfl (Nat.le_of_ble_eq_true rfl) (fun _ _ _ _ h => h) ?_
                refine DW.q rfl (ok_move (v := V.one (.sc _)) (.inl rfl) rfl) rfl rfl (Nat.le_of_ble_eq_true rfl) (fun _ _ _ _ h => h) ?_
                refine DW.q rfl (ok_move (v := V.one (.hd 0)) (.inl rfl) rfl) rfl rfl (Nat.le_of_ble_eq_true rfl) (fun _ _ _ _ h => h) ?_
                refine DW.q rfl (ok_move (v := V.one (.sc _)) (.inl rfl) rfl) rfl rfl (Nat.le_of_ble_eq_true rfl) (fun _ _ _ _ h => h) ?_
                refine DW.q rfl (ok_index (n := 5) (lf := .hd 0) rfl elt_impl_Group.und sz_impl_Group rfl rfl rfl (map_at hy)) rfl rfl (Nat.le_of_ble_eq_true rfl) (fun _ _ _ _ h => h) ?_
                refine DW.el (ag := true) (m := 5) (ys := [.sc _, .sc _, .sc _, .sc _, .sc _]) rfl rfl rfl (cells_ep rfl (map_at hy) rfl rfl) agg_impl_Group sz_impl_Group (fun h => by cases h) (Nat.le_of_ble_eq_true rfl) rfl rfl rfl (Nat.le_of_ble_eq_true rfl) (fun _ _ _ _ h => h) ?_
                refine DW.q rfl (ok_move (v := V.one (.ro _)) (.inl rfl) rfl) rfl rfl (Nat.le_of_ble_eq_true rfl) (fun _ _ _ _ h => h) ?_
                refine DW.q rfl (ok_move (v := V.one (.sc _)) (.inl rfl) rfl) rfl rfl (Nat.le_of_ble_eq_true rfl) (fun _ _ _ _ h => h) ?_
                refine DW.q rfl (ok_index (n := 5) (lf := .ro _) rfl elt_impl_Group.und sz_impl_Group rfl rfl rfl (map_at hx)) rfl rfl (Nat.le_of_ble_eq_true rfl) (fun _ _ _ _ h => h) ?_
                refine DW.q rfl (ok_load_rp (ag := true) (m := 5) (ys := [.sc _, .sc _, .sc _, .sc _, .sc _]) rfl rfl agg_impl_Group sz_impl_Group (fun h => by cases h) (Nat.le_of_ble_eq_true rfl) rfl) rfl rfl (Nat.le_of_ble_eq_true rfl) (fun _ _ _ _ h => h) ?_
                refine DW.m [] rfl (ok_call (ls := [(true, [.sc _, .sc _, .sc _, .sc _, .sc _])]) rfl rfl ⟨_, _, Tryd.func23, rfl, by decide⟩ (vcomb_s y L[t]) ⟨⟨[.sc _, .sc _, .sc _, .sc _, .sc _], rfl, ⟨rfl, rfl, rfl, rfl, rfl, trivial⟩⟩, ⟨[.sc _, .sc _, .sc _, .sc _, .sc _], rfl, ⟨rfl, rfl, rfl, rfl, rfl, trivial⟩⟩, trivial⟩ rfl (Nat.le_of_ble_eq_true rfl)) rfl (Nat.le_of_ble_eq_true rfl) (Nat.le_of_ble_eq_true rfl) (.inl rfl) (fun j hj => by cases hj) ?_
                refine DW.q rfl (ok_index (n := 5) (lf := .hd 0) rfl elt_impl_Group.und sz_impl_Group rfl rfl rfl (map_at hy)) rfl rfl (Nat.le_of_ble_eq_true rfl) (fun _ _ _ _ h => h) ?_
                refine DW.stores ?_
                refine SV.z rfl (ok_store_ep (i := 0) (n := 5) (m := 5) (ag := true) (zs := [.sc _, .sc _, .sc _, .sc _, .sc _]) rfl rfl rfl rfl (map_at hy) sz_impl_Group (fun h => by cases h) rfl sz_impl_Group (Nat.le_of_ble_eq_true rfl) (outs_c rfl (outs_c rfl (outs_c rfl (outs_c rfl (outs_c rfl outs_n))))) (by simp [two]) rfl rfl rfl) rfl ?_
                refine SV.zend ?_
                refine SV.tn ?_
                refine SV.exit ?_
                refine SV.te ?_
                refine SV.bh ?_
                refine SV.tn ?_
                refine SV.region ?_
                refine SV.op (OpL.ok (nb := 0) (ok_move (v := V.one (.sc _)) (.inl rfl) rfl) rfl (Nat.le_of_ble_eq_true rfl)) rfl ?_
                refine SV.op (OpL.ok (nb := 0) (ok_s2 (x := .tmp 12) (x' := .const ((Value.int IntKind.i64 1))) (VScal.one rfl) (VScal.one rfl) (fun ρ h1 h2 w => by go_simp; (try go_bits); with_reducible rfl) rfl) rfl (Nat.le_of_ble_eq_true rfl)) rfl ?_
                refine SV.op (OpL.ok (nb := 0) (ok_move (v := V.one (.sc _)) (.inr rfl) rfl) rfl (Nat.le_of_ble_eq_true rfl)) rfl ?_
                refine SV.nil ?_
                refine SV.tn ?_
                refine SV.again (fun i => [0].getD i 0) (t + 1) (⟨by omega, by omega⟩) (pins hE rfl rfl) (VS.le.mk' (le_put (le_put (le_put (le_put (le_new le_nil) (V.le.keep (ag := false) (xs := [.ro _]) (ys := [.ro _]) rfl rfl ⟨rfl, trivial⟩)) (V.le.keep (ag := false) (xs := [.sc _]) (ys := [.sc _]) rfl rfl ⟨rfl, trivial⟩)) (V.le.keep (ag := false) (xs := [.hd 0]) (ys := [.hd 0]) rfl rfl ⟨⟨rfl, (Nat.le_of_ble_eq_true rfl), (Nat.le_of_ble_eq_true rfl)⟩, trivial⟩)) (V.le.keep (ag := false) (xs := [.sc _]) (ys := [.sc _]) rfl rfl ⟨(by first | rfl | (show Leaf.sc _ = Leaf.sc _; refine congrArg Leaf.sc ?_; first | rfl | go_num | (simp [cntAll]; done)) | (simp [cntAll]; done) | (simp; omega)), trivial⟩)) trivial ⟨.inr ⟨_, _, rfl, ?ob4_0, (Nat.le_of_ble_eq_true rfl)⟩, trivial⟩ (new_ob nil_ob) (fun i j hi hj e => inj_list (l := [0]) (by decide) i j hi hj e))
                case ob4_0 =>
                  show some (T.seq _ _) = some (T.seq _ _)
                  first | (rw [hn, List.map_set]; done) | (rw [hn, List.map_set]; rfl) | (rw [hn]; simp [List.map_take, List.map_drop]; done) | (rw [hn]; simp [List.map_take, List.map_drop]; rfl) | (rw [hn]; simp [List.map_take, List.map_drop]; refine ⟨rfl, ?_⟩; rw [List.take_of_length_le (by simp)])
              · skip   -- c2.F
                have hn : GroupD.merge (L.take (t + 1)) = (GroupD.merge (L.take t)).take q ++ (L[t] :: (GroupD.merge (L.take t)).drop q) := by rw [hpl]; simp only; rw [if_neg (by simpa using hc2)]
                refine SV.skip ?_
                refine SV.tn ?_
                refine SV.seq' ?_
                refine SV.draw [.q 0, .q 1, .q 2, .q 3, .q 5, .q 6, .q 7, .m 4, .m 8, .q 9] [] (by kernel_rfl) (by kernel_rfl) ?_
                refine DW.q rfl (ok_move (v := V.one (.ro _)) (.inl rfl) rfl) rfl rfl (Nat.le_of_ble_eq_true rfl) (fun _ _ _ _ h => h) ?_
                refine DW.q rfl (ok_move (v := V.one (.sc _)) (.inl rfl) rfl) rfl rfl (Nat.le_of_ble_eq_true rfl) (fun _ _ _ _ h => h) ?_
                refine DW.q rfl (ok_index (n := 5) (lf := .ro _) rfl elt_impl_Group.und sz_impl_Group rfl rfl rfl (map_at hx)) rfl rfl (Nat.le_of_ble_eq_true rfl) (fun _ _ _ _ h => h) ?_
                refine DW.q rfl (ok_load_rp (ag := true) (m := 5) (ys := [.sc _, .sc _, .sc _, .sc _, .sc _]) rfl rfl agg_impl_Group sz_impl_Group (fun h => by cases h) (Nat.le_of_ble_eq_true rfl) rfl) rfl rfl (Nat.le_of_ble_eq_true rfl) (fun _ _ _ _ h => h) ?_
                refine DW.q rfl (ok_move (v := V.one (.hd 0)) (.inl rfl) rfl) rfl rfl (Nat.le_of_ble_eq_true rfl) (fun _ _ _ _ h => h) ?_
                refine DW.q rfl (ok_move (v := V.one (.sc _)) (.inl rfl) rfl) rfl rfl (Nat.le_of_ble_eq_true rfl) (fun _ _ _ _ h => h) ?_
                refine DW.q rfl (ok_slice (l := q) (h := _) (lf := .hd 0) (yy := .nd 0 _ _ none) rfl rfl elt_impl_Group.und sz_impl_Group rfl rfl ⟨_, rfl⟩ rfl (by simp; omega) (by simp)) rfl rfl (Nat.le_of_ble_eq_true rfl) (fun _ _ _ _ h => h) ?_
                refine DW.m [1] rfl (ok_lit1 (kk := 1) elt_impl_Group (ag := true) (xs := [.sc _, .sc _, .sc _, .sc _, .sc _]) rfl rfl rfl rfl (fun h => by cases h) (outs_c rfl (outs_c rfl (outs_c rfl (outs_c rfl (outs_c rfl outs_n))))) (by simp [two]) rfl (Nat.le_of_ble_eq_true rfl)) rfl (Nat.le_of_ble_eq_true rfl) (Nat.le_of_ble_eq_true rfl) (.inl rfl) (fun j hj => by
                    simp only [List.mem_cons, List.not_mem_nil, or_false] at hj
                    rcases hj with rfl
                    · exact .inr ⟨(Nat.le_of_ble_eq_true rfl), (Nat.le_of_ble_eq_true rfl), .inl rfl⟩) ?_
                refine DW.m [2, 1] rfl (ok_append_ro (kk := 2) elt_impl_Group (ls := .hd 1) (lx := .nd 0 _ _ none) rfl rfl rfl rfl rfl rfl (flat_sub (flat_impl_Group _) _ _) (by first | omega | (simp only [List.length_map]; omega) | (simp; done) | (simp; omega)) rfl (Nat.le_of_ble_eq_true rfl)) rfl (Nat.le_of_ble_eq_true rfl) (Nat.le_of_ble_eq_true rfl) (.inr ⟨1, rfl, .inl (by decide)⟩) (fun j hj => by
                    simp only [List.mem_cons, List.not_mem_nil, or_false] at hj
                    rcases hj with rfl | rfl
                    · exact .inr ⟨(Nat.le_of_ble_eq_true rfl), (Nat.le_of_ble_eq_true rfl), .inr ⟨1, rfl, by decide⟩⟩
                    · exact .inl (by decide)) ?_
                refine DW.q rfl (ok_move (v := V.one (.hd 2)) (.inr rfl) rfl) rfl rfl (Nat.le_of_ble_eq_true rfl) (fun _ _ _ _ h => h) ?_
                refine DW.stores ?_
                refine SV.zend ?_
                refine SV.tn ?_
                refine SV.region ?_
                refine SV.op (OpMk.ok (ok_lit0 (kk := 3) elt_impl_Group rfl rfl rfl (Nat.le_of_ble_eq_true rfl))) rfl ?_
                refine SV.op (OpL.ok (nb := 0) (ok_move (v := V.one (.hd 0)) (.inl rfl) rfl) rfl (Nat.le_of_ble_eq_true rfl)) rfl ?_
                refine SV.op (OpL.ok (nb := 0) (ok_move (v := V.one (.sc _)) (.inl rfl) rfl) rfl (Nat.le_of_ble_eq_true rfl)) rfl ?_
                refine SV.op (OpL.ok (nb := 0) (ok_slice (l := 0) (h := q) (lf := .hd 0) (yy := .nd 0 _ _ none) rfl rfl elt_impl_Group.und sz_impl_Group rfl rfl rfl ⟨_, rfl⟩ (by omega) (by simp; omega)) rfl (Nat.le_of_ble_eq_true rfl)) rfl ?_
                refine SV.op (OpMk.ok (ok_append_ro (kk := 4) elt_impl_Group (ls := .hd 3) (lx := .nd 0 _ _ none) rfl rfl rfl rfl rfl rfl (flat_sub (flat_impl_Group _) _ _) (by first | omega | (simp only [List.length_map]; omega) | (simp; done) | (simp; omega)) rfl (Nat.le_of_ble_eq_true rfl))) rfl ?_
                refine SV.op (OpL.ok (nb := 0) (ok_move (v := V.one (.hd 2)) (.inl rfl) rfl) rfl (Nat.le_of_ble_eq_true rfl)) rfl ?_
                refine SV.op (OpMk.ok (ok_append_ro (kk := 5) elt_impl_Group (ls := .hd 4) (lx := .hd 2) rfl rfl rfl rfl rfl rfl (flat_app (flat_one rfl) (flat_sub (flat_impl_Group _) _ _)) (by first | omega | (simp only [List.length_map]; omega) | (simp; done) | (simp; omega)) rfl (Nat.le_of_ble_eq_true rfl))) rfl ?_
                refine SV.op (OpL.ok (nb := 0) (ok_move (v := V.one (.hd 5)) (.inr rfl) rfl) rfl (Nat.le_of_ble_eq_true rfl)) rfl ?_
                refine SV.nil ?_
                refine SV.bn ?_
                refine SV.tn ?_
                refine SV.region ?_
                refine SV.op (OpL.ok (nb := 0) (ok_move (v := V.one (.sc _)) (.inl rfl) rfl) rfl (Nat.le_of_ble_eq_true rfl)) rfl ?_
                refine SV.op (OpL.ok (nb := 0) (ok_s2 (x := .tmp 12) (x' := .const ((Value.int IntKind.i64 1))) (VScal.one rfl) (VScal.one rfl) (fun ρ h1 h2 w => by go_simp; (try go_bits); with_reducible rfl) rfl) rfl (Nat.le_of_ble_eq_true rfl)) rfl ?_
                refine SV.op (OpL.ok (nb := 0) (ok_move (v := V.one (.sc _)) (.inr rfl) rfl) rfl (Nat.le_of_ble_eq_true rfl)) rfl ?_
                refine SV.nil ?_
                refine SV.tn ?_
                refine SV.again (fun i => [5].getD i 0) (t + 1) (⟨by omega, by omega⟩) (pins hE rfl rfl) (VS.le.mk' (le_put (le_put (le_put (le_put (le_new le_nil) (V.le.keep (ag := false) (xs := [.ro _]) (ys := [.ro _]) rfl rfl ⟨rfl, trivial⟩)) (V.le.keep (ag := false) (xs := [.sc _]) (ys := [.sc _]) rfl rfl ⟨rfl, trivial⟩)) (V.le.keep (ag := false) (xs := [.hd 5]) (ys := [.hd 0]) rfl rfl ⟨⟨rfl, (Nat.le_of_ble_eq_true rfl), (Nat.le_of_ble_eq_true rfl)⟩, trivial⟩)) (V.le.keep (ag := false) (xs := [.sc _]) (ys := [.sc _]) rfl rfl ⟨(by first | rfl | (show Leaf.sc _ = Leaf.sc _; refine congrArg Leaf.sc ?_; first | rfl | go_num | (simp [cntAll]; done)) | (simp [cntAll]; done) | (simp; omega)), trivial⟩)) trivial ⟨.inr ⟨_, _, rfl, ?ob5_0, (Nat.le_of_ble_eq_true rfl)⟩, trivial⟩ (new_ob nil_ob) (fun i j hi hj e => inj_list (l := [5]) (by decide) i j hi hj e))
                case ob5_0 =>
                  show some (T.seq _ _) = some (T.seq _ _)
                  first | (rw [hn, List.map_set]; done) | (rw [hn, List.map_set]; rfl) | (rw [hn]; simp [List.map_take, List.map_drop]; done) | (rw [hn]; simp [List.map_take, List.map_drop]; rfl) | (rw [hn]; simp [List.map_take, List.map_drop]; refine ⟨rfl, ?_⟩; rw [List.take_of_length_le (by simp)])
            · skip   -- g1.F
              (exfalso; first | (simp at hg0 hg1; done) | (simp at hg0 hg1; omega))
        · skip   -- g0.F
          have hqe : ¬ q < (GroupD.merge (L.take t)).length := by simpa using hg0
          have hpl := GroupD.add_place (g := L[t]) hq hlow (fun z hz => absurd (V.get_lt hz) hqe)
          have hn : GroupD.merge (L.take (t + 1)) = (GroupD.merge (L.take t)).take q ++ (L[t] :: (GroupD.merge (L.take t)).drop q) := by rw [← hnx, List.getElem?_eq_none (by omega)] at hpl; exact hpl
          refine DW.qN (V' := V.one .dead) rfl rfl rfl rfl (Nat.le_of_ble_eq_true rfl) rfl rfl rfl (Nat.le_of_ble_eq_true rfl) (fun _ _ _ _ h => h) ?_
          refine DW.qN (V' := V.one .dead) rfl rfl rfl rfl (Nat.le_of_ble_eq_true rfl) rfl rfl rfl (Nat.le_of_ble_eq_true rfl) (fun _ _ _ _ h => h) ?_
          refine DW.qN (V' := V.one .dead) rfl rfl rfl rfl (Nat.le_of_ble_eq_true rfl) rfl rfl rfl (Nat.le_of_ble_eq_true rfl) (fun _ _ _ _ h => h) ?_
          refine DW.qN (V' := V.one .dead) rfl rfl rfl rfl (Nat.le_of_ble_eq_true rfl) rfl rfl rfl (Nat.le_of_ble_eq_true rfl) (fun _ _ _ _ h => h) ?_
          refine DW.qN (V' := V.one .dead) rfl rfl rfl rfl (Nat.le_of_ble_eq_true rfl) rfl rfl rfl (Nat.le_of_ble_eq_true rfl) (fun _ _ _ _ h => h) ?_
          refine DW.qN (V' := V.one .dead) rfl rfl rfl rfl (Nat.le_of_ble_eq_true rfl) rfl rfl rfl (Nat.le_of_ble_eq_true rfl) (fun _ _ _ _ h => h) ?_
          refine DW.qN (V' := V.one .dead) rfl rfl rfl rfl (Nat.le_of_ble_eq_true rfl) rfl rfl rfl (Nat.le_of_ble_eq_true rfl) (fun _ _ _ _ h => h) ?_
          refine DW.qN (V' := V.one .dead) rfl rfl rfl rfl (Nat.le_of_ble_eq_true rfl) rfl rfl rfl (Nat.le_of_ble_eq_true rfl) (fun _ _ _ _ h => h) ?_
          refine DW.qN (V' := V.one .dead) rfl rfl rfl rfl (Nat.le_of_ble_eq_true rfl) rfl rfl rfl (Nat.le_of_ble_eq_true rfl) (fun _ _ _ _ h => h) ?_
          refine DW.qN (V' := V.one .dead) rfl rfl rfl rfl (Nat.le_of_ble_eq_true rfl) rfl rfl rfl (Nat.le_of_ble_eq_true rfl) (fun _ _ _ _ h => h) ?_
          refine DW.qN (V' := V.one .dead) rfl rfl rfl rfl (Nat.le_of_ble_eq_true rfl) rfl rfl rfl (Nat.le_of_ble_eq_true rfl) (fun _ _ _ _ h => h) ?_
          refine DW.q rfl (ok_pickF (v := V.one (.sc _)) rfl rfl rfl) rfl rfl (Nat.le_of_ble_eq_true rfl) (fun _ _ _ _ h => h) ?_
          refine DW.stores ?_
          refine SV.zend ?_
          refine SV.tn ?_
          refine SV.cond rfl (fun hc3 => ?_) (fun hc3 => ?_)
          · skip   -- c3.T
            cases hc3
          · skip   -- c3.F
            refine SV.exit ?_
            refine SV.te ?_
            refine SV.te ?_
            refine SV.bh ?_
            refine SV.tn ?_
            refine SV.seq' ?_
            refine SV.seq' ?_
            refine SV.draw [.q 0, .q 1, .q 2, .q 3, .q 4, .q 5, .q 6, .q 7, .q 8, .q 9, .q 10, .q 11, .q 12, .q 13, .q 14, .q 15, .q 16] [] (by kernel_rfl) (by kernel_rfl) ?_
            refine DW.q rfl (ok_move (v := V.one (.sc _)) (.inl rfl) rfl) rfl rfl (Nat.le_of_ble_eq_true rfl) (fun _ _ _ _ h => h) ?_
            refine DW.q rfl (ok_move (v := V.one (.hd 0)) (.inl rfl) rfl) rfl rfl (Nat.le_of_ble_eq_true rfl) (fun _ _ _ _ h => h) ?_
            refine DW.q rfl (ok_len (lf := .hd 0) rfl elt_impl_Group.und rfl rfl) rfl rfl (Nat.le_of_ble_eq_true rfl) (fun _ _ _ _ h => h) ?_
            refine DW.q rfl (ok_s2 (x := .tmp 33) (x' := .tmp 35) (VScal.one rfl) (VScal.one rfl) (fun ρ h1 h2 w => by go_simp; (try go_bits); with_reducible rfl) rfl) rfl rfl (Nat.le_of_ble_eq_true rfl) (fun _ _ _ _ h => h) ?_
            refine DW.q rfl (ok_move (v := V.one (.sc _)) (.inl rfl) rfl) rfl rfl (Nat.le_of_ble_eq_true rfl) (fun _ _ _ _ h => h) ?_
            refine DW.split (d := 37) rfl (fun hg2 => ?_) (fun hg2 => ?_)
            · skip   -- g2.T
              (exfalso; first | (simp at hg0 hg2; done) | (simp at hg0 hg2; omega))
            · skip   -- g2.F
              refine DW.qN (V' := V.one .dead) rfl rfl rfl rfl (Nat.le_of_ble_eq_true rfl) rfl rfl rfl (Nat.le_of_ble_eq_true rfl) (fun _ _ _ _ h => h) ?_
              refine DW.qN (V' := V.one .dead) rfl rfl rfl rfl (Nat.le_of_ble_eq_true rfl) rfl rfl rfl (Nat.le_of_ble_eq_true rfl) (fun _ _ _ _ h => h) ?_
              refine DW.qN (V' := V.one .dead) rfl rfl rfl rfl (Nat.le_of_ble_eq_true rfl) rfl rfl rfl (Nat.le_of_ble_eq_true rfl) (fun _ _ _ _ h => h) ?_
              refine DW.qN (V' := V.one .dead) rfl rfl rfl rfl (Nat.le_of_ble_eq_true rfl) rfl rfl rfl (Nat.le_of_ble_eq_true rfl) (fun _ _ _ _ h => h) ?_
              refine DW.qN (V' := V.one .dead) rfl rfl rfl rfl (Nat.le_of_ble_eq_true rfl) rfl rfl rfl (Nat.le_of_ble_eq_true rfl) (fun _ _ _ _ h => h) ?_
              refine DW.qN (V' := V.one .dead) rfl rfl rfl rfl (Nat.le_of_ble_eq_true rfl) rfl rfl rfl (Nat.le_of_ble_eq_true rfl) (fun _ _ _ _ h => h) ?_
              refine DW.qN (V' := V.one .dead) rfl rfl rfl rfl (Nat.le_of_ble_eq_true rfl) rfl rfl rfl (Nat.le_of_ble_eq_true rfl) (fun _ _ _ _ h => h) ?_
              refine DW.qN (V' := V.one .dead) rfl rfl rfl rfl (Nat.le_of_ble_eq_true rfl) rfl rfl rfl (Nat.le_of_ble_eq_true rfl) (fun _ _ _ _ h => h) ?_
              refine DW.qN (V' := V.one .dead) rfl rfl rfl rfl (Nat.le_of_ble_eq_true rfl) rfl rfl rfl (Nat.le_of_ble_eq_true rfl) (fun _ _ _ _ h => h) ?_
              refine DW.qN (V' := V.one .dead) rfl rfl rfl rfl (Nat.le_of_ble_eq_true rfl) rfl rfl rfl (Nat.le_of_ble_eq_true rfl) (fun _ _ _ _ h => h) ?_
              refine DW.qN (V' := V.one .dead) rfl rfl rfl rfl (Nat.le_of_ble_eq_true rfl) rfl rfl rfl (Nat.le_of_ble_eq_true rfl) (fun _ _ _ _ h => h) ?_
              refine DW.q rfl (ok_pickF (v := V.one (.sc _)) rfl rfl rfl) rfl rfl (Nat.le_of_ble_eq_true rfl) (fun _ _ _ _ h => h) ?_
              refine DW.stores ?_
              refine SV.zend ?_
              refine SV.tn ?_
              refine SV.cond rfl (fun hc4 => ?_) (fun hc4 => ?_)
              · skip   -- c4.T
                cases hc4
              · skip   -- c4.F
                refine SV.skip ?_
                refine SV.tn ?_
                refine SV.seq' ?_
                refine SV.draw [.q 0, .q 1, .q 2, .q 3, .q 5, .q 6, .q 7, .m 4, .m 8, .q 9] [] (by kernel_rfl) (by kernel_rfl) ?_
                refine DW.q rfl (ok_move (v := V.one (.ro _)) (.inl rfl) rfl) rfl rfl (Nat.le_of_ble_eq_true rfl) (fun _ _ _ _ h => h) ?_
                refine DW.q rfl (ok_move (v := V.one (.sc _)) (.inl rfl) rfl) rfl rfl (Nat.le_of_ble_eq_true rfl) (fun _ _ _ _ h => h) ?_
                refine DW.q rfl (ok_index (n := 5) (lf := .ro _) rfl elt_impl_Group.und sz_impl_Group rfl rfl rfl (map_at hx)) rfl rfl (Nat.le_of_ble_eq_true rfl) (fun _ _ _ _ h => h) ?_
                refine DW.q rfl (ok_load_rp (ag := true) (m := 5) (ys := [.sc _, .sc _, .sc _, .sc _, .sc _]) rfl rfl agg_impl_Group sz_impl_Group (fun h => by cases h) (Nat.le_of_ble_eq_true rfl) rfl) rfl rfl (Nat.le_of_ble_eq_true rfl) (fun _ _ _ _ h => h) ?_
                refine DW.q rfl (ok_move (v := V.one (.hd 0)) (.inl rfl) rfl) rfl rfl (Nat.le_of_ble_eq_true rfl) (fun _ _ _ _ h => h) ?_
                refine DW.q rfl (ok_move (v := V.one (.sc _)) (.inl rfl) rfl) rfl rfl (Nat.le_of_ble_eq_true rfl) (fun _ _ _ _ h => h) ?_
                refine DW.q rfl (ok_slice (l := q) (h := _) (lf := .hd 0) (yy := .nd 0 _ _ none) rfl rfl elt_impl_Group.und sz_impl_Group rfl rfl ⟨_, rfl⟩ rfl (by simp; omega) (by simp)) rfl rfl (Nat.le_of_ble_eq_true rfl) (fun _ _ _ _ h => h) ?_
                refine DW.m [1] rfl (ok_lit1 (kk := 1) elt_impl_Group (ag := true) (xs := [.sc _, .sc _, .sc _, .sc _, .sc _]) rfl rfl rfl rfl (fun h => by cases h) (outs_c rfl (outs_c rfl (outs_c rfl (outs_c rfl (outs_c rfl outs_n))))) (by simp [two]) rfl (Nat.le_of_ble_eq_true rfl)) rfl (Nat.le_of_ble_eq_true rfl) (Nat.le_of_ble_eq_true rfl) (.inl rfl) (fun j hj => by
                    simp only [List.mem_cons, List.not_mem_nil, or_false] at hj
                    rcases hj with rfl
                    · exact .inr ⟨(Nat.le_of_ble_eq_true rfl), (Nat.le_of_ble_eq_true rfl), .inl rfl⟩) ?_
                refine DW.m [2, 1] rfl (ok_append_ro (kk := 2) elt_impl_Group (ls := .hd 1) (lx := .nd 0 _ _ none) rfl rfl rfl rfl rfl rfl (flat_sub (flat_impl_Group _) _ _) (by first | omega | (simp only [List.length_map]; omega) | (simp; done) | (simp; omega)) rfl (Nat.le_of_ble_eq_true rfl)) rfl (Nat.le_of_ble_eq_true rfl) (Nat.le_of_ble_eq_true rfl) (.inr ⟨1, rfl, .inl (by decide)⟩) (fun j hj => by
                    simp only [List.mem_cons, List.not_mem_nil, or_false] at hj
                    rcases hj with rfl | rfl
                    · exact .inr ⟨(Nat.le_of_ble_eq_true rfl), (Nat.le_of_ble_eq_true rfl), .inr ⟨1, rfl, by decide⟩⟩
                    · exact .inl (by decide)) ?_
                refine DW.q rfl (ok_move (v := V.one (.hd 2)) (.inr rfl) rfl) rfl rfl (Nat.le_of_ble_eq_true rfl) (fun _ _ _ _ h => h) ?_
                refine DW.stores ?_
                refine SV.zend ?_
                refine SV.tn ?_
                refine SV.region ?_
                refine SV.op (OpMk.ok (ok_lit0 (kk := 3) elt_impl_Group rfl rfl rfl (Nat.le_of_ble_eq_true rfl))) rfl ?_
                refine SV.op (OpL.ok (nb := 0) (ok_move (v := V.one (.hd 0)) (.inl rfl) rfl) rfl (Nat.le_of_ble_eq_true rfl)) rfl ?_
                refine SV.op (OpL.ok (nb := 0) (ok_move (v := V.one (.sc _)) (.inl rfl) rfl) rfl (Nat.le_of_ble_eq_true rfl)) rfl ?_
                refine SV.op (OpL.ok (nb := 0) (ok_slice (l := 0) (h := q) (lf := .hd 0) (yy := .nd 0 _ _ none) rfl rfl elt_impl_Group.und sz_impl_Group rfl rfl rfl ⟨_, rfl⟩ (by omega) (by simp; omega)) rfl (Nat.le_of_ble_eq_true rfl)) rfl ?_
                refine SV.op (OpMk.ok (ok_append_ro (kk := 4) elt_impl_Group (ls := .hd 3) (lx := .nd 0 _ _ none) rfl rfl rfl rfl rfl rfl (flat_sub (flat_impl_Group _) _ _) (by first | omega | (simp only [List.length_map]; omega) | (simp; done) | (simp; omega)) rfl (Nat.le_of_ble_eq_true rfl))) rfl ?_
                refine SV.op (OpL.ok (nb := 0) (ok_move (v := V.one (.hd 2)) (.inl rfl) rfl) rfl (Nat.le_of_ble_eq_true rfl)) rfl ?_
                refine SV.op (OpMk.ok (ok_append_ro (kk := 5) elt_impl_Group (ls := .hd 4) (lx := .hd 2) rfl rfl rfl rfl rfl rfl (flat_app (flat_one rfl) (flat_sub (flat_impl_Group _) _ _)) (by first | omega | (simp only [List.length_map]; omega) | (simp; done) | (simp; omega)) rfl (Nat.le_of_ble_eq_true rfl))) rfl ?_
                refine SV.op (OpL.ok (nb := 0) (ok_move (v := V.one (.hd 5)) (.inr rfl) rfl) rfl (Nat.le_of_ble_eq_true rfl)) rfl ?_
                refine SV.nil ?_
                refine SV.bn ?_
                refine SV.tn ?_
                refine SV.region ?_
                refine SV.op (OpL.ok (nb := 0) (ok_move (v := V.one (.sc _)) (.inl rfl) rfl) rfl (Nat.le_of_ble_eq_true rfl)) rfl ?_
                refine SV.op (OpL.ok (nb := 0) (ok_s2 (x := .tmp 12) (x' := .const ((Value.int IntKind.i64 1))) (VScal.one rfl) (VScal.one rfl) (fun ρ h1 h2 w => by go_simp; (try go_bits); with_reducible rfl) rfl) rfl (Nat.le_of_ble_eq_true rfl)) rfl ?_
                refine SV.op (OpL.ok (nb := 0) (ok_move (v := V.one (.sc _)) (.inr rfl) rfl) rfl (Nat.le_of_ble_eq_true rfl)) rfl ?_
                refine SV.nil ?_
                refine SV.tn ?_
                refine SV.again (fun i => [5].getD i 0) (t + 1) (⟨by omega, by omega⟩) (pins hE rfl rfl) (VS.le.mk' (le_put (le_put (le_put (le_put (le_new le_nil) (V.le.keep (ag := false) (xs := [.ro _]) (ys := [.ro _]) rfl rfl ⟨rfl, trivial⟩)) (V.le.keep (ag := false) (xs := [.sc _]) (ys := [.sc _]) rfl rfl ⟨rfl, trivial⟩)) (V.le.keep (ag := false) (xs := [.hd 5]) (ys := [.hd 0]) rfl rfl ⟨⟨rfl, (Nat.le_of_ble_eq_true rfl), (Nat.le_of_ble_eq_true rfl)⟩, trivial⟩)) (V.le.keep (ag := false) (xs := [.sc _]) (ys := [.sc _]) rfl rfl ⟨(by first | rfl | (show Leaf.sc _ = Leaf.sc _; refine congrArg Leaf.sc ?_; first | rfl | go_num | (simp [cntAll]; done)) | (simp [cntAll]; done) | (simp; omega)), trivial⟩)) trivial ⟨.inr ⟨_, _, rfl, ?ob6_0, (Nat.le_of_ble_eq_true rfl)⟩, trivial⟩ (new_ob nil_ob) (fun i j hi hj e => inj_list (l := [5]) (by decide) i j hi hj e))
                case ob6_0 =>
                  show some (T.seq _ _) = some (T.seq _ _)
                  first | (rw [hn, List.map_set]; done) | (rw [hn, List.map_set]; rfl) | (rw [hn]; simp [List.map_take, List.map_drop]; done) | (rw [hn]; simp [List.map_take, List.map_drop]; rfl) | (rw [hn]; simp [List.map_take, List.map_drop]; refine ⟨rfl, ?_⟩; rw [List.take_of_length_le (by simp)])
    · skip   -- c0.F
      have hte : ¬ t < L.length := by simpa using hc0
      have htk : L.take t = L := List.take_of_length_le (by omega)
      refine SV.exit ?_
      refine SV.te ?_
      refine SV.te ?_
      refine SV.bh ?_
      refine SV.tn ?_
      refine SV.seq' ?_
      refine SV.region ?_
      refine SV.op (OpL.ok (nb := 0) (ok_move (v := V.one (.hd 0)) (.inl rfl) rfl) rfl (Nat.le_of_ble_eq_true rfl)) rfl ?_
      refine SV.op (OpL.ok (nb := 0) (ok_move (v := V.one (.hd 0)) (.inr rfl) rfl) rfl (Nat.le_of_ble_eq_true rfl)) rfl ?_
      refine SV.nil ?_
      refine SV.tn ?_
      refine SV.ret ?_
      apply SV.done (hf := Tryd.results25) (ht := rfl) (he := .inl rfl)
      case hr => exact (ResAll.cons (ResOk.tmp (ag := false) (xs := [.hd 0]) rfl) ResAll.nil')
      case h2 => simp [two]
      refine ⟨rfl, ⟨?_, trivial⟩, trivial⟩ <;> (show some (T.seq _ _) = some (T.seq _ _); rw [htk])
end Go.Proofs.YtmlcdhblofjpbaaDoor
/- The reference's groups: told by trees. -/
namespace Go.Proofs.YtmlcdhblofjpbaaDoor
open Go Go.RowKit V
set_option linter.unusedVariables false
set_option maxRecDepth 100000 in
set_option maxHeartbeats 2000000 in
theorem vref_s (X : List R) (hX : X.length ≤ 1048576) : VC Tryd.prog 12 [(false, [.seq 41 (X.map tRow)])] false [(false, [.seq 33 ((GroupD.merge (X.map GroupD.ofRow)).map tGroup)])] := by
  refine VC.enter Tryd.func12 rfl Tryd.ntmps12 (Nat.le_of_ble_eq_true rfl) fun E hE => ?_
  refine SV.seq' ?_
  refine SV.region ?_
  refine SV.op (OpL.ok (nb := 0) (ok_move (v := V.one (.sc _)) (.inr rfl) rfl) rfl (Nat.le_of_ble_eq_true rfl)) rfl ?_
  refine SV.nil ?_
  refine SV.tn ?_
  refine SV.seq' ?_
  refine SV.region ?_
  refine SV.op (OpMk.ok (ok_lit0 (kk := 0) elt_impl_Group rfl rfl rfl (Nat.le_of_ble_eq_true rfl))) rfl ?_
  refine SV.op (OpL.ok (nb := 0) (ok_move (v := V.one (.hd 0)) (.inr rfl) rfl) rfl (Nat.le_of_ble_eq_true rfl)) rfl ?_
  refine SV.nil ?_
  refine SV.tn ?_
  refine SV.seq' ?_
  refine SV.seq' ?_
  refine SV.region ?_
  refine SV.op (OpL.ok (nb := 0) (ok_move (v := V.one (.sc _)) (.inr rfl) rfl) rfl (Nat.le_of_ble_eq_true rfl)) rfl ?_
  refine SV.nil ?_
  refine SV.tn ?_
  refine SV.block ?_
  refine SV.loopF (X := Nat) (fun (σ : VS) t => (((((VS.nil.new (.seq 33 (((X.take t).map GroupD.ofRow).map tGroup))).put 0 (σ.tm 0)).put 2 (σ.tm 2)).put 3 (V.flat false [.hd 0])).put 4 (V.flat false [.sc (.int .i64 ((t : Int)))]))) (fun t => t ≤ X.length) (fun t => X.length - t) ?_ ?_
  · skip
    refine SV.again (fun i => [0].getD i 0) 0 ((by first | exact Nat.zero_le _ | (refine ⟨Nat.zero_le _, ?_⟩; simp; done) | (simp; done) | omega)) (pins hE rfl rfl) (VS.le.mk' (le_put (le_put (le_put (le_put (le_new le_nil) (V.le.keep (ag := false) (xs := [.ro _]) (ys := [.ro _]) rfl rfl ⟨rfl, trivial⟩)) (V.le.keep (ag := false) (xs := [.sc _]) (ys := [.sc _]) rfl rfl ⟨rfl, trivial⟩)) (V.le.keep (ag := false) (xs := [.hd 0]) (ys := [.hd 0]) rfl rfl ⟨⟨rfl, (Nat.le_of_ble_eq_true rfl), (Nat.le_of_ble_eq_true rfl)⟩, trivial⟩)) (V.le.keep (ag := false) (xs := [.sc _]) (ys := [.sc _]) rfl rfl ⟨(by first | rfl | (show Leaf.sc _ = Leaf.sc _; refine congrArg Leaf.sc ?_; first | rfl | go_num | (simp [cntAll]; done)) | (simp [cntAll]; done) | (simp; omega)), trivial⟩)) trivial ⟨.inr ⟨_, _, rfl, ?ob1_0, (Nat.le_of_ble_eq_true rfl)⟩, trivial⟩ (new_ob nil_ob) (fun i j hi hj e => inj_list (l := [0]) (by decide) i j hi hj e))
    case ob1_0 =>
      show some (T.seq _ _) = some (T.seq _ _)
      first | rfl | exact congrArg some (congrArg (T.seq _) (by simp))
  · rintro t ht
    refine SV.seq' ?_
    refine SV.seq' ?_
    refine SV.region ?_
    refine SV.op (OpL.ok (nb := 0) (ok_move (v := V.one (.sc _)) (.inl rfl) rfl) rfl (Nat.le_of_ble_eq_true rfl)) rfl ?_
    refine SV.op (OpL.ok (nb := 0) (ok_move (v := V.one (.ro _)) (.inl rfl) rfl) rfl (Nat.le_of_ble_eq_true rfl)) rfl ?_
    refine SV.op (OpL.ok (nb := 0) (ok_len (lf := .ro _) rfl elt_impl_Row.und rfl rfl) rfl (Nat.le_of_ble_eq_true rfl)) rfl ?_
    refine SV.op (OpL.ok (nb := 0) (ok_s2 (x := .tmp 6) (x' := .tmp 8) (VScal.one rfl) (VScal.one rfl) (fun ρ h1 h2 w => by go_simp; (try go_bits); with_reducible rfl) rfl) rfl (Nat.le_of_ble_eq_true rfl)) rfl ?_
    refine SV.nil ?_
    refine SV.tn ?_
    refine SV.cond rfl (fun hc0 => ?_) (fun hc0 => ?_)
    · skip   -- c0.T
      have htl : t < X.length := by simpa using hc0
      have hx : X[t]? = some X[t] := by simp [htl]
      refine SV.skip ?_
      refine SV.tn ?_
      refine SV.seq' ?_
      refine SV.block ?_
      refine SV.region ?_
      refine SV.op (OpL.ok (nb := 0) (ok_move (v := V.one (.hd 0)) (.inl rfl) rfl) rfl (Nat.le_of_ble_eq_true rfl)) rfl ?_
      refine SV.op (OpL.ok (nb := 0) (ok_move (v := V.one (.ro _)) (.inl rfl) rfl) rfl (Nat.le_of_ble_eq_true rfl)) rfl ?_
      refine SV.op (OpL.ok (nb := 0) (ok_move (v := V.one (.sc _)) (.inl rfl) rfl) rfl (Nat.le_of_ble_eq_true rfl)) rfl ?_
      refine SV.op (OpL.ok (nb := 0) (ok_index (n := 3) (lf := .ro _) rfl elt_impl_Row.und sz_impl_Row rfl rfl rfl (map_at (by assumption))) rfl (Nat.le_of_ble_eq_true rfl)) rfl ?_
      refine SV.op (OpL.ok (nb := 0) (ok_load_rp (ag := true) (m := 3) (ys := [.sc _, .sc _, .sc _]) rfl rfl agg_impl_Row sz_impl_Row (fun h => by cases h) (Nat.le_of_ble_eq_true rfl) rfl) rfl (Nat.le_of_ble_eq_true rfl)) rfl ?_
      refine SV.op (OpMk.ok (ok_call (ls := [(true, [.sc _, .sc _, .sc _, .sc _, .sc _])]) rfl rfl ⟨_, _, Tryd.func27, rfl, by decide⟩ (vofrow_s X[t]) ⟨⟨[.sc _, .sc _, .sc _], rfl, ⟨rfl, rfl, rfl, trivial⟩⟩, trivial⟩ rfl (Nat.le_of_ble_eq_true rfl))) rfl ?_
      refine SV.op (OpMk.ok (ok_lit1 (kk := 1) elt_impl_Group (ag := true) (xs := [.sc _, .sc _, .sc _, .sc _, .sc _]) rfl rfl rfl rfl (fun h => by cases h) (outs_c rfl (outs_c rfl (outs_c rfl (outs_c rfl (outs_c rfl outs_n))))) (by simp [two]) rfl (Nat.le_of_ble_eq_true rfl))) rfl ?_
      refine SV.op (OpMk.ok (ok_append (kk := 2) elt_impl_Group (ls := .hd 0) (lx := .hd 1) rfl rfl rfl rfl rfl rfl (by intro i h1 h2; cases h1; cases h2) (by first | omega | (simp only [List.length_map]; omega) | (simp; done) | (simp; omega)) rfl (Nat.le_of_ble_eq_true rfl))) rfl ?_
      refine SV.op (OpL.ok (nb := 0) (ok_move (v := V.one (.hd 2)) (.inr rfl) rfl) rfl (Nat.le_of_ble_eq_true rfl)) rfl ?_
      refine SV.nil ?_
      refine SV.bn ?_
      refine SV.tn ?_
      refine SV.region ?_
      refine SV.op (OpL.ok (nb := 0) (ok_move (v := V.one (.sc _)) (.inl rfl) rfl) rfl (Nat.le_of_ble_eq_true rfl)) rfl ?_
      refine SV.op (OpL.ok (nb := 0) (ok_s2 (x := .tmp 10) (x' := .const ((Value.int IntKind.i64 1))) (VScal.one rfl) (VScal.one rfl) (fun ρ h1 h2 w => by go_simp; (try go_bits); with_reducible rfl) rfl) rfl (Nat.le_of_ble_eq_true rfl)) rfl ?_
      refine SV.op (OpL.ok (nb := 0) (ok_move (v := V.one (.sc _)) (.inr rfl) rfl) rfl (Nat.le_of_ble_eq_true rfl)) rfl ?_
      refine SV.nil ?_
      refine SV.tn ?_
      refine SV.again (fun i => [2].getD i 0) (t + 1) (⟨by omega, by omega⟩) (pins hE rfl rfl) (VS.le.mk' (le_put (le_put (le_put (le_put (le_new le_nil) (V.le.keep (ag := false) (xs := [.ro _]) (ys := [.ro _]) rfl rfl ⟨rfl, trivial⟩)) (V.le.keep (ag := false) (xs := [.sc _]) (ys := [.sc _]) rfl rfl ⟨rfl, trivial⟩)) (V.le.keep (ag := false) (xs := [.hd 2]) (ys := [.hd 0]) rfl rfl ⟨⟨rfl, (Nat.le_of_ble_eq_true rfl), (Nat.le_of_ble_eq_true rfl)⟩, trivial⟩)) (V.le.keep (ag := false) (xs := [.sc _]) (ys := [.sc _]) rfl rfl ⟨(by first | rfl | (show Leaf.sc _ = Leaf.sc _; refine congrArg Leaf.sc ?_; first | rfl | go_num | (simp [cntAll]; done)) | (simp [cntAll]; done) | (simp; omega)), trivial⟩)) trivial ⟨.inr ⟨_, _, rfl, ?ob2_0, (Nat.le_of_ble_eq_true rfl)⟩, trivial⟩ (new_ob nil_ob) (fun i j hi hj e => inj_list (l := [2]) (by decide) i j hi hj e))
      case ob2_0 =>
        show some (T.seq _ _) = some (T.seq _ _)
        rw [List.take_succ_eq_append_getElem htl, List.map_append, List.map_append]
        first | done | rfl
    · skip   -- c0.F
      have hte : ¬ t < X.length := by simpa using hc0
      have htk : X.take t = X := List.take_of_length_le (by omega)
      have hm := vmerge_s ((X.take t).map GroupD.ofRow) (by simp; omega)
      refine SV.exit ?_
      refine SV.te ?_
      refine SV.te ?_
      refine SV.bh ?_
      refine SV.tn ?_
      refine SV.seq' ?_
      refine SV.region ?_
      refine SV.op (OpL.ok (nb := 0) (ok_move (v := V.one (.hd 0)) (.inl rfl) rfl) rfl (Nat.le_of_ble_eq_true rfl)) rfl ?_
      refine SV.op (OpMk.ok (ok_call (ls := [(false, [.hd 1])]) rfl rfl ⟨_, _, Tryd.func25, rfl, by decide⟩ (hm) ⟨⟨[.hd 0], rfl, ⟨rfl, trivial⟩⟩, trivial⟩ rfl (Nat.le_of_ble_eq_true rfl))) rfl ?_
      refine SV.op (OpL.ok (nb := 0) (ok_move (v := V.one (.hd 1)) (.inr rfl) rfl) rfl (Nat.le_of_ble_eq_true rfl)) rfl ?_
      refine SV.nil ?_
      refine SV.tn ?_
      refine SV.ret ?_
      apply SV.done (hf := Tryd.results12) (ht := rfl) (he := .inl rfl)
      case hr => exact (ResAll.cons (ResOk.tmp (ag := false) (xs := [.hd 1]) rfl) ResAll.nil')
      case h2 => simp [two]
      refine ⟨rfl, ⟨?_, trivial⟩, trivial⟩ <;> (show some (T.seq _ _) = some (T.seq _ _); rw [htk])
end Go.Proofs.YtmlcdhblofjpbaaDoor
