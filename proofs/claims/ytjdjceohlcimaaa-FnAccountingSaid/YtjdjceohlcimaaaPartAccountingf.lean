/- Texts joined: AcctF VKeep VTake. -/
import Derived.Test.YtjdjceohlcimaaaPartAccountinge
/- What charges, releases and grants make of an account: told by trees. -/
namespace Go.Proofs.Ytjdjceohlcimaaa
open Go Go.RowKit V
set_option linter.unusedVariables false
set_option maxRecDepth 100000 in
set_option maxHeartbeats 2000000 in
theorem vnew_s (n : Int) : VC Try.prog 26 [(false, [.lit (.int .i64 (n))])] true [(true, tAccount (AccountD.new n)), (false, [.lit (.bool (AccountD.isGrant n))])] := by
  refine VC.enter Try.func26 rfl Try.ntmps26 (Nat.le_of_ble_eq_true rfl) fun E hE => ?_
  refine SV.seq' ?_
  refine SV.region ?_
  refine SV.op (OpMk.ok (ok_alloc (kk := 0) (xs := [.sc _, .sc _, .sc _, .sc _]) rfl rfl zero_impl_Account ⟨rfl, rfl, rfl, rfl, rfl, rfl, rfl, rfl, trivial⟩ rfl (Nat.le_of_ble_eq_true rfl))) rfl ?_
  refine SV.op (OpL.ok (nb := 1) (ok_move (v := V.one (.sc _)) (.inr rfl) rfl) rfl (Nat.le_of_ble_eq_true rfl)) rfl ?_
  refine SV.nil ?_
  refine SV.tn ?_
  refine SV.seq' ?_
  refine SV.seq' ?_
  refine SV.region ?_
  refine SV.op (OpL.ok (nb := 1) (ok_move (v := V.one (.sc _)) (.inl rfl) rfl) rfl (Nat.le_of_ble_eq_true rfl)) rfl ?_
  refine SV.op (OpMk.ok (ok_call (ls := [(false, [.sc _])]) rfl rfl ⟨_, _, Try.func34, rfl, by decide⟩ (vin_s' n 8 60) ⟨⟨[.sc _], rfl, ⟨rfl, trivial⟩⟩, ⟨[.sc _], rfl, ⟨rfl, trivial⟩⟩, ⟨[.sc _], rfl, ⟨rfl, trivial⟩⟩, trivial⟩ rfl (Nat.le_of_ble_eq_true rfl))) rfl ?_
  refine SV.op (OpL.ok (nb := 1) (ok_s1 (x := .tmp 5) (VScal.one rfl) (fun ρ h1 w => by go_simp; (try go_bits); with_reducible rfl) rfl) rfl (Nat.le_of_ble_eq_true rfl)) rfl ?_
  refine SV.nil ?_
  refine SV.tn ?_
  refine SV.cond rfl (fun hc0 => ?_) (fun hc0 => ?_)
  · skip   -- c0.T
    have ho : AccountD.isGrant n = false := by simp [AccountD.isGrant] at *; omega
    refine SV.seq' ?_
    refine SV.region ?_
    refine SV.op (OpL.ok (nb := 1) (ok_build (zs := [.sc _, .sc _, .sc _, .sc _]) (ys := [.sc _, .sc _, .sc _, .sc _]) (qs := []) (pl := fun i => ([(0, 1), (1, 1), (2, 1), (3, 1)] : List (Nat × Nat))[i]?) rfl zero_impl_Account ⟨rfl, rfl, rfl, rfl, rfl, rfl, rfl, rfl, trivial⟩ trivial bld_impl_Account rfl) rfl (Nat.le_of_ble_eq_true rfl)) rfl ?_
    refine SV.op (ok_store_bp (b := 0) (i := 0) (m := 4) (ag := true) (zs := [.sc _, .sc _, .sc _, .sc _]) (ys := [.sc _, .sc _, .sc _, .sc _]) rfl rfl rfl rfl sz_impl_Account (fun h => by cases h) rfl (Nat.le_of_ble_eq_true rfl) rfl rfl rfl) rfl ?_
    refine SV.op (OpL.ok (nb := 1) (ok_move (v := V.one (.sc _)) (.inr rfl) rfl) rfl (Nat.le_of_ble_eq_true rfl)) rfl ?_
    refine SV.nil ?_
    refine SV.tn ?_
    refine SV.ret ?_
    refine SV.tr ?_
    apply SV.done (hf := Try.results26) (ht := rfl) (he := .inl rfl)
    case hr => exact (ResAll.cons (ResOk.cell (b := 0) (ag := true) (xs := [.sc _, .sc _, .sc _, .sc _]) rfl rfl agg_impl_Account sz_impl_Account (fun h => by cases h)) (ResAll.cons (ResOk.tmp (ag := false) (xs := [.sc _]) rfl) ResAll.nil'))
    case h2 => simp [two]
    refine ⟨rfl, ⟨?_, ?_, ?_, ?_, trivial⟩, ⟨rfl, ⟨?_, trivial⟩, trivial⟩⟩ <;> first | rfl | (rw [AccountD.new_yes ho]; rfl) | ((show some (T.lit (Value.int .i64 _)) = some (T.lit (Value.int .i64 _)); refine congrArg (fun z => some (T.lit (Value.int .i64 z))) ?_; rw [AccountD.new_yes ho]; (try dsimp only); omega)) | (rw [AccountD.new_no ho]; rfl) | ((show some (T.lit (Value.int .i64 _)) = some (T.lit (Value.int .i64 _)); refine congrArg (fun z => some (T.lit (Value.int .i64 z))) ?_; rw [AccountD.new_no ho]; (try dsimp only); omega)) | ((show some (T.lit (Value.bool _)) = some (T.lit (Value.bool _)); refine congrArg (fun z => some (T.lit (Value.bool z))) ?_; rw [ho]))
  · skip   -- c0.F
    have ho : AccountD.isGrant n = true := by simp [AccountD.isGrant] at *; omega
    refine SV.skip ?_
    refine SV.tn ?_
    refine SV.seq' ?_
    refine SV.region ?_
    refine SV.op (OpL.ok (nb := 1) (ok_move (v := V.one (.sc _)) (.inl rfl) rfl) rfl (Nat.le_of_ble_eq_true rfl)) rfl ?_
    refine SV.op (OpL.ok (nb := 1) (ok_build (zs := [.sc _, .sc _, .sc _, .sc _]) (ys := [.sc _, .sc _, .sc _, .sc _]) (qs := [(1, [.sc _])]) (pl := fun i => ([(0, 1), (1, 1), (2, 1), (3, 1)] : List (Nat × Nat))[i]?) rfl zero_impl_Account ⟨rfl, rfl, rfl, rfl, rfl, rfl, rfl, rfl, trivial⟩ ⟨⟨rfl, false, rfl, (fun _ => rfl), rfl⟩, trivial⟩ bld_impl_Account rfl) rfl (Nat.le_of_ble_eq_true rfl)) rfl ?_
    refine SV.op (ok_store_bp (b := 0) (i := 0) (m := 4) (ag := true) (zs := [.sc _, .sc _, .sc _, .sc _]) (ys := [.sc _, .sc _, .sc _, .sc _]) rfl rfl rfl rfl sz_impl_Account (fun h => by cases h) rfl (Nat.le_of_ble_eq_true rfl) rfl rfl rfl) rfl ?_
    refine SV.op (OpL.ok (nb := 1) (ok_move (v := V.one (.sc _)) (.inr rfl) rfl) rfl (Nat.le_of_ble_eq_true rfl)) rfl ?_
    refine SV.nil ?_
    refine SV.tn ?_
    refine SV.ret ?_
    apply SV.done (hf := Try.results26) (ht := rfl) (he := .inl rfl)
    case hr => exact (ResAll.cons (ResOk.cell (b := 0) (ag := true) (xs := [.sc _, .sc _, .sc _, .sc _]) rfl rfl agg_impl_Account sz_impl_Account (fun h => by cases h)) (ResAll.cons (ResOk.tmp (ag := false) (xs := [.sc _]) rfl) ResAll.nil'))
    case h2 => simp [two]
    refine ⟨rfl, ⟨?_, ?_, ?_, ?_, trivial⟩, ⟨rfl, ⟨?_, trivial⟩, trivial⟩⟩ <;> first | rfl | (rw [AccountD.new_yes ho]; rfl) | ((show some (T.lit (Value.int .i64 _)) = some (T.lit (Value.int .i64 _)); refine congrArg (fun z => some (T.lit (Value.int .i64 z))) ?_; rw [AccountD.new_yes ho]; (try dsimp only); omega)) | (rw [AccountD.new_no ho]; rfl) | ((show some (T.lit (Value.int .i64 _)) = some (T.lit (Value.int .i64 _)); refine congrArg (fun z => some (T.lit (Value.int .i64 z))) ?_; rw [AccountD.new_no ho]; (try dsimp only); omega)) | ((show some (T.lit (Value.bool _)) = some (T.lit (Value.bool _)); refine congrArg (fun z => some (T.lit (Value.bool z))) ?_; rw [ho]))
set_option maxRecDepth 100000 in
set_option maxHeartbeats 2000000 in
theorem vnew_i (n : Int) : VC Try.prog 25 [(false, [.lit (.int .i64 (n))])] true [(true, tAccount (AccountD.new n)), (false, [.lit (.bool (AccountD.isGrant n))])] := by
  refine VC.enter Try.func25 rfl Try.ntmps25 (Nat.le_of_ble_eq_true rfl) fun E hE => ?_
  refine SV.seq' ?_
  refine SV.region ?_
  refine SV.op (OpMk.ok (ok_alloc (kk := 0) (xs := [.sc _, .sc _, .sc _, .sc _]) rfl rfl zero_impl_Account ⟨rfl, rfl, rfl, rfl, rfl, rfl, rfl, rfl, trivial⟩ rfl (Nat.le_of_ble_eq_true rfl))) rfl ?_
  refine SV.op (OpL.ok (nb := 1) (ok_move (v := V.one (.sc _)) (.inr rfl) rfl) rfl (Nat.le_of_ble_eq_true rfl)) rfl ?_
  refine SV.nil ?_
  refine SV.tn ?_
  refine SV.seq' ?_
  refine SV.seq' ?_
  refine SV.region ?_
  refine SV.op (OpL.ok (nb := 1) (ok_move (v := V.one (.sc _)) (.inl rfl) rfl) rfl (Nat.le_of_ble_eq_true rfl)) rfl ?_
  refine SV.op (OpMk.ok (ok_call (ls := [(false, [.sc _])]) rfl rfl ⟨_, _, Try.func35, rfl, by decide⟩ (visgrant_i n) ⟨⟨[.sc _], rfl, ⟨rfl, trivial⟩⟩, trivial⟩ rfl (Nat.le_of_ble_eq_true rfl))) rfl ?_
  refine SV.op (OpL.ok (nb := 1) (ok_s1 (x := .tmp 5) (VScal.one rfl) (fun ρ h1 w => by go_simp; (try go_bits); with_reducible rfl) rfl) rfl (Nat.le_of_ble_eq_true rfl)) rfl ?_
  refine SV.nil ?_
  refine SV.tn ?_
  refine SV.cond rfl (fun hc0 => ?_) (fun hc0 => ?_)
  · skip   -- c0.T
    have ho : AccountD.isGrant n = false := by simp [AccountD.isGrant] at *; omega
    refine SV.seq' ?_
    refine SV.region ?_
    refine SV.op (OpL.ok (nb := 1) (ok_build (zs := [.sc _, .sc _, .sc _, .sc _]) (ys := [.sc _, .sc _, .sc _, .sc _]) (qs := []) (pl := fun i => ([(0, 1), (1, 1), (2, 1), (3, 1)] : List (Nat × Nat))[i]?) rfl zero_impl_Account ⟨rfl, rfl, rfl, rfl, rfl, rfl, rfl, rfl, trivial⟩ trivial bld_impl_Account rfl) rfl (Nat.le_of_ble_eq_true rfl)) rfl ?_
    refine SV.op (ok_store_bp (b := 0) (i := 0) (m := 4) (ag := true) (zs := [.sc _, .sc _, .sc _, .sc _]) (ys := [.sc _, .sc _, .sc _, .sc _]) rfl rfl rfl rfl sz_impl_Account (fun h => by cases h) rfl (Nat.le_of_ble_eq_true rfl) rfl rfl rfl) rfl ?_
    refine SV.op (OpL.ok (nb := 1) (ok_move (v := V.one (.sc _)) (.inr rfl) rfl) rfl (Nat.le_of_ble_eq_true rfl)) rfl ?_
    refine SV.nil ?_
    refine SV.tn ?_
    refine SV.ret ?_
    refine SV.tr ?_
    apply SV.done (hf := Try.results25) (ht := rfl) (he := .inl rfl)
    case hr => exact (ResAll.cons (ResOk.cell (b := 0) (ag := true) (xs := [.sc _, .sc _, .sc _, .sc _]) rfl rfl agg_impl_Account sz_impl_Account (fun h => by cases h)) (ResAll.cons (ResOk.tmp (ag := false) (xs := [.sc _]) rfl) ResAll.nil'))
    case h2 => simp [two]
    refine ⟨rfl, ⟨?_, ?_, ?_, ?_, trivial⟩, ⟨rfl, ⟨?_, trivial⟩, trivial⟩⟩ <;> first | rfl | (rw [AccountD.new_yes ho]; rfl) | ((show some (T.lit (Value.int .i64 _)) = some (T.lit (Value.int .i64 _)); refine congrArg (fun z => some (T.lit (Value.int .i64 z))) ?_; rw [AccountD.new_yes ho]; (try dsimp only); omega)) | (rw [AccountD.new_no ho]; rfl) | ((show some (T.lit (Value.int .i64 _)) = some (T.lit (Value.int .i64 _)); refine congrArg (fun z => some (T.lit (Value.int .i64 z))) ?_; rw [AccountD.new_no ho]; (try dsimp only); omega)) | ((show some (T.lit (Value.bool _)) = some (T.lit (Value.bool _)); refine congrArg (fun z => some (T.lit (Value.bool z))) ?_; rw [ho]))
  · skip   -- c0.F
    have ho : AccountD.isGrant n = true := by simp [AccountD.isGrant] at *; omega
    refine SV.skip ?_
    refine SV.tn ?_
    refine SV.seq' ?_
    refine SV.region ?_
    refine SV.op (OpL.ok (nb := 1) (ok_move (v := V.one (.sc _)) (.inl rfl) rfl) rfl (Nat.le_of_ble_eq_true rfl)) rfl ?_
    refine SV.op (OpL.ok (nb := 1) (ok_build (zs := [.sc _, .sc _, .sc _, .sc _]) (ys := [.sc _, .sc _, .sc _, .sc _]) (qs := [(1, [.sc _])]) (pl := fun i => ([(0, 1), (1, 1), (2, 1), (3, 1)] : List (Nat × Nat))[i]?) rfl zero_impl_Account ⟨rfl, rfl, rfl, rfl, rfl, rfl, rfl, rfl, trivial⟩ ⟨⟨rfl, false, rfl, (fun _ => rfl), rfl⟩, trivial⟩ bld_impl_Account rfl) rfl (Nat.le_of_ble_eq_true rfl)) rfl ?_
    refine SV.op (ok_store_bp (b := 0) (i := 0) (m := 4) (ag := true) (zs := [.sc _, .sc _, .sc _, .sc _]) (ys := [.sc _, .sc _, .sc _, .sc _]) rfl rfl rfl rfl sz_impl_Account (fun h => by cases h) rfl (Nat.le_of_ble_eq_true rfl) rfl rfl rfl) rfl ?_
    refine SV.op (OpL.ok (nb := 1) (ok_move (v := V.one (.sc _)) (.inr rfl) rfl) rfl (Nat.le_of_ble_eq_true rfl)) rfl ?_
    refine SV.nil ?_
    refine SV.tn ?_
    refine SV.ret ?_
    apply SV.done (hf := Try.results25) (ht := rfl) (he := .inl rfl)
    case hr => exact (ResAll.cons (ResOk.cell (b := 0) (ag := true) (xs := [.sc _, .sc _, .sc _, .sc _]) rfl rfl agg_impl_Account sz_impl_Account (fun h => by cases h)) (ResAll.cons (ResOk.tmp (ag := false) (xs := [.sc _]) rfl) ResAll.nil'))
    case h2 => simp [two]
    refine ⟨rfl, ⟨?_, ?_, ?_, ?_, trivial⟩, ⟨rfl, ⟨?_, trivial⟩, trivial⟩⟩ <;> first | rfl | (rw [AccountD.new_yes ho]; rfl) | ((show some (T.lit (Value.int .i64 _)) = some (T.lit (Value.int .i64 _)); refine congrArg (fun z => some (T.lit (Value.int .i64 z))) ?_; rw [AccountD.new_yes ho]; (try dsimp only); omega)) | (rw [AccountD.new_no ho]; rfl) | ((show some (T.lit (Value.int .i64 _)) = some (T.lit (Value.int .i64 _)); refine congrArg (fun z => some (T.lit (Value.int .i64 z))) ?_; rw [AccountD.new_no ho]; (try dsimp only); omega)) | ((show some (T.lit (Value.bool _)) = some (T.lit (Value.bool _)); refine congrArg (fun z => some (T.lit (Value.bool z))) ?_; rw [ho]))
set_option maxRecDepth 100000 in
set_option maxHeartbeats 2000000 in
theorem vexcess_s (a : AccountD) : VC Try.prog 17 [(true, tAccount a)] false [(false, [.lit (.int .i64 (AccountD.excess a))])] := by
  refine VC.enter Try.func17 rfl Try.ntmps17 (Nat.le_of_ble_eq_true rfl) fun E hE => ?_
  refine SV.seq' ?_
  refine SV.region ?_
  refine SV.op (OpMk.ok (ok_box (kk := 0) (ag := true) (xs := [.sc _, .sc _, .sc _, .sc _]) rfl rfl rfl (fun h => by cases h) rfl rfl (Nat.le_of_ble_eq_true rfl))) rfl ?_
  refine SV.op (OpL.ok (nb := 1) (ok_move (v := V.one (.sc _)) (.inr rfl) rfl) rfl (Nat.le_of_ble_eq_true rfl)) rfl ?_
  refine SV.nil ?_
  refine SV.tn ?_
  refine SV.seq' ?_
  refine SV.seq' ?_
  refine SV.region ?_
  refine SV.op (OpL.ok (nb := 1) (ok_load_bp (b := 0) (i := 0) (ag := true) (m := 4) (ys := [.sc _, .sc _, .sc _, .sc _]) rfl rfl rfl agg_impl_Account sz_impl_Account (fun h => by cases h) rfl rfl (Nat.le_of_ble_eq_true rfl)) rfl (Nat.le_of_ble_eq_true rfl)) rfl ?_
  refine SV.op (OpMk.ok (ok_call (ls := [(false, [.sc _])]) rfl rfl ⟨_, _, Try.func15, rfl, by decide⟩ (vok_s a) ⟨⟨[.sc _, .sc _, .sc _, .sc _], rfl, ⟨rfl, rfl, rfl, rfl, trivial⟩⟩, trivial⟩ rfl (Nat.le_of_ble_eq_true rfl))) rfl ?_
  refine SV.op (OpL.ok (nb := 1) (ok_s1 (x := .tmp 4) (VScal.one rfl) (fun ρ h1 w => by go_simp; (try go_bits); with_reducible rfl) rfl) rfl (Nat.le_of_ble_eq_true rfl)) rfl ?_
  refine SV.nil ?_
  refine SV.tn ?_
  refine SV.cond rfl (fun hc0 => ?_) (fun hc0 => ?_)
  · skip   -- c0.T
    have ho : AccountD.ok a = false := by simpa using hc0
    refine SV.seq' ?_
    refine SV.region ?_
    refine SV.op (OpL.ok (nb := 1) (ok_move (v := V.one (.sc _)) (.inr rfl) rfl) rfl (Nat.le_of_ble_eq_true rfl)) rfl ?_
    refine SV.nil ?_
    refine SV.tn ?_
    refine SV.ret ?_
    refine SV.tr ?_
    apply SV.done (hf := Try.results17) (ht := rfl) (he := .inl rfl)
    case hr => exact (ResAll.cons (ResOk.tmp (ag := false) (xs := [.sc _]) rfl) ResAll.nil')
    case h2 => simp [two]
    refine ⟨rfl, ⟨?_, trivial⟩, trivial⟩ <;> first | rfl | (rw [AccountD.excess_yes ho]; rfl) | ((show some (T.lit (Value.int .i64 _)) = some (T.lit (Value.int .i64 _)); refine congrArg (fun z => some (T.lit (Value.int .i64 z))) ?_; rw [AccountD.excess_yes ho]; (try dsimp only); omega)) | (rw [AccountD.excess_no ho]; rfl) | ((show some (T.lit (Value.int .i64 _)) = some (T.lit (Value.int .i64 _)); refine congrArg (fun z => some (T.lit (Value.int .i64 z))) ?_; rw [AccountD.excess_no ho]; (try dsimp only); omega)) | ((show some (T.lit (Value.bool _)) = some (T.lit (Value.bool _)); refine congrArg (fun z => some (T.lit (Value.bool z))) ?_; rw [ho]))
  · skip   -- c0.F
    have ho : AccountD.ok a = true := by simpa using hc0
    have hk := (AccountD.ok_iff a).1 ho
    refine SV.skip ?_
    refine SV.tn ?_
    refine SV.seq' ?_
    refine SV.region ?_
    refine SV.op (OpL.ok (nb := 1) (ok_field_bp (b := 0) (o' := 0) (off := 0) rfl rfl fld_impl_Account_0) rfl (Nat.le_of_ble_eq_true rfl)) rfl ?_
    refine SV.op (OpL.ok (nb := 1) (ok_load_bp (b := 0) (i := 0) (ag := false) (m := 1) (ys := [.sc _]) rfl rfl rfl agg_int sz_int (fun _ => rfl) rfl rfl (Nat.le_of_ble_eq_true rfl)) rfl (Nat.le_of_ble_eq_true rfl)) rfl ?_
    refine SV.op (OpL.ok (nb := 1) (ok_field_bp (b := 0) (o' := 0) (off := 1) rfl rfl fld_impl_Account_1) rfl (Nat.le_of_ble_eq_true rfl)) rfl ?_
    refine SV.op (OpL.ok (nb := 1) (ok_load_bp (b := 0) (i := 1) (ag := false) (m := 1) (ys := [.sc _]) rfl rfl rfl agg_int sz_int (fun _ => rfl) rfl rfl (Nat.le_of_ble_eq_true rfl)) rfl (Nat.le_of_ble_eq_true rfl)) rfl ?_
    refine SV.op (OpL.ok (nb := 1) (ok_s2 (v := .int .i64 (a.fUsed - a.fGrant)) (x := .tmp 7) (x' := .tmp 9) (VScal.one rfl) (VScal.one rfl) (fun ρ h1 h2 w => by go_simp; rw [IntWalk.i64_left, IntWalk.wrap64_in _ ⟨by omega, by omega⟩]) rfl) rfl (Nat.le_of_ble_eq_true rfl)) rfl ?_
    refine SV.op (OpL.ok (nb := 1) (ok_s2 (x := .const ((Value.int IntKind.i64 0))) (x' := .tmp 10) (VScal.one rfl) (VScal.one rfl) (fun ρ h1 h2 w => by go_simp; (try go_bits); with_reducible rfl) rfl) rfl (Nat.le_of_ble_eq_true rfl)) rfl ?_
    refine SV.op (OpL.ok (nb := 1) (ok_move (v := V.one (.sc _)) (.inr rfl) rfl) rfl (Nat.le_of_ble_eq_true rfl)) rfl ?_
    refine SV.nil ?_
    refine SV.tn ?_
    refine SV.ret ?_
    apply SV.done (hf := Try.results17) (ht := rfl) (he := .inl rfl)
    case hr => exact (ResAll.cons (ResOk.tmp (ag := false) (xs := [.sc _]) rfl) ResAll.nil')
    case h2 => simp [two]
    refine ⟨rfl, ⟨?_, trivial⟩, trivial⟩ <;> first | rfl | (rw [AccountD.excess_yes ho]; rfl) | ((show some (T.lit (Value.int .i64 _)) = some (T.lit (Value.int .i64 _)); refine congrArg (fun z => some (T.lit (Value.int .i64 z))) ?_; rw [AccountD.excess_yes ho]; (try dsimp only); omega)) | (rw [AccountD.excess_no ho]; rfl) | ((show some (T.lit (Value.int .i64 _)) = some (T.lit (Value.int .i64 _)); refine congrArg (fun z => some (T.lit (Value.int .i64 z))) ?_; rw [AccountD.excess_no ho]; (try dsimp only); omega)) | ((show some (T.lit (Value.bool _)) = some (T.lit (Value.bool _)); refine congrArg (fun z => some (T.lit (Value.bool z))) ?_; rw [ho]))
set_option maxRecDepth 100000 in
set_option maxHeartbeats 2000000 in
theorem vexcess_i (a : AccountD) : VC Try.prog 16 [(true, tAccount a)] false [(false, [.lit (.int .i64 (AccountD.excess a))])] := by
  refine VC.enter Try.func16 rfl Try.ntmps16 (Nat.le_of_ble_eq_true rfl) fun E hE => ?_
  refine SV.seq' ?_
  refine SV.region ?_
  refine SV.op (OpMk.ok (ok_box (kk := 0) (ag := true) (xs := [.sc _, .sc _, .sc _, .sc _]) rfl rfl rfl (fun h => by cases h) rfl rfl (Nat.le_of_ble_eq_true rfl))) rfl ?_
  refine SV.op (OpL.ok (nb := 1) (ok_move (v := V.one (.sc _)) (.inr rfl) rfl) rfl (Nat.le_of_ble_eq_true rfl)) rfl ?_
  refine SV.nil ?_
  refine SV.tn ?_
  refine SV.seq' ?_
  refine SV.seq' ?_
  refine SV.region ?_
  refine SV.op (OpL.ok (nb := 1) (ok_load_bp (b := 0) (i := 0) (ag := true) (m := 4) (ys := [.sc _, .sc _, .sc _, .sc _]) rfl rfl rfl agg_impl_Account sz_impl_Account (fun h => by cases h) rfl rfl (Nat.le_of_ble_eq_true rfl)) rfl (Nat.le_of_ble_eq_true rfl)) rfl ?_
  refine SV.op (OpMk.ok (ok_call (ls := [(false, [.sc _])]) rfl rfl ⟨_, _, Try.func14, rfl, by decide⟩ (vok_i a) ⟨⟨[.sc _, .sc _, .sc _, .sc _], rfl, ⟨rfl, rfl, rfl, rfl, trivial⟩⟩, trivial⟩ rfl (Nat.le_of_ble_eq_true rfl))) rfl ?_
  refine SV.op (OpL.ok (nb := 1) (ok_s1 (x := .tmp 4) (VScal.one rfl) (fun ρ h1 w => by go_simp; (try go_bits); with_reducible rfl) rfl) rfl (Nat.le_of_ble_eq_true rfl)) rfl ?_
  refine SV.nil ?_
  refine SV.tn ?_
  refine SV.cond rfl (fun hc0 => ?_) (fun hc0 => ?_)
  · skip   -- c0.T
    have ho : AccountD.ok a = false := by simpa using hc0
    refine SV.seq' ?_
    refine SV.region ?_
    refine SV.op (OpL.ok (nb := 1) (ok_move (v := V.one (.sc _)) (.inr rfl) rfl) rfl (Nat.le_of_ble_eq_true rfl)) rfl ?_
    refine SV.nil ?_
    refine SV.tn ?_
    refine SV.ret ?_
    refine SV.tr ?_
    apply SV.done (hf := Try.results16) (ht := rfl) (he := .inl rfl)
    case hr => exact (ResAll.cons (ResOk.tmp (ag := false) (xs := [.sc _]) rfl) ResAll.nil')
    case h2 => simp [two]
    refine ⟨rfl, ⟨?_, trivial⟩, trivial⟩ <;> first | rfl | (rw [AccountD.excess_yes ho]; rfl) | ((show some (T.lit (Value.int .i64 _)) = some (T.lit (Value.int .i64 _)); refine congrArg (fun z => some (T.lit (Value.int .i64 z))) ?_; rw [AccountD.excess_yes ho]; (try dsimp only); omega)) | (rw [AccountD.excess_no ho]; rfl) | ((show some (T.lit (Value.int .i64 _)) = some (T.lit (Value.int .i64 _)); refine congrArg (fun z => some (T.lit (Value.int .i64 z))) ?_; rw [AccountD.excess_no ho]; (try dsimp only); omega)) | ((show some (T.lit (Value.bool _)) = some (T.lit (Value.bool _)); refine congrArg (fun z => some (T.lit (Value.bool z))) ?_; rw [ho]))
  · skip   -- c0.F
    have ho : AccountD.ok a = true := by simpa using hc0
    have hk := (AccountD.ok_iff a).1 ho
    refine SV.skip ?_
    refine SV.tn ?_
    refine SV.seq' ?_
    refine SV.region ?_
    refine SV.op (OpL.ok (nb := 1) (ok_field_bp (b := 0) (o' := 0) (off := 0) rfl rfl fld_impl_Account_0) rfl (Nat.le_of_ble_eq_true rfl)) rfl ?_
    refine SV.op (OpL.ok (nb := 1) (ok_load_bp (b := 0) (i := 0) (ag := false) (m := 1) (ys := [.sc _]) rfl rfl rfl agg_int sz_int (fun _ => rfl) rfl rfl (Nat.le_of_ble_eq_true rfl)) rfl (Nat.le_of_ble_eq_true rfl)) rfl ?_
    refine SV.op (OpL.ok (nb := 1) (ok_field_bp (b := 0) (o' := 0) (off := 1) rfl rfl fld_impl_Account_1) rfl (Nat.le_of_ble_eq_true rfl)) rfl ?_
    refine SV.op (OpL.ok (nb := 1) (ok_load_bp (b := 0) (i := 1) (ag := false) (m := 1) (ys := [.sc _]) rfl rfl rfl agg_int sz_int (fun _ => rfl) rfl rfl (Nat.le_of_ble_eq_true rfl)) rfl (Nat.le_of_ble_eq_true rfl)) rfl ?_
    refine SV.op (OpL.ok (nb := 1) (ok_s2 (v := .int .i64 (a.fUsed - a.fGrant)) (x := .tmp 7) (x' := .tmp 9) (VScal.one rfl) (VScal.one rfl) (fun ρ h1 h2 w => by go_simp; rw [IntWalk.i64_left, IntWalk.wrap64_in _ ⟨by omega, by omega⟩]) rfl) rfl (Nat.le_of_ble_eq_true rfl)) rfl ?_
    refine SV.op (OpL.ok (nb := 1) (ok_s2 (x := .const ((Value.int IntKind.i64 0))) (x' := .tmp 10) (VScal.one rfl) (VScal.one rfl) (fun ρ h1 h2 w => by go_simp; (try go_bits); with_reducible rfl) rfl) rfl (Nat.le_of_ble_eq_true rfl)) rfl ?_
    refine SV.op (OpL.ok (nb := 1) (ok_move (v := V.one (.sc _)) (.inr rfl) rfl) rfl (Nat.le_of_ble_eq_true rfl)) rfl ?_
    refine SV.nil ?_
    refine SV.tn ?_
    refine SV.ret ?_
    apply SV.done (hf := Try.results16) (ht := rfl) (he := .inl rfl)
    case hr => exact (ResAll.cons (ResOk.tmp (ag := false) (xs := [.sc _]) rfl) ResAll.nil')
    case h2 => simp [two]
    refine ⟨rfl, ⟨?_, trivial⟩, trivial⟩ <;> first | rfl | (rw [AccountD.excess_yes ho]; rfl) | ((show some (T.lit (Value.int .i64 _)) = some (T.lit (Value.int .i64 _)); refine congrArg (fun z => some (T.lit (Value.int .i64 z))) ?_; rw [AccountD.excess_yes ho]; (try dsimp only); omega)) | (rw [AccountD.excess_no ho]; rfl) | ((show some (T.lit (Value.int .i64 _)) = some (T.lit (Value.int .i64 _)); refine congrArg (fun z => some (T.lit (Value.int .i64 z))) ?_; rw [AccountD.excess_no ho]; (try dsimp only); omega)) | ((show some (T.lit (Value.bool _)) = some (T.lit (Value.bool _)); refine congrArg (fun z => some (T.lit (Value.bool z))) ?_; rw [ho]))
set_option maxRecDepth 100000 in
set_option maxHeartbeats 2000000 in
theorem vcharge_s (a : AccountD) (n : Int) : VC Try.prog 13 [(true, tAccount a), (false, [.lit (.int .i64 (n))])] true [(true, tAccount (AccountD.charge a n)), (false, [.lit (.bool (AccountD.canCharge a n))])] := by
  refine VC.enter Try.func13 rfl Try.ntmps13 (Nat.le_of_ble_eq_true rfl) fun E hE => ?_
  refine SV.seq' ?_
  refine SV.region ?_
  refine SV.op (OpMk.ok (ok_box (kk := 0) (ag := true) (xs := [.sc _, .sc _, .sc _, .sc _]) rfl rfl rfl (fun h => by cases h) rfl rfl (Nat.le_of_ble_eq_true rfl))) rfl ?_
  refine SV.op (OpMk.ok (ok_alloc (kk := 1) (xs := [.sc _, .sc _, .sc _, .sc _]) rfl rfl zero_impl_Account ⟨rfl, rfl, rfl, rfl, rfl, rfl, rfl, rfl, trivial⟩ rfl (Nat.le_of_ble_eq_true rfl))) rfl ?_
  refine SV.op (OpL.ok (nb := 2) (ok_move (v := V.one (.sc _)) (.inr rfl) rfl) rfl (Nat.le_of_ble_eq_true rfl)) rfl ?_
  refine SV.nil ?_
  refine SV.tn ?_
  refine SV.seq' ?_
  refine SV.seq' ?_
  refine SV.region ?_
  refine SV.op (OpL.ok (nb := 2) (ok_load_bp (b := 0) (i := 0) (ag := true) (m := 4) (ys := [.sc _, .sc _, .sc _, .sc _]) rfl rfl rfl agg_impl_Account sz_impl_Account (fun h => by cases h) rfl rfl (Nat.le_of_ble_eq_true rfl)) rfl (Nat.le_of_ble_eq_true rfl)) rfl ?_
  refine SV.op (OpMk.ok (ok_call (ls := [(false, [.sc _])]) rfl rfl ⟨_, _, Try.func15, rfl, by decide⟩ (vok_s a) ⟨⟨[.sc _, .sc _, .sc _, .sc _], rfl, ⟨rfl, rfl, rfl, rfl, trivial⟩⟩, trivial⟩ rfl (Nat.le_of_ble_eq_true rfl))) rfl ?_
  refine SV.op (OpL.ok (nb := 2) (ok_s1 (x := .tmp 8) (VScal.one rfl) (fun ρ h1 w => by go_simp; (try go_bits); with_reducible rfl) rfl) rfl (Nat.le_of_ble_eq_true rfl)) rfl ?_
  refine SV.op (OpL.ok (nb := 2) (ok_move (v := V.one (.sc _)) (.inl rfl) rfl) rfl (Nat.le_of_ble_eq_true rfl)) rfl ?_
  refine SV.split (d := 10) rfl (fun hg0 => ?_) (fun hg0 => ?_)
  · skip   -- g0.T
    refine SV.opN rfl rfl rfl (Nat.le_of_ble_eq_true rfl) rfl rfl rfl (Nat.le_of_ble_eq_true rfl) ?_
    refine SV.opN rfl rfl rfl (Nat.le_of_ble_eq_true rfl) rfl rfl rfl (Nat.le_of_ble_eq_true rfl) ?_
    refine SV.opN rfl rfl rfl (Nat.le_of_ble_eq_true rfl) rfl rfl rfl (Nat.le_of_ble_eq_true rfl) ?_
    refine SV.op (OpL.ok (nb := 2) (ok_pickT (v := V.one (.sc _)) rfl rfl rfl) rfl (Nat.le_of_ble_eq_true rfl)) rfl ?_
    refine SV.op (OpL.ok (nb := 2) (ok_move (v := V.one (.sc _)) (.inl rfl) rfl) rfl (Nat.le_of_ble_eq_true rfl)) rfl ?_
    refine SV.split (d := 15) rfl (fun hg1 => ?_) (fun hg1 => ?_)
    · skip   -- g1.T
      refine SV.opN rfl rfl rfl (Nat.le_of_ble_eq_true rfl) rfl rfl rfl (Nat.le_of_ble_eq_true rfl) ?_
      refine SV.opN rfl rfl rfl (Nat.le_of_ble_eq_true rfl) rfl rfl rfl (Nat.le_of_ble_eq_true rfl) ?_
      refine SV.opN rfl rfl rfl (Nat.le_of_ble_eq_true rfl) rfl rfl rfl (Nat.le_of_ble_eq_true rfl) ?_
      refine SV.opN rfl rfl rfl (Nat.le_of_ble_eq_true rfl) rfl rfl rfl (Nat.le_of_ble_eq_true rfl) ?_
      refine SV.opN rfl rfl rfl (Nat.le_of_ble_eq_true rfl) rfl rfl rfl (Nat.le_of_ble_eq_true rfl) ?_
      refine SV.opN rfl rfl rfl (Nat.le_of_ble_eq_true rfl) rfl rfl rfl (Nat.le_of_ble_eq_true rfl) ?_
      refine SV.opN rfl rfl rfl (Nat.le_of_ble_eq_true rfl) rfl rfl rfl (Nat.le_of_ble_eq_true rfl) ?_
      refine SV.op (OpL.ok (nb := 2) (ok_pickT (v := V.one (.sc _)) rfl rfl rfl) rfl (Nat.le_of_ble_eq_true rfl)) rfl ?_
      refine SV.nil ?_
      refine SV.tn ?_
      refine SV.cond rfl (fun hc0 => ?_) (fun hc0 => ?_)
      · skip   -- c0.T
        have ho : AccountD.canCharge a n = false := by
          rw [Bool.eq_false_iff, Ne]
          (try rw [AccountD.canCharge_iff])
          rcases hb : AccountD.ok a with _ | _
          · simp [hb] at *
          · have hk := (AccountD.ok_iff a).1 hb
            simp [hb, AccountD.isGrant] at * <;> (try unfold wrap64 at *) <;> omega
        refine SV.seq' ?_
        refine SV.region ?_
        refine SV.op (OpL.ok (nb := 2) (ok_load_bp (b := 0) (i := 0) (ag := true) (m := 4) (ys := [.sc _, .sc _, .sc _, .sc _]) rfl rfl rfl agg_impl_Account sz_impl_Account (fun h => by cases h) rfl rfl (Nat.le_of_ble_eq_true rfl)) rfl (Nat.le_of_ble_eq_true rfl)) rfl ?_
        refine SV.op (ok_store_bp (b := 1) (i := 0) (m := 4) (ag := true) (zs := [.sc _, .sc _, .sc _, .sc _]) (ys := [.sc _, .sc _, .sc _, .sc _]) rfl rfl rfl rfl sz_impl_Account (fun h => by cases h) rfl (Nat.le_of_ble_eq_true rfl) rfl rfl rfl) rfl ?_
        refine SV.op (OpL.ok (nb := 2) (ok_move (v := V.one (.sc _)) (.inr rfl) rfl) rfl (Nat.le_of_ble_eq_true rfl)) rfl ?_
        refine SV.nil ?_
        refine SV.tn ?_
        refine SV.ret ?_
        refine SV.tr ?_
        apply SV.done (hf := Try.results13) (ht := rfl) (he := .inl rfl)
        case hr => exact (ResAll.cons (ResOk.cell (b := 1) (ag := true) (xs := [.sc _, .sc _, .sc _, .sc _]) rfl rfl agg_impl_Account sz_impl_Account (fun h => by cases h)) (ResAll.cons (ResOk.tmp (ag := false) (xs := [.sc _]) rfl) ResAll.nil'))
        case h2 => simp [two]
        refine ⟨rfl, ⟨?_, ?_, ?_, ?_, trivial⟩, ⟨rfl, ⟨?_, trivial⟩, trivial⟩⟩ <;> first | rfl | (rw [AccountD.charge_yes ho]; rfl) | ((show some (T.lit (Value.int .i64 _)) = some (T.lit (Value.int .i64 _)); refine congrArg (fun z => some (T.lit (Value.int .i64 z))) ?_; rw [AccountD.charge_yes ho]; (try dsimp only); omega)) | (rw [AccountD.charge_no ho]; rfl) | ((show some (T.lit (Value.int .i64 _)) = some (T.lit (Value.int .i64 _)); refine congrArg (fun z => some (T.lit (Value.int .i64 z))) ?_; rw [AccountD.charge_no ho]; (try dsimp only); omega)) | ((show some (T.lit (Value.bool _)) = some (T.lit (Value.bool _)); refine congrArg (fun z => some (T.lit (Value.bool z))) ?_; rw [ho]))
      · skip   -- c0.F
        cases hc0
    · skip   -- g1.F
      simp at hg1
  · skip   -- g0.F
    refine SV.opY (OpL.ok (nb := 2) (ok_move (v := V.one (.sc _)) (.inl rfl) rfl) rfl (Nat.le_of_ble_eq_true rfl)) rfl rfl rfl (Nat.le_of_ble_eq_true rfl) rfl rfl ?_
    refine SV.opY (OpMk.ok (ok_call (ls := [(false, [.sc _])]) rfl rfl ⟨_, _, Try.func34, rfl, by decide⟩ (vin_s' n 0 60) ⟨⟨[.sc _], rfl, ⟨rfl, trivial⟩⟩, ⟨[.sc _], rfl, ⟨rfl, trivial⟩⟩, ⟨[.sc _], rfl, ⟨rfl, trivial⟩⟩, trivial⟩ rfl (Nat.le_of_ble_eq_true rfl))) rfl rfl rfl (Nat.le_of_ble_eq_true rfl) rfl rfl ?_
    refine SV.opY (OpL.ok (nb := 2) (ok_s1 (x := .tmp 12) (VScal.one rfl) (fun ρ h1 w => by go_simp; (try go_bits); with_reducible rfl) rfl) rfl (Nat.le_of_ble_eq_true rfl)) rfl rfl rfl (Nat.le_of_ble_eq_true rfl) rfl rfl ?_
    refine SV.op (OpL.ok (nb := 2) (ok_pickF (v := V.one (.sc _)) rfl rfl rfl) rfl (Nat.le_of_ble_eq_true rfl)) rfl ?_
    refine SV.op (OpL.ok (nb := 2) (ok_move (v := V.one (.sc _)) (.inl rfl) rfl) rfl (Nat.le_of_ble_eq_true rfl)) rfl ?_
    refine SV.split (d := 15) rfl (fun hg2 => ?_) (fun hg2 => ?_)
    · skip   -- g2.T
      refine SV.opN rfl rfl rfl (Nat.le_of_ble_eq_true rfl) rfl rfl rfl (Nat.le_of_ble_eq_true rfl) ?_
      refine SV.opN rfl rfl rfl (Nat.le_of_ble_eq_true rfl) rfl rfl rfl (Nat.le_of_ble_eq_true rfl) ?_
      refine SV.opN rfl rfl rfl (Nat.le_of_ble_eq_true rfl) rfl rfl rfl (Nat.le_of_ble_eq_true rfl) ?_
      refine SV.opN rfl rfl rfl (Nat.le_of_ble_eq_true rfl) rfl rfl rfl (Nat.le_of_ble_eq_true rfl) ?_
      refine SV.opN rfl rfl rfl (Nat.le_of_ble_eq_true rfl) rfl rfl rfl (Nat.le_of_ble_eq_true rfl) ?_
      refine SV.opN rfl rfl rfl (Nat.le_of_ble_eq_true rfl) rfl rfl rfl (Nat.le_of_ble_eq_true rfl) ?_
      refine SV.opN rfl rfl rfl (Nat.le_of_ble_eq_true rfl) rfl rfl rfl (Nat.le_of_ble_eq_true rfl) ?_
      refine SV.op (OpL.ok (nb := 2) (ok_pickT (v := V.one (.sc _)) rfl rfl rfl) rfl (Nat.le_of_ble_eq_true rfl)) rfl ?_
      refine SV.nil ?_
      refine SV.tn ?_
      refine SV.cond rfl (fun hc1 => ?_) (fun hc1 => ?_)
      · skip   -- c1.T
        have ho : AccountD.canCharge a n = false := by
          rw [Bool.eq_false_iff, Ne]
          (try rw [AccountD.canCharge_iff])
          rcases hb : AccountD.ok a with _ | _
          · simp [hb] at *
          · have hk := (AccountD.ok_iff a).1 hb
            simp [hb, AccountD.isGrant] at * <;> (try unfold wrap64 at *) <;> omega
        refine SV.seq' ?_
        refine SV.region ?_
        refine SV.op (OpL.ok (nb := 2) (ok_load_bp (b := 0) (i := 0) (ag := true) (m := 4) (ys := [.sc _, .sc _, .sc _, .sc _]) rfl rfl rfl agg_impl_Account sz_impl_Account (fun h => by cases h) rfl rfl (Nat.le_of_ble_eq_true rfl)) rfl (Nat.le_of_ble_eq_true rfl)) rfl ?_
        refine SV.op (ok_store_bp (b := 1) (i := 0) (m := 4) (ag := true) (zs := [.sc _, .sc _, .sc _, .sc _]) (ys := [.sc _, .sc _, .sc _, .sc _]) rfl rfl rfl rfl sz_impl_Account (fun h => by cases h) rfl (Nat.le_of_ble_eq_true rfl) rfl rfl rfl) rfl ?_
        refine SV.op (OpL.ok (nb := 2) (ok_move (v := V.one (.sc _)) (.inr rfl) rfl) rfl (Nat.le_of_ble_eq_true rfl)) rfl ?_
        refine SV.nil ?_
        refine SV.tn ?_
        refine SV.ret ?_
        refine SV.tr ?_
        apply SV.done (hf := Try.results13) (ht := rfl) (he := .inl rfl)
        case hr => exact (ResAll.cons (ResOk.cell (b := 1) (ag := true) (xs := [.sc _, .sc _, .sc _, .sc _]) rfl rfl agg_impl_Account sz_impl_Account (fun h => by cases h)) (ResAll.cons (ResOk.tmp (ag := false) (xs := [.sc _]) rfl) ResAll.nil'))
        case h2 => simp [two]
        refine ⟨rfl, ⟨?_, ?_, ?_, ?_, trivial⟩, ⟨rfl, ⟨?_, trivial⟩, trivial⟩⟩ <;> first | rfl | (rw [AccountD.charge_yes ho]; rfl) | ((show some (T.lit (Value.int .i64 _)) = some (T.lit (Value.int .i64 _)); refine congrArg (fun z => some (T.lit (Value.int .i64 z))) ?_; rw [AccountD.charge_yes ho]; (try dsimp only); omega)) | (rw [AccountD.charge_no ho]; rfl) | ((show some (T.lit (Value.int .i64 _)) = some (T.lit (Value.int .i64 _)); refine congrArg (fun z => some (T.lit (Value.int .i64 z))) ?_; rw [AccountD.charge_no ho]; (try dsimp only); omega)) | ((show some (T.lit (Value.bool _)) = some (T.lit (Value.bool _)); refine congrArg (fun z => some (T.lit (Value.bool z))) ?_; rw [ho]))
      · skip   -- c1.F
        cases hc1
    · skip   -- g2.F
      refine SV.opY (OpL.ok (nb := 2) (ok_field_bp (b := 0) (o' := 0) (off := 0) rfl rfl fld_impl_Account_0) rfl (Nat.le_of_ble_eq_true rfl)) rfl rfl rfl (Nat.le_of_ble_eq_true rfl) rfl rfl ?_
      refine SV.opY (OpL.ok (nb := 2) (ok_load_bp (b := 0) (i := 0) (ag := false) (m := 1) (ys := [.sc _]) rfl rfl rfl agg_int sz_int (fun _ => rfl) rfl rfl (Nat.le_of_ble_eq_true rfl)) rfl (Nat.le_of_ble_eq_true rfl)) rfl rfl rfl (Nat.le_of_ble_eq_true rfl) rfl rfl ?_
      refine SV.opY (OpL.ok (nb := 2) (ok_move (v := V.one (.sc _)) (.inl rfl) rfl) rfl (Nat.le_of_ble_eq_true rfl)) rfl rfl rfl (Nat.le_of_ble_eq_true rfl) rfl rfl ?_
      refine SV.opY (OpL.ok (nb := 2) (ok_s2 (v := .int .i64 (wrap64 (a.fUsed + n))) (x := .tmp 17) (x' := .tmp 18) (VScal.one rfl) (VScal.one rfl) (fun ρ h1 h2 w => by go_simp; rw [IntWalk.i64_left]) rfl) rfl (Nat.le_of_ble_eq_true rfl)) rfl rfl rfl (Nat.le_of_ble_eq_true rfl) rfl rfl ?_
      refine SV.opY (OpL.ok (nb := 2) (ok_field_bp (b := 0) (o' := 0) (off := 1) rfl rfl fld_impl_Account_1) rfl (Nat.le_of_ble_eq_true rfl)) rfl rfl rfl (Nat.le_of_ble_eq_true rfl) rfl rfl ?_
      refine SV.opY (OpL.ok (nb := 2) (ok_load_bp (b := 0) (i := 1) (ag := false) (m := 1) (ys := [.sc _]) rfl rfl rfl agg_int sz_int (fun _ => rfl) rfl rfl (Nat.le_of_ble_eq_true rfl)) rfl (Nat.le_of_ble_eq_true rfl)) rfl rfl rfl (Nat.le_of_ble_eq_true rfl) rfl rfl ?_
      refine SV.opY (OpL.ok (nb := 2) (ok_s2 (x := .tmp 19) (x' := .tmp 21) (VScal.one rfl) (VScal.one rfl) (fun ρ h1 h2 w => by go_simp; (try go_bits); with_reducible rfl) rfl) rfl (Nat.le_of_ble_eq_true rfl)) rfl rfl rfl (Nat.le_of_ble_eq_true rfl) rfl rfl ?_
      refine SV.op (OpL.ok (nb := 2) (ok_pickF (v := V.one (.sc _)) rfl rfl rfl) rfl (Nat.le_of_ble_eq_true rfl)) rfl ?_
      refine SV.nil ?_
      refine SV.tn ?_
      refine SV.cond rfl (fun hc2 => ?_) (fun hc2 => ?_)
      · skip   -- c2.T
        have ho : AccountD.canCharge a n = false := by
          rw [Bool.eq_false_iff, Ne]
          (try rw [AccountD.canCharge_iff])
          rcases hb : AccountD.ok a with _ | _
          · simp [hb] at *
          · have hk := (AccountD.ok_iff a).1 hb
            simp [hb, AccountD.isGrant] at * <;> (try unfold wrap64 at *) <;> omega
        refine SV.seq' ?_
        refine SV.region ?_
        refine SV.op (OpL.ok (nb := 2) (ok_load_bp (b := 0) (i := 0) (ag := true) (m := 4) (ys := [.sc _, .sc _, .sc _, .sc _]) rfl rfl rfl agg_impl_Account sz_impl_Account (fun h => by cases h) rfl rfl (Nat.le_of_ble_eq_true rfl)) rfl (Nat.le_of_ble_eq_true rfl)) rfl ?_
        refine SV.op (ok_store_bp (b := 1) (i := 0) (m := 4) (ag := true) (zs := [.sc _, .sc _, .sc _, .sc _]) (ys := [.sc _, .sc _, .sc _, .sc _]) rfl rfl rfl rfl sz_impl_Account (fun h => by cases h) rfl (Nat.le_of_ble_eq_true rfl) rfl rfl rfl) rfl ?_
        refine SV.op (OpL.ok (nb := 2) (ok_move (v := V.one (.sc _)) (.inr rfl) rfl) rfl (Nat.le_of_ble_eq_true rfl)) rfl ?_
        refine SV.nil ?_
        refine SV.tn ?_
        refine SV.ret ?_
        refine SV.tr ?_
        apply SV.done (hf := Try.results13) (ht := rfl) (he := .inl rfl)
        case hr => exact (ResAll.cons (ResOk.cell (b := 1) (ag := true) (xs := [.sc _, .sc _, .sc _, .sc _]) rfl rfl agg_impl_Account sz_impl_Account (fun h => by cases h)) (ResAll.cons (ResOk.tmp (ag := false) (xs := [.sc _]) rfl) ResAll.nil'))
        case h2 => simp [two]
        refine ⟨rfl, ⟨?_, ?_, ?_, ?_, trivial⟩, ⟨rfl, ⟨?_, trivial⟩, trivial⟩⟩ <;> first | rfl | (rw [AccountD.charge_yes ho]; rfl) | ((show some (T.lit (Value.int .i64 _)) = some (T.lit (Value.int .i64 _)); refine congrArg (fun z => some (T.lit (Value.int .i64 z))) ?_; rw [AccountD.charge_yes ho]; (try dsimp only); omega)) | (rw [AccountD.charge_no ho]; rfl) | ((show some (T.lit (Value.int .i64 _)) = some (T.lit (Value.int .i64 _)); refine congrArg (fun z => some (T.lit (Value.int .i64 z))) ?_; rw [AccountD.charge_no ho]; (try dsimp only); omega)) | ((show some (T.lit (Value.bool _)) = some (T.lit (Value.bool _)); refine congrArg (fun z => some (T.lit (Value.bool z))) ?_; rw [ho]))
      · skip   -- c2.F
        have ho : AccountD.canCharge a n = true := by
          rw [show (AccountD.canCharge a n = true) = (AccountD.canCharge a n = true) from rfl]
          (try rw [AccountD.canCharge_iff])
          rcases hb : AccountD.ok a with _ | _
          · simp [hb] at *
          · have hk := (AccountD.ok_iff a).1 hb
            simp [hb, AccountD.isGrant] at * <;> (try unfold wrap64 at *) <;> omega
        have hh := (AccountD.canCharge_iff a n).1 ho
        have hk := (AccountD.ok_iff a).1 hh.1
        refine SV.skip ?_
        refine SV.tn ?_
        refine SV.seq' ?_
        refine SV.region ?_
        refine SV.op (OpL.ok (nb := 2) (ok_load_bp (b := 0) (i := 0) (ag := true) (m := 4) (ys := [.sc _, .sc _, .sc _, .sc _]) rfl rfl rfl agg_impl_Account sz_impl_Account (fun h => by cases h) rfl rfl (Nat.le_of_ble_eq_true rfl)) rfl (Nat.le_of_ble_eq_true rfl)) rfl ?_
        refine SV.op (OpMk.ok (ok_alloc (kk := 2) (xs := [.sc _, .sc _, .sc _, .sc _]) rfl rfl zero_impl_Account ⟨rfl, rfl, rfl, rfl, rfl, rfl, rfl, rfl, trivial⟩ rfl (Nat.le_of_ble_eq_true rfl))) rfl ?_
        refine SV.op (ok_store_bp (b := 2) (i := 0) (m := 4) (ag := true) (zs := [.sc _, .sc _, .sc _, .sc _]) (ys := [.sc _, .sc _, .sc _, .sc _]) rfl rfl rfl rfl sz_impl_Account (fun h => by cases h) rfl (Nat.le_of_ble_eq_true rfl) rfl rfl rfl) rfl ?_
        refine SV.nil ?_
        refine SV.tn ?_
        refine SV.seq' ?_
        refine SV.region ?_
        refine SV.op (OpL.ok (nb := 3) (ok_field_bp (b := 0) (o' := 0) (off := 0) rfl rfl fld_impl_Account_0) rfl (Nat.le_of_ble_eq_true rfl)) rfl ?_
        refine SV.op (OpL.ok (nb := 3) (ok_load_bp (b := 0) (i := 0) (ag := false) (m := 1) (ys := [.sc _]) rfl rfl rfl agg_int sz_int (fun _ => rfl) rfl rfl (Nat.le_of_ble_eq_true rfl)) rfl (Nat.le_of_ble_eq_true rfl)) rfl ?_
        refine SV.op (OpL.ok (nb := 3) (ok_move (v := V.one (.sc _)) (.inl rfl) rfl) rfl (Nat.le_of_ble_eq_true rfl)) rfl ?_
        refine SV.op (OpL.ok (nb := 3) (ok_s2 (v := .int .i64 (a.fUsed + n)) (x := .tmp 27) (x' := .tmp 28) (VScal.one rfl) (VScal.one rfl) (fun ρ h1 h2 w => by go_simp; rw [IntWalk.i64_left, IntWalk.wrap64_in _ ⟨by omega, by omega⟩]) rfl) rfl (Nat.le_of_ble_eq_true rfl)) rfl ?_
        refine SV.op (OpL.ok (nb := 3) (ok_field_bp (b := 2) (o' := 0) (off := 0) rfl rfl fld_impl_Account_0) rfl (Nat.le_of_ble_eq_true rfl)) rfl ?_
        refine SV.op (ok_store_bp (b := 2) (i := 0) (m := 1) (ag := false) (zs := [.sc _]) (ys := [.sc _, .sc _, .sc _, .sc _]) rfl rfl rfl rfl sz_int (fun _ => rfl) rfl (Nat.le_of_ble_eq_true rfl) rfl rfl rfl) rfl ?_
        refine SV.nil ?_
        refine SV.tn ?_
        refine SV.seq' ?_
        refine SV.region ?_
        refine SV.op (OpL.ok (nb := 3) (ok_field_bp (b := 0) (o' := 0) (off := 2) rfl rfl fld_impl_Account_2) rfl (Nat.le_of_ble_eq_true rfl)) rfl ?_
        refine SV.op (OpL.ok (nb := 3) (ok_load_bp (b := 0) (i := 2) (ag := false) (m := 1) (ys := [.sc _]) rfl rfl rfl agg_int sz_int (fun _ => rfl) rfl rfl (Nat.le_of_ble_eq_true rfl)) rfl (Nat.le_of_ble_eq_true rfl)) rfl ?_
        refine SV.op (OpL.ok (nb := 3) (ok_field_bp (b := 2) (o' := 0) (off := 0) rfl rfl fld_impl_Account_0) rfl (Nat.le_of_ble_eq_true rfl)) rfl ?_
        refine SV.op (OpL.ok (nb := 3) (ok_load_bp (b := 2) (i := 0) (ag := false) (m := 1) (ys := [.sc _]) rfl rfl rfl agg_int sz_int (fun _ => rfl) rfl rfl (Nat.le_of_ble_eq_true rfl)) rfl (Nat.le_of_ble_eq_true rfl)) rfl ?_
        refine SV.op (OpL.ok (nb := 3) (ok_s2 (x := .tmp 32) (x' := .tmp 34) (VScal.one rfl) (VScal.one rfl) (fun ρ h1 h2 w => by go_simp; (try go_bits); with_reducible rfl) rfl) rfl (Nat.le_of_ble_eq_true rfl)) rfl ?_
        refine SV.op (OpL.ok (nb := 3) (ok_field_bp (b := 2) (o' := 0) (off := 2) rfl rfl fld_impl_Account_2) rfl (Nat.le_of_ble_eq_true rfl)) rfl ?_
        refine SV.op (ok_store_bp (b := 2) (i := 2) (m := 1) (ag := false) (zs := [.sc _]) (ys := [.sc _, .sc _, .sc _, .sc _]) rfl rfl rfl rfl sz_int (fun _ => rfl) rfl (Nat.le_of_ble_eq_true rfl) rfl rfl rfl) rfl ?_
        refine SV.nil ?_
        refine SV.tn ?_
        refine SV.seq' ?_
        refine SV.region ?_
        refine SV.op (OpL.ok (nb := 3) (ok_load_bp (b := 2) (i := 0) (ag := true) (m := 4) (ys := [.sc _, .sc _, .sc _, .sc _]) rfl rfl rfl agg_impl_Account sz_impl_Account (fun h => by cases h) rfl rfl (Nat.le_of_ble_eq_true rfl)) rfl (Nat.le_of_ble_eq_true rfl)) rfl ?_
        refine SV.op (ok_store_bp (b := 1) (i := 0) (m := 4) (ag := true) (zs := [.sc _, .sc _, .sc _, .sc _]) (ys := [.sc _, .sc _, .sc _, .sc _]) rfl rfl rfl rfl sz_impl_Account (fun h => by cases h) rfl (Nat.le_of_ble_eq_true rfl) rfl rfl rfl) rfl ?_
        refine SV.op (OpL.ok (nb := 3) (ok_move (v := V.one (.sc _)) (.inr rfl) rfl) rfl (Nat.le_of_ble_eq_true rfl)) rfl ?_
        refine SV.nil ?_
        refine SV.tn ?_
        refine SV.ret ?_
        apply SV.done (hf := Try.results13) (ht := rfl) (he := .inl rfl)
        case hr => exact (ResAll.cons (ResOk.cell (b := 1) (ag := true) (xs := [.sc _, .sc _, .sc _, .sc _]) rfl rfl agg_impl_Account sz_impl_Account (fun h => by cases h)) (ResAll.cons (ResOk.tmp (ag := false) (xs := [.sc _]) rfl) ResAll.nil'))
        case h2 => simp [two]
        refine ⟨rfl, ⟨?_, ?_, ?_, ?_, trivial⟩, ⟨rfl, ⟨?_, trivial⟩, trivial⟩⟩ <;> first | rfl | (rw [AccountD.charge_yes ho]; rfl) | ((show some (T.lit (Value.int .i64 _)) = some (T.lit (Value.int .i64 _)); refine congrArg (fun z => some (T.lit (Value.int .i64 z))) ?_; rw [AccountD.charge_yes ho]; (try dsimp only); omega)) | (rw [AccountD.charge_no ho]; rfl) | ((show some (T.lit (Value.int .i64 _)) = some (T.lit (Value.int .i64 _)); refine congrArg (fun z => some (T.lit (Value.int .i64 z))) ?_; rw [AccountD.charge_no ho]; (try dsimp only); omega)) | ((show some (T.lit (Value.bool _)) = some (T.lit (Value.bool _)); refine congrArg (fun z => some (T.lit (Value.bool z))) ?_; rw [ho]))
set_option maxRecDepth 100000 in
set_option maxHeartbeats 2000000 in
theorem vcharge_i (a : AccountD) (n : Int) : VC Try.prog 12 [(true, tAccount a), (false, [.lit (.int .i64 (n))])] true [(true, tAccount (AccountD.charge a n)), (false, [.lit (.bool (AccountD.canCharge a n))])] := by
  refine VC.enter Try.func12 rfl Try.ntmps12 (Nat.le_of_ble_eq_true rfl) fun E hE => ?_
  refine SV.seq' ?_
  refine SV.region ?_
  refine SV.op (OpMk.ok (ok_box (kk := 0) (ag := true) (xs := [.sc _, .sc _, .sc _, .sc _]) rfl rfl rfl (fun h => by cases h) rfl rfl (Nat.le_of_ble_eq_true rfl))) rfl ?_
  refine SV.op (OpMk.ok (ok_alloc (kk := 1) (xs := [.sc _, .sc _, .sc _, .sc _]) rfl rfl zero_impl_Account ⟨rfl, rfl, rfl, rfl, rfl, rfl, rfl, rfl, trivial⟩ rfl (Nat.le_of_ble_eq_true rfl))) rfl ?_
  refine SV.op (OpL.ok (nb := 2) (ok_move (v := V.one (.sc _)) (.inr rfl) rfl) rfl (Nat.le_of_ble_eq_true rfl)) rfl ?_
  refine SV.nil ?_
  refine SV.tn ?_
  refine SV.seq' ?_
  refine SV.seq' ?_
  refine SV.region ?_
  refine SV.op (OpL.ok (nb := 2) (ok_load_bp (b := 0) (i := 0) (ag := true) (m := 4) (ys := [.sc _, .sc _, .sc _, .sc _]) rfl rfl rfl agg_impl_Account sz_impl_Account (fun h => by cases h) rfl rfl (Nat.le_of_ble_eq_true rfl)) rfl (Nat.le_of_ble_eq_true rfl)) rfl ?_
  refine SV.op (OpMk.ok (ok_call (ls := [(false, [.sc _])]) rfl rfl ⟨_, _, Try.func14, rfl, by decide⟩ (vok_i a) ⟨⟨[.sc _, .sc _, .sc _, .sc _], rfl, ⟨rfl, rfl, rfl, rfl, trivial⟩⟩, trivial⟩ rfl (Nat.le_of_ble_eq_true rfl))) rfl ?_
  refine SV.op (OpL.ok (nb := 2) (ok_s1 (x := .tmp 7) (VScal.one rfl) (fun ρ h1 w => by go_simp; (try go_bits); with_reducible rfl) rfl) rfl (Nat.le_of_ble_eq_true rfl)) rfl ?_
  refine SV.op (OpL.ok (nb := 2) (ok_move (v := V.one (.sc _)) (.inl rfl) rfl) rfl (Nat.le_of_ble_eq_true rfl)) rfl ?_
  refine SV.split (d := 9) rfl (fun hg0 => ?_) (fun hg0 => ?_)
  · skip   -- g0.T
    refine SV.opN rfl rfl rfl (Nat.le_of_ble_eq_true rfl) rfl rfl rfl (Nat.le_of_ble_eq_true rfl) ?_
    refine SV.opN rfl rfl rfl (Nat.le_of_ble_eq_true rfl) rfl rfl rfl (Nat.le_of_ble_eq_true rfl) ?_
    refine SV.opN rfl rfl rfl (Nat.le_of_ble_eq_true rfl) rfl rfl rfl (Nat.le_of_ble_eq_true rfl) ?_
    refine SV.op (OpL.ok (nb := 2) (ok_pickT (v := V.one (.sc _)) rfl rfl rfl) rfl (Nat.le_of_ble_eq_true rfl)) rfl ?_
    refine SV.op (OpL.ok (nb := 2) (ok_move (v := V.one (.sc _)) (.inl rfl) rfl) rfl (Nat.le_of_ble_eq_true rfl)) rfl ?_
    refine SV.split (d := 14) rfl (fun hg1 => ?_) (fun hg1 => ?_)
    · skip   -- g1.T
      refine SV.opN rfl rfl rfl (Nat.le_of_ble_eq_true rfl) rfl rfl rfl (Nat.le_of_ble_eq_true rfl) ?_
      refine SV.opN rfl rfl rfl (Nat.le_of_ble_eq_true rfl) rfl rfl rfl (Nat.le_of_ble_eq_true rfl) ?_
      refine SV.opN rfl rfl rfl (Nat.le_of_ble_eq_true rfl) rfl rfl rfl (Nat.le_of_ble_eq_true rfl) ?_
      refine SV.opN rfl rfl rfl (Nat.le_of_ble_eq_true rfl) rfl rfl rfl (Nat.le_of_ble_eq_true rfl) ?_
      refine SV.opN rfl rfl rfl (Nat.le_of_ble_eq_true rfl) rfl rfl rfl (Nat.le_of_ble_eq_true rfl) ?_
      refine SV.opN rfl rfl rfl (Nat.le_of_ble_eq_true rfl) rfl rfl rfl (Nat.le_of_ble_eq_true rfl) ?_
      refine SV.opN rfl rfl rfl (Nat.le_of_ble_eq_true rfl) rfl rfl rfl (Nat.le_of_ble_eq_true rfl) ?_
      refine SV.op (OpL.ok (nb := 2) (ok_pickT (v := V.one (.sc _)) rfl rfl rfl) rfl (Nat.le_of_ble_eq_true rfl)) rfl ?_
      refine SV.nil ?_
      refine SV.tn ?_
      refine SV.cond rfl (fun hc0 => ?_) (fun hc0 => ?_)
      · skip   -- c0.T
        have ho : AccountD.canCharge a n = false := by
          rw [Bool.eq_false_iff, Ne]
          (try rw [AccountD.canCharge_iff])
          rcases hb : AccountD.ok a with _ | _
          · simp [hb] at *
          · have hk := (AccountD.ok_iff a).1 hb
            simp [hb, AccountD.isGrant] at * <;> (try unfold wrap64 at *) <;> omega
        refine SV.seq' ?_
        refine SV.region ?_
        refine SV.op (OpL.ok (nb := 2) (ok_load_bp (b := 0) (i := 0) (ag := true) (m := 4) (ys := [.sc _, .sc _, .sc _, .sc _]) rfl rfl rfl agg_impl_Account sz_impl_Account (fun h => by cases h) rfl rfl (Nat.le_of_ble_eq_true rfl)) rfl (Nat.le_of_ble_eq_true rfl)) rfl ?_
        refine SV.op (ok_store_bp (b := 1) (i := 0) (m := 4) (ag := true) (zs := [.sc _, .sc _, .sc _, .sc _]) (ys := [.sc _, .sc _, .sc _, .sc _]) rfl rfl rfl rfl sz_impl_Account (fun h => by cases h) rfl (Nat.le_of_ble_eq_true rfl) rfl rfl rfl) rfl ?_
        refine SV.op (OpL.ok (nb := 2) (ok_move (v := V.one (.sc _)) (.inr rfl) rfl) rfl (Nat.le_of_ble_eq_true rfl)) rfl ?_
        refine SV.nil ?_
        refine SV.tn ?_
        refine SV.ret ?_
        refine SV.tr ?_
        apply SV.done (hf := Try.results12) (ht := rfl) (he := .inl rfl)
        case hr => exact (ResAll.cons (ResOk.cell (b := 1) (ag := true) (xs := [.sc _, .sc _, .sc _, .sc _]) rfl rfl agg_impl_Account sz_impl_Account (fun h => by cases h)) (ResAll.cons (ResOk.tmp (ag := false) (xs := [.sc _]) rfl) ResAll.nil'))
        case h2 => simp [two]
        refine ⟨rfl, ⟨?_, ?_, ?_, ?_, trivial⟩, ⟨rfl, ⟨?_, trivial⟩, trivial⟩⟩ <;> first | rfl | (rw [AccountD.charge_yes ho]; rfl) | ((show some (T.lit (Value.int .i64 _)) = some (T.lit (Value.int .i64 _)); refine congrArg (fun z => some (T.lit (Value.int .i64 z))) ?_; rw [AccountD.charge_yes ho]; (try dsimp only); omega)) | (rw [AccountD.charge_no ho]; rfl) | ((show some (T.lit (Value.int .i64 _)) = some (T.lit (Value.int .i64 _)); refine congrArg (fun z => some (T.lit (Value.int .i64 z))) ?_; rw [AccountD.charge_no ho]; (try dsimp only); omega)) | ((show some (T.lit (Value.bool _)) = some (T.lit (Value.bool _)); refine congrArg (fun z => some (T.lit (Value.bool z))) ?_; rw [ho]))
      · skip   -- c0.F
        cases hc0
    · skip   -- g1.F
      simp at hg1
  · skip   -- g0.F
    refine SV.opY (OpL.ok (nb := 2) (ok_move (v := V.one (.sc _)) (.inl rfl) rfl) rfl (Nat.le_of_ble_eq_true rfl)) rfl rfl rfl (Nat.le_of_ble_eq_true rfl) rfl rfl ?_
    refine SV.opY (OpMk.ok (ok_call (ls := [(false, [.sc _])]) rfl rfl ⟨_, _, Try.func33, rfl, by decide⟩ (vupto_i n 60) ⟨⟨[.sc _], rfl, ⟨rfl, trivial⟩⟩, ⟨[.sc _], rfl, ⟨rfl, trivial⟩⟩, trivial⟩ rfl (Nat.le_of_ble_eq_true rfl))) rfl rfl rfl (Nat.le_of_ble_eq_true rfl) rfl rfl ?_
    refine SV.opY (OpL.ok (nb := 2) (ok_s1 (x := .tmp 11) (VScal.one rfl) (fun ρ h1 w => by go_simp; (try go_bits); with_reducible rfl) rfl) rfl (Nat.le_of_ble_eq_true rfl)) rfl rfl rfl (Nat.le_of_ble_eq_true rfl) rfl rfl ?_
    refine SV.op (OpL.ok (nb := 2) (ok_pickF (v := V.one (.sc _)) rfl rfl rfl) rfl (Nat.le_of_ble_eq_true rfl)) rfl ?_
    refine SV.op (OpL.ok (nb := 2) (ok_move (v := V.one (.sc _)) (.inl rfl) rfl) rfl (Nat.le_of_ble_eq_true rfl)) rfl ?_
    refine SV.split (d := 14) rfl (fun hg2 => ?_) (fun hg2 => ?_)
    · skip   -- g2.T
      refine SV.opN rfl rfl rfl (Nat.le_of_ble_eq_true rfl) rfl rfl rfl (Nat.le_of_ble_eq_true rfl) ?_
      refine SV.opN rfl rfl rfl (Nat.le_of_ble_eq_true rfl) rfl rfl rfl (Nat.le_of_ble_eq_true rfl) ?_
      refine SV.opN rfl rfl rfl (Nat.le_of_ble_eq_true rfl) rfl rfl rfl (Nat.le_of_ble_eq_true rfl) ?_
      refine SV.opN rfl rfl rfl (Nat.le_of_ble_eq_true rfl) rfl rfl rfl (Nat.le_of_ble_eq_true rfl) ?_
      refine SV.opN rfl rfl rfl (Nat.le_of_ble_eq_true rfl) rfl rfl rfl (Nat.le_of_ble_eq_true rfl) ?_
      refine SV.opN rfl rfl rfl (Nat.le_of_ble_eq_true rfl) rfl rfl rfl (Nat.le_of_ble_eq_true rfl) ?_
      refine SV.opN rfl rfl rfl (Nat.le_of_ble_eq_true rfl) rfl rfl rfl (Nat.le_of_ble_eq_true rfl) ?_
      refine SV.op (OpL.ok (nb := 2) (ok_pickT (v := V.one (.sc _)) rfl rfl rfl) rfl (Nat.le_of_ble_eq_true rfl)) rfl ?_
      refine SV.nil ?_
      refine SV.tn ?_
      refine SV.cond rfl (fun hc1 => ?_) (fun hc1 => ?_)
      · skip   -- c1.T
        have ho : AccountD.canCharge a n = false := by
          rw [Bool.eq_false_iff, Ne]
          (try rw [AccountD.canCharge_iff])
          rcases hb : AccountD.ok a with _ | _
          · simp [hb] at *
          · have hk := (AccountD.ok_iff a).1 hb
            simp [hb, AccountD.isGrant] at * <;> (try unfold wrap64 at *) <;> omega
        refine SV.seq' ?_
        refine SV.region ?_
        refine SV.op (OpL.ok (nb := 2) (ok_load_bp (b := 0) (i := 0) (ag := true) (m := 4) (ys := [.sc _, .sc _, .sc _, .sc _]) rfl rfl rfl agg_impl_Account sz_impl_Account (fun h => by cases h) rfl rfl (Nat.le_of_ble_eq_true rfl)) rfl (Nat.le_of_ble_eq_true rfl)) rfl ?_
        refine SV.op (ok_store_bp (b := 1) (i := 0) (m := 4) (ag := true) (zs := [.sc _, .sc _, .sc _, .sc _]) (ys := [.sc _, .sc _, .sc _, .sc _]) rfl rfl rfl rfl sz_impl_Account (fun h => by cases h) rfl (Nat.le_of_ble_eq_true rfl) rfl rfl rfl) rfl ?_
        refine SV.op (OpL.ok (nb := 2) (ok_move (v := V.one (.sc _)) (.inr rfl) rfl) rfl (Nat.le_of_ble_eq_true rfl)) rfl ?_
        refine SV.nil ?_
        refine SV.tn ?_
        refine SV.ret ?_
        refine SV.tr ?_
        apply SV.done (hf := Try.results12) (ht := rfl) (he := .inl rfl)
        case hr => exact (ResAll.cons (ResOk.cell (b := 1) (ag := true) (xs := [.sc _, .sc _, .sc _, .sc _]) rfl rfl agg_impl_Account sz_impl_Account (fun h => by cases h)) (ResAll.cons (ResOk.tmp (ag := false) (xs := [.sc _]) rfl) ResAll.nil'))
        case h2 => simp [two]
        refine ⟨rfl, ⟨?_, ?_, ?_, ?_, trivial⟩, ⟨rfl, ⟨?_, trivial⟩, trivial⟩⟩ <;> first | rfl | (rw [AccountD.charge_yes ho]; rfl) | ((show some (T.lit (Value.int .i64 _)) = some (T.lit (Value.int .i64 _)); refine congrArg (fun z => some (T.lit (Value.int .i64 z))) ?_; rw [AccountD.charge_yes ho]; (try dsimp only); omega)) | (rw [AccountD.charge_no ho]; rfl) | ((show some (T.lit (Value.int .i64 _)) = some (T.lit (Value.int .i64 _)); refine congrArg (fun z => some (T.lit (Value.int .i64 z))) ?_; rw [AccountD.charge_no ho]; (try dsimp only); omega)) | ((show some (T.lit (Value.bool _)) = some (T.lit (Value.bool _)); refine congrArg (fun z => some (T.lit (Value.bool z))) ?_; rw [ho]))
      · skip   -- c1.F
        cases hc1
    · skip   -- g2.F
      refine SV.opY (OpL.ok (nb := 2) (ok_field_bp (b := 0) (o' := 0) (off := 0) rfl rfl fld_impl_Account_0) rfl (Nat.le_of_ble_eq_true rfl)) rfl rfl rfl (Nat.le_of_ble_eq_true rfl) rfl rfl ?_
      refine SV.opY (OpL.ok (nb := 2) (ok_load_bp (b := 0) (i := 0) (ag := false) (m := 1) (ys := [.sc _]) rfl rfl rfl agg_int sz_int (fun _ => rfl) rfl rfl (Nat.le_of_ble_eq_true rfl)) rfl (Nat.le_of_ble_eq_true rfl)) rfl rfl rfl (Nat.le_of_ble_eq_true rfl) rfl rfl ?_
      refine SV.opY (OpL.ok (nb := 2) (ok_move (v := V.one (.sc _)) (.inl rfl) rfl) rfl (Nat.le_of_ble_eq_true rfl)) rfl rfl rfl (Nat.le_of_ble_eq_true rfl) rfl rfl ?_
      refine SV.opY (OpL.ok (nb := 2) (ok_s2 (v := .int .i64 (wrap64 (a.fUsed + n))) (x := .tmp 16) (x' := .tmp 17) (VScal.one rfl) (VScal.one rfl) (fun ρ h1 h2 w => by go_simp; rw [IntWalk.i64_left]) rfl) rfl (Nat.le_of_ble_eq_true rfl)) rfl rfl rfl (Nat.le_of_ble_eq_true rfl) rfl rfl ?_
      refine SV.opY (OpL.ok (nb := 2) (ok_field_bp (b := 0) (o' := 0) (off := 1) rfl rfl fld_impl_Account_1) rfl (Nat.le_of_ble_eq_true rfl)) rfl rfl rfl (Nat.le_of_ble_eq_true rfl) rfl rfl ?_
      refine SV.opY (OpL.ok (nb := 2) (ok_load_bp (b := 0) (i := 1) (ag := false) (m := 1) (ys := [.sc _]) rfl rfl rfl agg_int sz_int (fun _ => rfl) rfl rfl (Nat.le_of_ble_eq_true rfl)) rfl (Nat.le_of_ble_eq_true rfl)) rfl rfl rfl (Nat.le_of_ble_eq_true rfl) rfl rfl ?_
      refine SV.opY (OpL.ok (nb := 2) (ok_s2 (x := .tmp 18) (x' := .tmp 20) (VScal.one rfl) (VScal.one rfl) (fun ρ h1 h2 w => by go_simp; (try go_bits); with_reducible rfl) rfl) rfl (Nat.le_of_ble_eq_true rfl)) rfl rfl rfl (Nat.le_of_ble_eq_true rfl) rfl rfl ?_
      refine SV.op (OpL.ok (nb := 2) (ok_pickF (v := V.one (.sc _)) rfl rfl rfl) rfl (Nat.le_of_ble_eq_true rfl)) rfl ?_
      refine SV.nil ?_
      refine SV.tn ?_
      refine SV.cond rfl (fun hc2 => ?_) (fun hc2 => ?_)
      · skip   -- c2.T
        have ho : AccountD.canCharge a n = false := by
          rw [Bool.eq_false_iff, Ne]
          (try rw [AccountD.canCharge_iff])
          rcases hb : AccountD.ok a with _ | _
          · simp [hb] at *
          · have hk := (AccountD.ok_iff a).1 hb
            simp [hb, AccountD.isGrant] at * <;> (try unfold wrap64 at *) <;> omega
        refine SV.seq' ?_
        refine SV.region ?_
        refine SV.op (OpL.ok (nb := 2) (ok_load_bp (b := 0) (i := 0) (ag := true) (m := 4) (ys := [.sc _, .sc _, .sc _, .sc _]) rfl rfl rfl agg_impl_Account sz_impl_Account (fun h => by cases h) rfl rfl (Nat.le_of_ble_eq_true rfl)) rfl (Nat.le_of_ble_eq_true rfl)) rfl ?_
        refine SV.op (ok_store_bp (b := 1) (i := 0) (m := 4) (ag := true) (zs := [.sc _, .sc _, .sc _, .sc _]) (ys := [.sc _, .sc _, .sc _, .sc _]) rfl rfl rfl rfl sz_impl_Account (fun h => by cases h) rfl (Nat.le_of_ble_eq_true rfl) rfl rfl rfl) rfl ?_
        refine SV.op (OpL.ok (nb := 2) (ok_move (v := V.one (.sc _)) (.inr rfl) rfl) rfl (Nat.le_of_ble_eq_true rfl)) rfl ?_
        refine SV.nil ?_
        refine SV.tn ?_
        refine SV.ret ?_
        refine SV.tr ?_
        apply SV.done (hf := Try.results12) (ht := rfl) (he := .inl rfl)
        case hr => exact (ResAll.cons (ResOk.cell (b := 1) (ag := true) (xs := [.sc _, .sc _, .sc _, .sc _]) rfl rfl agg_impl_Account sz_impl_Account (fun h => by cases h)) (ResAll.cons (ResOk.tmp (ag := false) (xs := [.sc _]) rfl) ResAll.nil'))
        case h2 => simp [two]
        refine ⟨rfl, ⟨?_, ?_, ?_, ?_, trivial⟩, ⟨rfl, ⟨?_, trivial⟩, trivial⟩⟩ <;> first | rfl | (rw [AccountD.charge_yes ho]; rfl) | ((show some (T.lit (Value.int .i64 _)) = some (T.lit (Value.int .i64 _)); refine congrArg (fun z => some (T.lit (Value.int .i64 z))) ?_; rw [AccountD.charge_yes ho]; (try dsimp only); omega)) | (rw [AccountD.charge_no ho]; rfl) | ((show some (T.lit (Value.int .i64 _)) = some (T.lit (Value.int .i64 _)); refine congrArg (fun z => some (T.lit (Value.int .i64 z))) ?_; rw [AccountD.charge_no ho]; (try dsimp only); omega)) | ((show some (T.lit (Value.bool _)) = some (T.lit (Value.bool _)); refine congrArg (fun z => some (T.lit (Value.bool z))) ?_; rw [ho]))
      · skip   -- c2.F
        have ho : AccountD.canCharge a n = true := by
          rw [show (AccountD.canCharge a n = true) = (AccountD.canCharge a n = true) from rfl]
          (try rw [AccountD.canCharge_iff])
          rcases hb : AccountD.ok a with _ | _
          · simp [hb] at *
          · have hk := (AccountD.ok_iff a).1 hb
            simp [hb, AccountD.isGrant] at * <;> (try unfold wrap64 at *) <;> omega
        have hh := (AccountD.canCharge_iff a n).1 ho
        have hk := (AccountD.ok_iff a).1 hh.1
        refine SV.skip ?_
        refine SV.tn ?_
        refine SV.seq' ?_
        refine SV.region ?_
        refine SV.op (OpL.ok (nb := 2) (ok_field_bp (b := 0) (o' := 0) (off := 0) rfl rfl fld_impl_Account_0) rfl (Nat.le_of_ble_eq_true rfl)) rfl ?_
        refine SV.op (OpL.ok (nb := 2) (ok_load_bp (b := 0) (i := 0) (ag := false) (m := 1) (ys := [.sc _]) rfl rfl rfl agg_int sz_int (fun _ => rfl) rfl rfl (Nat.le_of_ble_eq_true rfl)) rfl (Nat.le_of_ble_eq_true rfl)) rfl ?_
        refine SV.op (OpL.ok (nb := 2) (ok_move (v := V.one (.sc _)) (.inl rfl) rfl) rfl (Nat.le_of_ble_eq_true rfl)) rfl ?_
        refine SV.op (OpL.ok (nb := 2) (ok_s2 (v := .int .i64 (a.fUsed + n)) (x := .tmp 25) (x' := .tmp 26) (VScal.one rfl) (VScal.one rfl) (fun ρ h1 h2 w => by go_simp; rw [IntWalk.i64_left, IntWalk.wrap64_in _ ⟨by omega, by omega⟩]) rfl) rfl (Nat.le_of_ble_eq_true rfl)) rfl ?_
        refine SV.op (OpL.ok (nb := 2) (ok_field_bp (b := 0) (o' := 0) (off := 0) rfl rfl fld_impl_Account_0) rfl (Nat.le_of_ble_eq_true rfl)) rfl ?_
        refine SV.op (ok_store_bp (b := 0) (i := 0) (m := 1) (ag := false) (zs := [.sc _]) (ys := [.sc _, .sc _, .sc _, .sc _]) rfl rfl rfl rfl sz_int (fun _ => rfl) rfl (Nat.le_of_ble_eq_true rfl) rfl rfl rfl) rfl ?_
        refine SV.nil ?_
        refine SV.tn ?_
        refine SV.seq' ?_
        refine SV.region ?_
        refine SV.op (OpL.ok (nb := 2) (ok_field_bp (b := 0) (o' := 0) (off := 2) rfl rfl fld_impl_Account_2) rfl (Nat.le_of_ble_eq_true rfl)) rfl ?_
        refine SV.op (OpL.ok (nb := 2) (ok_load_bp (b := 0) (i := 2) (ag := false) (m := 1) (ys := [.sc _]) rfl rfl rfl agg_int sz_int (fun _ => rfl) rfl rfl (Nat.le_of_ble_eq_true rfl)) rfl (Nat.le_of_ble_eq_true rfl)) rfl ?_
        refine SV.op (OpL.ok (nb := 2) (ok_field_bp (b := 0) (o' := 0) (off := 0) rfl rfl fld_impl_Account_0) rfl (Nat.le_of_ble_eq_true rfl)) rfl ?_
        refine SV.op (OpL.ok (nb := 2) (ok_load_bp (b := 0) (i := 0) (ag := false) (m := 1) (ys := [.sc _]) rfl rfl rfl agg_int sz_int (fun _ => rfl) rfl rfl (Nat.le_of_ble_eq_true rfl)) rfl (Nat.le_of_ble_eq_true rfl)) rfl ?_
        refine SV.op (OpL.ok (nb := 2) (ok_s2 (x := .tmp 30) (x' := .tmp 32) (VScal.one rfl) (VScal.one rfl) (fun ρ h1 h2 w => by go_simp; (try go_bits); with_reducible rfl) rfl) rfl (Nat.le_of_ble_eq_true rfl)) rfl ?_
        refine SV.op (OpL.ok (nb := 2) (ok_field_bp (b := 0) (o' := 0) (off := 2) rfl rfl fld_impl_Account_2) rfl (Nat.le_of_ble_eq_true rfl)) rfl ?_
        refine SV.op (ok_store_bp (b := 0) (i := 2) (m := 1) (ag := false) (zs := [.sc _]) (ys := [.sc _, .sc _, .sc _, .sc _]) rfl rfl rfl rfl sz_int (fun _ => rfl) rfl (Nat.le_of_ble_eq_true rfl) rfl rfl rfl) rfl ?_
        refine SV.nil ?_
        refine SV.tn ?_
        refine SV.seq' ?_
        refine SV.region ?_
        refine SV.op (OpL.ok (nb := 2) (ok_load_bp (b := 0) (i := 0) (ag := true) (m := 4) (ys := [.sc _, .sc _, .sc _, .sc _]) rfl rfl rfl agg_impl_Account sz_impl_Account (fun h => by cases h) rfl rfl (Nat.le_of_ble_eq_true rfl)) rfl (Nat.le_of_ble_eq_true rfl)) rfl ?_
        refine SV.op (ok_store_bp (b := 1) (i := 0) (m := 4) (ag := true) (zs := [.sc _, .sc _, .sc _, .sc _]) (ys := [.sc _, .sc _, .sc _, .sc _]) rfl rfl rfl rfl sz_impl_Account (fun h => by cases h) rfl (Nat.le_of_ble_eq_true rfl) rfl rfl rfl) rfl ?_
        refine SV.op (OpL.ok (nb := 2) (ok_move (v := V.one (.sc _)) (.inr rfl) rfl) rfl (Nat.le_of_ble_eq_true rfl)) rfl ?_
        refine SV.nil ?_
        refine SV.tn ?_
        refine SV.ret ?_
        apply SV.done (hf := Try.results12) (ht := rfl) (he := .inl rfl)
        case hr => exact (ResAll.cons (ResOk.cell (b := 1) (ag := true) (xs := [.sc _, .sc _, .sc _, .sc _]) rfl rfl agg_impl_Account sz_impl_Account (fun h => by cases h)) (ResAll.cons (ResOk.tmp (ag := false) (xs := [.sc _]) rfl) ResAll.nil'))
        case h2 => simp [two]
        refine ⟨rfl, ⟨?_, ?_, ?_, ?_, trivial⟩, ⟨rfl, ⟨?_, trivial⟩, trivial⟩⟩ <;> first | rfl | (rw [AccountD.charge_yes ho]; rfl) | ((show some (T.lit (Value.int .i64 _)) = some (T.lit (Value.int .i64 _)); refine congrArg (fun z => some (T.lit (Value.int .i64 z))) ?_; rw [AccountD.charge_yes ho]; (try dsimp only); omega)) | (rw [AccountD.charge_no ho]; rfl) | ((show some (T.lit (Value.int .i64 _)) = some (T.lit (Value.int .i64 _)); refine congrArg (fun z => some (T.lit (Value.int .i64 z))) ?_; rw [AccountD.charge_no ho]; (try dsimp only); omega)) | ((show some (T.lit (Value.bool _)) = some (T.lit (Value.bool _)); refine congrArg (fun z => some (T.lit (Value.bool z))) ?_; rw [ho]))
set_option maxRecDepth 100000 in
set_option maxHeartbeats 2000000 in
theorem vrelease_s (a : AccountD) (n : Int) : VC Try.prog 23 [(true, tAccount a), (false, [.lit (.int .i64 (n))])] true [(true, tAccount (AccountD.release a n)), (false, [.lit (.bool (AccountD.canRelease a n))])] := by
  refine VC.enter Try.func23 rfl Try.ntmps23 (Nat.le_of_ble_eq_true rfl) fun E hE => ?_
  refine SV.seq' ?_
  refine SV.region ?_
  refine SV.op (OpMk.ok (ok_box (kk := 0) (ag := true) (xs := [.sc _, .sc _, .sc _, .sc _]) rfl rfl rfl (fun h => by cases h) rfl rfl (Nat.le_of_ble_eq_true rfl))) rfl ?_
  refine SV.op (OpMk.ok (ok_alloc (kk := 1) (xs := [.sc _, .sc _, .sc _, .sc _]) rfl rfl zero_impl_Account ⟨rfl, rfl, rfl, rfl, rfl, rfl, rfl, rfl, trivial⟩ rfl (Nat.le_of_ble_eq_true rfl))) rfl ?_
  refine SV.op (OpL.ok (nb := 2) (ok_move (v := V.one (.sc _)) (.inr rfl) rfl) rfl (Nat.le_of_ble_eq_true rfl)) rfl ?_
  refine SV.nil ?_
  refine SV.tn ?_
  refine SV.seq' ?_
  refine SV.seq' ?_
  refine SV.region ?_
  refine SV.op (OpL.ok (nb := 2) (ok_load_bp (b := 0) (i := 0) (ag := true) (m := 4) (ys := [.sc _, .sc _, .sc _, .sc _]) rfl rfl rfl agg_impl_Account sz_impl_Account (fun h => by cases h) rfl rfl (Nat.le_of_ble_eq_true rfl)) rfl (Nat.le_of_ble_eq_true rfl)) rfl ?_
  refine SV.op (OpMk.ok (ok_call (ls := [(false, [.sc _])]) rfl rfl ⟨_, _, Try.func15, rfl, by decide⟩ (vok_s a) ⟨⟨[.sc _, .sc _, .sc _, .sc _], rfl, ⟨rfl, rfl, rfl, rfl, trivial⟩⟩, trivial⟩ rfl (Nat.le_of_ble_eq_true rfl))) rfl ?_
  refine SV.op (OpL.ok (nb := 2) (ok_s1 (x := .tmp 8) (VScal.one rfl) (fun ρ h1 w => by go_simp; (try go_bits); with_reducible rfl) rfl) rfl (Nat.le_of_ble_eq_true rfl)) rfl ?_
  refine SV.op (OpL.ok (nb := 2) (ok_move (v := V.one (.sc _)) (.inl rfl) rfl) rfl (Nat.le_of_ble_eq_true rfl)) rfl ?_
  refine SV.split (d := 10) rfl (fun hg0 => ?_) (fun hg0 => ?_)
  · skip   -- g0.T
    refine SV.opN rfl rfl rfl (Nat.le_of_ble_eq_true rfl) rfl rfl rfl (Nat.le_of_ble_eq_true rfl) ?_
    refine SV.opN rfl rfl rfl (Nat.le_of_ble_eq_true rfl) rfl rfl rfl (Nat.le_of_ble_eq_true rfl) ?_
    refine SV.opN rfl rfl rfl (Nat.le_of_ble_eq_true rfl) rfl rfl rfl (Nat.le_of_ble_eq_true rfl) ?_
    refine SV.opN rfl rfl rfl (Nat.le_of_ble_eq_true rfl) rfl rfl rfl (Nat.le_of_ble_eq_true rfl) ?_
    refine SV.opN rfl rfl rfl (Nat.le_of_ble_eq_true rfl) rfl rfl rfl (Nat.le_of_ble_eq_true rfl) ?_
    refine SV.op (OpL.ok (nb := 2) (ok_pickT (v := V.one (.sc _)) rfl rfl rfl) rfl (Nat.le_of_ble_eq_true rfl)) rfl ?_
    refine SV.nil ?_
    refine SV.tn ?_
    refine SV.cond rfl (fun hc0 => ?_) (fun hc0 => ?_)
    · skip   -- c0.T
      have ho : AccountD.canRelease a n = false := by
        rw [Bool.eq_false_iff, Ne]
        (try rw [AccountD.canRelease_iff])
        rcases hb : AccountD.ok a with _ | _
        · simp [hb] at *
        · have hk := (AccountD.ok_iff a).1 hb
          simp [hb, AccountD.isGrant] at * <;> (try unfold wrap64 at *) <;> omega
      refine SV.seq' ?_
      refine SV.region ?_
      refine SV.op (OpL.ok (nb := 2) (ok_load_bp (b := 0) (i := 0) (ag := true) (m := 4) (ys := [.sc _, .sc _, .sc _, .sc _]) rfl rfl rfl agg_impl_Account sz_impl_Account (fun h => by cases h) rfl rfl (Nat.le_of_ble_eq_true rfl)) rfl (Nat.le_of_ble_eq_true rfl)) rfl ?_
      refine SV.op (ok_store_bp (b := 1) (i := 0) (m := 4) (ag := true) (zs := [.sc _, .sc _, .sc _, .sc _]) (ys := [.sc _, .sc _, .sc _, .sc _]) rfl rfl rfl rfl sz_impl_Account (fun h => by cases h) rfl (Nat.le_of_ble_eq_true rfl) rfl rfl rfl) rfl ?_
      refine SV.op (OpL.ok (nb := 2) (ok_move (v := V.one (.sc _)) (.inr rfl) rfl) rfl (Nat.le_of_ble_eq_true rfl)) rfl ?_
      refine SV.nil ?_
      refine SV.tn ?_
      refine SV.ret ?_
      refine SV.tr ?_
      apply SV.done (hf := Try.results23) (ht := rfl) (he := .inl rfl)
      case hr => exact (ResAll.cons (ResOk.cell (b := 1) (ag := true) (xs := [.sc _, .sc _, .sc _, .sc _]) rfl rfl agg_impl_Account sz_impl_Account (fun h => by cases h)) (ResAll.cons (ResOk.tmp (ag := false) (xs := [.sc _]) rfl) ResAll.nil'))
      case h2 => simp [two]
      refine ⟨rfl, ⟨?_, ?_, ?_, ?_, trivial⟩, ⟨rfl, ⟨?_, trivial⟩, trivial⟩⟩ <;> first | rfl | (rw [AccountD.release_yes ho]; rfl) | ((show some (T.lit (Value.int .i64 _)) = some (T.lit (Value.int .i64 _)); refine congrArg (fun z => some (T.lit (Value.int .i64 z))) ?_; rw [AccountD.release_yes ho]; (try dsimp only); omega)) | (rw [AccountD.release_no ho]; rfl) | ((show some (T.lit (Value.int .i64 _)) = some (T.lit (Value.int .i64 _)); refine congrArg (fun z => some (T.lit (Value.int .i64 z))) ?_; rw [AccountD.release_no ho]; (try dsimp only); omega)) | ((show some (T.lit (Value.bool _)) = some (T.lit (Value.bool _)); refine congrArg (fun z => some (T.lit (Value.bool z))) ?_; rw [ho]))
    · skip   -- c0.F
      cases hc0
  · skip   -- g0.F
    refine SV.opY (OpL.ok (nb := 2) (ok_move (v := V.one (.sc _)) (.inl rfl) rfl) rfl (Nat.le_of_ble_eq_true rfl)) rfl rfl rfl (Nat.le_of_ble_eq_true rfl) rfl rfl ?_
    refine SV.opY (OpL.ok (nb := 2) (ok_field_bp (b := 0) (o' := 0) (off := 0) rfl rfl fld_impl_Account_0) rfl (Nat.le_of_ble_eq_true rfl)) rfl rfl rfl (Nat.le_of_ble_eq_true rfl) rfl rfl ?_
    refine SV.opY (OpL.ok (nb := 2) (ok_load_bp (b := 0) (i := 0) (ag := false) (m := 1) (ys := [.sc _]) rfl rfl rfl agg_int sz_int (fun _ => rfl) rfl rfl (Nat.le_of_ble_eq_true rfl)) rfl (Nat.le_of_ble_eq_true rfl)) rfl rfl rfl (Nat.le_of_ble_eq_true rfl) rfl rfl ?_
    refine SV.opY (OpMk.ok (ok_call (ls := [(false, [.sc _])]) rfl rfl ⟨_, _, Try.func34, rfl, by decide⟩ (vin_s' n 0 a.fUsed) ⟨⟨[.sc _], rfl, ⟨rfl, trivial⟩⟩, ⟨[.sc _], rfl, ⟨rfl, trivial⟩⟩, ⟨[.sc _], rfl, ⟨rfl, trivial⟩⟩, trivial⟩ rfl (Nat.le_of_ble_eq_true rfl))) rfl rfl rfl (Nat.le_of_ble_eq_true rfl) rfl rfl ?_
    refine SV.opY (OpL.ok (nb := 2) (ok_s1 (x := .tmp 14) (VScal.one rfl) (fun ρ h1 w => by go_simp; (try go_bits); with_reducible rfl) rfl) rfl (Nat.le_of_ble_eq_true rfl)) rfl rfl rfl (Nat.le_of_ble_eq_true rfl) rfl rfl ?_
    refine SV.op (OpL.ok (nb := 2) (ok_pickF (v := V.one (.sc _)) rfl rfl rfl) rfl (Nat.le_of_ble_eq_true rfl)) rfl ?_
    refine SV.nil ?_
    refine SV.tn ?_
    refine SV.cond rfl (fun hc1 => ?_) (fun hc1 => ?_)
    · skip   -- c1.T
      have ho : AccountD.canRelease a n = false := by
        rw [Bool.eq_false_iff, Ne]
        (try rw [AccountD.canRelease_iff])
        rcases hb : AccountD.ok a with _ | _
        · simp [hb] at *
        · have hk := (AccountD.ok_iff a).1 hb
          simp [hb, AccountD.isGrant] at * <;> (try unfold wrap64 at *) <;> omega
      refine SV.seq' ?_
      refine SV.region ?_
      refine SV.op (OpL.ok (nb := 2) (ok_load_bp (b := 0) (i := 0) (ag := true) (m := 4) (ys := [.sc _, .sc _, .sc _, .sc _]) rfl rfl rfl agg_impl_Account sz_impl_Account (fun h => by cases h) rfl rfl (Nat.le_of_ble_eq_true rfl)) rfl (Nat.le_of_ble_eq_true rfl)) rfl ?_
      refine SV.op (ok_store_bp (b := 1) (i := 0) (m := 4) (ag := true) (zs := [.sc _, .sc _, .sc _, .sc _]) (ys := [.sc _, .sc _, .sc _, .sc _]) rfl rfl rfl rfl sz_impl_Account (fun h => by cases h) rfl (Nat.le_of_ble_eq_true rfl) rfl rfl rfl) rfl ?_
      refine SV.op (OpL.ok (nb := 2) (ok_move (v := V.one (.sc _)) (.inr rfl) rfl) rfl (Nat.le_of_ble_eq_true rfl)) rfl ?_
      refine SV.nil ?_
      refine SV.tn ?_
      refine SV.ret ?_
      refine SV.tr ?_
      apply SV.done (hf := Try.results23) (ht := rfl) (he := .inl rfl)
      case hr => exact (ResAll.cons (ResOk.cell (b := 1) (ag := true) (xs := [.sc _, .sc _, .sc _, .sc _]) rfl rfl agg_impl_Account sz_impl_Account (fun h => by cases h)) (ResAll.cons (ResOk.tmp (ag := false) (xs := [.sc _]) rfl) ResAll.nil'))
      case h2 => simp [two]
      refine ⟨rfl, ⟨?_, ?_, ?_, ?_, trivial⟩, ⟨rfl, ⟨?_, trivial⟩, trivial⟩⟩ <;> first | rfl | (rw [AccountD.release_yes ho]; rfl) | ((show some (T.lit (Value.int .i64 _)) = some (T.lit (Value.int .i64 _)); refine congrArg (fun z => some (T.lit (Value.int .i64 z))) ?_; rw [AccountD.release_yes ho]; (try dsimp only); omega)) | (rw [AccountD.release_no ho]; rfl) | ((show some (T.lit (Value.int .i64 _)) = some (T.lit (Value.int .i64 _)); refine congrArg (fun z => some (T.lit (Value.int .i64 z))) ?_; rw [AccountD.release_no ho]; (try dsimp only); omega)) | ((show some (T.lit (Value.bool _)) = some (T.lit (Value.bool _)); refine congrArg (fun z => some (T.lit (Value.bool z))) ?_; rw [ho]))
    · skip   -- c1.F
      have ho : AccountD.canRelease a n = true := by
        rw [show (AccountD.canRelease a n = true) = (AccountD.canRelease a n = true) from rfl]
        (try rw [AccountD.canRelease_iff])
        rcases hb : AccountD.ok a with _ | _
        · simp [hb] at *
        · have hk := (AccountD.ok_iff a).1 hb
          simp [hb, AccountD.isGrant] at * <;> (try unfold wrap64 at *) <;> omega
      have hh := (AccountD.canRelease_iff a n).1 ho
      have hk := (AccountD.ok_iff a).1 hh.1
      refine SV.skip ?_
      refine SV.tn ?_
      refine SV.seq' ?_
      refine SV.region ?_
      refine SV.op (OpL.ok (nb := 2) (ok_load_bp (b := 0) (i := 0) (ag := true) (m := 4) (ys := [.sc _, .sc _, .sc _, .sc _]) rfl rfl rfl agg_impl_Account sz_impl_Account (fun h => by cases h) rfl rfl (Nat.le_of_ble_eq_true rfl)) rfl (Nat.le_of_ble_eq_true rfl)) rfl ?_
      refine SV.op (OpMk.ok (ok_alloc (kk := 2) (xs := [.sc _, .sc _, .sc _, .sc _]) rfl rfl zero_impl_Account ⟨rfl, rfl, rfl, rfl, rfl, rfl, rfl, rfl, trivial⟩ rfl (Nat.le_of_ble_eq_true rfl))) rfl ?_
      refine SV.op (ok_store_bp (b := 2) (i := 0) (m := 4) (ag := true) (zs := [.sc _, .sc _, .sc _, .sc _]) (ys := [.sc _, .sc _, .sc _, .sc _]) rfl rfl rfl rfl sz_impl_Account (fun h => by cases h) rfl (Nat.le_of_ble_eq_true rfl) rfl rfl rfl) rfl ?_
      refine SV.nil ?_
      refine SV.tn ?_
      refine SV.seq' ?_
      refine SV.region ?_
      refine SV.op (OpL.ok (nb := 3) (ok_field_bp (b := 0) (o' := 0) (off := 0) rfl rfl fld_impl_Account_0) rfl (Nat.le_of_ble_eq_true rfl)) rfl ?_
      refine SV.op (OpL.ok (nb := 3) (ok_load_bp (b := 0) (i := 0) (ag := false) (m := 1) (ys := [.sc _]) rfl rfl rfl agg_int sz_int (fun _ => rfl) rfl rfl (Nat.le_of_ble_eq_true rfl)) rfl (Nat.le_of_ble_eq_true rfl)) rfl ?_
      refine SV.op (OpL.ok (nb := 3) (ok_move (v := V.one (.sc _)) (.inl rfl) rfl) rfl (Nat.le_of_ble_eq_true rfl)) rfl ?_
      refine SV.op (OpL.ok (nb := 3) (ok_s2 (v := .int .i64 (a.fUsed - n)) (x := .tmp 20) (x' := .tmp 21) (VScal.one rfl) (VScal.one rfl) (fun ρ h1 h2 w => by go_simp; rw [IntWalk.i64_left, IntWalk.wrap64_in _ ⟨by omega, by omega⟩]) rfl) rfl (Nat.le_of_ble_eq_true rfl)) rfl ?_
      refine SV.op (OpL.ok (nb := 3) (ok_field_bp (b := 2) (o' := 0) (off := 0) rfl rfl fld_impl_Account_0) rfl (Nat.le_of_ble_eq_true rfl)) rfl ?_
      refine SV.op (ok_store_bp (b := 2) (i := 0) (m := 1) (ag := false) (zs := [.sc _]) (ys := [.sc _, .sc _, .sc _, .sc _]) rfl rfl rfl rfl sz_int (fun _ => rfl) rfl (Nat.le_of_ble_eq_true rfl) rfl rfl rfl) rfl ?_
      refine SV.nil ?_
      refine SV.tn ?_
      refine SV.seq' ?_
      refine SV.region ?_
      refine SV.op (OpL.ok (nb := 3) (ok_load_bp (b := 2) (i := 0) (ag := true) (m := 4) (ys := [.sc _, .sc _, .sc _, .sc _]) rfl rfl rfl agg_impl_Account sz_impl_Account (fun h => by cases h) rfl rfl (Nat.le_of_ble_eq_true rfl)) rfl (Nat.le_of_ble_eq_true rfl)) rfl ?_
      refine SV.op (ok_store_bp (b := 1) (i := 0) (m := 4) (ag := true) (zs := [.sc _, .sc _, .sc _, .sc _]) (ys := [.sc _, .sc _, .sc _, .sc _]) rfl rfl rfl rfl sz_impl_Account (fun h => by cases h) rfl (Nat.le_of_ble_eq_true rfl) rfl rfl rfl) rfl ?_
      refine SV.op (OpL.ok (nb := 3) (ok_move (v := V.one (.sc _)) (.inr rfl) rfl) rfl (Nat.le_of_ble_eq_true rfl)) rfl ?_
      refine SV.nil ?_
      refine SV.tn ?_
      refine SV.ret ?_
      apply SV.done (hf := Try.results23) (ht := rfl) (he := .inl rfl)
      case hr => exact (ResAll.cons (ResOk.cell (b := 1) (ag := true) (xs := [.sc _, .sc _, .sc _, .sc _]) rfl rfl agg_impl_Account sz_impl_Account (fun h => by cases h)) (ResAll.cons (ResOk.tmp (ag := false) (xs := [.sc _]) rfl) ResAll.nil'))
      case h2 => simp [two]
      refine ⟨rfl, ⟨?_, ?_, ?_, ?_, trivial⟩, ⟨rfl, ⟨?_, trivial⟩, trivial⟩⟩ <;> first | rfl | (rw [AccountD.release_yes ho]; rfl) | ((show some (T.lit (Value.int .i64 _)) = some (T.lit (Value.int .i64 _)); refine congrArg (fun z => some (T.lit (Value.int .i64 z))) ?_; rw [AccountD.release_yes ho]; (try dsimp only); omega)) | (rw [AccountD.release_no ho]; rfl) | ((show some (T.lit (Value.int .i64 _)) = some (T.lit (Value.int .i64 _)); refine congrArg (fun z => some (T.lit (Value.int .i64 z))) ?_; rw [AccountD.release_no ho]; (try dsimp only); omega)) | ((show some (T.lit (Value.bool _)) = some (T.lit (Value.bool _)); refine congrArg (fun z => some (T.lit (Value.bool z))) ?_; rw [ho]))
set_option maxRecDepth 100000 in
set_option maxHeartbeats 2000000 in
theorem vrelease_i (a : AccountD) (n : Int) : VC Try.prog 22 [(true, tAccount a), (false, [.lit (.int .i64 (n))])] true [(true, tAccount (AccountD.release a n)), (false, [.lit (.bool (AccountD.canRelease a n))])] := by
  refine VC.enter Try.func22 rfl Try.ntmps22 (Nat.le_of_ble_eq_true rfl) fun E hE => ?_
  refine SV.seq' ?_
  refine SV.region ?_
  refine SV.op (OpMk.ok (ok_box (kk := 0) (ag := true) (xs := [.sc _, .sc _, .sc _, .sc _]) rfl rfl rfl (fun h => by cases h) rfl rfl (Nat.le_of_ble_eq_true rfl))) rfl ?_
  refine SV.op (OpMk.ok (ok_alloc (kk := 1) (xs := [.sc _, .sc _, .sc _, .sc _]) rfl rfl zero_impl_Account ⟨rfl, rfl, rfl, rfl, rfl, rfl, rfl, rfl, trivial⟩ rfl (Nat.le_of_ble_eq_true rfl))) rfl ?_
  refine SV.op (OpL.ok (nb := 2) (ok_move (v := V.one (.sc _)) (.inr rfl) rfl) rfl (Nat.le_of_ble_eq_true rfl)) rfl ?_
  refine SV.nil ?_
  refine SV.tn ?_
  refine SV.seq' ?_
  refine SV.seq' ?_
  refine SV.region ?_
  refine SV.op (OpL.ok (nb := 2) (ok_load_bp (b := 0) (i := 0) (ag := true) (m := 4) (ys := [.sc _, .sc _, .sc _, .sc _]) rfl rfl rfl agg_impl_Account sz_impl_Account (fun h => by cases h) rfl rfl (Nat.le_of_ble_eq_true rfl)) rfl (Nat.le_of_ble_eq_true rfl)) rfl ?_
  refine SV.op (OpMk.ok (ok_call (ls := [(false, [.sc _])]) rfl rfl ⟨_, _, Try.func14, rfl, by decide⟩ (vok_i a) ⟨⟨[.sc _, .sc _, .sc _, .sc _], rfl, ⟨rfl, rfl, rfl, rfl, trivial⟩⟩, trivial⟩ rfl (Nat.le_of_ble_eq_true rfl))) rfl ?_
  refine SV.op (OpL.ok (nb := 2) (ok_s1 (x := .tmp 7) (VScal.one rfl) (fun ρ h1 w => by go_simp; (try go_bits); with_reducible rfl) rfl) rfl (Nat.le_of_ble_eq_true rfl)) rfl ?_
  refine SV.op (OpL.ok (nb := 2) (ok_move (v := V.one (.sc _)) (.inl rfl) rfl) rfl (Nat.le_of_ble_eq_true rfl)) rfl ?_
  refine SV.split (d := 9) rfl (fun hg0 => ?_) (fun hg0 => ?_)
  · skip   -- g0.T
    refine SV.opN rfl rfl rfl (Nat.le_of_ble_eq_true rfl) rfl rfl rfl (Nat.le_of_ble_eq_true rfl) ?_
    refine SV.opN rfl rfl rfl (Nat.le_of_ble_eq_true rfl) rfl rfl rfl (Nat.le_of_ble_eq_true rfl) ?_
    refine SV.opN rfl rfl rfl (Nat.le_of_ble_eq_true rfl) rfl rfl rfl (Nat.le_of_ble_eq_true rfl) ?_
    refine SV.opN rfl rfl rfl (Nat.le_of_ble_eq_true rfl) rfl rfl rfl (Nat.le_of_ble_eq_true rfl) ?_
    refine SV.opN rfl rfl rfl (Nat.le_of_ble_eq_true rfl) rfl rfl rfl (Nat.le_of_ble_eq_true rfl) ?_
    refine SV.op (OpL.ok (nb := 2) (ok_pickT (v := V.one (.sc _)) rfl rfl rfl) rfl (Nat.le_of_ble_eq_true rfl)) rfl ?_
    refine SV.nil ?_
    refine SV.tn ?_
    refine SV.cond rfl (fun hc0 => ?_) (fun hc0 => ?_)
    · skip   -- c0.T
      have ho : AccountD.canRelease a n = false := by
        rw [Bool.eq_false_iff, Ne]
        (try rw [AccountD.canRelease_iff])
        rcases hb : AccountD.ok a with _ | _
        · simp [hb] at *
        · have hk := (AccountD.ok_iff a).1 hb
          simp [hb, AccountD.isGrant] at * <;> (try unfold wrap64 at *) <;> omega
      refine SV.seq' ?_
      refine SV.region ?_
      refine SV.op (OpL.ok (nb := 2) (ok_load_bp (b := 0) (i := 0) (ag := true) (m := 4) (ys := [.sc _, .sc _, .sc _, .sc _]) rfl rfl rfl agg_impl_Account sz_impl_Account (fun h => by cases h) rfl rfl (Nat.le_of_ble_eq_true rfl)) rfl (Nat.le_of_ble_eq_true rfl)) rfl ?_
      refine SV.op (ok_store_bp (b := 1) (i := 0) (m := 4) (ag := true) (zs := [.sc _, .sc _, .sc _, .sc _]) (ys := [.sc _, .sc _, .sc _, .sc _]) rfl rfl rfl rfl sz_impl_Account (fun h => by cases h) rfl (Nat.le_of_ble_eq_true rfl) rfl rfl rfl) rfl ?_
      refine SV.op (OpL.ok (nb := 2) (ok_move (v := V.one (.sc _)) (.inr rfl) rfl) rfl (Nat.le_of_ble_eq_true rfl)) rfl ?_
      refine SV.nil ?_
      refine SV.tn ?_
      refine SV.ret ?_
      refine SV.tr ?_
      apply SV.done (hf := Try.results22) (ht := rfl) (he := .inl rfl)
      case hr => exact (ResAll.cons (ResOk.cell (b := 1) (ag := true) (xs := [.sc _, .sc _, .sc _, .sc _]) rfl rfl agg_impl_Account sz_impl_Account (fun h => by cases h)) (ResAll.cons (ResOk.tmp (ag := false) (xs := [.sc _]) rfl) ResAll.nil'))
      case h2 => simp [two]
      refine ⟨rfl, ⟨?_, ?_, ?_, ?_, trivial⟩, ⟨rfl, ⟨?_, trivial⟩, trivial⟩⟩ <;> first | rfl | (rw [AccountD.release_yes ho]; rfl) | ((show some (T.lit (Value.int .i64 _)) = some (T.lit (Value.int .i64 _)); refine congrArg (fun z => some (T.lit (Value.int .i64 z))) ?_; rw [AccountD.release_yes ho]; (try dsimp only); omega)) | (rw [AccountD.release_no ho]; rfl) | ((show some (T.lit (Value.int .i64 _)) = some (T.lit (Value.int .i64 _)); refine congrArg (fun z => some (T.lit (Value.int .i64 z))) ?_; rw [AccountD.release_no ho]; (try dsimp only); omega)) | ((show some (T.lit (Value.bool _)) = some (T.lit (Value.bool _)); refine congrArg (fun z => some (T.lit (Value.bool z))) ?_; rw [ho]))
    · skip   -- c0.F
      cases hc0
  · skip   -- g0.F
    refine SV.opY (OpL.ok (nb := 2) (ok_move (v := V.one (.sc _)) (.inl rfl) rfl) rfl (Nat.le_of_ble_eq_true rfl)) rfl rfl rfl (Nat.le_of_ble_eq_true rfl) rfl rfl ?_
    refine SV.opY (OpL.ok (nb := 2) (ok_field_bp (b := 0) (o' := 0) (off := 0) rfl rfl fld_impl_Account_0) rfl (Nat.le_of_ble_eq_true rfl)) rfl rfl rfl (Nat.le_of_ble_eq_true rfl) rfl rfl ?_
    refine SV.opY (OpL.ok (nb := 2) (ok_load_bp (b := 0) (i := 0) (ag := false) (m := 1) (ys := [.sc _]) rfl rfl rfl agg_int sz_int (fun _ => rfl) rfl rfl (Nat.le_of_ble_eq_true rfl)) rfl (Nat.le_of_ble_eq_true rfl)) rfl rfl rfl (Nat.le_of_ble_eq_true rfl) rfl rfl ?_
    refine SV.opY (OpMk.ok (ok_call (ls := [(false, [.sc _])]) rfl rfl ⟨_, _, Try.func33, rfl, by decide⟩ (vupto_i n a.fUsed) ⟨⟨[.sc _], rfl, ⟨rfl, trivial⟩⟩, ⟨[.sc _], rfl, ⟨rfl, trivial⟩⟩, trivial⟩ rfl (Nat.le_of_ble_eq_true rfl))) rfl rfl rfl (Nat.le_of_ble_eq_true rfl) rfl rfl ?_
    refine SV.opY (OpL.ok (nb := 2) (ok_s1 (x := .tmp 13) (VScal.one rfl) (fun ρ h1 w => by go_simp; (try go_bits); with_reducible rfl) rfl) rfl (Nat.le_of_ble_eq_true rfl)) rfl rfl rfl (Nat.le_of_ble_eq_true rfl) rfl rfl ?_
    refine SV.op (OpL.ok (nb := 2) (ok_pickF (v := V.one (.sc _)) rfl rfl rfl) rfl (Nat.le_of_ble_eq_true rfl)) rfl ?_
    refine SV.nil ?_
    refine SV.tn ?_
    refine SV.cond rfl (fun hc1 => ?_) (fun hc1 => ?_)
    · skip   -- c1.T
      have ho : AccountD.canRelease a n = false := by
        rw [Bool.eq_false_iff, Ne]
        (try rw [AccountD.canRelease_iff])
        rcases hb : AccountD.ok a with _ | _
        · simp [hb] at *
        · have hk := (AccountD.ok_iff a).1 hb
          simp [hb, AccountD.isGrant] at * <;> (try unfold wrap64 at *) <;> omega
      refine SV.seq' ?_
      refine SV.region ?_
      refine SV.op (OpL.ok (nb := 2) (ok_load_bp (b := 0) (i := 0) (ag := true) (m := 4) (ys := [.sc _, .sc _, .sc _, .sc _]) rfl rfl rfl agg_impl_Account sz_impl_Account (fun h => by cases h) rfl rfl (Nat.le_of_ble_eq_true rfl)) rfl (Nat.le_of_ble_eq_true rfl)) rfl ?_
      refine SV.op (ok_store_bp (b := 1) (i := 0) (m := 4) (ag := true) (zs := [.sc _, .sc _, .sc _, .sc _]) (ys := [.sc _, .sc _, .sc _, .sc _]) rfl rfl rfl rfl sz_impl_Account (fun h => by cases h) rfl (Nat.le_of_ble_eq_true rfl) rfl rfl rfl) rfl ?_
      refine SV.op (OpL.ok (nb := 2) (ok_move (v := V.one (.sc _)) (.inr rfl) rfl) rfl (Nat.le_of_ble_eq_true rfl)) rfl ?_
      refine SV.nil ?_
      refine SV.tn ?_
      refine SV.ret ?_
      refine SV.tr ?_
      apply SV.done (hf := Try.results22) (ht := rfl) (he := .inl rfl)
      case hr => exact (ResAll.cons (ResOk.cell (b := 1) (ag := true) (xs := [.sc _, .sc _, .sc _, .sc _]) rfl rfl agg_impl_Account sz_impl_Account (fun h => by cases h)) (ResAll.cons (ResOk.tmp (ag := false) (xs := [.sc _]) rfl) ResAll.nil'))
      case h2 => simp [two]
      refine ⟨rfl, ⟨?_, ?_, ?_, ?_, trivial⟩, ⟨rfl, ⟨?_, trivial⟩, trivial⟩⟩ <;> first | rfl | (rw [AccountD.release_yes ho]; rfl) | ((show some (T.lit (Value.int .i64 _)) = some (T.lit (Value.int .i64 _)); refine congrArg (fun z => some (T.lit (Value.int .i64 z))) ?_; rw [AccountD.release_yes ho]; (try dsimp only); omega)) | (rw [AccountD.release_no ho]; rfl) | ((show some (T.lit (Value.int .i64 _)) = some (T.lit (Value.int .i64 _)); refine congrArg (fun z => some (T.lit (Value.int .i64 z))) ?_; rw [AccountD.release_no ho]; (try dsimp only); omega)) | ((show some (T.lit (Value.bool _)) = some (T.lit (Value.bool _)); refine congrArg (fun z => some (T.lit (Value.bool z))) ?_; rw [ho]))
    · skip   -- c1.F
      have ho : AccountD.canRelease a n = true := by
        rw [show (AccountD.canRelease a n = true) = (AccountD.canRelease a n = true) from rfl]
        (try rw [AccountD.canRelease_iff])
        rcases hb : AccountD.ok a with _ | _
        · simp [hb] at *
        · have hk := (AccountD.ok_iff a).1 hb
          simp [hb, AccountD.isGrant] at * <;> (try unfold wrap64 at *) <;> omega
      have hh := (AccountD.canRelease_iff a n).1 ho
      have hk := (AccountD.ok_iff a).1 hh.1
      refine SV.skip ?_
      refine SV.tn ?_
      refine SV.seq' ?_
      refine SV.region ?_
      refine SV.op (OpL.ok (nb := 2) (ok_field_bp (b := 0) (o' := 0) (off := 0) rfl rfl fld_impl_Account_0) rfl (Nat.le_of_ble_eq_true rfl)) rfl ?_
      refine SV.op (OpL.ok (nb := 2) (ok_load_bp (b := 0) (i := 0) (ag := false) (m := 1) (ys := [.sc _]) rfl rfl rfl agg_int sz_int (fun _ => rfl) rfl rfl (Nat.le_of_ble_eq_true rfl)) rfl (Nat.le_of_ble_eq_true rfl)) rfl ?_
      refine SV.op (OpL.ok (nb := 2) (ok_move (v := V.one (.sc _)) (.inl rfl) rfl) rfl (Nat.le_of_ble_eq_true rfl)) rfl ?_
      refine SV.op (OpL.ok (nb := 2) (ok_s2 (v := .int .i64 (a.fUsed - n)) (x := .tmp 18) (x' := .tmp 19) (VScal.one rfl) (VScal.one rfl) (fun ρ h1 h2 w => by go_simp; rw [IntWalk.i64_left, IntWalk.wrap64_in _ ⟨by omega, by omega⟩]) rfl) rfl (Nat.le_of_ble_eq_true rfl)) rfl ?_
      refine SV.op (OpL.ok (nb := 2) (ok_field_bp (b := 0) (o' := 0) (off := 0) rfl rfl fld_impl_Account_0) rfl (Nat.le_of_ble_eq_true rfl)) rfl ?_
      refine SV.op (ok_store_bp (b := 0) (i := 0) (m := 1) (ag := false) (zs := [.sc _]) (ys := [.sc _, .sc _, .sc _, .sc _]) rfl rfl rfl rfl sz_int (fun _ => rfl) rfl (Nat.le_of_ble_eq_true rfl) rfl rfl rfl) rfl ?_
      refine SV.nil ?_
      refine SV.tn ?_
      refine SV.seq' ?_
      refine SV.region ?_
      refine SV.op (OpL.ok (nb := 2) (ok_load_bp (b := 0) (i := 0) (ag := true) (m := 4) (ys := [.sc _, .sc _, .sc _, .sc _]) rfl rfl rfl agg_impl_Account sz_impl_Account (fun h => by cases h) rfl rfl (Nat.le_of_ble_eq_true rfl)) rfl (Nat.le_of_ble_eq_true rfl)) rfl ?_
      refine SV.op (ok_store_bp (b := 1) (i := 0) (m := 4) (ag := true) (zs := [.sc _, .sc _, .sc _, .sc _]) (ys := [.sc _, .sc _, .sc _, .sc _]) rfl rfl rfl rfl sz_impl_Account (fun h => by cases h) rfl (Nat.le_of_ble_eq_true rfl) rfl rfl rfl) rfl ?_
      refine SV.op (OpL.ok (nb := 2) (ok_move (v := V.one (.sc _)) (.inr rfl) rfl) rfl (Nat.le_of_ble_eq_true rfl)) rfl ?_
      refine SV.nil ?_
      refine SV.tn ?_
      refine SV.ret ?_
      apply SV.done (hf := Try.results22) (ht := rfl) (he := .inl rfl)
      case hr => exact (ResAll.cons (ResOk.cell (b := 1) (ag := true) (xs := [.sc _, .sc _, .sc _, .sc _]) rfl rfl agg_impl_Account sz_impl_Account (fun h => by cases h)) (ResAll.cons (ResOk.tmp (ag := false) (xs := [.sc _]) rfl) ResAll.nil'))
      case h2 => simp [two]
      refine ⟨rfl, ⟨?_, ?_, ?_, ?_, trivial⟩, ⟨rfl, ⟨?_, trivial⟩, trivial⟩⟩ <;> first | rfl | (rw [AccountD.release_yes ho]; rfl) | ((show some (T.lit (Value.int .i64 _)) = some (T.lit (Value.int .i64 _)); refine congrArg (fun z => some (T.lit (Value.int .i64 z))) ?_; rw [AccountD.release_yes ho]; (try dsimp only); omega)) | (rw [AccountD.release_no ho]; rfl) | ((show some (T.lit (Value.int .i64 _)) = some (T.lit (Value.int .i64 _)); refine congrArg (fun z => some (T.lit (Value.int .i64 z))) ?_; rw [AccountD.release_no ho]; (try dsimp only); omega)) | ((show some (T.lit (Value.bool _)) = some (T.lit (Value.bool _)); refine congrArg (fun z => some (T.lit (Value.bool z))) ?_; rw [ho]))
set_option maxRecDepth 100000 in
set_option maxHeartbeats 2000000 in
theorem vsetGrant_s (a : AccountD) (n : Int) : VC Try.prog 20 [(true, tAccount a), (false, [.lit (.int .i64 (n))])] true [(true, tAccount (AccountD.setGrant a n)), (false, [.lit (.bool (AccountD.canSet a n))])] := by
  refine VC.enter Try.func20 rfl Try.ntmps20 (Nat.le_of_ble_eq_true rfl) fun E hE => ?_
  refine SV.seq' ?_
  refine SV.region ?_
  refine SV.op (OpMk.ok (ok_box (kk := 0) (ag := true) (xs := [.sc _, .sc _, .sc _, .sc _]) rfl rfl rfl (fun h => by cases h) rfl rfl (Nat.le_of_ble_eq_true rfl))) rfl ?_
  refine SV.op (OpMk.ok (ok_alloc (kk := 1) (xs := [.sc _, .sc _, .sc _, .sc _]) rfl rfl zero_impl_Account ⟨rfl, rfl, rfl, rfl, rfl, rfl, rfl, rfl, trivial⟩ rfl (Nat.le_of_ble_eq_true rfl))) rfl ?_
  refine SV.op (OpL.ok (nb := 2) (ok_move (v := V.one (.sc _)) (.inr rfl) rfl) rfl (Nat.le_of_ble_eq_true rfl)) rfl ?_
  refine SV.nil ?_
  refine SV.tn ?_
  refine SV.seq' ?_
  refine SV.seq' ?_
  refine SV.region ?_
  refine SV.op (OpL.ok (nb := 2) (ok_load_bp (b := 0) (i := 0) (ag := true) (m := 4) (ys := [.sc _, .sc _, .sc _, .sc _]) rfl rfl rfl agg_impl_Account sz_impl_Account (fun h => by cases h) rfl rfl (Nat.le_of_ble_eq_true rfl)) rfl (Nat.le_of_ble_eq_true rfl)) rfl ?_
  refine SV.op (OpMk.ok (ok_call (ls := [(false, [.sc _])]) rfl rfl ⟨_, _, Try.func15, rfl, by decide⟩ (vok_s a) ⟨⟨[.sc _, .sc _, .sc _, .sc _], rfl, ⟨rfl, rfl, rfl, rfl, trivial⟩⟩, trivial⟩ rfl (Nat.le_of_ble_eq_true rfl))) rfl ?_
  refine SV.op (OpL.ok (nb := 2) (ok_s1 (x := .tmp 8) (VScal.one rfl) (fun ρ h1 w => by go_simp; (try go_bits); with_reducible rfl) rfl) rfl (Nat.le_of_ble_eq_true rfl)) rfl ?_
  refine SV.op (OpL.ok (nb := 2) (ok_move (v := V.one (.sc _)) (.inl rfl) rfl) rfl (Nat.le_of_ble_eq_true rfl)) rfl ?_
  refine SV.split (d := 10) rfl (fun hg0 => ?_) (fun hg0 => ?_)
  · skip   -- g0.T
    refine SV.opN rfl rfl rfl (Nat.le_of_ble_eq_true rfl) rfl rfl rfl (Nat.le_of_ble_eq_true rfl) ?_
    refine SV.opN rfl rfl rfl (Nat.le_of_ble_eq_true rfl) rfl rfl rfl (Nat.le_of_ble_eq_true rfl) ?_
    refine SV.opN rfl rfl rfl (Nat.le_of_ble_eq_true rfl) rfl rfl rfl (Nat.le_of_ble_eq_true rfl) ?_
    refine SV.op (OpL.ok (nb := 2) (ok_pickT (v := V.one (.sc _)) rfl rfl rfl) rfl (Nat.le_of_ble_eq_true rfl)) rfl ?_
    refine SV.op (OpL.ok (nb := 2) (ok_move (v := V.one (.sc _)) (.inl rfl) rfl) rfl (Nat.le_of_ble_eq_true rfl)) rfl ?_
    refine SV.split (d := 15) rfl (fun hg1 => ?_) (fun hg1 => ?_)
    · skip   -- g1.T
      refine SV.opN rfl rfl rfl (Nat.le_of_ble_eq_true rfl) rfl rfl rfl (Nat.le_of_ble_eq_true rfl) ?_
      refine SV.opN rfl rfl rfl (Nat.le_of_ble_eq_true rfl) rfl rfl rfl (Nat.le_of_ble_eq_true rfl) ?_
      refine SV.opN rfl rfl rfl (Nat.le_of_ble_eq_true rfl) rfl rfl rfl (Nat.le_of_ble_eq_true rfl) ?_
      refine SV.op (OpL.ok (nb := 2) (ok_pickT (v := V.one (.sc _)) rfl rfl rfl) rfl (Nat.le_of_ble_eq_true rfl)) rfl ?_
      refine SV.nil ?_
      refine SV.tn ?_
      refine SV.cond rfl (fun hc0 => ?_) (fun hc0 => ?_)
      · skip   -- c0.T
        have ho : AccountD.canSet a n = false := by
          rw [Bool.eq_false_iff, Ne]
          (try rw [AccountD.canSet_iff])
          rcases hb : AccountD.ok a with _ | _
          · simp [hb] at *
          · have hk := (AccountD.ok_iff a).1 hb
            simp [hb, AccountD.isGrant] at * <;> (try unfold wrap64 at *) <;> omega
        refine SV.seq' ?_
        refine SV.region ?_
        refine SV.op (OpL.ok (nb := 2) (ok_load_bp (b := 0) (i := 0) (ag := true) (m := 4) (ys := [.sc _, .sc _, .sc _, .sc _]) rfl rfl rfl agg_impl_Account sz_impl_Account (fun h => by cases h) rfl rfl (Nat.le_of_ble_eq_true rfl)) rfl (Nat.le_of_ble_eq_true rfl)) rfl ?_
        refine SV.op (ok_store_bp (b := 1) (i := 0) (m := 4) (ag := true) (zs := [.sc _, .sc _, .sc _, .sc _]) (ys := [.sc _, .sc _, .sc _, .sc _]) rfl rfl rfl rfl sz_impl_Account (fun h => by cases h) rfl (Nat.le_of_ble_eq_true rfl) rfl rfl rfl) rfl ?_
        refine SV.op (OpL.ok (nb := 2) (ok_move (v := V.one (.sc _)) (.inr rfl) rfl) rfl (Nat.le_of_ble_eq_true rfl)) rfl ?_
        refine SV.nil ?_
        refine SV.tn ?_
        refine SV.ret ?_
        refine SV.tr ?_
        apply SV.done (hf := Try.results20) (ht := rfl) (he := .inl rfl)
        case hr => exact (ResAll.cons (ResOk.cell (b := 1) (ag := true) (xs := [.sc _, .sc _, .sc _, .sc _]) rfl rfl agg_impl_Account sz_impl_Account (fun h => by cases h)) (ResAll.cons (ResOk.tmp (ag := false) (xs := [.sc _]) rfl) ResAll.nil'))
        case h2 => simp [two]
        refine ⟨rfl, ⟨?_, ?_, ?_, ?_, trivial⟩, ⟨rfl, ⟨?_, trivial⟩, trivial⟩⟩ <;> first | rfl | (rw [AccountD.setGrant_up ho hl]; rfl) | ((show some (T.lit (Value.int .i64 _)) = some (T.lit (Value.int .i64 _)); refine congrArg (fun z => some (T.lit (Value.int .i64 z))) ?_; rw [AccountD.setGrant_up ho hl]; (try dsimp only); omega)) | (rw [AccountD.setGrant_keep ho hl]; rfl) | ((show some (T.lit (Value.int .i64 _)) = some (T.lit (Value.int .i64 _)); refine congrArg (fun z => some (T.lit (Value.int .i64 z))) ?_; rw [AccountD.setGrant_keep ho hl]; (try dsimp only); omega)) | (rw [AccountD.setGrant_no ho]; rfl) | ((show some (T.lit (Value.int .i64 _)) = some (T.lit (Value.int .i64 _)); refine congrArg (fun z => some (T.lit (Value.int .i64 z))) ?_; rw [AccountD.setGrant_no ho]; (try dsimp only); omega)) | ((show some (T.lit (Value.bool _)) = some (T.lit (Value.bool _)); refine congrArg (fun z => some (T.lit (Value.bool z))) ?_; rw [ho]))
      · skip   -- c0.F
        cases hc0
    · skip   -- g1.F
      simp at hg1
  · skip   -- g0.F
    refine SV.opY (OpL.ok (nb := 2) (ok_move (v := V.one (.sc _)) (.inl rfl) rfl) rfl (Nat.le_of_ble_eq_true rfl)) rfl rfl rfl (Nat.le_of_ble_eq_true rfl) rfl rfl ?_
    refine SV.opY (OpMk.ok (ok_call (ls := [(false, [.sc _])]) rfl rfl ⟨_, _, Try.func34, rfl, by decide⟩ (vin_s' n 8 60) ⟨⟨[.sc _], rfl, ⟨rfl, trivial⟩⟩, ⟨[.sc _], rfl, ⟨rfl, trivial⟩⟩, ⟨[.sc _], rfl, ⟨rfl, trivial⟩⟩, trivial⟩ rfl (Nat.le_of_ble_eq_true rfl))) rfl rfl rfl (Nat.le_of_ble_eq_true rfl) rfl rfl ?_
    refine SV.opY (OpL.ok (nb := 2) (ok_s1 (x := .tmp 12) (VScal.one rfl) (fun ρ h1 w => by go_simp; (try go_bits); with_reducible rfl) rfl) rfl (Nat.le_of_ble_eq_true rfl)) rfl rfl rfl (Nat.le_of_ble_eq_true rfl) rfl rfl ?_
    refine SV.op (OpL.ok (nb := 2) (ok_pickF (v := V.one (.sc _)) rfl rfl rfl) rfl (Nat.le_of_ble_eq_true rfl)) rfl ?_
    refine SV.op (OpL.ok (nb := 2) (ok_move (v := V.one (.sc _)) (.inl rfl) rfl) rfl (Nat.le_of_ble_eq_true rfl)) rfl ?_
    refine SV.split (d := 15) rfl (fun hg2 => ?_) (fun hg2 => ?_)
    · skip   -- g2.T
      refine SV.opN rfl rfl rfl (Nat.le_of_ble_eq_true rfl) rfl rfl rfl (Nat.le_of_ble_eq_true rfl) ?_
      refine SV.opN rfl rfl rfl (Nat.le_of_ble_eq_true rfl) rfl rfl rfl (Nat.le_of_ble_eq_true rfl) ?_
      refine SV.opN rfl rfl rfl (Nat.le_of_ble_eq_true rfl) rfl rfl rfl (Nat.le_of_ble_eq_true rfl) ?_
      refine SV.op (OpL.ok (nb := 2) (ok_pickT (v := V.one (.sc _)) rfl rfl rfl) rfl (Nat.le_of_ble_eq_true rfl)) rfl ?_
      refine SV.nil ?_
      refine SV.tn ?_
      refine SV.cond rfl (fun hc1 => ?_) (fun hc1 => ?_)
      · skip   -- c1.T
        have ho : AccountD.canSet a n = false := by
          rw [Bool.eq_false_iff, Ne]
          (try rw [AccountD.canSet_iff])
          rcases hb : AccountD.ok a with _ | _
          · simp [hb] at *
          · have hk := (AccountD.ok_iff a).1 hb
            simp [hb, AccountD.isGrant] at * <;> (try unfold wrap64 at *) <;> omega
        refine SV.seq' ?_
        refine SV.region ?_
        refine SV.op (OpL.ok (nb := 2) (ok_load_bp (b := 0) (i := 0) (ag := true) (m := 4) (ys := [.sc _, .sc _, .sc _, .sc _]) rfl rfl rfl agg_impl_Account sz_impl_Account (fun h => by cases h) rfl rfl (Nat.le_of_ble_eq_true rfl)) rfl (Nat.le_of_ble_eq_true rfl)) rfl ?_
        refine SV.op (ok_store_bp (b := 1) (i := 0) (m := 4) (ag := true) (zs := [.sc _, .sc _, .sc _, .sc _]) (ys := [.sc _, .sc _, .sc _, .sc _]) rfl rfl rfl rfl sz_impl_Account (fun h => by cases h) rfl (Nat.le_of_ble_eq_true rfl) rfl rfl rfl) rfl ?_
        refine SV.op (OpL.ok (nb := 2) (ok_move (v := V.one (.sc _)) (.inr rfl) rfl) rfl (Nat.le_of_ble_eq_true rfl)) rfl ?_
        refine SV.nil ?_
        refine SV.tn ?_
        refine SV.ret ?_
        refine SV.tr ?_
        apply SV.done (hf := Try.results20) (ht := rfl) (he := .inl rfl)
        case hr => exact (ResAll.cons (ResOk.cell (b := 1) (ag := true) (xs := [.sc _, .sc _, .sc _, .sc _]) rfl rfl agg_impl_Account sz_impl_Account (fun h => by cases h)) (ResAll.cons (ResOk.tmp (ag := false) (xs := [.sc _]) rfl) ResAll.nil'))
        case h2 => simp [two]
        refine ⟨rfl, ⟨?_, ?_, ?_, ?_, trivial⟩, ⟨rfl, ⟨?_, trivial⟩, trivial⟩⟩ <;> first | rfl | (rw [AccountD.setGrant_up ho hl]; rfl) | ((show some (T.lit (Value.int .i64 _)) = some (T.lit (Value.int .i64 _)); refine congrArg (fun z => some (T.lit (Value.int .i64 z))) ?_; rw [AccountD.setGrant_up ho hl]; (try dsimp only); omega)) | (rw [AccountD.setGrant_keep ho hl]; rfl) | ((show some (T.lit (Value.int .i64 _)) = some (T.lit (Value.int .i64 _)); refine congrArg (fun z => some (T.lit (Value.int .i64 z))) ?_; rw [AccountD.setGrant_keep ho hl]; (try dsimp only); omega)) | (rw [AccountD.setGrant_no ho]; rfl) | ((show some (T.lit (Value.int .i64 _)) = some (T.lit (Value.int .i64 _)); refine congrArg (fun z => some (T.lit (Value.int .i64 z))) ?_; rw [AccountD.setGrant_no ho]; (try dsimp only); omega)) | ((show some (T.lit (Value.bool _)) = some (T.lit (Value.bool _)); refine congrArg (fun z => some (T.lit (Value.bool z))) ?_; rw [ho]))
      · skip   -- c1.F
        cases hc1
    · skip   -- g2.F
      refine SV.opY (OpL.ok (nb := 2) (ok_field_bp (b := 0) (o' := 0) (off := 3) rfl rfl fld_impl_Account_3) rfl (Nat.le_of_ble_eq_true rfl)) rfl rfl rfl (Nat.le_of_ble_eq_true rfl) rfl rfl ?_
      refine SV.opY (OpL.ok (nb := 2) (ok_load_bp (b := 0) (i := 3) (ag := false) (m := 1) (ys := [.sc _]) rfl rfl rfl agg_int sz_int (fun _ => rfl) rfl rfl (Nat.le_of_ble_eq_true rfl)) rfl (Nat.le_of_ble_eq_true rfl)) rfl rfl rfl (Nat.le_of_ble_eq_true rfl) rfl rfl ?_
      refine SV.opY (OpL.ok (nb := 2) (ok_s2 (x := .tmp 17) (x' := .const ((Value.int IntKind.i64 1000))) (VScal.one rfl) (VScal.one rfl) (fun ρ h1 h2 w => by go_simp; (try go_bits); with_reducible rfl) rfl) rfl (Nat.le_of_ble_eq_true rfl)) rfl rfl rfl (Nat.le_of_ble_eq_true rfl) rfl rfl ?_
      refine SV.op (OpL.ok (nb := 2) (ok_pickF (v := V.one (.sc _)) rfl rfl rfl) rfl (Nat.le_of_ble_eq_true rfl)) rfl ?_
      refine SV.nil ?_
      refine SV.tn ?_
      refine SV.cond rfl (fun hc2 => ?_) (fun hc2 => ?_)
      · skip   -- c2.T
        have ho : AccountD.canSet a n = false := by
          rw [Bool.eq_false_iff, Ne]
          (try rw [AccountD.canSet_iff])
          rcases hb : AccountD.ok a with _ | _
          · simp [hb] at *
          · have hk := (AccountD.ok_iff a).1 hb
            simp [hb, AccountD.isGrant] at * <;> (try unfold wrap64 at *) <;> omega
        refine SV.seq' ?_
        refine SV.region ?_
        refine SV.op (OpL.ok (nb := 2) (ok_load_bp (b := 0) (i := 0) (ag := true) (m := 4) (ys := [.sc _, .sc _, .sc _, .sc _]) rfl rfl rfl agg_impl_Account sz_impl_Account (fun h => by cases h) rfl rfl (Nat.le_of_ble_eq_true rfl)) rfl (Nat.le_of_ble_eq_true rfl)) rfl ?_
        refine SV.op (ok_store_bp (b := 1) (i := 0) (m := 4) (ag := true) (zs := [.sc _, .sc _, .sc _, .sc _]) (ys := [.sc _, .sc _, .sc _, .sc _]) rfl rfl rfl rfl sz_impl_Account (fun h => by cases h) rfl (Nat.le_of_ble_eq_true rfl) rfl rfl rfl) rfl ?_
        refine SV.op (OpL.ok (nb := 2) (ok_move (v := V.one (.sc _)) (.inr rfl) rfl) rfl (Nat.le_of_ble_eq_true rfl)) rfl ?_
        refine SV.nil ?_
        refine SV.tn ?_
        refine SV.ret ?_
        refine SV.tr ?_
        apply SV.done (hf := Try.results20) (ht := rfl) (he := .inl rfl)
        case hr => exact (ResAll.cons (ResOk.cell (b := 1) (ag := true) (xs := [.sc _, .sc _, .sc _, .sc _]) rfl rfl agg_impl_Account sz_impl_Account (fun h => by cases h)) (ResAll.cons (ResOk.tmp (ag := false) (xs := [.sc _]) rfl) ResAll.nil'))
        case h2 => simp [two]
        refine ⟨rfl, ⟨?_, ?_, ?_, ?_, trivial⟩, ⟨rfl, ⟨?_, trivial⟩, trivial⟩⟩ <;> first | rfl | (rw [AccountD.setGrant_up ho hl]; rfl) | ((show some (T.lit (Value.int .i64 _)) = some (T.lit (Value.int .i64 _)); refine congrArg (fun z => some (T.lit (Value.int .i64 z))) ?_; rw [AccountD.setGrant_up ho hl]; (try dsimp only); omega)) | (rw [AccountD.setGrant_keep ho hl]; rfl) | ((show some (T.lit (Value.int .i64 _)) = some (T.lit (Value.int .i64 _)); refine congrArg (fun z => some (T.lit (Value.int .i64 z))) ?_; rw [AccountD.setGrant_keep ho hl]; (try dsimp only); omega)) | (rw [AccountD.setGrant_no ho]; rfl) | ((show some (T.lit (Value.int .i64 _)) = some (T.lit (Value.int .i64 _)); refine congrArg (fun z => some (T.lit (Value.int .i64 z))) ?_; rw [AccountD.setGrant_no ho]; (try dsimp only); omega)) | ((show some (T.lit (Value.bool _)) = some (T.lit (Value.bool _)); refine congrArg (fun z => some (T.lit (Value.bool z))) ?_; rw [ho]))
      · skip   -- c2.F
        have ho : AccountD.canSet a n = true := by
          rw [show (AccountD.canSet a n = true) = (AccountD.canSet a n = true) from rfl]
          (try rw [AccountD.canSet_iff])
          rcases hb : AccountD.ok a with _ | _
          · simp [hb] at *
          · have hk := (AccountD.ok_iff a).1 hb
            simp [hb, AccountD.isGrant] at * <;> (try unfold wrap64 at *) <;> omega
        have hh := (AccountD.canSet_iff a n).1 ho
        have hk := (AccountD.ok_iff a).1 hh.1
        refine SV.skip ?_
        refine SV.tn ?_
        refine SV.seq' ?_
        refine SV.region ?_
        refine SV.op (OpL.ok (nb := 2) (ok_load_bp (b := 0) (i := 0) (ag := true) (m := 4) (ys := [.sc _, .sc _, .sc _, .sc _]) rfl rfl rfl agg_impl_Account sz_impl_Account (fun h => by cases h) rfl rfl (Nat.le_of_ble_eq_true rfl)) rfl (Nat.le_of_ble_eq_true rfl)) rfl ?_
        refine SV.op (OpMk.ok (ok_alloc (kk := 2) (xs := [.sc _, .sc _, .sc _, .sc _]) rfl rfl zero_impl_Account ⟨rfl, rfl, rfl, rfl, rfl, rfl, rfl, rfl, trivial⟩ rfl (Nat.le_of_ble_eq_true rfl))) rfl ?_
        refine SV.op (ok_store_bp (b := 2) (i := 0) (m := 4) (ag := true) (zs := [.sc _, .sc _, .sc _, .sc _]) (ys := [.sc _, .sc _, .sc _, .sc _]) rfl rfl rfl rfl sz_impl_Account (fun h => by cases h) rfl (Nat.le_of_ble_eq_true rfl) rfl rfl rfl) rfl ?_
        refine SV.nil ?_
        refine SV.tn ?_
        refine SV.seq' ?_
        refine SV.region ?_
        refine SV.op (OpL.ok (nb := 3) (ok_move (v := V.one (.sc _)) (.inl rfl) rfl) rfl (Nat.le_of_ble_eq_true rfl)) rfl ?_
        refine SV.op (OpL.ok (nb := 3) (ok_field_bp (b := 2) (o' := 0) (off := 1) rfl rfl fld_impl_Account_1) rfl (Nat.le_of_ble_eq_true rfl)) rfl ?_
        refine SV.op (ok_store_bp (b := 2) (i := 1) (m := 1) (ag := false) (zs := [.sc _]) (ys := [.sc _, .sc _, .sc _, .sc _]) rfl rfl rfl rfl sz_int (fun _ => rfl) rfl (Nat.le_of_ble_eq_true rfl) rfl rfl rfl) rfl ?_
        refine SV.nil ?_
        refine SV.tn ?_
        refine SV.seq' ?_
        refine SV.seq' ?_
        refine SV.region ?_
        refine SV.op (OpL.ok (nb := 3) (ok_field_bp (b := 2) (o' := 0) (off := 0) rfl rfl fld_impl_Account_0) rfl (Nat.le_of_ble_eq_true rfl)) rfl ?_
        refine SV.op (OpL.ok (nb := 3) (ok_load_bp (b := 2) (i := 0) (ag := false) (m := 1) (ys := [.sc _]) rfl rfl rfl agg_int sz_int (fun _ => rfl) rfl rfl (Nat.le_of_ble_eq_true rfl)) rfl (Nat.le_of_ble_eq_true rfl)) rfl ?_
        refine SV.op (OpL.ok (nb := 3) (ok_move (v := V.one (.sc _)) (.inl rfl) rfl) rfl (Nat.le_of_ble_eq_true rfl)) rfl ?_
        refine SV.op (OpL.ok (nb := 3) (ok_s2 (x := .tmp 25) (x' := .tmp 26) (VScal.one rfl) (VScal.one rfl) (fun ρ h1 h2 w => by go_simp; (try go_bits); with_reducible rfl) rfl) rfl (Nat.le_of_ble_eq_true rfl)) rfl ?_
        refine SV.nil ?_
        refine SV.tn ?_
        refine SV.cond rfl (fun hc3 => ?_) (fun hc3 => ?_)
        · skip   -- c3.T
          have hl : n < a.fUsed := by simp at hc3; omega
          refine SV.region ?_
          refine SV.op (OpL.ok (nb := 3) (ok_field_bp (b := 0) (o' := 0) (off := 3) rfl rfl fld_impl_Account_3) rfl (Nat.le_of_ble_eq_true rfl)) rfl ?_
          refine SV.op (OpL.ok (nb := 3) (ok_load_bp (b := 0) (i := 3) (ag := false) (m := 1) (ys := [.sc _]) rfl rfl rfl agg_int sz_int (fun _ => rfl) rfl rfl (Nat.le_of_ble_eq_true rfl)) rfl (Nat.le_of_ble_eq_true rfl)) rfl ?_
          refine SV.op (OpL.ok (nb := 3) (ok_s2 (v := .int .i64 (a.fOvercommits + 1)) (x := .tmp 29) (x' := .const ((Value.int IntKind.i64 1))) (VScal.one rfl) (VScal.one rfl) (fun ρ h1 h2 w => by go_simp; rw [IntWalk.i64_left, IntWalk.wrap64_in _ ⟨by omega, by omega⟩]) rfl) rfl (Nat.le_of_ble_eq_true rfl)) rfl ?_
          refine SV.op (OpL.ok (nb := 3) (ok_field_bp (b := 2) (o' := 0) (off := 3) rfl rfl fld_impl_Account_3) rfl (Nat.le_of_ble_eq_true rfl)) rfl ?_
          refine SV.op (ok_store_bp (b := 2) (i := 3) (m := 1) (ag := false) (zs := [.sc _]) (ys := [.sc _, .sc _, .sc _, .sc _]) rfl rfl rfl rfl sz_int (fun _ => rfl) rfl (Nat.le_of_ble_eq_true rfl) rfl rfl rfl) rfl ?_
          refine SV.nil ?_
          refine SV.tn ?_
          refine SV.seq' ?_
          refine SV.region ?_
          refine SV.op (OpL.ok (nb := 3) (ok_load_bp (b := 2) (i := 0) (ag := true) (m := 4) (ys := [.sc _, .sc _, .sc _, .sc _]) rfl rfl rfl agg_impl_Account sz_impl_Account (fun h => by cases h) rfl rfl (Nat.le_of_ble_eq_true rfl)) rfl (Nat.le_of_ble_eq_true rfl)) rfl ?_
          refine SV.op (ok_store_bp (b := 1) (i := 0) (m := 4) (ag := true) (zs := [.sc _, .sc _, .sc _, .sc _]) (ys := [.sc _, .sc _, .sc _, .sc _]) rfl rfl rfl rfl sz_impl_Account (fun h => by cases h) rfl (Nat.le_of_ble_eq_true rfl) rfl rfl rfl) rfl ?_
          refine SV.op (OpL.ok (nb := 3) (ok_move (v := V.one (.sc _)) (.inr rfl) rfl) rfl (Nat.le_of_ble_eq_true rfl)) rfl ?_
          refine SV.nil ?_
          refine SV.tn ?_
          refine SV.ret ?_
          apply SV.done (hf := Try.results20) (ht := rfl) (he := .inl rfl)
          case hr => exact (ResAll.cons (ResOk.cell (b := 1) (ag := true) (xs := [.sc _, .sc _, .sc _, .sc _]) rfl rfl agg_impl_Account sz_impl_Account (fun h => by cases h)) (ResAll.cons (ResOk.tmp (ag := false) (xs := [.sc _]) rfl) ResAll.nil'))
          case h2 => simp [two]
          refine ⟨rfl, ⟨?_, ?_, ?_, ?_, trivial⟩, ⟨rfl, ⟨?_, trivial⟩, trivial⟩⟩ <;> first | rfl | (rw [AccountD.setGrant_up ho hl]; rfl) | ((show some (T.lit (Value.int .i64 _)) = some (T.lit (Value.int .i64 _)); refine congrArg (fun z => some (T.lit (Value.int .i64 z))) ?_; rw [AccountD.setGrant_up ho hl]; (try dsimp only); omega)) | (rw [AccountD.setGrant_keep ho hl]; rfl) | ((show some (T.lit (Value.int .i64 _)) = some (T.lit (Value.int .i64 _)); refine congrArg (fun z => some (T.lit (Value.int .i64 z))) ?_; rw [AccountD.setGrant_keep ho hl]; (try dsimp only); omega)) | (rw [AccountD.setGrant_no ho]; rfl) | ((show some (T.lit (Value.int .i64 _)) = some (T.lit (Value.int .i64 _)); refine congrArg (fun z => some (T.lit (Value.int .i64 z))) ?_; rw [AccountD.setGrant_no ho]; (try dsimp only); omega)) | ((show some (T.lit (Value.bool _)) = some (T.lit (Value.bool _)); refine congrArg (fun z => some (T.lit (Value.bool z))) ?_; rw [ho]))
        · skip   -- c3.F
          have hl : ¬ n < a.fUsed := by simp at hc3; omega
          refine SV.skip ?_
          refine SV.tn ?_
          refine SV.seq' ?_
          refine SV.region ?_
          refine SV.op (OpL.ok (nb := 3) (ok_load_bp (b := 2) (i := 0) (ag := true) (m := 4) (ys := [.sc _, .sc _, .sc _, .sc _]) rfl rfl rfl agg_impl_Account sz_impl_Account (fun h => by cases h) rfl rfl (Nat.le_of_ble_eq_true rfl)) rfl (Nat.le_of_ble_eq_true rfl)) rfl ?_
          refine SV.op (ok_store_bp (b := 1) (i := 0) (m := 4) (ag := true) (zs := [.sc _, .sc _, .sc _, .sc _]) (ys := [.sc _, .sc _, .sc _, .sc _]) rfl rfl rfl rfl sz_impl_Account (fun h => by cases h) rfl (Nat.le_of_ble_eq_true rfl) rfl rfl rfl) rfl ?_
          refine SV.op (OpL.ok (nb := 3) (ok_move (v := V.one (.sc _)) (.inr rfl) rfl) rfl (Nat.le_of_ble_eq_true rfl)) rfl ?_
          refine SV.nil ?_
          refine SV.tn ?_
          refine SV.ret ?_
          apply SV.done (hf := Try.results20) (ht := rfl) (he := .inl rfl)
          case hr => exact (ResAll.cons (ResOk.cell (b := 1) (ag := true) (xs := [.sc _, .sc _, .sc _, .sc _]) rfl rfl agg_impl_Account sz_impl_Account (fun h => by cases h)) (ResAll.cons (ResOk.tmp (ag := false) (xs := [.sc _]) rfl) ResAll.nil'))
          case h2 => simp [two]
          refine ⟨rfl, ⟨?_, ?_, ?_, ?_, trivial⟩, ⟨rfl, ⟨?_, trivial⟩, trivial⟩⟩ <;> first | rfl | (rw [AccountD.setGrant_up ho hl]; rfl) | ((show some (T.lit (Value.int .i64 _)) = some (T.lit (Value.int .i64 _)); refine congrArg (fun z => some (T.lit (Value.int .i64 z))) ?_; rw [AccountD.setGrant_up ho hl]; (try dsimp only); omega)) | (rw [AccountD.setGrant_keep ho hl]; rfl) | ((show some (T.lit (Value.int .i64 _)) = some (T.lit (Value.int .i64 _)); refine congrArg (fun z => some (T.lit (Value.int .i64 z))) ?_; rw [AccountD.setGrant_keep ho hl]; (try dsimp only); omega)) | (rw [AccountD.setGrant_no ho]; rfl) | ((show some (T.lit (Value.int .i64 _)) = some (T.lit (Value.int .i64 _)); refine congrArg (fun z => some (T.lit (Value.int .i64 z))) ?_; rw [AccountD.setGrant_no ho]; (try dsimp only); omega)) | ((show some (T.lit (Value.bool _)) = some (T.lit (Value.bool _)); refine congrArg (fun z => some (T.lit (Value.bool z))) ?_; rw [ho]))
set_option maxRecDepth 100000 in
set_option maxHeartbeats 2000000 in
theorem vsetGrant_i (a : AccountD) (n : Int) : VC Try.prog 19 [(true, tAccount a), (false, [.lit (.int .i64 (n))])] true [(true, tAccount (AccountD.setGrant a n)), (false, [.lit (.bool (AccountD.canSet a n))])] := by
  refine VC.enter Try.func19 rfl Try.ntmps19 (Nat.le_of_ble_eq_true rfl) fun E hE => ?_
  refine SV.seq' ?_
  refine SV.region ?_
  refine SV.op (OpMk.ok (ok_box (kk := 0) (ag := true) (xs := [.sc _, .sc _, .sc _, .sc _]) rfl rfl rfl (fun h => by cases h) rfl rfl (Nat.le_of_ble_eq_true rfl))) rfl ?_
  refine SV.op (OpMk.ok (ok_alloc (kk := 1) (xs := [.sc _, .sc _, .sc _, .sc _]) rfl rfl zero_impl_Account ⟨rfl, rfl, rfl, rfl, rfl, rfl, rfl, rfl, trivial⟩ rfl (Nat.le_of_ble_eq_true rfl))) rfl ?_
  refine SV.op (OpL.ok (nb := 2) (ok_move (v := V.one (.sc _)) (.inr rfl) rfl) rfl (Nat.le_of_ble_eq_true rfl)) rfl ?_
  refine SV.nil ?_
  refine SV.tn ?_
  refine SV.seq' ?_
  refine SV.seq' ?_
  refine SV.region ?_
  refine SV.op (OpL.ok (nb := 2) (ok_load_bp (b := 0) (i := 0) (ag := true) (m := 4) (ys := [.sc _, .sc _, .sc _, .sc _]) rfl rfl rfl agg_impl_Account sz_impl_Account (fun h => by cases h) rfl rfl (Nat.le_of_ble_eq_true rfl)) rfl (Nat.le_of_ble_eq_true rfl)) rfl ?_
  refine SV.op (OpMk.ok (ok_call (ls := [(false, [.sc _])]) rfl rfl ⟨_, _, Try.func14, rfl, by decide⟩ (vok_i a) ⟨⟨[.sc _, .sc _, .sc _, .sc _], rfl, ⟨rfl, rfl, rfl, rfl, trivial⟩⟩, trivial⟩ rfl (Nat.le_of_ble_eq_true rfl))) rfl ?_
  refine SV.op (OpL.ok (nb := 2) (ok_s1 (x := .tmp 7) (VScal.one rfl) (fun ρ h1 w => by go_simp; (try go_bits); with_reducible rfl) rfl) rfl (Nat.le_of_ble_eq_true rfl)) rfl ?_
  refine SV.op (OpL.ok (nb := 2) (ok_move (v := V.one (.sc _)) (.inl rfl) rfl) rfl (Nat.le_of_ble_eq_true rfl)) rfl ?_
  refine SV.split (d := 9) rfl (fun hg0 => ?_) (fun hg0 => ?_)
  · skip   -- g0.T
    refine SV.opN rfl rfl rfl (Nat.le_of_ble_eq_true rfl) rfl rfl rfl (Nat.le_of_ble_eq_true rfl) ?_
    refine SV.opN rfl rfl rfl (Nat.le_of_ble_eq_true rfl) rfl rfl rfl (Nat.le_of_ble_eq_true rfl) ?_
    refine SV.opN rfl rfl rfl (Nat.le_of_ble_eq_true rfl) rfl rfl rfl (Nat.le_of_ble_eq_true rfl) ?_
    refine SV.op (OpL.ok (nb := 2) (ok_pickT (v := V.one (.sc _)) rfl rfl rfl) rfl (Nat.le_of_ble_eq_true rfl)) rfl ?_
    refine SV.op (OpL.ok (nb := 2) (ok_move (v := V.one (.sc _)) (.inl rfl) rfl) rfl (Nat.le_of_ble_eq_true rfl)) rfl ?_
    refine SV.split (d := 14) rfl (fun hg1 => ?_) (fun hg1 => ?_)
    · skip   -- g1.T
      refine SV.opN rfl rfl rfl (Nat.le_of_ble_eq_true rfl) rfl rfl rfl (Nat.le_of_ble_eq_true rfl) ?_
      refine SV.opN rfl rfl rfl (Nat.le_of_ble_eq_true rfl) rfl rfl rfl (Nat.le_of_ble_eq_true rfl) ?_
      refine SV.opN rfl rfl rfl (Nat.le_of_ble_eq_true rfl) rfl rfl rfl (Nat.le_of_ble_eq_true rfl) ?_
      refine SV.op (OpL.ok (nb := 2) (ok_pickT (v := V.one (.sc _)) rfl rfl rfl) rfl (Nat.le_of_ble_eq_true rfl)) rfl ?_
      refine SV.nil ?_
      refine SV.tn ?_
      refine SV.cond rfl (fun hc0 => ?_) (fun hc0 => ?_)
      · skip   -- c0.T
        have ho : AccountD.canSet a n = false := by
          rw [Bool.eq_false_iff, Ne]
          (try rw [AccountD.canSet_iff])
          rcases hb : AccountD.ok a with _ | _
          · simp [hb] at *
          · have hk := (AccountD.ok_iff a).1 hb
            simp [hb, AccountD.isGrant] at * <;> (try unfold wrap64 at *) <;> omega
        refine SV.seq' ?_
        refine SV.region ?_
        refine SV.op (OpL.ok (nb := 2) (ok_load_bp (b := 0) (i := 0) (ag := true) (m := 4) (ys := [.sc _, .sc _, .sc _, .sc _]) rfl rfl rfl agg_impl_Account sz_impl_Account (fun h => by cases h) rfl rfl (Nat.le_of_ble_eq_true rfl)) rfl (Nat.le_of_ble_eq_true rfl)) rfl ?_
        refine SV.op (ok_store_bp (b := 1) (i := 0) (m := 4) (ag := true) (zs := [.sc _, .sc _, .sc _, .sc _]) (ys := [.sc _, .sc _, .sc _, .sc _]) rfl rfl rfl rfl sz_impl_Account (fun h => by cases h) rfl (Nat.le_of_ble_eq_true rfl) rfl rfl rfl) rfl ?_
        refine SV.op (OpL.ok (nb := 2) (ok_move (v := V.one (.sc _)) (.inr rfl) rfl) rfl (Nat.le_of_ble_eq_true rfl)) rfl ?_
        refine SV.nil ?_
        refine SV.tn ?_
        refine SV.ret ?_
        refine SV.tr ?_
        apply SV.done (hf := Try.results19) (ht := rfl) (he := .inl rfl)
        case hr => exact (ResAll.cons (ResOk.cell (b := 1) (ag := true) (xs := [.sc _, .sc _, .sc _, .sc _]) rfl rfl agg_impl_Account sz_impl_Account (fun h => by cases h)) (ResAll.cons (ResOk.tmp (ag := false) (xs := [.sc _]) rfl) ResAll.nil'))
        case h2 => simp [two]
        refine ⟨rfl, ⟨?_, ?_, ?_, ?_, trivial⟩, ⟨rfl, ⟨?_, trivial⟩, trivial⟩⟩ <;> first | rfl | (rw [AccountD.setGrant_up ho hl]; rfl) | ((show some (T.lit (Value.int .i64 _)) = some (T.lit (Value.int .i64 _)); refine congrArg (fun z => some (T.lit (Value.int .i64 z))) ?_; rw [AccountD.setGrant_up ho hl]; (try dsimp only); omega)) | (rw [AccountD.setGrant_keep ho hl]; rfl) | ((show some (T.lit (Value.int .i64 _)) = some (T.lit (Value.int .i64 _)); refine congrArg (fun z => some (T.lit (Value.int .i64 z))) ?_; rw [AccountD.setGrant_keep ho hl]; (try dsimp only); omega)) | (rw [AccountD.setGrant_no ho]; rfl) | ((show some (T.lit (Value.int .i64 _)) = some (T.lit (Value.int .i64 _)); refine congrArg (fun z => some (T.lit (Value.int .i64 z))) ?_; rw [AccountD.setGrant_no ho]; (try dsimp only); omega)) | ((show some (T.lit (Value.bool _)) = some (T.lit (Value.bool _)); refine congrArg (fun z => some (T.lit (Value.bool z))) ?_; rw [ho]))
      · skip   -- c0.F
        cases hc0
    · skip   -- g1.F
      simp at hg1
  · skip   -- g0.F
    refine SV.opY (OpL.ok (nb := 2) (ok_move (v := V.one (.sc _)) (.inl rfl) rfl) rfl (Nat.le_of_ble_eq_true rfl)) rfl rfl rfl (Nat.le_of_ble_eq_true rfl) rfl rfl ?_
    refine SV.opY (OpMk.ok (ok_call (ls := [(false, [.sc _])]) rfl rfl ⟨_, _, Try.func35, rfl, by decide⟩ (visgrant_i n) ⟨⟨[.sc _], rfl, ⟨rfl, trivial⟩⟩, trivial⟩ rfl (Nat.le_of_ble_eq_true rfl))) rfl rfl rfl (Nat.le_of_ble_eq_true rfl) rfl rfl ?_
    refine SV.opY (OpL.ok (nb := 2) (ok_s1 (x := .tmp 11) (VScal.one rfl) (fun ρ h1 w => by go_simp; (try go_bits); with_reducible rfl) rfl) rfl (Nat.le_of_ble_eq_true rfl)) rfl rfl rfl (Nat.le_of_ble_eq_true rfl) rfl rfl ?_
    refine SV.op (OpL.ok (nb := 2) (ok_pickF (v := V.one (.sc _)) rfl rfl rfl) rfl (Nat.le_of_ble_eq_true rfl)) rfl ?_
    refine SV.op (OpL.ok (nb := 2) (ok_move (v := V.one (.sc _)) (.inl rfl) rfl) rfl (Nat.le_of_ble_eq_true rfl)) rfl ?_
    refine SV.split (d := 14) rfl (fun hg2 => ?_) (fun hg2 => ?_)
    · skip   -- g2.T
      refine SV.opN rfl rfl rfl (Nat.le_of_ble_eq_true rfl) rfl rfl rfl (Nat.le_of_ble_eq_true rfl) ?_
      refine SV.opN rfl rfl rfl (Nat.le_of_ble_eq_true rfl) rfl rfl rfl (Nat.le_of_ble_eq_true rfl) ?_
      refine SV.opN rfl rfl rfl (Nat.le_of_ble_eq_true rfl) rfl rfl rfl (Nat.le_of_ble_eq_true rfl) ?_
      refine SV.op (OpL.ok (nb := 2) (ok_pickT (v := V.one (.sc _)) rfl rfl rfl) rfl (Nat.le_of_ble_eq_true rfl)) rfl ?_
      refine SV.nil ?_
      refine SV.tn ?_
      refine SV.cond rfl (fun hc1 => ?_) (fun hc1 => ?_)
      · skip   -- c1.T
        have ho : AccountD.canSet a n = false := by
          rw [Bool.eq_false_iff, Ne]
          (try rw [AccountD.canSet_iff])
          rcases hb : AccountD.ok a with _ | _
          · simp [hb] at *
          · have hk := (AccountD.ok_iff a).1 hb
            simp [hb, AccountD.isGrant] at * <;> (try unfold wrap64 at *) <;> omega
        refine SV.seq' ?_
        refine SV.region ?_
        refine SV.op (OpL.ok (nb := 2) (ok_load_bp (b := 0) (i := 0) (ag := true) (m := 4) (ys := [.sc _, .sc _, .sc _, .sc _]) rfl rfl rfl agg_impl_Account sz_impl_Account (fun h => by cases h) rfl rfl (Nat.le_of_ble_eq_true rfl)) rfl (Nat.le_of_ble_eq_true rfl)) rfl ?_
        refine SV.op (ok_store_bp (b := 1) (i := 0) (m := 4) (ag := true) (zs := [.sc _, .sc _, .sc _, .sc _]) (ys := [.sc _, .sc _, .sc _, .sc _]) rfl rfl rfl rfl sz_impl_Account (fun h => by cases h) rfl (Nat.le_of_ble_eq_true rfl) rfl rfl rfl) rfl ?_
        refine SV.op (OpL.ok (nb := 2) (ok_move (v := V.one (.sc _)) (.inr rfl) rfl) rfl (Nat.le_of_ble_eq_true rfl)) rfl ?_
        refine SV.nil ?_
        refine SV.tn ?_
        refine SV.ret ?_
        refine SV.tr ?_
        apply SV.done (hf := Try.results19) (ht := rfl) (he := .inl rfl)
        case hr => exact (ResAll.cons (ResOk.cell (b := 1) (ag := true) (xs := [.sc _, .sc _, .sc _, .sc _]) rfl rfl agg_impl_Account sz_impl_Account (fun h => by cases h)) (ResAll.cons (ResOk.tmp (ag := false) (xs := [.sc _]) rfl) ResAll.nil'))
        case h2 => simp [two]
        refine ⟨rfl, ⟨?_, ?_, ?_, ?_, trivial⟩, ⟨rfl, ⟨?_, trivial⟩, trivial⟩⟩ <;> first | rfl | (rw [AccountD.setGrant_up ho hl]; rfl) | ((show some (T.lit (Value.int .i64 _)) = some (T.lit (Value.int .i64 _)); refine congrArg (fun z => some (T.lit (Value.int .i64 z))) ?_; rw [AccountD.setGrant_up ho hl]; (try dsimp only); omega)) | (rw [AccountD.setGrant_keep ho hl]; rfl) | ((show some (T.lit (Value.int .i64 _)) = some (T.lit (Value.int .i64 _)); refine congrArg (fun z => some (T.lit (Value.int .i64 z))) ?_; rw [AccountD.setGrant_keep ho hl]; (try dsimp only); omega)) | (rw [AccountD.setGrant_no ho]; rfl) | ((show some (T.lit (Value.int .i64 _)) = some (T.lit (Value.int .i64 _)); refine congrArg (fun z => some (T.lit (Value.int .i64 z))) ?_; rw [AccountD.setGrant_no ho]; (try dsimp only); omega)) | ((show some (T.lit (Value.bool _)) = some (T.lit (Value.bool _)); refine congrArg (fun z => some (T.lit (Value.bool z))) ?_; rw [ho]))
      · skip   -- c1.F
        cases hc1
    · skip   -- g2.F
      refine SV.opY (OpL.ok (nb := 2) (ok_field_bp (b := 0) (o' := 0) (off := 3) rfl rfl fld_impl_Account_3) rfl (Nat.le_of_ble_eq_true rfl)) rfl rfl rfl (Nat.le_of_ble_eq_true rfl) rfl rfl ?_
      refine SV.opY (OpL.ok (nb := 2) (ok_load_bp (b := 0) (i := 3) (ag := false) (m := 1) (ys := [.sc _]) rfl rfl rfl agg_int sz_int (fun _ => rfl) rfl rfl (Nat.le_of_ble_eq_true rfl)) rfl (Nat.le_of_ble_eq_true rfl)) rfl rfl rfl (Nat.le_of_ble_eq_true rfl) rfl rfl ?_
      refine SV.opY (OpL.ok (nb := 2) (ok_s2 (x := .tmp 16) (x' := .const ((Value.int IntKind.i64 1000))) (VScal.one rfl) (VScal.one rfl) (fun ρ h1 h2 w => by go_simp; (try go_bits); with_reducible rfl) rfl) rfl (Nat.le_of_ble_eq_true rfl)) rfl rfl rfl (Nat.le_of_ble_eq_true rfl) rfl rfl ?_
      refine SV.op (OpL.ok (nb := 2) (ok_pickF (v := V.one (.sc _)) rfl rfl rfl) rfl (Nat.le_of_ble_eq_true rfl)) rfl ?_
      refine SV.nil ?_
      refine SV.tn ?_
      refine SV.cond rfl (fun hc2 => ?_) (fun hc2 => ?_)
      · skip   -- c2.T
        have ho : AccountD.canSet a n = false := by
          rw [Bool.eq_false_iff, Ne]
          (try rw [AccountD.canSet_iff])
          rcases hb : AccountD.ok a with _ | _
          · simp [hb] at *
          · have hk := (AccountD.ok_iff a).1 hb
            simp [hb, AccountD.isGrant] at * <;> (try unfold wrap64 at *) <;> omega
        refine SV.seq' ?_
        refine SV.region ?_
        refine SV.op (OpL.ok (nb := 2) (ok_load_bp (b := 0) (i := 0) (ag := true) (m := 4) (ys := [.sc _, .sc _, .sc _, .sc _]) rfl rfl rfl agg_impl_Account sz_impl_Account (fun h => by cases h) rfl rfl (Nat.le_of_ble_eq_true rfl)) rfl (Nat.le_of_ble_eq_true rfl)) rfl ?_
        refine SV.op (ok_store_bp (b := 1) (i := 0) (m := 4) (ag := true) (zs := [.sc _, .sc _, .sc _, .sc _]) (ys := [.sc _, .sc _, .sc _, .sc _]) rfl rfl rfl rfl sz_impl_Account (fun h => by cases h) rfl (Nat.le_of_ble_eq_true rfl) rfl rfl rfl) rfl ?_
        refine SV.op (OpL.ok (nb := 2) (ok_move (v := V.one (.sc _)) (.inr rfl) rfl) rfl (Nat.le_of_ble_eq_true rfl)) rfl ?_
        refine SV.nil ?_
        refine SV.tn ?_
        refine SV.ret ?_
        refine SV.tr ?_
        apply SV.done (hf := Try.results19) (ht := rfl) (he := .inl rfl)
        case hr => exact (ResAll.cons (ResOk.cell (b := 1) (ag := true) (xs := [.sc _, .sc _, .sc _, .sc _]) rfl rfl agg_impl_Account sz_impl_Account (fun h => by cases h)) (ResAll.cons (ResOk.tmp (ag := false) (xs := [.sc _]) rfl) ResAll.nil'))
        case h2 => simp [two]
        refine ⟨rfl, ⟨?_, ?_, ?_, ?_, trivial⟩, ⟨rfl, ⟨?_, trivial⟩, trivial⟩⟩ <;> first | rfl | (rw [AccountD.setGrant_up ho hl]; rfl) | ((show some (T.lit (Value.int .i64 _)) = some (T.lit (Value.int .i64 _)); refine congrArg (fun z => some (T.lit (Value.int .i64 z))) ?_; rw [AccountD.setGrant_up ho hl]; (try dsimp only); omega)) | (rw [AccountD.setGrant_keep ho hl]; rfl) | ((show some (T.lit (Value.int .i64 _)) = some (T.lit (Value.int .i64 _)); refine congrArg (fun z => some (T.lit (Value.int .i64 z))) ?_; rw [AccountD.setGrant_keep ho hl]; (try dsimp only); omega)) | (rw [AccountD.setGrant_no ho]; rfl) | ((show some (T.lit (Value.int .i64 _)) = some (T.lit (Value.int .i64 _)); refine congrArg (fun z => some (T.lit (Value.int .i64 z))) ?_; rw [AccountD.setGrant_no ho]; (try dsimp only); omega)) | ((show some (T.lit (Value.bool _)) = some (T.lit (Value.bool _)); refine congrArg (fun z => some (T.lit (Value.bool z))) ?_; rw [ho]))
      · skip   -- c2.F
        have ho : AccountD.canSet a n = true := by
          rw [show (AccountD.canSet a n = true) = (AccountD.canSet a n = true) from rfl]
          (try rw [AccountD.canSet_iff])
          rcases hb : AccountD.ok a with _ | _
          · simp [hb] at *
          · have hk := (AccountD.ok_iff a).1 hb
            simp [hb, AccountD.isGrant] at * <;> (try unfold wrap64 at *) <;> omega
        have hh := (AccountD.canSet_iff a n).1 ho
        have hk := (AccountD.ok_iff a).1 hh.1
        refine SV.skip ?_
        refine SV.tn ?_
        refine SV.seq' ?_
        refine SV.region ?_
        refine SV.op (OpL.ok (nb := 2) (ok_move (v := V.one (.sc _)) (.inl rfl) rfl) rfl (Nat.le_of_ble_eq_true rfl)) rfl ?_
        refine SV.op (OpL.ok (nb := 2) (ok_field_bp (b := 0) (o' := 0) (off := 1) rfl rfl fld_impl_Account_1) rfl (Nat.le_of_ble_eq_true rfl)) rfl ?_
        refine SV.op (ok_store_bp (b := 0) (i := 1) (m := 1) (ag := false) (zs := [.sc _]) (ys := [.sc _, .sc _, .sc _, .sc _]) rfl rfl rfl rfl sz_int (fun _ => rfl) rfl (Nat.le_of_ble_eq_true rfl) rfl rfl rfl) rfl ?_
        refine SV.nil ?_
        refine SV.tn ?_
        refine SV.seq' ?_
        refine SV.seq' ?_
        refine SV.region ?_
        refine SV.op (OpL.ok (nb := 2) (ok_load_bp (b := 0) (i := 0) (ag := true) (m := 4) (ys := [.sc _, .sc _, .sc _, .sc _]) rfl rfl rfl agg_impl_Account sz_impl_Account (fun h => by cases h) rfl rfl (Nat.le_of_ble_eq_true rfl)) rfl (Nat.le_of_ble_eq_true rfl)) rfl ?_
        refine SV.op (OpMk.ok (ok_call (ls := [(false, [.sc _])]) rfl rfl ⟨_, _, Try.func16, rfl, by decide⟩ (vexcess_i ⟨a.fUsed, n, a.fPeak, a.fOvercommits⟩) ⟨⟨[.sc _, .sc _, .sc _, .sc _], rfl, ⟨rfl, rfl, rfl, rfl, trivial⟩⟩, trivial⟩ rfl (Nat.le_of_ble_eq_true rfl))) rfl ?_
        refine SV.op (OpL.ok (nb := 2) (ok_s2 (x := .tmp 23) (x' := .const ((Value.int IntKind.i64 0))) (VScal.one rfl) (VScal.one rfl) (fun ρ h1 h2 w => by go_simp; (try go_bits); with_reducible rfl) rfl) rfl (Nat.le_of_ble_eq_true rfl)) rfl ?_
        refine SV.nil ?_
        refine SV.tn ?_
        refine SV.cond rfl (fun hc3 => ?_) (fun hc3 => ?_)
        · skip   -- c3.T
          have hx : AccountD.excess ⟨a.fUsed, n, a.fPeak, a.fOvercommits⟩ = max 0 (a.fUsed - n) := AccountD.excess_yes (by rw [AccountD.ok_iff]; dsimp only; omega)
          rw [hx] at hc3
          have hl : n < a.fUsed := by simp at hc3; omega
          refine SV.region ?_
          refine SV.op (OpL.ok (nb := 2) (ok_field_bp (b := 0) (o' := 0) (off := 3) rfl rfl fld_impl_Account_3) rfl (Nat.le_of_ble_eq_true rfl)) rfl ?_
          refine SV.op (OpL.ok (nb := 2) (ok_load_bp (b := 0) (i := 3) (ag := false) (m := 1) (ys := [.sc _]) rfl rfl rfl agg_int sz_int (fun _ => rfl) rfl rfl (Nat.le_of_ble_eq_true rfl)) rfl (Nat.le_of_ble_eq_true rfl)) rfl ?_
          refine SV.op (OpL.ok (nb := 2) (ok_s2 (v := .int .i64 (a.fOvercommits + 1)) (x := .tmp 26) (x' := .const ((Value.int IntKind.i64 1))) (VScal.one rfl) (VScal.one rfl) (fun ρ h1 h2 w => by go_simp; rw [IntWalk.i64_left, IntWalk.wrap64_in _ ⟨by omega, by omega⟩]) rfl) rfl (Nat.le_of_ble_eq_true rfl)) rfl ?_
          refine SV.op (OpL.ok (nb := 2) (ok_field_bp (b := 0) (o' := 0) (off := 3) rfl rfl fld_impl_Account_3) rfl (Nat.le_of_ble_eq_true rfl)) rfl ?_
          refine SV.op (ok_store_bp (b := 0) (i := 3) (m := 1) (ag := false) (zs := [.sc _]) (ys := [.sc _, .sc _, .sc _, .sc _]) rfl rfl rfl rfl sz_int (fun _ => rfl) rfl (Nat.le_of_ble_eq_true rfl) rfl rfl rfl) rfl ?_
          refine SV.nil ?_
          refine SV.tn ?_
          refine SV.seq' ?_
          refine SV.region ?_
          refine SV.op (OpL.ok (nb := 2) (ok_load_bp (b := 0) (i := 0) (ag := true) (m := 4) (ys := [.sc _, .sc _, .sc _, .sc _]) rfl rfl rfl agg_impl_Account sz_impl_Account (fun h => by cases h) rfl rfl (Nat.le_of_ble_eq_true rfl)) rfl (Nat.le_of_ble_eq_true rfl)) rfl ?_
          refine SV.op (ok_store_bp (b := 1) (i := 0) (m := 4) (ag := true) (zs := [.sc _, .sc _, .sc _, .sc _]) (ys := [.sc _, .sc _, .sc _, .sc _]) rfl rfl rfl rfl sz_impl_Account (fun h => by cases h) rfl (Nat.le_of_ble_eq_true rfl) rfl rfl rfl) rfl ?_
          refine SV.op (OpL.ok (nb := 2) (ok_move (v := V.one (.sc _)) (.inr rfl) rfl) rfl (Nat.le_of_ble_eq_true rfl)) rfl ?_
          refine SV.nil ?_
          refine SV.tn ?_
          refine SV.ret ?_
          apply SV.done (hf := Try.results19) (ht := rfl) (he := .inl rfl)
          case hr => exact (ResAll.cons (ResOk.cell (b := 1) (ag := true) (xs := [.sc _, .sc _, .sc _, .sc _]) rfl rfl agg_impl_Account sz_impl_Account (fun h => by cases h)) (ResAll.cons (ResOk.tmp (ag := false) (xs := [.sc _]) rfl) ResAll.nil'))
          case h2 => simp [two]
          refine ⟨rfl, ⟨?_, ?_, ?_, ?_, trivial⟩, ⟨rfl, ⟨?_, trivial⟩, trivial⟩⟩ <;> first | rfl | (rw [AccountD.setGrant_up ho hl]; rfl) | ((show some (T.lit (Value.int .i64 _)) = some (T.lit (Value.int .i64 _)); refine congrArg (fun z => some (T.lit (Value.int .i64 z))) ?_; rw [AccountD.setGrant_up ho hl]; (try dsimp only); omega)) | (rw [AccountD.setGrant_keep ho hl]; rfl) | ((show some (T.lit (Value.int .i64 _)) = some (T.lit (Value.int .i64 _)); refine congrArg (fun z => some (T.lit (Value.int .i64 z))) ?_; rw [AccountD.setGrant_keep ho hl]; (try dsimp only); omega)) | (rw [AccountD.setGrant_no ho]; rfl) | ((show some (T.lit (Value.int .i64 _)) = some (T.lit (Value.int .i64 _)); refine congrArg (fun z => some (T.lit (Value.int .i64 z))) ?_; rw [AccountD.setGrant_no ho]; (try dsimp only); omega)) | ((show some (T.lit (Value.bool _)) = some (T.lit (Value.bool _)); refine congrArg (fun z => some (T.lit (Value.bool z))) ?_; rw [ho]))
        · skip   -- c3.F
          have hx : AccountD.excess ⟨a.fUsed, n, a.fPeak, a.fOvercommits⟩ = max 0 (a.fUsed - n) := AccountD.excess_yes (by rw [AccountD.ok_iff]; dsimp only; omega)
          rw [hx] at hc3
          have hl : ¬ n < a.fUsed := by simp at hc3; omega
          refine SV.skip ?_
          refine SV.tn ?_
          refine SV.seq' ?_
          refine SV.region ?_
          refine SV.op (OpL.ok (nb := 2) (ok_load_bp (b := 0) (i := 0) (ag := true) (m := 4) (ys := [.sc _, .sc _, .sc _, .sc _]) rfl rfl rfl agg_impl_Account sz_impl_Account (fun h => by cases h) rfl rfl (Nat.le_of_ble_eq_true rfl)) rfl (Nat.le_of_ble_eq_true rfl)) rfl ?_
          refine SV.op (ok_store_bp (b := 1) (i := 0) (m := 4) (ag := true) (zs := [.sc _, .sc _, .sc _, .sc _]) (ys := [.sc _, .sc _, .sc _, .sc _]) rfl rfl rfl rfl sz_impl_Account (fun h => by cases h) rfl (Nat.le_of_ble_eq_true rfl) rfl rfl rfl) rfl ?_
          refine SV.op (OpL.ok (nb := 2) (ok_move (v := V.one (.sc _)) (.inr rfl) rfl) rfl (Nat.le_of_ble_eq_true rfl)) rfl ?_
          refine SV.nil ?_
          refine SV.tn ?_
          refine SV.ret ?_
          apply SV.done (hf := Try.results19) (ht := rfl) (he := .inl rfl)
          case hr => exact (ResAll.cons (ResOk.cell (b := 1) (ag := true) (xs := [.sc _, .sc _, .sc _, .sc _]) rfl rfl agg_impl_Account sz_impl_Account (fun h => by cases h)) (ResAll.cons (ResOk.tmp (ag := false) (xs := [.sc _]) rfl) ResAll.nil'))
          case h2 => simp [two]
          refine ⟨rfl, ⟨?_, ?_, ?_, ?_, trivial⟩, ⟨rfl, ⟨?_, trivial⟩, trivial⟩⟩ <;> first | rfl | (rw [AccountD.setGrant_up ho hl]; rfl) | ((show some (T.lit (Value.int .i64 _)) = some (T.lit (Value.int .i64 _)); refine congrArg (fun z => some (T.lit (Value.int .i64 z))) ?_; rw [AccountD.setGrant_up ho hl]; (try dsimp only); omega)) | (rw [AccountD.setGrant_keep ho hl]; rfl) | ((show some (T.lit (Value.int .i64 _)) = some (T.lit (Value.int .i64 _)); refine congrArg (fun z => some (T.lit (Value.int .i64 z))) ?_; rw [AccountD.setGrant_keep ho hl]; (try dsimp only); omega)) | (rw [AccountD.setGrant_no ho]; rfl) | ((show some (T.lit (Value.int .i64 _)) = some (T.lit (Value.int .i64 _)); refine congrArg (fun z => some (T.lit (Value.int .i64 z))) ?_; rw [AccountD.setGrant_no ho]; (try dsimp only); omega)) | ((show some (T.lit (Value.bool _)) = some (T.lit (Value.bool _)); refine congrArg (fun z => some (T.lit (Value.bool z))) ?_; rw [ho]))
end Go.Proofs.Ytjdjceohlcimaaa
/- Draws that call draws: the entry tells that nothing is lent. -/
namespace Go.Proofs.Ytjdjceohlcimaaa.V
open Go Go.RowKit
set_option linter.unusedVariables false
variable {P : Program} {ad : Option Addr} {len cap : Nat} {zs : List Int}
theorem VCE.enterL {Y : Type} {Pr : Y → Prop} {f : FuncId} {fn : Func} {c0 : Go.Code} {n : Nat} {tup : Bool} {rs : Y → List (Bool × List T)} (hf : P.funcs[f]? = some fn) (hb : fn.body = some c0) (hn : fn.ntmps = n) (hl : 1 ≤ n)
    (h : ∀ E, E.plain 0 → E.code ad len cap zs → (E.keeps fun w => Code ad len cap zs w) → SV E n (VS.init ([(false, [T.lit (.slice ad len cap)])].map fun p => V.flat p.1 (p.2.map argLeaf))) (c0.wp P (bodyPost P fn fun e w' => ∃ y, Pr y ∧ Gives E tup (rs y) e w'))) : VCE (fun w => Code ad len cap zs w) Pr P f [(false, [.lit (.slice ad len cap)])] tup rs := fun w hw vs hv => by
  refine calls_of_wp hf hb ?_
  obtain ⟨G, hG⟩ := init_rel (E := Env.of w) ⟨rfl, rfl⟩ (n := n) hv (by rw [hv.1]; exact hl)
  have := h (Env.of w) ⟨rfl, rfl⟩ ⟨hw, fun _ _ _ h => h⟩ ⟨hw, fun _ h => h, fun w' hb => hw.below hb⟩ _ _ G hG
  rw [hn]
  have e : (Env.of w).w0 = w := rfl
  rw [e] at this
  simpa using this
end Go.Proofs.Ytjdjceohlcimaaa.V
/- States told by trees: a nested slice is taken out of an object, as an object of its own. -/
namespace Go.Proofs.Ytjdjceohlcimaaa.V
open Go Go.RowKit
set_option linter.unusedVariables false
variable {P : Program} {E : Env} {N : Nat} {σ σ' τ : VS} {a : Act} {w ws : World} {G : Ghost}
theorem at_ne {n k k' j o : Nat} (hj : j < n) (ho : o < n) (h : k' ≠ k) : k' * n + j ≠ k * n + o := by
  rcases Nat.lt_or_gt_of_ne h with h1 | h1
  · have := Nat.mul_le_mul_right n (show k' + 1 ≤ k from h1)
    rw [Nat.add_mul, Nat.one_mul] at this
    omega
  · have := Nat.mul_le_mul_right n (show k + 1 ≤ k' from h1)
    rw [Nat.add_mul, Nat.one_mul] at this
    omega
/-- What is left of an object when a nested slice is taken out. -/
theorem Own.take {ty pty : TypeId} {es : List (List T)} {e : List T} {ps : List (List T)} {v u : Value} {F : Nat → Prop} {k o : Nat} (h : Own w 0 (.seq ty es) v F) (hk : es[k]? = some e) (ho : e[o]? = some (.seq pty ps))
    (hu : ∀ xs : List Value, ∀ n, e.length = n → w.ownsRow 0 ty n v es.length xs → xs[k * n + o]? = some u) : ∃ D : Nat → Prop, Own w 0 (.seq pty ps) u D ∧ (∀ b, D b → F b) ∧ Own w 0 (.seq ty (es.set k (e.set o .any))) v (fun b => F b ∧ ¬ D b) := by
  cases h with
  | seq n hp hz hn xs hown Gs hr hone hF hG hne hd =>
    have hen : e.length = n := hn e (get_mem hk)
    have hon : o < n := by rw [← hen]; exact get_lt ho
    have hx := hu xs n hen hown
    refine ⟨Gs (k * n + o), hr k e o _ u hk ho hx, fun b hb => hG _ b hb, ?_⟩
    refine .seq n hp hz (fun f hf => ?_) xs (by rw [List.length_set]; exact hown) (fun i b => Gs i b ∧ i ≠ k * n + o) (fun k' e' j t u' h1 h2 h3 => ?_) hone (fun b hb => ⟨hF b hb, fun hg => hne _ b hg hb⟩) (fun i b hb => ⟨hG i b hb.1, fun hg => hb.2 (hd _ _ b hb.1 hg)⟩) (fun i b hb => hne i b hb.1) fun i j b h1 h2 => hd i j b h1.1 h2.1
    · rcases List.mem_or_eq_of_mem_set hf with h1 | h1
      · exact hn f h1
      · rw [h1, List.length_set]; exact hen
    · by_cases hkk : k' = k
      · subst hkk
        rw [List.getElem?_set_self (get_lt hk)] at h1
        cases h1
        by_cases hjo : j = o
        · subst hjo
          rw [List.getElem?_set_self (get_lt ho)] at h2
          cases h2
          exact .any (hone _ (get_mem h3))
        · rw [List.getElem?_set_ne (fun q => hjo q.symm)] at h2
          exact (hr k' e j t u' hk h2 h3).mono fun b hb => ⟨hb, by omega⟩
      · rw [List.getElem?_set_ne (fun q => hkk q.symm)] at h1
        have hjn : j < n := by rw [← hn e' (get_mem h1)]; exact get_lt h2
        exact (hr k' e' j t u' h1 h2 h3).mono fun b hb => ⟨hb, at_ne hjn hon hkk⟩
/-- The nested slice that a slot holds is taken out of its object: an object of its own. -/
theorem Rel.take (h : Rel E N σ a w G) {d i ver k o p : Nat} {ag : Bool} {ls : List Leaf} {ty pty : TypeId} {es : List (List T)} {e : List T} {ps : List (List T)} (hd : d < N) (hs : σ.tm d = V.flat ag ls) (hp : ls[p]? = some (.nd i ver (.seq pty ps) (some (k, o)))) (hi : σ.ob i = some (ver, .seq ty es)) (hk : es[k]? = some e) (ho : e[o]? = some (.seq pty ps)) :
    ∃ G', Rel E N (((σ.setob i (.seq ty (es.set k (e.set o .any)))).new (.seq pty ps)).put d (V.flat ag (ls.set p (.hd σ.nx)))) a w G' ∧ (∀ j, j < σ.nx → G'.vl j = G.vl j) ∧ G'.β = G.β := by
  have ht := h.tmps d
  rw [hs] at ht
  obtain ⟨uss, hl, hval, hh⟩ := ht
  obtain ⟨us, rfl⟩ : ∃ us, uss = [us] := by
    match uss, hl with
    | [us], _ => exact ⟨us, rfl⟩
  obtain ⟨hlen, hcell⟩ := hh 0 ag ls us rfl rfl
  have hpl : p < us.length := by rw [hlen]; exact get_lt hp
  obtain ⟨u, hu⟩ : ∃ u, us[p]? = some u := ⟨us[p], List.getElem?_eq_getElem hpl⟩
  obtain ⟨⟨hin, -, hnd⟩, -⟩ := hcell p _ u hp hu
  obtain ⟨-, hloc⟩ := hnd ⟨_, hi⟩
  obtain ⟨g, M, c, n, ty', es', e', h1, h2, h3, h4, h5, h6⟩ := hloc k o rfl
  rw [hi] at h1
  cases h1
  rw [hk] at h3
  cases h3
  obtain ⟨hlt, hown, -⟩ := h.objs i ver _ hi
  obtain ⟨D, hD1, hD2, hD3⟩ := hown.take (u := u) hk ho fun xs m hm hrow => by
    have hmn : m = n := hm.symm.trans h4
    subst hmn
    have hcl := at_lt (get_lt hk) h5
    obtain ⟨ad, c', hv, -, -, -, hg⟩ := own_slice hrow
    have hpos : 0 < es.length := Nat.lt_of_le_of_lt (Nat.zero_le _) (get_lt hk)
    obtain ⟨g', hg', -, -, hx, -⟩ := hg hpos
    rw [h2] at hv
    injection hv with hv1 hv2 hv3
    rw [hg'] at hv1
    injection hv1 with hv1
    injection hv1 with hv1
    subst hv1
    have hxl : xs.length = es.length * m := hrow.1
    have hxs : xs[k * m + o]? = some xs[k * m + o] := List.getElem?_eq_getElem (by rw [hxl]; exact hcl)
    have := (hx _ _ hxs).symm.trans h6
    rw [hxs, this]
  obtain ⟨σ1, hσ1⟩ : ∃ σ1, σ1 = (σ.setob i (.seq ty (es.set k (e.set o .any)))).new (.seq pty ps) := ⟨_, rfl⟩
  obtain ⟨G', hG'⟩ : ∃ G' : Ghost, G' = { G with vl := fun j => if j = σ.nx then u else G.vl j, ft := fun j => if j = σ.nx then D else if j = i then (fun b => G.ft i b ∧ ¬ D b) else G.ft j } := ⟨_, rfl⟩
  have hine : i ≠ σ.nx := Nat.ne_of_lt hlt
  have hvn : G'.vl σ.nx = u := by rw [hG']; exact if_pos rfl
  have hfn : G'.ft σ.nx = D := by rw [hG']; exact if_pos rfl
  have hvo : ∀ j, j ≠ σ.nx → G'.vl j = G.vl j := fun j hj => by rw [hG']; exact if_neg hj
  have hfi : G'.ft i = fun b => G.ft i b ∧ ¬ D b := by rw [hG']; show (if i = σ.nx then _ else _) = _; rw [if_neg hine, if_pos rfl]
  have hfo : ∀ j, j ≠ σ.nx → j ≠ i → G'.ft j = G.ft j := fun j hj hji => by rw [hG']; show (if j = σ.nx then _ else _) = _; rw [if_neg hj, if_neg hji]
  have hb1 : σ1.ob σ.nx = some (0, .seq pty ps) := by rw [hσ1]; show (bif Nat.beq σ.nx σ.nx then _ else _) = _; rw [Nat.beq_refl]; rfl
  have hb2 : σ1.ob i = some (ver + 1, .seq ty (es.set k (e.set o .any))) := by rw [hσ1]; show (bif Nat.beq i σ.nx then _ else _) = _; rw [nbne hine]; show (σ.setob i _).ob i = _; rw [setob_self, hi]; rfl
  have hb3 : ∀ j, j ≠ σ.nx → j ≠ i → σ1.ob j = σ.ob j := fun j hj hji => by rw [hσ1]; show (bif Nat.beq j σ.nx then _ else _) = _; rw [nbne hj]; exact setob_ne hji
  have hft : ∀ j b, σ1.ob j ≠ none → G'.ft j b → (j = σ.nx ∧ D b) ∨ (j = i ∧ G.ft i b ∧ ¬ D b) ∨ (j ≠ σ.nx ∧ j ≠ i ∧ σ.ob j ≠ none ∧ G.ft j b) := fun j b hj hb => by
    by_cases h7 : j = σ.nx
    · subst h7; rw [hfn] at hb; exact .inl ⟨rfl, hb⟩
    · by_cases h8 : j = i
      · subst h8; rw [hfi] at hb; exact .inr (.inl ⟨rfl, hb⟩)
      · rw [hfo j h7 h8] at hb; rw [hb3 j h7 h8] at hj; exact .inr (.inr ⟨h7, h8, hj, hb⟩)
  have hio : σ.ob i ≠ none := by rw [hi]; simp
  have hturn := h.turn (σ' := σ1) (w' := w) (G' := G') (fun _ => False) (by rw [hσ1]; rfl) (by rw [hσ1]; rfl) (by rw [hG']) (Same.refl _ _) (fun _ _ _ => rfl) (fun _ _ hf => hf) (by rw [hσ1]; exact Nat.le_succ _) (fun j hj => hvo j (Nat.ne_of_lt hj)) (fun j v' t' hv => by
      by_cases h7 : j = σ.nx
      · subst h7
        rw [hb1] at hv
        cases hv
        refine .inr ⟨by rw [hσ1]; exact Nat.lt_succ_self _, fun hlt => absurd hlt (Nat.lt_irrefl _), by rw [hvn, hfn]; exact hD1, ⟨_, _, rfl⟩, fun b hb => ?_, fun b hb c hc e => ?_⟩
        · rw [hfn] at hb; exact h.ftlt i b hio (hD2 b hb)
        · rw [hfn] at hb; exact h.boxft c i hc hio (by rw [e]; exact hD2 b hb)
      · by_cases h8 : j = i
        · subst h8
          rw [hb2] at hv
          cases hv
          refine .inr ⟨by rw [hσ1]; exact Nat.lt_succ_of_lt hlt, fun _ => ⟨ver, _, hi, Nat.lt_succ_self _⟩, by rw [hvo j h7, hfi]; exact hD3, ⟨_, _, rfl⟩, fun b hb => ?_, fun b hb c hc e => ?_⟩
          · rw [hfi] at hb; exact h.ftlt j b hio hb.1
          · rw [hfi] at hb; exact h.boxft c j hc hio (by rw [e]; exact hb.1)
        · rw [hb3 j h7 h8] at hv
          exact .inl ⟨hv, fun b => by rw [hfo j h7 h8], fun _ _ hf => hf⟩) fun j1 j2 b hj1 hj2 hne hf1 hf2 => by
    rcases hft j1 b hj1 hf1 with ⟨q1, q2⟩ | ⟨q1, q2, q3⟩ | ⟨q1, q2, q3, q4⟩ <;> rcases hft j2 b hj2 hf2 with ⟨r1, r2⟩ | ⟨r1, r2, r3⟩ | ⟨r1, r2, r3, r4⟩
    · exact hne (q1.trans r1.symm)
    · exact r3 q2
    · exact h.disj j2 i b r3 hio r2 r4 (hD2 b q2)
    · exact q3 r2
    · exact hne (q1.trans r1.symm)
    · exact h.disj j2 i b r3 hio r2 r4 q2
    · exact h.disj j1 i b q3 hio q2 q4 (hD2 b r2)
    · exact h.disj j1 i b q3 hio q2 q4 r2
    · exact h.disj j1 j2 b q3 r3 hne q4 r4
  refine ⟨G', ?_, fun j hj => hvo j (Nat.ne_of_lt hj), by rw [hG']⟩
  rw [← hσ1]
  have hput := hturn.1.put (d := d) (v := V.flat ag (ls.set p (.hd σ.nx))) (u := a.tmps.getD d undef) hd ⟨[us], rfl, hval, fun c ag' xs us' hc hus => by
    match c, hc, hus with
    | 0, hc, hus =>
      cases hc
      cases hus
      refine ⟨by rw [List.length_set]; exact hlen, fun j x u' hx hu' => ?_⟩
      by_cases hjp : j = p
      · subst hjp
        rw [List.getElem?_set_self (get_lt hp)] at hx
        cases hx
        rw [hu] at hu'
        cases hu'
        refine ⟨⟨by rw [hσ1]; exact Nat.lt_succ_self _, hvn.symm⟩, .inr ?_⟩
        exact hD1.one
      · rw [List.getElem?_set_ne (fun q => hjp q.symm)] at hx
        exact hturn.2 x u' (hcell j x u' hx hu')⟩
  have hself : a.put (some d) (a.tmps.getD d undef) = a := by
    have hsz := h.nsz
    cases a with
    | mk tmps defers =>
      show Act.mk (tmps.setIfInBounds d (tmps.getD d undef)) defers = Act.mk tmps defers
      congr 1
      have hdl : d < tmps.size := by rw [show tmps.size = N from hsz]; exact hd
      apply Array.ext
      · simp
      · intro q hq1 hq2
        rw [Array.getElem_setIfInBounds]
        by_cases hqd : d = q
        · subst hqd; rw [if_pos rfl]; simp [Array.getD, hdl]
        · rw [if_neg hqd]
  rw [hself] at hput
  exact hput
theorem SV.take {K : Act → World → Prop} {d i ver k o p : Nat} {ag : Bool} {ls : List Leaf} {ty pty : TypeId} {es : List (List T)} {e : List T} {ps : List (List T)} (hs : σ.tm d = V.flat ag ls) (hp : ls[p]? = some (.nd i ver (.seq pty ps) (some (k, o)))) (hi : σ.ob i = some (ver, .seq ty es)) (hk : es[k]? = some e) (ho : e[o]? = some (.seq pty ps)) (hd : d < N)
    (q : SV E N (((σ.setob i (.seq ty (es.set k (e.set o .any)))).new (.seq pty ps)).put d (V.flat ag (ls.set p (.hd σ.nx)))) K) : SV E N σ K := fun a w G h => by
  obtain ⟨G', h1, -⟩ := h.take hd hs hp hi hk ho
  exact q a w G' h1
theorem DW.take {fr : List Nat} {cl : Bool} {Ψ : World → Ghost → Act → World → Prop} {d i ver k o p : Nat} {ag : Bool} {ls : List Leaf} {ty pty : TypeId} {es : List (List T)} {e : List T} {ps : List (List T)} (hs : σ.tm d = V.flat ag ls) (hp : ls[p]? = some (.nd i ver (.seq pty ps) (some (k, o)))) (hi : σ.ob i = some (ver, .seq ty es)) (hk : es[k]? = some e) (ho : e[o]? = some (.seq pty ps)) (hd : d < N)
    (q : DW E N τ fr false (((σ.setob i (.seq ty (es.set k (e.set o .any)))).new (.seq pty ps)).put d (V.flat ag (ls.set p (.hd σ.nx)))) Ψ) : DW E N τ fr cl σ Ψ := fun ws Gs a w G h hl => by
  obtain ⟨G', h1, h2, h3⟩ := h.take hd hs hp hi hk ho
  refine q ws Gs a w G' h1 ⟨hl.start, hl.same, fun j hj => (h2 j (Nat.lt_of_lt_of_le hj hl.nx)).trans (hl.vl j hj), fun b hb => by rw [h3]; exact hl.β b hb, Nat.le_trans hl.nx (Nat.le_succ _), hl.bs, fun j hj => ⟨Nat.lt_succ_of_lt (hl.fresh j hj).1, fun b hb => (hl.fresh j hj).2 b ?_⟩, fun e => by cases e⟩
  rw [← h2 j (hl.fresh j hj).1]
  exact hb
end Go.Proofs.Ytjdjceohlcimaaa.V
