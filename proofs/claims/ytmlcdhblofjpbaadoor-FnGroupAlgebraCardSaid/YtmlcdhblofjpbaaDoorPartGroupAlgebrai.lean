/- Texts joined: DrawG2 DrawG3 GroupT GroupA CutAt InT SameG. -/
import Derived.Test.YtmlcdhblofjpbaaDoorPartGroupAlgebrah
/- Groups that are drawn: told by trees. -/
namespace Go.Proofs.YtmlcdhblofjpbaaDoor
open Go Go.RowKit V
set_option linter.unusedVariables false
def GroupD.keyOk (g : GroupD) : Prop := -9223372036854775808 ≤ g.fKey ∧ g.fKey ≤ 9223372036854775807
set_option maxRecDepth 100000 in
set_option maxHeartbeats 2000000 in
theorem vk_groups {ad : Option Addr} {len cap : Nat} {zs : List Int}  : VK ad len cap zs (fun X : List GroupD => X.length ≤ 15 ∧ ∀ g ∈ X, GroupD.keyOk g) Tryd.prog 64 [] false (fun X => [(false, [.seq 33 (X.map tGroup)])]) := by
  refine VK.enter Tryd.func64 rfl Tryd.ntmps64 (Nat.le_of_ble_eq_true rfl) (by simp) fun E c p h0 hE hC hpin hp => ?_
  refine SV.seq' ?_
  refine SV.region ?_
  refine SV.op (OpL.ok (nb := 1) (ok_move (v := V.one (.sc _)) (.inr rfl) rfl) rfl (Nat.le_of_ble_eq_true rfl)) rfl ?_
  refine SV.nil ?_
  refine SV.tn ?_
  refine SV.seq' ?_
  refine SV.region ?_
  refine SV.op (OpMk.ok (ok_lit0 (kk := 0) elt_impl_Group rfl rfl rfl (Nat.le_of_ble_eq_true rfl))) rfl ?_
  refine SV.op (OpL.ok (nb := 1) (ok_move (v := V.one (.hd 0)) (.inr rfl) rfl) rfl (Nat.le_of_ble_eq_true rfl)) rfl ?_
  refine SV.nil ?_
  refine SV.tn ?_
  refine SV.seq' ?_
  refine SV.seq' ?_
  refine SV.region ?_
  refine SV.op (OpL.ok (nb := 1) (ok_move (v := V.one (.bp 0 0)) (.inl rfl) rfl) rfl (Nat.le_of_ble_eq_true rfl)) rfl ?_
  refine SV.callK (b := 0) hC rfl ⟨_, _, Tryd.func103, rfl, by decide⟩ (vk_below 6 (by decide) (by decide)) rfl ⟨rfl, trivial⟩ rfl hp rfl (Nat.le_of_ble_eq_true rfl) (fun _ => wanted0 rfl) ?_
  rintro k0 p1 h1 ⟨hk0, hk1⟩ hp1
  refine SV.op (OpL.ok (nb := 1) (ok_move (v := V.one (.sc _)) (.inr rfl) rfl) rfl (Nat.le_of_ble_eq_true rfl)) rfl ?_
  refine SV.nil ?_
  refine SV.tn ?_
  refine SV.block ?_
  refine SV.loopF (X := Int × Int × Int × List GroupD) (fun (σ : VS) z => ((((((VS.nil.new (.seq 33 ((z.2.2.2).map tGroup))).box 121 [σ.bl 0 0, .sc (.int .i64 (z.1)), .sc (.int .i64 (z.2.1))]).put 0 (V.flat false [.bp 0 0])).put 2 (σ.tm 2)).put 3 (V.flat false [.hd 0])).put 4 (V.flat false [.sc (.int .i64 (z.2.2.1))]))) (fun z => (0 ≤ z.1 ∧ z.1 ≤ len) ∧ 0 ≤ z.2.2.1 ∧ z.2.2.2.length + 3 * z.2.2.1.toNat ≤ 15 ∧ ∀ g ∈ z.2.2.2, GroupD.keyOk g) (fun z => z.2.2.1.toNat) ?_ ?_
  · skip
    refine SV.again (fun i => [0].getD i 0) (p1, h1, k0, []) (⟨hp1, hk0, (by show 0 + 3 * k0.toNat ≤ 15; omega), fun g hg => by cases hg⟩) (pinsC hE rfl) (VS.le.mk' (le_put (le_put (le_put (le_put (le_box (le_new le_nil)) (V.le.keep (ag := false) (xs := [.bp 0 0]) (ys := [.bp 0 0]) rfl rfl ⟨⟨rfl, (Nat.le_of_ble_eq_true rfl)⟩, trivial⟩)) (V.le.keep (ag := false) (xs := [.sc _]) (ys := [.sc _]) rfl rfl ⟨rfl, trivial⟩)) (V.le.keep (ag := false) (xs := [.hd 0]) (ys := [.hd 0]) rfl rfl ⟨⟨rfl, (Nat.le_of_ble_eq_true rfl), (Nat.le_of_ble_eq_true rfl)⟩, trivial⟩)) (V.le.keep (ag := false) (xs := [.sc _]) (ys := [.sc _]) rfl rfl ⟨(by first | rfl | (show Leaf.sc _ = Leaf.sc _; refine congrArg Leaf.sc ?_; first | rfl | go_num | (simp [cntAll]; done)) | (simp [cntAll]; done) | (simp; omega)), trivial⟩)) ⟨⟨rfl, ⟨rfl, (by first | rfl | (show Leaf.sc _ = Leaf.sc _; refine congrArg Leaf.sc ?_; first | rfl | go_num | (simp [cntAll]; done)) | (simp [cntAll]; done) | (simp; omega)), (by first | rfl | (show Leaf.sc _ = Leaf.sc _; refine congrArg Leaf.sc ?_; first | rfl | go_num | (simp [cntAll]; done)) | (simp [cntAll]; done) | (simp; omega)), trivial⟩⟩, trivial⟩ ⟨.inr ⟨_, _, rfl, ?ob1_0, (Nat.le_of_ble_eq_true rfl)⟩, trivial⟩ (new_ob nil_ob) (fun i j hi hj e => inj_list (l := [0]) (by decide) i j hi hj e))
    case ob1_0 =>
      show some (T.seq _ _) = some (T.seq _ _)
      first | rfl | exact congrArg some (congrArg (T.seq _) (by simp))
  · rintro ⟨p, h, n, X⟩ ⟨hq, hn0, hX, hXk⟩
    dsimp only at hq hn0 hX hXk
    refine SV.seq' ?_
    refine SV.seq' ?_
    refine SV.region ?_
    refine SV.op (OpL.ok (nb := 1) (ok_move (v := V.one (.sc _)) (.inl rfl) rfl) rfl (Nat.le_of_ble_eq_true rfl)) rfl ?_
    refine SV.op (OpL.ok (nb := 1) (ok_s2 (x := .tmp 9) (x' := .const ((Value.int IntKind.i64 0))) (VScal.one rfl) (VScal.one rfl) (fun ρ h1 h2 w => by go_simp; (try go_bits); with_reducible rfl) rfl) rfl (Nat.le_of_ble_eq_true rfl)) rfl ?_
    refine SV.nil ?_
    refine SV.tn ?_
    refine SV.cond rfl (fun hc0 => ?_) (fun hc0 => ?_)
    · skip   -- c0.T
      have hn2 : 0 < n := by simpa using hc0
      refine SV.skip ?_
      refine SV.tn ?_
      refine SV.seq' ?_
      refine SV.block ?_
      refine SV.seq' ?_
      refine SV.region ?_
      refine SV.op (OpL.ok (nb := 1) (ok_move (v := V.one (.bp 0 0)) (.inl rfl) rfl) rfl (Nat.le_of_ble_eq_true rfl)) rfl ?_
      refine SV.callK (b := 0) hC rfl ⟨_, _, Tryd.func92, rfl, by decide⟩ (vk_rows 3 (by decide) (by decide)) rfl ⟨rfl, trivial⟩ rfl hq rfl (Nat.le_of_ble_eq_true rfl) (fun _ => wanted0 rfl) ?_
      rintro A p2 h2 ⟨hA, hwA⟩ hp2
      have hml := GroupD.merge_length (A.map GroupD.ofRow)
      rw [List.length_map] at hml
      have hkk : ∀ g ∈ X ++ GroupD.merge (A.map GroupD.ofRow), GroupD.keyOk g := fun g hg => by
        rcases List.mem_append.1 hg with h | h
        · exact hXk g h
        · obtain ⟨l, hl, e⟩ := GroupD.merge_key h
          obtain ⟨r, hr, rfl⟩ := List.mem_map.1 hl
          show -9223372036854775808 ≤ g.fKey ∧ g.fKey ≤ 9223372036854775807
          rw [← e]
          exact (hwA r hr).1
      refine SV.op (OpMk.ok (ok_call (ls := [(false, [.hd 2])]) rfl rfl ⟨_, _, Tryd.func12, rfl, by decide⟩ (vref_s A (by omega)) ⟨⟨[.hd 1], rfl, ⟨rfl, trivial⟩⟩, trivial⟩ rfl (Nat.le_of_ble_eq_true rfl))) rfl ?_
      refine SV.op (OpL.ok (nb := 1) (ok_move (v := V.one (.hd 2)) (.inr rfl) rfl) rfl (Nat.le_of_ble_eq_true rfl)) rfl ?_
      refine SV.nil ?_
      refine SV.tn ?_
      refine SV.region ?_
      refine SV.op (OpL.ok (nb := 1) (ok_move (v := V.one (.hd 0)) (.inl rfl) rfl) rfl (Nat.le_of_ble_eq_true rfl)) rfl ?_
      refine SV.op (OpL.ok (nb := 1) (ok_move (v := V.one (.hd 2)) (.inl rfl) rfl) rfl (Nat.le_of_ble_eq_true rfl)) rfl ?_
      refine SV.op (OpMk.ok (ok_append_ro (kk := 3) elt_impl_Group (ls := .hd 0) (lx := .hd 2) rfl rfl rfl rfl rfl rfl (flat_impl_Group _) (by simp; omega) rfl (Nat.le_of_ble_eq_true rfl))) rfl ?_
      refine SV.op (OpL.ok (nb := 1) (ok_move (v := V.one (.hd 3)) (.inr rfl) rfl) rfl (Nat.le_of_ble_eq_true rfl)) rfl ?_
      refine SV.nil ?_
      refine SV.bn ?_
      refine SV.tn ?_
      refine SV.region ?_
      refine SV.op (OpL.ok (nb := 1) (ok_move (v := V.one (.sc _)) (.inl rfl) rfl) rfl (Nat.le_of_ble_eq_true rfl)) rfl ?_
      refine SV.op (OpL.ok (nb := 1) (ok_s2 (x := .tmp 11) (x' := .const ((Value.int IntKind.i64 1))) (VScal.one rfl) (VScal.one rfl) (fun ρ h1 h2 w => by go_simp; (try go_bits); with_reducible rfl) rfl) rfl (Nat.le_of_ble_eq_true rfl)) rfl ?_
      refine SV.op (OpL.ok (nb := 1) (ok_move (v := V.one (.sc _)) (.inr rfl) rfl) rfl (Nat.le_of_ble_eq_true rfl)) rfl ?_
      refine SV.nil ?_
      refine SV.tn ?_
      refine SV.again (fun i => [3].getD i 0) ((p2, h2, n - 1, X ++ GroupD.merge (A.map GroupD.ofRow))) (⟨⟨hp2, (by show (0 : Int) ≤ n - 1; omega), (by show (X ++ GroupD.merge (A.map GroupD.ofRow)).length + 3 * (n - 1).toNat ≤ 15; rw [List.length_append]; omega), hkk⟩, (by show (n - 1).toNat < n.toNat; omega)⟩) (pinsC hE rfl) (VS.le.mk' (le_put (le_put (le_put (le_put (le_box (le_new le_nil)) (V.le.keep (ag := false) (xs := [.bp 0 0]) (ys := [.bp 0 0]) rfl rfl ⟨⟨rfl, (Nat.le_of_ble_eq_true rfl)⟩, trivial⟩)) (V.le.keep (ag := false) (xs := [.sc _]) (ys := [.sc _]) rfl rfl ⟨rfl, trivial⟩)) (V.le.keep (ag := false) (xs := [.hd 3]) (ys := [.hd 0]) rfl rfl ⟨⟨rfl, (Nat.le_of_ble_eq_true rfl), (Nat.le_of_ble_eq_true rfl)⟩, trivial⟩)) (V.le.keep (ag := false) (xs := [.sc _]) (ys := [.sc _]) rfl rfl ⟨(by first | rfl | (show Leaf.sc _ = Leaf.sc _; refine congrArg Leaf.sc ?_; first | rfl | go_num | (simp [cntAll]; done)) | (simp [cntAll]; done) | (simp; omega)), trivial⟩)) ⟨⟨rfl, ⟨rfl, (by first | rfl | (show Leaf.sc _ = Leaf.sc _; refine congrArg Leaf.sc ?_; first | rfl | go_num | (simp [cntAll]; done)) | (simp [cntAll]; done) | (simp; omega)), (by first | rfl | (show Leaf.sc _ = Leaf.sc _; refine congrArg Leaf.sc ?_; first | rfl | go_num | (simp [cntAll]; done)) | (simp [cntAll]; done) | (simp; omega)), trivial⟩⟩, trivial⟩ ⟨.inr ⟨_, _, rfl, ?ob2_0, (Nat.le_of_ble_eq_true rfl)⟩, trivial⟩ (new_ob nil_ob) (fun i j hi hj e => inj_list (l := [3]) (by decide) i j hi hj e))
      case ob2_0 =>
        show some (T.seq _ _) = some (T.seq _ _)
        simp [List.map_append]
    · skip   -- c0.F
      refine SV.exit ?_
      refine SV.te ?_
      refine SV.te ?_
      refine SV.bh ?_
      refine SV.tn ?_
      refine SV.seq' ?_
      refine SV.region ?_
      refine SV.op (OpL.ok (nb := 1) (ok_move (v := V.one (.hd 0)) (.inl rfl) rfl) rfl (Nat.le_of_ble_eq_true rfl)) rfl ?_
      refine SV.op (OpL.ok (nb := 1) (ok_move (v := V.one (.hd 0)) (.inr rfl) rfl) rfl (Nat.le_of_ble_eq_true rfl)) rfl ?_
      refine SV.nil ?_
      refine SV.tn ?_
      refine SV.ret ?_
      apply SV.doneK (Pr := fun X : List GroupD => X.length ≤ 15 ∧ ∀ g ∈ X, GroupD.keyOk g) (rs := fun X => [(false, [.seq 33 (X.map tGroup)])]) (y := X) (hy := ⟨by omega, hXk⟩) (hC := hC) (hpin := hpin) (hp := hq) (hbx := rfl) (hf := Tryd.results64) (ht := rfl) (he := .inl rfl)
      case hr => exact (ResAll.cons (ResOk.tmp (ag := false) (xs := [.hd 0]) rfl) ResAll.nil')
      case h2 => simp [two]
      refine ⟨rfl, ⟨?_, trivial⟩, trivial⟩ <;> rfl
end Go.Proofs.YtmlcdhblofjpbaaDoor
/- What the law of groups draws: told by trees. -/
namespace Go.Proofs.YtmlcdhblofjpbaaDoor
open Go Go.RowKit V
set_option linter.unusedVariables false
set_option maxRecDepth 100000 in
set_option maxHeartbeats 2000000 in
theorem vd_ref {ad : Option Addr} {len cap : Nat} {zs : List Int} : VCE (fun w => Code ad len cap zs w) (fun X : List R => X.length ≤ 13 ∧ ∀ r ∈ X, r.wf) Tryd.prog 8 [(false, [.lit (.slice ad len cap)])] false (fun X => [(false, [.seq 41 (X.map tRow)])]) := by
  refine VCE.enter Tryd.func8 rfl Tryd.ntmps8 (Nat.le_of_ble_eq_true rfl) fun E hE hC => ?_
  refine SV.seq' ?_
  refine SV.region ?_
  refine SV.op (OpL.ok (nb := 0) (ok_move (v := V.one (.sc _)) (.inr rfl) rfl) rfl (Nat.le_of_ble_eq_true rfl)) rfl ?_
  refine SV.nil ?_
  refine SV.tn ?_
  refine SV.seq' ?_
  refine SV.region ?_
  refine SV.op (OpL.ok (nb := 0) (ok_move (v := V.one (.sc _)) (.inl rfl) rfl) rfl (Nat.le_of_ble_eq_true rfl)) rfl ?_
  refine SV.callNew hC (kk := 0) rfl ⟨_, _, Tryd.func53, rfl, by decide⟩ rfl rfl rfl (Nat.le_of_ble_eq_true rfl) rfl fun hn1 => ?_
  refine SV.callK (b := 0) hC rfl ⟨_, _, Tryd.func52, rfl, by decide⟩ (vk_bent 12 (by decide) (by decide)) rfl ⟨rfl, trivial⟩ rfl ⟨Int.le_refl 0, Int.natCast_nonneg len⟩ rfl (Nat.le_of_ble_eq_true rfl) (fun _ => wanted0 rfl) ?_
  rintro A p2 h2 ⟨hA, hwA⟩ hp2
  refine SV.op (OpL.ok (nb := 1) (ok_move (v := V.one (.hd 0)) (.inr rfl) rfl) rfl (Nat.le_of_ble_eq_true rfl)) rfl ?_
  refine SV.nil ?_
  refine SV.tn ?_
  refine SV.ret ?_
  apply SV.doneE (Pr := fun X : List R => X.length ≤ 13 ∧ ∀ r ∈ X, r.wf) (rs := fun X => [(false, [.seq 41 (X.map tRow)])]) (y := A) (hy := ⟨by omega, hwA⟩) (hf := Tryd.results8) (ht := rfl) (he := .inl rfl)
  case hr => exact (ResAll.cons (ResOk.tmp (ag := false) (xs := [.hd 0]) rfl) ResAll.nil')
  case h2 => simp [two]
  refine ⟨rfl, ⟨?_, trivial⟩, trivial⟩ <;> rfl
set_option maxRecDepth 100000 in
set_option maxHeartbeats 2000000 in
theorem vd_row {ad : Option Addr} {len cap : Nat} {zs : List Int} : VCE (fun w => Code ad len cap zs w) (fun r : R => r.wf) Tryd.prog 21 [(false, [.lit (.slice ad len cap)])] false (fun r => [(true, tRow r)]) := by
  refine VCE.enter Tryd.func21 rfl Tryd.ntmps21 (Nat.le_of_ble_eq_true rfl) fun E hE hC => ?_
  refine SV.seq' ?_
  refine SV.region ?_
  refine SV.op (OpMk.ok (ok_alloc (kk := 0) (xs := [.sc _, .sc _, .sc _]) rfl rfl zero_impl_Row ⟨rfl, rfl, rfl, rfl, rfl, rfl, trivial⟩ rfl (Nat.le_of_ble_eq_true rfl))) rfl ?_
  refine SV.nil ?_
  refine SV.tn ?_
  refine SV.seq' ?_
  refine SV.region ?_
  refine SV.op (OpL.ok (nb := 1) (ok_move (v := V.one (.sc _)) (.inl rfl) rfl) rfl (Nat.le_of_ble_eq_true rfl)) rfl ?_
  refine SV.callNew hC (kk := 1) rfl ⟨_, _, Tryd.func53, rfl, by decide⟩ rfl rfl rfl (Nat.le_of_ble_eq_true rfl) rfl fun hn1 => ?_
  refine SV.callK (b := 1) hC rfl ⟨_, _, Tryd.func65, rfl, by decide⟩ (vk_any) rfl trivial rfl ⟨Int.le_refl 0, Int.natCast_nonneg len⟩ rfl (Nat.le_of_ble_eq_true rfl) (fun _ => wanted0 rfl) ?_
  rintro r p2 h2 hr hp2
  refine SV.op (ok_store_bp (b := 0) (i := 0) (m := 3) (ag := true) (zs := [.sc _, .sc _, .sc _]) (ys := [.sc _, .sc _, .sc _]) rfl rfl rfl rfl sz_impl_Row (fun h => by cases h) rfl (Nat.le_of_ble_eq_true rfl) rfl rfl rfl) rfl ?_
  refine SV.nil ?_
  refine SV.tn ?_
  refine SV.ret ?_
  apply SV.doneE (Pr := fun r : R => r.wf) (rs := fun r => [(true, tRow r)]) (y := r) (hy := hr) (hf := Tryd.results21) (ht := rfl) (he := .inl rfl)
  case hr => exact (ResAll.cons (ResOk.cell (b := 0) (ag := true) (xs := [.sc _, .sc _, .sc _]) rfl rfl agg_impl_Row sz_impl_Row (fun h => by cases h)) ResAll.nil')
  case h2 => simp [two]
  refine ⟨rfl, ⟨?_, ?_, ?_, trivial⟩, trivial⟩ <;> rfl
set_option maxRecDepth 100000 in
set_option maxHeartbeats 2000000 in
theorem vd_merge {ad : Option Addr} {len cap : Nat} {zs : List Int} : VCE (fun w => Code ad len cap zs w) (fun X : List GroupD => X.length ≤ 15 ∧ ∀ g ∈ X, GroupD.keyOk g) Tryd.prog 20 [(false, [.lit (.slice ad len cap)])] false (fun X => [(false, [.seq 33 (X.map tGroup)])]) := by
  refine VCE.enter Tryd.func20 rfl Tryd.ntmps20 (Nat.le_of_ble_eq_true rfl) fun E hE hC => ?_
  refine SV.seq' ?_
  refine SV.region ?_
  refine SV.op (OpL.ok (nb := 0) (ok_move (v := V.one (.sc _)) (.inr rfl) rfl) rfl (Nat.le_of_ble_eq_true rfl)) rfl ?_
  refine SV.nil ?_
  refine SV.tn ?_
  refine SV.seq' ?_
  refine SV.region ?_
  refine SV.op (OpL.ok (nb := 0) (ok_move (v := V.one (.sc _)) (.inl rfl) rfl) rfl (Nat.le_of_ble_eq_true rfl)) rfl ?_
  refine SV.callNew hC (kk := 0) rfl ⟨_, _, Tryd.func53, rfl, by decide⟩ rfl rfl rfl (Nat.le_of_ble_eq_true rfl) rfl fun hn1 => ?_
  refine SV.callK (b := 0) hC rfl ⟨_, _, Tryd.func64, rfl, by decide⟩ (vk_groups) rfl trivial rfl ⟨Int.le_refl 0, Int.natCast_nonneg len⟩ rfl (Nat.le_of_ble_eq_true rfl) (fun _ => wanted0 rfl) ?_
  rintro X p2 h2 hX hp2
  refine SV.op (OpL.ok (nb := 1) (ok_move (v := V.one (.hd 0)) (.inr rfl) rfl) rfl (Nat.le_of_ble_eq_true rfl)) rfl ?_
  refine SV.nil ?_
  refine SV.tn ?_
  refine SV.ret ?_
  apply SV.doneE (Pr := fun X : List GroupD => X.length ≤ 15 ∧ ∀ g ∈ X, GroupD.keyOk g) (rs := fun X => [(false, [.seq 33 (X.map tGroup)])]) (y := X) (hy := hX) (hf := Tryd.results20) (ht := rfl) (he := .inl rfl)
  case hr => exact (ResAll.cons (ResOk.tmp (ag := false) (xs := [.hd 0]) rfl) ResAll.nil')
  case h2 => simp [two]
  refine ⟨rfl, ⟨?_, trivial⟩, trivial⟩ <;> rfl
set_option maxRecDepth 100000 in
set_option maxHeartbeats 2000000 in
theorem vd_valid {ad : Option Addr} {len cap : Nat} {zs : List Int} : VCE (fun w => Code ad len cap zs w) (fun _ : GroupD => True) Tryd.prog 19 [(false, [.lit (.slice ad len cap)])] false (fun g => [(true, tGroup g)]) := by
  refine VCE.enter Tryd.func19 rfl Tryd.ntmps19 (Nat.le_of_ble_eq_true rfl) fun E hE hC => ?_
  refine SV.seq' ?_
  refine SV.region ?_
  refine SV.op (OpMk.ok (ok_alloc (kk := 0) (xs := [.sc _, .sc _, .sc _, .sc _, .sc _]) rfl rfl zero_impl_Group ⟨rfl, rfl, rfl, rfl, rfl, rfl, rfl, rfl, rfl, rfl, trivial⟩ rfl (Nat.le_of_ble_eq_true rfl))) rfl ?_
  refine SV.nil ?_
  refine SV.tn ?_
  refine SV.seq' ?_
  refine SV.region ?_
  refine SV.op (OpL.ok (nb := 1) (ok_move (v := V.one (.sc _)) (.inl rfl) rfl) rfl (Nat.le_of_ble_eq_true rfl)) rfl ?_
  refine SV.callNew hC (kk := 1) rfl ⟨_, _, Tryd.func53, rfl, by decide⟩ rfl rfl rfl (Nat.le_of_ble_eq_true rfl) rfl fun hn1 => ?_
  refine SV.callK (b := 1) hC rfl ⟨_, _, Tryd.func63, rfl, by decide⟩ (vk_one) rfl trivial rfl ⟨Int.le_refl 0, Int.natCast_nonneg len⟩ rfl (Nat.le_of_ble_eq_true rfl) (fun _ => wanted0 rfl) ?_
  rintro g p2 h2 - hp2
  refine SV.op (ok_store_bp (b := 0) (i := 0) (m := 5) (ag := true) (zs := [.sc _, .sc _, .sc _, .sc _, .sc _]) (ys := [.sc _, .sc _, .sc _, .sc _, .sc _]) rfl rfl rfl rfl sz_impl_Group (fun h => by cases h) rfl (Nat.le_of_ble_eq_true rfl) rfl rfl rfl) rfl ?_
  refine SV.nil ?_
  refine SV.tn ?_
  refine SV.ret ?_
  apply SV.doneE (Pr := fun _ : GroupD => True) (rs := fun g => [(true, tGroup g)]) (y := g) (hy := trivial) (hf := Tryd.results19) (ht := rfl) (he := .inl rfl)
  case hr => exact (ResAll.cons (ResOk.cell (b := 0) (ag := true) (xs := [.sc _, .sc _, .sc _, .sc _, .sc _]) rfl rfl agg_impl_Group sz_impl_Group (fun h => by cases h)) ResAll.nil')
  case h2 => simp [two]
  refine ⟨rfl, ⟨?_, ?_, ?_, ?_, ?_, trivial⟩, trivial⟩ <;> rfl
set_option maxRecDepth 100000 in
set_option maxHeartbeats 2000000 in
theorem vd_comb {ad : Option Addr} {len cap : Nat} {zs : List Int} : VCE (fun w => Code ad len cap zs w) (fun _ : GroupD × GroupD => True) Tryd.prog 18 [(false, [.lit (.slice ad len cap)])] true (fun y => [(true, tGroup y.1), (true, tGroup y.2)]) := by
  refine VCE.enter Tryd.func18 rfl Tryd.ntmps18 (Nat.le_of_ble_eq_true rfl) fun E hE hC => ?_
  refine SV.seq' ?_
  refine SV.region ?_
  refine SV.op (OpMk.ok (ok_alloc (kk := 0) (xs := [.sc _, .sc _, .sc _, .sc _, .sc _]) rfl rfl zero_impl_Group ⟨rfl, rfl, rfl, rfl, rfl, rfl, rfl, rfl, rfl, rfl, trivial⟩ rfl (Nat.le_of_ble_eq_true rfl))) rfl ?_
  refine SV.op (OpMk.ok (ok_alloc (kk := 1) (xs := [.sc _, .sc _, .sc _, .sc _, .sc _]) rfl rfl zero_impl_Group ⟨rfl, rfl, rfl, rfl, rfl, rfl, rfl, rfl, rfl, rfl, trivial⟩ rfl (Nat.le_of_ble_eq_true rfl))) rfl ?_
  refine SV.nil ?_
  refine SV.tn ?_
  refine SV.seq' ?_
  refine SV.region ?_
  refine SV.op (OpL.ok (nb := 2) (ok_move (v := V.one (.sc _)) (.inl rfl) rfl) rfl (Nat.le_of_ble_eq_true rfl)) rfl ?_
  refine SV.callNew hC (kk := 2) rfl ⟨_, _, Tryd.func53, rfl, by decide⟩ rfl rfl rfl (Nat.le_of_ble_eq_true rfl) rfl fun hn1 => ?_
  refine SV.op (OpL.ok (nb := 3) (ok_move (v := V.one (.bp 2 0)) (.inr rfl) rfl) rfl (Nat.le_of_ble_eq_true rfl)) rfl ?_
  refine SV.nil ?_
  refine SV.tn ?_
  refine SV.seq' ?_
  refine SV.region ?_
  refine SV.op (OpL.ok (nb := 3) (ok_move (v := V.one (.bp 2 0)) (.inl rfl) rfl) rfl (Nat.le_of_ble_eq_true rfl)) rfl ?_
  refine SV.callK (b := 2) hC rfl ⟨_, _, Tryd.func63, rfl, by decide⟩ (vk_one) rfl trivial rfl ⟨Int.le_refl 0, Int.natCast_nonneg len⟩ rfl (Nat.le_of_ble_eq_true rfl) (fun _ => wanted0 rfl) ?_
  rintro a p2 h2 - hp2
  refine SV.op (OpMk.ok (ok_alloc (kk := 3) (xs := [.sc _, .sc _, .sc _, .sc _, .sc _]) rfl rfl zero_impl_Group ⟨rfl, rfl, rfl, rfl, rfl, rfl, rfl, rfl, rfl, rfl, trivial⟩ rfl (Nat.le_of_ble_eq_true rfl))) rfl ?_
  refine SV.op (ok_store_bp (b := 3) (i := 0) (m := 5) (ag := true) (zs := [.sc _, .sc _, .sc _, .sc _, .sc _]) (ys := [.sc _, .sc _, .sc _, .sc _, .sc _]) rfl rfl rfl rfl sz_impl_Group (fun h => by cases h) rfl (Nat.le_of_ble_eq_true rfl) rfl rfl rfl) rfl ?_
  refine SV.nil ?_
  refine SV.tn ?_
  refine SV.seq' ?_
  refine SV.drawC [2] [.q 0, .q 1, .m 2] [3, 4] (by kernel_rfl) (by kernel_rfl) ?_
  refine DC.lb (b := 3) (i' := 0) (ag := true) (m := 5) (ys := [.sc _, .sc _, .sc _, .sc _, .sc _]) rfl rfl rfl rfl agg_impl_Group sz_impl_Group (fun h => by cases h) rfl rfl (Nat.le_of_ble_eq_true rfl) (by decide) rfl rfl (Nat.le_of_ble_eq_true rfl) (fun _ _ _ _ h => h) ?_
  refine DC.q rfl (ok_move (v := V.one (.bp 2 0)) (.inl rfl) rfl) rfl rfl (Nat.le_of_ble_eq_true rfl) (fun _ _ _ _ h => h) ?_
  refine DC.mK (b := 2) hC rfl rfl ⟨_, _, Tryd.func63, rfl, by decide⟩ (vk_one) rfl trivial rfl (by decide) (Nat.le_of_ble_eq_true rfl) hp2 rfl (Nat.le_of_ble_eq_true rfl) rfl ?_
  rintro b p3 h3 - hp3
  refine DC.stores ?_
  refine SV.z rfl (ok_store_bp (b := 0) (i := 0) (m := 5) (ag := true) (zs := [.sc _, .sc _, .sc _, .sc _, .sc _]) (ys := [.sc _, .sc _, .sc _, .sc _, .sc _]) rfl rfl rfl rfl sz_impl_Group (fun h => by cases h) rfl (Nat.le_of_ble_eq_true rfl) rfl rfl rfl) rfl ?_
  refine SV.z rfl (ok_store_bp (b := 1) (i := 0) (m := 5) (ag := true) (zs := [.sc _, .sc _, .sc _, .sc _, .sc _]) (ys := [.sc _, .sc _, .sc _, .sc _, .sc _]) rfl rfl rfl rfl sz_impl_Group (fun h => by cases h) rfl (Nat.le_of_ble_eq_true rfl) rfl rfl rfl) rfl ?_
  refine SV.zend ?_
  refine SV.tn ?_
  refine SV.ret ?_
  apply SV.doneE (Pr := fun _ : GroupD × GroupD => True) (rs := fun y => [(true, tGroup y.1), (true, tGroup y.2)]) (y := (a, b)) (hy := trivial) (hf := Tryd.results18) (ht := rfl) (he := .inl rfl)
  case hr => exact (ResAll.cons (ResOk.cell (b := 0) (ag := true) (xs := [.sc _, .sc _, .sc _, .sc _, .sc _]) rfl rfl agg_impl_Group sz_impl_Group (fun h => by cases h)) (ResAll.cons (ResOk.cell (b := 1) (ag := true) (xs := [.sc _, .sc _, .sc _, .sc _, .sc _]) rfl rfl agg_impl_Group sz_impl_Group (fun h => by cases h)) ResAll.nil'))
  case h2 => simp [two]
  refine ⟨rfl, ⟨?_, ?_, ?_, ?_, ?_, trivial⟩, ⟨rfl, ⟨?_, ?_, ?_, ?_, ?_, trivial⟩, trivial⟩⟩ <;> rfl
end Go.Proofs.YtmlcdhblofjpbaaDoor
/- The text of groups, as plain mathematics. -/
namespace Go.Proofs.YtmlcdhblofjpbaaDoor
open Go.RowKit
namespace GroupD
def wf (g : GroupD) : Prop := (-9223372036854775808 ≤ g.fKey ∧ g.fKey ≤ 9223372036854775807) ∧ (-9223372036854775808 ≤ g.fCount ∧ g.fCount ≤ 9223372036854775807) ∧ (-9223372036854775808 ≤ g.fSum ∧ g.fSum ≤ 9223372036854775807) ∧ (-9223372036854775808 ≤ g.fMin ∧ g.fMin ≤ 9223372036854775807) ∧ (-9223372036854775808 ≤ g.fMax ∧ g.fMax ≤ 9223372036854775807)
def fields (g : GroupD) : List (List UInt8) := [Lib.itoa g.fCount, Lib.itoa g.fSum, Lib.itoa g.fMin, Lib.itoa g.fMax]
def txt (g : GroupD) : List UInt8 := Lib.itoa g.fKey ++ 58 :: (Lib.itoa g.fCount ++ 44 :: (Lib.itoa g.fSum ++ 44 :: (Lib.itoa g.fMin ++ 44 :: Lib.itoa g.fMax)))
theorem join_fields (g : GroupD) : Lib.join (fields g) [44] = Lib.itoa g.fCount ++ 44 :: (Lib.itoa g.fSum ++ 44 :: (Lib.itoa g.fMin ++ 44 :: Lib.itoa g.fMax)) := by
  have h : fields g = (([] ++ [Lib.itoa g.fCount]) ++ [Lib.itoa g.fSum] ++ [Lib.itoa g.fMin]) ++ [Lib.itoa g.fMax] := rfl
  rw [h, join_snoc, join_snoc, join_snoc, join_snoc]
  simp
theorem itoa_le {n : Int} (h : -9223372036854775808 ≤ n ∧ n ≤ 9223372036854775807) : (Lib.itoa n).length ≤ 21 := by
  rcases Int.lt_trichotomy n 0 with h0 | h0 | h0
  · rw [Dec.itoa_neg n h0, List.length_cons]
    have := Dec.dd_length_le n.natAbs (by omega)
    omega
  · subst h0; rw [Dec.itoa_zero]; simp
  · rw [Dec.itoa_pos n h0]
    have := Dec.dd_length_le n.toNat (by omega)
    omega
theorem txt_len {g : GroupD} (h : wf g) : (txt g).length ≤ 109 := by
  obtain ⟨h0, h1, h2, h3, h4⟩ := h
  have a0 := itoa_le h0
  have a1 := itoa_le h1
  have a2 := itoa_le h2
  have a3 := itoa_le h3
  have a4 := itoa_le h4
  unfold txt
  simp only [List.length_append, List.length_cons]
  omega
theorem join_next (X : List GroupD) (t : Nat) (h : t < X.length) : Lib.join ((X.take (t + 1)).map txt) [32] = (if t = 0 then [] else Lib.join ((X.take t).map txt) [32] ++ [32]) ++ txt X[t] := by
  rw [List.take_succ_eq_append_getElem h, List.map_append, List.map_cons, List.map_nil, join_snoc]
  by_cases h0 : t = 0
  · subst h0; simp
  · have hne : (X.take t).map txt ≠ [] := by
      intro e
      have := congrArg List.length e
      rw [List.length_map, List.length_take, List.length_nil] at this
      omega
    rw [if_neg hne, if_neg h0]
theorem join_len_le : ∀ (X : List GroupD), (∀ g ∈ X, wf g) → (Lib.join (X.map txt) [32]).length ≤ 110 * X.length
  | [], _ => by simp [Lib.join_nil]
  | x :: X, hX => by
    rw [List.map_cons, Lib.join_length]
    have : ∀ Y : List GroupD, (∀ g ∈ Y, wf g) → Lib.lens (Y.map txt) ≤ 109 * Y.length := by
      intro Y
      induction Y with
      | nil => intro _; simp [Lib.lens]
      | cons y Y ih =>
        intro hY
        have := txt_len (hY y (List.mem_cons_self ..))
        have ih := ih fun g hg => hY g (List.mem_cons_of_mem _ hg)
        simp [Lib.lens] at ih ⊢
        omega
    have := this (x :: X) hX
    simp at this ⊢
    omega
end GroupD
end Go.Proofs.YtmlcdhblofjpbaaDoor
/- The algebra of groups of rows, as plain mathematics. -/
namespace Go.Proofs.YtmlcdhblofjpbaaDoor
open Go.RowKit
namespace GroupD
def ofRows (A : List R) : List GroupD := merge (A.map ofRow)
theorem ofRows_split (A : List R) (k : Nat) : merge (ofRows (A.take k) ++ ofRows (A.drop k)) = ofRows A := by
  unfold ofRows
  rw [merge_parts, ← List.map_append, List.take_append_drop]
theorem ofRows_length (A : List R) : (ofRows A).length ≤ A.length := by
  have := merge_length (A.map ofRow)
  rwa [List.length_map] at this
theorem ofRows_key {A : List R} (h : ∀ r ∈ A, r.wf) : ∀ g ∈ ofRows A, (Lit.int .i64 g.fKey).wf = true := fun g hg => by
  obtain ⟨l, hl, e⟩ := merge_key hg
  obtain ⟨r, hr, rfl⟩ := List.mem_map.1 hl
  rw [← e]
  exact lit_wf (h r hr).1
theorem add_all {P Q : GroupD → Prop} {M : List GroupD} {g : GroupD} (h : ∀ m ∈ M, Q m) (h1 : ∀ m, Q m → P m) (h2 : P g) (h3 : ∀ m, Q m → m.fKey = g.fKey → P (comb m g)) : ∀ x ∈ add M g, P x := by
  induction M with
  | nil => intro x hx; simp [add] at hx; rw [hx]; exact h2
  | cons m M ih =>
    have ih := ih fun y hy => h y (List.mem_cons_of_mem _ hy)
    have hm := h m (List.mem_cons_self ..)
    intro x hx
    unfold add at hx
    split at hx
    · rcases List.mem_cons.1 hx with rfl | hx
      · exact h1 _ hm
      · exact ih x hx
    · split at hx
      · rename_i e
        rcases List.mem_cons.1 hx with rfl | hx
        · exact h3 m hm e
        · exact h1 x (h x (List.mem_cons_of_mem _ hx))
      · rcases List.mem_cons.1 hx with rfl | hx
        · exact h2
        · exact h1 x (h x hx)
theorem rows_all' (P : Nat → GroupD → Prop) (h1 : ∀ t m, P t m → P (t + 1) m) {A : List R} (h2 : ∀ t r, r ∈ A → P (t + 1) (ofRow r)) (h3 : ∀ t m r, r ∈ A → P t m → m.fKey = r.key → P (t + 1) (comb m (ofRow r))) : ∀ t, t ≤ A.length → ∀ g ∈ merge ((A.map ofRow).take t), P t g := by
  intro t
  induction t with
  | zero => intro _ g hg; cases hg
  | succ t ih =>
    intro ht
    have hl : t < (A.map ofRow).length := by rw [List.length_map]; omega
    rw [merge_next _ t hl]
    have e : (A.map ofRow)[t] = ofRow A[t] := List.getElem_map ..
    rw [e]
    have hm : A[t] ∈ A := List.getElem_mem _
    exact add_all (ih (by omega)) (h1 t) (h2 t _ hm) fun m hq hk => h3 t m _ hm hq hk
theorem ofRows_all (P : Nat → GroupD → Prop) (h1 : ∀ t m, P t m → P (t + 1) m) {A : List R} (h2 : ∀ t r, r ∈ A → P (t + 1) (ofRow r)) (h3 : ∀ t m r, r ∈ A → P t m → m.fKey = r.key → P (t + 1) (comb m (ofRow r))) : ∀ g ∈ ofRows A, P A.length g := by
  have := rows_all' P h1 h2 h3 A.length (Nat.le_refl _)
  rw [show A.length = (A.map ofRow).length by rw [List.length_map], List.take_length] at this
  rw [← show A.length = (A.map ofRow).length by rw [List.length_map]] at this
  exact this
theorem wrap_range (n : Int) : -9223372036854775808 ≤ wrap64 n ∧ wrap64 n ≤ 9223372036854775807 := by unfold wrap64; omega
theorem wf_comb {a b : GroupD} (ha : wf a) (hb : wf b) : wf (comb a b) := by
  unfold wf at *
  unfold comb
  split
  · refine ⟨ha.1, wrap_range _, wrap_range _, ?_, ?_⟩ <;> dsimp only <;> omega
  · exact ha
theorem wf_row {r : R} (h : r.wf) : wf (ofRow r) := by
  unfold R.wf at h
  unfold wf ofRow
  dsimp only
  omega
theorem ofRows_wf {A : List R} (h : ∀ r ∈ A, r.wf) : ∀ g ∈ ofRows A, wf g :=
  ofRows_all (fun _ g => wf g) (fun _ _ h => h) (fun _ r hr => wf_row (h r hr)) fun _ m r hr hm _ => wf_comb hm (wf_row (h r hr))
/-- How many rows. -/
def cnt (M : List GroupD) : Int := (M.map (·.fCount)).sum
theorem cnt_next (M : List GroupD) (t : Nat) (h : t < M.length) : cnt (M.take (t + 1)) = cnt (M.take t) + M[t].fCount := by
  unfold cnt
  rw [List.take_succ_eq_append_getElem h, List.map_append, List.sum_append]
  simp
theorem cnt_add {M : List GroupD} {g : GroupD} (h : ∀ m ∈ M, 0 ≤ m.fCount ∧ m.fCount ≤ 1000) (hg : g.fCount = 1) : cnt (add M g) = cnt M + 1 := by
  induction M with
  | nil => simp [add, cnt, hg]
  | cons m M ih =>
    have ih := ih fun y hy => h y (List.mem_cons_of_mem _ hy)
    have hm := h m (List.mem_cons_self ..)
    unfold add
    split
    · have e : cnt (m :: add M g) = m.fCount + cnt (add M g) := by simp [cnt]
      have e2 : cnt (m :: M) = m.fCount + cnt M := by simp [cnt]
      omega
    · split
      · rename_i hk
        have e : cnt (comb m g :: M) = (comb m g).fCount + cnt M := by simp [cnt]
        have e2 : cnt (m :: M) = m.fCount + cnt M := by simp [cnt]
        have e3 : (comb m g).fCount = m.fCount + 1 := by
          unfold comb
          rw [if_pos hk, hg]
          exact IntWalk.wrap64_in _ ⟨by omega, by omega⟩
        omega
      · have e : cnt (g :: m :: M) = g.fCount + cnt (m :: M) := by simp [cnt]
        omega
theorem ofRows_count {A : List R} (hA : A.length ≤ 900) : ∀ g ∈ ofRows A, 1 ≤ g.fCount ∧ g.fCount ≤ A.length := by
  have := ofRows_all (A := A) (fun t g => t ≤ 900 → 1 ≤ g.fCount ∧ g.fCount ≤ (t : Int)) (fun t m h ht => by have := h (by omega); omega) (fun t r _ ht => by unfold ofRow; dsimp only; omega) fun t m r _ h hk ht => by
    have := h (by omega)
    unfold comb
    rw [if_pos (show m.fKey = (ofRow r).fKey from hk)]
    dsimp only [ofRow]
    rw [IntWalk.wrap64_in _ ⟨by omega, by omega⟩]
    omega
  exact fun g hg => this g hg hA
theorem cnt_rows {A : List R} (hA : A.length ≤ 900) : cnt (ofRows A) = (A.length : Int) := by
  have key : ∀ t, t ≤ A.length → cnt (merge ((A.map ofRow).take t)) = (t : Int) := by
    intro t
    induction t with
    | zero => intro _; rfl
    | succ t ih =>
      intro ht
      have hl : t < (A.map ofRow).length := by rw [List.length_map]; omega
      rw [merge_next _ t hl]
      have e : (A.map ofRow)[t] = ofRow A[t] := List.getElem_map ..
      have hc : ∀ m ∈ merge ((A.map ofRow).take t), 0 ≤ m.fCount ∧ m.fCount ≤ 1000 := fun m hm => by
        rw [← List.map_take] at hm
        have := ofRows_count (A := A.take t) (by rw [List.length_take]; omega) m hm
        rw [List.length_take] at this
        omega
      rw [e, cnt_add hc rfl, ih (by omega)]
      omega
  have := key A.length (Nat.le_refl _)
  rw [show A.length = (A.map ofRow).length by rw [List.length_map], List.take_length] at this
  rw [← show A.length = (A.map ofRow).length by rw [List.length_map]] at this
  exact this
theorem cnt_nonneg {M : List GroupD} (h : ∀ m ∈ M, 0 ≤ m.fCount) : 0 ≤ cnt M := by
  induction M with
  | nil => simp [cnt]
  | cons m M ih =>
    have e2 : cnt (m :: M) = m.fCount + cnt M := by simp [cnt]
    have := h m (List.mem_cons_self ..)
    have := ih fun y hy => h y (List.mem_cons_of_mem _ hy)
    omega
theorem cnt_take {A : List R} (hA : A.length ≤ 900) (t : Nat) : 0 ≤ cnt ((ofRows A).take t) ∧ cnt ((ofRows A).take t) ≤ 900 := by
  have h0 := ofRows_count hA
  have e : cnt (ofRows A) = cnt ((ofRows A).take t) + cnt ((ofRows A).drop t) := by
    unfold cnt
    rw [← List.sum_append, ← List.map_append, List.take_append_drop]
  have h1 := cnt_rows hA
  have h2 := cnt_nonneg (M := (ofRows A).take t) fun m hm => by have := h0 m (List.mem_of_mem_take hm); omega
  have h3 := cnt_nonneg (M := (ofRows A).drop t) fun m hm => by have := h0 m (List.mem_of_mem_drop hm); omega
  omega
theorem ofRows_ok {A : List R} (h : okRows A = true) : ∀ g ∈ ofRows A, okG g = true := by
  unfold okRows at h
  rw [Bool.and_eq_true, decide_eq_true_eq] at h
  have hr : ∀ r ∈ A, 0 ≤ r.key ∧ r.key ≤ 9 ∧ 0 ≤ r.value ∧ r.value ≤ 99 := fun r hr => by
    have := List.all_eq_true.1 h.2 r hr
    unfold R.ok at this
    rw [decide_eq_true_eq] at this
    omega
  have := ofRows_all (A := A) (fun t g => t ≤ 24 → 0 ≤ g.fKey ∧ g.fKey ≤ 9 ∧ 1 ≤ g.fCount ∧ g.fCount ≤ (t : Int) ∧ 0 ≤ g.fMin ∧ g.fMin ≤ g.fMax ∧ g.fMax ≤ 99 ∧ g.fCount * g.fMin ≤ g.fSum ∧ g.fSum ≤ g.fCount * g.fMax ∧ 0 ≤ g.fSum ∧ g.fSum ≤ 99 * (t : Int))
    (fun t m h ht => by have := h (by omega); omega)
    (fun t r hm ht => by have := hr r hm; unfold ofRow; dsimp only; omega)
    fun t m r hm hq hk ht => by
      have hq := hq (by omega)
      have hv := hr r hm
      obtain ⟨k0, k1, c0, c1, m0, m1, m2, s0, s1, s2, s3⟩ := hq
      unfold comb
      rw [if_pos (show m.fKey = (ofRow r).fKey from hk)]
      dsimp only [ofRow]
      rw [IntWalk.wrap64_in (m.fCount + 1) ⟨by omega, by omega⟩, IntWalk.wrap64_in (m.fSum + r.value) ⟨by omega, by omega⟩]
      have a1 : m.fCount * min m.fMin r.value ≤ m.fCount * m.fMin := Int.mul_le_mul_of_nonneg_left (by omega) (by omega)
      have a2 : m.fCount * m.fMax ≤ m.fCount * max m.fMax r.value := Int.mul_le_mul_of_nonneg_left (by omega) (by omega)
      have b1 : (m.fCount + 1) * min m.fMin r.value = m.fCount * min m.fMin r.value + min m.fMin r.value := by rw [Int.add_mul, Int.one_mul]
      have b2 : (m.fCount + 1) * max m.fMax r.value = m.fCount * max m.fMax r.value + max m.fMax r.value := by rw [Int.add_mul, Int.one_mul]
      rw [b1, b2]
      refine ⟨k0, k1, by omega, by omega, by omega, by omega, by omega, by omega, by omega, by omega, by omega⟩
  intro g hg
  have hg := this g hg h.1
  unfold okG
  rw [decide_eq_true_eq]
  omega
theorem ofRows_asc {A : List R} {t : Nat} {a b : GroupD} (h1 : (ofRows A)[t]? = some a) (h2 : (ofRows A)[t + 1]? = some b) : a.fKey < b.fKey := by
  have h := merge_asc (A.map ofRow)
  obtain ⟨l1, e1⟩ := List.getElem?_eq_some_iff.1 h1
  obtain ⟨l2, e2⟩ := List.getElem?_eq_some_iff.1 h2
  have := List.pairwise_iff_getElem.1 h t (t + 1) l1 l2 (by omega)
  have e1' : (merge (A.map ofRow))[t] = a := e1
  have e2' : (merge (A.map ofRow))[t + 1] = b := e2
  rw [e1', e2'] at this
  exact this
end GroupD
end Go.Proofs.YtmlcdhblofjpbaaDoor
/- A law's own 'at' and 'cutAt': a byte of its code, a place in a list. -/
namespace Go.Proofs.YtmlcdhblofjpbaaDoor
open Go Go.RowKit
set_option linter.unusedVariables false
set_option maxRecDepth 100000 in
theorem at_any (a : Option Addr) (len cap : Nat) (zs : List Int) (w : World) (h : Code a len cap zs w) (i : Nat) (hi : i ≤ 1000) : Calls Tryd.prog 54 #[.slice a len cap, .int .i64 i] w fun e w' => (∃ x : Int, e = .returned (.int .i64 x) ∧ 0 ≤ x ∧ x < 256) ∧ w' = w := by
  have hs := h.small
  by_cases hlt : i < len
  · rcases h.row with ⟨rfl, rfl, rfl, rfl⟩ | ⟨x, rfl, h1, h2, h3, h4, h5⟩
    · omega
    · obtain ⟨b, hb⟩ : ∃ b, b = zs.getD i 0 := ⟨_, rfl⟩
      have hc := h4 i (by omega)
      rw [← hb] at hc
      have hr : 0 ≤ b ∧ b < 256 := by
        have := h5 b (by rw [hb]; simp [List.getD, show i < zs.length by omega])
        simp [Lit.wf] at this
        have e0 : IntKind.u8.min = 0 := rfl
        have e1 : IntKind.u8.max = 255 := rfl
        omega
      have hcast : ((IntKind.u8).wrap b) = b ∨ True := .inr trivial
      clear h4 h5 hb h
      go_enter Tryd.func54, Tryd.ntmps54
      go_wp2_with fail
      go_ret
      refine ⟨⟨_, rfl, ?_, ?_⟩, rfl⟩ <;> first | omega | (simp [IntKind.wrap, IntKind.bits, IntKind.signed]; omega)
  · clear h
    obtain ⟨y, hy⟩ : ∃ y : Int, y = (i : Int) * 37 + (len : Int) * 11 := ⟨_, rfl⟩
    have h0 : 0 ≤ y := by omega
    have h1 : y ≤ 100000000 := by omega
    go_enter Tryd.func54, Tryd.ntmps54
    go_wp2_with fail
    go_ret
    refine ⟨⟨_, rfl, ?_, ?_⟩, rfl⟩
    all_goals omega
set_option maxRecDepth 100000 in
theorem cut_any (a : Option Addr) (len cap : Nat) (zs : List Int) (w : World) (h : Code a len cap zs w) (i n : Nat) (hi : i ≤ 1000) (hn : n ≤ 1000000) : Calls Tryd.prog 10 #[.slice a len cap, .int .i64 i, .int .i64 n] w fun e w' => (∃ k : Nat, e = .returned (.int .i64 k) ∧ k ≤ n) ∧ w' = w := by
  have HA := Lib.hid (at_any a len cap zs w h i hi)
  clear h
  go_enter Tryd.func10, Tryd.ntmps10
  go_wp2_with fail
  refine HA.out.mono ?_
  rintro e w1 ⟨⟨x, rfl, hx0, hx1⟩, rfl⟩
  obtain ⟨q, rfl⟩ : ∃ q : Nat, x = q := ⟨x.toNat, by omega⟩
  have hq : q ≤ 255 := by omega
  have hm : q * (n + 1) ≤ 255 * (n + 1) := Nat.mul_le_mul_right _ hq
  obtain ⟨m, hmd⟩ : ∃ m, m = q * (n + 1) := ⟨_, rfl⟩
  have hprod : (q : Int) * ((n : Int) + 1) = (m : Int) := by rw [hmd]; push_cast; rfl
  have hprod2 : ((n : Int) + 1) * (q : Int) = (m : Int) := by rw [Int.mul_comm]; exact hprod
  have hm2 : m ≤ 255 * (n + 1) := by omega
  clear hm
  have HM := Lib.hid hmd
  clear hmd
  go_wp2_with fail
  go_ret
  exact ⟨⟨m / 256, congrArg (fun z => Ending.returned (Value.int .i64 z)) (Int.natCast_ediv m 256).symm, by omega⟩, rfl⟩
theorem vcut {ad : Option Addr} {len cap : Nat} {zs : List Int} (i n : Nat) (hi : i ≤ 1000) (hn : n ≤ 1000000) : V.VCE (fun w => Code ad len cap zs w) (fun k : Nat => k ≤ n) Tryd.prog 10 [(false, [.lit (.slice ad len cap)]), (false, [.lit (.int .i64 i)]), (false, [.lit (.int .i64 n)])] false fun k => [(false, [.lit (.int .i64 k)])] := fun w hw vs hv => by
  have e := V.args_plain (ins := [(false, [.slice ad len cap]), (false, [.int .i64 i]), (false, [.int .i64 n])]) hv
  subst e
  exact (cut_any ad len cap zs w hw i n hi hn).mono fun e w' ⟨⟨k, he, hk⟩, hw'⟩ => ⟨k, hk, V.gives_plain (ag := false) (rs := [.int .i64 k]) (fun u hu => by rw [List.mem_singleton.1 hu]; rfl) he (hw' ▸ Below.refl _ _)⟩
end Go.Proofs.YtmlcdhblofjpbaaDoor
/- Numbers within bounds: told by trees. -/
namespace Go.Proofs.YtmlcdhblofjpbaaDoor
open Go Go.RowKit V
set_option linter.unusedVariables false
set_option maxRecDepth 100000 in
set_option maxHeartbeats 2000000 in
theorem vin_s' (x lo hi : Int) : VC Tryd.prog 66 [(false, [.lit (.int .i64 (x))]), (false, [.lit (.int .i64 (lo))]), (false, [.lit (.int .i64 (hi))])] false [(false, [.lit (.bool (decide (lo ≤ x ∧ x ≤ hi)))])] := by
  refine VC.enter Tryd.func66 rfl Tryd.ntmps66 (Nat.le_of_ble_eq_true rfl) fun E hE => ?_
  refine SV.seq' ?_
  refine SV.region ?_
  refine SV.op (OpL.ok (nb := 0) (ok_move (v := V.one (.sc _)) (.inr rfl) rfl) rfl (Nat.le_of_ble_eq_true rfl)) rfl ?_
  refine SV.nil ?_
  refine SV.tn ?_
  refine SV.seq' ?_
  refine SV.region ?_
  refine SV.op (OpL.ok (nb := 0) (ok_move (v := V.one (.sc _)) (.inl rfl) rfl) rfl (Nat.le_of_ble_eq_true rfl)) rfl ?_
  refine SV.op (OpL.ok (nb := 0) (ok_move (v := V.one (.sc _)) (.inl rfl) rfl) rfl (Nat.le_of_ble_eq_true rfl)) rfl ?_
  refine SV.op (OpL.ok (nb := 0) (ok_s2 (x := .tmp 7) (x' := .tmp 8) (VScal.one rfl) (VScal.one rfl) (fun ρ h1 h2 w => by go_simp; (try go_bits); with_reducible rfl) rfl) rfl (Nat.le_of_ble_eq_true rfl)) rfl ?_
  refine SV.op (OpL.ok (nb := 0) (ok_move (v := V.one (.sc _)) (.inl rfl) rfl) rfl (Nat.le_of_ble_eq_true rfl)) rfl ?_
  refine SV.split (d := 10) rfl (fun hg0 => ?_) (fun hg0 => ?_)
  · skip   -- g0.T
    have h0 := hg0
    refine SV.opY (OpL.ok (nb := 0) (ok_move (v := V.one (.sc _)) (.inl rfl) rfl) rfl (Nat.le_of_ble_eq_true rfl)) rfl rfl rfl (Nat.le_of_ble_eq_true rfl) rfl rfl ?_
    refine SV.opY (OpL.ok (nb := 0) (ok_move (v := V.one (.sc _)) (.inl rfl) rfl) rfl (Nat.le_of_ble_eq_true rfl)) rfl rfl rfl (Nat.le_of_ble_eq_true rfl) rfl rfl ?_
    refine SV.opY (OpL.ok (nb := 0) (ok_s2 (x := .tmp 11) (x' := .tmp 12) (VScal.one rfl) (VScal.one rfl) (fun ρ h1 h2 w => by go_simp; (try go_bits); with_reducible rfl) rfl) rfl (Nat.le_of_ble_eq_true rfl)) rfl rfl rfl (Nat.le_of_ble_eq_true rfl) rfl rfl ?_
    refine SV.op (OpL.ok (nb := 0) (ok_pickT (v := V.one (.sc _)) rfl rfl rfl) rfl (Nat.le_of_ble_eq_true rfl)) rfl ?_
    refine SV.op (OpL.ok (nb := 0) (ok_move (v := V.one (.sc _)) (.inr rfl) rfl) rfl (Nat.le_of_ble_eq_true rfl)) rfl ?_
    refine SV.nil ?_
    refine SV.tn ?_
    refine SV.ret ?_
    apply SV.done (hf := Tryd.results66) (ht := rfl) (he := .inl rfl)
    case hr => exact (ResAll.cons (ResOk.tmp (ag := false) (xs := [.sc _]) rfl) ResAll.nil')
    case h2 => simp [two]
    refine ⟨rfl, ⟨?_, trivial⟩, trivial⟩ <;> (show some (T.lit (Value.bool _)) = some (T.lit (Value.bool _)); refine congrArg (fun z => some (T.lit (Value.bool z))) ?_; (simp at hg0; simp; omega))
  · skip   -- g0.F
    have h0 := hg0
    refine SV.opN rfl rfl rfl (Nat.le_of_ble_eq_true rfl) rfl rfl rfl (Nat.le_of_ble_eq_true rfl) ?_
    refine SV.opN rfl rfl rfl (Nat.le_of_ble_eq_true rfl) rfl rfl rfl (Nat.le_of_ble_eq_true rfl) ?_
    refine SV.opN rfl rfl rfl (Nat.le_of_ble_eq_true rfl) rfl rfl rfl (Nat.le_of_ble_eq_true rfl) ?_
    refine SV.op (OpL.ok (nb := 0) (ok_pickF (v := V.one (.sc _)) rfl rfl rfl) rfl (Nat.le_of_ble_eq_true rfl)) rfl ?_
    refine SV.op (OpL.ok (nb := 0) (ok_move (v := V.one (.sc _)) (.inr rfl) rfl) rfl (Nat.le_of_ble_eq_true rfl)) rfl ?_
    refine SV.nil ?_
    refine SV.tn ?_
    refine SV.ret ?_
    apply SV.done (hf := Tryd.results66) (ht := rfl) (he := .inl rfl)
    case hr => exact (ResAll.cons (ResOk.tmp (ag := false) (xs := [.sc _]) rfl) ResAll.nil')
    case h2 => simp [two]
    refine ⟨rfl, ⟨?_, trivial⟩, trivial⟩ <;> (show some (T.lit (Value.bool _)) = some (T.lit (Value.bool _)); refine congrArg (fun z => some (T.lit (Value.bool z))) ?_; (simp at hg0; simp; omega))
set_option maxRecDepth 100000 in
set_option maxHeartbeats 2000000 in
theorem vupto_i (x hi : Int) : VC Tryd.prog 62 [(false, [.lit (.int .i64 (x))]), (false, [.lit (.int .i64 (hi))])] false [(false, [.lit (.bool (decide (0 ≤ x ∧ x ≤ hi)))])] := by
  refine VC.enter Tryd.func62 rfl Tryd.ntmps62 (Nat.le_of_ble_eq_true rfl) fun E hE => ?_
  refine SV.seq' ?_
  refine SV.region ?_
  refine SV.op (OpL.ok (nb := 0) (ok_move (v := V.one (.sc _)) (.inr rfl) rfl) rfl (Nat.le_of_ble_eq_true rfl)) rfl ?_
  refine SV.nil ?_
  refine SV.tn ?_
  refine SV.seq' ?_
  refine SV.region ?_
  refine SV.op (OpL.ok (nb := 0) (ok_move (v := V.one (.sc _)) (.inl rfl) rfl) rfl (Nat.le_of_ble_eq_true rfl)) rfl ?_
  refine SV.op (OpL.ok (nb := 0) (ok_s2 (x := .tmp 5) (x' := .const ((Value.int IntKind.i64 0))) (VScal.one rfl) (VScal.one rfl) (fun ρ h1 h2 w => by go_simp; (try go_bits); with_reducible rfl) rfl) rfl (Nat.le_of_ble_eq_true rfl)) rfl ?_
  refine SV.op (OpL.ok (nb := 0) (ok_move (v := V.one (.sc _)) (.inl rfl) rfl) rfl (Nat.le_of_ble_eq_true rfl)) rfl ?_
  refine SV.split (d := 7) rfl (fun hg0 => ?_) (fun hg0 => ?_)
  · skip   -- g0.T
    have h0 := hg0
    refine SV.opY (OpL.ok (nb := 0) (ok_move (v := V.one (.sc _)) (.inl rfl) rfl) rfl (Nat.le_of_ble_eq_true rfl)) rfl rfl rfl (Nat.le_of_ble_eq_true rfl) rfl rfl ?_
    refine SV.opY (OpL.ok (nb := 0) (ok_move (v := V.one (.sc _)) (.inl rfl) rfl) rfl (Nat.le_of_ble_eq_true rfl)) rfl rfl rfl (Nat.le_of_ble_eq_true rfl) rfl rfl ?_
    refine SV.opY (OpL.ok (nb := 0) (ok_s2 (x := .tmp 8) (x' := .tmp 9) (VScal.one rfl) (VScal.one rfl) (fun ρ h1 h2 w => by go_simp; (try go_bits); with_reducible rfl) rfl) rfl (Nat.le_of_ble_eq_true rfl)) rfl rfl rfl (Nat.le_of_ble_eq_true rfl) rfl rfl ?_
    refine SV.op (OpL.ok (nb := 0) (ok_pickT (v := V.one (.sc _)) rfl rfl rfl) rfl (Nat.le_of_ble_eq_true rfl)) rfl ?_
    refine SV.op (OpL.ok (nb := 0) (ok_move (v := V.one (.sc _)) (.inr rfl) rfl) rfl (Nat.le_of_ble_eq_true rfl)) rfl ?_
    refine SV.nil ?_
    refine SV.tn ?_
    refine SV.ret ?_
    apply SV.done (hf := Tryd.results62) (ht := rfl) (he := .inl rfl)
    case hr => exact (ResAll.cons (ResOk.tmp (ag := false) (xs := [.sc _]) rfl) ResAll.nil')
    case h2 => simp [two]
    refine ⟨rfl, ⟨?_, trivial⟩, trivial⟩ <;> (show some (T.lit (Value.bool _)) = some (T.lit (Value.bool _)); refine congrArg (fun z => some (T.lit (Value.bool z))) ?_; (simp at hg0; simp; omega))
  · skip   -- g0.F
    have h0 := hg0
    refine SV.opN rfl rfl rfl (Nat.le_of_ble_eq_true rfl) rfl rfl rfl (Nat.le_of_ble_eq_true rfl) ?_
    refine SV.opN rfl rfl rfl (Nat.le_of_ble_eq_true rfl) rfl rfl rfl (Nat.le_of_ble_eq_true rfl) ?_
    refine SV.opN rfl rfl rfl (Nat.le_of_ble_eq_true rfl) rfl rfl rfl (Nat.le_of_ble_eq_true rfl) ?_
    refine SV.op (OpL.ok (nb := 0) (ok_pickF (v := V.one (.sc _)) rfl rfl rfl) rfl (Nat.le_of_ble_eq_true rfl)) rfl ?_
    refine SV.op (OpL.ok (nb := 0) (ok_move (v := V.one (.sc _)) (.inr rfl) rfl) rfl (Nat.le_of_ble_eq_true rfl)) rfl ?_
    refine SV.nil ?_
    refine SV.tn ?_
    refine SV.ret ?_
    apply SV.done (hf := Tryd.results62) (ht := rfl) (he := .inl rfl)
    case hr => exact (ResAll.cons (ResOk.tmp (ag := false) (xs := [.sc _]) rfl) ResAll.nil')
    case h2 => simp [two]
    refine ⟨rfl, ⟨?_, trivial⟩, trivial⟩ <;> (show some (T.lit (Value.bool _)) = some (T.lit (Value.bool _)); refine congrArg (fun z => some (T.lit (Value.bool z))) ?_; (simp at hg0; simp; omega))
end Go.Proofs.YtmlcdhblofjpbaaDoor
/- Equal groups, valid rows: told by trees. -/
namespace Go.Proofs.YtmlcdhblofjpbaaDoor
open Go Go.RowKit V
set_option linter.unusedVariables false
set_option maxRecDepth 100000 in
set_option maxHeartbeats 2000000 in
theorem vsameg (X : List GroupD) (hX : X.length ≤ 300000000000) : VC Tryd.prog 11 [(false, [.seq 33 ((X).map tGroup)]), (false, [.seq 33 ((X).map tGroup)])] false [(false, [.lit (.bool true)])] := by
  refine VC.enter Tryd.func11 rfl Tryd.ntmps11 (Nat.le_of_ble_eq_true rfl) fun E hE => ?_
  refine SV.seq' ?_
  refine SV.region ?_
  refine SV.op (OpL.ok (nb := 0) (ok_move (v := V.one (.sc _)) (.inr rfl) rfl) rfl (Nat.le_of_ble_eq_true rfl)) rfl ?_
  refine SV.nil ?_
  refine SV.tn ?_
  refine SV.seq' ?_
  refine SV.seq' ?_
  refine SV.region ?_
  refine SV.op (OpL.ok (nb := 0) (ok_move (v := V.one (.ro _)) (.inl rfl) rfl) rfl (Nat.le_of_ble_eq_true rfl)) rfl ?_
  refine SV.op (OpL.ok (nb := 0) (ok_len (lf := .ro _) rfl elt_impl_Group.und rfl rfl) rfl (Nat.le_of_ble_eq_true rfl)) rfl ?_
  refine SV.op (OpL.ok (nb := 0) (ok_move (v := V.one (.ro _)) (.inl rfl) rfl) rfl (Nat.le_of_ble_eq_true rfl)) rfl ?_
  refine SV.op (OpL.ok (nb := 0) (ok_len (lf := .ro _) rfl elt_impl_Group.und rfl rfl) rfl (Nat.le_of_ble_eq_true rfl)) rfl ?_
  refine SV.op (OpL.ok (nb := 0) (ok_s2 (x := .tmp 7) (x' := .tmp 9) (VScal.one rfl) (VScal.one rfl) (fun ρ h1 h2 w => by go_simp; (try go_bits); with_reducible rfl) rfl) rfl (Nat.le_of_ble_eq_true rfl)) rfl ?_
  refine SV.nil ?_
  refine SV.tn ?_
  refine SV.cond rfl (fun hc0 => ?_) (fun hc0 => ?_)
  · skip   -- c0.T
    simp at hc0
  · skip   -- c0.F
    refine SV.skip ?_
    refine SV.tn ?_
    refine SV.seq' ?_
    refine SV.seq' ?_
    refine SV.region ?_
    refine SV.op (OpL.ok (nb := 0) (ok_move (v := V.one (.sc _)) (.inr rfl) rfl) rfl (Nat.le_of_ble_eq_true rfl)) rfl ?_
    refine SV.nil ?_
    refine SV.tn ?_
    refine SV.block ?_
    refine SV.loopF (X := Nat) (fun (σ : VS) t => ((((VS.nil.put 0 (σ.tm 0)).put 1 (σ.tm 1)).put 4 (σ.tm 4)).put 5 (V.flat false [.sc (.int .i64 ((t : Int)))]))) (fun t => t ≤ X.length) (fun t => X.length - t) ?_ ?_
    · skip
      refine SV.again (fun i => [].getD i 0) 0 ((by first | exact Nat.zero_le _ | (refine ⟨Nat.zero_le _, ?_⟩; simp; done) | (simp; done) | omega)) (pins hE rfl rfl) (VS.le.mk' (le_put (le_put (le_put (le_put le_nil (V.le.keep (ag := false) (xs := [.ro _]) (ys := [.ro _]) rfl rfl ⟨rfl, trivial⟩)) (V.le.keep (ag := false) (xs := [.ro _]) (ys := [.ro _]) rfl rfl ⟨rfl, trivial⟩)) (V.le.keep (ag := false) (xs := [.sc _]) (ys := [.sc _]) rfl rfl ⟨rfl, trivial⟩)) (V.le.keep (ag := false) (xs := [.sc _]) (ys := [.sc _]) rfl rfl ⟨(by first | rfl | (show Leaf.sc _ = Leaf.sc _; refine congrArg Leaf.sc ?_; first | rfl | go_num | (simp [cntAll]; done)) | (simp [cntAll]; done) | (simp; omega)), trivial⟩)) trivial trivial nil_ob (fun i j hi hj e => absurd hi (Nat.not_lt_zero i)))
    · rintro t ht
      refine SV.seq' ?_
      refine SV.seq' ?_
      refine SV.region ?_
      refine SV.op (OpL.ok (nb := 0) (ok_move (v := V.one (.sc _)) (.inl rfl) rfl) rfl (Nat.le_of_ble_eq_true rfl)) rfl ?_
      refine SV.op (OpL.ok (nb := 0) (ok_move (v := V.one (.ro _)) (.inl rfl) rfl) rfl (Nat.le_of_ble_eq_true rfl)) rfl ?_
      refine SV.op (OpL.ok (nb := 0) (ok_len (lf := .ro _) rfl elt_impl_Group.und rfl rfl) rfl (Nat.le_of_ble_eq_true rfl)) rfl ?_
      refine SV.op (OpL.ok (nb := 0) (ok_s2 (x := .tmp 11) (x' := .tmp 13) (VScal.one rfl) (VScal.one rfl) (fun ρ h1 h2 w => by go_simp; (try go_bits); with_reducible rfl) rfl) rfl (Nat.le_of_ble_eq_true rfl)) rfl ?_
      refine SV.nil ?_
      refine SV.tn ?_
      refine SV.cond rfl (fun hc1 => ?_) (fun hc1 => ?_)
      · skip   -- c1.T
        have htl : t < X.length := by simpa using hc1
        have hx : X[t]? = some X[t] := by simp [htl]
        refine SV.skip ?_
        refine SV.tn ?_
        refine SV.seq' ?_
        refine SV.block ?_
        refine SV.seq' ?_
        refine SV.draw [.q 0, .q 1, .q 2, .q 3, .q 4, .q 5, .q 6, .q 7, .q 8] [] (by kernel_rfl) (by kernel_rfl) ?_
        refine DW.q rfl (ok_move (v := V.one (.ro _)) (.inl rfl) rfl) rfl rfl (Nat.le_of_ble_eq_true rfl) (fun _ _ _ _ h => h) ?_
        refine DW.q rfl (ok_move (v := V.one (.sc _)) (.inl rfl) rfl) rfl rfl (Nat.le_of_ble_eq_true rfl) (fun _ _ _ _ h => h) ?_
        refine DW.q rfl (ok_index (n := 5) (lf := .ro _) rfl elt_impl_Group.und sz_impl_Group rfl rfl rfl (map_at hx)) rfl rfl (Nat.le_of_ble_eq_true rfl) (fun _ _ _ _ h => h) ?_
        refine DW.q rfl (ok_load_rp (ag := true) (m := 5) (ys := [.sc _, .sc _, .sc _, .sc _, .sc _]) rfl rfl agg_impl_Group sz_impl_Group (fun h => by cases h) (Nat.le_of_ble_eq_true rfl) rfl) rfl rfl (Nat.le_of_ble_eq_true rfl) (fun _ _ _ _ h => h) ?_
        refine DW.q rfl (ok_move (v := V.one (.ro _)) (.inl rfl) rfl) rfl rfl (Nat.le_of_ble_eq_true rfl) (fun _ _ _ _ h => h) ?_
        refine DW.q rfl (ok_move (v := V.one (.sc _)) (.inl rfl) rfl) rfl rfl (Nat.le_of_ble_eq_true rfl) (fun _ _ _ _ h => h) ?_
        refine DW.q rfl (ok_index (n := 5) (lf := .ro _) rfl elt_impl_Group.und sz_impl_Group rfl rfl rfl (map_at hx)) rfl rfl (Nat.le_of_ble_eq_true rfl) (fun _ _ _ _ h => h) ?_
        refine DW.q rfl (ok_load_rp (ag := true) (m := 5) (ys := [.sc _, .sc _, .sc _, .sc _, .sc _]) rfl rfl agg_impl_Group sz_impl_Group (fun h => by cases h) (Nat.le_of_ble_eq_true rfl) rfl) rfl rfl (Nat.le_of_ble_eq_true rfl) (fun _ _ _ _ h => h) ?_
        refine DW.q rfl (ok_s2 (v := .bool (decide (X[t] ≠ X[t]))) (x := .tmp 20) (x' := .tmp 24) ⟨true, [_, _, _, _, _], rfl, rfl⟩ ⟨true, [_, _, _, _, _], rfl, rfl⟩ (fun ρ h1 h2 w => neq_impl_Group X[t] X[t] ρ _ _ _ w rfl h1 h2) rfl) rfl rfl (Nat.le_of_ble_eq_true rfl) (fun _ _ _ _ h => h) ?_
        refine DW.stores ?_
        refine SV.zend ?_
        refine SV.tn ?_
        refine SV.cond rfl (fun hc2 => ?_) (fun hc2 => ?_)
        · skip   -- c2.T
          simp at hc2
        · skip   -- c2.F
          refine SV.skip ?_
          refine SV.bn ?_
          refine SV.tn ?_
          refine SV.region ?_
          refine SV.op (OpL.ok (nb := 0) (ok_move (v := V.one (.sc _)) (.inl rfl) rfl) rfl (Nat.le_of_ble_eq_true rfl)) rfl ?_
          refine SV.op (OpL.ok (nb := 0) (ok_s2 (x := .tmp 15) (x' := .const ((Value.int IntKind.i64 1))) (VScal.one rfl) (VScal.one rfl) (fun ρ h1 h2 w => by go_simp; (try go_bits); with_reducible rfl) rfl) rfl (Nat.le_of_ble_eq_true rfl)) rfl ?_
          refine SV.op (OpL.ok (nb := 0) (ok_move (v := V.one (.sc _)) (.inr rfl) rfl) rfl (Nat.le_of_ble_eq_true rfl)) rfl ?_
          refine SV.nil ?_
          refine SV.tn ?_
          refine SV.again (fun i => [].getD i 0) (t + 1) (⟨by omega, by omega⟩) (pins hE rfl rfl) (VS.le.mk' (le_put (le_put (le_put (le_put le_nil (V.le.keep (ag := false) (xs := [.ro _]) (ys := [.ro _]) rfl rfl ⟨rfl, trivial⟩)) (V.le.keep (ag := false) (xs := [.ro _]) (ys := [.ro _]) rfl rfl ⟨rfl, trivial⟩)) (V.le.keep (ag := false) (xs := [.sc _]) (ys := [.sc _]) rfl rfl ⟨rfl, trivial⟩)) (V.le.keep (ag := false) (xs := [.sc _]) (ys := [.sc _]) rfl rfl ⟨(by first | rfl | (show Leaf.sc _ = Leaf.sc _; refine congrArg Leaf.sc ?_; first | rfl | go_num | (simp [cntAll]; done)) | (simp [cntAll]; done) | (simp; omega)), trivial⟩)) trivial trivial nil_ob (fun i j hi hj e => absurd hi (Nat.not_lt_zero i)))
      · skip   -- c1.F
        refine SV.exit ?_
        refine SV.te ?_
        refine SV.te ?_
        refine SV.bh ?_
        refine SV.tn ?_
        refine SV.seq' ?_
        refine SV.region ?_
        refine SV.op (OpL.ok (nb := 0) (ok_move (v := V.one (.sc _)) (.inr rfl) rfl) rfl (Nat.le_of_ble_eq_true rfl)) rfl ?_
        refine SV.nil ?_
        refine SV.tn ?_
        refine SV.ret ?_
        apply SV.done (hf := Tryd.results11) (ht := rfl) (he := .inl rfl)
        case hr => exact (ResAll.cons (ResOk.tmp (ag := false) (xs := [.sc _]) rfl) ResAll.nil')
        case h2 => simp [two]
        refine ⟨rfl, ⟨?_, trivial⟩, trivial⟩ <;> rfl
set_option maxRecDepth 100000 in
set_option maxHeartbeats 2000000 in
theorem vokrow_s (r : R) : VC Tryd.prog 61 [(true, tRow r)] false [(false, [.lit (.bool r.ok)])] := by
  refine VC.enter Tryd.func61 rfl Tryd.ntmps61 (Nat.le_of_ble_eq_true rfl) fun E hE => ?_
  refine SV.seq' ?_
  refine SV.region ?_
  refine SV.op (OpMk.ok (ok_box (kk := 0) (ag := true) (xs := [.sc _, .sc _, .sc _]) rfl rfl rfl (fun h => by cases h) rfl rfl (Nat.le_of_ble_eq_true rfl))) rfl ?_
  refine SV.op (OpL.ok (nb := 1) (ok_move (v := V.one (.sc _)) (.inr rfl) rfl) rfl (Nat.le_of_ble_eq_true rfl)) rfl ?_
  refine SV.nil ?_
  refine SV.tn ?_
  refine SV.seq' ?_
  refine SV.region ?_
  refine SV.op (OpL.ok (nb := 1) (ok_field_bp (b := 0) (o' := 0) (off := 0) rfl rfl fld_impl_Row_0) rfl (Nat.le_of_ble_eq_true rfl)) rfl ?_
  refine SV.op (OpL.ok (nb := 1) (ok_load_bp (b := 0) (i := 0) (ag := false) (m := 1) (ys := [.sc _]) rfl rfl rfl agg_int sz_int (fun _ => rfl) rfl rfl (Nat.le_of_ble_eq_true rfl)) rfl (Nat.le_of_ble_eq_true rfl)) rfl ?_
  refine SV.op (OpMk.ok (ok_call (ls := [(false, [.sc _])]) rfl rfl ⟨_, _, Tryd.func66, rfl, by decide⟩ (vin_s' r.key 0 9) ⟨⟨[.sc _], rfl, ⟨rfl, trivial⟩⟩, ⟨[.sc _], rfl, ⟨rfl, trivial⟩⟩, ⟨[.sc _], rfl, ⟨rfl, trivial⟩⟩, trivial⟩ rfl (Nat.le_of_ble_eq_true rfl))) rfl ?_
  refine SV.op (OpL.ok (nb := 1) (ok_move (v := V.one (.sc _)) (.inl rfl) rfl) rfl (Nat.le_of_ble_eq_true rfl)) rfl ?_
  refine SV.split (d := 6) rfl (fun hg0 => ?_) (fun hg0 => ?_)
  · skip   -- g0.T
    refine SV.opY (OpL.ok (nb := 1) (ok_field_bp (b := 0) (o' := 0) (off := 1) rfl rfl fld_impl_Row_1) rfl (Nat.le_of_ble_eq_true rfl)) rfl rfl rfl (Nat.le_of_ble_eq_true rfl) rfl rfl ?_
    refine SV.opY (OpL.ok (nb := 1) (ok_load_bp (b := 0) (i := 1) (ag := false) (m := 1) (ys := [.sc _]) rfl rfl rfl agg_int sz_int (fun _ => rfl) rfl rfl (Nat.le_of_ble_eq_true rfl)) rfl (Nat.le_of_ble_eq_true rfl)) rfl rfl rfl (Nat.le_of_ble_eq_true rfl) rfl rfl ?_
    refine SV.opY (OpMk.ok (ok_call (ls := [(false, [.sc _])]) rfl rfl ⟨_, _, Tryd.func66, rfl, by decide⟩ (vin_s' r.value 0 99) ⟨⟨[.sc _], rfl, ⟨rfl, trivial⟩⟩, ⟨[.sc _], rfl, ⟨rfl, trivial⟩⟩, ⟨[.sc _], rfl, ⟨rfl, trivial⟩⟩, trivial⟩ rfl (Nat.le_of_ble_eq_true rfl))) rfl rfl rfl (Nat.le_of_ble_eq_true rfl) rfl rfl ?_
    refine SV.op (OpL.ok (nb := 1) (ok_pickT (v := V.one (.sc _)) rfl rfl rfl) rfl (Nat.le_of_ble_eq_true rfl)) rfl ?_
    refine SV.op (OpL.ok (nb := 1) (ok_move (v := V.one (.sc _)) (.inl rfl) rfl) rfl (Nat.le_of_ble_eq_true rfl)) rfl ?_
    refine SV.split (d := 11) rfl (fun hg1 => ?_) (fun hg1 => ?_)
    · skip   -- g1.T
      refine SV.opY (OpL.ok (nb := 1) (ok_field_bp (b := 0) (o' := 0) (off := 2) rfl rfl fld_impl_Row_2) rfl (Nat.le_of_ble_eq_true rfl)) rfl rfl rfl (Nat.le_of_ble_eq_true rfl) rfl rfl ?_
      refine SV.opY (OpL.ok (nb := 1) (ok_load_bp (b := 0) (i := 2) (ag := false) (m := 1) (ys := [.sc _]) rfl rfl rfl agg_int sz_int (fun _ => rfl) rfl rfl (Nat.le_of_ble_eq_true rfl)) rfl (Nat.le_of_ble_eq_true rfl)) rfl rfl rfl (Nat.le_of_ble_eq_true rfl) rfl rfl ?_
      refine SV.opY (OpMk.ok (ok_call (ls := [(false, [.sc _])]) rfl rfl ⟨_, _, Tryd.func66, rfl, by decide⟩ (vin_s' r.width 0 3) ⟨⟨[.sc _], rfl, ⟨rfl, trivial⟩⟩, ⟨[.sc _], rfl, ⟨rfl, trivial⟩⟩, ⟨[.sc _], rfl, ⟨rfl, trivial⟩⟩, trivial⟩ rfl (Nat.le_of_ble_eq_true rfl))) rfl rfl rfl (Nat.le_of_ble_eq_true rfl) rfl rfl ?_
      refine SV.op (OpL.ok (nb := 1) (ok_pickT (v := V.one (.sc _)) rfl rfl rfl) rfl (Nat.le_of_ble_eq_true rfl)) rfl ?_
      refine SV.op (OpL.ok (nb := 1) (ok_move (v := V.one (.sc _)) (.inr rfl) rfl) rfl (Nat.le_of_ble_eq_true rfl)) rfl ?_
      refine SV.nil ?_
      refine SV.tn ?_
      refine SV.ret ?_
      apply SV.done (hf := Tryd.results61) (ht := rfl) (he := .inl rfl)
      case hr => exact (ResAll.cons (ResOk.tmp (ag := false) (xs := [.sc _]) rfl) ResAll.nil')
      case h2 => simp [two]
      refine ⟨rfl, ⟨?_, trivial⟩, trivial⟩ <;> (show some (T.lit (Value.bool _)) = some (T.lit (Value.bool _)); refine congrArg (fun z => some (T.lit (Value.bool z))) ?_; unfold R.ok; first | (rw [eq_comm, decide_eq_false_iff_not]; simp at *; omega) | (rw [Bool.eq_iff_iff]; simp at *; omega))
    · skip   -- g1.F
      refine SV.opN rfl rfl rfl (Nat.le_of_ble_eq_true rfl) rfl rfl rfl (Nat.le_of_ble_eq_true rfl) ?_
      refine SV.opN rfl rfl rfl (Nat.le_of_ble_eq_true rfl) rfl rfl rfl (Nat.le_of_ble_eq_true rfl) ?_
      refine SV.opN rfl rfl rfl (Nat.le_of_ble_eq_true rfl) rfl rfl rfl (Nat.le_of_ble_eq_true rfl) ?_
      refine SV.op (OpL.ok (nb := 1) (ok_pickF (v := V.one (.sc _)) rfl rfl rfl) rfl (Nat.le_of_ble_eq_true rfl)) rfl ?_
      refine SV.op (OpL.ok (nb := 1) (ok_move (v := V.one (.sc _)) (.inr rfl) rfl) rfl (Nat.le_of_ble_eq_true rfl)) rfl ?_
      refine SV.nil ?_
      refine SV.tn ?_
      refine SV.ret ?_
      apply SV.done (hf := Tryd.results61) (ht := rfl) (he := .inl rfl)
      case hr => exact (ResAll.cons (ResOk.tmp (ag := false) (xs := [.sc _]) rfl) ResAll.nil')
      case h2 => simp [two]
      refine ⟨rfl, ⟨?_, trivial⟩, trivial⟩ <;> (show some (T.lit (Value.bool _)) = some (T.lit (Value.bool _)); refine congrArg (fun z => some (T.lit (Value.bool z))) ?_; unfold R.ok; first | (rw [eq_comm, decide_eq_false_iff_not]; simp at *; omega) | (rw [Bool.eq_iff_iff]; simp at *; omega))
  · skip   -- g0.F
    refine SV.opN rfl rfl rfl (Nat.le_of_ble_eq_true rfl) rfl rfl rfl (Nat.le_of_ble_eq_true rfl) ?_
    refine SV.opN rfl rfl rfl (Nat.le_of_ble_eq_true rfl) rfl rfl rfl (Nat.le_of_ble_eq_true rfl) ?_
    refine SV.opN rfl rfl rfl (Nat.le_of_ble_eq_true rfl) rfl rfl rfl (Nat.le_of_ble_eq_true rfl) ?_
    refine SV.op (OpL.ok (nb := 1) (ok_pickF (v := V.one (.sc _)) rfl rfl rfl) rfl (Nat.le_of_ble_eq_true rfl)) rfl ?_
    refine SV.op (OpL.ok (nb := 1) (ok_move (v := V.one (.sc _)) (.inl rfl) rfl) rfl (Nat.le_of_ble_eq_true rfl)) rfl ?_
    refine SV.split (d := 11) rfl (fun hg2 => ?_) (fun hg2 => ?_)
    · skip   -- g2.T
      simp at hg2
    · skip   -- g2.F
      refine SV.opN rfl rfl rfl (Nat.le_of_ble_eq_true rfl) rfl rfl rfl (Nat.le_of_ble_eq_true rfl) ?_
      refine SV.opN rfl rfl rfl (Nat.le_of_ble_eq_true rfl) rfl rfl rfl (Nat.le_of_ble_eq_true rfl) ?_
      refine SV.opN rfl rfl rfl (Nat.le_of_ble_eq_true rfl) rfl rfl rfl (Nat.le_of_ble_eq_true rfl) ?_
      refine SV.op (OpL.ok (nb := 1) (ok_pickF (v := V.one (.sc _)) rfl rfl rfl) rfl (Nat.le_of_ble_eq_true rfl)) rfl ?_
      refine SV.op (OpL.ok (nb := 1) (ok_move (v := V.one (.sc _)) (.inr rfl) rfl) rfl (Nat.le_of_ble_eq_true rfl)) rfl ?_
      refine SV.nil ?_
      refine SV.tn ?_
      refine SV.ret ?_
      apply SV.done (hf := Tryd.results61) (ht := rfl) (he := .inl rfl)
      case hr => exact (ResAll.cons (ResOk.tmp (ag := false) (xs := [.sc _]) rfl) ResAll.nil')
      case h2 => simp [two]
      refine ⟨rfl, ⟨?_, trivial⟩, trivial⟩ <;> (show some (T.lit (Value.bool _)) = some (T.lit (Value.bool _)); refine congrArg (fun z => some (T.lit (Value.bool z))) ?_; unfold R.ok; first | (rw [eq_comm, decide_eq_false_iff_not]; simp at *; omega) | (rw [Bool.eq_iff_iff]; simp at *; omega))
set_option maxRecDepth 100000 in
set_option maxHeartbeats 2000000 in
theorem vokrows_s (X : List R) (hX : X.length ≤ 300000000000) : VC Tryd.prog 16 [(false, [.seq 41 (X.map tRow)])] false [(false, [.lit (.bool (okRows X))])] := by
  refine VC.enter Tryd.func16 rfl Tryd.ntmps16 (Nat.le_of_ble_eq_true rfl) fun E hE => ?_
  refine SV.seq' ?_
  refine SV.region ?_
  refine SV.op (OpL.ok (nb := 0) (ok_move (v := V.one (.sc _)) (.inr rfl) rfl) rfl (Nat.le_of_ble_eq_true rfl)) rfl ?_
  refine SV.nil ?_
  refine SV.tn ?_
  refine SV.seq' ?_
  refine SV.seq' ?_
  refine SV.region ?_
  refine SV.op (OpL.ok (nb := 0) (ok_move (v := V.one (.sc _)) (.inr rfl) rfl) rfl (Nat.le_of_ble_eq_true rfl)) rfl ?_
  refine SV.nil ?_
  refine SV.tn ?_
  refine SV.block ?_
  refine SV.loopF (X := Nat) (fun (σ : VS) t => (((VS.nil.put 0 (σ.tm 0)).put 2 (σ.tm 2)).put 3 (V.flat false [.sc (.int .i64 ((t : Int)))]))) (fun t => t ≤ X.length ∧ ∀ u r, u < t → X[u]? = some r → r.ok = true) (fun t => X.length - t) ?_ ?_
  · skip
    refine SV.again (fun i => [].getD i 0) 0 (⟨Nat.zero_le _, fun u r h => absurd h (Nat.not_lt_zero u)⟩) (pins hE rfl rfl) (VS.le.mk' (le_put (le_put (le_put le_nil (V.le.keep (ag := false) (xs := [.ro _]) (ys := [.ro _]) rfl rfl ⟨rfl, trivial⟩)) (V.le.keep (ag := false) (xs := [.sc _]) (ys := [.sc _]) rfl rfl ⟨rfl, trivial⟩)) (V.le.keep (ag := false) (xs := [.sc _]) (ys := [.sc _]) rfl rfl ⟨(by first | rfl | (show Leaf.sc _ = Leaf.sc _; refine congrArg Leaf.sc ?_; first | rfl | go_num | (simp [cntAll]; done)) | (simp [cntAll]; done) | (simp; omega)), trivial⟩)) trivial trivial nil_ob (fun i j hi hj e => absurd hi (Nat.not_lt_zero i)))
  · rintro t ⟨ht, hok⟩
    refine SV.seq' ?_
    refine SV.seq' ?_
    refine SV.region ?_
    refine SV.op (OpL.ok (nb := 0) (ok_move (v := V.one (.sc _)) (.inl rfl) rfl) rfl (Nat.le_of_ble_eq_true rfl)) rfl ?_
    refine SV.op (OpL.ok (nb := 0) (ok_move (v := V.one (.ro _)) (.inl rfl) rfl) rfl (Nat.le_of_ble_eq_true rfl)) rfl ?_
    refine SV.op (OpL.ok (nb := 0) (ok_len (lf := .ro _) rfl elt_impl_Row.und rfl rfl) rfl (Nat.le_of_ble_eq_true rfl)) rfl ?_
    refine SV.op (OpL.ok (nb := 0) (ok_s2 (x := .tmp 4) (x' := .tmp 6) (VScal.one rfl) (VScal.one rfl) (fun ρ h1 h2 w => by go_simp; (try go_bits); with_reducible rfl) rfl) rfl (Nat.le_of_ble_eq_true rfl)) rfl ?_
    refine SV.nil ?_
    refine SV.tn ?_
    refine SV.cond rfl (fun hc0 => ?_) (fun hc0 => ?_)
    · skip   -- c0.T
      have htl : t < X.length := by simpa using hc0
      have hx : X[t]? = some X[t] := by simp [htl]
      refine SV.skip ?_
      refine SV.tn ?_
      refine SV.seq' ?_
      refine SV.block ?_
      refine SV.seq' ?_
      refine SV.region ?_
      refine SV.op (OpL.ok (nb := 0) (ok_move (v := V.one (.ro _)) (.inl rfl) rfl) rfl (Nat.le_of_ble_eq_true rfl)) rfl ?_
      refine SV.op (OpL.ok (nb := 0) (ok_move (v := V.one (.sc _)) (.inl rfl) rfl) rfl (Nat.le_of_ble_eq_true rfl)) rfl ?_
      refine SV.op (OpL.ok (nb := 0) (ok_index (n := 3) (lf := .ro _) rfl elt_impl_Row.und sz_impl_Row rfl rfl rfl (map_at (by assumption))) rfl (Nat.le_of_ble_eq_true rfl)) rfl ?_
      refine SV.op (OpL.ok (nb := 0) (ok_load_rp (ag := true) (m := 3) (ys := [.sc _, .sc _, .sc _]) rfl rfl agg_impl_Row sz_impl_Row (fun h => by cases h) (Nat.le_of_ble_eq_true rfl) rfl) rfl (Nat.le_of_ble_eq_true rfl)) rfl ?_
      refine SV.op (OpMk.ok (ok_call (ls := [(false, [.sc _])]) rfl rfl ⟨_, _, Tryd.func61, rfl, by decide⟩ (vokrow_s X[t]) ⟨⟨[.sc _, .sc _, .sc _], rfl, ⟨rfl, rfl, rfl, trivial⟩⟩, trivial⟩ rfl (Nat.le_of_ble_eq_true rfl))) rfl ?_
      refine SV.op (OpL.ok (nb := 0) (ok_s1 (x := .tmp 14) (VScal.one rfl) (fun ρ h1 w => by go_simp; (try go_bits); with_reducible rfl) rfl) rfl (Nat.le_of_ble_eq_true rfl)) rfl ?_
      refine SV.nil ?_
      refine SV.tn ?_
      refine SV.cond rfl (fun hc1 => ?_) (fun hc1 => ?_)
      · skip   -- c1.T
        have ho : okRows X = false := by
          have hb : X[t].ok = false := by simpa using hc1
          have : allOk X = false := by
            unfold allOk
            rw [List.all_eq_false]
            exact ⟨X[t], List.getElem_mem htl, by simp [hb]⟩
          unfold okRows; rw [this, Bool.and_false]
        refine SV.seq' ?_
        refine SV.region ?_
        refine SV.op (OpL.ok (nb := 0) (ok_move (v := V.one (.sc _)) (.inr rfl) rfl) rfl (Nat.le_of_ble_eq_true rfl)) rfl ?_
        refine SV.nil ?_
        refine SV.tn ?_
        refine SV.ret ?_
        refine SV.br ?_
        refine SV.tr ?_
        refine SV.tr ?_
        refine SV.br ?_
        refine SV.tr ?_
        apply SV.done (hf := Tryd.results16) (ht := rfl) (he := .inl rfl)
        case hr => exact (ResAll.cons (ResOk.tmp (ag := false) (xs := [.sc _]) rfl) ResAll.nil')
        case h2 => simp [two]
        refine ⟨rfl, ⟨?_, trivial⟩, trivial⟩ <;> (rw [ho]; first | rfl | ((show some (T.lit (Value.bool _)) = some (T.lit (Value.bool _)); refine congrArg (fun z => some (T.lit (Value.bool z))) ?_; rw [Bool.eq_iff_iff]; simp; omega)))
      · skip   -- c1.F
        refine SV.skip ?_
        refine SV.bn ?_
        refine SV.tn ?_
        refine SV.region ?_
        refine SV.op (OpL.ok (nb := 0) (ok_move (v := V.one (.sc _)) (.inl rfl) rfl) rfl (Nat.le_of_ble_eq_true rfl)) rfl ?_
        refine SV.op (OpL.ok (nb := 0) (ok_s2 (x := .tmp 8) (x' := .const ((Value.int IntKind.i64 1))) (VScal.one rfl) (VScal.one rfl) (fun ρ h1 h2 w => by go_simp; (try go_bits); with_reducible rfl) rfl) rfl (Nat.le_of_ble_eq_true rfl)) rfl ?_
        refine SV.op (OpL.ok (nb := 0) (ok_move (v := V.one (.sc _)) (.inr rfl) rfl) rfl (Nat.le_of_ble_eq_true rfl)) rfl ?_
        refine SV.nil ?_
        refine SV.tn ?_
        refine SV.again (fun i => [].getD i 0) (t + 1) (⟨⟨by omega, fun u r hu hr => by rcases Nat.lt_or_ge u t with h1 | h1; (exact hok u r h1 hr); (have h2 : u = t := (by omega); subst h2; rw [hx] at hr; cases hr; simpa using hc1)⟩, by omega⟩) (pins hE rfl rfl) (VS.le.mk' (le_put (le_put (le_put le_nil (V.le.keep (ag := false) (xs := [.ro _]) (ys := [.ro _]) rfl rfl ⟨rfl, trivial⟩)) (V.le.keep (ag := false) (xs := [.sc _]) (ys := [.sc _]) rfl rfl ⟨rfl, trivial⟩)) (V.le.keep (ag := false) (xs := [.sc _]) (ys := [.sc _]) rfl rfl ⟨(by first | rfl | (show Leaf.sc _ = Leaf.sc _; refine congrArg Leaf.sc ?_; first | rfl | go_num | (simp [cntAll]; done)) | (simp [cntAll]; done) | (simp; omega)), trivial⟩)) trivial trivial nil_ob (fun i j hi hj e => absurd hi (Nat.not_lt_zero i)))
    · skip   -- c0.F
      have hte : ¬ t < X.length := by simpa using hc0
      have ho : okRows X = decide (X.length ≤ 24) := by
        have : allOk X = true := by
          unfold allOk
          rw [List.all_eq_true]
          intro r hr
          obtain ⟨u, hu, rfl⟩ := List.mem_iff_getElem.1 hr
          exact hok u _ (by omega) (List.getElem?_eq_getElem hu)
        unfold okRows; rw [this, Bool.and_true]
      refine SV.exit ?_
      refine SV.te ?_
      refine SV.te ?_
      refine SV.bh ?_
      refine SV.tn ?_
      refine SV.seq' ?_
      refine SV.region ?_
      refine SV.op (OpL.ok (nb := 0) (ok_move (v := V.one (.ro _)) (.inl rfl) rfl) rfl (Nat.le_of_ble_eq_true rfl)) rfl ?_
      refine SV.op (OpL.ok (nb := 0) (ok_len (lf := .ro _) rfl elt_impl_Row.und rfl rfl) rfl (Nat.le_of_ble_eq_true rfl)) rfl ?_
      refine SV.op (OpL.ok (nb := 0) (ok_s2 (x := .tmp 17) (x' := .const ((Value.int IntKind.i64 24))) (VScal.one rfl) (VScal.one rfl) (fun ρ h1 h2 w => by go_simp; (try go_bits); with_reducible rfl) rfl) rfl (Nat.le_of_ble_eq_true rfl)) rfl ?_
      refine SV.op (OpL.ok (nb := 0) (ok_move (v := V.one (.sc _)) (.inr rfl) rfl) rfl (Nat.le_of_ble_eq_true rfl)) rfl ?_
      refine SV.nil ?_
      refine SV.tn ?_
      refine SV.ret ?_
      apply SV.done (hf := Tryd.results16) (ht := rfl) (he := .inl rfl)
      case hr => exact (ResAll.cons (ResOk.tmp (ag := false) (xs := [.sc _]) rfl) ResAll.nil')
      case h2 => simp [two]
      refine ⟨rfl, ⟨?_, trivial⟩, trivial⟩ <;> (rw [ho]; first | rfl | ((show some (T.lit (Value.bool _)) = some (T.lit (Value.bool _)); refine congrArg (fun z => some (T.lit (Value.bool z))) ?_; rw [Bool.eq_iff_iff]; simp; omega)))
end Go.Proofs.YtmlcdhblofjpbaaDoor
