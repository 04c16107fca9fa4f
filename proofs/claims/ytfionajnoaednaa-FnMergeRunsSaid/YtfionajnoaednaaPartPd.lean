/- Texts joined: InT RunI MrgQ RunB RunV MrgR RunW MrgE MrgP RunF SameR. -/
import Derived.Test.YtfionajnoaednaaPartPc
set_option linter.unusedSimpArgs false
set_option linter.unusedVariables false
/- Numbers within bounds: told by trees. -/
namespace Go.Proofs.Ytfionajnoaednaa
open Go Go.RowKit V
set_option linter.unusedVariables false
set_option maxRecDepth 100000 in
set_option maxHeartbeats 2000000 in
theorem vin_s' (x lo hi : Int) : VC Try.prog 70 [(false, [.lit (.int .i64 (x))]), (false, [.lit (.int .i64 (lo))]), (false, [.lit (.int .i64 (hi))])] false [(false, [.lit (.bool (decide (lo ≤ x ∧ x ≤ hi)))])] := by
  refine VC.enter Try.func70 rfl Try.ntmps70 (gle rfl) fun E hE => ?_
  refine SV.seq' ?_
  refine SV.region ?_
  refine SV.op (OpL.ok (nb := 0) (ok_move (v := V.one (.sc _)) (.inr rfl) rfl) rfl (gle rfl)) rfl ?_
  refine SV.nil ?_
  refine SV.tn ?_
  refine SV.seq' ?_
  refine SV.region ?_
  refine SV.op (OpL.ok (nb := 0) (ok_move (v := V.one (.sc _)) (.inl rfl) rfl) rfl (gle rfl)) rfl ?_
  refine SV.op (OpL.ok (nb := 0) (ok_move (v := V.one (.sc _)) (.inl rfl) rfl) rfl (gle rfl)) rfl ?_
  refine SV.op (OpL.ok (nb := 0) (ok_s2 (x := .tmp 7) (x' := .tmp 8) (VScal.one rfl) (VScal.one rfl) (fun ρ h1 h2 w => by go_simp; (try go_bits); with_reducible rfl) rfl) rfl (gle rfl)) rfl ?_
  refine SV.op (OpL.ok (nb := 0) (ok_move (v := V.one (.sc _)) (.inl rfl) rfl) rfl (gle rfl)) rfl ?_
  refine SV.split (d := 10) rfl (fun hg0 => ?_) (fun hg0 => ?_)
  · skip   -- g0.T
    have h0 := hg0
    refine SV.opY (OpL.ok (nb := 0) (ok_move (v := V.one (.sc _)) (.inl rfl) rfl) rfl (gle rfl)) rfl rfl rfl (gle rfl) rfl rfl ?_
    refine SV.opY (OpL.ok (nb := 0) (ok_move (v := V.one (.sc _)) (.inl rfl) rfl) rfl (gle rfl)) rfl rfl rfl (gle rfl) rfl rfl ?_
    refine SV.opY (OpL.ok (nb := 0) (ok_s2 (x := .tmp 11) (x' := .tmp 12) (VScal.one rfl) (VScal.one rfl) (fun ρ h1 h2 w => by go_simp; (try go_bits); with_reducible rfl) rfl) rfl (gle rfl)) rfl rfl rfl (gle rfl) rfl rfl ?_
    refine SV.op (OpL.ok (nb := 0) (ok_pickT (v := V.one (.sc _)) rfl rfl rfl) rfl (gle rfl)) rfl ?_
    refine SV.op (OpL.ok (nb := 0) (ok_move (v := V.one (.sc _)) (.inr rfl) rfl) rfl (gle rfl)) rfl ?_
    refine SV.nil ?_
    refine SV.tn ?_
    refine SV.ret ?_
    apply SV.done (hf := Try.results70) (ht := rfl) (he := .inl rfl)
    case hr => exact (ResAll.cons (ResOk.tmp (ag := false) (xs := [.sc _]) rfl) ResAll.nil')
    case h2 => simp [two]
    refine ⟨rfl, ⟨?_, trivial⟩, trivial⟩ <;> (show some (T.lit (Value.bool _)) = some (T.lit (Value.bool _)); refine congrArg (fun z => some (T.lit (Value.bool z))) ?_; (simp at hg0; simp; omega))
  · skip   -- g0.F
    have h0 := hg0
    refine SV.opN rfl rfl rfl (gle rfl) rfl rfl rfl (gle rfl) ?_
    refine SV.opN rfl rfl rfl (gle rfl) rfl rfl rfl (gle rfl) ?_
    refine SV.opN rfl rfl rfl (gle rfl) rfl rfl rfl (gle rfl) ?_
    refine SV.op (OpL.ok (nb := 0) (ok_pickF (v := V.one (.sc _)) rfl rfl rfl) rfl (gle rfl)) rfl ?_
    refine SV.op (OpL.ok (nb := 0) (ok_move (v := V.one (.sc _)) (.inr rfl) rfl) rfl (gle rfl)) rfl ?_
    refine SV.nil ?_
    refine SV.tn ?_
    refine SV.ret ?_
    apply SV.done (hf := Try.results70) (ht := rfl) (he := .inl rfl)
    case hr => exact (ResAll.cons (ResOk.tmp (ag := false) (xs := [.sc _]) rfl) ResAll.nil')
    case h2 => simp [two]
    refine ⟨rfl, ⟨?_, trivial⟩, trivial⟩ <;> (show some (T.lit (Value.bool _)) = some (T.lit (Value.bool _)); refine congrArg (fun z => some (T.lit (Value.bool z))) ?_; (simp at hg0; simp; omega))
end Go.Proofs.Ytfionajnoaednaa
/- The reference's first least row, and a row dropped: told by trees. -/
namespace Go.Proofs.Ytfionajnoaednaa
open Go Go.RowKit V
set_option linter.unusedVariables false
def idxI (l : List R) : Nat → Int
  | 0 => -1
  | t + 1 => (Runs.minAt l (t + 1) : Nat)
theorem idxI_end (l : List R) : idxI l l.length = Runs.idxMin l := by
  unfold Runs.idxMin
  cases l with
  | nil => rfl
  | cons x l => rw [if_neg (by simp)]; rfl
set_option maxRecDepth 100000 in
set_option maxHeartbeats 2000000 in
theorem vidx_s (l : List R) (hL : l.length ≤ 1000000000) : VC Try.prog 72 [(false, [.seq 59 ((l).map tRow)])] false [(false, [.lit (.int .i64 (Runs.idxMin l))])] := by
  refine VC.enter Try.func72 rfl Try.ntmps72 (gle rfl) fun E hE => ?_
  refine SV.seq' ?_
  refine SV.region ?_
  refine SV.op (OpL.ok (nb := 0) (ok_move (v := V.one (.sc _)) (.inr rfl) rfl) rfl (gle rfl)) rfl ?_
  refine SV.nil ?_
  refine SV.tn ?_
  refine SV.seq' ?_
  refine SV.region ?_
  refine SV.op (OpL.ok (nb := 0) (ok_move (v := V.one (.sc _)) (.inr rfl) rfl) rfl (gle rfl)) rfl ?_
  refine SV.nil ?_
  refine SV.tn ?_
  refine SV.seq' ?_
  refine SV.seq' ?_
  refine SV.region ?_
  refine SV.op (OpL.ok (nb := 0) (ok_move (v := V.one (.sc _)) (.inr rfl) rfl) rfl (gle rfl)) rfl ?_
  refine SV.nil ?_
  refine SV.tn ?_
  refine SV.block ?_
  refine SV.loopF (X := Nat) (fun (σ : VS) t => ((((VS.nil.put 0 (σ.tm 0)).put 2 (σ.tm 2)).put 3 (V.flat false [.sc (.int .i64 (idxI l t))])).put 4 (V.flat false [.sc (.int .i64 ((t : Int)))]))) (fun t => t ≤ l.length) (fun t => l.length - t) ?_ ?_
  · skip
    refine SV.again (fun i => [].getD i 0) 0 ((by first | exact Nat.zero_le _ | (refine ⟨Nat.zero_le _, ?_⟩; simp; done) | (simp; done) | omega)) (pins hE rfl rfl) (VS.le.mk' (le_put (le_put (le_put (le_put le_nil (V.le.keep (ag := false) (xs := [.ro _]) (ys := [.ro _]) rfl rfl ⟨rfl, trivial⟩)) (V.le.keep (ag := false) (xs := [.sc _]) (ys := [.sc _]) rfl rfl ⟨rfl, trivial⟩)) (V.le.keep (ag := false) (xs := [.sc _]) (ys := [.sc _]) rfl rfl ⟨(by first | rfl | (show Leaf.sc _ = Leaf.sc _; refine congrArg Leaf.sc ?_; first | rfl | go_num | (first | rw [hn] | rfl; first | done | rfl | go_num | (simp; done) | (simp; omega)) | (simp [cntAll]; done)) | (simp [cntAll]; done) | (simp; omega)), trivial⟩)) (V.le.keep (ag := false) (xs := [.sc _]) (ys := [.sc _]) rfl rfl ⟨(by first | rfl | (show Leaf.sc _ = Leaf.sc _; refine congrArg Leaf.sc ?_; first | rfl | go_num | (first | rw [hn] | rfl; first | done | rfl | go_num | (simp; done) | (simp; omega)) | (simp [cntAll]; done)) | (simp [cntAll]; done) | (simp; omega)), trivial⟩)) trivial trivial nil_ob (fun i j hi hj e => absurd hi (Nat.not_lt_zero i)))
  · rintro t ht
    refine SV.seq' ?_
    refine SV.seq' ?_
    refine SV.region ?_
    refine SV.op (OpL.ok (nb := 0) (ok_move (v := V.one (.sc _)) (.inl rfl) rfl) rfl (gle rfl)) rfl ?_
    refine SV.op (OpL.ok (nb := 0) (ok_move (v := V.one (.ro _)) (.inl rfl) rfl) rfl (gle rfl)) rfl ?_
    refine SV.op (OpL.ok (nb := 0) (ok_len (lf := .ro _) rfl elt_impl_Row.und rfl rfl) rfl (gle rfl)) rfl ?_
    refine SV.op (OpL.ok (nb := 0) (ok_s2 (x := .tmp 5) (x' := .tmp 7) (VScal.one rfl) (VScal.one rfl) (fun ρ h1 h2 w => by go_simp; (try go_bits); with_reducible rfl) rfl) rfl (gle rfl)) rfl ?_
    refine SV.nil ?_
    refine SV.tn ?_
    refine SV.cond rfl (fun hc0 => ?_) (fun hc0 => ?_)
    · skip   -- c0.T
      have htl : t < l.length := by simpa using hc0
      refine SV.skip ?_
      refine SV.tn ?_
      refine SV.seq' ?_
      refine SV.block ?_
      refine SV.seq' ?_
      obtain rfl | ⟨u, rfl⟩ : t = 0 ∨ ∃ u, t = u + 1 := by cases t with | zero => exact .inl rfl | succ u => exact .inr ⟨u, rfl⟩
      · skip
        obtain ⟨c, hx⟩ : ∃ c, l[0]? = some c := ⟨_, List.getElem?_eq_getElem htl⟩
        have hn : idxI l (0 + 1) = ((0 : Nat) : Int) := by show ((Runs.minAt l 1 : Nat) : Int) = _; rw [Runs.minAt_one]
        refine SV.draw [.q 0, .q 1, .q 2, .q 3, .q 4, .q 5, .q 6, .q 7, .q 8, .q 9, .q 10, .m 11, .q 12, .q 13] [] (by kernel_rfl) (by kernel_rfl) ?_
        refine DW.q rfl (ok_move (v := V.one (.sc _)) (.inl rfl) rfl) rfl rfl (gle rfl) (fun _ _ _ _ h => h) ?_
        refine DW.q rfl (ok_s2 (x := .tmp 11) (x' := .const ((Value.int IntKind.i64 0))) (VScal.one rfl) (VScal.one rfl) (fun ρ h1 h2 w => by go_simp; (try go_bits); with_reducible rfl) rfl) rfl rfl (gle rfl) (fun _ _ _ _ h => h) ?_
        refine DW.q rfl (ok_move (v := V.one (.sc _)) (.inl rfl) rfl) rfl rfl (gle rfl) (fun _ _ _ _ h => h) ?_
        refine DW.split (d := 13) rfl (fun hg0 => ?_) (fun hg0 => ?_)
        · skip   -- g0.T
          refine DW.qN (V' := V.one .dead) rfl rfl rfl rfl (gle rfl) rfl rfl rfl (gle rfl) (fun _ _ _ _ h => h) ?_
          refine DW.qN (V' := V.one .dead) rfl rfl rfl rfl (gle rfl) rfl rfl rfl (gle rfl) (fun _ _ _ _ h => h) ?_
          refine DW.qN (V' := V.one .dead) rfl rfl rfl rfl (gle rfl) rfl rfl rfl (gle rfl) (fun _ _ _ _ h => h) ?_
          refine DW.qN (V' := V.one .dead) rfl rfl rfl rfl (gle rfl) rfl rfl rfl (gle rfl) (fun _ _ _ _ h => h) ?_
          refine DW.qN (V' := V.one .dead) rfl rfl rfl rfl (gle rfl) rfl rfl rfl (gle rfl) (fun _ _ _ _ h => h) ?_
          refine DW.qN (V' := V.one .dead) rfl rfl rfl rfl (gle rfl) rfl rfl rfl (gle rfl) (fun _ _ _ _ h => h) ?_
          refine DW.qN (V' := V.one .dead) rfl rfl rfl rfl (gle rfl) rfl rfl rfl (gle rfl) (fun _ _ _ _ h => h) ?_
          refine DW.qN (V' := V.one .dead) rfl rfl rfl rfl (gle rfl) rfl rfl rfl (gle rfl) (fun _ _ _ _ h => h) ?_
          refine DW.mN rfl rfl rfl rfl (gle rfl) rfl rfl rfl (gle rfl) ?_
          refine DW.qN (V' := V.one .dead) rfl rfl rfl rfl (gle rfl) rfl rfl rfl (gle rfl) (fun _ _ _ _ h => h) ?_
          refine DW.q rfl (ok_pickT (v := V.one (.sc _)) rfl rfl rfl) rfl rfl (gle rfl) (fun _ _ _ _ h => h) ?_
          refine DW.stores ?_
          refine SV.zend ?_
          refine SV.tn ?_
          refine SV.cond rfl (fun hc1 => ?_) (fun hc1 => ?_)
          · skip   -- c1.T
            refine SV.region ?_
            refine SV.op (OpL.ok (nb := 0) (ok_move (v := V.one (.sc _)) (.inl rfl) rfl) rfl (gle rfl)) rfl ?_
            refine SV.op (OpL.ok (nb := 0) (ok_move (v := V.one (.sc _)) (.inr rfl) rfl) rfl (gle rfl)) rfl ?_
            refine SV.nil ?_
            refine SV.bn ?_
            refine SV.tn ?_
            refine SV.region ?_
            refine SV.op (OpL.ok (nb := 0) (ok_move (v := V.one (.sc _)) (.inl rfl) rfl) rfl (gle rfl)) rfl ?_
            refine SV.op (OpL.ok (nb := 0) (ok_s2 (x := .tmp 9) (x' := .const ((Value.int IntKind.i64 1))) (VScal.one rfl) (VScal.one rfl) (fun ρ h1 h2 w => by go_simp; (try go_bits); with_reducible rfl) rfl) rfl (gle rfl)) rfl ?_
            refine SV.op (OpL.ok (nb := 0) (ok_move (v := V.one (.sc _)) (.inr rfl) rfl) rfl (gle rfl)) rfl ?_
            refine SV.nil ?_
            refine SV.tn ?_
            refine SV.again (fun i => [].getD i 0) (0 + 1) (⟨by omega, by omega⟩) (pins hE rfl rfl) (VS.le.mk' (le_put (le_put (le_put (le_put le_nil (V.le.keep (ag := false) (xs := [.ro _]) (ys := [.ro _]) rfl rfl ⟨rfl, trivial⟩)) (V.le.keep (ag := false) (xs := [.sc _]) (ys := [.sc _]) rfl rfl ⟨rfl, trivial⟩)) (V.le.keep (ag := false) (xs := [.sc _]) (ys := [.sc _]) rfl rfl ⟨(by first | rfl | (show Leaf.sc _ = Leaf.sc _; refine congrArg Leaf.sc ?_; first | rfl | go_num | (first | rw [hn] | rfl; first | done | rfl | go_num | (simp; done) | (simp; omega)) | (simp [cntAll]; done)) | (simp [cntAll]; done) | (simp; omega)), trivial⟩)) (V.le.keep (ag := false) (xs := [.sc _]) (ys := [.sc _]) rfl rfl ⟨(by first | rfl | (show Leaf.sc _ = Leaf.sc _; refine congrArg Leaf.sc ?_; first | rfl | go_num | (first | rw [hn] | rfl; first | done | rfl | go_num | (simp; done) | (simp; omega)) | (simp [cntAll]; done)) | (simp [cntAll]; done) | (simp; omega)), trivial⟩)) trivial trivial nil_ob (fun i j hi hj e => absurd hi (Nat.not_lt_zero i)))
          · skip   -- c1.F
            cases hc1
        · skip   -- g0.F
          (exfalso; first | (have hc' : ((Runs.minAt l (u + 1) : Nat) : Int) < 0 := of_decide_eq_true hg0; omega) | exact of_decide_eq_false hg0 (by show (-1 : Int) < 0; decide))
      · skip
        have hml : Runs.minAt l (u + 1) < u + 1 := Runs.minAt_lt (Nat.succ_pos u)
        obtain ⟨c, hx⟩ : ∃ c, l[u + 1]? = some c := ⟨_, List.getElem?_eq_getElem htl⟩
        obtain ⟨d, hy⟩ : ∃ d, l[Runs.minAt l (u + 1)]? = some d := ⟨_, List.getElem?_eq_getElem (by omega)⟩
        have hst := Runs.minAt_step hx hy
        refine SV.draw [.q 0, .q 1, .q 2, .q 3, .q 4, .q 5, .q 6, .q 7, .q 8, .q 9, .q 10, .m 11, .q 12, .q 13] [] (by kernel_rfl) (by kernel_rfl) ?_
        refine DW.q rfl (ok_move (v := V.one (.sc _)) (.inl rfl) rfl) rfl rfl (gle rfl) (fun _ _ _ _ h => h) ?_
        refine DW.q rfl (ok_s2 (x := .tmp 11) (x' := .const ((Value.int IntKind.i64 0))) (VScal.one rfl) (VScal.one rfl) (fun ρ h1 h2 w => by go_simp; (try go_bits); with_reducible rfl) rfl) rfl rfl (gle rfl) (fun _ _ _ _ h => h) ?_
        refine DW.q rfl (ok_move (v := V.one (.sc _)) (.inl rfl) rfl) rfl rfl (gle rfl) (fun _ _ _ _ h => h) ?_
        refine DW.split (d := 13) rfl (fun hg1 => ?_) (fun hg1 => ?_)
        · skip   -- g1.T
          (exfalso; first | (have hc' : ((Runs.minAt l (u + 1) : Nat) : Int) < 0 := of_decide_eq_true hg1; omega) | exact of_decide_eq_false hg1 (by show (-1 : Int) < 0; decide))
        · skip   -- g1.F
          refine DW.qY rfl (ok_move (v := V.one (.ro _)) (.inl rfl) rfl) rfl rfl rfl (gle rfl) rfl rfl rfl (gle rfl) (fun _ _ _ _ h => h) ?_
          refine DW.qY rfl (ok_move (v := V.one (.sc _)) (.inl rfl) rfl) rfl rfl rfl (gle rfl) rfl rfl rfl (gle rfl) (fun _ _ _ _ h => h) ?_
          refine DW.qY rfl (ok_index (n := 3) (lf := .ro _) rfl elt_impl_Row.und sz_impl_Row rfl rfl rfl (map_at hx)) rfl rfl rfl (gle rfl) rfl rfl rfl (gle rfl) (fun _ _ _ _ h => h) ?_
          refine DW.qY rfl (ok_load_rp (ag := true) (m := 3) (ys := [.sc _, .sc _, .sc _]) rfl rfl agg_impl_Row sz_impl_Row (fun h => by cases h) (gle rfl) rfl) rfl rfl rfl (gle rfl) rfl rfl rfl (gle rfl) (fun _ _ _ _ h => h) ?_
          refine DW.qY rfl (ok_move (v := V.one (.ro _)) (.inl rfl) rfl) rfl rfl rfl (gle rfl) rfl rfl rfl (gle rfl) (fun _ _ _ _ h => h) ?_
          refine DW.qY rfl (ok_move (v := V.one (.sc _)) (.inl rfl) rfl) rfl rfl rfl (gle rfl) rfl rfl rfl (gle rfl) (fun _ _ _ _ h => h) ?_
          refine DW.qY rfl (ok_index (n := 3) (lf := .ro _) rfl elt_impl_Row.und sz_impl_Row rfl rfl rfl (map_at hy)) rfl rfl rfl (gle rfl) rfl rfl rfl (gle rfl) (fun _ _ _ _ h => h) ?_
          refine DW.qY rfl (ok_load_rp (ag := true) (m := 3) (ys := [.sc _, .sc _, .sc _]) rfl rfl agg_impl_Row sz_impl_Row (fun h => by cases h) (gle rfl) rfl) rfl rfl rfl (gle rfl) rfl rfl rfl (gle rfl) (fun _ _ _ _ h => h) ?_
          refine DW.m' [] rfl (ok_call (ls := [(false, [.sc _])]) rfl rfl ⟨_, _, Try.func52, rfl, by decide⟩ (vcmp_t c d) ⟨⟨[.sc _, .sc _, .sc _], rfl, ⟨rfl, rfl, rfl, trivial⟩⟩, ⟨[.sc _, .sc _, .sc _], rfl, ⟨rfl, rfl, rfl, trivial⟩⟩, trivial⟩ rfl (gle rfl)) (fun hr => wantedY hr rfl rfl rfl (gle rfl) rfl rfl) (gle rfl) (gle rfl) (.inl rfl) (fun j hj => by cases hj) ?_
          refine DW.qY rfl (ok_s2 (x := .tmp 22) (x' := .const ((Value.int IntKind.i64 0))) (VScal.one rfl) (VScal.one rfl) (fun ρ h1 h2 w => by go_simp; (try go_bits); with_reducible rfl) rfl) rfl rfl rfl (gle rfl) rfl rfl rfl (gle rfl) (fun _ _ _ _ h => h) ?_
          refine DW.q rfl (ok_pickF (v := V.one (.sc _)) rfl rfl rfl) rfl rfl (gle rfl) (fun _ _ _ _ h => h) ?_
          refine DW.stores ?_
          refine SV.zend ?_
          refine SV.tn ?_
          refine SV.cond rfl (fun hc2 => ?_) (fun hc2 => ?_)
          · skip   -- c2.T
            have hn : idxI l (u + 1 + 1) = ((u + 1 : Nat) : Int) := by show ((Runs.minAt l (u + 1 + 1) : Nat) : Int) = _; rw [hst, if_pos (by simpa using hc2)]
            refine SV.region ?_
            refine SV.op (OpL.ok (nb := 0) (ok_move (v := V.one (.sc _)) (.inl rfl) rfl) rfl (gle rfl)) rfl ?_
            refine SV.op (OpL.ok (nb := 0) (ok_move (v := V.one (.sc _)) (.inr rfl) rfl) rfl (gle rfl)) rfl ?_
            refine SV.nil ?_
            refine SV.bn ?_
            refine SV.tn ?_
            refine SV.region ?_
            refine SV.op (OpL.ok (nb := 0) (ok_move (v := V.one (.sc _)) (.inl rfl) rfl) rfl (gle rfl)) rfl ?_
            refine SV.op (OpL.ok (nb := 0) (ok_s2 (x := .tmp 9) (x' := .const ((Value.int IntKind.i64 1))) (VScal.one rfl) (VScal.one rfl) (fun ρ h1 h2 w => by go_simp; (try go_bits); with_reducible rfl) rfl) rfl (gle rfl)) rfl ?_
            refine SV.op (OpL.ok (nb := 0) (ok_move (v := V.one (.sc _)) (.inr rfl) rfl) rfl (gle rfl)) rfl ?_
            refine SV.nil ?_
            refine SV.tn ?_
            refine SV.again (fun i => [].getD i 0) (u + 1 + 1) (⟨by omega, by omega⟩) (pins hE rfl rfl) (VS.le.mk' (le_put (le_put (le_put (le_put le_nil (V.le.keep (ag := false) (xs := [.ro _]) (ys := [.ro _]) rfl rfl ⟨rfl, trivial⟩)) (V.le.keep (ag := false) (xs := [.sc _]) (ys := [.sc _]) rfl rfl ⟨rfl, trivial⟩)) (V.le.keep (ag := false) (xs := [.sc _]) (ys := [.sc _]) rfl rfl ⟨(by first | rfl | (show Leaf.sc _ = Leaf.sc _; refine congrArg Leaf.sc ?_; first | rfl | go_num | (first | rw [hn] | rfl; first | done | rfl | go_num | (simp; done) | (simp; omega)) | (simp [cntAll]; done)) | (simp [cntAll]; done) | (simp; omega)), trivial⟩)) (V.le.keep (ag := false) (xs := [.sc _]) (ys := [.sc _]) rfl rfl ⟨(by first | rfl | (show Leaf.sc _ = Leaf.sc _; refine congrArg Leaf.sc ?_; first | rfl | go_num | (first | rw [hn] | rfl; first | done | rfl | go_num | (simp; done) | (simp; omega)) | (simp [cntAll]; done)) | (simp [cntAll]; done) | (simp; omega)), trivial⟩)) trivial trivial nil_ob (fun i j hi hj e => absurd hi (Nat.not_lt_zero i)))
          · skip   -- c2.F
            have hn : idxI l (u + 1 + 1) = idxI l (u + 1) := by show ((Runs.minAt l (u + 1 + 1) : Nat) : Int) = ((Runs.minAt l (u + 1) : Nat) : Int); rw [hst, if_neg (by simpa using hc2)]
            refine SV.skip ?_
            refine SV.bn ?_
            refine SV.tn ?_
            refine SV.region ?_
            refine SV.op (OpL.ok (nb := 0) (ok_move (v := V.one (.sc _)) (.inl rfl) rfl) rfl (gle rfl)) rfl ?_
            refine SV.op (OpL.ok (nb := 0) (ok_s2 (x := .tmp 9) (x' := .const ((Value.int IntKind.i64 1))) (VScal.one rfl) (VScal.one rfl) (fun ρ h1 h2 w => by go_simp; (try go_bits); with_reducible rfl) rfl) rfl (gle rfl)) rfl ?_
            refine SV.op (OpL.ok (nb := 0) (ok_move (v := V.one (.sc _)) (.inr rfl) rfl) rfl (gle rfl)) rfl ?_
            refine SV.nil ?_
            refine SV.tn ?_
            refine SV.again (fun i => [].getD i 0) (u + 1 + 1) (⟨by omega, by omega⟩) (pins hE rfl rfl) (VS.le.mk' (le_put (le_put (le_put (le_put le_nil (V.le.keep (ag := false) (xs := [.ro _]) (ys := [.ro _]) rfl rfl ⟨rfl, trivial⟩)) (V.le.keep (ag := false) (xs := [.sc _]) (ys := [.sc _]) rfl rfl ⟨rfl, trivial⟩)) (V.le.keep (ag := false) (xs := [.sc _]) (ys := [.sc _]) rfl rfl ⟨(by first | rfl | (show Leaf.sc _ = Leaf.sc _; refine congrArg Leaf.sc ?_; first | rfl | go_num | (first | rw [hn] | rfl; first | done | rfl | go_num | (simp; done) | (simp; omega)) | (simp [cntAll]; done)) | (simp [cntAll]; done) | (simp; omega)), trivial⟩)) (V.le.keep (ag := false) (xs := [.sc _]) (ys := [.sc _]) rfl rfl ⟨(by first | rfl | (show Leaf.sc _ = Leaf.sc _; refine congrArg Leaf.sc ?_; first | rfl | go_num | (first | rw [hn] | rfl; first | done | rfl | go_num | (simp; done) | (simp; omega)) | (simp [cntAll]; done)) | (simp [cntAll]; done) | (simp; omega)), trivial⟩)) trivial trivial nil_ob (fun i j hi hj e => absurd hi (Nat.not_lt_zero i)))
    · skip   -- c0.F
      have hte : t = l.length := by simp at hc0; omega
      refine SV.exit ?_
      refine SV.te ?_
      refine SV.te ?_
      refine SV.bh ?_
      refine SV.tn ?_
      refine SV.seq' ?_
      refine SV.region ?_
      refine SV.op (OpL.ok (nb := 0) (ok_move (v := V.one (.sc _)) (.inl rfl) rfl) rfl (gle rfl)) rfl ?_
      refine SV.op (OpL.ok (nb := 0) (ok_move (v := V.one (.sc _)) (.inr rfl) rfl) rfl (gle rfl)) rfl ?_
      refine SV.nil ?_
      refine SV.tn ?_
      refine SV.ret ?_
      apply SV.done (hf := Try.results72) (ht := rfl) (he := .inl rfl)
      case hr => exact (ResAll.cons (ResOk.tmp (ag := false) (xs := [.sc _]) rfl) ResAll.nil')
      case h2 => simp [two]
      refine ⟨rfl, ⟨?_, trivial⟩, trivial⟩ <;> (show some (T.lit (Value.int .i64 _)) = some (T.lit (Value.int .i64 _)); refine congrArg (fun z => some (T.lit (Value.int .i64 z))) ?_; rw [hte, idxI_end])
theorem erase_at2 (l : List R) (k : Nat) : l.eraseIdx k = l.take k ++ l.drop (k + 1) := List.eraseIdx_eq_take_drop_succ l k
set_option maxRecDepth 100000 in
set_option maxHeartbeats 2000000 in
theorem vdrop11_s (l : List R) (k : Nat) (hk : k < l.length) (hL : l.length ≤ 1000000000) : VC Try.prog 73 [(false, [.seq 59 ((l).map tRow)]), (false, [.lit (.int .i64 ((k : Nat)))])] false [(false, [.seq 59 ((l.eraseIdx k).map tRow)])] := by
  refine VC.enter Try.func73 rfl Try.ntmps73 (gle rfl) fun E hE => ?_
  refine SV.seq' ?_
  refine SV.region ?_
  refine SV.op (OpL.ok (nb := 0) (ok_move (v := V.one (.sc _)) (.inr rfl) rfl) rfl (gle rfl)) rfl ?_
  refine SV.nil ?_
  refine SV.tn ?_
  refine SV.seq' ?_
  refine SV.draw [.q 1, .q 2, .q 3, .q 5, .q 6, .q 7, .q 8, .m 0, .m 4, .m 9, .q 10] [] (by kernel_rfl) (by kernel_rfl) ?_
  refine DW.q rfl (ok_move (v := V.one (.ro _)) (.inl rfl) rfl) rfl rfl (gle rfl) (fun _ _ _ _ h => h) ?_
  refine DW.q rfl (ok_move (v := V.one (.sc _)) (.inl rfl) rfl) rfl rfl (gle rfl) (fun _ _ _ _ h => h) ?_
  refine DW.q rfl (ok_slice (l := 0) (h := k) (lf := .ro _) (yy := .ro _) rfl rfl elt_impl_Row.und sz_impl_Row rfl rfl rfl ⟨_, rfl⟩ (by omega) (by simp; omega)) rfl rfl (gle rfl) (fun _ _ _ _ h => h) ?_
  refine DW.q rfl (ok_move (v := V.one (.ro _)) (.inl rfl) rfl) rfl rfl (gle rfl) (fun _ _ _ _ h => h) ?_
  refine DW.q rfl (ok_move (v := V.one (.sc _)) (.inl rfl) rfl) rfl rfl (gle rfl) (fun _ _ _ _ h => h) ?_
  refine DW.q rfl (ok_s2 (v := .int .i64 ((k + 1 : Nat) : Int)) (x := .tmp 11) (x' := .const ((Value.int IntKind.i64 1))) (VScal.one rfl) (VScal.one rfl) (fun ρ h1 h2 w => by go_simp; all_goals ((try go_bits); first | with_reducible rfl | go_num | (simp; done) | (simp; omega))) rfl) rfl rfl (gle rfl) (fun _ _ _ _ h => h) ?_
  refine DW.q rfl (ok_slice (l := k + 1) (h := (l.map tRow).length) (lf := .ro _) (yy := .ro _) rfl rfl elt_impl_Row.und sz_impl_Row rfl rfl ⟨_, rfl⟩ rfl (by simp; omega) (Nat.le_refl _)) rfl rfl (gle rfl) (fun _ _ _ _ h => h) ?_
  refine DW.m [0] rfl (ok_lit0 (kk := 0) elt_impl_Row rfl rfl rfl (gle rfl)) rfl (gle rfl) (gle rfl) (.inl rfl) (fun j hj => by
      simp only [List.mem_cons, List.not_mem_nil, or_false] at hj
      rcases hj with rfl
      · exact .inr ⟨(gle rfl), (gle rfl), .inl rfl⟩) ?_
  refine DW.m [1, 0] rfl (ok_append_ro (kk := 1) elt_impl_Row (ls := .hd 0) (lx := .ro _) rfl rfl rfl rfl rfl rfl (flat_sub (flat_impl_Row _) _ _) (by simp; omega) rfl (gle rfl)) rfl (gle rfl) (gle rfl) (.inr ⟨0, rfl, .inl (by decide)⟩) (fun j hj => by
      simp only [List.mem_cons, List.not_mem_nil, or_false] at hj
      rcases hj with rfl | rfl
      · exact .inr ⟨(gle rfl), (gle rfl), .inr ⟨0, rfl, by decide⟩⟩
      · exact .inl (by decide)) ?_
  refine DW.m [2, 1, 0] rfl (ok_append_ro (kk := 2) elt_impl_Row (ls := .hd 1) (lx := .ro _) rfl rfl rfl rfl rfl rfl (flat_sub (flat_impl_Row _) _ _) (by simp; omega) rfl (gle rfl)) rfl (gle rfl) (gle rfl) (.inr ⟨1, rfl, .inl (by decide)⟩) (fun j hj => by
      simp only [List.mem_cons, List.not_mem_nil, or_false] at hj
      rcases hj with rfl | rfl | rfl
      · exact .inr ⟨(gle rfl), (gle rfl), .inr ⟨1, rfl, by decide⟩⟩
      · exact .inl (by decide)
      · exact .inl (by decide)) ?_
  refine DW.q rfl (ok_move (v := V.one (.hd 2)) (.inr rfl) rfl) rfl rfl (gle rfl) (fun _ _ _ _ h => h) ?_
  refine DW.stores ?_
  refine SV.zend ?_
  refine SV.tn ?_
  refine SV.ret ?_
  apply SV.done (hf := Try.results73) (ht := rfl) (he := .inl rfl)
  case hr => exact (ResAll.cons (ResOk.tmp (ag := false) (xs := [.hd 2]) rfl) ResAll.nil')
  case h2 => simp [two]
  refine ⟨rfl, ⟨?_, trivial⟩, trivial⟩ <;> (show some (T.seq _ _) = some (T.seq _ _); refine congrArg (fun z => some (T.seq _ z)) ?_; rw [erase_at2 l k, List.take_length]; simp [List.map_take, List.map_drop])
end Go.Proofs.Ytfionajnoaednaa
/- The reference's MergePass: told by trees. -/
namespace Go.Proofs.Ytfionajnoaednaa
open Go Go.RowKit V
set_option linter.unusedVariables false
theorem two_len {X : List (List R)} {i : Nat} {p q : List R} (h : X[i]? = some p) (h' : X[i + 1]? = some q) : p.length + q.length ≤ X.flatten.length := by
  have e := congrArg List.length (congrArg List.flatten (List.take_append_drop i X))
  rw [List.flatten_append, Runs.drop_at h, Runs.drop_at h', List.flatten_cons, List.flatten_cons, List.length_append, List.length_append, List.length_append] at e
  omega
set_option maxRecDepth 100000 in
set_option maxHeartbeats 2000000 in
theorem vpass_s (X : List (List R)) (hX : X.length ≤ 1000000000) (hF : X.flatten.length ≤ 1000000000) : VC Try.prog 24 [(false, [.seq 63 ((X).map tRun)])] false [(false, [.seq 63 ((Runs.pass X).map tRun)])] := by
  refine VC.enter Try.func24 rfl Try.ntmps24 (gle rfl) fun E hE => ?_
  refine SV.seq' ?_
  refine SV.region ?_
  refine SV.op (OpL.ok (nb := 0) (ok_move (v := V.one (.sc _)) (.inr rfl) rfl) rfl (gle rfl)) rfl ?_
  refine SV.nil ?_
  refine SV.tn ?_
  refine SV.seq' ?_
  refine SV.region ?_
  refine SV.op (OpMk.ok (ok_lit0 (kk := 0) elt_impl_Run rfl rfl rfl (gle rfl))) rfl ?_
  refine SV.op (OpL.ok (nb := 0) (ok_move (v := V.one (.hd 0)) (.inr rfl) rfl) rfl (gle rfl)) rfl ?_
  refine SV.nil ?_
  refine SV.tn ?_
  refine SV.seq' ?_
  refine SV.seq' ?_
  refine SV.region ?_
  refine SV.op (OpL.ok (nb := 0) (ok_move (v := V.one (.sc _)) (.inr rfl) rfl) rfl (gle rfl)) rfl ?_
  refine SV.nil ?_
  refine SV.tn ?_
  refine SV.block ?_
  refine SV.loopF (X := Nat × List (List R)) (fun (σ : VS) z => (((((VS.nil.new (.seq 63 (z.2.map tRun))).put 0 (σ.tm 0)).put 2 (σ.tm 2)).put 3 (V.flat false [.hd 0])).put 4 (V.flat false [.sc (.int .i64 ((z.1 : Int)))]))) (fun z => z.1 ≤ X.length + 1 ∧ z.2 ++ Runs.pass (X.drop z.1) = Runs.pass X) (fun z => X.length + 1 - z.1) ?_ ?_
  · skip
    refine SV.again (fun i => [0].getD i 0) (0, []) (⟨Nat.zero_le _, rfl⟩) (pins hE rfl rfl) (VS.le.mk' (le_put (le_put (le_put (le_put (le_new le_nil) (V.le.keep (ag := false) (xs := [.ro _]) (ys := [.ro _]) rfl rfl ⟨rfl, trivial⟩)) (V.le.keep (ag := false) (xs := [.sc _]) (ys := [.sc _]) rfl rfl ⟨rfl, trivial⟩)) (V.le.keep (ag := false) (xs := [.hd 0]) (ys := [.hd 0]) rfl rfl ⟨⟨rfl, (gle rfl), (gle rfl)⟩, trivial⟩)) (V.le.keep (ag := false) (xs := [.sc _]) (ys := [.sc _]) rfl rfl ⟨(by first | rfl | (show Leaf.sc _ = Leaf.sc _; refine congrArg Leaf.sc ?_; first | rfl | go_num | (rw [hz]; first | done | rfl | (show (((t + 2 : Nat)) : Int) = _; omega) | (show _ = (((t + 2 : Nat)) : Int); omega); first | done | rfl | go_num | (simp; done) | (simp; omega)) | (simp [cntAll]; done)) | (simp [cntAll]; done) | (simp; omega)), trivial⟩)) trivial ⟨.inr ⟨_, _, rfl, ?ob1_0, (gle rfl)⟩, trivial⟩ (new_ob nil_ob) (fun i j hi hj e => inj_list (l := [0]) (by decide) i j hi hj e))
    case ob1_0 =>
      show some (T.seq _ _) = some (T.seq _ _)
      rfl
  · rintro ⟨t, o⟩ ⟨ht, ho⟩
    dsimp only at ht ho
    have hol : o.length ≤ X.length := by have h := congrArg List.length ho; rw [List.length_append, Runs.pass_len X] at h; omega
    refine SV.seq' ?_
    refine SV.seq' ?_
    refine SV.region ?_
    refine SV.op (OpL.ok (nb := 0) (ok_move (v := V.one (.sc _)) (.inl rfl) rfl) rfl (gle rfl)) rfl ?_
    refine SV.op (OpL.ok (nb := 0) (ok_move (v := V.one (.ro _)) (.inl rfl) rfl) rfl (gle rfl)) rfl ?_
    refine SV.op (OpL.ok (nb := 0) (ok_len (lf := .ro _) rfl elt_impl_Run.und rfl rfl) rfl (gle rfl)) rfl ?_
    refine SV.op (OpL.ok (nb := 0) (ok_s2 (x := .tmp 6) (x' := .tmp 8) (VScal.one rfl) (VScal.one rfl) (fun ρ h1 h2 w => by go_simp; (try go_bits); with_reducible rfl) rfl) rfl (gle rfl)) rfl ?_
    refine SV.nil ?_
    refine SV.tn ?_
    refine SV.cond rfl (fun hc0 => ?_) (fun hc0 => ?_)
    · skip   -- c0.T
      have htl : t < X.length := by simpa using hc0
      obtain ⟨p, hx⟩ : ∃ p, X[t]? = some p := ⟨_, List.getElem?_eq_getElem htl⟩
      have hpl := Runs.mem_len (List.mem_of_getElem? hx)
      refine SV.skip ?_
      refine SV.tn ?_
      refine SV.seq' ?_
      refine SV.block ?_
      refine SV.seq' ?_
      refine SV.region ?_
      refine SV.op (OpL.ok (nb := 0) (ok_move (v := V.one (.sc _)) (.inl rfl) rfl) rfl (gle rfl)) rfl ?_
      refine SV.op (OpL.ok (nb := 0) (ok_s2 (x := .tmp 12) (x' := .const ((Value.int IntKind.i64 1))) (VScal.one rfl) (VScal.one rfl) (fun ρ h1 h2 w => by go_simp; (try go_bits); with_reducible rfl) rfl) rfl (gle rfl)) rfl ?_
      refine SV.op (OpL.ok (nb := 0) (ok_move (v := V.one (.ro _)) (.inl rfl) rfl) rfl (gle rfl)) rfl ?_
      refine SV.op (OpL.ok (nb := 0) (ok_len (lf := .ro _) rfl elt_impl_Run.und rfl rfl) rfl (gle rfl)) rfl ?_
      refine SV.op (OpL.ok (nb := 0) (ok_s2 (x := .tmp 13) (x' := .tmp 15) (VScal.one rfl) (VScal.one rfl) (fun ρ h1 h2 w => by go_simp; (try go_bits); with_reducible rfl) rfl) rfl (gle rfl)) rfl ?_
      refine SV.nil ?_
      refine SV.tn ?_
      refine SV.cond rfl (fun hc1 => ?_) (fun hc1 => ?_)
      · skip   -- c1.T
        have hte : t + 1 = X.length := by simp at hc1; omega
        obtain ⟨z', hz⟩ : ∃ z' : Nat × List (List R), z' = (t + 2, o ++ [p]) := ⟨_, rfl⟩
        have hz2 : (z'.1 ≤ X.length + 1 ∧ z'.2 ++ Runs.pass (X.drop z'.1) = Runs.pass X) ∧ X.length + 1 - z'.1 < X.length + 1 - t := by
          rw [hz]
          refine ⟨⟨by show t + 2 ≤ X.length + 1; omega, ?_⟩, by show X.length + 1 - (t + 2) < _; omega⟩
          show (o ++ [p]) ++ Runs.pass (X.drop (t + 2)) = _
          rw [List.append_assoc, ← ho, Runs.pass_end hx hte]
          rw [List.drop_eq_nil_of_le (by omega)]; rfl
        refine SV.region ?_
        refine SV.op (OpL.ok (nb := 0) (ok_move (v := V.one (.hd 0)) (.inl rfl) rfl) rfl (gle rfl)) rfl ?_
        refine SV.op (OpMk.ok (ok_lit0 (kk := 1) elt_impl_Row rfl rfl rfl (gle rfl))) rfl ?_
        refine SV.op (OpL.ok (nb := 0) (ok_move (v := V.one (.ro _)) (.inl rfl) rfl) rfl (gle rfl)) rfl ?_
        refine SV.op (OpL.ok (nb := 0) (ok_move (v := V.one (.sc _)) (.inl rfl) rfl) rfl (gle rfl)) rfl ?_
        refine SV.op (OpL.ok (nb := 0) (ok_index (n := 1) (lf := .ro _) rfl elt_impl_Run.und sz_impl_Run rfl rfl rfl (map_at hx)) rfl (gle rfl)) rfl ?_
        refine SV.op (OpL.ok (nb := 0) (ok_field_el (p := .rp _) (off := 0) rfl rfl rfl fld_impl_Run_0) rfl (gle rfl)) rfl ?_
        refine SV.op (OpL.ok (nb := 0) (ok_load_rp (ag := false) (m := 1) (ys := [.ro _]) rfl rfl agg_s_impl_Row sz_s_impl_Row (fun _ => rfl) (gle rfl) rfl) rfl (gle rfl)) rfl ?_
        refine SV.op (OpMk.ok (ok_append_ro (kk := 2) elt_impl_Row (ls := .hd 1) (lx := .ro _) rfl rfl rfl rfl rfl rfl (flat_impl_Row _) (by first | omega | (simp only [List.length_map]; omega) | (simp; done) | (simp; omega)) rfl (gle rfl))) rfl ?_
        refine SV.op (OpL.ok (nb := 0) (ok_build (zs := [.nl _]) (ys := [.hd 2]) (qs := [(0, [.hd 2])]) (pl := fun i => ([(0, 1)] : List (Nat × Nat))[i]?) rfl zero_impl_Run ⟨rfl, ⟨3, by decide, sz_impl_Row⟩, trivial⟩ ⟨⟨rfl, false, rfl, (fun _ => rfl), rfl⟩, trivial⟩ bld_impl_Run rfl) rfl (gle rfl)) rfl ?_
        refine SV.op (OpMk.ok (ok_lit1 (kk := 3) elt_impl_Run (ag := true) (xs := [.hd 2]) rfl rfl rfl rfl (fun h => by cases h) (outs_c rfl outs_n) (by simp [two]) rfl (gle rfl))) rfl ?_
        refine SV.op (OpMk.ok (ok_append (kk := 4) elt_impl_Run (ls := .hd 0) (lx := .hd 3) rfl rfl rfl rfl rfl rfl (by intro i h1 h2; first | (cases h1; done) | (cases h1; cases h2)) (by first | omega | (simp only [List.length_map]; omega) | (simp; done) | (simp; omega)) rfl (gle rfl))) rfl ?_
        refine SV.op (OpL.ok (nb := 0) (ok_move (v := V.one (.hd 4)) (.inr rfl) rfl) rfl (gle rfl)) rfl ?_
        refine SV.nil ?_
        refine SV.bn ?_
        refine SV.tn ?_
        refine SV.region ?_
        refine SV.op (OpL.ok (nb := 0) (ok_move (v := V.one (.sc _)) (.inl rfl) rfl) rfl (gle rfl)) rfl ?_
        refine SV.op (OpL.ok (nb := 0) (ok_s2 (x := .tmp 10) (x' := .const ((Value.int IntKind.i64 2))) (VScal.one rfl) (VScal.one rfl) (fun ρ h1 h2 w => by go_simp; (try go_bits); with_reducible rfl) rfl) rfl (gle rfl)) rfl ?_
        refine SV.op (OpL.ok (nb := 0) (ok_move (v := V.one (.sc _)) (.inr rfl) rfl) rfl (gle rfl)) rfl ?_
        refine SV.nil ?_
        refine SV.tn ?_
        refine SV.again (fun i => [4].getD i 0) (z') (hz2) (pins hE rfl rfl) (VS.le.mk' (le_put (le_put (le_put (le_put (le_new le_nil) (V.le.keep (ag := false) (xs := [.ro _]) (ys := [.ro _]) rfl rfl ⟨rfl, trivial⟩)) (V.le.keep (ag := false) (xs := [.sc _]) (ys := [.sc _]) rfl rfl ⟨rfl, trivial⟩)) (V.le.keep (ag := false) (xs := [.hd 4]) (ys := [.hd 0]) rfl rfl ⟨⟨rfl, (gle rfl), (gle rfl)⟩, trivial⟩)) (V.le.keep (ag := false) (xs := [.sc _]) (ys := [.sc _]) rfl rfl ⟨(by first | rfl | (show Leaf.sc _ = Leaf.sc _; refine congrArg Leaf.sc ?_; first | rfl | go_num | (rw [hz]; first | done | rfl | (show (((t + 2 : Nat)) : Int) = _; omega) | (show _ = (((t + 2 : Nat)) : Int); omega); first | done | rfl | go_num | (simp; done) | (simp; omega)) | (simp [cntAll]; done)) | (simp [cntAll]; done) | (simp; omega)), trivial⟩)) trivial ⟨.inr ⟨_, _, rfl, ?ob2_0, (gle rfl)⟩, trivial⟩ (new_ob nil_ob) (fun i j hi hj e => inj_list (l := [4]) (by decide) i j hi hj e))
        case ob2_0 =>
          show some (T.seq _ _) = some (T.seq _ _)
          rw [hz]; first | done | rfl | (simp only [List.map_append]; rfl) | (simp [tRun]; done)
      · skip   -- c1.F
        have htl2 : t + 1 < X.length := by simp at hc1; omega
        obtain ⟨q, hy⟩ : ∃ q, X[t + 1]? = some q := ⟨_, List.getElem?_eq_getElem htl2⟩
        obtain ⟨z', hz⟩ : ∃ z' : Nat × List (List R), z' = (t + 2, o ++ [Runs.merge2 p q]) := ⟨_, rfl⟩
        have hz2 : (z'.1 ≤ X.length + 1 ∧ z'.2 ++ Runs.pass (X.drop z'.1) = Runs.pass X) ∧ X.length + 1 - z'.1 < X.length + 1 - t := by
          rw [hz]
          refine ⟨⟨by show t + 2 ≤ X.length + 1; omega, ?_⟩, by show X.length + 1 - (t + 2) < _; omega⟩
          show (o ++ [Runs.merge2 p q]) ++ Runs.pass (X.drop (t + 2)) = _
          rw [List.append_assoc, ← ho, Runs.pass_two hx hy]
          rfl
        refine SV.draw [.q 0, .q 1, .q 2, .q 3, .q 4, .q 5, .q 6, .q 7, .q 8, .q 9, .q 10, .q 11, .m 12, .q 13, .m 14, .m 15, .q 16] [] (by kernel_rfl) (by kernel_rfl) ?_
        refine DW.q rfl (ok_move (v := V.one (.hd 0)) (.inl rfl) rfl) rfl rfl (gle rfl) (fun _ _ _ _ h => h) ?_
        refine DW.q rfl (ok_move (v := V.one (.ro _)) (.inl rfl) rfl) rfl rfl (gle rfl) (fun _ _ _ _ h => h) ?_
        refine DW.q rfl (ok_move (v := V.one (.sc _)) (.inl rfl) rfl) rfl rfl (gle rfl) (fun _ _ _ _ h => h) ?_
        refine DW.q rfl (ok_index (n := 1) (lf := .ro _) rfl elt_impl_Run.und sz_impl_Run rfl rfl rfl (map_at hx)) rfl rfl (gle rfl) (fun _ _ _ _ h => h) ?_
        refine DW.q rfl (ok_field_el (p := .rp _) (off := 0) rfl rfl rfl fld_impl_Run_0) rfl rfl (gle rfl) (fun _ _ _ _ h => h) ?_
        refine DW.q rfl (ok_load_rp (ag := false) (m := 1) (ys := [.ro _]) rfl rfl agg_s_impl_Row sz_s_impl_Row (fun _ => rfl) (gle rfl) rfl) rfl rfl (gle rfl) (fun _ _ _ _ h => h) ?_
        refine DW.q rfl (ok_move (v := V.one (.ro _)) (.inl rfl) rfl) rfl rfl (gle rfl) (fun _ _ _ _ h => h) ?_
        refine DW.q rfl (ok_move (v := V.one (.sc _)) (.inl rfl) rfl) rfl rfl (gle rfl) (fun _ _ _ _ h => h) ?_
        refine DW.q rfl (ok_s2 (v := .int .i64 ((t + 1 : Nat) : Int)) (x := .tmp 35) (x' := .const ((Value.int IntKind.i64 1))) (VScal.one rfl) (VScal.one rfl) (fun ρ h1 h2 w => by go_simp; all_goals ((try go_bits); first | with_reducible rfl | go_num | (simp; done) | (simp; omega))) rfl) rfl rfl (gle rfl) (fun _ _ _ _ h => h) ?_
        refine DW.q rfl (ok_index (n := 1) (lf := .ro _) rfl elt_impl_Run.und sz_impl_Run rfl rfl rfl (map_at hy)) rfl rfl (gle rfl) (fun _ _ _ _ h => h) ?_
        refine DW.q rfl (ok_field_el (p := .rp _) (off := 0) rfl rfl rfl fld_impl_Run_0) rfl rfl (gle rfl) (fun _ _ _ _ h => h) ?_
        refine DW.q rfl (ok_load_rp (ag := false) (m := 1) (ys := [.ro _]) rfl rfl agg_s_impl_Row sz_s_impl_Row (fun _ => rfl) (gle rfl) rfl) rfl rfl (gle rfl) (fun _ _ _ _ h => h) ?_
        refine DW.m [1] rfl (ok_call (ls := [(false, [.hd 1])]) rfl rfl ⟨_, _, Try.func19, rfl, by decide⟩ (vms_s p q (by have := two_len hx hy; omega)) ⟨⟨[.ro _], rfl, ⟨rfl, trivial⟩⟩, ⟨[.ro _], rfl, ⟨rfl, trivial⟩⟩, trivial⟩ rfl (gle rfl)) rfl (gle rfl) (gle rfl) (.inl rfl) (fun j hj => by
            simp only [List.mem_cons, List.not_mem_nil, or_false] at hj
            rcases hj with rfl
            · exact .inr ⟨(gle rfl), (gle rfl), .inl rfl⟩) ?_
        refine DW.q rfl (ok_build (zs := [.nl _]) (ys := [.hd 1]) (qs := [(0, [.hd 1])]) (pl := fun i => ([(0, 1)] : List (Nat × Nat))[i]?) rfl zero_impl_Run ⟨rfl, ⟨3, by decide, sz_impl_Row⟩, trivial⟩ ⟨⟨rfl, false, rfl, (fun _ => rfl), rfl⟩, trivial⟩ bld_impl_Run rfl) rfl rfl (gle rfl) (fun _ _ _ _ h => h) ?_
        refine DW.m [2, 1] rfl (ok_lit1 (kk := 2) elt_impl_Run (ag := true) (xs := [.hd 1]) rfl rfl rfl rfl (fun h => by cases h) (outs_c rfl outs_n) (by simp [two]) rfl (gle rfl)) rfl (gle rfl) (gle rfl) (.inl rfl) (fun j hj => by
            simp only [List.mem_cons, List.not_mem_nil, or_false] at hj
            rcases hj with rfl | rfl
            · exact .inr ⟨(gle rfl), (gle rfl), .inl rfl⟩
            · exact .inl (by decide)) ?_
        refine DW.m [2, 1] rfl (ok_append (kk := 3) elt_impl_Run (ls := .hd 0) (lx := .hd 2) rfl rfl rfl rfl rfl rfl (by intro i h1 h2; first | (cases h1; done) | (cases h1; cases h2)) (by first | omega | (simp only [List.length_map]; omega) | (simp; done) | (simp; omega)) rfl (gle rfl)) rfl (gle rfl) (gle rfl) (.inr ⟨0, rfl, .inr ⟨(gle rfl), rfl⟩⟩) (fun j hj => by
            simp only [List.mem_cons, List.not_mem_nil, or_false] at hj
            rcases hj with rfl | rfl
            · exact .inl (by decide)
            · exact .inl (by decide)) ?_
        refine DW.q rfl (ok_move (v := V.one (.hd 3)) (.inr rfl) rfl) rfl rfl (gle rfl) (fun _ _ _ _ h => h) ?_
        refine DW.stores ?_
        refine SV.zend ?_
        refine SV.bn ?_
        refine SV.tn ?_
        refine SV.region ?_
        refine SV.op (OpL.ok (nb := 0) (ok_move (v := V.one (.sc _)) (.inl rfl) rfl) rfl (gle rfl)) rfl ?_
        refine SV.op (OpL.ok (nb := 0) (ok_s2 (x := .tmp 10) (x' := .const ((Value.int IntKind.i64 2))) (VScal.one rfl) (VScal.one rfl) (fun ρ h1 h2 w => by go_simp; (try go_bits); with_reducible rfl) rfl) rfl (gle rfl)) rfl ?_
        refine SV.op (OpL.ok (nb := 0) (ok_move (v := V.one (.sc _)) (.inr rfl) rfl) rfl (gle rfl)) rfl ?_
        refine SV.nil ?_
        refine SV.tn ?_
        refine SV.again (fun i => [3].getD i 0) (z') (hz2) (pins hE rfl rfl) (VS.le.mk' (le_put (le_put (le_put (le_put (le_new le_nil) (V.le.keep (ag := false) (xs := [.ro _]) (ys := [.ro _]) rfl rfl ⟨rfl, trivial⟩)) (V.le.keep (ag := false) (xs := [.sc _]) (ys := [.sc _]) rfl rfl ⟨rfl, trivial⟩)) (V.le.keep (ag := false) (xs := [.hd 3]) (ys := [.hd 0]) rfl rfl ⟨⟨rfl, (gle rfl), (gle rfl)⟩, trivial⟩)) (V.le.keep (ag := false) (xs := [.sc _]) (ys := [.sc _]) rfl rfl ⟨(by first | rfl | (show Leaf.sc _ = Leaf.sc _; refine congrArg Leaf.sc ?_; first | rfl | go_num | (rw [hz]; first | done | rfl | (show (((t + 2 : Nat)) : Int) = _; omega) | (show _ = (((t + 2 : Nat)) : Int); omega); first | done | rfl | go_num | (simp; done) | (simp; omega)) | (simp [cntAll]; done)) | (simp [cntAll]; done) | (simp; omega)), trivial⟩)) trivial ⟨.inr ⟨_, _, rfl, ?ob3_0, (gle rfl)⟩, trivial⟩ (new_ob nil_ob) (fun i j hi hj e => inj_list (l := [3]) (by decide) i j hi hj e))
        case ob3_0 =>
          show some (T.seq _ _) = some (T.seq _ _)
          rw [hz]; first | done | rfl | (simp only [List.map_append]; rfl) | (simp [tRun]; done)
    · skip   -- c0.F
      have hte : ¬ t < X.length := by simpa using hc0
      refine SV.exit ?_
      refine SV.te ?_
      refine SV.te ?_
      refine SV.bh ?_
      refine SV.tn ?_
      refine SV.seq' ?_
      refine SV.region ?_
      refine SV.op (OpL.ok (nb := 0) (ok_move (v := V.one (.hd 0)) (.inl rfl) rfl) rfl (gle rfl)) rfl ?_
      refine SV.op (OpL.ok (nb := 0) (ok_move (v := V.one (.hd 0)) (.inr rfl) rfl) rfl (gle rfl)) rfl ?_
      refine SV.nil ?_
      refine SV.tn ?_
      refine SV.ret ?_
      apply SV.done (hf := Try.results24) (ht := rfl) (he := .inl rfl)
      case hr => exact (ResAll.cons (ResOk.tmp (ag := false) (xs := [.hd 0]) rfl) ResAll.nil')
      case h2 => simp [two]
      refine ⟨rfl, ⟨?_, trivial⟩, trivial⟩ <;> (show some (T.seq _ _) = some (T.seq _ _); refine congrArg (fun z => some (T.seq _ z)) ?_; have e1 : X.drop t = [] := List.drop_eq_nil_of_le (by omega); rw [e1] at ho; rw [← ho]; simp [Runs.pass])
end Go.Proofs.Ytfionajnoaednaa
/- The reference's BuildRuns: told by trees. -/
namespace Go.Proofs.Ytfionajnoaednaa
open Go Go.RowKit V
set_option linter.unusedVariables false
theorem later_at {cur : List R} {r d : R} (h : cur[cur.length - 1]? = some d) : Runs.later cur r = decide (R.cmp r d < 0) := by
  unfold Runs.later
  rw [List.getLast?_eq_getElem?, h]
theorem later_nil {cur : List R} {r : R} (h : cur.length = 0) : Runs.later cur r = false := by
  rw [List.eq_nil_of_length_eq_zero h]
  rfl
theorem idxMin_pos {l : List R} (h : 0 < l.length) : Runs.idxMin l = ((Runs.minAt l l.length : Nat) : Int) := by
  unfold Runs.idxMin
  rw [if_neg (by omega)]
theorem going_len {l : List R} {m : Int} {s : Runs.St} (hc : Runs.can l m = true) (h : Runs.Going l m s) : (s.cur.length ≤ 24 ∧ s.heap.length ≤ 24 ∧ s.next.length ≤ 24) ∧ s.out.length ≤ 24 ∧ l.length ≤ 24 ∧ s.i ≤ l.length := by
  have hI := Runs.going_inv hc h
  have h1 := hI.perm.length_eq
  have h2 : s.out.length ≤ s.out.flatten.length := by
    have hr := hI.runs
    generalize s.out = X at hr
    clear h1 hI h
    induction X with
    | nil => simp
    | cons p X ih =>
      have hp := (hr p (List.mem_cons_self ..)).1
      have := ih fun q hq => hr q (List.mem_cons_of_mem _ hq)
      rw [List.flatten_cons, List.length_append, List.length_cons]
      omega
  have h3 : l.length ≤ 24 := by
    unfold Runs.can okRows at hc
    rw [Bool.and_eq_true, Bool.and_eq_true, decide_eq_true_eq] at hc
    exact hc.1.1
  have h4 := hI.ile
  simp only [List.length_append, List.length_take] at h1
  omega
theorem going_wf {l : List R} {m : Int} {s : Runs.St} (hc : Runs.can l m = true) (h : Runs.Going l m s) (hw : ∀ r ∈ l, r.wf) : (∀ r ∈ s.heap, r.wf) ∧ (∀ r ∈ s.next, r.wf) := by
  have hp := (Runs.going_inv hc h).perm
  have key : ∀ r, r ∈ s.out.flatten ++ (s.cur ++ (s.heap ++ s.next)) → r.wf := fun r hr => hw r (List.mem_of_mem_take (hp.mem_iff.1 hr))
  exact ⟨fun r hr => key r (by simp [hr]), fun r hr => key r (by simp [hr])⟩
set_option maxRecDepth 100000 in
set_option maxHeartbeats 2000000 in
theorem vbuild_s (l : List R) (m : Int) (hW : ∀ r ∈ l, r.wf) (hl : l.length ≤ 1000000000) : VC Try.prog 59 [(false, [.seq 59 ((l).map tRow)]), (false, [.lit (.int .i64 (m))])] true [(false, [.seq 63 ((Runs.build l m).map tRun)]), (false, [.lit (.bool (Runs.can l m))])] := by
  refine VC.enter Try.func59 rfl Try.ntmps59 (gle rfl) fun E hE => ?_
  refine SV.seq' ?_
  refine SV.region ?_
  refine SV.op (OpL.ok (nb := 0) (ok_move (v := V.one (.sc _)) (.inr rfl) rfl) rfl (gle rfl)) rfl ?_
  refine SV.op (OpL.ok (nb := 0) (ok_move (v := V.one (.sc _)) (.inr rfl) rfl) rfl (gle rfl)) rfl ?_
  refine SV.nil ?_
  refine SV.tn ?_
  refine SV.seq' ?_
  refine SV.seq' ?_
  refine SV.region ?_
  refine SV.op (OpL.ok (nb := 0) (ok_move (v := V.one (.ro _)) (.inl rfl) rfl) rfl (gle rfl)) rfl ?_
  refine SV.op (OpMk.ok (ok_call (ls := [(false, [.sc _])]) rfl rfl ⟨_, _, Try.func69, rfl, by decide⟩ (vares_t l hW (by omega)) ⟨⟨[.ro _], rfl, ⟨rfl, trivial⟩⟩, trivial⟩ rfl (gle rfl))) rfl ?_
  refine SV.op (OpL.ok (nb := 0) (ok_s1 (x := .tmp 13) (VScal.one rfl) (fun ρ h1 w => by go_simp; (try go_bits); with_reducible rfl) rfl) rfl (gle rfl)) rfl ?_
  refine SV.op (OpL.ok (nb := 0) (ok_move (v := V.one (.sc _)) (.inl rfl) rfl) rfl (gle rfl)) rfl ?_
  refine SV.split (d := 15) rfl (fun hg0 => ?_) (fun hg0 => ?_)
  · skip   -- g0.T
    refine SV.opN rfl rfl rfl (gle rfl) rfl rfl rfl (gle rfl) ?_
    refine SV.opN rfl rfl rfl (gle rfl) rfl rfl rfl (gle rfl) ?_
    refine SV.opN rfl rfl rfl (gle rfl) rfl rfl rfl (gle rfl) ?_
    refine SV.op (OpL.ok (nb := 0) (ok_pickT (v := V.one (.sc _)) rfl rfl rfl) rfl (gle rfl)) rfl ?_
    refine SV.nil ?_
    refine SV.tn ?_
    refine SV.cond rfl (fun hc0 => ?_) (fun hc0 => ?_)
    · skip   -- c0.T
      have hno : Runs.can l m = false := by
        rw [Bool.eq_false_iff]
        intro h
        unfold Runs.can Runs.isMem at h
        rw [Bool.and_eq_true, decide_eq_true_eq] at h
        obtain ⟨h1, h2⟩ := h
        first | (rw [h1] at hg0; cases hg0; done) | (simp at hc1; omega)
      have hb : Runs.build l m = [] := by unfold Runs.build; rw [if_neg (by rw [hno]; decide)]
      refine SV.seq' ?_
      refine SV.region ?_
      refine SV.op (OpMk.ok (ok_lit0 (kk := 0) elt_impl_Run rfl rfl rfl (gle rfl))) rfl ?_
      refine SV.op (OpL.ok (nb := 0) (ok_move (v := V.one (.hd 0)) (.inr rfl) rfl) rfl (gle rfl)) rfl ?_
      refine SV.op (OpL.ok (nb := 0) (ok_move (v := V.one (.sc _)) (.inr rfl) rfl) rfl (gle rfl)) rfl ?_
      refine SV.nil ?_
      refine SV.tn ?_
      refine SV.ret ?_
      refine SV.tr ?_
      apply SV.done (hf := Try.results59) (ht := rfl) (he := .inl rfl)
      case hr => exact (ResAll.cons (ResOk.tmp (ag := false) (xs := [.hd 0]) rfl) (ResAll.cons (ResOk.tmp (ag := false) (xs := [.sc _]) rfl) ResAll.nil'))
      case h2 => simp [two]
      refine ⟨rfl, ⟨?_, trivial⟩, ⟨rfl, ⟨?_, trivial⟩, trivial⟩⟩ <;> first | rfl | (rw [hb]; rfl) | ((show some (T.seq _ _) = some (T.seq _ _); refine congrArg (fun z => some (T.seq _ z)) ?_; rw [hb]; first | done | rfl | (simp [tRun]; done))) | ((show some (T.lit (Value.bool _)) = some (T.lit (Value.bool _)); refine congrArg (fun z => some (T.lit (Value.bool z))) ?_; rw [hno])) | ((show some (T.lit (Value.bool _)) = some (T.lit (Value.bool _)); refine congrArg (fun z => some (T.lit (Value.bool z))) ?_; rw [hcan]))
    · skip   -- c0.F
      cases hc0
  · skip   -- g0.F
    refine SV.opY (OpL.ok (nb := 0) (ok_move (v := V.one (.sc _)) (.inl rfl) rfl) rfl (gle rfl)) rfl rfl rfl (gle rfl) rfl rfl ?_
    refine SV.opY (OpMk.ok (ok_call (ls := [(false, [.sc _])]) rfl rfl ⟨_, _, Try.func70, rfl, by decide⟩ (vin_s' m 8 60) ⟨⟨[.sc _], rfl, ⟨rfl, trivial⟩⟩, ⟨[.sc _], rfl, ⟨rfl, trivial⟩⟩, ⟨[.sc _], rfl, ⟨rfl, trivial⟩⟩, trivial⟩ rfl (gle rfl))) rfl rfl rfl (gle rfl) rfl rfl ?_
    refine SV.opY (OpL.ok (nb := 0) (ok_s1 (x := .tmp 17) (VScal.one rfl) (fun ρ h1 w => by go_simp; (try go_bits); with_reducible rfl) rfl) rfl (gle rfl)) rfl rfl rfl (gle rfl) rfl rfl ?_
    refine SV.op (OpL.ok (nb := 0) (ok_pickF (v := V.one (.sc _)) rfl rfl rfl) rfl (gle rfl)) rfl ?_
    refine SV.nil ?_
    refine SV.tn ?_
    refine SV.cond rfl (fun hc1 => ?_) (fun hc1 => ?_)
    · skip   -- c1.T
      have hno : Runs.can l m = false := by
        rw [Bool.eq_false_iff]
        intro h
        unfold Runs.can Runs.isMem at h
        rw [Bool.and_eq_true, decide_eq_true_eq] at h
        obtain ⟨h1, h2⟩ := h
        first | (rw [h1] at hg0; cases hg0; done) | (simp at hc1; omega)
      have hb : Runs.build l m = [] := by unfold Runs.build; rw [if_neg (by rw [hno]; decide)]
      refine SV.seq' ?_
      refine SV.region ?_
      refine SV.op (OpMk.ok (ok_lit0 (kk := 0) elt_impl_Run rfl rfl rfl (gle rfl))) rfl ?_
      refine SV.op (OpL.ok (nb := 0) (ok_move (v := V.one (.hd 0)) (.inr rfl) rfl) rfl (gle rfl)) rfl ?_
      refine SV.op (OpL.ok (nb := 0) (ok_move (v := V.one (.sc _)) (.inr rfl) rfl) rfl (gle rfl)) rfl ?_
      refine SV.nil ?_
      refine SV.tn ?_
      refine SV.ret ?_
      refine SV.tr ?_
      apply SV.done (hf := Try.results59) (ht := rfl) (he := .inl rfl)
      case hr => exact (ResAll.cons (ResOk.tmp (ag := false) (xs := [.hd 0]) rfl) (ResAll.cons (ResOk.tmp (ag := false) (xs := [.sc _]) rfl) ResAll.nil'))
      case h2 => simp [two]
      refine ⟨rfl, ⟨?_, trivial⟩, ⟨rfl, ⟨?_, trivial⟩, trivial⟩⟩ <;> first | rfl | (rw [hb]; rfl) | ((show some (T.seq _ _) = some (T.seq _ _); refine congrArg (fun z => some (T.seq _ z)) ?_; rw [hb]; first | done | rfl | (simp [tRun]; done))) | ((show some (T.lit (Value.bool _)) = some (T.lit (Value.bool _)); refine congrArg (fun z => some (T.lit (Value.bool z))) ?_; rw [hno])) | ((show some (T.lit (Value.bool _)) = some (T.lit (Value.bool _)); refine congrArg (fun z => some (T.lit (Value.bool z))) ?_; rw [hcan]))
    · skip   -- c1.F
      have hcan : Runs.can l m = true := by
        unfold Runs.can Runs.isMem
        rw [Bool.and_eq_true, decide_eq_true_eq]
        refine ⟨by simpa using hg0, ?_⟩
        simp at hc1
        omega
      have hlm : okRows l = true ∧ Runs.isMem m = true := by have h := hcan; unfold Runs.can at h; rw [Bool.and_eq_true] at h; exact h
      refine SV.skip ?_
      refine SV.tn ?_
      refine SV.seq' ?_
      refine SV.region ?_
      refine SV.op (OpMk.ok (ok_lit0 (kk := 0) elt_impl_Run rfl rfl rfl (gle rfl))) rfl ?_
      refine SV.op (OpL.ok (nb := 0) (ok_move (v := V.one (.hd 0)) (.inr rfl) rfl) rfl (gle rfl)) rfl ?_
      refine SV.nil ?_
      refine SV.tn ?_
      refine SV.seq' ?_
      refine SV.region ?_
      refine SV.op (OpMk.ok (ok_lit0 (kk := 1) elt_impl_Row rfl rfl rfl (gle rfl))) rfl ?_
      refine SV.op (OpL.ok (nb := 0) (ok_move (v := V.one (.hd 1)) (.inr rfl) rfl) rfl (gle rfl)) rfl ?_
      refine SV.nil ?_
      refine SV.tn ?_
      refine SV.seq' ?_
      refine SV.region ?_
      refine SV.op (OpMk.ok (ok_lit0 (kk := 2) elt_impl_Row rfl rfl rfl (gle rfl))) rfl ?_
      refine SV.op (OpL.ok (nb := 0) (ok_move (v := V.one (.hd 2)) (.inr rfl) rfl) rfl (gle rfl)) rfl ?_
      refine SV.nil ?_
      refine SV.tn ?_
      refine SV.seq' ?_
      refine SV.region ?_
      refine SV.op (OpMk.ok (ok_lit0 (kk := 3) elt_impl_Row rfl rfl rfl (gle rfl))) rfl ?_
      refine SV.op (OpL.ok (nb := 0) (ok_move (v := V.one (.hd 3)) (.inr rfl) rfl) rfl (gle rfl)) rfl ?_
      refine SV.nil ?_
      refine SV.tn ?_
      refine SV.seq' ?_
      refine SV.seq' ?_
      refine SV.region ?_
      refine SV.op (OpL.ok (nb := 0) (ok_move (v := V.one (.sc _)) (.inr rfl) rfl) rfl (gle rfl)) rfl ?_
      refine SV.nil ?_
      refine SV.tn ?_
      refine SV.block ?_
      refine SV.loopF (X := Runs.St) (fun (σ : VS) s => (((((((((((((VS.nil.new (.seq 63 (s.out.map tRun))).new (.seq 59 (s.cur.map tRow))).new (.seq 59 (s.heap.map tRow))).new (.seq 59 (s.next.map tRow))).put 0 (σ.tm 0)).put 1 (σ.tm 1)).put 4 (σ.tm 4)).put 5 (σ.tm 5)).put 6 (V.flat false [.hd 0])).put 7 (V.flat false [.hd 1])).put 8 (V.flat false [.hd 2])).put 9 (V.flat false [.hd 3])).put 10 (V.flat false [.sc (.int .i64 (((s.i : Nat) : Int)))]))) (fun s => Runs.Going l m s) (fun s => Runs.mu l s) ?_ ?_
      · skip
        refine SV.again (fun i => [0, 1, 2, 3].getD i 0) Runs.init (Runs.going_init l m) (pins hE rfl rfl) (VS.le.mk' (le_put (le_put (le_put (le_put (le_put (le_put (le_put (le_put (le_put (le_new (le_new (le_new (le_new le_nil)))) (V.le.keep (ag := false) (xs := [.ro _]) (ys := [.ro _]) rfl rfl ⟨rfl, trivial⟩)) (V.le.keep (ag := false) (xs := [.sc _]) (ys := [.sc _]) rfl rfl ⟨rfl, trivial⟩)) (V.le.keep (ag := false) (xs := [.sc _]) (ys := [.sc _]) rfl rfl ⟨rfl, trivial⟩)) (V.le.keep (ag := false) (xs := [.sc _]) (ys := [.sc _]) rfl rfl ⟨rfl, trivial⟩)) (V.le.keep (ag := false) (xs := [.hd 0]) (ys := [.hd 0]) rfl rfl ⟨⟨rfl, (gle rfl), (gle rfl)⟩, trivial⟩)) (V.le.keep (ag := false) (xs := [.hd 1]) (ys := [.hd 1]) rfl rfl ⟨⟨rfl, (gle rfl), (gle rfl)⟩, trivial⟩)) (V.le.keep (ag := false) (xs := [.hd 2]) (ys := [.hd 2]) rfl rfl ⟨⟨rfl, (gle rfl), (gle rfl)⟩, trivial⟩)) (V.le.keep (ag := false) (xs := [.hd 3]) (ys := [.hd 3]) rfl rfl ⟨⟨rfl, (gle rfl), (gle rfl)⟩, trivial⟩)) (V.le.keep (ag := false) (xs := [.sc _]) (ys := [.sc _]) rfl rfl ⟨(by first | rfl | (show Leaf.sc _ = Leaf.sc _; refine congrArg Leaf.sc ?_; first | rfl | go_num | (rw [hst]; first | done | rfl; first | done | rfl | go_num | (simp; done) | (simp; omega)) | (simp [cntAll]; done)) | (simp [cntAll]; done) | (simp; omega)), trivial⟩)) trivial ⟨.inr ⟨_, _, rfl, ?ob1_3, (gle rfl)⟩, ⟨.inr ⟨_, _, rfl, ?ob1_2, (gle rfl)⟩, ⟨.inr ⟨_, _, rfl, ?ob1_1, (gle rfl)⟩, ⟨.inr ⟨_, _, rfl, ?ob1_0, (gle rfl)⟩, trivial⟩⟩⟩⟩ (new_ob (new_ob (new_ob (new_ob nil_ob)))) (fun i j hi hj e => inj_list (l := [0, 1, 2, 3]) (by decide) i j hi hj e))
        case ob1_0 =>
          show some (T.seq _ _) = some (T.seq _ _)
          rfl
        case ob1_1 =>
          show some (T.seq _ _) = some (T.seq _ _)
          rfl
        case ob1_2 =>
          show some (T.seq _ _) = some (T.seq _ _)
          rfl
        case ob1_3 =>
          show some (T.seq _ _) = some (T.seq _ _)
          rfl
      · rintro s hG
        obtain ⟨⟨hl1, hl2, hl3⟩, hl4, hl5, hl6⟩ := going_len hcan hG
        have hwf := going_wf hcan hG hW
        refine SV.seq' ?_
        refine SV.seq' ?_
        refine SV.region ?_
        refine SV.op (OpL.ok (nb := 0) (ok_move (v := V.one (.sc _)) (.inl rfl) rfl) rfl (gle rfl)) rfl ?_
        refine SV.op (OpL.ok (nb := 0) (ok_move (v := V.one (.ro _)) (.inl rfl) rfl) rfl (gle rfl)) rfl ?_
        refine SV.op (OpL.ok (nb := 0) (ok_len (lf := .ro _) rfl elt_impl_Row.und rfl rfl) rfl (gle rfl)) rfl ?_
        refine SV.op (OpL.ok (nb := 0) (ok_s2 (x := .tmp 25) (x' := .tmp 27) (VScal.one rfl) (VScal.one rfl) (fun ρ h1 h2 w => by go_simp; (try go_bits); with_reducible rfl) rfl) rfl (gle rfl)) rfl ?_
        refine SV.op (OpL.ok (nb := 0) (ok_move (v := V.one (.sc _)) (.inl rfl) rfl) rfl (gle rfl)) rfl ?_
        refine SV.split (d := 29) rfl (fun hg1 => ?_) (fun hg1 => ?_)
        · skip   -- g1.T
          have hil : s.i < l.length := by simpa using hg1
          obtain ⟨r, hr⟩ : ∃ r, l[s.i]? = some r := ⟨_, List.getElem?_eq_getElem hil⟩
          have hd : Runs.done l s = false := by unfold Runs.done; rw [decide_eq_false_iff_not]; omega
          have htot1 := total_range s.heap
          have htot2 := total_range s.next
          have hcr := Runs.cost_ok (show r.ok = true by have h := hlm.1; unfold okRows allOk at h; rw [Bool.and_eq_true, List.all_eq_true] at h; exact h.2 r (List.mem_of_getElem? hr))
          refine SV.opN rfl rfl rfl (gle rfl) rfl rfl rfl (gle rfl) ?_
          refine SV.opN rfl rfl rfl (gle rfl) rfl rfl rfl (gle rfl) ?_
          refine SV.opN rfl rfl rfl (gle rfl) rfl rfl rfl (gle rfl) ?_
          refine SV.opN rfl rfl rfl (gle rfl) rfl rfl rfl (gle rfl) ?_
          refine SV.opN rfl rfl rfl (gle rfl) rfl rfl rfl (gle rfl) ?_
          refine SV.opN rfl rfl rfl (gle rfl) rfl rfl rfl (gle rfl) ?_
          refine SV.op (OpL.ok (nb := 0) (ok_pickT (v := V.one (.sc _)) rfl rfl rfl) rfl (gle rfl)) rfl ?_
          refine SV.nil ?_
          refine SV.tn ?_
          refine SV.cond rfl (fun hc2 => ?_) (fun hc2 => ?_)
          · skip   -- c2.T
            refine SV.skip ?_
            refine SV.tn ?_
            refine SV.block ?_
            refine SV.seq' ?_
            refine SV.seq' ?_
            refine SV.draw [.q 0, .q 1, .q 2, .q 3, .q 4, .q 5, .q 7, .q 10, .q 11, .q 12, .q 13, .q 16, .m 6, .m 8, .q 9, .m 14, .q 15, .q 17, .q 18] [] (by kernel_rfl) (by kernel_rfl) ?_
            refine DW.q rfl (ok_move (v := V.one (.sc _)) (.inl rfl) rfl) rfl rfl (gle rfl) (fun _ _ _ _ h => h) ?_
            refine DW.q rfl (ok_move (v := V.one (.ro _)) (.inl rfl) rfl) rfl rfl (gle rfl) (fun _ _ _ _ h => h) ?_
            refine DW.q rfl (ok_len (lf := .ro _) rfl elt_impl_Row.und rfl rfl) rfl rfl (gle rfl) (fun _ _ _ _ h => h) ?_
            refine DW.q rfl (ok_s2 (x := .tmp 37) (x' := .tmp 39) (VScal.one rfl) (VScal.one rfl) (fun ρ h1 h2 w => by go_simp; (try go_bits); with_reducible rfl) rfl) rfl rfl (gle rfl) (fun _ _ _ _ h => h) ?_
            refine DW.q rfl (ok_move (v := V.one (.sc _)) (.inl rfl) rfl) rfl rfl (gle rfl) (fun _ _ _ _ h => h) ?_
            refine DW.split (d := 41) rfl (fun hg2 => ?_) (fun hg2 => ?_)
            · skip   -- g2.T
              refine DW.qY rfl (ok_move (v := V.one (.hd 2)) (.inl rfl) rfl) rfl rfl rfl (gle rfl) rfl rfl rfl (gle rfl) (fun _ _ _ _ h => h) ?_
              refine DW.qY rfl (ok_move (v := V.one (.hd 3)) (.inl rfl) rfl) rfl rfl rfl (gle rfl) rfl rfl rfl (gle rfl) (fun _ _ _ _ h => h) ?_
              refine DW.qY rfl (ok_move (v := V.one (.ro _)) (.inl rfl) rfl) rfl rfl rfl (gle rfl) rfl rfl rfl (gle rfl) (fun _ _ _ _ h => h) ?_
              refine DW.qY rfl (ok_move (v := V.one (.sc _)) (.inl rfl) rfl) rfl rfl rfl (gle rfl) rfl rfl rfl (gle rfl) (fun _ _ _ _ h => h) ?_
              refine DW.qY rfl (ok_index (n := 3) (lf := .ro _) rfl elt_impl_Row.und sz_impl_Row rfl rfl rfl (map_at hr)) rfl rfl rfl (gle rfl) rfl rfl rfl (gle rfl) (fun _ _ _ _ h => h) ?_
              refine DW.qY rfl (ok_load_rp (ag := true) (m := 3) (ys := [.sc _, .sc _, .sc _]) rfl rfl agg_impl_Row sz_impl_Row (fun h => by cases h) (gle rfl) rfl) rfl rfl rfl (gle rfl) rfl rfl rfl (gle rfl) (fun _ _ _ _ h => h) ?_
              refine DW.qY rfl (ok_move (v := V.one (.sc _)) (.inl rfl) rfl) rfl rfl rfl (gle rfl) rfl rfl rfl (gle rfl) (fun _ _ _ _ h => h) ?_
              refine DW.m' [] rfl (ok_call (ls := [(false, [.sc _])]) rfl rfl ⟨_, _, Try.func60, rfl, by decide⟩ (vtotal_t s.heap hwf.1 (by omega)) ⟨⟨[.hd 2], rfl, ⟨rfl, trivial⟩⟩, trivial⟩ rfl (gle rfl)) (fun hr => wantedY hr rfl rfl rfl (gle rfl) rfl rfl) (gle rfl) (gle rfl) (.inl rfl) (fun j hj => by cases hj) ?_
              refine DW.m' [] rfl (ok_call (ls := [(false, [.sc _])]) rfl rfl ⟨_, _, Try.func60, rfl, by decide⟩ (vtotal_t s.next hwf.2 (by omega)) ⟨⟨[.hd 3], rfl, ⟨rfl, trivial⟩⟩, trivial⟩ rfl (gle rfl)) (fun hr => wantedY hr rfl rfl rfl (gle rfl) rfl rfl) (gle rfl) (gle rfl) (.inl rfl) (fun j hj => by cases hj) ?_
              refine DW.qY rfl (ok_s2 (v := .int .i64 (total s.heap + total s.next)) (x := .tmp 43) (x' := .tmp 45) (VScal.one rfl) (VScal.one rfl) (fun ρ h1 h2 w => by go_simp; rw [IntWalk.i64_left, IntWalk.wrap64_in _ ⟨by omega, by omega⟩]) rfl) rfl rfl rfl (gle rfl) rfl rfl rfl (gle rfl) (fun _ _ _ _ h => h) ?_
              refine DW.m' [] rfl (ok_call (ls := [(false, [.sc _])]) rfl rfl ⟨_, _, Try.func71, rfl, by decide⟩ (vcost_t r (hW r (List.mem_of_getElem? hr))) ⟨⟨[.sc _, .sc _, .sc _], rfl, ⟨rfl, rfl, rfl, trivial⟩⟩, trivial⟩ rfl (gle rfl)) (fun hr => wantedY hr rfl rfl rfl (gle rfl) rfl rfl) (gle rfl) (gle rfl) (.inl rfl) (fun j hj => by cases hj) ?_
              refine DW.qY rfl (ok_s2 (v := .int .i64 (total s.heap + total s.next + r.cost)) (x := .tmp 46) (x' := .tmp 51) (VScal.one rfl) (VScal.one rfl) (fun ρ h1 h2 w => by go_simp; rw [IntWalk.i64_left, IntWalk.wrap64_in _ ⟨by omega, by omega⟩]) rfl) rfl rfl rfl (gle rfl) rfl rfl rfl (gle rfl) (fun _ _ _ _ h => h) ?_
              refine DW.qY rfl (ok_s2 (x := .tmp 52) (x' := .tmp 53) (VScal.one rfl) (VScal.one rfl) (fun ρ h1 h2 w => by go_simp; (try go_bits); with_reducible rfl) rfl) rfl rfl rfl (gle rfl) rfl rfl rfl (gle rfl) (fun _ _ _ _ h => h) ?_
              refine DW.q rfl (ok_pickT (v := V.one (.sc _)) rfl rfl rfl) rfl rfl (gle rfl) (fun _ _ _ _ h => h) ?_
              refine DW.stores ?_
              refine SV.zend ?_
              refine SV.tn ?_
              refine SV.cond rfl (fun hc3 => ?_) (fun hc3 => ?_)
              · skip   -- c3.T
                have hroom : Runs.room m s r = true := by unfold Runs.room; simpa using hc3
                refine SV.seq' ?_
                refine SV.seq' ?_
                refine SV.draw [.q 0, .q 1, .q 2, .q 3, .q 4, .q 5, .q 6, .q 7, .q 8, .q 9, .q 10, .q 11, .q 12, .q 13, .m 14, .q 15, .q 16] [] (by kernel_rfl) (by kernel_rfl) ?_
                refine DW.q rfl (ok_move (v := V.one (.hd 1)) (.inl rfl) rfl) rfl rfl (gle rfl) (fun _ _ _ _ h => h) ?_
                refine DW.q rfl (ok_len (lf := .hd 1) rfl elt_impl_Row.und rfl rfl) rfl rfl (gle rfl) (fun _ _ _ _ h => h) ?_
                refine DW.q rfl (ok_s2 (x := .tmp 57) (x' := .const ((Value.int IntKind.i64 0))) (VScal.one rfl) (VScal.one rfl) (fun ρ h1 h2 w => by go_simp; (try go_bits); with_reducible rfl) rfl) rfl rfl (gle rfl) (fun _ _ _ _ h => h) ?_
                refine DW.q rfl (ok_move (v := V.one (.sc _)) (.inl rfl) rfl) rfl rfl (gle rfl) (fun _ _ _ _ h => h) ?_
                refine DW.split (d := 59) rfl (fun hg3 => ?_) (fun hg3 => ?_)
                · skip   -- g3.T
                  have hcl : 0 < s.cur.length := by rcases Nat.eq_zero_or_pos s.cur.length with h | h; (exfalso; simp [h] at hg3); (exact h)
                  obtain ⟨d, hdd⟩ : ∃ d, s.cur[s.cur.length - 1]? = some d := ⟨_, List.getElem?_eq_getElem (by omega)⟩
                  refine DW.qY rfl (ok_move (v := V.one (.ro _)) (.inl rfl) rfl) rfl rfl rfl (gle rfl) rfl rfl rfl (gle rfl) (fun _ _ _ _ h => h) ?_
                  refine DW.qY rfl (ok_move (v := V.one (.sc _)) (.inl rfl) rfl) rfl rfl rfl (gle rfl) rfl rfl rfl (gle rfl) (fun _ _ _ _ h => h) ?_
                  refine DW.qY rfl (ok_index (n := 3) (lf := .ro _) rfl elt_impl_Row.und sz_impl_Row rfl rfl rfl (map_at hr)) rfl rfl rfl (gle rfl) rfl rfl rfl (gle rfl) (fun _ _ _ _ h => h) ?_
                  refine DW.qY rfl (ok_load_rp (ag := true) (m := 3) (ys := [.sc _, .sc _, .sc _]) rfl rfl agg_impl_Row sz_impl_Row (fun h => by cases h) (gle rfl) rfl) rfl rfl rfl (gle rfl) rfl rfl rfl (gle rfl) (fun _ _ _ _ h => h) ?_
                  refine DW.qY rfl (ok_move (v := V.one (.hd 1)) (.inl rfl) rfl) rfl rfl rfl (gle rfl) rfl rfl rfl (gle rfl) (fun _ _ _ _ h => h) ?_
                  refine DW.qY rfl (ok_move (v := V.one (.hd 1)) (.inl rfl) rfl) rfl rfl rfl (gle rfl) rfl rfl rfl (gle rfl) (fun _ _ _ _ h => h) ?_
                  refine DW.qY rfl (ok_len (lf := .hd 1) rfl elt_impl_Row.und rfl rfl) rfl rfl rfl (gle rfl) rfl rfl rfl (gle rfl) (fun _ _ _ _ h => h) ?_
                  refine DW.qY rfl (ok_s2 (v := .int .i64 ((s.cur.length - 1 : Nat) : Int)) (x := .tmp 66) (x' := .const ((Value.int IntKind.i64 1))) (VScal.one rfl) (VScal.one rfl) (fun ρ h1 h2 w => by go_simp; all_goals ((try go_bits); first | with_reducible rfl | go_num | (simp; done) | (simp; omega))) rfl) rfl rfl rfl (gle rfl) rfl rfl rfl (gle rfl) (fun _ _ _ _ h => h) ?_
                  refine DW.qY rfl (ok_index (n := 3) (lf := .hd 1) rfl elt_impl_Row.und sz_impl_Row rfl rfl rfl (map_at hdd)) rfl rfl rfl (gle rfl) rfl rfl rfl (gle rfl) (fun _ _ _ _ h => h) ?_
                  refine DW.el' (ag := true) (m := 3) (ys := [.sc _, .sc _, .sc _]) rfl rfl rfl (cells_ep rfl (map_at hdd) rfl rfl) agg_impl_Row sz_impl_Row (fun h => by cases h) (gle rfl) rfl (fun hr => wantedY hr rfl rfl rfl (gle rfl) rfl rfl) rfl (gle rfl) (fun _ _ _ _ h => h) ?_
                  refine DW.m' [] rfl (ok_call (ls := [(false, [.sc _])]) rfl rfl ⟨_, _, Try.func52, rfl, by decide⟩ (vcmp_t r d) ⟨⟨[.sc _, .sc _, .sc _], rfl, ⟨rfl, rfl, rfl, trivial⟩⟩, ⟨[.sc _, .sc _, .sc _], rfl, ⟨rfl, rfl, rfl, trivial⟩⟩, trivial⟩ rfl (gle rfl)) (fun hr => wantedY hr rfl rfl rfl (gle rfl) rfl rfl) (gle rfl) (gle rfl) (.inl rfl) (fun j hj => by cases hj) ?_
                  refine DW.qY rfl (ok_s2 (x := .tmp 70) (x' := .const ((Value.int IntKind.i64 0))) (VScal.one rfl) (VScal.one rfl) (fun ρ h1 h2 w => by go_simp; (try go_bits); with_reducible rfl) rfl) rfl rfl rfl (gle rfl) rfl rfl rfl (gle rfl) (fun _ _ _ _ h => h) ?_
                  refine DW.q rfl (ok_pickT (v := V.one (.sc _)) rfl rfl rfl) rfl rfl (gle rfl) (fun _ _ _ _ h => h) ?_
                  refine DW.stores ?_
                  refine SV.zend ?_
                  refine SV.tn ?_
                  refine SV.cond rfl (fun hc4 => ?_) (fun hc4 => ?_)
                  · skip   -- c4.T
                    have hlt : Runs.later s.cur r = true := by rw [later_at hdd]; simpa using hc4
                    have hst : Runs.step l m s = ⟨s.i + 1, s.out, s.cur, s.heap, s.next ++ [r]⟩ := by rw [Runs.step_read hr hroom]; unfold Runs.take1; rw [if_pos hlt]
                    refine SV.region ?_
                    refine SV.op (OpL.ok (nb := 0) (ok_move (v := V.one (.hd 3)) (.inl rfl) rfl) rfl (gle rfl)) rfl ?_
                    refine SV.op (OpL.ok (nb := 0) (ok_move (v := V.one (.ro _)) (.inl rfl) rfl) rfl (gle rfl)) rfl ?_
                    refine SV.op (OpL.ok (nb := 0) (ok_move (v := V.one (.sc _)) (.inl rfl) rfl) rfl (gle rfl)) rfl ?_
                    refine SV.op (OpL.ok (nb := 0) (ok_index (n := 3) (lf := .ro _) rfl elt_impl_Row.und sz_impl_Row rfl rfl rfl (map_at hr)) rfl (gle rfl)) rfl ?_
                    refine SV.op (OpL.ok (nb := 0) (ok_load_rp (ag := true) (m := 3) (ys := [.sc _, .sc _, .sc _]) rfl rfl agg_impl_Row sz_impl_Row (fun h => by cases h) (gle rfl) rfl) rfl (gle rfl)) rfl ?_
                    refine SV.op (OpMk.ok (ok_lit1 (kk := 4) elt_impl_Row (ag := true) (xs := [.sc _, .sc _, .sc _]) rfl rfl rfl rfl (fun h => by cases h) (outs_c rfl (outs_c rfl (outs_c rfl outs_n))) (by simp [two]) rfl (gle rfl))) rfl ?_
                    refine SV.op (OpMk.ok (ok_append (kk := 5) elt_impl_Row (ls := .hd 3) (lx := .hd 4) rfl rfl rfl rfl rfl rfl (by intro i h1 h2; first | (cases h1; done) | (cases h1; cases h2)) (by first | omega | (simp only [List.length_map]; omega) | (simp; done) | (simp; omega)) rfl (gle rfl))) rfl ?_
                    refine SV.op (OpL.ok (nb := 0) (ok_move (v := V.one (.hd 5)) (.inr rfl) rfl) rfl (gle rfl)) rfl ?_
                    refine SV.nil ?_
                    refine SV.tn ?_
                    refine SV.seq' ?_
                    refine SV.region ?_
                    refine SV.op (OpL.ok (nb := 0) (ok_move (v := V.one (.sc _)) (.inl rfl) rfl) rfl (gle rfl)) rfl ?_
                    refine SV.op (OpL.ok (nb := 0) (ok_s2 (v := .int .i64 ((s.i + 1 : Nat) : Int)) (x := .tmp 87) (x' := .const ((Value.int IntKind.i64 1))) (VScal.one rfl) (VScal.one rfl) (fun ρ h1 h2 w => by go_simp; all_goals ((try go_bits); first | with_reducible rfl | go_num | (simp; done) | (simp; omega))) rfl) rfl (gle rfl)) rfl ?_
                    refine SV.op (OpL.ok (nb := 0) (ok_move (v := V.one (.sc _)) (.inr rfl) rfl) rfl (gle rfl)) rfl ?_
                    refine SV.nil ?_
                    refine SV.tn ?_
                    refine SV.exit ?_
                    refine SV.te ?_
                    refine SV.bh ?_
                    refine SV.tn ?_
                    refine SV.again (fun i => [0, 1, 2, 5].getD i 0) ((Runs.step l m s)) (Runs.going_next hlm.1 hlm.2 hG hd rfl) (pins hE rfl rfl) (VS.le.mk' (le_put (le_put (le_put (le_put (le_put (le_put (le_put (le_put (le_put (le_new (le_new (le_new (le_new le_nil)))) (V.le.keep (ag := false) (xs := [.ro _]) (ys := [.ro _]) rfl rfl ⟨rfl, trivial⟩)) (V.le.keep (ag := false) (xs := [.sc _]) (ys := [.sc _]) rfl rfl ⟨rfl, trivial⟩)) (V.le.keep (ag := false) (xs := [.sc _]) (ys := [.sc _]) rfl rfl ⟨rfl, trivial⟩)) (V.le.keep (ag := false) (xs := [.sc _]) (ys := [.sc _]) rfl rfl ⟨rfl, trivial⟩)) (V.le.keep (ag := false) (xs := [.hd 0]) (ys := [.hd 0]) rfl rfl ⟨⟨rfl, (gle rfl), (gle rfl)⟩, trivial⟩)) (V.le.keep (ag := false) (xs := [.hd 1]) (ys := [.hd 1]) rfl rfl ⟨⟨rfl, (gle rfl), (gle rfl)⟩, trivial⟩)) (V.le.keep (ag := false) (xs := [.hd 2]) (ys := [.hd 2]) rfl rfl ⟨⟨rfl, (gle rfl), (gle rfl)⟩, trivial⟩)) (V.le.keep (ag := false) (xs := [.hd 5]) (ys := [.hd 3]) rfl rfl ⟨⟨rfl, (gle rfl), (gle rfl)⟩, trivial⟩)) (V.le.keep (ag := false) (xs := [.sc _]) (ys := [.sc _]) rfl rfl ⟨(by first | rfl | (show Leaf.sc _ = Leaf.sc _; refine congrArg Leaf.sc ?_; first | rfl | go_num | (rw [hst]; first | done | rfl; first | done | rfl | go_num | (simp; done) | (simp; omega)) | (simp [cntAll]; done)) | (simp [cntAll]; done) | (simp; omega)), trivial⟩)) trivial ⟨.inr ⟨_, _, rfl, ?ob2_3, (gle rfl)⟩, ⟨.inr ⟨_, _, rfl, ?ob2_2, (gle rfl)⟩, ⟨.inr ⟨_, _, rfl, ?ob2_1, (gle rfl)⟩, ⟨.inr ⟨_, _, rfl, ?ob2_0, (gle rfl)⟩, trivial⟩⟩⟩⟩ (new_ob (new_ob (new_ob (new_ob nil_ob)))) (fun i j hi hj e => inj_list (l := [0, 1, 2, 5]) (by decide) i j hi hj e))
                    case ob2_0 =>
                      show some (T.seq _ _) = some (T.seq _ _)
                      rw [hst]; first | done | rfl | (simp only [List.map_append]; rfl) | (simp [tRun, tRow]; done)
                    case ob2_1 =>
                      show some (T.seq _ _) = some (T.seq _ _)
                      rw [hst]; first | done | rfl | (simp only [List.map_append]; rfl) | (simp [tRun, tRow]; done)
                    case ob2_2 =>
                      show some (T.seq _ _) = some (T.seq _ _)
                      rw [hst]; first | done | rfl | (simp only [List.map_append]; rfl) | (simp [tRun, tRow]; done)
                    case ob2_3 =>
                      show some (T.seq _ _) = some (T.seq _ _)
                      rw [hst]; first | done | rfl | (simp only [List.map_append]; rfl) | (simp [tRun, tRow]; done)
                  · skip   -- c4.F
                    have hlt : Runs.later s.cur r = false := by rw [later_at hdd]; simpa using hc4
                    have hst : Runs.step l m s = ⟨s.i + 1, s.out, s.cur, s.heap ++ [r], s.next⟩ := by rw [Runs.step_read hr hroom]; unfold Runs.take1; rw [if_neg (by rw [hlt]; decide)]
                    refine SV.region ?_
                    refine SV.op (OpL.ok (nb := 0) (ok_move (v := V.one (.hd 2)) (.inl rfl) rfl) rfl (gle rfl)) rfl ?_
                    refine SV.op (OpL.ok (nb := 0) (ok_move (v := V.one (.ro _)) (.inl rfl) rfl) rfl (gle rfl)) rfl ?_
                    refine SV.op (OpL.ok (nb := 0) (ok_move (v := V.one (.sc _)) (.inl rfl) rfl) rfl (gle rfl)) rfl ?_
                    refine SV.op (OpL.ok (nb := 0) (ok_index (n := 3) (lf := .ro _) rfl elt_impl_Row.und sz_impl_Row rfl rfl rfl (map_at hr)) rfl (gle rfl)) rfl ?_
                    refine SV.op (OpL.ok (nb := 0) (ok_load_rp (ag := true) (m := 3) (ys := [.sc _, .sc _, .sc _]) rfl rfl agg_impl_Row sz_impl_Row (fun h => by cases h) (gle rfl) rfl) rfl (gle rfl)) rfl ?_
                    refine SV.op (OpMk.ok (ok_lit1 (kk := 4) elt_impl_Row (ag := true) (xs := [.sc _, .sc _, .sc _]) rfl rfl rfl rfl (fun h => by cases h) (outs_c rfl (outs_c rfl (outs_c rfl outs_n))) (by simp [two]) rfl (gle rfl))) rfl ?_
                    refine SV.op (OpMk.ok (ok_append (kk := 5) elt_impl_Row (ls := .hd 2) (lx := .hd 4) rfl rfl rfl rfl rfl rfl (by intro i h1 h2; first | (cases h1; done) | (cases h1; cases h2)) (by first | omega | (simp only [List.length_map]; omega) | (simp; done) | (simp; omega)) rfl (gle rfl))) rfl ?_
                    refine SV.op (OpL.ok (nb := 0) (ok_move (v := V.one (.hd 5)) (.inr rfl) rfl) rfl (gle rfl)) rfl ?_
                    refine SV.nil ?_
                    refine SV.tn ?_
                    refine SV.seq' ?_
                    refine SV.region ?_
                    refine SV.op (OpL.ok (nb := 0) (ok_move (v := V.one (.sc _)) (.inl rfl) rfl) rfl (gle rfl)) rfl ?_
                    refine SV.op (OpL.ok (nb := 0) (ok_s2 (v := .int .i64 ((s.i + 1 : Nat) : Int)) (x := .tmp 87) (x' := .const ((Value.int IntKind.i64 1))) (VScal.one rfl) (VScal.one rfl) (fun ρ h1 h2 w => by go_simp; all_goals ((try go_bits); first | with_reducible rfl | go_num | (simp; done) | (simp; omega))) rfl) rfl (gle rfl)) rfl ?_
                    refine SV.op (OpL.ok (nb := 0) (ok_move (v := V.one (.sc _)) (.inr rfl) rfl) rfl (gle rfl)) rfl ?_
                    refine SV.nil ?_
                    refine SV.tn ?_
                    refine SV.exit ?_
                    refine SV.te ?_
                    refine SV.bh ?_
                    refine SV.tn ?_
                    refine SV.again (fun i => [0, 1, 5, 3].getD i 0) ((Runs.step l m s)) (Runs.going_next hlm.1 hlm.2 hG hd rfl) (pins hE rfl rfl) (VS.le.mk' (le_put (le_put (le_put (le_put (le_put (le_put (le_put (le_put (le_put (le_new (le_new (le_new (le_new le_nil)))) (V.le.keep (ag := false) (xs := [.ro _]) (ys := [.ro _]) rfl rfl ⟨rfl, trivial⟩)) (V.le.keep (ag := false) (xs := [.sc _]) (ys := [.sc _]) rfl rfl ⟨rfl, trivial⟩)) (V.le.keep (ag := false) (xs := [.sc _]) (ys := [.sc _]) rfl rfl ⟨rfl, trivial⟩)) (V.le.keep (ag := false) (xs := [.sc _]) (ys := [.sc _]) rfl rfl ⟨rfl, trivial⟩)) (V.le.keep (ag := false) (xs := [.hd 0]) (ys := [.hd 0]) rfl rfl ⟨⟨rfl, (gle rfl), (gle rfl)⟩, trivial⟩)) (V.le.keep (ag := false) (xs := [.hd 1]) (ys := [.hd 1]) rfl rfl ⟨⟨rfl, (gle rfl), (gle rfl)⟩, trivial⟩)) (V.le.keep (ag := false) (xs := [.hd 5]) (ys := [.hd 2]) rfl rfl ⟨⟨rfl, (gle rfl), (gle rfl)⟩, trivial⟩)) (V.le.keep (ag := false) (xs := [.hd 3]) (ys := [.hd 3]) rfl rfl ⟨⟨rfl, (gle rfl), (gle rfl)⟩, trivial⟩)) (V.le.keep (ag := false) (xs := [.sc _]) (ys := [.sc _]) rfl rfl ⟨(by first | rfl | (show Leaf.sc _ = Leaf.sc _; refine congrArg Leaf.sc ?_; first | rfl | go_num | (rw [hst]; first | done | rfl; first | done | rfl | go_num | (simp; done) | (simp; omega)) | (simp [cntAll]; done)) | (simp [cntAll]; done) | (simp; omega)), trivial⟩)) trivial ⟨.inr ⟨_, _, rfl, ?ob3_3, (gle rfl)⟩, ⟨.inr ⟨_, _, rfl, ?ob3_2, (gle rfl)⟩, ⟨.inr ⟨_, _, rfl, ?ob3_1, (gle rfl)⟩, ⟨.inr ⟨_, _, rfl, ?ob3_0, (gle rfl)⟩, trivial⟩⟩⟩⟩ (new_ob (new_ob (new_ob (new_ob nil_ob)))) (fun i j hi hj e => inj_list (l := [0, 1, 5, 3]) (by decide) i j hi hj e))
                    case ob3_0 =>
                      show some (T.seq _ _) = some (T.seq _ _)
                      rw [hst]; first | done | rfl | (simp only [List.map_append]; rfl) | (simp [tRun, tRow]; done)
                    case ob3_1 =>
                      show some (T.seq _ _) = some (T.seq _ _)
                      rw [hst]; first | done | rfl | (simp only [List.map_append]; rfl) | (simp [tRun, tRow]; done)
                    case ob3_2 =>
                      show some (T.seq _ _) = some (T.seq _ _)
                      rw [hst]; first | done | rfl | (simp only [List.map_append]; rfl) | (simp [tRun, tRow]; done)
                    case ob3_3 =>
                      show some (T.seq _ _) = some (T.seq _ _)
                      rw [hst]; first | done | rfl | (simp only [List.map_append]; rfl) | (simp [tRun, tRow]; done)
                · skip   -- g3.F
                  have hcl : s.cur.length = 0 := by first | (simpa using hg3) | (simp at hg3; omega) | (simp at hg3; rw [hg3]; rfl)
                  have hlt := later_nil (r := r) hcl
                  have hst : Runs.step l m s = ⟨s.i + 1, s.out, s.cur, s.heap ++ [r], s.next⟩ := by rw [Runs.step_read hr hroom]; unfold Runs.take1; rw [if_neg (by rw [hlt]; decide)]
                  refine DW.qN (V' := V.one .dead) rfl rfl rfl rfl (gle rfl) rfl rfl rfl (gle rfl) (fun _ _ _ _ h => h) ?_
                  refine DW.qN (V' := V.one .dead) rfl rfl rfl rfl (gle rfl) rfl rfl rfl (gle rfl) (fun _ _ _ _ h => h) ?_
                  refine DW.qN (V' := V.one .dead) rfl rfl rfl rfl (gle rfl) rfl rfl rfl (gle rfl) (fun _ _ _ _ h => h) ?_
                  refine DW.qN (V' := V.one .dead) rfl rfl rfl rfl (gle rfl) rfl rfl rfl (gle rfl) (fun _ _ _ _ h => h) ?_
                  refine DW.qN (V' := V.one .dead) rfl rfl rfl rfl (gle rfl) rfl rfl rfl (gle rfl) (fun _ _ _ _ h => h) ?_
                  refine DW.qN (V' := V.one .dead) rfl rfl rfl rfl (gle rfl) rfl rfl rfl (gle rfl) (fun _ _ _ _ h => h) ?_
                  refine DW.qN (V' := V.one .dead) rfl rfl rfl rfl (gle rfl) rfl rfl rfl (gle rfl) (fun _ _ _ _ h => h) ?_
                  refine DW.qN (V' := V.one .dead) rfl rfl rfl rfl (gle rfl) rfl rfl rfl (gle rfl) (fun _ _ _ _ h => h) ?_
                  refine DW.qN (V' := V.one .dead) rfl rfl rfl rfl (gle rfl) rfl rfl rfl (gle rfl) (fun _ _ _ _ h => h) ?_
                  refine DW.qN (V' := V.one .dead) rfl rfl rfl rfl (gle rfl) rfl rfl rfl (gle rfl) (fun _ _ _ _ h => h) ?_
                  refine DW.mN rfl rfl rfl rfl (gle rfl) rfl rfl rfl (gle rfl) ?_
                  refine DW.qN (V' := V.one .dead) rfl rfl rfl rfl (gle rfl) rfl rfl rfl (gle rfl) (fun _ _ _ _ h => h) ?_
                  refine DW.q rfl (ok_pickF (v := V.one (.sc _)) rfl rfl rfl) rfl rfl (gle rfl) (fun _ _ _ _ h => h) ?_
                  refine DW.stores ?_
                  refine SV.zend ?_
                  refine SV.tn ?_
                  refine SV.cond rfl (fun hc5 => ?_) (fun hc5 => ?_)
                  · skip   -- c5.T
                    cases hc5
                  · skip   -- c5.F
                    refine SV.region ?_
                    refine SV.op (OpL.ok (nb := 0) (ok_move (v := V.one (.hd 2)) (.inl rfl) rfl) rfl (gle rfl)) rfl ?_
                    refine SV.op (OpL.ok (nb := 0) (ok_move (v := V.one (.ro _)) (.inl rfl) rfl) rfl (gle rfl)) rfl ?_
                    refine SV.op (OpL.ok (nb := 0) (ok_move (v := V.one (.sc _)) (.inl rfl) rfl) rfl (gle rfl)) rfl ?_
                    refine SV.op (OpL.ok (nb := 0) (ok_index (n := 3) (lf := .ro _) rfl elt_impl_Row.und sz_impl_Row rfl rfl rfl (map_at hr)) rfl (gle rfl)) rfl ?_
                    refine SV.op (OpL.ok (nb := 0) (ok_load_rp (ag := true) (m := 3) (ys := [.sc _, .sc _, .sc _]) rfl rfl agg_impl_Row sz_impl_Row (fun h => by cases h) (gle rfl) rfl) rfl (gle rfl)) rfl ?_
                    refine SV.op (OpMk.ok (ok_lit1 (kk := 4) elt_impl_Row (ag := true) (xs := [.sc _, .sc _, .sc _]) rfl rfl rfl rfl (fun h => by cases h) (outs_c rfl (outs_c rfl (outs_c rfl outs_n))) (by simp [two]) rfl (gle rfl))) rfl ?_
                    refine SV.op (OpMk.ok (ok_append (kk := 5) elt_impl_Row (ls := .hd 2) (lx := .hd 4) rfl rfl rfl rfl rfl rfl (by intro i h1 h2; first | (cases h1; done) | (cases h1; cases h2)) (by first | omega | (simp only [List.length_map]; omega) | (simp; done) | (simp; omega)) rfl (gle rfl))) rfl ?_
                    refine SV.op (OpL.ok (nb := 0) (ok_move (v := V.one (.hd 5)) (.inr rfl) rfl) rfl (gle rfl)) rfl ?_
                    refine SV.nil ?_
                    refine SV.tn ?_
                    refine SV.seq' ?_
                    refine SV.region ?_
                    refine SV.op (OpL.ok (nb := 0) (ok_move (v := V.one (.sc _)) (.inl rfl) rfl) rfl (gle rfl)) rfl ?_
                    refine SV.op (OpL.ok (nb := 0) (ok_s2 (v := .int .i64 ((s.i + 1 : Nat) : Int)) (x := .tmp 87) (x' := .const ((Value.int IntKind.i64 1))) (VScal.one rfl) (VScal.one rfl) (fun ρ h1 h2 w => by go_simp; all_goals ((try go_bits); first | with_reducible rfl | go_num | (simp; done) | (simp; omega))) rfl) rfl (gle rfl)) rfl ?_
                    refine SV.op (OpL.ok (nb := 0) (ok_move (v := V.one (.sc _)) (.inr rfl) rfl) rfl (gle rfl)) rfl ?_
                    refine SV.nil ?_
                    refine SV.tn ?_
                    refine SV.exit ?_
                    refine SV.te ?_
                    refine SV.bh ?_
                    refine SV.tn ?_
                    refine SV.again (fun i => [0, 1, 5, 3].getD i 0) ((Runs.step l m s)) (Runs.going_next hlm.1 hlm.2 hG hd rfl) (pins hE rfl rfl) (VS.le.mk' (le_put (le_put (le_put (le_put (le_put (le_put (le_put (le_put (le_put (le_new (le_new (le_new (le_new le_nil)))) (V.le.keep (ag := false) (xs := [.ro _]) (ys := [.ro _]) rfl rfl ⟨rfl, trivial⟩)) (V.le.keep (ag := false) (xs := [.sc _]) (ys := [.sc _]) rfl rfl ⟨rfl, trivial⟩)) (V.le.keep (ag := false) (xs := [.sc _]) (ys := [.sc _]) rfl rfl ⟨rfl, trivial⟩)) (V.le.keep (ag := false) (xs := [.sc _]) (ys := [.sc _]) rfl rfl ⟨rfl, trivial⟩)) (V.le.keep (ag := false) (xs := [.hd 0]) (ys := [.hd 0]) rfl rfl ⟨⟨rfl, (gle rfl), (gle rfl)⟩, trivial⟩)) (V.le.keep (ag := false) (xs := [.hd 1]) (ys := [.hd 1]) rfl rfl ⟨⟨rfl, (gle rfl), (gle rfl)⟩, trivial⟩)) (V.le.keep (ag := false) (xs := [.hd 5]) (ys := [.hd 2]) rfl rfl ⟨⟨rfl, (gle rfl), (gle rfl)⟩, trivial⟩)) (V.le.keep (ag := false) (xs := [.hd 3]) (ys := [.hd 3]) rfl rfl ⟨⟨rfl, (gle rfl), (gle rfl)⟩, trivial⟩)) (V.le.keep (ag := false) (xs := [.sc _]) (ys := [.sc _]) rfl rfl ⟨(by first | rfl | (show Leaf.sc _ = Leaf.sc _; refine congrArg Leaf.sc ?_; first | rfl | go_num | (rw [hst]; first | done | rfl; first | done | rfl | go_num | (simp; done) | (simp; omega)) | (simp [cntAll]; done)) | (simp [cntAll]; done) | (simp; omega)), trivial⟩)) trivial ⟨.inr ⟨_, _, rfl, ?ob4_3, (gle rfl)⟩, ⟨.inr ⟨_, _, rfl, ?ob4_2, (gle rfl)⟩, ⟨.inr ⟨_, _, rfl, ?ob4_1, (gle rfl)⟩, ⟨.inr ⟨_, _, rfl, ?ob4_0, (gle rfl)⟩, trivial⟩⟩⟩⟩ (new_ob (new_ob (new_ob (new_ob nil_ob)))) (fun i j hi hj e => inj_list (l := [0, 1, 5, 3]) (by decide) i j hi hj e))
                    case ob4_0 =>
                      show some (T.seq _ _) = some (T.seq _ _)
                      rw [hst]; first | done | rfl | (simp only [List.map_append]; rfl) | (simp [tRun, tRow]; done)
                    case ob4_1 =>
                      show some (T.seq _ _) = some (T.seq _ _)
                      rw [hst]; first | done | rfl | (simp only [List.map_append]; rfl) | (simp [tRun, tRow]; done)
                    case ob4_2 =>
                      show some (T.seq _ _) = some (T.seq _ _)
                      rw [hst]; first | done | rfl | (simp only [List.map_append]; rfl) | (simp [tRun, tRow]; done)
                    case ob4_3 =>
                      show some (T.seq _ _) = some (T.seq _ _)
                      rw [hst]; first | done | rfl | (simp only [List.map_append]; rfl) | (simp [tRun, tRow]; done)
              · skip   -- c3.F
                have hroom : Runs.room m s r = false := by unfold Runs.room; simpa using hc3
                have hst0 : Runs.step l m s = Runs.step.flow s := Runs.step_flow (by unfold Runs.reads; rw [hr]; exact hroom)
                refine SV.skip ?_
                refine SV.tn ?_
                refine SV.seq' ?_
                refine SV.seq' ?_
                refine SV.region ?_
                refine SV.op (OpL.ok (nb := 0) (ok_move (v := V.one (.hd 2)) (.inl rfl) rfl) rfl (gle rfl)) rfl ?_
                refine SV.op (OpL.ok (nb := 0) (ok_len (lf := .hd 2) rfl elt_impl_Row.und rfl rfl) rfl (gle rfl)) rfl ?_
                refine SV.op (OpL.ok (nb := 0) (ok_s2 (x := .tmp 90) (x' := .const ((Value.int IntKind.i64 0))) (VScal.one rfl) (VScal.one rfl) (fun ρ h1 h2 w => by go_simp; (try go_bits); with_reducible rfl) rfl) rfl (gle rfl)) rfl ?_
                refine SV.nil ?_
                refine SV.tn ?_
                refine SV.cond rfl (fun hc6 => ?_) (fun hc6 => ?_)
                · skip   -- c6.T
                  have h0 : s.heap.length = 0 := by first | (simpa using hc6) | (simp at hc6; omega) | (simp at hc6; rw [hc6]; rfl)
                  have hst : Runs.step l m s = ⟨s.i, s.out ++ [s.cur], [], s.next, []⟩ := by rw [hst0, Runs.flow_turn h0]; rfl
                  refine SV.seq' ?_
                  refine SV.region ?_
                  refine SV.op (OpL.ok (nb := 0) (ok_move (v := V.one (.hd 0)) (.inl rfl) rfl) rfl (gle rfl)) rfl ?_
                  refine SV.op (OpL.ok (nb := 0) (ok_move (v := V.one (.hd 1)) (.inl rfl) rfl) rfl (gle rfl)) rfl ?_
                  refine SV.op (OpL.ok (nb := 0) (ok_build (zs := [.nl _]) (ys := [.hd 1]) (qs := [(0, [.hd 1])]) (pl := fun i => ([(0, 1)] : List (Nat × Nat))[i]?) rfl zero_impl_Run ⟨rfl, ⟨3, by decide, sz_impl_Row⟩, trivial⟩ ⟨⟨rfl, false, rfl, (fun _ => rfl), rfl⟩, trivial⟩ bld_impl_Run rfl) rfl (gle rfl)) rfl ?_
                  refine SV.op (OpMk.ok (ok_lit1 (kk := 4) elt_impl_Run (ag := true) (xs := [.hd 1]) rfl rfl rfl rfl (fun h => by cases h) (outs_c rfl outs_n) (by simp [two]) rfl (gle rfl))) rfl ?_
                  refine SV.op (OpMk.ok (ok_append (kk := 5) elt_impl_Run (ls := .hd 0) (lx := .hd 4) rfl rfl rfl rfl rfl rfl (by intro i h1 h2; first | (cases h1; done) | (cases h1; cases h2)) (by first | omega | (simp only [List.length_map]; omega) | (simp; done) | (simp; omega)) rfl (gle rfl))) rfl ?_
                  refine SV.op (OpL.ok (nb := 0) (ok_move (v := V.one (.hd 5)) (.inr rfl) rfl) rfl (gle rfl)) rfl ?_
                  refine SV.nil ?_
                  refine SV.tn ?_
                  refine SV.seq' ?_
                  refine SV.region ?_
                  refine SV.op (OpMk.ok (ok_lit0 (kk := 6) elt_impl_Row rfl rfl rfl (gle rfl))) rfl ?_
                  refine SV.op (OpL.ok (nb := 0) (ok_move (v := V.one (.hd 6)) (.inr rfl) rfl) rfl (gle rfl)) rfl ?_
                  refine SV.nil ?_
                  refine SV.tn ?_
                  refine SV.seq' ?_
                  refine SV.region ?_
                  refine SV.op (OpL.ok (nb := 0) (ok_move (v := V.one (.hd 3)) (.inl rfl) rfl) rfl (gle rfl)) rfl ?_
                  refine SV.op (OpL.ok (nb := 0) (ok_move (v := V.one (.hd 3)) (.inr rfl) rfl) rfl (gle rfl)) rfl ?_
                  refine SV.nil ?_
                  refine SV.tn ?_
                  refine SV.seq' ?_
                  refine SV.region ?_
                  refine SV.op (OpMk.ok (ok_lit0 (kk := 7) elt_impl_Row rfl rfl rfl (gle rfl))) rfl ?_
                  refine SV.op (OpL.ok (nb := 0) (ok_move (v := V.one (.hd 7)) (.inr rfl) rfl) rfl (gle rfl)) rfl ?_
                  refine SV.nil ?_
                  refine SV.tn ?_
                  refine SV.exit ?_
                  refine SV.te ?_
                  refine SV.bh ?_
                  refine SV.tn ?_
                  refine SV.again (fun i => [5, 6, 3, 7].getD i 0) ((Runs.step l m s)) (Runs.going_next hlm.1 hlm.2 hG hd rfl) (pins hE rfl rfl) (VS.le.mk' (le_put (le_put (le_put (le_put (le_put (le_put (le_put (le_put (le_put (le_new (le_new (le_new (le_new le_nil)))) (V.le.keep (ag := false) (xs := [.ro _]) (ys := [.ro _]) rfl rfl ⟨rfl, trivial⟩)) (V.le.keep (ag := false) (xs := [.sc _]) (ys := [.sc _]) rfl rfl ⟨rfl, trivial⟩)) (V.le.keep (ag := false) (xs := [.sc _]) (ys := [.sc _]) rfl rfl ⟨rfl, trivial⟩)) (V.le.keep (ag := false) (xs := [.sc _]) (ys := [.sc _]) rfl rfl ⟨rfl, trivial⟩)) (V.le.keep (ag := false) (xs := [.hd 5]) (ys := [.hd 0]) rfl rfl ⟨⟨rfl, (gle rfl), (gle rfl)⟩, trivial⟩)) (V.le.keep (ag := false) (xs := [.hd 6]) (ys := [.hd 1]) rfl rfl ⟨⟨rfl, (gle rfl), (gle rfl)⟩, trivial⟩)) (V.le.keep (ag := false) (xs := [.hd 3]) (ys := [.hd 2]) rfl rfl ⟨⟨rfl, (gle rfl), (gle rfl)⟩, trivial⟩)) (V.le.keep (ag := false) (xs := [.hd 7]) (ys := [.hd 3]) rfl rfl ⟨⟨rfl, (gle rfl), (gle rfl)⟩, trivial⟩)) (V.le.keep (ag := false) (xs := [.sc _]) (ys := [.sc _]) rfl rfl ⟨(by first | rfl | (show Leaf.sc _ = Leaf.sc _; refine congrArg Leaf.sc ?_; first | rfl | go_num | (rw [hst]; first | done | rfl; first | done | rfl | go_num | (simp; done) | (simp; omega)) | (simp [cntAll]; done)) | (simp [cntAll]; done) | (simp; omega)), trivial⟩)) trivial ⟨.inr ⟨_, _, rfl, ?ob5_3, (gle rfl)⟩, ⟨.inr ⟨_, _, rfl, ?ob5_2, (gle rfl)⟩, ⟨.inr ⟨_, _, rfl, ?ob5_1, (gle rfl)⟩, ⟨.inr ⟨_, _, rfl, ?ob5_0, (gle rfl)⟩, trivial⟩⟩⟩⟩ (new_ob (new_ob (new_ob (new_ob nil_ob)))) (fun i j hi hj e => inj_list (l := [5, 6, 3, 7]) (by decide) i j hi hj e))
                  case ob5_0 =>
                    show some (T.seq _ _) = some (T.seq _ _)
                    rw [hst]; first | done | rfl | (simp only [List.map_append]; rfl) | (simp [tRun, tRow]; done)
                  case ob5_1 =>
                    show some (T.seq _ _) = some (T.seq _ _)
                    rw [hst]; first | done | rfl | (simp only [List.map_append]; rfl) | (simp [tRun, tRow]; done)
                  case ob5_2 =>
                    show some (T.seq _ _) = some (T.seq _ _)
                    rw [hst]; first | done | rfl | (simp only [List.map_append]; rfl) | (simp [tRun, tRow]; done)
                  case ob5_3 =>
                    show some (T.seq _ _) = some (T.seq _ _)
                    rw [hst]; first | done | rfl | (simp only [List.map_append]; rfl) | (simp [tRun, tRow]; done)
                · skip   -- c6.F
                  have hh : 0 < s.heap.length := by rcases Nat.eq_zero_or_pos s.heap.length with h | h; (exfalso; simp [h] at hc6); (exact h)
                  have hk : Runs.minAt s.heap s.heap.length < s.heap.length := Runs.minAt_lt hh
                  obtain ⟨e, he⟩ : ∃ e, s.heap[Runs.minAt s.heap s.heap.length]? = some e := ⟨_, List.getElem?_eq_getElem hk⟩
                  have hst : Runs.step l m s = ⟨s.i, s.out, s.cur ++ [e], s.heap.eraseIdx (Runs.minAt s.heap s.heap.length), s.next⟩ := by rw [hst0, Runs.flow_give he]; rfl
                  have hvi := vidx_s s.heap (by omega)
                  rw [idxMin_pos hh] at hvi
                  refine SV.skip ?_
                  refine SV.tn ?_
                  refine SV.seq' ?_
                  refine SV.region ?_
                  refine SV.op (OpL.ok (nb := 0) (ok_move (v := V.one (.hd 2)) (.inl rfl) rfl) rfl (gle rfl)) rfl ?_
                  refine SV.op (OpMk.ok (ok_call (ls := [(false, [.sc _])]) rfl rfl ⟨_, _, Try.func72, rfl, by decide⟩ (hvi) ⟨⟨[.hd 2], rfl, ⟨rfl, trivial⟩⟩, trivial⟩ rfl (gle rfl))) rfl ?_
                  refine SV.op (OpL.ok (nb := 0) (ok_move (v := V.one (.sc _)) (.inr rfl) rfl) rfl (gle rfl)) rfl ?_
                  refine SV.nil ?_
                  refine SV.tn ?_
                  refine SV.seq' ?_
                  refine SV.region ?_
                  refine SV.op (OpL.ok (nb := 0) (ok_move (v := V.one (.hd 1)) (.inl rfl) rfl) rfl (gle rfl)) rfl ?_
                  refine SV.op (OpL.ok (nb := 0) (ok_move (v := V.one (.hd 2)) (.inl rfl) rfl) rfl (gle rfl)) rfl ?_
                  refine SV.op (OpL.ok (nb := 0) (ok_move (v := V.one (.sc _)) (.inl rfl) rfl) rfl (gle rfl)) rfl ?_
                  refine SV.op (OpL.ok (nb := 0) (ok_index (n := 3) (lf := .hd 2) rfl elt_impl_Row.und sz_impl_Row rfl rfl rfl (map_at he)) rfl (gle rfl)) rfl ?_
                  refine SV.op (ok_load_el (p := .ep 2 _ _ _) (ag := true) (m := 3) (ys := [.sc _, .sc _, .sc _]) rfl rfl (cells_ep rfl (map_at he) rfl rfl) agg_impl_Row sz_impl_Row (fun h => by cases h) (gle rfl) rfl rfl (gle rfl)) rfl ?_
                  refine SV.op (OpMk.ok (ok_lit1 (kk := 4) elt_impl_Row (ag := true) (xs := [.sc _, .sc _, .sc _]) rfl rfl rfl rfl (fun h => by cases h) (outs_c rfl (outs_c rfl (outs_c rfl outs_n))) (by simp [two]) rfl (gle rfl))) rfl ?_
                  refine SV.op (OpMk.ok (ok_append (kk := 5) elt_impl_Row (ls := .hd 1) (lx := .hd 4) rfl rfl rfl rfl rfl rfl (by intro i h1 h2; first | (cases h1; done) | (cases h1; cases h2)) (by first | omega | (simp only [List.length_map]; omega) | (simp; done) | (simp; omega)) rfl (gle rfl))) rfl ?_
                  refine SV.op (OpL.ok (nb := 0) (ok_move (v := V.one (.hd 5)) (.inr rfl) rfl) rfl (gle rfl)) rfl ?_
                  refine SV.nil ?_
                  refine SV.tn ?_
                  refine SV.region ?_
                  refine SV.op (OpL.ok (nb := 0) (ok_move (v := V.one (.hd 2)) (.inl rfl) rfl) rfl (gle rfl)) rfl ?_
                  refine SV.op (OpL.ok (nb := 0) (ok_move (v := V.one (.sc _)) (.inl rfl) rfl) rfl (gle rfl)) rfl ?_
                  refine SV.op (OpMk.ok (ok_call (ls := [(false, [.hd 6])]) rfl rfl ⟨_, _, Try.func73, rfl, by decide⟩ (vdrop11_s s.heap (Runs.minAt s.heap s.heap.length) hk (by omega)) ⟨⟨[.hd 2], rfl, ⟨rfl, trivial⟩⟩, ⟨[.sc _], rfl, ⟨rfl, trivial⟩⟩, trivial⟩ rfl (gle rfl))) rfl ?_
                  refine SV.op (OpL.ok (nb := 0) (ok_move (v := V.one (.hd 6)) (.inr rfl) rfl) rfl (gle rfl)) rfl ?_
                  refine SV.nil ?_
                  refine SV.bn ?_
                  refine SV.tn ?_
                  refine SV.again (fun i => [0, 5, 6, 3].getD i 0) ((Runs.step l m s)) (Runs.going_next hlm.1 hlm.2 hG hd rfl) (pins hE rfl rfl) (VS.le.mk' (le_put (le_put (le_put (le_put (le_put (le_put (le_put (le_put (le_put (le_new (le_new (le_new (le_new le_nil)))) (V.le.keep (ag := false) (xs := [.ro _]) (ys := [.ro _]) rfl rfl ⟨rfl, trivial⟩)) (V.le.keep (ag := false) (xs := [.sc _]) (ys := [.sc _]) rfl rfl ⟨rfl, trivial⟩)) (V.le.keep (ag := false) (xs := [.sc _]) (ys := [.sc _]) rfl rfl ⟨rfl, trivial⟩)) (V.le.keep (ag := false) (xs := [.sc _]) (ys := [.sc _]) rfl rfl ⟨rfl, trivial⟩)) (V.le.keep (ag := false) (xs := [.hd 0]) (ys := [.hd 0]) rfl rfl ⟨⟨rfl, (gle rfl), (gle rfl)⟩, trivial⟩)) (V.le.keep (ag := false) (xs := [.hd 5]) (ys := [.hd 1]) rfl rfl ⟨⟨rfl, (gle rfl), (gle rfl)⟩, trivial⟩)) (V.le.keep (ag := false) (xs := [.hd 6]) (ys := [.hd 2]) rfl rfl ⟨⟨rfl, (gle rfl), (gle rfl)⟩, trivial⟩)) (V.le.keep (ag := false) (xs := [.hd 3]) (ys := [.hd 3]) rfl rfl ⟨⟨rfl, (gle rfl), (gle rfl)⟩, trivial⟩)) (V.le.keep (ag := false) (xs := [.sc _]) (ys := [.sc _]) rfl rfl ⟨(by first | rfl | (show Leaf.sc _ = Leaf.sc _; refine congrArg Leaf.sc ?_; first | rfl | go_num | (rw [hst]; first | done | rfl; first | done | rfl | go_num | (simp; done) | (simp; omega)) | (simp [cntAll]; done)) | (simp [cntAll]; done) | (simp; omega)), trivial⟩)) trivial ⟨.inr ⟨_, _, rfl, ?ob6_3, (gle rfl)⟩, ⟨.inr ⟨_, _, rfl, ?ob6_2, (gle rfl)⟩, ⟨.inr ⟨_, _, rfl, ?ob6_1, (gle rfl)⟩, ⟨.inr ⟨_, _, rfl, ?ob6_0, (gle rfl)⟩, trivial⟩⟩⟩⟩ (new_ob (new_ob (new_ob (new_ob nil_ob)))) (fun i j hi hj e => inj_list (l := [0, 5, 6, 3]) (by decide) i j hi hj e))
                  case ob6_0 =>
                    show some (T.seq _ _) = some (T.seq _ _)
                    rw [hst]; first | done | rfl | (simp only [List.map_append]; rfl) | (simp [tRun, tRow]; done)
                  case ob6_1 =>
                    show some (T.seq _ _) = some (T.seq _ _)
                    rw [hst]; first | done | rfl | (simp only [List.map_append]; rfl) | (simp [tRun, tRow]; done)
                  case ob6_2 =>
                    show some (T.seq _ _) = some (T.seq _ _)
                    rw [hst]; first | done | rfl | (simp only [List.map_append]; rfl) | (simp [tRun, tRow]; done)
                  case ob6_3 =>
                    show some (T.seq _ _) = some (T.seq _ _)
                    rw [hst]; first | done | rfl | (simp only [List.map_append]; rfl) | (simp [tRun, tRow]; done)
            · skip   -- g2.F
              (exfalso; first | (cases hg2; done) | (rw [hg1] at hg2; cases hg2))
          · skip   -- c2.F
            cases hc2
        · skip   -- g1.F
          have hil : ¬ s.i < l.length := by simpa using hg1
          refine SV.opY (OpL.ok (nb := 0) (ok_move (v := V.one (.hd 2)) (.inl rfl) rfl) rfl (gle rfl)) rfl rfl rfl (gle rfl) rfl rfl ?_
          refine SV.opY (OpL.ok (nb := 0) (ok_len (lf := .hd 2) rfl elt_impl_Row.und rfl rfl) rfl (gle rfl)) rfl rfl rfl (gle rfl) rfl rfl ?_
          refine SV.opY (OpL.ok (nb := 0) (ok_move (v := V.one (.hd 3)) (.inl rfl) rfl) rfl (gle rfl)) rfl rfl rfl (gle rfl) rfl rfl ?_
          refine SV.opY (OpL.ok (nb := 0) (ok_len (lf := .hd 3) rfl elt_impl_Row.und rfl rfl) rfl (gle rfl)) rfl rfl rfl (gle rfl) rfl rfl ?_
          refine SV.opY (OpL.ok (nb := 0) (ok_s2 (v := .int .i64 ((s.heap.length : Int) + (s.next.length : Int))) (x := .tmp 31) (x' := .tmp 33) (VScal.one rfl) (VScal.one rfl) (fun ρ h1 h2 w => by go_simp; (try simp only [List.length_map]); rw [IntWalk.i64_left, IntWalk.wrap64_in _ ⟨by omega, by omega⟩]) rfl) rfl (gle rfl)) rfl rfl rfl (gle rfl) rfl rfl ?_
          refine SV.opY (OpL.ok (nb := 0) (ok_s2 (x := .tmp 34) (x' := .const ((Value.int IntKind.i64 0))) (VScal.one rfl) (VScal.one rfl) (fun ρ h1 h2 w => by go_simp; (try go_bits); with_reducible rfl) rfl) rfl (gle rfl)) rfl rfl rfl (gle rfl) rfl rfl ?_
          refine SV.op (OpL.ok (nb := 0) (ok_pickF (v := V.one (.sc _)) rfl rfl rfl) rfl (gle rfl)) rfl ?_
          refine SV.nil ?_
          refine SV.tn ?_
          refine SV.cond rfl (fun hc7 => ?_) (fun hc7 => ?_)
          · skip   -- c7.T
            have hd : Runs.done l s = false := by unfold Runs.done; rw [decide_eq_false_iff_not]; simp at hc7; omega
            have hst0 : Runs.step l m s = Runs.step.flow s := Runs.step_flow (by unfold Runs.reads; rw [List.getElem?_eq_none (by omega)])
            refine SV.skip ?_
            refine SV.tn ?_
            refine SV.block ?_
            refine SV.seq' ?_
            refine SV.seq' ?_
            refine SV.draw [.q 0, .q 1, .q 2, .q 3, .q 4, .q 5, .q 7, .q 10, .q 11, .q 12, .q 13, .q 16, .m 6, .m 8, .q 9, .m 14, .q 15, .q 17, .q 18] [] (by kernel_rfl) (by kernel_rfl) ?_
            refine DW.q rfl (ok_move (v := V.one (.sc _)) (.inl rfl) rfl) rfl rfl (gle rfl) (fun _ _ _ _ h => h) ?_
            refine DW.q rfl (ok_move (v := V.one (.ro _)) (.inl rfl) rfl) rfl rfl (gle rfl) (fun _ _ _ _ h => h) ?_
            refine DW.q rfl (ok_len (lf := .ro _) rfl elt_impl_Row.und rfl rfl) rfl rfl (gle rfl) (fun _ _ _ _ h => h) ?_
            refine DW.q rfl (ok_s2 (x := .tmp 37) (x' := .tmp 39) (VScal.one rfl) (VScal.one rfl) (fun ρ h1 h2 w => by go_simp; (try go_bits); with_reducible rfl) rfl) rfl rfl (gle rfl) (fun _ _ _ _ h => h) ?_
            refine DW.q rfl (ok_move (v := V.one (.sc _)) (.inl rfl) rfl) rfl rfl (gle rfl) (fun _ _ _ _ h => h) ?_
            refine DW.split (d := 41) rfl (fun hg4 => ?_) (fun hg4 => ?_)
            · skip   -- g4.T
              (exfalso; first | (cases hg4; done) | (rw [hg1] at hg4; cases hg4))
            · skip   -- g4.F
              refine DW.qN (V' := V.one .dead) rfl rfl rfl rfl (gle rfl) rfl rfl rfl (gle rfl) (fun _ _ _ _ h => h) ?_
              refine DW.qN (V' := V.one .dead) rfl rfl rfl rfl (gle rfl) rfl rfl rfl (gle rfl) (fun _ _ _ _ h => h) ?_
              refine DW.qN (V' := V.one .dead) rfl rfl rfl rfl (gle rfl) rfl rfl rfl (gle rfl) (fun _ _ _ _ h => h) ?_
              refine DW.qN (V' := V.one .dead) rfl rfl rfl rfl (gle rfl) rfl rfl rfl (gle rfl) (fun _ _ _ _ h => h) ?_
              refine DW.qN (V' := V.one .dead) rfl rfl rfl rfl (gle rfl) rfl rfl rfl (gle rfl) (fun _ _ _ _ h => h) ?_
              refine DW.qN (V' := V.one .dead) rfl rfl rfl rfl (gle rfl) rfl rfl rfl (gle rfl) (fun _ _ _ _ h => h) ?_
              refine DW.qN (V' := V.one .dead) rfl rfl rfl rfl (gle rfl) rfl rfl rfl (gle rfl) (fun _ _ _ _ h => h) ?_
              refine DW.mN rfl rfl rfl rfl (gle rfl) rfl rfl rfl (gle rfl) ?_
              refine DW.mN rfl rfl rfl rfl (gle rfl) rfl rfl rfl (gle rfl) ?_
              refine DW.qN (V' := V.one .dead) rfl rfl rfl rfl (gle rfl) rfl rfl rfl (gle rfl) (fun _ _ _ _ h => h) ?_
              refine DW.mN rfl rfl rfl rfl (gle rfl) rfl rfl rfl (gle rfl) ?_
              refine DW.qN (V' := V.one .dead) rfl rfl rfl rfl (gle rfl) rfl rfl rfl (gle rfl) (fun _ _ _ _ h => h) ?_
              refine DW.qN (V' := V.one .dead) rfl rfl rfl rfl (gle rfl) rfl rfl rfl (gle rfl) (fun _ _ _ _ h => h) ?_
              refine DW.q rfl (ok_pickF (v := V.one (.sc _)) rfl rfl rfl) rfl rfl (gle rfl) (fun _ _ _ _ h => h) ?_
              refine DW.stores ?_
              refine SV.zend ?_
              refine SV.tn ?_
              refine SV.cond rfl (fun hc8 => ?_) (fun hc8 => ?_)
              · skip   -- c8.T
                cases hc8
              · skip   -- c8.F
                refine SV.skip ?_
                refine SV.tn ?_
                refine SV.seq' ?_
                refine SV.seq' ?_
                refine SV.region ?_
                refine SV.op (OpL.ok (nb := 0) (ok_move (v := V.one (.hd 2)) (.inl rfl) rfl) rfl (gle rfl)) rfl ?_
                refine SV.op (OpL.ok (nb := 0) (ok_len (lf := .hd 2) rfl elt_impl_Row.und rfl rfl) rfl (gle rfl)) rfl ?_
                refine SV.op (OpL.ok (nb := 0) (ok_s2 (x := .tmp 90) (x' := .const ((Value.int IntKind.i64 0))) (VScal.one rfl) (VScal.one rfl) (fun ρ h1 h2 w => by go_simp; (try go_bits); with_reducible rfl) rfl) rfl (gle rfl)) rfl ?_
                refine SV.nil ?_
                refine SV.tn ?_
                refine SV.cond rfl (fun hc9 => ?_) (fun hc9 => ?_)
                · skip   -- c9.T
                  have h0 : s.heap.length = 0 := by first | (simpa using hc9) | (simp at hc9; omega) | (simp at hc9; rw [hc9]; rfl)
                  have hst : Runs.step l m s = ⟨s.i, s.out ++ [s.cur], [], s.next, []⟩ := by rw [hst0, Runs.flow_turn h0]; rfl
                  refine SV.seq' ?_
                  refine SV.region ?_
                  refine SV.op (OpL.ok (nb := 0) (ok_move (v := V.one (.hd 0)) (.inl rfl) rfl) rfl (gle rfl)) rfl ?_
                  refine SV.op (OpL.ok (nb := 0) (ok_move (v := V.one (.hd 1)) (.inl rfl) rfl) rfl (gle rfl)) rfl ?_
                  refine SV.op (OpL.ok (nb := 0) (ok_build (zs := [.nl _]) (ys := [.hd 1]) (qs := [(0, [.hd 1])]) (pl := fun i => ([(0, 1)] : List (Nat × Nat))[i]?) rfl zero_impl_Run ⟨rfl, ⟨3, by decide, sz_impl_Row⟩, trivial⟩ ⟨⟨rfl, false, rfl, (fun _ => rfl), rfl⟩, trivial⟩ bld_impl_Run rfl) rfl (gle rfl)) rfl ?_
                  refine SV.op (OpMk.ok (ok_lit1 (kk := 4) elt_impl_Run (ag := true) (xs := [.hd 1]) rfl rfl rfl rfl (fun h => by cases h) (outs_c rfl outs_n) (by simp [two]) rfl (gle rfl))) rfl ?_
                  refine SV.op (OpMk.ok (ok_append (kk := 5) elt_impl_Run (ls := .hd 0) (lx := .hd 4) rfl rfl rfl rfl rfl rfl (by intro i h1 h2; first | (cases h1; done) | (cases h1; cases h2)) (by first | omega | (simp only [List.length_map]; omega) | (simp; done) | (simp; omega)) rfl (gle rfl))) rfl ?_
                  refine SV.op (OpL.ok (nb := 0) (ok_move (v := V.one (.hd 5)) (.inr rfl) rfl) rfl (gle rfl)) rfl ?_
                  refine SV.nil ?_
                  refine SV.tn ?_
                  refine SV.seq' ?_
                  refine SV.region ?_
                  refine SV.op (OpMk.ok (ok_lit0 (kk := 6) elt_impl_Row rfl rfl rfl (gle rfl))) rfl ?_
                  refine SV.op (OpL.ok (nb := 0) (ok_move (v := V.one (.hd 6)) (.inr rfl) rfl) rfl (gle rfl)) rfl ?_
                  refine SV.nil ?_
                  refine SV.tn ?_
                  refine SV.seq' ?_
                  refine SV.region ?_
                  refine SV.op (OpL.ok (nb := 0) (ok_move (v := V.one (.hd 3)) (.inl rfl) rfl) rfl (gle rfl)) rfl ?_
                  refine SV.op (OpL.ok (nb := 0) (ok_move (v := V.one (.hd 3)) (.inr rfl) rfl) rfl (gle rfl)) rfl ?_
                  refine SV.nil ?_
                  refine SV.tn ?_
                  refine SV.seq' ?_
                  refine SV.region ?_
                  refine SV.op (OpMk.ok (ok_lit0 (kk := 7) elt_impl_Row rfl rfl rfl (gle rfl))) rfl ?_
                  refine SV.op (OpL.ok (nb := 0) (ok_move (v := V.one (.hd 7)) (.inr rfl) rfl) rfl (gle rfl)) rfl ?_
                  refine SV.nil ?_
                  refine SV.tn ?_
                  refine SV.exit ?_
                  refine SV.te ?_
                  refine SV.bh ?_
                  refine SV.tn ?_
                  refine SV.again (fun i => [5, 6, 3, 7].getD i 0) ((Runs.step l m s)) (Runs.going_next hlm.1 hlm.2 hG hd rfl) (pins hE rfl rfl) (VS.le.mk' (le_put (le_put (le_put (le_put (le_put (le_put (le_put (le_put (le_put (le_new (le_new (le_new (le_new le_nil)))) (V.le.keep (ag := false) (xs := [.ro _]) (ys := [.ro _]) rfl rfl ⟨rfl, trivial⟩)) (V.le.keep (ag := false) (xs := [.sc _]) (ys := [.sc _]) rfl rfl ⟨rfl, trivial⟩)) (V.le.keep (ag := false) (xs := [.sc _]) (ys := [.sc _]) rfl rfl ⟨rfl, trivial⟩)) (V.le.keep (ag := false) (xs := [.sc _]) (ys := [.sc _]) rfl rfl ⟨rfl, trivial⟩)) (V.le.keep (ag := false) (xs := [.hd 5]) (ys := [.hd 0]) rfl rfl ⟨⟨rfl, (gle rfl), (gle rfl)⟩, trivial⟩)) (V.le.keep (ag := false) (xs := [.hd 6]) (ys := [.hd 1]) rfl rfl ⟨⟨rfl, (gle rfl), (gle rfl)⟩, trivial⟩)) (V.le.keep (ag := false) (xs := [.hd 3]) (ys := [.hd 2]) rfl rfl ⟨⟨rfl, (gle rfl), (gle rfl)⟩, trivial⟩)) (V.le.keep (ag := false) (xs := [.hd 7]) (ys := [.hd 3]) rfl rfl ⟨⟨rfl, (gle rfl), (gle rfl)⟩, trivial⟩)) (V.le.keep (ag := false) (xs := [.sc _]) (ys := [.sc _]) rfl rfl ⟨(by first | rfl | (show Leaf.sc _ = Leaf.sc _; refine congrArg Leaf.sc ?_; first | rfl | go_num | (rw [hst]; first | done | rfl; first | done | rfl | go_num | (simp; done) | (simp; omega)) | (simp [cntAll]; done)) | (simp [cntAll]; done) | (simp; omega)), trivial⟩)) trivial ⟨.inr ⟨_, _, rfl, ?ob7_3, (gle rfl)⟩, ⟨.inr ⟨_, _, rfl, ?ob7_2, (gle rfl)⟩, ⟨.inr ⟨_, _, rfl, ?ob7_1, (gle rfl)⟩, ⟨.inr ⟨_, _, rfl, ?ob7_0, (gle rfl)⟩, trivial⟩⟩⟩⟩ (new_ob (new_ob (new_ob (new_ob nil_ob)))) (fun i j hi hj e => inj_list (l := [5, 6, 3, 7]) (by decide) i j hi hj e))
                  case ob7_0 =>
                    show some (T.seq _ _) = some (T.seq _ _)
                    rw [hst]; first | done | rfl | (simp only [List.map_append]; rfl) | (simp [tRun, tRow]; done)
                  case ob7_1 =>
                    show some (T.seq _ _) = some (T.seq _ _)
                    rw [hst]; first | done | rfl | (simp only [List.map_append]; rfl) | (simp [tRun, tRow]; done)
                  case ob7_2 =>
                    show some (T.seq _ _) = some (T.seq _ _)
                    rw [hst]; first | done | rfl | (simp only [List.map_append]; rfl) | (simp [tRun, tRow]; done)
                  case ob7_3 =>
                    show some (T.seq _ _) = some (T.seq _ _)
                    rw [hst]; first | done | rfl | (simp only [List.map_append]; rfl) | (simp [tRun, tRow]; done)
                · skip   -- c9.F
                  have hh : 0 < s.heap.length := by rcases Nat.eq_zero_or_pos s.heap.length with h | h; (exfalso; simp [h] at hc9); (exact h)
                  have hk : Runs.minAt s.heap s.heap.length < s.heap.length := Runs.minAt_lt hh
                  obtain ⟨e, he⟩ : ∃ e, s.heap[Runs.minAt s.heap s.heap.length]? = some e := ⟨_, List.getElem?_eq_getElem hk⟩
                  have hst : Runs.step l m s = ⟨s.i, s.out, s.cur ++ [e], s.heap.eraseIdx (Runs.minAt s.heap s.heap.length), s.next⟩ := by rw [hst0, Runs.flow_give he]; rfl
                  have hvi := vidx_s s.heap (by omega)
                  rw [idxMin_pos hh] at hvi
                  refine SV.skip ?_
                  refine SV.tn ?_
                  refine SV.seq' ?_
                  refine SV.region ?_
                  refine SV.op (OpL.ok (nb := 0) (ok_move (v := V.one (.hd 2)) (.inl rfl) rfl) rfl (gle rfl)) rfl ?_
                  refine SV.op (OpMk.ok (ok_call (ls := [(false, [.sc _])]) rfl rfl ⟨_, _, Try.func72, rfl, by decide⟩ (hvi) ⟨⟨[.hd 2], rfl, ⟨rfl, trivial⟩⟩, trivial⟩ rfl (gle rfl))) rfl ?_
                  refine SV.op (OpL.ok (nb := 0) (ok_move (v := V.one (.sc _)) (.inr rfl) rfl) rfl (gle rfl)) rfl ?_
                  refine SV.nil ?_
                  refine SV.tn ?_
                  refine SV.seq' ?_
                  refine SV.region ?_
                  refine SV.op (OpL.ok (nb := 0) (ok_move (v := V.one (.hd 1)) (.inl rfl) rfl) rfl (gle rfl)) rfl ?_
                  refine SV.op (OpL.ok (nb := 0) (ok_move (v := V.one (.hd 2)) (.inl rfl) rfl) rfl (gle rfl)) rfl ?_
                  refine SV.op (OpL.ok (nb := 0) (ok_move (v := V.one (.sc _)) (.inl rfl) rfl) rfl (gle rfl)) rfl ?_
                  refine SV.op (OpL.ok (nb := 0) (ok_index (n := 3) (lf := .hd 2) rfl elt_impl_Row.und sz_impl_Row rfl rfl rfl (map_at he)) rfl (gle rfl)) rfl ?_
                  refine SV.op (ok_load_el (p := .ep 2 _ _ _) (ag := true) (m := 3) (ys := [.sc _, .sc _, .sc _]) rfl rfl (cells_ep rfl (map_at he) rfl rfl) agg_impl_Row sz_impl_Row (fun h => by cases h) (gle rfl) rfl rfl (gle rfl)) rfl ?_
                  refine SV.op (OpMk.ok (ok_lit1 (kk := 4) elt_impl_Row (ag := true) (xs := [.sc _, .sc _, .sc _]) rfl rfl rfl rfl (fun h => by cases h) (outs_c rfl (outs_c rfl (outs_c rfl outs_n))) (by simp [two]) rfl (gle rfl))) rfl ?_
                  refine SV.op (OpMk.ok (ok_append (kk := 5) elt_impl_Row (ls := .hd 1) (lx := .hd 4) rfl rfl rfl rfl rfl rfl (by intro i h1 h2; first | (cases h1; done) | (cases h1; cases h2)) (by first | omega | (simp only [List.length_map]; omega) | (simp; done) | (simp; omega)) rfl (gle rfl))) rfl ?_
                  refine SV.op (OpL.ok (nb := 0) (ok_move (v := V.one (.hd 5)) (.inr rfl) rfl) rfl (gle rfl)) rfl ?_
                  refine SV.nil ?_
                  refine SV.tn ?_
                  refine SV.region ?_
                  refine SV.op (OpL.ok (nb := 0) (ok_move (v := V.one (.hd 2)) (.inl rfl) rfl) rfl (gle rfl)) rfl ?_
                  refine SV.op (OpL.ok (nb := 0) (ok_move (v := V.one (.sc _)) (.inl rfl) rfl) rfl (gle rfl)) rfl ?_
                  refine SV.op (OpMk.ok (ok_call (ls := [(false, [.hd 6])]) rfl rfl ⟨_, _, Try.func73, rfl, by decide⟩ (vdrop11_s s.heap (Runs.minAt s.heap s.heap.length) hk (by omega)) ⟨⟨[.hd 2], rfl, ⟨rfl, trivial⟩⟩, ⟨[.sc _], rfl, ⟨rfl, trivial⟩⟩, trivial⟩ rfl (gle rfl))) rfl ?_
                  refine SV.op (OpL.ok (nb := 0) (ok_move (v := V.one (.hd 6)) (.inr rfl) rfl) rfl (gle rfl)) rfl ?_
                  refine SV.nil ?_
                  refine SV.bn ?_
                  refine SV.tn ?_
                  refine SV.again (fun i => [0, 5, 6, 3].getD i 0) ((Runs.step l m s)) (Runs.going_next hlm.1 hlm.2 hG hd rfl) (pins hE rfl rfl) (VS.le.mk' (le_put (le_put (le_put (le_put (le_put (le_put (le_put (le_put (le_put (le_new (le_new (le_new (le_new le_nil)))) (V.le.keep (ag := false) (xs := [.ro _]) (ys := [.ro _]) rfl rfl ⟨rfl, trivial⟩)) (V.le.keep (ag := false) (xs := [.sc _]) (ys := [.sc _]) rfl rfl ⟨rfl, trivial⟩)) (V.le.keep (ag := false) (xs := [.sc _]) (ys := [.sc _]) rfl rfl ⟨rfl, trivial⟩)) (V.le.keep (ag := false) (xs := [.sc _]) (ys := [.sc _]) rfl rfl ⟨rfl, trivial⟩)) (V.le.keep (ag := false) (xs := [.hd 0]) (ys := [.hd 0]) rfl rfl ⟨⟨rfl, (gle rfl), (gle rfl)⟩, trivial⟩)) (V.le.keep (ag := false) (xs := [.hd 5]) (ys := [.hd 1]) rfl rfl ⟨⟨rfl, (gle rfl), (gle rfl)⟩, trivial⟩)) (V.le.keep (ag := false) (xs := [.hd 6]) (ys := [.hd 2]) rfl rfl ⟨⟨rfl, (gle rfl), (gle rfl)⟩, trivial⟩)) (V.le.keep (ag := false) (xs := [.hd 3]) (ys := [.hd 3]) rfl rfl ⟨⟨rfl, (gle rfl), (gle rfl)⟩, trivial⟩)) (V.le.keep (ag := false) (xs := [.sc _]) (ys := [.sc _]) rfl rfl ⟨(by first | rfl | (show Leaf.sc _ = Leaf.sc _; refine congrArg Leaf.sc ?_; first | rfl | go_num | (rw [hst]; first | done | rfl; first | done | rfl | go_num | (simp; done) | (simp; omega)) | (simp [cntAll]; done)) | (simp [cntAll]; done) | (simp; omega)), trivial⟩)) trivial ⟨.inr ⟨_, _, rfl, ?ob8_3, (gle rfl)⟩, ⟨.inr ⟨_, _, rfl, ?ob8_2, (gle rfl)⟩, ⟨.inr ⟨_, _, rfl, ?ob8_1, (gle rfl)⟩, ⟨.inr ⟨_, _, rfl, ?ob8_0, (gle rfl)⟩, trivial⟩⟩⟩⟩ (new_ob (new_ob (new_ob (new_ob nil_ob)))) (fun i j hi hj e => inj_list (l := [0, 5, 6, 3]) (by decide) i j hi hj e))
                  case ob8_0 =>
                    show some (T.seq _ _) = some (T.seq _ _)
                    rw [hst]; first | done | rfl | (simp only [List.map_append]; rfl) | (simp [tRun, tRow]; done)
                  case ob8_1 =>
                    show some (T.seq _ _) = some (T.seq _ _)
                    rw [hst]; first | done | rfl | (simp only [List.map_append]; rfl) | (simp [tRun, tRow]; done)
                  case ob8_2 =>
                    show some (T.seq _ _) = some (T.seq _ _)
                    rw [hst]; first | done | rfl | (simp only [List.map_append]; rfl) | (simp [tRun, tRow]; done)
                  case ob8_3 =>
                    show some (T.seq _ _) = some (T.seq _ _)
                    rw [hst]; first | done | rfl | (simp only [List.map_append]; rfl) | (simp [tRun, tRow]; done)
          · skip   -- c7.F
            have hd : Runs.done l s = true := by unfold Runs.done; rw [decide_eq_true_eq]; simp at hc7; omega
            have hb0 := Runs.going_end hcan hG hd
            refine SV.exit ?_
            refine SV.te ?_
            refine SV.te ?_
            refine SV.bh ?_
            refine SV.tn ?_
            refine SV.seq' ?_
            refine SV.seq' ?_
            refine SV.region ?_
            refine SV.op (OpL.ok (nb := 0) (ok_move (v := V.one (.hd 1)) (.inl rfl) rfl) rfl (gle rfl)) rfl ?_
            refine SV.op (OpL.ok (nb := 0) (ok_len (lf := .hd 1) rfl elt_impl_Row.und rfl rfl) rfl (gle rfl)) rfl ?_
            refine SV.op (OpL.ok (nb := 0) (ok_s2 (x := .tmp 113) (x' := .const ((Value.int IntKind.i64 0))) (VScal.one rfl) (VScal.one rfl) (fun ρ h1 h2 w => by go_simp; (try go_bits); with_reducible rfl) rfl) rfl (gle rfl)) rfl ?_
            refine SV.nil ?_
            refine SV.tn ?_
            refine SV.cond rfl (fun hc10 => ?_) (fun hc10 => ?_)
            · skip   -- c10.T
              have hcl : s.cur.length ≠ 0 := by intro h; simp [h] at hc10
              have hb : Runs.build l m = s.out ++ [s.cur] := by rw [hb0]; unfold Runs.fin; rw [if_neg hcl]
              refine SV.region ?_
              refine SV.op (OpL.ok (nb := 0) (ok_move (v := V.one (.hd 0)) (.inl rfl) rfl) rfl (gle rfl)) rfl ?_
              refine SV.op (OpL.ok (nb := 0) (ok_move (v := V.one (.hd 1)) (.inl rfl) rfl) rfl (gle rfl)) rfl ?_
              refine SV.op (OpL.ok (nb := 0) (ok_build (zs := [.nl _]) (ys := [.hd 1]) (qs := [(0, [.hd 1])]) (pl := fun i => ([(0, 1)] : List (Nat × Nat))[i]?) rfl zero_impl_Run ⟨rfl, ⟨3, by decide, sz_impl_Row⟩, trivial⟩ ⟨⟨rfl, false, rfl, (fun _ => rfl), rfl⟩, trivial⟩ bld_impl_Run rfl) rfl (gle rfl)) rfl ?_
              refine SV.op (OpMk.ok (ok_lit1 (kk := 4) elt_impl_Run (ag := true) (xs := [.hd 1]) rfl rfl rfl rfl (fun h => by cases h) (outs_c rfl outs_n) (by simp [two]) rfl (gle rfl))) rfl ?_
              refine SV.op (OpMk.ok (ok_append (kk := 5) elt_impl_Run (ls := .hd 0) (lx := .hd 4) rfl rfl rfl rfl rfl rfl (by intro i h1 h2; first | (cases h1; done) | (cases h1; cases h2)) (by first | omega | (simp only [List.length_map]; omega) | (simp; done) | (simp; omega)) rfl (gle rfl))) rfl ?_
              refine SV.op (OpL.ok (nb := 0) (ok_move (v := V.one (.hd 5)) (.inr rfl) rfl) rfl (gle rfl)) rfl ?_
              refine SV.nil ?_
              refine SV.tn ?_
              refine SV.seq' ?_
              refine SV.region ?_
              refine SV.op (OpL.ok (nb := 0) (ok_move (v := V.one (.hd 5)) (.inl rfl) rfl) rfl (gle rfl)) rfl ?_
              refine SV.op (OpL.ok (nb := 0) (ok_move (v := V.one (.hd 5)) (.inr rfl) rfl) rfl (gle rfl)) rfl ?_
              refine SV.op (OpL.ok (nb := 0) (ok_move (v := V.one (.sc _)) (.inr rfl) rfl) rfl (gle rfl)) rfl ?_
              refine SV.nil ?_
              refine SV.tn ?_
              refine SV.ret ?_
              apply SV.done (hf := Try.results59) (ht := rfl) (he := .inl rfl)
              case hr => exact (ResAll.cons (ResOk.tmp (ag := false) (xs := [.hd 5]) rfl) (ResAll.cons (ResOk.tmp (ag := false) (xs := [.sc _]) rfl) ResAll.nil'))
              case h2 => simp [two]
              refine ⟨rfl, ⟨?_, trivial⟩, ⟨rfl, ⟨?_, trivial⟩, trivial⟩⟩ <;> first | rfl | (rw [hb]; rfl) | ((show some (T.seq _ _) = some (T.seq _ _); refine congrArg (fun z => some (T.seq _ z)) ?_; rw [hb]; first | done | rfl | (simp [tRun]; done))) | ((show some (T.lit (Value.bool _)) = some (T.lit (Value.bool _)); refine congrArg (fun z => some (T.lit (Value.bool z))) ?_; rw [hno])) | ((show some (T.lit (Value.bool _)) = some (T.lit (Value.bool _)); refine congrArg (fun z => some (T.lit (Value.bool z))) ?_; rw [hcan]))
            · skip   -- c10.F
              have hcl : s.cur.length = 0 := by first | (simpa using hc10) | (simp at hc10; omega) | (simp at hc10; rw [hc10]; rfl)
              have hb : Runs.build l m = s.out := by rw [hb0]; unfold Runs.fin; rw [if_pos hcl]
              refine SV.skip ?_
              refine SV.tn ?_
              refine SV.seq' ?_
              refine SV.region ?_
              refine SV.op (OpL.ok (nb := 0) (ok_move (v := V.one (.hd 0)) (.inl rfl) rfl) rfl (gle rfl)) rfl ?_
              refine SV.op (OpL.ok (nb := 0) (ok_move (v := V.one (.hd 0)) (.inr rfl) rfl) rfl (gle rfl)) rfl ?_
              refine SV.op (OpL.ok (nb := 0) (ok_move (v := V.one (.sc _)) (.inr rfl) rfl) rfl (gle rfl)) rfl ?_
              refine SV.nil ?_
              refine SV.tn ?_
              refine SV.ret ?_
              apply SV.done (hf := Try.results59) (ht := rfl) (he := .inl rfl)
              case hr => exact (ResAll.cons (ResOk.tmp (ag := false) (xs := [.hd 0]) rfl) (ResAll.cons (ResOk.tmp (ag := false) (xs := [.sc _]) rfl) ResAll.nil'))
              case h2 => simp [two]
              refine ⟨rfl, ⟨?_, trivial⟩, ⟨rfl, ⟨?_, trivial⟩, trivial⟩⟩ <;> first | rfl | (rw [hb]; rfl) | ((show some (T.seq _ _) = some (T.seq _ _); refine congrArg (fun z => some (T.seq _ z)) ?_; rw [hb]; first | done | rfl | (simp [tRun]; done))) | ((show some (T.lit (Value.bool _)) = some (T.lit (Value.bool _)); refine congrArg (fun z => some (T.lit (Value.bool z))) ?_; rw [hno])) | ((show some (T.lit (Value.bool _)) = some (T.lit (Value.bool _)); refine congrArg (fun z => some (T.lit (Value.bool z))) ?_; rw [hcan]))
end Go.Proofs.Ytfionajnoaednaa
/- The reference's AreValidRuns, FlattenRuns: told by trees. -/
namespace Go.Proofs.Ytfionajnoaednaa
open Go Go.RowKit V
set_option linter.unusedVariables false
theorem okRuns_all {X : List (List R)} (h : ∀ u p, u < X.length → X[u]? = some p → Runs.okRun p = true) : Runs.okRuns X = true := by
  unfold Runs.okRuns
  rw [List.all_eq_true]
  intro p hp
  obtain ⟨u, hu, rfl⟩ := List.mem_iff_getElem.1 hp
  exact h u _ hu (List.getElem?_eq_getElem hu)
theorem okRuns_no {X : List (List R)} {u : Nat} {p : List R} (h : X[u]? = some p) (hp : Runs.okRun p = false) : Runs.okRuns X = false := by
  unfold Runs.okRuns
  rw [List.all_eq_false]
  exact ⟨p, List.mem_of_getElem? h, by rw [hp]; decide⟩
theorem okRun_eq (p : List R) : Runs.okRun p = (decide (0 < p.length) && (R.asc p && okRows p)) := rfl
set_option maxRecDepth 100000 in
set_option maxHeartbeats 2000000 in
theorem vokruns_s (X : List (List R)) (hW : ∀ p ∈ X, ∀ r ∈ p, r.wf) (hp : ∀ p ∈ X, p.length ≤ 1000000000) (hX : X.length ≤ 1000000000) : VC Try.prog 49 [(false, [.seq 63 ((X).map tRun)])] false [(false, [.lit (.bool (Runs.okRuns X))])] := by
  refine VC.enter Try.func49 rfl Try.ntmps49 (gle rfl) fun E hE => ?_
  refine SV.seq' ?_
  refine SV.region ?_
  refine SV.op (OpL.ok (nb := 0) (ok_move (v := V.one (.sc _)) (.inr rfl) rfl) rfl (gle rfl)) rfl ?_
  refine SV.nil ?_
  refine SV.tn ?_
  refine SV.seq' ?_
  refine SV.seq' ?_
  refine SV.region ?_
  refine SV.op (OpL.ok (nb := 0) (ok_move (v := V.one (.sc _)) (.inr rfl) rfl) rfl (gle rfl)) rfl ?_
  refine SV.nil ?_
  refine SV.tn ?_
  refine SV.block ?_
  refine SV.loopF (X := Nat) (fun (σ : VS) t => (((VS.nil.put 0 (σ.tm 0)).put 2 (σ.tm 2)).put 3 (V.flat false [.sc (.int .i64 ((t : Int)))]))) (fun t => t ≤ X.length ∧ ∀ u p, u < t → X[u]? = some p → Runs.okRun p = true) (fun t => X.length - t) ?_ ?_
  · skip
    refine SV.again (fun i => [].getD i 0) 0 (⟨Nat.zero_le _, fun u p h => absurd h (Nat.not_lt_zero u)⟩) (pins hE rfl rfl) (VS.le.mk' (le_put (le_put (le_put le_nil (V.le.keep (ag := false) (xs := [.ro _]) (ys := [.ro _]) rfl rfl ⟨rfl, trivial⟩)) (V.le.keep (ag := false) (xs := [.sc _]) (ys := [.sc _]) rfl rfl ⟨rfl, trivial⟩)) (V.le.keep (ag := false) (xs := [.sc _]) (ys := [.sc _]) rfl rfl ⟨(by first | rfl | (show Leaf.sc _ = Leaf.sc _; refine congrArg Leaf.sc ?_; first | rfl | go_num | (simp [cntAll]; done)) | (simp [cntAll]; done) | (simp; omega)), trivial⟩)) trivial trivial nil_ob (fun i j hi hj e => absurd hi (Nat.not_lt_zero i)))
  · rintro t ⟨ht, hb⟩
    refine SV.seq' ?_
    refine SV.seq' ?_
    refine SV.region ?_
    refine SV.op (OpL.ok (nb := 0) (ok_move (v := V.one (.sc _)) (.inl rfl) rfl) rfl (gle rfl)) rfl ?_
    refine SV.op (OpL.ok (nb := 0) (ok_move (v := V.one (.ro _)) (.inl rfl) rfl) rfl (gle rfl)) rfl ?_
    refine SV.op (OpL.ok (nb := 0) (ok_len (lf := .ro _) rfl elt_impl_Run.und rfl rfl) rfl (gle rfl)) rfl ?_
    refine SV.op (OpL.ok (nb := 0) (ok_s2 (x := .tmp 4) (x' := .tmp 6) (VScal.one rfl) (VScal.one rfl) (fun ρ h1 h2 w => by go_simp; (try go_bits); with_reducible rfl) rfl) rfl (gle rfl)) rfl ?_
    refine SV.nil ?_
    refine SV.tn ?_
    refine SV.cond rfl (fun hc0 => ?_) (fun hc0 => ?_)
    · skip   -- c0.T
      have htl : t < X.length := by simpa using hc0
      obtain ⟨p, hx⟩ : ∃ p, X[t]? = some p := ⟨_, List.getElem?_eq_getElem htl⟩
      refine SV.skip ?_
      refine SV.tn ?_
      refine SV.seq' ?_
      refine SV.block ?_
      refine SV.seq' ?_
      refine SV.region ?_
      refine SV.op (OpL.ok (nb := 0) (ok_move (v := V.one (.ro _)) (.inl rfl) rfl) rfl (gle rfl)) rfl ?_
      refine SV.op (OpL.ok (nb := 0) (ok_move (v := V.one (.sc _)) (.inl rfl) rfl) rfl (gle rfl)) rfl ?_
      refine SV.op (OpL.ok (nb := 0) (ok_index (n := 1) (lf := .ro _) rfl elt_impl_Run.und sz_impl_Run rfl rfl rfl (map_at hx)) rfl (gle rfl)) rfl ?_
      refine SV.op (OpL.ok (nb := 0) (ok_field_el (p := .rp _) (off := 0) rfl rfl rfl fld_impl_Run_0) rfl (gle rfl)) rfl ?_
      refine SV.op (OpL.ok (nb := 0) (ok_load_rp (ag := false) (m := 1) (ys := [.ro _]) rfl rfl agg_s_impl_Row sz_s_impl_Row (fun _ => rfl) (gle rfl) rfl) rfl (gle rfl)) rfl ?_
      refine SV.op (OpL.ok (nb := 0) (ok_len (lf := .ro _) rfl elt_impl_Row.und rfl rfl) rfl (gle rfl)) rfl ?_
      refine SV.op (OpL.ok (nb := 0) (ok_s2 (x := .tmp 15) (x' := .const ((Value.int IntKind.i64 0))) (VScal.one rfl) (VScal.one rfl) (fun ρ h1 h2 w => by go_simp; (try go_bits); with_reducible rfl) rfl) rfl (gle rfl)) rfl ?_
      refine SV.op (OpL.ok (nb := 0) (ok_move (v := V.one (.sc _)) (.inl rfl) rfl) rfl (gle rfl)) rfl ?_
      refine SV.split (d := 17) rfl (fun hg0 => ?_) (fun hg0 => ?_)
      · skip   -- g0.T
        refine SV.opN rfl rfl rfl (gle rfl) rfl rfl rfl (gle rfl) ?_
        refine SV.opN rfl rfl rfl (gle rfl) rfl rfl rfl (gle rfl) ?_
        refine SV.opN rfl rfl rfl (gle rfl) rfl rfl rfl (gle rfl) ?_
        refine SV.opN rfl rfl rfl (gle rfl) rfl rfl rfl (gle rfl) ?_
        refine SV.opN rfl rfl rfl (gle rfl) rfl rfl rfl (gle rfl) ?_
        refine SV.opN rfl rfl rfl (gle rfl) rfl rfl rfl (gle rfl) ?_
        refine SV.opN rfl rfl rfl (gle rfl) rfl rfl rfl (gle rfl) ?_
        refine SV.op (OpL.ok (nb := 0) (ok_pickT (v := V.one (.sc _)) rfl rfl rfl) rfl (gle rfl)) rfl ?_
        refine SV.op (OpL.ok (nb := 0) (ok_move (v := V.one (.sc _)) (.inl rfl) rfl) rfl (gle rfl)) rfl ?_
        refine SV.split (d := 26) rfl (fun hg1 => ?_) (fun hg1 => ?_)
        · skip   -- g1.T
          refine SV.opN rfl rfl rfl (gle rfl) rfl rfl rfl (gle rfl) ?_
          refine SV.opN rfl rfl rfl (gle rfl) rfl rfl rfl (gle rfl) ?_
          refine SV.opN rfl rfl rfl (gle rfl) rfl rfl rfl (gle rfl) ?_
          refine SV.opN rfl rfl rfl (gle rfl) rfl rfl rfl (gle rfl) ?_
          refine SV.opN rfl rfl rfl (gle rfl) rfl rfl rfl (gle rfl) ?_
          refine SV.opN rfl rfl rfl (gle rfl) rfl rfl rfl (gle rfl) ?_
          refine SV.opN rfl rfl rfl (gle rfl) rfl rfl rfl (gle rfl) ?_
          refine SV.op (OpL.ok (nb := 0) (ok_pickT (v := V.one (.sc _)) rfl rfl rfl) rfl (gle rfl)) rfl ?_
          refine SV.nil ?_
          refine SV.tn ?_
          refine SV.cond rfl (fun hc1 => ?_) (fun hc1 => ?_)
          · skip   -- c1.T
            have hbad : Runs.okRun p = false := by
              rw [Bool.eq_false_iff]
              intro h
              rw [okRun_eq] at h
              simp only [Bool.and_eq_true, decide_eq_true_eq] at h
              obtain ⟨h1, h2, h3⟩ := h
              simp at hg0; first | omega | (simp [hg0] at h1; done)
            have hno : Runs.okRuns X = false := okRuns_no hx hbad
            refine SV.seq' ?_
            refine SV.region ?_
            refine SV.op (OpL.ok (nb := 0) (ok_move (v := V.one (.sc _)) (.inr rfl) rfl) rfl (gle rfl)) rfl ?_
            refine SV.nil ?_
            refine SV.tn ?_
            refine SV.ret ?_
            refine SV.br ?_
            refine SV.tr ?_
            refine SV.tr ?_
            refine SV.br ?_
            refine SV.tr ?_
            apply SV.done (hf := Try.results49) (ht := rfl) (he := .inl rfl)
            case hr => exact (ResAll.cons (ResOk.tmp (ag := false) (xs := [.sc _]) rfl) ResAll.nil')
            case h2 => simp [two]
            refine ⟨rfl, ⟨?_, trivial⟩, trivial⟩ <;> (show some (T.lit (Value.bool _)) = some (T.lit (Value.bool _)); refine congrArg (fun z => some (T.lit (Value.bool z))) ?_; rw [hno])
          · skip   -- c1.F
            cases hc1
        · skip   -- g1.F
          (cases hg1)
      · skip   -- g0.F
        refine SV.opY (OpL.ok (nb := 0) (ok_move (v := V.one (.ro _)) (.inl rfl) rfl) rfl (gle rfl)) rfl rfl rfl (gle rfl) rfl rfl ?_
        refine SV.opY (OpL.ok (nb := 0) (ok_move (v := V.one (.sc _)) (.inl rfl) rfl) rfl (gle rfl)) rfl rfl rfl (gle rfl) rfl rfl ?_
        refine SV.opY (OpL.ok (nb := 0) (ok_index (n := 1) (lf := .ro _) rfl elt_impl_Run.und sz_impl_Run rfl rfl rfl (map_at hx)) rfl (gle rfl)) rfl rfl rfl (gle rfl) rfl rfl ?_
        refine SV.opY (OpL.ok (nb := 0) (ok_field_el (p := .rp _) (off := 0) rfl rfl rfl fld_impl_Run_0) rfl (gle rfl)) rfl rfl rfl (gle rfl) rfl rfl ?_
        refine SV.opY (OpL.ok (nb := 0) (ok_load_rp (ag := false) (m := 1) (ys := [.ro _]) rfl rfl agg_s_impl_Row sz_s_impl_Row (fun _ => rfl) (gle rfl) rfl) rfl (gle rfl)) rfl rfl rfl (gle rfl) rfl rfl ?_
        refine SV.opY (OpMk.ok (ok_call (ls := [(false, [.sc _])]) rfl rfl ⟨_, _, Try.func21, rfl, by decide⟩ (vasc_t p (hW p (List.mem_of_getElem? hx)) (hp p (List.mem_of_getElem? hx))) ⟨⟨[.ro _], rfl, ⟨rfl, trivial⟩⟩, trivial⟩ rfl (gle rfl))) rfl rfl rfl (gle rfl) rfl rfl ?_
        refine SV.opY (OpL.ok (nb := 0) (ok_s1 (x := .tmp 23) (VScal.one rfl) (fun ρ h1 w => by go_simp; (try go_bits); with_reducible rfl) rfl) rfl (gle rfl)) rfl rfl rfl (gle rfl) rfl rfl ?_
        refine SV.op (OpL.ok (nb := 0) (ok_pickF (v := V.one (.sc _)) rfl rfl rfl) rfl (gle rfl)) rfl ?_
        refine SV.op (OpL.ok (nb := 0) (ok_move (v := V.one (.sc _)) (.inl rfl) rfl) rfl (gle rfl)) rfl ?_
        refine SV.split (d := 26) rfl (fun hg2 => ?_) (fun hg2 => ?_)
        · skip   -- g2.T
          refine SV.opN rfl rfl rfl (gle rfl) rfl rfl rfl (gle rfl) ?_
          refine SV.opN rfl rfl rfl (gle rfl) rfl rfl rfl (gle rfl) ?_
          refine SV.opN rfl rfl rfl (gle rfl) rfl rfl rfl (gle rfl) ?_
          refine SV.opN rfl rfl rfl (gle rfl) rfl rfl rfl (gle rfl) ?_
          refine SV.opN rfl rfl rfl (gle rfl) rfl rfl rfl (gle rfl) ?_
          refine SV.opN rfl rfl rfl (gle rfl) rfl rfl rfl (gle rfl) ?_
          refine SV.opN rfl rfl rfl (gle rfl) rfl rfl rfl (gle rfl) ?_
          refine SV.op (OpL.ok (nb := 0) (ok_pickT (v := V.one (.sc _)) rfl rfl rfl) rfl (gle rfl)) rfl ?_
          refine SV.nil ?_
          refine SV.tn ?_
          refine SV.cond rfl (fun hc2 => ?_) (fun hc2 => ?_)
          · skip   -- c2.T
            have hbad : Runs.okRun p = false := by
              rw [Bool.eq_false_iff]
              intro h
              rw [okRun_eq] at h
              simp only [Bool.and_eq_true, decide_eq_true_eq] at h
              obtain ⟨h1, h2, h3⟩ := h
              rw [h2] at hg2; cases hg2
            have hno : Runs.okRuns X = false := okRuns_no hx hbad
            refine SV.seq' ?_
            refine SV.region ?_
            refine SV.op (OpL.ok (nb := 0) (ok_move (v := V.one (.sc _)) (.inr rfl) rfl) rfl (gle rfl)) rfl ?_
            refine SV.nil ?_
            refine SV.tn ?_
            refine SV.ret ?_
            refine SV.br ?_
            refine SV.tr ?_
            refine SV.tr ?_
            refine SV.br ?_
            refine SV.tr ?_
            apply SV.done (hf := Try.results49) (ht := rfl) (he := .inl rfl)
            case hr => exact (ResAll.cons (ResOk.tmp (ag := false) (xs := [.sc _]) rfl) ResAll.nil')
            case h2 => simp [two]
            refine ⟨rfl, ⟨?_, trivial⟩, trivial⟩ <;> (show some (T.lit (Value.bool _)) = some (T.lit (Value.bool _)); refine congrArg (fun z => some (T.lit (Value.bool z))) ?_; rw [hno])
          · skip   -- c2.F
            cases hc2
        · skip   -- g2.F
          refine SV.opY (OpL.ok (nb := 0) (ok_move (v := V.one (.ro _)) (.inl rfl) rfl) rfl (gle rfl)) rfl rfl rfl (gle rfl) rfl rfl ?_
          refine SV.opY (OpL.ok (nb := 0) (ok_move (v := V.one (.sc _)) (.inl rfl) rfl) rfl (gle rfl)) rfl rfl rfl (gle rfl) rfl rfl ?_
          refine SV.opY (OpL.ok (nb := 0) (ok_index (n := 1) (lf := .ro _) rfl elt_impl_Run.und sz_impl_Run rfl rfl rfl (map_at hx)) rfl (gle rfl)) rfl rfl rfl (gle rfl) rfl rfl ?_
          refine SV.opY (OpL.ok (nb := 0) (ok_field_el (p := .rp _) (off := 0) rfl rfl rfl fld_impl_Run_0) rfl (gle rfl)) rfl rfl rfl (gle rfl) rfl rfl ?_
          refine SV.opY (OpL.ok (nb := 0) (ok_load_rp (ag := false) (m := 1) (ys := [.ro _]) rfl rfl agg_s_impl_Row sz_s_impl_Row (fun _ => rfl) (gle rfl) rfl) rfl (gle rfl)) rfl rfl rfl (gle rfl) rfl rfl ?_
          refine SV.opY (OpMk.ok (ok_call (ls := [(false, [.sc _])]) rfl rfl ⟨_, _, Try.func69, rfl, by decide⟩ (vares_t p (hW p (List.mem_of_getElem? hx)) (hp p (List.mem_of_getElem? hx))) ⟨⟨[.ro _], rfl, ⟨rfl, trivial⟩⟩, trivial⟩ rfl (gle rfl))) rfl rfl rfl (gle rfl) rfl rfl ?_
          refine SV.opY (OpL.ok (nb := 0) (ok_s1 (x := .tmp 32) (VScal.one rfl) (fun ρ h1 w => by go_simp; (try go_bits); with_reducible rfl) rfl) rfl (gle rfl)) rfl rfl rfl (gle rfl) rfl rfl ?_
          refine SV.op (OpL.ok (nb := 0) (ok_pickF (v := V.one (.sc _)) rfl rfl rfl) rfl (gle rfl)) rfl ?_
          refine SV.nil ?_
          refine SV.tn ?_
          refine SV.cond rfl (fun hc3 => ?_) (fun hc3 => ?_)
          · skip   -- c3.T
            have hbad : Runs.okRun p = false := by
              rw [Bool.eq_false_iff]
              intro h
              rw [okRun_eq] at h
              simp only [Bool.and_eq_true, decide_eq_true_eq] at h
              obtain ⟨h1, h2, h3⟩ := h
              rw [h3] at hc3; cases hc3
            have hno : Runs.okRuns X = false := okRuns_no hx hbad
            refine SV.seq' ?_
            refine SV.region ?_
            refine SV.op (OpL.ok (nb := 0) (ok_move (v := V.one (.sc _)) (.inr rfl) rfl) rfl (gle rfl)) rfl ?_
            refine SV.nil ?_
            refine SV.tn ?_
            refine SV.ret ?_
            refine SV.br ?_
            refine SV.tr ?_
            refine SV.tr ?_
            refine SV.br ?_
            refine SV.tr ?_
            apply SV.done (hf := Try.results49) (ht := rfl) (he := .inl rfl)
            case hr => exact (ResAll.cons (ResOk.tmp (ag := false) (xs := [.sc _]) rfl) ResAll.nil')
            case h2 => simp [two]
            refine ⟨rfl, ⟨?_, trivial⟩, trivial⟩ <;> (show some (T.lit (Value.bool _)) = some (T.lit (Value.bool _)); refine congrArg (fun z => some (T.lit (Value.bool z))) ?_; rw [hno])
          · skip   -- c3.F
            have hgood : Runs.okRun p = true := by
              rw [okRun_eq]
              simp only [Bool.and_eq_true, decide_eq_true_eq]
              refine ⟨?_, by simpa using hg2, by simpa using hc3⟩
              rcases Nat.eq_zero_or_pos p.length with h | h; (exfalso; simp [h] at hg0); (exact h)
            refine SV.skip ?_
            refine SV.bn ?_
            refine SV.tn ?_
            refine SV.region ?_
            refine SV.op (OpL.ok (nb := 0) (ok_move (v := V.one (.sc _)) (.inl rfl) rfl) rfl (gle rfl)) rfl ?_
            refine SV.op (OpL.ok (nb := 0) (ok_s2 (x := .tmp 8) (x' := .const ((Value.int IntKind.i64 1))) (VScal.one rfl) (VScal.one rfl) (fun ρ h1 h2 w => by go_simp; (try go_bits); with_reducible rfl) rfl) rfl (gle rfl)) rfl ?_
            refine SV.op (OpL.ok (nb := 0) (ok_move (v := V.one (.sc _)) (.inr rfl) rfl) rfl (gle rfl)) rfl ?_
            refine SV.nil ?_
            refine SV.tn ?_
            refine SV.again (fun i => [].getD i 0) (t + 1) (⟨⟨by omega, fun u q hu hq => by rcases Nat.lt_or_ge u t with h1 | h1; (exact hb u q h1 hq); (have h2 : u = t := (by omega); subst h2; rw [hx] at hq; cases hq; exact hgood)⟩, by omega⟩) (pins hE rfl rfl) (VS.le.mk' (le_put (le_put (le_put le_nil (V.le.keep (ag := false) (xs := [.ro _]) (ys := [.ro _]) rfl rfl ⟨rfl, trivial⟩)) (V.le.keep (ag := false) (xs := [.sc _]) (ys := [.sc _]) rfl rfl ⟨rfl, trivial⟩)) (V.le.keep (ag := false) (xs := [.sc _]) (ys := [.sc _]) rfl rfl ⟨(by first | rfl | (show Leaf.sc _ = Leaf.sc _; refine congrArg Leaf.sc ?_; first | rfl | go_num | (simp [cntAll]; done)) | (simp [cntAll]; done) | (simp; omega)), trivial⟩)) trivial trivial nil_ob (fun i j hi hj e => absurd hi (Nat.not_lt_zero i)))
    · skip   -- c0.F
      have hte : ¬ t < X.length := by simpa using hc0
      have hno : Runs.okRuns X = true := okRuns_all fun u p hu hx => hb u p (by omega) hx
      refine SV.exit ?_
      refine SV.te ?_
      refine SV.te ?_
      refine SV.bh ?_
      refine SV.tn ?_
      refine SV.seq' ?_
      refine SV.region ?_
      refine SV.op (OpL.ok (nb := 0) (ok_move (v := V.one (.sc _)) (.inr rfl) rfl) rfl (gle rfl)) rfl ?_
      refine SV.nil ?_
      refine SV.tn ?_
      refine SV.ret ?_
      apply SV.done (hf := Try.results49) (ht := rfl) (he := .inl rfl)
      case hr => exact (ResAll.cons (ResOk.tmp (ag := false) (xs := [.sc _]) rfl) ResAll.nil')
      case h2 => simp [two]
      refine ⟨rfl, ⟨?_, trivial⟩, trivial⟩ <;> (show some (T.lit (Value.bool _)) = some (T.lit (Value.bool _)); refine congrArg (fun z => some (T.lit (Value.bool z))) ?_; rw [hno])
end Go.Proofs.Ytfionajnoaednaa
/- The reference's MergeRuns: told by trees. -/
namespace Go.Proofs.Ytfionajnoaednaa
open Go Go.RowKit V
set_option linter.unusedVariables false
theorem passes_le (X : List (List R)) : ∀ t, (Runs.passes X t).length ≤ X.length
  | 0 => Nat.le_refl _
  | t + 1 => by
    have h := passes_le X t
    rw [show Runs.passes X (t + 1) = Runs.pass (Runs.passes X t) from rfl, Runs.pass_len]
    omega
theorem npass_self (L : Nat) : Runs.npass L ≤ L := by
  induction L using Nat.strongRecOn with
  | _ L ih =>
    rcases Nat.lt_or_ge 1 L with h | h
    · have := ih ((L + 1) / 2) (by omega)
      rw [Runs.npass_gt h]
      omega
    · rw [Runs.npass_le h]
      exact Nat.zero_le _
def mrows (X : List (List R)) : List R := if Runs.okRuns X = true then Runs.allIn X else []
def mcount (X : List (List R)) : Nat := if Runs.okRuns X = true then Runs.npass X.length else 0
theorem mrows_end {X : List (List R)} {t : Nat} (ho : Runs.okRuns X = true) (h : Runs.npass X.length = t + Runs.npass (Runs.passes X t).length) (h1 : (Runs.passes X t).length ≤ 1) : mrows X = (Runs.passes X t).flatten ∧ mcount X = t := by
  have h2 := Runs.npass_done h h1
  unfold mrows mcount Runs.allIn
  rw [if_pos ho, if_pos ho, h2]
  exact ⟨rfl, rfl⟩
theorem one_flat {X : List (List R)} {p : List R} (h : X[0]? = some p) (h1 : X.length ≤ 1) : X.flatten = p := by
  match X, h, h1 with
  | [q], h, _ => cases h; simp
  | a :: b :: Y, _, h1 => simp at h1
set_option maxRecDepth 100000 in
set_option maxHeartbeats 2000000 in
theorem vmr_s (X : List (List R)) (hW : ∀ p ∈ X, ∀ r ∈ p, r.wf) (hp : ∀ p ∈ X, p.length ≤ 1000000000) (hX : X.length ≤ 1000000000) (hF : X.flatten.length ≤ 1000000000) : VC Try.prog 14 [(false, [.seq 63 ((X).map tRun)])] true [(false, [.seq 59 ((mrows X).map tRow)]), (false, [.lit (.int .i64 (((mcount X : Nat) : Int)))]), (false, [.lit (.bool (Runs.okRuns X))])] := by
  refine VC.enter Try.func14 rfl Try.ntmps14 (gle rfl) fun E hE => ?_
  refine SV.seq' ?_
  refine SV.region ?_
  refine SV.op (OpL.ok (nb := 0) (ok_move (v := V.one (.sc _)) (.inr rfl) rfl) rfl (gle rfl)) rfl ?_
  refine SV.op (OpL.ok (nb := 0) (ok_move (v := V.one (.sc _)) (.inr rfl) rfl) rfl (gle rfl)) rfl ?_
  refine SV.op (OpL.ok (nb := 0) (ok_move (v := V.one (.sc _)) (.inr rfl) rfl) rfl (gle rfl)) rfl ?_
  refine SV.nil ?_
  refine SV.tn ?_
  refine SV.seq' ?_
  refine SV.seq' ?_
  refine SV.region ?_
  refine SV.op (OpL.ok (nb := 0) (ok_move (v := V.one (.ro _)) (.inl rfl) rfl) rfl (gle rfl)) rfl ?_
  refine SV.op (OpMk.ok (ok_call (ls := [(false, [.sc _])]) rfl rfl ⟨_, _, Try.func49, rfl, by decide⟩ (vokruns_s X hW hp hX) ⟨⟨[.ro _], rfl, ⟨rfl, trivial⟩⟩, trivial⟩ rfl (gle rfl))) rfl ?_
  refine SV.op (OpL.ok (nb := 0) (ok_s1 (x := .tmp 8) (VScal.one rfl) (fun ρ h1 w => by go_simp; (try go_bits); with_reducible rfl) rfl) rfl (gle rfl)) rfl ?_
  refine SV.nil ?_
  refine SV.tn ?_
  refine SV.cond rfl (fun hc0 => ?_) (fun hc0 => ?_)
  · skip   -- c0.T
    have ho : Runs.okRuns X = false := by simpa using hc0
    have hr : mrows X = [] := by unfold mrows; rw [if_neg (by rw [ho]; decide)]
    have hk : mcount X = 0 := by unfold mcount; rw [if_neg (by rw [ho]; decide)]
    refine SV.seq' ?_
    refine SV.region ?_
    refine SV.op (OpMk.ok (ok_lit0 (kk := 0) elt_impl_Row rfl rfl rfl (gle rfl))) rfl ?_
    refine SV.op (OpL.ok (nb := 0) (ok_move (v := V.one (.hd 0)) (.inr rfl) rfl) rfl (gle rfl)) rfl ?_
    refine SV.op (OpL.ok (nb := 0) (ok_move (v := V.one (.sc _)) (.inr rfl) rfl) rfl (gle rfl)) rfl ?_
    refine SV.op (OpL.ok (nb := 0) (ok_move (v := V.one (.sc _)) (.inr rfl) rfl) rfl (gle rfl)) rfl ?_
    refine SV.nil ?_
    refine SV.tn ?_
    refine SV.ret ?_
    refine SV.tr ?_
    apply SV.done (hf := Try.results14) (ht := rfl) (he := .inl rfl)
    case hr => exact (ResAll.cons (ResOk.tmp (ag := false) (xs := [.hd 0]) rfl) (ResAll.cons (ResOk.tmp (ag := false) (xs := [.sc _]) rfl) (ResAll.cons (ResOk.tmp (ag := false) (xs := [.sc _]) rfl) ResAll.nil')))
    case h2 => simp [two]
    refine ⟨rfl, ⟨?_, trivial⟩, ⟨rfl, ⟨?_, trivial⟩, ⟨rfl, ⟨?_, trivial⟩, trivial⟩⟩⟩ <;> first | rfl | ((show some (T.seq _ _) = some (T.seq _ _); refine congrArg (fun z => some (T.seq _ z)) ?_; rw [hr]; first | done | rfl | (rw [he]; rfl) | (rw [hfl]; first | done | rfl | (simp; done)))) | ((show some (T.lit (Value.int .i64 _)) = some (T.lit (Value.int .i64 _)); refine congrArg (fun z => some (T.lit (Value.int .i64 z))) ?_; rw [hk]; first | done | rfl)) | ((show some (T.lit (Value.int .i64 _)) = some (T.lit (Value.int .i64 _)); refine congrArg (fun z => some (T.lit (Value.int .i64 z))) ?_; rw [hk]; simp)) | ((show some (T.lit (Value.bool _)) = some (T.lit (Value.bool _)); refine congrArg (fun z => some (T.lit (Value.bool z))) ?_; rw [ho])) | ((show some (T.lit (Value.bool _)) = some (T.lit (Value.bool _)); refine congrArg (fun z => some (T.lit (Value.bool z))) ?_; first | (rw [ho]; done) | (simp [ho]; done)))
  · skip   -- c0.F
    have ho : Runs.okRuns X = true := by simpa using hc0
    refine SV.skip ?_
    refine SV.tn ?_
    refine SV.seq' ?_
    refine SV.region ?_
    refine SV.op (OpL.ok (nb := 0) (ok_move (v := V.one (.ro _)) (.inl rfl) rfl) rfl (gle rfl)) rfl ?_
    refine SV.op (OpL.ok (nb := 0) (ok_move (v := V.one (.ro _)) (.inr rfl) rfl) rfl (gle rfl)) rfl ?_
    refine SV.nil ?_
    refine SV.tn ?_
    refine SV.seq' ?_
    refine SV.region ?_
    refine SV.op (OpL.ok (nb := 0) (ok_move (v := V.one (.sc _)) (.inr rfl) rfl) rfl (gle rfl)) rfl ?_
    refine SV.nil ?_
    refine SV.tn ?_
    refine SV.seq' ?_
    refine SV.block ?_
    refine SV.loopF (X := Option Nat) (fun (σ : VS) x => match x with | none => (((((VS.nil.put 2 (σ.tm 2)).put 3 (σ.tm 3)).put 4 (σ.tm 4)).put 5 (σ.tm 5)).put 6 (V.flat false [.sc (.int .i64 ((0 : Int)))])) | some y => ((((((VS.nil.new (.seq 63 ((Runs.passes X y).map tRun))).put 2 (σ.tm 2)).put 3 (σ.tm 3)).put 4 (σ.tm 4)).put 5 (V.flat false [.hd 0])).put 6 (V.flat false [.sc (.int .i64 ((y : Int)))]))) (fun x => Runs.npass X.length = x.getD 0 + Runs.npass (Runs.passes X (x.getD 0)).length ∧ (x.isSome = true → 0 < (Runs.passes X (x.getD 0)).length)) (fun x => (Runs.passes X (x.getD 0)).length) ?_ ?_
    · skip
      refine SV.again (fun i => [].getD i 0) none (⟨by show _ = 0 + _; rw [Nat.zero_add]; rfl, fun h => by cases h⟩) (pins hE rfl rfl) (VS.le.mk' (le_put (le_put (le_put (le_put (le_put le_nil (V.le.keep (ag := false) (xs := [.sc _]) (ys := [.sc _]) rfl rfl ⟨rfl, trivial⟩)) (V.le.keep (ag := false) (xs := [.sc _]) (ys := [.sc _]) rfl rfl ⟨rfl, trivial⟩)) (V.le.keep (ag := false) (xs := [.sc _]) (ys := [.sc _]) rfl rfl ⟨rfl, trivial⟩)) (V.le.keep (ag := false) (xs := [.ro _]) (ys := [.ro _]) rfl rfl ⟨rfl, trivial⟩)) (V.le.keep (ag := false) (xs := [.sc _]) (ys := [.sc _]) rfl rfl ⟨(by first | rfl | (show Leaf.sc _ = Leaf.sc _; refine congrArg Leaf.sc ?_; first | rfl | go_num | (first | rfl | (simp; done); first | done | rfl | go_num | (simp; done) | (simp; omega)) | (simp [cntAll]; done)) | (simp [cntAll]; done) | (simp; omega)), trivial⟩)) trivial trivial nil_ob (fun i j hi hj e => absurd hi (Nat.not_lt_zero i)))
    · rintro x hinv
      cases x with
      | none =>
        have hq : Runs.npass X.length = 0 + Runs.npass (Runs.passes X 0).length := hinv.1
        refine SV.seq' ?_
        refine SV.seq' ?_
        refine SV.region ?_
        refine SV.op (OpL.ok (nb := 0) (ok_move (v := V.one (.ro _)) (.inl rfl) rfl) rfl (gle rfl)) rfl ?_
        refine SV.op (OpL.ok (nb := 0) (ok_len (lf := .ro _) rfl elt_impl_Run.und rfl rfl) rfl (gle rfl)) rfl ?_
        refine SV.op (OpL.ok (nb := 0) (ok_s2 (x := .tmp 13) (x' := .const ((Value.int IntKind.i64 1))) (VScal.one rfl) (VScal.one rfl) (fun ρ h1 h2 w => by go_simp; (try go_bits); with_reducible rfl) rfl) rfl (gle rfl)) rfl ?_
        refine SV.nil ?_
        refine SV.tn ?_
        refine SV.cond rfl (fun hc1 => ?_) (fun hc1 => ?_)
        · skip   -- c1.T
          have h1 : 1 < (Runs.passes X 0).length := by show 1 < X.length; simp at hc1; omega
          have hn1 : (Runs.npass X.length = (0 + 1) + Runs.npass (Runs.passes X (0 + 1)).length ∧ ((some (0 + 1)).isSome = true → 0 < (Runs.passes X (0 + 1)).length)) ∧ (Runs.passes X (0 + 1)).length < (Runs.passes X 0).length := by
            have hl := Runs.pass_len (Runs.passes X 0)
            have e : Runs.passes X (0 + 1) = Runs.pass (Runs.passes X 0) := rfl
            refine ⟨⟨Runs.npass_step hq h1, fun _ => ?_⟩, ?_⟩ <;> (rw [e, hl]; omega)
          refine SV.skip ?_
          refine SV.tn ?_
          refine SV.block ?_
          refine SV.seq' ?_
          refine SV.region ?_
          refine SV.op (OpL.ok (nb := 0) (ok_move (v := V.one (.ro _)) (.inl rfl) rfl) rfl (gle rfl)) rfl ?_
          refine SV.op (OpMk.ok (ok_call (ls := [(false, [.hd 0])]) rfl rfl ⟨_, _, Try.func24, rfl, by decide⟩ (vpass_s X hX hF) ⟨⟨[.ro _], rfl, ⟨rfl, trivial⟩⟩, trivial⟩ rfl (gle rfl))) rfl ?_
          refine SV.op (OpL.ok (nb := 0) (ok_move (v := V.one (.hd 0)) (.inr rfl) rfl) rfl (gle rfl)) rfl ?_
          refine SV.nil ?_
          refine SV.tn ?_
          refine SV.region ?_
          refine SV.op (OpL.ok (nb := 0) (ok_move (v := V.one (.sc _)) (.inl rfl) rfl) rfl (gle rfl)) rfl ?_
          refine SV.op (OpL.ok (nb := 0) (ok_s2 (x := .tmp 17) (x' := .const ((Value.int IntKind.i64 1))) (VScal.one rfl) (VScal.one rfl) (fun ρ h1 h2 w => by go_simp; (try go_bits); with_reducible rfl) rfl) rfl (gle rfl)) rfl ?_
          refine SV.op (OpL.ok (nb := 0) (ok_move (v := V.one (.sc _)) (.inr rfl) rfl) rfl (gle rfl)) rfl ?_
          refine SV.nil ?_
          refine SV.bn ?_
          refine SV.tn ?_
          refine SV.again (fun i => [0].getD i 0) (some 1) (hn1) (pins hE rfl rfl) (VS.le.mk' (le_put (le_put (le_put (le_put (le_put (le_new le_nil) (V.le.keep (ag := false) (xs := [.sc _]) (ys := [.sc _]) rfl rfl ⟨rfl, trivial⟩)) (V.le.keep (ag := false) (xs := [.sc _]) (ys := [.sc _]) rfl rfl ⟨rfl, trivial⟩)) (V.le.keep (ag := false) (xs := [.sc _]) (ys := [.sc _]) rfl rfl ⟨rfl, trivial⟩)) (V.le.keep (ag := false) (xs := [.hd 0]) (ys := [.hd 0]) rfl rfl ⟨⟨rfl, (gle rfl), (gle rfl)⟩, trivial⟩)) (V.le.keep (ag := false) (xs := [.sc _]) (ys := [.sc _]) rfl rfl ⟨(by first | rfl | (show Leaf.sc _ = Leaf.sc _; refine congrArg Leaf.sc ?_; first | rfl | go_num | (first | rfl | (simp; done); first | done | rfl | go_num | (simp; done) | (simp; omega)) | (simp [cntAll]; done)) | (simp [cntAll]; done) | (simp; omega)), trivial⟩)) trivial ⟨.inr ⟨_, _, rfl, ?ob2_0, (gle rfl)⟩, trivial⟩ (new_ob nil_ob) (fun i j hi hj e => inj_list (l := [0]) (by decide) i j hi hj e))
          case ob2_0 =>
            show some (T.seq _ _) = some (T.seq _ _)
            rfl
        · skip   -- c1.F
          have h1 : (Runs.passes X 0).length ≤ 1 := by show X.length ≤ 1; simp at hc1; omega
          obtain ⟨hr, hk⟩ := mrows_end ho hq h1
          replace hr : mrows X = X.flatten := hr
          replace h1 : X.length ≤ 1 := h1
          refine SV.exit ?_
          refine SV.te ?_
          refine SV.te ?_
          refine SV.bh ?_
          refine SV.tn ?_
          refine SV.seq' ?_
          refine SV.seq' ?_
          refine SV.region ?_
          refine SV.op (OpL.ok (nb := 0) (ok_move (v := V.one (.ro _)) (.inl rfl) rfl) rfl (gle rfl)) rfl ?_
          refine SV.op (OpL.ok (nb := 0) (ok_len (lf := .ro _) rfl elt_impl_Run.und rfl rfl) rfl (gle rfl)) rfl ?_
          refine SV.op (OpL.ok (nb := 0) (ok_s2 (x := .tmp 20) (x' := .const ((Value.int IntKind.i64 0))) (VScal.one rfl) (VScal.one rfl) (fun ρ h1 h2 w => by go_simp; (try go_bits); with_reducible rfl) rfl) rfl (gle rfl)) rfl ?_
          refine SV.nil ?_
          refine SV.tn ?_
          refine SV.cond rfl (fun hc2 => ?_) (fun hc2 => ?_)
          · skip   -- c2.T
            have he : X = [] := List.eq_nil_of_length_eq_zero (by first | (simpa using hc2) | (simp at hc2; omega) | (simp at hc2; rw [hc2]; rfl))
            refine SV.seq' ?_
            refine SV.region ?_
            refine SV.op (OpMk.ok (ok_lit0 (kk := 0) elt_impl_Row rfl rfl rfl (gle rfl))) rfl ?_
            refine SV.op (OpL.ok (nb := 0) (ok_move (v := V.one (.hd 0)) (.inr rfl) rfl) rfl (gle rfl)) rfl ?_
            refine SV.op (OpL.ok (nb := 0) (ok_move (v := V.one (.sc _)) (.inr rfl) rfl) rfl (gle rfl)) rfl ?_
            refine SV.op (OpL.ok (nb := 0) (ok_move (v := V.one (.sc _)) (.inr rfl) rfl) rfl (gle rfl)) rfl ?_
            refine SV.nil ?_
            refine SV.tn ?_
            refine SV.ret ?_
            refine SV.tr ?_
            apply SV.done (hf := Try.results14) (ht := rfl) (he := .inl rfl)
            case hr => exact (ResAll.cons (ResOk.tmp (ag := false) (xs := [.hd 0]) rfl) (ResAll.cons (ResOk.tmp (ag := false) (xs := [.sc _]) rfl) (ResAll.cons (ResOk.tmp (ag := false) (xs := [.sc _]) rfl) ResAll.nil')))
            case h2 => simp [two]
            refine ⟨rfl, ⟨?_, trivial⟩, ⟨rfl, ⟨?_, trivial⟩, ⟨rfl, ⟨?_, trivial⟩, trivial⟩⟩⟩ <;> first | rfl | ((show some (T.seq _ _) = some (T.seq _ _); refine congrArg (fun z => some (T.seq _ z)) ?_; rw [hr]; first | done | rfl | (rw [he]; rfl) | (rw [hfl]; first | done | rfl | (simp; done)))) | ((show some (T.lit (Value.int .i64 _)) = some (T.lit (Value.int .i64 _)); refine congrArg (fun z => some (T.lit (Value.int .i64 z))) ?_; rw [hk]; first | done | rfl)) | ((show some (T.lit (Value.int .i64 _)) = some (T.lit (Value.int .i64 _)); refine congrArg (fun z => some (T.lit (Value.int .i64 z))) ?_; rw [hk]; simp)) | ((show some (T.lit (Value.bool _)) = some (T.lit (Value.bool _)); refine congrArg (fun z => some (T.lit (Value.bool z))) ?_; rw [ho])) | ((show some (T.lit (Value.bool _)) = some (T.lit (Value.bool _)); refine congrArg (fun z => some (T.lit (Value.bool z))) ?_; first | (rw [ho]; done) | (simp [ho]; done)))
          · skip   -- c2.F
            have h3 : 0 < X.length := by rcases Nat.eq_zero_or_pos X.length with h | h; (exfalso; simp [h] at hc2); (exact h)
            obtain ⟨p, hx⟩ : ∃ p, X[0]? = some p := ⟨_, List.getElem?_eq_getElem h3⟩
            have hfl := one_flat hx h1
            have hpl := Runs.mem_len (List.mem_of_getElem? hx)
            refine SV.skip ?_
            refine SV.tn ?_
            refine SV.seq' ?_
            refine SV.region ?_
            refine SV.op (OpMk.ok (ok_lit0 (kk := 0) elt_impl_Row rfl rfl rfl (gle rfl))) rfl ?_
            refine SV.op (OpL.ok (nb := 0) (ok_move (v := V.one (.ro _)) (.inl rfl) rfl) rfl (gle rfl)) rfl ?_
            refine SV.op (OpL.ok (nb := 0) (ok_index (n := 1) (lf := .ro _) rfl elt_impl_Run.und sz_impl_Run rfl rfl rfl (map_at hx)) rfl (gle rfl)) rfl ?_
            refine SV.op (OpL.ok (nb := 0) (ok_field_el (p := .rp _) (off := 0) rfl rfl rfl fld_impl_Run_0) rfl (gle rfl)) rfl ?_
            refine SV.op (OpL.ok (nb := 0) (ok_load_rp (ag := false) (m := 1) (ys := [.ro _]) rfl rfl agg_s_impl_Row sz_s_impl_Row (fun _ => rfl) (gle rfl) rfl) rfl (gle rfl)) rfl ?_
            refine SV.op (OpMk.ok (ok_append_ro (kk := 1) elt_impl_Row (ls := .hd 0) (lx := .ro _) rfl rfl rfl rfl rfl rfl (flat_impl_Row _) (by first | omega | (simp only [List.length_map]; omega) | (simp; done) | (simp; omega)) rfl (gle rfl))) rfl ?_
            refine SV.op (OpL.ok (nb := 0) (ok_move (v := V.one (.sc _)) (.inl rfl) rfl) rfl (gle rfl)) rfl ?_
            refine SV.op (OpL.ok (nb := 0) (ok_move (v := V.one (.hd 1)) (.inr rfl) rfl) rfl (gle rfl)) rfl ?_
            refine SV.op (OpL.ok (nb := 0) (ok_move (v := V.one (.sc _)) (.inr rfl) rfl) rfl (gle rfl)) rfl ?_
            refine SV.op (OpL.ok (nb := 0) (ok_move (v := V.one (.sc _)) (.inr rfl) rfl) rfl (gle rfl)) rfl ?_
            refine SV.nil ?_
            refine SV.tn ?_
            refine SV.ret ?_
            apply SV.done (hf := Try.results14) (ht := rfl) (he := .inl rfl)
            case hr => exact (ResAll.cons (ResOk.tmp (ag := false) (xs := [.hd 1]) rfl) (ResAll.cons (ResOk.tmp (ag := false) (xs := [.sc _]) rfl) (ResAll.cons (ResOk.tmp (ag := false) (xs := [.sc _]) rfl) ResAll.nil')))
            case h2 => simp [two]
            refine ⟨rfl, ⟨?_, trivial⟩, ⟨rfl, ⟨?_, trivial⟩, ⟨rfl, ⟨?_, trivial⟩, trivial⟩⟩⟩ <;> first | rfl | ((show some (T.seq _ _) = some (T.seq _ _); refine congrArg (fun z => some (T.seq _ z)) ?_; rw [hr]; first | done | rfl | (rw [he]; rfl) | (rw [hfl]; first | done | rfl | (simp; done)))) | ((show some (T.lit (Value.int .i64 _)) = some (T.lit (Value.int .i64 _)); refine congrArg (fun z => some (T.lit (Value.int .i64 z))) ?_; rw [hk]; first | done | rfl)) | ((show some (T.lit (Value.int .i64 _)) = some (T.lit (Value.int .i64 _)); refine congrArg (fun z => some (T.lit (Value.int .i64 z))) ?_; rw [hk]; simp)) | ((show some (T.lit (Value.bool _)) = some (T.lit (Value.bool _)); refine congrArg (fun z => some (T.lit (Value.bool z))) ?_; rw [ho])) | ((show some (T.lit (Value.bool _)) = some (T.lit (Value.bool _)); refine congrArg (fun z => some (T.lit (Value.bool z))) ?_; first | (rw [ho]; done) | (simp [ho]; done)))
      | some y =>
        have hns := npass_self X.length
        have hq : Runs.npass X.length = y + Runs.npass (Runs.passes X y).length := hinv.1
        have h0 : 0 < (Runs.passes X y).length := hinv.2 rfl
        have hple := passes_le X y
        have hpf := (Runs.passes_perm X y).length_eq
        refine SV.seq' ?_
        refine SV.seq' ?_
        refine SV.region ?_
        refine SV.op (OpL.ok (nb := 0) (ok_move (v := V.one (.hd 0)) (.inl rfl) rfl) rfl (gle rfl)) rfl ?_
        refine SV.op (OpL.ok (nb := 0) (ok_len (lf := .hd 0) rfl elt_impl_Run.und rfl rfl) rfl (gle rfl)) rfl ?_
        refine SV.op (OpL.ok (nb := 0) (ok_s2 (x := .tmp 13) (x' := .const ((Value.int IntKind.i64 1))) (VScal.one rfl) (VScal.one rfl) (fun ρ h1 h2 w => by go_simp; (try go_bits); with_reducible rfl) rfl) rfl (gle rfl)) rfl ?_
        refine SV.nil ?_
        refine SV.tn ?_
        refine SV.cond rfl (fun hc3 => ?_) (fun hc3 => ?_)
        · skip   -- c3.T
          have h1 : 1 < (Runs.passes X y).length := by simp at hc3; omega
          have hn1 : (Runs.npass X.length = (y + 1) + Runs.npass (Runs.passes X (y + 1)).length ∧ ((some (y + 1)).isSome = true → 0 < (Runs.passes X (y + 1)).length)) ∧ (Runs.passes X (y + 1)).length < (Runs.passes X y).length := by
            have hl := Runs.pass_len (Runs.passes X y)
            have e : Runs.passes X (y + 1) = Runs.pass (Runs.passes X y) := rfl
            refine ⟨⟨Runs.npass_step hq h1, fun _ => ?_⟩, ?_⟩ <;> (rw [e, hl]; omega)
          refine SV.skip ?_
          refine SV.tn ?_
          refine SV.block ?_
          refine SV.seq' ?_
          refine SV.region ?_
          refine SV.op (OpL.ok (nb := 0) (ok_move (v := V.one (.hd 0)) (.inl rfl) rfl) rfl (gle rfl)) rfl ?_
          refine SV.op (OpMk.ok (ok_call (ls := [(false, [.hd 1])]) rfl rfl ⟨_, _, Try.func24, rfl, by decide⟩ (vpass_s (Runs.passes X y) (by omega) (by omega)) ⟨⟨[.hd 0], rfl, ⟨rfl, trivial⟩⟩, trivial⟩ rfl (gle rfl))) rfl ?_
          refine SV.op (OpL.ok (nb := 0) (ok_move (v := V.one (.hd 1)) (.inr rfl) rfl) rfl (gle rfl)) rfl ?_
          refine SV.nil ?_
          refine SV.tn ?_
          refine SV.region ?_
          refine SV.op (OpL.ok (nb := 0) (ok_move (v := V.one (.sc _)) (.inl rfl) rfl) rfl (gle rfl)) rfl ?_
          refine SV.op (OpL.ok (nb := 0) (ok_s2 (x := .tmp 17) (x' := .const ((Value.int IntKind.i64 1))) (VScal.one rfl) (VScal.one rfl) (fun ρ h1 h2 w => by go_simp; (try go_bits); with_reducible rfl) rfl) rfl (gle rfl)) rfl ?_
          refine SV.op (OpL.ok (nb := 0) (ok_move (v := V.one (.sc _)) (.inr rfl) rfl) rfl (gle rfl)) rfl ?_
          refine SV.nil ?_
          refine SV.bn ?_
          refine SV.tn ?_
          refine SV.again (fun i => [1].getD i 0) (some (y + 1)) (hn1) (pins hE rfl rfl) (VS.le.mk' (le_put (le_put (le_put (le_put (le_put (le_new le_nil) (V.le.keep (ag := false) (xs := [.sc _]) (ys := [.sc _]) rfl rfl ⟨rfl, trivial⟩)) (V.le.keep (ag := false) (xs := [.sc _]) (ys := [.sc _]) rfl rfl ⟨rfl, trivial⟩)) (V.le.keep (ag := false) (xs := [.sc _]) (ys := [.sc _]) rfl rfl ⟨rfl, trivial⟩)) (V.le.keep (ag := false) (xs := [.hd 1]) (ys := [.hd 0]) rfl rfl ⟨⟨rfl, (gle rfl), (gle rfl)⟩, trivial⟩)) (V.le.keep (ag := false) (xs := [.sc _]) (ys := [.sc _]) rfl rfl ⟨(by first | rfl | (show Leaf.sc _ = Leaf.sc _; refine congrArg Leaf.sc ?_; first | rfl | go_num | (first | rfl | (simp; done); first | done | rfl | go_num | (simp; done) | (simp; omega)) | (simp [cntAll]; done)) | (simp [cntAll]; done) | (simp; omega)), trivial⟩)) trivial ⟨.inr ⟨_, _, rfl, ?ob3_0, (gle rfl)⟩, trivial⟩ (new_ob nil_ob) (fun i j hi hj e => inj_list (l := [1]) (by decide) i j hi hj e))
          case ob3_0 =>
            show some (T.seq _ _) = some (T.seq _ _)
            rfl
        · skip   -- c3.F
          have h1 : (Runs.passes X y).length ≤ 1 := by simp at hc3; omega
          obtain ⟨hr, hk⟩ := mrows_end ho hq h1
          obtain ⟨p, hx⟩ : ∃ p, (Runs.passes X y)[0]? = some p := ⟨_, List.getElem?_eq_getElem h0⟩
          have hfl := one_flat hx h1
          have hpl := Runs.mem_len (List.mem_of_getElem? hx)
          refine SV.exit ?_
          refine SV.te ?_
          refine SV.te ?_
          refine SV.bh ?_
          refine SV.tn ?_
          refine SV.seq' ?_
          refine SV.seq' ?_
          refine SV.region ?_
          refine SV.op (OpL.ok (nb := 0) (ok_move (v := V.one (.hd 0)) (.inl rfl) rfl) rfl (gle rfl)) rfl ?_
          refine SV.op (OpL.ok (nb := 0) (ok_len (lf := .hd 0) rfl elt_impl_Run.und rfl rfl) rfl (gle rfl)) rfl ?_
          refine SV.op (OpL.ok (nb := 0) (ok_s2 (x := .tmp 20) (x' := .const ((Value.int IntKind.i64 0))) (VScal.one rfl) (VScal.one rfl) (fun ρ h1 h2 w => by go_simp; (try go_bits); with_reducible rfl) rfl) rfl (gle rfl)) rfl ?_
          refine SV.nil ?_
          refine SV.tn ?_
          refine SV.cond rfl (fun hc4 => ?_) (fun hc4 => ?_)
          · skip   -- c4.T
            (exfalso; simp at hc4; first | omega | (rw [hc4] at h0; simp at h0))
          · skip   -- c4.F
            refine SV.skip ?_
            refine SV.tn ?_
            refine SV.seq' ?_
            refine SV.region ?_
            refine SV.op (OpMk.ok (ok_lit0 (kk := 1) elt_impl_Row rfl rfl rfl (gle rfl))) rfl ?_
            refine SV.op (OpL.ok (nb := 0) (ok_move (v := V.one (.hd 0)) (.inl rfl) rfl) rfl (gle rfl)) rfl ?_
            refine SV.op (OpL.ok (nb := 0) (ok_index (n := 1) (lf := .hd 0) rfl elt_impl_Run.und sz_impl_Run rfl rfl rfl (map_at hx)) rfl (gle rfl)) rfl ?_
            refine SV.op (OpL.ok (nb := 0) (ok_field_el (p := .ep 0 _ _ _) (off := 0) rfl rfl (cells_ep rfl (map_at hx) rfl rfl) fld_impl_Run_0) rfl (gle rfl)) rfl ?_
            refine SV.op (ok_load_el (p := .ep 0 _ _ _) (ag := false) (m := 1) (ys := [.nd 0 _ _ (some _)]) rfl rfl (cells_ep rfl (map_at hx) rfl rfl) agg_s_impl_Row sz_s_impl_Row (fun _ => rfl) (gle rfl) rfl rfl (gle rfl)) rfl ?_
            refine SV.op (OpMk.ok (ok_append_ro (kk := 2) elt_impl_Row (ls := .hd 1) (lx := .nd 0 _ _ (some _)) rfl rfl rfl rfl rfl rfl (flat_impl_Row _) (by first | omega | (simp only [List.length_map]; omega) | (simp; done) | (simp; omega)) rfl (gle rfl))) rfl ?_
            refine SV.op (OpL.ok (nb := 0) (ok_move (v := V.one (.sc _)) (.inl rfl) rfl) rfl (gle rfl)) rfl ?_
            refine SV.op (OpL.ok (nb := 0) (ok_move (v := V.one (.hd 2)) (.inr rfl) rfl) rfl (gle rfl)) rfl ?_
            refine SV.op (OpL.ok (nb := 0) (ok_move (v := V.one (.sc _)) (.inr rfl) rfl) rfl (gle rfl)) rfl ?_
            refine SV.op (OpL.ok (nb := 0) (ok_move (v := V.one (.sc _)) (.inr rfl) rfl) rfl (gle rfl)) rfl ?_
            refine SV.nil ?_
            refine SV.tn ?_
            refine SV.ret ?_
            apply SV.done (hf := Try.results14) (ht := rfl) (he := .inl rfl)
            case hr => exact (ResAll.cons (ResOk.tmp (ag := false) (xs := [.hd 2]) rfl) (ResAll.cons (ResOk.tmp (ag := false) (xs := [.sc _]) rfl) (ResAll.cons (ResOk.tmp (ag := false) (xs := [.sc _]) rfl) ResAll.nil')))
            case h2 => simp [two]
            refine ⟨rfl, ⟨?_, trivial⟩, ⟨rfl, ⟨?_, trivial⟩, ⟨rfl, ⟨?_, trivial⟩, trivial⟩⟩⟩ <;> first | rfl | ((show some (T.seq _ _) = some (T.seq _ _); refine congrArg (fun z => some (T.seq _ z)) ?_; rw [hr]; first | done | rfl | (rw [he]; rfl) | (rw [hfl]; first | done | rfl | (simp; done)))) | ((show some (T.lit (Value.int .i64 _)) = some (T.lit (Value.int .i64 _)); refine congrArg (fun z => some (T.lit (Value.int .i64 z))) ?_; rw [hk]; first | done | rfl)) | ((show some (T.lit (Value.int .i64 _)) = some (T.lit (Value.int .i64 _)); refine congrArg (fun z => some (T.lit (Value.int .i64 z))) ?_; rw [hk]; simp)) | ((show some (T.lit (Value.bool _)) = some (T.lit (Value.bool _)); refine congrArg (fun z => some (T.lit (Value.bool z))) ?_; rw [ho])) | ((show some (T.lit (Value.bool _)) = some (T.lit (Value.bool _)); refine congrArg (fun z => some (T.lit (Value.bool z))) ?_; first | (rw [ho]; done) | (simp [ho]; done)))
end Go.Proofs.Ytfionajnoaednaa
/- Runs: their weights; the answer's size: told by trees. -/
namespace Go.Proofs.Ytfionajnoaednaa
open Go Go.RowKit V
set_option linter.unusedVariables false
theorem flat_small {X : List (List R)} {n : Nat} (h : ∀ p ∈ X, p.length ≤ n) : X.flatten.length ≤ n * X.length := by
  induction X with
  | nil => simp
  | cons p X ih =>
    have h1 := h p (List.mem_cons_self ..)
    have h2 := ih fun q hq => h q (List.mem_cons_of_mem _ hq)
    rw [List.flatten_cons, List.length_append, List.length_cons, Nat.mul_succ]
    omega
theorem build_small {l : List R} {m : Int} (hW : ∀ r ∈ l, r.wf) : (∀ p ∈ Runs.build l m, ∀ r ∈ p, r.wf) ∧ (∀ p ∈ Runs.build l m, p.length ≤ l.length) ∧ (Runs.build l m).length ≤ l.length ∧ (Runs.build l m).flatten.length ≤ l.length := by
  cases hc : Runs.can l m with
  | false =>
    have hb : Runs.build l m = [] := by unfold Runs.build; rw [if_neg (by rw [hc]; decide)]
    rw [hb]
    exact ⟨fun p hp => (by cases hp), fun p hp => (by cases hp), Nat.zero_le _, Nat.zero_le _⟩
  | true =>
    obtain ⟨hp, hr, -, -⟩ := Runs.build_facts hc
    have hl := hp.length_eq
    refine ⟨fun p h r hr2 => hW r (hp.mem_iff.1 (List.mem_flatten.2 ⟨p, h, hr2⟩)), fun p h => hl ▸ Runs.mem_len h, ?_, Nat.le_of_eq hl⟩
    rw [← hl]
    generalize Runs.build l m = X at hr
    clear hp hl
    induction X with
    | nil => simp
    | cons p X ih =>
      have hp := (hr p (List.mem_cons_self ..)).1
      have := ih fun q hq => hr q (List.mem_cons_of_mem _ hq)
      rw [List.flatten_cons, List.length_append, List.length_cons]
      omega
theorem runs_wt (X : List (List R)) : wtRuns X = X.length + X.flatten.length := by
  unfold wtRuns wtAll
  congr 1
  induction X with
  | nil => rfl
  | cons p X ih =>
    rw [List.map_cons, List.sum_cons, List.flatten_cons, List.length_append, ih]
    rfl
theorem runs_wt_in {X : List (List R)} {p : List R} (hp : p ∈ X) : p.length ≤ wtRuns X := by
  have := Runs.mem_len hp
  rw [runs_wt]
  omega
end Go.Proofs.Ytfionajnoaednaa
/- The reference's ExternalSort: told by trees. -/
namespace Go.Proofs.Ytfionajnoaednaa
open Go Go.RowKit V
set_option linter.unusedVariables false
def erows (l : List R) (m : Int) : List R := if Runs.can l m = true then mrows (Runs.build l m) else []
def ecost (l : List R) (m : Int) : Int := if Runs.can l m = true then total l * ((mcount (Runs.build l m) : Nat) + 1) else 0
theorem mcount_le (X : List (List R)) : mcount X ≤ X.length := by
  unfold mcount
  split
  · exact npass_self _
  · exact Nat.zero_le _
theorem can_len {l : List R} {m : Int} (h : Runs.can l m = true) : l.length ≤ 24 := by
  unfold Runs.can okRows at h
  rw [Bool.and_eq_true, Bool.and_eq_true, decide_eq_true_eq] at h
  exact h.1.1
theorem erows_sort {l : List R} {m : Int} (h : Runs.can l m = true) : erows l m = R.sort l := by
  have hk := Runs.build_ok h
  unfold erows mrows
  rw [if_pos h, if_pos hk, Runs.allIn_sort (Runs.okRuns_asc hk)]
  exact R.sort_eq (Runs.build_facts h).1
set_option maxRecDepth 100000 in
set_option maxHeartbeats 2000000 in
theorem ves_s (l : List R) (m : Int) (hW : ∀ r ∈ l, r.wf) (hl : l.length ≤ 1000000000) : VC Try.prog 38 [(false, [.seq 59 ((l).map tRow)]), (false, [.lit (.int .i64 (m))])] true [(false, [.seq 59 ((erows l m).map tRow)]), (false, [.lit (.int .i64 (ecost l m))]), (false, [.lit (.bool (Runs.can l m))])] := by
  refine VC.enter Try.func38 rfl Try.ntmps38 (gle rfl) fun E hE => ?_
  refine SV.seq' ?_
  refine SV.region ?_
  refine SV.op (OpL.ok (nb := 0) (ok_move (v := V.one (.sc _)) (.inr rfl) rfl) rfl (gle rfl)) rfl ?_
  refine SV.op (OpL.ok (nb := 0) (ok_move (v := V.one (.sc _)) (.inr rfl) rfl) rfl (gle rfl)) rfl ?_
  refine SV.op (OpL.ok (nb := 0) (ok_move (v := V.one (.sc _)) (.inr rfl) rfl) rfl (gle rfl)) rfl ?_
  refine SV.nil ?_
  refine SV.tn ?_
  refine SV.seq' ?_
  refine SV.region ?_
  refine SV.op (OpL.ok (nb := 0) (ok_move (v := V.one (.ro _)) (.inl rfl) rfl) rfl (gle rfl)) rfl ?_
  refine SV.op (OpL.ok (nb := 0) (ok_move (v := V.one (.sc _)) (.inl rfl) rfl) rfl (gle rfl)) rfl ?_
  refine SV.op (OpMk.ok (ok_call (ls := [(false, [.hd 0]), (false, [.sc _])]) rfl rfl ⟨_, _, Try.func59, rfl, by decide⟩ (vbuild_s l m hW hl) ⟨⟨[.ro _], rfl, ⟨rfl, trivial⟩⟩, ⟨[.sc _], rfl, ⟨rfl, trivial⟩⟩, trivial⟩ rfl (gle rfl))) rfl ?_
  refine SV.op (OpL.ok (nb := 0) (ok_move (v := ⟨true, [(false, [.hd 0]), (false, [.sc _])]⟩) (.inl rfl) rfl) rfl (gle rfl)) rfl ?_
  refine SV.op (OpL.ok (nb := 0) (ok_extract (ag := false) (xs := [.hd 0]) rfl rfl rfl) rfl (gle rfl)) rfl ?_
  refine SV.op (OpL.ok (nb := 0) (ok_extract (ag := false) (xs := [.sc _]) rfl rfl rfl) rfl (gle rfl)) rfl ?_
  refine SV.op (OpL.ok (nb := 0) (ok_move (v := V.one (.hd 0)) (.inr rfl) rfl) rfl (gle rfl)) rfl ?_
  refine SV.op (OpL.ok (nb := 0) (ok_move (v := V.one (.sc _)) (.inr rfl) rfl) rfl (gle rfl)) rfl ?_
  refine SV.nil ?_
  refine SV.tn ?_
  refine SV.seq' ?_
  refine SV.seq' ?_
  obtain ⟨hbW, hbp, hbl, hbf⟩ := build_small (m := m) hW
  refine SV.region ?_
  refine SV.op (OpL.ok (nb := 0) (ok_move (v := V.one (.sc _)) (.inl rfl) rfl) rfl (gle rfl)) rfl ?_
  refine SV.op (OpL.ok (nb := 0) (ok_s1 (x := .tmp 18) (VScal.one rfl) (fun ρ h1 w => by go_simp; (try go_bits); with_reducible rfl) rfl) rfl (gle rfl)) rfl ?_
  refine SV.nil ?_
  refine SV.tn ?_
  refine SV.cond rfl (fun hc0 => ?_) (fun hc0 => ?_)
  · skip   -- c0.T
    have hc : Runs.can l m = false := by simpa using hc0
    have hr : erows l m = [] := by unfold erows; rw [if_neg (by rw [hc]; decide)]
    have hk : ecost l m = 0 := by unfold ecost; rw [if_neg (by rw [hc]; decide)]
    refine SV.seq' ?_
    refine SV.region ?_
    refine SV.op (OpMk.ok (ok_lit0 (kk := 1) elt_impl_Row rfl rfl rfl (gle rfl))) rfl ?_
    refine SV.op (OpL.ok (nb := 0) (ok_move (v := V.one (.hd 1)) (.inr rfl) rfl) rfl (gle rfl)) rfl ?_
    refine SV.op (OpL.ok (nb := 0) (ok_move (v := V.one (.sc _)) (.inr rfl) rfl) rfl (gle rfl)) rfl ?_
    refine SV.op (OpL.ok (nb := 0) (ok_move (v := V.one (.sc _)) (.inr rfl) rfl) rfl (gle rfl)) rfl ?_
    refine SV.nil ?_
    refine SV.tn ?_
    refine SV.ret ?_
    refine SV.tr ?_
    apply SV.done (hf := Try.results38) (ht := rfl) (he := .inl rfl)
    case hr => exact (ResAll.cons (ResOk.tmp (ag := false) (xs := [.hd 1]) rfl) (ResAll.cons (ResOk.tmp (ag := false) (xs := [.sc _]) rfl) (ResAll.cons (ResOk.tmp (ag := false) (xs := [.sc _]) rfl) ResAll.nil')))
    case h2 => simp [two]
    refine ⟨rfl, ⟨?_, trivial⟩, ⟨rfl, ⟨?_, trivial⟩, ⟨rfl, ⟨?_, trivial⟩, trivial⟩⟩⟩ <;> first | rfl | ((show some (T.seq _ _) = some (T.seq _ _); refine congrArg (fun z => some (T.seq _ z)) ?_; rw [hr]; first | done | rfl)) | ((show some (T.lit (Value.int .i64 _)) = some (T.lit (Value.int .i64 _)); refine congrArg (fun z => some (T.lit (Value.int .i64 z))) ?_; rw [hk]; first | done | rfl)) | ((show some (T.lit (Value.bool _)) = some (T.lit (Value.bool _)); refine congrArg (fun z => some (T.lit (Value.bool z))) ?_; first | (rw [hc]; done) | (simp [hc]; done)))
  · skip   -- c0.F
    have hc : Runs.can l m = true := by simpa using hc0
    have hr : erows l m = mrows (Runs.build l m) := by unfold erows; rw [if_pos hc]
    have hk : ecost l m = total l * ((mcount (Runs.build l m) : Nat) + 1) := by unfold ecost; rw [if_pos hc]
    have hmc := mcount_le (Runs.build l m)
    have htr := total_range l
    have hcl := can_len hc
    obtain ⟨k, hkk⟩ : ∃ k : Nat, k = mcount (Runs.build l m) := ⟨_, rfl⟩
    have hml : 0 ≤ total l * ((k : Int) + 1) ∧ total l * ((k : Int) + 1) ≤ 96 * 25 := ⟨Int.mul_nonneg htr.1 (by omega), Int.le_trans (Int.mul_le_mul_of_nonneg_right (show total l ≤ 96 by omega) (by omega)) (Int.mul_le_mul_of_nonneg_left (by omega) (by decide))⟩
    rw [hkk] at hml
    refine SV.skip ?_
    refine SV.tn ?_
    refine SV.seq' ?_
    refine SV.region ?_
    refine SV.op (OpL.ok (nb := 0) (ok_move (v := V.one (.hd 0)) (.inl rfl) rfl) rfl (gle rfl)) rfl ?_
    refine SV.op (OpMk.ok (ok_call (ls := [(false, [.hd 1]), (false, [.sc _]), (false, [.sc _])]) rfl rfl ⟨_, _, Try.func14, rfl, by decide⟩ (vmr_s (Runs.build l m) hbW (fun p hp => by have := hbp p hp; omega) (by omega) (by omega)) ⟨⟨[.hd 0], rfl, ⟨rfl, trivial⟩⟩, trivial⟩ rfl (gle rfl))) rfl ?_
    refine SV.op (OpL.ok (nb := 0) (ok_move (v := ⟨true, [(false, [.hd 1]), (false, [.sc _]), (false, [.sc _])]⟩) (.inl rfl) rfl) rfl (gle rfl)) rfl ?_
    refine SV.op (OpL.ok (nb := 0) (ok_extract (ag := false) (xs := [.hd 1]) rfl rfl rfl) rfl (gle rfl)) rfl ?_
    refine SV.op (OpL.ok (nb := 0) (ok_extract (ag := false) (xs := [.sc _]) rfl rfl rfl) rfl (gle rfl)) rfl ?_
    refine SV.op (OpL.ok (nb := 0) (ok_extract (ag := false) (xs := [.sc _]) rfl rfl rfl) rfl (gle rfl)) rfl ?_
    refine SV.op (OpL.ok (nb := 0) (ok_move (v := V.one (.hd 1)) (.inr rfl) rfl) rfl (gle rfl)) rfl ?_
    refine SV.op (OpL.ok (nb := 0) (ok_move (v := V.one (.sc _)) (.inr rfl) rfl) rfl (gle rfl)) rfl ?_
    refine SV.op (OpL.ok (nb := 0) (ok_move (v := V.one (.sc _)) (.inr rfl) rfl) rfl (gle rfl)) rfl ?_
    refine SV.nil ?_
    refine SV.tn ?_
    refine SV.seq' ?_
    refine SV.region ?_
    refine SV.op (OpL.ok (nb := 0) (ok_move (v := V.one (.hd 1)) (.inl rfl) rfl) rfl (gle rfl)) rfl ?_
    refine SV.op (OpL.ok (nb := 0) (ok_move (v := V.one (.ro _)) (.inl rfl) rfl) rfl (gle rfl)) rfl ?_
    refine SV.op (OpMk.ok (ok_call (ls := [(false, [.sc _])]) rfl rfl ⟨_, _, Try.func60, rfl, by decide⟩ (vtotal_t l hW hl) ⟨⟨[.ro _], rfl, ⟨rfl, trivial⟩⟩, trivial⟩ rfl (gle rfl))) rfl ?_
    refine SV.op (OpL.ok (nb := 0) (ok_move (v := V.one (.sc _)) (.inl rfl) rfl) rfl (gle rfl)) rfl ?_
    refine SV.op (OpL.ok (nb := 0) (ok_s2 (v := .int .i64 (((mcount (Runs.build l m) : Nat) : Int) + 1)) (x := .tmp 30) (x' := .const ((Value.int IntKind.i64 1))) (VScal.one rfl) (VScal.one rfl) (fun ρ h1 h2 w => by go_simp; rw [IntWalk.i64_left, IntWalk.wrap64_in _ ⟨by omega, by omega⟩]) rfl) rfl (gle rfl)) rfl ?_
    refine SV.op (OpL.ok (nb := 0) (ok_s2 (v := .int .i64 (total l * (((mcount (Runs.build l m) : Nat) : Int) + 1))) (x := .tmp 29) (x' := .tmp 31) (VScal.one rfl) (VScal.one rfl) (fun ρ h1 h2 w => by go_simp; rw [IntWalk.i64_left, IntWalk.wrap64_in _ ⟨by omega, by omega⟩]) rfl) rfl (gle rfl)) rfl ?_
    refine SV.op (OpL.ok (nb := 0) (ok_move (v := V.one (.hd 1)) (.inr rfl) rfl) rfl (gle rfl)) rfl ?_
    refine SV.op (OpL.ok (nb := 0) (ok_move (v := V.one (.sc _)) (.inr rfl) rfl) rfl (gle rfl)) rfl ?_
    refine SV.op (OpL.ok (nb := 0) (ok_move (v := V.one (.sc _)) (.inr rfl) rfl) rfl (gle rfl)) rfl ?_
    refine SV.nil ?_
    refine SV.tn ?_
    refine SV.ret ?_
    apply SV.done (hf := Try.results38) (ht := rfl) (he := .inl rfl)
    case hr => exact (ResAll.cons (ResOk.tmp (ag := false) (xs := [.hd 1]) rfl) (ResAll.cons (ResOk.tmp (ag := false) (xs := [.sc _]) rfl) (ResAll.cons (ResOk.tmp (ag := false) (xs := [.sc _]) rfl) ResAll.nil')))
    case h2 => simp [two]
    refine ⟨rfl, ⟨?_, trivial⟩, ⟨rfl, ⟨?_, trivial⟩, ⟨rfl, ⟨?_, trivial⟩, trivial⟩⟩⟩ <;> first | rfl | ((show some (T.seq _ _) = some (T.seq _ _); refine congrArg (fun z => some (T.seq _ z)) ?_; rw [hr]; first | done | rfl)) | ((show some (T.lit (Value.int .i64 _)) = some (T.lit (Value.int .i64 _)); refine congrArg (fun z => some (T.lit (Value.int .i64 z))) ?_; rw [hk]; first | done | rfl)) | ((show some (T.lit (Value.bool _)) = some (T.lit (Value.bool _)); refine congrArg (fun z => some (T.lit (Value.bool z))) ?_; first | (rw [hc]; done) | (simp [hc]; done)))
end Go.Proofs.Ytfionajnoaednaa
/- The reference's MergePasses: told by trees. -/
namespace Go.Proofs.Ytfionajnoaednaa
open Go Go.RowKit V
set_option linter.unusedVariables false
set_option maxRecDepth 100000 in
set_option maxHeartbeats 2000000 in
theorem vmp_s (n : Int) : VC Try.prog 26 [(false, [.lit (.int .i64 (n))])] false [(false, [.lit (.int .i64 (((Runs.mpass n : Nat) : Int)))])] := by
  refine VC.enter Try.func26 rfl Try.ntmps26 (gle rfl) fun E hE => ?_
  refine SV.seq' ?_
  refine SV.region ?_
  refine SV.op (OpL.ok (nb := 0) (ok_move (v := V.one (.sc _)) (.inr rfl) rfl) rfl (gle rfl)) rfl ?_
  refine SV.nil ?_
  refine SV.tn ?_
  refine SV.seq' ?_
  refine SV.region ?_
  refine SV.op (OpL.ok (nb := 0) (ok_move (v := V.one (.sc _)) (.inr rfl) rfl) rfl (gle rfl)) rfl ?_
  refine SV.nil ?_
  refine SV.tn ?_
  refine SV.seq' ?_
  refine SV.seq' ?_
  refine SV.region ?_
  refine SV.op (OpL.ok (nb := 0) (ok_move (v := V.one (.sc _)) (.inr rfl) rfl) rfl (gle rfl)) rfl ?_
  refine SV.nil ?_
  refine SV.tn ?_
  refine SV.block ?_
  refine SV.loopF (X := Nat) (fun (σ : VS) t => ((((VS.nil.put 0 (σ.tm 0)).put 2 (σ.tm 2)).put 3 (V.flat false [.sc (.int .i64 ((t : Int)))])).put 4 (V.flat false [.sc (.int .i64 ((2 : Int) ^ t))]))) (fun t => t ≤ 40 ∧ Runs.dbl n (40 - t) t = Runs.mpass n) (fun t => 40 - t) ?_ ?_
  · skip
    refine SV.again (fun i => [].getD i 0) 0 (⟨Nat.zero_le _, rfl⟩) (pins hE rfl rfl) (VS.le.mk' (le_put (le_put (le_put (le_put le_nil (V.le.keep (ag := false) (xs := [.sc _]) (ys := [.sc _]) rfl rfl ⟨rfl, trivial⟩)) (V.le.keep (ag := false) (xs := [.sc _]) (ys := [.sc _]) rfl rfl ⟨rfl, trivial⟩)) (V.le.keep (ag := false) (xs := [.sc _]) (ys := [.sc _]) rfl rfl ⟨(by first | rfl | (show Leaf.sc _ = Leaf.sc _; refine congrArg Leaf.sc ?_; first | rfl | go_num | (first | rfl | (rw [Int.pow_succ]; done); first | done | rfl | go_num | (simp; done) | (simp; omega)) | (simp [cntAll]; done)) | (simp [cntAll]; done) | (simp; omega)), trivial⟩)) (V.le.keep (ag := false) (xs := [.sc _]) (ys := [.sc _]) rfl rfl ⟨(by first | rfl | (show Leaf.sc _ = Leaf.sc _; refine congrArg Leaf.sc ?_; first | rfl | go_num | (first | rfl | (rw [Int.pow_succ]; done); first | done | rfl | go_num | (simp; done) | (simp; omega)) | (simp [cntAll]; done)) | (simp [cntAll]; done) | (simp; omega)), trivial⟩)) trivial trivial nil_ob (fun i j hi hj e => absurd hi (Nat.not_lt_zero i)))
  · rintro t ⟨ht, hd⟩
    have hp0 : (0 : Int) < (2 : Int) ^ t := Int.pow_pos (by decide)
    have hp1 : (2 : Int) ^ t ≤ (2 : Int) ^ 40 := by exact_mod_cast Nat.pow_le_pow_right (by decide : 0 < 2) ht
    have hp2 : (2 : Int) ^ 40 = 1099511627776 := by decide
    refine SV.seq' ?_
    refine SV.seq' ?_
    refine SV.region ?_
    refine SV.op (OpL.ok (nb := 0) (ok_move (v := V.one (.sc _)) (.inl rfl) rfl) rfl (gle rfl)) rfl ?_
    refine SV.op (OpL.ok (nb := 0) (ok_move (v := V.one (.sc _)) (.inl rfl) rfl) rfl (gle rfl)) rfl ?_
    refine SV.op (OpL.ok (nb := 0) (ok_s2 (x := .tmp 5) (x' := .tmp 6) (VScal.one rfl) (VScal.one rfl) (fun ρ h1 h2 w => by go_simp; (try go_bits); with_reducible rfl) rfl) rfl (gle rfl)) rfl ?_
    refine SV.op (OpL.ok (nb := 0) (ok_move (v := V.one (.sc _)) (.inl rfl) rfl) rfl (gle rfl)) rfl ?_
    refine SV.split (d := 8) rfl (fun hg0 => ?_) (fun hg0 => ?_)
    · skip   -- g0.T
      have hlt : (2 : Int) ^ t < n := by simpa using hg0
      refine SV.opY (OpL.ok (nb := 0) (ok_move (v := V.one (.sc _)) (.inl rfl) rfl) rfl (gle rfl)) rfl rfl rfl (gle rfl) rfl rfl ?_
      refine SV.opY (OpL.ok (nb := 0) (ok_s2 (x := .tmp 9) (x' := .const ((Value.int IntKind.i64 40))) (VScal.one rfl) (VScal.one rfl) (fun ρ h1 h2 w => by go_simp; (try go_bits); with_reducible rfl) rfl) rfl (gle rfl)) rfl rfl rfl (gle rfl) rfl rfl ?_
      refine SV.op (OpL.ok (nb := 0) (ok_pickT (v := V.one (.sc _)) rfl rfl rfl) rfl (gle rfl)) rfl ?_
      refine SV.nil ?_
      refine SV.tn ?_
      refine SV.cond rfl (fun hc0 => ?_) (fun hc0 => ?_)
      · skip   -- c0.T
        have htl : t < 40 := by simp at hc0; omega
        refine SV.skip ?_
        refine SV.tn ?_
        refine SV.seq' ?_
        refine SV.block ?_
        refine SV.region ?_
        refine SV.op (OpL.ok (nb := 0) (ok_move (v := V.one (.sc _)) (.inl rfl) rfl) rfl (gle rfl)) rfl ?_
        refine SV.op (OpL.ok (nb := 0) (ok_s2 (x := .tmp 14) (x' := .const ((Value.int IntKind.i64 1))) (VScal.one rfl) (VScal.one rfl) (fun ρ h1 h2 w => by go_simp; (try go_bits); with_reducible rfl) rfl) rfl (gle rfl)) rfl ?_
        refine SV.op (OpL.ok (nb := 0) (ok_move (v := V.one (.sc _)) (.inr rfl) rfl) rfl (gle rfl)) rfl ?_
        refine SV.nil ?_
        refine SV.bn ?_
        refine SV.tn ?_
        refine SV.region ?_
        refine SV.op (OpL.ok (nb := 0) (ok_move (v := V.one (.sc _)) (.inl rfl) rfl) rfl (gle rfl)) rfl ?_
        refine SV.op (OpL.ok (nb := 0) (ok_s2 (v := .int .i64 ((2 : Int) ^ t * 2)) (x := .tmp 12) (x' := .const ((Value.int IntKind.i64 2))) (VScal.one rfl) (VScal.one rfl) (fun ρ h1 h2 w => by go_simp; rw [IntWalk.i64_left, IntWalk.wrap64_in _ ⟨by omega, by omega⟩]) rfl) rfl (gle rfl)) rfl ?_
        refine SV.op (OpL.ok (nb := 0) (ok_move (v := V.one (.sc _)) (.inr rfl) rfl) rfl (gle rfl)) rfl ?_
        refine SV.nil ?_
        refine SV.tn ?_
        refine SV.again (fun i => [].getD i 0) (t + 1) (⟨⟨by omega, by rw [← hd, Runs.dbl_go htl hlt]⟩, by omega⟩) (pins hE rfl rfl) (VS.le.mk' (le_put (le_put (le_put (le_put le_nil (V.le.keep (ag := false) (xs := [.sc _]) (ys := [.sc _]) rfl rfl ⟨rfl, trivial⟩)) (V.le.keep (ag := false) (xs := [.sc _]) (ys := [.sc _]) rfl rfl ⟨rfl, trivial⟩)) (V.le.keep (ag := false) (xs := [.sc _]) (ys := [.sc _]) rfl rfl ⟨(by first | rfl | (show Leaf.sc _ = Leaf.sc _; refine congrArg Leaf.sc ?_; first | rfl | go_num | (first | rfl | (rw [Int.pow_succ]; done); first | done | rfl | go_num | (simp; done) | (simp; omega)) | (simp [cntAll]; done)) | (simp [cntAll]; done) | (simp; omega)), trivial⟩)) (V.le.keep (ag := false) (xs := [.sc _]) (ys := [.sc _]) rfl rfl ⟨(by first | rfl | (show Leaf.sc _ = Leaf.sc _; refine congrArg Leaf.sc ?_; first | rfl | go_num | (first | rfl | (rw [Int.pow_succ]; done); first | done | rfl | go_num | (simp; done) | (simp; omega)) | (simp [cntAll]; done)) | (simp [cntAll]; done) | (simp; omega)), trivial⟩)) trivial trivial nil_ob (fun i j hi hj e => absurd hi (Nat.not_lt_zero i)))
      · skip   -- c0.F
        have hend : Runs.mpass n = t := by rw [← hd]; exact Runs.dbl_stop ht (.inl (by simp at hc0; omega))
        refine SV.exit ?_
        refine SV.te ?_
        refine SV.te ?_
        refine SV.bh ?_
        refine SV.tn ?_
        refine SV.seq' ?_
        refine SV.region ?_
        refine SV.op (OpL.ok (nb := 0) (ok_move (v := V.one (.sc _)) (.inl rfl) rfl) rfl (gle rfl)) rfl ?_
        refine SV.op (OpL.ok (nb := 0) (ok_move (v := V.one (.sc _)) (.inr rfl) rfl) rfl (gle rfl)) rfl ?_
        refine SV.nil ?_
        refine SV.tn ?_
        refine SV.ret ?_
        apply SV.done (hf := Try.results26) (ht := rfl) (he := .inl rfl)
        case hr => exact (ResAll.cons (ResOk.tmp (ag := false) (xs := [.sc _]) rfl) ResAll.nil')
        case h2 => simp [two]
        refine ⟨rfl, ⟨?_, trivial⟩, trivial⟩ <;> (show some (T.lit (Value.int .i64 _)) = some (T.lit (Value.int .i64 _)); refine congrArg (fun z => some (T.lit (Value.int .i64 z))) ?_; rw [hend])
    · skip   -- g0.F
      have hnl : ¬ (2 : Int) ^ t < n := by simpa using hg0
      have hend : Runs.mpass n = t := by rw [← hd]; exact Runs.dbl_stop ht (.inr hnl)
      refine SV.opN rfl rfl rfl (gle rfl) rfl rfl rfl (gle rfl) ?_
      refine SV.opN rfl rfl rfl (gle rfl) rfl rfl rfl (gle rfl) ?_
      refine SV.op (OpL.ok (nb := 0) (ok_pickF (v := V.one (.sc _)) rfl rfl rfl) rfl (gle rfl)) rfl ?_
      refine SV.nil ?_
      refine SV.tn ?_
      refine SV.cond rfl (fun hc1 => ?_) (fun hc1 => ?_)
      · skip   -- c1.T
        cases hc1
      · skip   -- c1.F
        refine SV.exit ?_
        refine SV.te ?_
        refine SV.te ?_
        refine SV.bh ?_
        refine SV.tn ?_
        refine SV.seq' ?_
        refine SV.region ?_
        refine SV.op (OpL.ok (nb := 0) (ok_move (v := V.one (.sc _)) (.inl rfl) rfl) rfl (gle rfl)) rfl ?_
        refine SV.op (OpL.ok (nb := 0) (ok_move (v := V.one (.sc _)) (.inr rfl) rfl) rfl (gle rfl)) rfl ?_
        refine SV.nil ?_
        refine SV.tn ?_
        refine SV.ret ?_
        apply SV.done (hf := Try.results26) (ht := rfl) (he := .inl rfl)
        case hr => exact (ResAll.cons (ResOk.tmp (ag := false) (xs := [.sc _]) rfl) ResAll.nil')
        case h2 => simp [two]
        refine ⟨rfl, ⟨?_, trivial⟩, trivial⟩ <;> (show some (T.lit (Value.int .i64 _)) = some (T.lit (Value.int .i64 _)); refine congrArg (fun z => some (T.lit (Value.int .i64 z))) ?_; rw [hend])
end Go.Proofs.Ytfionajnoaednaa
/- The reference's FlattenRuns: told by trees. -/
namespace Go.Proofs.Ytfionajnoaednaa
open Go Go.RowKit V
set_option linter.unusedVariables false
theorem take_flat {X : List (List R)} {t : Nat} {p : List R} (h : X[t]? = some p) : (X.take (t + 1)).flatten = (X.take t).flatten ++ p := by
  rw [List.take_add_one, h, List.flatten_append]
  simp
theorem take_len (X : List (List R)) (t : Nat) : (X.take t).flatten.length ≤ X.flatten.length := by
  have h := congrArg List.length (congrArg List.flatten (List.take_append_drop t X))
  rw [List.flatten_append, List.length_append] at h
  omega
set_option maxRecDepth 100000 in
set_option maxHeartbeats 2000000 in
theorem vflat_s (X : List (List R)) (hX : X.length ≤ 1000000000) (hF : X.flatten.length ≤ 1000000000) : VC Try.prog 27 [(false, [.seq 63 ((X).map tRun)])] false [(false, [.seq 59 ((X.flatten).map tRow)])] := by
  refine VC.enter Try.func27 rfl Try.ntmps27 (gle rfl) fun E hE => ?_
  refine SV.seq' ?_
  refine SV.region ?_
  refine SV.op (OpL.ok (nb := 0) (ok_move (v := V.one (.sc _)) (.inr rfl) rfl) rfl (gle rfl)) rfl ?_
  refine SV.nil ?_
  refine SV.tn ?_
  refine SV.seq' ?_
  refine SV.region ?_
  refine SV.op (OpMk.ok (ok_lit0 (kk := 0) elt_impl_Row rfl rfl rfl (gle rfl))) rfl ?_
  refine SV.op (OpL.ok (nb := 0) (ok_move (v := V.one (.hd 0)) (.inr rfl) rfl) rfl (gle rfl)) rfl ?_
  refine SV.nil ?_
  refine SV.tn ?_
  refine SV.seq' ?_
  refine SV.seq' ?_
  refine SV.region ?_
  refine SV.op (OpL.ok (nb := 0) (ok_move (v := V.one (.sc _)) (.inr rfl) rfl) rfl (gle rfl)) rfl ?_
  refine SV.nil ?_
  refine SV.tn ?_
  refine SV.block ?_
  refine SV.loopF (X := Nat) (fun (σ : VS) t => (((((VS.nil.new (.seq 59 ((X.take t).flatten.map tRow))).put 0 (σ.tm 0)).put 2 (σ.tm 2)).put 3 (V.flat false [.hd 0])).put 4 (V.flat false [.sc (.int .i64 ((t : Int)))]))) (fun t => t ≤ X.length) (fun t => X.length - t) ?_ ?_
  · skip
    refine SV.again (fun i => [0].getD i 0) 0 ((Nat.zero_le _)) (pins hE rfl rfl) (VS.le.mk' (le_put (le_put (le_put (le_put (le_new le_nil) (V.le.keep (ag := false) (xs := [.ro _]) (ys := [.ro _]) rfl rfl ⟨rfl, trivial⟩)) (V.le.keep (ag := false) (xs := [.sc _]) (ys := [.sc _]) rfl rfl ⟨rfl, trivial⟩)) (V.le.keep (ag := false) (xs := [.hd 0]) (ys := [.hd 0]) rfl rfl ⟨⟨rfl, (gle rfl), (gle rfl)⟩, trivial⟩)) (V.le.keep (ag := false) (xs := [.sc _]) (ys := [.sc _]) rfl rfl ⟨(by first | rfl | (show Leaf.sc _ = Leaf.sc _; refine congrArg Leaf.sc ?_; first | rfl | go_num | (simp [cntAll]; done)) | (simp [cntAll]; done) | (simp; omega)), trivial⟩)) trivial ⟨.inr ⟨_, _, rfl, ?ob1_0, (gle rfl)⟩, trivial⟩ (new_ob nil_ob) (fun i j hi hj e => inj_list (l := [0]) (by decide) i j hi hj e))
    case ob1_0 =>
      show some (T.seq _ _) = some (T.seq _ _)
      rfl
  · rintro t ht
    have hfl := take_len X t
    refine SV.seq' ?_
    refine SV.seq' ?_
    refine SV.region ?_
    refine SV.op (OpL.ok (nb := 0) (ok_move (v := V.one (.sc _)) (.inl rfl) rfl) rfl (gle rfl)) rfl ?_
    refine SV.op (OpL.ok (nb := 0) (ok_move (v := V.one (.ro _)) (.inl rfl) rfl) rfl (gle rfl)) rfl ?_
    refine SV.op (OpL.ok (nb := 0) (ok_len (lf := .ro _) rfl elt_impl_Run.und rfl rfl) rfl (gle rfl)) rfl ?_
    refine SV.op (OpL.ok (nb := 0) (ok_s2 (x := .tmp 6) (x' := .tmp 8) (VScal.one rfl) (VScal.one rfl) (fun ρ h1 h2 w => by go_simp; (try go_bits); with_reducible rfl) rfl) rfl (gle rfl)) rfl ?_
    refine SV.nil ?_
    refine SV.tn ?_
    refine SV.cond rfl (fun hc0 => ?_) (fun hc0 => ?_)
    · skip   -- c0.T
      have htl : t < X.length := by simpa using hc0
      obtain ⟨p, hx⟩ : ∃ p, X[t]? = some p := ⟨_, List.getElem?_eq_getElem htl⟩
      have hpl := Runs.mem_len (List.mem_of_getElem? hx)
      refine SV.skip ?_
      refine SV.tn ?_
      refine SV.seq' ?_
      refine SV.block ?_
      refine SV.region ?_
      refine SV.op (OpL.ok (nb := 0) (ok_move (v := V.one (.hd 0)) (.inl rfl) rfl) rfl (gle rfl)) rfl ?_
      refine SV.op (OpL.ok (nb := 0) (ok_move (v := V.one (.ro _)) (.inl rfl) rfl) rfl (gle rfl)) rfl ?_
      refine SV.op (OpL.ok (nb := 0) (ok_move (v := V.one (.sc _)) (.inl rfl) rfl) rfl (gle rfl)) rfl ?_
      refine SV.op (OpL.ok (nb := 0) (ok_index (n := 1) (lf := .ro _) rfl elt_impl_Run.und sz_impl_Run rfl rfl rfl (map_at hx)) rfl (gle rfl)) rfl ?_
      refine SV.op (OpL.ok (nb := 0) (ok_field_el (p := .rp _) (off := 0) rfl rfl rfl fld_impl_Run_0) rfl (gle rfl)) rfl ?_
      refine SV.op (OpL.ok (nb := 0) (ok_load_rp (ag := false) (m := 1) (ys := [.ro _]) rfl rfl agg_s_impl_Row sz_s_impl_Row (fun _ => rfl) (gle rfl) rfl) rfl (gle rfl)) rfl ?_
      refine SV.op (OpMk.ok (ok_append_ro (kk := 1) elt_impl_Row (ls := .hd 0) (lx := .ro _) rfl rfl rfl rfl rfl rfl (flat_impl_Row _) (by first | omega | (simp only [List.length_map]; omega) | (simp; done) | (simp; omega)) rfl (gle rfl))) rfl ?_
      refine SV.op (OpL.ok (nb := 0) (ok_move (v := V.one (.hd 1)) (.inr rfl) rfl) rfl (gle rfl)) rfl ?_
      refine SV.nil ?_
      refine SV.bn ?_
      refine SV.tn ?_
      refine SV.region ?_
      refine SV.op (OpL.ok (nb := 0) (ok_move (v := V.one (.sc _)) (.inl rfl) rfl) rfl (gle rfl)) rfl ?_
      refine SV.op (OpL.ok (nb := 0) (ok_s2 (x := .tmp 10) (x' := .const ((Value.int IntKind.i64 1))) (VScal.one rfl) (VScal.one rfl) (fun ρ h1 h2 w => by go_simp; (try go_bits); with_reducible rfl) rfl) rfl (gle rfl)) rfl ?_
      refine SV.op (OpL.ok (nb := 0) (ok_move (v := V.one (.sc _)) (.inr rfl) rfl) rfl (gle rfl)) rfl ?_
      refine SV.nil ?_
      refine SV.tn ?_
      refine SV.again (fun i => [1].getD i 0) (t + 1) (⟨by omega, by omega⟩) (pins hE rfl rfl) (VS.le.mk' (le_put (le_put (le_put (le_put (le_new le_nil) (V.le.keep (ag := false) (xs := [.ro _]) (ys := [.ro _]) rfl rfl ⟨rfl, trivial⟩)) (V.le.keep (ag := false) (xs := [.sc _]) (ys := [.sc _]) rfl rfl ⟨rfl, trivial⟩)) (V.le.keep (ag := false) (xs := [.hd 1]) (ys := [.hd 0]) rfl rfl ⟨⟨rfl, (gle rfl), (gle rfl)⟩, trivial⟩)) (V.le.keep (ag := false) (xs := [.sc _]) (ys := [.sc _]) rfl rfl ⟨(by first | rfl | (show Leaf.sc _ = Leaf.sc _; refine congrArg Leaf.sc ?_; first | rfl | go_num | (simp [cntAll]; done)) | (simp [cntAll]; done) | (simp; omega)), trivial⟩)) trivial ⟨.inr ⟨_, _, rfl, ?ob2_0, (gle rfl)⟩, trivial⟩ (new_ob nil_ob) (fun i j hi hj e => inj_list (l := [1]) (by decide) i j hi hj e))
      case ob2_0 =>
        show some (T.seq _ _) = some (T.seq _ _)
        rw [take_flat hx]; first | done | rfl | (simp only [List.map_append]; rfl) | (simp; done)
    · skip   -- c0.F
      have hte : X.take t = X := List.take_of_length_le (by simp at hc0; omega)
      refine SV.exit ?_
      refine SV.te ?_
      refine SV.te ?_
      refine SV.bh ?_
      refine SV.tn ?_
      refine SV.seq' ?_
      refine SV.region ?_
      refine SV.op (OpL.ok (nb := 0) (ok_move (v := V.one (.hd 0)) (.inl rfl) rfl) rfl (gle rfl)) rfl ?_
      refine SV.op (OpL.ok (nb := 0) (ok_move (v := V.one (.hd 0)) (.inr rfl) rfl) rfl (gle rfl)) rfl ?_
      refine SV.nil ?_
      refine SV.tn ?_
      refine SV.ret ?_
      apply SV.done (hf := Try.results27) (ht := rfl) (he := .inl rfl)
      case hr => exact (ResAll.cons (ResOk.tmp (ag := false) (xs := [.hd 0]) rfl) ResAll.nil')
      case h2 => simp [two]
      refine ⟨rfl, ⟨?_, trivial⟩, trivial⟩ <;> (show some (T.seq _ _) = some (T.seq _ _); refine congrArg (fun z => some (T.seq _ z)) ?_; rw [hte])
end Go.Proofs.Ytfionajnoaednaa
/- Rows and runs compared, the laws' own functions: told by trees. -/
namespace Go.Proofs.Ytfionajnoaednaa
open Go Go.RowKit V
set_option linter.unusedVariables false
theorem vsame11 (L : List R) (hL : ∀ r ∈ L, r.wf) (hl : L.length ≤ 1000000000) : VC Try.prog 18 [(false, [.seq 59 (L.map tRow)]), (false, [.seq 59 (L.map tRow)])] false [(false, [.lit (.bool true)])] := fun w vs hv => by
  obtain ⟨k, vs', rfl, h1, h2⟩ := hv.shape (Fits.slice 59 Fits.row) hL
  obtain ⟨q, vs', rfl, h4, h5⟩ := h2.shape (Fits.slice 59 Fits.row) hL
  rw [h5.none]
  have e : k.2.1 = L.length := h1.1.1.symm
  exact (samerows k.1 q.1 k.2.1 k.2.2 q.2.1 q.2.2 L w (rows_in h1.1) (rows_in h4.1) (by omega)).mono fun e w' he => Gives.plain (ag := false) (rs := [.bool true]) (oneM rfl) he
theorem vbags11 (L M : List R) (hL : ∀ r ∈ L, r.wf) (hM : ∀ r ∈ M, r.wf) (hl : L.length ≤ 1000000000) (hm : M.length ≤ 1000000000) : VC Try.prog 20 [(false, [.seq 59 (L.map tRow)]), (false, [.seq 59 (M.map tRow)])] false [(false, [.lit (.bool (R.eqBags L M))])] := fun w vs hv => by
  obtain ⟨k, vs', rfl, h1, h2⟩ := hv.shape (Fits.slice 59 Fits.row) hL
  obtain ⟨q, vs', rfl, h4, h5⟩ := h2.shape (Fits.slice 59 Fits.row) hM
  rw [h5.none]
  have e : k.2.1 = L.length := h1.1.1.symm
  have e' : q.2.1 = M.length := h4.1.1.symm
  exact (seqbags k.1 q.1 k.2.1 k.2.2 q.2.1 q.2.2 L M w (rows_in h1.1) (rows_in h4.1) (by omega) (by omega)).mono fun e w' he => Gives.plain (ag := false) (rs := [.bool (R.eqBags L M)]) (oneM rfl) he
set_option maxRecDepth 100000 in
set_option maxHeartbeats 2000000 in
theorem vsamer11 (X : List (List R)) (hW : ∀ p ∈ X, ∀ r ∈ p, r.wf) (hp : ∀ p ∈ X, p.length ≤ 1000000000) (hX : X.length ≤ 1000000000) : VC Try.prog 23 [(false, [.seq 63 ((X).map tRun)]), (false, [.seq 63 ((X).map tRun)])] false [(false, [.lit (.bool true)])] := by
  refine VC.enter Try.func23 rfl Try.ntmps23 (gle rfl) fun E hE => ?_
  refine SV.seq' ?_
  refine SV.region ?_
  refine SV.op (OpL.ok (nb := 0) (ok_move (v := V.one (.sc _)) (.inr rfl) rfl) rfl (gle rfl)) rfl ?_
  refine SV.nil ?_
  refine SV.tn ?_
  refine SV.seq' ?_
  refine SV.seq' ?_
  refine SV.region ?_
  refine SV.op (OpL.ok (nb := 0) (ok_move (v := V.one (.ro _)) (.inl rfl) rfl) rfl (gle rfl)) rfl ?_
  refine SV.op (OpL.ok (nb := 0) (ok_len (lf := .ro _) rfl elt_impl_Run.und rfl rfl) rfl (gle rfl)) rfl ?_
  refine SV.op (OpL.ok (nb := 0) (ok_move (v := V.one (.ro _)) (.inl rfl) rfl) rfl (gle rfl)) rfl ?_
  refine SV.op (OpL.ok (nb := 0) (ok_len (lf := .ro _) rfl elt_impl_Run.und rfl rfl) rfl (gle rfl)) rfl ?_
  refine SV.op (OpL.ok (nb := 0) (ok_s2 (x := .tmp 7) (x' := .tmp 9) (VScal.one rfl) (VScal.one rfl) (fun ρ h1 h2 w => by go_simp; (try go_bits); with_reducible rfl) rfl) rfl (gle rfl)) rfl ?_
  refine SV.nil ?_
  refine SV.tn ?_
  refine SV.cond rfl (fun hc0 => ?_) (fun hc0 => ?_)
  · skip   -- c0.T
    simp at hc0
  · skip   -- c0.F
    refine SV.skip ?_
    refine SV.tn ?_
    refine SV.seq' ?_
    refine SV.seq' ?_
    refine SV.region ?_
    refine SV.op (OpL.ok (nb := 0) (ok_move (v := V.one (.sc _)) (.inr rfl) rfl) rfl (gle rfl)) rfl ?_
    refine SV.nil ?_
    refine SV.tn ?_
    refine SV.block ?_
    refine SV.loopF (X := Nat) (fun (σ : VS) t => ((((VS.nil.put 0 (σ.tm 0)).put 1 (σ.tm 1)).put 4 (σ.tm 4)).put 5 (V.flat false [.sc (.int .i64 ((t : Int)))]))) (fun t => t ≤ X.length) (fun t => X.length - t) ?_ ?_
    · skip
      refine SV.again (fun i => [].getD i 0) 0 ((by first | exact Nat.zero_le _ | (refine ⟨Nat.zero_le _, ?_⟩; simp; done) | (simp; done) | omega)) (pins hE rfl rfl) (VS.le.mk' (le_put (le_put (le_put (le_put le_nil (V.le.keep (ag := false) (xs := [.ro _]) (ys := [.ro _]) rfl rfl ⟨rfl, trivial⟩)) (V.le.keep (ag := false) (xs := [.ro _]) (ys := [.ro _]) rfl rfl ⟨rfl, trivial⟩)) (V.le.keep (ag := false) (xs := [.sc _]) (ys := [.sc _]) rfl rfl ⟨rfl, trivial⟩)) (V.le.keep (ag := false) (xs := [.sc _]) (ys := [.sc _]) rfl rfl ⟨(by first | rfl | (show Leaf.sc _ = Leaf.sc _; refine congrArg Leaf.sc ?_; first | rfl | go_num | (simp [cntAll]; done)) | (simp [cntAll]; done) | (simp; omega)), trivial⟩)) trivial trivial nil_ob (fun i j hi hj e => absurd hi (Nat.not_lt_zero i)))
    · rintro t ht
      refine SV.seq' ?_
      refine SV.seq' ?_
      refine SV.region ?_
      refine SV.op (OpL.ok (nb := 0) (ok_move (v := V.one (.sc _)) (.inl rfl) rfl) rfl (gle rfl)) rfl ?_
      refine SV.op (OpL.ok (nb := 0) (ok_move (v := V.one (.ro _)) (.inl rfl) rfl) rfl (gle rfl)) rfl ?_
      refine SV.op (OpL.ok (nb := 0) (ok_len (lf := .ro _) rfl elt_impl_Run.und rfl rfl) rfl (gle rfl)) rfl ?_
      refine SV.op (OpL.ok (nb := 0) (ok_s2 (x := .tmp 11) (x' := .tmp 13) (VScal.one rfl) (VScal.one rfl) (fun ρ h1 h2 w => by go_simp; (try go_bits); with_reducible rfl) rfl) rfl (gle rfl)) rfl ?_
      refine SV.nil ?_
      refine SV.tn ?_
      refine SV.cond rfl (fun hc1 => ?_) (fun hc1 => ?_)
      · skip   -- c1.T
        have htl : t < X.length := by simpa using hc1
        obtain ⟨p, hx⟩ : ∃ p, X[t]? = some p := ⟨_, List.getElem?_eq_getElem htl⟩
        refine SV.skip ?_
        refine SV.tn ?_
        refine SV.seq' ?_
        refine SV.block ?_
        refine SV.seq' ?_
        refine SV.draw [.q 0, .q 1, .q 2, .q 3, .q 4, .q 5, .q 6, .q 7, .q 8, .q 9, .m 10, .q 11] [] (by kernel_rfl) (by kernel_rfl) ?_
        refine DW.q rfl (ok_move (v := V.one (.ro _)) (.inl rfl) rfl) rfl rfl (gle rfl) (fun _ _ _ _ h => h) ?_
        refine DW.q rfl (ok_move (v := V.one (.sc _)) (.inl rfl) rfl) rfl rfl (gle rfl) (fun _ _ _ _ h => h) ?_
        refine DW.q rfl (ok_index (n := 1) (lf := .ro _) rfl elt_impl_Run.und sz_impl_Run rfl rfl rfl (map_at hx)) rfl rfl (gle rfl) (fun _ _ _ _ h => h) ?_
        refine DW.q rfl (ok_field_el (p := .rp _) (off := 0) rfl rfl rfl fld_impl_Run_0) rfl rfl (gle rfl) (fun _ _ _ _ h => h) ?_
        refine DW.q rfl (ok_load_rp (ag := false) (m := 1) (ys := [.ro _]) rfl rfl agg_s_impl_Row sz_s_impl_Row (fun _ => rfl) (gle rfl) rfl) rfl rfl (gle rfl) (fun _ _ _ _ h => h) ?_
        refine DW.q rfl (ok_move (v := V.one (.ro _)) (.inl rfl) rfl) rfl rfl (gle rfl) (fun _ _ _ _ h => h) ?_
        refine DW.q rfl (ok_move (v := V.one (.sc _)) (.inl rfl) rfl) rfl rfl (gle rfl) (fun _ _ _ _ h => h) ?_
        refine DW.q rfl (ok_index (n := 1) (lf := .ro _) rfl elt_impl_Run.und sz_impl_Run rfl rfl rfl (map_at hx)) rfl rfl (gle rfl) (fun _ _ _ _ h => h) ?_
        refine DW.q rfl (ok_field_el (p := .rp _) (off := 0) rfl rfl rfl fld_impl_Run_0) rfl rfl (gle rfl) (fun _ _ _ _ h => h) ?_
        refine DW.q rfl (ok_load_rp (ag := false) (m := 1) (ys := [.ro _]) rfl rfl agg_s_impl_Row sz_s_impl_Row (fun _ => rfl) (gle rfl) rfl) rfl rfl (gle rfl) (fun _ _ _ _ h => h) ?_
        refine DW.m [] rfl (ok_call (ls := [(false, [.sc _])]) rfl rfl ⟨_, _, Try.func18, rfl, by decide⟩ (vsame11 p (hW p (List.mem_of_getElem? hx)) (hp p (List.mem_of_getElem? hx))) ⟨⟨[.ro _], rfl, ⟨rfl, trivial⟩⟩, ⟨[.ro _], rfl, ⟨rfl, trivial⟩⟩, trivial⟩ rfl (gle rfl)) rfl (gle rfl) (gle rfl) (.inl rfl) (fun j hj => by cases hj) ?_
        refine DW.q rfl (ok_s1 (x := .tmp 27) (VScal.one rfl) (fun ρ h1 w => by go_simp; (try go_bits); with_reducible rfl) rfl) rfl rfl (gle rfl) (fun _ _ _ _ h => h) ?_
        refine DW.stores ?_
        refine SV.zend ?_
        refine SV.tn ?_
        refine SV.cond rfl (fun hc2 => ?_) (fun hc2 => ?_)
        · skip   -- c2.T
          simp at hc2
        · skip   -- c2.F
          refine SV.skip ?_
          refine SV.bn ?_
          refine SV.tn ?_
          refine SV.region ?_
          refine SV.op (OpL.ok (nb := 0) (ok_move (v := V.one (.sc _)) (.inl rfl) rfl) rfl (gle rfl)) rfl ?_
          refine SV.op (OpL.ok (nb := 0) (ok_s2 (x := .tmp 15) (x' := .const ((Value.int IntKind.i64 1))) (VScal.one rfl) (VScal.one rfl) (fun ρ h1 h2 w => by go_simp; (try go_bits); with_reducible rfl) rfl) rfl (gle rfl)) rfl ?_
          refine SV.op (OpL.ok (nb := 0) (ok_move (v := V.one (.sc _)) (.inr rfl) rfl) rfl (gle rfl)) rfl ?_
          refine SV.nil ?_
          refine SV.tn ?_
          refine SV.again (fun i => [].getD i 0) (t + 1) (⟨by omega, by omega⟩) (pins hE rfl rfl) (VS.le.mk' (le_put (le_put (le_put (le_put le_nil (V.le.keep (ag := false) (xs := [.ro _]) (ys := [.ro _]) rfl rfl ⟨rfl, trivial⟩)) (V.le.keep (ag := false) (xs := [.ro _]) (ys := [.ro _]) rfl rfl ⟨rfl, trivial⟩)) (V.le.keep (ag := false) (xs := [.sc _]) (ys := [.sc _]) rfl rfl ⟨rfl, trivial⟩)) (V.le.keep (ag := false) (xs := [.sc _]) (ys := [.sc _]) rfl rfl ⟨(by first | rfl | (show Leaf.sc _ = Leaf.sc _; refine congrArg Leaf.sc ?_; first | rfl | go_num | (simp [cntAll]; done)) | (simp [cntAll]; done) | (simp; omega)), trivial⟩)) trivial trivial nil_ob (fun i j hi hj e => absurd hi (Nat.not_lt_zero i)))
      · skip   -- c1.F
        refine SV.exit ?_
        refine SV.te ?_
        refine SV.te ?_
        refine SV.bh ?_
        refine SV.tn ?_
        refine SV.seq' ?_
        refine SV.region ?_
        refine SV.op (OpL.ok (nb := 0) (ok_move (v := V.one (.sc _)) (.inr rfl) rfl) rfl (gle rfl)) rfl ?_
        refine SV.nil ?_
        refine SV.tn ?_
        refine SV.ret ?_
        apply SV.done (hf := Try.results23) (ht := rfl) (he := .inl rfl)
        case hr => exact (ResAll.cons (ResOk.tmp (ag := false) (xs := [.sc _]) rfl) ResAll.nil')
        case h2 => simp [two]
        refine ⟨rfl, ⟨?_, trivial⟩, trivial⟩ <;> rfl
end Go.Proofs.Ytfionajnoaednaa
