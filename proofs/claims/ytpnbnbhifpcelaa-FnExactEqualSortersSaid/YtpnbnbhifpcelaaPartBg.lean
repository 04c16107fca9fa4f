/- Texts joined: SrtE VP VY PruEqS. -/
import Derived.Test.YtpnbnbhifpcelaaPartBf
set_option linter.unusedSimpArgs false
set_option linter.unusedVariables false
/- The reference's EqualSorters: told by trees. -/
namespace Go.Proofs.Ytpnbnbhifpcelaa
open Go Go.RowKit V
set_option linter.unusedVariables false
set_option maxRecDepth 100000 in
set_option maxHeartbeats 2000000 in
theorem vsruns_s (X Y : List (List R)) (hWX : ∀ p ∈ X, ∀ r ∈ p, r.wf) (hpX : ∀ p ∈ X, p.length ≤ 1000000000) (hlX : X.length ≤ 1000000000) (hWY : ∀ p ∈ Y, ∀ r ∈ p, r.wf) (hpY : ∀ p ∈ Y, p.length ≤ 1000000000) (hlY : Y.length ≤ 1000000000) : VC Try.prog 86 [(false, [.seq 84 ((X).map tRun)]), (false, [.seq 84 ((Y).map tRun)])] false [(false, [.lit (.bool (decide (X = Y)))])] := by
  refine VC.enter Try.func86 rfl Try.ntmps86 (gle rfl) fun E hE => ?_
  refine SV.seq' ?_
  refine SV.region ?_
  refine SV.op (OpL.ok (nb := 0) (ok_move (v := V.one (.sc _)) (.inr rfl) rfl) rfl (gle rfl)) rfl ?_
  refine SV.nil ?_
  refine SV.tn ?_
  refine SV.seq' ?_
  refine SV.seq' ?_
  refine SV.region ?_
  refine SV.op (OpL.ok (nb := 0) (ok_move (v := V.one (.ro _)) (.inl rfl) rfl) rfl (gle rfl)) rfl ?_
  refine SV.op (OpL.ok (nb := 0) (ok_len (lf := .ro _) rfl elt_impl_Run.und rfl rfl) rfl (gle rfl)) rfl ?_
  refine SV.op (OpL.ok (nb := 0) (ok_move (v := V.one (.ro _)) (.inl rfl) rfl) rfl (gle rfl)) rfl ?_
  refine SV.op (OpL.ok (nb := 0) (ok_len (lf := .ro _) rfl elt_impl_Run.und rfl rfl) rfl (gle rfl)) rfl ?_
  refine SV.op (OpL.ok (nb := 0) (ok_s2 (x := .tmp 7) (x' := .tmp 9) (VScal.one rfl) (VScal.one rfl) (fun ρ h1 h2 w => by go_simp; (try go_bits); with_reducible rfl) rfl) rfl (gle rfl)) rfl ?_
  refine SV.nil ?_
  refine SV.tn ?_
  refine SV.cond rfl (fun hc0 => ?_) (fun hc0 => ?_)
  · skip   -- c0.T
    have hne : X ≠ Y := fun e => by subst e; exact (by simp at hc0)
    refine SV.seq' ?_
    refine SV.region ?_
    refine SV.op (OpL.ok (nb := 0) (ok_move (v := V.one (.sc _)) (.inr rfl) rfl) rfl (gle rfl)) rfl ?_
    refine SV.nil ?_
    refine SV.tn ?_
    refine SV.ret ?_
    refine SV.tr ?_
    apply SV.done (hf := Try.results86) (ht := rfl) (he := .inl rfl)
    case hr => exact (ResAll.cons (ResOk.tmp (ag := false) (xs := [.sc _]) rfl) ResAll.nil')
    case h2 => simp [two]
    refine ⟨rfl, ⟨?_, trivial⟩, trivial⟩ <;> (show some (T.lit (Value.bool _)) = some (T.lit (Value.bool _)); refine congrArg (fun z => some (T.lit (Value.bool z))) ?_; first | (rw [decide_eq_true hXY]; done) | (rw [decide_eq_false hne]; done))
  · skip   -- c0.F
    have hlen : X.length = Y.length := by simp at hc0; omega
    refine SV.skip ?_
    refine SV.tn ?_
    refine SV.seq' ?_
    refine SV.seq' ?_
    refine SV.region ?_
    refine SV.op (OpL.ok (nb := 0) (ok_move (v := V.one (.sc _)) (.inr rfl) rfl) rfl (gle rfl)) rfl ?_
    refine SV.nil ?_
    refine SV.tn ?_
    refine SV.block ?_
    refine SV.loopF (X := Nat) (fun (σ : VS) t => ((((VS.nil.put 0 (σ.tm 0)).put 1 (σ.tm 1)).put 4 (σ.tm 4)).put 5 (V.flat false [.sc (.int .i64 ((t : Int)))]))) (fun t => t ≤ X.length ∧ ∀ u, u < t → X[u]? = Y[u]?) (fun t => X.length - t) ?_ ?_
    · skip
      refine SV.again (fun i => [].getD i 0) 0 (⟨Nat.zero_le _, fun u h => absurd h (Nat.not_lt_zero u)⟩) (pins hE rfl rfl) (VS.le.mk' (le_put (le_put (le_put (le_put le_nil (V.le.keep (ag := false) (xs := [.ro _]) (ys := [.ro _]) rfl rfl ⟨rfl, trivial⟩)) (V.le.keep (ag := false) (xs := [.ro _]) (ys := [.ro _]) rfl rfl ⟨rfl, trivial⟩)) (V.le.keep (ag := false) (xs := [.sc _]) (ys := [.sc _]) rfl rfl ⟨rfl, trivial⟩)) (V.le.keep (ag := false) (xs := [.sc _]) (ys := [.sc _]) rfl rfl ⟨(by first | rfl | (show Leaf.sc _ = Leaf.sc _; refine congrArg Leaf.sc ?_; first | rfl | go_num | (simp [cntAll]; done)) | (simp [cntAll]; done) | (simp; omega)), trivial⟩)) trivial trivial nil_ob (fun i j hi hj e => absurd hi (Nat.not_lt_zero i)))
    · rintro t ⟨ht, he⟩
      refine SV.seq' ?_
      refine SV.seq' ?_
      refine SV.region ?_
      refine SV.op (OpL.ok (nb := 0) (ok_move (v := V.one (.sc _)) (.inl rfl) rfl) rfl (gle rfl)) rfl ?_
      refine SV.op (OpL.ok (nb := 0) (ok_move (v := V.one (.ro _)) (.inl rfl) rfl) rfl (gle rfl)) rfl ?_
      refine SV.op (OpL.ok (nb := 0) (ok_len (lf := .ro _) rfl elt_impl_Run.und rfl rfl) rfl (gle rfl)) rfl ?_
      refine SV.op (OpL.ok (nb := 0) (ok_s2 (x := .tmp 11) (x' := .tmp 13) (VScal.one rfl) (VScal.one rfl) (fun ρ h1 h2 w => by go_simp; (try go_bits); with_reducible rfl) rfl) rfl (gle rfl)) rfl ?_
      refine SV.nil ?_
      refine SV.tn ?_
      refine SV.cond rfl (fun hc1 => ?_) (fun hc1 => ?_)
      · skip   -- c1.T
        have htl : t < X.length := by simp at hc1; omega
        obtain ⟨p, hx⟩ : ∃ p, X[t]? = some p := ⟨_, List.getElem?_eq_getElem htl⟩
        obtain ⟨q, hy⟩ : ∃ q, Y[t]? = some q := ⟨_, List.getElem?_eq_getElem (by omega)⟩
        refine SV.skip ?_
        refine SV.tn ?_
        refine SV.seq' ?_
        refine SV.block ?_
        refine SV.seq' ?_
        refine SV.draw [.q 0, .q 1, .q 2, .q 3, .q 4, .q 5, .q 6, .q 7, .q 8, .q 9, .m 10, .q 11] [] (by kernel_rfl) (by kernel_rfl) ?_
        refine DW.q rfl (ok_move (v := V.one (.ro _)) (.inl rfl) rfl) rfl rfl (gle rfl) (fun _ _ _ _ h => h) ?_
        refine DW.q rfl (ok_move (v := V.one (.sc _)) (.inl rfl) rfl) rfl rfl (gle rfl) (fun _ _ _ _ h => h) ?_
        refine DW.q rfl (ok_index (n := 1) (lf := .ro _) rfl elt_impl_Run.und sz_impl_Run rfl rfl rfl (map_at hx)) rfl rfl (gle rfl) (fun _ _ _ _ h => h) ?_
        refine DW.q rfl (ok_field_el (p := .rp _) (off := 0) rfl rfl rfl fld_impl_Run_0) rfl rfl (gle rfl) (fun _ _ _ _ h => h) ?_
        refine DW.q rfl (ok_load_rp (ag := false) (m := 1) (ys := [.ro _]) rfl rfl agg_s_impl_Row sz_s_impl_Row (fun _ => rfl) (gle rfl) rfl) rfl rfl (gle rfl) (fun _ _ _ _ h => h) ?_
        refine DW.q rfl (ok_move (v := V.one (.ro _)) (.inl rfl) rfl) rfl rfl (gle rfl) (fun _ _ _ _ h => h) ?_
        refine DW.q rfl (ok_move (v := V.one (.sc _)) (.inl rfl) rfl) rfl rfl (gle rfl) (fun _ _ _ _ h => h) ?_
        refine DW.q rfl (ok_index (n := 1) (lf := .ro _) rfl elt_impl_Run.und sz_impl_Run rfl rfl rfl (map_at hy)) rfl rfl (gle rfl) (fun _ _ _ _ h => h) ?_
        refine DW.q rfl (ok_field_el (p := .rp _) (off := 0) rfl rfl rfl fld_impl_Run_0) rfl rfl (gle rfl) (fun _ _ _ _ h => h) ?_
        refine DW.q rfl (ok_load_rp (ag := false) (m := 1) (ys := [.ro _]) rfl rfl agg_s_impl_Row sz_s_impl_Row (fun _ => rfl) (gle rfl) rfl) rfl rfl (gle rfl) (fun _ _ _ _ h => h) ?_
        refine DW.m [] rfl (ok_call (ls := [(false, [.sc _])]) rfl rfl ⟨_, _, Try.func74, rfl, by decide⟩ (vl6_t p q (hWX p (List.mem_of_getElem? hx)) (hWY q (List.mem_of_getElem? hy)) (hpX p (List.mem_of_getElem? hx)) (hpY q (List.mem_of_getElem? hy))) ⟨⟨[.ro _], rfl, ⟨rfl, trivial⟩⟩, ⟨[.ro _], rfl, ⟨rfl, trivial⟩⟩, trivial⟩ rfl (gle rfl)) rfl (gle rfl) (gle rfl) (.inl rfl) (fun j hj => by cases hj) ?_
        refine DW.q rfl (ok_s1 (x := .tmp 27) (VScal.one rfl) (fun ρ h1 w => by go_simp; (try go_bits); with_reducible rfl) rfl) rfl rfl (gle rfl) (fun _ _ _ _ h => h) ?_
        refine DW.stores ?_
        refine SV.zend ?_
        refine SV.tn ?_
        refine SV.cond rfl (fun hc2 => ?_) (fun hc2 => ?_)
        · skip   -- c2.T
          have hpq : p ≠ q := by simpa using hc2
          have hne : X ≠ Y := fun e => by subst e; exact (hpq (Option.some.inj (hx.symm.trans hy)))
          refine SV.seq' ?_
          refine SV.region ?_
          refine SV.op (OpL.ok (nb := 0) (ok_move (v := V.one (.sc _)) (.inr rfl) rfl) rfl (gle rfl)) rfl ?_
          refine SV.nil ?_
          refine SV.tn ?_
          refine SV.ret ?_
          refine SV.br ?_
          refine SV.tr ?_
          refine SV.tr ?_
          refine SV.br ?_
          refine SV.tr ?_
          apply SV.done (hf := Try.results86) (ht := rfl) (he := .inl rfl)
          case hr => exact (ResAll.cons (ResOk.tmp (ag := false) (xs := [.sc _]) rfl) ResAll.nil')
          case h2 => simp [two]
          refine ⟨rfl, ⟨?_, trivial⟩, trivial⟩ <;> (show some (T.lit (Value.bool _)) = some (T.lit (Value.bool _)); refine congrArg (fun z => some (T.lit (Value.bool z))) ?_; first | (rw [decide_eq_true hXY]; done) | (rw [decide_eq_false hne]; done))
        · skip   -- c2.F
          have hxy : p = q := by simpa using hc2
          refine SV.skip ?_
          refine SV.bn ?_
          refine SV.tn ?_
          refine SV.region ?_
          refine SV.op (OpL.ok (nb := 0) (ok_move (v := V.one (.sc _)) (.inl rfl) rfl) rfl (gle rfl)) rfl ?_
          refine SV.op (OpL.ok (nb := 0) (ok_s2 (x := .tmp 15) (x' := .const ((Value.int IntKind.i64 1))) (VScal.one rfl) (VScal.one rfl) (fun ρ h1 h2 w => by go_simp; (try go_bits); with_reducible rfl) rfl) rfl (gle rfl)) rfl ?_
          refine SV.op (OpL.ok (nb := 0) (ok_move (v := V.one (.sc _)) (.inr rfl) rfl) rfl (gle rfl)) rfl ?_
          refine SV.nil ?_
          refine SV.tn ?_
          refine SV.again (fun i => [].getD i 0) (t + 1) (⟨⟨by omega, fun u hu => by rcases Nat.lt_or_ge u t with h | h; exact he u h; rw [show u = t by omega, hx, hy, hxy]⟩, by omega⟩) (pins hE rfl rfl) (VS.le.mk' (le_put (le_put (le_put (le_put le_nil (V.le.keep (ag := false) (xs := [.ro _]) (ys := [.ro _]) rfl rfl ⟨rfl, trivial⟩)) (V.le.keep (ag := false) (xs := [.ro _]) (ys := [.ro _]) rfl rfl ⟨rfl, trivial⟩)) (V.le.keep (ag := false) (xs := [.sc _]) (ys := [.sc _]) rfl rfl ⟨rfl, trivial⟩)) (V.le.keep (ag := false) (xs := [.sc _]) (ys := [.sc _]) rfl rfl ⟨(by first | rfl | (show Leaf.sc _ = Leaf.sc _; refine congrArg Leaf.sc ?_; first | rfl | go_num | (simp [cntAll]; done)) | (simp [cntAll]; done) | (simp; omega)), trivial⟩)) trivial trivial nil_ob (fun i j hi hj e => absurd hi (Nat.not_lt_zero i)))
      · skip   -- c1.F
        have hte : ¬ t < X.length := by simp at hc1; omega
        have hXY : X = Y := List.ext_getElem? fun u => by
          rcases Nat.lt_or_ge u t with h | h
          · exact he u h
          · rw [List.getElem?_eq_none (by omega), List.getElem?_eq_none (by omega)]
        refine SV.exit ?_
        refine SV.te ?_
        refine SV.te ?_
        refine SV.bh ?_
        refine SV.tn ?_
        refine SV.seq' ?_
        refine SV.region ?_
        refine SV.op (OpL.ok (nb := 0) (ok_move (v := V.one (.sc _)) (.inr rfl) rfl) rfl (gle rfl)) rfl ?_
        refine SV.nil ?_
        refine SV.tn ?_
        refine SV.ret ?_
        apply SV.done (hf := Try.results86) (ht := rfl) (he := .inl rfl)
        case hr => exact (ResAll.cons (ResOk.tmp (ag := false) (xs := [.sc _]) rfl) ResAll.nil')
        case h2 => simp [two]
        refine ⟨rfl, ⟨?_, trivial⟩, trivial⟩ <;> (show some (T.lit (Value.bool _)) = some (T.lit (Value.bool _)); refine congrArg (fun z => some (T.lit (Value.bool z))) ?_; first | (rw [decide_eq_true hXY]; done) | (rw [decide_eq_false hne]; done))
set_option maxRecDepth 100000 in
set_option maxHeartbeats 2000000 in
theorem veqsort_s (a b : SorterD) (hA : a.Wf) (hB : b.Wf) : VC Try.prog 32 [(true, tSorter a), (true, tSorter b)] false [(false, [.lit (.bool (decide (a = b)))])] := by
  refine VC.enter Try.func32 rfl Try.ntmps32 (gle rfl) fun E hE => ?_
  refine SV.seq' ?_
  refine SV.region ?_
  refine SV.op (OpMk.ok (ok_box (kk := 0) (ag := true) (xs := [.ro _, .sc _, .ro _, .ro _, .ro _, .ro _, .sc _, .sc _, .sc _, .sc _]) rfl rfl rfl (fun h => by cases h) rfl rfl (gle rfl))) rfl ?_
  refine SV.op (OpMk.ok (ok_box (kk := 1) (ag := true) (xs := [.ro _, .sc _, .ro _, .ro _, .ro _, .ro _, .sc _, .sc _, .sc _, .sc _]) rfl rfl rfl (fun h => by cases h) rfl rfl (gle rfl))) rfl ?_
  refine SV.op (OpL.ok (nb := 2) (ok_move (v := V.one (.sc _)) (.inr rfl) rfl) rfl (gle rfl)) rfl ?_
  refine SV.nil ?_
  refine SV.tn ?_
  refine SV.seq' ?_
  refine SV.region ?_
  refine SV.op (OpL.ok (nb := 2) (ok_field_bp (b := 0) (o' := 0) (off := 0) rfl rfl fld_impl_Sorter_0) rfl (gle rfl)) rfl ?_
  refine SV.op (OpL.ok (nb := 2) (ok_load_bp (b := 0) (i := 0) (ag := false) (m := 1) (ys := [.ro _]) rfl rfl rfl agg_s_impl_Row sz_s_impl_Row (fun _ => rfl) rfl rfl (gle rfl)) rfl (gle rfl)) rfl ?_
  refine SV.op (OpL.ok (nb := 2) (ok_field_bp (b := 1) (o' := 0) (off := 0) rfl rfl fld_impl_Sorter_0) rfl (gle rfl)) rfl ?_
  refine SV.op (OpL.ok (nb := 2) (ok_load_bp (b := 1) (i := 0) (ag := false) (m := 1) (ys := [.ro _]) rfl rfl rfl agg_s_impl_Row sz_s_impl_Row (fun _ => rfl) rfl rfl (gle rfl)) rfl (gle rfl)) rfl ?_
  refine SV.op (OpMk.ok (ok_call (ls := [(false, [.sc _])]) rfl rfl ⟨_, _, Try.func74, rfl, by decide⟩ (vl6_t a.fInput b.fInput hA.inp hB.inp (by have := hA.size; omega) (by have := hB.size; omega)) ⟨⟨[.ro _], rfl, ⟨rfl, trivial⟩⟩, ⟨[.ro _], rfl, ⟨rfl, trivial⟩⟩, trivial⟩ rfl (gle rfl))) rfl ?_
  refine SV.op (OpL.ok (nb := 2) (ok_move (v := V.one (.sc _)) (.inl rfl) rfl) rfl (gle rfl)) rfl ?_
  refine SV.split (d := 10) rfl (fun hg0 => ?_) (fun hg0 => ?_)
  · skip   -- g0.T
    refine SV.opY (OpL.ok (nb := 2) (ok_field_bp (b := 0) (o' := 0) (off := 1) rfl rfl fld_impl_Sorter_1) rfl (gle rfl)) rfl rfl rfl (gle rfl) rfl rfl ?_
    refine SV.opY (OpL.ok (nb := 2) (ok_load_bp (b := 0) (i := 1) (ag := false) (m := 1) (ys := [.sc _]) rfl rfl rfl agg_int sz_int (fun _ => rfl) rfl rfl (gle rfl)) rfl (gle rfl)) rfl rfl rfl (gle rfl) rfl rfl ?_
    refine SV.opY (OpL.ok (nb := 2) (ok_field_bp (b := 1) (o' := 0) (off := 1) rfl rfl fld_impl_Sorter_1) rfl (gle rfl)) rfl rfl rfl (gle rfl) rfl rfl ?_
    refine SV.opY (OpL.ok (nb := 2) (ok_load_bp (b := 1) (i := 1) (ag := false) (m := 1) (ys := [.sc _]) rfl rfl rfl agg_int sz_int (fun _ => rfl) rfl rfl (gle rfl)) rfl (gle rfl)) rfl rfl rfl (gle rfl) rfl rfl ?_
    refine SV.opY (OpL.ok (nb := 2) (ok_s2 (x := .tmp 12) (x' := .tmp 14) (VScal.one rfl) (VScal.one rfl) (fun ρ h1 h2 w => by go_simp; (try go_bits); with_reducible rfl) rfl) rfl (gle rfl)) rfl rfl rfl (gle rfl) rfl rfl ?_
    refine SV.op (OpL.ok (nb := 2) (ok_pickT (v := V.one (.sc _)) rfl rfl rfl) rfl (gle rfl)) rfl ?_
    refine SV.op (OpL.ok (nb := 2) (ok_move (v := V.one (.sc _)) (.inl rfl) rfl) rfl (gle rfl)) rfl ?_
    refine SV.split (d := 17) rfl (fun hg1 => ?_) (fun hg1 => ?_)
    · skip   -- g1.T
      refine SV.opY (OpL.ok (nb := 2) (ok_field_bp (b := 0) (o' := 0) (off := 2) rfl rfl fld_impl_Sorter_2) rfl (gle rfl)) rfl rfl rfl (gle rfl) rfl rfl ?_
      refine SV.opY (OpL.ok (nb := 2) (ok_load_bp (b := 0) (i := 2) (ag := false) (m := 1) (ys := [.ro _]) rfl rfl rfl agg_s_impl_Row sz_s_impl_Row (fun _ => rfl) rfl rfl (gle rfl)) rfl (gle rfl)) rfl rfl rfl (gle rfl) rfl rfl ?_
      refine SV.opY (OpL.ok (nb := 2) (ok_field_bp (b := 1) (o' := 0) (off := 2) rfl rfl fld_impl_Sorter_2) rfl (gle rfl)) rfl rfl rfl (gle rfl) rfl rfl ?_
      refine SV.opY (OpL.ok (nb := 2) (ok_load_bp (b := 1) (i := 2) (ag := false) (m := 1) (ys := [.ro _]) rfl rfl rfl agg_s_impl_Row sz_s_impl_Row (fun _ => rfl) rfl rfl (gle rfl)) rfl (gle rfl)) rfl rfl rfl (gle rfl) rfl rfl ?_
      refine SV.opY (OpMk.ok (ok_call (ls := [(false, [.sc _])]) rfl rfl ⟨_, _, Try.func74, rfl, by decide⟩ (vl6_t a.fHeap b.fHeap hA.heap hB.heap (by have := hA.size; omega) (by have := hB.size; omega)) ⟨⟨[.ro _], rfl, ⟨rfl, trivial⟩⟩, ⟨[.ro _], rfl, ⟨rfl, trivial⟩⟩, trivial⟩ rfl (gle rfl))) rfl rfl rfl (gle rfl) rfl rfl ?_
      refine SV.op (OpL.ok (nb := 2) (ok_pickT (v := V.one (.sc _)) rfl rfl rfl) rfl (gle rfl)) rfl ?_
      refine SV.op (OpL.ok (nb := 2) (ok_move (v := V.one (.sc _)) (.inl rfl) rfl) rfl (gle rfl)) rfl ?_
      refine SV.split (d := 24) rfl (fun hg2 => ?_) (fun hg2 => ?_)
      · skip   -- g2.T
        refine SV.opY (OpL.ok (nb := 2) (ok_field_bp (b := 0) (o' := 0) (off := 3) rfl rfl fld_impl_Sorter_3) rfl (gle rfl)) rfl rfl rfl (gle rfl) rfl rfl ?_
        refine SV.opY (OpL.ok (nb := 2) (ok_load_bp (b := 0) (i := 3) (ag := false) (m := 1) (ys := [.ro _]) rfl rfl rfl agg_s_impl_Row sz_s_impl_Row (fun _ => rfl) rfl rfl (gle rfl)) rfl (gle rfl)) rfl rfl rfl (gle rfl) rfl rfl ?_
        refine SV.opY (OpL.ok (nb := 2) (ok_field_bp (b := 1) (o' := 0) (off := 3) rfl rfl fld_impl_Sorter_3) rfl (gle rfl)) rfl rfl rfl (gle rfl) rfl rfl ?_
        refine SV.opY (OpL.ok (nb := 2) (ok_load_bp (b := 1) (i := 3) (ag := false) (m := 1) (ys := [.ro _]) rfl rfl rfl agg_s_impl_Row sz_s_impl_Row (fun _ => rfl) rfl rfl (gle rfl)) rfl (gle rfl)) rfl rfl rfl (gle rfl) rfl rfl ?_
        refine SV.opY (OpMk.ok (ok_call (ls := [(false, [.sc _])]) rfl rfl ⟨_, _, Try.func74, rfl, by decide⟩ (vl6_t a.fDeferred b.fDeferred hA.late hB.late (by have := hA.size; omega) (by have := hB.size; omega)) ⟨⟨[.ro _], rfl, ⟨rfl, trivial⟩⟩, ⟨[.ro _], rfl, ⟨rfl, trivial⟩⟩, trivial⟩ rfl (gle rfl))) rfl rfl rfl (gle rfl) rfl rfl ?_
        refine SV.op (OpL.ok (nb := 2) (ok_pickT (v := V.one (.sc _)) rfl rfl rfl) rfl (gle rfl)) rfl ?_
        refine SV.op (OpL.ok (nb := 2) (ok_move (v := V.one (.sc _)) (.inl rfl) rfl) rfl (gle rfl)) rfl ?_
        refine SV.split (d := 31) rfl (fun hg3 => ?_) (fun hg3 => ?_)
        · skip   -- g3.T
          refine SV.opY (OpL.ok (nb := 2) (ok_field_bp (b := 0) (o' := 0) (off := 4) rfl rfl fld_impl_Sorter_4) rfl (gle rfl)) rfl rfl rfl (gle rfl) rfl rfl ?_
          refine SV.opY (OpL.ok (nb := 2) (ok_load_bp (b := 0) (i := 4) (ag := false) (m := 1) (ys := [.ro _]) rfl rfl rfl agg_s_impl_Row sz_s_impl_Row (fun _ => rfl) rfl rfl (gle rfl)) rfl (gle rfl)) rfl rfl rfl (gle rfl) rfl rfl ?_
          refine SV.opY (OpL.ok (nb := 2) (ok_field_bp (b := 1) (o' := 0) (off := 4) rfl rfl fld_impl_Sorter_4) rfl (gle rfl)) rfl rfl rfl (gle rfl) rfl rfl ?_
          refine SV.opY (OpL.ok (nb := 2) (ok_load_bp (b := 1) (i := 4) (ag := false) (m := 1) (ys := [.ro _]) rfl rfl rfl agg_s_impl_Row sz_s_impl_Row (fun _ => rfl) rfl rfl (gle rfl)) rfl (gle rfl)) rfl rfl rfl (gle rfl) rfl rfl ?_
          refine SV.opY (OpMk.ok (ok_call (ls := [(false, [.sc _])]) rfl rfl ⟨_, _, Try.func74, rfl, by decide⟩ (vl6_t a.fOutput b.fOutput hA.out hB.out (by have := hA.size; omega) (by have := hB.size; omega)) ⟨⟨[.ro _], rfl, ⟨rfl, trivial⟩⟩, ⟨[.ro _], rfl, ⟨rfl, trivial⟩⟩, trivial⟩ rfl (gle rfl))) rfl rfl rfl (gle rfl) rfl rfl ?_
          refine SV.op (OpL.ok (nb := 2) (ok_pickT (v := V.one (.sc _)) rfl rfl rfl) rfl (gle rfl)) rfl ?_
          refine SV.op (OpL.ok (nb := 2) (ok_move (v := V.one (.sc _)) (.inl rfl) rfl) rfl (gle rfl)) rfl ?_
          refine SV.split (d := 38) rfl (fun hg4 => ?_) (fun hg4 => ?_)
          · skip   -- g4.T
            refine SV.opY (OpL.ok (nb := 2) (ok_field_bp (b := 0) (o' := 0) (off := 5) rfl rfl fld_impl_Sorter_5) rfl (gle rfl)) rfl rfl rfl (gle rfl) rfl rfl ?_
            refine SV.opY (OpL.ok (nb := 2) (ok_load_bp (b := 0) (i := 5) (ag := false) (m := 1) (ys := [.ro _]) rfl rfl rfl agg_s_impl_Run sz_s_impl_Run (fun _ => rfl) rfl rfl (gle rfl)) rfl (gle rfl)) rfl rfl rfl (gle rfl) rfl rfl ?_
            refine SV.opY (OpL.ok (nb := 2) (ok_field_bp (b := 1) (o' := 0) (off := 5) rfl rfl fld_impl_Sorter_5) rfl (gle rfl)) rfl rfl rfl (gle rfl) rfl rfl ?_
            refine SV.opY (OpL.ok (nb := 2) (ok_load_bp (b := 1) (i := 5) (ag := false) (m := 1) (ys := [.ro _]) rfl rfl rfl agg_s_impl_Run sz_s_impl_Run (fun _ => rfl) rfl rfl (gle rfl)) rfl (gle rfl)) rfl rfl rfl (gle rfl) rfl rfl ?_
            refine SV.opY (OpMk.ok (ok_call (ls := [(false, [.sc _])]) rfl rfl ⟨_, _, Try.func86, rfl, by decide⟩ (vsruns_s a.fRuns b.fRuns hA.runs (fun p hp => by have := hA.run hp; omega) (by have := hA.size; omega) hB.runs (fun p hp => by have := hB.run hp; omega) (by have := hB.size; omega)) ⟨⟨[.ro _], rfl, ⟨rfl, trivial⟩⟩, ⟨[.ro _], rfl, ⟨rfl, trivial⟩⟩, trivial⟩ rfl (gle rfl))) rfl rfl rfl (gle rfl) rfl rfl ?_
            refine SV.op (OpL.ok (nb := 2) (ok_pickT (v := V.one (.sc _)) rfl rfl rfl) rfl (gle rfl)) rfl ?_
            refine SV.op (OpL.ok (nb := 2) (ok_move (v := V.one (.sc _)) (.inl rfl) rfl) rfl (gle rfl)) rfl ?_
            refine SV.split (d := 45) rfl (fun hg5 => ?_) (fun hg5 => ?_)
            · skip   -- g5.T
              refine SV.opY (OpL.ok (nb := 2) (ok_field_bp (b := 0) (o' := 0) (off := 6) rfl rfl fld_impl_Sorter_6) rfl (gle rfl)) rfl rfl rfl (gle rfl) rfl rfl ?_
              refine SV.opY (OpL.ok (nb := 2) (ok_load_bp (b := 0) (i := 6) (ag := false) (m := 1) (ys := [.sc _]) rfl rfl rfl agg_int sz_int (fun _ => rfl) rfl rfl (gle rfl)) rfl (gle rfl)) rfl rfl rfl (gle rfl) rfl rfl ?_
              refine SV.opY (OpL.ok (nb := 2) (ok_field_bp (b := 1) (o' := 0) (off := 6) rfl rfl fld_impl_Sorter_6) rfl (gle rfl)) rfl rfl rfl (gle rfl) rfl rfl ?_
              refine SV.opY (OpL.ok (nb := 2) (ok_load_bp (b := 1) (i := 6) (ag := false) (m := 1) (ys := [.sc _]) rfl rfl rfl agg_int sz_int (fun _ => rfl) rfl rfl (gle rfl)) rfl (gle rfl)) rfl rfl rfl (gle rfl) rfl rfl ?_
              refine SV.opY (OpL.ok (nb := 2) (ok_s2 (x := .tmp 47) (x' := .tmp 49) (VScal.one rfl) (VScal.one rfl) (fun ρ h1 h2 w => by go_simp; (try go_bits); with_reducible rfl) rfl) rfl (gle rfl)) rfl rfl rfl (gle rfl) rfl rfl ?_
              refine SV.op (OpL.ok (nb := 2) (ok_pickT (v := V.one (.sc _)) rfl rfl rfl) rfl (gle rfl)) rfl ?_
              refine SV.op (OpL.ok (nb := 2) (ok_move (v := V.one (.sc _)) (.inl rfl) rfl) rfl (gle rfl)) rfl ?_
              refine SV.split (d := 52) rfl (fun hg6 => ?_) (fun hg6 => ?_)
              · skip   -- g6.T
                refine SV.opY (OpL.ok (nb := 2) (ok_field_bp (b := 0) (o' := 0) (off := 7) rfl rfl fld_impl_Sorter_7) rfl (gle rfl)) rfl rfl rfl (gle rfl) rfl rfl ?_
                refine SV.opY (OpL.ok (nb := 2) (ok_load_bp (b := 0) (i := 7) (ag := false) (m := 1) (ys := [.sc _]) rfl rfl rfl agg_int sz_int (fun _ => rfl) rfl rfl (gle rfl)) rfl (gle rfl)) rfl rfl rfl (gle rfl) rfl rfl ?_
                refine SV.opY (OpL.ok (nb := 2) (ok_field_bp (b := 1) (o' := 0) (off := 7) rfl rfl fld_impl_Sorter_7) rfl (gle rfl)) rfl rfl rfl (gle rfl) rfl rfl ?_
                refine SV.opY (OpL.ok (nb := 2) (ok_load_bp (b := 1) (i := 7) (ag := false) (m := 1) (ys := [.sc _]) rfl rfl rfl agg_int sz_int (fun _ => rfl) rfl rfl (gle rfl)) rfl (gle rfl)) rfl rfl rfl (gle rfl) rfl rfl ?_
                refine SV.opY (OpL.ok (nb := 2) (ok_s2 (x := .tmp 54) (x' := .tmp 56) (VScal.one rfl) (VScal.one rfl) (fun ρ h1 h2 w => by go_simp; (try go_bits); with_reducible rfl) rfl) rfl (gle rfl)) rfl rfl rfl (gle rfl) rfl rfl ?_
                refine SV.op (OpL.ok (nb := 2) (ok_pickT (v := V.one (.sc _)) rfl rfl rfl) rfl (gle rfl)) rfl ?_
                refine SV.op (OpL.ok (nb := 2) (ok_move (v := V.one (.sc _)) (.inl rfl) rfl) rfl (gle rfl)) rfl ?_
                refine SV.split (d := 59) rfl (fun hg7 => ?_) (fun hg7 => ?_)
                · skip   -- g7.T
                  refine SV.opY (OpL.ok (nb := 2) (ok_field_bp (b := 0) (o' := 0) (off := 8) rfl rfl fld_impl_Sorter_8) rfl (gle rfl)) rfl rfl rfl (gle rfl) rfl rfl ?_
                  refine SV.opY (OpL.ok (nb := 2) (ok_load_bp (b := 0) (i := 8) (ag := false) (m := 1) (ys := [.sc _]) rfl rfl rfl agg_int sz_int (fun _ => rfl) rfl rfl (gle rfl)) rfl (gle rfl)) rfl rfl rfl (gle rfl) rfl rfl ?_
                  refine SV.opY (OpL.ok (nb := 2) (ok_field_bp (b := 1) (o' := 0) (off := 8) rfl rfl fld_impl_Sorter_8) rfl (gle rfl)) rfl rfl rfl (gle rfl) rfl rfl ?_
                  refine SV.opY (OpL.ok (nb := 2) (ok_load_bp (b := 1) (i := 8) (ag := false) (m := 1) (ys := [.sc _]) rfl rfl rfl agg_int sz_int (fun _ => rfl) rfl rfl (gle rfl)) rfl (gle rfl)) rfl rfl rfl (gle rfl) rfl rfl ?_
                  refine SV.opY (OpL.ok (nb := 2) (ok_s2 (x := .tmp 61) (x' := .tmp 63) (VScal.one rfl) (VScal.one rfl) (fun ρ h1 h2 w => by go_simp; (try go_bits); with_reducible rfl) rfl) rfl (gle rfl)) rfl rfl rfl (gle rfl) rfl rfl ?_
                  refine SV.op (OpL.ok (nb := 2) (ok_pickT (v := V.one (.sc _)) rfl rfl rfl) rfl (gle rfl)) rfl ?_
                  refine SV.op (OpL.ok (nb := 2) (ok_move (v := V.one (.sc _)) (.inl rfl) rfl) rfl (gle rfl)) rfl ?_
                  refine SV.split (d := 66) rfl (fun hg8 => ?_) (fun hg8 => ?_)
                  · skip   -- g8.T
                    refine SV.opY (OpL.ok (nb := 2) (ok_field_bp (b := 0) (o' := 0) (off := 9) rfl rfl fld_impl_Sorter_9) rfl (gle rfl)) rfl rfl rfl (gle rfl) rfl rfl ?_
                    refine SV.opY (OpL.ok (nb := 2) (ok_load_bp (b := 0) (i := 9) (ag := false) (m := 1) (ys := [.sc _]) rfl rfl rfl agg_int sz_int (fun _ => rfl) rfl rfl (gle rfl)) rfl (gle rfl)) rfl rfl rfl (gle rfl) rfl rfl ?_
                    refine SV.opY (OpL.ok (nb := 2) (ok_field_bp (b := 1) (o' := 0) (off := 9) rfl rfl fld_impl_Sorter_9) rfl (gle rfl)) rfl rfl rfl (gle rfl) rfl rfl ?_
                    refine SV.opY (OpL.ok (nb := 2) (ok_load_bp (b := 1) (i := 9) (ag := false) (m := 1) (ys := [.sc _]) rfl rfl rfl agg_int sz_int (fun _ => rfl) rfl rfl (gle rfl)) rfl (gle rfl)) rfl rfl rfl (gle rfl) rfl rfl ?_
                    refine SV.opY (OpL.ok (nb := 2) (ok_s2 (x := .tmp 68) (x' := .tmp 70) (VScal.one rfl) (VScal.one rfl) (fun ρ h1 h2 w => by go_simp; (try go_bits); with_reducible rfl) rfl) rfl (gle rfl)) rfl rfl rfl (gle rfl) rfl rfl ?_
                    refine SV.op (OpL.ok (nb := 2) (ok_pickT (v := V.one (.sc _)) rfl rfl rfl) rfl (gle rfl)) rfl ?_
                    refine SV.op (OpL.ok (nb := 2) (ok_move (v := V.one (.sc _)) (.inr rfl) rfl) rfl (gle rfl)) rfl ?_
                    refine SV.nil ?_
                    refine SV.tn ?_
                    refine SV.ret ?_
                    apply SV.done (hf := Try.results32) (ht := rfl) (he := .inl rfl)
                    case hr => exact (ResAll.cons (ResOk.tmp (ag := false) (xs := [.sc _]) rfl) ResAll.nil')
                    case h2 => simp [two]
                    refine ⟨rfl, ⟨?_, trivial⟩, trivial⟩ <;> (show some (T.lit (Value.bool _)) = some (T.lit (Value.bool _)); refine congrArg (fun z => some (T.lit (Value.bool z))) ?_; (clear hA hB; obtain ⟨a1, a2, a3, a4, a5, a6, a7, a8, a9, a10⟩ := a; obtain ⟨b1, b2, b3, b4, b5, b6, b7, b8, b9, b10⟩ := b; rw [Bool.eq_iff_iff]; simp only [SorterD.mk.injEq, decide_eq_true_eq]; first | (simp_all; done) | (simp at *; simp_all; done) | (constructor <;> intro h <;> simp_all; done)))
                  · skip   -- g8.F
                    refine SV.opN rfl rfl rfl (gle rfl) rfl rfl rfl (gle rfl) ?_
                    refine SV.opN rfl rfl rfl (gle rfl) rfl rfl rfl (gle rfl) ?_
                    refine SV.opN rfl rfl rfl (gle rfl) rfl rfl rfl (gle rfl) ?_
                    refine SV.opN rfl rfl rfl (gle rfl) rfl rfl rfl (gle rfl) ?_
                    refine SV.opN rfl rfl rfl (gle rfl) rfl rfl rfl (gle rfl) ?_
                    refine SV.op (OpL.ok (nb := 2) (ok_pickF (v := V.one (.sc _)) rfl rfl rfl) rfl (gle rfl)) rfl ?_
                    refine SV.op (OpL.ok (nb := 2) (ok_move (v := V.one (.sc _)) (.inr rfl) rfl) rfl (gle rfl)) rfl ?_
                    refine SV.nil ?_
                    refine SV.tn ?_
                    refine SV.ret ?_
                    apply SV.done (hf := Try.results32) (ht := rfl) (he := .inl rfl)
                    case hr => exact (ResAll.cons (ResOk.tmp (ag := false) (xs := [.sc _]) rfl) ResAll.nil')
                    case h2 => simp [two]
                    refine ⟨rfl, ⟨?_, trivial⟩, trivial⟩ <;> (show some (T.lit (Value.bool _)) = some (T.lit (Value.bool _)); refine congrArg (fun z => some (T.lit (Value.bool z))) ?_; (clear hA hB; obtain ⟨a1, a2, a3, a4, a5, a6, a7, a8, a9, a10⟩ := a; obtain ⟨b1, b2, b3, b4, b5, b6, b7, b8, b9, b10⟩ := b; rw [Bool.eq_iff_iff]; simp only [SorterD.mk.injEq, decide_eq_true_eq]; first | (simp_all; done) | (simp at *; simp_all; done) | (constructor <;> intro h <;> simp_all; done)))
                · skip   -- g7.F
                  refine SV.opN rfl rfl rfl (gle rfl) rfl rfl rfl (gle rfl) ?_
                  refine SV.opN rfl rfl rfl (gle rfl) rfl rfl rfl (gle rfl) ?_
                  refine SV.opN rfl rfl rfl (gle rfl) rfl rfl rfl (gle rfl) ?_
                  refine SV.opN rfl rfl rfl (gle rfl) rfl rfl rfl (gle rfl) ?_
                  refine SV.opN rfl rfl rfl (gle rfl) rfl rfl rfl (gle rfl) ?_
                  refine SV.op (OpL.ok (nb := 2) (ok_pickF (v := V.one (.sc _)) rfl rfl rfl) rfl (gle rfl)) rfl ?_
                  refine SV.op (OpL.ok (nb := 2) (ok_move (v := V.one (.sc _)) (.inl rfl) rfl) rfl (gle rfl)) rfl ?_
                  refine SV.opN rfl rfl rfl (gle rfl) rfl rfl rfl (gle rfl) ?_
                  refine SV.opN rfl rfl rfl (gle rfl) rfl rfl rfl (gle rfl) ?_
                  refine SV.opN rfl rfl rfl (gle rfl) rfl rfl rfl (gle rfl) ?_
                  refine SV.opN rfl rfl rfl (gle rfl) rfl rfl rfl (gle rfl) ?_
                  refine SV.opN rfl rfl rfl (gle rfl) rfl rfl rfl (gle rfl) ?_
                  refine SV.op (OpL.ok (nb := 2) (ok_pickF (v := V.one (.sc _)) rfl rfl rfl) rfl (gle rfl)) rfl ?_
                  refine SV.op (OpL.ok (nb := 2) (ok_move (v := V.one (.sc _)) (.inr rfl) rfl) rfl (gle rfl)) rfl ?_
                  refine SV.nil ?_
                  refine SV.tn ?_
                  refine SV.ret ?_
                  apply SV.done (hf := Try.results32) (ht := rfl) (he := .inl rfl)
                  case hr => exact (ResAll.cons (ResOk.tmp (ag := false) (xs := [.sc _]) rfl) ResAll.nil')
                  case h2 => simp [two]
                  refine ⟨rfl, ⟨?_, trivial⟩, trivial⟩ <;> (show some (T.lit (Value.bool _)) = some (T.lit (Value.bool _)); refine congrArg (fun z => some (T.lit (Value.bool z))) ?_; (clear hA hB; obtain ⟨a1, a2, a3, a4, a5, a6, a7, a8, a9, a10⟩ := a; obtain ⟨b1, b2, b3, b4, b5, b6, b7, b8, b9, b10⟩ := b; rw [Bool.eq_iff_iff]; simp only [SorterD.mk.injEq, decide_eq_true_eq]; first | (simp_all; done) | (simp at *; simp_all; done) | (constructor <;> intro h <;> simp_all; done)))
              · skip   -- g6.F
                refine SV.opN rfl rfl rfl (gle rfl) rfl rfl rfl (gle rfl) ?_
                refine SV.opN rfl rfl rfl (gle rfl) rfl rfl rfl (gle rfl) ?_
                refine SV.opN rfl rfl rfl (gle rfl) rfl rfl rfl (gle rfl) ?_
                refine SV.opN rfl rfl rfl (gle rfl) rfl rfl rfl (gle rfl) ?_
                refine SV.opN rfl rfl rfl (gle rfl) rfl rfl rfl (gle rfl) ?_
                refine SV.op (OpL.ok (nb := 2) (ok_pickF (v := V.one (.sc _)) rfl rfl rfl) rfl (gle rfl)) rfl ?_
                refine SV.op (OpL.ok (nb := 2) (ok_move (v := V.one (.sc _)) (.inl rfl) rfl) rfl (gle rfl)) rfl ?_
                refine SV.opN rfl rfl rfl (gle rfl) rfl rfl rfl (gle rfl) ?_
                refine SV.opN rfl rfl rfl (gle rfl) rfl rfl rfl (gle rfl) ?_
                refine SV.opN rfl rfl rfl (gle rfl) rfl rfl rfl (gle rfl) ?_
                refine SV.opN rfl rfl rfl (gle rfl) rfl rfl rfl (gle rfl) ?_
                refine SV.opN rfl rfl rfl (gle rfl) rfl rfl rfl (gle rfl) ?_
                refine SV.op (OpL.ok (nb := 2) (ok_pickF (v := V.one (.sc _)) rfl rfl rfl) rfl (gle rfl)) rfl ?_
                refine SV.op (OpL.ok (nb := 2) (ok_move (v := V.one (.sc _)) (.inl rfl) rfl) rfl (gle rfl)) rfl ?_
                refine SV.opN rfl rfl rfl (gle rfl) rfl rfl rfl (gle rfl) ?_
                refine SV.opN rfl rfl rfl (gle rfl) rfl rfl rfl (gle rfl) ?_
                refine SV.opN rfl rfl rfl (gle rfl) rfl rfl rfl (gle rfl) ?_
                refine SV.opN rfl rfl rfl (gle rfl) rfl rfl rfl (gle rfl) ?_
                refine SV.opN rfl rfl rfl (gle rfl) rfl rfl rfl (gle rfl) ?_
                refine SV.op (OpL.ok (nb := 2) (ok_pickF (v := V.one (.sc _)) rfl rfl rfl) rfl (gle rfl)) rfl ?_
                refine SV.op (OpL.ok (nb := 2) (ok_move (v := V.one (.sc _)) (.inr rfl) rfl) rfl (gle rfl)) rfl ?_
                refine SV.nil ?_
                refine SV.tn ?_
                refine SV.ret ?_
                apply SV.done (hf := Try.results32) (ht := rfl) (he := .inl rfl)
                case hr => exact (ResAll.cons (ResOk.tmp (ag := false) (xs := [.sc _]) rfl) ResAll.nil')
                case h2 => simp [two]
                refine ⟨rfl, ⟨?_, trivial⟩, trivial⟩ <;> (show some (T.lit (Value.bool _)) = some (T.lit (Value.bool _)); refine congrArg (fun z => some (T.lit (Value.bool z))) ?_; (clear hA hB; obtain ⟨a1, a2, a3, a4, a5, a6, a7, a8, a9, a10⟩ := a; obtain ⟨b1, b2, b3, b4, b5, b6, b7, b8, b9, b10⟩ := b; rw [Bool.eq_iff_iff]; simp only [SorterD.mk.injEq, decide_eq_true_eq]; first | (simp_all; done) | (simp at *; simp_all; done) | (constructor <;> intro h <;> simp_all; done)))
            · skip   -- g5.F
              refine SV.opN rfl rfl rfl (gle rfl) rfl rfl rfl (gle rfl) ?_
              refine SV.opN rfl rfl rfl (gle rfl) rfl rfl rfl (gle rfl) ?_
              refine SV.opN rfl rfl rfl (gle rfl) rfl rfl rfl (gle rfl) ?_
              refine SV.opN rfl rfl rfl (gle rfl) rfl rfl rfl (gle rfl) ?_
              refine SV.opN rfl rfl rfl (gle rfl) rfl rfl rfl (gle rfl) ?_
              refine SV.op (OpL.ok (nb := 2) (ok_pickF (v := V.one (.sc _)) rfl rfl rfl) rfl (gle rfl)) rfl ?_
              refine SV.op (OpL.ok (nb := 2) (ok_move (v := V.one (.sc _)) (.inl rfl) rfl) rfl (gle rfl)) rfl ?_
              refine SV.opN rfl rfl rfl (gle rfl) rfl rfl rfl (gle rfl) ?_
              refine SV.opN rfl rfl rfl (gle rfl) rfl rfl rfl (gle rfl) ?_
              refine SV.opN rfl rfl rfl (gle rfl) rfl rfl rfl (gle rfl) ?_
              refine SV.opN rfl rfl rfl (gle rfl) rfl rfl rfl (gle rfl) ?_
              refine SV.opN rfl rfl rfl (gle rfl) rfl rfl rfl (gle rfl) ?_
              refine SV.op (OpL.ok (nb := 2) (ok_pickF (v := V.one (.sc _)) rfl rfl rfl) rfl (gle rfl)) rfl ?_
              refine SV.op (OpL.ok (nb := 2) (ok_move (v := V.one (.sc _)) (.inl rfl) rfl) rfl (gle rfl)) rfl ?_
              refine SV.opN rfl rfl rfl (gle rfl) rfl rfl rfl (gle rfl) ?_
              refine SV.opN rfl rfl rfl (gle rfl) rfl rfl rfl (gle rfl) ?_
              refine SV.opN rfl rfl rfl (gle rfl) rfl rfl rfl (gle rfl) ?_
              refine SV.opN rfl rfl rfl (gle rfl) rfl rfl rfl (gle rfl) ?_
              refine SV.opN rfl rfl rfl (gle rfl) rfl rfl rfl (gle rfl) ?_
              refine SV.op (OpL.ok (nb := 2) (ok_pickF (v := V.one (.sc _)) rfl rfl rfl) rfl (gle rfl)) rfl ?_
              refine SV.op (OpL.ok (nb := 2) (ok_move (v := V.one (.sc _)) (.inl rfl) rfl) rfl (gle rfl)) rfl ?_
              refine SV.opN rfl rfl rfl (gle rfl) rfl rfl rfl (gle rfl) ?_
              refine SV.opN rfl rfl rfl (gle rfl) rfl rfl rfl (gle rfl) ?_
              refine SV.opN rfl rfl rfl (gle rfl) rfl rfl rfl (gle rfl) ?_
              refine SV.opN rfl rfl rfl (gle rfl) rfl rfl rfl (gle rfl) ?_
              refine SV.opN rfl rfl rfl (gle rfl) rfl rfl rfl (gle rfl) ?_
              refine SV.op (OpL.ok (nb := 2) (ok_pickF (v := V.one (.sc _)) rfl rfl rfl) rfl (gle rfl)) rfl ?_
              refine SV.op (OpL.ok (nb := 2) (ok_move (v := V.one (.sc _)) (.inr rfl) rfl) rfl (gle rfl)) rfl ?_
              refine SV.nil ?_
              refine SV.tn ?_
              refine SV.ret ?_
              apply SV.done (hf := Try.results32) (ht := rfl) (he := .inl rfl)
              case hr => exact (ResAll.cons (ResOk.tmp (ag := false) (xs := [.sc _]) rfl) ResAll.nil')
              case h2 => simp [two]
              refine ⟨rfl, ⟨?_, trivial⟩, trivial⟩ <;> (show some (T.lit (Value.bool _)) = some (T.lit (Value.bool _)); refine congrArg (fun z => some (T.lit (Value.bool z))) ?_; (clear hA hB; obtain ⟨a1, a2, a3, a4, a5, a6, a7, a8, a9, a10⟩ := a; obtain ⟨b1, b2, b3, b4, b5, b6, b7, b8, b9, b10⟩ := b; rw [Bool.eq_iff_iff]; simp only [SorterD.mk.injEq, decide_eq_true_eq]; first | (simp_all; done) | (simp at *; simp_all; done) | (constructor <;> intro h <;> simp_all; done)))
          · skip   -- g4.F
            refine SV.opN rfl rfl rfl (gle rfl) rfl rfl rfl (gle rfl) ?_
            refine SV.opN rfl rfl rfl (gle rfl) rfl rfl rfl (gle rfl) ?_
            refine SV.opN rfl rfl rfl (gle rfl) rfl rfl rfl (gle rfl) ?_
            refine SV.opN rfl rfl rfl (gle rfl) rfl rfl rfl (gle rfl) ?_
            refine SV.opN rfl rfl rfl (gle rfl) rfl rfl rfl (gle rfl) ?_
            refine SV.op (OpL.ok (nb := 2) (ok_pickF (v := V.one (.sc _)) rfl rfl rfl) rfl (gle rfl)) rfl ?_
            refine SV.op (OpL.ok (nb := 2) (ok_move (v := V.one (.sc _)) (.inl rfl) rfl) rfl (gle rfl)) rfl ?_
            refine SV.opN rfl rfl rfl (gle rfl) rfl rfl rfl (gle rfl) ?_
            refine SV.opN rfl rfl rfl (gle rfl) rfl rfl rfl (gle rfl) ?_
            refine SV.opN rfl rfl rfl (gle rfl) rfl rfl rfl (gle rfl) ?_
            refine SV.opN rfl rfl rfl (gle rfl) rfl rfl rfl (gle rfl) ?_
            refine SV.opN rfl rfl rfl (gle rfl) rfl rfl rfl (gle rfl) ?_
            refine SV.op (OpL.ok (nb := 2) (ok_pickF (v := V.one (.sc _)) rfl rfl rfl) rfl (gle rfl)) rfl ?_
            refine SV.op (OpL.ok (nb := 2) (ok_move (v := V.one (.sc _)) (.inl rfl) rfl) rfl (gle rfl)) rfl ?_
            refine SV.opN rfl rfl rfl (gle rfl) rfl rfl rfl (gle rfl) ?_
            refine SV.opN rfl rfl rfl (gle rfl) rfl rfl rfl (gle rfl) ?_
            refine SV.opN rfl rfl rfl (gle rfl) rfl rfl rfl (gle rfl) ?_
            refine SV.opN rfl rfl rfl (gle rfl) rfl rfl rfl (gle rfl) ?_
            refine SV.opN rfl rfl rfl (gle rfl) rfl rfl rfl (gle rfl) ?_
            refine SV.op (OpL.ok (nb := 2) (ok_pickF (v := V.one (.sc _)) rfl rfl rfl) rfl (gle rfl)) rfl ?_
            refine SV.op (OpL.ok (nb := 2) (ok_move (v := V.one (.sc _)) (.inl rfl) rfl) rfl (gle rfl)) rfl ?_
            refine SV.opN rfl rfl rfl (gle rfl) rfl rfl rfl (gle rfl) ?_
            refine SV.opN rfl rfl rfl (gle rfl) rfl rfl rfl (gle rfl) ?_
            refine SV.opN rfl rfl rfl (gle rfl) rfl rfl rfl (gle rfl) ?_
            refine SV.opN rfl rfl rfl (gle rfl) rfl rfl rfl (gle rfl) ?_
            refine SV.opN rfl rfl rfl (gle rfl) rfl rfl rfl (gle rfl) ?_
            refine SV.op (OpL.ok (nb := 2) (ok_pickF (v := V.one (.sc _)) rfl rfl rfl) rfl (gle rfl)) rfl ?_
            refine SV.op (OpL.ok (nb := 2) (ok_move (v := V.one (.sc _)) (.inl rfl) rfl) rfl (gle rfl)) rfl ?_
            refine SV.opN rfl rfl rfl (gle rfl) rfl rfl rfl (gle rfl) ?_
            refine SV.opN rfl rfl rfl (gle rfl) rfl rfl rfl (gle rfl) ?_
            refine SV.opN rfl rfl rfl (gle rfl) rfl rfl rfl (gle rfl) ?_
            refine SV.opN rfl rfl rfl (gle rfl) rfl rfl rfl (gle rfl) ?_
            refine SV.opN rfl rfl rfl (gle rfl) rfl rfl rfl (gle rfl) ?_
            refine SV.op (OpL.ok (nb := 2) (ok_pickF (v := V.one (.sc _)) rfl rfl rfl) rfl (gle rfl)) rfl ?_
            refine SV.op (OpL.ok (nb := 2) (ok_move (v := V.one (.sc _)) (.inr rfl) rfl) rfl (gle rfl)) rfl ?_
            refine SV.nil ?_
            refine SV.tn ?_
            refine SV.ret ?_
            apply SV.done (hf := Try.results32) (ht := rfl) (he := .inl rfl)
            case hr => exact (ResAll.cons (ResOk.tmp (ag := false) (xs := [.sc _]) rfl) ResAll.nil')
            case h2 => simp [two]
            refine ⟨rfl, ⟨?_, trivial⟩, trivial⟩ <;> (show some (T.lit (Value.bool _)) = some (T.lit (Value.bool _)); refine congrArg (fun z => some (T.lit (Value.bool z))) ?_; (clear hA hB; obtain ⟨a1, a2, a3, a4, a5, a6, a7, a8, a9, a10⟩ := a; obtain ⟨b1, b2, b3, b4, b5, b6, b7, b8, b9, b10⟩ := b; rw [Bool.eq_iff_iff]; simp only [SorterD.mk.injEq, decide_eq_true_eq]; first | (simp_all; done) | (simp at *; simp_all; done) | (constructor <;> intro h <;> simp_all; done)))
        · skip   -- g3.F
          refine SV.opN rfl rfl rfl (gle rfl) rfl rfl rfl (gle rfl) ?_
          refine SV.opN rfl rfl rfl (gle rfl) rfl rfl rfl (gle rfl) ?_
          refine SV.opN rfl rfl rfl (gle rfl) rfl rfl rfl (gle rfl) ?_
          refine SV.opN rfl rfl rfl (gle rfl) rfl rfl rfl (gle rfl) ?_
          refine SV.opN rfl rfl rfl (gle rfl) rfl rfl rfl (gle rfl) ?_
          refine SV.op (OpL.ok (nb := 2) (ok_pickF (v := V.one (.sc _)) rfl rfl rfl) rfl (gle rfl)) rfl ?_
          refine SV.op (OpL.ok (nb := 2) (ok_move (v := V.one (.sc _)) (.inl rfl) rfl) rfl (gle rfl)) rfl ?_
          refine SV.opN rfl rfl rfl (gle rfl) rfl rfl rfl (gle rfl) ?_
          refine SV.opN rfl rfl rfl (gle rfl) rfl rfl rfl (gle rfl) ?_
          refine SV.opN rfl rfl rfl (gle rfl) rfl rfl rfl (gle rfl) ?_
          refine SV.opN rfl rfl rfl (gle rfl) rfl rfl rfl (gle rfl) ?_
          refine SV.opN rfl rfl rfl (gle rfl) rfl rfl rfl (gle rfl) ?_
          refine SV.op (OpL.ok (nb := 2) (ok_pickF (v := V.one (.sc _)) rfl rfl rfl) rfl (gle rfl)) rfl ?_
          refine SV.op (OpL.ok (nb := 2) (ok_move (v := V.one (.sc _)) (.inl rfl) rfl) rfl (gle rfl)) rfl ?_
          refine SV.opN rfl rfl rfl (gle rfl) rfl rfl rfl (gle rfl) ?_
          refine SV.opN rfl rfl rfl (gle rfl) rfl rfl rfl (gle rfl) ?_
          refine SV.opN rfl rfl rfl (gle rfl) rfl rfl rfl (gle rfl) ?_
          refine SV.opN rfl rfl rfl (gle rfl) rfl rfl rfl (gle rfl) ?_
          refine SV.opN rfl rfl rfl (gle rfl) rfl rfl rfl (gle rfl) ?_
          refine SV.op (OpL.ok (nb := 2) (ok_pickF (v := V.one (.sc _)) rfl rfl rfl) rfl (gle rfl)) rfl ?_
          refine SV.op (OpL.ok (nb := 2) (ok_move (v := V.one (.sc _)) (.inl rfl) rfl) rfl (gle rfl)) rfl ?_
          refine SV.opN rfl rfl rfl (gle rfl) rfl rfl rfl (gle rfl) ?_
          refine SV.opN rfl rfl rfl (gle rfl) rfl rfl rfl (gle rfl) ?_
          refine SV.opN rfl rfl rfl (gle rfl) rfl rfl rfl (gle rfl) ?_
          refine SV.opN rfl rfl rfl (gle rfl) rfl rfl rfl (gle rfl) ?_
          refine SV.opN rfl rfl rfl (gle rfl) rfl rfl rfl (gle rfl) ?_
          refine SV.op (OpL.ok (nb := 2) (ok_pickF (v := V.one (.sc _)) rfl rfl rfl) rfl (gle rfl)) rfl ?_
          refine SV.op (OpL.ok (nb := 2) (ok_move (v := V.one (.sc _)) (.inl rfl) rfl) rfl (gle rfl)) rfl ?_
          refine SV.opN rfl rfl rfl (gle rfl) rfl rfl rfl (gle rfl) ?_
          refine SV.opN rfl rfl rfl (gle rfl) rfl rfl rfl (gle rfl) ?_
          refine SV.opN rfl rfl rfl (gle rfl) rfl rfl rfl (gle rfl) ?_
          refine SV.opN rfl rfl rfl (gle rfl) rfl rfl rfl (gle rfl) ?_
          refine SV.opN rfl rfl rfl (gle rfl) rfl rfl rfl (gle rfl) ?_
          refine SV.op (OpL.ok (nb := 2) (ok_pickF (v := V.one (.sc _)) rfl rfl rfl) rfl (gle rfl)) rfl ?_
          refine SV.op (OpL.ok (nb := 2) (ok_move (v := V.one (.sc _)) (.inl rfl) rfl) rfl (gle rfl)) rfl ?_
          refine SV.opN rfl rfl rfl (gle rfl) rfl rfl rfl (gle rfl) ?_
          refine SV.opN rfl rfl rfl (gle rfl) rfl rfl rfl (gle rfl) ?_
          refine SV.opN rfl rfl rfl (gle rfl) rfl rfl rfl (gle rfl) ?_
          refine SV.opN rfl rfl rfl (gle rfl) rfl rfl rfl (gle rfl) ?_
          refine SV.opN rfl rfl rfl (gle rfl) rfl rfl rfl (gle rfl) ?_
          refine SV.op (OpL.ok (nb := 2) (ok_pickF (v := V.one (.sc _)) rfl rfl rfl) rfl (gle rfl)) rfl ?_
          refine SV.op (OpL.ok (nb := 2) (ok_move (v := V.one (.sc _)) (.inr rfl) rfl) rfl (gle rfl)) rfl ?_
          refine SV.nil ?_
          refine SV.tn ?_
          refine SV.ret ?_
          apply SV.done (hf := Try.results32) (ht := rfl) (he := .inl rfl)
          case hr => exact (ResAll.cons (ResOk.tmp (ag := false) (xs := [.sc _]) rfl) ResAll.nil')
          case h2 => simp [two]
          refine ⟨rfl, ⟨?_, trivial⟩, trivial⟩ <;> (show some (T.lit (Value.bool _)) = some (T.lit (Value.bool _)); refine congrArg (fun z => some (T.lit (Value.bool z))) ?_; (clear hA hB; obtain ⟨a1, a2, a3, a4, a5, a6, a7, a8, a9, a10⟩ := a; obtain ⟨b1, b2, b3, b4, b5, b6, b7, b8, b9, b10⟩ := b; rw [Bool.eq_iff_iff]; simp only [SorterD.mk.injEq, decide_eq_true_eq]; first | (simp_all; done) | (simp at *; simp_all; done) | (constructor <;> intro h <;> simp_all; done)))
      · skip   -- g2.F
        refine SV.opN rfl rfl rfl (gle rfl) rfl rfl rfl (gle rfl) ?_
        refine SV.opN rfl rfl rfl (gle rfl) rfl rfl rfl (gle rfl) ?_
        refine SV.opN rfl rfl rfl (gle rfl) rfl rfl rfl (gle rfl) ?_
        refine SV.opN rfl rfl rfl (gle rfl) rfl rfl rfl (gle rfl) ?_
        refine SV.opN rfl rfl rfl (gle rfl) rfl rfl rfl (gle rfl) ?_
        refine SV.op (OpL.ok (nb := 2) (ok_pickF (v := V.one (.sc _)) rfl rfl rfl) rfl (gle rfl)) rfl ?_
        refine SV.op (OpL.ok (nb := 2) (ok_move (v := V.one (.sc _)) (.inl rfl) rfl) rfl (gle rfl)) rfl ?_
        refine SV.opN rfl rfl rfl (gle rfl) rfl rfl rfl (gle rfl) ?_
        refine SV.opN rfl rfl rfl (gle rfl) rfl rfl rfl (gle rfl) ?_
        refine SV.opN rfl rfl rfl (gle rfl) rfl rfl rfl (gle rfl) ?_
        refine SV.opN rfl rfl rfl (gle rfl) rfl rfl rfl (gle rfl) ?_
        refine SV.opN rfl rfl rfl (gle rfl) rfl rfl rfl (gle rfl) ?_
        refine SV.op (OpL.ok (nb := 2) (ok_pickF (v := V.one (.sc _)) rfl rfl rfl) rfl (gle rfl)) rfl ?_
        refine SV.op (OpL.ok (nb := 2) (ok_move (v := V.one (.sc _)) (.inl rfl) rfl) rfl (gle rfl)) rfl ?_
        refine SV.opN rfl rfl rfl (gle rfl) rfl rfl rfl (gle rfl) ?_
        refine SV.opN rfl rfl rfl (gle rfl) rfl rfl rfl (gle rfl) ?_
        refine SV.opN rfl rfl rfl (gle rfl) rfl rfl rfl (gle rfl) ?_
        refine SV.opN rfl rfl rfl (gle rfl) rfl rfl rfl (gle rfl) ?_
        refine SV.opN rfl rfl rfl (gle rfl) rfl rfl rfl (gle rfl) ?_
        refine SV.op (OpL.ok (nb := 2) (ok_pickF (v := V.one (.sc _)) rfl rfl rfl) rfl (gle rfl)) rfl ?_
        refine SV.op (OpL.ok (nb := 2) (ok_move (v := V.one (.sc _)) (.inl rfl) rfl) rfl (gle rfl)) rfl ?_
        refine SV.opN rfl rfl rfl (gle rfl) rfl rfl rfl (gle rfl) ?_
        refine SV.opN rfl rfl rfl (gle rfl) rfl rfl rfl (gle rfl) ?_
        refine SV.opN rfl rfl rfl (gle rfl) rfl rfl rfl (gle rfl) ?_
        refine SV.opN rfl rfl rfl (gle rfl) rfl rfl rfl (gle rfl) ?_
        refine SV.opN rfl rfl rfl (gle rfl) rfl rfl rfl (gle rfl) ?_
        refine SV.op (OpL.ok (nb := 2) (ok_pickF (v := V.one (.sc _)) rfl rfl rfl) rfl (gle rfl)) rfl ?_
        refine SV.op (OpL.ok (nb := 2) (ok_move (v := V.one (.sc _)) (.inl rfl) rfl) rfl (gle rfl)) rfl ?_
        refine SV.opN rfl rfl rfl (gle rfl) rfl rfl rfl (gle rfl) ?_
        refine SV.opN rfl rfl rfl (gle rfl) rfl rfl rfl (gle rfl) ?_
        refine SV.opN rfl rfl rfl (gle rfl) rfl rfl rfl (gle rfl) ?_
        refine SV.opN rfl rfl rfl (gle rfl) rfl rfl rfl (gle rfl) ?_
        refine SV.opN rfl rfl rfl (gle rfl) rfl rfl rfl (gle rfl) ?_
        refine SV.op (OpL.ok (nb := 2) (ok_pickF (v := V.one (.sc _)) rfl rfl rfl) rfl (gle rfl)) rfl ?_
        refine SV.op (OpL.ok (nb := 2) (ok_move (v := V.one (.sc _)) (.inl rfl) rfl) rfl (gle rfl)) rfl ?_
        refine SV.opN rfl rfl rfl (gle rfl) rfl rfl rfl (gle rfl) ?_
        refine SV.opN rfl rfl rfl (gle rfl) rfl rfl rfl (gle rfl) ?_
        refine SV.opN rfl rfl rfl (gle rfl) rfl rfl rfl (gle rfl) ?_
        refine SV.opN rfl rfl rfl (gle rfl) rfl rfl rfl (gle rfl) ?_
        refine SV.opN rfl rfl rfl (gle rfl) rfl rfl rfl (gle rfl) ?_
        refine SV.op (OpL.ok (nb := 2) (ok_pickF (v := V.one (.sc _)) rfl rfl rfl) rfl (gle rfl)) rfl ?_
        refine SV.op (OpL.ok (nb := 2) (ok_move (v := V.one (.sc _)) (.inl rfl) rfl) rfl (gle rfl)) rfl ?_
        refine SV.opN rfl rfl rfl (gle rfl) rfl rfl rfl (gle rfl) ?_
        refine SV.opN rfl rfl rfl (gle rfl) rfl rfl rfl (gle rfl) ?_
        refine SV.opN rfl rfl rfl (gle rfl) rfl rfl rfl (gle rfl) ?_
        refine SV.opN rfl rfl rfl (gle rfl) rfl rfl rfl (gle rfl) ?_
        refine SV.opN rfl rfl rfl (gle rfl) rfl rfl rfl (gle rfl) ?_
        refine SV.op (OpL.ok (nb := 2) (ok_pickF (v := V.one (.sc _)) rfl rfl rfl) rfl (gle rfl)) rfl ?_
        refine SV.op (OpL.ok (nb := 2) (ok_move (v := V.one (.sc _)) (.inr rfl) rfl) rfl (gle rfl)) rfl ?_
        refine SV.nil ?_
        refine SV.tn ?_
        refine SV.ret ?_
        apply SV.done (hf := Try.results32) (ht := rfl) (he := .inl rfl)
        case hr => exact (ResAll.cons (ResOk.tmp (ag := false) (xs := [.sc _]) rfl) ResAll.nil')
        case h2 => simp [two]
        refine ⟨rfl, ⟨?_, trivial⟩, trivial⟩ <;> (show some (T.lit (Value.bool _)) = some (T.lit (Value.bool _)); refine congrArg (fun z => some (T.lit (Value.bool z))) ?_; (clear hA hB; obtain ⟨a1, a2, a3, a4, a5, a6, a7, a8, a9, a10⟩ := a; obtain ⟨b1, b2, b3, b4, b5, b6, b7, b8, b9, b10⟩ := b; rw [Bool.eq_iff_iff]; simp only [SorterD.mk.injEq, decide_eq_true_eq]; first | (simp_all; done) | (simp at *; simp_all; done) | (constructor <;> intro h <;> simp_all; done)))
    · skip   -- g1.F
      refine SV.opN rfl rfl rfl (gle rfl) rfl rfl rfl (gle rfl) ?_
      refine SV.opN rfl rfl rfl (gle rfl) rfl rfl rfl (gle rfl) ?_
      refine SV.opN rfl rfl rfl (gle rfl) rfl rfl rfl (gle rfl) ?_
      refine SV.opN rfl rfl rfl (gle rfl) rfl rfl rfl (gle rfl) ?_
      refine SV.opN rfl rfl rfl (gle rfl) rfl rfl rfl (gle rfl) ?_
      refine SV.op (OpL.ok (nb := 2) (ok_pickF (v := V.one (.sc _)) rfl rfl rfl) rfl (gle rfl)) rfl ?_
      refine SV.op (OpL.ok (nb := 2) (ok_move (v := V.one (.sc _)) (.inl rfl) rfl) rfl (gle rfl)) rfl ?_
      refine SV.opN rfl rfl rfl (gle rfl) rfl rfl rfl (gle rfl) ?_
      refine SV.opN rfl rfl rfl (gle rfl) rfl rfl rfl (gle rfl) ?_
      refine SV.opN rfl rfl rfl (gle rfl) rfl rfl rfl (gle rfl) ?_
      refine SV.opN rfl rfl rfl (gle rfl) rfl rfl rfl (gle rfl) ?_
      refine SV.opN rfl rfl rfl (gle rfl) rfl rfl rfl (gle rfl) ?_
      refine SV.op (OpL.ok (nb := 2) (ok_pickF (v := V.one (.sc _)) rfl rfl rfl) rfl (gle rfl)) rfl ?_
      refine SV.op (OpL.ok (nb := 2) (ok_move (v := V.one (.sc _)) (.inl rfl) rfl) rfl (gle rfl)) rfl ?_
      refine SV.opN rfl rfl rfl (gle rfl) rfl rfl rfl (gle rfl) ?_
      refine SV.opN rfl rfl rfl (gle rfl) rfl rfl rfl (gle rfl) ?_
      refine SV.opN rfl rfl rfl (gle rfl) rfl rfl rfl (gle rfl) ?_
      refine SV.opN rfl rfl rfl (gle rfl) rfl rfl rfl (gle rfl) ?_
      refine SV.opN rfl rfl rfl (gle rfl) rfl rfl rfl (gle rfl) ?_
      refine SV.op (OpL.ok (nb := 2) (ok_pickF (v := V.one (.sc _)) rfl rfl rfl) rfl (gle rfl)) rfl ?_
      refine SV.op (OpL.ok (nb := 2) (ok_move (v := V.one (.sc _)) (.inl rfl) rfl) rfl (gle rfl)) rfl ?_
      refine SV.opN rfl rfl rfl (gle rfl) rfl rfl rfl (gle rfl) ?_
      refine SV.opN rfl rfl rfl (gle rfl) rfl rfl rfl (gle rfl) ?_
      refine SV.opN rfl rfl rfl (gle rfl) rfl rfl rfl (gle rfl) ?_
      refine SV.opN rfl rfl rfl (gle rfl) rfl rfl rfl (gle rfl) ?_
      refine SV.opN rfl rfl rfl (gle rfl) rfl rfl rfl (gle rfl) ?_
      refine SV.op (OpL.ok (nb := 2) (ok_pickF (v := V.one (.sc _)) rfl rfl rfl) rfl (gle rfl)) rfl ?_
      refine SV.op (OpL.ok (nb := 2) (ok_move (v := V.one (.sc _)) (.inl rfl) rfl) rfl (gle rfl)) rfl ?_
      refine SV.opN rfl rfl rfl (gle rfl) rfl rfl rfl (gle rfl) ?_
      refine SV.opN rfl rfl rfl (gle rfl) rfl rfl rfl (gle rfl) ?_
      refine SV.opN rfl rfl rfl (gle rfl) rfl rfl rfl (gle rfl) ?_
      refine SV.opN rfl rfl rfl (gle rfl) rfl rfl rfl (gle rfl) ?_
      refine SV.opN rfl rfl rfl (gle rfl) rfl rfl rfl (gle rfl) ?_
      refine SV.op (OpL.ok (nb := 2) (ok_pickF (v := V.one (.sc _)) rfl rfl rfl) rfl (gle rfl)) rfl ?_
      refine SV.op (OpL.ok (nb := 2) (ok_move (v := V.one (.sc _)) (.inl rfl) rfl) rfl (gle rfl)) rfl ?_
      refine SV.opN rfl rfl rfl (gle rfl) rfl rfl rfl (gle rfl) ?_
      refine SV.opN rfl rfl rfl (gle rfl) rfl rfl rfl (gle rfl) ?_
      refine SV.opN rfl rfl rfl (gle rfl) rfl rfl rfl (gle rfl) ?_
      refine SV.opN rfl rfl rfl (gle rfl) rfl rfl rfl (gle rfl) ?_
      refine SV.opN rfl rfl rfl (gle rfl) rfl rfl rfl (gle rfl) ?_
      refine SV.op (OpL.ok (nb := 2) (ok_pickF (v := V.one (.sc _)) rfl rfl rfl) rfl (gle rfl)) rfl ?_
      refine SV.op (OpL.ok (nb := 2) (ok_move (v := V.one (.sc _)) (.inl rfl) rfl) rfl (gle rfl)) rfl ?_
      refine SV.opN rfl rfl rfl (gle rfl) rfl rfl rfl (gle rfl) ?_
      refine SV.opN rfl rfl rfl (gle rfl) rfl rfl rfl (gle rfl) ?_
      refine SV.opN rfl rfl rfl (gle rfl) rfl rfl rfl (gle rfl) ?_
      refine SV.opN rfl rfl rfl (gle rfl) rfl rfl rfl (gle rfl) ?_
      refine SV.opN rfl rfl rfl (gle rfl) rfl rfl rfl (gle rfl) ?_
      refine SV.op (OpL.ok (nb := 2) (ok_pickF (v := V.one (.sc _)) rfl rfl rfl) rfl (gle rfl)) rfl ?_
      refine SV.op (OpL.ok (nb := 2) (ok_move (v := V.one (.sc _)) (.inl rfl) rfl) rfl (gle rfl)) rfl ?_
      refine SV.opN rfl rfl rfl (gle rfl) rfl rfl rfl (gle rfl) ?_
      refine SV.opN rfl rfl rfl (gle rfl) rfl rfl rfl (gle rfl) ?_
      refine SV.opN rfl rfl rfl (gle rfl) rfl rfl rfl (gle rfl) ?_
      refine SV.opN rfl rfl rfl (gle rfl) rfl rfl rfl (gle rfl) ?_
      refine SV.opN rfl rfl rfl (gle rfl) rfl rfl rfl (gle rfl) ?_
      refine SV.op (OpL.ok (nb := 2) (ok_pickF (v := V.one (.sc _)) rfl rfl rfl) rfl (gle rfl)) rfl ?_
      refine SV.op (OpL.ok (nb := 2) (ok_move (v := V.one (.sc _)) (.inr rfl) rfl) rfl (gle rfl)) rfl ?_
      refine SV.nil ?_
      refine SV.tn ?_
      refine SV.ret ?_
      apply SV.done (hf := Try.results32) (ht := rfl) (he := .inl rfl)
      case hr => exact (ResAll.cons (ResOk.tmp (ag := false) (xs := [.sc _]) rfl) ResAll.nil')
      case h2 => simp [two]
      refine ⟨rfl, ⟨?_, trivial⟩, trivial⟩ <;> (show some (T.lit (Value.bool _)) = some (T.lit (Value.bool _)); refine congrArg (fun z => some (T.lit (Value.bool z))) ?_; (clear hA hB; obtain ⟨a1, a2, a3, a4, a5, a6, a7, a8, a9, a10⟩ := a; obtain ⟨b1, b2, b3, b4, b5, b6, b7, b8, b9, b10⟩ := b; rw [Bool.eq_iff_iff]; simp only [SorterD.mk.injEq, decide_eq_true_eq]; first | (simp_all; done) | (simp at *; simp_all; done) | (constructor <;> intro h <;> simp_all; done)))
  · skip   -- g0.F
    refine SV.opN rfl rfl rfl (gle rfl) rfl rfl rfl (gle rfl) ?_
    refine SV.opN rfl rfl rfl (gle rfl) rfl rfl rfl (gle rfl) ?_
    refine SV.opN rfl rfl rfl (gle rfl) rfl rfl rfl (gle rfl) ?_
    refine SV.opN rfl rfl rfl (gle rfl) rfl rfl rfl (gle rfl) ?_
    refine SV.opN rfl rfl rfl (gle rfl) rfl rfl rfl (gle rfl) ?_
    refine SV.op (OpL.ok (nb := 2) (ok_pickF (v := V.one (.sc _)) rfl rfl rfl) rfl (gle rfl)) rfl ?_
    refine SV.op (OpL.ok (nb := 2) (ok_move (v := V.one (.sc _)) (.inl rfl) rfl) rfl (gle rfl)) rfl ?_
    refine SV.opN rfl rfl rfl (gle rfl) rfl rfl rfl (gle rfl) ?_
    refine SV.opN rfl rfl rfl (gle rfl) rfl rfl rfl (gle rfl) ?_
    refine SV.opN rfl rfl rfl (gle rfl) rfl rfl rfl (gle rfl) ?_
    refine SV.opN rfl rfl rfl (gle rfl) rfl rfl rfl (gle rfl) ?_
    refine SV.opN rfl rfl rfl (gle rfl) rfl rfl rfl (gle rfl) ?_
    refine SV.op (OpL.ok (nb := 2) (ok_pickF (v := V.one (.sc _)) rfl rfl rfl) rfl (gle rfl)) rfl ?_
    refine SV.op (OpL.ok (nb := 2) (ok_move (v := V.one (.sc _)) (.inl rfl) rfl) rfl (gle rfl)) rfl ?_
    refine SV.opN rfl rfl rfl (gle rfl) rfl rfl rfl (gle rfl) ?_
    refine SV.opN rfl rfl rfl (gle rfl) rfl rfl rfl (gle rfl) ?_
    refine SV.opN rfl rfl rfl (gle rfl) rfl rfl rfl (gle rfl) ?_
    refine SV.opN rfl rfl rfl (gle rfl) rfl rfl rfl (gle rfl) ?_
    refine SV.opN rfl rfl rfl (gle rfl) rfl rfl rfl (gle rfl) ?_
    refine SV.op (OpL.ok (nb := 2) (ok_pickF (v := V.one (.sc _)) rfl rfl rfl) rfl (gle rfl)) rfl ?_
    refine SV.op (OpL.ok (nb := 2) (ok_move (v := V.one (.sc _)) (.inl rfl) rfl) rfl (gle rfl)) rfl ?_
    refine SV.opN rfl rfl rfl (gle rfl) rfl rfl rfl (gle rfl) ?_
    refine SV.opN rfl rfl rfl (gle rfl) rfl rfl rfl (gle rfl) ?_
    refine SV.opN rfl rfl rfl (gle rfl) rfl rfl rfl (gle rfl) ?_
    refine SV.opN rfl rfl rfl (gle rfl) rfl rfl rfl (gle rfl) ?_
    refine SV.opN rfl rfl rfl (gle rfl) rfl rfl rfl (gle rfl) ?_
    refine SV.op (OpL.ok (nb := 2) (ok_pickF (v := V.one (.sc _)) rfl rfl rfl) rfl (gle rfl)) rfl ?_
    refine SV.op (OpL.ok (nb := 2) (ok_move (v := V.one (.sc _)) (.inl rfl) rfl) rfl (gle rfl)) rfl ?_
    refine SV.opN rfl rfl rfl (gle rfl) rfl rfl rfl (gle rfl) ?_
    refine SV.opN rfl rfl rfl (gle rfl) rfl rfl rfl (gle rfl) ?_
    refine SV.opN rfl rfl rfl (gle rfl) rfl rfl rfl (gle rfl) ?_
    refine SV.opN rfl rfl rfl (gle rfl) rfl rfl rfl (gle rfl) ?_
    refine SV.opN rfl rfl rfl (gle rfl) rfl rfl rfl (gle rfl) ?_
    refine SV.op (OpL.ok (nb := 2) (ok_pickF (v := V.one (.sc _)) rfl rfl rfl) rfl (gle rfl)) rfl ?_
    refine SV.op (OpL.ok (nb := 2) (ok_move (v := V.one (.sc _)) (.inl rfl) rfl) rfl (gle rfl)) rfl ?_
    refine SV.opN rfl rfl rfl (gle rfl) rfl rfl rfl (gle rfl) ?_
    refine SV.opN rfl rfl rfl (gle rfl) rfl rfl rfl (gle rfl) ?_
    refine SV.opN rfl rfl rfl (gle rfl) rfl rfl rfl (gle rfl) ?_
    refine SV.opN rfl rfl rfl (gle rfl) rfl rfl rfl (gle rfl) ?_
    refine SV.opN rfl rfl rfl (gle rfl) rfl rfl rfl (gle rfl) ?_
    refine SV.op (OpL.ok (nb := 2) (ok_pickF (v := V.one (.sc _)) rfl rfl rfl) rfl (gle rfl)) rfl ?_
    refine SV.op (OpL.ok (nb := 2) (ok_move (v := V.one (.sc _)) (.inl rfl) rfl) rfl (gle rfl)) rfl ?_
    refine SV.opN rfl rfl rfl (gle rfl) rfl rfl rfl (gle rfl) ?_
    refine SV.opN rfl rfl rfl (gle rfl) rfl rfl rfl (gle rfl) ?_
    refine SV.opN rfl rfl rfl (gle rfl) rfl rfl rfl (gle rfl) ?_
    refine SV.opN rfl rfl rfl (gle rfl) rfl rfl rfl (gle rfl) ?_
    refine SV.opN rfl rfl rfl (gle rfl) rfl rfl rfl (gle rfl) ?_
    refine SV.op (OpL.ok (nb := 2) (ok_pickF (v := V.one (.sc _)) rfl rfl rfl) rfl (gle rfl)) rfl ?_
    refine SV.op (OpL.ok (nb := 2) (ok_move (v := V.one (.sc _)) (.inl rfl) rfl) rfl (gle rfl)) rfl ?_
    refine SV.opN rfl rfl rfl (gle rfl) rfl rfl rfl (gle rfl) ?_
    refine SV.opN rfl rfl rfl (gle rfl) rfl rfl rfl (gle rfl) ?_
    refine SV.opN rfl rfl rfl (gle rfl) rfl rfl rfl (gle rfl) ?_
    refine SV.opN rfl rfl rfl (gle rfl) rfl rfl rfl (gle rfl) ?_
    refine SV.opN rfl rfl rfl (gle rfl) rfl rfl rfl (gle rfl) ?_
    refine SV.op (OpL.ok (nb := 2) (ok_pickF (v := V.one (.sc _)) rfl rfl rfl) rfl (gle rfl)) rfl ?_
    refine SV.op (OpL.ok (nb := 2) (ok_move (v := V.one (.sc _)) (.inl rfl) rfl) rfl (gle rfl)) rfl ?_
    refine SV.opN rfl rfl rfl (gle rfl) rfl rfl rfl (gle rfl) ?_
    refine SV.opN rfl rfl rfl (gle rfl) rfl rfl rfl (gle rfl) ?_
    refine SV.opN rfl rfl rfl (gle rfl) rfl rfl rfl (gle rfl) ?_
    refine SV.opN rfl rfl rfl (gle rfl) rfl rfl rfl (gle rfl) ?_
    refine SV.opN rfl rfl rfl (gle rfl) rfl rfl rfl (gle rfl) ?_
    refine SV.op (OpL.ok (nb := 2) (ok_pickF (v := V.one (.sc _)) rfl rfl rfl) rfl (gle rfl)) rfl ?_
    refine SV.op (OpL.ok (nb := 2) (ok_move (v := V.one (.sc _)) (.inr rfl) rfl) rfl (gle rfl)) rfl ?_
    refine SV.nil ?_
    refine SV.tn ?_
    refine SV.ret ?_
    apply SV.done (hf := Try.results32) (ht := rfl) (he := .inl rfl)
    case hr => exact (ResAll.cons (ResOk.tmp (ag := false) (xs := [.sc _]) rfl) ResAll.nil')
    case h2 => simp [two]
    refine ⟨rfl, ⟨?_, trivial⟩, trivial⟩ <;> (show some (T.lit (Value.bool _)) = some (T.lit (Value.bool _)); refine congrArg (fun z => some (T.lit (Value.bool z))) ?_; (clear hA hB; obtain ⟨a1, a2, a3, a4, a5, a6, a7, a8, a9, a10⟩ := a; obtain ⟨b1, b2, b3, b4, b5, b6, b7, b8, b9, b10⟩ := b; rw [Bool.eq_iff_iff]; simp only [SorterD.mk.injEq, decide_eq_true_eq]; first | (simp_all; done) | (simp at *; simp_all; done) | (constructor <;> intro h <;> simp_all; done)))
end Go.Proofs.Ytpnbnbhifpcelaa
/- States told by trees: contracts of functions that are handed a slice to keep (it is appended to, and comes back in the answer), and their calls. -/
namespace Go.Proofs.Ytpnbnbhifpcelaa.V
open Go Go.RowKit
set_option linter.unusedVariables false
def VX (P : Program) (f : FuncId) (ins : List (Bool × List AC)) (ls : List T) (tup : Bool) (rs : List (Bool × List T)) : Prop :=
  ∀ (w : World) (lv : Nat → Value) (F : Nat → Nat → Prop) (hF : ∀ i b, i < ls.length → F i b → b < w.heap.size) (vs : List Value), (∀ i t, ls[i]? = some t → Own w 0 t (lv i) (F i) ∧ ∃ ty es, t = .seq ty es) → (∀ i j b, i < ls.length → j < ls.length → i ≠ j → F i b → ¬ F j b) → ArgsM (Env.lend w lv F ls.length hF) ins vs →
    Calls P f vs.toArray w (Gives (Env.lend w lv F ls.length hF) tup rs)
def Env.free (E : Env) : Env := { E with nl := 0 }
variable {P : Program} {E : Env} {N : Nat} {σ σ' : VS} {o : Oper} {a : Act} {w : World} {G : Ghost}
theorem Rel.free (h : Rel E N σ a w G) : Rel E.free N σ a w G :=
  ⟨⟨h.below.os, h.below.tape, h.below.output, h.below.size, fun k hk => h.below.block k hk⟩, h.dfr, h.nsz, h.tmps, h.boxes, h.inj, h.boxft, h.objs, h.disj, h.ftlt, ⟨Nat.zero_le _, fun i hi => absurd hi (Nat.not_lt_zero i), h.lent.2.2⟩⟩
theorem VX.enter {f : FuncId} {fn : Func} {c : Go.Code} {n : Nat} {ins : List (Bool × List AC)} {ls : List T} {tup : Bool} {rs : List (Bool × List T)} (hf : P.funcs[f]? = some fn) (hb : fn.body = some c) (hn : fn.ntmps = n) (hl : ins.length ≤ n)
    (h : ∀ E, E.plain 0 → SV E n (VS.initM (ins.map fun p => V.flat p.1 (p.2.map AC.leaf)) ls) (c.wp P (bodyPost P fn (Gives E tup rs)))) : VX P f ins ls tup rs := fun w lv F hF vs h1 h2 hv => by
  refine calls_of_wp hf hb ?_
  obtain ⟨G, hG⟩ := init_relM (E := Env.lend w lv F ls.length hF) (F := F) ⟨rfl, rfl⟩ h1 h2 (fun i b hi hb => ⟨.inr ⟨i, hi, hb⟩, hF i b hi hb⟩) hv (n := n) (by rw [hv.1]; exact hl)
  have h3 := h (Env.lend w lv F ls.length hF).free ⟨rfl, rfl⟩ _ _ G hG.free
  have hg : ∀ e w', Gives (Env.lend w lv F ls.length hF).free tup rs e w' → Gives (Env.lend w lv F ls.length hF) tup rs e w' := fun e w' ⟨uss, F', k1, k2, k3, k4, k5, k6⟩ => ⟨uss, F', k1, k2, k3, k4, k5, ⟨k6.os, k6.tape, k6.output, k6.size, fun k hk => k6.block k hk⟩⟩
  rw [hn]
  have h4 := wp_mono h3 (Q' := bodyPost P fn (Gives (Env.lend w lv F ls.length hF) tup rs)) fun e a w' hq => by
    cases e with
    | normal => obtain ⟨k1, v, k2, k3⟩ := hq; exact ⟨k1, v, k2, hg _ _ k3⟩
    | ret => obtain ⟨k1, v, k2, k3⟩ := hq; exact ⟨k1, v, k2, hg _ _ k3⟩
    | exit id => exact hq
    | goto l => exact hq
    | panic ch => first | exact hq | exact hg _ _ hq | exact ⟨hq.1, hg _ _ hq.2⟩
    | outgrown => first | exact hq | exact hg _ _ hq
  have e : (Env.lend w lv F ls.length hF).w0 = w := rfl
  rw [e] at h4
  simpa using h4
def VS.argX (p : Leaf) : List Leaf → List AC → Prop
  | [], [] => True
  | x :: xs, .rd t :: ts => ((∃ u, t = .lit u ∧ x = .sc u) ∨ x = .ro t) ∧ VS.argX p xs ts
  | x :: xs, .ln i :: ts => (i = 0 ∧ x = p) ∧ VS.argX p xs ts
  | _, _ => False
theorem argX_get {p : Leaf} : ∀ {xs : List Leaf} {ts : List AC}, VS.argX p xs ts → xs.length = ts.length ∧ ∀ (j : Nat) (t : AC), ts[j]? = some t → ∃ x, xs[j]? = some x ∧ match t with
    | .rd t => (∃ u, t = .lit u ∧ x = .sc u) ∨ x = .ro t
    | .ln i => i = 0 ∧ x = p
  | [], [], _ => ⟨rfl, fun j t h => by simp at h⟩
  | x :: xs, .rd t :: ts, h => by
    obtain ⟨h1, h2⟩ := argX_get h.2
    refine ⟨by simp [h1], fun j s hj => ?_⟩
    cases j with
    | zero => cases hj; exact ⟨x, rfl, h.1⟩
    | succ j => exact h2 j s (by simpa using hj)
  | x :: xs, .ln i :: ts, h => by
    obtain ⟨h1, h2⟩ := argX_get h.2
    refine ⟨by simp [h1], fun j s hj => ?_⟩
    cases j with
    | zero => cases hj; exact ⟨x, rfl, h.1⟩
    | succ j => exact h2 j s (by simpa using hj)
def VS.argsX (σ : VS) (p : Leaf) : List Operand → List (Bool × List AC) → Prop
  | [], [] => True
  | x :: xs, q :: qs => (∃ ls, σ.ev x = V.flat q.1 ls ∧ VS.argX p ls q.2) ∧ σ.argsX p xs qs
  | _, _ => False
theorem Rel.argsX (h : Rel E N σ a w G) {i : Nat} {E' : Env} (hw : E'.w0 = w) (hold : ∀ b, E.old b → E'.old b) (hn : 0 < E'.nl) (hv : E'.lv 0 = G.vl i) : ∀ {xs : List Operand} {qs : List (Bool × List AC)}, σ.argsX (.hd i) xs qs → ArgsM E' qs (xs.map a.eval)
  | [], [], _ => ⟨rfl, fun c ag ts v hc => by simp at hc⟩
  | x :: xs, q :: qs, hq => by
    obtain ⟨⟨ls, h1, h2⟩, h3⟩ := hq
    obtain ⟨h4, h5⟩ := h.argsX hw hold hn hv h3
    refine ⟨by simpa using h4, fun c ag ts v hc hv' => ?_⟩
    cases c with
    | zero =>
      cases hc
      cases hv'
      have h6 := h.ev x
      rw [h1, vflat] at h6
      obtain ⟨us, h7, h8, h9⟩ := h6
      obtain ⟨h10, h11⟩ := argX_get h2
      refine ⟨us, h7, h8.trans h10, fun j t u hj hu => ?_⟩
      obtain ⟨y, h12, h13⟩ := h11 j t hj
      have h14 := h9 j y u h12 hu
      cases t with
      | ln k =>
        obtain ⟨rfl, rfl⟩ := h13
        exact ⟨hn, h14.1.2.trans hv.symm⟩
      | rd t =>
        rcases h13 with ⟨z, rfl, rfl⟩ | rfl
        · rcases h14.2 with h15 | h15
          · cases h15
          · have h16 : u = z := h14.1
            rw [h16] at h15 ⊢
            exact .lit h15
        · have h16 : Inn E.old w t u := h14.1
          show Inn E'.old E'.w0 t u
          rw [hw]
          exact h16.frame (Nat.le_refl _) fun b hb _ => ⟨hold b hb, rfl⟩
    | succ c => exact h5 c ag ts v (by simpa using hc) (by simpa using hv')
end Go.Proofs.Ytpnbnbhifpcelaa.V
/- States told by trees: a call that is handed several objects to keep, whose answers may be structs and tuples; a call of a function value that is known. -/
namespace Go.Proofs.Ytpnbnbhifpcelaa.V
open Go Go.RowKit
set_option linter.unusedVariables false
variable {P : Program} {E : Env} {N nb : Nat} {σ σ' : VS} {o : Oper} {a : Act} {w : World} {G : Ghost}
def VS.argY (is : List Nat) : List Leaf → List AC → Prop
  | [], [] => True
  | x :: xs, .rd t :: ts => ((∃ u, t = .lit u ∧ x = .sc u) ∨ x = .ro t) ∧ VS.argY is xs ts
  | x :: xs, .ln i :: ts => (∃ p, is[i]? = some p ∧ x = .hd p) ∧ VS.argY is xs ts
  | _, _ => False
theorem argY_get {is : List Nat} : ∀ {xs : List Leaf} {ts : List AC}, VS.argY is xs ts → xs.length = ts.length ∧ ∀ (j : Nat) (t : AC), ts[j]? = some t → ∃ x, xs[j]? = some x ∧ match t with
    | .rd t => (∃ u, t = .lit u ∧ x = .sc u) ∨ x = .ro t
    | .ln i => ∃ p, is[i]? = some p ∧ x = .hd p
  | [], [], _ => ⟨rfl, fun j t h => by simp at h⟩
  | x :: xs, .rd t :: ts, h => by
    obtain ⟨h1, h2⟩ := argY_get h.2
    refine ⟨by simp [h1], fun j s hj => ?_⟩
    cases j with
    | zero => cases hj; exact ⟨x, rfl, h.1⟩
    | succ j => exact h2 j s (by simpa using hj)
  | x :: xs, .ln i :: ts, h => by
    obtain ⟨h1, h2⟩ := argY_get h.2
    refine ⟨by simp [h1], fun j s hj => ?_⟩
    cases j with
    | zero => cases hj; exact ⟨x, rfl, h.1⟩
    | succ j => exact h2 j s (by simpa using hj)
def VS.argsY (σ : VS) (is : List Nat) : List Operand → List (Bool × List AC) → Prop
  | [], [] => True
  | x :: xs, q :: qs => (∃ ls, σ.ev x = V.flat q.1 ls ∧ VS.argY is ls q.2) ∧ σ.argsY is xs qs
  | _, _ => False
theorem Rel.argsY (h : Rel E N σ a w G) {is : List Nat} {E' : Env} (hw : E'.w0 = w) (hold : ∀ b, E.old b → E'.old b) (hn : ∀ i p, is[i]? = some p → i < E'.nl ∧ E'.lv i = G.vl p) : ∀ {xs : List Operand} {qs : List (Bool × List AC)}, σ.argsY is xs qs → ArgsM E' qs (xs.map a.eval)
  | [], [], _ => ⟨rfl, fun c ag ts v hc => by simp at hc⟩
  | x :: xs, q :: qs, hq => by
    obtain ⟨⟨ls, h1, h2⟩, h3⟩ := hq
    obtain ⟨h4, h5⟩ := h.argsY hw hold hn h3
    refine ⟨by simpa using h4, fun c ag ts v hc hv' => ?_⟩
    cases c with
    | zero =>
      cases hc
      cases hv'
      have h6 := h.ev x
      rw [h1, vflat] at h6
      obtain ⟨us, h7, h8, h9⟩ := h6
      obtain ⟨h10, h11⟩ := argY_get h2
      refine ⟨us, h7, h8.trans h10, fun j t u hj hu => ?_⟩
      obtain ⟨y, h12, h13⟩ := h11 j t hj
      have h14 := h9 j y u h12 hu
      cases t with
      | ln k =>
        obtain ⟨p, hp, rfl⟩ := h13
        obtain ⟨e1, e2⟩ := hn k p hp
        exact ⟨e1, h14.1.2.trans e2.symm⟩
      | rd t =>
        rcases h13 with ⟨z, rfl, rfl⟩ | rfl
        · rcases h14.2 with h15 | h15
          · cases h15
          · have h16 : u = z := h14.1
            rw [h16] at h15 ⊢
            exact .lit h15
        · have h16 : Inn E.old w t u := h14.1
          show Inn E'.old E'.w0 t u
          rw [hw]
          exact h16.frame (Nat.le_refl _) fun b hb _ => ⟨hold b hb, rfl⟩
    | succ c => exact h5 c ag ts v (by simpa using hc) (by simpa using hv')
theorem ok_callV {d : Nat} {f : FuncId} {y : Operand} {xs : List Operand} {ats : Array TypeId} {qs : List (Bool × List T)} {tup : Bool} {rs : List (Bool × List T)} {ls : List (Bool × List Leaf)} (hk : ansLs σ.nx rs = ls) (ho : o.op = .call { callee := .value y, args := xs.toArray, argTypes := ats }) (hy : σ.ev y = V.one (.sc (.func (.func f) #[] #[]))) (hyn : y ≠ .func f) (hb : ∃ fn c, P.funcs[f]? = some fn ∧ fn.body = some c ∧ fn.name ≠ "runtime.NumGoroutine")
    (hc : VC P f qs tup rs) (hx : σ.argss xs qs) (hd : o.dst = some d) (hdN : d < N) : OpMk P E N none σ o ((ansSs σ rs).put d ⟨tup, ls⟩) := fun a w G K Q h k => by
  have hyv : a.eval y = .func (.func f) #[] #[] := h.sc hy
  have key : ∀ ρ : Operand → Value, ρ y = .func (.func f) #[] #[] → ρ (.func f) = .func (.func f) #[] #[] → (execOp ρ o).run P w = (execOp ρ { o with op := .call { callee := .value (.func f), args := xs.toArray, argTypes := ats } }).run P w := fun ρ r1 r2 => by
    simp only [execOp, ho, resolve, r1, r2]
  have hev := key a.eval hyv rfl
  have := ok_call (o := { o with op := .call { callee := .value (.func f), args := xs.toArray, argTypes := ats } }) (ats := ats) hk rfl hb hc hx hd hdN a w G K Q h k
  unfold Oper.wp at this ⊢
  rw [hev]
  exact this
end Go.Proofs.Ytpnbnbhifpcelaa.V
/- The program's EqualSorters: told by trees. -/
namespace Go.Proofs.Ytpnbnbhifpcelaa
open Go Go.RowKit V
set_option linter.unusedVariables false
set_option maxRecDepth 100000 in
set_option maxHeartbeats 2000000 in
theorem veqrun_i (p q : List R) (hp : ∀ r ∈ p, r.wf) (hq : ∀ r ∈ q, r.wf) (hpl : p.length ≤ 1000000000) (hql : q.length ≤ 1000000000) : VC Try.prog 89 [(true, tRun p), (true, tRun q)] false [(false, [.lit (.bool (decide (p = q)))])] := by
  refine VC.enter Try.func89 rfl Try.ntmps89 (gle rfl) fun E hE => ?_
  refine SV.seq' ?_
  refine SV.region ?_
  refine SV.op (OpMk.ok (ok_box (kk := 0) (ag := true) (xs := [.ro _]) rfl rfl rfl (fun h => by cases h) rfl rfl (gle rfl))) rfl ?_
  refine SV.op (OpMk.ok (ok_box (kk := 1) (ag := true) (xs := [.ro _]) rfl rfl rfl (fun h => by cases h) rfl rfl (gle rfl))) rfl ?_
  refine SV.op (OpL.ok (nb := 2) (ok_move (v := V.one (.sc _)) (.inr rfl) rfl) rfl (gle rfl)) rfl ?_
  refine SV.nil ?_
  refine SV.tn ?_
  refine SV.seq' ?_
  refine SV.region ?_
  refine SV.op (OpL.ok (nb := 2) (ok_field_bp (b := 0) (o' := 0) (off := 0) rfl rfl fld_impl_Run_0) rfl (gle rfl)) rfl ?_
  refine SV.op (OpL.ok (nb := 2) (ok_load_bp (b := 0) (i := 0) (ag := false) (m := 1) (ys := [.ro _]) rfl rfl rfl agg_s_impl_Row sz_s_impl_Row (fun _ => rfl) rfl rfl (gle rfl)) rfl (gle rfl)) rfl ?_
  refine SV.op (OpL.ok (nb := 2) (ok_field_bp (b := 1) (o' := 0) (off := 0) rfl rfl fld_impl_Run_0) rfl (gle rfl)) rfl ?_
  refine SV.op (OpL.ok (nb := 2) (ok_load_bp (b := 1) (i := 0) (ag := false) (m := 1) (ys := [.ro _]) rfl rfl rfl agg_s_impl_Row sz_s_impl_Row (fun _ => rfl) rfl rfl (gle rfl)) rfl (gle rfl)) rfl ?_
  refine SV.op (OpMk.ok (ok_call (ls := [(false, [.sc _])]) rfl rfl ⟨_, _, Try.func87, rfl, by decide⟩ (veqrows_i p q hp hq hpl hql) ⟨⟨[.ro _], rfl, ⟨rfl, trivial⟩⟩, ⟨[.ro _], rfl, ⟨rfl, trivial⟩⟩, trivial⟩ rfl (gle rfl))) rfl ?_
  refine SV.op (OpL.ok (nb := 2) (ok_move (v := V.one (.sc _)) (.inr rfl) rfl) rfl (gle rfl)) rfl ?_
  refine SV.nil ?_
  refine SV.tn ?_
  refine SV.ret ?_
  apply SV.done (hf := Try.results89) (ht := rfl) (he := .inl rfl)
  case hr => exact (ResAll.cons (ResOk.tmp (ag := false) (xs := [.sc _]) rfl) ResAll.nil')
  case h2 => simp [two]
  refine ⟨rfl, ⟨?_, trivial⟩, trivial⟩ <;> rfl
set_option maxRecDepth 100000 in
set_option maxHeartbeats 2000000 in
theorem veqruns_i (X Y : List (List R)) (hWX : ∀ p ∈ X, ∀ r ∈ p, r.wf) (hpX : ∀ p ∈ X, p.length ≤ 1000000000) (hlX : X.length ≤ 1000000000) (hWY : ∀ p ∈ Y, ∀ r ∈ p, r.wf) (hpY : ∀ p ∈ Y, p.length ≤ 1000000000) (hlY : Y.length ≤ 1000000000) : VC Try.prog 88 [(false, [.seq 84 ((X).map tRun)]), (false, [.seq 84 ((Y).map tRun)]), (false, [.lit (.func (.func 89) #[] #[])])] false [(false, [.lit (.bool (decide (X = Y)))])] := by
  refine VC.enter Try.func88 rfl Try.ntmps88 (gle rfl) fun E hE => ?_
  refine SV.seq' ?_
  refine SV.region ?_
  refine SV.op (OpL.ok (nb := 0) (ok_move (v := V.one (.sc _)) (.inr rfl) rfl) rfl (gle rfl)) rfl ?_
  refine SV.nil ?_
  refine SV.tn ?_
  refine SV.seq' ?_
  refine SV.seq' ?_
  refine SV.region ?_
  refine SV.op (OpL.ok (nb := 0) (ok_move (v := V.one (.ro _)) (.inl rfl) rfl) rfl (gle rfl)) rfl ?_
  refine SV.op (OpL.ok (nb := 0) (ok_len (lf := .ro _) rfl elt_impl_Run.und rfl rfl) rfl (gle rfl)) rfl ?_
  refine SV.op (OpL.ok (nb := 0) (ok_move (v := V.one (.ro _)) (.inl rfl) rfl) rfl (gle rfl)) rfl ?_
  refine SV.op (OpL.ok (nb := 0) (ok_len (lf := .ro _) rfl elt_impl_Run.und rfl rfl) rfl (gle rfl)) rfl ?_
  refine SV.op (OpL.ok (nb := 0) (ok_s2 (x := .tmp 11) (x' := .tmp 13) (VScal.one rfl) (VScal.one rfl) (fun ρ h1 h2 w => by go_simp; (try go_bits); with_reducible rfl) rfl) rfl (gle rfl)) rfl ?_
  refine SV.nil ?_
  refine SV.tn ?_
  refine SV.cond rfl (fun hc0 => ?_) (fun hc0 => ?_)
  · skip   -- c0.T
    have hne : X ≠ Y := fun e => by subst e; exact (by simp at hc0)
    refine SV.seq' ?_
    refine SV.region ?_
    refine SV.op (OpL.ok (nb := 0) (ok_move (v := V.one (.sc _)) (.inr rfl) rfl) rfl (gle rfl)) rfl ?_
    refine SV.nil ?_
    refine SV.tn ?_
    refine SV.ret ?_
    refine SV.tr ?_
    apply SV.done (hf := Try.results88) (ht := rfl) (he := .inl rfl)
    case hr => exact (ResAll.cons (ResOk.tmp (ag := false) (xs := [.sc _]) rfl) ResAll.nil')
    case h2 => simp [two]
    refine ⟨rfl, ⟨?_, trivial⟩, trivial⟩ <;> (show some (T.lit (Value.bool _)) = some (T.lit (Value.bool _)); refine congrArg (fun z => some (T.lit (Value.bool z))) ?_; first | (rw [decide_eq_true hXY]; done) | (rw [decide_eq_false hne]; done))
  · skip   -- c0.F
    have hlen : X.length = Y.length := by simp at hc0; omega
    refine SV.skip ?_
    refine SV.tn ?_
    refine SV.seq' ?_
    refine SV.seq' ?_
    refine SV.region ?_
    refine SV.op (OpL.ok (nb := 0) (ok_move (v := V.one (.ro _)) (.inl rfl) rfl) rfl (gle rfl)) rfl ?_
    refine SV.op (OpL.ok (nb := 0) (ok_len (lf := .ro _) rfl elt_impl_Run.und rfl rfl) rfl (gle rfl)) rfl ?_
    refine SV.op (OpL.ok (nb := 0) (ok_move (v := V.one (.sc _)) (.inl rfl) rfl) rfl (gle rfl)) rfl ?_
    refine SV.nil ?_
    refine SV.tn ?_
    refine SV.block ?_
    refine SV.loopF (X := Nat) (fun (σ : VS) t => ((((((VS.nil.put 1 (σ.tm 1)).put 2 (σ.tm 2)).put 6 (σ.tm 6)).put 15 (σ.tm 15)).put 16 (σ.tm 16)).put 17 (V.flat false [.sc (.int .i64 ((t : Int)))]))) (fun t => t ≤ X.length ∧ ∀ u, u < t → X[u]? = Y[u]?) (fun t => X.length - t) ?_ ?_
    · skip
      refine SV.again (fun i => [].getD i 0) 0 (⟨Nat.zero_le _, fun u h => absurd h (Nat.not_lt_zero u)⟩) (pins hE rfl rfl) (VS.le.mk' (le_put (le_put (le_put (le_put (le_put (le_put le_nil (V.le.keep (ag := false) (xs := [.ro _]) (ys := [.ro _]) rfl rfl ⟨rfl, trivial⟩)) (V.le.keep (ag := false) (xs := [.sc _]) (ys := [.sc _]) rfl rfl ⟨rfl, trivial⟩)) (V.le.keep (ag := false) (xs := [.sc _]) (ys := [.sc _]) rfl rfl ⟨rfl, trivial⟩)) (V.le.keep (ag := false) (xs := [.ro _]) (ys := [.ro _]) rfl rfl ⟨rfl, trivial⟩)) (V.le.keep (ag := false) (xs := [.sc _]) (ys := [.sc _]) rfl rfl ⟨rfl, trivial⟩)) (V.le.keep (ag := false) (xs := [.sc _]) (ys := [.sc _]) rfl rfl ⟨(by first | rfl | (show Leaf.sc _ = Leaf.sc _; refine congrArg Leaf.sc ?_; first | rfl | go_num | (simp [cntAll]; done)) | (simp [cntAll]; done) | (simp; omega)), trivial⟩)) trivial trivial nil_ob (fun i j hi hj e => absurd hi (Nat.not_lt_zero i)))
    · rintro t ⟨ht, he⟩
      refine SV.seq' ?_
      refine SV.region ?_
      refine SV.op (OpL.ok (nb := 0) (ok_s2 (x := .tmp 17) (x' := .tmp 16) (VScal.one rfl) (VScal.one rfl) (fun ρ h1 h2 w => by go_simp; (try go_bits); with_reducible rfl) rfl) rfl (gle rfl)) rfl ?_
      refine SV.nil ?_
      refine SV.tn ?_
      refine SV.seq' ?_
      refine SV.cond rfl (fun hc1 => ?_) (fun hc1 => ?_)
      · skip   -- c1.T
        have htl : t < X.length := by simp at hc1; omega
        obtain ⟨p, hx⟩ : ∃ p, X[t]? = some p := ⟨_, List.getElem?_eq_getElem htl⟩
        obtain ⟨q, hy⟩ : ∃ q, Y[t]? = some q := ⟨_, List.getElem?_eq_getElem (by omega)⟩
        refine SV.skip ?_
        refine SV.tn ?_
        refine SV.seq' ?_
        refine SV.block ?_
        refine SV.seq' ?_
        refine SV.region ?_
        refine SV.op (OpL.ok (nb := 0) (ok_move (v := V.one (.sc _)) (.inl rfl) rfl) rfl (gle rfl)) rfl ?_
        refine SV.op (OpL.ok (nb := 0) (ok_index (n := 1) (lf := .ro _) rfl elt_impl_Run.und sz_impl_Run rfl rfl rfl (map_at hx)) rfl (gle rfl)) rfl ?_
        refine SV.op (OpL.ok (nb := 0) (ok_load_rp (ag := true) (m := 1) (ys := [.ro _]) rfl rfl agg_impl_Run sz_impl_Run (fun h => by cases h) (gle rfl) rfl) rfl (gle rfl)) rfl ?_
        refine SV.op (OpMk.ok (ok_alloc (kk := 0) (xs := [.nl _]) rfl rfl zero_impl_Run ⟨rfl, ⟨3, by decide, sz_impl_Row⟩, trivial⟩ rfl (gle rfl))) rfl ?_
        refine SV.op (OpL.ok (nb := 1) (ok_move (v := V.one (.sc _)) (.inr rfl) rfl) rfl (gle rfl)) rfl ?_
        refine SV.op (ok_store_bp (b := 0) (i := 0) (m := 1) (ag := true) (zs := [.ro _]) (ys := [.ro _]) rfl rfl rfl rfl sz_impl_Run (fun h => by cases h) rfl (gle rfl) rfl rfl rfl) rfl ?_
        refine SV.nil ?_
        refine SV.tn ?_
        refine SV.seq' ?_
        refine SV.region ?_
        refine SV.op (OpL.ok (nb := 1) (ok_move (v := V.one (.ro _)) (.inl rfl) rfl) rfl (gle rfl)) rfl ?_
        refine SV.op (OpL.ok (nb := 1) (ok_move (v := V.one (.sc _)) (.inl rfl) rfl) rfl (gle rfl)) rfl ?_
        refine SV.op (OpL.ok (nb := 1) (ok_index (n := 1) (lf := .ro _) rfl elt_impl_Run.und sz_impl_Run rfl rfl rfl (map_at hy)) rfl (gle rfl)) rfl ?_
        refine SV.op (OpL.ok (nb := 1) (ok_load_rp (ag := true) (m := 1) (ys := [.ro _]) rfl rfl agg_impl_Run sz_impl_Run (fun h => by cases h) (gle rfl) rfl) rfl (gle rfl)) rfl ?_
        refine SV.op (OpMk.ok (ok_alloc (kk := 1) (xs := [.nl _]) rfl rfl zero_impl_Run ⟨rfl, ⟨3, by decide, sz_impl_Row⟩, trivial⟩ rfl (gle rfl))) rfl ?_
        refine SV.op (ok_store_bp (b := 1) (i := 0) (m := 1) (ag := true) (zs := [.ro _]) (ys := [.ro _]) rfl rfl rfl rfl sz_impl_Run (fun h => by cases h) rfl (gle rfl) rfl rfl rfl) rfl ?_
        refine SV.nil ?_
        refine SV.tn ?_
        refine SV.seq' ?_
        refine SV.region ?_
        refine SV.op (OpL.ok (nb := 2) (ok_move (v := V.one (.sc _)) (.inl rfl) rfl) rfl (gle rfl)) rfl ?_
        refine SV.op (OpL.ok (nb := 2) (ok_load_bp (b := 0) (i := 0) (ag := true) (m := 1) (ys := [.ro _]) rfl rfl rfl agg_impl_Run sz_impl_Run (fun h => by cases h) rfl rfl (gle rfl)) rfl (gle rfl)) rfl ?_
        refine SV.op (OpL.ok (nb := 2) (ok_load_bp (b := 1) (i := 0) (ag := true) (m := 1) (ys := [.ro _]) rfl rfl rfl agg_impl_Run sz_impl_Run (fun h => by cases h) rfl rfl (gle rfl)) rfl (gle rfl)) rfl ?_
        refine SV.op (OpMk.ok (ok_callV (ls := [(false, [.sc _])]) rfl rfl rfl (fun h => by cases h) ⟨_, _, Try.func89, rfl, by decide⟩ (veqrun_i p q (hWX p (List.mem_of_getElem? hx)) (hWY q (List.mem_of_getElem? hy)) (hpX p (List.mem_of_getElem? hx)) (hpY q (List.mem_of_getElem? hy))) ⟨⟨[.ro _], rfl, ⟨rfl, trivial⟩⟩, ⟨[.ro _], rfl, ⟨rfl, trivial⟩⟩, trivial⟩ rfl (gle rfl))) rfl ?_
        refine SV.op (OpL.ok (nb := 2) (ok_s1 (x := .tmp 29) (VScal.one rfl) (fun ρ h1 w => by go_simp; (try go_bits); with_reducible rfl) rfl) rfl (gle rfl)) rfl ?_
        refine SV.nil ?_
        refine SV.tn ?_
        refine SV.cond rfl (fun hc2 => ?_) (fun hc2 => ?_)
        · skip   -- c2.T
          have hpq : p ≠ q := by simpa using hc2
          have hne : X ≠ Y := fun e => by subst e; exact (hpq (Option.some.inj (hx.symm.trans hy)))
          refine SV.seq' ?_
          refine SV.region ?_
          refine SV.op (OpL.ok (nb := 2) (ok_move (v := V.one (.sc _)) (.inr rfl) rfl) rfl (gle rfl)) rfl ?_
          refine SV.nil ?_
          refine SV.tn ?_
          refine SV.ret ?_
          refine SV.br ?_
          refine SV.tr ?_
          refine SV.tr ?_
          refine SV.br ?_
          refine SV.tr ?_
          apply SV.done (hf := Try.results88) (ht := rfl) (he := .inl rfl)
          case hr => exact (ResAll.cons (ResOk.tmp (ag := false) (xs := [.sc _]) rfl) ResAll.nil')
          case h2 => simp [two]
          refine ⟨rfl, ⟨?_, trivial⟩, trivial⟩ <;> (show some (T.lit (Value.bool _)) = some (T.lit (Value.bool _)); refine congrArg (fun z => some (T.lit (Value.bool z))) ?_; first | (rw [decide_eq_true hXY]; done) | (rw [decide_eq_false hne]; done))
        · skip   -- c2.F
          have hxy : p = q := by simpa using hc2
          refine SV.skip ?_
          refine SV.bn ?_
          refine SV.tn ?_
          refine SV.region ?_
          refine SV.op (OpL.ok (nb := 2) (ok_s2 (x := .tmp 17) (x' := .const ((Value.int IntKind.i64 1))) (VScal.one rfl) (VScal.one rfl) (fun ρ h1 h2 w => by go_simp; (try go_bits); with_reducible rfl) rfl) rfl (gle rfl)) rfl ?_
          refine SV.op (OpL.ok (nb := 2) (ok_move (v := V.one (.sc _)) (.inl rfl) rfl) rfl (gle rfl)) rfl ?_
          refine SV.nil ?_
          refine SV.tn ?_
          refine SV.again (fun i => [].getD i 0) (t + 1) (⟨⟨by omega, fun u hu => by rcases Nat.lt_or_ge u t with h | h; exact he u h; rw [show u = t by omega, hx, hy, hxy]⟩, by omega⟩) (pins hE rfl rfl) (VS.le.mk' (le_put (le_put (le_put (le_put (le_put (le_put le_nil (V.le.keep (ag := false) (xs := [.ro _]) (ys := [.ro _]) rfl rfl ⟨rfl, trivial⟩)) (V.le.keep (ag := false) (xs := [.sc _]) (ys := [.sc _]) rfl rfl ⟨rfl, trivial⟩)) (V.le.keep (ag := false) (xs := [.sc _]) (ys := [.sc _]) rfl rfl ⟨rfl, trivial⟩)) (V.le.keep (ag := false) (xs := [.ro _]) (ys := [.ro _]) rfl rfl ⟨rfl, trivial⟩)) (V.le.keep (ag := false) (xs := [.sc _]) (ys := [.sc _]) rfl rfl ⟨rfl, trivial⟩)) (V.le.keep (ag := false) (xs := [.sc _]) (ys := [.sc _]) rfl rfl ⟨(by first | rfl | (show Leaf.sc _ = Leaf.sc _; refine congrArg Leaf.sc ?_; first | rfl | go_num | (simp [cntAll]; done)) | (simp [cntAll]; done) | (simp; omega)), trivial⟩)) trivial trivial nil_ob (fun i j hi hj e => absurd hi (Nat.not_lt_zero i)))
      · skip   -- c1.F
        have hte : ¬ t < X.length := by simp at hc1; omega
        have hXY : X = Y := List.ext_getElem? fun u => by
          rcases Nat.lt_or_ge u t with h | h
          · exact he u h
          · rw [List.getElem?_eq_none (by omega), List.getElem?_eq_none (by omega)]
        refine SV.exit ?_
        refine SV.te ?_
        refine SV.te ?_
        refine SV.bh ?_
        refine SV.tn ?_
        refine SV.seq' ?_
        refine SV.region ?_
        refine SV.op (OpL.ok (nb := 0) (ok_move (v := V.one (.sc _)) (.inr rfl) rfl) rfl (gle rfl)) rfl ?_
        refine SV.nil ?_
        refine SV.tn ?_
        refine SV.ret ?_
        apply SV.done (hf := Try.results88) (ht := rfl) (he := .inl rfl)
        case hr => exact (ResAll.cons (ResOk.tmp (ag := false) (xs := [.sc _]) rfl) ResAll.nil')
        case h2 => simp [two]
        refine ⟨rfl, ⟨?_, trivial⟩, trivial⟩ <;> (show some (T.lit (Value.bool _)) = some (T.lit (Value.bool _)); refine congrArg (fun z => some (T.lit (Value.bool z))) ?_; first | (rw [decide_eq_true hXY]; done) | (rw [decide_eq_false hne]; done))
set_option maxRecDepth 100000 in
set_option maxHeartbeats 2000000 in
theorem veqsort_i (a b : SorterD) (hA : a.Wf) (hB : b.Wf) : VC Try.prog 33 [(true, tSorter a), (true, tSorter b)] false [(false, [.lit (.bool (decide (a = b)))])] := by
  refine VC.enter Try.func33 rfl Try.ntmps33 (gle rfl) fun E hE => ?_
  refine SV.seq' ?_
  refine SV.region ?_
  refine SV.op (OpMk.ok (ok_box (kk := 0) (ag := true) (xs := [.ro _, .sc _, .ro _, .ro _, .ro _, .ro _, .sc _, .sc _, .sc _, .sc _]) rfl rfl rfl (fun h => by cases h) rfl rfl (gle rfl))) rfl ?_
  refine SV.op (OpMk.ok (ok_box (kk := 1) (ag := true) (xs := [.ro _, .sc _, .ro _, .ro _, .ro _, .ro _, .sc _, .sc _, .sc _, .sc _]) rfl rfl rfl (fun h => by cases h) rfl rfl (gle rfl))) rfl ?_
  refine SV.op (OpL.ok (nb := 2) (ok_move (v := V.one (.sc _)) (.inr rfl) rfl) rfl (gle rfl)) rfl ?_
  refine SV.nil ?_
  refine SV.tn ?_
  refine SV.seq' ?_
  refine SV.region ?_
  refine SV.op (OpL.ok (nb := 2) (ok_field_bp (b := 0) (o' := 0) (off := 1) rfl rfl fld_impl_Sorter_1) rfl (gle rfl)) rfl ?_
  refine SV.op (OpL.ok (nb := 2) (ok_load_bp (b := 0) (i := 1) (ag := false) (m := 1) (ys := [.sc _]) rfl rfl rfl agg_int sz_int (fun _ => rfl) rfl rfl (gle rfl)) rfl (gle rfl)) rfl ?_
  refine SV.op (OpL.ok (nb := 2) (ok_field_bp (b := 1) (o' := 0) (off := 1) rfl rfl fld_impl_Sorter_1) rfl (gle rfl)) rfl ?_
  refine SV.op (OpL.ok (nb := 2) (ok_load_bp (b := 1) (i := 1) (ag := false) (m := 1) (ys := [.sc _]) rfl rfl rfl agg_int sz_int (fun _ => rfl) rfl rfl (gle rfl)) rfl (gle rfl)) rfl ?_
  refine SV.op (OpL.ok (nb := 2) (ok_s2 (x := .tmp 6) (x' := .tmp 8) (VScal.one rfl) (VScal.one rfl) (fun ρ h1 h2 w => by go_simp; (try go_bits); with_reducible rfl) rfl) rfl (gle rfl)) rfl ?_
  refine SV.op (OpL.ok (nb := 2) (ok_move (v := V.one (.sc _)) (.inl rfl) rfl) rfl (gle rfl)) rfl ?_
  refine SV.split (d := 10) rfl (fun hg0 => ?_) (fun hg0 => ?_)
  · skip   -- g0.T
    refine SV.opY (OpL.ok (nb := 2) (ok_field_bp (b := 0) (o' := 0) (off := 6) rfl rfl fld_impl_Sorter_6) rfl (gle rfl)) rfl rfl rfl (gle rfl) rfl rfl ?_
    refine SV.opY (OpL.ok (nb := 2) (ok_load_bp (b := 0) (i := 6) (ag := false) (m := 1) (ys := [.sc _]) rfl rfl rfl agg_int sz_int (fun _ => rfl) rfl rfl (gle rfl)) rfl (gle rfl)) rfl rfl rfl (gle rfl) rfl rfl ?_
    refine SV.opY (OpL.ok (nb := 2) (ok_field_bp (b := 1) (o' := 0) (off := 6) rfl rfl fld_impl_Sorter_6) rfl (gle rfl)) rfl rfl rfl (gle rfl) rfl rfl ?_
    refine SV.opY (OpL.ok (nb := 2) (ok_load_bp (b := 1) (i := 6) (ag := false) (m := 1) (ys := [.sc _]) rfl rfl rfl agg_int sz_int (fun _ => rfl) rfl rfl (gle rfl)) rfl (gle rfl)) rfl rfl rfl (gle rfl) rfl rfl ?_
    refine SV.opY (OpL.ok (nb := 2) (ok_s2 (x := .tmp 12) (x' := .tmp 14) (VScal.one rfl) (VScal.one rfl) (fun ρ h1 h2 w => by go_simp; (try go_bits); with_reducible rfl) rfl) rfl (gle rfl)) rfl rfl rfl (gle rfl) rfl rfl ?_
    refine SV.op (OpL.ok (nb := 2) (ok_pickT (v := V.one (.sc _)) rfl rfl rfl) rfl (gle rfl)) rfl ?_
    refine SV.op (OpL.ok (nb := 2) (ok_move (v := V.one (.sc _)) (.inl rfl) rfl) rfl (gle rfl)) rfl ?_
    refine SV.split (d := 17) rfl (fun hg1 => ?_) (fun hg1 => ?_)
    · skip   -- g1.T
      refine SV.opY (OpL.ok (nb := 2) (ok_field_bp (b := 0) (o' := 0) (off := 7) rfl rfl fld_impl_Sorter_7) rfl (gle rfl)) rfl rfl rfl (gle rfl) rfl rfl ?_
      refine SV.opY (OpL.ok (nb := 2) (ok_load_bp (b := 0) (i := 7) (ag := false) (m := 1) (ys := [.sc _]) rfl rfl rfl agg_int sz_int (fun _ => rfl) rfl rfl (gle rfl)) rfl (gle rfl)) rfl rfl rfl (gle rfl) rfl rfl ?_
      refine SV.opY (OpL.ok (nb := 2) (ok_field_bp (b := 1) (o' := 0) (off := 7) rfl rfl fld_impl_Sorter_7) rfl (gle rfl)) rfl rfl rfl (gle rfl) rfl rfl ?_
      refine SV.opY (OpL.ok (nb := 2) (ok_load_bp (b := 1) (i := 7) (ag := false) (m := 1) (ys := [.sc _]) rfl rfl rfl agg_int sz_int (fun _ => rfl) rfl rfl (gle rfl)) rfl (gle rfl)) rfl rfl rfl (gle rfl) rfl rfl ?_
      refine SV.opY (OpL.ok (nb := 2) (ok_s2 (x := .tmp 19) (x' := .tmp 21) (VScal.one rfl) (VScal.one rfl) (fun ρ h1 h2 w => by go_simp; (try go_bits); with_reducible rfl) rfl) rfl (gle rfl)) rfl rfl rfl (gle rfl) rfl rfl ?_
      refine SV.op (OpL.ok (nb := 2) (ok_pickT (v := V.one (.sc _)) rfl rfl rfl) rfl (gle rfl)) rfl ?_
      refine SV.op (OpL.ok (nb := 2) (ok_move (v := V.one (.sc _)) (.inl rfl) rfl) rfl (gle rfl)) rfl ?_
      refine SV.split (d := 24) rfl (fun hg2 => ?_) (fun hg2 => ?_)
      · skip   -- g2.T
        refine SV.opY (OpL.ok (nb := 2) (ok_field_bp (b := 0) (o' := 0) (off := 8) rfl rfl fld_impl_Sorter_8) rfl (gle rfl)) rfl rfl rfl (gle rfl) rfl rfl ?_
        refine SV.opY (OpL.ok (nb := 2) (ok_load_bp (b := 0) (i := 8) (ag := false) (m := 1) (ys := [.sc _]) rfl rfl rfl agg_int sz_int (fun _ => rfl) rfl rfl (gle rfl)) rfl (gle rfl)) rfl rfl rfl (gle rfl) rfl rfl ?_
        refine SV.opY (OpL.ok (nb := 2) (ok_field_bp (b := 1) (o' := 0) (off := 8) rfl rfl fld_impl_Sorter_8) rfl (gle rfl)) rfl rfl rfl (gle rfl) rfl rfl ?_
        refine SV.opY (OpL.ok (nb := 2) (ok_load_bp (b := 1) (i := 8) (ag := false) (m := 1) (ys := [.sc _]) rfl rfl rfl agg_int sz_int (fun _ => rfl) rfl rfl (gle rfl)) rfl (gle rfl)) rfl rfl rfl (gle rfl) rfl rfl ?_
        refine SV.opY (OpL.ok (nb := 2) (ok_s2 (x := .tmp 26) (x' := .tmp 28) (VScal.one rfl) (VScal.one rfl) (fun ρ h1 h2 w => by go_simp; (try go_bits); with_reducible rfl) rfl) rfl (gle rfl)) rfl rfl rfl (gle rfl) rfl rfl ?_
        refine SV.op (OpL.ok (nb := 2) (ok_pickT (v := V.one (.sc _)) rfl rfl rfl) rfl (gle rfl)) rfl ?_
        refine SV.op (OpL.ok (nb := 2) (ok_move (v := V.one (.sc _)) (.inl rfl) rfl) rfl (gle rfl)) rfl ?_
        refine SV.split (d := 31) rfl (fun hg3 => ?_) (fun hg3 => ?_)
        · skip   -- g3.T
          refine SV.opY (OpL.ok (nb := 2) (ok_field_bp (b := 0) (o' := 0) (off := 9) rfl rfl fld_impl_Sorter_9) rfl (gle rfl)) rfl rfl rfl (gle rfl) rfl rfl ?_
          refine SV.opY (OpL.ok (nb := 2) (ok_load_bp (b := 0) (i := 9) (ag := false) (m := 1) (ys := [.sc _]) rfl rfl rfl agg_int sz_int (fun _ => rfl) rfl rfl (gle rfl)) rfl (gle rfl)) rfl rfl rfl (gle rfl) rfl rfl ?_
          refine SV.opY (OpL.ok (nb := 2) (ok_field_bp (b := 1) (o' := 0) (off := 9) rfl rfl fld_impl_Sorter_9) rfl (gle rfl)) rfl rfl rfl (gle rfl) rfl rfl ?_
          refine SV.opY (OpL.ok (nb := 2) (ok_load_bp (b := 1) (i := 9) (ag := false) (m := 1) (ys := [.sc _]) rfl rfl rfl agg_int sz_int (fun _ => rfl) rfl rfl (gle rfl)) rfl (gle rfl)) rfl rfl rfl (gle rfl) rfl rfl ?_
          refine SV.opY (OpL.ok (nb := 2) (ok_s2 (x := .tmp 33) (x' := .tmp 35) (VScal.one rfl) (VScal.one rfl) (fun ρ h1 h2 w => by go_simp; (try go_bits); with_reducible rfl) rfl) rfl (gle rfl)) rfl rfl rfl (gle rfl) rfl rfl ?_
          refine SV.op (OpL.ok (nb := 2) (ok_pickT (v := V.one (.sc _)) rfl rfl rfl) rfl (gle rfl)) rfl ?_
          refine SV.op (OpL.ok (nb := 2) (ok_move (v := V.one (.sc _)) (.inl rfl) rfl) rfl (gle rfl)) rfl ?_
          refine SV.split (d := 38) rfl (fun hg4 => ?_) (fun hg4 => ?_)
          · skip   -- g4.T
            refine SV.opY (OpL.ok (nb := 2) (ok_field_bp (b := 0) (o' := 0) (off := 0) rfl rfl fld_impl_Sorter_0) rfl (gle rfl)) rfl rfl rfl (gle rfl) rfl rfl ?_
            refine SV.opY (OpL.ok (nb := 2) (ok_load_bp (b := 0) (i := 0) (ag := false) (m := 1) (ys := [.ro _]) rfl rfl rfl agg_s_impl_Row sz_s_impl_Row (fun _ => rfl) rfl rfl (gle rfl)) rfl (gle rfl)) rfl rfl rfl (gle rfl) rfl rfl ?_
            refine SV.opY (OpL.ok (nb := 2) (ok_field_bp (b := 1) (o' := 0) (off := 0) rfl rfl fld_impl_Sorter_0) rfl (gle rfl)) rfl rfl rfl (gle rfl) rfl rfl ?_
            refine SV.opY (OpL.ok (nb := 2) (ok_load_bp (b := 1) (i := 0) (ag := false) (m := 1) (ys := [.ro _]) rfl rfl rfl agg_s_impl_Row sz_s_impl_Row (fun _ => rfl) rfl rfl (gle rfl)) rfl (gle rfl)) rfl rfl rfl (gle rfl) rfl rfl ?_
            refine SV.opY (OpMk.ok (ok_call (ls := [(false, [.sc _])]) rfl rfl ⟨_, _, Try.func87, rfl, by decide⟩ (veqrows_i a.fInput b.fInput hA.inp hB.inp (by have := hA.size; omega) (by have := hB.size; omega)) ⟨⟨[.ro _], rfl, ⟨rfl, trivial⟩⟩, ⟨[.ro _], rfl, ⟨rfl, trivial⟩⟩, trivial⟩ rfl (gle rfl))) rfl rfl rfl (gle rfl) rfl rfl ?_
            refine SV.op (OpL.ok (nb := 2) (ok_pickT (v := V.one (.sc _)) rfl rfl rfl) rfl (gle rfl)) rfl ?_
            refine SV.op (OpL.ok (nb := 2) (ok_move (v := V.one (.sc _)) (.inl rfl) rfl) rfl (gle rfl)) rfl ?_
            refine SV.split (d := 45) rfl (fun hg5 => ?_) (fun hg5 => ?_)
            · skip   -- g5.T
              refine SV.opY (OpL.ok (nb := 2) (ok_field_bp (b := 0) (o' := 0) (off := 2) rfl rfl fld_impl_Sorter_2) rfl (gle rfl)) rfl rfl rfl (gle rfl) rfl rfl ?_
              refine SV.opY (OpL.ok (nb := 2) (ok_load_bp (b := 0) (i := 2) (ag := false) (m := 1) (ys := [.ro _]) rfl rfl rfl agg_s_impl_Row sz_s_impl_Row (fun _ => rfl) rfl rfl (gle rfl)) rfl (gle rfl)) rfl rfl rfl (gle rfl) rfl rfl ?_
              refine SV.opY (OpL.ok (nb := 2) (ok_field_bp (b := 1) (o' := 0) (off := 2) rfl rfl fld_impl_Sorter_2) rfl (gle rfl)) rfl rfl rfl (gle rfl) rfl rfl ?_
              refine SV.opY (OpL.ok (nb := 2) (ok_load_bp (b := 1) (i := 2) (ag := false) (m := 1) (ys := [.ro _]) rfl rfl rfl agg_s_impl_Row sz_s_impl_Row (fun _ => rfl) rfl rfl (gle rfl)) rfl (gle rfl)) rfl rfl rfl (gle rfl) rfl rfl ?_
              refine SV.opY (OpMk.ok (ok_call (ls := [(false, [.sc _])]) rfl rfl ⟨_, _, Try.func87, rfl, by decide⟩ (veqrows_i a.fHeap b.fHeap hA.heap hB.heap (by have := hA.size; omega) (by have := hB.size; omega)) ⟨⟨[.ro _], rfl, ⟨rfl, trivial⟩⟩, ⟨[.ro _], rfl, ⟨rfl, trivial⟩⟩, trivial⟩ rfl (gle rfl))) rfl rfl rfl (gle rfl) rfl rfl ?_
              refine SV.op (OpL.ok (nb := 2) (ok_pickT (v := V.one (.sc _)) rfl rfl rfl) rfl (gle rfl)) rfl ?_
              refine SV.op (OpL.ok (nb := 2) (ok_move (v := V.one (.sc _)) (.inl rfl) rfl) rfl (gle rfl)) rfl ?_
              refine SV.split (d := 52) rfl (fun hg6 => ?_) (fun hg6 => ?_)
              · skip   -- g6.T
                refine SV.opY (OpL.ok (nb := 2) (ok_field_bp (b := 0) (o' := 0) (off := 3) rfl rfl fld_impl_Sorter_3) rfl (gle rfl)) rfl rfl rfl (gle rfl) rfl rfl ?_
                refine SV.opY (OpL.ok (nb := 2) (ok_load_bp (b := 0) (i := 3) (ag := false) (m := 1) (ys := [.ro _]) rfl rfl rfl agg_s_impl_Row sz_s_impl_Row (fun _ => rfl) rfl rfl (gle rfl)) rfl (gle rfl)) rfl rfl rfl (gle rfl) rfl rfl ?_
                refine SV.opY (OpL.ok (nb := 2) (ok_field_bp (b := 1) (o' := 0) (off := 3) rfl rfl fld_impl_Sorter_3) rfl (gle rfl)) rfl rfl rfl (gle rfl) rfl rfl ?_
                refine SV.opY (OpL.ok (nb := 2) (ok_load_bp (b := 1) (i := 3) (ag := false) (m := 1) (ys := [.ro _]) rfl rfl rfl agg_s_impl_Row sz_s_impl_Row (fun _ => rfl) rfl rfl (gle rfl)) rfl (gle rfl)) rfl rfl rfl (gle rfl) rfl rfl ?_
                refine SV.opY (OpMk.ok (ok_call (ls := [(false, [.sc _])]) rfl rfl ⟨_, _, Try.func87, rfl, by decide⟩ (veqrows_i a.fDeferred b.fDeferred hA.late hB.late (by have := hA.size; omega) (by have := hB.size; omega)) ⟨⟨[.ro _], rfl, ⟨rfl, trivial⟩⟩, ⟨[.ro _], rfl, ⟨rfl, trivial⟩⟩, trivial⟩ rfl (gle rfl))) rfl rfl rfl (gle rfl) rfl rfl ?_
                refine SV.op (OpL.ok (nb := 2) (ok_pickT (v := V.one (.sc _)) rfl rfl rfl) rfl (gle rfl)) rfl ?_
                refine SV.op (OpL.ok (nb := 2) (ok_move (v := V.one (.sc _)) (.inl rfl) rfl) rfl (gle rfl)) rfl ?_
                refine SV.split (d := 59) rfl (fun hg7 => ?_) (fun hg7 => ?_)
                · skip   -- g7.T
                  refine SV.opY (OpL.ok (nb := 2) (ok_field_bp (b := 0) (o' := 0) (off := 4) rfl rfl fld_impl_Sorter_4) rfl (gle rfl)) rfl rfl rfl (gle rfl) rfl rfl ?_
                  refine SV.opY (OpL.ok (nb := 2) (ok_load_bp (b := 0) (i := 4) (ag := false) (m := 1) (ys := [.ro _]) rfl rfl rfl agg_s_impl_Row sz_s_impl_Row (fun _ => rfl) rfl rfl (gle rfl)) rfl (gle rfl)) rfl rfl rfl (gle rfl) rfl rfl ?_
                  refine SV.opY (OpL.ok (nb := 2) (ok_field_bp (b := 1) (o' := 0) (off := 4) rfl rfl fld_impl_Sorter_4) rfl (gle rfl)) rfl rfl rfl (gle rfl) rfl rfl ?_
                  refine SV.opY (OpL.ok (nb := 2) (ok_load_bp (b := 1) (i := 4) (ag := false) (m := 1) (ys := [.ro _]) rfl rfl rfl agg_s_impl_Row sz_s_impl_Row (fun _ => rfl) rfl rfl (gle rfl)) rfl (gle rfl)) rfl rfl rfl (gle rfl) rfl rfl ?_
                  refine SV.opY (OpMk.ok (ok_call (ls := [(false, [.sc _])]) rfl rfl ⟨_, _, Try.func87, rfl, by decide⟩ (veqrows_i a.fOutput b.fOutput hA.out hB.out (by have := hA.size; omega) (by have := hB.size; omega)) ⟨⟨[.ro _], rfl, ⟨rfl, trivial⟩⟩, ⟨[.ro _], rfl, ⟨rfl, trivial⟩⟩, trivial⟩ rfl (gle rfl))) rfl rfl rfl (gle rfl) rfl rfl ?_
                  refine SV.op (OpL.ok (nb := 2) (ok_pickT (v := V.one (.sc _)) rfl rfl rfl) rfl (gle rfl)) rfl ?_
                  refine SV.op (OpL.ok (nb := 2) (ok_move (v := V.one (.sc _)) (.inl rfl) rfl) rfl (gle rfl)) rfl ?_
                  refine SV.split (d := 66) rfl (fun hg8 => ?_) (fun hg8 => ?_)
                  · skip   -- g8.T
                    refine SV.opY (OpL.ok (nb := 2) (ok_field_bp (b := 0) (o' := 0) (off := 5) rfl rfl fld_impl_Sorter_5) rfl (gle rfl)) rfl rfl rfl (gle rfl) rfl rfl ?_
                    refine SV.opY (OpL.ok (nb := 2) (ok_load_bp (b := 0) (i := 5) (ag := false) (m := 1) (ys := [.ro _]) rfl rfl rfl agg_s_impl_Run sz_s_impl_Run (fun _ => rfl) rfl rfl (gle rfl)) rfl (gle rfl)) rfl rfl rfl (gle rfl) rfl rfl ?_
                    refine SV.opY (OpL.ok (nb := 2) (ok_field_bp (b := 1) (o' := 0) (off := 5) rfl rfl fld_impl_Sorter_5) rfl (gle rfl)) rfl rfl rfl (gle rfl) rfl rfl ?_
                    refine SV.opY (OpL.ok (nb := 2) (ok_load_bp (b := 1) (i := 5) (ag := false) (m := 1) (ys := [.ro _]) rfl rfl rfl agg_s_impl_Run sz_s_impl_Run (fun _ => rfl) rfl rfl (gle rfl)) rfl (gle rfl)) rfl rfl rfl (gle rfl) rfl rfl ?_
                    refine SV.opY (OpMk.ok (ok_call (ls := [(false, [.sc _])]) rfl rfl ⟨_, _, Try.func88, rfl, by decide⟩ (veqruns_i a.fRuns b.fRuns hA.runs (fun p hp => by have := hA.run hp; omega) (by have := hA.size; omega) hB.runs (fun p hp => by have := hB.run hp; omega) (by have := hB.size; omega)) ⟨⟨[.ro _], rfl, ⟨rfl, trivial⟩⟩, ⟨[.ro _], rfl, ⟨rfl, trivial⟩⟩, ⟨[.sc _], rfl, ⟨rfl, trivial⟩⟩, trivial⟩ rfl (gle rfl))) rfl rfl rfl (gle rfl) rfl rfl ?_
                    refine SV.op (OpL.ok (nb := 2) (ok_pickT (v := V.one (.sc _)) rfl rfl rfl) rfl (gle rfl)) rfl ?_
                    refine SV.op (OpL.ok (nb := 2) (ok_move (v := V.one (.sc _)) (.inr rfl) rfl) rfl (gle rfl)) rfl ?_
                    refine SV.nil ?_
                    refine SV.tn ?_
                    refine SV.ret ?_
                    apply SV.done (hf := Try.results33) (ht := rfl) (he := .inl rfl)
                    case hr => exact (ResAll.cons (ResOk.tmp (ag := false) (xs := [.sc _]) rfl) ResAll.nil')
                    case h2 => simp [two]
                    refine ⟨rfl, ⟨?_, trivial⟩, trivial⟩ <;> (show some (T.lit (Value.bool _)) = some (T.lit (Value.bool _)); refine congrArg (fun z => some (T.lit (Value.bool z))) ?_; (clear hA hB; obtain ⟨a1, a2, a3, a4, a5, a6, a7, a8, a9, a10⟩ := a; obtain ⟨b1, b2, b3, b4, b5, b6, b7, b8, b9, b10⟩ := b; rw [Bool.eq_iff_iff]; simp only [SorterD.mk.injEq, decide_eq_true_eq]; first | (simp_all; done) | (simp at *; simp_all; done) | (constructor <;> intro h <;> simp_all; done)))
                  · skip   -- g8.F
                    refine SV.opN rfl rfl rfl (gle rfl) rfl rfl rfl (gle rfl) ?_
                    refine SV.opN rfl rfl rfl (gle rfl) rfl rfl rfl (gle rfl) ?_
                    refine SV.opN rfl rfl rfl (gle rfl) rfl rfl rfl (gle rfl) ?_
                    refine SV.opN rfl rfl rfl (gle rfl) rfl rfl rfl (gle rfl) ?_
                    refine SV.opN rfl rfl rfl (gle rfl) rfl rfl rfl (gle rfl) ?_
                    refine SV.op (OpL.ok (nb := 2) (ok_pickF (v := V.one (.sc _)) rfl rfl rfl) rfl (gle rfl)) rfl ?_
                    refine SV.op (OpL.ok (nb := 2) (ok_move (v := V.one (.sc _)) (.inr rfl) rfl) rfl (gle rfl)) rfl ?_
                    refine SV.nil ?_
                    refine SV.tn ?_
                    refine SV.ret ?_
                    apply SV.done (hf := Try.results33) (ht := rfl) (he := .inl rfl)
                    case hr => exact (ResAll.cons (ResOk.tmp (ag := false) (xs := [.sc _]) rfl) ResAll.nil')
                    case h2 => simp [two]
                    refine ⟨rfl, ⟨?_, trivial⟩, trivial⟩ <;> (show some (T.lit (Value.bool _)) = some (T.lit (Value.bool _)); refine congrArg (fun z => some (T.lit (Value.bool z))) ?_; (clear hA hB; obtain ⟨a1, a2, a3, a4, a5, a6, a7, a8, a9, a10⟩ := a; obtain ⟨b1, b2, b3, b4, b5, b6, b7, b8, b9, b10⟩ := b; rw [Bool.eq_iff_iff]; simp only [SorterD.mk.injEq, decide_eq_true_eq]; first | (simp_all; done) | (simp at *; simp_all; done) | (constructor <;> intro h <;> simp_all; done)))
                · skip   -- g7.F
                  refine SV.opN rfl rfl rfl (gle rfl) rfl rfl rfl (gle rfl) ?_
                  refine SV.opN rfl rfl rfl (gle rfl) rfl rfl rfl (gle rfl) ?_
                  refine SV.opN rfl rfl rfl (gle rfl) rfl rfl rfl (gle rfl) ?_
                  refine SV.opN rfl rfl rfl (gle rfl) rfl rfl rfl (gle rfl) ?_
                  refine SV.opN rfl rfl rfl (gle rfl) rfl rfl rfl (gle rfl) ?_
                  refine SV.op (OpL.ok (nb := 2) (ok_pickF (v := V.one (.sc _)) rfl rfl rfl) rfl (gle rfl)) rfl ?_
                  refine SV.op (OpL.ok (nb := 2) (ok_move (v := V.one (.sc _)) (.inl rfl) rfl) rfl (gle rfl)) rfl ?_
                  refine SV.opN rfl rfl rfl (gle rfl) rfl rfl rfl (gle rfl) ?_
                  refine SV.opN rfl rfl rfl (gle rfl) rfl rfl rfl (gle rfl) ?_
                  refine SV.opN rfl rfl rfl (gle rfl) rfl rfl rfl (gle rfl) ?_
                  refine SV.opN rfl rfl rfl (gle rfl) rfl rfl rfl (gle rfl) ?_
                  refine SV.opN rfl rfl rfl (gle rfl) rfl rfl rfl (gle rfl) ?_
                  refine SV.op (OpL.ok (nb := 2) (ok_pickF (v := V.one (.sc _)) rfl rfl rfl) rfl (gle rfl)) rfl ?_
                  refine SV.op (OpL.ok (nb := 2) (ok_move (v := V.one (.sc _)) (.inr rfl) rfl) rfl (gle rfl)) rfl ?_
                  refine SV.nil ?_
                  refine SV.tn ?_
                  refine SV.ret ?_
                  apply SV.done (hf := Try.results33) (ht := rfl) (he := .inl rfl)
                  case hr => exact (ResAll.cons (ResOk.tmp (ag := false) (xs := [.sc _]) rfl) ResAll.nil')
                  case h2 => simp [two]
                  refine ⟨rfl, ⟨?_, trivial⟩, trivial⟩ <;> (show some (T.lit (Value.bool _)) = some (T.lit (Value.bool _)); refine congrArg (fun z => some (T.lit (Value.bool z))) ?_; (clear hA hB; obtain ⟨a1, a2, a3, a4, a5, a6, a7, a8, a9, a10⟩ := a; obtain ⟨b1, b2, b3, b4, b5, b6, b7, b8, b9, b10⟩ := b; rw [Bool.eq_iff_iff]; simp only [SorterD.mk.injEq, decide_eq_true_eq]; first | (simp_all; done) | (simp at *; simp_all; done) | (constructor <;> intro h <;> simp_all; done)))
              · skip   -- g6.F
                refine SV.opN rfl rfl rfl (gle rfl) rfl rfl rfl (gle rfl) ?_
                refine SV.opN rfl rfl rfl (gle rfl) rfl rfl rfl (gle rfl) ?_
                refine SV.opN rfl rfl rfl (gle rfl) rfl rfl rfl (gle rfl) ?_
                refine SV.opN rfl rfl rfl (gle rfl) rfl rfl rfl (gle rfl) ?_
                refine SV.opN rfl rfl rfl (gle rfl) rfl rfl rfl (gle rfl) ?_
                refine SV.op (OpL.ok (nb := 2) (ok_pickF (v := V.one (.sc _)) rfl rfl rfl) rfl (gle rfl)) rfl ?_
                refine SV.op (OpL.ok (nb := 2) (ok_move (v := V.one (.sc _)) (.inl rfl) rfl) rfl (gle rfl)) rfl ?_
                refine SV.opN rfl rfl rfl (gle rfl) rfl rfl rfl (gle rfl) ?_
                refine SV.opN rfl rfl rfl (gle rfl) rfl rfl rfl (gle rfl) ?_
                refine SV.opN rfl rfl rfl (gle rfl) rfl rfl rfl (gle rfl) ?_
                refine SV.opN rfl rfl rfl (gle rfl) rfl rfl rfl (gle rfl) ?_
                refine SV.opN rfl rfl rfl (gle rfl) rfl rfl rfl (gle rfl) ?_
                refine SV.op (OpL.ok (nb := 2) (ok_pickF (v := V.one (.sc _)) rfl rfl rfl) rfl (gle rfl)) rfl ?_
                refine SV.op (OpL.ok (nb := 2) (ok_move (v := V.one (.sc _)) (.inl rfl) rfl) rfl (gle rfl)) rfl ?_
                refine SV.opN rfl rfl rfl (gle rfl) rfl rfl rfl (gle rfl) ?_
                refine SV.opN rfl rfl rfl (gle rfl) rfl rfl rfl (gle rfl) ?_
                refine SV.opN rfl rfl rfl (gle rfl) rfl rfl rfl (gle rfl) ?_
                refine SV.opN rfl rfl rfl (gle rfl) rfl rfl rfl (gle rfl) ?_
                refine SV.opN rfl rfl rfl (gle rfl) rfl rfl rfl (gle rfl) ?_
                refine SV.op (OpL.ok (nb := 2) (ok_pickF (v := V.one (.sc _)) rfl rfl rfl) rfl (gle rfl)) rfl ?_
                refine SV.op (OpL.ok (nb := 2) (ok_move (v := V.one (.sc _)) (.inr rfl) rfl) rfl (gle rfl)) rfl ?_
                refine SV.nil ?_
                refine SV.tn ?_
                refine SV.ret ?_
                apply SV.done (hf := Try.results33) (ht := rfl) (he := .inl rfl)
                case hr => exact (ResAll.cons (ResOk.tmp (ag := false) (xs := [.sc _]) rfl) ResAll.nil')
                case h2 => simp [two]
                refine ⟨rfl, ⟨?_, trivial⟩, trivial⟩ <;> (show some (T.lit (Value.bool _)) = some (T.lit (Value.bool _)); refine congrArg (fun z => some (T.lit (Value.bool z))) ?_; (clear hA hB; obtain ⟨a1, a2, a3, a4, a5, a6, a7, a8, a9, a10⟩ := a; obtain ⟨b1, b2, b3, b4, b5, b6, b7, b8, b9, b10⟩ := b; rw [Bool.eq_iff_iff]; simp only [SorterD.mk.injEq, decide_eq_true_eq]; first | (simp_all; done) | (simp at *; simp_all; done) | (constructor <;> intro h <;> simp_all; done)))
            · skip   -- g5.F
              refine SV.opN rfl rfl rfl (gle rfl) rfl rfl rfl (gle rfl) ?_
              refine SV.opN rfl rfl rfl (gle rfl) rfl rfl rfl (gle rfl) ?_
              refine SV.opN rfl rfl rfl (gle rfl) rfl rfl rfl (gle rfl) ?_
              refine SV.opN rfl rfl rfl (gle rfl) rfl rfl rfl (gle rfl) ?_
              refine SV.opN rfl rfl rfl (gle rfl) rfl rfl rfl (gle rfl) ?_
              refine SV.op (OpL.ok (nb := 2) (ok_pickF (v := V.one (.sc _)) rfl rfl rfl) rfl (gle rfl)) rfl ?_
              refine SV.op (OpL.ok (nb := 2) (ok_move (v := V.one (.sc _)) (.inl rfl) rfl) rfl (gle rfl)) rfl ?_
              refine SV.opN rfl rfl rfl (gle rfl) rfl rfl rfl (gle rfl) ?_
              refine SV.opN rfl rfl rfl (gle rfl) rfl rfl rfl (gle rfl) ?_
              refine SV.opN rfl rfl rfl (gle rfl) rfl rfl rfl (gle rfl) ?_
              refine SV.opN rfl rfl rfl (gle rfl) rfl rfl rfl (gle rfl) ?_
              refine SV.opN rfl rfl rfl (gle rfl) rfl rfl rfl (gle rfl) ?_
              refine SV.op (OpL.ok (nb := 2) (ok_pickF (v := V.one (.sc _)) rfl rfl rfl) rfl (gle rfl)) rfl ?_
              refine SV.op (OpL.ok (nb := 2) (ok_move (v := V.one (.sc _)) (.inl rfl) rfl) rfl (gle rfl)) rfl ?_
              refine SV.opN rfl rfl rfl (gle rfl) rfl rfl rfl (gle rfl) ?_
              refine SV.opN rfl rfl rfl (gle rfl) rfl rfl rfl (gle rfl) ?_
              refine SV.opN rfl rfl rfl (gle rfl) rfl rfl rfl (gle rfl) ?_
              refine SV.opN rfl rfl rfl (gle rfl) rfl rfl rfl (gle rfl) ?_
              refine SV.opN rfl rfl rfl (gle rfl) rfl rfl rfl (gle rfl) ?_
              refine SV.op (OpL.ok (nb := 2) (ok_pickF (v := V.one (.sc _)) rfl rfl rfl) rfl (gle rfl)) rfl ?_
              refine SV.op (OpL.ok (nb := 2) (ok_move (v := V.one (.sc _)) (.inl rfl) rfl) rfl (gle rfl)) rfl ?_
              refine SV.opN rfl rfl rfl (gle rfl) rfl rfl rfl (gle rfl) ?_
              refine SV.opN rfl rfl rfl (gle rfl) rfl rfl rfl (gle rfl) ?_
              refine SV.opN rfl rfl rfl (gle rfl) rfl rfl rfl (gle rfl) ?_
              refine SV.opN rfl rfl rfl (gle rfl) rfl rfl rfl (gle rfl) ?_
              refine SV.opN rfl rfl rfl (gle rfl) rfl rfl rfl (gle rfl) ?_
              refine SV.op (OpL.ok (nb := 2) (ok_pickF (v := V.one (.sc _)) rfl rfl rfl) rfl (gle rfl)) rfl ?_
              refine SV.op (OpL.ok (nb := 2) (ok_move (v := V.one (.sc _)) (.inr rfl) rfl) rfl (gle rfl)) rfl ?_
              refine SV.nil ?_
              refine SV.tn ?_
              refine SV.ret ?_
              apply SV.done (hf := Try.results33) (ht := rfl) (he := .inl rfl)
              case hr => exact (ResAll.cons (ResOk.tmp (ag := false) (xs := [.sc _]) rfl) ResAll.nil')
              case h2 => simp [two]
              refine ⟨rfl, ⟨?_, trivial⟩, trivial⟩ <;> (show some (T.lit (Value.bool _)) = some (T.lit (Value.bool _)); refine congrArg (fun z => some (T.lit (Value.bool z))) ?_; (clear hA hB; obtain ⟨a1, a2, a3, a4, a5, a6, a7, a8, a9, a10⟩ := a; obtain ⟨b1, b2, b3, b4, b5, b6, b7, b8, b9, b10⟩ := b; rw [Bool.eq_iff_iff]; simp only [SorterD.mk.injEq, decide_eq_true_eq]; first | (simp_all; done) | (simp at *; simp_all; done) | (constructor <;> intro h <;> simp_all; done)))
          · skip   -- g4.F
            refine SV.opN rfl rfl rfl (gle rfl) rfl rfl rfl (gle rfl) ?_
            refine SV.opN rfl rfl rfl (gle rfl) rfl rfl rfl (gle rfl) ?_
            refine SV.opN rfl rfl rfl (gle rfl) rfl rfl rfl (gle rfl) ?_
            refine SV.opN rfl rfl rfl (gle rfl) rfl rfl rfl (gle rfl) ?_
            refine SV.opN rfl rfl rfl (gle rfl) rfl rfl rfl (gle rfl) ?_
            refine SV.op (OpL.ok (nb := 2) (ok_pickF (v := V.one (.sc _)) rfl rfl rfl) rfl (gle rfl)) rfl ?_
            refine SV.op (OpL.ok (nb := 2) (ok_move (v := V.one (.sc _)) (.inl rfl) rfl) rfl (gle rfl)) rfl ?_
            refine SV.opN rfl rfl rfl (gle rfl) rfl rfl rfl (gle rfl) ?_
            refine SV.opN rfl rfl rfl (gle rfl) rfl rfl rfl (gle rfl) ?_
            refine SV.opN rfl rfl rfl (gle rfl) rfl rfl rfl (gle rfl) ?_
            refine SV.opN rfl rfl rfl (gle rfl) rfl rfl rfl (gle rfl) ?_
            refine SV.opN rfl rfl rfl (gle rfl) rfl rfl rfl (gle rfl) ?_
            refine SV.op (OpL.ok (nb := 2) (ok_pickF (v := V.one (.sc _)) rfl rfl rfl) rfl (gle rfl)) rfl ?_
            refine SV.op (OpL.ok (nb := 2) (ok_move (v := V.one (.sc _)) (.inl rfl) rfl) rfl (gle rfl)) rfl ?_
            refine SV.opN rfl rfl rfl (gle rfl) rfl rfl rfl (gle rfl) ?_
            refine SV.opN rfl rfl rfl (gle rfl) rfl rfl rfl (gle rfl) ?_
            refine SV.opN rfl rfl rfl (gle rfl) rfl rfl rfl (gle rfl) ?_
            refine SV.opN rfl rfl rfl (gle rfl) rfl rfl rfl (gle rfl) ?_
            refine SV.opN rfl rfl rfl (gle rfl) rfl rfl rfl (gle rfl) ?_
            refine SV.op (OpL.ok (nb := 2) (ok_pickF (v := V.one (.sc _)) rfl rfl rfl) rfl (gle rfl)) rfl ?_
            refine SV.op (OpL.ok (nb := 2) (ok_move (v := V.one (.sc _)) (.inl rfl) rfl) rfl (gle rfl)) rfl ?_
            refine SV.opN rfl rfl rfl (gle rfl) rfl rfl rfl (gle rfl) ?_
            refine SV.opN rfl rfl rfl (gle rfl) rfl rfl rfl (gle rfl) ?_
            refine SV.opN rfl rfl rfl (gle rfl) rfl rfl rfl (gle rfl) ?_
            refine SV.opN rfl rfl rfl (gle rfl) rfl rfl rfl (gle rfl) ?_
            refine SV.opN rfl rfl rfl (gle rfl) rfl rfl rfl (gle rfl) ?_
            refine SV.op (OpL.ok (nb := 2) (ok_pickF (v := V.one (.sc _)) rfl rfl rfl) rfl (gle rfl)) rfl ?_
            refine SV.op (OpL.ok (nb := 2) (ok_move (v := V.one (.sc _)) (.inl rfl) rfl) rfl (gle rfl)) rfl ?_
            refine SV.opN rfl rfl rfl (gle rfl) rfl rfl rfl (gle rfl) ?_
            refine SV.opN rfl rfl rfl (gle rfl) rfl rfl rfl (gle rfl) ?_
            refine SV.opN rfl rfl rfl (gle rfl) rfl rfl rfl (gle rfl) ?_
            refine SV.opN rfl rfl rfl (gle rfl) rfl rfl rfl (gle rfl) ?_
            refine SV.opN rfl rfl rfl (gle rfl) rfl rfl rfl (gle rfl) ?_
            refine SV.op (OpL.ok (nb := 2) (ok_pickF (v := V.one (.sc _)) rfl rfl rfl) rfl (gle rfl)) rfl ?_
            refine SV.op (OpL.ok (nb := 2) (ok_move (v := V.one (.sc _)) (.inr rfl) rfl) rfl (gle rfl)) rfl ?_
            refine SV.nil ?_
            refine SV.tn ?_
            refine SV.ret ?_
            apply SV.done (hf := Try.results33) (ht := rfl) (he := .inl rfl)
            case hr => exact (ResAll.cons (ResOk.tmp (ag := false) (xs := [.sc _]) rfl) ResAll.nil')
            case h2 => simp [two]
            refine ⟨rfl, ⟨?_, trivial⟩, trivial⟩ <;> (show some (T.lit (Value.bool _)) = some (T.lit (Value.bool _)); refine congrArg (fun z => some (T.lit (Value.bool z))) ?_; (clear hA hB; obtain ⟨a1, a2, a3, a4, a5, a6, a7, a8, a9, a10⟩ := a; obtain ⟨b1, b2, b3, b4, b5, b6, b7, b8, b9, b10⟩ := b; rw [Bool.eq_iff_iff]; simp only [SorterD.mk.injEq, decide_eq_true_eq]; first | (simp_all; done) | (simp at *; simp_all; done) | (constructor <;> intro h <;> simp_all; done)))
        · skip   -- g3.F
          refine SV.opN rfl rfl rfl (gle rfl) rfl rfl rfl (gle rfl) ?_
          refine SV.opN rfl rfl rfl (gle rfl) rfl rfl rfl (gle rfl) ?_
          refine SV.opN rfl rfl rfl (gle rfl) rfl rfl rfl (gle rfl) ?_
          refine SV.opN rfl rfl rfl (gle rfl) rfl rfl rfl (gle rfl) ?_
          refine SV.opN rfl rfl rfl (gle rfl) rfl rfl rfl (gle rfl) ?_
          refine SV.op (OpL.ok (nb := 2) (ok_pickF (v := V.one (.sc _)) rfl rfl rfl) rfl (gle rfl)) rfl ?_
          refine SV.op (OpL.ok (nb := 2) (ok_move (v := V.one (.sc _)) (.inl rfl) rfl) rfl (gle rfl)) rfl ?_
          refine SV.opN rfl rfl rfl (gle rfl) rfl rfl rfl (gle rfl) ?_
          refine SV.opN rfl rfl rfl (gle rfl) rfl rfl rfl (gle rfl) ?_
          refine SV.opN rfl rfl rfl (gle rfl) rfl rfl rfl (gle rfl) ?_
          refine SV.opN rfl rfl rfl (gle rfl) rfl rfl rfl (gle rfl) ?_
          refine SV.opN rfl rfl rfl (gle rfl) rfl rfl rfl (gle rfl) ?_
          refine SV.op (OpL.ok (nb := 2) (ok_pickF (v := V.one (.sc _)) rfl rfl rfl) rfl (gle rfl)) rfl ?_
          refine SV.op (OpL.ok (nb := 2) (ok_move (v := V.one (.sc _)) (.inl rfl) rfl) rfl (gle rfl)) rfl ?_
          refine SV.opN rfl rfl rfl (gle rfl) rfl rfl rfl (gle rfl) ?_
          refine SV.opN rfl rfl rfl (gle rfl) rfl rfl rfl (gle rfl) ?_
          refine SV.opN rfl rfl rfl (gle rfl) rfl rfl rfl (gle rfl) ?_
          refine SV.opN rfl rfl rfl (gle rfl) rfl rfl rfl (gle rfl) ?_
          refine SV.opN rfl rfl rfl (gle rfl) rfl rfl rfl (gle rfl) ?_
          refine SV.op (OpL.ok (nb := 2) (ok_pickF (v := V.one (.sc _)) rfl rfl rfl) rfl (gle rfl)) rfl ?_
          refine SV.op (OpL.ok (nb := 2) (ok_move (v := V.one (.sc _)) (.inl rfl) rfl) rfl (gle rfl)) rfl ?_
          refine SV.opN rfl rfl rfl (gle rfl) rfl rfl rfl (gle rfl) ?_
          refine SV.opN rfl rfl rfl (gle rfl) rfl rfl rfl (gle rfl) ?_
          refine SV.opN rfl rfl rfl (gle rfl) rfl rfl rfl (gle rfl) ?_
          refine SV.opN rfl rfl rfl (gle rfl) rfl rfl rfl (gle rfl) ?_
          refine SV.opN rfl rfl rfl (gle rfl) rfl rfl rfl (gle rfl) ?_
          refine SV.op (OpL.ok (nb := 2) (ok_pickF (v := V.one (.sc _)) rfl rfl rfl) rfl (gle rfl)) rfl ?_
          refine SV.op (OpL.ok (nb := 2) (ok_move (v := V.one (.sc _)) (.inl rfl) rfl) rfl (gle rfl)) rfl ?_
          refine SV.opN rfl rfl rfl (gle rfl) rfl rfl rfl (gle rfl) ?_
          refine SV.opN rfl rfl rfl (gle rfl) rfl rfl rfl (gle rfl) ?_
          refine SV.opN rfl rfl rfl (gle rfl) rfl rfl rfl (gle rfl) ?_
          refine SV.opN rfl rfl rfl (gle rfl) rfl rfl rfl (gle rfl) ?_
          refine SV.opN rfl rfl rfl (gle rfl) rfl rfl rfl (gle rfl) ?_
          refine SV.op (OpL.ok (nb := 2) (ok_pickF (v := V.one (.sc _)) rfl rfl rfl) rfl (gle rfl)) rfl ?_
          refine SV.op (OpL.ok (nb := 2) (ok_move (v := V.one (.sc _)) (.inl rfl) rfl) rfl (gle rfl)) rfl ?_
          refine SV.opN rfl rfl rfl (gle rfl) rfl rfl rfl (gle rfl) ?_
          refine SV.opN rfl rfl rfl (gle rfl) rfl rfl rfl (gle rfl) ?_
          refine SV.opN rfl rfl rfl (gle rfl) rfl rfl rfl (gle rfl) ?_
          refine SV.opN rfl rfl rfl (gle rfl) rfl rfl rfl (gle rfl) ?_
          refine SV.opN rfl rfl rfl (gle rfl) rfl rfl rfl (gle rfl) ?_
          refine SV.op (OpL.ok (nb := 2) (ok_pickF (v := V.one (.sc _)) rfl rfl rfl) rfl (gle rfl)) rfl ?_
          refine SV.op (OpL.ok (nb := 2) (ok_move (v := V.one (.sc _)) (.inr rfl) rfl) rfl (gle rfl)) rfl ?_
          refine SV.nil ?_
          refine SV.tn ?_
          refine SV.ret ?_
          apply SV.done (hf := Try.results33) (ht := rfl) (he := .inl rfl)
          case hr => exact (ResAll.cons (ResOk.tmp (ag := false) (xs := [.sc _]) rfl) ResAll.nil')
          case h2 => simp [two]
          refine ⟨rfl, ⟨?_, trivial⟩, trivial⟩ <;> (show some (T.lit (Value.bool _)) = some (T.lit (Value.bool _)); refine congrArg (fun z => some (T.lit (Value.bool z))) ?_; (clear hA hB; obtain ⟨a1, a2, a3, a4, a5, a6, a7, a8, a9, a10⟩ := a; obtain ⟨b1, b2, b3, b4, b5, b6, b7, b8, b9, b10⟩ := b; rw [Bool.eq_iff_iff]; simp only [SorterD.mk.injEq, decide_eq_true_eq]; first | (simp_all; done) | (simp at *; simp_all; done) | (constructor <;> intro h <;> simp_all; done)))
      · skip   -- g2.F
        refine SV.opN rfl rfl rfl (gle rfl) rfl rfl rfl (gle rfl) ?_
        refine SV.opN rfl rfl rfl (gle rfl) rfl rfl rfl (gle rfl) ?_
        refine SV.opN rfl rfl rfl (gle rfl) rfl rfl rfl (gle rfl) ?_
        refine SV.opN rfl rfl rfl (gle rfl) rfl rfl rfl (gle rfl) ?_
        refine SV.opN rfl rfl rfl (gle rfl) rfl rfl rfl (gle rfl) ?_
        refine SV.op (OpL.ok (nb := 2) (ok_pickF (v := V.one (.sc _)) rfl rfl rfl) rfl (gle rfl)) rfl ?_
        refine SV.op (OpL.ok (nb := 2) (ok_move (v := V.one (.sc _)) (.inl rfl) rfl) rfl (gle rfl)) rfl ?_
        refine SV.opN rfl rfl rfl (gle rfl) rfl rfl rfl (gle rfl) ?_
        refine SV.opN rfl rfl rfl (gle rfl) rfl rfl rfl (gle rfl) ?_
        refine SV.opN rfl rfl rfl (gle rfl) rfl rfl rfl (gle rfl) ?_
        refine SV.opN rfl rfl rfl (gle rfl) rfl rfl rfl (gle rfl) ?_
        refine SV.opN rfl rfl rfl (gle rfl) rfl rfl rfl (gle rfl) ?_
        refine SV.op (OpL.ok (nb := 2) (ok_pickF (v := V.one (.sc _)) rfl rfl rfl) rfl (gle rfl)) rfl ?_
        refine SV.op (OpL.ok (nb := 2) (ok_move (v := V.one (.sc _)) (.inl rfl) rfl) rfl (gle rfl)) rfl ?_
        refine SV.opN rfl rfl rfl (gle rfl) rfl rfl rfl (gle rfl) ?_
        refine SV.opN rfl rfl rfl (gle rfl) rfl rfl rfl (gle rfl) ?_
        refine SV.opN rfl rfl rfl (gle rfl) rfl rfl rfl (gle rfl) ?_
        refine SV.opN rfl rfl rfl (gle rfl) rfl rfl rfl (gle rfl) ?_
        refine SV.opN rfl rfl rfl (gle rfl) rfl rfl rfl (gle rfl) ?_
        refine SV.op (OpL.ok (nb := 2) (ok_pickF (v := V.one (.sc _)) rfl rfl rfl) rfl (gle rfl)) rfl ?_
        refine SV.op (OpL.ok (nb := 2) (ok_move (v := V.one (.sc _)) (.inl rfl) rfl) rfl (gle rfl)) rfl ?_
        refine SV.opN rfl rfl rfl (gle rfl) rfl rfl rfl (gle rfl) ?_
        refine SV.opN rfl rfl rfl (gle rfl) rfl rfl rfl (gle rfl) ?_
        refine SV.opN rfl rfl rfl (gle rfl) rfl rfl rfl (gle rfl) ?_
        refine SV.opN rfl rfl rfl (gle rfl) rfl rfl rfl (gle rfl) ?_
        refine SV.opN rfl rfl rfl (gle rfl) rfl rfl rfl (gle rfl) ?_
        refine SV.op (OpL.ok (nb := 2) (ok_pickF (v := V.one (.sc _)) rfl rfl rfl) rfl (gle rfl)) rfl ?_
        refine SV.op (OpL.ok (nb := 2) (ok_move (v := V.one (.sc _)) (.inl rfl) rfl) rfl (gle rfl)) rfl ?_
        refine SV.opN rfl rfl rfl (gle rfl) rfl rfl rfl (gle rfl) ?_
        refine SV.opN rfl rfl rfl (gle rfl) rfl rfl rfl (gle rfl) ?_
        refine SV.opN rfl rfl rfl (gle rfl) rfl rfl rfl (gle rfl) ?_
        refine SV.opN rfl rfl rfl (gle rfl) rfl rfl rfl (gle rfl) ?_
        refine SV.opN rfl rfl rfl (gle rfl) rfl rfl rfl (gle rfl) ?_
        refine SV.op (OpL.ok (nb := 2) (ok_pickF (v := V.one (.sc _)) rfl rfl rfl) rfl (gle rfl)) rfl ?_
        refine SV.op (OpL.ok (nb := 2) (ok_move (v := V.one (.sc _)) (.inl rfl) rfl) rfl (gle rfl)) rfl ?_
        refine SV.opN rfl rfl rfl (gle rfl) rfl rfl rfl (gle rfl) ?_
        refine SV.opN rfl rfl rfl (gle rfl) rfl rfl rfl (gle rfl) ?_
        refine SV.opN rfl rfl rfl (gle rfl) rfl rfl rfl (gle rfl) ?_
        refine SV.opN rfl rfl rfl (gle rfl) rfl rfl rfl (gle rfl) ?_
        refine SV.opN rfl rfl rfl (gle rfl) rfl rfl rfl (gle rfl) ?_
        refine SV.op (OpL.ok (nb := 2) (ok_pickF (v := V.one (.sc _)) rfl rfl rfl) rfl (gle rfl)) rfl ?_
        refine SV.op (OpL.ok (nb := 2) (ok_move (v := V.one (.sc _)) (.inl rfl) rfl) rfl (gle rfl)) rfl ?_
        refine SV.opN rfl rfl rfl (gle rfl) rfl rfl rfl (gle rfl) ?_
        refine SV.opN rfl rfl rfl (gle rfl) rfl rfl rfl (gle rfl) ?_
        refine SV.opN rfl rfl rfl (gle rfl) rfl rfl rfl (gle rfl) ?_
        refine SV.opN rfl rfl rfl (gle rfl) rfl rfl rfl (gle rfl) ?_
        refine SV.opN rfl rfl rfl (gle rfl) rfl rfl rfl (gle rfl) ?_
        refine SV.op (OpL.ok (nb := 2) (ok_pickF (v := V.one (.sc _)) rfl rfl rfl) rfl (gle rfl)) rfl ?_
        refine SV.op (OpL.ok (nb := 2) (ok_move (v := V.one (.sc _)) (.inr rfl) rfl) rfl (gle rfl)) rfl ?_
        refine SV.nil ?_
        refine SV.tn ?_
        refine SV.ret ?_
        apply SV.done (hf := Try.results33) (ht := rfl) (he := .inl rfl)
        case hr => exact (ResAll.cons (ResOk.tmp (ag := false) (xs := [.sc _]) rfl) ResAll.nil')
        case h2 => simp [two]
        refine ⟨rfl, ⟨?_, trivial⟩, trivial⟩ <;> (show some (T.lit (Value.bool _)) = some (T.lit (Value.bool _)); refine congrArg (fun z => some (T.lit (Value.bool z))) ?_; (clear hA hB; obtain ⟨a1, a2, a3, a4, a5, a6, a7, a8, a9, a10⟩ := a; obtain ⟨b1, b2, b3, b4, b5, b6, b7, b8, b9, b10⟩ := b; rw [Bool.eq_iff_iff]; simp only [SorterD.mk.injEq, decide_eq_true_eq]; first | (simp_all; done) | (simp at *; simp_all; done) | (constructor <;> intro h <;> simp_all; done)))
    · skip   -- g1.F
      refine SV.opN rfl rfl rfl (gle rfl) rfl rfl rfl (gle rfl) ?_
      refine SV.opN rfl rfl rfl (gle rfl) rfl rfl rfl (gle rfl) ?_
      refine SV.opN rfl rfl rfl (gle rfl) rfl rfl rfl (gle rfl) ?_
      refine SV.opN rfl rfl rfl (gle rfl) rfl rfl rfl (gle rfl) ?_
      refine SV.opN rfl rfl rfl (gle rfl) rfl rfl rfl (gle rfl) ?_
      refine SV.op (OpL.ok (nb := 2) (ok_pickF (v := V.one (.sc _)) rfl rfl rfl) rfl (gle rfl)) rfl ?_
      refine SV.op (OpL.ok (nb := 2) (ok_move (v := V.one (.sc _)) (.inl rfl) rfl) rfl (gle rfl)) rfl ?_
      refine SV.opN rfl rfl rfl (gle rfl) rfl rfl rfl (gle rfl) ?_
      refine SV.opN rfl rfl rfl (gle rfl) rfl rfl rfl (gle rfl) ?_
      refine SV.opN rfl rfl rfl (gle rfl) rfl rfl rfl (gle rfl) ?_
      refine SV.opN rfl rfl rfl (gle rfl) rfl rfl rfl (gle rfl) ?_
      refine SV.opN rfl rfl rfl (gle rfl) rfl rfl rfl (gle rfl) ?_
      refine SV.op (OpL.ok (nb := 2) (ok_pickF (v := V.one (.sc _)) rfl rfl rfl) rfl (gle rfl)) rfl ?_
      refine SV.op (OpL.ok (nb := 2) (ok_move (v := V.one (.sc _)) (.inl rfl) rfl) rfl (gle rfl)) rfl ?_
      refine SV.opN rfl rfl rfl (gle rfl) rfl rfl rfl (gle rfl) ?_
      refine SV.opN rfl rfl rfl (gle rfl) rfl rfl rfl (gle rfl) ?_
      refine SV.opN rfl rfl rfl (gle rfl) rfl rfl rfl (gle rfl) ?_
      refine SV.opN rfl rfl rfl (gle rfl) rfl rfl rfl (gle rfl) ?_
      refine SV.opN rfl rfl rfl (gle rfl) rfl rfl rfl (gle rfl) ?_
      refine SV.op (OpL.ok (nb := 2) (ok_pickF (v := V.one (.sc _)) rfl rfl rfl) rfl (gle rfl)) rfl ?_
      refine SV.op (OpL.ok (nb := 2) (ok_move (v := V.one (.sc _)) (.inl rfl) rfl) rfl (gle rfl)) rfl ?_
      refine SV.opN rfl rfl rfl (gle rfl) rfl rfl rfl (gle rfl) ?_
      refine SV.opN rfl rfl rfl (gle rfl) rfl rfl rfl (gle rfl) ?_
      refine SV.opN rfl rfl rfl (gle rfl) rfl rfl rfl (gle rfl) ?_
      refine SV.opN rfl rfl rfl (gle rfl) rfl rfl rfl (gle rfl) ?_
      refine SV.opN rfl rfl rfl (gle rfl) rfl rfl rfl (gle rfl) ?_
      refine SV.op (OpL.ok (nb := 2) (ok_pickF (v := V.one (.sc _)) rfl rfl rfl) rfl (gle rfl)) rfl ?_
      refine SV.op (OpL.ok (nb := 2) (ok_move (v := V.one (.sc _)) (.inl rfl) rfl) rfl (gle rfl)) rfl ?_
      refine SV.opN rfl rfl rfl (gle rfl) rfl rfl rfl (gle rfl) ?_
      refine SV.opN rfl rfl rfl (gle rfl) rfl rfl rfl (gle rfl) ?_
      refine SV.opN rfl rfl rfl (gle rfl) rfl rfl rfl (gle rfl) ?_
      refine SV.opN rfl rfl rfl (gle rfl) rfl rfl rfl (gle rfl) ?_
      refine SV.opN rfl rfl rfl (gle rfl) rfl rfl rfl (gle rfl) ?_
      refine SV.op (OpL.ok (nb := 2) (ok_pickF (v := V.one (.sc _)) rfl rfl rfl) rfl (gle rfl)) rfl ?_
      refine SV.op (OpL.ok (nb := 2) (ok_move (v := V.one (.sc _)) (.inl rfl) rfl) rfl (gle rfl)) rfl ?_
      refine SV.opN rfl rfl rfl (gle rfl) rfl rfl rfl (gle rfl) ?_
      refine SV.opN rfl rfl rfl (gle rfl) rfl rfl rfl (gle rfl) ?_
      refine SV.opN rfl rfl rfl (gle rfl) rfl rfl rfl (gle rfl) ?_
      refine SV.opN rfl rfl rfl (gle rfl) rfl rfl rfl (gle rfl) ?_
      refine SV.opN rfl rfl rfl (gle rfl) rfl rfl rfl (gle rfl) ?_
      refine SV.op (OpL.ok (nb := 2) (ok_pickF (v := V.one (.sc _)) rfl rfl rfl) rfl (gle rfl)) rfl ?_
      refine SV.op (OpL.ok (nb := 2) (ok_move (v := V.one (.sc _)) (.inl rfl) rfl) rfl (gle rfl)) rfl ?_
      refine SV.opN rfl rfl rfl (gle rfl) rfl rfl rfl (gle rfl) ?_
      refine SV.opN rfl rfl rfl (gle rfl) rfl rfl rfl (gle rfl) ?_
      refine SV.opN rfl rfl rfl (gle rfl) rfl rfl rfl (gle rfl) ?_
      refine SV.opN rfl rfl rfl (gle rfl) rfl rfl rfl (gle rfl) ?_
      refine SV.opN rfl rfl rfl (gle rfl) rfl rfl rfl (gle rfl) ?_
      refine SV.op (OpL.ok (nb := 2) (ok_pickF (v := V.one (.sc _)) rfl rfl rfl) rfl (gle rfl)) rfl ?_
      refine SV.op (OpL.ok (nb := 2) (ok_move (v := V.one (.sc _)) (.inl rfl) rfl) rfl (gle rfl)) rfl ?_
      refine SV.opN rfl rfl rfl (gle rfl) rfl rfl rfl (gle rfl) ?_
      refine SV.opN rfl rfl rfl (gle rfl) rfl rfl rfl (gle rfl) ?_
      refine SV.opN rfl rfl rfl (gle rfl) rfl rfl rfl (gle rfl) ?_
      refine SV.opN rfl rfl rfl (gle rfl) rfl rfl rfl (gle rfl) ?_
      refine SV.opN rfl rfl rfl (gle rfl) rfl rfl rfl (gle rfl) ?_
      refine SV.op (OpL.ok (nb := 2) (ok_pickF (v := V.one (.sc _)) rfl rfl rfl) rfl (gle rfl)) rfl ?_
      refine SV.op (OpL.ok (nb := 2) (ok_move (v := V.one (.sc _)) (.inr rfl) rfl) rfl (gle rfl)) rfl ?_
      refine SV.nil ?_
      refine SV.tn ?_
      refine SV.ret ?_
      apply SV.done (hf := Try.results33) (ht := rfl) (he := .inl rfl)
      case hr => exact (ResAll.cons (ResOk.tmp (ag := false) (xs := [.sc _]) rfl) ResAll.nil')
      case h2 => simp [two]
      refine ⟨rfl, ⟨?_, trivial⟩, trivial⟩ <;> (show some (T.lit (Value.bool _)) = some (T.lit (Value.bool _)); refine congrArg (fun z => some (T.lit (Value.bool z))) ?_; (clear hA hB; obtain ⟨a1, a2, a3, a4, a5, a6, a7, a8, a9, a10⟩ := a; obtain ⟨b1, b2, b3, b4, b5, b6, b7, b8, b9, b10⟩ := b; rw [Bool.eq_iff_iff]; simp only [SorterD.mk.injEq, decide_eq_true_eq]; first | (simp_all; done) | (simp at *; simp_all; done) | (constructor <;> intro h <;> simp_all; done)))
  · skip   -- g0.F
    refine SV.opN rfl rfl rfl (gle rfl) rfl rfl rfl (gle rfl) ?_
    refine SV.opN rfl rfl rfl (gle rfl) rfl rfl rfl (gle rfl) ?_
    refine SV.opN rfl rfl rfl (gle rfl) rfl rfl rfl (gle rfl) ?_
    refine SV.opN rfl rfl rfl (gle rfl) rfl rfl rfl (gle rfl) ?_
    refine SV.opN rfl rfl rfl (gle rfl) rfl rfl rfl (gle rfl) ?_
    refine SV.op (OpL.ok (nb := 2) (ok_pickF (v := V.one (.sc _)) rfl rfl rfl) rfl (gle rfl)) rfl ?_
    refine SV.op (OpL.ok (nb := 2) (ok_move (v := V.one (.sc _)) (.inl rfl) rfl) rfl (gle rfl)) rfl ?_
    refine SV.opN rfl rfl rfl (gle rfl) rfl rfl rfl (gle rfl) ?_
    refine SV.opN rfl rfl rfl (gle rfl) rfl rfl rfl (gle rfl) ?_
    refine SV.opN rfl rfl rfl (gle rfl) rfl rfl rfl (gle rfl) ?_
    refine SV.opN rfl rfl rfl (gle rfl) rfl rfl rfl (gle rfl) ?_
    refine SV.opN rfl rfl rfl (gle rfl) rfl rfl rfl (gle rfl) ?_
    refine SV.op (OpL.ok (nb := 2) (ok_pickF (v := V.one (.sc _)) rfl rfl rfl) rfl (gle rfl)) rfl ?_
    refine SV.op (OpL.ok (nb := 2) (ok_move (v := V.one (.sc _)) (.inl rfl) rfl) rfl (gle rfl)) rfl ?_
    refine SV.opN rfl rfl rfl (gle rfl) rfl rfl rfl (gle rfl) ?_
    refine SV.opN rfl rfl rfl (gle rfl) rfl rfl rfl (gle rfl) ?_
    refine SV.opN rfl rfl rfl (gle rfl) rfl rfl rfl (gle rfl) ?_
    refine SV.opN rfl rfl rfl (gle rfl) rfl rfl rfl (gle rfl) ?_
    refine SV.opN rfl rfl rfl (gle rfl) rfl rfl rfl (gle rfl) ?_
    refine SV.op (OpL.ok (nb := 2) (ok_pickF (v := V.one (.sc _)) rfl rfl rfl) rfl (gle rfl)) rfl ?_
    refine SV.op (OpL.ok (nb := 2) (ok_move (v := V.one (.sc _)) (.inl rfl) rfl) rfl (gle rfl)) rfl ?_
    refine SV.opN rfl rfl rfl (gle rfl) rfl rfl rfl (gle rfl) ?_
    refine SV.opN rfl rfl rfl (gle rfl) rfl rfl rfl (gle rfl) ?_
    refine SV.opN rfl rfl rfl (gle rfl) rfl rfl rfl (gle rfl) ?_
    refine SV.opN rfl rfl rfl (gle rfl) rfl rfl rfl (gle rfl) ?_
    refine SV.opN rfl rfl rfl (gle rfl) rfl rfl rfl (gle rfl) ?_
    refine SV.op (OpL.ok (nb := 2) (ok_pickF (v := V.one (.sc _)) rfl rfl rfl) rfl (gle rfl)) rfl ?_
    refine SV.op (OpL.ok (nb := 2) (ok_move (v := V.one (.sc _)) (.inl rfl) rfl) rfl (gle rfl)) rfl ?_
    refine SV.opN rfl rfl rfl (gle rfl) rfl rfl rfl (gle rfl) ?_
    refine SV.opN rfl rfl rfl (gle rfl) rfl rfl rfl (gle rfl) ?_
    refine SV.opN rfl rfl rfl (gle rfl) rfl rfl rfl (gle rfl) ?_
    refine SV.opN rfl rfl rfl (gle rfl) rfl rfl rfl (gle rfl) ?_
    refine SV.opN rfl rfl rfl (gle rfl) rfl rfl rfl (gle rfl) ?_
    refine SV.op (OpL.ok (nb := 2) (ok_pickF (v := V.one (.sc _)) rfl rfl rfl) rfl (gle rfl)) rfl ?_
    refine SV.op (OpL.ok (nb := 2) (ok_move (v := V.one (.sc _)) (.inl rfl) rfl) rfl (gle rfl)) rfl ?_
    refine SV.opN rfl rfl rfl (gle rfl) rfl rfl rfl (gle rfl) ?_
    refine SV.opN rfl rfl rfl (gle rfl) rfl rfl rfl (gle rfl) ?_
    refine SV.opN rfl rfl rfl (gle rfl) rfl rfl rfl (gle rfl) ?_
    refine SV.opN rfl rfl rfl (gle rfl) rfl rfl rfl (gle rfl) ?_
    refine SV.opN rfl rfl rfl (gle rfl) rfl rfl rfl (gle rfl) ?_
    refine SV.op (OpL.ok (nb := 2) (ok_pickF (v := V.one (.sc _)) rfl rfl rfl) rfl (gle rfl)) rfl ?_
    refine SV.op (OpL.ok (nb := 2) (ok_move (v := V.one (.sc _)) (.inl rfl) rfl) rfl (gle rfl)) rfl ?_
    refine SV.opN rfl rfl rfl (gle rfl) rfl rfl rfl (gle rfl) ?_
    refine SV.opN rfl rfl rfl (gle rfl) rfl rfl rfl (gle rfl) ?_
    refine SV.opN rfl rfl rfl (gle rfl) rfl rfl rfl (gle rfl) ?_
    refine SV.opN rfl rfl rfl (gle rfl) rfl rfl rfl (gle rfl) ?_
    refine SV.opN rfl rfl rfl (gle rfl) rfl rfl rfl (gle rfl) ?_
    refine SV.op (OpL.ok (nb := 2) (ok_pickF (v := V.one (.sc _)) rfl rfl rfl) rfl (gle rfl)) rfl ?_
    refine SV.op (OpL.ok (nb := 2) (ok_move (v := V.one (.sc _)) (.inl rfl) rfl) rfl (gle rfl)) rfl ?_
    refine SV.opN rfl rfl rfl (gle rfl) rfl rfl rfl (gle rfl) ?_
    refine SV.opN rfl rfl rfl (gle rfl) rfl rfl rfl (gle rfl) ?_
    refine SV.opN rfl rfl rfl (gle rfl) rfl rfl rfl (gle rfl) ?_
    refine SV.opN rfl rfl rfl (gle rfl) rfl rfl rfl (gle rfl) ?_
    refine SV.opN rfl rfl rfl (gle rfl) rfl rfl rfl (gle rfl) ?_
    refine SV.op (OpL.ok (nb := 2) (ok_pickF (v := V.one (.sc _)) rfl rfl rfl) rfl (gle rfl)) rfl ?_
    refine SV.op (OpL.ok (nb := 2) (ok_move (v := V.one (.sc _)) (.inl rfl) rfl) rfl (gle rfl)) rfl ?_
    refine SV.opN rfl rfl rfl (gle rfl) rfl rfl rfl (gle rfl) ?_
    refine SV.opN rfl rfl rfl (gle rfl) rfl rfl rfl (gle rfl) ?_
    refine SV.opN rfl rfl rfl (gle rfl) rfl rfl rfl (gle rfl) ?_
    refine SV.opN rfl rfl rfl (gle rfl) rfl rfl rfl (gle rfl) ?_
    refine SV.opN rfl rfl rfl (gle rfl) rfl rfl rfl (gle rfl) ?_
    refine SV.op (OpL.ok (nb := 2) (ok_pickF (v := V.one (.sc _)) rfl rfl rfl) rfl (gle rfl)) rfl ?_
    refine SV.op (OpL.ok (nb := 2) (ok_move (v := V.one (.sc _)) (.inr rfl) rfl) rfl (gle rfl)) rfl ?_
    refine SV.nil ?_
    refine SV.tn ?_
    refine SV.ret ?_
    apply SV.done (hf := Try.results33) (ht := rfl) (he := .inl rfl)
    case hr => exact (ResAll.cons (ResOk.tmp (ag := false) (xs := [.sc _]) rfl) ResAll.nil')
    case h2 => simp [two]
    refine ⟨rfl, ⟨?_, trivial⟩, trivial⟩ <;> (show some (T.lit (Value.bool _)) = some (T.lit (Value.bool _)); refine congrArg (fun z => some (T.lit (Value.bool z))) ?_; (clear hA hB; obtain ⟨a1, a2, a3, a4, a5, a6, a7, a8, a9, a10⟩ := a; obtain ⟨b1, b2, b3, b4, b5, b6, b7, b8, b9, b10⟩ := b; rw [Bool.eq_iff_iff]; simp only [SorterD.mk.injEq, decide_eq_true_eq]; first | (simp_all; done) | (simp at *; simp_all; done) | (constructor <;> intro h <;> simp_all; done)))
end Go.Proofs.Ytpnbnbhifpcelaa
