/- The program's sorted pairs: told by trees. -/
import Derived.Test.YtlnjgoommpeioaaPCmpG
import Derived.Test.YtlnjgoommpeioaaSortG
import Derived.Test.YtlnjgoommpeioaaShelfSort
namespace Go.Proofs.Ytlnjgoommpeioaa
open Go Go.RowKit V
set_option linter.unusedVariables false
instance : Inhabited PairD := ⟨⟨default, default, false⟩⟩
theorem vsortf (X : List PairD) (hX : X.length ≤ 350000000000) : VU Try.prog 53 [(false, [.ln 0]), (false, [.rd (.lit (.func (.func 24) #[] #[]))])] [.seq 32 (X.map tPair)] [.seq 32 ((Ord.sort PairD.cmp X).map tPair)] := by
  have eg : ∀ args w, (callFunc 24 args).run Try.prog w = .ok (.enter 24 args) w := enters_of Try.func24 (by kernel_rfl) rfl
  refine vsort_gen (enc := PairD.cells) (k := 7) (fun x => rfl) (fun _ => rfl) (fun x v hv => ?_) PairD.ord sz_impl_Pair (by decide) (fun p cap w => ?_) (fun g cap d w hH hg hsz => ?_) X hX
  · simp [PairD.cells] at hv
    rcases hv with rfl | rfl | rfl | rfl | rfl | rfl | rfl <;> rfl
  · have hn := AnyF.slices_SortFunc_none Try.sortPairs p cap (.func (.func 24) #[] #[]) w
    exact hn
  · have hcon := AnyQ.slices_SortFunc Try.sortPairs 7 Try.isAgg32 Try.sizeOf32 PairD.cells (fun _ => rfl) (fun x v hv => by simp [PairD.cells] at hv; rcases hv with rfl | rfl | rfl | rfl | rfl | rfl | rfl <;> rfl) PairD.cmp (swo_of PairD.ord) 24 #[] g 0 cap d w eg
      (fun m os dk _ x y => ipcmpG x y _) hH hg hsz
    exact hcon
set_option maxRecDepth 100000 in
set_option maxHeartbeats 2000000 in
theorem vclone (X : List PairD) (hX : X.length ≤ 350000000000) : VC Try.prog 52 [(false, [.seq 32 (X.map tPair)])] false [(false, [.seq 32 ((X).map tPair)])] := by
  refine VC.enter Try.func52 rfl Try.ntmps52 (Nat.le_of_ble_eq_true rfl) fun E hE => ?_
  refine SV.seq' ?_
  refine SV.region ?_
  refine SV.op (OpL.ok (nb := 0) (ok_move (v := V.one (.sc _)) (.inr rfl) rfl) rfl (Nat.le_of_ble_eq_true rfl)) rfl ?_
  refine SV.nil ?_
  refine SV.tn ?_
  refine SV.seq' ?_
  refine SV.seq' ?_
  refine SV.region ?_
  refine SV.op (OpL.ok (nb := 0) (ok_move (v := V.one (.ro _)) (.inl rfl) rfl) rfl (Nat.le_of_ble_eq_true rfl)) rfl ?_
  refine SV.isnil (d := 4) (x := .tmp 3) (y := .const ((Value.slice none 0 0))) rfl rfl rfl (Nat.le_of_ble_eq_true rfl) rfl (fun ρ ad n c w h1 h2 => by (cases ad <;> (go_simp; first | done | rfl | (simp [h1, h2]; done)))) (fun hg0 => ?_) ?_
  · skip   -- g0.T
    refine SV.nil ?_
    refine SV.tn ?_
    refine SV.cond rfl (fun hc0 => ?_) (fun hc0 => ?_)
    · skip   -- c0.T
      refine SV.seq' ?_
      refine SV.region ?_
      refine SV.op (OpL.ok (nb := 0) (ok_move (v := V.one (.sc _)) (.inr rfl) rfl) rfl (Nat.le_of_ble_eq_true rfl)) rfl ?_
      refine SV.nil ?_
      refine SV.tn ?_
      refine SV.ret ?_
      refine SV.tr ?_
      refine SV.nlsc (s := 2) (kk := 0) (n := 7) rfl rfl (by decide) sz_impl_Pair (Nat.le_of_ble_eq_true rfl) ?_
      apply SV.done (hf := Try.results52) (ht := rfl) (he := .inr rfl)
      case hr => exact (ResAll.cons (ResOk.tmp (ag := false) (xs := [.hd 0]) rfl) ResAll.nil')
      case h2 => simp [two]
      refine ⟨rfl, ⟨?_, trivial⟩, trivial⟩ <;> (show some (T.seq _ _) = some (T.seq _ _); first | rfl | (rw [hg0]; done) | (simp; done))
    · skip   -- c0.F
      cases hc0
  · skip   -- g0.F
    refine SV.nil ?_
    refine SV.tn ?_
    refine SV.cond rfl (fun hc1 => ?_) (fun hc1 => ?_)
    · skip   -- c1.T
      cases hc1
    · skip   -- c1.F
      refine SV.skip ?_
      refine SV.tn ?_
      refine SV.seq' ?_
      refine SV.region ?_
      refine SV.op (OpMk.ok (ok_lit0 (kk := 0) elt_impl_Pair rfl rfl rfl (Nat.le_of_ble_eq_true rfl))) rfl ?_
      refine SV.op (OpL.ok (nb := 0) (ok_move (v := V.one (.ro _)) (.inl rfl) rfl) rfl (Nat.le_of_ble_eq_true rfl)) rfl ?_
      refine SV.op (OpMk.ok (ok_append_ro (kk := 1) elt_impl_Pair (ls := .hd 0) (lx := .ro _) rfl rfl rfl rfl rfl rfl (flat_impl_Pair _) (by simp; omega) rfl (Nat.le_of_ble_eq_true rfl))) rfl ?_
      refine SV.op (OpL.ok (nb := 0) (ok_move (v := V.one (.hd 1)) (.inr rfl) rfl) rfl (Nat.le_of_ble_eq_true rfl)) rfl ?_
      refine SV.nil ?_
      refine SV.tn ?_
      refine SV.ret ?_
      apply SV.done (hf := Try.results52) (ht := rfl) (he := .inl rfl)
      case hr => exact (ResAll.cons (ResOk.tmp (ag := false) (xs := [.hd 1]) rfl) ResAll.nil')
      case h2 => simp [two]
      refine ⟨rfl, ⟨?_, trivial⟩, trivial⟩ <;> (show some (T.seq _ _) = some (T.seq _ _); first | rfl | (rw [hg0]; done) | (simp; done))
set_option maxRecDepth 100000 in
set_option maxHeartbeats 2000000 in
theorem vsorted_i (X : List PairD) (hX : X.length ≤ 350000000000) : VC Try.prog 36 [(false, [.seq 32 (X.map tPair)])] false [(false, [.seq 32 ((Ord.sort PairD.cmp X).map tPair)])] := by
  refine VC.enter Try.func36 rfl Try.ntmps36 (Nat.le_of_ble_eq_true rfl) fun E hE => ?_
  refine SV.seq' ?_
  refine SV.region ?_
  refine SV.op (OpL.ok (nb := 0) (ok_move (v := V.one (.sc _)) (.inr rfl) rfl) rfl (Nat.le_of_ble_eq_true rfl)) rfl ?_
  refine SV.nil ?_
  refine SV.tn ?_
  refine SV.seq' ?_
  refine SV.region ?_
  refine SV.op (OpL.ok (nb := 0) (ok_move (v := V.one (.ro _)) (.inl rfl) rfl) rfl (Nat.le_of_ble_eq_true rfl)) rfl ?_
  refine SV.op (OpMk.ok (ok_call (ls := [(false, [.hd 0])]) rfl rfl ⟨_, _, Try.func52, rfl, by decide⟩ (vclone X hX) ⟨⟨[.ro _], rfl, ⟨rfl, trivial⟩⟩, trivial⟩ rfl (Nat.le_of_ble_eq_true rfl))) rfl ?_
  refine SV.op (OpL.ok (nb := 0) (ok_move (v := V.one (.hd 0)) (.inr rfl) rfl) rfl (Nat.le_of_ble_eq_true rfl)) rfl ?_
  refine SV.nil ?_
  refine SV.tn ?_
  refine SV.seq' ?_
  refine SV.region ?_
  refine SV.op (OpL.ok (nb := 0) (ok_move (v := V.one (.hd 0)) (.inl rfl) rfl) rfl (Nat.le_of_ble_eq_true rfl)) rfl ?_
  refine SV.op (ok_callU (is := [0]) rfl ⟨_, _, Try.func53, rfl, by decide⟩ (vsortf X hX) ⟨⟨[.hd 0], rfl, ⟨rfl, trivial⟩⟩, ⟨[.sc _], rfl, ⟨⟨_, rfl, rfl⟩, trivial⟩⟩, trivial⟩ ⟨⟨⟨_, rfl⟩, _, _, rfl⟩, trivial⟩ (by decide) rfl (Nat.le_of_ble_eq_true rfl)) rfl ?_
  refine SV.nil ?_
  refine SV.tn ?_
  refine SV.seq' ?_
  refine SV.region ?_
  refine SV.op (OpL.ok (nb := 0) (ok_move (v := V.one (.hd 0)) (.inl rfl) rfl) rfl (Nat.le_of_ble_eq_true rfl)) rfl ?_
  refine SV.op (OpL.ok (nb := 0) (ok_move (v := V.one (.hd 0)) (.inr rfl) rfl) rfl (Nat.le_of_ble_eq_true rfl)) rfl ?_
  refine SV.nil ?_
  refine SV.tn ?_
  refine SV.ret ?_
  apply SV.done (hf := Try.results36) (ht := rfl) (he := .inl rfl)
  case hr => exact (ResAll.cons (ResOk.tmp (ag := false) (xs := [.hd 0]) rfl) ResAll.nil')
  case h2 => simp [two]
  refine ⟨rfl, ⟨?_, trivial⟩, trivial⟩ <;> rfl
end Go.Proofs.Ytlnjgoommpeioaa
