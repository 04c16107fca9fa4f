/- Texts joined: Plan CopyS DOp CreateS ElIn Clone CopyI CreateI DiskW BlkMany DeleteS FindI IdxI Erase DelFnI DeleteI SameRows EqRowsS EqualS EqRowsI EqualI. -/
import Derived.Test.YthbifibnnhikjaaPartSixb
import Derived.OrdersHeld
import Derived.Deep.RegionHeld
import Derived.Deep.RegionHeld3
import Derived.Deep.AppendLies
import Derived.Deep.CutRange
import Derived.Lib.SliceRun
import Derived.Lib.Walk
import Derived.Maps.AppendAt
import Derived.Deep.QuietTactic
import Derived.BigQuiet
import Derived.StillTailTactics
import Derived.Laws.StructEq
/- A region that draws its order, walked once along a plan: operations that yield one value in every world that is kept (loads, addresses, arithmetic) as soon as they may come up, the operations that make or write memory one behind the other; the last ones may write what the loads have read. No function of the program. -/
namespace Go.Proofs.Ythbifibnnhikjaa
open Go

/-- One step of a plan: an operation that yields one value in every world that is kept; an operation behind which the world is kept. -/
inductive PStep where
  | q (i : Nat)
  | m (i : Nat)
section
variable {P : Program} {ops : Array Oper} {Q : Exit → Act → World → Prop} {md : Region.Mode} {S : World → Prop}

/-- Whatever order is picked from here on, and S holds behind every operation but the late ones. -/
def wpAnyP (P : Program) (md : Region.Mode) (ops : Array Oper) (Q : Exit → Act → World → Prop) (S : World → Prop) (late : Nat → Bool) : Nat → Array Bool → Act → World → Prop
  | 0, listed, a, w => Region.ready md ops listed = [] ∧ Q .normal a w
  | fuel + 1, listed, a, w =>
    (Region.ready md ops listed = [] → Q .normal a w) ∧
    ∀ i ∈ Region.ready md ops listed, wpOp P ops Q i (fun a' w' => (late i = false → S w') ∧ wpAnyP P md ops Q S late fuel (listed.setIfInBounds i true) a' w') a w
theorem wpAny_of_P {late : Nat → Bool} : ∀ (fuel : Nat) (listed : Array Bool) (a : Act) (w : World), wpAnyP P md ops Q S late fuel listed a w → wpAny P md ops Q fuel listed a w
  | 0, _, _, _, h => h
  | fuel + 1, _, _, _, h => ⟨h.1, fun i hi => wpOp_mono (fun a' w' h' => wpAny_of_P fuel _ a' w' h'.2) (h.2 i hi)⟩
/-- The operations that wait for i, some through others. -/
def waiters (md : Region.Mode) (ops : Array Oper) (i : Nat) : Array Bool :=
  (List.range ops.size).foldl (fun D k => D.push (match ops[k]? with | some o => o.after.any (fun e => Region.binds md e && (e.on == i || D.getD e.on false)) | none => false)) #[]
/-- All late operations wait for i, and none of those that wait for it has come up. -/
def lateB (md : Region.Mode) (ops : Array Oper) (late : Nat → Bool) (listed : Array Bool) (i : Nat) : Bool :=
  (List.range ops.size).all fun d => (!late d || (waiters md ops i).getD d false) && (!(waiters md ops i).getD d false ||
    (!listed.getD d false && (match ops[d]? with | some o => o.after.any (fun e => Region.binds md e && (e.on == i || ((waiters md ops i).getD e.on false && decide (e.on < ops.size)))) | none => false)))
/-- Nothing that waits for i comes up ahead of i. -/
theorem not_waiting {D : Nat → Bool} {i j : Nat} {listed : Array Bool} (hi : listed.getD i false = false) (hD : ∀ d, d < ops.size → D d = true → listed.getD d false = false ∧ ∃ o, ops[d]? = some o ∧ ∃ e ∈ o.after, Region.binds md e = true ∧ (e.on = i ∨ (D e.on = true ∧ e.on < ops.size)))
    (hj : j ∈ Region.ready md ops listed) : D j = false := by
  cases h : D j with
  | false => rfl
  | true =>
    obtain ⟨-, oj, hoj, hall⟩ := mem_ready.1 hj
    have hjl : j < ops.size := (Array.getElem?_eq_some_iff.1 hoj).1
    obtain ⟨-, o, ho, e, he, hb, hor⟩ := hD j hjl h
    rw [hoj] at ho
    cases ho
    have h1 := hall e he hb
    have h2 : listed.getD e.on false = false := by
      rcases hor with rfl | ⟨h3, h4⟩
      · exact hi
      · exact (hD _ h4 h3).1
    rw [h2] at h1
    cases h1
/-- An operation that yields one value in every world that is kept may be taken first, if all late operations wait for it. -/
theorem wpAnyP_first {late D : Nat → Bool} {i : Nat} {oi : Oper} {v : Value} (hi : ops[i]? = some oi) (hsel : ∀ (j : Nat) (o : Oper) cs b, ops[j]? = some o → o.op ≠ .select cs b)
    (hQ : ∀ c a w, Q (.panic c) (a.put oi.dst v) w → Q (.panic c) a w) (hlate : ∀ d, d < ops.size → late d = true → D d = true) (hDi : D i = false) :
    ∀ (fuel : Nat) (listed : Array Bool) (a : Act) (w : World),
      (∀ j oj, ops[j]? = some oj → j ≠ i → listed.getD j true = false → (∀ e ∈ oj.after, Region.binds md e = true → e.on ≠ i) → oi.apart ops oj = true) →
      (∀ d, d < ops.size → D d = true → listed.getD d false = false ∧ ∃ o, ops[d]? = some o ∧ ∃ e ∈ o.after, Region.binds md e = true ∧ (e.on = i ∨ (D e.on = true ∧ e.on < ops.size))) →
      i ∈ Region.ready md ops listed → YieldsIf P ops S oi v a → S w →
      wpAnyP P md ops Q S late fuel (listed.setIfInBounds i true) (a.put oi.dst v) w → wpAnyP P md ops Q S late (fuel + 1) listed a w := by
  intro fuel
  induction fuel with
  | zero =>
    intro listed a w _ hD hr hy hS H
    refine ⟨fun h => (by rw [h] at hr; cases hr), fun j hj => ?_⟩
    by_cases hji : j = i
    · subst hji; exact hy.wpOp hi hS ⟨fun _ => hS, H⟩
    · have := ready_mono hj hji
      rw [H.1] at this
      cases this
  | succ fuel ih =>
    intro listed a w hfree hD hr hy hS H
    refine ⟨fun h => (by rw [h] at hr; cases hr), fun j hj => ?_⟩
    by_cases hji : j = i
    · subst hji; exact hy.wpOp hi hS ⟨fun _ => hS, H⟩
    · have h1 := H.2 j (ready_mono hj hji)
      obtain ⟨hjun, oj, hoj, hall⟩ := mem_ready.1 hj
      have hiu : listed.getD i false = false := by
        have h0 := (mem_ready.1 hr).1
        rcases Nat.lt_or_ge i listed.size with h' | h'
        · simp [h'] at h0 ⊢; exact h0
        · simp [Array.getElem?_eq_none h'] at h0 ⊢
      have hnot : ∀ e ∈ oj.after, Region.binds md e = true → e.on ≠ i := fun e he hb heq => by
        have h1 := hall e he hb
        rw [heq, hiu] at h1
        cases h1
      have hDj := not_waiting hiu hD hj
      have hjl : j < ops.size := (Array.getElem?_eq_some_iff.1 hoj).1
      have hlj : late j = false := by
        cases h : late j with
        | false => rfl
        | true => rw [hlate j hjl h] at hDj; cases hDj
      have h2 := wpOp_putIf hoj (hfree j oj hoj hji hjun hnot) (fun cs b => hsel i oi cs b hi) (fun cs b => hsel j oj cs b hoj) hQ hy h1
      have hfree' : ∀ k ok, ops[k]? = some ok → k ≠ i → (listed.setIfInBounds j true).getD k true = false →
          (∀ e ∈ ok.after, Region.binds md e = true → e.on ≠ i) → oi.apart ops ok = true := fun k ok hk hki hun hno => by
        refine hfree k ok hk hki ?_ hno
        by_cases hjk : j = k
        · subst hjk; exact hjun
        · rw [getD_set_ne true hjk] at hun; exact hun
      have hD' : ∀ d, d < ops.size → D d = true → (listed.setIfInBounds j true).getD d false = false ∧ ∃ o, ops[d]? = some o ∧ ∃ e ∈ o.after, Region.binds md e = true ∧ (e.on = i ∨ (D e.on = true ∧ e.on < ops.size)) := fun d hd h => by
        have hne : j ≠ d := fun e => by rw [e, h] at hDj; cases hDj
        rw [getD_set_ne false hne]
        exact hD d hd h
      refine wpOp_mono (fun a' w' h3 => ⟨h3.2.1, ih (listed.setIfInBounds j true) a' w' hfree' hD' (ready_mono hr (Ne.symm hji)) h3.1 (h3.2.1 hlj) ?_⟩) h2
      rw [Array.setIfInBounds_comm _ _ hji]
      exact h3.2.2
/-! ### The walk along a plan -/
def wpZ (P : Program) (ops : Array Oper) (Q : Exit → Act → World → Prop) : List Nat → Act → World → Prop
  | [], a, w => Q .normal a w
  | i :: zs, a, w => wpOp P ops Q i (wpZ P ops Q zs) a w
def wpPi (P : Program) (ops : Array Oper) (Q : Exit → Act → World → Prop) (S : World → Prop) (zs : List Nat) : List PStep → Act → World → Prop
  | [], a, w => wpZ P ops Q zs a w
  | .q i :: ps, a, w => ∃ o v, ops[i]? = some o ∧ (∀ c a w, Q (.panic c) (a.put o.dst v) w → Q (.panic c) a w) ∧ YieldsIf P ops S o v a ∧ wpPi P ops Q S zs ps (a.put o.dst v) w
  | .m i :: ps, a, w => wpOp P ops Q i (fun a' w' => S w' ∧ (S w' → wpPi P ops Q S zs ps a' w')) a w
def planZ (md : Region.Mode) (ops : Array Oper) : List Nat → Array Bool → Bool
  | [], listed => (Region.ready md ops listed).isEmpty
  | i :: zs, listed => decide (Region.ready md ops listed = [i]) && planZ md ops zs (listed.setIfInBounds i true)
def planP (md : Region.Mode) (ops : Array Oper) (zs : List Nat) : List PStep → Array Bool → Bool
  | [], listed => planZ md ops zs listed
  | .q i :: ps, listed => (Region.ready md ops listed).contains i && Region.free md ops listed i && lateB md ops (fun d => zs.contains d) listed i && !(waiters md ops i).getD i false && planP md ops zs ps (listed.setIfInBounds i true)
  | .m i :: ps, listed => decide (Region.ready md ops listed = [i]) && !zs.contains i && planP md ops zs ps (listed.setIfInBounds i true)
/-- The plan fits the region. -/
def planB (md : Region.Mode) (ops : Array Oper) (ps : List PStep) (zs : List Nat) : Bool := Region.noSelect ops && decide (ps.length + zs.length = ops.size) && planP md ops zs ps (Array.replicate ops.size false)
theorem wpAnyP_of_z {late : Nat → Bool} : ∀ (zs : List Nat) (listed : Array Bool) (a : Act) (w : World), (∀ i ∈ zs, late i = true) → planZ md ops zs listed = true → wpZ P ops Q zs a w → wpAnyP P md ops Q S late zs.length listed a w
  | [], _, _, _, _, hp, h => ⟨by simpa [planZ] using hp, h⟩
  | i :: zs, listed, a, w, hl, hp, h => by
    simp only [planZ, Bool.and_eq_true, decide_eq_true_eq] at hp
    refine ⟨fun h0 => (by rw [hp.1] at h0; cases h0), fun j hj => ?_⟩
    rw [hp.1] at hj
    obtain rfl := List.mem_singleton.1 hj
    exact wpOp_mono (fun a' w' h' => ⟨fun h => (by rw [hl _ (List.mem_cons_self ..)] at h; cases h), wpAnyP_of_z zs _ a' w' (fun k hk => hl k (List.mem_cons_of_mem _ hk)) hp.2 h'⟩) h
theorem wpAnyP_of_pi {zs : List Nat} (hs : Region.noSelect ops = true) : ∀ (ps : List PStep) (listed : Array Bool) (a : Act) (w : World), planP md ops zs ps listed = true → S w → wpPi P ops Q S zs ps a w → wpAnyP P md ops Q S (fun d => zs.contains d) (ps.length + zs.length) listed a w
  | [], listed, a, w, hp, _, h => by
    rw [List.length_nil, Nat.zero_add]
    exact wpAnyP_of_z zs listed a w (fun i hi => by simpa using hi) hp h
  | .q i :: ps, listed, a, w, hp, hS, h => by
    simp only [planP, Bool.and_eq_true, Bool.not_eq_true'] at hp
    obtain ⟨⟨⟨⟨hr, hf⟩, hl⟩, hw⟩, hp⟩ := hp
    obtain ⟨o, v, ho, hQ, hy, h⟩ := h
    unfold lateB at hl
    rw [List.all_eq_true] at hl
    rw [List.length_cons, Nat.add_right_comm]
    refine wpAnyP_first (D := fun d => (waiters md ops i).getD d false) ho (Region.noSelect_spec hs) hQ (fun d hd hl2 => ?_) hw _ _ _ _ (Region.free_spec ho hf) (fun d hd hD => ?_) (by simpa using hr) hy hS (wpAnyP_of_pi hs ps _ _ _ hp hS h)
    · have := hl d (List.mem_range.2 hd)
      rw [Bool.and_eq_true] at this
      have h3 := this.1
      rw [Bool.or_eq_true] at h3
      rcases h3 with h1 | h1
      · have h4 : (!zs.contains d) = true := h1; rw [show zs.contains d = true from hl2] at h4; cases h4
      · exact h1
    · have := hl d (List.mem_range.2 hd)
      rw [Bool.and_eq_true] at this
      have h3 := this.2
      rw [Bool.or_eq_true] at h3
      rcases h3 with h1 | h1
      · rw [show (waiters md ops i).getD d false = true from hD] at h1; cases h1
      · rw [Bool.and_eq_true, Bool.not_eq_true'] at h1
        refine ⟨h1.1, ?_⟩
        have h2 := h1.2
        split at h2
        · rename_i o' ho'
          rw [Array.any_eq_true] at h2
          obtain ⟨k, hk, he⟩ := h2
          rw [Bool.and_eq_true, Bool.or_eq_true, Bool.and_eq_true, decide_eq_true_eq] at he
          exact ⟨o', ho', o'.after[k], Array.getElem_mem hk, he.1, he.2.imp (fun h => by simpa using h) id⟩
        · cases h2
  | .m i :: ps, listed, a, w, hp, hS, h => by
    simp only [planP, Bool.and_eq_true, decide_eq_true_eq] at hp
    obtain ⟨⟨hr, hz⟩, hp⟩ := hp
    rw [List.length_cons, Nat.add_right_comm]
    refine ⟨fun h0 => (by rw [hr] at h0; cases h0), fun j hj => ?_⟩
    rw [hr] at hj
    obtain rfl := List.mem_singleton.1 hj
    exact wpOp_mono (fun a' w' h' => ⟨fun _ => h'.1, wpAnyP_of_pi hs ps _ a' w' hp h'.1 (h'.2 h'.1)⟩) h
theorem region_plan {id : Nat} {a : Act} {w : World} (S : World → Prop) (ps : List PStep) (zs : List Nat) (hm : P.follows .mixedOrders = true) (hB : planB .any ops ps zs = true) (hS : S w.drew) (h : S w.drew → wpPi P ops Q S zs ps a w.drew) : (Code.region id ops true).wp P Q a w := by
  simp only [planB, Bool.and_eq_true, decide_eq_true_eq] at hB
  obtain ⟨⟨h1, h2⟩, h3⟩ := hB
  refine wp_region_any hm (wpAny_of_P (S := S) (late := fun d => zs.contains d) _ _ _ _ ?_)
  rw [← h2]
  rw [← h2] at h3
  exact wpAnyP_of_pi h1 ps _ a w.drew h3 hS (h hS)
/-! ### Its moves -/
def nthO : List Oper → Nat → Option Oper
  | [], _ => none
  | o :: _, 0 => some o
  | _ :: l, n + 1 => nthO l n
theorem nthO_eq : ∀ (l : List Oper) (i : Nat), l.toArray[i]? = nthO l i
  | [], _ => by simp [nthO]
  | o :: l, 0 => by simp [nthO]
  | o :: l, n + 1 => by
    have := nthO_eq l n
    simpa [nthO] using this
variable {l : List Oper} {zs : List Nat} {ps : List PStep} {a : Act} {w : World} {i : Nat} {o : Oper}
theorem pi_take {v : Value} (ho : nthO l i = some o) (hQ : ∀ c a w, Q (.panic c) (a.put o.dst v) w → Q (.panic c) a w) (hw : Region.wanted o (yielded l.toArray a.tmps) = true) (hy : ∀ w, S w → (execOp a.eval o).run P w = .ok (.value v) w)
    (h : wpPi P l.toArray Q S zs ps (a.put o.dst v) w) : wpPi P l.toArray Q S zs (.q i :: ps) a w := ⟨o, v, (nthO_eq l i).trans ho, hQ, .inl ⟨hw, hy⟩, h⟩
theorem pi_pass (ho : nthO l i = some o) (hQ : ∀ c a w, Q (.panic c) (a.put o.dst undef) w → Q (.panic c) a w) (hw : Region.wanted o (yielded l.toArray a.tmps) = false) (h : wpPi P l.toArray Q S zs ps (a.put o.dst undef) w) : wpPi P l.toArray Q S zs (.q i :: ps) a w :=
  ⟨o, undef, (nthO_eq l i).trans ho, hQ, .inr ⟨hw, rfl⟩, h⟩
theorem pi_step (ho : nthO l i = some o) (h : ∀ K' : Act → World → Prop, Shut (∀ a w, S w → (S w → wpPi P l.toArray Q S zs ps a w) → K' a w) → if Region.wanted o (yielded l.toArray a.tmps) = true then Oper.wp P o a w K' Q else K' (a.put o.dst undef) w) :
    wpPi P l.toArray Q S zs (.m i :: ps) a w := wpOp_step ((nthO_eq l i).trans ho) fun K' hK => h K' fun a w hS hW => hK a w ⟨hS, hW⟩
theorem pi_end (h : wpZ P l.toArray Q zs a w) : wpPi P l.toArray Q S zs [] a w := h
theorem z_step (ho : nthO l i = some o) (h : ∀ K' : Act → World → Prop, Shut (∀ a w, wpZ P l.toArray Q zs a w → K' a w) → if Region.wanted o (yielded l.toArray a.tmps) = true then Oper.wp P o a w K' Q else K' (a.put o.dst undef) w) :
    wpZ P l.toArray Q (i :: zs) a w := wpOp_step ((nthO_eq l i).trans ho) h
theorem z_end (h : Q .normal a w) : wpZ P l.toArray Q [] a w := h
end
end Go.Proofs.Ythbifibnnhikjaa
/- The reference's l6Copy, by contract. -/
namespace Go.Proofs.Ythbifibnnhikjaa
open Go.RowKit
set_option linter.unusedVariables false

set_option maxRecDepth 100000 in
set_option maxHeartbeats 4000000 in
theorem scopy (a : Option Addr) (n c : Nat) (X : DiskD) (w : World) (h : diskRep.inn w X ((a, n, c), ())) (hw : wtDisk X ≤ 1000000000) :
    Calls Try.prog 40 #[.agg #[.slice a n c, .int .i64 X.fNextName]] w (GivesDisk X w) := by
  have hnx := (disk_in h).2.2
  obtain ⟨W, hW⟩ : ∃ W, W = ((w.alloc (.cells #[.slice a n c, .int .i64 X.fNextName] 31)).alloc (.cells #[.slice none 0 0, .int .i64 0] 31)).alloc (.cells #[.slice none 0 0, .int .i64 X.fNextName] 31) := ⟨_, rfl⟩
  obtain ⟨hz, b0, k0, k1, k2⟩ := boxes3 w W hW
  have HZ := Lib.hid hz
  have B0 := Lib.hid b0
  have K0 := Lib.hid k0
  have K1 := Lib.hid k1
  have K2 := Lib.hid k2
  have HI := Lib.hid (disk_in h).1
  have HL := Lib.hid (disk_len h).1
  have HW := Lib.hid hw
  have HNX := Lib.hid hnx
  have hnm := (disk_len h).2
  unfold maxLen at hnm
  obtain ⟨nx, hnx'⟩ : ∃ nx, nx = X.fNextName := ⟨_, rfl⟩
  rw [← hnx'] at hW K0 K2 HNX ⊢
  have HE := Lib.hid hnx'
  have c0 : W.cell? ⟨w.heap.size, 0, none⟩ = some (.slice a n c) := box_cell K0.out 0 _ rfl
  clear h hz b0 k0 k1 k2 hnx hw hnx'
  go_enter Try.func40, Try.ntmps40
  go_wp2_with fail
  rw [← hW]
  clear hW
  go_loopw [4] (fun i wr => ∃ (t : Nat) (v : Value) (es : List (BEl fileB)), i = .int .i64 t ∧ t ≤ n ∧ Hid (es.map BEl.x = X.fFiles.take t) ∧ Hid (Kept (w.heap.size + 2) W wr) ∧ Hid (wr.heap[w.heap.size + 2]? = some (.cells #[v, .int .i64 nx] 31 (0, 0))) ∧ Hid (Blk 59 fileB wr (w.heap.size + 3) v es)) (fun i _ => n - (intOf i).toNat)
  case atStart => exact ⟨0, _, [], rfl, Nat.zero_le _, (show _ = _ from rfl), Kept.refl (by have := HZ.out; omega), K2, Blk.nil _ _ _ _⟩
  case round =>
    obtain ⟨t, v, es, rfl, ht, hes, hkp, hbx, hbl⟩ := hrel
    have hz := HZ.out
    have KW : Hid (∀ v, Kept (w.heap.size + 2) W v → Kept w.heap.size w v) := Lib.hid fun v hv => ⟨B0.out.trans (hv.1.mono (by omega)), Nat.le_trans (by omega) hv.2⟩
    have KC : Hid (∀ v, Kept (w.heap.size + 2) W v → v.cell? ⟨w.heap.size, 0, none⟩ = some (.slice a n c)) := Lib.hid fun v hv => hv.cell (by omega) (box_cell K0.out 0 _ rfl)
    have c0 := KC.out _ hkp.out
    by_cases hlt : t < n
    · have htl : t < X.fFiles.length := by have := HL.out; omega
      obtain ⟨f, hf⟩ : ∃ f, X.fFiles[t]? = some f := ⟨X.fFiles[t], by simp [htl]⟩
      obtain ⟨b, o, hd, rfl, hbl', hce, hin⟩ := HI.out.el hf
      have HF := Lib.hid hf
      obtain ⟨x0, x1, x2, x3⟩ := f
      obtain ⟨⟨a1, n1, k1⟩, ⟨⟩⟩ := hd
      obtain ⟨r0, ⟨h1, hc1⟩, r2, -⟩ := hin
      have IN := Lib.hid h1
      have R0 := Lib.hid r0
      have R2 := Lib.hid r2
      have KS : Hid (∀ v, Kept (w.heap.size + 2) W v → v.cell? ⟨w.heap.size, 0, none⟩ = some (.slice (some ⟨b, o, none⟩) n c) ∧ v.cell? ⟨b, o + t * 4, none⟩ = some (.int .i64 x0) ∧ v.cell? ⟨b, o + t * 4 + 2, none⟩ = some (.int .i64 x2) ∧ v.cell? ⟨b, o + t * 4 + 3, none⟩ = some (.bool x3) ∧ Hid (Kept (w.heap.size + 2) W v)) := Lib.hid fun v hv =>
        ⟨KC.out v hv, (KW.out v hv).cell hbl' (hce 0 _ rfl), (KW.out v hv).cell hbl' (hce 2 _ rfl), (KW.out v hv).cell hbl' (hce 3 _ rfl), hv⟩
      have KP : Hid (∀ v, Kept (w.heap.size + 2) W v → v.cell? ⟨b, o + t * 4 + 1, none⟩ = some (.slice a1 n1 k1)) := Lib.hid fun v hv => (KW.out v hv).cell hbl' (hce 1 _ rfl)
      have c0' := (KS.out _ hkp.out).1
      clear h1 r0 r2 hce hf hc1 c0
      obtain ⟨w5, hw5⟩ : ∃ v, v = (wr.alloc (.cells #[.int .i64 x0, .slice none 0 0, .int .i64 x2, .bool x3] 59)).drew := ⟨_, rfl⟩
      obtain ⟨fb, hfb⟩ : ∃ g, g = wr.heap.size := ⟨_, rfl⟩
      have hfl : w.heap.size + 3 ≤ fb := by have := lt_of_block hbx.out; omega
      have b5 : Below wr.heap.size wr w5 := by rw [hw5]; exact ((Below.refl _ _).alloc (Nat.le_refl _) _).drew
      have k5 : w5.heap[fb]? = some (.cells #[.int .i64 x0, .slice none 0 0, .int .i64 x2, .bool x3] 59 (0, 0)) := by rw [hw5, hfb]; exact heap_alloc_new _ _
      have F5 := Lib.hid k5
      have KP5 := Lib.hid (hkp.out.below b5)
      have hbx5 := Lib.hid ((b5.block _ (lt_of_block hbx.out)).trans hbx.out)
      have hbl5 := Lib.hid (hbl.out.below b5)
      have hll5 : Hid (∀ g ∈ blkOf v ++ gsOf es, g < fb) := Lib.hid fun g hg => by rw [hfb]; exact (hbl.out.lt g hg).2
      have HF5 := Lib.hid (lt_of_block k5)
      have HFB := Lib.hid hfb
      clear b5 k5
      go_wp2_with fail
      refine region_plan (Kept (w.heap.size + 2) W) [.q 0, .q 1, .q 2, .q 3, .q 4, .q 5, .q 6, .q 7, .q 8, .q 9, .q 10, .q 11, .q 12, .q 13, .q 14, .q 15, .q 16, .q 17, .q 18, .m 19] [20] (by kernel_rfl) (by kernel_rfl) hkp.out.drew (fun hHeld => ?_)
      first | (refine pi_take (v := ?pv1_0) rfl (fun _ _ _ h => h) (by rfl) (fun v hv => ?pr1_0) ?rest1_0; case pr1_0 => (obtain ⟨d0, d1, d2, d3, -⟩ := KS.out v hv; go_simp; first | done | with_reducible rfl)) | (refine pi_pass rfl (fun _ _ _ h => h) (by rfl) ?_)
      try simp only [Act.put, List.setIfInBounds_toArray, List.set_cons_zero, List.set_cons_succ]
      first | (refine pi_take (v := ?pv1_1) rfl (fun _ _ _ h => h) (by rfl) (fun v hv => ?pr1_1) ?rest1_1; case pr1_1 => (obtain ⟨d0, d1, d2, d3, -⟩ := KS.out v hv; go_simp; first | done | with_reducible rfl)) | (refine pi_pass rfl (fun _ _ _ h => h) (by rfl) ?_)
      try simp only [Act.put, List.setIfInBounds_toArray, List.set_cons_zero, List.set_cons_succ]
      first | (refine pi_take (v := ?pv1_2) rfl (fun _ _ _ h => h) (by rfl) (fun v hv => ?pr1_2) ?rest1_2; case pr1_2 => (obtain ⟨d0, d1, d2, d3, -⟩ := KS.out v hv; go_simp; first | done | with_reducible rfl)) | (refine pi_pass rfl (fun _ _ _ h => h) (by rfl) ?_)
      try simp only [Act.put, List.setIfInBounds_toArray, List.set_cons_zero, List.set_cons_succ]
      first | (refine pi_take (v := ?pv1_3) rfl (fun _ _ _ h => h) (by rfl) (fun v hv => ?pr1_3) ?rest1_3; case pr1_3 => (obtain ⟨d0, d1, d2, d3, -⟩ := KS.out v hv; go_simp; first | done | with_reducible rfl)) | (refine pi_pass rfl (fun _ _ _ h => h) (by rfl) ?_)
      try simp only [Act.put, List.setIfInBounds_toArray, List.set_cons_zero, List.set_cons_succ]
      first | (refine pi_take (v := ?pv1_4) rfl (fun _ _ _ h => h) (by rfl) (fun v hv => ?pr1_4) ?rest1_4; case pr1_4 => (obtain ⟨d0, d1, d2, d3, -⟩ := KS.out v hv; go_simp; first | done | with_reducible rfl)) | (refine pi_pass rfl (fun _ _ _ h => h) (by rfl) ?_)
      try simp only [Act.put, List.setIfInBounds_toArray, List.set_cons_zero, List.set_cons_succ]
      first | (refine pi_take (v := ?pv1_5) rfl (fun _ _ _ h => h) (by rfl) (fun v hv => ?pr1_5) ?rest1_5; case pr1_5 => (obtain ⟨d0, d1, d2, d3, -⟩ := KS.out v hv; go_simp; first | done | with_reducible rfl)) | (refine pi_pass rfl (fun _ _ _ h => h) (by rfl) ?_)
      try simp only [Act.put, List.setIfInBounds_toArray, List.set_cons_zero, List.set_cons_succ]
      first | (refine pi_take (v := ?pv1_6) rfl (fun _ _ _ h => h) (by rfl) (fun v hv => ?pr1_6) ?rest1_6; case pr1_6 => (obtain ⟨d0, d1, d2, d3, -⟩ := KS.out v hv; go_simp; first | done | with_reducible rfl)) | (refine pi_pass rfl (fun _ _ _ h => h) (by rfl) ?_)
      try simp only [Act.put, List.setIfInBounds_toArray, List.set_cons_zero, List.set_cons_succ]
      first | (refine pi_take (v := ?pv1_7) rfl (fun _ _ _ h => h) (by rfl) (fun v hv => ?pr1_7) ?rest1_7; case pr1_7 => (obtain ⟨d0, d1, d2, d3, -⟩ := KS.out v hv; go_simp; first | done | with_reducible rfl)) | (refine pi_pass rfl (fun _ _ _ h => h) (by rfl) ?_)
      try simp only [Act.put, List.setIfInBounds_toArray, List.set_cons_zero, List.set_cons_succ]
      first | (refine pi_take (v := ?pv1_8) rfl (fun _ _ _ h => h) (by rfl) (fun v hv => ?pr1_8) ?rest1_8; case pr1_8 => (obtain ⟨d0, d1, d2, d3, -⟩ := KS.out v hv; go_simp; first | done | with_reducible rfl)) | (refine pi_pass rfl (fun _ _ _ h => h) (by rfl) ?_)
      try simp only [Act.put, List.setIfInBounds_toArray, List.set_cons_zero, List.set_cons_succ]
      first | (refine pi_take (v := ?pv1_9) rfl (fun _ _ _ h => h) (by rfl) (fun v hv => ?pr1_9) ?rest1_9; case pr1_9 => (obtain ⟨d0, d1, d2, d3, -⟩ := KS.out v hv; go_simp; first | done | with_reducible rfl)) | (refine pi_pass rfl (fun _ _ _ h => h) (by rfl) ?_)
      try simp only [Act.put, List.setIfInBounds_toArray, List.set_cons_zero, List.set_cons_succ]
      first | (refine pi_take (v := ?pv1_10) rfl (fun _ _ _ h => h) (by rfl) (fun v hv => ?pr1_10) ?rest1_10; case pr1_10 => (obtain ⟨d0, d1, d2, d3, -⟩ := KS.out v hv; go_simp; first | done | with_reducible rfl)) | (refine pi_pass rfl (fun _ _ _ h => h) (by rfl) ?_)
      try simp only [Act.put, List.setIfInBounds_toArray, List.set_cons_zero, List.set_cons_succ]
      first | (refine pi_take (v := ?pv1_11) rfl (fun _ _ _ h => h) (by rfl) (fun v hv => ?pr1_11) ?rest1_11; case pr1_11 => (obtain ⟨d0, d1, d2, d3, -⟩ := KS.out v hv; go_simp; first | done | with_reducible rfl)) | (refine pi_pass rfl (fun _ _ _ h => h) (by rfl) ?_)
      try simp only [Act.put, List.setIfInBounds_toArray, List.set_cons_zero, List.set_cons_succ]
      first | (refine pi_take (v := ?pv1_12) rfl (fun _ _ _ h => h) (by rfl) (fun v hv => ?pr1_12) ?rest1_12; case pr1_12 => (obtain ⟨d0, d1, d2, d3, -⟩ := KS.out v hv; go_simp; first | done | with_reducible rfl)) | (refine pi_pass rfl (fun _ _ _ h => h) (by rfl) ?_)
      try simp only [Act.put, List.setIfInBounds_toArray, List.set_cons_zero, List.set_cons_succ]
      first | (refine pi_take (v := ?pv1_13) rfl (fun _ _ _ h => h) (by rfl) (fun v hv => ?pr1_13) ?rest1_13; case pr1_13 => (obtain ⟨d0, d1, d2, d3, -⟩ := KS.out v hv; go_simp; first | done | with_reducible rfl)) | (refine pi_pass rfl (fun _ _ _ h => h) (by rfl) ?_)
      try simp only [Act.put, List.setIfInBounds_toArray, List.set_cons_zero, List.set_cons_succ]
      first | (refine pi_take (v := ?pv1_14) rfl (fun _ _ _ h => h) (by rfl) (fun v hv => ?pr1_14) ?rest1_14; case pr1_14 => (obtain ⟨d0, d1, d2, d3, -⟩ := KS.out v hv; go_simp; first | done | with_reducible rfl)) | (refine pi_pass rfl (fun _ _ _ h => h) (by rfl) ?_)
      try simp only [Act.put, List.setIfInBounds_toArray, List.set_cons_zero, List.set_cons_succ]
      first | (refine pi_take (v := ?pv1_15) rfl (fun _ _ _ h => h) (by rfl) (fun v hv => ?pr1_15) ?rest1_15; case pr1_15 => (obtain ⟨d0, d1, d2, d3, -⟩ := KS.out v hv; go_simp; first | done | with_reducible rfl)) | (refine pi_pass rfl (fun _ _ _ h => h) (by rfl) ?_)
      try simp only [Act.put, List.setIfInBounds_toArray, List.set_cons_zero, List.set_cons_succ]
      first | (refine pi_take (v := ?pv1_16) rfl (fun _ _ _ h => h) (by rfl) (fun v hv => ?pr1_16) ?rest1_16; case pr1_16 => (obtain ⟨d0, d1, d2, d3, -⟩ := KS.out v hv; go_simp; first | done | with_reducible rfl)) | (refine pi_pass rfl (fun _ _ _ h => h) (by rfl) ?_)
      try simp only [Act.put, List.setIfInBounds_toArray, List.set_cons_zero, List.set_cons_succ]
      first | (refine pi_take (v := ?pv1_17) rfl (fun _ _ _ h => h) (by rfl) (fun v hv => ?pr1_17) ?rest1_17; case pr1_17 => (obtain ⟨d0, d1, d2, d3, -⟩ := KS.out v hv; go_simp; first | done | with_reducible rfl)) | (refine pi_pass rfl (fun _ _ _ h => h) (by rfl) ?_)
      try simp only [Act.put, List.setIfInBounds_toArray, List.set_cons_zero, List.set_cons_succ]
      first | (refine pi_take (v := ?pv1_18) rfl (fun _ _ _ h => h) (by rfl) (fun v hv => ?pr1_18) ?rest1_18; case pr1_18 => (obtain ⟨d0, d1, d2, d3, -⟩ := KS.out v hv; go_simp; first | done | with_reducible rfl)) | (refine pi_pass rfl (fun _ _ _ h => h) (by rfl) ?_)
      try simp only [Act.put, List.setIfInBounds_toArray, List.set_cons_zero, List.set_cons_succ]
      refine pi_step rfl (fun K hK => ?_)
      go_simp
      refine hK.out _ _ (by exact hHeld.alloc _) (fun hHeld2 => ?_)
      clear hK K hHeld
      have hHeld := hHeld2
      clear hHeld2
      try simp only [Act.put, List.setIfInBounds_toArray, List.set_cons_zero, List.set_cons_succ]
      refine pi_end ?_
      refine z_step rfl (fun K hK => ?_)
      go_simp
      refine hK.out _ _ ?_
      clear hK K
      try simp only [Act.put, List.setIfInBounds_toArray, List.set_cons_zero, List.set_cons_succ]
      refine z_end ?_
      clear hHeld
      rw [← hfb, ← hw5]
      clear hw5 hfb
      clear c0'
      have c1 := (KS.out _ KP5.out).1
      have c2 := KP.out _ KP5.out
      go_wp2_with fail
      clear c1 c2
      go_loopw [6] (fun i wr => ∃ (k : Nat) (y : Value) (ps : List (BEl rowsB)), i = .int .i64 k ∧ k ≤ n1 ∧ Hid (ps.map BEl.x = x1.take k) ∧ Hid (Kept fb w5 wr) ∧ Hid (wr.heap[fb]? = some (.cells #[.int .i64 x0, y, .int .i64 x2, .bool x3] 59 (0, 0))) ∧ Hid (Blk 46 rowsB wr (fb + 1) y ps)) (fun i _ => n1 - (intOf i).toNat)
      case atStart => exact ⟨0, _, [], rfl, Nat.zero_le _, (show _ = _ from rfl), Kept.refl (Nat.le_of_lt HF5.out), F5, Blk.nil _ _ _ _⟩
      case round =>
        obtain ⟨k, y, ps, rfl, hk, hps, hkq, hfx, hpl⟩ := hrel
        have KW2 : Hid (∀ v, Kept fb w5 v → Kept (w.heap.size + 2) W v) := Lib.hid fun v hv => KP5.out.trans (hv.mono (by omega))
        have c1 := (KS.out _ (KW2.out _ hkq.out)).1
        have c2 := KP.out _ (KW2.out _ hkq.out)
        by_cases hklt : k < n1
        · have hkl : k < x1.length := by have := IN.out.1; omega
          obtain ⟨p, hp⟩ : ∃ p, x1[k]? = some p := ⟨x1[k], by simp [hkl]⟩
          obtain ⟨b1, o1, d, m, q, rfl, hb1, hcp, hpin, hdq⟩ := IN.out.at hp
          have HP := Lib.hid hp
          have PIN := Lib.hid hpin
          have hml : m ≤ 1000000000 := by
            have h1 := wt_file_at X.fFiles t htl
            have h2 := HW.out
            have h3 : X.fFiles[t] = ⟨x0, x1, x2, x3⟩ := by have := HF.out; rw [List.getElem?_eq_getElem htl] at this; exact Option.some.inj this
            rw [h3] at h1
            have h4 := wt_page_at x1 k hkl
            have h5 : x1[k] = p := by rw [List.getElem?_eq_getElem hkl] at hp; exact Option.some.inj hp
            rw [h5] at h4
            have h6 : wtPage p = p.length := rfl
            have h7 : wtFile ⟨x0, x1, x2, x3⟩ = wtPages x1 := rfl
            have h8 : wtDisk X = wtFiles X.fFiles := rfl
            have h9 := hpin.1
            omega
          have hpsl : ps.length = k := by
            have := congrArg List.length hps.out
            rw [List.length_map, List.length_take] at this
            omega
          have hn1 : n1 ≤ 1000000000 := by
            have h1 := wt_file_at X.fFiles t htl
            have h2 := HW.out
            have h3 : X.fFiles[t] = ⟨x0, x1, x2, x3⟩ := by have := HF.out; rw [List.getElem?_eq_getElem htl] at this; exact Option.some.inj this
            rw [h3] at h1
            have h4 := wt_page_len x1
            have h7 : wtFile ⟨x0, x1, x2, x3⟩ = wtPages x1 := rfl
            have h8 : wtDisk X = wtFiles X.fFiles := rfl
            have h9 := IN.out.1
            omega
          have hfl2 : fb + 1 ≤ wr.heap.size := by have := lt_of_block hfx.out; omega
          have hfw : fb ≤ wr.heap.size := by omega
          have KS2 : Hid (∀ v, Kept (fb + 1) wr v → v.cell? ⟨fb, 1, none⟩ = some y ∧ v.cell? ⟨w.heap.size, 0, none⟩ = some (.slice (some ⟨b, o, none⟩) n c) ∧ v.cell? ⟨b, o + t * 4 + 1, none⟩ = some (.slice (some ⟨b1, o1, none⟩) n1 k1) ∧ v.cell? ⟨b1, o1 + k, none⟩ = some (.slice d m q)) := Lib.hid fun v hv =>
            have hv' := KW2.out v (hkq.out.trans (hv.mono (Nat.le_succ _)))
            ⟨hv.cell (Nat.lt_succ_self _) (box_cell hfx.out 1 _ rfl), (KS.out v hv').1, KP.out v hv', (KW.out v hv').cell hb1 hcp⟩
          have hz2 := (Below.refl wr.heap.size wr).alloc (Nat.le_refl _) (.cells #[] 89)
          have MZ := Lib.hid (mine_zero wr wr.heap.size (Nat.le_refl _))
          have KZ := Lib.hid (show Kept wr.heap.size wr (wr.alloc (.cells #[] 89)).drew from (Kept.refl (Nat.le_refl _)).drew.alloc _)
          have RZ : Hid (IsRows (wr.alloc (.cells #[] 89)).drew d m p) := Lib.hid ((rows_in PIN.out).keep (KW.out _ (KW2.out _ (hkq.out.trans (KZ.out.mono hfw)))).1)
          have HBZ : Hid (wr.heap.size ≤ (wr.alloc (.cells #[] 89)).drew.heap.size) := Lib.hid KZ.out.1.size
          have HMZ : Hid (([] : List R).length + m ≤ 1000000000000) := Lib.hid (by simp; omega)
          have HWF := Lib.hid (rows_in hpin).2.1
          have HPE : Hid (p.length = m) := Lib.hid hpin.1
          have HFEW : Hid (ps.length + 1 ≤ 1000000000000) := Lib.hid (by omega)
          have HD := Lib.hid hdq
          have c3 := (KS2.out _ (Kept.refl hfl2)).2.2.2
          clear hp hcp hpin hdq
          go_wp2_with fail
          clear c1 c2 c3
          refine region_plan (Kept (fb + 1) wr) [.q 0, .q 1, .q 3, .q 4, .q 5, .q 6, .q 7, .q 8, .q 9, .q 10, .q 11, .q 12, .m 2, .m 13, .q 14, .m 15, .m 16, .q 17] [18] (by kernel_rfl) (by kernel_rfl) (Kept.refl hfl2).drew (fun hHeld => ?_)
          first | (refine pi_take (v := ?pv2_0) rfl (fun _ _ _ h => h) (by rfl) (fun v hv => ?pr2_0) ?rest2_0; case pr2_0 => (obtain ⟨d0, d1, d2, d3⟩ := KS2.out v hv; go_simp; first | done | with_reducible rfl)) | (refine pi_pass rfl (fun _ _ _ h => h) (by rfl) ?_)
          try simp only [Act.put, List.setIfInBounds_toArray, List.set_cons_zero, List.set_cons_succ]
          first | (refine pi_take (v := ?pv2_1) rfl (fun _ _ _ h => h) (by rfl) (fun v hv => ?pr2_1) ?rest2_1; case pr2_1 => (obtain ⟨d0, d1, d2, d3⟩ := KS2.out v hv; go_simp; first | done | with_reducible rfl)) | (refine pi_pass rfl (fun _ _ _ h => h) (by rfl) ?_)
          try simp only [Act.put, List.setIfInBounds_toArray, List.set_cons_zero, List.set_cons_succ]
          first | (refine pi_take (v := ?pv2_3) rfl (fun _ _ _ h => h) (by rfl) (fun v hv => ?pr2_3) ?rest2_3; case pr2_3 => (obtain ⟨d0, d1, d2, d3⟩ := KS2.out v hv; go_simp; first | done | with_reducible rfl)) | (refine pi_pass rfl (fun _ _ _ h => h) (by rfl) ?_)
          try simp only [Act.put, List.setIfInBounds_toArray, List.set_cons_zero, List.set_cons_succ]
          first | (refine pi_take (v := ?pv2_4) rfl (fun _ _ _ h => h) (by rfl) (fun v hv => ?pr2_4) ?rest2_4; case pr2_4 => (obtain ⟨d0, d1, d2, d3⟩ := KS2.out v hv; go_simp; first | done | with_reducible rfl)) | (refine pi_pass rfl (fun _ _ _ h => h) (by rfl) ?_)
          try simp only [Act.put, List.setIfInBounds_toArray, List.set_cons_zero, List.set_cons_succ]
          first | (refine pi_take (v := ?pv2_5) rfl (fun _ _ _ h => h) (by rfl) (fun v hv => ?pr2_5) ?rest2_5; case pr2_5 => (obtain ⟨d0, d1, d2, d3⟩ := KS2.out v hv; go_simp; first | done | with_reducible rfl)) | (refine pi_pass rfl (fun _ _ _ h => h) (by rfl) ?_)
          try simp only [Act.put, List.setIfInBounds_toArray, List.set_cons_zero, List.set_cons_succ]
          first | (refine pi_take (v := ?pv2_6) rfl (fun _ _ _ h => h) (by rfl) (fun v hv => ?pr2_6) ?rest2_6; case pr2_6 => (obtain ⟨d0, d1, d2, d3⟩ := KS2.out v hv; go_simp; first | done | with_reducible rfl)) | (refine pi_pass rfl (fun _ _ _ h => h) (by rfl) ?_)
          try simp only [Act.put, List.setIfInBounds_toArray, List.set_cons_zero, List.set_cons_succ]
          first | (refine pi_take (v := ?pv2_7) rfl (fun _ _ _ h => h) (by rfl) (fun v hv => ?pr2_7) ?rest2_7; case pr2_7 => (obtain ⟨d0, d1, d2, d3⟩ := KS2.out v hv; go_simp; first | done | with_reducible rfl)) | (refine pi_pass rfl (fun _ _ _ h => h) (by rfl) ?_)
          try simp only [Act.put, List.setIfInBounds_toArray, List.set_cons_zero, List.set_cons_succ]
          first | (refine pi_take (v := ?pv2_8) rfl (fun _ _ _ h => h) (by rfl) (fun v hv => ?pr2_8) ?rest2_8; case pr2_8 => (obtain ⟨d0, d1, d2, d3⟩ := KS2.out v hv; go_simp; first | done | with_reducible rfl)) | (refine pi_pass rfl (fun _ _ _ h => h) (by rfl) ?_)
          try simp only [Act.put, List.setIfInBounds_toArray, List.set_cons_zero, List.set_cons_succ]
          first | (refine pi_take (v := ?pv2_9) rfl (fun _ _ _ h => h) (by rfl) (fun v hv => ?pr2_9) ?rest2_9; case pr2_9 => (obtain ⟨d0, d1, d2, d3⟩ := KS2.out v hv; go_simp; first | done | with_reducible rfl)) | (refine pi_pass rfl (fun _ _ _ h => h) (by rfl) ?_)
          try simp only [Act.put, List.setIfInBounds_toArray, List.set_cons_zero, List.set_cons_succ]
          first | (refine pi_take (v := ?pv2_10) rfl (fun _ _ _ h => h) (by rfl) (fun v hv => ?pr2_10) ?rest2_10; case pr2_10 => (obtain ⟨d0, d1, d2, d3⟩ := KS2.out v hv; go_simp; first | done | with_reducible rfl)) | (refine pi_pass rfl (fun _ _ _ h => h) (by rfl) ?_)
          try simp only [Act.put, List.setIfInBounds_toArray, List.set_cons_zero, List.set_cons_succ]
          first | (refine pi_take (v := ?pv2_11) rfl (fun _ _ _ h => h) (by rfl) (fun v hv => ?pr2_11) ?rest2_11; case pr2_11 => (obtain ⟨d0, d1, d2, d3⟩ := KS2.out v hv; go_simp; first | done | with_reducible rfl)) | (refine pi_pass rfl (fun _ _ _ h => h) (by rfl) ?_)
          try simp only [Act.put, List.setIfInBounds_toArray, List.set_cons_zero, List.set_cons_succ]
          first | (refine pi_take (v := ?pv2_12) rfl (fun _ _ _ h => h) (by rfl) (fun v hv => ?pr2_12) ?rest2_12; case pr2_12 => (obtain ⟨d0, d1, d2, d3⟩ := KS2.out v hv; go_simp; first | done | with_reducible rfl)) | (refine pi_pass rfl (fun _ _ _ h => h) (by rfl) ?_)
          try simp only [Act.put, List.setIfInBounds_toArray, List.set_cons_zero, List.set_cons_succ]
          refine pi_step rfl (fun K hK => ?_)
          go_simp
          refine hK.out _ _ (by first | exact hS7.out.1 | exact hS6.out.kept.mono hfl2 | exact hHeld.alloc _) (fun hHeld2 => ?_)
          clear hK K hHeld
          have hHeld := hHeld2
          clear hHeld2
          try simp only [Act.put, List.setIfInBounds_toArray, List.set_cons_zero, List.set_cons_succ]
          refine pi_step rfl (fun K hK => ?_)
          first | (first | (refine step_appendRows (M := []) (L := p) (w := (wr.alloc (.cells #[] 89)).drew) (.tmp 49) (.tmp 59) d m q (by rfl) (by rfl) (by rfl) (by rfl) MZ.out.drew RZ.out HD.out HBZ.out HMZ.out ?_; intro v6 w6 hm6 hg6; obtain ⟨a6, c6, rfl, hP6⟩ := page_in (B := fb + 1) hm6 hg6 HPE.out HWF.out hpl.out hfl2 HFEW.out; have hS6 := Lib.hid hP6; clear hm6 hg6 hP6) | (refine step_pushE pageE (w := w6.alloc (.cells #[.slice a6 m c6] 46)) (es := ps) (v := y) ⟨p, (a6, m, c6), blkOf (.slice a6 m c6)⟩ (.tmp 48) (.tmp 62) ⟨w6.heap.size, 0, none⟩ (by rfl) (by rfl) (by rfl) (by rfl) hS6.out.cells hS6.out.pages hS6.out.elem hS6.out.apart hS6.out.base hS6.out.few ?_; intro g7 c7 w7 hm7 hg7 hat7; have hS7 := hS6.out.next hm7 hg7; have cy7 := (KS2.out _ hS7.out.1).1; have fz7 : w7.frozen? ⟨fb, 1, none⟩ = false := hS7.out.1.frozen (Nat.lt_succ_self _) (by simp [World.frozen?, hfx.out]); clear hm7 hg7 hat7)) | (go_simp; first | (refine step_appendRows (M := []) (L := p) (w := (wr.alloc (.cells #[] 89)).drew) (.tmp 49) (.tmp 59) d m q (by rfl) (by rfl) (by rfl) (by rfl) MZ.out.drew RZ.out HD.out HBZ.out HMZ.out ?_; intro v6 w6 hm6 hg6; obtain ⟨a6, c6, rfl, hP6⟩ := page_in (B := fb + 1) hm6 hg6 HPE.out HWF.out hpl.out hfl2 HFEW.out; have hS6 := Lib.hid hP6; clear hm6 hg6 hP6) | (refine step_pushE pageE (w := w6.alloc (.cells #[.slice a6 m c6] 46)) (es := ps) (v := y) ⟨p, (a6, m, c6), blkOf (.slice a6 m c6)⟩ (.tmp 48) (.tmp 62) ⟨w6.heap.size, 0, none⟩ (by rfl) (by rfl) (by rfl) (by rfl) hS6.out.cells hS6.out.pages hS6.out.elem hS6.out.apart hS6.out.base hS6.out.few ?_; intro g7 c7 w7 hm7 hg7 hat7; have hS7 := hS6.out.next hm7 hg7; have cy7 := (KS2.out _ hS7.out.1).1; have fz7 : w7.frozen? ⟨fb, 1, none⟩ = false := hS7.out.1.frozen (Nat.lt_succ_self _) (by simp [World.frozen?, hfx.out]); clear hm7 hg7 hat7))
          refine hK.out _ _ (by first | exact hS7.out.1 | exact hS6.out.kept.mono hfl2 | exact hHeld.alloc _) (fun hHeld2 => ?_)
          clear hK K hHeld
          have hHeld := hHeld2
          clear hHeld2
          try simp only [Act.put, List.setIfInBounds_toArray, List.set_cons_zero, List.set_cons_succ]
          first | (refine pi_take (v := ?pv2_14) rfl (fun _ _ _ h => h) (by rfl) (fun v hv => ?pr2_14) ?rest2_14; case pr2_14 => (obtain ⟨d0, d1, d2, d3⟩ := KS2.out v hv; go_simp; first | done | with_reducible rfl)) | (refine pi_pass rfl (fun _ _ _ h => h) (by rfl) ?_)
          try simp only [Act.put, List.setIfInBounds_toArray, List.set_cons_zero, List.set_cons_succ]
          refine pi_step rfl (fun K hK => ?_)
          go_simp
          refine hK.out _ _ (by first | exact hS7.out.1 | exact hS6.out.kept.mono hfl2 | exact hHeld.alloc _) (fun hHeld2 => ?_)
          clear hK K hHeld
          have hHeld := hHeld2
          clear hHeld2
          try simp only [Act.put, List.setIfInBounds_toArray, List.set_cons_zero, List.set_cons_succ]
          refine pi_step rfl (fun K hK => ?_)
          first | (first | (refine step_appendRows (M := []) (L := p) (w := (wr.alloc (.cells #[] 89)).drew) (.tmp 49) (.tmp 59) d m q (by rfl) (by rfl) (by rfl) (by rfl) MZ.out.drew RZ.out HD.out HBZ.out HMZ.out ?_; intro v6 w6 hm6 hg6; obtain ⟨a6, c6, rfl, hP6⟩ := page_in (B := fb + 1) hm6 hg6 HPE.out HWF.out hpl.out hfl2 HFEW.out; have hS6 := Lib.hid hP6; clear hm6 hg6 hP6) | (refine step_pushE pageE (w := w6.alloc (.cells #[.slice a6 m c6] 46)) (es := ps) (v := y) ⟨p, (a6, m, c6), blkOf (.slice a6 m c6)⟩ (.tmp 48) (.tmp 62) ⟨w6.heap.size, 0, none⟩ (by rfl) (by rfl) (by rfl) (by rfl) hS6.out.cells hS6.out.pages hS6.out.elem hS6.out.apart hS6.out.base hS6.out.few ?_; intro g7 c7 w7 hm7 hg7 hat7; have hS7 := hS6.out.next hm7 hg7; have cy7 := (KS2.out _ hS7.out.1).1; have fz7 : w7.frozen? ⟨fb, 1, none⟩ = false := hS7.out.1.frozen (Nat.lt_succ_self _) (by simp [World.frozen?, hfx.out]); clear hm7 hg7 hat7)) | (go_simp; first | (refine step_appendRows (M := []) (L := p) (w := (wr.alloc (.cells #[] 89)).drew) (.tmp 49) (.tmp 59) d m q (by rfl) (by rfl) (by rfl) (by rfl) MZ.out.drew RZ.out HD.out HBZ.out HMZ.out ?_; intro v6 w6 hm6 hg6; obtain ⟨a6, c6, rfl, hP6⟩ := page_in (B := fb + 1) hm6 hg6 HPE.out HWF.out hpl.out hfl2 HFEW.out; have hS6 := Lib.hid hP6; clear hm6 hg6 hP6) | (refine step_pushE pageE (w := w6.alloc (.cells #[.slice a6 m c6] 46)) (es := ps) (v := y) ⟨p, (a6, m, c6), blkOf (.slice a6 m c6)⟩ (.tmp 48) (.tmp 62) ⟨w6.heap.size, 0, none⟩ (by rfl) (by rfl) (by rfl) (by rfl) hS6.out.cells hS6.out.pages hS6.out.elem hS6.out.apart hS6.out.base hS6.out.few ?_; intro g7 c7 w7 hm7 hg7 hat7; have hS7 := hS6.out.next hm7 hg7; have cy7 := (KS2.out _ hS7.out.1).1; have fz7 : w7.frozen? ⟨fb, 1, none⟩ = false := hS7.out.1.frozen (Nat.lt_succ_self _) (by simp [World.frozen?, hfx.out]); clear hm7 hg7 hat7))
          refine hK.out _ _ (by first | exact hS7.out.1 | exact hS6.out.kept.mono hfl2 | exact hHeld.alloc _) (fun hHeld2 => ?_)
          clear hK K hHeld
          have hHeld := hHeld2
          clear hHeld2
          try simp only [Act.put, List.setIfInBounds_toArray, List.set_cons_zero, List.set_cons_succ]
          first | (refine pi_take (v := ?pv2_17) rfl (fun _ _ _ h => h) (by rfl) (fun v hv => ?pr2_17) ?rest2_17; case pr2_17 => (obtain ⟨d0, d1, d2, d3⟩ := KS2.out v hv; go_simp; first | done | with_reducible rfl)) | (refine pi_pass rfl (fun _ _ _ h => h) (by rfl) ?_)
          try simp only [Act.put, List.setIfInBounds_toArray, List.set_cons_zero, List.set_cons_succ]
          refine pi_end ?_
          refine z_step rfl (fun K hK => ?_)
          go_simp
          refine hK.out _ _ ?_
          clear hK K
          try simp only [Act.put, List.setIfInBounds_toArray, List.set_cons_zero, List.set_cons_succ]
          refine z_end ?_
          clear hHeld
          have HS7 := hS7
          obtain ⟨k7, bl7⟩ := hS7.out
          have hb7 : w7.heap[fb]? = some (.cells #[.int .i64 x0, y, .int .i64 x2, .bool x3] 59 (0, 0)) := k7.heap (Nat.lt_succ_self _) hfx.out
          have R1 := Lib.hid (map_next (e := (⟨p, (a6, m, c6), blkOf (.slice a6 m c6)⟩ : BEl rowsB)) hps.out HP.out rfl)
          have R2 : Hid (Kept fb w5 (w7.setCell ⟨fb, 1, none⟩ (.slice (some ⟨g7, 0, none⟩) (ps.length + 1) c7))) := Lib.hid (hkq.out.trans ((k7.mono (Nat.le_succ _)).set (Nat.le_refl _) _))
          have R3 : Hid ((w7.setCell ⟨fb, 1, none⟩ (.slice (some ⟨g7, 0, none⟩) (ps.length + 1) c7)).heap[fb]? = some (.cells #[.int .i64 x0, .slice (some ⟨g7, 0, none⟩) (ps.length + 1) c7, .int .i64 x2, .bool x3] 59 (0, 0))) := Lib.hid (blk_put hb7 rfl)
          have R4 : Hid (Blk 46 rowsB (w7.setCell ⟨fb, 1, none⟩ (.slice (some ⟨g7, 0, none⟩) (ps.length + 1) c7)) (fb + 1) (.slice (some ⟨g7, 0, none⟩) (ps.length + 1) c7) (ps ++ [⟨p, (a6, m, c6), blkOf (.slice a6 m c6)⟩])) := Lib.hid (bl7.put _ fun b hb => by have := (bl7.lt b hb).1; omega)
          rw [hpsl] at R2 R3 R4
          clear k7 bl7 hb7 hS7 cy7 fz7
          go_wp2_with fail
          go_roundw
          case rel => exact ⟨k + 1, _, _, by go_num, by omega, R1, R2, R3, R4⟩
          case measure => simp [intOf]; omega
        · have hkn : k = n1 := by omega
          have hx1 : ps.map BEl.x = x1 := by
            have := hps.out
            rw [hkn, List.take_of_length_le (by have := IN.out.1; omega)] at this
            exact this
          have kx := KP5.out.trans (hkq.out.mono (by omega))
          have hbxw : wr.heap[w.heap.size + 2]? = some (.cells #[v, .int .i64 nx] 31 (0, 0)) := hkq.out.heap (by omega) hbx5.out
          obtain ⟨a7, c7, rfl, -⟩ := hpl.out.slice
          have FB := Lib.hid (file_blk (x3 := x3) hpl.out R0.out R2.out)
          rw [hx1] at FB
          have BV := Lib.hid (hbl5.out.kept hkq.out hll5.out)
          have hfl2 : fb < wr.heap.size := lt_of_block hfx.out
          have hes1 : es.length = t := by
            have := congrArg List.length hes.out
            rw [List.length_map, List.length_take] at this
            omega
          have hnl : n ≤ 1000000000 := by
            have h2 := HW.out
            have h4 := wt_file_len X.fFiles
            have h8 : wtDisk X = wtFiles X.fFiles := rfl
            have h9 := HL.out
            omega
          obtain ⟨N, hN⟩ : ∃ N, N = wr.heap.size := ⟨_, rfl⟩
          obtain ⟨w8, hw8⟩ : ∃ u, u = wr.alloc (.cells #[.int .i64 x0, .slice a7 ps.length c7, .int .i64 x2, .bool x3] 59) := ⟨_, rfl⟩
          have b8 : Below wr.heap.size wr w8 := by rw [hw8]; exact (Below.refl _ _).alloc (Nat.le_refl _) _
          have n8 : w8.heap[N]? = some (.cells #[.int .i64 x0, .slice a7 ps.length c7, .int .i64 x2, .bool x3] 59 (0, 0)) := by rw [hw8, hN]; exact heap_alloc_new _ _
          have N8 := Lib.hid n8
          have BV8 := Lib.hid (BV.out.below b8)
          have FB8 := Lib.hid (fileB.blk_mono (B' := w.heap.size + 3) (fileB.blk_below FB.out b8) (by omega))
          have FD8 : Hid (∀ b ∈ blkOf (.slice a7 ps.length c7) ++ gsOf ps, b ∉ blkOf v ++ gsOf es) := Lib.hid fun b hb hm => by
            have h1 := (hpl.out.lt b hb).1
            have h2 := hll5.out b hm
            omega
          have K8 := Lib.hid (kx.below b8)
          have hbx8 := Lib.hid ((b8.block _ (lt_of_block hbxw)).trans hbxw)
          have S8 : Hid (w.heap.size + 3 ≤ w8.heap.size) := Lib.hid (by have := b8.size; omega)
          have c1 := (KS.out _ kx).1
          have c2 := KP.out _ kx
          have e0 : wr.cell? ⟨w.heap.size + 2, 0, none⟩ = some v := box_cell hbxw 0 _ rfl
          have f0 := box_cell hfx.out 0 _ rfl
          have f1 := box_cell hfx.out 1 _ rfl
          have f2 := box_cell hfx.out 2 _ rfl
          have f3 := box_cell hfx.out 3 _ rfl
          clear b8 n8 hbxw kx
          rw [hN] at N8
          have LE8 : Hid (es.length + 1 ≤ 1000000000000) := Lib.hid (by omega)
          go_wp2_with (at_builtin; rw [← hw8]; refine wpList_pushE fileE (w := w8) (es := es) (v := v) ⟨⟨x0, x1, x2, x3⟩, ((a7, ps.length, c7), ()), blkOf (.slice a7 ps.length c7) ++ gsOf ps⟩ (.tmp 66) (.tmp 68) wr.heap.size rfl rfl rfl rfl N8.out rfl BV8.out FB8.out FD8.out S8.out LE8.out ?_; intro g9 c9 w9 hm9 hg9 hat9; have hb9 := (hg9.block _ (lt_of_block hbx8.out) (fun e => by have := blk_row BV8.out _ e.symm; omega)).trans hbx8.out; have cx9 : w9.cell? ⟨w.heap.size + 1 + 1, 0, none⟩ = some v := box_cell hb9 0 _ rfl; have fz9 : w9.frozen? ⟨w.heap.size + 1 + 1, 0, none⟩ = false := (by simp [World.frozen?, hb9]); have K9 := Lib.hid (K8.out.grown hg9 fun k hk => Nat.le_trans (by omega) (blk_row BV8.out k hk)); have M9 := Lib.hid hm9; have HB9 := Lib.hid hb9; clear hm9 hg9 hat9 hb9)
          have HES := Lib.hid (map_next (e := (⟨⟨x0, x1, x2, x3⟩, ((a7, ps.length, c7), ()), blkOf (.slice a7 ps.length c7) ++ gsOf ps⟩ : BEl fileB)) hes.out HF.out rfl)
          have K10 : Hid (Kept (w.heap.size + 2) W (w9.setCell ⟨w.heap.size + 2, 0, none⟩ (.slice (some ⟨g9, 0, none⟩) (es.length + 1) c9))) := Lib.hid (K9.out.set (Nat.le_refl _) _)
          have HB10 : Hid ((w9.setCell ⟨w.heap.size + 2, 0, none⟩ (.slice (some ⟨g9, 0, none⟩) (es.length + 1) c9)).heap[w.heap.size + 2]? = some (.cells #[.slice (some ⟨g9, 0, none⟩) (es.length + 1) c9, .int .i64 nx] 31 (0, 0))) := Lib.hid (blk_put HB9.out rfl)
          have M10 : Hid (Blk 59 fileB (w9.setCell ⟨w.heap.size + 2, 0, none⟩ (.slice (some ⟨g9, 0, none⟩) (es.length + 1) c9)) (w.heap.size + 3) (.slice (some ⟨g9, 0, none⟩) (es.length + 1) c9) (es ++ [⟨⟨x0, x1, x2, x3⟩, ((a7, ps.length, c7), ()), blkOf (.slice a7 ps.length c7) ++ gsOf ps⟩])) := Lib.hid (M9.out.put _ fun b hb => by have := (M9.out.lt b hb).1; omega)
          rw [hes1] at K10 HB10 M10
          go_roundw
          case rel => exact ⟨t + 1, _, _, by go_num, by omega, HES, K10, HB10, M10⟩
          case measure => simp [intOf]; omega
    · have hkl : t = n := by omega
      have hx1 : es.map BEl.x = X.fFiles := by
        have := hes.out
        rw [hkl, List.take_of_length_le (by have := HL.out; omega)] at this
        exact this
      have HX1 := Lib.hid hx1
      obtain ⟨a9, c9, rfl, -⟩ := hbl.out.slice
      have e0 : wr.cell? ⟨w.heap.size + 2, 0, none⟩ = some (.slice a9 es.length c9) := box_cell hbx.out 0 _ rfl
      have e1 : wr.cell? ⟨w.heap.size + 2, 1, none⟩ = some (.int .i64 nx) := box_cell hbx.out 1 _ rfl
      have hr := hkp.out.heap (b := w.heap.size + 1) (by omega) K1.out
      have r0 := box_cell hr 0 _ rfl
      have r1 := box_cell hr 1 _ rfl
      have r2 : ∀ j, wr.frozen? ⟨w.heap.size + 1, j, none⟩ = false := fun j => by simp [World.frozen?, hr]
      clear hx1 hr
      have BF := Lib.hid fun (u : World) (hu : SameBlk (blkOf (.slice a9 es.length c9) ++ gsOf es) wr u) => (show diskB.blk u w.heap.size X ((a9, es.length, c9), ()) (blkOf (.slice a9 es.length c9) ++ gsOf es) from by
        have h1 := disk_blk ((hbl.out.keep hu).mono (B' := w.heap.size) (by omega)) HNX.out
        have e2 : (⟨es.map BEl.x, nx⟩ : DiskD) = X := by rw [HX1.out, HE.out]
        rw [e2] at h1
        exact h1)
      have NE : Hid (w.heap.size + 1 ∉ blkOf (.slice a9 es.length c9) ++ gsOf es) := Lib.hid fun hm => by have := (hbl.out.lt _ hm).1; omega
      have KB := Lib.hid (KW.out _ hkp.out)
      go_wp2_with fail
      refine bodyPost_ret (v := .agg #[.slice a9 es.length c9, .int .i64 nx]) (by simp [results, Try.results40, go_sem, *]) rfl ⟨a9, es.length, c9, _, by rw [HE.out], BF.out _ (((SameBlk.refl _ _).set _ NE.out).set _ NE.out), ((KB.out.set (by simp only []; omega) _).set (by simp only []; omega) _).1⟩
end Go.Proofs.Ythbifibnnhikjaa
/- What an operation on a disk keeps while it runs: the arguments' boxes, and a copy of the disk in a box; no function of program or reference is walked here. -/
namespace Go.Proofs.Ythbifibnnhikjaa
open Go.RowKit
set_option linter.unusedVariables false

/-- The answer: a disk in memory of the call's own, and more. -/
def DiskAnd (Y : DiskD) (vs : List Value) (w : World) (e : Ending) (w' : World) : Prop :=
  ∃ (a : Option Addr) (n c : Nat) (G : List Nat), e = .returned (.tuple (.agg #[.slice a n c, .int .i64 Y.fNextName] :: vs).toArray) ∧ diskB.blk w' w.heap.size Y ((a, n, c), ()) G ∧ Below w.heap.size w w'
theorem emptyFile (w : World) (B : Nat) (x0 : Int) (h : I64 x0) : fileB.blk w B ⟨x0, [], 0, false⟩ ((none, 0, 0), ()) [] :=
  file_blk (ps := []) (Blk.nil _ _ _ _) h ⟨by decide, by decide⟩
/-- The blocks below W's are as they were; the copy lies in the box xb. -/
structure DOp (W : World) (xb : Nat) (vf : Value) (nx : Int) (fs : List (BEl fileB)) (v : World) : Prop where
  kept : Kept W.heap.size W v
  low : W.heap.size ≤ xb
  box : v.heap[xb]? = some (.cells #[vf, .int .i64 nx] 31 (0, 0))
  blk : Blk 59 fileB v W.heap.size vf fs
  out : xb ∉ blkOf vf ++ gsOf fs
theorem DOp.below {W v v' : World} {xb : Nat} {vf : Value} {nx : Int} {fs : List (BEl fileB)} (h : DOp W xb vf nx fs v) (hb : Below v.heap.size v v') : DOp W xb vf nx fs v' :=
  ⟨h.kept.below hb, h.low, (hb.block _ (lt_of_block h.box)).trans h.box, h.blk.below hb, h.out⟩
theorem DOp.drew {W v : World} {xb : Nat} {vf : Value} {nx : Int} {fs : List (BEl fileB)} (h : DOp W xb vf nx fs v) : DOp W xb vf nx fs v.drew := h.below (Below.refl _ _).drew
theorem DOp.x {W v : World} {xb : Nat} {vf : Value} {nx : Int} {fs : List (BEl fileB)} (h : DOp W xb vf nx fs v) : v.cell? ⟨xb, 0, none⟩ = some vf ∧ v.cell? ⟨xb, 1, none⟩ = some (.int .i64 nx) ∧ ∀ j, v.frozen? ⟨xb, j, none⟩ = false :=
  ⟨box_cell h.box 0 _ rfl, box_cell h.box 1 _ rfl, fun j => by simp [World.frozen?, h.box]⟩
/-- The copy, laid in a box behind the call that made it. -/
theorem dop_start {W w1 : World} {X : DiskD} {a : Option Addr} {n c : Nat} {G : List Nat} (h : diskB.blk w1 W.heap.size X ((a, n, c), ()) G) (hb : Below W.heap.size W w1) : ∃ fs : List (BEl fileB), n = fs.length ∧ X.fFiles = fs.map BEl.x ∧
    ∀ xb w2, xb = w1.heap.size → w2 = w1.alloc (.cells #[.slice a fs.length c, .int .i64 X.fNextName] 31) → DOp W xb (.slice a fs.length c) X.fNextName fs w2 := by
  obtain ⟨fs, hfs, hbl, -, -⟩ := of_disk_blk h
  obtain ⟨rfl, -⟩ := hbl.caps
  refine ⟨fs, rfl, hfs, fun xb w2 hx hw => ?_⟩
  have b2 : Below w1.heap.size w1 w2 := by rw [hw]; exact (Below.refl _ _).alloc (Nat.le_refl _) _
  refine ⟨⟨hb.trans (b2.mono hb.size), Nat.le_trans hb.size b2.size⟩, by rw [hx]; exact hb.size, by rw [hw, hx]; exact heap_alloc_new _ _, hbl.below b2, fun hm => by have := (hbl.lt xb hm).2; omega⟩
/-- The datum of a disk whose copy it is. -/
theorem DOp.disk {W v : World} {xb n c : Nat} {a : Option Addr} {X : DiskD} {fs : List (BEl fileB)} (h : DOp W xb (.slice a n c) X.fNextName fs v) (hx : X.fFiles = fs.map BEl.x) (hn : I64 X.fNextName) : diskB.blk v W.heap.size X ((a, n, c), ()) (blkOf (.slice a n c) ++ gsOf fs) := by
  have h1 := disk_blk h.blk hn
  rw [← hx] at h1
  exact h1
/-- The answer is laid in the result's box. -/
theorem disk_done {Y : DiskD} {vs : List Value} {w W w' : World} {a : Option Addr} {n c r : Nat} {G : List Nat} (hW : Below w.heap.size w W) (h : diskB.blk w' W.heap.size Y ((a, n, c), ()) G) (hb : Kept W.heap.size W w') (h1 : w.heap.size ≤ r) (h2 : r < W.heap.size) (u v : Value) :
    DiskAnd Y vs w (.returned (.tuple (.agg #[.slice a n c, .int .i64 Y.fNextName] :: vs).toArray)) ((w'.setCell ⟨r, 0, none⟩ u).setCell ⟨r, 1, none⟩ v) := by
  have hne : r ∉ G := fun hm => by have := (diskB.blk_lt h r hm).1; omega
  have hs := hW.size
  have hk : Kept w.heap.size w w' := ⟨hW.trans (hb.1.mono hs), Nat.le_trans hs hb.2⟩
  exact ⟨a, n, c, G, rfl, diskB.blk_mono (diskB.blk_keep h (((SameBlk.refl _ _).set _ hne).set _ hne)) hs, ((hk.set h1 _).set h1 _).1⟩
namespace DiskD
/-- What the file that an operation reaches has and no other file of the disk: the name. -/
theorem file_one {d : DiskD} {name : Int} {k : Nat} {f : FileD} (h : file d name = some (k, f)) : f.fName = name ∧ ∀ (s : Nat) (e : FileD), d.fFiles[s]? = some e → s ≠ k → e.fName ≠ name := by
  unfold file at h
  split at h
  · rename_i hok
    cases hat : at? d.fFiles name with
    | none => rw [hat] at h; cases h
    | some q =>
      rw [hat] at h
      obtain ⟨f', hf', hfn⟩ := at_some hat
      have h1 : (d.fFiles[q]?.map fun f => (q, f)) = some (k, f) := h
      rw [hf'] at h1
      cases h1
      refine ⟨hfn, fun s e hs hne he => ?_⟩
      have asc := (Ok.of hok).asc
      rcases Nat.lt_or_ge s k with h2 | h2
      · have := asc s k e f hs hf' h2; omega
      · have := asc k s f e hf' hs (by omega); omega
  · cases h
theorem create_none {d : DiskD} (h : okD d = false ∨ 1000 ≤ d.fNextName) : create d = none := by
  unfold create
  rw [if_neg]
  rcases h with h1 | h1
  · rw [h1]; simp
  · rw [decide_eq_false (by omega), Bool.and_false]; simp
theorem create_eq {d : DiskD} (h : okD d = true) (h1 : d.fNextName < 1000) : create d = some ⟨d.fFiles ++ [⟨d.fNextName, [], 0, false⟩], d.fNextName + 1⟩ := by
  unfold create
  rw [h, decide_eq_true h1]; rfl
theorem appendTo_none {d : DiskD} {name : Int} {p : List R} (h : file d name = none) : appendTo d name p = none := by unfold appendTo; rw [h]; rfl
theorem appendTo_eq {d : DiskD} {name : Int} {p : List R} {k : Nat} {f : FileD} (h : file d name = some (k, f)) : appendTo d name p = if !f.fSealed && R.pageOk p && decide (count d.fFiles ≠ 40) then some ⟨d.fFiles.set k { f with fPages := f.fPages ++ [p] }, d.fNextName⟩ else none := by unfold appendTo; rw [h]; rfl
theorem sealF_none {d : DiskD} {name : Int} (h : file d name = none) : sealF d name = none := by unfold sealF; rw [h]; rfl
theorem sealF_eq {d : DiskD} {name : Int} {k : Nat} {f : FileD} (h : file d name = some (k, f)) : sealF d name = if f.fSealed then none else some ⟨d.fFiles.set k { f with fChecksum := ck (R.fmtPages f.fPages), fSealed := true }, d.fNextName⟩ := by unfold sealF; rw [h]; rfl
theorem read_none {d : DiskD} {name : Int} (h : file d name = none) : read d name = none := by unfold read; rw [h]; rfl
theorem read_eq {d : DiskD} {name : Int} {k : Nat} {f : FileD} (h : file d name = some (k, f)) : read d name = if f.whole then some f.fPages.flatten else none := by unfold read; rw [h]; rfl
theorem delete_none {d : DiskD} {name : Int} (h : file d name = none) : delete d name = none := by unfold delete; rw [h]; rfl
theorem delete_eq {d : DiskD} {name : Int} {k : Nat} {f : FileD} (h : file d name = some (k, f)) : delete d name = some ⟨d.fFiles.eraseIdx k, d.fNextName⟩ := by unfold delete; rw [h]; rfl
end DiskD
end Go.Proofs.Ythbifibnnhikjaa
/- The reference's CreateFile, by contract. -/
namespace Go.Proofs.Ythbifibnnhikjaa
open Go.RowKit
set_option linter.unusedVariables false

/-- A store of a disk's two cells into the result's box. -/
theorem disk_doneC {Y : DiskD} {vs : List Value} {w w' : World} {a : Option Addr} {n c r : Nat} {G : List Nat} (h : diskB.blk w' (w.heap.size + 2) Y ((a, n, c), ()) G) (hb : Kept w.heap.size w w') (hr : r = w.heap.size + 1) (u v : Value) :
    DiskAnd Y vs w (.returned (.tuple (.agg #[.slice a n c, .int .i64 Y.fNextName] :: vs).toArray)) ((w'.setCell ⟨r, 0, none⟩ u).setCell ⟨r, 1, none⟩ v) := by
  have hne : r ∉ G := fun hm => by have := (diskB.blk_lt h r hm).1; omega
  exact ⟨a, n, c, G, rfl, diskB.blk_mono (diskB.blk_keep h (((SameBlk.refl _ _).set _ hne).set _ hne)) (by omega), ((hb.set (by simp only []; omega) _).set (by simp only []; omega) _).1⟩
set_option maxRecDepth 100000 in
set_option maxHeartbeats 1000000 in
theorem screate0 (a : Option Addr) (n c : Nat) (X : DiskD) (w : World) (h : diskRep.inn w X ((a, n, c), ())) (hw : wtDisk X ≤ 1000000000) (Y : DiskD) (q : Int) (b : Bool)
    (HN : Hid (DiskD.okD X = false ∨ 1000 ≤ X.fNextName → Y = X ∧ q = 0 ∧ b = false)) (HY : Hid (DiskD.okD X = true → X.fNextName < 1000 → Y = ⟨X.fFiles ++ [⟨X.fNextName, [], 0, false⟩], X.fNextName + 1⟩ ∧ q = X.fNextName ∧ b = true)) :
    Calls Try.prog 17 #[.agg #[.slice a n c, .int .i64 X.fNextName]] w (DiskAnd Y [.int .i64 q, .bool b] w) := by
  obtain ⟨W, hW⟩ : ∃ W, W = (w.alloc (.cells #[.slice a n c, .int .i64 X.fNextName] 31)).alloc (.cells #[.slice none 0 0, .int .i64 0] 31) := ⟨_, rfl⟩
  obtain ⟨b0, k0, k1⟩ := boxes2 w W hW
  have hz : W.heap.size = w.heap.size + 2 := by rw [hW]; simp
  have HZ := Lib.hid hz
  have B0 := Lib.hid b0
  have K0 := Lib.hid k0
  have K1 := Lib.hid k1
  have HI := Lib.hid (h.keep b0)
  have HW := Lib.hid hw
  have HNX := Lib.hid (disk_in h).2.2
  have hnl : n ≤ 1000000000 := by
    have h4 := wt_file_len X.fFiles
    have h8 : wtDisk X = wtFiles X.fFiles := rfl
    have h9 := (disk_len h).1
    omega
  have HL := Lib.hid (disk_len h).1
  clear h b0 k0 k1 hz hw
  go_enter Try.func17, Try.ntmps17
  go_wp2_with fail
  rw [← hW]
  clear hW
  refine (scopy a n c X W HI.out HW.out).mono ?_
  rintro e w1 ⟨a1, n1, c1, G1, rfl, hd1, b1⟩
  obtain ⟨fs, hfs, hbl, hG, -⟩ := of_disk_blk hd1
  obtain ⟨rfl, -⟩ := hbl.caps
  have HD1 := Lib.hid hd1
  have HBL := Lib.hid hbl
  have HFS := Lib.hid hfs
  have KW1 : Hid (Kept (w.heap.size + 2) W w1) := Lib.hid ⟨b1.mono (by have := HZ.out; omega), by have := b1.size; have := HZ.out; omega⟩
  have I1 := Lib.hid (HI.out.keep b1)
  obtain ⟨xb, hxb⟩ : ∃ g, g = w1.heap.size := ⟨_, rfl⟩
  obtain ⟨w2, hw2⟩ : ∃ u, u = w1.alloc (.cells #[.slice a1 fs.length c1, .int .i64 X.fNextName] 31) := ⟨_, rfl⟩
  have b2 : Below w1.heap.size w1 w2 := by rw [hw2]; exact (Below.refl _ _).alloc (Nat.le_refl _) _
  have x2 : w2.heap[xb]? = some (.cells #[.slice a1 fs.length c1, .int .i64 X.fNextName] 31 (0, 0)) := by rw [hw2, hxb]; exact heap_alloc_new _ _
  have X2 := Lib.hid x2
  have HXL : Hid (w.heap.size + 2 ≤ xb ∧ ∀ g ∈ blkOf (.slice a1 fs.length c1) ++ gsOf fs, g < xb) := Lib.hid ⟨by rw [hxb]; exact KW1.out.2, fun g hg => by rw [hxb]; exact (hbl.lt g hg).2⟩
  have KW2 := Lib.hid (KW1.out.below b2)
  have HBL2 := Lib.hid (hbl.below b2)
  have I2 := Lib.hid (I1.out.keep b2)
  have PP : Hid (∀ v, Kept (w.heap.size + 2) W v → v.cell? ⟨w.heap.size, 0, none⟩ = some (.slice a n c) ∧ v.cell? ⟨w.heap.size, 1, none⟩ = some (.int .i64 X.fNextName)) := Lib.hid fun v hv => ⟨hv.cell (by omega) (box_cell K0.out 0 _ rfl), hv.cell (by omega) (box_cell K0.out 1 _ rfl)⟩
  obtain ⟨p0, p1⟩ := PP.out _ KW2.out
  clear hd1 hbl hfs b1 b2 x2 hG
  go_upto_region 2 with fail
  rw [← hxb, ← hw2]
  clear hw2 hxb
  go_wp2_with fail
  clear p0 p1
  refine (sokdisk a n c X w2 I2.out HW.out).mono ?_
  rintro e w3 ⟨rfl, b3⟩
  have KW3 := Lib.hid (KW2.out.below b3)
  have HBL3 := Lib.hid (HBL2.out.below b3)
  have X3 := Lib.hid ((b3.block _ (lt_of_block X2.out)).trans X2.out)
  obtain ⟨p0, p1⟩ := PP.out _ KW3.out
  clear b3
  have RS : Hid (w3.heap[w.heap.size + 1]? = some (.cells #[.slice none 0 0, .int .i64 0] 31 (0, 0))) := Lib.hid (KW3.out.heap (by omega) K1.out)
  have r0 := box_cell RS.out 0 _ rfl
  have r1 := box_cell RS.out 1 _ rfl
  have rf : ∀ j, w3.frozen? ⟨w.heap.size + 1, j, none⟩ = false := fun j => by simp [World.frozen?, RS.out]
  have x0 := box_cell X3.out 0 _ rfl
  have x1 := box_cell X3.out 1 _ rfl
  have xf : ∀ j, w3.frozen? ⟨xb, j, none⟩ = false := fun j => by simp [World.frozen?, X3.out]
  have KK : Hid (∀ v, Kept (w.heap.size + 2) W v → Kept w.heap.size w v) := Lib.hid fun v hv => ⟨B0.out.trans (hv.1.mono (by omega)), Nat.le_trans (by omega) hv.2⟩
  by_cases hno : DiskD.okD X = false ∨ 1000 ≤ X.fNextName
  · obtain ⟨rfl, rfl, rfl⟩ := HN.out hno
    have DD : Hid (diskB.blk w3 (w.heap.size + 2) Y ((a1, fs.length, c1), ()) (blkOf (.slice a1 fs.length c1) ++ gsOf fs)) := Lib.hid (by
      have h1 := disk_blk ((HBL3.out).mono (B' := w.heap.size + 2) (by have := HZ.out; omega)) HNX.out
      rw [← HFS.out] at h1
      exact h1)
    have KW := Lib.hid (KK.out _ KW3.out)
    cases hok : DiskD.okD Y with
    | false =>
      clear hok hno
      go_wp2_with fail
      refine bodyPost_ret (v := .tuple #[.agg #[.slice a1 fs.length c1, .int .i64 Y.fNextName], .int .i64 0, .bool false]) (by simp [results, Try.results17, go_sem, *]) rfl ?_
      exact disk_doneC (vs := [.int .i64 0, .bool false]) DD.out KW.out rfl _ _
    | true =>
      have hlt : 1000 ≤ Y.fNextName := by
        rcases hno with h1 | h1
        · rw [hok] at h1; cases h1
        · exact h1
      clear hok hno
      go_wp2_with fail
      refine bodyPost_ret (v := .tuple #[.agg #[.slice a1 fs.length c1, .int .i64 Y.fNextName], .int .i64 0, .bool false]) (by simp [results, Try.results17, go_sem, *]) rfl ?_
      exact disk_doneC (vs := [.int .i64 0, .bool false]) DD.out KW.out rfl _ _
  · have hok : DiskD.okD X = true := by
      cases h1 : DiskD.okD X with
      | true => rfl
      | false => exact absurd (.inl h1) hno
    have hlt : X.fNextName < 1000 := by
      by_cases h1 : 1000 ≤ X.fNextName
      · exact absurd (.inr h1) hno
      · omega
    obtain ⟨rfl, rfl, rfl⟩ := HY.out hok hlt
    have hlo := (DiskD.Ok.of hok).lo
    have hnge : decide (1000 ≤ X.fNextName) = false := decide_eq_false (by omega)
    rw [hok]
    have HOK := Lib.hid hok
    clear hno hok
    have hl1 : fs.length = X.fFiles.length := by rw [HFS.out, List.length_map]
    have HFL : Hid (fs.length + 1 ≤ 1000000000000) := Lib.hid (by have := HL.out; omega)
    have EF := Lib.hid (emptyFile (w3.alloc (.cells #[.int .i64 X.fNextName, .slice none 0 0, .int .i64 0, .bool false] 59)) W.heap.size X.fNextName HNX.out)
    have HBA := Lib.hid (HBL3.out.below (show Below w3.heap.size w3 (w3.alloc (.cells #[.int .i64 X.fNextName, .slice none 0 0, .int .i64 0, .bool false] 59)) from (Below.refl _ _).alloc (Nat.le_refl _) _))
    have HSA : Hid (W.heap.size ≤ (w3.alloc (.cells #[.int .i64 X.fNextName, .slice none 0 0, .int .i64 0, .bool false] 59)).heap.size) := Lib.hid (by simp; have := KW3.out.2; have := HZ.out; omega)
    clear hl1
    go_wp2_with (at_builtin; refine wpList_pushE fileE (w := w3.alloc (.cells #[.int .i64 X.fNextName, .slice none 0 0, .int .i64 0, .bool false] 59)) (es := fs) (v := .slice a1 fs.length c1) ⟨⟨X.fNextName, [], 0, false⟩, ((none, 0, 0), ()), []⟩ (.tmp 18) (.tmp 22) w3.heap.size rfl rfl rfl rfl (heap_alloc_new _ _) rfl HBA.out EF.out (fun b hb => by cases hb) HSA.out HFL.out ?_; intro g4 c4 w4 hm4 hg4 hat4; have KW4 := Lib.hid ((KW3.out.alloc _).grown hg4 fun k hk => Nat.le_trans (by have := HZ.out; omega) (blk_row HBA.out k hk)); have hx4 := (hg4.block xb (Nat.lt_of_lt_of_le (lt_of_block X3.out) (by simp)) (fun e => by have := (HXL.out.2 xb (List.mem_append_left _ (blkOf_mem.2 e.symm))); omega)).trans ((Below.heap_alloc _ _ _ (lt_of_block X3.out)).trans X3.out); have X4 := Lib.hid hx4; have M4 := Lib.hid hm4; have NE4 := Lib.hid (push_ne (n := fs.length + 1) (c := c4) (e := (⟨⟨X.fNextName, [], 0, false⟩, ((none, 0, 0), ()), []⟩ : BEl fileB)) hat4 (fun hm => by have := HXL.out.2 xb hm; omega) (Nat.lt_of_lt_of_le (lt_of_block X3.out) (by simp)) (fun hm => by cases hm)); obtain ⟨q0, q1⟩ := PP.out _ KW4.out; have y0 := box_cell X4.out 0 _ rfl; have y1 := box_cell X4.out 1 _ rfl; have yf : ∀ j, w4.frozen? ⟨xb, j, none⟩ = false := (fun j => by simp [World.frozen?, X4.out]); have RS4 := Lib.hid (KW4.out.heap (b := w.heap.size + 1) (by omega) K1.out); have s0 := box_cell RS4.out 0 _ rfl; have s1 := box_cell RS4.out 1 _ rfl; have sf : ∀ j, w4.frozen? ⟨w.heap.size + 1, j, none⟩ = false := (fun j => by simp [World.frozen?, RS4.out]); clear hm4 hg4 hat4 hx4 p0 p1 x0 x1 xf r0 r1 rf)
    obtain ⟨w6, hw6⟩ : ∃ u, u = (w4.setCell ⟨xb, 0, none⟩ (.slice (some ⟨g4, 0, none⟩) (fs.length + 1) c4)).setCell ⟨xb, 1, none⟩ (.int .i64 (X.fNextName + 1)) := ⟨_, rfl⟩
    have X6 : Hid (w6.heap[xb]? = some (.cells #[.slice (some ⟨g4, 0, none⟩) (fs.length + 1) c4, .int .i64 (X.fNextName + 1)] 31 (0, 0))) := Lib.hid (by rw [hw6]; exact blk_put (blk_put X4.out rfl) rfl)
    have M6 := Lib.hid (M4.out.keep (((SameBlk.refl _ _).set (g := xb) (i := 0) (.slice (some ⟨g4, 0, none⟩) (fs.length + 1) c4) NE4.out).set (g := xb) (i := 1) (.int .i64 (X.fNextName + 1)) NE4.out))
    have K6 : Hid (Kept (w.heap.size + 2) W w6) := Lib.hid (by rw [hw6]; exact (KW4.out.set HXL.out.1 _).set HXL.out.1 _)
    rw [← hw6] at M6 ⊢
    clear hw6 q0 q1 y0 y1 yf s0 s1 sf
    obtain ⟨p0, p1⟩ := PP.out _ K6.out
    have x0 := box_cell X6.out 0 _ rfl
    have x1 := box_cell X6.out 1 _ rfl
    have RS := Lib.hid (K6.out.heap (b := w.heap.size + 1) (by omega) K1.out)
    have r0 := box_cell RS.out 0 _ rfl
    have r1 := box_cell RS.out 1 _ rfl
    have rf : ∀ j, w6.frozen? ⟨w.heap.size + 1, j, none⟩ = false := fun j => by simp [World.frozen?, RS.out]
    have hxl := HXL.out.1
    have DD : Hid (diskB.blk w6.drew (w.heap.size + 2) ⟨X.fFiles ++ [⟨X.fNextName, [], 0, false⟩], X.fNextName + 1⟩ ((some ⟨g4, 0, none⟩, fs.length + 1, c4), ()) (blkOf (.slice (some ⟨g4, 0, none⟩) (fs.length + 1) c4) ++ gsOf (fs ++ [(⟨⟨X.fNextName, [], 0, false⟩, ((none, 0, 0), ()), []⟩ : BEl fileB)]))) := Lib.hid (by
      have h1 := disk_blk (nx := X.fNextName + 1) ((M6.out).mono (B' := w.heap.size + 2) (by have := HZ.out; omega)) (by unfold I64; omega)
      rw [List.map_append, ← HFS.out] at h1
      exact diskB.blk_below h1 (Below.refl _ _).drew)
    have KW := Lib.hid (KK.out _ K6.out).drew
    refine region_plan (fun v => v.cell? ⟨xb, 0, none⟩ = some (.slice (some ⟨g4, 0, none⟩) (fs.length + 1) c4) ∧ v.cell? ⟨xb, 1, none⟩ = some (.int .i64 (X.fNextName + 1)) ∧ v.cell? ⟨w.heap.size, 1, none⟩ = some (.int .i64 X.fNextName)) [.q 0, .q 1, .q 2, .m 3, .q 4, .q 5] [] (by kernel_rfl) (by kernel_rfl) ⟨x0, x1, p1⟩ (fun hHeld => ?_)
    first | (refine pi_take (v := ?pv1_0) rfl (fun _ _ _ h => h) (by rfl) (fun v hv => ?pr1_0) ?rest1_0; case pr1_0 => (obtain ⟨d0, d1, d2⟩ := hv; go_simp; first | done | with_reducible rfl)) | (refine pi_pass rfl (fun _ _ _ h => h) (by rfl) ?_)
    try simp only [Act.put, List.setIfInBounds_toArray, List.set_cons_zero, List.set_cons_succ]
    first | (refine pi_take (v := ?pv1_1) rfl (fun _ _ _ h => h) (by rfl) (fun v hv => ?pr1_1) ?rest1_1; case pr1_1 => (obtain ⟨d0, d1, d2⟩ := hv; go_simp; first | done | with_reducible rfl)) | (refine pi_pass rfl (fun _ _ _ h => h) (by rfl) ?_)
    try simp only [Act.put, List.setIfInBounds_toArray, List.set_cons_zero, List.set_cons_succ]
    first | (refine pi_take (v := ?pv1_2) rfl (fun _ _ _ h => h) (by rfl) (fun v hv => ?pr1_2) ?rest1_2; case pr1_2 => (obtain ⟨d0, d1, d2⟩ := hv; go_simp; first | done | with_reducible rfl)) | (refine pi_pass rfl (fun _ _ _ h => h) (by rfl) ?_)
    try simp only [Act.put, List.setIfInBounds_toArray, List.set_cons_zero, List.set_cons_succ]
    refine pi_step rfl (fun K hK => ?_)
    go_simp
    refine hK.out _ _ (by exact ⟨cell_out (cell_out hHeld.1 (by omega)) (by omega), cell_out (cell_out hHeld.2.1 (by omega)) (by omega), cell_out (cell_out hHeld.2.2 (by omega)) (by omega)⟩) (fun hHeld2 => ?_)
    clear hK K hHeld
    have hHeld := hHeld2
    clear hHeld2
    try simp only [Act.put, List.setIfInBounds_toArray, List.set_cons_zero, List.set_cons_succ]
    first | (refine pi_take (v := ?pv1_4) rfl (fun _ _ _ h => h) (by rfl) (fun v hv => ?pr1_4) ?rest1_4; case pr1_4 => (obtain ⟨d0, d1, d2⟩ := hv; go_simp; first | done | with_reducible rfl)) | (refine pi_pass rfl (fun _ _ _ h => h) (by rfl) ?_)
    try simp only [Act.put, List.setIfInBounds_toArray, List.set_cons_zero, List.set_cons_succ]
    first | (refine pi_take (v := ?pv1_5) rfl (fun _ _ _ h => h) (by rfl) (fun v hv => ?pr1_5) ?rest1_5; case pr1_5 => (obtain ⟨d0, d1, d2⟩ := hv; go_simp; first | done | with_reducible rfl)) | (refine pi_pass rfl (fun _ _ _ h => h) (by rfl) ?_)
    try simp only [Act.put, List.setIfInBounds_toArray, List.set_cons_zero, List.set_cons_succ]
    refine pi_end ?_
    refine z_end ?_
    clear hHeld
    go_wp2_with fail
    refine bodyPost_ret (v := .tuple #[.agg #[.slice (some ⟨g4, 0, none⟩) (fs.length + 1) c4, .int .i64 (X.fNextName + 1)], .int .i64 X.fNextName, .bool true]) (by simp [results, Try.results17, go_sem, *]) rfl ?_
    exact disk_doneC (Y := ⟨X.fFiles ++ [⟨X.fNextName, [], 0, false⟩], X.fNextName + 1⟩) (vs := [.int .i64 X.fNextName, .bool true]) DD.out KW.out rfl _ _
theorem screate (a : Option Addr) (n c : Nat) (X : DiskD) (w : World) (h : diskRep.inn w X ((a, n, c), ())) (hw : wtDisk X ≤ 1000000000) :
    Calls Try.prog 17 #[.agg #[.slice a n c, .int .i64 X.fNextName]] w (DiskAnd ((DiskD.create X).getD X) [.int .i64 (if (DiskD.create X).isSome then X.fNextName else 0), .bool (DiskD.create X).isSome] w) := by
  refine screate0 a n c X w h hw _ _ _ (fun hno => ?_) (fun hok hlt => ?_)
  · rw [DiskD.create_none hno]; exact ⟨rfl, rfl, rfl⟩
  · rw [DiskD.create_eq hok hlt]; exact ⟨rfl, rfl, rfl⟩
end Go.Proofs.Ythbifibnnhikjaa
/- One element more, made by a call in memory of its own, onto elements of the call's own; no function of program or reference is walked here. -/
namespace Go.Proofs.Ythbifibnnhikjaa
open Go.RowKit
set_option linter.unusedVariables false

/-- One element more has been made: what it owns is new since wr; the slice y and what is behind it as in wr. -/
structure ElIn {α : Type} (T : TypeId) (s : BRep α) (B : Nat) (wr : World) (y : Value) (es : List (BEl s)) (e : BEl s) (w6 : World) : Prop where
  kept : Kept wr.heap.size wr w6
  el : s.blk w6 wr.heap.size e.x e.h e.G
  old : Blk T s wr B y es
  low : B ≤ wr.heap.size
  few : es.length + 1 ≤ 1000000000000
theorem ElIn.cells {α : Type} {T : TypeId} {s : BRep α} {B : Nat} {wr : World} {y : Value} {es : List (BEl s)} {e : BEl s} {w6 : World} (h : ElIn T s B wr y es e w6) {cs : Array Value} (hc : cs.toList = s.rep.cells e.x e.h) : ∀ (j : Nat) (u : Value), (s.rep.cells e.x e.h)[j]? = some u → (w6.alloc (.cells cs T)).cell? ((⟨w6.heap.size, 0, none⟩ : Addr).add j) = some u := by
  rw [← hc]
  exact World.news_of_block (w := (w6.alloc (.cells cs T))) (cs := cs) (heap_alloc_new w6 _)
theorem ElIn.next_k {α : Type} {T : TypeId} {s : BRep α} {B : Nat} {wr : World} {y : Value} {es : List (BEl s)} {e : BEl s} {w6 : World} (h : ElIn T s B wr y es e w6) (o : Obj) : Kept wr.heap.size wr (w6.alloc o) := h.kept.alloc _
theorem ElIn.pages {α : Type} {T : TypeId} {s : BRep α} {B : Nat} {wr : World} {y : Value} {es : List (BEl s)} {e : BEl s} {w6 : World} (h : ElIn T s B wr y es e w6) (o : Obj) : Blk T s (w6.alloc o) B y es := h.old.below (h.next_k o).1
theorem ElIn.elem {α : Type} {T : TypeId} {s : BRep α} {B : Nat} {wr : World} {y : Value} {es : List (BEl s)} {e : BEl s} {w6 : World} (h : ElIn T s B wr y es e w6) (o : Obj) : s.blk (w6.alloc o) B e.x e.h e.G :=
  s.blk_mono (s.blk_below h.el (show Below w6.heap.size w6 (w6.alloc o) from (Below.refl _ _).alloc (Nat.le_refl _) _)) h.low
theorem ElIn.apart {α : Type} {T : TypeId} {s : BRep α} {B : Nat} {wr : World} {y : Value} {es : List (BEl s)} {e : BEl s} {w6 : World} (h : ElIn T s B wr y es e w6) : ∀ b ∈ e.G, b ∉ blkOf y ++ gsOf es := fun b hb hm => by
  have h1 := (s.blk_lt h.el b hb).1
  have h2 := (h.old.lt b hm).2
  omega
theorem ElIn.base {α : Type} {T : TypeId} {s : BRep α} {B : Nat} {wr : World} {y : Value} {es : List (BEl s)} {e : BEl s} {w6 : World} (h : ElIn T s B wr y es e w6) (o : Obj) : B ≤ (w6.alloc o).heap.size := Nat.le_trans h.low (h.next_k o).2
end Go.Proofs.Ythbifibnnhikjaa
/- The library's slices.Clone at rows, by contract. -/
namespace Go.Proofs.Ythbifibnnhikjaa
open Go.RowKit

theorem appendR_low {w w' w0 : World} {B : Nat} {v : Value} (hb : Below B w0 w) (hB : B ≤ w.heap.size) (hv : ∀ k, v.ownBlock = some k → B ≤ k) (hg : w.grownBy w' v.ownBlock) : Below B w0 w' := hb.grown hg hB hv
theorem Mine.own {w : World} {B : Nat} {v : Value} {L : List R} (h : Mine w B v L) : ∀ k, v.ownBlock = some k → B ≤ k := fun k hk => (World.ownsRow.lt h k hk).1
set_option maxRecDepth 100000 in
/-- slices.Clone at rows. -/
theorem clone_some (ad : Addr) (len cap : Nat) (L : List R) (w : World) (hl : L.length = len) (hc : ∀ j u, (cells3 L)[j]? = some u → w.cell? (ad.add j) = some u) (hlen : len ≤ 100000000000) :
    Calls Try.prog 69 #[.slice (some ad) len cap] w fun e w' => ∃ v', e = .returned v' ∧ Mine w' w.heap.size v' L ∧ Below w.heap.size w w' := by
  have q22 : ∀ (w : World) (a : Option Addr) (n c n' c' : Nat), (binOp .eql 44 (.slice a n c) (.slice none n' c')).run Try.prog w = .ok (.bool a.isNone) w := fun w a n c n' c' => Lib.run_eql_slice_nil w _ _ a n c n' c' Try.underlying44
  have HL := Lib.hid hl
  have HC := Lib.hid hc
  clear hl hc
  have hz : Mine (w.alloc (.cells #[] 89)) w.heap.size (.slice (some ⟨w.heap.size, 0, none⟩) 0 0) [] := World.ownsRow_made w #[] 0 (Nat.le_refl _) (Nat.zero_le _) (by simp)
  have HZ := Lib.hid hz
  clear hz
  go_enter Try.func69, Try.ntmps69
  go_wp2_with (at_builtin; refine wpList_appendR (L := L) _ _ ad len cap rfl rfl rfl rfl HZ.out HL.out ?qc2 ?qc6 ?qc4 ?_)
  case qc2 =>
    intro j u hj
    exact Lib.cell?_alloc_some _ (HC.out j u hj)
  case qc6 => simp
  case qc4 => simp; omega
  intro v' w1 hown hgrow hnil
  have HO := Lib.hid hown
  have HB := Lib.hid (((Below.refl w.heap.size w).alloc (Nat.le_refl _) _).grown hgrow (by simp) (by intro k hk; simp [Value.ownBlock] at hk; omega))
  clear hown hgrow hnil
  go_wp2_with fail
  go_ret
  exact ⟨v', rfl, HO.out, HB.out⟩
theorem clone_none (n c : Nat) (w : World) : Calls Try.prog 69 #[.slice none n c] w fun e w' => e = .returned (.slice none 0 0) ∧ w' = w := by
  have q22 : ∀ (w : World) (a : Option Addr) (n c n' c' : Nat), (binOp .eql 44 (.slice a n c) (.slice none n' c')).run Try.prog w = .ok (.bool a.isNone) w := fun w a n c n' c' => Lib.run_eql_slice_nil w _ _ a n c n' c' Try.underlying44
  go_enter Try.func69, Try.ntmps69
  go_wp2
  go_ret
  exact ⟨rfl, rfl⟩
theorem clone (a : Option Addr) (len cap : Nat) (L : List R) (w : World) (h : IsRows w a len L) (hlen : len ≤ 100000000000) :
    Calls Try.prog 69 #[.slice a len cap] w fun e w' => ∃ v', e = .returned v' ∧ Mine w' w.heap.size v' L ∧ Below w.heap.size w w' := by
  obtain ⟨ad, ha, hc⟩ := h.cell
  rcases a with _ | ad'
  · have h0 : len = 0 := by
      rcases Nat.eq_zero_or_pos len with h0 | h0
      · exact h0
      · exact absurd (ha h0) (by simp)
    have hL : L = [] := List.eq_nil_of_length_eq_zero (by rw [h.1, h0])
    refine (clone_none len cap w).mono ?_
    rintro e w' ⟨rfl, rfl⟩
    exact ⟨_, rfl, hL ▸ mine_none _ _, Below.refl _ _⟩
  · refine clone_some ad' len cap L w h.1 (fun j u hj => ?_) hlen
    have hjl : j < L.length * 3 := by have := (List.getElem?_eq_some_iff.1 hj).1; rwa [cells3_length] at this
    have : ad' = ad := by injection ha (by have := h.1; omega)
    rw [this]
    exact hc j u hj
end Go.Proofs.Ythbifibnnhikjaa
/- The program's clonePage, cloneFile and cloneDisk, by contract. -/
namespace Go.Proofs.Ythbifibnnhikjaa
open Go.RowKit
set_option linter.unusedVariables false

def GivesPage (p : List R) (w : World) (e : Ending) (w' : World) : Prop := ∃ (a : Option Addr) (c : Nat), e = .returned (.agg #[.slice a p.length c]) ∧ rowsB.blk w' w.heap.size p (a, p.length, c) (blkOf (.slice a p.length c)) ∧ Below w.heap.size w w'
set_option maxRecDepth 100000 in
theorem iclonepage (d : Option Addr) (k m : Nat) (p : List R) (w : World) (h : SeqIn rowRep w d k p) (hk : k ≤ 100000000000) : Calls Try.prog 50 #[.agg #[.slice d k m]] w (GivesPage p w) := by
  obtain ⟨W, hW⟩ : ∃ W, W = (w.alloc (.cells #[.slice d k m] 46)).alloc (.cells #[.slice none 0 0] 46) := ⟨_, rfl⟩
  obtain ⟨b0, k0, k1⟩ := boxes2 w W hW
  have hz : W.heap.size = w.heap.size + 2 := by rw [hW]; simp
  have HZ := Lib.hid hz
  have B0 := Lib.hid b0
  have HI := Lib.hid ((rows_in h).keep b0)
  have HWF := Lib.hid (rows_in h).2.1
  have HK1 := Lib.hid k1
  have p0 := box_cell k0 0 _ rfl
  clear h b0 k0 k1 hz
  go_enter Try.func50, Try.ntmps50
  go_upto_region 1 with fail
  rw [← hW]
  clear hW
  go_wp2_with fail
  clear p0
  refine (clone d k m p W HI.out hk).mono ?_
  rintro e w1 ⟨v, rfl, hm, b1⟩
  obtain ⟨a1, c1, rfl⟩ := hm.slice
  have hr := (b1.block _ (lt_of_block HK1.out)).trans HK1.out
  have HM := Lib.hid (seq_of_mine hm HWF.out)
  have B1 := Lib.hid b1
  have r0 := box_cell hr 0 _ rfl
  have rf : ∀ j, w1.frozen? ⟨w.heap.size + 1, j, none⟩ = false := fun j => by simp [World.frozen?, hr]
  clear hm b1 hr
  go_wp2_with fail
  refine bodyPost_ret (v := .agg #[.slice a1 p.length c1]) (by simp [results, Try.results50, go_sem, *]) rfl ⟨a1, c1, rfl, ?_, ?_⟩
  · refine rowsB.blk_mono (rowsB.blk_keep HM.out ((SameBlk.refl _ _).set _ fun hmm => ?_)) B0.out.size
    have := (rowsB.blk_lt HM.out _ hmm).1
    have := HZ.out
    omega
  · exact (B0.out.trans (B1.out.mono B0.out.size)).setCell (by simp only []; omega) _
def GivesFile (f : FileD) (w : World) (e : Ending) (w' : World) : Prop := ∃ (a : Option Addr) (n c : Nat) (G : List Nat), e = .returned (.agg #[.int .i64 f.fName, .slice a n c, .int .i64 f.fChecksum, .bool f.fSealed]) ∧ fileB.blk w' w.heap.size f ((a, n, c), ()) G ∧ Below w.heap.size w w'
set_option maxRecDepth 100000 in
set_option maxHeartbeats 2000000 in
theorem iclonefile (x0 : Int) (a1 : Option Addr) (n1 k1 : Nat) (x1 : List (List R)) (x2 : Int) (x3 : Bool) (w : World) (h : SeqIn pageRep w a1 n1 x1) (h0 : I64 x0) (h2 : I64 x2) (hw : wtPages x1 ≤ 1000000000) :
    Calls Try.prog 61 #[.agg #[.int .i64 x0, .slice a1 n1 k1, .int .i64 x2, .bool x3]] w (GivesFile ⟨x0, x1, x2, x3⟩ w) := by
  obtain ⟨W, hW⟩ : ∃ W, W = ((w.alloc (.cells #[.int .i64 x0, .slice a1 n1 k1, .int .i64 x2, .bool x3] 59)).alloc (.cells #[.int .i64 0, .slice none 0 0, .int .i64 0, .bool false] 59)).alloc (.cells #[.int .i64 x0, .slice none 0 0, .int .i64 x2, .bool x3] 59) := ⟨_, rfl⟩
  obtain ⟨hz, b0, q0, q1, q2⟩ := boxes3 w W hW
  have HZ := Lib.hid hz
  have B0 := Lib.hid b0
  have K1 := Lib.hid q1
  have K2 := Lib.hid q2
  have HI := Lib.hid h
  have HL := Lib.hid h.1
  have HW := Lib.hid hw
  have H0 := Lib.hid h0
  have H2 := Lib.hid h2
  have hn1 : n1 ≤ 1000000000 := by have h4 := wt_page_len x1; have h5 := h.1; omega
  have PP := Lib.hid (box_cell q0 1 _ rfl)
  clear h h0 h2 hw b0 q0 q1 q2 hz
  go_enter Try.func61, Try.ntmps61
  go_wp2_with fail
  rw [← hW]
  clear hW
  go_loopw [11] (fun i wr => ∃ (t : Nat) (y : Value) (ps : List (BEl rowsB)), i = .int .i64 t ∧ t ≤ n1 ∧ Hid (ps.map BEl.x = x1.take t) ∧ Hid (Kept (w.heap.size + 2) W wr) ∧ Hid (wr.heap[w.heap.size + 2]? = some (.cells #[.int .i64 x0, y, .int .i64 x2, .bool x3] 59 (0, 0))) ∧ Hid (Blk 46 rowsB wr (w.heap.size + 3) y ps)) (fun i _ => n1 - (intOf i).toNat)
  case atStart => exact ⟨0, _, [], rfl, Nat.zero_le _, (show _ = _ from rfl), Kept.refl (by have := HZ.out; omega), K2, Blk.nil _ _ _ _⟩
  case round =>
    obtain ⟨t, y, ps, rfl, ht, hps, hk, hbx, hbl⟩ := hrel
    have hz := HZ.out
    have KW : Hid (∀ v, Kept (w.heap.size + 2) W v → Kept w.heap.size w v) := Lib.hid fun v hv => ⟨B0.out.trans (hv.1.mono (by omega)), Nat.le_trans (by omega) hv.2⟩
    have hpsl : ps.length = t := by
      have := congrArg List.length hps.out
      rw [List.length_map, List.length_take, HL.out] at this
      omega
    by_cases hlt : t < n1
    · have htl : t < x1.length := by have := HL.out; omega
      obtain ⟨p, hp⟩ : ∃ p, x1[t]? = some p := ⟨x1[t], by simp [htl]⟩
      obtain ⟨b, o, d, k, m, rfl, hbl', hce, hin, -⟩ := HI.out.at hp
      have HP := Lib.hid hp
      have hk1 : k ≤ 1000000000 := by
        have h1 := wt_page_at x1 t htl
        have h2 : x1[t] = p := by rw [List.getElem?_eq_getElem htl] at hp; exact Option.some.inj hp
        rw [h2] at h1
        have h3 : wtPage p = p.length := rfl
        have h4 := hin.1
        have h5 := HW.out
        omega
      have d0 : wr.cell? ⟨b, o + t, none⟩ = some (.slice d k m) := (KW.out _ hk.out).cell hbl' hce
      obtain ⟨w5, hw5⟩ : ∃ u, u = wr.alloc (.cells #[.slice d k m] 46) := ⟨_, rfl⟩
      obtain ⟨pb, hpb⟩ : ∃ g, g = wr.heap.size := ⟨_, rfl⟩
      have b5 : Below wr.heap.size wr w5 := by rw [hw5]; exact (Below.refl _ _).alloc (Nat.le_refl _) _
      have hx5 : w5.heap[pb]? = some (.cells #[.slice d k m] 46 (0, 0)) := by rw [hw5, hpb]; exact heap_alloc_new _ _
      have X5 := Lib.hid hx5
      have K5 := Lib.hid (hk.out.below b5)
      have C5 := Lib.hid ((b5.block _ (lt_of_block hbx.out)).trans hbx.out)
      have M5 := Lib.hid (hbl.out.below b5)
      have PL : Hid (w.heap.size + 3 ≤ pb ∧ ∀ z ∈ blkOf y ++ gsOf ps, z < pb) := Lib.hid ⟨by have := lt_of_block hbx.out; omega, fun z hz => by rw [hpb]; exact (hbl.out.lt z hz).2⟩
      have PIN := Lib.hid (hin.keep (KW.out _ K5.out).1)
      have HPE : Hid (p.length = k) := Lib.hid hin.1
      have HFEW : Hid (ps.length + 1 ≤ 1000000000000) := Lib.hid (by omega)
      have HLOW : Hid (w.heap.size + 3 ≤ w5.heap.size) := Lib.hid (by have := lt_of_block hx5; have := PL.out.1; omega)
      have SS : Hid (∀ v, Kept w5.heap.size w5 v → v.cell? ⟨w.heap.size + 2, 1, none⟩ = some y ∧ v.cell? ⟨pb, 0, none⟩ = some (.slice d k m)) := Lib.hid fun v hv => ⟨hv.cell (lt_of_block C5.out) (box_cell C5.out 1 _ rfl), hv.cell (lt_of_block X5.out) (box_cell X5.out 0 _ rfl)⟩
      have CC : Hid (∀ v, Kept w5.heap.size w5 v → Calls Try.prog 50 #[.agg #[.slice d k m]] v fun e v' => ∃ (a6 : Option Addr) (c6 : Nat), e = .returned (.agg #[.slice a6 k c6]) ∧ PageIn (w.heap.size + 3) w5 y ps p a6 k c6 v') := Lib.hid fun v hv =>
        (iclonepage d k m p v (PIN.out.keep hv.1) (by omega)).mono fun e v' ⟨a6, c6, he, hr, hb⟩ => by
          rw [HPE.out] at he hr
          exact ⟨a6, c6, he, ⟨hv.below hb, rowsB.blk_mono hr hv.2, M5.out, HLOW.out, HFEW.out⟩⟩
      have AFT : Hid (∀ (a6 : Option Addr) (c6 : Nat) (v6 v7 : World), PageIn (w.heap.size + 3) w5 y ps p a6 k c6 v6 → (v6.alloc (.cells #[.slice a6 k c6] 46)).grownBy v7 y.ownBlock → (v7.cell? ⟨w.heap.size + 2, 1, none⟩ = some y ∧ v7.cell? ⟨pb, 0, none⟩ = some (.slice d k m)) ∧ v7.heap[w.heap.size + 2]? = some (.cells #[.int .i64 x0, y, .int .i64 x2, .bool x3] 59 (0, 0)) ∧ Kept (w.heap.size + 2) W v7) := Lib.hid fun a6 c6 v6 v7 hP hg => by
        have hk7 := hP.k7
        have hrow := blk_row M5.out
        have hy : ∀ z, y.ownBlock = some z → z < pb := fun z hz => PL.out.2 z (List.mem_append_left _ (blkOf_mem.2 hz))
        have h1 := (hg.block (w.heap.size + 2) (Nat.lt_of_lt_of_le (lt_of_block C5.out) hk7.2) (fun e => by have := hrow _ e.symm; omega)).trans (hk7.heap (lt_of_block C5.out) C5.out)
        have h2 := (hg.block pb (Nat.lt_of_lt_of_le (lt_of_block X5.out) hk7.2) (fun e => by have := hy _ e.symm; omega)).trans (hk7.heap (lt_of_block X5.out) X5.out)
        exact ⟨⟨box_cell h1 1 _ rfl, box_cell h2 0 _ rfl⟩, h1, K5.out.trans ((hk7.mono (by have := HLOW.out; omega)).grown hg fun z hz => by have := hrow z hz; omega)⟩
      clear b5 hx5 hp hce hin
      go_upto_region 6 with fail
      rw [← hpb, ← hw5]
      clear hw5 hpb d0
      refine region_plan (fun v => v.cell? ⟨w.heap.size + 2, 1, none⟩ = some y ∧ v.cell? ⟨pb, 0, none⟩ = some (.slice d k m)) [.q 0, .q 1, .q 2, .m 3, .m 4, .m 5, .q 6] [7] (by kernel_rfl) (by kernel_rfl) (SS.out _ (Kept.refl (Nat.le_refl _)).drew) (fun hHeld => ?_)
      first | (refine pi_take (v := ?pv1_0) rfl (fun _ _ _ h => h) (by rfl) (fun v hv => ?pr1_0) ?rest1_0; case pr1_0 => (obtain ⟨u0, u1⟩ := hv; go_simp; first | done | with_reducible rfl)) | (refine pi_pass rfl (fun _ _ _ h => h) (by rfl) ?_)
      try simp only [Act.put, List.setIfInBounds_toArray, List.set_cons_zero, List.set_cons_succ]
      first | (refine pi_take (v := ?pv1_1) rfl (fun _ _ _ h => h) (by rfl) (fun v hv => ?pr1_1) ?rest1_1; case pr1_1 => (obtain ⟨u0, u1⟩ := hv; go_simp; first | done | with_reducible rfl)) | (refine pi_pass rfl (fun _ _ _ h => h) (by rfl) ?_)
      try simp only [Act.put, List.setIfInBounds_toArray, List.set_cons_zero, List.set_cons_succ]
      first | (refine pi_take (v := ?pv1_2) rfl (fun _ _ _ h => h) (by rfl) (fun v hv => ?pr1_2) ?rest1_2; case pr1_2 => (obtain ⟨u0, u1⟩ := hv; go_simp; first | done | with_reducible rfl)) | (refine pi_pass rfl (fun _ _ _ h => h) (by rfl) ?_)
      try simp only [Act.put, List.setIfInBounds_toArray, List.set_cons_zero, List.set_cons_succ]
      refine pi_step rfl (fun K hK => ?_)
      first | (first | (go_at_call 50; refine (CC.out _ (Kept.refl (Nat.le_refl _)).drew).mono ?_; rintro e w7 ⟨a7, c7, rfl, hP7⟩; have hS7 := Lib.hid hP7; clear hP7) | (refine step_pushE pageE (w := w7.alloc (.cells #[.slice a7 k c7] 46)) (es := ps) (v := y) ⟨p, (a7, k, c7), blkOf (.slice a7 k c7)⟩ (.tmp 16) (.tmp 19) ⟨w7.heap.size, 0, none⟩ (by rfl) (by rfl) (by rfl) (by rfl) hS7.out.cells hS7.out.pages hS7.out.elem hS7.out.apart hS7.out.base hS7.out.few ?_; intro g8 c8 w8 hm8 hg8 hat8; have hT8 := Lib.hid (AFT.out a7 c7 w7 w8 hS7.out hg8); have hM8 := Lib.hid hm8; obtain ⟨u0, -⟩ := hT8.out.1; have u1 : w8.frozen? ⟨w.heap.size + 2, 1, none⟩ = false := (by simp [World.frozen?, hT8.out.2.1]); clear hm8 hg8 hat8)) | (go_simp; first | (go_at_call 50; refine (CC.out _ (Kept.refl (Nat.le_refl _)).drew).mono ?_; rintro e w7 ⟨a7, c7, rfl, hP7⟩; have hS7 := Lib.hid hP7; clear hP7) | (refine step_pushE pageE (w := w7.alloc (.cells #[.slice a7 k c7] 46)) (es := ps) (v := y) ⟨p, (a7, k, c7), blkOf (.slice a7 k c7)⟩ (.tmp 16) (.tmp 19) ⟨w7.heap.size, 0, none⟩ (by rfl) (by rfl) (by rfl) (by rfl) hS7.out.cells hS7.out.pages hS7.out.elem hS7.out.apart hS7.out.base hS7.out.few ?_; intro g8 c8 w8 hm8 hg8 hat8; have hT8 := Lib.hid (AFT.out a7 c7 w7 w8 hS7.out hg8); have hM8 := Lib.hid hm8; obtain ⟨u0, -⟩ := hT8.out.1; have u1 : w8.frozen? ⟨w.heap.size + 2, 1, none⟩ = false := (by simp [World.frozen?, hT8.out.2.1]); clear hm8 hg8 hat8))
      refine hK.out _ _ (by first | exact hT8.out.1 | exact SS.out _ hS7.out.k7 | exact SS.out _ hS7.out.kept) (fun hHeld2 => ?_)
      clear hK K hHeld
      have hHeld := hHeld2
      clear hHeld2
      try simp only [Act.put, List.setIfInBounds_toArray, List.set_cons_zero, List.set_cons_succ]
      refine pi_step rfl (fun K hK => ?_)
      go_simp
      refine hK.out _ _ (by first | exact hT8.out.1 | exact SS.out _ hS7.out.k7 | exact SS.out _ hS7.out.kept) (fun hHeld2 => ?_)
      clear hK K hHeld
      have hHeld := hHeld2
      clear hHeld2
      try simp only [Act.put, List.setIfInBounds_toArray, List.set_cons_zero, List.set_cons_succ]
      refine pi_step rfl (fun K hK => ?_)
      first | (first | (go_at_call 50; refine (CC.out _ (Kept.refl (Nat.le_refl _)).drew).mono ?_; rintro e w7 ⟨a7, c7, rfl, hP7⟩; have hS7 := Lib.hid hP7; clear hP7) | (refine step_pushE pageE (w := w7.alloc (.cells #[.slice a7 k c7] 46)) (es := ps) (v := y) ⟨p, (a7, k, c7), blkOf (.slice a7 k c7)⟩ (.tmp 16) (.tmp 19) ⟨w7.heap.size, 0, none⟩ (by rfl) (by rfl) (by rfl) (by rfl) hS7.out.cells hS7.out.pages hS7.out.elem hS7.out.apart hS7.out.base hS7.out.few ?_; intro g8 c8 w8 hm8 hg8 hat8; have hT8 := Lib.hid (AFT.out a7 c7 w7 w8 hS7.out hg8); have hM8 := Lib.hid hm8; obtain ⟨u0, -⟩ := hT8.out.1; have u1 : w8.frozen? ⟨w.heap.size + 2, 1, none⟩ = false := (by simp [World.frozen?, hT8.out.2.1]); clear hm8 hg8 hat8)) | (go_simp; first | (go_at_call 50; refine (CC.out _ (Kept.refl (Nat.le_refl _)).drew).mono ?_; rintro e w7 ⟨a7, c7, rfl, hP7⟩; have hS7 := Lib.hid hP7; clear hP7) | (refine step_pushE pageE (w := w7.alloc (.cells #[.slice a7 k c7] 46)) (es := ps) (v := y) ⟨p, (a7, k, c7), blkOf (.slice a7 k c7)⟩ (.tmp 16) (.tmp 19) ⟨w7.heap.size, 0, none⟩ (by rfl) (by rfl) (by rfl) (by rfl) hS7.out.cells hS7.out.pages hS7.out.elem hS7.out.apart hS7.out.base hS7.out.few ?_; intro g8 c8 w8 hm8 hg8 hat8; have hT8 := Lib.hid (AFT.out a7 c7 w7 w8 hS7.out hg8); have hM8 := Lib.hid hm8; obtain ⟨u0, -⟩ := hT8.out.1; have u1 : w8.frozen? ⟨w.heap.size + 2, 1, none⟩ = false := (by simp [World.frozen?, hT8.out.2.1]); clear hm8 hg8 hat8))
      refine hK.out _ _ (by first | exact hT8.out.1 | exact SS.out _ hS7.out.k7 | exact SS.out _ hS7.out.kept) (fun hHeld2 => ?_)
      clear hK K hHeld
      have hHeld := hHeld2
      clear hHeld2
      try simp only [Act.put, List.setIfInBounds_toArray, List.set_cons_zero, List.set_cons_succ]
      first | (refine pi_take (v := ?pv1_6) rfl (fun _ _ _ h => h) (by rfl) (fun v hv => ?pr1_6) ?rest1_6; case pr1_6 => (obtain ⟨u0, u1⟩ := hv; go_simp; first | done | with_reducible rfl)) | (refine pi_pass rfl (fun _ _ _ h => h) (by rfl) ?_)
      try simp only [Act.put, List.setIfInBounds_toArray, List.set_cons_zero, List.set_cons_succ]
      refine pi_end ?_
      refine z_step rfl (fun K hK => ?_)
      go_simp
      refine hK.out _ _ ?_
      clear hK K
      try simp only [Act.put, List.setIfInBounds_toArray, List.set_cons_zero, List.set_cons_succ]
      refine z_end ?_
      clear hHeld
      have R1 := Lib.hid (map_next (e := (⟨p, (a7, k, c7), blkOf (.slice a7 k c7)⟩ : BEl rowsB)) hps.out HP.out rfl)
      have hT := hT8.out.2
      have R2 : Hid (Kept (w.heap.size + 2) W (w8.setCell ⟨w.heap.size + 2, 1, none⟩ (.slice (some ⟨g8, 0, none⟩) (ps.length + 1) c8))) := Lib.hid (hT.2.set (Nat.le_refl _) _)
      have R3 : Hid ((w8.setCell ⟨w.heap.size + 2, 1, none⟩ (.slice (some ⟨g8, 0, none⟩) (ps.length + 1) c8)).heap[w.heap.size + 2]? = some (.cells #[.int .i64 x0, .slice (some ⟨g8, 0, none⟩) (ps.length + 1) c8, .int .i64 x2, .bool x3] 59 (0, 0))) := Lib.hid (blk_put hT.1 rfl)
      have R4 : Hid (Blk 46 rowsB (w8.setCell ⟨w.heap.size + 2, 1, none⟩ (.slice (some ⟨g8, 0, none⟩) (ps.length + 1) c8)) (w.heap.size + 3) (.slice (some ⟨g8, 0, none⟩) (ps.length + 1) c8) (ps ++ [⟨p, (a7, k, c7), blkOf (.slice a7 k c7)⟩])) := Lib.hid (hM8.out.put _ fun b hb => by have := (hM8.out.lt b hb).1; omega)
      rw [hpsl] at R2 R3 R4
      clear hT hT8 hM8 u0 u1
      go_wp2_with fail
      go_roundw
      case rel => exact ⟨t + 1, _, _, by go_num, by omega, R1, R2, R3, R4⟩
      case measure => simp [intOf]; omega
    · have hkl : t = n1 := by omega
      have hx1 : ps.map BEl.x = x1 := by
        have := hps.out
        rw [hkl, List.take_of_length_le (by have := HL.out; omega)] at this
        exact this
      obtain ⟨a9, c9, rfl, -⟩ := hbl.out.slice
      have e0 := box_cell hbx.out 0 _ rfl
      have e1 := box_cell hbx.out 1 _ rfl
      have e2 := box_cell hbx.out 2 _ rfl
      have e3 := box_cell hbx.out 3 _ rfl
      have hr := hk.out.heap (b := w.heap.size + 1) (by omega) K1.out
      have r0 := box_cell hr 0 _ rfl
      have r1 := box_cell hr 1 _ rfl
      have r2 := box_cell hr 2 _ rfl
      have r3 := box_cell hr 3 _ rfl
      have rf : ∀ j, wr.frozen? ⟨w.heap.size + 1, j, none⟩ = false := fun j => by simp [World.frozen?, hr]
      have FB := Lib.hid (file_blk (x3 := x3) hbl.out H0.out H2.out)
      rw [hx1] at FB
      have NE : Hid (w.heap.size + 1 ∉ blkOf (.slice a9 ps.length c9) ++ gsOf ps) := Lib.hid fun hm => by have := (hbl.out.lt _ hm).1; omega
      have KB := Lib.hid (KW.out _ hk.out)
      clear hx1 hr
      go_wp2_with fail
      refine bodyPost_ret (v := .agg #[.int .i64 x0, .slice a9 ps.length c9, .int .i64 x2, .bool x3]) (by simp [results, Try.results61, go_sem, *]) rfl ⟨a9, ps.length, c9, blkOf (.slice a9 ps.length c9) ++ gsOf ps, rfl, ?_, ?_⟩
      · exact fileB.blk_mono (fileB.blk_keep FB.out (((((SameBlk.refl _ _).set _ NE.out).set _ NE.out).set _ NE.out).set _ NE.out)) (by omega)
      · exact ((((KB.out.set (by simp only []; omega) _).set (by simp only []; omega) _).set (by simp only []; omega) _).set (by simp only []; omega) _).1
set_option maxRecDepth 100000 in
set_option maxHeartbeats 2000000 in
theorem iclonedisk (a : Option Addr) (n c : Nat) (X : DiskD) (w : World) (h : diskRep.inn w X ((a, n, c), ())) (hw : wtDisk X ≤ 1000000000) :
    Calls Try.prog 41 #[.agg #[.slice a n c, .int .i64 X.fNextName]] w (GivesDisk X w) := by
  have hnx := (disk_in h).2.2
  obtain ⟨nx, hnx'⟩ : ∃ nx, nx = X.fNextName := ⟨_, rfl⟩
  rw [← hnx'] at hnx ⊢
  obtain ⟨W, hW⟩ : ∃ W, W = ((w.alloc (.cells #[.slice a n c, .int .i64 nx] 31)).alloc (.cells #[.slice none 0 0, .int .i64 0] 31)).alloc (.cells #[.slice none 0 0, .int .i64 nx] 31) := ⟨_, rfl⟩
  obtain ⟨hz, b0, q0, q1, q2⟩ := boxes3 w W hW
  have HZ := Lib.hid hz
  have B0 := Lib.hid b0
  have K1 := Lib.hid q1
  have K2 := Lib.hid q2
  have HI := Lib.hid (disk_in h).1
  have HL := Lib.hid (disk_len h).1
  have HW := Lib.hid hw
  have HNX := Lib.hid hnx
  have HE := Lib.hid hnx'
  have hn1 : n ≤ 1000000000 := by
    have h2 := hw
    have h4 := wt_file_len X.fFiles
    have h8 : wtDisk X = wtFiles X.fFiles := rfl
    have h9 := HL.out
    omega
  have PP := Lib.hid (box_cell q0 0 _ rfl)
  clear h hnx hw b0 q0 q1 q2 hz hnx'
  go_enter Try.func41, Try.ntmps41
  go_wp2_with fail
  rw [← hW]
  clear hW
  go_loopw [12] (fun i wr => ∃ (t : Nat) (y : Value) (es : List (BEl fileB)), i = .int .i64 t ∧ t ≤ n ∧ Hid (es.map BEl.x = X.fFiles.take t) ∧ Hid (Kept (w.heap.size + 2) W wr) ∧ Hid (wr.heap[w.heap.size + 2]? = some (.cells #[y, .int .i64 nx] 31 (0, 0))) ∧ Hid (Blk 59 fileB wr (w.heap.size + 3) y es)) (fun i _ => n - (intOf i).toNat)
  case atStart => exact ⟨0, _, [], rfl, Nat.zero_le _, (show _ = _ from rfl), Kept.refl (by have := HZ.out; omega), K2, Blk.nil _ _ _ _⟩
  case round =>
    obtain ⟨t, y, es, rfl, ht, hes, hk, hbx, hbl⟩ := hrel
    have hz := HZ.out
    have KW : Hid (∀ v, Kept (w.heap.size + 2) W v → Kept w.heap.size w v) := Lib.hid fun v hv => ⟨B0.out.trans (hv.1.mono (by omega)), Nat.le_trans (by omega) hv.2⟩
    have hesl : es.length = t := by
      have := congrArg List.length hes.out
      rw [List.length_map, List.length_take, HL.out] at this
      omega
    by_cases hlt : t < n
    · have htl : t < X.fFiles.length := by have := HL.out; omega
      obtain ⟨f, hf⟩ : ∃ f, X.fFiles[t]? = some f := ⟨X.fFiles[t], by simp [htl]⟩
      obtain ⟨b, o, hd, rfl, hbl', hce, hin⟩ := HI.out.el hf
      have HF := Lib.hid hf
      have hwf : wtFile f ≤ 1000000000 := by
        have h1 := wt_file_at X.fFiles t htl
        have h2 : X.fFiles[t] = f := by rw [List.getElem?_eq_getElem htl] at hf; exact Option.some.inj hf
        rw [h2] at h1
        have h5 := HW.out
        have h8 : wtDisk X = wtFiles X.fFiles := rfl
        omega
      obtain ⟨x0, x1, x2, x3⟩ := f
      obtain ⟨⟨fa, fn, fk⟩, ⟨⟩⟩ := hd
      obtain ⟨r0, ⟨h1, hc1⟩, r2, -⟩ := hin
      have d0 : wr.cell? ⟨b, o + t * 4, none⟩ = some (.int .i64 x0) := (KW.out _ hk.out).cell hbl' (hce 0 _ rfl)
      have d1 : wr.cell? ⟨b, o + t * 4 + 1, none⟩ = some (.slice fa fn fk) := (KW.out _ hk.out).cell hbl' (hce 1 _ rfl)
      have d2 : wr.cell? ⟨b, o + t * 4 + 2, none⟩ = some (.int .i64 x2) := (KW.out _ hk.out).cell hbl' (hce 2 _ rfl)
      have d3 : wr.cell? ⟨b, o + t * 4 + 3, none⟩ = some (.bool x3) := (KW.out _ hk.out).cell hbl' (hce 3 _ rfl)
      obtain ⟨w5, hw5⟩ : ∃ u, u = wr.alloc (.cells #[.int .i64 x0, .slice fa fn fk, .int .i64 x2, .bool x3] 59) := ⟨_, rfl⟩
      obtain ⟨pb, hpb⟩ : ∃ g, g = wr.heap.size := ⟨_, rfl⟩
      have b5 : Below wr.heap.size wr w5 := by rw [hw5]; exact (Below.refl _ _).alloc (Nat.le_refl _) _
      have hx5 : w5.heap[pb]? = some (.cells #[.int .i64 x0, .slice fa fn fk, .int .i64 x2, .bool x3] 59 (0, 0)) := by rw [hw5, hpb]; exact heap_alloc_new _ _
      have X5 := Lib.hid hx5
      have K5 := Lib.hid (hk.out.below b5)
      have C5 := Lib.hid ((b5.block _ (lt_of_block hbx.out)).trans hbx.out)
      have M5 := Lib.hid (hbl.out.below b5)
      have PL : Hid (w.heap.size + 3 ≤ pb ∧ ∀ z ∈ blkOf y ++ gsOf es, z < pb) := Lib.hid ⟨by have := lt_of_block hbx.out; omega, fun z hz => by rw [hpb]; exact (hbl.out.lt z hz).2⟩
      have PIN := Lib.hid (h1.keep (KW.out _ K5.out).1)
      have R0 := Lib.hid r0
      have R2 := Lib.hid r2
      have HFEW : Hid (es.length + 1 ≤ 1000000000000) := Lib.hid (by omega)
      have HLOW : Hid (w.heap.size + 3 ≤ w5.heap.size) := Lib.hid (by have := lt_of_block hx5; have := PL.out.1; omega)
      have HWF : Hid (wtPages x1 ≤ 1000000000) := Lib.hid hwf
      have SS : Hid (∀ v, Kept w5.heap.size w5 v → v.cell? ⟨w.heap.size + 2, 0, none⟩ = some y ∧ v.cell? ⟨pb, 0, none⟩ = some (.int .i64 x0) ∧ v.cell? ⟨pb, 1, none⟩ = some (.slice fa fn fk) ∧ v.cell? ⟨pb, 2, none⟩ = some (.int .i64 x2) ∧ v.cell? ⟨pb, 3, none⟩ = some (.bool x3)) := Lib.hid fun v hv => ⟨hv.cell (lt_of_block C5.out) (box_cell C5.out 0 _ rfl), hv.cell (lt_of_block X5.out) (box_cell X5.out 0 _ rfl), hv.cell (lt_of_block X5.out) (box_cell X5.out 1 _ rfl), hv.cell (lt_of_block X5.out) (box_cell X5.out 2 _ rfl), hv.cell (lt_of_block X5.out) (box_cell X5.out 3 _ rfl)⟩
      have CC : Hid (∀ v, Kept w5.heap.size w5 v → Calls Try.prog 61 #[.agg #[.int .i64 x0, .slice fa fn fk, .int .i64 x2, .bool x3]] v fun e v' => ∃ (a6 : Option Addr) (n6 c6 : Nat) (G6 : List Nat), e = .returned (.agg #[.int .i64 x0, .slice a6 n6 c6, .int .i64 x2, .bool x3]) ∧ Hid (fileB.blk v' w5.heap.size ⟨x0, x1, x2, x3⟩ ((a6, n6, c6), ()) G6) ∧ Hid (Kept w5.heap.size w5 v')) := Lib.hid fun v hv =>
        (iclonefile x0 fa fn fk x1 x2 x3 v (PIN.out.keep hv.1) R0.out R2.out HWF.out).mono fun e v' ⟨a6, n6, c6, G6, he, hr, hb⟩ => ⟨a6, n6, c6, G6, he, Lib.hid (fileB.blk_mono hr hv.2), Lib.hid (hv.below hb)⟩
      have AFT : Hid (∀ (v6 v7 : World), Kept w5.heap.size w5 v6 → v6.grownBy v7 y.ownBlock → (v7.cell? ⟨w.heap.size + 2, 0, none⟩ = some y ∧ v7.cell? ⟨pb, 0, none⟩ = some (.int .i64 x0) ∧ v7.cell? ⟨pb, 1, none⟩ = some (.slice fa fn fk) ∧ v7.cell? ⟨pb, 2, none⟩ = some (.int .i64 x2) ∧ v7.cell? ⟨pb, 3, none⟩ = some (.bool x3)) ∧ v7.heap[w.heap.size + 2]? = some (.cells #[y, .int .i64 nx] 31 (0, 0)) ∧ Kept (w.heap.size + 2) W v7) := Lib.hid fun v6 v7 hk7 hg => by
        have hrow := blk_row M5.out
        have hy : ∀ z, y.ownBlock = some z → z < pb := fun z hz => PL.out.2 z (List.mem_append_left _ (blkOf_mem.2 hz))
        have h1 := (hg.block (w.heap.size + 2) (Nat.lt_of_lt_of_le (lt_of_block C5.out) hk7.2) (fun e => by have := hrow _ e.symm; omega)).trans (hk7.heap (lt_of_block C5.out) C5.out)
        have h2 := (hg.block pb (Nat.lt_of_lt_of_le (lt_of_block X5.out) hk7.2) (fun e => by have := hy _ e.symm; omega)).trans (hk7.heap (lt_of_block X5.out) X5.out)
        exact ⟨⟨box_cell h1 0 _ rfl, box_cell h2 0 _ rfl, box_cell h2 1 _ rfl, box_cell h2 2 _ rfl, box_cell h2 3 _ rfl⟩, h1, K5.out.trans ((hk7.mono (by have := HLOW.out; omega)).grown hg fun z hz => by have := hrow z hz; omega)⟩
      clear b5 hx5 hf hce h1 hc1 r0 r2 hwf
      go_upto_region 5 with fail
      rw [← hpb, ← hw5]
      clear hw5 hpb d0 d1 d2 d3
      refine region_plan (fun v => v.cell? ⟨w.heap.size + 2, 0, none⟩ = some y ∧ v.cell? ⟨pb, 0, none⟩ = some (.int .i64 x0) ∧ v.cell? ⟨pb, 1, none⟩ = some (.slice fa fn fk) ∧ v.cell? ⟨pb, 2, none⟩ = some (.int .i64 x2) ∧ v.cell? ⟨pb, 3, none⟩ = some (.bool x3)) [.q 0, .q 1, .q 2, .m 3, .m 4, .m 5, .q 6] [7] (by kernel_rfl) (by kernel_rfl) (SS.out _ (Kept.refl (Nat.le_refl _)).drew) (fun hHeld => ?_)
      first | (refine pi_take (v := ?pv2_0) rfl (fun _ _ _ h => h) (by rfl) (fun v hv => ?pr2_0) ?rest2_0; case pr2_0 => (obtain ⟨u0, u1, u2, u3, u4⟩ := hv; go_simp; first | done | with_reducible rfl)) | (refine pi_pass rfl (fun _ _ _ h => h) (by rfl) ?_)
      try simp only [Act.put, List.setIfInBounds_toArray, List.set_cons_zero, List.set_cons_succ]
      first | (refine pi_take (v := ?pv2_1) rfl (fun _ _ _ h => h) (by rfl) (fun v hv => ?pr2_1) ?rest2_1; case pr2_1 => (obtain ⟨u0, u1, u2, u3, u4⟩ := hv; go_simp; first | done | with_reducible rfl)) | (refine pi_pass rfl (fun _ _ _ h => h) (by rfl) ?_)
      try simp only [Act.put, List.setIfInBounds_toArray, List.set_cons_zero, List.set_cons_succ]
      first | (refine pi_take (v := ?pv2_2) rfl (fun _ _ _ h => h) (by rfl) (fun v hv => ?pr2_2) ?rest2_2; case pr2_2 => (obtain ⟨u0, u1, u2, u3, u4⟩ := hv; go_simp; first | done | with_reducible rfl)) | (refine pi_pass rfl (fun _ _ _ h => h) (by rfl) ?_)
      try simp only [Act.put, List.setIfInBounds_toArray, List.set_cons_zero, List.set_cons_succ]
      refine pi_step rfl (fun K hK => ?_)
      first | (first | (go_at_call 61; refine (CC.out _ (Kept.refl (Nat.le_refl _)).drew).mono ?_; rintro e w7 ⟨a7, n7, c7, G7, rfl, hB7, hK7⟩; have hE7 := Lib.hid (show ElIn 59 fileB (w.heap.size + 3) w5 y es ⟨⟨x0, x1, x2, x3⟩, ((a7, n7, c7), ()), G7⟩ w7 from ⟨hK7.out, hB7.out, M5.out, HLOW.out, HFEW.out⟩)) | (refine step_pushE fileE (w := w7.alloc (.cells #[.int .i64 x0, .slice a7 n7 c7, .int .i64 x2, .bool x3] 59)) (es := es) (v := y) ⟨⟨x0, x1, x2, x3⟩, ((a7, n7, c7), ()), G7⟩ (.tmp 17) (.tmp 20) ⟨w7.heap.size, 0, none⟩ (by rfl) (by rfl) (by rfl) (by rfl) (hE7.out.cells rfl) (hE7.out.pages _) (hE7.out.elem _) hE7.out.apart (hE7.out.base _) hE7.out.few ?_; intro g8 c8 w8 hm8 hg8 hat8; have hT8 := Lib.hid (AFT.out _ w8 (hK7.out.alloc _) hg8); have hM8 := Lib.hid hm8; obtain ⟨u0, -⟩ := hT8.out.1; have u1 : w8.frozen? ⟨w.heap.size + 2, 0, none⟩ = false := (by simp [World.frozen?, hT8.out.2.1]); clear hm8 hg8 hat8)) | (go_simp; first | (go_at_call 61; refine (CC.out _ (Kept.refl (Nat.le_refl _)).drew).mono ?_; rintro e w7 ⟨a7, n7, c7, G7, rfl, hB7, hK7⟩; have hE7 := Lib.hid (show ElIn 59 fileB (w.heap.size + 3) w5 y es ⟨⟨x0, x1, x2, x3⟩, ((a7, n7, c7), ()), G7⟩ w7 from ⟨hK7.out, hB7.out, M5.out, HLOW.out, HFEW.out⟩)) | (refine step_pushE fileE (w := w7.alloc (.cells #[.int .i64 x0, .slice a7 n7 c7, .int .i64 x2, .bool x3] 59)) (es := es) (v := y) ⟨⟨x0, x1, x2, x3⟩, ((a7, n7, c7), ()), G7⟩ (.tmp 17) (.tmp 20) ⟨w7.heap.size, 0, none⟩ (by rfl) (by rfl) (by rfl) (by rfl) (hE7.out.cells rfl) (hE7.out.pages _) (hE7.out.elem _) hE7.out.apart (hE7.out.base _) hE7.out.few ?_; intro g8 c8 w8 hm8 hg8 hat8; have hT8 := Lib.hid (AFT.out _ w8 (hK7.out.alloc _) hg8); have hM8 := Lib.hid hm8; obtain ⟨u0, -⟩ := hT8.out.1; have u1 : w8.frozen? ⟨w.heap.size + 2, 0, none⟩ = false := (by simp [World.frozen?, hT8.out.2.1]); clear hm8 hg8 hat8))
      refine hK.out _ _ (by first | exact hT8.out.1 | exact SS.out _ hK7.out | exact SS.out _ (hK7.out.alloc _)) (fun hHeld2 => ?_)
      clear hK K hHeld
      have hHeld := hHeld2
      clear hHeld2
      try simp only [Act.put, List.setIfInBounds_toArray, List.set_cons_zero, List.set_cons_succ]
      refine pi_step rfl (fun K hK => ?_)
      go_simp
      refine hK.out _ _ (by first | exact hT8.out.1 | exact SS.out _ hK7.out | exact SS.out _ (hK7.out.alloc _)) (fun hHeld2 => ?_)
      clear hK K hHeld
      have hHeld := hHeld2
      clear hHeld2
      try simp only [Act.put, List.setIfInBounds_toArray, List.set_cons_zero, List.set_cons_succ]
      refine pi_step rfl (fun K hK => ?_)
      first | (first | (go_at_call 61; refine (CC.out _ (Kept.refl (Nat.le_refl _)).drew).mono ?_; rintro e w7 ⟨a7, n7, c7, G7, rfl, hB7, hK7⟩; have hE7 := Lib.hid (show ElIn 59 fileB (w.heap.size + 3) w5 y es ⟨⟨x0, x1, x2, x3⟩, ((a7, n7, c7), ()), G7⟩ w7 from ⟨hK7.out, hB7.out, M5.out, HLOW.out, HFEW.out⟩)) | (refine step_pushE fileE (w := w7.alloc (.cells #[.int .i64 x0, .slice a7 n7 c7, .int .i64 x2, .bool x3] 59)) (es := es) (v := y) ⟨⟨x0, x1, x2, x3⟩, ((a7, n7, c7), ()), G7⟩ (.tmp 17) (.tmp 20) ⟨w7.heap.size, 0, none⟩ (by rfl) (by rfl) (by rfl) (by rfl) (hE7.out.cells rfl) (hE7.out.pages _) (hE7.out.elem _) hE7.out.apart (hE7.out.base _) hE7.out.few ?_; intro g8 c8 w8 hm8 hg8 hat8; have hT8 := Lib.hid (AFT.out _ w8 (hK7.out.alloc _) hg8); have hM8 := Lib.hid hm8; obtain ⟨u0, -⟩ := hT8.out.1; have u1 : w8.frozen? ⟨w.heap.size + 2, 0, none⟩ = false := (by simp [World.frozen?, hT8.out.2.1]); clear hm8 hg8 hat8)) | (go_simp; first | (go_at_call 61; refine (CC.out _ (Kept.refl (Nat.le_refl _)).drew).mono ?_; rintro e w7 ⟨a7, n7, c7, G7, rfl, hB7, hK7⟩; have hE7 := Lib.hid (show ElIn 59 fileB (w.heap.size + 3) w5 y es ⟨⟨x0, x1, x2, x3⟩, ((a7, n7, c7), ()), G7⟩ w7 from ⟨hK7.out, hB7.out, M5.out, HLOW.out, HFEW.out⟩)) | (refine step_pushE fileE (w := w7.alloc (.cells #[.int .i64 x0, .slice a7 n7 c7, .int .i64 x2, .bool x3] 59)) (es := es) (v := y) ⟨⟨x0, x1, x2, x3⟩, ((a7, n7, c7), ()), G7⟩ (.tmp 17) (.tmp 20) ⟨w7.heap.size, 0, none⟩ (by rfl) (by rfl) (by rfl) (by rfl) (hE7.out.cells rfl) (hE7.out.pages _) (hE7.out.elem _) hE7.out.apart (hE7.out.base _) hE7.out.few ?_; intro g8 c8 w8 hm8 hg8 hat8; have hT8 := Lib.hid (AFT.out _ w8 (hK7.out.alloc _) hg8); have hM8 := Lib.hid hm8; obtain ⟨u0, -⟩ := hT8.out.1; have u1 : w8.frozen? ⟨w.heap.size + 2, 0, none⟩ = false := (by simp [World.frozen?, hT8.out.2.1]); clear hm8 hg8 hat8))
      refine hK.out _ _ (by first | exact hT8.out.1 | exact SS.out _ hK7.out | exact SS.out _ (hK7.out.alloc _)) (fun hHeld2 => ?_)
      clear hK K hHeld
      have hHeld := hHeld2
      clear hHeld2
      try simp only [Act.put, List.setIfInBounds_toArray, List.set_cons_zero, List.set_cons_succ]
      first | (refine pi_take (v := ?pv2_6) rfl (fun _ _ _ h => h) (by rfl) (fun v hv => ?pr2_6) ?rest2_6; case pr2_6 => (obtain ⟨u0, u1, u2, u3, u4⟩ := hv; go_simp; first | done | with_reducible rfl)) | (refine pi_pass rfl (fun _ _ _ h => h) (by rfl) ?_)
      try simp only [Act.put, List.setIfInBounds_toArray, List.set_cons_zero, List.set_cons_succ]
      refine pi_end ?_
      refine z_step rfl (fun K hK => ?_)
      go_simp
      refine hK.out _ _ ?_
      clear hK K
      try simp only [Act.put, List.setIfInBounds_toArray, List.set_cons_zero, List.set_cons_succ]
      refine z_end ?_
      clear hHeld
      have R1 := Lib.hid (map_next (e := (⟨⟨x0, x1, x2, x3⟩, ((a7, n7, c7), ()), G7⟩ : BEl fileB)) hes.out HF.out rfl)
      have hT := hT8.out.2
      have R2 : Hid (Kept (w.heap.size + 2) W (w8.setCell ⟨w.heap.size + 2, 0, none⟩ (.slice (some ⟨g8, 0, none⟩) (es.length + 1) c8))) := Lib.hid (hT.2.set (Nat.le_refl _) _)
      have R3 : Hid ((w8.setCell ⟨w.heap.size + 2, 0, none⟩ (.slice (some ⟨g8, 0, none⟩) (es.length + 1) c8)).heap[w.heap.size + 2]? = some (.cells #[.slice (some ⟨g8, 0, none⟩) (es.length + 1) c8, .int .i64 nx] 31 (0, 0))) := Lib.hid (blk_put hT.1 rfl)
      have R4 : Hid (Blk 59 fileB (w8.setCell ⟨w.heap.size + 2, 0, none⟩ (.slice (some ⟨g8, 0, none⟩) (es.length + 1) c8)) (w.heap.size + 3) (.slice (some ⟨g8, 0, none⟩) (es.length + 1) c8) (es ++ [⟨⟨x0, x1, x2, x3⟩, ((a7, n7, c7), ()), G7⟩])) := Lib.hid (hM8.out.put _ fun b hb => by have := (hM8.out.lt b hb).1; omega)
      rw [hesl] at R2 R3 R4
      clear hT hT8 hM8 u0 u1
      go_wp2_with fail
      go_roundw
      case rel => exact ⟨t + 1, _, _, by go_num, by omega, R1, R2, R3, R4⟩
      case measure => simp [intOf]; omega
    · have hkl : t = n := by omega
      have hx1 : es.map BEl.x = X.fFiles := by
        have := hes.out
        rw [hkl, List.take_of_length_le (by have := HL.out; omega)] at this
        exact this
      obtain ⟨a9, c9, rfl, -⟩ := hbl.out.slice
      have e0 := box_cell hbx.out 0 _ rfl
      have e1 := box_cell hbx.out 1 _ rfl
      have hr := hk.out.heap (b := w.heap.size + 1) (by omega) K1.out
      have r0 := box_cell hr 0 _ rfl
      have r1 := box_cell hr 1 _ rfl
      have rf : ∀ j, wr.frozen? ⟨w.heap.size + 1, j, none⟩ = false := fun j => by simp [World.frozen?, hr]
      have FB := Lib.hid (disk_blk hbl.out HNX.out)
      rw [hx1, show (⟨X.fFiles, nx⟩ : DiskD) = X by rw [HE.out]] at FB
      have NE : Hid (w.heap.size + 1 ∉ blkOf (.slice a9 es.length c9) ++ gsOf es) := Lib.hid fun hm => by have := (hbl.out.lt _ hm).1; omega
      have KB := Lib.hid (KW.out _ hk.out)
      clear hx1 hr
      go_wp2_with fail
      refine bodyPost_ret (v := .agg #[.slice a9 es.length c9, .int .i64 nx]) (by simp [results, Try.results41, go_sem, *]) rfl ⟨a9, es.length, c9, blkOf (.slice a9 es.length c9) ++ gsOf es, by rw [HE.out], ?_, ?_⟩
      · exact diskB.blk_mono (diskB.blk_keep FB.out (((SameBlk.refl _ _).set _ NE.out).set _ NE.out)) (by omega)
      · exact ((KB.out.set (by simp only []; omega) _).set (by simp only []; omega) _).1
end Go.Proofs.Ythbifibnnhikjaa
/- The program's CreateFile, by contract. -/
namespace Go.Proofs.Ythbifibnnhikjaa
open Go.RowKit
set_option linter.unusedVariables false

set_option maxRecDepth 100000 in
set_option maxHeartbeats 1000000 in
theorem icreate0 (a : Option Addr) (n c : Nat) (X : DiskD) (w : World) (h : diskRep.inn w X ((a, n, c), ())) (hw : wtDisk X ≤ 1000000000) (Y : DiskD) (q : Int) (b : Bool)
    (HN : Hid (DiskD.okD X = false ∨ 1000 ≤ X.fNextName → Y = X ∧ q = 0 ∧ b = false)) (HY : Hid (DiskD.okD X = true → X.fNextName < 1000 → Y = ⟨X.fFiles ++ [⟨X.fNextName, [], 0, false⟩], X.fNextName + 1⟩ ∧ q = X.fNextName ∧ b = true)) :
    Calls Try.prog 18 #[.agg #[.slice a n c, .int .i64 X.fNextName]] w (DiskAnd Y [.int .i64 q, .bool b] w) := by
  obtain ⟨W, hW⟩ : ∃ W, W = (w.alloc (.cells #[.slice a n c, .int .i64 X.fNextName] 31)).alloc (.cells #[.slice none 0 0, .int .i64 0] 31) := ⟨_, rfl⟩
  obtain ⟨b0, k0, k1⟩ := boxes2 w W hW
  have hz : W.heap.size = w.heap.size + 2 := by rw [hW]; simp
  have HZ := Lib.hid hz
  have B0 := Lib.hid b0
  have HI := Lib.hid (h.keep b0)
  have HW := Lib.hid hw
  have HNX := Lib.hid (disk_in h).2.2
  have hnl : n ≤ 1000000000 := by
    have h4 := wt_file_len X.fFiles
    have h8 : wtDisk X = wtFiles X.fFiles := rfl
    have h9 := (disk_len h).1
    omega
  have HL := Lib.hid (disk_len h).1
  have FF : Hid (∀ v, Kept W.heap.size W v → v.cell? ⟨w.heap.size, 0, none⟩ = some (.slice a n c) ∧ v.cell? ⟨w.heap.size, 1, none⟩ = some (.int .i64 X.fNextName) ∧
      v.cell? ⟨w.heap.size + 1, 0, none⟩ = some (.slice none 0 0) ∧ v.cell? ⟨w.heap.size + 1, 1, none⟩ = some (.int .i64 0) ∧ ∀ j, v.frozen? ⟨w.heap.size + 1, j, none⟩ = false) := Lib.hid fun v hv =>
    ⟨hv.cell (by omega) (box_cell k0 0 _ rfl), hv.cell (by omega) (box_cell k0 1 _ rfl), hv.cell (by omega) (box_cell k1 0 _ rfl), hv.cell (by omega) (box_cell k1 1 _ rfl), fun j => hv.frozen (by omega) (by simp [World.frozen?, k1])⟩
  clear h b0 k0 k1 hz hw
  go_enter Try.func18, Try.ntmps18
  go_wp2_with fail
  rw [← hW]
  clear hW
  refine (iclonedisk a n c X W HI.out HW.out).mono ?_
  rintro e w1 ⟨a1, n1, c1, G1, rfl, hd1, b1⟩
  obtain ⟨fs, rfl, hfs, hst⟩ := dop_start hd1 b1
  have HFS := Lib.hid hfs
  obtain ⟨xb, hxb⟩ : ∃ g, g = w1.heap.size := ⟨_, rfl⟩
  obtain ⟨w2, hw2⟩ : ∃ u, u = w1.alloc (.cells #[.slice a1 fs.length c1, .int .i64 X.fNextName] 31) := ⟨_, rfl⟩
  have D2 := Lib.hid (hst xb w2 hxb hw2)
  obtain ⟨p0, p1, -⟩ := FF.out _ D2.out.kept
  clear hd1 b1 hst hfs
  go_upto_region 2 with fail
  rw [← hxb, ← hw2]
  clear hw2 hxb
  go_wp2_with fail
  clear p0 p1
  refine (iokdisk a n c X w2 (HI.out.keep D2.out.kept.1) HW.out).mono ?_
  rintro e w3 ⟨rfl, b3⟩
  have D3 := Lib.hid (D2.out.below b3)
  obtain ⟨p0, p1, r0, r1, rf⟩ := FF.out _ D3.out.kept
  obtain ⟨x0, x1, xf⟩ := D3.out.x
  clear b3
  by_cases hno : DiskD.okD X = false ∨ 1000 ≤ X.fNextName
  · obtain ⟨rfl, rfl, rfl⟩ := HN.out hno
    cases hok : DiskD.okD Y with
    | false =>
      clear hok hno
      go_wp2_with fail
      refine bodyPost_ret (v := .tuple #[.agg #[.slice a1 fs.length c1, .int .i64 Y.fNextName], .int .i64 0, .bool false]) (by simp [results, Try.results18, go_sem, *]) rfl ?_
      exact disk_done (vs := [.int .i64 0, .bool false]) B0.out (D3.out.disk HFS.out HNX.out) D3.out.kept (by omega) (by have := HZ.out; omega) _ _
    | true =>
      have hlt : 1000 ≤ Y.fNextName := by
        rcases hno with h1 | h1
        · rw [hok] at h1; cases h1
        · exact h1
      have heq : (Y.fNextName == 1000) = true := by
        have := (DiskD.Ok.of hok).hi
        have h1 : Y.fNextName = 1000 := by omega
        rw [h1]; rfl
      clear hok hno
      go_wp2_with fail
      refine bodyPost_ret (v := .tuple #[.agg #[.slice a1 fs.length c1, .int .i64 Y.fNextName], .int .i64 0, .bool false]) (by simp [results, Try.results18, go_sem, *]) rfl ?_
      exact disk_done (vs := [.int .i64 0, .bool false]) B0.out (D3.out.disk HFS.out HNX.out) D3.out.kept (by omega) (by have := HZ.out; omega) _ _
  · have hok : DiskD.okD X = true := by
      cases h1 : DiskD.okD X with
      | true => rfl
      | false => exact absurd (.inl h1) hno
    have hlt : X.fNextName < 1000 := by
      by_cases h1 : 1000 ≤ X.fNextName
      · exact absurd (.inr h1) hno
      · omega
    obtain ⟨rfl, rfl, rfl⟩ := HY.out hok hlt
    have hlo := (DiskD.Ok.of hok).lo
    have hne : (X.fNextName == 1000) = false := by
      rw [beq_eq_false_iff_ne]; omega
    rw [hok]
    have HOK := Lib.hid hok
    have HLT := Lib.hid hlt
    have hl1 : fs.length = X.fFiles.length := by rw [HFS.out, List.length_map]
    have HFL : Hid (fs.length + 1 ≤ 1000000000000) := Lib.hid (by have := HL.out; omega)
    have EF := Lib.hid (emptyFile (w3.alloc (.cells #[.int .i64 X.fNextName, .slice none 0 0, .int .i64 0, .bool false] 59)) W.heap.size X.fNextName HNX.out)
    have HBA := Lib.hid (D3.out.blk.below (show Below w3.heap.size w3 (w3.alloc (.cells #[.int .i64 X.fNextName, .slice none 0 0, .int .i64 0, .bool false] 59)) from (Below.refl _ _).alloc (Nat.le_refl _) _))
    have HSA : Hid (W.heap.size ≤ (w3.alloc (.cells #[.int .i64 X.fNextName, .slice none 0 0, .int .i64 0, .bool false] 59)).heap.size) := Lib.hid (by simp; have := D3.out.kept.2; omega)
    clear hl1 hno hok
    go_upto_region 7 with (at_builtin; refine wpList_pushE fileE (w := w3.alloc (.cells #[.int .i64 X.fNextName, .slice none 0 0, .int .i64 0, .bool false] 59)) (es := fs) (v := .slice a1 fs.length c1) ⟨⟨X.fNextName, [], 0, false⟩, ((none, 0, 0), ()), []⟩ (.tmp 21) (.tmp 24) w3.heap.size rfl rfl rfl rfl (heap_alloc_new _ _) rfl HBA.out EF.out (fun b hb => by cases hb) HSA.out HFL.out ?_; intro g4 c4 w4 hm4 hg4 hat4; have KW4 := Lib.hid ((D3.out.kept.alloc _).grown hg4 fun k hk => blk_row HBA.out k hk); have hx4 := (hg4.block xb (Nat.lt_of_lt_of_le (lt_of_block D3.out.box) (by simp)) (fun e => D3.out.out (List.mem_append_left _ (blkOf_mem.2 e.symm)))).trans ((Below.heap_alloc _ _ _ (lt_of_block D3.out.box)).trans D3.out.box); have X4 := Lib.hid hx4; have M4 := Lib.hid hm4; have NE4 := Lib.hid (push_ne (n := fs.length + 1) (c := c4) (e := (⟨⟨X.fNextName, [], 0, false⟩, ((none, 0, 0), ()), []⟩ : BEl fileB)) hat4 D3.out.out (Nat.lt_of_lt_of_le (lt_of_block D3.out.box) (by simp)) (fun hm => by cases hm)); obtain ⟨q0, q1, s0, s1, sf⟩ := FF.out _ KW4.out; have y0 := box_cell X4.out 0 _ rfl; have y1 := box_cell X4.out 1 _ rfl; have yf : ∀ j, w4.frozen? ⟨xb, j, none⟩ = false := (fun j => by simp [World.frozen?, X4.out]); clear hm4 hg4 hat4 hx4 p0 p1 x0 x1 xf r0 r1 rf)
    obtain ⟨w6, hw6⟩ : ∃ u, u = (w4.setCell ⟨xb, 0, none⟩ (.slice (some ⟨g4, 0, none⟩) (fs.length + 1) c4)).setCell ⟨xb, 1, none⟩ (.int .i64 (X.fNextName + 1)) := ⟨_, rfl⟩
    have X6 : Hid (w6.heap[xb]? = some (.cells #[.slice (some ⟨g4, 0, none⟩) (fs.length + 1) c4, .int .i64 (X.fNextName + 1)] 31 (0, 0))) := Lib.hid (by rw [hw6]; exact blk_put (blk_put X4.out rfl) rfl)
    have M6 := Lib.hid (M4.out.keep (((SameBlk.refl _ _).set (g := xb) (i := 0) (.slice (some ⟨g4, 0, none⟩) (fs.length + 1) c4) NE4.out).set (g := xb) (i := 1) (.int .i64 (X.fNextName + 1)) NE4.out))
    have K6 : Hid (Kept W.heap.size W w6) := Lib.hid (by rw [hw6]; exact (KW4.out.set D3.out.low _).set D3.out.low _)
    rw [← hw6] at M6 ⊢
    clear hw6 q0 q1 y0 y1 yf s0 s1 sf
    obtain ⟨-, -, r0, r1, rf⟩ := FF.out _ K6.out
    have x0 := box_cell X6.out 0 _ rfl
    have x1 := box_cell X6.out 1 _ rfl
    have DD : Hid (diskB.blk w6 W.heap.size ⟨X.fFiles ++ [⟨X.fNextName, [], 0, false⟩], X.fNextName + 1⟩ ((some ⟨g4, 0, none⟩, fs.length + 1, c4), ()) (blkOf (.slice (some ⟨g4, 0, none⟩) (fs.length + 1) c4) ++ gsOf (fs ++ [(⟨⟨X.fNextName, [], 0, false⟩, ((none, 0, 0), ()), []⟩ : BEl fileB)]))) := Lib.hid (by
      have h1 := disk_blk (nx := X.fNextName + 1) M6.out (by unfold I64; have := HLT.out; omega)
      rw [List.map_append, ← HFS.out] at h1
      exact h1)
    go_wp2_with fail
    refine bodyPost_ret (v := .tuple #[.agg #[.slice (some ⟨g4, 0, none⟩) (fs.length + 1) c4, .int .i64 (X.fNextName + 1)], .int .i64 X.fNextName, .bool true]) (by simp [results, Try.results18, go_sem, *]) rfl ?_
    exact disk_done (Y := ⟨X.fFiles ++ [⟨X.fNextName, [], 0, false⟩], X.fNextName + 1⟩) (vs := [.int .i64 X.fNextName, .bool true]) (r := w.heap.size + 1) B0.out DD.out K6.out (by omega) (by have := HZ.out; omega) _ _
theorem icreate (a : Option Addr) (n c : Nat) (X : DiskD) (w : World) (h : diskRep.inn w X ((a, n, c), ())) (hw : wtDisk X ≤ 1000000000) :
    Calls Try.prog 18 #[.agg #[.slice a n c, .int .i64 X.fNextName]] w (DiskAnd ((DiskD.create X).getD X) [.int .i64 (if (DiskD.create X).isSome then X.fNextName else 0), .bool (DiskD.create X).isSome] w) := by
  refine icreate0 a n c X w h hw _ _ _ (fun hno => ?_) (fun hok hlt => ?_)
  · rw [DiskD.create_none hno]; exact ⟨rfl, rfl, rfl⟩
  · rw [DiskD.create_eq hok hlt]; exact ⟨rfl, rfl, rfl⟩
end Go.Proofs.Ythbifibnnhikjaa
/- What the operations on a disk make is a valid disk, hence small; no function of program or reference is walked here. -/
namespace Go.Proofs.Ythbifibnnhikjaa.DiskD
open Go.RowKit
set_option linter.unusedVariables false

theorem Ok.create {d e : DiskD} (h : create d = some e) : Ok e := by
  unfold DiskD.create at h
  split at h
  · rename_i hc
    rw [Bool.and_eq_true, decide_eq_true_eq] at hc
    have ho := Ok.of hc.1
    have hlo := ho.lo
    cases h
    have hget : ∀ (i : Nat) (f : FileD), (d.fFiles ++ [⟨d.fNextName, [], 0, false⟩])[i]? = some f → (i < d.fFiles.length ∧ d.fFiles[i]? = some f) ∨ (i = d.fFiles.length ∧ f = ⟨d.fNextName, [], 0, false⟩) := fun i f hf => by
      rcases Nat.lt_or_ge i d.fFiles.length with h1 | h1
      · rw [List.getElem?_append_left h1] at hf; exact .inl ⟨h1, hf⟩
      · have h2 := idx_lt hf
        rw [List.length_append, List.length_singleton] at h2
        obtain rfl : i = d.fFiles.length := by omega
        rw [List.getElem?_append_right (Nat.le_refl _), Nat.sub_self] at hf
        exact .inr ⟨rfl, (Option.some.inj hf).symm⟩
    refine ⟨by show 0 ≤ d.fNextName + 1; omega, by show d.fNextName + 1 ≤ 1000; omega, ?_, fun f hf => ?_, fun i j f g hf hg hij => ?_⟩
    · show count (d.fFiles ++ [⟨d.fNextName, [], 0, false⟩]) ≤ 40
      have := ho.few
      rw [count_append, count_cons]
      show count d.fFiles + (0 + 0) ≤ 40
      omega
    · show 0 ≤ f.fName ∧ f.fName < d.fNextName + 1 ∧ f.ok = true
      rcases List.mem_append.1 hf with h1 | h1
      · obtain ⟨h2, h3, h4⟩ := ho.each f h1
        exact ⟨h2, by omega, h4⟩
      · rw [List.mem_singleton.1 h1]
        exact ⟨hlo, by show d.fNextName < d.fNextName + 1; omega, rfl⟩
    · rcases hget i f hf with ⟨h1, h2⟩ | ⟨h1, h2⟩
      · rcases hget j g hg with ⟨h3, h4⟩ | ⟨h3, h4⟩
        · exact ho.asc i j f g h2 h4 hij
        · rw [h4]; exact (ho.each f (List.mem_of_getElem? h2)).2.1
      · rcases hget j g hg with ⟨h3, h4⟩ | ⟨h3, h4⟩ <;> omega
  · cases h
theorem Ok.appendTo {d e : DiskD} {name : Int} {p : List R} (h : appendTo d name p = some e) : Ok e := by
  unfold DiskD.appendTo at h
  cases hfi : file d name with
  | none => rw [hfi] at h; cases h
  | some kf =>
    obtain ⟨k, f⟩ := kf
    rw [hfi] at h
    have h' : (if !f.fSealed && R.pageOk p && decide (count d.fFiles ≠ 40) then some (⟨d.fFiles.set k { f with fPages := f.fPages ++ [p] }, d.fNextName⟩ : DiskD) else none) = some e := h
    obtain ⟨hok, -, hk, -⟩ := of_file hfi
    have ho := Ok.of hok
    split at h'
    · rename_i hc
      simp only [Bool.and_eq_true, decide_eq_true_eq, Bool.not_eq_true'] at hc
      cases h'
      refine ho.set hk rfl ?_ ?_
      · have h1 := (ho.each f (List.mem_of_getElem? hk)).2.2
        unfold FileD.ok at h1 ⊢
        rw [Bool.and_eq_true] at h1 ⊢
        refine ⟨?_, h1.2⟩
        have h2 := h1.1
        unfold R.allPages at h2 ⊢
        rw [List.all_append, h2]
        simp [hc.1.2]
      · have h1 := count_set hk { f with fPages := f.fPages ++ [p] }
        have h2 := ho.few
        have h3 := hc.2
        simp only [List.length_append, List.length_singleton] at h1
        omega
    · cases h'
theorem Ok.sealF {d e : DiskD} {name : Int} (h : sealF d name = some e) : Ok e := by
  unfold DiskD.sealF at h
  cases hfi : file d name with
  | none => rw [hfi] at h; cases h
  | some kf =>
    obtain ⟨k, f⟩ := kf
    rw [hfi] at h
    have h' : (if f.fSealed then none else some (⟨d.fFiles.set k { f with fChecksum := ck (R.fmtPages f.fPages), fSealed := true }, d.fNextName⟩ : DiskD)) = some e := h
    obtain ⟨hok, -, hk, -⟩ := of_file hfi
    have ho := Ok.of hok
    split at h'
    · cases h'
    · cases h'
      refine ho.set hk rfl ?_ ?_
      · have h1 := (ho.each f (List.mem_of_getElem? hk)).2.2
        unfold FileD.ok at h1 ⊢
        rw [Bool.and_eq_true] at h1 ⊢
        exact ⟨h1.1, rfl⟩
      · have h1 := count_set hk { f with fChecksum := ck (R.fmtPages f.fPages), fSealed := true }
        have h2 := ho.few
        simp only at h1
        omega
theorem Ok.sub {d : DiskD} (h : Ok d) {F : List FileD} (hs : F.Sublist d.fFiles) : Ok ⟨F, d.fNextName⟩ := by
  refine ⟨h.lo, h.hi, Nat.le_trans (count_sub hs) h.few, fun f hf => h.each f (hs.subset hf), fun i j f g hf hg hij => ?_⟩
  have hp : d.fFiles.Pairwise fun a b => a.fName < b.fName := List.pairwise_iff_getElem.2 fun i j hi hj hij => h.asc i j _ _ (by simp [hi]) (by simp [hj]) hij
  have hq := hp.sublist hs
  have hi := idx_lt hf
  have hj := idx_lt hg
  have h1 := List.pairwise_iff_getElem.1 hq i j hi hj hij
  have hf' : F[i]? = some f := hf
  have hg' : F[j]? = some g := hg
  rw [List.getElem?_eq_getElem hi] at hf'
  rw [List.getElem?_eq_getElem hj] at hg'
  rw [Option.some.inj hf', Option.some.inj hg'] at h1
  exact h1
theorem Ok.delete {d e : DiskD} {name : Int} (h : delete d name = some e) : Ok e := by
  unfold DiskD.delete at h
  cases hfi : file d name with
  | none => rw [hfi] at h; cases h
  | some kf =>
    obtain ⟨k, f⟩ := kf
    rw [hfi] at h
    have h' : some (⟨d.fFiles.eraseIdx k, d.fNextName⟩ : DiskD) = some e := h
    obtain ⟨hok, -, -, -⟩ := of_file hfi
    cases h'
    exact (Ok.of hok).sub (List.eraseIdx_sublist _ _)
theorem purge_wt (d : DiskD) : wtDisk (purge d) ≤ 2000 := by
  unfold purge
  cases hok : okD d with
  | true => exact ((Ok.of hok).sub List.filter_sublist).wt
  | false => exact Nat.zero_le _
/-- What an operation answers is no heavier than its argument, or small. -/
theorem wt_getD {X : DiskD} {o : Option DiskD} (h : ∀ e, o = some e → Ok e) (hX : wtDisk X ≤ 1048576) : wtDisk (o.getD X) ≤ 1048576 := by
  cases ho : o with
  | none => exact hX
  | some e => have := (h e ho).wt; show wtDisk e ≤ _; omega
theorem wt_create {X : DiskD} (hX : wtDisk X ≤ 1048576) : wtDisk ((create X).getD X) ≤ 1048576 := wt_getD (fun _ => Ok.create) hX
theorem wt_appendTo {X : DiskD} {name : Int} {p : List R} (hX : wtDisk X ≤ 1048576) : wtDisk ((appendTo X name p).getD X) ≤ 1048576 := wt_getD (fun _ => Ok.appendTo) hX
theorem wt_sealF {X : DiskD} {name : Int} (hX : wtDisk X ≤ 1048576) : wtDisk ((sealF X name).getD X) ≤ 1048576 := wt_getD (fun _ => Ok.sealF) hX
theorem wt_delete {X : DiskD} {name : Int} (hX : wtDisk X ≤ 1048576) : wtDisk ((delete X name).getD X) ≤ 1048576 := wt_getD (fun _ => Ok.delete) hX
theorem wt_read {X : DiskD} {name : Int} (hX : wtDisk X ≤ 1048576) : wtRows ((read X name).getD []) ≤ 1048576 := by
  cases hr : read X name with
  | none => exact Nat.zero_le _
  | some L =>
    show L.length ≤ 1048576
    unfold read at hr
    cases hfi : file X name with
    | none => rw [hfi] at hr; cases hr
    | some kf =>
      obtain ⟨k, f⟩ := kf
      rw [hfi] at hr
      have h' : (if f.whole then some f.fPages.flatten else none) = some L := hr
      obtain ⟨hok, -, hk, -⟩ := of_file hfi
      have h1 := (Ok.of hok).wt
      split at h'
      · cases h'
        have h2 := flat_wt f.fPages
        have h4 := wt_file_at X.fFiles k (idx_lt hk)
        have h7 : X.fFiles[k]'(idx_lt hk) = f := by rw [List.getElem?_eq_getElem (idx_lt hk)] at hk; exact Option.some.inj hk
        rw [h7] at h4
        have h5 : wtDisk X = wtFiles X.fFiles := rfl
        have h6 : wtFile f = wtPages f.fPages := rfl
        omega
      · cases h'
end Go.Proofs.Ythbifibnnhikjaa.DiskD
/- Several elements appended at once onto a slice in a block of the call's own; parts of such a slice; no function of program or reference is walked here. -/
namespace Go.Proofs.Ythbifibnnhikjaa
open Go.RowKit
set_option linter.unusedVariables false

theorem Blk.many {α : Type} {T : TypeId} {s : BRep α} {w w' : World} {B : Nat} {v v' : Value} {es fs : List (BEl s)} (h : Blk T s w B v es) (hf : ∀ f ∈ fs, s.blk w B f.x f.h f.G) (hn : (blkOf v ++ gsOf (es ++ fs)).Nodup)
    (hown : w'.ownsRow B T s.rep.size v' (es.length + fs.length) (bcells es ++ bcells fs)) (hg : w.grownBy w' v.ownBlock) (hat : v'.ownBlock = v.ownBlock ∨ v'.ownBlock = some w.heap.size) : Blk T s w' B v' (es ++ fs) := by
  have hlt := h.lt
  have hn' := hn
  rw [List.nodup_append] at hn'
  have hall : ∀ f ∈ es ++ fs, s.blk w B f.x f.h f.G := fun f hfm => (List.mem_append.1 hfm).elim (h.all f) (hf f)
  refine ⟨by rw [bcells_append, List.length_append]; exact hown, fun f hfm => s.blk_keep (hall f hfm) (SameBlk.of_grown hg (fun b hb => (s.blk_lt (hall f hfm) b hb).2) fun b hb e => hn'.2.2 b (blkOf_mem.2 e) b (mem_gs.2 ⟨f, hfm, hb⟩) rfl), ?_⟩
  rw [List.nodup_append]
  refine ⟨by unfold blkOf; cases v'.ownBlock <;> simp, hn'.2.1, fun a ha b hb e => ?_⟩
  subst e
  rcases hat with h1 | h1
  · exact hn'.2.2 a (blkOf_mem.2 (by rw [← h1]; exact blkOf_mem.1 ha)) a hb rfl
  · have h2 := blkOf_mem.1 ha
    rw [h1] at h2
    obtain ⟨f, hfm, hb⟩ := mem_gs.1 hb
    have := (s.blk_lt (hall f hfm) a hb).2
    have h3 : w.heap.size = a := Option.some.inj h2
    omega
theorem ElInfo.cells {α : Type} {T St : TypeId} {s : BRep α} {z : Value} {bytes : Nat} (I : ElInfo T St s z bytes) (fs : List (BEl s)) : ∀ u ∈ bcells fs, u.oneCell' = true := fun u hu => by
  obtain ⟨f, -, hf⟩ := List.mem_flatMap.1 hu
  exact I.one _ _ u hf
/-- 'append(x, y...)' as a step of a region that draws its order, y at an address. -/
theorem step_manyE {α : Type} {T St : TypeId} {s : BRep α} {z : Value} {bytes : Nat} (I : ElInfo T St s z bytes) {ops : Array Oper} {o : Oper} {a : Act} {K : Act → World → Prop} {Q : Exit → Act → World → Prop} {E : Prop} {w : World} {B : Nat} {v : Value} {es : List (BEl s)} (fs : List (BEl s)) (so xo : Operand) (ad : Addr) (m c : Nat)
    (hgd : o.guard = none) (ho : o.op = .call { callee := .builtin .append, args := #[so, xo], argTypes := #[St, St] })
    (hs : a.eval so = v) (hx : a.eval xo = .slice (some ad) m c) (hm : fs.length = m) (hc : ∀ j u, (bcells fs)[j]? = some u → w.cell? (ad.add j) = some u)
    (h : Blk T s w B v es) (hf : ∀ f ∈ fs, s.blk w B f.x f.h f.G) (hn : (blkOf v ++ gsOf (es ++ fs)).Nodup) (hB : B ≤ w.heap.size) (hlen : es.length + m ≤ 1000000000000)
    (k : ∀ v' w', Blk T s w' B v' (es ++ fs) → w.grownBy w' v.ownBlock → (v'.ownBlock = v.ownBlock ∨ v'.ownBlock = some w.heap.size) → K (a.put o.dst v') w') :
    if Region.wanted o (yielded ops a.tmps) = true then Oper.wp Try.prog o a w K Q else E := by
  have hw : Region.wanted o (yielded ops a.tmps) = true := by simp [Region.wanted, hgd]
  rw [if_pos hw]
  obtain ⟨i0, hi, hz0, hz1, hz2⟩ := info_parts I.inf
  obtain ⟨v', w', hr, h2, h3, h4, h5⟩ := run_append_own_at (P := Try.prog) w B St o.type T i0 z s.rep.size bytes I.und hi hz0 hz1 hz2 I.zs I.pos v es.length (bcells es) h.own ad m c (bcells fs) (by rw [bcells_length, hm]) hc (I.cells fs) (by unfold maxLen; omega)
    (by have h1 : (es.length + m) * bytes ≤ 1000000000000 * 100 := Nat.mul_le_mul hlen I.small
        omega) hB
  unfold Oper.wp
  simp [execOp, ho, resolve, invoke, builtin, hs, hx, hr, Result.andThen]
  exact k v' w' (h.many hf hn (by rw [hm]; exact h2) h3 h5) h3 h5
/-- The cells of what lies in a slice from k on, where the slice that is cut there begins. -/
theorem Blk.from {α : Type} {T : TypeId} {s : BRep α} {w : World} {B g n c : Nat} {es : List (BEl s)} (h : Blk T s w B (.slice (some ⟨g, 0, none⟩) n c) es) {k : Nat} (hk : k ≤ n) :
    ∃ A : Addr, (if c = k then (some ⟨g, 0, none⟩ : Option Addr) else some ⟨g, k * s.rep.size, none⟩) = some A ∧ ∀ j u, (bcells (es.drop k))[j]? = some u → w.cell? (A.add j) = some u := by
  obtain ⟨hn, hc, -⟩ := h.caps
  by_cases e : c = k
  · refine ⟨_, by rw [if_pos e], fun j u hj => ?_⟩
    have : es.drop k = [] := List.drop_eq_nil_of_le (by omega)
    rw [this] at hj
    simp [bcells] at hj
  · refine ⟨_, by rw [if_neg e], fun j u hj => ?_⟩
    have hjl := idx_lt hj
    rw [bcells_length, List.length_drop] at hjl
    have hown := h.own
    rw [← hn] at hown
    rw [Addr.add_lit, hown.cellAt (k * s.rep.size + j) ?_]
    · have e1 : bcells es = bcells (es.take k) ++ bcells (es.drop k) := by rw [← bcells_append, List.take_append_drop]
      have e2 : (bcells (es.take k)).length = k * s.rep.size := by rw [bcells_length, List.length_take]; congr 1; omega
      rw [e1, List.getElem?_append_right (by omega), e2, Nat.add_sub_cancel_left]
      exact hj
    · have h3 : (es.length - k) * s.rep.size = es.length * s.rep.size - k * s.rep.size := Nat.sub_mul _ _ _
      have h4 : k * s.rep.size ≤ es.length * s.rep.size := Nat.mul_le_mul_right _ (by omega)
      rw [hn]
      omega
/-- The cells of its first k elements. -/
theorem Blk.upto {α : Type} {T : TypeId} {s : BRep α} {w : World} {B g n c : Nat} {es : List (BEl s)} (h : Blk T s w B (.slice (some ⟨g, 0, none⟩) n c) es) (k : Nat) :
    ∀ j u, (bcells (es.take k))[j]? = some u → w.cell? ((⟨g, 0, none⟩ : Addr).add j) = some u := fun j u hj => by
  have hjl := idx_lt hj
  have e1 : bcells es = bcells (es.take k) ++ bcells (es.drop k) := by rw [← bcells_append, List.take_append_drop]
  have hj2 : (bcells es)[j]? = some u := by rw [e1, List.getElem?_append_left hjl]; exact hj
  have hj3 := idx_lt hj2
  rw [bcells_length] at hj3
  have hown := h.own
  rw [← h.caps.1] at hown hj3
  rw [Addr.add_lit, Nat.zero_add, hown.cellAt j hj3]
  exact hj2
theorem gs_sub {α : Type} {s : BRep α} {xs ys : List (BEl s)} (h : xs.Sublist ys) : (gsOf xs).Sublist (gsOf ys) := by
  unfold gsOf
  induction h with
  | slnil => exact List.Sublist.refl _
  | cons a _ ih => rw [List.flatMap_cons]; exact ih.trans (List.sublist_append_right _ _)
  | cons_cons a _ ih => rw [List.flatMap_cons, List.flatMap_cons]; exact List.Sublist.append (List.Sublist.refl _) ih
theorem gs_erase {α : Type} {s : BRep α} {es : List (BEl s)} (k : Nat) (h : (gsOf es).Nodup) : (gsOf (es.take k ++ es.drop (k + 1))).Nodup := by
  have hs : (es.take k ++ es.drop (k + 1)).Sublist es := by
    conv => rhs; rw [← List.take_append_drop k es]
    refine List.Sublist.append (List.Sublist.refl _) ?_
    rw [← List.drop_drop]
    exact List.drop_sublist _ _
  exact h.sublist (gs_sub hs)
end Go.Proofs.Ythbifibnnhikjaa
/- The reference's DeleteFile, by contract. -/
namespace Go.Proofs.Ythbifibnnhikjaa
open Go.RowKit
set_option linter.unusedVariables false

set_option maxRecDepth 100000 in
set_option maxHeartbeats 4000000 in
theorem sdelete0 (a : Option Addr) (n c : Nat) (X : DiskD) (name : Int) (w : World) (h : diskRep.inn w X ((a, n, c), ())) (hw : wtDisk X ≤ 1000000000) (Y : DiskD) (b : Bool)
    (HR : Hid (∀ r, DiskD.delete X name = r → Y = r.getD X ∧ b = r.isSome)) :
    Calls Try.prog 27 #[.agg #[.slice a n c, .int .i64 X.fNextName], .int .i64 name] w (DiskAnd Y [.bool b] w) := by
  obtain ⟨W, hW⟩ : ∃ W, W = (w.alloc (.cells #[.slice a n c, .int .i64 X.fNextName] 31)).alloc (.cells #[.slice none 0 0, .int .i64 0] 31) := ⟨_, rfl⟩
  obtain ⟨b0, k0, k1⟩ := boxes2 w W hW
  have hz : W.heap.size = w.heap.size + 2 := by rw [hW]; simp
  have HZ := Lib.hid hz
  have B0 := Lib.hid b0
  have HI := Lib.hid (h.keep b0)
  have HW := Lib.hid hw
  have HNX := Lib.hid (disk_in h).2.2
  have HL := Lib.hid (disk_len h).1
  have hnm := (disk_len h).2
  unfold maxLen at hnm
  have FF : Hid (∀ v, Kept W.heap.size W v → v.cell? ⟨w.heap.size, 0, none⟩ = some (.slice a n c) ∧ v.cell? ⟨w.heap.size, 1, none⟩ = some (.int .i64 X.fNextName) ∧
      v.cell? ⟨w.heap.size + 1, 0, none⟩ = some (.slice none 0 0) ∧ v.cell? ⟨w.heap.size + 1, 1, none⟩ = some (.int .i64 0) ∧ ∀ j, v.frozen? ⟨w.heap.size + 1, j, none⟩ = false) := Lib.hid fun v hv =>
    ⟨hv.cell (by omega) (box_cell k0 0 _ rfl), hv.cell (by omega) (box_cell k0 1 _ rfl), hv.cell (by omega) (box_cell k1 0 _ rfl), hv.cell (by omega) (box_cell k1 1 _ rfl), fun j => hv.frozen (by omega) (by simp [World.frozen?, k1])⟩
  clear h b0 k0 k1 hz hw
  go_enter Try.func27, Try.ntmps27
  go_wp2_with fail
  rw [← hW]
  clear hW
  refine (scopy a n c X W HI.out HW.out).mono ?_
  rintro e w1 ⟨a1, n1, c1, G1, rfl, hd1, b1⟩
  obtain ⟨fs, rfl, hfs, hst⟩ := dop_start hd1 b1
  have HFS := Lib.hid hfs
  obtain ⟨xb, hxb⟩ : ∃ g, g = w1.heap.size := ⟨_, rfl⟩
  obtain ⟨w2, hw2⟩ : ∃ u, u = w1.alloc (.cells #[.slice a1 fs.length c1, .int .i64 X.fNextName] 31) := ⟨_, rfl⟩
  have D2 := Lib.hid (hst xb w2 hxb hw2)
  obtain ⟨p0, p1, -⟩ := FF.out _ D2.out.kept
  clear hd1 b1 hst hfs
  go_upto_region 2 with fail
  rw [← hxb, ← hw2]
  clear hw2 hxb
  go_wp2_with fail
  clear p0 p1
  refine (sat a n c X name w2 (HI.out.keep D2.out.kept.1)).mono ?_
  rintro e w3 ⟨rfl, b3⟩
  have D3 := Lib.hid (D2.out.below b3)
  obtain ⟨p0, p1, -⟩ := FF.out _ D3.out.kept
  obtain ⟨ki, hki⟩ : ∃ i, i = DiskD.atI X.fFiles name := ⟨_, rfl⟩
  rw [← hki]
  have HK := Lib.hid hki
  clear b3 hki
  go_wp2_with fail
  clear p0 p1
  refine (sokdisk a n c X w3 (HI.out.keep D3.out.kept.1) HW.out).mono ?_
  rintro e w4 ⟨rfl, b4⟩
  have D4 := Lib.hid (D3.out.below b4)
  obtain ⟨p0, p1, r0, r1, rf⟩ := FF.out _ D4.out.kept
  obtain ⟨x0, x1, xf⟩ := D4.out.x
  clear b4
  cases hok : DiskD.okD X with
  | false =>
    have hno := DiskD.delete_none (name := name) (DiskD.file_bad hok)
    have hY : X = Y := (HR.out _ hno).1.symm
    have hb : b = false := (HR.out _ hno).2
    subst hb
    subst hY
    clear hno
    clear hok
    go_wp2_with fail
    refine bodyPost_ret (v := .tuple #[.agg #[.slice a1 fs.length c1, .int .i64 X.fNextName], .bool false]) (by simp [results, Try.results27, go_sem, *]) rfl ?_
    exact disk_done (vs := [.bool false]) B0.out (D4.out.disk HFS.out HNX.out) D4.out.kept (by omega) (by have := HZ.out; omega) _ _
  | true =>
    have HOK := Lib.hid hok
    clear hok
    cases hat : DiskD.at? X.fFiles name with
    | none =>
      have hno := DiskD.delete_none (DiskD.file_none hat)
      have hY : X = Y := (HR.out _ hno).1.symm
      have hb : b = false := (HR.out _ hno).2
      subst hb
      subst hY
      clear hno
      have hk1 : ki = -1 := by rw [HK.out]; unfold DiskD.atI; rw [hat]
      subst hk1
      clear hat
      go_wp2_with fail
      refine bodyPost_ret (v := .tuple #[.agg #[.slice a1 fs.length c1, .int .i64 X.fNextName], .bool false]) (by simp [results, Try.results27, go_sem, *]) rfl ?_
      exact disk_done (vs := [.bool false]) B0.out (D4.out.disk HFS.out HNX.out) D4.out.kept (by omega) (by have := HZ.out; omega) _ _
    | some k =>
      obtain ⟨f, hf, hfn⟩ := DiskD.at_some hat
      have hfile := DiskD.file_some HOK.out hat hf
      have hk1 : ki = k := by rw [HK.out]; unfold DiskD.atI; rw [hat]
      subst hk1
      have HAE := Lib.hid (DiskD.delete_eq hfile)
      obtain ⟨bb, o, hd, rfl, hbl, hce, hin⟩ := (disk_in HI.out).1.el hf
      have hkl : k < n := by have := idx_lt hf; have := HL.out; omega
      have HF := Lib.hid hf
      obtain ⟨f0, f1, f2, f3⟩ := f
      obtain ⟨⟨fa, fn, fc⟩, ⟨⟩⟩ := hd
      have HIN := Lib.hid hin.2.1
      have CF : Hid (∀ v, Kept W.heap.size W v → v.cell? ⟨bb, o + k * 4, none⟩ = some (.int .i64 f0) ∧ v.cell? ⟨bb, o + k * 4 + 1, none⟩ = some (.slice fa fn fc) ∧ v.cell? ⟨bb, o + k * 4 + 2, none⟩ = some (.int .i64 f2) ∧ v.cell? ⟨bb, o + k * 4 + 3, none⟩ = some (.bool f3)) := Lib.hid fun v hv => ⟨hv.cell hbl (hce 0 _ rfl), hv.cell hbl (hce 1 _ rfl), hv.cell hbl (hce 2 _ rfl), hv.cell hbl (hce 3 _ rfl)⟩
      clear hat hfile hce hin hf hfn
      have hkf : k < fs.length := by have := idx_lt HF.out; rw [HFS.out, List.length_map] at this; exact this
      obtain ⟨g, c1', ea, hgB, hgl, -, -⟩ := D4.out.blk.addr (by omega)
      injection ea with ea1 ea2 ea3
      subst ea1 ea3
      clear ea2
      obtain ⟨e, he⟩ : ∃ e, fs[k]? = some e := ⟨fs[k], by simp [hkf]⟩
      have hex : e.x = ⟨f0, f1, f2, f3⟩ := by
        have h1 := HF.out
        rw [HFS.out, List.getElem?_map, he] at h1
        exact Option.some.inj h1
      obtain ⟨ex, ⟨⟨pa, pn, pc⟩, ⟨⟩⟩, eG⟩ := e
      simp only at hex
      subst hex
      have HE := Lib.hid he
      have HGN : Hid (g ∉ gsOf fs) := Lib.hid (by
        have h1 := D4.out.blk.nodup
        rw [blkOf_some, List.singleton_append, List.nodup_cons] at h1
        exact h1.1)
      have HXN : Hid (xb ∉ gsOf fs ∧ xb ≠ g) := Lib.hid ⟨fun hm => D4.out.out (List.mem_append_right _ hm), fun e => D4.out.out (List.mem_append_left _ (by rw [blkOf_some, e]; exact List.mem_singleton.2 rfl))⟩
      have hki1 : (k : Int) < fs.length := by omega
      have hki0 : (0 : Int) ≤ k := by omega
      clear he
      have hY := (HR.out _ HAE.out).1
      have hb : b = true := (HR.out _ HAE.out).2
      subst hb
      have HYE := Lib.hid hY
      clear hY
      have hps1 : fs.length ≤ 1000000000 := by
        have h2 := wt_file_len X.fFiles
        have h3 : wtDisk X = wtFiles X.fFiles := rfl
        have h4 := HW.out
        have h5 : X.fFiles.length = fs.length := by rw [HFS.out, List.length_map]
        omega
      have hcap := D4.out.blk.caps
      unfold maxLen at hcap
      obtain ⟨A, hA, hAc⟩ := D4.out.blk.from (k := k + 1) (by omega)
      have hA' : (if c1 = k + 1 then (some ⟨g, 0, none⟩ : Option Addr) else some ⟨g, (k + 1) * 4, none⟩) = some A := hA
      have HAC := Lib.hid hAc
      have HUP := Lib.hid (D4.out.blk.upto k)
      have HLOW := Lib.hid D4.out.kept.2
      have HND := Lib.hid D4.out.blk.nodup
      have HLT := Lib.hid D4.out.blk.lt
      have HTL : Hid ((fs.take k).length = k) := Lib.hid (by rw [List.length_take]; omega)
      have HDL : Hid ((fs.drop (k + 1)).length = fs.length - (k + 1)) := Lib.hid (List.length_drop ..)
      have KZ := Lib.hid (show Kept w4.heap.size w4 (w4.alloc (.cells #[] 59)).drew from (Kept.refl (Nat.le_refl _)).drew.alloc _)
      have MZ := Lib.hid (Blk.made 59 fileB w4 W.heap.size HLOW.out)
      have hnd2 : (gsOf fs).Nodup := (List.nodup_append.1 HND.out).2.1
      have HGS : Hid (∀ z ∈ gsOf (fs.take k ++ fs.drop (k + 1)), z < w4.heap.size) := Lib.hid fun z hz => by
        obtain ⟨f, hf, hz⟩ := mem_gs.1 hz
        have hf' : f ∈ fs := (List.mem_append.1 hf).elim List.mem_of_mem_take List.mem_of_mem_drop
        exact (HLT.out z (List.mem_append_right _ (mem_gs.2 ⟨f, hf', hz⟩))).2
      have HG1 : Hid (∀ z ∈ gsOf (fs.take k), z < w4.heap.size) := Lib.hid fun z hz => HGS.out z (by rw [gs_append]; exact List.mem_append_left _ hz)
      have HN1 : Hid ((blkOf (.slice (some ⟨w4.heap.size, 0, none⟩) 0 0) ++ gsOf (([] : List (BEl fileB)) ++ fs.take k)).Nodup) := Lib.hid (by
        have h1 := gs_erase k hnd2
        rw [gs_append] at h1
        rw [blkOf_some, List.singleton_append, List.nil_append, List.nodup_cons]
        exact ⟨fun hm => by have h2 : w4.heap.size < w4.heap.size := HG1.out _ hm; omega, (List.nodup_append.1 h1).1⟩)
      have HF1 : Hid (∀ f ∈ fs.take k, fileB.blk (w4.alloc (.cells #[] 59)).drew W.heap.size f.x f.h f.G) := Lib.hid fun f hf => fileB.blk_below (D4.out.blk.all f (List.mem_of_mem_take hf)) KZ.out.1
      have HC1 : Hid (∀ j u, (bcells (fs.take k))[j]? = some u → (w4.alloc (.cells #[] 59)).drew.cell? ((⟨g, 0, none⟩ : Addr).add j) = some u) := Lib.hid fun j u hj => Lib.cell?_alloc_some _ (HUP.out j u hj)
      have HL1 : Hid (([] : List (BEl fileB)).length + k ≤ 1000000000000) := Lib.hid (by simp; omega)
      have HL2 : Hid ((fs.take k).length + (fs.length - (k + 1)) ≤ 1000000000000) := Lib.hid (by rw [HTL.out]; omega)
      have HS1 : Hid (W.heap.size ≤ (w4.alloc (.cells #[] 59)).drew.heap.size) := Lib.hid (Nat.le_trans HLOW.out KZ.out.2)
      have AFT : Hid (∀ v6 w6, Blk 59 fileB w6 W.heap.size v6 (([] : List (BEl fileB)) ++ fs.take k) → ((w4.alloc (.cells #[] 59)).drew).grownBy w6 (Value.slice (some ⟨w4.heap.size, 0, none⟩) 0 0).ownBlock →
          (v6.ownBlock = (Value.slice (some ⟨w4.heap.size, 0, none⟩) 0 0).ownBlock ∨ v6.ownBlock = some (w4.alloc (.cells #[] 59)).drew.heap.size) →
          Kept w4.heap.size w4 w6 ∧ (∀ z, v6.ownBlock = some z → w4.heap.size ≤ z) ∧ Blk 59 fileB w6 W.heap.size v6 (fs.take k) ∧ (∀ f ∈ fs.drop (k + 1), fileB.blk w6 W.heap.size f.x f.h f.G) ∧ (blkOf v6 ++ gsOf (fs.take k ++ fs.drop (k + 1))).Nodup ∧
          (∀ j u, (bcells (fs.drop (k + 1)))[j]? = some u → w6.cell? (A.add j) = some u)) := Lib.hid fun v6 w6 hm hg hat => by
        have hk : Kept w4.heap.size w4 w6 := KZ.out.grown hg fun z hz => by simp [Value.ownBlock] at hz; omega
        have hv : ∀ z, v6.ownBlock = some z → w4.heap.size ≤ z := fun z hz => by
          rcases hat with h1 | h1
          · rw [h1] at hz; simp [Value.ownBlock] at hz; omega
          · rw [h1] at hz; have := Option.some.inj hz; have := KZ.out.2; omega
        rw [List.nil_append] at hm
        refine ⟨hk, hv, hm, fun f hf => fileB.blk_below (D4.out.blk.all f (List.mem_of_mem_drop hf)) hk.1, ?_, fun j u hj => ?_⟩
        · rw [List.nodup_append]
          refine ⟨by unfold blkOf; cases v6.ownBlock <;> simp, gs_erase k hnd2, fun x hx y hy e => ?_⟩
          have h1 := hv x (blkOf_mem.1 hx)
          have h2 := HGS.out y hy
          omega
        · have h1 := HAC.out j u hj
          exact (hk.1.cell (World.block_lt_of_cell? _ _ h1)).trans h1
      have HXL := Lib.hid (lt_of_block D4.out.box)
      have AFU : Hid (∀ (v6 v7 : Value) (w6 w7 : World), Kept w4.heap.size w4 w6 → (∀ z, v6.ownBlock = some z → w4.heap.size ≤ z) → w6.grownBy w7 v6.ownBlock → (v7.ownBlock = v6.ownBlock ∨ v7.ownBlock = some w6.heap.size) → Kept w4.heap.size w4 w7 ∧ ∀ z, v7.ownBlock = some z → w4.heap.size ≤ z) := Lib.hid fun v6 v7 w6 w7 hk hv hg hat =>
        ⟨hk.grown hg hv, fun z hz => by
          rcases hat with h1 | h1
          · exact hv z (by rw [← h1]; exact hz)
          · rw [h1] at hz; have := Option.some.inj hz; have := hk.2; omega⟩
      have hlen2 : ((k : Int) + 1) ≤ fs.length := by omega
      have hlen3 : ((k : Int) + 1) ≤ c1 := by omega
      have hlen4 : (k : Int) ≤ c1 := by omega
      have hlen5 : (fs.length : Int) ≤ c1 := by omega
      have hlen7 : (0 : Int) ≤ (k : Int) + 1 := by omega
      have hlen6 : ((k : Int) + 1).toNat = k + 1 := by omega
      clear hA hAc hcap
      go_wp2_with fail
      clear p0 p1 x0 x1 xf r0 r1 rf
      have hwr : IntKind.i64.wrap ((k : Int) + 1) = (k : Int) + 1 := by simp [IntKind.wrap, IntKind.bits, IntKind.signed]; omega
      refine region_plan (Kept w4.heap.size w4) [.q 1, .q 2, .q 3, .q 4, .q 6, .q 7, .q 8, .q 9, .q 10, .m 0, .m 5, .m 11, .q 12] [13] (by kernel_rfl) (by kernel_rfl) (Kept.refl (Nat.le_refl _)).drew (fun hHeld => ?_)
      first | (refine pi_take (v := ?pv1_1) rfl (fun _ _ _ h => h) (by rfl) (fun v hv => ?pr1_1) ?rest1_1; case pr1_1 => (have d0 := hv.cell HXL.out D4.out.x.1; go_simp; first | done | with_reducible rfl)) | (refine pi_pass rfl (fun _ _ _ h => h) (by rfl) ?_)
      try simp only [Act.put, List.setIfInBounds_toArray, List.set_cons_zero, List.set_cons_succ]
      first | (refine pi_take (v := ?pv1_2) rfl (fun _ _ _ h => h) (by rfl) (fun v hv => ?pr1_2) ?rest1_2; case pr1_2 => (have d0 := hv.cell HXL.out D4.out.x.1; go_simp; first | done | with_reducible rfl)) | (refine pi_pass rfl (fun _ _ _ h => h) (by rfl) ?_)
      try simp only [Act.put, List.setIfInBounds_toArray, List.set_cons_zero, List.set_cons_succ]
      first | (refine pi_take (v := ?pv1_3) rfl (fun _ _ _ h => h) (by rfl) (fun v hv => ?pr1_3) ?rest1_3; case pr1_3 => (have d0 := hv.cell HXL.out D4.out.x.1; go_simp; first | done | with_reducible rfl)) | (refine pi_pass rfl (fun _ _ _ h => h) (by rfl) ?_)
      try simp only [Act.put, List.setIfInBounds_toArray, List.set_cons_zero, List.set_cons_succ]
      first | (refine pi_take (v := ?pv1_4) rfl (fun _ _ _ h => h) (by rfl) (fun v hv => ?pr1_4) ?rest1_4; case pr1_4 => (have d0 := hv.cell HXL.out D4.out.x.1; go_simp; first | done | with_reducible rfl)) | (refine pi_pass rfl (fun _ _ _ h => h) (by rfl) ?_)
      try simp only [Act.put, List.setIfInBounds_toArray, List.set_cons_zero, List.set_cons_succ]
      first | (refine pi_take (v := ?pv1_6) rfl (fun _ _ _ h => h) (by rfl) (fun v hv => ?pr1_6) ?rest1_6; case pr1_6 => (have d0 := hv.cell HXL.out D4.out.x.1; go_simp; first | done | with_reducible rfl)) | (refine pi_pass rfl (fun _ _ _ h => h) (by rfl) ?_)
      try simp only [Act.put, List.setIfInBounds_toArray, List.set_cons_zero, List.set_cons_succ]
      first | (refine pi_take (v := ?pv1_7) rfl (fun _ _ _ h => h) (by rfl) (fun v hv => ?pr1_7) ?rest1_7; case pr1_7 => (have d0 := hv.cell HXL.out D4.out.x.1; go_simp; first | done | with_reducible rfl)) | (refine pi_pass rfl (fun _ _ _ h => h) (by rfl) ?_)
      try simp only [Act.put, List.setIfInBounds_toArray, List.set_cons_zero, List.set_cons_succ]
      first | (refine pi_take (v := ?pv1_8) rfl (fun _ _ _ h => h) (by rfl) (fun v hv => ?pr1_8) ?rest1_8; case pr1_8 => (have d0 := hv.cell HXL.out D4.out.x.1; go_simp; first | done | with_reducible rfl)) | (refine pi_pass rfl (fun _ _ _ h => h) (by rfl) ?_)
      try simp only [Act.put, List.setIfInBounds_toArray, List.set_cons_zero, List.set_cons_succ]
      first | (refine pi_take (v := ?pv1_9) rfl (fun _ _ _ h => h) (by rfl) (fun v hv => ?pr1_9) ?rest1_9; case pr1_9 => (have d0 := hv.cell HXL.out D4.out.x.1; go_simp; first | done | with_reducible rfl)) | (refine pi_pass rfl (fun _ _ _ h => h) (by rfl) ?_)
      try simp only [Act.put, List.setIfInBounds_toArray, List.set_cons_zero, List.set_cons_succ]
      first | (refine pi_take (v := ?pv1_10) rfl (fun _ _ _ h => h) (by rfl) (fun v hv => ?pr1_10) ?rest1_10; case pr1_10 => (have d0 := hv.cell HXL.out D4.out.x.1; go_simp; first | done | with_reducible rfl)) | (refine pi_pass rfl (fun _ _ _ h => h) (by rfl) ?_)
      try simp only [Act.put, List.setIfInBounds_toArray, List.set_cons_zero, List.set_cons_succ]
      refine pi_step rfl (fun K hK => ?_)
      go_simp
      refine hK.out _ _ (by first | exact hU7.out.1 | exact hT6.out.1 | exact hHeld.alloc _) (fun hHeld2 => ?_)
      clear hK K hHeld
      have hHeld := hHeld2
      clear hHeld2
      try simp only [Act.put, List.setIfInBounds_toArray, List.set_cons_zero, List.set_cons_succ]
      refine pi_step rfl (fun K hK => ?_)
      first | (first | (refine step_manyE fileE (w := (w4.alloc (.cells #[] 59)).drew) (es := []) (fs.take k) (.tmp 21) (.tmp 25) ⟨g, 0, none⟩ k c1 (by rfl) (by rfl) (by rfl) (by rfl) HTL.out HC1.out (MZ.out.below (Below.refl _ _).drew) HF1.out HN1.out HS1.out HL1.out ?_; intro v6 w6 hm6 hg6 hat6; have hT6 := Lib.hid (AFT.out v6 w6 hm6 hg6 hat6); clear hm6 hg6 hat6) | (refine step_manyE fileE (w := w6) (es := fs.take k) (fs.drop (k + 1)) (.tmp 26) (.tmp 31) A (fs.length - (k + 1)) (c1 - (k + 1)) (by rfl) (by rfl) (by rfl) (by rfl) HDL.out hT6.out.2.2.2.2.2 hT6.out.2.2.1 hT6.out.2.2.2.1 hT6.out.2.2.2.2.1 (Nat.le_trans HLOW.out hT6.out.1.2) HL2.out ?_; intro v7 w7 hm7 hg7 hat7; obtain ⟨a7, c7, hv7, -⟩ := hm7.slice; obtain ⟨m, hm⟩ : ∃ m, m = (fs.take k ++ fs.drop (k + 1)).length := ⟨_, rfl⟩; rw [← hm] at hv7; subst hv7; clear hm; have hU7 := Lib.hid (AFU.out v6 _ w6 w7 hT6.out.1 hT6.out.2.1 hg7 hat7); have hM7 := Lib.hid hm7; have y0 := hU7.out.1.cell HXL.out D4.out.x.1; have yf := hU7.out.1.frozen (j := 0) HXL.out (D4.out.x.2.2 0); clear hm7 hg7 hat7)) | (go_simp; first | (refine step_manyE fileE (w := (w4.alloc (.cells #[] 59)).drew) (es := []) (fs.take k) (.tmp 21) (.tmp 25) ⟨g, 0, none⟩ k c1 (by rfl) (by rfl) (by rfl) (by rfl) HTL.out HC1.out (MZ.out.below (Below.refl _ _).drew) HF1.out HN1.out HS1.out HL1.out ?_; intro v6 w6 hm6 hg6 hat6; have hT6 := Lib.hid (AFT.out v6 w6 hm6 hg6 hat6); clear hm6 hg6 hat6) | (refine step_manyE fileE (w := w6) (es := fs.take k) (fs.drop (k + 1)) (.tmp 26) (.tmp 31) A (fs.length - (k + 1)) (c1 - (k + 1)) (by rfl) (by rfl) (by rfl) (by rfl) HDL.out hT6.out.2.2.2.2.2 hT6.out.2.2.1 hT6.out.2.2.2.1 hT6.out.2.2.2.2.1 (Nat.le_trans HLOW.out hT6.out.1.2) HL2.out ?_; intro v7 w7 hm7 hg7 hat7; obtain ⟨a7, c7, hv7, -⟩ := hm7.slice; obtain ⟨m, hm⟩ : ∃ m, m = (fs.take k ++ fs.drop (k + 1)).length := ⟨_, rfl⟩; rw [← hm] at hv7; subst hv7; clear hm; have hU7 := Lib.hid (AFU.out v6 _ w6 w7 hT6.out.1 hT6.out.2.1 hg7 hat7); have hM7 := Lib.hid hm7; have y0 := hU7.out.1.cell HXL.out D4.out.x.1; have yf := hU7.out.1.frozen (j := 0) HXL.out (D4.out.x.2.2 0); clear hm7 hg7 hat7))
      refine hK.out _ _ (by first | exact hU7.out.1 | exact hT6.out.1 | exact hHeld.alloc _) (fun hHeld2 => ?_)
      clear hK K hHeld
      have hHeld := hHeld2
      clear hHeld2
      try simp only [Act.put, List.setIfInBounds_toArray, List.set_cons_zero, List.set_cons_succ]
      refine pi_step rfl (fun K hK => ?_)
      first | (first | (refine step_manyE fileE (w := (w4.alloc (.cells #[] 59)).drew) (es := []) (fs.take k) (.tmp 21) (.tmp 25) ⟨g, 0, none⟩ k c1 (by rfl) (by rfl) (by rfl) (by rfl) HTL.out HC1.out (MZ.out.below (Below.refl _ _).drew) HF1.out HN1.out HS1.out HL1.out ?_; intro v6 w6 hm6 hg6 hat6; have hT6 := Lib.hid (AFT.out v6 w6 hm6 hg6 hat6); clear hm6 hg6 hat6) | (refine step_manyE fileE (w := w6) (es := fs.take k) (fs.drop (k + 1)) (.tmp 26) (.tmp 31) A (fs.length - (k + 1)) (c1 - (k + 1)) (by rfl) (by rfl) (by rfl) (by rfl) HDL.out hT6.out.2.2.2.2.2 hT6.out.2.2.1 hT6.out.2.2.2.1 hT6.out.2.2.2.2.1 (Nat.le_trans HLOW.out hT6.out.1.2) HL2.out ?_; intro v7 w7 hm7 hg7 hat7; obtain ⟨a7, c7, hv7, -⟩ := hm7.slice; obtain ⟨m, hm⟩ : ∃ m, m = (fs.take k ++ fs.drop (k + 1)).length := ⟨_, rfl⟩; rw [← hm] at hv7; subst hv7; clear hm; have hU7 := Lib.hid (AFU.out v6 _ w6 w7 hT6.out.1 hT6.out.2.1 hg7 hat7); have hM7 := Lib.hid hm7; have y0 := hU7.out.1.cell HXL.out D4.out.x.1; have yf := hU7.out.1.frozen (j := 0) HXL.out (D4.out.x.2.2 0); clear hm7 hg7 hat7)) | (go_simp; first | (refine step_manyE fileE (w := (w4.alloc (.cells #[] 59)).drew) (es := []) (fs.take k) (.tmp 21) (.tmp 25) ⟨g, 0, none⟩ k c1 (by rfl) (by rfl) (by rfl) (by rfl) HTL.out HC1.out (MZ.out.below (Below.refl _ _).drew) HF1.out HN1.out HS1.out HL1.out ?_; intro v6 w6 hm6 hg6 hat6; have hT6 := Lib.hid (AFT.out v6 w6 hm6 hg6 hat6); clear hm6 hg6 hat6) | (refine step_manyE fileE (w := w6) (es := fs.take k) (fs.drop (k + 1)) (.tmp 26) (.tmp 31) A (fs.length - (k + 1)) (c1 - (k + 1)) (by rfl) (by rfl) (by rfl) (by rfl) HDL.out hT6.out.2.2.2.2.2 hT6.out.2.2.1 hT6.out.2.2.2.1 hT6.out.2.2.2.2.1 (Nat.le_trans HLOW.out hT6.out.1.2) HL2.out ?_; intro v7 w7 hm7 hg7 hat7; obtain ⟨a7, c7, hv7, -⟩ := hm7.slice; obtain ⟨m, hm⟩ : ∃ m, m = (fs.take k ++ fs.drop (k + 1)).length := ⟨_, rfl⟩; rw [← hm] at hv7; subst hv7; clear hm; have hU7 := Lib.hid (AFU.out v6 _ w6 w7 hT6.out.1 hT6.out.2.1 hg7 hat7); have hM7 := Lib.hid hm7; have y0 := hU7.out.1.cell HXL.out D4.out.x.1; have yf := hU7.out.1.frozen (j := 0) HXL.out (D4.out.x.2.2 0); clear hm7 hg7 hat7))
      refine hK.out _ _ (by first | exact hU7.out.1 | exact hT6.out.1 | exact hHeld.alloc _) (fun hHeld2 => ?_)
      clear hK K hHeld
      have hHeld := hHeld2
      clear hHeld2
      try simp only [Act.put, List.setIfInBounds_toArray, List.set_cons_zero, List.set_cons_succ]
      first | (refine pi_take (v := ?pv1_12) rfl (fun _ _ _ h => h) (by rfl) (fun v hv => ?pr1_12) ?rest1_12; case pr1_12 => (have d0 := hv.cell HXL.out D4.out.x.1; go_simp; first | done | with_reducible rfl)) | (refine pi_pass rfl (fun _ _ _ h => h) (by rfl) ?_)
      try simp only [Act.put, List.setIfInBounds_toArray, List.set_cons_zero, List.set_cons_succ]
      refine pi_end ?_
      refine z_step rfl (fun K hK => ?_)
      go_simp
      refine hK.out _ _ ?_
      clear hK K
      try simp only [Act.put, List.setIfInBounds_toArray, List.set_cons_zero, List.set_cons_succ]
      refine z_end ?_
      clear hHeld
      obtain ⟨w8, hw8⟩ : ∃ u, u = w7.setCell ⟨xb, 0, none⟩ (.slice a7 m c7) := ⟨_, rfl⟩
      have hxn : xb ∉ blkOf (.slice a7 m c7) ++ gsOf (fs.take k ++ fs.drop (k + 1)) := fun hmm => by
        rcases List.mem_append.1 hmm with h1 | h1
        · have h2 := hU7.out.2 xb (blkOf_mem.1 h1)
          have h3 := HXL.out
          omega
        · obtain ⟨f, hf, hz⟩ := mem_gs.1 h1
          have hf' : f ∈ fs := (List.mem_append.1 hf).elim List.mem_of_mem_take List.mem_of_mem_drop
          exact HXN.out.1 (mem_gs.2 ⟨f, hf', hz⟩)
      have X8 : Hid (w8.heap[xb]? = some (.cells #[.slice a7 m c7, .int .i64 X.fNextName] 31 (0, 0))) := Lib.hid (by rw [hw8]; exact blk_put (hU7.out.1.heap HXL.out D4.out.box) rfl)
      have K8 : Hid (Kept W.heap.size W w8) := Lib.hid (by rw [hw8]; exact (D4.out.kept.trans (hU7.out.1.mono HLOW.out)).set D4.out.low _)
      have hdd := disk_blk (hM7.out.keep ((SameBlk.refl _ _).set (g := xb) (i := 0) (.slice a7 m c7) hxn)) HNX.out
      have hmap : (fs.take k ++ fs.drop (k + 1)).map BEl.x = X.fFiles.eraseIdx k := by rw [HFS.out, List.eraseIdx_eq_take_drop_succ, List.map_append, List.map_take, List.map_drop]
      rw [hmap] at hdd
      rw [← hw8] at hdd ⊢
      have DD := Lib.hid hdd
      have y1 := box_cell X8.out 1 _ rfl
      have y2 := box_cell X8.out 0 _ rfl
      obtain ⟨-, -, r0, r1, rf⟩ := FF.out _ K8.out
      clear hdd hmap hw8 y0 yf
      go_wp2_with fail
      refine bodyPost_ret (v := .tuple #[.agg #[.slice a7 m c7, .int .i64 X.fNextName], .bool true]) (by simp [results, Try.results27, go_sem, *]) rfl ?_
      rw [HYE.out]
      exact disk_done (Y := ⟨X.fFiles.eraseIdx k, X.fNextName⟩) (vs := [.bool true]) B0.out DD.out K8.out (by omega) (by have := HZ.out; omega) _ _
theorem sdelete (a : Option Addr) (n c : Nat) (X : DiskD) (name : Int) (w : World) (h : diskRep.inn w X ((a, n, c), ())) (hw : wtDisk X ≤ 1000000000) :
    Calls Try.prog 27 #[.agg #[.slice a n c, .int .i64 X.fNextName], .int .i64 name] w (DiskAnd ((DiskD.delete X name).getD X) [.bool (DiskD.delete X name).isSome] w) :=
  sdelete0 a n c X name w h hw _ _ fun r hr => by rw [hr]; exact ⟨rfl, rfl⟩
end Go.Proofs.Ythbifibnnhikjaa
/- The program's findFile, by contract. -/
namespace Go.Proofs.Ythbifibnnhikjaa
open Go.RowKit
set_option linter.unusedVariables false

/-- The answer of findFile: the address of the file that an operation reaches, and whether there is one. -/
def GivesFound (X : DiskD) (name : Int) (a : Option Addr) (w : World) (e : Ending) (w' : World) : Prop :=
  ((DiskD.file X name = none ∧ e = .returned (.tuple #[.pointer none, .bool false])) ∨ (∃ (k : Nat) (f : FileD) (b o : Nat), DiskD.file X name = some (k, f) ∧ X.fFiles[k]? = some f ∧ a = some ⟨b, o, none⟩ ∧ e = .returned (.tuple #[.pointer (some ⟨b, o + k * 4, none⟩), .bool true]))) ∧ Below w.heap.size w w'
set_option maxRecDepth 100000 in
set_option maxHeartbeats 1000000 in
theorem ifind (a : Option Addr) (n c : Nat) (X : DiskD) (name : Int) (w : World) (h : diskRep.inn w X ((a, n, c), ())) (hw : wtDisk X ≤ 1000000000) :
    Calls Try.prog 48 #[.agg #[.slice a n c, .int .i64 X.fNextName], .int .i64 name] w (GivesFound X name a w) := by
  obtain ⟨W, hW⟩ : ∃ W, W = w.alloc (.cells #[.slice a n c, .int .i64 X.fNextName] 31) := ⟨_, rfl⟩
  have hb : Below w.heap.size w W := by rw [hW]; exact (Below.refl _ _).alloc (Nat.le_refl _) _
  have k0 : W.heap[w.heap.size]? = some (.cells #[.slice a n c, .int .i64 X.fNextName] 31 (0, 0)) := by rw [hW]; exact heap_alloc_new _ _
  have HB := Lib.hid hb
  have HX := Lib.hid (h.keep hb)
  have HI := Lib.hid (disk_in (h.keep hb)).1
  have HL := Lib.hid (disk_len h).1
  have hnm := (disk_len h).2
  unfold maxLen at hnm
  have HW := Lib.hid hw
  have FF : Hid (∀ v, Kept W.heap.size W v → v.cell? ⟨w.heap.size, 0, none⟩ = some (.slice a n c) ∧ v.cell? ⟨w.heap.size, 1, none⟩ = some (.int .i64 X.fNextName)) := Lib.hid fun v hv =>
    ⟨hv.cell (lt_of_block k0) (box_cell k0 0 _ rfl), hv.cell (lt_of_block k0) (box_cell k0 1 _ rfl)⟩
  obtain ⟨p0, p1⟩ := FF.out W (Kept.refl (Nat.le_refl _))
  clear h hb k0 hw
  go_enter Try.func48, Try.ntmps48
  go_upto_region 1 with fail
  rw [← hW]
  clear hW
  go_wp2_with fail
  clear p0 p1
  refine (iokdisk a n c X W HX.out HW.out).mono ?_
  rintro e w1 ⟨rfl, b1⟩
  have K1 : Hid (Kept W.heap.size W w1) := Lib.hid ⟨b1, b1.size⟩
  obtain ⟨p0, p1⟩ := FF.out _ K1.out
  have KB1 := Lib.hid (HB.out.trans (b1.mono HB.out.size))
  clear b1
  cases hok : DiskD.okD X with
  | false =>
    have HN := Lib.hid (DiskD.file_bad (name := name) hok)
    clear hok
    go_wp2_with fail
    go_ret2
    exact ⟨.inl ⟨HN.out, rfl⟩, KB1.out⟩
  | true =>
    have HOK := Lib.hid hok
    clear hok
    go_wp2_with fail
    go_loopw [13] (fun i wr => ∃ (t : Nat), i = .int .i64 t ∧ t ≤ n ∧ Hid (∀ (s : Nat) (g : FileD), s < t → X.fFiles[s]? = some g → g.fName ≠ name) ∧ Hid (w1 = wr)) (fun i _ => n - (intOf i).toNat)
    case atStart => exact ⟨0, rfl, Nat.zero_le _, fun s g hs => absurd hs (Nat.not_lt_zero _), rfl⟩
    case round =>
      obtain ⟨t, rfl, ht, hno, hwr⟩ := hrel
      obtain rfl := hwr.out
      by_cases hlt : t < n
      · have htl : t < X.fFiles.length := by have := HL.out; omega
        obtain ⟨f, hf⟩ : ∃ f, X.fFiles[t]? = some f := ⟨X.fFiles[t], by simp [htl]⟩
        obtain ⟨b, o, hd, rfl, hbl, hce, hin⟩ := HI.out.el hf
        have HF := Lib.hid hf
        obtain ⟨x0, x1, x2, x3⟩ := f
        obtain ⟨⟨a1, n1, k1⟩, ⟨⟩⟩ := hd
        have c1 : w1.cell? ⟨b, o + t * 4, none⟩ = some (.int .i64 x0) := K1.out.cell hbl (hce 0 _ rfl)
        clear hf hce hin
        by_cases he : x0 = name
        · have HA := Lib.hid (DiskD.file_some HOK.out (DiskD.at_hit HF.out he hno.out) HF.out)
          go_wp2_with fail
          go_ret2
          exact ⟨.inr ⟨t, _, b, o, HA.out, HF.out, rfl, rfl⟩, KB1.out⟩
        · have hne : (x0 == name) = false := by simpa using he
          have HE := Lib.hid he
          clear he
          go_wp2_with fail
          go_roundw
          case rel =>
            refine ⟨t + 1, by go_num, by omega, fun s g hs hg => ?_, trivial⟩
            rcases Nat.lt_or_ge s t with h1 | h1
            · exact hno.out s g h1 hg
            · obtain rfl : s = t := by omega
              rw [HF.out] at hg
              cases hg
              exact HE.out
          case measure => simp [intOf]; omega
      · have HA := Lib.hid (DiskD.file_none (d := X) (name := name) (DiskD.at_miss fun s g hg => hno.out s g (by have := idx_lt hg; have := HL.out; omega) hg))
        go_wp2_with fail
        go_ret2
        exact ⟨.inl ⟨HA.out, rfl⟩, KB1.out⟩
end Go.Proofs.Ythbifibnnhikjaa
/- The program's test of a file's name (a closure) and slices.IndexFunc with it, by contract. -/
namespace Go.Proofs.Ythbifibnnhikjaa
open Go.RowKit
set_option linter.unusedVariables false

theorem inamed (x0 : Int) (a : Option Addr) (n c : Nat) (x2 : Int) (x3 : Bool) (nb : Nat) (name : Int) (w : World) (h : w.cell? ⟨nb, 0, none⟩ = some (.int .i64 name)) (hb : nb < w.heap.size) :
    Calls Try.prog 54 #[.agg #[.int .i64 x0, .slice a n c, .int .i64 x2, .bool x3], .pointer (some ⟨nb, 0, none⟩)] w fun e w' => e = .returned (.bool (x0 == name)) ∧ Below w.heap.size w w' := by
  have hne : nb ≠ w.heap.size := by omega
  have b0 : Below w.heap.size w (w.alloc (.cells #[.int .i64 x0, .slice a n c, .int .i64 x2, .bool x3] 59)) := (Below.refl _ _).alloc (Nat.le_refl _) _
  have B0 := Lib.hid b0
  have h1 : (w.alloc (.cells #[.int .i64 x0, .slice a n c, .int .i64 x2, .bool x3] 59)).cell? ⟨nb, 0, none⟩ = some (.int .i64 name) := Lib.cell?_alloc_some _ h
  clear b0 h
  go_enter Try.func54, Try.ntmps54
  go_wp2_with fail
  go_ret
  exact ⟨rfl, B0.out⟩
set_option maxRecDepth 100000 in
set_option maxHeartbeats 1000000 in
theorem iindexfn (a : Option Addr) (n c : Nat) (F : List FileD) (nb : Nat) (name : Int) (w : World) (hi : SeqIn fileRep w a n F) (hn : n ≤ 1000000000) (h : w.cell? ⟨nb, 0, none⟩ = some (.int .i64 name)) (hb : nb < w.heap.size) :
    Calls Try.prog 71 #[.slice a n c, .func (.func 54) #[] #[.pointer (some ⟨nb, 0, none⟩)]] w fun e w' => e = .returned (.int .i64 (DiskD.atI F name)) ∧ Below w.heap.size w w' := by
  have HI := Lib.hid hi
  have HC := Lib.hid h
  have HB := Lib.hid hb
  have HL := Lib.hid hi.1
  clear hi h hb
  go_enter Try.func71, Try.ntmps71
  go_wp2_with fail
  go_loopw [8] (fun i wr => ∃ (t : Nat), i = .int .i64 t ∧ t ≤ n ∧ Hid (∀ (s : Nat) (g : FileD), s < t → F[s]? = some g → g.fName ≠ name) ∧ Hid (Below w.heap.size w wr)) (fun i _ => n - (intOf i).toNat)
  case atStart => exact ⟨0, rfl, Nat.zero_le _, fun s g hs => absurd hs (Nat.not_lt_zero _), Below.refl _ _⟩
  case round =>
    obtain ⟨t, rfl, ht, hno, hwr⟩ := hrel
    by_cases hlt : t < n
    · have htl : t < F.length := by have := HL.out; omega
      obtain ⟨f, hf⟩ : ∃ f, F[t]? = some f := ⟨F[t], by simp [htl]⟩
      obtain ⟨b, o, hd, rfl, hbl, hce, hin⟩ := HI.out.el hf
      have HF := Lib.hid hf
      obtain ⟨x0, x1, x2, x3⟩ := f
      obtain ⟨⟨a1, n1, k1⟩, ⟨⟩⟩ := hd
      have d0 : wr.cell? ⟨b, o + t * 4, none⟩ = some (.int .i64 x0) := (hwr.out.cell hbl).trans (hce 0 _ rfl)
      have d1 : wr.cell? ⟨b, o + t * 4 + 1, none⟩ = some (.slice a1 n1 k1) := (hwr.out.cell hbl).trans (hce 1 _ rfl)
      have d2 : wr.cell? ⟨b, o + t * 4 + 2, none⟩ = some (.int .i64 x2) := (hwr.out.cell hbl).trans (hce 2 _ rfl)
      have d3 : wr.cell? ⟨b, o + t * 4 + 3, none⟩ = some (.bool x3) := (hwr.out.cell hbl).trans (hce 3 _ rfl)
      clear hf hce hin
      go_wp2_with fail
      clear d0 d1 d2 d3
      refine (inamed x0 a1 n1 k1 x2 x3 nb name wr ((hwr.out.cell HB.out).trans HC.out) (Nat.lt_of_lt_of_le HB.out hwr.out.size)).mono ?_
      rintro e w5 ⟨rfl, b5⟩
      have B5 := Lib.hid (hwr.out.trans (b5.mono hwr.out.size))
      clear b5
      by_cases he : x0 = name
      · have HA := Lib.hid (show DiskD.atI F name = t by unfold DiskD.atI; rw [DiskD.at_hit HF.out he hno.out])
        have he' : (x0 == name) = true := by simpa using he
        clear he
        go_wp2_with fail
        go_ret
        exact ⟨by rw [HA.out]; rfl, B5.out⟩
      · have hne : (x0 == name) = false := by simpa using he
        have HE := Lib.hid he
        clear he
        go_wp2_with fail
        go_roundw
        case rel =>
          refine ⟨t + 1, by go_num, by omega, fun s g hs hg => ?_, B5⟩
          rcases Nat.lt_or_ge s t with h1 | h1
          · exact hno.out s g h1 hg
          · obtain rfl : s = t := by omega
            rw [HF.out] at hg
            cases hg
            exact HE.out
        case measure => simp [intOf]; omega
    · have HA := Lib.hid (show DiskD.atI F name = -1 by
        unfold DiskD.atI
        rw [DiskD.at_miss fun s g hg => hno.out s g (by have := idx_lt hg; have := HL.out; omega) hg])
      go_wp2_with fail
      go_ret
      exact ⟨by rw [HA.out]; rfl, hwr.out⟩
end Go.Proofs.Ythbifibnnhikjaa
/- One element cut out of a row in place, as mathematics and as memory; no function of program or reference is walked here. -/
namespace Go.Proofs.Ythbifibnnhikjaa
open Go.RowKit
set_option linter.unusedVariables false

/-- The row while its elements behind k move down: those up to i stand where they shall. -/
def midRow {α : Type} (es : List α) (k i : Nat) : List α := es.take k ++ ((es.drop (k + 1)).take (i - k) ++ es.drop i)
theorem midRow_start {α : Type} (es : List α) (k : Nat) : midRow es k k = es := by simp [midRow]
theorem midRow_length {α : Type} {es : List α} {k i : Nat} (h1 : k ≤ i) (h2 : i < es.length) : (midRow es k i).length = es.length := by
  simp only [midRow, List.length_append, List.length_take, List.length_drop]; omega
theorem midRow_get {α : Type} {es : List α} {k i : Nat} (h1 : k ≤ i) (h2 : i < es.length) {s : Nat} (hs : i ≤ s) : (midRow es k i)[s]? = es[s]? := by
  unfold midRow
  rw [List.getElem?_append_right (by simp; omega), List.getElem?_append_right (by simp only [List.length_take, List.length_drop]; omega), List.getElem?_drop]
  congr 1
  simp only [List.length_take, List.length_drop]
  omega
theorem midRow_next {α : Type} {es : List α} {k i : Nat} {e : α} (h1 : k ≤ i) (h2 : es[i + 1]? = some e) : (midRow es k i).set i e = midRow es k (i + 1) := by
  have hl := idx_lt h2
  have e0 : es.drop i = es[i] :: es.drop (i + 1) := List.drop_eq_getElem_cons (by omega)
  have e1 : i + 1 - k = (i - k) + 1 := by omega
  have hd : i - k < (es.drop (k + 1)).length := by simp; omega
  have e2 : (es.drop (k + 1))[i - k]'hd = e := by
    have h3 : (es.drop (k + 1))[i - k]? = some e := by rw [List.getElem?_drop]; rw [show k + 1 + (i - k) = i + 1 by omega]; exact h2
    rw [List.getElem?_eq_getElem hd] at h3
    exact Option.some.inj h3
  unfold midRow
  rw [e1, List.take_succ_eq_append_getElem hd, e2, e0, List.set_append_right _ _ (by simp; omega), List.set_append_right _ _ (by simp only [List.length_take, List.length_drop]; omega)]
  have e3 : i - (es.take k).length - ((es.drop (k + 1)).take (i - k)).length = 0 := by simp only [List.length_take, List.length_drop]; omega
  rw [e3, List.set_cons_zero]
  simp
theorem midRow_end {α : Type} {es : List α} {k n : Nat} (h1 : k ≤ n) (hn : es.length = n + 1) : (midRow es k n).take n = es.eraseIdx k := by
  have e1 : ((es.drop (k + 1)).take (n - k)) = es.drop (k + 1) := List.take_of_length_le (by simp only [List.length_drop]; omega)
  have e2 : (es.take k ++ es.drop (k + 1)).length = n := by simp only [List.length_append, List.length_take, List.length_drop]; omega
  unfold midRow
  rw [e1, ← List.append_assoc, List.take_append_of_le_length (by omega), List.take_of_length_le (by omega), List.eraseIdx_eq_take_drop_succ]
/-- Four cells of a row are set. -/
theorem set4 {α : Type} (pre post : List α) (p : Nat) (hp : pre.length = p) (y0 y1 y2 y3 x0 x1 x2 x3 : α) :
    ((((pre ++ ([y0, y1, y2, y3] ++ post)).set p x0).set (p + 1) x1).set (p + 2) x2).set (p + 3) x3 = pre ++ ([x0, x1, x2, x3] ++ post) := by
  subst hp
  rw [List.set_append_right _ _ (Nat.le_refl _), Nat.sub_self, List.set_append_right _ _ (by omega), show pre.length + 1 - pre.length = 1 by omega, List.set_append_right _ _ (by omega), show pre.length + 2 - pre.length = 2 by omega, List.set_append_right _ _ (by omega), show pre.length + 3 - pre.length = 3 by omega]
  rfl
def fcells (e : BEl fileB) : List Value := [.int .i64 e.x.fName, .slice e.h.1.1 e.h.1.2.1 e.h.1.2.2, .int .i64 e.x.fChecksum, .bool e.x.fSealed]
theorem fcells_eq (e : BEl fileB) : fileB.rep.cells e.x e.h = fcells e := rfl
/-- One file of the row is laid over another. -/
theorem bcells_put {L : List (BEl fileB)} {i : Nat} {e : BEl fileB} (hi : i < L.length) :
    (((((bcells L).set (i * 4) (.int .i64 e.x.fName)).set (i * 4 + 1) (.slice e.h.1.1 e.h.1.2.1 e.h.1.2.2)).set (i * 4 + 2) (.int .i64 e.x.fChecksum)).set (i * 4 + 3) (.bool e.x.fSealed)) = bcells (L.set i e) := by
  obtain ⟨e0, h0⟩ : ∃ e0, L[i]? = some e0 := ⟨L[i], by simp [hi]⟩
  have h1 : bcells (L.set i e) = bcells (L.take i) ++ (fcells e ++ bcells (L.drop (i + 1))) := by
    rw [List.set_eq_take_append_cons_drop, if_pos hi, bcells_append]; simp [bcells, fcells_eq]
  rw [h1, bcells_split L i e0 h0, fcells_eq]
  exact set4 _ _ _ (bcells_take_len L i hi) _ _ _ _ _ _ _ _
/-- The row of files in the block g, whatever stands in it. -/
def FilesAt (w : World) (g c : Nat) (L : List (BEl fileB)) : Prop := ∃ cur, w.heap[g]? = some (.cells cur 59 (0, 0)) ∧ cur.size = c * 4 ∧ cur.toList.take (L.length * 4) = bcells L
theorem FilesAt.cell {w : World} {g c : Nat} {L : List (BEl fileB)} (h : FilesAt w g c L) {s : Nat} {e : BEl fileB} (hs : L[s]? = some e) (m : Nat) (u : Value) (hm : (fcells e)[m]? = some u) : w.cell? ⟨g, s * 4 + m, none⟩ = some u := by
  obtain ⟨cur, h1, h2, h3⟩ := h
  have h4 : (bcells L)[s * 4 + m]? = some u := bcells_get L s e hs m u hm
  rw [← h3, List.getElem?_take] at h4
  split at h4
  · exact box_cell h1 _ u (by simpa using h4)
  · cases h4
theorem FilesAt.frozen {w : World} {g c : Nat} {L : List (BEl fileB)} (h : FilesAt w g c L) (j : Nat) : w.frozen? ⟨g, j, none⟩ = false := by
  obtain ⟨cur, h1, h2, h3⟩ := h
  simp [World.frozen?, h1]
theorem FilesAt.keep {w w' : World} {g c : Nat} {L : List (BEl fileB)} (h : FilesAt w g c L) (hb : w'.heap[g]? = w.heap[g]?) : FilesAt w' g c L := by
  obtain ⟨cur, h1, h2⟩ := h
  exact ⟨cur, hb.trans h1, h2⟩
theorem FilesAt.put {w : World} {g c : Nat} {L : List (BEl fileB)} (h : FilesAt w g c L) {i : Nat} (hi : i < L.length) (e : BEl fileB) :
    FilesAt ((((w.setCell ⟨g, i * 4, none⟩ (.int .i64 e.x.fName)).setCell ⟨g, i * 4 + 1, none⟩ (.slice e.h.1.1 e.h.1.2.1 e.h.1.2.2)).setCell ⟨g, i * 4 + 2, none⟩ (.int .i64 e.x.fChecksum)).setCell ⟨g, i * 4 + 3, none⟩ (.bool e.x.fSealed)) g c (L.set i e) := by
  obtain ⟨cur, h1, h2, h3⟩ := h
  refine ⟨_, Joins.block_setCell (Joins.block_setCell (Joins.block_setCell (Joins.block_setCell h1 _) _) _) _, by simpa using h2, ?_⟩
  rw [List.length_set, ← bcells_put hi, ← h3]
  simp [List.take_set]
/-- What is left of the row, as a slice of the call's own. -/
theorem FilesAt.cut {w w' : World} {B g c n m k : Nat} {es L : List (BEl fileB)} (h : FilesAt w' g c L) (hbl : Blk 59 fileB w B (.slice (some ⟨g, 0, none⟩) n c) es) (hg : w.grownBy w' (some g)) (hL : L.take m = es.eraseIdx k) (hm : (es.eraseIdx k).length = m) (hml : m ≤ L.length) :
    Blk 59 fileB w' B (.slice (some ⟨g, 0, none⟩) m c) (es.eraseIdx k) := by
  have hnd := hbl.nodup
  have hgl := hbl.lt g (List.mem_append_left _ (by rw [blkOf_some]; exact List.mem_singleton.2 rfl))
  have hsub : (es.eraseIdx k).Sublist es := List.eraseIdx_sublist _ _
  refine ⟨⟨by rw [bcells_length], .inr ?_⟩, fun e he => ?_, ?_⟩
  · obtain ⟨cur, h1, h2, h3⟩ := h
    obtain ⟨hc1, hc2, hc3⟩ := hbl.caps
    have hle : (es.eraseIdx k).length ≤ es.length := hsub.length_le
    refine ⟨g, c, cur, by rw [hm], hgl.1, h1, by omega, hc3, h2, ?_⟩
    rw [hm, ← hL]
    have e1 : bcells L = bcells (L.take m) ++ bcells (L.drop m) := by rw [← bcells_append, List.take_append_drop]
    have e2 : (bcells (L.take m)).length = m * 4 := by rw [bcells_length, List.length_take, Nat.min_eq_left hml]; rfl
    have e3 : cur.toList.take (m * 4) = (cur.toList.take (L.length * 4)).take (m * 4) := by rw [List.take_take, Nat.min_eq_left (by omega)]
    show cur.toList.take (m * 4) = _
    rw [e3, h3, e1, List.take_append_of_le_length (by omega), List.take_of_length_le (by omega)]
  · have hmem := hsub.subset he
    refine fileB.blk_keep (hbl.all e hmem) ⟨hg.size, fun z hz => hg.block z (fileB.blk_lt (hbl.all e hmem) z hz).2 fun e1 => ?_⟩
    have hz2 := mem_gs.2 ⟨e, hmem, hz⟩
    rw [blkOf_some, List.singleton_append, List.nodup_cons] at hnd
    exact hnd.1 (by rw [show g = z from (Option.some.inj e1).symm]; exact hz2)
  · exact hnd.sublist (by
      rw [blkOf_some, blkOf_some]
      exact List.Sublist.append (List.Sublist.refl _) (gs_sub hsub))
end Go.Proofs.Ythbifibnnhikjaa
/- slices.DeleteFunc at files, with the program's test of a name, by contract: one file has the name. -/
namespace Go.Proofs.Ythbifibnnhikjaa
open Go.RowKit
set_option linter.unusedVariables false

/-- 'clear' of one file. -/
theorem run_clear_file (w : World) (ty : TypeId) (g o c : Nat) (u0 u1 u2 u3 : Value) (h0 : w.cell? ⟨g, o, none⟩ = some u0) (h1 : w.cell? ⟨g, o + 1, none⟩ = some u1) (h2 : w.cell? ⟨g, o + 2, none⟩ = some u2) (h3 : w.cell? ⟨g, o + 3, none⟩ = some u3) (hf : ∀ j, w.frozen? ⟨g, j, none⟩ = false) :
    (Builtin.clear_ #[29] ty #[.slice (some ⟨g, o, none⟩) 1 c]).run Try.prog w = .ok (.tuple #[]) ((((w.setCell ⟨g, o, none⟩ (.int .i64 0)).setCell ⟨g, o + 1, none⟩ (.slice none 0 0)).setCell ⟨g, o + 2, none⟩ (.int .i64 0)).setCell ⟨g, o + 3, none⟩ (.bool false)) := by
  have hz : ∀ w, (zeroValue 59).run Try.prog w = .ok (.agg #[.int .i64 0, .slice none 0 0, .int .i64 0, .bool false]) w := fun w => by kernel_rfl
  have hzc : (Builtin.zeroCells (Value.agg #[.int .i64 0, .slice none 0 0, .int .i64 0, .bool false]).cells 1).toList = [.int .i64 0, .slice none 0 0, .int .i64 0, .bool false] := by kernel_rfl
  have hst := run_storeCells_cells (P := Try.prog) g o [.int .i64 0, .slice none 0 0, .int .i64 0, .bool false] 0 w (fun j hj => by
    match j, hj with
    | 0, _ => simp [h0]
    | 1, _ => simp [h1]
    | 2, _ => simp [h2]
    | 3, _ => simp [h3]) (fun j hj => hf _) (fun v hv => by
    simp only [List.mem_cons, List.not_mem_nil, or_false] at hv
    rcases hv with rfl | rfl | rfl | rfl <;> rfl)
  simp only [Nat.add_zero] at hst
  simp [Builtin.clear_, run_underlying Try.underlying29, hz, hzc, hst]
  rfl
theorem grown_put {w w' : World} {g p : Nat} {u : Value} (h : w.grownBy w' (some g)) : w.grownBy (w'.setCell ⟨g, p, none⟩ u) (some g) :=
  ⟨h.os, h.tape, h.output, by simpa [World.setCell] using h.size, fun z hz hn => (Below.heap_setCell w' ⟨g, p, none⟩ u z (fun e => hn (by rw [show z = g from e]))).trans (h.block z hz hn)⟩
set_option maxRecDepth 100000 in
set_option maxHeartbeats 2000000 in
theorem ideletefn (g n m c : Nat) (es : List (BEl fileB)) (k : Nat) (f : BEl fileB) (B nb : Nat) (name : Int) (w : World) (hbl : Blk 59 fileB w B (.slice (some ⟨g, 0, none⟩) n c) es) (hk : es[k]? = some f) (hf : f.x.fName = name)
    (hu : ∀ (s : Nat) (e : BEl fileB), es[s]? = some e → s ≠ k → e.x.fName ≠ name) (hm : n = m + 1) (hn : n ≤ 1000000000) (hc : w.cell? ⟨nb, 0, none⟩ = some (.int .i64 name)) (hb : nb < w.heap.size) (hne : nb ≠ g) :
    Calls Try.prog 53 #[.slice (some ⟨g, 0, none⟩) n c, .func (.func 54) #[] #[.pointer (some ⟨nb, 0, none⟩)]] w fun e w' =>
      e = .returned (.slice (some ⟨g, 0, none⟩) m c) ∧ Blk 59 fileB w' B (.slice (some ⟨g, 0, none⟩) m c) (es.eraseIdx k) ∧ w.grownBy w' (some g) := by
  have hkl := idx_lt hk
  obtain ⟨hnl, hnc, hcm⟩ := hbl.caps
  unfold maxLen at hcm
  have HBL := Lib.hid hbl
  have HM := Lib.hid hm
  have HC := Lib.hid hc
  have HB := Lib.hid hb
  have HNE := Lib.hid hne
  have HNL := Lib.hid hnl
  have HK := Lib.hid hk
  have HU := Lib.hid hu
  have HGL : Hid (B ≤ g ∧ g < w.heap.size) := Lib.hid (hbl.lt g (List.mem_append_left _ (by rw [blkOf_some]; exact List.mem_singleton.2 rfl)))
  have HIN : Hid (SeqIn fileRep w (some ⟨g, 0, none⟩) n (es.map BEl.x)) := Lib.hid (by
    obtain ⟨F, hF, -⟩ := hbl.seq
    exact hF.inn)
  have HAT : Hid (DiskD.atI (es.map BEl.x) name = k) := Lib.hid (by
    unfold DiskD.atI
    rw [DiskD.at_hit (f := f.x) (by rw [List.getElem?_map, hk]; rfl) hf fun s e hs he => by
      rw [List.getElem?_map] at he
      obtain ⟨e', h1, h2⟩ := Option.map_eq_some_iff.1 he
      rw [← h2]
      exact hu s e' h1 (by omega)])
  have HROW : Hid (FilesAt w g c (midRow es k k)) := Lib.hid (by
    rw [midRow_start]
    obtain ⟨h1, ⟨h2, -⟩ | ⟨g', cap, cur, h2, h3, h4, h5, h6, h7, h8⟩⟩ := hbl.own
    · cases h2
    · injection h2 with e1 e2 e3
      injection e1 with e1
      injection e1 with e1
      subst e1 e3
      exact ⟨cur, h4, h7, h8⟩)
  have hkn : k < n := by omega
  clear hbl hk hu hc hb hne hnl hf hkl hm
  go_enter Try.func53, Try.ntmps53
  go_wp2_with fail
  refine (iindexfn (some ⟨g, 0, none⟩) n c (es.map BEl.x) nb name w HIN.out hn HC.out HB.out).mono ?_
  rintro e w1 ⟨rfl, b1⟩
  rw [HAT.out]
  have G1 : Hid (w.grownBy w1 (some g)) := Lib.hid ⟨b1.os, b1.tape, b1.output, b1.size, fun z hz _ => b1.block z hz⟩
  have R1 := Lib.hid (HROW.out.keep (b1.block _ HGL.out.2))
  have hkm : ((k : Int) == -1) = false := by rw [beq_eq_false_iff_ne]; omega
  clear b1
  go_wp2_with fail
  go_loopw [5, 6] (fun q j wr => ∃ (i : Nat), q = .int .i64 i ∧ j = .int .i64 ((i : Int) + 1) ∧ k ≤ i ∧ i < n ∧ Hid (w.grownBy wr (some g)) ∧ Hid (FilesAt wr g c (midRow es k i))) (fun q _ _ => n - (intOf q).toNat)
  case atStart => exact ⟨k, rfl, rfl, Nat.le_refl _, hkn, G1, R1⟩
  case round =>
    obtain ⟨i, rfl, rfl, hi1, hi2, hg, hr⟩ := hrel
    have hnl := HNL.out
    have t1 : ((i : Int) + 1).toNat = i + 1 := by omega
    have t2 : (0 : Int) ≤ (i : Int) + 1 := by omega
    by_cases hlt : i + 1 < n
    · obtain ⟨e, he⟩ : ∃ e, es[i + 1]? = some e := ⟨es[i + 1]'(by omega), by simp⟩
      obtain ⟨e', he'⟩ : ∃ e', es[i]? = some e' := ⟨es[i]'(by omega), by simp⟩
      have HE := Lib.hid he
      have HE' := Lib.hid he'
      have hm1 := (midRow_get (es := es) hi1 (by omega) (Nat.le_succ i)).trans he
      have hm0 := (midRow_get (es := es) hi1 (by omega) (Nat.le_refl i)).trans he'
      have HM0 := Lib.hid hm0
      have hnm := HU.out _ _ he (by omega)
      have hnm' : (e.x.fName == name) = false := by simpa using hnm
      have d0 : wr.cell? ⟨g, (i + 1) * 4, none⟩ = some (.int .i64 e.x.fName) := hr.out.cell hm1 0 _ rfl
      have d1 : wr.cell? ⟨g, (i + 1) * 4 + 1, none⟩ = some (.slice e.h.1.1 e.h.1.2.1 e.h.1.2.2) := hr.out.cell hm1 1 _ rfl
      have d2 : wr.cell? ⟨g, (i + 1) * 4 + 2, none⟩ = some (.int .i64 e.x.fChecksum) := hr.out.cell hm1 2 _ rfl
      have d3 : wr.cell? ⟨g, (i + 1) * 4 + 3, none⟩ = some (.bool e.x.fSealed) := hr.out.cell hm1 3 _ rfl
      have lt1 : (i : Int) + 1 < (n : Int) := by omega
      have lt0 : (i : Int) < (n : Int) := by omega
      obtain ⟨w2, hw2⟩ : ∃ u, u = wr.alloc (.cells #[.int .i64 e.x.fName, .slice e.h.1.1 e.h.1.2.1 e.h.1.2.2, .int .i64 e.x.fChecksum, .bool e.x.fSealed] 59) := ⟨_, rfl⟩
      obtain ⟨vb, hvb⟩ : ∃ v, v = wr.heap.size := ⟨_, rfl⟩
      have b2 : Below wr.heap.size wr w2 := by rw [hw2]; exact (Below.refl _ _).alloc (Nat.le_refl _) _
      have hx2 : w2.heap[vb]? = some (.cells #[.int .i64 e.x.fName, .slice e.h.1.1 e.h.1.2.1 e.h.1.2.2, .int .i64 e.x.fChecksum, .bool e.x.fSealed] 59 (0, 0)) := by rw [hw2, hvb]; exact heap_alloc_new _ _
      have X2 := Lib.hid hx2
      have B2 := Lib.hid b2
      have HSZ : Hid (w.heap.size ≤ wr.heap.size ∧ vb = wr.heap.size) := Lib.hid ⟨hg.out.size, hvb⟩
      clear b2 hx2 he he' hm1 hm0 hnm
      go_upto_region 8 with fail
      rw [← hvb, ← hw2]
      clear hvb hw2 d0 d1 d2 d3
      have u0 := box_cell X2.out 0 _ rfl
      have u1 := box_cell X2.out 1 _ rfl
      have u2 := box_cell X2.out 2 _ rfl
      have u3 := box_cell X2.out 3 _ rfl
      go_wp2_with fail
      clear u0 u1 u2 u3
      have C2 : w2.cell? ⟨nb, 0, none⟩ = some (.int .i64 name) := (B2.out.cell (p := ⟨nb, 0, none⟩) (Nat.lt_of_lt_of_le HB.out HSZ.out.1)).trans ((World.cell?_of_block (hg.out.block nb HB.out (fun e => HNE.out (Option.some.inj e)))).trans HC.out)
      refine (inamed e.x.fName e.h.1.1 e.h.1.2.1 e.h.1.2.2 e.x.fChecksum e.x.fSealed nb name w2 C2 (Nat.lt_of_lt_of_le HB.out (Nat.le_trans HSZ.out.1 B2.out.size))).mono ?_
      rintro e3 w3 ⟨rfl, b3⟩
      have B3 := Lib.hid (B2.out.trans (b3.mono B2.out.size))
      have X3 := Lib.hid ((b3.block _ (lt_of_block X2.out)).trans X2.out)
      have G3 : Hid (w.grownBy w3 (some g)) := Lib.hid ⟨B3.out.os.trans hg.out.os, B3.out.tape.trans hg.out.tape, B3.out.output.trans hg.out.output, Nat.le_trans HSZ.out.1 B3.out.size, fun z hz hn => (B3.out.block z (Nat.lt_of_lt_of_le hz HSZ.out.1)).trans (hg.out.block z hz hn)⟩
      have R3 := Lib.hid (hr.out.keep (B3.out.block g (Nat.lt_of_lt_of_le HGL.out.2 HSZ.out.1)))
      have u0 := box_cell X3.out 0 _ rfl
      have u1 := box_cell X3.out 1 _ rfl
      have u2 := box_cell X3.out 2 _ rfl
      have u3 := box_cell X3.out 3 _ rfl
      have v0 : w3.cell? ⟨g, i * 4, none⟩ = some (.int .i64 e'.x.fName) := R3.out.cell HM0.out 0 _ rfl
      have v1 : w3.cell? ⟨g, i * 4 + 1, none⟩ = some (.slice e'.h.1.1 e'.h.1.2.1 e'.h.1.2.2) := R3.out.cell HM0.out 1 _ rfl
      have v2 : w3.cell? ⟨g, i * 4 + 2, none⟩ = some (.int .i64 e'.x.fChecksum) := R3.out.cell HM0.out 2 _ rfl
      have v3 : w3.cell? ⟨g, i * 4 + 3, none⟩ = some (.bool e'.x.fSealed) := R3.out.cell HM0.out 3 _ rfl
      have vf := R3.out.frozen
      clear b3 C2
      have R5 := Lib.hid (R3.out.put (i := i) (by rw [midRow_length hi1 (by omega)]; omega) e)
      rw [midRow_next hi1 HE.out] at R5
      have G5 : Hid (w.grownBy ((((w3.setCell ⟨g, i * 4, none⟩ (.int .i64 e.x.fName)).setCell ⟨g, i * 4 + 1, none⟩ (.slice e.h.1.1 e.h.1.2.1 e.h.1.2.2)).setCell ⟨g, i * 4 + 2, none⟩ (.int .i64 e.x.fChecksum)).setCell ⟨g, i * 4 + 3, none⟩ (.bool e.x.fSealed)) (some g)) := Lib.hid (grown_put (grown_put (grown_put (grown_put G3.out))))
      clear hnl
      go_wp2_with fail
      go_roundw
      case rel => exact ⟨i + 1, by go_num, by go_num, by omega, by omega, G5, R5⟩
      case measure => simp [intOf]; omega
    · have hin : i + 1 = n := by omega
      have HIN1 := Lib.hid hin
      obtain ⟨e', he'⟩ : ∃ e', es[i]? = some e' := ⟨es[i]'(by omega), by simp⟩
      have hm0 := (midRow_get (es := es) hi1 (by omega) (Nat.le_refl i)).trans he'
      have v0 : wr.cell? ⟨g, i * 4, none⟩ = some (.int .i64 e'.x.fName) := hr.out.cell hm0 0 _ rfl
      have v1 : wr.cell? ⟨g, i * 4 + 1, none⟩ = some (.slice e'.h.1.1 e'.h.1.2.1 e'.h.1.2.2) := hr.out.cell hm0 1 _ rfl
      have v2 : wr.cell? ⟨g, i * 4 + 2, none⟩ = some (.int .i64 e'.x.fChecksum) := hr.out.cell hm0 2 _ rfl
      have v3 : wr.cell? ⟨g, i * 4 + 3, none⟩ = some (.bool e'.x.fSealed) := hr.out.cell hm0 3 _ rfl
      have hcl : ∀ ty c', (Builtin.clear_ #[29] ty #[.slice (some ⟨g, i * 4, none⟩) 1 c']).run Try.prog wr = _ := fun ty c' => run_clear_file wr ty g (i * 4) c' _ _ _ _ v0 v1 v2 v3 hr.out.frozen
      have lt1 : decide ((i : Int) + 1 < (n : Int)) = false := decide_eq_false (by omega)
      have lt0 : (i : Int) < (n : Int) := by omega
      have hic : (i : Int) ≤ (c : Int) := by omega
      have hci : c ≠ i := by omega
      have hni : n - i = 1 := by omega
      obtain rfl : i = m := by have := HM.out; omega
      clear hnl hin hm0 he'
      go_wp2_with (simp only [hcl])
      go_ret
      have hml := midRow_length hi1 (show i < es.length by have := HNL.out; omega)
      have hnl := HNL.out
      have hkl := idx_lt HK.out
      have hlen : (es.eraseIdx k).length = i := by rw [List.length_eraseIdx_of_lt hkl]; omega
      have HG := grown_put (u := .bool false) (p := i * 4 + 3) (grown_put (u := .int .i64 0) (p := i * 4 + 2) (grown_put (u := .slice none 0 0) (p := i * 4 + 1) (grown_put (u := .int .i64 0) (p := i * 4) hg.out)))
      refine ⟨rfl, ?_, HG⟩
      refine FilesAt.cut (hr.out.put (i := i) (by omega) ⟨⟨0, [], 0, false⟩, ((none, 0, 0), ()), []⟩) HBL.out HG ?_ hlen (by rw [List.length_set]; omega)
      rw [List.take_set_of_le (Nat.le_refl _)]
      exact midRow_end hi1 (by omega)
end Go.Proofs.Ythbifibnnhikjaa
/- The program's DeleteFile, by contract. -/
namespace Go.Proofs.Ythbifibnnhikjaa
open Go.RowKit
set_option linter.unusedVariables false

set_option maxRecDepth 100000 in
set_option maxHeartbeats 4000000 in
theorem idelete0 (a : Option Addr) (n c : Nat) (X : DiskD) (name : Int) (w : World) (h : diskRep.inn w X ((a, n, c), ())) (hw : wtDisk X ≤ 1000000000) (Y : DiskD) (b : Bool)
    (HR : Hid (∀ r, DiskD.delete X name = r → Y = r.getD X ∧ b = r.isSome)) :
    Calls Try.prog 28 #[.agg #[.slice a n c, .int .i64 X.fNextName], .int .i64 name] w (DiskAnd Y [.bool b] w) := by
  obtain ⟨W, hW⟩ : ∃ W, W = ((w.alloc (.cells #[.slice a n c, .int .i64 X.fNextName] 31)).alloc (.cells #[.int .i64 name] 3)).alloc (.cells #[.slice none 0 0, .int .i64 0] 31) := ⟨_, rfl⟩
  obtain ⟨hz, b0, k0, k1, k2⟩ := boxes3 w W hW
  have HZ := Lib.hid hz
  have B0 := Lib.hid b0
  have HI := Lib.hid (h.keep b0)
  have HW := Lib.hid hw
  have HNX := Lib.hid (disk_in h).2.2
  have HL := Lib.hid (disk_len h).1
  have hnm := (disk_len h).2
  unfold maxLen at hnm
  have FF : Hid (∀ v, Kept W.heap.size W v → v.cell? ⟨w.heap.size, 0, none⟩ = some (.slice a n c) ∧ v.cell? ⟨w.heap.size, 1, none⟩ = some (.int .i64 X.fNextName) ∧ v.cell? ⟨w.heap.size + 1, 0, none⟩ = some (.int .i64 name) ∧
      v.cell? ⟨w.heap.size + 2, 0, none⟩ = some (.slice none 0 0) ∧ v.cell? ⟨w.heap.size + 2, 1, none⟩ = some (.int .i64 0) ∧ ∀ j, v.frozen? ⟨w.heap.size + 2, j, none⟩ = false) := Lib.hid fun v hv =>
    ⟨hv.cell (by omega) (box_cell k0 0 _ rfl), hv.cell (by omega) (box_cell k0 1 _ rfl), hv.cell (by omega) (box_cell k1 0 _ rfl), hv.cell (by omega) (box_cell k2 0 _ rfl), hv.cell (by omega) (box_cell k2 1 _ rfl), fun j => hv.frozen (by omega) (by simp [World.frozen?, k2])⟩
  clear h b0 k0 k1 k2 hz hw
  go_enter Try.func28, Try.ntmps28
  go_wp2_with fail
  rw [← hW]
  clear hW
  refine (iclonedisk a n c X W HI.out HW.out).mono ?_
  rintro e w1 ⟨a1, n1, c1, G1, rfl, hd1, b1⟩
  obtain ⟨fs, rfl, hfs, hst⟩ := dop_start hd1 b1
  have HFS := Lib.hid hfs
  obtain ⟨xb, hxb⟩ : ∃ g, g = w1.heap.size := ⟨_, rfl⟩
  obtain ⟨w2, hw2⟩ : ∃ u, u = w1.alloc (.cells #[.slice a1 fs.length c1, .int .i64 X.fNextName] 31) := ⟨_, rfl⟩
  have D2 := Lib.hid (hst xb w2 hxb hw2)
  obtain ⟨p0, p1, p2, -⟩ := FF.out _ D2.out.kept
  clear hd1 b1 hst hfs
  go_upto_region 2 with fail
  rw [← hxb, ← hw2]
  clear hw2 hxb
  go_wp2_with fail
  clear p0 p1 p2
  refine (ifind a n c X name w2 (HI.out.keep D2.out.kept.1) HW.out).mono ?_
  rintro e w3 ⟨hres, b3⟩
  have D3 := Lib.hid (D2.out.below b3)
  obtain ⟨p0, p1, p2, r0, r1, rf⟩ := FF.out _ D3.out.kept
  obtain ⟨x0, x1, xf⟩ := D3.out.x
  clear b3
  rcases hres with ⟨hfile, rfl⟩ | ⟨k, f, gb, og, hfile, hf, rfl, rfl⟩
  · have hno := DiskD.delete_none hfile
    have hY : X = Y := (HR.out _ hno).1.symm
    have hb : b = false := (HR.out _ hno).2
    subst hb
    subst hY
    clear hno hfile
    go_wp2_with fail
    refine bodyPost_ret (v := .tuple #[.agg #[.slice a1 fs.length c1, .int .i64 X.fNextName], .bool false]) (by simp [results, Try.results28, go_sem, *]) rfl ?_
    exact disk_done (vs := [.bool false]) B0.out (D3.out.disk HFS.out HNX.out) D3.out.kept (by omega) (by have := HZ.out; omega) _ _
  · have hyes := DiskD.delete_eq hfile
    have HYE := Lib.hid (HR.out _ hyes).1
    have hb : b = true := (HR.out _ hyes).2
    subst hb
    have HF := Lib.hid hf
    have HUQ := Lib.hid (DiskD.file_one hfile)
    have hkf : k < fs.length := by have := idx_lt HF.out; rw [HFS.out, List.length_map] at this; exact this
    obtain ⟨g, c1', ea, hgB, hgl, -, -⟩ := D3.out.blk.addr (by omega)
    injection ea with ea1 ea2 ea3
    subst ea1 ea3
    obtain ⟨e, he⟩ : ∃ e, fs[k]? = some e := ⟨fs[k], by simp [hkf]⟩
    have hex : e.x = f := by
      have h1 := HF.out
      rw [HFS.out, List.getElem?_map, he] at h1
      exact Option.some.inj h1
    have HE := Lib.hid he
    have HEX := Lib.hid hex
    have hps1 : fs.length ≤ 1000000000 := by
      have h2 := wt_file_len X.fFiles
      have h3 : wtDisk X = wtFiles X.fFiles := rfl
      have h4 := HW.out
      have h5 : X.fFiles.length = fs.length := by rw [HFS.out, List.length_map]
      omega
    obtain ⟨m, hm⟩ : ∃ m, fs.length = m + 1 := ⟨fs.length - 1, by omega⟩
    have HM := Lib.hid hm
    have HFL := Lib.hid hps1
    have CALL := Lib.hid (ideletefn g fs.length m c1 fs k e W.heap.size (w.heap.size + 1) name w3 D3.out.blk HE.out (by rw [HEX.out]; exact HUQ.out.1)
      (fun s e' hs hne => by
        have h1 : X.fFiles[s]? = some e'.x := by rw [HFS.out, List.getElem?_map, hs]; rfl
        exact HUQ.out.2 s e'.x h1 hne) HM.out HFL.out p2 (by have := D3.out.kept.2; have := HZ.out; omega) (by have := HZ.out; omega))
    clear ea2 hf hfile hyes he hex hm hps1
    go_wp2_with fail
    clear p0 p1 p2 r0 r1 rf x0 x1 xf
    refine CALL.out.mono ?_
    rintro e4 w4 ⟨rfl, hbl4, hg4⟩
    have hxg : xb ≠ g := fun e => D3.out.out (List.mem_append_left _ (by rw [blkOf_some, e]; exact List.mem_singleton.2 rfl))
    have hx4 := (hg4.block xb (lt_of_block D3.out.box) (fun e => hxg (Option.some.inj e))).trans D3.out.box
    have K4 := Lib.hid (D3.out.kept.grown hg4 fun z hz => by rw [← Option.some.inj hz]; exact hgB)
    have M4 := Lib.hid hbl4
    have X4 := Lib.hid hx4
    have NE4 : Hid (xb ∉ blkOf (.slice (some ⟨g, 0, none⟩) m c1) ++ gsOf (fs.eraseIdx k)) := Lib.hid fun hm => by
      rcases List.mem_append.1 hm with h1 | h1
      · exact hxg (by rw [blkOf_some] at h1; exact List.mem_singleton.1 h1)
      · exact D3.out.out (List.mem_append_right _ ((gs_sub (List.eraseIdx_sublist _ _)).subset h1))
    have y0 := box_cell X4.out 0 _ rfl
    have yf : ∀ j, w4.frozen? ⟨xb, j, none⟩ = false := fun j => by simp [World.frozen?, X4.out]
    clear hbl4 hg4 hx4
    go_upto_region 6 with fail
    obtain ⟨w6, hw6⟩ : ∃ u, u = w4.setCell ⟨xb, 0, none⟩ (.slice (some ⟨g, 0, none⟩) m c1) := ⟨_, rfl⟩
    have X6 : Hid (w6.heap[xb]? = some (.cells #[.slice (some ⟨g, 0, none⟩) m c1, .int .i64 X.fNextName] 31 (0, 0))) := Lib.hid (by rw [hw6]; exact blk_put X4.out rfl)
    have M6 := Lib.hid (M4.out.keep ((SameBlk.refl _ _).set (g := xb) (i := 0) (.slice (some ⟨g, 0, none⟩) m c1) NE4.out))
    have K6 : Hid (Kept W.heap.size W w6) := Lib.hid (by rw [hw6]; exact K4.out.set D3.out.low _)
    rw [← hw6] at M6 ⊢
    clear hw6 y0 yf
    obtain ⟨-, -, -, r0, r1, rf⟩ := FF.out _ K6.out
    have x0 := box_cell X6.out 0 _ rfl
    have x1 := box_cell X6.out 1 _ rfl
    have DD : Hid (diskB.blk w6 W.heap.size ⟨X.fFiles.eraseIdx k, X.fNextName⟩ ((some ⟨g, 0, none⟩, m, c1), ()) (blkOf (.slice (some ⟨g, 0, none⟩) m c1) ++ gsOf (fs.eraseIdx k))) := Lib.hid (by
      have h1 := disk_blk (nx := X.fNextName) M6.out HNX.out
      rw [show (fs.eraseIdx k).map BEl.x = X.fFiles.eraseIdx k by rw [HFS.out, List.eraseIdx_eq_take_drop_succ, List.eraseIdx_eq_take_drop_succ, List.map_append, List.map_take, List.map_drop]] at h1
      exact h1)
    go_wp2_with fail
    refine bodyPost_ret (v := .tuple #[.agg #[.slice (some ⟨g, 0, none⟩) m c1, .int .i64 X.fNextName], .bool true]) (by simp [results, Try.results28, go_sem, *]) rfl ?_
    rw [HYE.out]
    exact disk_done (Y := ⟨X.fFiles.eraseIdx k, X.fNextName⟩) (vs := [.bool true]) (r := w.heap.size + 2) B0.out DD.out K6.out (by omega) (by have := HZ.out; omega) _ _
theorem idelete (a : Option Addr) (n c : Nat) (X : DiskD) (name : Int) (w : World) (h : diskRep.inn w X ((a, n, c), ())) (hw : wtDisk X ≤ 1000000000) :
    Calls Try.prog 28 #[.agg #[.slice a n c, .int .i64 X.fNextName], .int .i64 name] w (DiskAnd ((DiskD.delete X name).getD X) [.bool (DiskD.delete X name).isSome] w) :=
  idelete0 a n c X name w h hw _ _ fun r hr => by rw [hr]; exact ⟨rfl, rfl⟩
end Go.Proofs.Ythbifibnnhikjaa
/- The laws' comparison of two slices of rows by '!=' on the structs (sameRows), by contract: where both read as the same rows. -/
namespace Go.Proofs.Ythbifibnnhikjaa
open Go.RowKit

theorem row_neq (a b : R) (w : World) : (binOp .neq 89 (.agg #[.int .i64 a.key, .int .i64 a.value, .int .i64 a.width]) (.agg #[.int .i64 b.key, .int .i64 b.value, .int .i64 b.width])).run Try.prog w = .ok (.bool (!decide (a = b))) w := by
  have h1 : (Op.equalIn 10000 89 (.agg #[.int .i64 a.key, .int .i64 a.value, .int .i64 a.width]) (.agg #[.int .i64 b.key, .int .i64 b.value, .int .i64 b.width])).run Try.prog w = .ok (decide (a = b)) w := by
    rw [run_equalIn_agg w 9999 89 _ _ (by kernel_rfl) (by kernel_rfl)]
    obtain ⟨k, v, d⟩ := a
    obtain ⟨k', v', d'⟩ := b
    have e : decide (R.mk k v d = R.mk k' v' d') = decide (k = k' ∧ v = v' ∧ d = d') := by simp
    rw [e]
    by_cases hk : k = k' <;> by_cases hv : v = v' <;> by_cases hd : d = d' <;> simp [go_sem, Try.underlying89, Try.underlying3, hk, hv, hd]
  rw [run_neq_struct, h1]
  rfl
end Go.Proofs.Ythbifibnnhikjaa
/- The reference's comparison of two slices of rows (l6Rows), by contract. -/
namespace Go.Proofs.Ythbifibnnhikjaa
open Go.RowKit
set_option linter.unusedVariables false

set_option maxRecDepth 100000 in
theorem seqrows (a a' : Option Addr) (len cap len' cap' : Nat) (L M : List R) (w : World) (h : IsRows w a len L) (h' : IsRows w a' len' M) (hlen : len ≤ 9223372036854775807) (hlen' : len' ≤ 9223372036854775807) :
    Calls Try.prog 55 #[.slice a len cap, .slice a' len' cap'] w fun e w' => e = .returned (.bool (decide (L = M))) ∧ Below w.heap.size w w' := by
  have HL := Lib.hid h.1
  have HM := Lib.hid h'.1
  have HI := Lib.hid h
  have HI' := Lib.hid h'
  clear h h'
  by_cases hne : len = len'
  · subst hne
    go_enter Try.func55, Try.ntmps55
    go_wp2_with fail
    go_loopw [5] (fun i wr => ∃ k : Nat, i = .int .i64 k ∧ k ≤ len ∧ Hid (∀ s, s < k → L.getD s R.zero = M.getD s R.zero) ∧ Hid (Below w.heap.size w wr)) (fun i _ => len - (intOf i).toNat)
    case atStart => exact ⟨0, rfl, Nat.zero_le _, fun s hs => absurd hs (Nat.not_lt_zero _), Below.refl _ _⟩
    case round =>
      obtain ⟨k, rfl, hk, hsm, hb⟩ := hrel
      by_cases hlt : k < len
      · obtain ⟨b, o, rfl, hbl, hat⟩ := HI.out.at hlt
        obtain ⟨b', o', rfl, hbl', hat'⟩ := HI'.out.at hlt
        obtain ⟨r, hr⟩ : ∃ r, r = L.getD k R.zero := ⟨_, rfl⟩
        obtain ⟨r', hr'⟩ : ∃ r, r = M.getD k R.zero := ⟨_, rfl⟩
        rw [← hr] at hat
        rw [← hr'] at hat'
        obtain ⟨c0, c1, c2⟩ := hat.below hb.out hbl
        obtain ⟨d0, d1, d2⟩ := hat'.below hb.out hbl'
        have HR := Lib.hid hr
        have HR' := Lib.hid hr'
        clear hr hr' hat hat'
        have hq : ∀ v, (binOp .neq 89 (.agg #[.int .i64 r.key, .int .i64 r.value, .int .i64 r.width]) (.agg #[.int .i64 r'.key, .int .i64 r'.value, .int .i64 r'.width])).run Try.prog v = .ok (.bool (!decide (r = r'))) v := fun v => row_neq r r' v
        by_cases he : r = r'
        · have hd : decide (r = r') = true := decide_eq_true he
          have HE := Lib.hid he
          clear he
          go_wp2_with fail
          go_still_tail 8, (by kernel_rfl)
          go_wp2_with fail
          go_roundw
          case rel =>
            refine ⟨k + 1, by go_num, by omega, fun s hs => ?_, hb.out.drew⟩
            rcases Nat.lt_or_ge s k with h1 | h1
            · exact hsm.out s h1
            · obtain rfl : s = k := by omega
              rw [← HR.out, ← HR'.out]; exact HE.out
          case measure => simp [intOf]; omega
        · have hd : decide (r = r') = false := decide_eq_false he
          have HN := Lib.hid (show decide (L = M) = false from decide_eq_false fun e => he (by rw [HR.out, HR'.out, e]))
          clear he
          go_wp2_with fail
          go_still_tail 8, (by kernel_rfl)
          go_wp2_with fail
          go_ret
          exact ⟨by rw [HN.out]; rfl, hb.out.drew⟩
      · have HN := Lib.hid (show decide (L = M) = true from decide_eq_true (getD_ext (by rw [HL.out, HM.out]) fun s hs => hsm.out s (by rw [HL.out] at hs; omega)))
        go_wp2_with fail
        go_ret
        exact ⟨by rw [HN.out]; rfl, hb.out⟩
  · have HN := Lib.hid (show decide (L = M) = false from decide_eq_false fun e => hne (by rw [← HL.out, ← HM.out, e]))
    have hne2 : ¬ (len : Int) = (len' : Int) := by omega
    go_enter Try.func55, Try.ntmps55
    go_wp2_with fail
    go_ret
    exact ⟨by rw [HN.out]; rfl, Below.refl _ _⟩
end Go.Proofs.Ythbifibnnhikjaa
/- The reference's EqualDisks, by contract. -/
namespace Go.Proofs.Ythbifibnnhikjaa
open Go.RowKit
set_option linter.unusedVariables false

theorem disk_ne {X Y : DiskD} {t : Nat} {f f' : FileD} (h : X.fFiles[t]? = some f) (h' : Y.fFiles[t]? = some f') (hne : f ≠ f') : decide (X = Y) = false := decide_eq_false fun e => by
  subst e
  rw [h] at h'
  exact hne (Option.some.inj h')
set_option maxRecDepth 100000 in
set_option maxHeartbeats 2000000 in
theorem sequal (a : Option Addr) (n c : Nat) (X : DiskD) (a' : Option Addr) (n' c' : Nat) (Y : DiskD) (w : World) (h : diskRep.inn w X ((a, n, c), ())) (h' : diskRep.inn w Y ((a', n', c'), ())) :
    Calls Try.prog 31 #[.agg #[.slice a n c, .int .i64 X.fNextName], .agg #[.slice a' n' c', .int .i64 Y.fNextName]] w fun e w' => e = .returned (.bool (decide (X = Y))) ∧ Below w.heap.size w w' := by
  obtain ⟨W, hW⟩ : ∃ W, W = (w.alloc (.cells #[.slice a n c, .int .i64 X.fNextName] 31)).alloc (.cells #[.slice a' n' c', .int .i64 Y.fNextName] 31) := ⟨_, rfl⟩
  obtain ⟨b0, k0, k1⟩ := boxes2 w W hW
  have hz : W.heap.size = w.heap.size + 2 := by rw [hW]; simp
  have HZ := Lib.hid hz
  have B0 := Lib.hid b0
  have HI := Lib.hid (disk_in (h.keep b0)).1
  have HI' := Lib.hid (disk_in (h'.keep b0)).1
  have HL := Lib.hid (disk_len h).1
  have HL' := Lib.hid (disk_len h').1
  have hnm := (disk_len h).2
  have hnm' := (disk_len h').2
  unfold maxLen at hnm hnm'
  have FF : Hid (∀ v, Kept W.heap.size W v → v.cell? ⟨w.heap.size, 0, none⟩ = some (.slice a n c) ∧ v.cell? ⟨w.heap.size, 1, none⟩ = some (.int .i64 X.fNextName) ∧ v.cell? ⟨w.heap.size + 1, 0, none⟩ = some (.slice a' n' c') ∧ v.cell? ⟨w.heap.size + 1, 1, none⟩ = some (.int .i64 Y.fNextName)) := Lib.hid fun v hv =>
    ⟨hv.cell (by omega) (box_cell k0 0 _ rfl), hv.cell (by omega) (box_cell k0 1 _ rfl), hv.cell (by omega) (box_cell k1 0 _ rfl), hv.cell (by omega) (box_cell k1 1 _ rfl)⟩
  obtain ⟨p0, p1, q0, q1⟩ := FF.out W (Kept.refl (Nat.le_refl _))
  obtain ⟨nx, hnx⟩ : ∃ nx, nx = X.fNextName := ⟨_, rfl⟩
  obtain ⟨ny, hny⟩ : ∃ ny, ny = Y.fNextName := ⟨_, rfl⟩
  rw [← hnx] at p1 FF hW ⊢
  rw [← hny] at q1 FF hW ⊢
  have HX := Lib.hid hnx
  have HY := Lib.hid hny
  clear h h' b0 k0 k1 hz hnx hny
  go_enter Try.func31, Try.ntmps31
  go_upto_region 1 with fail
  rw [← hW]
  clear hW
  by_cases hne : nx = ny
  case' neg =>
    have HN := Lib.hid (show decide (X = Y) = false from decide_eq_false fun e => hne (by rw [HX.out, HY.out, e]))
    have hne2 : (nx != ny) = true := by simpa using hne
    go_wp2_with fail
    go_ret
    exact ⟨by rw [HN.out]; rfl, B0.out⟩
  subst hne
  by_cases hnn : n = n'
  case' neg =>
    have HN := Lib.hid (show decide (X = Y) = false from decide_eq_false fun e => hnn (by rw [← HL.out, ← HL'.out, e]))
    have hne2 : ¬ (n : Int) = (n' : Int) := by omega
    go_wp2_with fail
    go_ret
    exact ⟨by rw [HN.out]; rfl, B0.out⟩
  subst hnn
  go_wp2_with fail
  clear p0 p1 q0 q1
  go_loopw [5] (fun i wr => ∃ (t : Nat), i = .int .i64 t ∧ t ≤ n ∧ Hid (∀ s, s < t → X.fFiles[s]? = Y.fFiles[s]?) ∧ Hid (Kept W.heap.size W wr)) (fun i _ => n - (intOf i).toNat)
  case atStart => exact ⟨0, rfl, Nat.zero_le _, fun s hs => absurd hs (Nat.not_lt_zero _), Kept.refl (Nat.le_refl _)⟩
  case round =>
    obtain ⟨t, rfl, ht, hsm, hk⟩ := hrel
    obtain ⟨p0, p1, q0, q1⟩ := FF.out wr hk.out
    by_cases hlt : t < n
    · have htl : t < X.fFiles.length := by have := HL.out; omega
      have htl' : t < Y.fFiles.length := by have := HL'.out; omega
      obtain ⟨f, hf⟩ : ∃ f, X.fFiles[t]? = some f := ⟨X.fFiles[t], by simp [htl]⟩
      obtain ⟨f', hf'⟩ : ∃ f, Y.fFiles[t]? = some f := ⟨Y.fFiles[t], by simp [htl']⟩
      obtain ⟨b, o, hd, rfl, hbl, hce, hin⟩ := HI.out.el hf
      obtain ⟨b', o', hd', rfl, hbl', hce', hin'⟩ := HI'.out.el hf'
      have HF := Lib.hid hf
      have HF' := Lib.hid hf'
      obtain ⟨x0, x1, x2, x3⟩ := f
      obtain ⟨y0, y1, y2, y3⟩ := f'
      obtain ⟨⟨a1, n1, k1⟩, ⟨⟩⟩ := hd
      obtain ⟨⟨a2, n2, k2⟩, ⟨⟩⟩ := hd'
      have IN := Lib.hid hin.2.1.1
      have IN' := Lib.hid hin'.2.1.1
      have CF : Hid (∀ v, Kept W.heap.size W v → (v.cell? ⟨b, o + t * 4, none⟩ = some (.int .i64 x0) ∧ v.cell? ⟨b, o + t * 4 + 1, none⟩ = some (.slice a1 n1 k1) ∧ v.cell? ⟨b, o + t * 4 + 2, none⟩ = some (.int .i64 x2) ∧ v.cell? ⟨b, o + t * 4 + 3, none⟩ = some (.bool x3)) ∧
          (v.cell? ⟨b', o' + t * 4, none⟩ = some (.int .i64 y0) ∧ v.cell? ⟨b', o' + t * 4 + 1, none⟩ = some (.slice a2 n2 k2) ∧ v.cell? ⟨b', o' + t * 4 + 2, none⟩ = some (.int .i64 y2) ∧ v.cell? ⟨b', o' + t * 4 + 3, none⟩ = some (.bool y3))) := Lib.hid fun v hv =>
        ⟨⟨hv.cell hbl (hce 0 _ rfl), hv.cell hbl (hce 1 _ rfl), hv.cell hbl (hce 2 _ rfl), hv.cell hbl (hce 3 _ rfl)⟩, ⟨hv.cell hbl' (hce' 0 _ rfl), hv.cell hbl' (hce' 1 _ rfl), hv.cell hbl' (hce' 2 _ rfl), hv.cell hbl' (hce' 3 _ rfl)⟩⟩
      obtain ⟨⟨c0, c1, c2, c3⟩, -⟩ := CF.out _ hk.out
      clear hce hce' hin hin' hf hf' q0 q1
      obtain ⟨w1, hw1⟩ : ∃ u, u = wr.alloc (.cells #[.int .i64 x0, .slice a1 n1 k1, .int .i64 x2, .bool x3] 59) := ⟨_, rfl⟩
      obtain ⟨w2, hw2⟩ : ∃ u, u = w1.alloc (.cells #[.int .i64 y0, .slice a2 n2 k2, .int .i64 y2, .bool y3] 59) := ⟨_, rfl⟩
      obtain ⟨xg, hxg⟩ : ∃ g, g = wr.heap.size := ⟨_, rfl⟩
      obtain ⟨yg, hyg⟩ : ∃ g, g = w1.heap.size := ⟨_, rfl⟩
      have b1 : Below wr.heap.size wr w1 := by rw [hw1]; exact (Below.refl _ _).alloc (Nat.le_refl _) _
      have b2 : Below w1.heap.size w1 w2 := by rw [hw2]; exact (Below.refl _ _).alloc (Nat.le_refl _) _
      have g1 : w1.heap[xg]? = some (.cells #[.int .i64 x0, .slice a1 n1 k1, .int .i64 x2, .bool x3] 59 (0, 0)) := by rw [hw1, hxg]; exact heap_alloc_new _ _
      have X2 := Lib.hid ((b2.block _ (lt_of_block g1)).trans g1)
      have Y2 : Hid (w2.heap[yg]? = some (.cells #[.int .i64 y0, .slice a2 n2 k2, .int .i64 y2, .bool y3] 59 (0, 0))) := Lib.hid (by rw [hw2, hyg]; exact heap_alloc_new _ _)
      have KK1 := Lib.hid (hk.out.below b1)
      have KK2 := Lib.hid (KK1.out.below b2)
      have hne12 : (wr.alloc (.cells #[.int .i64 x0, .slice a1 n1 k1, .int .i64 x2, .bool x3] 59)).heap.size = wr.heap.size + 1 := by simp
      have hyg2 : yg = xg + 1 := by rw [hyg, hw1, hxg]; exact hne12
      clear b1 b2 g1 hne12
      go_upto_region 7 with fail
      rw [← hxg, ← hw1]
      clear hw1 hxg c0 c1 c2 c3 p0 p1
      obtain ⟨p0, p1, q0, q1⟩ := FF.out _ KK1.out
      obtain ⟨-, ⟨d0, d1, d2, d3⟩⟩ := CF.out _ KK1.out
      go_upto_region 8 with fail
      rw [← hyg, ← hw2]
      clear hw2 hyg hyg2 d0 d1 d2 d3 p0 p1 q0 q1
      have e0 := box_cell X2.out 0 _ rfl
      have e1 := box_cell X2.out 1 _ rfl
      have e2 := box_cell X2.out 2 _ rfl
      have e3 := box_cell X2.out 3 _ rfl
      have g0 := box_cell Y2.out 0 _ rfl
      have g1 := box_cell Y2.out 1 _ rfl
      have g2 := box_cell Y2.out 2 _ rfl
      have g3 := box_cell Y2.out 3 _ rfl
      have KB := Lib.hid (B0.out.trans (KK2.out.1.mono B0.out.size))
      by_cases he0 : x0 = y0
      case' neg =>
        have HN := Lib.hid (disk_ne HF.out HF'.out (fun e => he0 (congrArg FileD.fName e)))
        have hh : (x0 != y0) = true := by simpa using he0
        go_wp2_with fail
        go_ret
        exact ⟨by rw [HN.out]; rfl, KB.out⟩
      subst he0
      by_cases he2 : x2 = y2
      case' neg =>
        have HN := Lib.hid (disk_ne HF.out HF'.out (fun e => he2 (congrArg FileD.fChecksum e)))
        have hh : (x2 != y2) = true := by simpa using he2
        go_wp2_with fail
        go_ret
        exact ⟨by rw [HN.out]; rfl, KB.out⟩
      subst he2
      by_cases he3 : x3 = y3
      case' neg =>
        have HN := Lib.hid (disk_ne HF.out HF'.out (fun e => he3 (congrArg FileD.fSealed e)))
        have hh : (x3 != y3) = true := by simpa using he3
        go_wp2_with fail
        go_ret
        exact ⟨by rw [HN.out]; rfl, KB.out⟩
      subst he3
      by_cases hnn : n1 = n2
      case' neg =>
        have HN := Lib.hid (disk_ne HF.out HF'.out (fun e => hnn (by have h1 := IN.out.1; have h2 := IN'.out.1; have h3 := congrArg FileD.fPages e; simp only at h1 h2 h3; rw [← h1, ← h2, h3])))
        have hh : ¬ (n1 : Int) = (n2 : Int) := by omega
        go_wp2_with fail
        go_ret
        exact ⟨by rw [HN.out]; rfl, KB.out⟩
      subst hnn
      go_wp2_with fail
      clear e0 e1 e2 e3 g0 g1 g2 g3
      have hn1m := IN.out.2.1
      unfold maxLen at hn1m
      go_loopw [8] (fun i wr => ∃ (k : Nat), i = .int .i64 k ∧ k ≤ n1 ∧ Hid (∀ s, s < k → x1[s]? = y1[s]?) ∧ Hid (Kept w2.heap.size w2 wr)) (fun i _ => n1 - (intOf i).toNat)
      case atStart => exact ⟨0, rfl, Nat.zero_le _, fun s hs => absurd hs (Nat.not_lt_zero _), Kept.refl (Nat.le_refl _)⟩
      case round =>
        obtain ⟨k, rfl, hk1, hsp, hkq⟩ := hrel
        have XX : Hid (∀ v, Kept w2.heap.size w2 v → v.cell? ⟨xg, 1, none⟩ = some (.slice a1 n1 k1) ∧ v.cell? ⟨yg, 1, none⟩ = some (.slice a2 n1 k2)) := Lib.hid fun v hv => ⟨hv.cell (lt_of_block X2.out) (box_cell X2.out 1 _ rfl), hv.cell (lt_of_block Y2.out) (box_cell Y2.out 1 _ rfl)⟩
        obtain ⟨e1, g1⟩ := XX.out _ hkq.out
        by_cases hklt : k < n1
        · have hkl : k < x1.length := by have := IN.out.1; omega
          have hkl' : k < y1.length := by have := IN'.out.1; omega
          obtain ⟨p, hp⟩ : ∃ p, x1[k]? = some p := ⟨x1[k], by simp [hkl]⟩
          obtain ⟨p', hp'⟩ : ∃ p, y1[k]? = some p := ⟨y1[k], by simp [hkl']⟩
          obtain ⟨b1, o1, d, m, q, rfl, hb1, hcp, hpin, -⟩ := (show SeqIn pageRep W a1 n1 x1 from IN.out).at hp
          obtain ⟨b2, o2, d', m', q', rfl, hb2, hcp', hpin', -⟩ := (show SeqIn pageRep W a2 n1 y1 from IN'.out).at hp'
          have HP := Lib.hid hp
          have HP' := Lib.hid hp'
          have PIN := Lib.hid hpin
          have PIN' := Lib.hid hpin'
          have KT : Hid (∀ v, Kept w2.heap.size w2 v → Kept W.heap.size W v) := Lib.hid fun v hv => KK2.out.trans (hv.mono KK2.out.2)
          have CC : Hid (∀ v, Kept w2.heap.size w2 v → v.cell? ⟨b1, o1 + k, none⟩ = some (.slice d m q) ∧ v.cell? ⟨b2, o2 + k, none⟩ = some (.slice d' m' q')) := Lib.hid fun v hv => ⟨(KT.out v hv).cell hb1 hcp, (KT.out v hv).cell hb2 hcp'⟩
          have CS : Hid (∀ v, Kept w2.heap.size w2 v → Calls Try.prog 55 #[.slice d m q, .slice d' m' q'] v fun e v' => e = .returned (.bool (decide (p = p'))) ∧ Kept w2.heap.size w2 v') := Lib.hid fun v hv =>
            (seqrows d d' m q m' q' p p' v ((rows_in PIN.out).keep (KT.out v hv).1) ((rows_in PIN'.out).keep (KT.out v hv).1) (by have := PIN.out.2.1; unfold maxLen at this; omega) (by have := PIN'.out.2.1; unfold maxLen at this; omega)).mono fun e v' ⟨he, hb⟩ => ⟨he, hv.below hb⟩
          clear hp hp' hcp hcp' hpin hpin'
          by_cases hpp : p = p'
          · rw [decide_eq_true hpp] at CS
            have HPP := Lib.hid hpp
            clear hpp
            go_wp2_with fail
            clear e1 g1
            refine region_plan (Kept w2.heap.size w2) [.q 0, .q 1, .q 2, .q 3, .q 4, .q 5, .q 6, .q 7, .q 8, .q 9, .q 10, .q 11, .m 12, .q 13] [] (by kernel_rfl) (by kernel_rfl) hkq.out.drew (fun hHeld => ?_)
            first | (refine pi_take (v := ?pv1_0) rfl (fun _ _ _ h => h) (by rfl) (fun v hv => ?pr1_0) ?rest1_0; case pr1_0 => (obtain ⟨u0, u1⟩ := XX.out v hv; obtain ⟨u2, u3⟩ := CC.out v hv; go_simp; first | done | with_reducible rfl)) | (refine pi_pass rfl (fun _ _ _ h => h) (by rfl) ?_)
            try simp only [Act.put, List.setIfInBounds_toArray, List.set_cons_zero, List.set_cons_succ]
            first | (refine pi_take (v := ?pv1_1) rfl (fun _ _ _ h => h) (by rfl) (fun v hv => ?pr1_1) ?rest1_1; case pr1_1 => (obtain ⟨u0, u1⟩ := XX.out v hv; obtain ⟨u2, u3⟩ := CC.out v hv; go_simp; first | done | with_reducible rfl)) | (refine pi_pass rfl (fun _ _ _ h => h) (by rfl) ?_)
            try simp only [Act.put, List.setIfInBounds_toArray, List.set_cons_zero, List.set_cons_succ]
            first | (refine pi_take (v := ?pv1_2) rfl (fun _ _ _ h => h) (by rfl) (fun v hv => ?pr1_2) ?rest1_2; case pr1_2 => (obtain ⟨u0, u1⟩ := XX.out v hv; obtain ⟨u2, u3⟩ := CC.out v hv; go_simp; first | done | with_reducible rfl)) | (refine pi_pass rfl (fun _ _ _ h => h) (by rfl) ?_)
            try simp only [Act.put, List.setIfInBounds_toArray, List.set_cons_zero, List.set_cons_succ]
            first | (refine pi_take (v := ?pv1_3) rfl (fun _ _ _ h => h) (by rfl) (fun v hv => ?pr1_3) ?rest1_3; case pr1_3 => (obtain ⟨u0, u1⟩ := XX.out v hv; obtain ⟨u2, u3⟩ := CC.out v hv; go_simp; first | done | with_reducible rfl)) | (refine pi_pass rfl (fun _ _ _ h => h) (by rfl) ?_)
            try simp only [Act.put, List.setIfInBounds_toArray, List.set_cons_zero, List.set_cons_succ]
            first | (refine pi_take (v := ?pv1_4) rfl (fun _ _ _ h => h) (by rfl) (fun v hv => ?pr1_4) ?rest1_4; case pr1_4 => (obtain ⟨u0, u1⟩ := XX.out v hv; obtain ⟨u2, u3⟩ := CC.out v hv; go_simp; first | done | with_reducible rfl)) | (refine pi_pass rfl (fun _ _ _ h => h) (by rfl) ?_)
            try simp only [Act.put, List.setIfInBounds_toArray, List.set_cons_zero, List.set_cons_succ]
            first | (refine pi_take (v := ?pv1_5) rfl (fun _ _ _ h => h) (by rfl) (fun v hv => ?pr1_5) ?rest1_5; case pr1_5 => (obtain ⟨u0, u1⟩ := XX.out v hv; obtain ⟨u2, u3⟩ := CC.out v hv; go_simp; first | done | with_reducible rfl)) | (refine pi_pass rfl (fun _ _ _ h => h) (by rfl) ?_)
            try simp only [Act.put, List.setIfInBounds_toArray, List.set_cons_zero, List.set_cons_succ]
            first | (refine pi_take (v := ?pv1_6) rfl (fun _ _ _ h => h) (by rfl) (fun v hv => ?pr1_6) ?rest1_6; case pr1_6 => (obtain ⟨u0, u1⟩ := XX.out v hv; obtain ⟨u2, u3⟩ := CC.out v hv; go_simp; first | done | with_reducible rfl)) | (refine pi_pass rfl (fun _ _ _ h => h) (by rfl) ?_)
            try simp only [Act.put, List.setIfInBounds_toArray, List.set_cons_zero, List.set_cons_succ]
            first | (refine pi_take (v := ?pv1_7) rfl (fun _ _ _ h => h) (by rfl) (fun v hv => ?pr1_7) ?rest1_7; case pr1_7 => (obtain ⟨u0, u1⟩ := XX.out v hv; obtain ⟨u2, u3⟩ := CC.out v hv; go_simp; first | done | with_reducible rfl)) | (refine pi_pass rfl (fun _ _ _ h => h) (by rfl) ?_)
            try simp only [Act.put, List.setIfInBounds_toArray, List.set_cons_zero, List.set_cons_succ]
            first | (refine pi_take (v := ?pv1_8) rfl (fun _ _ _ h => h) (by rfl) (fun v hv => ?pr1_8) ?rest1_8; case pr1_8 => (obtain ⟨u0, u1⟩ := XX.out v hv; obtain ⟨u2, u3⟩ := CC.out v hv; go_simp; first | done | with_reducible rfl)) | (refine pi_pass rfl (fun _ _ _ h => h) (by rfl) ?_)
            try simp only [Act.put, List.setIfInBounds_toArray, List.set_cons_zero, List.set_cons_succ]
            first | (refine pi_take (v := ?pv1_9) rfl (fun _ _ _ h => h) (by rfl) (fun v hv => ?pr1_9) ?rest1_9; case pr1_9 => (obtain ⟨u0, u1⟩ := XX.out v hv; obtain ⟨u2, u3⟩ := CC.out v hv; go_simp; first | done | with_reducible rfl)) | (refine pi_pass rfl (fun _ _ _ h => h) (by rfl) ?_)
            try simp only [Act.put, List.setIfInBounds_toArray, List.set_cons_zero, List.set_cons_succ]
            first | (refine pi_take (v := ?pv1_10) rfl (fun _ _ _ h => h) (by rfl) (fun v hv => ?pr1_10) ?rest1_10; case pr1_10 => (obtain ⟨u0, u1⟩ := XX.out v hv; obtain ⟨u2, u3⟩ := CC.out v hv; go_simp; first | done | with_reducible rfl)) | (refine pi_pass rfl (fun _ _ _ h => h) (by rfl) ?_)
            try simp only [Act.put, List.setIfInBounds_toArray, List.set_cons_zero, List.set_cons_succ]
            first | (refine pi_take (v := ?pv1_11) rfl (fun _ _ _ h => h) (by rfl) (fun v hv => ?pr1_11) ?rest1_11; case pr1_11 => (obtain ⟨u0, u1⟩ := XX.out v hv; obtain ⟨u2, u3⟩ := CC.out v hv; go_simp; first | done | with_reducible rfl)) | (refine pi_pass rfl (fun _ _ _ h => h) (by rfl) ?_)
            try simp only [Act.put, List.setIfInBounds_toArray, List.set_cons_zero, List.set_cons_succ]
            refine pi_step rfl (fun K hK => ?_)
            first | ((go_at_call 55; refine (CS.out _ hHeld).mono ?_; rintro e v9 ⟨rfl, hv9⟩)) | (go_simp; (go_at_call 55; refine (CS.out _ hHeld).mono ?_; rintro e v9 ⟨rfl, hv9⟩))
            refine hK.out _ _ (by exact hv9) (fun hHeld2 => ?_)
            clear hK K hHeld
            have hHeld := hHeld2
            clear hHeld2
            try simp only [Act.put, List.setIfInBounds_toArray, List.set_cons_zero, List.set_cons_succ]
            first | (refine pi_take (v := ?pv1_13) rfl (fun _ _ _ h => h) (by rfl) (fun v hv => ?pr1_13) ?rest1_13; case pr1_13 => (obtain ⟨u0, u1⟩ := XX.out v hv; obtain ⟨u2, u3⟩ := CC.out v hv; go_simp; first | done | with_reducible rfl)) | (refine pi_pass rfl (fun _ _ _ h => h) (by rfl) ?_)
            try simp only [Act.put, List.setIfInBounds_toArray, List.set_cons_zero, List.set_cons_succ]
            refine pi_end ?_
            refine z_end ?_
            clear hHeld
            have HV9 := Lib.hid hv9
            clear hv9
            go_wp2_with fail
            go_roundw
            case rel =>
              refine ⟨k + 1, by go_num, by omega, fun s hs => ?_, HV9⟩
              rcases Nat.lt_or_ge s k with h1 | h1
              · exact hsp.out s h1
              · obtain rfl : s = k := by omega
                rw [HP.out, HP'.out, HPP.out]
            case measure => simp [intOf]; omega
          · rw [decide_eq_false hpp] at CS
            have HN := Lib.hid (disk_ne HF.out HF'.out (fun e => hpp (by
              have h1 := congrArg FileD.fPages e
              simp only at h1
              have h2 := HP.out
              rw [h1, HP'.out] at h2
              exact (Option.some.inj h2).symm)))
            clear hpp
            go_wp2_with fail
            clear e1 g1
            refine region_plan (Kept w2.heap.size w2) [.q 0, .q 1, .q 2, .q 3, .q 4, .q 5, .q 6, .q 7, .q 8, .q 9, .q 10, .q 11, .m 12, .q 13] [] (by kernel_rfl) (by kernel_rfl) hkq.out.drew (fun hHeld => ?_)
            first | (refine pi_take (v := ?pv2_0) rfl (fun _ _ _ h => h) (by rfl) (fun v hv => ?pr2_0) ?rest2_0; case pr2_0 => (obtain ⟨u0, u1⟩ := XX.out v hv; obtain ⟨u2, u3⟩ := CC.out v hv; go_simp; first | done | with_reducible rfl)) | (refine pi_pass rfl (fun _ _ _ h => h) (by rfl) ?_)
            try simp only [Act.put, List.setIfInBounds_toArray, List.set_cons_zero, List.set_cons_succ]
            first | (refine pi_take (v := ?pv2_1) rfl (fun _ _ _ h => h) (by rfl) (fun v hv => ?pr2_1) ?rest2_1; case pr2_1 => (obtain ⟨u0, u1⟩ := XX.out v hv; obtain ⟨u2, u3⟩ := CC.out v hv; go_simp; first | done | with_reducible rfl)) | (refine pi_pass rfl (fun _ _ _ h => h) (by rfl) ?_)
            try simp only [Act.put, List.setIfInBounds_toArray, List.set_cons_zero, List.set_cons_succ]
            first | (refine pi_take (v := ?pv2_2) rfl (fun _ _ _ h => h) (by rfl) (fun v hv => ?pr2_2) ?rest2_2; case pr2_2 => (obtain ⟨u0, u1⟩ := XX.out v hv; obtain ⟨u2, u3⟩ := CC.out v hv; go_simp; first | done | with_reducible rfl)) | (refine pi_pass rfl (fun _ _ _ h => h) (by rfl) ?_)
            try simp only [Act.put, List.setIfInBounds_toArray, List.set_cons_zero, List.set_cons_succ]
            first | (refine pi_take (v := ?pv2_3) rfl (fun _ _ _ h => h) (by rfl) (fun v hv => ?pr2_3) ?rest2_3; case pr2_3 => (obtain ⟨u0, u1⟩ := XX.out v hv; obtain ⟨u2, u3⟩ := CC.out v hv; go_simp; first | done | with_reducible rfl)) | (refine pi_pass rfl (fun _ _ _ h => h) (by rfl) ?_)
            try simp only [Act.put, List.setIfInBounds_toArray, List.set_cons_zero, List.set_cons_succ]
            first | (refine pi_take (v := ?pv2_4) rfl (fun _ _ _ h => h) (by rfl) (fun v hv => ?pr2_4) ?rest2_4; case pr2_4 => (obtain ⟨u0, u1⟩ := XX.out v hv; obtain ⟨u2, u3⟩ := CC.out v hv; go_simp; first | done | with_reducible rfl)) | (refine pi_pass rfl (fun _ _ _ h => h) (by rfl) ?_)
            try simp only [Act.put, List.setIfInBounds_toArray, List.set_cons_zero, List.set_cons_succ]
            first | (refine pi_take (v := ?pv2_5) rfl (fun _ _ _ h => h) (by rfl) (fun v hv => ?pr2_5) ?rest2_5; case pr2_5 => (obtain ⟨u0, u1⟩ := XX.out v hv; obtain ⟨u2, u3⟩ := CC.out v hv; go_simp; first | done | with_reducible rfl)) | (refine pi_pass rfl (fun _ _ _ h => h) (by rfl) ?_)
            try simp only [Act.put, List.setIfInBounds_toArray, List.set_cons_zero, List.set_cons_succ]
            first | (refine pi_take (v := ?pv2_6) rfl (fun _ _ _ h => h) (by rfl) (fun v hv => ?pr2_6) ?rest2_6; case pr2_6 => (obtain ⟨u0, u1⟩ := XX.out v hv; obtain ⟨u2, u3⟩ := CC.out v hv; go_simp; first | done | with_reducible rfl)) | (refine pi_pass rfl (fun _ _ _ h => h) (by rfl) ?_)
            try simp only [Act.put, List.setIfInBounds_toArray, List.set_cons_zero, List.set_cons_succ]
            first | (refine pi_take (v := ?pv2_7) rfl (fun _ _ _ h => h) (by rfl) (fun v hv => ?pr2_7) ?rest2_7; case pr2_7 => (obtain ⟨u0, u1⟩ := XX.out v hv; obtain ⟨u2, u3⟩ := CC.out v hv; go_simp; first | done | with_reducible rfl)) | (refine pi_pass rfl (fun _ _ _ h => h) (by rfl) ?_)
            try simp only [Act.put, List.setIfInBounds_toArray, List.set_cons_zero, List.set_cons_succ]
            first | (refine pi_take (v := ?pv2_8) rfl (fun _ _ _ h => h) (by rfl) (fun v hv => ?pr2_8) ?rest2_8; case pr2_8 => (obtain ⟨u0, u1⟩ := XX.out v hv; obtain ⟨u2, u3⟩ := CC.out v hv; go_simp; first | done | with_reducible rfl)) | (refine pi_pass rfl (fun _ _ _ h => h) (by rfl) ?_)
            try simp only [Act.put, List.setIfInBounds_toArray, List.set_cons_zero, List.set_cons_succ]
            first | (refine pi_take (v := ?pv2_9) rfl (fun _ _ _ h => h) (by rfl) (fun v hv => ?pr2_9) ?rest2_9; case pr2_9 => (obtain ⟨u0, u1⟩ := XX.out v hv; obtain ⟨u2, u3⟩ := CC.out v hv; go_simp; first | done | with_reducible rfl)) | (refine pi_pass rfl (fun _ _ _ h => h) (by rfl) ?_)
            try simp only [Act.put, List.setIfInBounds_toArray, List.set_cons_zero, List.set_cons_succ]
            first | (refine pi_take (v := ?pv2_10) rfl (fun _ _ _ h => h) (by rfl) (fun v hv => ?pr2_10) ?rest2_10; case pr2_10 => (obtain ⟨u0, u1⟩ := XX.out v hv; obtain ⟨u2, u3⟩ := CC.out v hv; go_simp; first | done | with_reducible rfl)) | (refine pi_pass rfl (fun _ _ _ h => h) (by rfl) ?_)
            try simp only [Act.put, List.setIfInBounds_toArray, List.set_cons_zero, List.set_cons_succ]
            first | (refine pi_take (v := ?pv2_11) rfl (fun _ _ _ h => h) (by rfl) (fun v hv => ?pr2_11) ?rest2_11; case pr2_11 => (obtain ⟨u0, u1⟩ := XX.out v hv; obtain ⟨u2, u3⟩ := CC.out v hv; go_simp; first | done | with_reducible rfl)) | (refine pi_pass rfl (fun _ _ _ h => h) (by rfl) ?_)
            try simp only [Act.put, List.setIfInBounds_toArray, List.set_cons_zero, List.set_cons_succ]
            refine pi_step rfl (fun K hK => ?_)
            first | ((go_at_call 55; refine (CS.out _ hHeld).mono ?_; rintro e v9 ⟨rfl, hv9⟩)) | (go_simp; (go_at_call 55; refine (CS.out _ hHeld).mono ?_; rintro e v9 ⟨rfl, hv9⟩))
            refine hK.out _ _ (by exact hv9) (fun hHeld2 => ?_)
            clear hK K hHeld
            have hHeld := hHeld2
            clear hHeld2
            try simp only [Act.put, List.setIfInBounds_toArray, List.set_cons_zero, List.set_cons_succ]
            first | (refine pi_take (v := ?pv2_13) rfl (fun _ _ _ h => h) (by rfl) (fun v hv => ?pr2_13) ?rest2_13; case pr2_13 => (obtain ⟨u0, u1⟩ := XX.out v hv; obtain ⟨u2, u3⟩ := CC.out v hv; go_simp; first | done | with_reducible rfl)) | (refine pi_pass rfl (fun _ _ _ h => h) (by rfl) ?_)
            try simp only [Act.put, List.setIfInBounds_toArray, List.set_cons_zero, List.set_cons_succ]
            refine pi_end ?_
            refine z_end ?_
            clear hHeld
            have HV9 := Lib.hid (B0.out.trans ((KT.out _ hv9).1.mono B0.out.size))
            clear hv9
            go_wp2_with fail
            go_ret
            exact ⟨by rw [HN.out]; rfl, HV9.out⟩
        · have hkn : k = n1 := by omega
          have HXY : Hid (x1 = y1) := Lib.hid (List.ext_getElem? fun s => by
            rcases Nat.lt_or_ge s n1 with h1 | h1
            · exact hsp.out s (by omega)
            · have h2 := IN.out.1
              have h3 := IN'.out.1
              rw [List.getElem?_eq_none (by omega), List.getElem?_eq_none (by omega)])
          have HKK := Lib.hid (KK2.out.trans (hkq.out.mono KK2.out.2))
          clear hkn
          go_wp2_with fail
          go_roundw
          case rel =>
            refine ⟨t + 1, by go_num, by omega, fun s hs => ?_, HKK⟩
            rcases Nat.lt_or_ge s t with h1 | h1
            · exact hsm.out s h1
            · obtain rfl : s = t := by omega
              rw [HF.out, HF'.out, HXY.out]
          case measure => simp [intOf]; omega
    · have HN := Lib.hid (show decide (X = Y) = true from decide_eq_true (by
        have e1 : X.fFiles = Y.fFiles := List.ext_getElem? fun s => by
          rcases Nat.lt_or_ge s n with h1 | h1
          · exact hsm.out s (by omega)
          · rw [List.getElem?_eq_none (by have := HL.out; omega), List.getElem?_eq_none (by have := HL'.out; omega)]
        have e2 : X.fNextName = Y.fNextName := by rw [← HX.out, ← HY.out]
        cases X
        cases Y
        simp only at e1 e2
        rw [e1, e2]))
      have KB := Lib.hid (B0.out.trans (hk.out.1.mono B0.out.size))
      go_wp2_with fail
      go_ret
      exact ⟨by rw [HN.out]; rfl, KB.out⟩
end Go.Proofs.Ythbifibnnhikjaa
/- The library's slices.Equal at rows, by contract. -/
namespace Go.Proofs.Ythbifibnnhikjaa
open Go.RowKit
set_option linter.unusedVariables false

set_option maxRecDepth 100000 in
theorem ieqrows (a a' : Option Addr) (len cap len' cap' : Nat) (L M : List R) (w : World) (h : IsRows w a len L) (h' : IsRows w a' len' M) (hlen : len ≤ 9223372036854775807) (hlen' : len' ≤ 9223372036854775807) :
    Calls Try.prog 82 #[.slice a len cap, .slice a' len' cap'] w fun e w' => e = .returned (.bool (decide (L = M))) ∧ Below w.heap.size w w' := by
  have HL := Lib.hid h.1
  have HM := Lib.hid h'.1
  have HI := Lib.hid h
  have HI' := Lib.hid h'
  clear h h'
  by_cases hne : len = len'
  · subst hne
    go_enter Try.func82, Try.ntmps82
    go_wp2_with fail
    go_loopw [13] (fun i wr => ∃ k : Nat, i = .int .i64 k ∧ k ≤ len ∧ Hid (∀ s, s < k → L.getD s R.zero = M.getD s R.zero) ∧ Hid (Below w.heap.size w wr)) (fun i _ => len - (intOf i).toNat)
    case atStart => exact ⟨0, rfl, Nat.zero_le _, fun s hs => absurd hs (Nat.not_lt_zero _), Below.refl _ _⟩
    case round =>
      obtain ⟨k, rfl, hk, hsm, hb⟩ := hrel
      by_cases hlt : k < len
      · obtain ⟨b, o, rfl, hbl, hat⟩ := HI.out.at hlt
        obtain ⟨b', o', rfl, hbl', hat'⟩ := HI'.out.at hlt
        obtain ⟨r, hr⟩ : ∃ r, r = L.getD k R.zero := ⟨_, rfl⟩
        obtain ⟨r', hr'⟩ : ∃ r, r = M.getD k R.zero := ⟨_, rfl⟩
        rw [← hr] at hat
        rw [← hr'] at hat'
        obtain ⟨c0, c1, c2⟩ := hat.below hb.out hbl
        obtain ⟨d0, d1, d2⟩ := hat'.below hb.out hbl'
        have HR := Lib.hid hr
        have HR' := Lib.hid hr'
        clear hr hr' hat hat'
        have hq : ∀ v, (binOp .neq 89 (.agg #[.int .i64 r.key, .int .i64 r.value, .int .i64 r.width]) (.agg #[.int .i64 r'.key, .int .i64 r'.value, .int .i64 r'.width])).run Try.prog v = .ok (.bool (!decide (r = r'))) v := fun v => row_neq r r' v
        by_cases he : r = r'
        · have hd : decide (r = r') = true := decide_eq_true he
          have HE := Lib.hid he
          clear he
          go_wp2_with fail
          go_still_tail 8, (by kernel_rfl)
          go_wp2_with fail
          go_roundw
          case rel =>
            refine ⟨k + 1, by go_num, by omega, fun s hs => ?_, hb.out.drew⟩
            rcases Nat.lt_or_ge s k with h1 | h1
            · exact hsm.out s h1
            · obtain rfl : s = k := by omega
              rw [← HR.out, ← HR'.out]; exact HE.out
          case measure => simp [intOf]; omega
        · have hd : decide (r = r') = false := decide_eq_false he
          have HN := Lib.hid (show decide (L = M) = false from decide_eq_false fun e => he (by rw [HR.out, HR'.out, e]))
          clear he
          go_wp2_with fail
          go_still_tail 8, (by kernel_rfl)
          go_wp2_with fail
          go_ret
          exact ⟨by rw [HN.out]; rfl, hb.out.drew⟩
      · have HN := Lib.hid (show decide (L = M) = true from decide_eq_true (getD_ext (by rw [HL.out, HM.out]) fun s hs => hsm.out s (by rw [HL.out] at hs; omega)))
        go_wp2_with fail
        go_ret
        exact ⟨by rw [HN.out]; rfl, hb.out⟩
  · have HN := Lib.hid (show decide (L = M) = false from decide_eq_false fun e => hne (by rw [← HL.out, ← HM.out, e]))
    have hne2 : ¬ (len : Int) = (len' : Int) := by omega
    go_enter Try.func82, Try.ntmps82
    go_wp2_with fail
    go_ret
    exact ⟨by rw [HN.out]; rfl, Below.refl _ _⟩
end Go.Proofs.Ythbifibnnhikjaa
/- The program's comparison of disks, by contract. -/
namespace Go.Proofs.Ythbifibnnhikjaa
open Go.RowKit
set_option linter.unusedVariables false

set_option maxRecDepth 100000 in
theorem seqin_len {α : Type} {r : Rep α} {w : World} {a : Option Addr} {n : Nat} {xs : List α} (h : SeqIn r w a n xs) : n ≤ 9223372036854775807 := by
  have := h.2.1
  unfold maxLen at this
  omega
set_option maxRecDepth 100000 in
theorem iequalpage (a : Option Addr) (n c : Nat) (p : List R) (a' : Option Addr) (n' c' : Nat) (p' : List R) (w : World) (h : SeqIn rowRep w a n p) (h' : SeqIn rowRep w a' n' p') :
    Calls Try.prog 73 #[.agg #[.slice a n c], .agg #[.slice a' n' c']] w fun e w' => e = .returned (.bool (decide (p = p'))) ∧ Below w.heap.size w w' := by
  obtain ⟨W, hW⟩ : ∃ W, W = (w.alloc (.cells #[.slice a n c] 46)).alloc (.cells #[.slice a' n' c'] 46) := ⟨_, rfl⟩
  obtain ⟨b0, k0, k1⟩ := boxes2 w W hW
  have B0 := Lib.hid b0
  have HI := Lib.hid (rows_in (h.keep b0))
  have HI' := Lib.hid (rows_in (h'.keep b0))
  have p0 := box_cell k0 0 _ rfl
  have p1 := box_cell k1 0 _ rfl
  have hn := seqin_len h
  have hn' := seqin_len h'
  clear h h' b0 k0 k1
  go_enter Try.func73, Try.ntmps73
  go_upto_region 1 with fail
  rw [← hW]
  clear hW
  go_wp2_with fail
  clear p0 p1
  refine (ieqrows a a' n c n' c' p p' W HI.out HI'.out hn hn').mono ?_
  rintro e w1 ⟨rfl, b1⟩
  have B1 := Lib.hid (B0.out.trans (b1.mono B0.out.size))
  clear b1
  go_wp2_with fail
  go_ret
  exact ⟨rfl, B1.out⟩
set_option maxRecDepth 100000 in
set_option maxHeartbeats 2000000 in
theorem ieqpages (a a' : Option Addr) (n c n' c' : Nat) (F F' : List (List R)) (w : World) (h : SeqIn pageRep w a n F) (h' : SeqIn pageRep w a' n' F') (hn : n ≤ 9223372036854775807) (hn' : n' ≤ 9223372036854775807) :
    Calls Try.prog 72 #[.slice a n c, .slice a' n' c', .func (.func 73) #[] #[]] w fun e w' => e = .returned (.bool (decide (F = F'))) ∧ Below w.heap.size w w' := by
  have HI := Lib.hid h
  have HI' := Lib.hid h'
  have HL := Lib.hid h.1
  have HL' := Lib.hid h'.1
  clear h h'
  by_cases hne : n = n'
  · subst hne
    go_enter Try.func72, Try.ntmps72
    go_wp2_with fail
    go_loopw [17] (fun i wr => ∃ (t : Nat), i = .int .i64 t ∧ t ≤ n ∧ Hid (∀ s, s < t → F[s]? = F'[s]?) ∧ Hid (Below w.heap.size w wr)) (fun i _ => n - (intOf i).toNat)
    case atStart => exact ⟨0, rfl, Nat.zero_le _, fun s hs => absurd hs (Nat.not_lt_zero _), Below.refl _ _⟩
    case round =>
      obtain ⟨t, rfl, ht, hsm, hwr⟩ := hrel
      by_cases hlt : t < n
      · have htl : t < F.length := by have := HL.out; omega
        have htl' : t < F'.length := by have := HL'.out; omega
        obtain ⟨f, hf⟩ : ∃ f, F[t]? = some f := ⟨F[t], by simp [htl]⟩
        obtain ⟨f', hf'⟩ : ∃ f, F'[t]? = some f := ⟨F'[t], by simp [htl']⟩
        have HF := Lib.hid hf
        have HF' := Lib.hid hf'
        obtain ⟨b, o, d, k, m, rfl, hbl, hce, hin, hcap⟩ := HI.out.at hf
        obtain ⟨b', o', d', k', m', rfl, hbl', hce', hin', hcap'⟩ := HI'.out.at hf'
        have d0 : wr.cell? ⟨b, o + t, none⟩ = some (.slice d k m) := (hwr.out.cell hbl).trans hce
        have d1 : wr.cell? ⟨b', o' + t, none⟩ = some (.slice d' k' m') := (hwr.out.cell hbl').trans hce'
        have e1 : (wr.alloc (.cells #[.slice d k m] 46)).cell? ⟨b', o' + t, none⟩ = some (.slice d' k' m') := Lib.cell?_alloc_some _ d1
        have IN := Lib.hid (show SeqIn rowRep w d k f from hin)
        have IN' := Lib.hid (show SeqIn rowRep w d' k' f' from hin')
        clear hce hce' hin hin' hcap hcap' 
        obtain ⟨v0, hv0⟩ : ∃ v, v = wr.heap.size := ⟨_, rfl⟩
        obtain ⟨w5, hw5⟩ : ∃ u, u = (wr.alloc (.cells #[.slice d k m] 46)).alloc (.cells #[.slice d' k' m'] 46) := ⟨_, rfl⟩
        obtain ⟨b5, k5, k6⟩ := boxes2 wr w5 hw5
        rw [← hv0] at k5 k6
        have K5 := Lib.hid k5
        have K6 := Lib.hid k6
        have B5 := Lib.hid (hwr.out.trans (b5.mono hwr.out.size))
        have hsz : wr.heap.size + 1 = v0 + 1 := by omega
        clear b5 k5 k6 hf hf'
        go_upto_region 7 with fail
        rw [← hw5, ← hv0]
        clear hw5 hv0 hsz d0 d1 e1
        have u0 := box_cell K5.out 0 _ rfl
        have u1 := box_cell K6.out 0 _ rfl
        go_wp2_with fail
        clear u0 u1
        refine (iequalpage d k m f d' k' m' f' w5 (IN.out.keep B5.out) (IN'.out.keep B5.out)).mono ?_
        rintro e w6 ⟨rfl, b6⟩
        have B6 := Lib.hid (B5.out.trans (b6.mono B5.out.size))
        clear b6
        cases hd : decide (f = f') with
        | true =>
          have HE := Lib.hid (of_decide_eq_true hd)
          clear hd
          go_wp2_with fail
          go_roundw
          case rel =>
            refine ⟨t + 1, by go_num, by omega, fun s hs => ?_, B6⟩
            rcases Nat.lt_or_ge s t with h1 | h1
            · exact hsm.out s h1
            · obtain rfl : s = t := by omega
              rw [HF.out, HF'.out, HE.out]
          case measure => simp [intOf]; omega
        | false =>
          have HN := Lib.hid (show decide (F = F') = false from decide_eq_false fun e => of_decide_eq_false hd (by
            have h1 := HF.out
            rw [e, HF'.out] at h1
            exact (Option.some.inj h1).symm))
          clear hd
          go_wp2_with fail
          go_ret
          exact ⟨by rw [HN.out]; rfl, B6.out⟩
      · have HN := Lib.hid (show decide (F = F') = true from decide_eq_true (List.ext_getElem? fun s => by
          rcases Nat.lt_or_ge s t with h1 | h1
          · exact hsm.out s h1
          · rw [List.getElem?_eq_none (by have := HL.out; omega), List.getElem?_eq_none (by have := HL'.out; omega)]))
        go_wp2_with fail
        go_ret
        exact ⟨by rw [HN.out]; rfl, hwr.out⟩
  · have HN := Lib.hid (show decide (F = F') = false from decide_eq_false fun e => hne (by rw [← HL.out, ← HL'.out, e]))
    go_enter Try.func72, Try.ntmps72
    have hne' : ((n : Int) != (n' : Int)) = true := by
      rw [bne_iff_ne]; omega
    go_wp2_with fail
    go_ret
    exact ⟨by rw [HN.out]; rfl, Below.refl _ _⟩
theorem file_eq_if (x0 : Int) (x1 : List (List R)) (x2 : Int) (x3 : Bool) (y0 : Int) (y1 : List (List R)) (y2 : Int) (y3 : Bool) : decide ((⟨x0, x1, x2, x3⟩ : FileD) = ⟨y0, y1, y2, y3⟩) = ((x0 == y0) && (x2 == y2) && (x3 == y3) && decide (x1 = y1)) := by
  by_cases h0 : x0 = y0
  · by_cases h2 : x2 = y2
    · by_cases h3 : x3 = y3
      · by_cases h1 : x1 = y1 <;> simp [h0, h1, h2, h3]
      · simp [h0, h2, h3]
    · simp [h0, h2]
  · simp [h0]
set_option maxRecDepth 100000 in
set_option maxHeartbeats 1000000 in
theorem iequalfile (x0 : Int) (a : Option Addr) (n c : Nat) (x1 : List (List R)) (x2 : Int) (x3 : Bool) (y0 : Int) (a' : Option Addr) (n' c' : Nat) (y1 : List (List R)) (y2 : Int) (y3 : Bool) (w : World) (h : SeqIn pageRep w a n x1) (h' : SeqIn pageRep w a' n' y1) :
    Calls Try.prog 57 #[.agg #[.int .i64 x0, .slice a n c, .int .i64 x2, .bool x3], .agg #[.int .i64 y0, .slice a' n' c', .int .i64 y2, .bool y3]] w fun e w' => e = .returned (.bool (decide ((⟨x0, x1, x2, x3⟩ : FileD) = ⟨y0, y1, y2, y3⟩))) ∧ Below w.heap.size w w' := by
  obtain ⟨W, hW⟩ : ∃ W, W = (w.alloc (.cells #[.int .i64 x0, .slice a n c, .int .i64 x2, .bool x3] 59)).alloc (.cells #[.int .i64 y0, .slice a' n' c', .int .i64 y2, .bool y3] 59) := ⟨_, rfl⟩
  obtain ⟨b0, k0, k1⟩ := boxes2 w W hW
  have B0 := Lib.hid b0
  have HI := Lib.hid (h.keep b0)
  have HI' := Lib.hid (h'.keep b0)
  have hn := seqin_len h
  have hn' := seqin_len h'
  have q0 := box_cell k0 0 _ rfl
  have q1 := box_cell k0 1 _ rfl
  have q2 := box_cell k0 2 _ rfl
  have q3 := box_cell k0 3 _ rfl
  have s0 := box_cell k1 0 _ rfl
  have s1 := box_cell k1 1 _ rfl
  have s2 := box_cell k1 2 _ rfl
  have s3 := box_cell k1 3 _ rfl
  have EQ := Lib.hid (file_eq_if x0 x1 x2 x3 y0 y1 y2 y3)
  clear h h' b0 k0 k1
  go_enter Try.func57, Try.ntmps57
  go_upto_region 1 with fail
  rw [← hW]
  clear hW
  cases e0 : (x0 == y0) with
  | false =>
    have HN := Lib.hid (EQ.out.trans (show _ = false by rw [e0]; rfl))
    go_wp2_with fail
    go_ret
    exact ⟨by rw [HN.out]; rfl, B0.out⟩
  | true =>
    cases e2 : (x2 == y2) with
    | false =>
      have HN := Lib.hid (EQ.out.trans (show _ = false by rw [e0, e2]; rfl))
      go_wp2_with fail
      go_ret
      exact ⟨by rw [HN.out]; rfl, B0.out⟩
    | true =>
      cases e3 : (x3 == y3) with
      | false =>
        have HN := Lib.hid (EQ.out.trans (show _ = false by rw [e0, e2, e3]; rfl))
        go_wp2_with fail
        go_ret
        exact ⟨by rw [HN.out]; rfl, B0.out⟩
      | true =>
        have HN := Lib.hid (EQ.out.trans (show _ = decide (x1 = y1) by rw [e0, e2, e3]; rfl))
        go_wp2_with fail
        clear q0 q1 q2 q3 s0 s1 s2 s3
        refine (ieqpages a a' n c n' c' x1 y1 W HI.out HI'.out hn hn').mono ?_
        rintro e w1 ⟨rfl, b1⟩
        have B1 := Lib.hid (B0.out.trans (b1.mono B0.out.size))
        clear b1
        go_wp2_with fail
        go_ret
        exact ⟨by rw [HN.out]; rfl, B1.out⟩
set_option maxRecDepth 100000 in
set_option maxHeartbeats 2000000 in
theorem ieqfiles (a a' : Option Addr) (n c n' c' : Nat) (F F' : List FileD) (w : World) (h : SeqIn fileRep w a n F) (h' : SeqIn fileRep w a' n' F') (hn : n ≤ 9223372036854775807) (hn' : n' ≤ 9223372036854775807) :
    Calls Try.prog 56 #[.slice a n c, .slice a' n' c', .func (.func 57) #[] #[]] w fun e w' => e = .returned (.bool (decide (F = F'))) ∧ Below w.heap.size w w' := by
  have HI := Lib.hid h
  have HI' := Lib.hid h'
  have HL := Lib.hid h.1
  have HL' := Lib.hid h'.1
  clear h h'
  by_cases hne : n = n'
  · subst hne
    go_enter Try.func56, Try.ntmps56
    go_wp2_with fail
    go_loopw [17] (fun i wr => ∃ (t : Nat), i = .int .i64 t ∧ t ≤ n ∧ Hid (∀ s, s < t → F[s]? = F'[s]?) ∧ Hid (Below w.heap.size w wr)) (fun i _ => n - (intOf i).toNat)
    case atStart => exact ⟨0, rfl, Nat.zero_le _, fun s hs => absurd hs (Nat.not_lt_zero _), Below.refl _ _⟩
    case round =>
      obtain ⟨t, rfl, ht, hsm, hwr⟩ := hrel
      by_cases hlt : t < n
      · have htl : t < F.length := by have := HL.out; omega
        have htl' : t < F'.length := by have := HL'.out; omega
        obtain ⟨f, hf⟩ : ∃ f, F[t]? = some f := ⟨F[t], by simp [htl]⟩
        obtain ⟨f', hf'⟩ : ∃ f, F'[t]? = some f := ⟨F'[t], by simp [htl']⟩
        have HF := Lib.hid hf
        have HF' := Lib.hid hf'
        obtain ⟨b, o, hd, rfl, hbl, hce, hin⟩ := HI.out.el hf
        obtain ⟨b', o', hd', rfl, hbl', hce', hin'⟩ := HI'.out.el hf'
        obtain ⟨x0, x1, x2, x3⟩ := f
        obtain ⟨y0, y1, y2, y3⟩ := f'
        obtain ⟨⟨d, k, m⟩, ⟨⟩⟩ := hd
        obtain ⟨⟨d', k', m'⟩, ⟨⟩⟩ := hd'
        have d0 : wr.cell? ⟨b, o + t * 4, none⟩ = some (.int .i64 x0) := (hwr.out.cell hbl).trans (hce 0 _ rfl)
        have d1 : wr.cell? ⟨b, o + t * 4 + 1, none⟩ = some (.slice d k m) := (hwr.out.cell hbl).trans (hce 1 _ rfl)
        have d2 : wr.cell? ⟨b, o + t * 4 + 2, none⟩ = some (.int .i64 x2) := (hwr.out.cell hbl).trans (hce 2 _ rfl)
        have d3 : wr.cell? ⟨b, o + t * 4 + 3, none⟩ = some (.bool x3) := (hwr.out.cell hbl).trans (hce 3 _ rfl)
        have e0 : (wr.alloc (.cells #[.int .i64 x0, .slice d k m, .int .i64 x2, .bool x3] 59)).cell? ⟨b', o' + t * 4, none⟩ = some (.int .i64 y0) := Lib.cell?_alloc_some _ ((hwr.out.cell hbl').trans (hce' 0 _ rfl))
        have e1 : (wr.alloc (.cells #[.int .i64 x0, .slice d k m, .int .i64 x2, .bool x3] 59)).cell? ⟨b', o' + t * 4 + 1, none⟩ = some (.slice d' k' m') := Lib.cell?_alloc_some _ ((hwr.out.cell hbl').trans (hce' 1 _ rfl))
        have e2 : (wr.alloc (.cells #[.int .i64 x0, .slice d k m, .int .i64 x2, .bool x3] 59)).cell? ⟨b', o' + t * 4 + 2, none⟩ = some (.int .i64 y2) := Lib.cell?_alloc_some _ ((hwr.out.cell hbl').trans (hce' 2 _ rfl))
        have e3 : (wr.alloc (.cells #[.int .i64 x0, .slice d k m, .int .i64 x2, .bool x3] 59)).cell? ⟨b', o' + t * 4 + 3, none⟩ = some (.bool y3) := Lib.cell?_alloc_some _ ((hwr.out.cell hbl').trans (hce' 3 _ rfl))
        have IN := Lib.hid (show SeqIn pageRep w d k x1 from hin.2.1.1)
        have IN' := Lib.hid (show SeqIn pageRep w d' k' y1 from hin'.2.1.1)
        clear hce hce' hin hin' 
        obtain ⟨v0, hv0⟩ : ∃ v, v = wr.heap.size := ⟨_, rfl⟩
        obtain ⟨w5, hw5⟩ : ∃ u, u = (wr.alloc (.cells #[.int .i64 x0, .slice d k m, .int .i64 x2, .bool x3] 59)).alloc (.cells #[.int .i64 y0, .slice d' k' m', .int .i64 y2, .bool y3] 59) := ⟨_, rfl⟩
        obtain ⟨b5, k5, k6⟩ := boxes2 wr w5 hw5
        rw [← hv0] at k5 k6
        have K5 := Lib.hid k5
        have K6 := Lib.hid k6
        have B5 := Lib.hid (hwr.out.trans (b5.mono hwr.out.size))
        have hsz : wr.heap.size + 1 = v0 + 1 := by omega
        clear b5 k5 k6 hf hf'
        go_upto_region 7 with fail
        rw [← hw5, ← hv0]
        clear hw5 hv0 hsz d0 d1 d2 d3 e0 e1 e2 e3
        have u0 := box_cell K5.out 0 _ rfl
        have z0 := box_cell K6.out 0 _ rfl
        have u1 := box_cell K5.out 1 _ rfl
        have z1 := box_cell K6.out 1 _ rfl
        have u2 := box_cell K5.out 2 _ rfl
        have z2 := box_cell K6.out 2 _ rfl
        have u3 := box_cell K5.out 3 _ rfl
        have z3 := box_cell K6.out 3 _ rfl
        go_wp2_with fail
        clear u0 u1 u2 u3 z0 z1 z2 z3
        refine (iequalfile x0 d k m x1 x2 x3 y0 d' k' m' y1 y2 y3 w5 (IN.out.keep B5.out) (IN'.out.keep B5.out)).mono ?_
        rintro e w6 ⟨rfl, b6⟩
        have B6 := Lib.hid (B5.out.trans (b6.mono B5.out.size))
        clear b6
        cases hd : decide ((⟨x0, x1, x2, x3⟩ : FileD) = ⟨y0, y1, y2, y3⟩) with
        | true =>
          have HE := Lib.hid (of_decide_eq_true hd)
          clear hd
          go_wp2_with fail
          go_roundw
          case rel =>
            refine ⟨t + 1, by go_num, by omega, fun s hs => ?_, B6⟩
            rcases Nat.lt_or_ge s t with h1 | h1
            · exact hsm.out s h1
            · obtain rfl : s = t := by omega
              rw [HF.out, HF'.out, HE.out]
          case measure => simp [intOf]; omega
        | false =>
          have HN := Lib.hid (show decide (F = F') = false from decide_eq_false fun e => of_decide_eq_false hd (by
            have h1 := HF.out
            rw [e, HF'.out] at h1
            exact (Option.some.inj h1).symm))
          clear hd
          go_wp2_with fail
          go_ret
          exact ⟨by rw [HN.out]; rfl, B6.out⟩
      · have HN := Lib.hid (show decide (F = F') = true from decide_eq_true (List.ext_getElem? fun s => by
          rcases Nat.lt_or_ge s t with h1 | h1
          · exact hsm.out s h1
          · rw [List.getElem?_eq_none (by have := HL.out; omega), List.getElem?_eq_none (by have := HL'.out; omega)]))
        go_wp2_with fail
        go_ret
        exact ⟨by rw [HN.out]; rfl, hwr.out⟩
  · have HN := Lib.hid (show decide (F = F') = false from decide_eq_false fun e => hne (by rw [← HL.out, ← HL'.out, e]))
    go_enter Try.func56, Try.ntmps56
    have hne' : ((n : Int) != (n' : Int)) = true := by
      rw [bne_iff_ne]; omega
    go_wp2_with fail
    go_ret
    exact ⟨by rw [HN.out]; rfl, Below.refl _ _⟩
set_option maxRecDepth 100000 in
set_option maxHeartbeats 1000000 in
theorem iequal (a : Option Addr) (n c : Nat) (X : DiskD) (a' : Option Addr) (n' c' : Nat) (Y : DiskD) (w : World) (h : diskRep.inn w X ((a, n, c), ())) (h' : diskRep.inn w Y ((a', n', c'), ())) :
    Calls Try.prog 32 #[.agg #[.slice a n c, .int .i64 X.fNextName], .agg #[.slice a' n' c', .int .i64 Y.fNextName]] w fun e w' => e = .returned (.bool (decide (X = Y))) ∧ Below w.heap.size w w' := by
  obtain ⟨W, hW⟩ : ∃ W, W = (w.alloc (.cells #[.slice a n c, .int .i64 X.fNextName] 31)).alloc (.cells #[.slice a' n' c', .int .i64 Y.fNextName] 31) := ⟨_, rfl⟩
  obtain ⟨b0, k0, k1⟩ := boxes2 w W hW
  have B0 := Lib.hid b0
  have HI := Lib.hid (disk_in (h.keep b0)).1
  have HI' := Lib.hid (disk_in (h'.keep b0)).1
  have hn := (disk_len h).2
  have hn' := (disk_len h').2
  unfold maxLen at hn hn'
  have q0 := box_cell k0 0 _ rfl
  have q1 := box_cell k0 1 _ rfl
  have s0 := box_cell k1 0 _ rfl
  have s1 := box_cell k1 1 _ rfl
  have EQ : Hid (decide (X = Y) = ((X.fNextName == Y.fNextName) && decide (X.fFiles = Y.fFiles))) := Lib.hid (by
    cases X; cases Y
    rename_i x0 x1 y0 y1
    by_cases h0 : x0 = y0 <;> by_cases h1 : x1 = y1 <;> simp [h0, h1])
  clear h h' b0 k0 k1
  go_enter Try.func32, Try.ntmps32
  go_upto_region 1 with fail
  rw [← hW]
  clear hW
  cases e0 : (X.fNextName == Y.fNextName) with
  | false =>
    have HN := Lib.hid (EQ.out.trans (show _ = false by rw [e0]; rfl))
    go_wp2_with fail
    go_ret
    exact ⟨by rw [HN.out]; rfl, B0.out⟩
  | true =>
    have HN := Lib.hid (EQ.out.trans (show _ = decide (X.fFiles = Y.fFiles) by rw [e0]; rfl))
    go_wp2_with fail
    clear q0 q1 s0 s1
    refine (ieqfiles a a' n c n' c' X.fFiles Y.fFiles W HI.out HI'.out hn hn').mono ?_
    rintro e w1 ⟨rfl, b1⟩
    have B1 := Lib.hid (B0.out.trans (b1.mono B0.out.size))
    clear b1
    go_wp2_with fail
    go_ret
    exact ⟨by rw [HN.out]; rfl, B1.out⟩
end Go.Proofs.Ythbifibnnhikjaa
