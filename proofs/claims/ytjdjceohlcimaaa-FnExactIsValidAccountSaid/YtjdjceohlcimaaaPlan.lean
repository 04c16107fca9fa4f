/- A region that draws its order, walked once along a plan: operations that yield one value in every world that is kept (loads, addresses, arithmetic) as soon as they may come up, the operations that make or write memory one behind the other; the last ones may write what the loads have read. No function of the program. -/
import Derived.OrdersHeld
import Derived.Deep.RegionHeld
namespace Go.Proofs.Ytjdjceohlcimaaa
open Go

/-- One step of a plan: an operation that yields one value in every world that is kept; an operation behind which the world is kept. -/
inductive PStep where
  | q (i : Nat)
  | m (i : Nat)
/-- A plan: steps, and places where either of two operations may come up first. -/
inductive Pl where
  | nil
  | q (i : Nat) (ps : Pl)
  | m (i : Nat) (ps : Pl)
  | alt (i : Nat) (ps1 : Pl) (j : Nat) (ps2 : Pl)
def Pl.of : List PStep → Pl
  | [] => .nil
  | .q i :: ps => .q i (Pl.of ps)
  | .m i :: ps => .m i (Pl.of ps)
def Pl.len : Pl → Nat
  | .nil => 0
  | .q _ ps => ps.len + 1
  | .m _ ps => ps.len + 1
  | .alt _ ps1 _ _ => ps1.len + 1
section
variable {P : Program} {ops : Array Oper} {Q : Exit → Act → World → Prop} {md : Region.Mode} {S : World → Prop}

/-- Whatever order is picked from here on, and S holds behind every operation but the late ones. -/
def wpAnyP (P : Program) (md : Region.Mode) (ops : Array Oper) (Q : Exit → Act → World → Prop) (S : World → Prop) (late : Nat → Bool) : Nat → Array Bool → Act → World → Prop
  | 0, listed, a, w => Region.ready md ops listed = [] ∧ Q .normal a w
  | fuel + 1, listed, a, w =>
    (Region.ready md ops listed = [] → Q .normal a w) ∧
    ∀ i ∈ Region.ready md ops listed, wpOp P ops Q i (fun a' w' => (late i = false → S w') ∧ wpAnyP P md ops Q S late fuel (listed.setIfInBounds i true) a' w') a w
theorem wpAny_of_P {late : Nat → Bool} : ∀ (fuel : Nat) (listed : Array Bool) (a : Act) (w : World), wpAnyP P md ops Q S late fuel listed a w → wpAny P md ops Q fuel listed a w
  | 0, _, _, _, h => h
  | fuel + 1, _, _, _, h => ⟨h.1, fun i hi => wpOp_mono (fun a' w' h' => wpAny_of_P fuel _ a' w' h'.2) (h.2 i hi)⟩
/-- The operations that wait for i, some through others. -/
def waiters (md : Region.Mode) (ops : Array Oper) (i : Nat) : Array Bool :=
  (List.range ops.size).foldl (fun D k => D.push (match ops[k]? with | some o => o.after.any (fun e => Region.binds md e && (e.on == i || D.getD e.on false)) | none => false)) #[]
/-- All late operations wait for i, and none of those that wait for it has come up. -/
def lateB (md : Region.Mode) (ops : Array Oper) (late : Nat → Bool) (listed : Array Bool) (i : Nat) : Bool :=
  (List.range ops.size).all fun d => (!late d || (waiters md ops i).getD d false) && (!(waiters md ops i).getD d false ||
    (!listed.getD d false && (match ops[d]? with | some o => o.after.any (fun e => Region.binds md e && (e.on == i || ((waiters md ops i).getD e.on false && decide (e.on < ops.size)))) | none => false)))
/-- Nothing that waits for i comes up ahead of i. -/
theorem not_waiting {D : Nat → Bool} {i j : Nat} {listed : Array Bool} (hi : listed.getD i false = false) (hD : ∀ d, d < ops.size → D d = true → listed.getD d false = false ∧ ∃ o, ops[d]? = some o ∧ ∃ e ∈ o.after, Region.binds md e = true ∧ (e.on = i ∨ (D e.on = true ∧ e.on < ops.size)))
    (hj : j ∈ Region.ready md ops listed) : D j = false := by
  cases h : D j with
  | false => rfl
  | true =>
    obtain ⟨-, oj, hoj, hall⟩ := mem_ready.1 hj
    have hjl : j < ops.size := (Array.getElem?_eq_some_iff.1 hoj).1
    obtain ⟨-, o, ho, e, he, hb, hor⟩ := hD j hjl h
    rw [hoj] at ho
    cases ho
    have h1 := hall e he hb
    have h2 : listed.getD e.on false = false := by
      rcases hor with rfl | ⟨h3, h4⟩
      · exact hi
      · exact (hD _ h4 h3).1
    rw [h2] at h1
    cases h1
/-- An operation that yields one value in every world that is kept may be taken first, if all late operations wait for it. -/
theorem wpAnyP_first {late D : Nat → Bool} {i : Nat} {oi : Oper} {v : Value} (hi : ops[i]? = some oi) (hsel : ∀ (j : Nat) (o : Oper) cs b, ops[j]? = some o → o.op ≠ .select cs b)
    (hQ : ∀ c a w, Q (.panic c) (a.put oi.dst v) w → Q (.panic c) a w) (hlate : ∀ d, d < ops.size → late d = true → D d = true) (hDi : D i = false) :
    ∀ (fuel : Nat) (listed : Array Bool) (a : Act) (w : World),
      (∀ j oj, ops[j]? = some oj → j ≠ i → listed.getD j true = false → (∀ e ∈ oj.after, Region.binds md e = true → e.on ≠ i) → oi.apart ops oj = true) →
      (∀ d, d < ops.size → D d = true → listed.getD d false = false ∧ ∃ o, ops[d]? = some o ∧ ∃ e ∈ o.after, Region.binds md e = true ∧ (e.on = i ∨ (D e.on = true ∧ e.on < ops.size))) →
      i ∈ Region.ready md ops listed → YieldsIf P ops S oi v a → S w →
      wpAnyP P md ops Q S late fuel (listed.setIfInBounds i true) (a.put oi.dst v) w → wpAnyP P md ops Q S late (fuel + 1) listed a w := by
  intro fuel
  induction fuel with
  | zero =>
    intro listed a w _ hD hr hy hS H
    refine ⟨fun h => (by rw [h] at hr; cases hr), fun j hj => ?_⟩
    by_cases hji : j = i
    · subst hji; exact hy.wpOp hi hS ⟨fun _ => hS, H⟩
    · have := ready_mono hj hji
      rw [H.1] at this
      cases this
  | succ fuel ih =>
    intro listed a w hfree hD hr hy hS H
    refine ⟨fun h => (by rw [h] at hr; cases hr), fun j hj => ?_⟩
    by_cases hji : j = i
    · subst hji; exact hy.wpOp hi hS ⟨fun _ => hS, H⟩
    · have h1 := H.2 j (ready_mono hj hji)
      obtain ⟨hjun, oj, hoj, hall⟩ := mem_ready.1 hj
      have hiu : listed.getD i false = false := by
        have h0 := (mem_ready.1 hr).1
        rcases Nat.lt_or_ge i listed.size with h' | h'
        · simp [h'] at h0 ⊢; exact h0
        · simp [Array.getElem?_eq_none h'] at h0 ⊢
      have hnot : ∀ e ∈ oj.after, Region.binds md e = true → e.on ≠ i := fun e he hb heq => by
        have h1 := hall e he hb
        rw [heq, hiu] at h1
        cases h1
      have hDj := not_waiting hiu hD hj
      have hjl : j < ops.size := (Array.getElem?_eq_some_iff.1 hoj).1
      have hlj : late j = false := by
        cases h : late j with
        | false => rfl
        | true => rw [hlate j hjl h] at hDj; cases hDj
      have h2 := wpOp_putIf hoj (hfree j oj hoj hji hjun hnot) (fun cs b => hsel i oi cs b hi) (fun cs b => hsel j oj cs b hoj) hQ hy h1
      have hfree' : ∀ k ok, ops[k]? = some ok → k ≠ i → (listed.setIfInBounds j true).getD k true = false →
          (∀ e ∈ ok.after, Region.binds md e = true → e.on ≠ i) → oi.apart ops ok = true := fun k ok hk hki hun hno => by
        refine hfree k ok hk hki ?_ hno
        by_cases hjk : j = k
        · subst hjk; exact hjun
        · rw [getD_set_ne true hjk] at hun; exact hun
      have hD' : ∀ d, d < ops.size → D d = true → (listed.setIfInBounds j true).getD d false = false ∧ ∃ o, ops[d]? = some o ∧ ∃ e ∈ o.after, Region.binds md e = true ∧ (e.on = i ∨ (D e.on = true ∧ e.on < ops.size)) := fun d hd h => by
        have hne : j ≠ d := fun e => by rw [e, h] at hDj; cases hDj
        rw [getD_set_ne false hne]
        exact hD d hd h
      refine wpOp_mono (fun a' w' h3 => ⟨h3.2.1, ih (listed.setIfInBounds j true) a' w' hfree' hD' (ready_mono hr (Ne.symm hji)) h3.1 (h3.2.1 hlj) ?_⟩) h2
      rw [Array.setIfInBounds_comm _ _ hji]
      exact h3.2.2
/-! ### The walk along a plan -/
def wpZ (P : Program) (ops : Array Oper) (Q : Exit → Act → World → Prop) : List Nat → Act → World → Prop
  | [], a, w => Q .normal a w
  | i :: zs, a, w => wpOp P ops Q i (wpZ P ops Q zs) a w
def wpPi (P : Program) (ops : Array Oper) (Q : Exit → Act → World → Prop) (S : World → Prop) (zs : List Nat) : Pl → Act → World → Prop
  | .nil, a, w => wpZ P ops Q zs a w
  | .q i ps, a, w => ∃ o v, ops[i]? = some o ∧ (∀ c a w, Q (.panic c) (a.put o.dst v) w → Q (.panic c) a w) ∧ YieldsIf P ops S o v a ∧ wpPi P ops Q S zs ps (a.put o.dst v) w
  | .m i ps, a, w => wpOp P ops Q i (fun a' w' => S w' ∧ (S w' → wpPi P ops Q S zs ps a' w')) a w
  | .alt i ps1 j ps2, a, w => wpOp P ops Q i (fun a' w' => S w' ∧ (S w' → wpPi P ops Q S zs ps1 a' w')) a w ∧ wpOp P ops Q j (fun a' w' => S w' ∧ (S w' → wpPi P ops Q S zs ps2 a' w')) a w
def planZ (md : Region.Mode) (ops : Array Oper) : List Nat → Array Bool → Bool
  | [], listed => (Region.ready md ops listed).isEmpty
  | i :: zs, listed => decide (Region.ready md ops listed = [i]) && planZ md ops zs (listed.setIfInBounds i true)
def planP (md : Region.Mode) (ops : Array Oper) (zs : List Nat) : Pl → Array Bool → Bool
  | .nil, listed => planZ md ops zs listed
  | .q i ps, listed => (Region.ready md ops listed).contains i && Region.free md ops listed i && lateB md ops (fun d => zs.contains d) listed i && !(waiters md ops i).getD i false && planP md ops zs ps (listed.setIfInBounds i true)
  | .m i ps, listed => decide (Region.ready md ops listed = [i]) && !zs.contains i && planP md ops zs ps (listed.setIfInBounds i true)
  | .alt i ps1 j ps2, listed => decide (Region.ready md ops listed = [i, j]) && !zs.contains i && !zs.contains j && decide (ps1.len = ps2.len) && planP md ops zs ps1 (listed.setIfInBounds i true) && planP md ops zs ps2 (listed.setIfInBounds j true)
/-- The plan fits the region. -/
def planB (md : Region.Mode) (ops : Array Oper) (ps : Pl) (zs : List Nat) : Bool := Region.noSelect ops && decide (ps.len + zs.length = ops.size) && planP md ops zs ps (Array.replicate ops.size false)
theorem wpAnyP_of_z {late : Nat → Bool} : ∀ (zs : List Nat) (listed : Array Bool) (a : Act) (w : World), (∀ i ∈ zs, late i = true) → planZ md ops zs listed = true → wpZ P ops Q zs a w → wpAnyP P md ops Q S late zs.length listed a w
  | [], _, _, _, _, hp, h => ⟨by simpa [planZ] using hp, h⟩
  | i :: zs, listed, a, w, hl, hp, h => by
    simp only [planZ, Bool.and_eq_true, decide_eq_true_eq] at hp
    refine ⟨fun h0 => (by rw [hp.1] at h0; cases h0), fun j hj => ?_⟩
    rw [hp.1] at hj
    obtain rfl := List.mem_singleton.1 hj
    exact wpOp_mono (fun a' w' h' => ⟨fun h => (by rw [hl _ (List.mem_cons_self ..)] at h; cases h), wpAnyP_of_z zs _ a' w' (fun k hk => hl k (List.mem_cons_of_mem _ hk)) hp.2 h'⟩) h
theorem wpAnyP_of_pi {zs : List Nat} (hs : Region.noSelect ops = true) : ∀ (ps : Pl) (listed : Array Bool) (a : Act) (w : World), planP md ops zs ps listed = true → S w → wpPi P ops Q S zs ps a w → wpAnyP P md ops Q S (fun d => zs.contains d) (ps.len + zs.length) listed a w
  | .nil, listed, a, w, hp, _, h => by
    rw [Pl.len, Nat.zero_add]
    exact wpAnyP_of_z zs listed a w (fun i hi => by simpa using hi) hp h
  | .q i ps, listed, a, w, hp, hS, h => by
    simp only [planP, Bool.and_eq_true, Bool.not_eq_true'] at hp
    obtain ⟨⟨⟨⟨hr, hf⟩, hl⟩, hw⟩, hp⟩ := hp
    obtain ⟨o, v, ho, hQ, hy, h⟩ := h
    unfold lateB at hl
    rw [List.all_eq_true] at hl
    rw [Pl.len, Nat.add_right_comm]
    refine wpAnyP_first (D := fun d => (waiters md ops i).getD d false) ho (Region.noSelect_spec hs) hQ (fun d hd hl2 => ?_) hw _ _ _ _ (Region.free_spec ho hf) (fun d hd hD => ?_) (by simpa using hr) hy hS (wpAnyP_of_pi hs ps _ _ _ hp hS h)
    · have := hl d (List.mem_range.2 hd)
      rw [Bool.and_eq_true] at this
      have h3 := this.1
      rw [Bool.or_eq_true] at h3
      rcases h3 with h1 | h1
      · have h4 : (!zs.contains d) = true := h1; rw [show zs.contains d = true from hl2] at h4; cases h4
      · exact h1
    · have := hl d (List.mem_range.2 hd)
      rw [Bool.and_eq_true] at this
      have h3 := this.2
      rw [Bool.or_eq_true] at h3
      rcases h3 with h1 | h1
      · rw [show (waiters md ops i).getD d false = true from hD] at h1; cases h1
      · rw [Bool.and_eq_true, Bool.not_eq_true'] at h1
        refine ⟨h1.1, ?_⟩
        have h2 := h1.2
        split at h2
        · rename_i o' ho'
          rw [Array.any_eq_true] at h2
          obtain ⟨k, hk, he⟩ := h2
          rw [Bool.and_eq_true, Bool.or_eq_true, Bool.and_eq_true, decide_eq_true_eq] at he
          exact ⟨o', ho', o'.after[k], Array.getElem_mem hk, he.1, he.2.imp (fun h => by simpa using h) id⟩
        · cases h2
  | .m i ps, listed, a, w, hp, hS, h => by
    simp only [planP, Bool.and_eq_true, decide_eq_true_eq] at hp
    obtain ⟨⟨hr, hz⟩, hp⟩ := hp
    rw [Pl.len, Nat.add_right_comm]
    refine ⟨fun h0 => (by rw [hr] at h0; cases h0), fun j hj => ?_⟩
    rw [hr] at hj
    obtain rfl := List.mem_singleton.1 hj
    exact wpOp_mono (fun a' w' h' => ⟨fun _ => h'.1, wpAnyP_of_pi hs ps _ a' w' hp h'.1 (h'.2 h'.1)⟩) h
  | .alt i ps1 j ps2, listed, a, w, hp, hS, h => by
    simp only [planP, Bool.and_eq_true, decide_eq_true_eq] at hp
    obtain ⟨⟨⟨⟨⟨hr, hz1⟩, hz2⟩, hl⟩, hp1⟩, hp2⟩ := hp
    rw [Pl.len, Nat.add_right_comm]
    refine ⟨fun h0 => (by rw [hr] at h0; cases h0), fun k hk => ?_⟩
    rw [hr] at hk
    rcases List.mem_cons.1 hk with rfl | hk
    · exact wpOp_mono (fun a' w' h' => ⟨fun _ => h'.1, wpAnyP_of_pi hs ps1 _ a' w' hp1 h'.1 (h'.2 h'.1)⟩) h.1
    · obtain rfl := List.mem_singleton.1 hk
      rw [hl]
      exact wpOp_mono (fun a' w' h' => ⟨fun _ => h'.1, wpAnyP_of_pi hs ps2 _ a' w' hp2 h'.1 (h'.2 h'.1)⟩) h.2
theorem region_plan {id : Nat} {a : Act} {w : World} (S : World → Prop) (ps : Pl) (zs : List Nat) (hm : P.follows .mixedOrders = true) (hB : planB .any ops ps zs = true) (hS : S w.drew) (h : S w.drew → wpPi P ops Q S zs ps a w.drew) : (Code.region id ops true).wp P Q a w := by
  simp only [planB, Bool.and_eq_true, decide_eq_true_eq] at hB
  obtain ⟨⟨h1, h2⟩, h3⟩ := hB
  refine wp_region_any hm (wpAny_of_P (S := S) (late := fun d => zs.contains d) _ _ _ _ ?_)
  rw [← h2]
  rw [← h2] at h3
  exact wpAnyP_of_pi h1 ps _ a w.drew h3 hS (h hS)
/-! ### Its moves -/
def nthO : List Oper → Nat → Option Oper
  | [], _ => none
  | o :: _, 0 => some o
  | _ :: l, n + 1 => nthO l n
theorem nthO_eq : ∀ (l : List Oper) (i : Nat), l.toArray[i]? = nthO l i
  | [], _ => by simp [nthO]
  | o :: l, 0 => by simp [nthO]
  | o :: l, n + 1 => by
    have := nthO_eq l n
    simpa [nthO] using this
variable {l : List Oper} {zs : List Nat} {ps ps1 ps2 : Pl} {a : Act} {w : World} {i : Nat} {o : Oper}
theorem pi_take {v : Value} (ho : nthO l i = some o) (hQ : ∀ c a w, Q (.panic c) (a.put o.dst v) w → Q (.panic c) a w) (hw : Region.wanted o (yielded l.toArray a.tmps) = true) (hy : ∀ w, S w → (execOp a.eval o).run P w = .ok (.value v) w)
    (h : wpPi P l.toArray Q S zs ps (a.put o.dst v) w) : wpPi P l.toArray Q S zs (.q i ps) a w := ⟨o, v, (nthO_eq l i).trans ho, hQ, .inl ⟨hw, hy⟩, h⟩
theorem pi_pass (ho : nthO l i = some o) (hQ : ∀ c a w, Q (.panic c) (a.put o.dst undef) w → Q (.panic c) a w) (hw : Region.wanted o (yielded l.toArray a.tmps) = false) (h : wpPi P l.toArray Q S zs ps (a.put o.dst undef) w) : wpPi P l.toArray Q S zs (.q i ps) a w :=
  ⟨o, undef, (nthO_eq l i).trans ho, hQ, .inr ⟨hw, rfl⟩, h⟩
theorem pi_step (ho : nthO l i = some o) (h : ∀ K' : Act → World → Prop, Shut (∀ a w, S w → (S w → wpPi P l.toArray Q S zs ps a w) → K' a w) → if Region.wanted o (yielded l.toArray a.tmps) = true then Oper.wp P o a w K' Q else K' (a.put o.dst undef) w) :
    wpPi P l.toArray Q S zs (.m i ps) a w := wpOp_step ((nthO_eq l i).trans ho) fun K' hK => h K' fun a w hS hW => hK a w ⟨hS, hW⟩
theorem pi_end (h : wpZ P l.toArray Q zs a w) : wpPi P l.toArray Q S zs .nil a w := h
theorem z_step (ho : nthO l i = some o) (h : ∀ K' : Act → World → Prop, Shut (∀ a w, wpZ P l.toArray Q zs a w → K' a w) → if Region.wanted o (yielded l.toArray a.tmps) = true then Oper.wp P o a w K' Q else K' (a.put o.dst undef) w) :
    wpZ P l.toArray Q (i :: zs) a w := wpOp_step ((nthO_eq l i).trans ho) h
theorem z_end (h : Q .normal a w) : wpZ P l.toArray Q [] a w := h
end
end Go.Proofs.Ytjdjceohlcimaaa
