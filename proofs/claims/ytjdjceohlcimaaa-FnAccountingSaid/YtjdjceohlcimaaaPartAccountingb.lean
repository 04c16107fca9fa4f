/- Texts joined: Plan VD VF VG VTy VM VN. -/
import Derived.Test.YtjdjceohlcimaaaPartAccountinga
import Derived.OrdersHeld
import Derived.Deep.RegionHeld
/- A region that draws its order, walked once along a plan: operations that yield one value in every world that is kept (loads, addresses, arithmetic) as soon as they may come up, the operations that make or write memory one behind the other; the last ones may write what the loads have read. No function of the program. -/
namespace Go.Proofs.Ytjdjceohlcimaaa
open Go

/-- One step of a plan: an operation that yields one value in every world that is kept; an operation behind which the world is kept. -/
inductive PStep where
  | q (i : Nat)
  | m (i : Nat)
/-- A plan: steps, and places where either of two operations may come up first. -/
inductive Pl where
  | nil
  | q (i : Nat) (ps : Pl)
  | m (i : Nat) (ps : Pl)
  | alt (i : Nat) (ps1 : Pl) (j : Nat) (ps2 : Pl)
def Pl.of : List PStep → Pl
  | [] => .nil
  | .q i :: ps => .q i (Pl.of ps)
  | .m i :: ps => .m i (Pl.of ps)
def Pl.len : Pl → Nat
  | .nil => 0
  | .q _ ps => ps.len + 1
  | .m _ ps => ps.len + 1
  | .alt _ ps1 _ _ => ps1.len + 1
section
variable {P : Program} {ops : Array Oper} {Q : Exit → Act → World → Prop} {md : Region.Mode} {S : World → Prop}

/-- Whatever order is picked from here on, and S holds behind every operation but the late ones. -/
def wpAnyP (P : Program) (md : Region.Mode) (ops : Array Oper) (Q : Exit → Act → World → Prop) (S : World → Prop) (late : Nat → Bool) : Nat → Array Bool → Act → World → Prop
  | 0, listed, a, w => Region.ready md ops listed = [] ∧ Q .normal a w
  | fuel + 1, listed, a, w =>
    (Region.ready md ops listed = [] → Q .normal a w) ∧
    ∀ i ∈ Region.ready md ops listed, wpOp P ops Q i (fun a' w' => (late i = false → S w') ∧ wpAnyP P md ops Q S late fuel (listed.setIfInBounds i true) a' w') a w
theorem wpAny_of_P {late : Nat → Bool} : ∀ (fuel : Nat) (listed : Array Bool) (a : Act) (w : World), wpAnyP P md ops Q S late fuel listed a w → wpAny P md ops Q fuel listed a w
  | 0, _, _, _, h => h
  | fuel + 1, _, _, _, h => ⟨h.1, fun i hi => wpOp_mono (fun a' w' h' => wpAny_of_P fuel _ a' w' h'.2) (h.2 i hi)⟩
/-- The operations that wait for i, some through others. -/
def waiters (md : Region.Mode) (ops : Array Oper) (i : Nat) : Array Bool :=
  (List.range ops.size).foldl (fun D k => D.push (match ops[k]? with | some o => o.after.any (fun e => Region.binds md e && (e.on == i || D.getD e.on false)) | none => false)) #[]
/-- All late operations wait for i, and none of those that wait for it has come up. -/
def lateB (md : Region.Mode) (ops : Array Oper) (late : Nat → Bool) (listed : Array Bool) (i : Nat) : Bool :=
  (List.range ops.size).all fun d => (!late d || (waiters md ops i).getD d false) && (!(waiters md ops i).getD d false ||
    (!listed.getD d false && (match ops[d]? with | some o => o.after.any (fun e => Region.binds md e && (e.on == i || ((waiters md ops i).getD e.on false && decide (e.on < ops.size)))) | none => false)))
/-- Nothing that waits for i comes up ahead of i. -/
theorem not_waiting {D : Nat → Bool} {i j : Nat} {listed : Array Bool} (hi : listed.getD i false = false) (hD : ∀ d, d < ops.size → D d = true → listed.getD d false = false ∧ ∃ o, ops[d]? = some o ∧ ∃ e ∈ o.after, Region.binds md e = true ∧ (e.on = i ∨ (D e.on = true ∧ e.on < ops.size)))
    (hj : j ∈ Region.ready md ops listed) : D j = false := by
  cases h : D j with
  | false => rfl
  | true =>
    obtain ⟨-, oj, hoj, hall⟩ := mem_ready.1 hj
    have hjl : j < ops.size := (Array.getElem?_eq_some_iff.1 hoj).1
    obtain ⟨-, o, ho, e, he, hb, hor⟩ := hD j hjl h
    rw [hoj] at ho
    cases ho
    have h1 := hall e he hb
    have h2 : listed.getD e.on false = false := by
      rcases hor with rfl | ⟨h3, h4⟩
      · exact hi
      · exact (hD _ h4 h3).1
    rw [h2] at h1
    cases h1
/-- An operation that yields one value in every world that is kept may be taken first, if all late operations wait for it. -/
theorem wpAnyP_first {late D : Nat → Bool} {i : Nat} {oi : Oper} {v : Value} (hi : ops[i]? = some oi) (hsel : ∀ (j : Nat) (o : Oper) cs b, ops[j]? = some o → o.op ≠ .select cs b)
    (hQ : ∀ c a w, Q (.panic c) (a.put oi.dst v) w → Q (.panic c) a w) (hlate : ∀ d, d < ops.size → late d = true → D d = true) (hDi : D i = false) :
    ∀ (fuel : Nat) (listed : Array Bool) (a : Act) (w : World),
      (∀ j oj, ops[j]? = some oj → j ≠ i → listed.getD j true = false → (∀ e ∈ oj.after, Region.binds md e = true → e.on ≠ i) → oi.apart ops oj = true) →
      (∀ d, d < ops.size → D d = true → listed.getD d false = false ∧ ∃ o, ops[d]? = some o ∧ ∃ e ∈ o.after, Region.binds md e = true ∧ (e.on = i ∨ (D e.on = true ∧ e.on < ops.size))) →
      i ∈ Region.ready md ops listed → YieldsIf P ops S oi v a → S w →
      wpAnyP P md ops Q S late fuel (listed.setIfInBounds i true) (a.put oi.dst v) w → wpAnyP P md ops Q S late (fuel + 1) listed a w := by
  intro fuel
  induction fuel with
  | zero =>
    intro listed a w _ hD hr hy hS H
    refine ⟨fun h => (by rw [h] at hr; cases hr), fun j hj => ?_⟩
    by_cases hji : j = i
    · subst hji; exact hy.wpOp hi hS ⟨fun _ => hS, H⟩
    · have := ready_mono hj hji
      rw [H.1] at this
      cases this
  | succ fuel ih =>
    intro listed a w hfree hD hr hy hS H
    refine ⟨fun h => (by rw [h] at hr; cases hr), fun j hj => ?_⟩
    by_cases hji : j = i
    · subst hji; exact hy.wpOp hi hS ⟨fun _ => hS, H⟩
    · have h1 := H.2 j (ready_mono hj hji)
      obtain ⟨hjun, oj, hoj, hall⟩ := mem_ready.1 hj
      have hiu : listed.getD i false = false := by
        have h0 := (mem_ready.1 hr).1
        rcases Nat.lt_or_ge i listed.size with h' | h'
        · simp [h'] at h0 ⊢; exact h0
        · simp [Array.getElem?_eq_none h'] at h0 ⊢
      have hnot : ∀ e ∈ oj.after, Region.binds md e = true → e.on ≠ i := fun e he hb heq => by
        have h1 := hall e he hb
        rw [heq, hiu] at h1
        cases h1
      have hDj := not_waiting hiu hD hj
      have hjl : j < ops.size := (Array.getElem?_eq_some_iff.1 hoj).1
      have hlj : late j = false := by
        cases h : late j with
        | false => rfl
        | true => rw [hlate j hjl h] at hDj; cases hDj
      have h2 := wpOp_putIf hoj (hfree j oj hoj hji hjun hnot) (fun cs b => hsel i oi cs b hi) (fun cs b => hsel j oj cs b hoj) hQ hy h1
      have hfree' : ∀ k ok, ops[k]? = some ok → k ≠ i → (listed.setIfInBounds j true).getD k true = false →
          (∀ e ∈ ok.after, Region.binds md e = true → e.on ≠ i) → oi.apart ops ok = true := fun k ok hk hki hun hno => by
        refine hfree k ok hk hki ?_ hno
        by_cases hjk : j = k
        · subst hjk; exact hjun
        · rw [getD_set_ne true hjk] at hun; exact hun
      have hD' : ∀ d, d < ops.size → D d = true → (listed.setIfInBounds j true).getD d false = false ∧ ∃ o, ops[d]? = some o ∧ ∃ e ∈ o.after, Region.binds md e = true ∧ (e.on = i ∨ (D e.on = true ∧ e.on < ops.size)) := fun d hd h => by
        have hne : j ≠ d := fun e => by rw [e, h] at hDj; cases hDj
        rw [getD_set_ne false hne]
        exact hD d hd h
      refine wpOp_mono (fun a' w' h3 => ⟨h3.2.1, ih (listed.setIfInBounds j true) a' w' hfree' hD' (ready_mono hr (Ne.symm hji)) h3.1 (h3.2.1 hlj) ?_⟩) h2
      rw [Array.setIfInBounds_comm _ _ hji]
      exact h3.2.2
/-! ### The walk along a plan -/
def wpZ (P : Program) (ops : Array Oper) (Q : Exit → Act → World → Prop) : List Nat → Act → World → Prop
  | [], a, w => Q .normal a w
  | i :: zs, a, w => wpOp P ops Q i (wpZ P ops Q zs) a w
def wpPi (P : Program) (ops : Array Oper) (Q : Exit → Act → World → Prop) (S : World → Prop) (zs : List Nat) : Pl → Act → World → Prop
  | .nil, a, w => wpZ P ops Q zs a w
  | .q i ps, a, w => ∃ o v, ops[i]? = some o ∧ (∀ c a w, Q (.panic c) (a.put o.dst v) w → Q (.panic c) a w) ∧ YieldsIf P ops S o v a ∧ wpPi P ops Q S zs ps (a.put o.dst v) w
  | .m i ps, a, w => wpOp P ops Q i (fun a' w' => S w' ∧ (S w' → wpPi P ops Q S zs ps a' w')) a w
  | .alt i ps1 j ps2, a, w => wpOp P ops Q i (fun a' w' => S w' ∧ (S w' → wpPi P ops Q S zs ps1 a' w')) a w ∧ wpOp P ops Q j (fun a' w' => S w' ∧ (S w' → wpPi P ops Q S zs ps2 a' w')) a w
def planZ (md : Region.Mode) (ops : Array Oper) : List Nat → Array Bool → Bool
  | [], listed => (Region.ready md ops listed).isEmpty
  | i :: zs, listed => decide (Region.ready md ops listed = [i]) && planZ md ops zs (listed.setIfInBounds i true)
def planP (md : Region.Mode) (ops : Array Oper) (zs : List Nat) : Pl → Array Bool → Bool
  | .nil, listed => planZ md ops zs listed
  | .q i ps, listed => (Region.ready md ops listed).contains i && Region.free md ops listed i && lateB md ops (fun d => zs.contains d) listed i && !(waiters md ops i).getD i false && planP md ops zs ps (listed.setIfInBounds i true)
  | .m i ps, listed => decide (Region.ready md ops listed = [i]) && !zs.contains i && planP md ops zs ps (listed.setIfInBounds i true)
  | .alt i ps1 j ps2, listed => decide (Region.ready md ops listed = [i, j]) && !zs.contains i && !zs.contains j && decide (ps1.len = ps2.len) && planP md ops zs ps1 (listed.setIfInBounds i true) && planP md ops zs ps2 (listed.setIfInBounds j true)
/-- The plan fits the region. -/
def planB (md : Region.Mode) (ops : Array Oper) (ps : Pl) (zs : List Nat) : Bool := Region.noSelect ops && decide (ps.len + zs.length = ops.size) && planP md ops zs ps (Array.replicate ops.size false)
theorem wpAnyP_of_z {late : Nat → Bool} : ∀ (zs : List Nat) (listed : Array Bool) (a : Act) (w : World), (∀ i ∈ zs, late i = true) → planZ md ops zs listed = true → wpZ P ops Q zs a w → wpAnyP P md ops Q S late zs.length listed a w
  | [], _, _, _, _, hp, h => ⟨by simpa [planZ] using hp, h⟩
  | i :: zs, listed, a, w, hl, hp, h => by
    simp only [planZ, Bool.and_eq_true, decide_eq_true_eq] at hp
    refine ⟨fun h0 => (by rw [hp.1] at h0; cases h0), fun j hj => ?_⟩
    rw [hp.1] at hj
    obtain rfl := List.mem_singleton.1 hj
    exact wpOp_mono (fun a' w' h' => ⟨fun h => (by rw [hl _ (List.mem_cons_self ..)] at h; cases h), wpAnyP_of_z zs _ a' w' (fun k hk => hl k (List.mem_cons_of_mem _ hk)) hp.2 h'⟩) h
theorem wpAnyP_of_pi {zs : List Nat} (hs : Region.noSelect ops = true) : ∀ (ps : Pl) (listed : Array Bool) (a : Act) (w : World), planP md ops zs ps listed = true → S w → wpPi P ops Q S zs ps a w → wpAnyP P md ops Q S (fun d => zs.contains d) (ps.len + zs.length) listed a w
  | .nil, listed, a, w, hp, _, h => by
    rw [Pl.len, Nat.zero_add]
    exact wpAnyP_of_z zs listed a w (fun i hi => by simpa using hi) hp h
  | .q i ps, listed, a, w, hp, hS, h => by
    simp only [planP, Bool.and_eq_true, Bool.not_eq_true'] at hp
    obtain ⟨⟨⟨⟨hr, hf⟩, hl⟩, hw⟩, hp⟩ := hp
    obtain ⟨o, v, ho, hQ, hy, h⟩ := h
    unfold lateB at hl
    rw [List.all_eq_true] at hl
    rw [Pl.len, Nat.add_right_comm]
    refine wpAnyP_first (D := fun d => (waiters md ops i).getD d false) ho (Region.noSelect_spec hs) hQ (fun d hd hl2 => ?_) hw _ _ _ _ (Region.free_spec ho hf) (fun d hd hD => ?_) (by simpa using hr) hy hS (wpAnyP_of_pi hs ps _ _ _ hp hS h)
    · have := hl d (List.mem_range.2 hd)
      rw [Bool.and_eq_true] at this
      have h3 := this.1
      rw [Bool.or_eq_true] at h3
      rcases h3 with h1 | h1
      · have h4 : (!zs.contains d) = true := h1; rw [show zs.contains d = true from hl2] at h4; cases h4
      · exact h1
    · have := hl d (List.mem_range.2 hd)
      rw [Bool.and_eq_true] at this
      have h3 := this.2
      rw [Bool.or_eq_true] at h3
      rcases h3 with h1 | h1
      · rw [show (waiters md ops i).getD d false = true from hD] at h1; cases h1
      · rw [Bool.and_eq_true, Bool.not_eq_true'] at h1
        refine ⟨h1.1, ?_⟩
        have h2 := h1.2
        split at h2
        · rename_i o' ho'
          rw [Array.any_eq_true] at h2
          obtain ⟨k, hk, he⟩ := h2
          rw [Bool.and_eq_true, Bool.or_eq_true, Bool.and_eq_true, decide_eq_true_eq] at he
          exact ⟨o', ho', o'.after[k], Array.getElem_mem hk, he.1, he.2.imp (fun h => by simpa using h) id⟩
        · cases h2
  | .m i ps, listed, a, w, hp, hS, h => by
    simp only [planP, Bool.and_eq_true, decide_eq_true_eq] at hp
    obtain ⟨⟨hr, hz⟩, hp⟩ := hp
    rw [Pl.len, Nat.add_right_comm]
    refine ⟨fun h0 => (by rw [hr] at h0; cases h0), fun j hj => ?_⟩
    rw [hr] at hj
    obtain rfl := List.mem_singleton.1 hj
    exact wpOp_mono (fun a' w' h' => ⟨fun _ => h'.1, wpAnyP_of_pi hs ps _ a' w' hp h'.1 (h'.2 h'.1)⟩) h
  | .alt i ps1 j ps2, listed, a, w, hp, hS, h => by
    simp only [planP, Bool.and_eq_true, decide_eq_true_eq] at hp
    obtain ⟨⟨⟨⟨⟨hr, hz1⟩, hz2⟩, hl⟩, hp1⟩, hp2⟩ := hp
    rw [Pl.len, Nat.add_right_comm]
    refine ⟨fun h0 => (by rw [hr] at h0; cases h0), fun k hk => ?_⟩
    rw [hr] at hk
    rcases List.mem_cons.1 hk with rfl | hk
    · exact wpOp_mono (fun a' w' h' => ⟨fun _ => h'.1, wpAnyP_of_pi hs ps1 _ a' w' hp1 h'.1 (h'.2 h'.1)⟩) h.1
    · obtain rfl := List.mem_singleton.1 hk
      rw [hl]
      exact wpOp_mono (fun a' w' h' => ⟨fun _ => h'.1, wpAnyP_of_pi hs ps2 _ a' w' hp2 h'.1 (h'.2 h'.1)⟩) h.2
theorem region_plan {id : Nat} {a : Act} {w : World} (S : World → Prop) (ps : Pl) (zs : List Nat) (hm : P.follows .mixedOrders = true) (hB : planB .any ops ps zs = true) (hS : S w.drew) (h : S w.drew → wpPi P ops Q S zs ps a w.drew) : (Code.region id ops true).wp P Q a w := by
  simp only [planB, Bool.and_eq_true, decide_eq_true_eq] at hB
  obtain ⟨⟨h1, h2⟩, h3⟩ := hB
  refine wp_region_any hm (wpAny_of_P (S := S) (late := fun d => zs.contains d) _ _ _ _ ?_)
  rw [← h2]
  rw [← h2] at h3
  exact wpAnyP_of_pi h1 ps _ a w.drew h3 hS (h hS)
/-! ### Its moves -/
def nthO : List Oper → Nat → Option Oper
  | [], _ => none
  | o :: _, 0 => some o
  | _ :: l, n + 1 => nthO l n
theorem nthO_eq : ∀ (l : List Oper) (i : Nat), l.toArray[i]? = nthO l i
  | [], _ => by simp [nthO]
  | o :: l, 0 => by simp [nthO]
  | o :: l, n + 1 => by
    have := nthO_eq l n
    simpa [nthO] using this
variable {l : List Oper} {zs : List Nat} {ps ps1 ps2 : Pl} {a : Act} {w : World} {i : Nat} {o : Oper}
theorem pi_take {v : Value} (ho : nthO l i = some o) (hQ : ∀ c a w, Q (.panic c) (a.put o.dst v) w → Q (.panic c) a w) (hw : Region.wanted o (yielded l.toArray a.tmps) = true) (hy : ∀ w, S w → (execOp a.eval o).run P w = .ok (.value v) w)
    (h : wpPi P l.toArray Q S zs ps (a.put o.dst v) w) : wpPi P l.toArray Q S zs (.q i ps) a w := ⟨o, v, (nthO_eq l i).trans ho, hQ, .inl ⟨hw, hy⟩, h⟩
theorem pi_pass (ho : nthO l i = some o) (hQ : ∀ c a w, Q (.panic c) (a.put o.dst undef) w → Q (.panic c) a w) (hw : Region.wanted o (yielded l.toArray a.tmps) = false) (h : wpPi P l.toArray Q S zs ps (a.put o.dst undef) w) : wpPi P l.toArray Q S zs (.q i ps) a w :=
  ⟨o, undef, (nthO_eq l i).trans ho, hQ, .inr ⟨hw, rfl⟩, h⟩
theorem pi_step (ho : nthO l i = some o) (h : ∀ K' : Act → World → Prop, Shut (∀ a w, S w → (S w → wpPi P l.toArray Q S zs ps a w) → K' a w) → if Region.wanted o (yielded l.toArray a.tmps) = true then Oper.wp P o a w K' Q else K' (a.put o.dst undef) w) :
    wpPi P l.toArray Q S zs (.m i ps) a w := wpOp_step ((nthO_eq l i).trans ho) fun K' hK => h K' fun a w hS hW => hK a w ⟨hS, hW⟩
theorem pi_end (h : wpZ P l.toArray Q zs a w) : wpPi P l.toArray Q S zs .nil a w := h
theorem z_step (ho : nthO l i = some o) (h : ∀ K' : Act → World → Prop, Shut (∀ a w, wpZ P l.toArray Q zs a w → K' a w) → if Region.wanted o (yielded l.toArray a.tmps) = true then Oper.wp P o a w K' Q else K' (a.put o.dst undef) w) :
    wpZ P l.toArray Q (i :: zs) a w := wpOp_step ((nthO_eq l i).trans ho) h
theorem z_end (h : Q .normal a w) : wpZ P l.toArray Q [] a w := h
end
end Go.Proofs.Ytjdjceohlcimaaa
/- States told by trees: a region that draws its order, walked along a plan. -/
namespace Go.Proofs.Ytjdjceohlcimaaa.V
open Go Go.RowKit
set_option linter.unusedVariables false
variable {P : Program} {E : Env} {N : Nat} {σ σ' τ : VS} {o : Oper} {a : Act} {w ws : World} {G Gs : Ghost} {Q : Exit → Act → World → Prop}
/-- Memory is as it was, but for what lies behind the objects' last cells. -/
structure SameT (E : Env) (τ : VS) (G : Ghost) (ws v : World) : Prop where
  below : Same E ws v
  block : ∀ b, b < ws.heap.size → v.heap[b]? = ws.heap[b]? ∨ ∃ (i ver : Nat) (ty : TypeId) (es : List (List T)) (n : Nat) (cs cs' : Array Value), τ.ob i = some (ver, .seq ty es) ∧ (G.vl i).ownBlock = some b ∧ Sz ty n ∧ ws.heap[b]? = some (.cells cs ty (0, 0)) ∧ v.heap[b]? = some (.cells cs' ty (0, 0)) ∧ cs'.size = cs.size ∧ cs'.toList.take (es.length * n) = cs.toList.take (es.length * n)
theorem SameT.refl (E : Env) (τ : VS) (G : Ghost) (w : World) : SameT E τ G w w := ⟨Same.refl _ _, fun _ _ => .inl rfl⟩
theorem root_ft (h : Rel E N τ a ws Gs) {i ver b : Nat} {ty : TypeId} {es : List (List T)} (hi : τ.ob i = some (ver, .seq ty es)) (hb : (Gs.vl i).ownBlock = some b) : Gs.ft i b := by
  obtain ⟨-, ho, -⟩ := h.objs i ver _ hi
  cases ho with
  | seq n hp hz hn xs hown Gs hr hone hF hG hne hd => exact hF b hb
theorem SameT.box (h : Rel E N τ a ws Gs) {v : World} (s : SameT E τ Gs ws v) {c : Nat} (hc : c < τ.bs.length) : v.heap[Gs.β c]? = ws.heap[Gs.β c]? := by
  obtain ⟨-, us, h2, -⟩ := h.boxes c _ _ (List.getElem?_eq_getElem hc)
  rcases s.block (Gs.β c) (lt_of_block h2) with h1 | ⟨i, ver, ty, es, n, cs, cs', e1, e2, -⟩
  · exact h1
  · exact absurd (root_ft h e1 e2) (h.boxft c i hc (by rw [e1]; simp))
/-- How the call stands in a region whose order is drawn: since its beginning (ws, at the state τ). -/
structure Link (E : Env) (N : Nat) (τ : VS) (ws : World) (Gs : Ghost) (fr : List Nat) (cl : Bool) (σ : VS) (w : World) (G : Ghost) : Prop where
  start : ∃ a, Rel E N τ a ws Gs
  same : SameT E τ Gs ws w
  vl : ∀ i, i < τ.nx → G.vl i = Gs.vl i
  β : ∀ b, b < τ.bs.length → G.β b = Gs.β b
  nx : τ.nx ≤ σ.nx
  bs : τ.bs.length ≤ σ.bs.length
  fresh : ∀ i ∈ fr, i < σ.nx ∧ ∀ b, (G.vl i).ownBlock = some b → ws.heap.size ≤ b
  clean : cl = true → w = ws ∧ G = Gs ∧ σ.ob = τ.ob
def DW (E : Env) (N : Nat) (τ : VS) (fr : List Nat) (cl : Bool) (σ : VS) (Ψ : World → Ghost → Act → World → Prop) : Prop := ∀ ws Gs a w G, Rel E N σ a w G → Link E N τ ws Gs fr cl σ w G → Ψ ws Gs a w
abbrev SW (E : Env) (τ : VS) (ws : World) (Gs : Ghost) : World → Prop := fun v => SameT E τ Gs ws v
theorem SV.draw {id : Nat} {l : List Oper} (ps : List PStep) (zs : List Nat) (hm : P.follows .mixedOrders = true) (hB : planB .any l.toArray (Pl.of ps) zs = true) (h : DW E N τ [] true τ fun ws Gs a w => wpPi P l.toArray Q (SW E τ ws Gs) zs (Pl.of ps) a w) : SV E N τ ((Code.region id l.toArray true).wp P Q) :=
  fun a w G hr => region_plan (SW E τ w.drew G) (Pl.of ps) zs hm hB (SameT.refl _ _ _ _) fun _ => h w.drew G a w.drew G hr.drew ⟨⟨a, hr.drew⟩, SameT.refl _ _ _ _, fun _ _ => rfl, fun _ _ => rfl, Nat.le_refl _, Nat.le_refl _, fun i hi => (by cases hi), fun _ => ⟨rfl, rfl, rfl⟩⟩
theorem SV.drawT {id : Nat} {l : List Oper} (ps : Pl) (zs : List Nat) (hm : P.follows .mixedOrders = true) (hB : planB .any l.toArray ps zs = true) (h : DW E N τ [] true τ fun ws Gs a w => wpPi P l.toArray Q (SW E τ ws Gs) zs ps a w) : SV E N τ ((Code.region id l.toArray true).wp P Q) :=
  fun a w G hr => region_plan (SW E τ w.drew G) ps zs hm hB (SameT.refl _ _ _ _) fun _ => h w.drew G a w.drew G hr.drew ⟨⟨a, hr.drew⟩, SameT.refl _ _ _ _, fun _ _ => rfl, fun _ _ => rfl, Nat.le_refl _, Nat.le_refl _, fun i hi => (by cases hi), fun _ => ⟨rfl, rfl, rfl⟩⟩
variable {l : List Oper} {zs : List Nat} {ps : Pl} {i d : Nat} {fr : List Nat} {cl : Bool}
theorem Link.put (h : Link E N τ ws Gs fr cl σ w G) {v : V} : Link E N τ ws Gs fr cl (σ.put d v) w G := ⟨h.start, h.same, h.vl, h.β, h.nx, h.bs, h.fresh, h.clean⟩
theorem Link.lite (h : Link E N τ ws Gs fr cl σ w G) {v : World} (s : SameT E τ Gs ws v) : Lite E τ.bs.length G w v := by
  obtain ⟨a, hr⟩ := h.start
  refine ⟨fun b hb => (s.below.block b hb).trans (h.same.below.block b hb).symm, fun c hc => ?_⟩
  rw [h.β c hc]
  exact (SameT.box hr s hc).trans (SameT.box hr h.same hc).symm
/-- An operation that yields one value wherever it comes up. -/
theorem DW.q {V' : V} (ho : nthO l i = some o) (h : OpL P E N τ.bs.length σ o V') (hg : o.guard = none) (hd : o.dst = some d) (hdN : d < N) (hQ : ∀ c (a : Act) v w, Q (.panic c) (a.put o.dst v) w → Q (.panic c) a w) (k : DW E N τ fr cl (σ.put d V') fun ws Gs a w => wpPi P l.toArray Q (SW E τ ws Gs) zs ps a w) :
    DW E N τ fr cl σ fun ws Gs a w => wpPi P l.toArray Q (SW E τ ws Gs) zs (.q i ps) a w := fun ws Gs a w G hr hl => by
  obtain ⟨u, h1, h2⟩ := h a w G hr
  refine pi_take (v := u) ho (fun c a w => hQ c a u w) (by simp [Region.wanted, hg]) (fun v hv => h1 v (hl.lite hv)) ?_
  rw [hd]
  exact k ws Gs _ w G (hr.put hdN h2) hl.put
/-- A cell of an object is read, ahead of all that makes memory. -/
theorem DW.el' {m : Nat} {ty : TypeId} {x : Operand} {j k' n o' : Nat} {ag : Bool} {es : List T} {ys : List Leaf} (hn : nthO l i = some o) (ho : o.op = .load ty x) (hx : σ.ev x = V.one (.ep j k' n o')) (hc : σ.cells (.ep j k' n o') = some es) (hag : ∀ w, (isAgg ty).run Try.prog w = .ok ag w) (hm : Sz ty m) (h1 : ag = false → m = 1) (hml : m ≤ es.length)
    (hy : (List.range m).map (fun q => match es[q]? with | some t => σ.cellLeaf (.ep j k' n o') q t | none => .dead) = ys) (hw : ∀ {a w G}, Rel E N σ a w G → Region.wanted o (yielded l.toArray a.tmps) = true) (hd : o.dst = some d) (hdN : d < N) (hQ : ∀ c (a : Act) v w, Q (.panic c) (a.put o.dst v) w → Q (.panic c) a w) (k : DW E N τ fr true (σ.put d (V.flat ag ys)) fun ws Gs a w => wpPi Try.prog l.toArray Q (SW E τ ws Gs) zs ps a w) :
    DW E N τ fr true σ fun ws Gs a w => wpPi Try.prog l.toArray Q (SW E τ ws Gs) zs (.q i ps) a w := fun ws Gs a w G hr hl => by
  obtain ⟨rfl, rfl, hob⟩ := hl.clean rfl
  obtain ⟨u, b, q, h2, h3, h4⟩ := load_el ho hx hc hag hm h1 hml hy hr
  refine pi_take (v := u) hn (fun c a w => hQ c a u w) (hw hr) (fun v hv => h3 v fun p y hp hcell => ?_) ?_
  · -- the cell lies among the object's
    have h5 := hr.ev x
    rw [hx, vone] at h5
    obtain ⟨⟨-, g, M, c, h6, h7⟩, -⟩ := h5
    rw [h2] at h7
    injection h7 with h7
    injection h7 with h7
    injection h7 with h7 h8
    subst h7 h8
    obtain ⟨⟨ver, s⟩, e1, e2⟩ := Option.bind_eq_some_iff.1 hc
    obtain ⟨-, hown, ty', fs, hs⟩ := hr.objs j ver s e1
    have hs' : s = .seq ty' fs := hs
    subst hs'
    obtain ⟨e, he, e3⟩ := Option.bind_eq_some_iff.1 e2
    have hen : e.length = n := by
      cases hb : Nat.beq e.length n with
      | true => exact Nat.eq_of_beq_eq_true hb
      | false => simp only [hb] at e3; cases e3
    have hed : e.drop o' = es := by
      have hb : Nat.beq e.length n = true := by rw [hen]; exact Nat.beq_refl n
      simpa [hb] using e3
    have hlen : o' + p < n := by
      have : (e.drop o').length = es.length := by rw [hed]
      rw [List.length_drop, hen] at this
      omega
    rcases hv.block b (lt_blk hcell) with h9 | ⟨i2, v2, ty2, es2, n2, cs, cs', f1, f2, f3, f4, f5, f6, f7⟩
    · exact (World.cell?_of_block h9).trans hcell
    · have hji : j = i2 := by
        rcases Nat.decEq j i2 with hne | hne
        · exfalso
          obtain ⟨ar, hrs⟩ := hl.start
          exact hrs.disj j i2 b (by rw [← hob, e1]; simp) (by rw [f1]; simp) hne (root_ft hrs (by rw [← hob]; exact e1) (by rw [h6]; rfl)) (root_ft hrs f1 f2)
        · exact hne
      subst hji
      rw [← hob, e1] at f1
      cases f1
      cases hown with
      | seq n3 hp3 hz3 hn3 xs hown3 Gs3 hr3 hone3 hF3 hG3 hne3 hd3 =>
        have hnn : n2 = n := (f3.eq hz3).trans ((hn3 e (get_mem he)).symm.trans hen)
        subst hnn
        have hlt : k' * n2 + o' + p < fs.length * n2 := by
          have := at_lt (get_lt he) hlen
          rw [Nat.add_assoc]; exact this
        rw [cell_of_row _ _ _ _ _ _ f4] at hcell
        rw [cell_of_row _ _ _ _ _ _ f5]
        have g1 : (cs'.toList.take (fs.length * n2))[k' * n2 + o' + p]? = (cs.toList.take (fs.length * n2))[k' * n2 + o' + p]? := by rw [f7]
        rw [List.getElem?_take, List.getElem?_take, if_pos hlt, if_pos hlt] at g1
        simpa using g1.trans (by simpa using hcell)
  · rw [hd]
    exact k _ _ _ _ _ (hr.put hdN h4) hl.put
theorem DW.el {m : Nat} {ty : TypeId} {x : Operand} {j k' n o' : Nat} {ag : Bool} {es : List T} {ys : List Leaf} (hn : nthO l i = some o) (ho : o.op = .load ty x) (hx : σ.ev x = V.one (.ep j k' n o')) (hc : σ.cells (.ep j k' n o') = some es) (hag : ∀ w, (isAgg ty).run Try.prog w = .ok ag w) (hm : Sz ty m) (h1 : ag = false → m = 1) (hml : m ≤ es.length)
    (hy : (List.range m).map (fun q => match es[q]? with | some t => σ.cellLeaf (.ep j k' n o') q t | none => .dead) = ys) (hg : o.guard = none) (hd : o.dst = some d) (hdN : d < N) (hQ : ∀ c (a : Act) v w, Q (.panic c) (a.put o.dst v) w → Q (.panic c) a w) (k : DW E N τ fr true (σ.put d (V.flat ag ys)) fun ws Gs a w => wpPi Try.prog l.toArray Q (SW E τ ws Gs) zs ps a w) :
    DW E N τ fr true σ fun ws Gs a w => wpPi Try.prog l.toArray Q (SW E τ ws Gs) zs (.q i ps) a w :=
  DW.el' hn ho hx hc hag hm h1 hml hy (fun _ => by simp [Region.wanted, hg]) hd hdN hQ k
/-- An operation that makes memory. -/
theorem DW.m' {c : Option Nat} (fr' : List Nat) (ho : nthO l i = some o) (h : OpMk P E N c σ o σ') (hw : ∀ {a w G}, Rel E N σ a w G → Region.wanted o (yielded l.toArray a.tmps) = true) (hbs : σ.bs.length ≤ σ'.bs.length) (hnx : σ.nx ≤ σ'.nx) (hc : c = none ∨ ∃ j, c = some j ∧ (j ∈ fr ∨ (j < τ.nx ∧ σ.ob j = τ.ob j))) (hfr : ∀ j ∈ fr', (j ∈ fr) ∨ (σ.nx ≤ j ∧ j < σ'.nx ∧ (c = none ∨ ∃ q, c = some q ∧ q ∈ fr)))
    (k : DW E N τ fr' false σ' fun ws Gs a w => wpPi P l.toArray Q (SW E τ ws Gs) zs ps a w) : DW E N τ fr cl σ fun ws Gs a w => wpPi P l.toArray Q (SW E τ ws Gs) zs (.m i ps) a w := fun ws Gs a w G hr hl => by
  refine pi_step ho fun K hK => ?_
  rw [if_pos (hw hr)]
  refine h a w G K Q hr fun a' w' G' hr' hm => ?_
  have hsame : SameT E τ Gs ws w' := by
    refine ⟨hl.same.below.trans hm.below, fun b hb => ?_⟩
    have hbw : b < w.heap.size := Nat.lt_of_lt_of_le hb hl.same.below.size
    rcases hm.block b hbw with h1 | ⟨j, v, ty, es, n, cs, cs', e1, e2, e3, e4, e5, e6, e7, e8⟩
    · rcases hl.same.block b hb with h2 | ⟨i2, v2, ty2, es2, n2, ds, ds', f1, f2, f3, f4, f5, f6, f7⟩
      · exact .inl (h1.trans h2)
      · exact .inr ⟨i2, v2, ty2, es2, n2, ds, ds', f1, f2, f3, f4, h1.trans f5, f6, f7⟩
    · rcases hc with hc | ⟨qq, hq, hc⟩
      · rw [hc] at e1; cases e1
      · have hqj : qq = j := Option.some.inj (hq.symm.trans e1)
        subst hqj
        rcases hc with hc | ⟨hc1, hc2⟩
        · have := (hl.fresh qq hc).2 b e3
          omega
        · have e2' : τ.ob qq = some (v, .seq ty es) := by rw [← hc2]; exact e2
          have e3' : (Gs.vl qq).ownBlock = some b := by rw [← hl.vl qq hc1]; exact e3
          rcases hl.same.block b hb with h2 | ⟨i2, v2, ty2, es2, n2, ds, ds', f1, f2, f3, f4, f5, f6, f7⟩
          · exact .inr ⟨qq, v, ty, es, n, cs, cs', e2', e3', e4, h2.symm.trans e5, e6, e7, e8⟩
          · have hqi : qq = i2 := by
              rcases Nat.decEq qq i2 with hne | hne
              · exfalso
                obtain ⟨ar, hrs⟩ := hl.start
                exact hrs.disj qq i2 b (by rw [e2']; simp) (by rw [f1]; simp) hne (root_ft hrs e2' e3') (root_ft hrs f1 f2)
              · exact hne
            subst hqi
            rw [e2'] at f1
            cases f1
            have hnn := e4.eq f3
            subst hnn
            rw [f5] at e5
            cases e5
            exact .inr ⟨qq, v, ty, es, n, ds, cs', e2', e3', e4, f4, e6, e7.trans f6, e8.trans f7⟩
  refine hK.out a' w' hsame fun _ => k ws Gs a' w' G' hr' ⟨hl.start, hsame, fun j hj => (hm.vl j (Nat.lt_of_lt_of_le hj hl.nx)).trans (hl.vl j hj), fun b hb => (hm.β b (Nat.lt_of_lt_of_le hb hl.bs)).trans (hl.β b hb), Nat.le_trans hl.nx hnx, Nat.le_trans hl.bs hbs, fun j hj => ?_, fun e => by cases e⟩
  rcases hfr j hj with h1 | ⟨h1, h2, h3⟩
  · refine ⟨Nat.lt_of_lt_of_le (hl.fresh j h1).1 hnx, fun b hb => (hl.fresh j h1).2 b ?_⟩
    rw [← hm.vl j (hl.fresh j h1).1]; exact hb
  · refine ⟨h2, fun b hb => ?_⟩
    rcases hm.root j h1 h2 b hb with h4 | ⟨qq, h4, h5⟩
    · exact Nat.le_trans hl.same.below.size h4
    · rcases h3 with h3 | ⟨q2, h3, h6⟩
      · rw [h3] at h4; cases h4
      · have hqq : q2 = qq := Option.some.inj (h3.symm.trans h4)
        subst hqq
        have h7 := (hl.fresh _ h6)
        exact h7.2 b h5
theorem DW.m {c : Option Nat} (fr' : List Nat) (ho : nthO l i = some o) (h : OpMk P E N c σ o σ') (hg : o.guard = none) (hbs : σ.bs.length ≤ σ'.bs.length) (hnx : σ.nx ≤ σ'.nx) (hc : c = none ∨ ∃ j, c = some j ∧ (j ∈ fr ∨ (j < τ.nx ∧ σ.ob j = τ.ob j))) (hfr : ∀ j ∈ fr', (j ∈ fr) ∨ (σ.nx ≤ j ∧ j < σ'.nx ∧ (c = none ∨ ∃ q, c = some q ∧ q ∈ fr)))
    (k : DW E N τ fr' false σ' fun ws Gs a w => wpPi P l.toArray Q (SW E τ ws Gs) zs ps a w) : DW E N τ fr cl σ fun ws Gs a w => wpPi P l.toArray Q (SW E τ ws Gs) zs (.m i ps) a w :=
  DW.m' fr' ho h (fun _ => by simp [Region.wanted, hg]) hbs hnx hc hfr k
/-- Either of two operations comes up first. -/
theorem DW.alt {ps1 ps2 : Pl} {j : Nat} (h1 : DW E N τ fr cl σ fun ws Gs a w => wpPi P l.toArray Q (SW E τ ws Gs) zs (.m i ps1) a w) (h2 : DW E N τ fr cl σ fun ws Gs a w => wpPi P l.toArray Q (SW E τ ws Gs) zs (.m j ps2) a w) :
    DW E N τ fr cl σ fun ws Gs a w => wpPi P l.toArray Q (SW E τ ws Gs) zs (.alt i ps1 j ps2) a w := fun ws Gs a w G hr hl => ⟨h1 ws Gs a w G hr hl, h2 ws Gs a w G hr hl⟩
/-- What follows is told once, for all orders. -/
theorem SV.shared {K R : Act → World → Prop} (h : SV E N σ' K) (k : SV E N σ' K → SV E N τ R) : SV E N τ R := k h
theorem SV.eqv {K : Act → World → Prop} (k : SV E N σ K) (h1 : ∀ s, σ'.tm s = σ.tm s) (h2 : σ'.bs = σ.bs) (h3 : σ'.ob = σ.ob) (h4 : σ'.nx = σ.nx) : SV E N σ' K := by
  obtain ⟨t, b, o, n⟩ := σ
  obtain ⟨t', b', o', n'⟩ := σ'
  obtain rfl : t' = t := funext h1
  subst h2 h3 h4
  exact k
theorem ansS_tm : ∀ (ts : List T) (σ : VS) (s : Nat), (ansS σ ts).tm s = σ.tm s
  | [], _, _ => rfl
  | .seq ty es :: ts, σ, s => ansS_tm ts (σ.new (.seq ty es)) s
  | .any :: ts, σ, s => ansS_tm ts σ s
  | .lit _ :: ts, σ, s => ansS_tm ts σ s
theorem ansSs_tm : ∀ (qs : List (Bool × List T)) (σ : VS) (s : Nat), (ansSs σ qs).tm s = σ.tm s
  | [], _, _ => rfl
  | (_, ts) :: qs, σ, s => (ansSs_tm qs (ansS σ ts) s).trans (ansS_tm ts σ s)
/-- The stores at the end. -/
theorem DW.stores (h : SV E N σ (wpZ P l.toArray Q zs)) : DW E N τ fr cl σ fun ws Gs a w => wpPi P l.toArray Q (SW E τ ws Gs) zs .nil a w := fun ws Gs a w G hr hl => pi_end (h a w G hr)
theorem SV.z (ho : nthO l i = some o) (h : OpOk P E N σ o σ') (hg : o.guard = none) (k : SV E N σ' (wpZ P l.toArray Q zs)) : SV E N σ (wpZ P l.toArray Q (i :: zs)) := fun a w G hr => by
  refine z_step ho fun K hK => ?_
  rw [if_pos (by simp [Region.wanted, hg])]
  exact h a w G K Q hr fun a' w' G' hr' => hK.out a' w' (k a' w' G' hr')
theorem SV.zend (h : SV E N σ (Q .normal)) : SV E N σ (wpZ P l.toArray Q []) := fun a w G hr => z_end (h a w G hr)
end Go.Proofs.Ytjdjceohlcimaaa.V
/- States told by trees: stretches, struct literals, parts of structs, stores into slices, guarded operations. -/
namespace Go.Proofs.Ytjdjceohlcimaaa.V
open Go Go.RowKit
set_option linter.unusedVariables false
set_option linter.unusedSimpArgs false
variable {P : Program} {E : Env} {N nb : Nat} {σ σ' τ : VS} {o : Oper} {a : Act} {w : World} {G : Ghost} {Q : Exit → Act → World → Prop}
/-! ### Stretches -/
def Leaf.cutTo (σ : VS) (lf : Leaf) (t : T) : Leaf := match lf with
  | .ro _ => .ro t
  | .hd i => match σ.ob i with
    | some (ver, _) => .nd i ver t none
    | none => .dead
  | .nd i ver _ _ => .nd i ver t none
  | _ => .dead
def optEv (σ : VS) (x : Option Operand) (k : Nat) (dflt : Nat) : Prop := match x with
  | none => k = dflt
  | some y => ∃ ki, σ.ev y = V.one (.sc (.int ki (k : Nat)))
theorem cut_inn {ok : Nat → Prop} {ty : TypeId} {es : List (List T)} {l h n : Nat} {ad : Option Addr} {c : Nat} (hi : Inn ok w (.seq ty es) (.slice ad es.length c)) (hlh : l ≤ h) (hh : h ≤ es.length) (hz : Sz ty n) : Inn ok w (.seq ty ((es.take h).drop l)) (.slice (if c = l then ad else ad.map (·.add (l * n))) (h - l) (c - l)) := by
  obtain ⟨ad', c', n', h1, hc, hm, ha0, hp, hz', hn, b, o', us, ha, hb, hcell, hr⟩ := inn_seq hi
  injection h1 with e1 e2 e3
  subst e1 e3
  have hnn := hz'.eq hz
  subst hnn
  have hlen : ((es.take h).drop l).length = h - l := by rw [List.length_drop, List.length_take]; omega
  have hget : ∀ k e, ((es.take h).drop l)[k]? = some e → es[l + k]? = some e := fun k e hk => by
    rw [List.getElem?_drop, List.getElem?_take] at hk
    split at hk
    · exact hk
    · cases hk
  rw [← hlen]
  refine .seq n' hp hz' (fun e he => ?_) (by rw [hlen]; omega) (by omega) (fun h0 => ?_) b (o' + l * n') (fun q => us (l * n' + q)) (fun y hy hne => ?_) (fun hne => ?_) (fun k e j t hk hj => ?_) fun k e j t hk hj => ?_
  · obtain ⟨k, hk, rfl⟩ := List.getElem_of_mem he
    exact hn _ (get_mem (hget k _ (List.getElem?_eq_getElem hk)))
  · have : ad = none := by
      split at h0
      · exact h0
      · cases ad with
        | none => rfl
        | some x => cases h0
    have := ha0 this
    omega
  · have hes : es ≠ [] := fun e => hne (by rw [e]; simp)
    have hpos : 0 < h - l := by
      rcases Nat.eq_zero_or_pos (h - l) with hq | hq
      · exact absurd (List.eq_nil_of_length_eq_zero (hlen.trans hq)) hne
      · exact hq
    rw [if_neg (by omega)] at hy
    cases had : ad with
    | none => rw [had] at hy; cases hy
    | some x =>
      rw [had] at hy
      have hx := ha x had hes
      rw [hx] at hy
      have := Option.some.inj hy
      rw [← this]
      show (⟨b, o', none⟩ : Addr).add (l * n') = _
      rw [Addr.add_lit]
  · exact hb fun e => hne (by rw [e]; simp)
  · have := hcell (l + k) e j t (hget k e hk) hj
    rw [Nat.add_mul, Nat.add_assoc (l * n')] at this
    rw [Nat.add_assoc o']
    exact this
  · have := hr (l + k) e j t (hget k e hk) hj
    rwa [Nat.add_mul, Nat.add_assoc (l * n')] at this
theorem ok_slice {x : Operand} {lo hi : Option Operand} {l h n : Nat} {lf : Leaf} {ty t : TypeId} {es : List (List T)} {yy : Leaf} (hk : lf.cutTo σ (.seq ty ((es.take h).drop l)) = yy) (ho : o.op = .slice t x lo hi none) (hu : Try.prog.underlying t = some (.slice ty)) (hz : Sz ty n) (hx : σ.ev x = V.one lf) (ht : σ.tr lf = some (.seq ty es)) (hlo : optEv σ lo l 0) (hhi : optEv σ hi h es.length) (hlh : l ≤ h) (hh : h ≤ es.length) :
    OpL Try.prog E N nb σ o (V.one yy) :=
  fun a w G hr => by
    subst hk
    have h0 := hr.ev x
    rw [hx, vone] at h0
    have hin := hr.head hx ht
    obtain ⟨ad, c, n', h1, hc, hm, ha0, hp, hz', hn, b, o', us, ha, hb, hcell, hr2⟩ := inn_seq hin
    rw [h1] at hin
    have hnn := hz'.eq hz
    subst hnn
    obtain ⟨inf, hinf, hsz⟩ := hz
    have hcut := cut_inn hin hlh hh hz'
    refine ⟨.slice (if c = l then ad else ad.map (·.add (l * n'))) (h - l) (c - l), fun v' _ => ?_, vone.2 ?_⟩
    · have e1 : ∀ (x' : Option Operand) (k d : Nat), optEv σ x' k d → (x' = none ∧ k = d) ∨ ∃ y ki, x' = some y ∧ a.eval y = .int ki (k : Nat) := fun x' k d he => by
        cases x' with
        | none => exact .inl ⟨rfl, he⟩
        | some y =>
          obtain ⟨ki, hy⟩ := he
          exact .inr ⟨y, ki, rfl, hr.sc hy⟩
      have hlc : l ≤ c := by omega
      have hhc : h ≤ c := by omega
      rcases e1 lo l 0 hlo with ⟨rfl, rfl⟩ | ⟨y, ki, rfl, hy⟩ <;> rcases e1 hi h es.length hhi with ⟨rfl, rfl⟩ | ⟨y', ki', rfl, hy'⟩ <;>
        simp [execOp, ho, h1, Instr.sliceAt, Instr.slice, Instr.sliceBounds, Instr.sliceBound, asIntOf, run_underlying hu, sizeOf, Lib.rl_info ty inf hinf, hsz, Result.andThen, *]
    · cases lf with
      | ro s => exact ⟨hcut, .inr rfl⟩
      | hd i =>
        obtain ⟨⟨ver, s⟩, k1, k2⟩ := Option.map_eq_some_iff.1 ht
        have e : Leaf.cutTo σ (.hd i) (.seq ty ((es.take h).drop l)) = .nd i ver (.seq ty ((es.take h).drop l)) none := by
          show (match σ.ob i with | some (ver, _) => Leaf.nd i ver _ none | none => .dead) = _
          rw [k1]
        rw [e]
        exact ⟨⟨h0.1.1, fun v t' hv => by rw [k1] at hv; cases hv; exact Nat.le_refl _, fun _ => ⟨hcut, fun k o e => by cases e⟩⟩, .inr rfl⟩
      | nd i ver s loc => exact ⟨⟨h0.1.1, h0.1.2.1, fun _ => ⟨hcut, fun k o e => by cases e⟩⟩, .inr rfl⟩
      | _ => exact ⟨trivial, .inl rfl⟩
/-! ### Parts of a struct's value -/
theorem ok_part {x : Operand} {f off m : Nat} {ty : TypeId} {ag : Bool} {xs ys : List Leaf} (ho : o.op = .field ty x f) (hx : σ.ev x = V.flat true xs) (hf : ∀ (us : List Value) w, us.length = xs.length → (Instr.field ty (.agg us.toArray) f).run P w = .ok (cval ag ((us.drop off).take m)) w) (hy : (xs.drop off).take m = ys) : OpL P E N nb σ o (V.flat ag ys) :=
  fun a w G hr => by
    have h1 := hr.ev x
    rw [hx, vflat] at h1
    obtain ⟨us, h2, h3, h4⟩ := h1
    refine ⟨cval ag ((us.drop off).take m), fun v' _ => ?_, vflat.2 ⟨_, rfl, ?_, fun j y u hj hu => h4 (off + j) y u (cut_get (by rw [hy]; exact hj)) (cut_get hu)⟩⟩
    · have : cval true us = .agg us.toArray := rfl
      simp [execOp, ho, h2, this, hf us v' h3, Result.andThen]
    · rw [← hy]; simp only [List.length_take, List.length_drop]; omega
/-! ### Struct literals -/
def fillL (pl : Nat → Option (Nat × Nat)) : List Leaf → List (Nat × List Leaf) → Option (List Leaf)
  | cs, [] => some cs
  | cs, (i, v) :: rest => match pl i with
    | none => none
    | some (off, size) => bif (!Nat.beq v.length size) || Nat.blt cs.length (off + v.length) then none else fillL pl (cs.take off ++ v ++ cs.drop (off + v.length)) rest
def Aligned (R : Leaf → Value → Prop) : List (Nat × List Leaf) → List (Nat × Value) → Prop
  | [], [] => True
  | p :: ps, v :: vs => (p.1 = v.1 ∧ v.2.cells.size = p.2.length ∧ ∀ (j : Nat) (x : Leaf) (u : Value), p.2[j]? = some x → v.2.cells[j]? = some u → R x u) ∧ Aligned R ps vs
  | _, _ => False
theorem fill_holds {R : Leaf → Value → Prop} {pl : Nat → Option (Nat × Nat)} : ∀ (ps : List (Nat × List Leaf)) (vs : List (Nat × Value)) (zs : List Leaf) (cells : Array Value) (ys : List Leaf), Aligned R ps vs → cells.size = zs.length → (∀ (j : Nat) (x : Leaf) (u : Value), zs[j]? = some x → cells[j]? = some u → R x u) → fillL pl zs ps = some ys →
    ∃ r, Instr.fill pl cells vs = some r ∧ r.size = ys.length ∧ ∀ (j : Nat) (x : Leaf) (u : Value), ys[j]? = some x → r[j]? = some u → R x u
  | [], [], zs, cells, ys, _, hs, hR, hf => by
    cases hf
    exact ⟨cells, rfl, hs, hR⟩
  | (i, xs) :: ps, (i', v) :: vs, zs, cells, ys, ha, hs, hR, hf => by
    obtain ⟨⟨h1, h2, h3⟩, h4⟩ := ha
    have h1' : i = i' := h1
    subst h1'
    replace h2 : v.cells.size = xs.length := h2
    replace h3 : ∀ (j : Nat) (x : Leaf) (u : Value), xs[j]? = some x → v.cells[j]? = some u → R x u := h3
    unfold fillL at hf
    cases hp : pl i with
    | none => rw [hp] at hf; cases hf
    | some q =>
      obtain ⟨off, size⟩ := q
      rw [hp] at hf
      simp only at hf h2 h3
      cases hb : ((!Nat.beq xs.length size) || Nat.blt zs.length (off + xs.length)) with
      | true => rw [hb] at hf; cases hf
      | false =>
        rw [hb] at hf
        rw [Bool.or_eq_false_iff] at hb
        have e1 : xs.length = size := nbeq.1 (by simpa using hb.1)
        have e2 : ¬ zs.length < off + xs.length := fun hlt => by
          have h9 := hb.2
          rw [show Nat.blt zs.length (off + xs.length) = true from Nat.ble_eq_true_of_le hlt] at h9
          cases h9
        obtain ⟨g1, g2⟩ := Great.foldl_set off v.cells.toList 0 cells
        have hfold : (v.cells.zipIdx.foldl (fun cs (x : Value × Nat) => cs.setIfInBounds (off + x.2) x.1) cells) = ((v.cells.toList.zipIdx 0).foldl (fun cs (x : Value × Nat) => cs.setIfInBounds (off + x.2) x.1) cells) := by
          rw [← Array.foldl_toList, Array.toList_zipIdx]
        obtain ⟨r, k1, k2, k3⟩ := fill_holds ps vs (zs.take off ++ xs ++ zs.drop (off + xs.length)) _ ys h4 (by rw [g1]; simp; omega) (fun j x u hj hu => by
          rw [g2 j] at hu
          simp only [Nat.add_zero, Array.length_toList, h2] at hu
          rw [List.append_assoc] at hj
          by_cases hc : off ≤ j ∧ j < off + xs.length ∧ j < cells.size
          · rw [if_pos hc] at hu
            rw [List.getElem?_append_right (by rw [List.length_take]; omega), List.length_take, Nat.min_eq_left (by omega), List.getElem?_append_left (by omega)] at hj
            exact h3 (j - off) x u hj (by simpa using hu)
          · rw [if_neg hc] at hu
            have hjc : j < cells.size := by
              rcases Nat.lt_or_ge j cells.size with h | h
              · exact h
              · rw [Array.getElem?_eq_none h] at hu; cases hu
            rcases Nat.lt_or_ge j off with hlt | hge
            · rw [List.getElem?_append_left (by rw [List.length_take]; omega), List.getElem?_take, if_pos hlt] at hj
              exact hR j x u hj hu
            · rw [List.getElem?_append_right (by rw [List.length_take]; omega), List.length_take, Nat.min_eq_left (by omega), List.getElem?_append_right (by omega), List.getElem?_drop] at hj
              have : off + xs.length + (j - off - xs.length) = j := by omega
              rw [this] at hj
              exact hR j x u hj hu) hf
        refine ⟨r, ?_, k2, k3⟩
        unfold Instr.fill
        simp only [hp]
        rw [if_neg (by rw [h2, e1, hs]; simp; omega), ← k1]
        congr 1
def VS.partsOk (σ : VS) : List (Nat × Operand) → List (Nat × List Leaf) → Prop
  | [], [] => True
  | p :: ps, q :: qs => (p.1 = q.1 ∧ ∃ ag, σ.ev p.2 = V.flat ag q.2 ∧ (ag = false → q.2.length = 1) ∧ q.2.all Leaf.live = true) ∧ σ.partsOk ps qs
  | _, _ => False
theorem parts_aligned (h : Rel E N σ a w G) : ∀ {ps : List (Nat × Operand)} {qs : List (Nat × List Leaf)}, σ.partsOk ps qs → Aligned (Holds G σ E w) qs (ps.map fun (i, x) => (i, a.eval x))
  | [], [], _ => trivial
  | (i, x) :: ps, (i', xs) :: qs, hp => by
    obtain ⟨⟨h1, ag, h2, h3, h3'⟩, h4⟩ := hp
    have h5 := h.ev x
    rw [h2, vflat] at h5
    obtain ⟨us, h6, h7, h8⟩ := h5
    replace h7 : us.length = xs.length := h7
    have h9 : (a.eval x).cells = us.toArray := by
      rw [h6]
      refine cval_cells fun e => ⟨h7.trans (h3 e), fun u hu => ?_⟩
      obtain ⟨j, hj, rfl⟩ := List.getElem_of_mem hu
      have hj' : j < xs.length := by omega
      exact (h8 j xs[j] us[j] (List.getElem?_eq_getElem hj') (List.getElem?_eq_getElem hj)).one (List.all_eq_true.1 h3' _ (List.getElem_mem hj'))
    exact ⟨⟨h1.symm, by show (a.eval x).cells.size = xs.length; rw [h9]; simpa using h7, fun j y u hj hu => by
      replace hu : (a.eval x).cells[j]? = some u := hu
      rw [h9] at hu
      exact h8 j y u hj (by simpa using hu)⟩, parts_aligned h h4⟩
theorem ok_build {ty : TypeId} {parts : Array (Nat × Operand)} {z : Value} {zs ys : List Leaf} {qs : List (Nat × List Leaf)} {pl : Nat → Option (Nat × Nat)} (ho : o.op = .build ty parts) (hz : ∀ w, (zeroValue ty).run P w = .ok z w) (hzl : ZL zs z.cells.toList) (hp : σ.partsOk parts.toList qs)
    (hb : ∀ (vs : Array (Nat × Value)) (r : Array Value) w, Instr.fill pl z.cells vs.toList = some r → (Instr.build ty vs).run P w = .ok (.agg r) w) (hf : fillL pl zs qs = some ys) : OpL P E N nb σ o (V.flat true ys) :=
  fun a w G hr => by
    obtain ⟨r, h1, h2, h3⟩ := fill_holds qs _ zs z.cells ys (parts_aligned hr hp) (by have := hzl.len; simpa using this) (fun j x u hj hu => (hzl.holds j x u hj (by simpa using hu)).1) hf
    refine ⟨.agg r, fun v' _ => ?_, vflat.2 ⟨r.toList, by simp [cval], by simpa using h2, fun j x u hj hu => h3 j x u hj (by simpa using hu)⟩⟩
    have := hb (parts.map fun (i, x) => (i, a.eval x)) r v' (by simpa using h1)
    simp [execOp, ho, this, Result.andThen]
/-! ### Guarded operations -/
theorem yielded_at {ops : Array Oper} {j d : Nat} {oj : Oper} {b : Bool} (h : Rel E N σ a w G) (hj : ops[j]? = some oj) (hd : oj.dst = some d) (hdN : d < N) (hv : σ.tm d = V.one (.sc (.bool b))) : yielded ops a.tmps j = some b := by
  have h1 : a.tmps[d]? = some (.bool b) := by
    have h2 := h.tmps d
    rw [hv, vone] at h2
    have h3 : a.tmps.getD d undef = .bool b := h2.1
    have h4 : d < a.tmps.size := by rw [h.nsz]; exact hdN
    simp only [Array.getD_eq_getD_getElem?] at h3
    rw [Array.getElem?_eq_getElem h4] at h3 ⊢
    simpa using h3
  simp [yielded, hj, hd, h1]
/-- The guard is met. -/
theorem SV.opY {ops : Array Oper} {rest : List Oper} {j d : Nat} {oj : Oper} {b c : Bool} (h : OpOk P E N σ o σ') (hg : o.guard = some (j, b)) (hj : ops[j]? = some oj) (hd : oj.dst = some d) (hdN : d < N) (hv : σ.tm d = V.one (.sc (.bool c))) (hc : c = b) (k : SV E N σ' (wpList P ops Q rest)) : SV E N σ (wpList P ops Q (o :: rest)) :=
  fun a w G hr => wpList_step fun K hK => by
    have := yielded_at hr hj hd hdN hv
    rw [if_pos (by simp [Region.wanted, hg, this, hc])]
    exact h a w G K Q hr fun a' w' G' hr' => hK _ _ (k a' w' G' hr')
/-- The guard is not met: the slot is left undefined. -/
theorem SV.opN {ops : Array Oper} {rest : List Oper} {j d d' : Nat} {oj : Oper} {b c : Bool} (hg : o.guard = some (j, b)) (hj : ops[j]? = some oj) (hd : oj.dst = some d) (hdN : d < N) (hv : σ.tm d = V.one (.sc (.bool c))) (hc : c = !b) (hd' : o.dst = some d') (hdN' : d' < N) (k : SV E N (σ.put d' (V.one .dead)) (wpList P ops Q rest)) : SV E N σ (wpList P ops Q (o :: rest)) :=
  fun a w G hr => wpList_skip (by
    have := yielded_at hr hj hd hdN hv
    cases b <;> simp [Region.wanted, hg, this, hc]) (by
    rw [hd']
    exact k _ _ _ (hr.put hdN' (vone.2 ⟨trivial, .inl rfl⟩)))
theorem DW.qN {V' : V} {l : List Oper} {zs : List Nat} {ps : Pl} {fr : List Nat} {cl : Bool} {i j d d' : Nat} {oj : Oper} {b c : Bool} (ho : nthO l i = some o) (hg : o.guard = some (j, b)) (hj : l.toArray[j]? = some oj) (hd : oj.dst = some d) (hdN : d < N) (hv : σ.tm d = V.one (.sc (.bool c))) (hc : c = !b) (hd' : o.dst = some d') (hdN' : d' < N) (hQ : ∀ c (a : Act) v w, Q (.panic c) (a.put o.dst v) w → Q (.panic c) a w)
    (k : DW E N τ fr cl (σ.put d' (V.one .dead)) fun ws Gs a w => wpPi P l.toArray Q (SW E τ ws Gs) zs ps a w) : DW E N τ fr cl σ fun ws Gs a w => wpPi P l.toArray Q (SW E τ ws Gs) zs (.q i ps) a w := fun ws Gs a w G hr hl => by
  refine pi_pass ho (fun c a w => hQ c a undef w) ?_ ?_
  · have := yielded_at hr hj hd hdN hv
    cases b <;> simp [Region.wanted, hg, this, hc]
  · rw [hd']
    exact k ws Gs _ w G (hr.put hdN' (vone.2 ⟨trivial, .inl rfl⟩)) hl.put
theorem DW.qY {V' : V} {l : List Oper} {zs : List Nat} {ps : Pl} {fr : List Nat} {cl : Bool} {i j d d' : Nat} {oj : Oper} {b c : Bool} (ho : nthO l i = some o) (h : OpL P E N τ.bs.length σ o V') (hg : o.guard = some (j, b)) (hj : l.toArray[j]? = some oj) (hd : oj.dst = some d) (hdN : d < N) (hv : σ.tm d = V.one (.sc (.bool c))) (hc : c = b) (hd' : o.dst = some d') (hdN' : d' < N) (hQ : ∀ c (a : Act) v w, Q (.panic c) (a.put o.dst v) w → Q (.panic c) a w)
    (k : DW E N τ fr cl (σ.put d' V') fun ws Gs a w => wpPi P l.toArray Q (SW E τ ws Gs) zs ps a w) : DW E N τ fr cl σ fun ws Gs a w => wpPi P l.toArray Q (SW E τ ws Gs) zs (.q i ps) a w := fun ws Gs a w G hr hl => by
  obtain ⟨u, h1, h2⟩ := h a w G hr
  refine pi_take (v := u) ho (fun c a w => hQ c a u w) ?_ (fun v hv => h1 v (hl.lite hv)) ?_
  · have := yielded_at hr hj hd hdN hv
    simp [Region.wanted, hg, this, hc]
  · rw [hd']
    exact k ws Gs _ w G (hr.put hdN' h2) hl.put
theorem wantedY {ops : Array Oper} {j d : Nat} {oj : Oper} {b c : Bool} (h : Rel E N σ a w G) (hg : o.guard = some (j, b)) (hj : ops[j]? = some oj) (hd : oj.dst = some d) (hdN : d < N) (hv : σ.tm d = V.one (.sc (.bool c))) (hc : c = b) : Region.wanted o (yielded ops a.tmps) = true := by
  have := yielded_at h hj hd hdN hv
  simp [Region.wanted, hg, this, hc]
theorem wantedN {ops : Array Oper} {j d : Nat} {oj : Oper} {b c : Bool} (h : Rel E N σ a w G) (hg : o.guard = some (j, b)) (hj : ops[j]? = some oj) (hd : oj.dst = some d) (hdN : d < N) (hv : σ.tm d = V.one (.sc (.bool c))) (hc : c = !b) : Region.wanted o (yielded ops a.tmps) = false := by
  have := yielded_at h hj hd hdN hv
  cases b <;> simp [Region.wanted, hg, this, hc]
/-- An operation that makes memory, its guard not met: the slot is left undefined. -/
theorem DW.mN {l : List Oper} {zs : List Nat} {ps : Pl} {fr : List Nat} {cl : Bool} {i j d d' : Nat} {oj : Oper} {b c : Bool} (ho : nthO l i = some o) (hg : o.guard = some (j, b)) (hj : l.toArray[j]? = some oj) (hd : oj.dst = some d) (hdN : d < N) (hv : σ.tm d = V.one (.sc (.bool c))) (hc : c = !b) (hd' : o.dst = some d') (hdN' : d' < N)
    (k : DW E N τ fr cl (σ.put d' (V.one .dead)) fun ws Gs a w => wpPi P l.toArray Q (SW E τ ws Gs) zs ps a w) : DW E N τ fr cl σ fun ws Gs a w => wpPi P l.toArray Q (SW E τ ws Gs) zs (.m i ps) a w := fun ws Gs a w G hr hl => by
  refine pi_step ho fun K hK => ?_
  rw [if_neg (by rw [wantedN hr hg hj hd hdN hv hc]; simp)]
  refine hK.out _ w hl.same fun _ => ?_
  rw [hd']
  exact k ws Gs _ w G (hr.put hdN' (vone.2 ⟨trivial, .inl rfl⟩)) hl.put
end Go.Proofs.Ytjdjceohlcimaaa.V
/- States told by trees: an empty slice as an object, states written out, small helps for walks. -/
namespace Go.Proofs.Ytjdjceohlcimaaa.V
open Go Go.RowKit
set_option linter.unusedVariables false
variable {P : Program} {E : Env} {N nb : Nat} {σ σ' τ : VS} {o : Oper} {a : Act} {w : World} {G : Ghost} {Q : Exit → Act → World → Prop} {K : Act → World → Prop}
theorem Rel.newnil (h : Rel E N σ a w G) {ty : TypeId} {n : Nat} (hp : 0 < n) (hz : Sz ty n) : ∃ G', Rel E N (σ.new (.seq ty [])) a w G' ∧ G'.vl σ.nx = .slice none 0 0 ∧ G'.β = G.β ∧ ∀ x u, Holds G σ E w x u → Holds G' (σ.new (.seq ty [])) E w x u := by
  obtain ⟨G', h1, ⟨h2, -, h3⟩, -, h4⟩ := h.renew [] (fun x hx => by cases hx) (w' := w) (t := .seq ty []) (v := .slice none 0 0) (F := fun _ => False) (fun _ => False) (Same.refl _ _) (fun _ _ _ => rfl) (fun b hb => hb.elim)
    (Own.seq (es := []) n hp hz (fun e he => by cases he) [] (World.ownsRow_nil _ _ _ _) (fun _ _ => False) (fun k e j t u h => by simp at h) (fun u hu => by cases hu) (fun b hb => by cases hb) (fun i b hb => hb.elim) (fun i b hb => hb.elim) fun i j b hb => hb.elim) ⟨_, _, rfl⟩ (fun b hb => hb.elim)
  exact ⟨G', h1, h2, h3, h4⟩
/-- An empty slice in a slot is an object. -/
theorem SV.nltm {s kk : Nat} {ty : TypeId} (hk : σ.nx = kk) (hs : σ.tm s = V.one (.nl ty)) (hN : s < N) (k : SV E N ((σ.new (.seq ty [])).put s (V.one (.hd kk))) K) : SV E N σ K := fun a w G h => by
  subst hk
  have h1 := h.tmps s
  rw [hs, vone] at h1
  obtain ⟨⟨h2, n, h3, h4⟩, -⟩ := h1
  obtain ⟨G', k1, k2, -, -⟩ := h.newnil h3 h4
  have k3 := k1.put (d := s) (v := V.one (.hd σ.nx)) (u := a.tmps.getD s undef) hN (vone.2 ⟨⟨Nat.lt_succ_self _, by rw [h2, k2]⟩, .inr (by rw [h2]; rfl)⟩)
  have e : a.put (some s) (a.tmps.getD s undef) = a := by
    have hs' : s < a.tmps.size := by rw [h.nsz]; exact hN
    cases a with
    | mk tmps defers =>
      have : tmps.setIfInBounds s (tmps.getD s undef) = tmps := by
        apply Array.ext_getElem?
        intro i
        rw [Array.getElem?_setIfInBounds]
        split
        · rename_i hi; subst hi
          simp at hs'
          simp [hs']
        · rfl
      show Act.mk _ _ = _
      rw [this]
  rw [e] at k3
  exact k a w G' k3
/-- An empty slice in a box is an object. -/
theorem SV.nlbox {b j kk : Nat} {ty ty' : TypeId} {xs : List Leaf} (hb : σ.bs[b]? = some (ty', xs)) (hk : σ.nx = kk) (hj : xs[j]? = some (.nl ty)) {ys : List Leaf} (hy : xs.set j (.hd kk) = ys) (k : SV E N ((σ.new (.seq ty [])).setb b ty' ys) K) : SV E N σ K := fun a w G h => by
  subst hk
  subst hy
  obtain ⟨hB, us, h1, h2, h3⟩ := h.boxes b ty' xs hb
  have hjl := get_lt hj
  obtain ⟨⟨⟨h4, n, h5, h6⟩, -⟩, -⟩ := h3 j _ us[j] hj (List.getElem?_eq_getElem (by omega))
  obtain ⟨G', k1, k2, hβ, k3⟩ := h.newnil h5 h6
  have k4 := k1.setbox (b := b) (ty := ty') (xs := xs) (xs' := xs.set j (.hd σ.nx)) (us' := us) (w' := w) hb (Same.refl _ _) (fun _ _ => rfl) (by rw [hβ]; exact h1) (by simpa using h2) (fun q x u hq hu => by
    by_cases hqj : j = q
    · subst hqj
      rw [List.getElem?_set_self hjl] at hq
      have hu' : us[j] = u := by rw [List.getElem?_eq_getElem (by omega)] at hu; exact Option.some.inj hu
      rw [← Option.some.inj hq, ← hu', h4]
      exact ⟨⟨⟨Nat.lt_succ_self _, k2.symm⟩, .inr rfl⟩, rfl⟩
    · rw [List.getElem?_set_ne hqj] at hq
      exact ⟨k3 x u (h3 q x u hq hu).1, (h3 q x u hq hu).2⟩)
  exact k a w G' k4
/-! ### States written out -/
def VS.nil : VS := ⟨fun _ => V.one .dead, [], fun _ => none, 0⟩
theorem le_nil {ρ : Nat → Nat} (s : Nat) : V.le σ τ ρ (σ.tm s) (VS.nil.tm s) := .inl rfl
theorem le_put {ρ : Nat → Nat} {τ' : VS} {d : Nat} {v : V} (h : ∀ s, V.le σ τ ρ (σ.tm s) (τ'.tm s)) (hv : V.le σ τ ρ (σ.tm d) v) (s : Nat) : V.le σ τ ρ (σ.tm s) ((τ'.put d v).tm s) := by
  show V.le σ τ ρ (σ.tm s) (bif Nat.beq s d then v else τ'.tm s)
  cases hb : Nat.beq s d with
  | true => rw [nbeq.1 hb]; exact hv
  | false => exact h s
theorem le_box {ρ : Nat → Nat} {τ' : VS} {ty : TypeId} {xs : List Leaf} (h : ∀ s, V.le σ τ ρ (σ.tm s) (τ'.tm s)) (s : Nat) : V.le σ τ ρ (σ.tm s) ((τ'.box ty xs).tm s) := h s
theorem le_new {ρ : Nat → Nat} {τ' : VS} {t : T} (h : ∀ s, V.le σ τ ρ (σ.tm s) (τ'.tm s)) (s : Nat) : V.le σ τ ρ (σ.tm s) ((τ'.new t).tm s) := h s
theorem V.le.flat {ρ : Nat → Nat} {ag : Bool} {xs ys : List Leaf} {v : V} (h : v = V.flat ag xs) (l : leafs σ τ ρ xs ys) : V.le σ τ ρ v (V.flat ag ys) := .inr ⟨ag, xs, ys, h, rfl, l⟩
theorem V.le.one {ρ : Nat → Nat} {x y : Leaf} {v : V} (h : v = V.one x) (l : Leaf.le σ τ ρ x y) : V.le σ τ ρ v (V.one y) := .inr ⟨false, [x], [y], h, rfl, l, trivial⟩
/-- Boxes, one by one. -/
def boxesLe (σ τ : VS) (ρ : Nat → Nat) : List (TypeId × List Leaf) → List (TypeId × List Leaf) → Prop
  | _, [] => True
  | x :: xs, y :: ys => (x.1 = y.1 ∧ leafs σ τ ρ x.2 y.2) ∧ boxesLe σ τ ρ xs ys
  | [], _ :: _ => False
theorem boxesLe.get {ρ : Nat → Nat} : ∀ {xs ys : List (TypeId × List Leaf)}, boxesLe σ τ ρ xs ys → ys.length ≤ xs.length ∧ ∀ (b : Nat) (ty : TypeId) (zs : List Leaf), ys[b]? = some (ty, zs) → ∃ xs', xs[b]? = some (ty, xs') ∧ leafs σ τ ρ xs' zs
  | xs, [], _ => ⟨Nat.zero_le _, fun b ty zs h => by simp at h⟩
  | x :: xs, y :: ys, h => by
    obtain ⟨h1, h2⟩ := h.2.get
    refine ⟨by simpa using h1, fun b ty zs hb => ?_⟩
    cases b with
    | zero =>
      cases hb
      obtain ⟨e, hl⟩ := h.1
      obtain ⟨xt, xl⟩ := x
      have : xt = ty := e
      subst this
      exact ⟨xl, rfl, hl⟩
    | succ b => exact h2 b ty zs (by simpa using hb)
/-- Objects 0 .. n-1 of τ, one by one. -/
def objsLe (σ τ : VS) (ρ : Nat → Nat) : Nat → Prop
  | 0 => True
  | n + 1 => (τ.ob n = none ∨ ∃ ver t, τ.ob n = some (ver, t) ∧ (σ.ob (ρ n)).map (·.2) = some t ∧ ρ n < σ.nx) ∧ objsLe σ τ ρ n
theorem objsLe.get {ρ : Nat → Nat} : ∀ {n : Nat}, objsLe σ τ ρ n → ∀ i, i < n → (τ.ob i = none ∨ ∃ ver t, τ.ob i = some (ver, t) ∧ (σ.ob (ρ i)).map (·.2) = some t ∧ ρ i < σ.nx)
  | n + 1, h, i, hi => by
    rcases Nat.lt_or_ge i n with hl | hl
    · exact h.2.get i hl
    · have : i = n := by omega
      subst this; exact h.1
theorem VS.le.mk' {ρ : Nat → Nat} (tm : ∀ s, V.le σ τ ρ (σ.tm s) (τ.tm s)) (bx : boxesLe σ τ ρ σ.bs τ.bs) (ob : objsLe σ τ ρ τ.nx) (hnx : ∀ i, τ.ob i ≠ none → i < τ.nx) (inj : ∀ i j, i < τ.nx → j < τ.nx → ρ i = ρ j → i = j) : VS.le σ τ ρ :=
  ⟨tm, bx.get.1, bx.get.2, fun i ver t hi => by
    have hlt := hnx i (by rw [hi]; simp)
    rcases ob.get i hlt with h | ⟨ver', t', h1, h2, h3⟩
    · rw [h] at hi; cases hi
    · rw [h1] at hi
      cases hi
      obtain ⟨⟨v, t2⟩, h4, h5⟩ := Option.map_eq_some_iff.1 h2
      exact ⟨hlt, h3, v, by rw [h4]; exact congrArg some (Prod.ext rfl h5)⟩, fun i j hi hj => inj i j (hnx i hi) (hnx j hj)⟩
theorem nil_ob (i : Nat) : VS.nil.ob i ≠ none → i < VS.nil.nx := fun h => absurd rfl h
theorem new_ob {t : T} (h : ∀ i, τ.ob i ≠ none → i < τ.nx) (i : Nat) : (τ.new t).ob i ≠ none → i < (τ.new t).nx := fun hi => by
  by_cases e : i = τ.nx
  · rw [e]; exact Nat.lt_succ_self _
  · have : (τ.new t).ob i = τ.ob i := by
      show (bif Nat.beq i τ.nx then _ else τ.ob i) = _
      rw [nbne e]; rfl
    rw [this] at hi
    exact Nat.lt_succ_of_lt (h i hi)
theorem inj_list {l : List Nat} (h : l.Nodup) (i j : Nat) (hi : i < l.length) (hj : j < l.length) (e : l.getD i 0 = l.getD j 0) : i = j := by
  rw [List.getD_eq_getElem?_getD, List.getD_eq_getElem?_getD, List.getElem?_eq_getElem hi, List.getElem?_eq_getElem hj] at e
  have e' : l[i] = l[j] := by simpa using e
  rcases Nat.lt_trichotomy i j with hl | hl | hl
  · exact absurd e' ((List.pairwise_iff_getElem.1 h) i j hi hj hl)
  · exact hl
  · exact absurd e'.symm ((List.pairwise_iff_getElem.1 h) j i hj hi hl)
theorem map_at {α : Type} {f : α → List T} {L : List α} {k : Nat} {x : α} (h : L[k]? = some x) : (L.map f)[k]? = some (f x) := by rw [List.getElem?_map, h]; rfl
/-- A truth value is the one or the other. -/
theorem SV.split {d : Nat} {c : Bool} (hv : σ.tm d = V.one (.sc (.bool c))) (ht : c = true → SV E N (σ.put d (V.one (.sc (.bool true)))) K) (hf : c = false → SV E N (σ.put d (V.one (.sc (.bool false)))) K) : SV E N σ K := by
  have e : σ.put d (V.one (.sc (.bool c))) = σ := by
    have hf : (fun s => bif Nat.beq s d then V.one (.sc (.bool c)) else σ.tm s) = σ.tm := by
      funext s
      cases hb : Nat.beq s d with
      | true => rw [Nat.eq_of_beq_eq_true hb, hv]; rfl
      | false => rfl
    show (⟨fun s => bif Nat.beq s d then V.one (.sc (.bool c)) else σ.tm s, σ.bs, σ.ob, σ.nx⟩ : VS) = σ
    rw [hf]
  cases c with
  | true => rw [← e]; exact ht rfl
  | false => rw [← e]; exact hf rfl
theorem put_same {d : Nat} {v : V} (hv : σ.tm d = v) : σ.put d v = σ := by
  have hf : (fun s => bif Nat.beq s d then v else σ.tm s) = σ.tm := by
    funext s
    cases hb : Nat.beq s d with
    | true => rw [Nat.eq_of_beq_eq_true hb, hv]; rfl
    | false => rfl
  show (⟨fun s => bif Nat.beq s d then v else σ.tm s, σ.bs, σ.ob, σ.nx⟩ : VS) = σ
  rw [hf]
/-- In a region whose order is drawn: a truth value is the one or the other. -/
theorem DW.split {d : Nat} {c : Bool} {fr : List Nat} {cl : Bool} {Ψ : World → Ghost → Act → World → Prop} (hv : σ.tm d = V.one (.sc (.bool c))) (ht : c = true → DW E N τ fr cl (σ.put d (V.one (.sc (.bool true)))) Ψ) (hf : c = false → DW E N τ fr cl (σ.put d (V.one (.sc (.bool false)))) Ψ) : DW E N τ fr cl σ Ψ := by
  have e := put_same hv
  cases c with
  | true => rw [← e]; exact ht rfl
  | false => rw [← e]; exact hf rfl
theorem ok_pickT {c x y : Operand} {v : V} (ho : o.op = .pick c x y) (hc : σ.ev c = V.one (.sc (.bool true))) (hx : σ.ev x = v) : OpL P E N nb σ o v :=
  fun a w G h => ⟨a.eval x, fun v' _ => by simp [execOp, ho, h.sc hc, asBool], by rw [← hx]; exact h.ev x⟩
theorem ok_pickF {c x y : Operand} {v : V} (ho : o.op = .pick c x y) (hc : σ.ev c = V.one (.sc (.bool false))) (hx : σ.ev y = v) : OpL P E N nb σ o v :=
  fun a w G h => ⟨a.eval y, fun v' _ => by simp [execOp, ho, h.sc hc, asBool], by rw [← hx]; exact h.ev y⟩
end Go.Proofs.Ytjdjceohlcimaaa.V
/- What the programs' types are to the model: sizes, zeros, fields, elements; no function of program or reference. -/
namespace Go.Proofs.Ytjdjceohlcimaaa.V
open Go Go.RowKit
set_option linter.unusedVariables false
set_option maxRecDepth 10000
theorem sz_bool : Sz 4 1 := Sz.of (by kernel_rfl)
theorem agg_bool (w : World) : (isAgg 4).run Try.prog w = .ok false w := by go_simp <;> rfl
theorem zero_bool (w : World) : (zeroValue 4).run Try.prog w = .ok (.bool false) w := by go_simp <;> rfl
theorem sz_impl_Account : Sz 25 4 := Sz.of (by kernel_rfl)
theorem agg_impl_Account (w : World) : (isAgg 25).run Try.prog w = .ok true w := by go_simp <;> rfl
theorem zero_impl_Account (w : World) : (zeroValue 25).run Try.prog w = .ok (.agg #[.int .i64 0, .int .i64 0, .int .i64 0, .int .i64 0]) w := by go_simp <;> rfl
theorem fld_impl_Account_0 (ad : Addr) (w : World) (h : ad.spot = none) : (Instr.fieldAt 25 (.pointer (some ad)) 0).run Try.prog w = .ok (.pointer (some ⟨ad.block, ad.off + 0, none⟩)) w := by
  obtain ⟨b, o, s⟩ := ad
  subst h
  go_simp
theorem fld_impl_Account_1 (ad : Addr) (w : World) (h : ad.spot = none) : (Instr.fieldAt 25 (.pointer (some ad)) 1).run Try.prog w = .ok (.pointer (some ⟨ad.block, ad.off + 1, none⟩)) w := by
  obtain ⟨b, o, s⟩ := ad
  subst h
  go_simp
theorem fld_impl_Account_2 (ad : Addr) (w : World) (h : ad.spot = none) : (Instr.fieldAt 25 (.pointer (some ad)) 2).run Try.prog w = .ok (.pointer (some ⟨ad.block, ad.off + 2, none⟩)) w := by
  obtain ⟨b, o, s⟩ := ad
  subst h
  go_simp
theorem fld_impl_Account_3 (ad : Addr) (w : World) (h : ad.spot = none) : (Instr.fieldAt 25 (.pointer (some ad)) 3).run Try.prog w = .ok (.pointer (some ⟨ad.block, ad.off + 3, none⟩)) w := by
  obtain ⟨b, o, s⟩ := ad
  subst h
  go_simp
theorem bld_impl_Account (vs : Array (Nat × Value)) (r : Array Value) (w : World) (h : Instr.fill (fun i => ([(0, 1), (1, 1), (2, 1), (3, 1)] : List (Nat × Nat))[i]?) (Value.cells (.agg #[.int .i64 0, .int .i64 0, .int .i64 0, .int .i64 0])) vs.toList = some r) : (Instr.build 25 vs).run Try.prog w = .ok (.agg r) w := by
  have h2 := h
  simp only [Value.cells] at h2
  unfold Instr.build
  simp only [Sem.run_bind, zero_impl_Account, Result.andThen_ok]
  go_simp
theorem sz_int : Sz 3 1 := Sz.of (by kernel_rfl)
theorem agg_int (w : World) : (isAgg 3).run Try.prog w = .ok false w := by go_simp <;> rfl
theorem zero_int (w : World) : (zeroValue 3).run Try.prog w = .ok (.int .i64 0) w := by go_simp <;> rfl
theorem sz_int64 : Sz 2 1 := Sz.of (by kernel_rfl)
theorem agg_int64 (w : World) : (isAgg 2).run Try.prog w = .ok false w := by go_simp <;> rfl
theorem zero_int64 (w : World) : (zeroValue 2).run Try.prog w = .ok (.int .i64 0) w := by go_simp <;> rfl
theorem sz_laws_Account : Sz 36 4 := Sz.of (by kernel_rfl)
theorem agg_laws_Account (w : World) : (isAgg 36).run Try.prog w = .ok true w := by go_simp <;> rfl
theorem zero_laws_Account (w : World) : (zeroValue 36).run Try.prog w = .ok (.agg #[.int .i64 0, .int .i64 0, .int .i64 0, .int .i64 0]) w := by go_simp <;> rfl
theorem fld_laws_Account_0 (ad : Addr) (w : World) (h : ad.spot = none) : (Instr.fieldAt 36 (.pointer (some ad)) 0).run Try.prog w = .ok (.pointer (some ⟨ad.block, ad.off + 0, none⟩)) w := by
  obtain ⟨b, o, s⟩ := ad
  subst h
  go_simp
theorem fld_laws_Account_1 (ad : Addr) (w : World) (h : ad.spot = none) : (Instr.fieldAt 36 (.pointer (some ad)) 1).run Try.prog w = .ok (.pointer (some ⟨ad.block, ad.off + 1, none⟩)) w := by
  obtain ⟨b, o, s⟩ := ad
  subst h
  go_simp
theorem fld_laws_Account_2 (ad : Addr) (w : World) (h : ad.spot = none) : (Instr.fieldAt 36 (.pointer (some ad)) 2).run Try.prog w = .ok (.pointer (some ⟨ad.block, ad.off + 2, none⟩)) w := by
  obtain ⟨b, o, s⟩ := ad
  subst h
  go_simp
theorem fld_laws_Account_3 (ad : Addr) (w : World) (h : ad.spot = none) : (Instr.fieldAt 36 (.pointer (some ad)) 3).run Try.prog w = .ok (.pointer (some ⟨ad.block, ad.off + 3, none⟩)) w := by
  obtain ⟨b, o, s⟩ := ad
  subst h
  go_simp
theorem bld_laws_Account (vs : Array (Nat × Value)) (r : Array Value) (w : World) (h : Instr.fill (fun i => ([(0, 1), (1, 1), (2, 1), (3, 1)] : List (Nat × Nat))[i]?) (Value.cells (.agg #[.int .i64 0, .int .i64 0, .int .i64 0, .int .i64 0])) vs.toList = some r) : (Instr.build 36 vs).run Try.prog w = .ok (.agg r) w := by
  have h2 := h
  simp only [Value.cells] at h2
  unfold Instr.build
  simp only [Sem.run_bind, zero_laws_Account, Result.andThen_ok]
  go_simp
theorem sz_spec_l1Cur : Sz 49 3 := Sz.of (by kernel_rfl)
theorem agg_spec_l1Cur (w : World) : (isAgg 49).run Try.prog w = .ok true w := by go_simp <;> rfl
theorem zero_spec_l1Cur (w : World) : (zeroValue 49).run Try.prog w = .ok (.agg #[.slice none 0 0, .int .i64 0, .int .i64 0]) w := by go_simp <;> rfl
theorem fld_spec_l1Cur_0 (ad : Addr) (w : World) (h : ad.spot = none) : (Instr.fieldAt 49 (.pointer (some ad)) 0).run Try.prog w = .ok (.pointer (some ⟨ad.block, ad.off + 0, none⟩)) w := by
  obtain ⟨b, o, s⟩ := ad
  subst h
  go_simp
theorem fld_spec_l1Cur_1 (ad : Addr) (w : World) (h : ad.spot = none) : (Instr.fieldAt 49 (.pointer (some ad)) 1).run Try.prog w = .ok (.pointer (some ⟨ad.block, ad.off + 1, none⟩)) w := by
  obtain ⟨b, o, s⟩ := ad
  subst h
  go_simp
theorem fld_spec_l1Cur_2 (ad : Addr) (w : World) (h : ad.spot = none) : (Instr.fieldAt 49 (.pointer (some ad)) 2).run Try.prog w = .ok (.pointer (some ⟨ad.block, ad.off + 2, none⟩)) w := by
  obtain ⟨b, o, s⟩ := ad
  subst h
  go_simp
theorem bld_spec_l1Cur (vs : Array (Nat × Value)) (r : Array Value) (w : World) (h : Instr.fill (fun i => ([(0, 1), (1, 1), (2, 1)] : List (Nat × Nat))[i]?) (Value.cells (.agg #[.slice none 0 0, .int .i64 0, .int .i64 0])) vs.toList = some r) : (Instr.build 49 vs).run Try.prog w = .ok (.agg r) w := by
  have h2 := h
  simp only [Value.cells] at h2
  unfold Instr.build
  simp only [Sem.run_bind, zero_spec_l1Cur, Result.andThen_ok]
  go_simp
theorem sz_string : Sz 9 1 := Sz.of (by kernel_rfl)
theorem agg_string (w : World) : (isAgg 9).run Try.prog w = .ok false w := by go_simp <;> rfl
theorem zero_string (w : World) : (zeroValue 9).run Try.prog w = .ok (.string ByteArray.empty) w := by go_simp <;> rfl
theorem sz_uint8 : Sz 5 1 := Sz.of (by kernel_rfl)
theorem agg_uint8 (w : World) : (isAgg 5).run Try.prog w = .ok false w := by go_simp <;> rfl
theorem zero_uint8 (w : World) : (zeroValue 5).run Try.prog w = .ok (.int .u8 0) w := by go_simp <;> rfl
theorem sz_s_int : Sz 45 1 := Sz.of (by kernel_rfl)
theorem agg_s_int (w : World) : (isAgg 45).run Try.prog w = .ok false w := by go_simp <;> rfl
theorem zero_s_int (w : World) : (zeroValue 45).run Try.prog w = .ok (.slice none 0 0) w := by go_simp <;> rfl
theorem sz_s_uint8 : Sz 22 1 := Sz.of (by kernel_rfl)
theorem agg_s_uint8 (w : World) : (isAgg 22).run Try.prog w = .ok false w := by go_simp <;> rfl
theorem zero_s_uint8 (w : World) : (zeroValue 22).run Try.prog w = .ok (.slice none 0 0) w := by go_simp <;> rfl
theorem elt_int : ElT 45 3 1 (.int .i64 0) 8 := ⟨Try.underlying45, by kernel_rfl, rfl, by decide, by decide, by decide⟩
theorem elt_uint8 : ElT 22 5 1 (.int .u8 0) 1 := ⟨Try.underlying22, by kernel_rfl, rfl, by decide, by decide, by decide⟩
end Go.Proofs.Ytjdjceohlcimaaa.V
/- States told by trees: contracts of functions that write into what they are handed, and their calls. -/
namespace Go.Proofs.Ytjdjceohlcimaaa.V
open Go Go.RowKit
set_option linter.unusedVariables false
/-- An argument's cell: it may be read; or it is a lent object. -/
inductive AC where
  | rd (t : T)
  | ln (i : Nat)
def AC.leaf : AC → Leaf
  | .rd t => argLeaf t
  | .ln i => .hd i
def Env.lend (w : World) (lv : Nat → Value) (F : Nat → Nat → Prop) (n : Nat) (hF : ∀ i b, i < n → F i b → b < w.heap.size) : Env := ⟨w, fun b => ∃ i, i < n ∧ F i b, fun b ⟨i, h1, h2⟩ => hF i b h1 h2, lv, n, none⟩
def ArgsM (E : Env) (ins : List (Bool × List AC)) (vs : List Value) : Prop :=
  vs.length = ins.length ∧ ∀ (c : Nat) (ag : Bool) (ts : List AC) (v : Value), ins[c]? = some (ag, ts) → vs[c]? = some v → ∃ us : List Value, v = cval ag us ∧ us.length = ts.length ∧ ∀ (j : Nat) (x : AC) (u : Value), ts[j]? = some x → us[j]? = some u → match x with
    | .rd t => Inn E.old E.w0 t u
    | .ln i => i < E.nl ∧ u = E.lv i
/-- The lent objects are these trees, apart from each other. -/
def Lents (E : Env) (ls : List T) (w' : World) : Prop :=
  ∃ F : Nat → Nat → Prop, (∀ i t, ls[i]? = some t → Own w' 0 t (E.lv i) (F i)) ∧ (∀ i j b, i < ls.length → j < ls.length → i ≠ j → F i b → ¬ F j b) ∧ ∀ i b, i < ls.length → F i b → (E.B ≤ b ∨ E.ln b) ∧ b < w'.heap.size
/-- The call yields v, and turns the lent objects from ls into ls', whatever the memory. -/
def VM (P : Program) (f : FuncId) (ins : List (Bool × List AC)) (ls ls' : List T) (v : Value) : Prop :=
  ∀ (w : World) (lv : Nat → Value) (F : Nat → Nat → Prop) (hF : ∀ i b, i < ls.length → F i b → b < w.heap.size) (vs : List Value), (∀ i t, ls[i]? = some t → Own w 0 t (lv i) (F i) ∧ ∃ ty es, t = .seq ty es) → (∀ i j b, i < ls.length → j < ls.length → i ≠ j → F i b → ¬ F j b) → ArgsM (Env.lend w lv F ls.length hF) ins vs →
    Calls P f vs.toArray w fun e w' => Gives (Env.lend w lv F ls.length hF) false [(false, [.lit v])] e w' ∧ Lents (Env.lend w lv F ls.length hF) ls' w'
def VS.initM (vs : List V) (ls : List T) : VS := ⟨fun s => vs.getD s (V.one .dead), [], fun i => (ls[i]?).map fun t => (0, t), ls.length⟩
theorem init_relM {E : Env} {ins : List (Bool × List AC)} {ls : List T} {F : Nat → Nat → Prop} {vs : List Value} {n : Nat} (hE : E.plain ls.length) (hl : ∀ i t, ls[i]? = some t → Own E.w0 0 t (E.lv i) (F i) ∧ ∃ ty es, t = .seq ty es) (hd : ∀ i j b, i < ls.length → j < ls.length → i ≠ j → F i b → ¬ F j b)
    (hF : ∀ i b, i < ls.length → F i b → (E.B ≤ b ∨ E.ln b) ∧ b < E.w0.heap.size) (h : ArgsM E ins vs) (hn : vs.length ≤ n) : ∃ G, Rel E n (VS.initM (ins.map fun p => V.flat p.1 (p.2.map AC.leaf)) ls) { tmps := vs.toArray ++ Array.replicate (n - vs.length) undef, defers := [] } E.w0 G := by
  have hob : ∀ i ver t, (VS.initM (ins.map fun p => V.flat p.1 (p.2.map AC.leaf)) ls).ob i = some (ver, t) → ls[i]? = some t := fun i ver t hi => by
    obtain ⟨s, h1, h2⟩ := Option.map_eq_some_iff.1 hi
    cases h2
    exact h1
  have hlt : ∀ i, (VS.initM (ins.map fun p => V.flat p.1 (p.2.map AC.leaf)) ls).ob i ≠ none → i < ls.length := fun i hi => by
    obtain ⟨⟨v, t⟩, hv⟩ := Option.ne_none_iff_exists'.1 hi
    exact get_lt (hob i v t hv)
  refine ⟨⟨fun _ => 0, E.lv, F⟩, Same.refl _ _, rfl, by simp; omega, fun s => ?_, fun b ty xs hb => by simp [VS.initM] at hb, fun b b' hb => by simp [VS.initM] at hb, fun b i hb => by simp [VS.initM] at hb, fun i v t hi => ⟨get_lt (hob i v t hi), hl i t (hob i v t hi)⟩, fun i j b hi hj hij => hd i j b (hlt i hi) (hlt j hj) hij, fun i b hi hb => hF i b (hlt i hi) hb, ⟨by rw [hE.1]; exact Nat.le_refl _, fun i hi => rfl, fun c hc => by rw [hE.2] at hc; cases hc⟩⟩
  show VHolds _ _ _ E.w0 ((ins.map fun p => V.flat p.1 (p.2.map AC.leaf)).getD s (V.one .dead)) _
  rcases Nat.lt_or_ge s ins.length with hs | hs
  · obtain ⟨p, hp⟩ : ∃ p, ins[s]? = some p := ⟨ins[s], List.getElem?_eq_getElem hs⟩
    obtain ⟨ag, ts⟩ := p
    have hsv : s < vs.length := by rw [h.1]; exact hs
    obtain ⟨us, h1, h2, h3⟩ := h.2 s ag ts vs[s] hp (List.getElem?_eq_getElem hsv)
    have e1 : (ins.map fun p => V.flat p.1 (p.2.map AC.leaf)).getD s (V.one .dead) = V.flat ag (ts.map AC.leaf) := by simp [List.getD, hp]
    have e2 : (vs.toArray ++ Array.replicate (n - vs.length) undef).getD s undef = vs[s] := by
      simp only [Array.getD_eq_getD_getElem?]
      rw [Array.getElem?_append_left (by simpa using hsv)]
      simp [hsv]
    rw [e1]
    show VHolds _ _ _ E.w0 _ ((vs.toArray ++ Array.replicate (n - vs.length) undef).getD s undef)
    rw [e2, vflat]
    refine ⟨us, h1, by simp [h2], fun j x u hj hu => ?_⟩
    have hjt : j < ts.length := by have := get_lt hj; simpa using this
    have hx : x = AC.leaf ts[j] := by
      rw [List.getElem?_map, List.getElem?_eq_getElem hjt] at hj
      exact (Option.some.inj hj).symm
    have hin := h3 j ts[j] u (List.getElem?_eq_getElem hjt) hu
    rw [hx]
    cases hc : ts[j] with
    | ln i =>
      rw [hc] at hin
      obtain ⟨h4, h5⟩ := hin
      have h4' : i < ls.length := by rw [← hE.1]; exact h4
      exact ⟨⟨h4', h5⟩, .inr (by rw [h5]; exact (hl i ls[i] (List.getElem?_eq_getElem h4')).1.one)⟩
    | rd t =>
      rw [hc] at hin
      cases t with
      | any => exact ⟨trivial, .inl rfl⟩
      | lit v =>
        replace hin : Inn E.old E.w0 (.lit v) u := hin
        cases hin with
        | lit hv => exact ⟨rfl, .inr hv⟩
      | seq ty es => exact ⟨hin, .inr (Inn.one hin)⟩
  · have e1 : (ins.map fun p => V.flat p.1 (p.2.map AC.leaf)).getD s (V.one .dead) = V.one .dead := by simp [List.getD, hs]
    rw [e1, vone]
    exact ⟨trivial, .inl rfl⟩
theorem VM.enter {P : Program} {f : FuncId} {fn : Func} {c : Go.Code} {n : Nat} {ins : List (Bool × List AC)} {ls ls' : List T} {v : Value} {m : Nat} (hm : ls.length = m) (hf : P.funcs[f]? = some fn) (hb : fn.body = some c) (hn : fn.ntmps = n) (hl : ins.length ≤ n)
    (h : ∀ E, E.plain m → SV E n (VS.initM (ins.map fun p => V.flat p.1 (p.2.map AC.leaf)) ls) (c.wp P (bodyPost P fn fun e w' => Gives E false [(false, [.lit v])] e w' ∧ Lents E ls' w'))) : VM P f ins ls ls' v := fun w lv F hF vs h1 h2 hv => by
  refine calls_of_wp hf hb ?_
  obtain ⟨G, hG⟩ := init_relM (E := Env.lend w lv F ls.length hF) (F := F) ⟨rfl, rfl⟩ h1 h2 (fun i b hi hb => ⟨.inr ⟨i, hi, hb⟩, hF i b hi hb⟩) hv (n := n) (by rw [hv.1]; exact hl)
  have := h (Env.lend w lv F ls.length hF) ⟨hm, rfl⟩ _ _ G hG
  rw [hn]
  have e : (Env.lend w lv F ls.length hF).w0 = w := rfl
  rw [e] at this
  simpa using this
variable {P : Program} {E : Env} {N : Nat} {σ σ' : VS} {o : Oper} {a : Act} {w : World} {G : Ghost}
/-- The lent objects' trees, in their order. -/
def VS.lentOk (σ : VS) : Nat → List T → Prop
  | _, [] => True
  | i, t :: ts => (σ.ob i).map (·.2) = some t ∧ σ.lentOk (i + 1) ts
theorem VS.lentOk.get : ∀ {ts : List T} {i : Nat}, σ.lentOk i ts → ∀ k t, ts[k]? = some t → ∃ v, σ.ob (i + k) = some (v, t)
  | t :: ts, i, h, 0, s, hk => by
    cases hk
    obtain ⟨⟨v, t'⟩, h1, h2⟩ := Option.map_eq_some_iff.1 h.1
    exact ⟨v, by rw [Nat.add_zero, h1]; exact congrArg (fun x => some (v, x)) h2⟩
  | t :: ts, i, h, k + 1, s, hk => by
    have := VS.lentOk.get h.2 k s (by simpa using hk)
    rwa [Nat.add_assoc, Nat.add_comm 1 k] at this
theorem Rel.lents (h : Rel E N σ a w G) {ls : List T} (hE : E.nl = ls.length) (hl : σ.lentOk 0 ls) : Lents E ls w := by
  have hg : ∀ i t, ls[i]? = some t → ∃ v, σ.ob i = some (v, t) := fun i t hi => by
    have := hl.get i t hi
    rwa [Nat.zero_add] at this
  have hne : ∀ i, i < ls.length → σ.ob i ≠ none := fun i hi => by
    obtain ⟨v, h1⟩ := hg i ls[i] (List.getElem?_eq_getElem hi)
    rw [h1]; simp
  refine ⟨G.ft, fun i t hi => ?_, fun i j b hi hj hij => h.disj i j b (hne i hi) (hne j hj) hij, fun i b hi hb => h.ftlt i b (hne i hi) hb⟩
  obtain ⟨v, h1⟩ := hg i t hi
  rw [← h.lent.2.1 i (by rw [hE]; exact get_lt hi)]
  exact (h.objs i v t h1).2.1
theorem SV.doneM {fn : Func} {ls : List T} {e : Exit} {R : Ending → World → Prop} {m : Nat} (hE : E.plain m) (hm : ls.length = m) (hl : σ.lentOk 0 ls) (he : e = .ret ∨ e = .normal) (h : SV E N σ (bodyPost P fn R e)) : SV E N σ (bodyPost P fn (fun e w' => R e w' ∧ Lents E ls w') e) := fun a w G hr => by
  have h1 := h a w G hr
  have h2 := hr.lents (hE.1.trans hm.symm) hl
  rcases he with rfl | rfl
  all_goals
    obtain ⟨h3, v, h4, h5⟩ := h1
    exact ⟨h3, v, h4, h5, h2⟩
/-! ### Calls -/
/-- Arguments' cells: scalars, and places that are lent. -/
def VS.argM (ps : List Leaf) : List Leaf → List AC → Prop
  | [], [] => True
  | x :: xs, .rd t :: ts => (∃ u, t = .lit u ∧ x = .sc u) ∧ VS.argM ps xs ts
  | x :: xs, .ln i :: ts => ps[i]? = some x ∧ VS.argM ps xs ts
  | _, _ => False
theorem argM_get {ps : List Leaf} : ∀ {xs : List Leaf} {ts : List AC}, VS.argM ps xs ts → xs.length = ts.length ∧ ∀ (j : Nat) (t : AC), ts[j]? = some t → ∃ x, xs[j]? = some x ∧ match t with
    | .rd t => ∃ u, t = .lit u ∧ x = .sc u
    | .ln i => ps[i]? = some x
  | [], [], _ => ⟨rfl, fun j t h => by simp at h⟩
  | x :: xs, .rd t :: ts, h => by
    obtain ⟨h1, h2⟩ := argM_get h.2
    refine ⟨by simp [h1], fun j s hj => ?_⟩
    cases j with
    | zero => cases hj; exact ⟨x, rfl, h.1⟩
    | succ j => exact h2 j s (by simpa using hj)
  | x :: xs, .ln i :: ts, h => by
    obtain ⟨h1, h2⟩ := argM_get h.2
    refine ⟨by simp [h1], fun j s hj => ?_⟩
    cases j with
    | zero => cases hj; exact ⟨x, rfl, h.1⟩
    | succ j => exact h2 j s (by simpa using hj)
def VS.argsM (σ : VS) (ps : List Leaf) : List Operand → List (Bool × List AC) → Prop
  | [], [] => True
  | x :: xs, q :: qs => (∃ ls, σ.ev x = V.flat q.1 ls ∧ VS.argM ps ls q.2) ∧ σ.argsM ps xs qs
  | _, _ => False
theorem Rel.argsM (h : Rel E N σ a w G) {ps : List Leaf} {E' : Env} (hps : ∀ i x u, ps[i]? = some x → Holds G σ E w x u → i < E'.nl ∧ u = E'.lv i) : ∀ {xs : List Operand} {qs : List (Bool × List AC)}, σ.argsM ps xs qs → ArgsM E' qs (xs.map a.eval)
  | [], [], _ => ⟨rfl, fun c ag ts v hc => by simp at hc⟩
  | x :: xs, q :: qs, hq => by
    obtain ⟨⟨ls, h1, h2⟩, h3⟩ := hq
    obtain ⟨h4, h5⟩ := h.argsM hps h3
    refine ⟨by simpa using h4, fun c ag ts v hc hv => ?_⟩
    cases c with
    | zero =>
      cases hc
      cases hv
      have h6 := h.ev x
      rw [h1, vflat] at h6
      obtain ⟨us, h7, h8, h9⟩ := h6
      obtain ⟨h10, h11⟩ := argM_get h2
      refine ⟨us, h7, h8.trans h10, fun j t u hj hu => ?_⟩
      obtain ⟨y, h12, h13⟩ := h11 j t hj
      have h14 := h9 j y u h12 hu
      cases t with
      | ln i => exact hps i y u h13 h14
      | rd t =>
        obtain ⟨z, rfl, rfl⟩ := h13
        rcases h14.2 with h15 | h15
        · cases h15
        · have h16 : u = z := h14.1
          rw [h16] at h15 ⊢
          exact .lit h15
    | succ c => exact h5 c ag ts v (by simpa using hc) (by simpa using hv)
theorem Gives.lit {v : Value} {e : Ending} {w' : World} (h : Gives E false [(false, [.lit v])] e w') : e = .returned v ∧ Same E E.w0 w' := by
  obtain ⟨uss, F, h1, h2, h3, -, -, h4⟩ := h
  match uss, h1 with
  | [us], _ =>
    obtain ⟨h5, h6⟩ := h3 0 false [.lit v] us rfl rfl
    match us, h5 with
    | [u], _ =>
      have h7 := h6 0 (.lit v) u rfl rfl
      cases h7 with
      | lit h8 => exact ⟨h2, h4⟩
/-- An object's tree is another one. -/
def VS.setob (σ : VS) (i : Nat) (t : T) : VS := { σ with ob := fun k => bif Nat.beq k i then (σ.ob i).map (fun p => (p.1 + 1, t)) else σ.ob k }
def VS.setobs (σ : VS) : List Nat → List T → VS
  | i :: is, t :: ts => (σ.setob i t).setobs is ts
  | _, _ => σ
theorem setob_self {i : Nat} {t : T} : (σ.setob i t).ob i = (σ.ob i).map fun p => (p.1 + 1, t) := by show (bif Nat.beq i i then _ else _) = _; rw [Nat.beq_refl]; rfl
theorem setob_ne {i k : Nat} {t : T} (h : k ≠ i) : (σ.setob i t).ob k = σ.ob k := by show (bif Nat.beq k i then _ else _) = _; rw [nbne h]; rfl
theorem setobs_same : ∀ {is : List Nat} {ts : List T} {σ : VS}, (σ.setobs is ts).tm = σ.tm ∧ (σ.setobs is ts).bs = σ.bs ∧ (σ.setobs is ts).nx = σ.nx
  | [], _, _ => ⟨rfl, rfl, rfl⟩
  | _ :: _, [], _ => ⟨rfl, rfl, rfl⟩
  | i :: is, t :: ts, σ => setobs_same (is := is) (ts := ts) (σ := σ.setob i t)
theorem setobs_far : ∀ {is : List Nat} {ts : List T} {σ : VS} {k : Nat}, k ∉ is → (σ.setobs is ts).ob k = σ.ob k
  | [], _, _, _, _ => rfl
  | _ :: _, [], _, _, _ => rfl
  | i :: is, t :: ts, σ, k, h => by
    rw [show σ.setobs (i :: is) (t :: ts) = (σ.setob i t).setobs is ts from rfl, setobs_far (fun hk => h (List.mem_cons_of_mem _ hk)), setob_ne fun e => h (by rw [e]; exact List.mem_cons_self ..)]
theorem setobs_at : ∀ {is : List Nat} {ts : List T} {σ : VS} {q k : Nat} {t : T}, is.Nodup → is[q]? = some k → ts[q]? = some t → (σ.setobs is ts).ob k = (σ.ob k).map fun p => (p.1 + 1, t)
  | i :: is, s :: ts, σ, 0, k, t, hn, hk, ht => by
    cases hk
    cases ht
    rw [show σ.setobs (i :: is) (s :: ts) = (σ.setob i s).setobs is ts from rfl, setobs_far (List.nodup_cons.1 hn).1, setob_self]
  | i :: is, s :: ts, σ, q + 1, k, t, hn, hk, ht => by
    have hk' : is[q]? = some k := by simpa using hk
    have hne : k ≠ i := fun e => (List.nodup_cons.1 hn).1 (by rw [← e]; exact get_mem hk')
    rw [show σ.setobs (i :: is) (s :: ts) = (σ.setob i s).setobs is ts from rfl, setobs_at (List.nodup_cons.1 hn).2 hk' (by simpa using ht), setob_ne hne]
/-- What an object may be lent as. -/
def VS.lentIs (σ : VS) : List Nat → List T → List T → Prop
  | [], [], [] => True
  | i :: is, t :: ts, t' :: ts' => ((∃ v, σ.ob i = some (v, t)) ∧ (∃ ty es, t' = .seq ty es)) ∧ σ.lentIs is ts ts'
  | _, _, _ => False
theorem lentIs_get : ∀ {is : List Nat} {ts ts' : List T}, σ.lentIs is ts ts' → is.length = ts.length ∧ ts'.length = ts.length ∧ ∀ (q : Nat) (t : T), ts[q]? = some t → ∃ (i v : Nat) (t' : T), is[q]? = some i ∧ ts'[q]? = some t' ∧ σ.ob i = some (v, t) ∧ ∃ ty es, t' = .seq ty es
  | [], [], [], _ => ⟨rfl, rfl, fun q t h => by simp at h⟩
  | i :: is, t :: ts, t' :: ts', h => by
    obtain ⟨⟨⟨v, h1⟩, h2⟩, h3⟩ := h
    obtain ⟨h4, h5, h6⟩ := lentIs_get h3
    refine ⟨by simp [h4], by simp [h5], fun q s hq => ?_⟩
    cases q with
    | zero => cases hq; exact ⟨i, v, t', rfl, rfl, h1, h2⟩
    | succ q => exact h6 q s (by simpa using hq)
/-- A call that writes into objects of the caller's. -/
theorem ok_callM {d : Nat} {f : FuncId} {xs : List Operand} {ats : Array TypeId} {ins : List (Bool × List AC)} {ls ls' : List T} {v : Value} {is : List Nat} (ho : o.op = .call { callee := .value (.func f), args := xs.toArray, argTypes := ats }) (hb : ∃ fn c, P.funcs[f]? = some fn ∧ fn.body = some c ∧ fn.name ≠ "runtime.NumGoroutine")
    (hc : VM P f ins ls ls' v) (hx : σ.argsM (is.map .hd) xs ins) (hi : σ.lentIs is ls ls') (hnd : is.Nodup) (hv : v.oneCell' = true) (hd : o.dst = some d) (hdN : d < N) : OpOk P E N σ o ((σ.setobs is ls').put d (V.one (.sc v))) :=
  fun a w G K Q h k => by
    obtain ⟨fn, c, h1, h2, h2'⟩ := hb
    obtain ⟨l1, l2, l3⟩ := lentIs_get hi
    obtain ⟨F, hFd⟩ : ∃ F : Nat → Nat → Prop, F = fun q => G.ft (is.getD q 0) := ⟨_, rfl⟩
    obtain ⟨lv, hlv⟩ : ∃ lv : Nat → Value, lv = fun q => G.vl (is.getD q 0) := ⟨_, rfl⟩
    have hat : ∀ q i, is[q]? = some i → F q = G.ft i ∧ lv q = G.vl i := fun q i hq => by rw [hFd, hlv]; simp [List.getD, hq]
    have hin : ∀ q, q < ls.length → ∃ i ver t t', is[q]? = some i ∧ ls[q]? = some t ∧ ls'[q]? = some t' ∧ σ.ob i = some (ver, t) ∧ (∃ ty es, t' = .seq ty es) ∧ F q = G.ft i ∧ lv q = G.vl i := fun q hq => by
      obtain ⟨i, ver, t', e1, e2, e3, e4⟩ := l3 q ls[q] (List.getElem?_eq_getElem hq)
      exact ⟨i, ver, ls[q], t', e1, List.getElem?_eq_getElem hq, e2, e3, e4, hat q i e1⟩
    have hF : ∀ q b, q < ls.length → F q b → (E.B ≤ b ∨ E.ln b) ∧ b < w.heap.size := fun q b hq hb => by
      obtain ⟨i, ver, t, t', e1, e2, e3, e4, e5, e6, e7⟩ := hin q hq
      rw [e6] at hb
      exact h.ftlt i b (by rw [e4]; simp) hb
    have hinj : ∀ q q' i, is[q]? = some i → is[q']? = some i → q = q' := fun q q' i h1 h2 => by
      rcases Nat.lt_trichotomy q q' with hlt | he | hgt
      · exact absurd rfl (by
          have := (List.pairwise_iff_getElem.1 hnd) q q' (get_lt h1) (get_lt h2) hlt
          rw [List.getElem?_eq_getElem (get_lt h1)] at h1
          rw [List.getElem?_eq_getElem (get_lt h2)] at h2
          rw [Option.some.inj h1, Option.some.inj h2] at this
          exact this)
      · exact he
      · exact absurd rfl (by
          have := (List.pairwise_iff_getElem.1 hnd) q' q (get_lt h2) (get_lt h1) hgt
          rw [List.getElem?_eq_getElem (get_lt h1)] at h1
          rw [List.getElem?_eq_getElem (get_lt h2)] at h2
          rw [Option.some.inj h1, Option.some.inj h2] at this
          exact this)
    have hcall := hc w lv F (fun q b hq hb => (hF q b hq hb).2) (xs.map a.eval) (fun q t hq => by
      obtain ⟨i, ver, t', e1, e2, e3, e4⟩ := l3 q t hq
      obtain ⟨-, e5, e6⟩ := h.objs i ver t e3
      rw [(hat q i e1).1, (hat q i e1).2]
      exact ⟨e5, e6⟩) (fun q q' b hq hq' hne hb => by
      obtain ⟨i, ver, t, t', e1, e2, e3, e4, e5, e6, e7⟩ := hin q hq
      obtain ⟨i', ver', s, s', f1, f2, f3, f4, f5, f6, f7⟩ := hin q' hq'
      rw [e6] at hb
      rw [f6]
      refine h.disj i i' b (by rw [e4]; simp) (by rw [f4]; simp) (fun e => hne ?_) hb
      subst e
      exact hinj q q' i e1 f1) (h.argsM (fun q x u hq hu => by
      rw [List.getElem?_map] at hq
      obtain ⟨i, e1, e2⟩ := Option.map_eq_some_iff.1 hq
      subst e2
      exact ⟨by show q < ls.length; rw [← l1]; exact get_lt e1, by rw [hu.1.2]; exact (hat q i e1).2.symm⟩) hx)
    have hrun : (execOp a.eval o).run P w = .ok (.enter f (xs.map a.eval).toArray) w := by
      simp [execOp, ho, resolve, Act.eval, Deferred.ofValue, invoke, callFunc, h1, h2, h2', Result.andThen]
    unfold Oper.wp
    rw [hrun]
    refine hcall.mono fun e w' ⟨hg, F', o', d', l'⟩ => ?_
    obtain ⟨he, hsame⟩ := hg.lit
    subst he
    have hsm : Same E w w' := ⟨hsame.os, hsame.tape, hsame.output, hsame.size, fun b hb => hsame.block b ⟨Nat.lt_of_lt_of_le hb.1 h.low, fun ⟨q, hq, hqb⟩ => (hF q b hq hqb).1.elim (fun h1 => by have := hb.1; omega) hb.2⟩⟩
    obtain ⟨s1, s2, s3⟩ := setobs_same (is := is) (ts := ls') (σ := σ)
    have hmem : ∀ i, i ∈ is → ∃ q t t' ver, is[q]? = some i ∧ ls[q]? = some t ∧ ls'[q]? = some t' ∧ σ.ob i = some (ver, t) ∧ (∃ ty es, t' = .seq ty es) ∧ (σ.setobs is ls').ob i = some (ver + 1, t') := fun i hi => by
      obtain ⟨q, hq, rfl⟩ := List.getElem_of_mem hi
      obtain ⟨i', ver, t, t', e1, e2, e3, e4, e5, -⟩ := hin q (by omega)
      have : is[q] = i' := by rw [List.getElem?_eq_getElem hq] at e1; exact Option.some.inj e1
      subst this
      exact ⟨q, t, t', ver, e1, e2, e3, e4, e5, by rw [setobs_at hnd e1 e3, e4]; rfl⟩
    have hturn := h.turn (σ' := σ.setobs is ls') (w' := w') (G' := ⟨G.β, G.vl, fun i b => (i ∉ is ∧ G.ft i b) ∨ ∃ q, is[q]? = some i ∧ F' q b⟩) (fun b => ∃ q, q < ls.length ∧ F q b) s1 s2 rfl hsm (fun b hb hnD => hsame.block b ⟨hb, hnD⟩) (fun b hb ⟨q, hq, hqb⟩ => by
      obtain ⟨i, ver, t, t', e1, e2, e3, e4, e5, e6, e7⟩ := hin q hq
      rw [e6] at hqb
      exact h.boxft b i hb (by rw [e4]; simp) hqb) (Nat.le_of_eq s3.symm) (fun i hi => rfl) (fun i v' t' hv' => ?_) (fun i j b hi hj hij hbi hbj => ?_)
    · rw [hd]
      exact k _ _ _ (hturn.1.put hdN (vone.2 ⟨rfl, .inr hv⟩))
    · by_cases him : i ∈ is
      · obtain ⟨q, t, t2, ver, e1, e2, e3, e4, e5, e6⟩ := hmem i him
        rw [e6] at hv'
        cases hv'
        have hq := get_lt e3
        have hqi : ∀ b, ((i ∉ is ∧ G.ft i b) ∨ ∃ q, is[q]? = some i ∧ F' q b) → F' q b := fun b hb => by
          rcases hb with ⟨hb, -⟩ | ⟨q', f1, f2⟩
          · exact absurd him hb
          · rw [hinj q q' i e1 f1]; exact f2
        refine .inr ⟨by rw [s3]; exact (h.objs i ver t e4).1, fun _ => ⟨ver, t, e4, Nat.lt_succ_self _⟩, ?_, e5, fun b hb => ?_, fun b hb c hc e => ?_⟩
        · have := o' q t' e3
          rw [show (Env.lend w lv F ls.length _).lv q = G.vl i from (hat q i e1).2] at this
          exact this.mono fun b hb => .inr ⟨q, e1, hb⟩
        · obtain ⟨m1, m2⟩ := l' q b hq (hqi b hb)
          refine ⟨?_, m2⟩
          rcases m1 with m1 | ⟨q', m1, m3⟩
          · exact .inl (Nat.le_trans h.low m1)
          · exact (hF q' b m1 m3).1
        · obtain ⟨m1, m2⟩ := l' q b hq (hqi b hb)
          rcases m1 with m1 | ⟨q', m1, m3⟩
          · exact (h.fresh m1).2 c hc e
          · obtain ⟨i', ver', s, s', f1, f2, f3, f4, f5, f6, f7⟩ := hin q' m1
            rw [f6, ← e] at m3
            exact h.boxft c i' hc (by rw [f4]; simp) m3
      · rw [setobs_far him] at hv'
        refine .inl ⟨hv', fun b => ⟨fun hb => ?_, fun hb => .inl ⟨him, hb⟩⟩, fun b hb ⟨q, hq, hqb⟩ => ?_⟩
        · rcases hb with hb | ⟨q, f1, -⟩
          · exact hb.2
          · exact absurd (get_mem f1) him
        · obtain ⟨i', ver', s, s', f1, f2, f3, f4, f5, f6, f7⟩ := hin q hq
          rw [f6] at hqb
          exact h.disj i i' b (by rw [hv']; simp) (by rw [f4]; simp) (fun e => him (by rw [e]; exact get_mem f1)) hb hqb
    · have key : ∀ i q b, is[q]? = some i → F' q b → ∀ j, j ∉ is → σ.ob j ≠ none → ¬ G.ft j b := fun i q b e1 e2 j hj1 hj2 hjb => by
        have hq : q < ls'.length := by have := get_lt e1; omega
        obtain ⟨m1, m2⟩ := l' q b hq e2
        rcases m1 with m1 | ⟨q', m1, m3⟩
        · have := (h.ftlt j b hj2 hjb).2
          have m1' : w.heap.size ≤ b := m1
          omega
        · obtain ⟨i', ver', s, s', f1, f2, f3, f4, f5, f6, f7⟩ := hin q' m1
          rw [f6] at m3
          exact h.disj j i' b hj2 (by rw [f4]; simp) (fun e => hj1 (by rw [e]; exact get_mem f1)) hjb m3
      rcases hbi with ⟨hi1, hi2⟩ | ⟨q, hi1, hi2⟩ <;> rcases hbj with ⟨hj1, hj2⟩ | ⟨q', hj1, hj2⟩
      · rw [setobs_far hi1] at hi
        rw [setobs_far hj1] at hj
        exact h.disj i j b hi hj hij hi2 hj2
      · rw [setobs_far hi1] at hi
        exact key j q' b hj1 hj2 i hi1 hi hi2
      · rw [setobs_far hj1] at hj
        exact key i q b hi1 hi2 j hj1 hj hj2
      · have hq : q < ls'.length := by have := get_lt hi1; omega
        have hq' : q' < ls'.length := by have := get_lt hj1; omega
        exact d' q q' b hq hq' (fun e => hij (by subst e; rw [hi1] at hj1; exact Option.some.inj hj1)) hi2 hj2
end Go.Proofs.Ytjdjceohlcimaaa.V
/- States told by trees: what lies in an object's element is lent; an element's cells are written. -/
namespace Go.Proofs.Ytjdjceohlcimaaa.V
open Go Go.RowKit
set_option linter.unusedVariables false
variable {P : Program} {E : Env} {N : Nat} {σ σ' : VS} {o : Oper} {a : Act} {w : World} {G : Ghost}
theorem at_inj {n k k' j j' : Nat} (hj : j < n) (hj' : j' < n) (h : k * n + j = k' * n + j') : k = k' ∧ j = j' := by
  rcases Nat.lt_trichotomy k k' with h1 | h1 | h1
  · have h2 : (k + 1) * n ≤ k' * n := Nat.mul_le_mul_right n h1
    rw [Nat.add_mul, Nat.one_mul] at h2
    omega
  · subst h1
    exact ⟨rfl, by omega⟩
  · have h2 : (k' + 1) * n ≤ k * n := Nat.mul_le_mul_right n h1
    rw [Nat.add_mul, Nat.one_mul] at h2
    omega
theorem set_get {α : Type} {l : List α} {k q : Nat} {x y : α} (h : (l.set k y)[q]? = some x) : (q = k ∧ x = y) ∨ (q ≠ k ∧ l[q]? = some x) := by
  by_cases hq : q = k
  · subst hq
    have hl : q < l.length := by have := get_lt h; simpa using this
    rw [List.getElem?_set_self hl] at h
    exact .inl ⟨rfl, (Option.some.inj h).symm⟩
  · rw [List.getElem?_set_ne (fun e => hq e.symm)] at h
    exact .inr ⟨hq, h⟩
/-- A call that writes into a slice in an element of an object of the caller's. -/
theorem ok_callM_nd {d : Nat} {f : FuncId} {xs : List Operand} {ats : Array TypeId} {ins : List (Bool × List AC)} {v : Value} {i ver kk oo : Nat} {ty ty1 ty2 : TypeId} {es es' : List (List T)} {e : List T} {es1 es2 : List (List T)} (ho : o.op = .call { callee := .value (.func f), args := xs.toArray, argTypes := ats }) (hb : ∃ fn c, P.funcs[f]? = some fn ∧ fn.body = some c ∧ fn.name ≠ "runtime.NumGoroutine")
    (hc : VM P f ins [.seq ty1 es1] [.seq ty2 es2] v) (hx : σ.argsM [.nd i ver (.seq ty1 es1) (some (kk, oo))] xs ins) (hi : σ.ob i = some (ver, .seq ty es)) (he : es[kk]? = some e) (hoo : e[oo]? = some (.seq ty1 es1)) (hes : es.set kk (e.set oo (.seq ty2 es2)) = es') (hv : v.oneCell' = true) (hd : o.dst = some d) (hdN : d < N) : OpOk P E N σ o ((σ.setob i (.seq ty es')).put d (V.one (.sc v))) :=
  fun a w G K Q h k => by
    subst hes
    obtain ⟨fn, c, h1, h2, h2'⟩ := hb
    obtain ⟨hlt, hown0, -⟩ := h.objs i ver _ hi
    -- where the place lies
    have place : ∀ u, Holds G σ E w (.nd i ver (.seq ty1 es1) (some (kk, oo))) u → ∃ (g M c : Nat), G.vl i = .slice (some ⟨g, 0, none⟩) M c ∧ w.cell? ⟨g, kk * e.length + oo, none⟩ = some u := fun u hu => by
      obtain ⟨-, h5⟩ := hu.1.2.2 ⟨_, hi⟩
      obtain ⟨g, M, c, n, ty', fs, e', e1, e2, e3, e4, e5, e6⟩ := h5 kk oo rfl
      rw [hi] at e1
      cases e1
      rw [he] at e3
      cases e3
      subst e4
      exact ⟨g, M, c, e2, e6⟩
    generalize hV : G.vl i = V0 at hown0
    cases hown0 with
    | seq n hp hz hn xs0 hown Gs hr hone hFr hG hne hdd =>
    have hen : e.length = n := hn e (get_mem he)
    have hol : oo < n := by rw [← hen]; exact get_lt hoo
    have hql := at_lt (get_lt he) hol
    have hxl := hown.1
    obtain ⟨u0, hu0⟩ : ∃ u0, xs0[kk * n + oo]? = some u0 := ⟨_, List.getElem?_eq_getElem (by omega)⟩
    have hval : ∀ u, Holds G σ E w (.nd i ver (.seq ty1 es1) (some (kk, oo))) u → u = u0 := fun u hu => by
      obtain ⟨g, M, c, e1, e2⟩ := place u hu
      obtain ⟨a2, c2, e3, -, -, -, e4⟩ := own_slice hown
      obtain ⟨g2, e5, -, -, e6, -⟩ := e4 (by have := get_lt he; omega)
      rw [hV, e3] at e1
      injection e1 with e1 _ _
      rw [e5] at e1
      injection e1 with e1
      injection e1 with e1
      subst e1
      have := e6 _ _ hu0
      rw [hen, this] at e2
      exact (Option.some.inj e2).symm
    have hownu := hr kk e oo _ u0 he hoo hu0
    have hftG : ∀ q b, Gs q b → (E.B ≤ b ∨ E.ln b) ∧ b < w.heap.size := fun q b hb => h.ftlt i b (by rw [hi]; simp) (hG q b hb)
    have hcall := hc w (fun _ => u0) (fun _ => Gs (kk * n + oo)) (fun q b _ hb => (hftG _ b hb).2) (xs.map a.eval) (fun q t hq => by
      cases q with
      | zero => cases hq; exact ⟨hownu, _, _, rfl⟩
      | succ q => simp at hq) (fun q q' b hq hq' hne' => by simp at hq hq'; omega) (h.argsM (fun q x u hq hu => by
      cases q with
      | zero => cases hq; exact ⟨Nat.zero_lt_one, hval u hu⟩
      | succ q => simp at hq) hx)
    have hrun : (execOp a.eval o).run P w = .ok (.enter f (xs.map a.eval).toArray) w := by
      simp [execOp, ho, resolve, Act.eval, Deferred.ofValue, invoke, callFunc, h1, h2, h2', Result.andThen]
    unfold Oper.wp
    rw [hrun]
    refine hcall.mono fun ee w' ⟨hg, F', o', d', l'⟩ => ?_
    obtain ⟨hee, hsame⟩ := hg.lit
    subst hee
    have hblk : ∀ b, b < w.heap.size → ¬ Gs (kk * n + oo) b → w'.heap[b]? = w.heap[b]? := fun b hb hn => hsame.block b ⟨hb, fun ⟨q, _, hq⟩ => hn hq⟩
    have hsm : Same E w w' := ⟨hsame.os, hsame.tape, hsame.output, hsame.size, fun b hb => hblk b (Nat.lt_of_lt_of_le hb.1 h.low) fun hq => (hftG _ b hq).1.elim (fun h1 => by have := hb.1; omega) hb.2⟩
    have hown' : Own w' 0 (.seq ty2 es2) u0 (F' 0) := o' 0 _ rfl
    have hF' : ∀ b, F' 0 b → (w.heap.size ≤ b ∨ Gs (kk * n + oo) b) ∧ b < w'.heap.size := fun b hb => by
      obtain ⟨m1, m2⟩ := l' 0 b Nat.zero_lt_one hb
      exact ⟨m1.elim .inl fun ⟨q, _, hq⟩ => .inr hq, m2⟩
    have hF2 : ∀ b, F' 0 b → b < w.heap.size → Gs (kk * n + oo) b := fun b hb hlt => (hF' b hb).1.elim (fun h1 => absurd hlt (Nat.not_lt.2 h1)) id
    have hroot : ∀ b, V0.ownBlock = some b → b < w.heap.size := fun b hb => (World.ownsRow.lt hown b hb).2
    have hnew : Own w' 0 (.seq ty (es.set kk (e.set oo (.seq ty2 es2)))) V0 (fun b => G.ft i b ∨ F' 0 b) := by
      have hlen' : (es.set kk (e.set oo (.seq ty2 es2))).length = es.length := List.length_set
      refine .seq n hp hz (fun e' he' => ?_) xs0 (by rw [hlen']; exact ownsRow_heap hown fun b hb => hblk b (hroot b hb) fun hq => hne _ b hq hb) (fun q b => if q = kk * n + oo then F' 0 b else Gs q b) (fun k2 e2 j t u hk2 hj hu => ?_) hone (fun b hb => .inl (hFr b hb)) (fun q b hb => ?_) (fun q b hb hvb => ?_) fun q q' b hb hb' => ?_
      · rcases List.mem_or_eq_of_mem_set he' with h3 | h3
        · exact hn e' h3
        · rw [h3, List.length_set]; exact hen
      · have hfar : k2 * n + j ≠ kk * n + oo → Own w 0 t u (Gs (k2 * n + j)) → Own w' 0 t u (fun b => if k2 * n + j = kk * n + oo then F' 0 b else Gs (k2 * n + j) b) := fun hneq hw => by
          refine (hw.frame fun b hb => hblk b (hftG _ b hb).2 fun hq => hneq (hdd _ _ b hb hq)).mono fun b hb => ?_
          rw [if_neg hneq]; exact hb
        rcases set_get hk2 with ⟨rfl, rfl⟩ | ⟨hk2n, hk2⟩
        · rcases set_get hj with ⟨rfl, rfl⟩ | ⟨hjn, hj⟩
          · rw [hu0] at hu
            cases hu
            exact hown'.mono fun b hb => by rw [if_pos rfl]; exact hb
          · have hjl : j < n := by rw [← hen]; exact get_lt hj
            exact hfar (fun e3 => hjn (at_inj hjl hol e3).2) (hr k2 e j t u he hj hu)
        · have hjl : j < n := by rw [← hn e2 (get_mem hk2)]; exact get_lt hj
          exact hfar (fun e3 => hk2n (at_inj hjl hol e3).1) (hr k2 e2 j t u hk2 hj hu)
      · replace hb : if q = kk * n + oo then F' 0 b else Gs q b := hb
        split at hb
        · exact .inr hb
        · exact .inl (hG q b hb)
      · replace hb : if q = kk * n + oo then F' 0 b else Gs q b := hb
        split at hb
        · exact hne _ b (hF2 b hb (hroot b hvb)) hvb
        · exact hne _ b hb hvb
      · replace hb : if q = kk * n + oo then F' 0 b else Gs q b := hb
        replace hb' : if q' = kk * n + oo then F' 0 b else Gs q' b := hb'
        split at hb <;> split at hb'
        · omega
        · have := hdd _ _ b (hF2 b hb (hftG _ b hb').2) hb'
          omega
        · have := hdd _ _ b (hF2 b hb' (hftG _ b hb).2) hb
          omega
        · exact hdd _ _ b hb hb'
    have hself : (σ.setob i (.seq ty (es.set kk (e.set oo (.seq ty2 es2))))).ob i = some (ver + 1, .seq ty (es.set kk (e.set oo (.seq ty2 es2)))) := by rw [setob_self, hi]; rfl
    have hft : ∀ j, j ≠ i → ∀ b, (if j = i then G.ft i b ∨ F' 0 b else G.ft j b) ↔ G.ft j b := fun j hj b => by rw [if_neg hj]
    have hturn := h.turn (σ' := σ.setob i (.seq ty (es.set kk (e.set oo (.seq ty2 es2))))) (w' := w') (G' := ⟨G.β, G.vl, fun j b => if j = i then G.ft i b ∨ F' 0 b else G.ft j b⟩) (Gs (kk * n + oo)) rfl rfl rfl hsm hblk (fun b hb hq => h.boxft b i hb (by rw [hi]; simp) (hG _ _ hq)) (Nat.le_refl _) (fun j hj => rfl) (fun j v' t' hv' => ?_) (fun j j' b hj hj' hjj hbj hbj' => ?_)
    · rw [hd]
      exact k _ _ _ (hturn.1.put hdN (vone.2 ⟨rfl, .inr hv⟩))
    · by_cases hji : j = i
      · subst hji
        rw [hself] at hv'
        cases hv'
        refine .inr ⟨hlt, fun _ => ⟨ver, _, hi, Nat.lt_succ_self _⟩, ?_, ⟨_, _, rfl⟩, fun b hb => ?_, fun b hb c hc e3 => ?_⟩
        · rw [show (⟨G.β, G.vl, fun j' b => if j' = j then G.ft j b ∨ F' 0 b else G.ft j' b⟩ : Ghost).vl j = V0 from hV]
          exact hnew.mono fun b hb => by show if j = j then _ else _; rw [if_pos rfl]; exact hb
        · replace hb : if j = j then G.ft j b ∨ F' 0 b else G.ft j b := hb
          rw [if_pos rfl] at hb
          rcases hb with hb | hb
          · have := h.ftlt j b (by rw [hi]; simp) hb
            exact ⟨this.1, Nat.lt_of_lt_of_le this.2 hsm.size⟩
          · obtain ⟨m1, m2⟩ := hF' b hb
            exact ⟨m1.elim (fun m1 => .inl (Nat.le_trans h.low m1)) fun m1 => (hftG _ b m1).1, m2⟩
        · replace hb : if j = j then G.ft j b ∨ F' 0 b else G.ft j b := hb
          rw [if_pos rfl] at hb
          rcases hb with hb | hb
          · exact h.boxft c j hc (by rw [hi]; simp) (by rw [e3]; exact hb)
          · rcases (hF' b hb).1 with m1 | m1
            · exact (h.fresh m1).2 c hc e3
            · exact h.boxft c j hc (by rw [hi]; simp) (by rw [e3]; exact hG _ b m1)
      · rw [setob_ne hji] at hv'
        exact .inl ⟨hv', hft j hji, fun b hb hq => h.disj j i b (by rw [hv']; simp) (by rw [hi]; simp) hji hb (hG _ b hq)⟩
    · have key : ∀ j b, j ≠ i → σ.ob j ≠ none → G.ft j b → (G.ft i b ∨ F' 0 b) → False := fun j b hj hjo hjb hb => by
        rcases hb with hb | hb
        · exact h.disj j i b hjo (by rw [hi]; simp) hj hjb hb
        · rcases (hF' b hb).1 with m1 | m1
          · have := (h.ftlt j b hjo hjb).2; omega
          · exact h.disj j i b hjo (by rw [hi]; simp) hj hjb (hG _ b m1)
      replace hbj : if j = i then G.ft i b ∨ F' 0 b else G.ft j b := hbj
      replace hbj' : if j' = i then G.ft i b ∨ F' 0 b else G.ft j' b := hbj'
      split at hbj <;> split at hbj'
      · omega
      · rename_i e1 e2
        rw [setob_ne e2] at hj'
        exact key j' b e2 hj' hbj' hbj
      · rename_i e1 e2
        rw [setob_ne e1] at hj
        exact key j b e1 hj hbj hbj'
      · rename_i e1 e2
        rw [setob_ne e1] at hj
        rw [setob_ne e2] at hj'
        exact h.disj j j' b hj hj' hjj hbj hbj'
theorem splice_get {α : Type} {l vs : List α} {i j : Nat} (h : i + vs.length ≤ l.length) : (l.take i ++ vs ++ l.drop (i + vs.length))[j]? = if i ≤ j ∧ j < i + vs.length then vs[j - i]? else l[j]? := by
  have hl : (l.take i).length = i := by rw [List.length_take]; omega
  rw [List.append_assoc]
  rcases Nat.lt_or_ge j i with hj | hj
  · rw [List.getElem?_append_left (by omega), List.getElem?_take, if_pos hj, if_neg (by omega)]
  · rw [List.getElem?_append_right (by omega), hl]
    rcases Nat.lt_or_ge (j - i) vs.length with hk | hk
    · rw [List.getElem?_append_left hk, if_pos ⟨hj, by omega⟩]
    · rw [List.getElem?_append_right hk, List.getElem?_drop, if_neg (by omega)]
      congr 1
      omega
theorem splice_len {α : Type} {l vs : List α} {i : Nat} (h : i + vs.length ≤ l.length) : (l.take i ++ vs ++ l.drop (i + vs.length)).length = l.length := by
  simp only [List.length_append, List.length_take, List.length_drop]
  omega
theorem kills_ob {cs : List Leaf} {j : Nat} (h : cs.any (isHd j) = false) : (σ.kills cs).ob j = σ.ob j := by show (bif cs.any (isHd j) then none else σ.ob j) = _; rw [h]; rfl
theorem kills_none {cs : List Leaf} {j : Nat} (h : cs.any (isHd j) = true) : (σ.kills cs).ob j = none := by show (bif cs.any (isHd j) then none else σ.ob j) = _; rw [h]; rfl
/-- Cells of an object's element are written; what is handed over is gone. -/
theorem ok_store_ep {i ver kk oo n m : Nat} {ty ty0 : TypeId} {x y : Operand} {ag : Bool} {zs : List Leaf} {ts : List T} {es es' : List (List T)} {e : List T} (ho : o.op = .store ty0 x y) (hx : σ.ev x = V.one (.ep i kk n oo)) (hy : σ.ev y = V.flat ag zs) (hi : σ.ob i = some (ver, .seq ty es)) (he : es[kk]? = some e) (hm : Sz ty0 m) (h1 : ag = false → m = 1)
    (hzl : zs.length = m) (hsn : Sz ty n) (hlen : oo + m ≤ n) (ht : σ.outs zs ts) (h2 : zs.Pairwise two) (hself : zs.any (isHd i) = false) (hes : es.set kk (e.take oo ++ ts ++ e.drop (oo + ts.length)) = es') (hd : o.dst = none) : OpOk Try.prog E N σ o ((σ.kills zs).setob i (.seq ty es')) :=
  fun a w G K Q h k => by
    subst hes
    have hxv := h.ev x
    rw [hx, vone] at hxv
    obtain ⟨⟨hlt, g, M, c, hvl, hptr⟩, -⟩ := hxv
    have hyv := h.ev y
    rw [hy, vflat] at hyv
    obtain ⟨us, hu1, hu2, hu3⟩ := hyv
    obtain ⟨o1, o2⟩ := outs_get ht
    have hzo : ∀ z ∈ zs, ∃ t, σ.out z = some t := fun z hz => by
      obtain ⟨j, hj, rfl⟩ := List.getElem_of_mem hz
      obtain ⟨z', e1, e2⟩ := o2 j ts[j] (List.getElem?_eq_getElem (by omega))
      rw [List.getElem?_eq_getElem hj] at e1
      exact ⟨_, by rw [Option.some.inj e1]; exact e2⟩
    have hown1 : ∀ (j : Nat) (t : T) (u : Value), ts[j]? = some t → us[j]? = some u → ∃ z, zs[j]? = some z ∧ Own w 0 t u (z.foot G) := fun j t u hj hu => by
      obtain ⟨z, e1, e2⟩ := o2 j t hj
      exact ⟨z, e1, h.out (hu3 j z u e1 hu) e2⟩
    -- whose blocks they are
    have hfoot : ∀ z ∈ zs, ∀ b, z.foot G b → ∃ j, z = .hd j ∧ σ.ob j ≠ none ∧ j ≠ i ∧ G.ft j b := fun z hz b hb => by
      cases z with
      | hd j =>
        obtain ⟨t, e1⟩ := hzo _ hz
        obtain ⟨p, e2, -⟩ := Option.map_eq_some_iff.1 e1
        refine ⟨j, rfl, by rw [e2]; simp, fun e3 => ?_, hb⟩
        subst e3
        have := List.any_eq_false.1 hself _ hz
        exact this (Nat.beq_refl j)
      | _ => exact hb.elim
    have hfd : ∀ (q q' : Nat) (z z' : Leaf) (b : Nat), zs[q]? = some z → zs[q']? = some z' → z.foot G b → z'.foot G b → q = q' := fun q q' z z' b e1 e2 hb hb' => by
      obtain ⟨j, rfl, f1, f2, f3⟩ := hfoot z (get_mem e1) b hb
      obtain ⟨j', rfl, f4, f5, f6⟩ := hfoot z' (get_mem e2) b hb'
      have hjj : j = j' := by
        rcases Nat.decEq j j' with hne | hne
        · exact absurd f6 (h.disj j j' b f1 f4 hne f3)
        · exact hne
      subst hjj
      have g1 := get_lt e1
      have g2 := get_lt e2
      rw [List.getElem?_eq_getElem g1] at e1
      rw [List.getElem?_eq_getElem g2] at e2
      rcases Nat.lt_trichotomy q q' with hlt2 | he2 | hgt
      · have := (List.pairwise_iff_getElem.1 h2) q q' g1 g2 hlt2
        rw [Option.some.inj e1, Option.some.inj e2] at this
        exact absurd rfl (this j rfl)
      · exact he2
      · have := (List.pairwise_iff_getElem.1 h2) q' q g2 g1 hgt
        rw [Option.some.inj e1, Option.some.inj e2] at this
        exact absurd rfl (this j rfl)
    have hone1 : ∀ u ∈ us, u.oneCell' = true := fun u hu => by
      obtain ⟨j, hj, rfl⟩ := List.getElem_of_mem hu
      obtain ⟨z, -, e2⟩ := hown1 j ts[j] us[j] (List.getElem?_eq_getElem (by omega)) (List.getElem?_eq_getElem hj)
      exact e2.one
    obtain ⟨hlt2, hown0, -⟩ := h.objs i ver _ hi
    rw [hvl] at hown0
    cases hown0 with
    | seq n' hp hz hn xs0 hown Gs hr hone hFr hG hne hdd =>
    have hnn := hz.eq hsn
    subst hnn
    have hen : e.length = n' := hn e (get_mem he)
    have hkl := get_lt he
    have hwn := hown
    obtain ⟨hxl, ⟨e0, -⟩ | ⟨g2, cap, cur, e0, hB, hh, hcap, hcm, hcs, htk⟩⟩ := hown
    · cases e0
    injection e0 with e0 e0' e0''
    injection e0 with e0
    injection e0 with e0
    subst e0
    have hq : kk * n' + oo + us.length ≤ es.length * n' := by
      have : (kk + 1) * n' ≤ es.length * n' := Nat.mul_le_mul_right n' hkl
      rw [Nat.add_mul, Nat.one_mul] at this
      omega
    have hcl : es.length * n' ≤ cur.toList.length := by
      have h3 : cur.toList.length = cap * n' := by simpa using hcs
      rw [h3]
      exact Nat.mul_le_mul_right n' hcap
    have hh' : w.heap[g]? = some (.cells cur.toList.toArray ty (0, 0)) := by simpa using hh
    have hnew := setCells_heap g us (kk * n' + oo) w cur.toList ty hh' (by omega)
    obtain ⟨w', hw'⟩ : ∃ w', w' = w.setCells g (kk * n' + oo) us := ⟨_, rfl⟩
    rw [← hw'] at hnew
    have hfar : ∀ b, b ≠ g → w'.heap[b]? = w.heap[b]? := fun b hb => by rw [hw']; exact setCells_far g us _ w b hb
    have hbel : Below 0 w w' := by rw [hw']; exact setCells_below g 0 us _ w (Nat.zero_le _)
    have hgft : G.ft i g := hFr g rfl
    have hgl := h.ftlt i g (by rw [hi]; simp) hgft
    have hsm : Same E w w' := ⟨hbel.os, hbel.tape, hbel.output, hbel.size, fun b hb => hfar b fun e1 => by
      subst e1
      exact hgl.1.elim (fun h1 => by have := hb.1; omega) hb.2⟩
    have hrun := store_run (P := Try.prog) (w := w) (b := g) (i := kk * n' + oo) (us := us) (ag := ag) hm h1 (hu2.trans hzl) hone1 (fun q hq' => by
      rw [cell_of_row w _ _ _ _ _ hh]
      simp [show kk * n' + oo + q < cur.size by rw [← Array.length_toList]; omega]) fun q hq' => by simp [World.frozen?, hh]
    have hul : us.length = ts.length := by omega
    have htl : oo + ts.length ≤ e.length := by omega
    have hnewown : Own w' 0 (.seq ty (es.set kk (e.take oo ++ ts ++ e.drop (oo + ts.length)))) (.slice (some ⟨g, 0, none⟩) es.length cap) (fun b => G.ft i b ∨ ∃ z ∈ zs, z.foot G b) := by
      have hl' : (es.set kk (e.take oo ++ ts ++ e.drop (oo + ts.length))).length = es.length := List.length_set
      have hxs : ∀ q, (xs0.take (kk * n' + oo) ++ us ++ xs0.drop (kk * n' + oo + us.length))[q]? = if kk * n' + oo ≤ q ∧ q < kk * n' + oo + us.length then us[q - (kk * n' + oo)]? else xs0[q]? := fun q => splice_get (by omega)
      have hgn : ∀ z ∈ zs, ∀ b, z.foot G b → b ≠ g := fun z hz b hb e1 => by
        obtain ⟨j, -, f1, f2, f3⟩ := hfoot z hz b hb
        subst e1
        exact h.disj j i _ f1 (by rw [hi]; simp) f2 f3 hgft
      have hGz : ∀ z ∈ zs, ∀ q b, Gs q b → z.foot G b → False := fun z hz q b hb hb' => by
        obtain ⟨j, -, f1, f2, f3⟩ := hfoot z hz b hb'
        exact h.disj j i b f1 (by rw [hi]; simp) f2 f3 (hG q b hb)
      have hown2 : w'.ownsRow 0 ty n' (.slice (some ⟨g, 0, none⟩) es.length cap) es.length (xs0.take (kk * n' + oo) ++ us ++ xs0.drop (kk * n' + oo + us.length)) := by
        refine ⟨by rw [splice_len (by omega)]; exact hxl, .inr ⟨g, cap, _, rfl, Nat.zero_le _, hnew, hcap, hcm, ?_, ?_⟩⟩
        · simp only [List.size_toArray]
          rw [splice_len (by omega), Array.length_toList, hcs]
        · apply List.ext_getElem?
          intro q
          rw [hxs q, List.getElem?_take]
          simp only []
          rw [splice_get (by omega)]
          have hx0 : xs0[q]? = if q < es.length * n' then cur.toList[q]? else none := by rw [← htk, List.getElem?_take]
          rw [hx0]
          split
          · rfl
          · rw [if_neg (by omega)]
      refine .seq n' hp hz (fun e' he' => ?_) (xs0.take (kk * n' + oo) ++ us ++ xs0.drop (kk * n' + oo + us.length)) (by rw [hl']; exact hown2) (fun q b => if kk * n' + oo ≤ q ∧ q < kk * n' + oo + us.length then ∃ z, zs[q - (kk * n' + oo)]? = some z ∧ z.foot G b else Gs q b) (fun k2 e2 j t u hk2 hj hu => ?_) (fun u hu => ?_) (fun b hb => .inl (hFr b hb)) (fun q b hb => ?_) (fun q b hb hvb => ?_) fun q q' b hb hb' => ?_
      · rcases List.mem_or_eq_of_mem_set he' with h3 | h3
        · exact hn e' h3
        · rw [h3, splice_len htl]; exact hen
      · rw [hxs] at hu
        have hold : ∀ j, ¬ (kk * n' + oo ≤ k2 * n' + j ∧ k2 * n' + j < kk * n' + oo + us.length) → Own w 0 t u (Gs (k2 * n' + j)) → Own w' 0 t u (fun b => if kk * n' + oo ≤ k2 * n' + j ∧ k2 * n' + j < kk * n' + oo + us.length then ∃ z, zs[k2 * n' + j - (kk * n' + oo)]? = some z ∧ z.foot G b else Gs (k2 * n' + j) b) := fun j hneq hw => by
          refine (hw.frame fun b hb => hfar b fun e1 => hne _ b hb (by rw [e1]; rfl)).mono fun b hb => ?_
          rw [if_neg hneq]; exact hb
        rcases set_get hk2 with ⟨rfl, rfl⟩ | ⟨hk2n, hk2⟩
        · rw [splice_get htl] at hj
          by_cases hjr : oo ≤ j ∧ j < oo + ts.length
          · rw [if_pos hjr] at hj
            rw [if_pos (by omega), show k2 * n' + j - (k2 * n' + oo) = j - oo by omega] at hu
            obtain ⟨z, f1, f2⟩ := hown1 _ t u hj hu
            refine (f2.frame fun b hb => hfar b (hgn z (get_mem f1) b hb)).mono fun b hb => ?_
            rw [if_pos (by omega), show k2 * n' + j - (k2 * n' + oo) = j - oo by omega]
            exact ⟨z, f1, hb⟩
          · rw [if_neg hjr] at hj
            rw [if_neg (by omega)] at hu
            exact hold j (by omega) (hr k2 e j t u he hj hu)
        · have hjl : j < n' := by rw [← hn e2 (get_mem hk2)]; exact get_lt hj
          have hout : ¬ (kk * n' + oo ≤ k2 * n' + j ∧ k2 * n' + j < kk * n' + oo + us.length) := fun ⟨f1, f2⟩ => by
            have := at_inj (k := k2) (k' := kk) (j := j) (j' := k2 * n' + j - kk * n') hjl (by omega) (by omega)
            exact hk2n this.1
          rw [if_neg hout] at hu
          exact hold j hout (hr k2 e2 j t u hk2 hj hu)
      · rcases List.mem_append.1 hu with hu | hu
        · rcases List.mem_append.1 hu with hu | hu
          · exact hone u (List.mem_of_mem_take hu)
          · exact hone1 u hu
        · exact hone u (List.mem_of_mem_drop hu)
      · split at hb
        · obtain ⟨z, f1, f2⟩ := hb
          exact .inr ⟨z, get_mem f1, f2⟩
        · exact .inl (hG q b hb)
      · split at hb
        · obtain ⟨z, f1, f2⟩ := hb
          exact hgn z (get_mem f1) b f2 (Option.some.inj hvb).symm
        · exact hne q b hb hvb
      · split at hb <;> split at hb'
        · obtain ⟨z, f1, f2⟩ := hb
          obtain ⟨z', f3, f4⟩ := hb'
          have := hfd _ _ z z' b f1 f3 f2 f4
          omega
        · obtain ⟨z, f1, f2⟩ := hb
          exact (hGz z (get_mem f1) _ b hb' f2).elim
        · obtain ⟨z, f1, f2⟩ := hb'
          exact (hGz z (get_mem f1) _ b hb f2).elim
        · exact hdd _ _ b hb hb'
    have hki : (σ.kills zs).ob i = some (ver, .seq ty es) := by rw [kills_ob hself]; exact hi
    have hkj : ∀ j v, j ≠ i → ((σ.kills zs).setob i (.seq ty (es.set kk (e.take oo ++ ts ++ e.drop (oo + ts.length))))).ob j = some v → σ.ob j = some v ∧ zs.any (isHd j) = false := fun j v hj hv => by
      rw [setob_ne hj] at hv
      cases hc : zs.any (isHd j) with
      | true => rw [kills_none hc] at hv; cases hv
      | false => rw [kills_ob hc] at hv; exact ⟨hv, rfl⟩
    have hapart : ∀ j b, σ.ob j ≠ none → zs.any (isHd j) = false → j ≠ i → G.ft j b → (G.ft i b ∨ ∃ z ∈ zs, z.foot G b) → False := fun j b f1 f2 f3 f4 f5 => by
      rcases f5 with f5 | ⟨z, f5, f6⟩
      · exact h.disj j i b f1 (by rw [hi]; simp) f3 f4 f5
      · obtain ⟨j', rfl, f7, f8, f9⟩ := hfoot z f5 b f6
        refine h.disj j j' b f1 f7 (fun e1 => ?_) f4 f9
        subst e1
        exact List.any_eq_false.1 f2 _ f5 (Nat.beq_refl j)
    have hturn := h.turn (σ' := (σ.kills zs).setob i (.seq ty (es.set kk (e.take oo ++ ts ++ e.drop (oo + ts.length))))) (w' := w') (G' := ⟨G.β, G.vl, fun j b => if j = i then G.ft i b ∨ ∃ z ∈ zs, z.foot G b else G.ft j b⟩) (fun b => b = g) rfl rfl rfl hsm (fun b _ hb => hfar b hb) (fun b hb e1 => h.boxft b i hb (by rw [hi]; simp) (by rw [e1]; exact hgft)) (Nat.le_refl _) (fun j hj => rfl) (fun j v' t' hv' => ?_) (fun j j' b hj hj' hjj hbj hbj' => ?_)
    · refine wp_skipped (w' := w') ?_ (by rw [hd]; exact k _ _ _ hturn.1)
      rw [hw']
      simp [execOp, ho, hptr, hu1, Instr.storeAt, Instr.sureAddr, hrun, Result.andThen]
    · by_cases hji : j = i
      · subst hji
        rw [setob_self, hki] at hv'
        cases hv'
        refine .inr ⟨hlt2, fun _ => ⟨ver, _, hi, Nat.lt_succ_self _⟩, ?_, ⟨_, _, rfl⟩, fun b hb => ?_, fun b hb c' hc' e3 => ?_⟩
        · rw [show (⟨G.β, G.vl, fun j' b => if j' = j then G.ft j b ∨ ∃ z ∈ zs, z.foot G b else G.ft j' b⟩ : Ghost).vl j = .slice (some ⟨g, 0, none⟩) es.length cap by rw [← e0', ← e0'']; exact hvl]
          exact hnewown.mono fun b hb => by show if j = j then _ else _; rw [if_pos rfl]; exact hb
        · replace hb : if j = j then G.ft j b ∨ ∃ z ∈ zs, z.foot G b else G.ft j b := hb
          rw [if_pos rfl] at hb
          have : (E.B ≤ b ∨ E.ln b) ∧ b < w.heap.size := by
            rcases hb with hb | ⟨z, f1, f2⟩
            · exact h.ftlt j b (by rw [hi]; simp) hb
            · obtain ⟨j', -, f3, f4, f5⟩ := hfoot z f1 b f2
              exact h.ftlt j' b f3 f5
          exact ⟨this.1, Nat.lt_of_lt_of_le this.2 hsm.size⟩
        · replace hb : if j = j then G.ft j b ∨ ∃ z ∈ zs, z.foot G b else G.ft j b := hb
          rw [if_pos rfl] at hb
          subst e3
          rcases hb with hb | ⟨z, f1, f2⟩
          · exact h.boxft c' j hc' (by rw [hi]; simp) hb
          · obtain ⟨j', -, f3, f4, f5⟩ := hfoot z f1 _ f2
            exact h.boxft c' j' hc' f3 f5
      · obtain ⟨f1, f2⟩ := hkj j _ hji hv'
        refine .inl ⟨f1, fun b => by show (if j = i then _ else _) ↔ _; rw [if_neg hji], fun b hb e1 => ?_⟩
        subst e1
        exact h.disj j i _ (by rw [f1]; simp) (by rw [hi]; simp) hji hb hgft
    · replace hbj : if j = i then G.ft i b ∨ ∃ z ∈ zs, z.foot G b else G.ft j b := hbj
      replace hbj' : if j' = i then G.ft i b ∨ ∃ z ∈ zs, z.foot G b else G.ft j' b := hbj'
      split at hbj <;> split at hbj'
      · omega
      · rename_i e1 e2
        obtain ⟨vj, hvj⟩ := Option.ne_none_iff_exists'.1 hj'
        obtain ⟨f1, f2⟩ := hkj j' vj e2 hvj
        exact hapart j' b (by rw [f1]; simp) f2 e2 hbj' hbj
      · rename_i e1 e2
        obtain ⟨vj, hvj⟩ := Option.ne_none_iff_exists'.1 hj
        obtain ⟨f1, f2⟩ := hkj j vj e1 hvj
        exact hapart j b (by rw [f1]; simp) f2 e1 hbj hbj'
      · rename_i e1 e2
        obtain ⟨vj, hvj⟩ := Option.ne_none_iff_exists'.1 hj
        obtain ⟨f1, -⟩ := hkj j vj e1 hvj
        obtain ⟨vj', hvj'⟩ := Option.ne_none_iff_exists'.1 hj'
        obtain ⟨f2, -⟩ := hkj j' vj' e2 hvj'
        exact h.disj j j' b (by rw [f1]; simp) (by rw [f2]; simp) hjj hbj hbj'
/-- The cells of an element of an object. -/
theorem cells_ep {i ver k n o' : Nat} {ty : TypeId} {es : List (List T)} {e ds : List T} (hi : σ.ob i = some (ver, .seq ty es)) (he : es[k]? = some e) (hn : e.length = n) (hd : e.drop o' = ds) : σ.cells (.ep i k n o') = some ds := by
  show (σ.ob i).bind _ = _
  rw [hi]
  show es[k]?.bind _ = _
  rw [he]
  show (bif Nat.beq e.length n then some (e.drop o') else none) = _
  rw [hn, Nat.beq_refl, ← hd]; rfl
/-- No slice is longer than that. -/
theorem SV.lenle {s : Nat} {lf : Leaf} {ty : TypeId} {es : List (List T)} {K : Act → World → Prop} (hx : σ.tm s = V.one lf) (ht : σ.tr lf = some (.seq ty es)) (k : es.length ≤ maxLen → SV E N σ K) : SV E N σ K := fun a w G h => by
  obtain ⟨ad, c, n, h1, h2, h3, -⟩ := inn_seq (h.head (x := .tmp s) hx ht)
  exact k (Nat.le_trans h2 h3) a w G h
/-! ### 'make' -/
def zeroT : Leaf → T
  | .sc u => .lit u
  | .nl ty => .seq ty []
  | _ => .any
theorem zl_own {w : World} : ∀ {xs : List Leaf} {us : List Value}, ZL xs us → ∀ (j : Nat) (x : Leaf) (u : Value), xs[j]? = some x → us[j]? = some u → Own w 0 (zeroT x) u (fun _ => False)
  | [], [], _, j, x, u, h1, _ => by simp at h1
  | .sc v :: xs, u :: us, h, j, x, y, h1, h2 => by
    cases j with
    | zero => cases h1; cases h2; rw [h.1]; exact .lit (by rw [← h.1]; exact h.2.1)
    | succ j => exact zl_own h.2.2 j x y (by simpa using h1) (by simpa using h2)
  | .nl _ :: xs, u :: us, h, j, x, y, h1, h2 => by
    cases j with
    | zero =>
      cases h1; cases h2
      obtain ⟨n, hn, hz⟩ := h.2.1
      rw [h.1]
      exact Own.seq (es := []) n hn hz (fun e he => by cases he) [] (World.ownsRow_nil _ _ _ _) (fun _ _ => False) (fun k e j t u h => by simp at h) (fun u hu => by cases hu) (fun b hb => by cases hb) (fun i b hb => hb.elim) (fun i b hb => hb.elim) fun i j b hb => hb.elim
    | succ j => exact zl_own h.2.2 j x y (by simpa using h1) (by simpa using h2)
theorem made_get {z : Array Value} {m q : Nat} {u : Value} (hz : 0 < z.size) (h : (madeCells z m).toList[q]? = some u) : z.toList[q % z.size]? = some u := by
  have hq : q < m := by have := get_lt h; simpa [madeCells] using this
  have hm : q % z.size < z.size := Nat.mod_lt _ hz
  simp [madeCells, hq] at h
  rw [← h]
  simp [hm]
/-- 'make([]T, k)'. -/
theorem ok_make {d : Nat} {t ty : TypeId} {n bytes : Nat} {z : Value} {x y : Operand} {zs : List Leaf} {zt : List T} {k0 : Nat} {kl kc : IntKind} (I : ElT t ty n z bytes) {kk : Nat} (hk : σ.nx = kk) (ho : o.op = .makeSlice t x y) (hx : σ.ev x = V.one (.sc (.int kl (k0 : Nat)))) (hy : σ.ev y = V.one (.sc (.int kc (k0 : Nat)))) (hz : ZL zs z.cells.toList) (hzt : zs.map zeroT = zt) (hl : k0 ≤ 350000000000)
    (hd : o.dst = some d) (hdN : d < N) : OpMk Try.prog E N none σ o ((σ.new (.seq ty (List.replicate k0 zt))).put d (V.one (.hd kk))) :=
  fun a w G K Q h k => by
    subst hk hzt
    obtain ⟨i0, hi, hz0, hz1, hz2⟩ := info_parts I.inf
    have hby : i0.bytes * k0 ≤ 281474976710656 := by
      have h1 : i0.bytes * k0 ≤ 400 * 350000000000 := Nat.mul_le_mul (by rw [hz2]; exact I.small) hl
      omega
    have hrun := run_make (P := Try.prog) w t ty i0 z I.und hi hz0 kl kc k0 k0 (by omega) (Int.le_refl _) (by
      have h1 : ((i0.bytes * k0 : Nat) : Int) ≤ 281474976710656 := by omega
      rwa [Int.natCast_mul] at h1) (by omega)
    simp only [Int.toNat_natCast, hz1] at hrun
    have hzn : zs.length = n := by
      have := hz.len
      rw [← this, Array.length_toList]
      exact I.zs
    have hown := World.ownsRow_lit (base := 0) (w := w) (e := ty) (size := n) (madeCells z.cells (k0 * n)) k0 (Nat.zero_le _) (by unfold maxLen; omega) (size_madeCells _ _)
    obtain ⟨w', hw'⟩ : ∃ w', w' = w.alloc (.cells (madeCells z.cells (k0 * n)) ty) := ⟨_, rfl⟩
    have hget : ∀ (q : Nat) (u : Value), (madeCells z.cells (k0 * n)).toList[q]? = some u → z.cells.toList[q % n]? = some u := fun q u hu => by
      have := made_get (by rw [I.zs]; exact I.pos) hu
      rwa [I.zs] at this
    obtain ⟨G', hG', ⟨hvl, hvls, hβs⟩, -, -⟩ := h.renew [] (fun x hx => by cases hx) (w' := w.alloc (.cells (madeCells z.cells (k0 * n)) ty)) (t := .seq ty (List.replicate k0 (zs.map zeroT))) (v := .slice (some ⟨w.heap.size, 0, none⟩) k0 k0) (F := fun b => b = w.heap.size) (fun _ => False) (.of_below ((Below.refl _ _).alloc h.low _)) (fun k hk _ => Below.heap_alloc _ _ _ hk) (fun b hb => hb.elim)
      (.seq n I.pos I.sz (fun e he => by rw [List.eq_of_mem_replicate he, List.length_map]; exact hzn) (madeCells z.cells (k0 * n)).toList (by rw [List.length_replicate]; exact hown) (fun _ _ => False) (fun k e j t u he hj hu => by
          have he' : e = zs.map zeroT := List.eq_of_mem_replicate (get_mem he)
          subst he'
          rw [List.getElem?_map] at hj
          obtain ⟨lf, e1, e2⟩ := Option.map_eq_some_iff.1 hj
          have hjn : j < n := by rw [← hzn]; exact get_lt e1
          have := hget _ u hu
          rw [Nat.add_comm, Nat.add_mul_mod_self_right, Nat.mod_eq_of_lt hjn] at this
          rw [← e2]
          exact zl_own hz j lf u e1 this)
        (fun u hu => by
          obtain ⟨q, hq, rfl⟩ := List.getElem_of_mem hu
          have h1 := hget q _ (List.getElem?_eq_getElem hq)
          have h2 : q % n < zs.length := by rw [hzn]; exact Nat.mod_lt _ I.pos
          exact (zl_own (w := w) hz (q % n) zs[q % n] _ (List.getElem?_eq_getElem h2) h1).one) (fun b hb => by cases hb; rfl) (fun q b hb => hb.elim) (fun q b hb => hb.elim) fun q q' b hb => hb.elim)
      ⟨_, _, rfl⟩ fun b hb => ⟨by subst hb; exact ⟨.inl h.low, by simp⟩, .inl (h.fresh (by rw [hb]; exact Nat.le_refl _))⟩
    refine wp_value (v := .slice (some ⟨w.heap.size, 0, none⟩) k0 k0) (w' := w.alloc (.cells (madeCells z.cells (k0 * n)) ty)) ?_ (by rw [hd]; exact k _ _ _ (hG'.put hdN (vone.2 ⟨⟨Nat.lt_succ_self _, hvl.symm⟩, .inr rfl⟩)) ⟨by simp, .of_below ((Below.refl _ _).alloc h.low _), hvls, fun b _ => by rw [hβs], fun b hb => .inl (Below.heap_alloc _ _ _ hb), fun i e1 e2 b e3 => .inl (by
      have hi : i = σ.nx := Nat.le_antisymm (Nat.le_of_lt_succ e2) e1
      rw [hi, hvl] at e3
      rw [← Option.some.inj e3]; exact Nat.le_refl _)⟩)
    have hxv := h.sc hx
    have hyv := h.sc hy
    simp [execOp, ho, hxv, hyv, hrun, Result.andThen]
end Go.Proofs.Ytjdjceohlcimaaa.V
