/- Texts joined: Plan VD VF VG VJ Kit Tab VK VTy. -/
import Derived.Test.YtlnjgoommpeioaaDoorPartFormatPairsb
import Derived.OrdersHeld
import Derived.Deep.RegionHeld
import Derived.Test.YtlnjgoommpeioaaDoorProg
import Derived.WalkKit
import Derived.Below
import Derived.Lib.Hide
import Derived.OwnWalk
import Derived.Laws.IdiomStrings
import Derived.IntWalk
import Derived.Laws.OwnMore
import Derived.Test.YtlnjgoommpeioaaDoorRows
import Derived.Test.YtlnjgoommpeioaaDoorShelf
import Derived.Stop.LaidErr
import Derived.Stop.Joined
import Derived.LaidMore
import Derived.Lib.LaidTab
import Derived.Lib.SmallJoins
import Derived.Lib.ItoaNum
/- A region that draws its order, walked once along a plan: operations that yield one value in every world that is kept (loads, addresses, arithmetic) as soon as they may come up, the operations that make or write memory one behind the other; the last ones may write what the loads have read. No function of the program. -/
namespace Go.Proofs.YtlnjgoommpeioaaDoor
open Go

/-- One step of a plan: an operation that yields one value in every world that is kept; an operation behind which the world is kept. -/
inductive PStep where
  | q (i : Nat)
  | m (i : Nat)
section
variable {P : Program} {ops : Array Oper} {Q : Exit → Act → World → Prop} {md : Region.Mode} {S : World → Prop}

/-- Whatever order is picked from here on, and S holds behind every operation but the late ones. -/
def wpAnyP (P : Program) (md : Region.Mode) (ops : Array Oper) (Q : Exit → Act → World → Prop) (S : World → Prop) (late : Nat → Bool) : Nat → Array Bool → Act → World → Prop
  | 0, listed, a, w => Region.ready md ops listed = [] ∧ Q .normal a w
  | fuel + 1, listed, a, w =>
    (Region.ready md ops listed = [] → Q .normal a w) ∧
    ∀ i ∈ Region.ready md ops listed, wpOp P ops Q i (fun a' w' => (late i = false → S w') ∧ wpAnyP P md ops Q S late fuel (listed.setIfInBounds i true) a' w') a w
theorem wpAny_of_P {late : Nat → Bool} : ∀ (fuel : Nat) (listed : Array Bool) (a : Act) (w : World), wpAnyP P md ops Q S late fuel listed a w → wpAny P md ops Q fuel listed a w
  | 0, _, _, _, h => h
  | fuel + 1, _, _, _, h => ⟨h.1, fun i hi => wpOp_mono (fun a' w' h' => wpAny_of_P fuel _ a' w' h'.2) (h.2 i hi)⟩
/-- The operations that wait for i, some through others. -/
def waiters (md : Region.Mode) (ops : Array Oper) (i : Nat) : Array Bool :=
  (List.range ops.size).foldl (fun D k => D.push (match ops[k]? with | some o => o.after.any (fun e => Region.binds md e && (e.on == i || D.getD e.on false)) | none => false)) #[]
/-- All late operations wait for i, and none of those that wait for it has come up. -/
def lateB (md : Region.Mode) (ops : Array Oper) (late : Nat → Bool) (listed : Array Bool) (i : Nat) : Bool :=
  (List.range ops.size).all fun d => (!late d || (waiters md ops i).getD d false) && (!(waiters md ops i).getD d false ||
    (!listed.getD d false && (match ops[d]? with | some o => o.after.any (fun e => Region.binds md e && (e.on == i || ((waiters md ops i).getD e.on false && decide (e.on < ops.size)))) | none => false)))
/-- Nothing that waits for i comes up ahead of i. -/
theorem not_waiting {D : Nat → Bool} {i j : Nat} {listed : Array Bool} (hi : listed.getD i false = false) (hD : ∀ d, d < ops.size → D d = true → listed.getD d false = false ∧ ∃ o, ops[d]? = some o ∧ ∃ e ∈ o.after, Region.binds md e = true ∧ (e.on = i ∨ (D e.on = true ∧ e.on < ops.size)))
    (hj : j ∈ Region.ready md ops listed) : D j = false := by
  cases h : D j with
  | false => rfl
  | true =>
    obtain ⟨-, oj, hoj, hall⟩ := mem_ready.1 hj
    have hjl : j < ops.size := (Array.getElem?_eq_some_iff.1 hoj).1
    obtain ⟨-, o, ho, e, he, hb, hor⟩ := hD j hjl h
    rw [hoj] at ho
    cases ho
    have h1 := hall e he hb
    have h2 : listed.getD e.on false = false := by
      rcases hor with rfl | ⟨h3, h4⟩
      · exact hi
      · exact (hD _ h4 h3).1
    rw [h2] at h1
    cases h1
/-- An operation that yields one value in every world that is kept may be taken first, if all late operations wait for it. -/
theorem wpAnyP_first {late D : Nat → Bool} {i : Nat} {oi : Oper} {v : Value} (hi : ops[i]? = some oi) (hsel : ∀ (j : Nat) (o : Oper) cs b, ops[j]? = some o → o.op ≠ .select cs b)
    (hQ : ∀ c a w, Q (.panic c) (a.put oi.dst v) w → Q (.panic c) a w) (hlate : ∀ d, d < ops.size → late d = true → D d = true) (hDi : D i = false) :
    ∀ (fuel : Nat) (listed : Array Bool) (a : Act) (w : World),
      (∀ j oj, ops[j]? = some oj → j ≠ i → listed.getD j true = false → (∀ e ∈ oj.after, Region.binds md e = true → e.on ≠ i) → oi.apart ops oj = true) →
      (∀ d, d < ops.size → D d = true → listed.getD d false = false ∧ ∃ o, ops[d]? = some o ∧ ∃ e ∈ o.after, Region.binds md e = true ∧ (e.on = i ∨ (D e.on = true ∧ e.on < ops.size))) →
      i ∈ Region.ready md ops listed → YieldsIf P ops S oi v a → S w →
      wpAnyP P md ops Q S late fuel (listed.setIfInBounds i true) (a.put oi.dst v) w → wpAnyP P md ops Q S late (fuel + 1) listed a w := by
  intro fuel
  induction fuel with
  | zero =>
    intro listed a w _ hD hr hy hS H
    refine ⟨fun h => (by rw [h] at hr; cases hr), fun j hj => ?_⟩
    by_cases hji : j = i
    · subst hji; exact hy.wpOp hi hS ⟨fun _ => hS, H⟩
    · have := ready_mono hj hji
      rw [H.1] at this
      cases this
  | succ fuel ih =>
    intro listed a w hfree hD hr hy hS H
    refine ⟨fun h => (by rw [h] at hr; cases hr), fun j hj => ?_⟩
    by_cases hji : j = i
    · subst hji; exact hy.wpOp hi hS ⟨fun _ => hS, H⟩
    · have h1 := H.2 j (ready_mono hj hji)
      obtain ⟨hjun, oj, hoj, hall⟩ := mem_ready.1 hj
      have hiu : listed.getD i false = false := by
        have h0 := (mem_ready.1 hr).1
        rcases Nat.lt_or_ge i listed.size with h' | h'
        · simp [h'] at h0 ⊢; exact h0
        · simp [Array.getElem?_eq_none h'] at h0 ⊢
      have hnot : ∀ e ∈ oj.after, Region.binds md e = true → e.on ≠ i := fun e he hb heq => by
        have h1 := hall e he hb
        rw [heq, hiu] at h1
        cases h1
      have hDj := not_waiting hiu hD hj
      have hjl : j < ops.size := (Array.getElem?_eq_some_iff.1 hoj).1
      have hlj : late j = false := by
        cases h : late j with
        | false => rfl
        | true => rw [hlate j hjl h] at hDj; cases hDj
      have h2 := wpOp_putIf hoj (hfree j oj hoj hji hjun hnot) (fun cs b => hsel i oi cs b hi) (fun cs b => hsel j oj cs b hoj) hQ hy h1
      have hfree' : ∀ k ok, ops[k]? = some ok → k ≠ i → (listed.setIfInBounds j true).getD k true = false →
          (∀ e ∈ ok.after, Region.binds md e = true → e.on ≠ i) → oi.apart ops ok = true := fun k ok hk hki hun hno => by
        refine hfree k ok hk hki ?_ hno
        by_cases hjk : j = k
        · subst hjk; exact hjun
        · rw [getD_set_ne true hjk] at hun; exact hun
      have hD' : ∀ d, d < ops.size → D d = true → (listed.setIfInBounds j true).getD d false = false ∧ ∃ o, ops[d]? = some o ∧ ∃ e ∈ o.after, Region.binds md e = true ∧ (e.on = i ∨ (D e.on = true ∧ e.on < ops.size)) := fun d hd h => by
        have hne : j ≠ d := fun e => by rw [e, h] at hDj; cases hDj
        rw [getD_set_ne false hne]
        exact hD d hd h
      refine wpOp_mono (fun a' w' h3 => ⟨h3.2.1, ih (listed.setIfInBounds j true) a' w' hfree' hD' (ready_mono hr (Ne.symm hji)) h3.1 (h3.2.1 hlj) ?_⟩) h2
      rw [Array.setIfInBounds_comm _ _ hji]
      exact h3.2.2
/-! ### The walk along a plan -/
def wpZ (P : Program) (ops : Array Oper) (Q : Exit → Act → World → Prop) : List Nat → Act → World → Prop
  | [], a, w => Q .normal a w
  | i :: zs, a, w => wpOp P ops Q i (wpZ P ops Q zs) a w
def wpPi (P : Program) (ops : Array Oper) (Q : Exit → Act → World → Prop) (S : World → Prop) (zs : List Nat) : List PStep → Act → World → Prop
  | [], a, w => wpZ P ops Q zs a w
  | .q i :: ps, a, w => ∃ o v, ops[i]? = some o ∧ (∀ c a w, Q (.panic c) (a.put o.dst v) w → Q (.panic c) a w) ∧ YieldsIf P ops S o v a ∧ wpPi P ops Q S zs ps (a.put o.dst v) w
  | .m i :: ps, a, w => wpOp P ops Q i (fun a' w' => S w' ∧ (S w' → wpPi P ops Q S zs ps a' w')) a w
def planZ (md : Region.Mode) (ops : Array Oper) : List Nat → Array Bool → Bool
  | [], listed => (Region.ready md ops listed).isEmpty
  | i :: zs, listed => decide (Region.ready md ops listed = [i]) && planZ md ops zs (listed.setIfInBounds i true)
def planP (md : Region.Mode) (ops : Array Oper) (zs : List Nat) : List PStep → Array Bool → Bool
  | [], listed => planZ md ops zs listed
  | .q i :: ps, listed => (Region.ready md ops listed).contains i && Region.free md ops listed i && lateB md ops (fun d => zs.contains d) listed i && !(waiters md ops i).getD i false && planP md ops zs ps (listed.setIfInBounds i true)
  | .m i :: ps, listed => decide (Region.ready md ops listed = [i]) && !zs.contains i && planP md ops zs ps (listed.setIfInBounds i true)
/-- The plan fits the region. -/
def planB (md : Region.Mode) (ops : Array Oper) (ps : List PStep) (zs : List Nat) : Bool := Region.noSelect ops && decide (ps.length + zs.length = ops.size) && planP md ops zs ps (Array.replicate ops.size false)
theorem wpAnyP_of_z {late : Nat → Bool} : ∀ (zs : List Nat) (listed : Array Bool) (a : Act) (w : World), (∀ i ∈ zs, late i = true) → planZ md ops zs listed = true → wpZ P ops Q zs a w → wpAnyP P md ops Q S late zs.length listed a w
  | [], _, _, _, _, hp, h => ⟨by simpa [planZ] using hp, h⟩
  | i :: zs, listed, a, w, hl, hp, h => by
    simp only [planZ, Bool.and_eq_true, decide_eq_true_eq] at hp
    refine ⟨fun h0 => (by rw [hp.1] at h0; cases h0), fun j hj => ?_⟩
    rw [hp.1] at hj
    obtain rfl := List.mem_singleton.1 hj
    exact wpOp_mono (fun a' w' h' => ⟨fun h => (by rw [hl _ (List.mem_cons_self ..)] at h; cases h), wpAnyP_of_z zs _ a' w' (fun k hk => hl k (List.mem_cons_of_mem _ hk)) hp.2 h'⟩) h
theorem wpAnyP_of_pi {zs : List Nat} (hs : Region.noSelect ops = true) : ∀ (ps : List PStep) (listed : Array Bool) (a : Act) (w : World), planP md ops zs ps listed = true → S w → wpPi P ops Q S zs ps a w → wpAnyP P md ops Q S (fun d => zs.contains d) (ps.length + zs.length) listed a w
  | [], listed, a, w, hp, _, h => by
    rw [List.length_nil, Nat.zero_add]
    exact wpAnyP_of_z zs listed a w (fun i hi => by simpa using hi) hp h
  | .q i :: ps, listed, a, w, hp, hS, h => by
    simp only [planP, Bool.and_eq_true, Bool.not_eq_true'] at hp
    obtain ⟨⟨⟨⟨hr, hf⟩, hl⟩, hw⟩, hp⟩ := hp
    obtain ⟨o, v, ho, hQ, hy, h⟩ := h
    unfold lateB at hl
    rw [List.all_eq_true] at hl
    rw [List.length_cons, Nat.add_right_comm]
    refine wpAnyP_first (D := fun d => (waiters md ops i).getD d false) ho (Region.noSelect_spec hs) hQ (fun d hd hl2 => ?_) hw _ _ _ _ (Region.free_spec ho hf) (fun d hd hD => ?_) (by simpa using hr) hy hS (wpAnyP_of_pi hs ps _ _ _ hp hS h)
    · have := hl d (List.mem_range.2 hd)
      rw [Bool.and_eq_true] at this
      have h3 := this.1
      rw [Bool.or_eq_true] at h3
      rcases h3 with h1 | h1
      · have h4 : (!zs.contains d) = true := h1; rw [show zs.contains d = true from hl2] at h4; cases h4
      · exact h1
    · have := hl d (List.mem_range.2 hd)
      rw [Bool.and_eq_true] at this
      have h3 := this.2
      rw [Bool.or_eq_true] at h3
      rcases h3 with h1 | h1
      · rw [show (waiters md ops i).getD d false = true from hD] at h1; cases h1
      · rw [Bool.and_eq_true, Bool.not_eq_true'] at h1
        refine ⟨h1.1, ?_⟩
        have h2 := h1.2
        split at h2
        · rename_i o' ho'
          rw [Array.any_eq_true] at h2
          obtain ⟨k, hk, he⟩ := h2
          rw [Bool.and_eq_true, Bool.or_eq_true, Bool.and_eq_true, decide_eq_true_eq] at he
          exact ⟨o', ho', o'.after[k], Array.getElem_mem hk, he.1, he.2.imp (fun h => by simpa using h) id⟩
        · cases h2
  | .m i :: ps, listed, a, w, hp, hS, h => by
    simp only [planP, Bool.and_eq_true, decide_eq_true_eq] at hp
    obtain ⟨⟨hr, hz⟩, hp⟩ := hp
    rw [List.length_cons, Nat.add_right_comm]
    refine ⟨fun h0 => (by rw [hr] at h0; cases h0), fun j hj => ?_⟩
    rw [hr] at hj
    obtain rfl := List.mem_singleton.1 hj
    exact wpOp_mono (fun a' w' h' => ⟨fun _ => h'.1, wpAnyP_of_pi hs ps _ a' w' hp h'.1 (h'.2 h'.1)⟩) h
theorem region_plan {id : Nat} {a : Act} {w : World} (S : World → Prop) (ps : List PStep) (zs : List Nat) (hm : P.follows .mixedOrders = true) (hB : planB .any ops ps zs = true) (hS : S w.drew) (h : S w.drew → wpPi P ops Q S zs ps a w.drew) : (Code.region id ops true).wp P Q a w := by
  simp only [planB, Bool.and_eq_true, decide_eq_true_eq] at hB
  obtain ⟨⟨h1, h2⟩, h3⟩ := hB
  refine wp_region_any hm (wpAny_of_P (S := S) (late := fun d => zs.contains d) _ _ _ _ ?_)
  rw [← h2]
  rw [← h2] at h3
  exact wpAnyP_of_pi h1 ps _ a w.drew h3 hS (h hS)
/-! ### Its moves -/
def nthO : List Oper → Nat → Option Oper
  | [], _ => none
  | o :: _, 0 => some o
  | _ :: l, n + 1 => nthO l n
theorem nthO_eq : ∀ (l : List Oper) (i : Nat), l.toArray[i]? = nthO l i
  | [], _ => by simp [nthO]
  | o :: l, 0 => by simp [nthO]
  | o :: l, n + 1 => by
    have := nthO_eq l n
    simpa [nthO] using this
variable {l : List Oper} {zs : List Nat} {ps : List PStep} {a : Act} {w : World} {i : Nat} {o : Oper}
theorem pi_take {v : Value} (ho : nthO l i = some o) (hQ : ∀ c a w, Q (.panic c) (a.put o.dst v) w → Q (.panic c) a w) (hw : Region.wanted o (yielded l.toArray a.tmps) = true) (hy : ∀ w, S w → (execOp a.eval o).run P w = .ok (.value v) w)
    (h : wpPi P l.toArray Q S zs ps (a.put o.dst v) w) : wpPi P l.toArray Q S zs (.q i :: ps) a w := ⟨o, v, (nthO_eq l i).trans ho, hQ, .inl ⟨hw, hy⟩, h⟩
theorem pi_pass (ho : nthO l i = some o) (hQ : ∀ c a w, Q (.panic c) (a.put o.dst undef) w → Q (.panic c) a w) (hw : Region.wanted o (yielded l.toArray a.tmps) = false) (h : wpPi P l.toArray Q S zs ps (a.put o.dst undef) w) : wpPi P l.toArray Q S zs (.q i :: ps) a w :=
  ⟨o, undef, (nthO_eq l i).trans ho, hQ, .inr ⟨hw, rfl⟩, h⟩
theorem pi_step (ho : nthO l i = some o) (h : ∀ K' : Act → World → Prop, Shut (∀ a w, S w → (S w → wpPi P l.toArray Q S zs ps a w) → K' a w) → if Region.wanted o (yielded l.toArray a.tmps) = true then Oper.wp P o a w K' Q else K' (a.put o.dst undef) w) :
    wpPi P l.toArray Q S zs (.m i :: ps) a w := wpOp_step ((nthO_eq l i).trans ho) fun K' hK => h K' fun a w hS hW => hK a w ⟨hS, hW⟩
theorem pi_end (h : wpZ P l.toArray Q zs a w) : wpPi P l.toArray Q S zs [] a w := h
theorem z_step (ho : nthO l i = some o) (h : ∀ K' : Act → World → Prop, Shut (∀ a w, wpZ P l.toArray Q zs a w → K' a w) → if Region.wanted o (yielded l.toArray a.tmps) = true then Oper.wp P o a w K' Q else K' (a.put o.dst undef) w) :
    wpZ P l.toArray Q (i :: zs) a w := wpOp_step ((nthO_eq l i).trans ho) h
theorem z_end (h : Q .normal a w) : wpZ P l.toArray Q [] a w := h
end
end Go.Proofs.YtlnjgoommpeioaaDoor
/- States told by trees: a region that draws its order, walked along a plan. -/
namespace Go.Proofs.YtlnjgoommpeioaaDoor.V
open Go Go.RowKit
set_option linter.unusedVariables false
variable {P : Program} {E : Env} {N : Nat} {σ σ' τ : VS} {o : Oper} {a : Act} {w ws : World} {G Gs : Ghost} {Q : Exit → Act → World → Prop}
/-- Memory is as it was, but for what lies behind the objects' last cells. -/
structure SameT (E : Env) (τ : VS) (G : Ghost) (ws v : World) : Prop where
  below : Same E ws v
  block : ∀ b, b < ws.heap.size → v.heap[b]? = ws.heap[b]? ∨ ∃ (i ver : Nat) (ty : TypeId) (es : List (List T)) (n : Nat) (cs cs' : Array Value), τ.ob i = some (ver, .seq ty es) ∧ (G.vl i).ownBlock = some b ∧ Sz ty n ∧ ws.heap[b]? = some (.cells cs ty (0, 0)) ∧ v.heap[b]? = some (.cells cs' ty (0, 0)) ∧ cs'.size = cs.size ∧ cs'.toList.take (es.length * n) = cs.toList.take (es.length * n)
theorem SameT.refl (E : Env) (τ : VS) (G : Ghost) (w : World) : SameT E τ G w w := ⟨Same.refl _ _, fun _ _ => .inl rfl⟩
theorem root_ft (h : Rel E N τ a ws Gs) {i ver b : Nat} {ty : TypeId} {es : List (List T)} (hi : τ.ob i = some (ver, .seq ty es)) (hb : (Gs.vl i).ownBlock = some b) : Gs.ft i b := by
  obtain ⟨-, ho, -⟩ := h.objs i ver _ hi
  cases ho with
  | seq n hp hz hn xs hown Gs hr hone hF hG hne hd => exact hF b hb
theorem SameT.box (h : Rel E N τ a ws Gs) {v : World} (s : SameT E τ Gs ws v) {c : Nat} (hc : c < τ.bs.length) : v.heap[Gs.β c]? = ws.heap[Gs.β c]? := by
  obtain ⟨-, us, h2, -⟩ := h.boxes c _ _ (List.getElem?_eq_getElem hc)
  rcases s.block (Gs.β c) (lt_of_block h2) with h1 | ⟨i, ver, ty, es, n, cs, cs', e1, e2, -⟩
  · exact h1
  · exact absurd (root_ft h e1 e2) (h.boxft c i hc (by rw [e1]; simp))
/-- How the call stands in a region whose order is drawn: since its beginning (ws, at the state τ). -/
structure Link (E : Env) (N : Nat) (τ : VS) (ws : World) (Gs : Ghost) (fr : List Nat) (cl : Bool) (σ : VS) (w : World) (G : Ghost) : Prop where
  start : ∃ a, Rel E N τ a ws Gs
  same : SameT E τ Gs ws w
  vl : ∀ i, i < τ.nx → G.vl i = Gs.vl i
  β : ∀ b, b < τ.bs.length → G.β b = Gs.β b
  nx : τ.nx ≤ σ.nx
  bs : τ.bs.length ≤ σ.bs.length
  fresh : ∀ i ∈ fr, i < σ.nx ∧ ∀ b, (G.vl i).ownBlock = some b → ws.heap.size ≤ b
  clean : cl = true → w = ws ∧ G = Gs ∧ σ.ob = τ.ob
def DW (E : Env) (N : Nat) (τ : VS) (fr : List Nat) (cl : Bool) (σ : VS) (Ψ : World → Ghost → Act → World → Prop) : Prop := ∀ ws Gs a w G, Rel E N σ a w G → Link E N τ ws Gs fr cl σ w G → Ψ ws Gs a w
abbrev SW (E : Env) (τ : VS) (ws : World) (Gs : Ghost) : World → Prop := fun v => SameT E τ Gs ws v
theorem SV.draw {id : Nat} {l : List Oper} (ps : List PStep) (zs : List Nat) (hm : P.follows .mixedOrders = true) (hB : planB .any l.toArray ps zs = true) (h : DW E N τ [] true τ fun ws Gs a w => wpPi P l.toArray Q (SW E τ ws Gs) zs ps a w) : SV E N τ ((Code.region id l.toArray true).wp P Q) :=
  fun a w G hr => region_plan (SW E τ w.drew G) ps zs hm hB (SameT.refl _ _ _ _) fun _ => h w.drew G a w.drew G hr.drew ⟨⟨a, hr.drew⟩, SameT.refl _ _ _ _, fun _ _ => rfl, fun _ _ => rfl, Nat.le_refl _, Nat.le_refl _, fun i hi => (by cases hi), fun _ => ⟨rfl, rfl, rfl⟩⟩
variable {l : List Oper} {zs : List Nat} {ps : List PStep} {i d : Nat} {fr : List Nat} {cl : Bool}
theorem Link.put (h : Link E N τ ws Gs fr cl σ w G) {v : V} : Link E N τ ws Gs fr cl (σ.put d v) w G := ⟨h.start, h.same, h.vl, h.β, h.nx, h.bs, h.fresh, h.clean⟩
theorem Link.lite (h : Link E N τ ws Gs fr cl σ w G) {v : World} (s : SameT E τ Gs ws v) : Lite E τ.bs.length G w v := by
  obtain ⟨a, hr⟩ := h.start
  refine ⟨fun b hb => (s.below.block b hb).trans (h.same.below.block b hb).symm, fun c hc => ?_⟩
  rw [h.β c hc]
  exact (SameT.box hr s hc).trans (SameT.box hr h.same hc).symm
/-- An operation that yields one value wherever it comes up. -/
theorem DW.q {V' : V} (ho : nthO l i = some o) (h : OpL P E N τ.bs.length σ o V') (hg : o.guard = none) (hd : o.dst = some d) (hdN : d < N) (hQ : ∀ c (a : Act) v w, Q (.panic c) (a.put o.dst v) w → Q (.panic c) a w) (k : DW E N τ fr cl (σ.put d V') fun ws Gs a w => wpPi P l.toArray Q (SW E τ ws Gs) zs ps a w) :
    DW E N τ fr cl σ fun ws Gs a w => wpPi P l.toArray Q (SW E τ ws Gs) zs (.q i :: ps) a w := fun ws Gs a w G hr hl => by
  obtain ⟨u, h1, h2⟩ := h a w G hr
  refine pi_take (v := u) ho (fun c a w => hQ c a u w) (by simp [Region.wanted, hg]) (fun v hv => h1 v (hl.lite hv)) ?_
  rw [hd]
  exact k ws Gs _ w G (hr.put hdN h2) hl.put
/-- A cell of an object is read, ahead of all that makes memory. -/
theorem DW.el' {m : Nat} {ty : TypeId} {x : Operand} {j k' n o' : Nat} {ag : Bool} {es : List T} {ys : List Leaf} (hn : nthO l i = some o) (ho : o.op = .load ty x) (hx : σ.ev x = V.one (.ep j k' n o')) (hc : σ.cells (.ep j k' n o') = some es) (hag : ∀ w, (isAgg ty).run Tryd.prog w = .ok ag w) (hm : Sz ty m) (h1 : ag = false → m = 1) (hml : m ≤ es.length)
    (hy : (List.range m).map (fun q => match es[q]? with | some t => σ.cellLeaf (.ep j k' n o') q t | none => .dead) = ys) (hw : ∀ {a w G}, Rel E N σ a w G → Region.wanted o (yielded l.toArray a.tmps) = true) (hd : o.dst = some d) (hdN : d < N) (hQ : ∀ c (a : Act) v w, Q (.panic c) (a.put o.dst v) w → Q (.panic c) a w) (k : DW E N τ fr true (σ.put d (V.flat ag ys)) fun ws Gs a w => wpPi Tryd.prog l.toArray Q (SW E τ ws Gs) zs ps a w) :
    DW E N τ fr true σ fun ws Gs a w => wpPi Tryd.prog l.toArray Q (SW E τ ws Gs) zs (.q i :: ps) a w := fun ws Gs a w G hr hl => by
  obtain ⟨rfl, rfl, hob⟩ := hl.clean rfl
  obtain ⟨u, b, q, h2, h3, h4⟩ := load_el ho hx hc hag hm h1 hml hy hr
  refine pi_take (v := u) hn (fun c a w => hQ c a u w) (hw hr) (fun v hv => h3 v fun p y hp hcell => ?_) ?_
  · -- the cell lies among the object's
    have h5 := hr.ev x
    rw [hx, vone] at h5
    obtain ⟨⟨-, g, M, c, h6, h7⟩, -⟩ := h5
    rw [h2] at h7
    injection h7 with h7
    injection h7 with h7
    injection h7 with h7 h8
    subst h7 h8
    obtain ⟨⟨ver, s⟩, e1, e2⟩ := Option.bind_eq_some_iff.1 hc
    obtain ⟨-, hown, ty', fs, hs⟩ := hr.objs j ver s e1
    have hs' : s = .seq ty' fs := hs
    subst hs'
    obtain ⟨e, he, e3⟩ := Option.bind_eq_some_iff.1 e2
    have hen : e.length = n := by
      cases hb : Nat.beq e.length n with
      | true => exact Nat.eq_of_beq_eq_true hb
      | false => simp only [hb] at e3; cases e3
    have hed : e.drop o' = es := by
      have hb : Nat.beq e.length n = true := by rw [hen]; exact Nat.beq_refl n
      simpa [hb] using e3
    have hlen : o' + p < n := by
      have : (e.drop o').length = es.length := by rw [hed]
      rw [List.length_drop, hen] at this
      omega
    rcases hv.block b (lt_blk hcell) with h9 | ⟨i2, v2, ty2, es2, n2, cs, cs', f1, f2, f3, f4, f5, f6, f7⟩
    · exact (World.cell?_of_block h9).trans hcell
    · have hji : j = i2 := by
        rcases Nat.decEq j i2 with hne | hne
        · exfalso
          obtain ⟨ar, hrs⟩ := hl.start
          exact hrs.disj j i2 b (by rw [← hob, e1]; simp) (by rw [f1]; simp) hne (root_ft hrs (by rw [← hob]; exact e1) (by rw [h6]; rfl)) (root_ft hrs f1 f2)
        · exact hne
      subst hji
      rw [← hob, e1] at f1
      cases f1
      cases hown with
      | seq n3 hp3 hz3 hn3 xs hown3 Gs3 hr3 hone3 hF3 hG3 hne3 hd3 =>
        have hnn : n2 = n := (f3.eq hz3).trans ((hn3 e (get_mem he)).symm.trans hen)
        subst hnn
        have hlt : k' * n2 + o' + p < fs.length * n2 := by
          have := at_lt (get_lt he) hlen
          rw [Nat.add_assoc]; exact this
        rw [cell_of_row _ _ _ _ _ _ f4] at hcell
        rw [cell_of_row _ _ _ _ _ _ f5]
        have g1 : (cs'.toList.take (fs.length * n2))[k' * n2 + o' + p]? = (cs.toList.take (fs.length * n2))[k' * n2 + o' + p]? := by rw [f7]
        rw [List.getElem?_take, List.getElem?_take, if_pos hlt, if_pos hlt] at g1
        simpa using g1.trans (by simpa using hcell)
  · rw [hd]
    exact k _ _ _ _ _ (hr.put hdN h4) hl.put
theorem DW.el {m : Nat} {ty : TypeId} {x : Operand} {j k' n o' : Nat} {ag : Bool} {es : List T} {ys : List Leaf} (hn : nthO l i = some o) (ho : o.op = .load ty x) (hx : σ.ev x = V.one (.ep j k' n o')) (hc : σ.cells (.ep j k' n o') = some es) (hag : ∀ w, (isAgg ty).run Tryd.prog w = .ok ag w) (hm : Sz ty m) (h1 : ag = false → m = 1) (hml : m ≤ es.length)
    (hy : (List.range m).map (fun q => match es[q]? with | some t => σ.cellLeaf (.ep j k' n o') q t | none => .dead) = ys) (hg : o.guard = none) (hd : o.dst = some d) (hdN : d < N) (hQ : ∀ c (a : Act) v w, Q (.panic c) (a.put o.dst v) w → Q (.panic c) a w) (k : DW E N τ fr true (σ.put d (V.flat ag ys)) fun ws Gs a w => wpPi Tryd.prog l.toArray Q (SW E τ ws Gs) zs ps a w) :
    DW E N τ fr true σ fun ws Gs a w => wpPi Tryd.prog l.toArray Q (SW E τ ws Gs) zs (.q i :: ps) a w :=
  DW.el' hn ho hx hc hag hm h1 hml hy (fun _ => by simp [Region.wanted, hg]) hd hdN hQ k
/-- An operation that makes memory. -/
theorem DW.m' {c : Option Nat} (fr' : List Nat) (ho : nthO l i = some o) (h : OpMk P E N c σ o σ') (hw : ∀ {a w G}, Rel E N σ a w G → Region.wanted o (yielded l.toArray a.tmps) = true) (hbs : σ.bs.length ≤ σ'.bs.length) (hnx : σ.nx ≤ σ'.nx) (hc : c = none ∨ ∃ j, c = some j ∧ (j ∈ fr ∨ (j < τ.nx ∧ σ.ob j = τ.ob j))) (hfr : ∀ j ∈ fr', (j ∈ fr) ∨ (σ.nx ≤ j ∧ j < σ'.nx ∧ (c = none ∨ ∃ q, c = some q ∧ q ∈ fr)))
    (k : DW E N τ fr' false σ' fun ws Gs a w => wpPi P l.toArray Q (SW E τ ws Gs) zs ps a w) : DW E N τ fr cl σ fun ws Gs a w => wpPi P l.toArray Q (SW E τ ws Gs) zs (.m i :: ps) a w := fun ws Gs a w G hr hl => by
  refine pi_step ho fun K hK => ?_
  rw [if_pos (hw hr)]
  refine h a w G K Q hr fun a' w' G' hr' hm => ?_
  have hsame : SameT E τ Gs ws w' := by
    refine ⟨hl.same.below.trans hm.below, fun b hb => ?_⟩
    have hbw : b < w.heap.size := Nat.lt_of_lt_of_le hb hl.same.below.size
    rcases hm.block b hbw with h1 | ⟨j, v, ty, es, n, cs, cs', e1, e2, e3, e4, e5, e6, e7, e8⟩
    · rcases hl.same.block b hb with h2 | ⟨i2, v2, ty2, es2, n2, ds, ds', f1, f2, f3, f4, f5, f6, f7⟩
      · exact .inl (h1.trans h2)
      · exact .inr ⟨i2, v2, ty2, es2, n2, ds, ds', f1, f2, f3, f4, h1.trans f5, f6, f7⟩
    · rcases hc with hc | ⟨qq, hq, hc⟩
      · rw [hc] at e1; cases e1
      · have hqj : qq = j := Option.some.inj (hq.symm.trans e1)
        subst hqj
        rcases hc with hc | ⟨hc1, hc2⟩
        · have := (hl.fresh qq hc).2 b e3
          omega
        · have e2' : τ.ob qq = some (v, .seq ty es) := by rw [← hc2]; exact e2
          have e3' : (Gs.vl qq).ownBlock = some b := by rw [← hl.vl qq hc1]; exact e3
          rcases hl.same.block b hb with h2 | ⟨i2, v2, ty2, es2, n2, ds, ds', f1, f2, f3, f4, f5, f6, f7⟩
          · exact .inr ⟨qq, v, ty, es, n, cs, cs', e2', e3', e4, h2.symm.trans e5, e6, e7, e8⟩
          · have hqi : qq = i2 := by
              rcases Nat.decEq qq i2 with hne | hne
              · exfalso
                obtain ⟨ar, hrs⟩ := hl.start
                exact hrs.disj qq i2 b (by rw [e2']; simp) (by rw [f1]; simp) hne (root_ft hrs e2' e3') (root_ft hrs f1 f2)
              · exact hne
            subst hqi
            rw [e2'] at f1
            cases f1
            have hnn := e4.eq f3
            subst hnn
            rw [f5] at e5
            cases e5
            exact .inr ⟨qq, v, ty, es, n, ds, cs', e2', e3', e4, f4, e6, e7.trans f6, e8.trans f7⟩
  refine hK.out a' w' hsame fun _ => k ws Gs a' w' G' hr' ⟨hl.start, hsame, fun j hj => (hm.vl j (Nat.lt_of_lt_of_le hj hl.nx)).trans (hl.vl j hj), fun b hb => (hm.β b (Nat.lt_of_lt_of_le hb hl.bs)).trans (hl.β b hb), Nat.le_trans hl.nx hnx, Nat.le_trans hl.bs hbs, fun j hj => ?_, fun e => by cases e⟩
  rcases hfr j hj with h1 | ⟨h1, h2, h3⟩
  · refine ⟨Nat.lt_of_lt_of_le (hl.fresh j h1).1 hnx, fun b hb => (hl.fresh j h1).2 b ?_⟩
    rw [← hm.vl j (hl.fresh j h1).1]; exact hb
  · refine ⟨h2, fun b hb => ?_⟩
    rcases hm.root j h1 h2 b hb with h4 | ⟨qq, h4, h5⟩
    · exact Nat.le_trans hl.same.below.size h4
    · rcases h3 with h3 | ⟨q2, h3, h6⟩
      · rw [h3] at h4; cases h4
      · have hqq : q2 = qq := Option.some.inj (h3.symm.trans h4)
        subst hqq
        have h7 := (hl.fresh _ h6)
        exact h7.2 b h5
theorem DW.m {c : Option Nat} (fr' : List Nat) (ho : nthO l i = some o) (h : OpMk P E N c σ o σ') (hg : o.guard = none) (hbs : σ.bs.length ≤ σ'.bs.length) (hnx : σ.nx ≤ σ'.nx) (hc : c = none ∨ ∃ j, c = some j ∧ (j ∈ fr ∨ (j < τ.nx ∧ σ.ob j = τ.ob j))) (hfr : ∀ j ∈ fr', (j ∈ fr) ∨ (σ.nx ≤ j ∧ j < σ'.nx ∧ (c = none ∨ ∃ q, c = some q ∧ q ∈ fr)))
    (k : DW E N τ fr' false σ' fun ws Gs a w => wpPi P l.toArray Q (SW E τ ws Gs) zs ps a w) : DW E N τ fr cl σ fun ws Gs a w => wpPi P l.toArray Q (SW E τ ws Gs) zs (.m i :: ps) a w :=
  DW.m' fr' ho h (fun _ => by simp [Region.wanted, hg]) hbs hnx hc hfr k
/-- The stores at the end. -/
theorem DW.stores (h : SV E N σ (wpZ P l.toArray Q zs)) : DW E N τ fr cl σ fun ws Gs a w => wpPi P l.toArray Q (SW E τ ws Gs) zs [] a w := fun ws Gs a w G hr hl => pi_end (h a w G hr)
theorem SV.z (ho : nthO l i = some o) (h : OpOk P E N σ o σ') (hg : o.guard = none) (k : SV E N σ' (wpZ P l.toArray Q zs)) : SV E N σ (wpZ P l.toArray Q (i :: zs)) := fun a w G hr => by
  refine z_step ho fun K hK => ?_
  rw [if_pos (by simp [Region.wanted, hg])]
  exact h a w G K Q hr fun a' w' G' hr' => hK.out a' w' (k a' w' G' hr')
theorem SV.zend (h : SV E N σ (Q .normal)) : SV E N σ (wpZ P l.toArray Q []) := fun a w G hr => z_end (h a w G hr)
end Go.Proofs.YtlnjgoommpeioaaDoor.V
/- States told by trees: stretches, struct literals, parts of structs, stores into slices, guarded operations. -/
namespace Go.Proofs.YtlnjgoommpeioaaDoor.V
open Go Go.RowKit
set_option linter.unusedVariables false
set_option linter.unusedSimpArgs false
variable {P : Program} {E : Env} {N nb : Nat} {σ σ' τ : VS} {o : Oper} {a : Act} {w : World} {G : Ghost} {Q : Exit → Act → World → Prop}
/-! ### Stretches -/
def Leaf.cutTo (σ : VS) (lf : Leaf) (t : T) : Leaf := match lf with
  | .ro _ => .ro t
  | .hd i => match σ.ob i with
    | some (ver, _) => .nd i ver t none
    | none => .dead
  | .nd i ver _ _ => .nd i ver t none
  | _ => .dead
def optEv (σ : VS) (x : Option Operand) (k : Nat) (dflt : Nat) : Prop := match x with
  | none => k = dflt
  | some y => ∃ ki, σ.ev y = V.one (.sc (.int ki (k : Nat)))
theorem cut_inn {ok : Nat → Prop} {ty : TypeId} {es : List (List T)} {l h n : Nat} {ad : Option Addr} {c : Nat} (hi : Inn ok w (.seq ty es) (.slice ad es.length c)) (hlh : l ≤ h) (hh : h ≤ es.length) (hz : Sz ty n) : Inn ok w (.seq ty ((es.take h).drop l)) (.slice (if c = l then ad else ad.map (·.add (l * n))) (h - l) (c - l)) := by
  obtain ⟨ad', c', n', h1, hc, hm, ha0, hp, hz', hn, b, o', us, ha, hb, hcell, hr⟩ := inn_seq hi
  injection h1 with e1 e2 e3
  subst e1 e3
  have hnn := hz'.eq hz
  subst hnn
  have hlen : ((es.take h).drop l).length = h - l := by rw [List.length_drop, List.length_take]; omega
  have hget : ∀ k e, ((es.take h).drop l)[k]? = some e → es[l + k]? = some e := fun k e hk => by
    rw [List.getElem?_drop, List.getElem?_take] at hk
    split at hk
    · exact hk
    · cases hk
  rw [← hlen]
  refine .seq n' hp hz' (fun e he => ?_) (by rw [hlen]; omega) (by omega) (fun h0 => ?_) b (o' + l * n') (fun q => us (l * n' + q)) (fun y hy hne => ?_) (fun hne => ?_) (fun k e j t hk hj => ?_) fun k e j t hk hj => ?_
  · obtain ⟨k, hk, rfl⟩ := List.getElem_of_mem he
    exact hn _ (get_mem (hget k _ (List.getElem?_eq_getElem hk)))
  · have : ad = none := by
      split at h0
      · exact h0
      · cases ad with
        | none => rfl
        | some x => cases h0
    have := ha0 this
    omega
  · have hes : es ≠ [] := fun e => hne (by rw [e]; simp)
    have hpos : 0 < h - l := by
      rcases Nat.eq_zero_or_pos (h - l) with hq | hq
      · exact absurd (List.eq_nil_of_length_eq_zero (hlen.trans hq)) hne
      · exact hq
    rw [if_neg (by omega)] at hy
    cases had : ad with
    | none => rw [had] at hy; cases hy
    | some x =>
      rw [had] at hy
      have hx := ha x had hes
      rw [hx] at hy
      have := Option.some.inj hy
      rw [← this]
      show (⟨b, o', none⟩ : Addr).add (l * n') = _
      rw [Addr.add_lit]
  · exact hb fun e => hne (by rw [e]; simp)
  · have := hcell (l + k) e j t (hget k e hk) hj
    rw [Nat.add_mul, Nat.add_assoc (l * n')] at this
    rw [Nat.add_assoc o']
    exact this
  · have := hr (l + k) e j t (hget k e hk) hj
    rwa [Nat.add_mul, Nat.add_assoc (l * n')] at this
theorem ok_slice {x : Operand} {lo hi : Option Operand} {l h n : Nat} {lf : Leaf} {ty t : TypeId} {es : List (List T)} {yy : Leaf} (hk : lf.cutTo σ (.seq ty ((es.take h).drop l)) = yy) (ho : o.op = .slice t x lo hi none) (hu : Tryd.prog.underlying t = some (.slice ty)) (hz : Sz ty n) (hx : σ.ev x = V.one lf) (ht : σ.tr lf = some (.seq ty es)) (hlo : optEv σ lo l 0) (hhi : optEv σ hi h es.length) (hlh : l ≤ h) (hh : h ≤ es.length) :
    OpL Tryd.prog E N nb σ o (V.one yy) :=
  fun a w G hr => by
    subst hk
    have h0 := hr.ev x
    rw [hx, vone] at h0
    have hin := hr.head hx ht
    obtain ⟨ad, c, n', h1, hc, hm, ha0, hp, hz', hn, b, o', us, ha, hb, hcell, hr2⟩ := inn_seq hin
    rw [h1] at hin
    have hnn := hz'.eq hz
    subst hnn
    obtain ⟨inf, hinf, hsz⟩ := hz
    have hcut := cut_inn hin hlh hh hz'
    refine ⟨.slice (if c = l then ad else ad.map (·.add (l * n'))) (h - l) (c - l), fun v' _ => ?_, vone.2 ?_⟩
    · have e1 : ∀ (x' : Option Operand) (k d : Nat), optEv σ x' k d → (x' = none ∧ k = d) ∨ ∃ y ki, x' = some y ∧ a.eval y = .int ki (k : Nat) := fun x' k d he => by
        cases x' with
        | none => exact .inl ⟨rfl, he⟩
        | some y =>
          obtain ⟨ki, hy⟩ := he
          exact .inr ⟨y, ki, rfl, hr.sc hy⟩
      have hlc : l ≤ c := by omega
      have hhc : h ≤ c := by omega
      rcases e1 lo l 0 hlo with ⟨rfl, rfl⟩ | ⟨y, ki, rfl, hy⟩ <;> rcases e1 hi h es.length hhi with ⟨rfl, rfl⟩ | ⟨y', ki', rfl, hy'⟩ <;>
        simp [execOp, ho, h1, Instr.sliceAt, Instr.slice, Instr.sliceBounds, Instr.sliceBound, asIntOf, run_underlying hu, sizeOf, Lib.rl_info ty inf hinf, hsz, Result.andThen, *]
    · cases lf with
      | ro s => exact ⟨hcut, .inr rfl⟩
      | hd i =>
        obtain ⟨⟨ver, s⟩, k1, k2⟩ := Option.map_eq_some_iff.1 ht
        have e : Leaf.cutTo σ (.hd i) (.seq ty ((es.take h).drop l)) = .nd i ver (.seq ty ((es.take h).drop l)) none := by
          show (match σ.ob i with | some (ver, _) => Leaf.nd i ver _ none | none => .dead) = _
          rw [k1]
        rw [e]
        exact ⟨⟨h0.1.1, fun v t' hv => by rw [k1] at hv; cases hv; exact Nat.le_refl _, fun _ => ⟨hcut, fun k o e => by cases e⟩⟩, .inr rfl⟩
      | nd i ver s loc => exact ⟨⟨h0.1.1, h0.1.2.1, fun _ => ⟨hcut, fun k o e => by cases e⟩⟩, .inr rfl⟩
      | _ => exact ⟨trivial, .inl rfl⟩
/-! ### Parts of a struct's value -/
theorem ok_part {x : Operand} {f off m : Nat} {ty : TypeId} {ag : Bool} {xs ys : List Leaf} (ho : o.op = .field ty x f) (hx : σ.ev x = V.flat true xs) (hf : ∀ (us : List Value) w, us.length = xs.length → (Instr.field ty (.agg us.toArray) f).run P w = .ok (cval ag ((us.drop off).take m)) w) (hy : (xs.drop off).take m = ys) : OpL P E N nb σ o (V.flat ag ys) :=
  fun a w G hr => by
    have h1 := hr.ev x
    rw [hx, vflat] at h1
    obtain ⟨us, h2, h3, h4⟩ := h1
    refine ⟨cval ag ((us.drop off).take m), fun v' _ => ?_, vflat.2 ⟨_, rfl, ?_, fun j y u hj hu => h4 (off + j) y u (cut_get (by rw [hy]; exact hj)) (cut_get hu)⟩⟩
    · have : cval true us = .agg us.toArray := rfl
      simp [execOp, ho, h2, this, hf us v' h3, Result.andThen]
    · rw [← hy]; simp only [List.length_take, List.length_drop]; omega
/-! ### Struct literals -/
def fillL (pl : Nat → Option (Nat × Nat)) : List Leaf → List (Nat × List Leaf) → Option (List Leaf)
  | cs, [] => some cs
  | cs, (i, v) :: rest => match pl i with
    | none => none
    | some (off, size) => bif (!Nat.beq v.length size) || Nat.blt cs.length (off + v.length) then none else fillL pl (cs.take off ++ v ++ cs.drop (off + v.length)) rest
def Aligned (R : Leaf → Value → Prop) : List (Nat × List Leaf) → List (Nat × Value) → Prop
  | [], [] => True
  | p :: ps, v :: vs => (p.1 = v.1 ∧ v.2.cells.size = p.2.length ∧ ∀ (j : Nat) (x : Leaf) (u : Value), p.2[j]? = some x → v.2.cells[j]? = some u → R x u) ∧ Aligned R ps vs
  | _, _ => False
theorem fill_holds {R : Leaf → Value → Prop} {pl : Nat → Option (Nat × Nat)} : ∀ (ps : List (Nat × List Leaf)) (vs : List (Nat × Value)) (zs : List Leaf) (cells : Array Value) (ys : List Leaf), Aligned R ps vs → cells.size = zs.length → (∀ (j : Nat) (x : Leaf) (u : Value), zs[j]? = some x → cells[j]? = some u → R x u) → fillL pl zs ps = some ys →
    ∃ r, Instr.fill pl cells vs = some r ∧ r.size = ys.length ∧ ∀ (j : Nat) (x : Leaf) (u : Value), ys[j]? = some x → r[j]? = some u → R x u
  | [], [], zs, cells, ys, _, hs, hR, hf => by
    cases hf
    exact ⟨cells, rfl, hs, hR⟩
  | (i, xs) :: ps, (i', v) :: vs, zs, cells, ys, ha, hs, hR, hf => by
    obtain ⟨⟨h1, h2, h3⟩, h4⟩ := ha
    have h1' : i = i' := h1
    subst h1'
    replace h2 : v.cells.size = xs.length := h2
    replace h3 : ∀ (j : Nat) (x : Leaf) (u : Value), xs[j]? = some x → v.cells[j]? = some u → R x u := h3
    unfold fillL at hf
    cases hp : pl i with
    | none => rw [hp] at hf; cases hf
    | some q =>
      obtain ⟨off, size⟩ := q
      rw [hp] at hf
      simp only at hf h2 h3
      cases hb : ((!Nat.beq xs.length size) || Nat.blt zs.length (off + xs.length)) with
      | true => rw [hb] at hf; cases hf
      | false =>
        rw [hb] at hf
        rw [Bool.or_eq_false_iff] at hb
        have e1 : xs.length = size := nbeq.1 (by simpa using hb.1)
        have e2 : ¬ zs.length < off + xs.length := fun hlt => by
          have h9 := hb.2
          rw [show Nat.blt zs.length (off + xs.length) = true from Nat.ble_eq_true_of_le hlt] at h9
          cases h9
        obtain ⟨g1, g2⟩ := Great.foldl_set off v.cells.toList 0 cells
        have hfold : (v.cells.zipIdx.foldl (fun cs (x : Value × Nat) => cs.setIfInBounds (off + x.2) x.1) cells) = ((v.cells.toList.zipIdx 0).foldl (fun cs (x : Value × Nat) => cs.setIfInBounds (off + x.2) x.1) cells) := by
          rw [← Array.foldl_toList, Array.toList_zipIdx]
        obtain ⟨r, k1, k2, k3⟩ := fill_holds ps vs (zs.take off ++ xs ++ zs.drop (off + xs.length)) _ ys h4 (by rw [g1]; simp; omega) (fun j x u hj hu => by
          rw [g2 j] at hu
          simp only [Nat.add_zero, Array.length_toList, h2] at hu
          rw [List.append_assoc] at hj
          by_cases hc : off ≤ j ∧ j < off + xs.length ∧ j < cells.size
          · rw [if_pos hc] at hu
            rw [List.getElem?_append_right (by rw [List.length_take]; omega), List.length_take, Nat.min_eq_left (by omega), List.getElem?_append_left (by omega)] at hj
            exact h3 (j - off) x u hj (by simpa using hu)
          · rw [if_neg hc] at hu
            have hjc : j < cells.size := by
              rcases Nat.lt_or_ge j cells.size with h | h
              · exact h
              · rw [Array.getElem?_eq_none h] at hu; cases hu
            rcases Nat.lt_or_ge j off with hlt | hge
            · rw [List.getElem?_append_left (by rw [List.length_take]; omega), List.getElem?_take, if_pos hlt] at hj
              exact hR j x u hj hu
            · rw [List.getElem?_append_right (by rw [List.length_take]; omega), List.length_take, Nat.min_eq_left (by omega), List.getElem?_append_right (by omega), List.getElem?_drop] at hj
              have : off + xs.length + (j - off - xs.length) = j := by omega
              rw [this] at hj
              exact hR j x u hj hu) hf
        refine ⟨r, ?_, k2, k3⟩
        unfold Instr.fill
        simp only [hp]
        rw [if_neg (by rw [h2, e1, hs]; simp; omega), ← k1]
        congr 1
def VS.partsOk (σ : VS) : List (Nat × Operand) → List (Nat × List Leaf) → Prop
  | [], [] => True
  | p :: ps, q :: qs => (p.1 = q.1 ∧ ∃ ag, σ.ev p.2 = V.flat ag q.2 ∧ (ag = false → q.2.length = 1) ∧ q.2.all Leaf.live = true) ∧ σ.partsOk ps qs
  | _, _ => False
theorem parts_aligned (h : Rel E N σ a w G) : ∀ {ps : List (Nat × Operand)} {qs : List (Nat × List Leaf)}, σ.partsOk ps qs → Aligned (Holds G σ E w) qs (ps.map fun (i, x) => (i, a.eval x))
  | [], [], _ => trivial
  | (i, x) :: ps, (i', xs) :: qs, hp => by
    obtain ⟨⟨h1, ag, h2, h3, h3'⟩, h4⟩ := hp
    have h5 := h.ev x
    rw [h2, vflat] at h5
    obtain ⟨us, h6, h7, h8⟩ := h5
    replace h7 : us.length = xs.length := h7
    have h9 : (a.eval x).cells = us.toArray := by
      rw [h6]
      refine cval_cells fun e => ⟨h7.trans (h3 e), fun u hu => ?_⟩
      obtain ⟨j, hj, rfl⟩ := List.getElem_of_mem hu
      have hj' : j < xs.length := by omega
      exact (h8 j xs[j] us[j] (List.getElem?_eq_getElem hj') (List.getElem?_eq_getElem hj)).one (List.all_eq_true.1 h3' _ (List.getElem_mem hj'))
    exact ⟨⟨h1.symm, by show (a.eval x).cells.size = xs.length; rw [h9]; simpa using h7, fun j y u hj hu => by
      replace hu : (a.eval x).cells[j]? = some u := hu
      rw [h9] at hu
      exact h8 j y u hj (by simpa using hu)⟩, parts_aligned h h4⟩
theorem ok_build {ty : TypeId} {parts : Array (Nat × Operand)} {z : Value} {zs ys : List Leaf} {qs : List (Nat × List Leaf)} {pl : Nat → Option (Nat × Nat)} (ho : o.op = .build ty parts) (hz : ∀ w, (zeroValue ty).run P w = .ok z w) (hzl : ZL zs z.cells.toList) (hp : σ.partsOk parts.toList qs)
    (hb : ∀ (vs : Array (Nat × Value)) (r : Array Value) w, Instr.fill pl z.cells vs.toList = some r → (Instr.build ty vs).run P w = .ok (.agg r) w) (hf : fillL pl zs qs = some ys) : OpL P E N nb σ o (V.flat true ys) :=
  fun a w G hr => by
    obtain ⟨r, h1, h2, h3⟩ := fill_holds qs _ zs z.cells ys (parts_aligned hr hp) (by have := hzl.len; simpa using this) (fun j x u hj hu => (hzl.holds j x u hj (by simpa using hu)).1) hf
    refine ⟨.agg r, fun v' _ => ?_, vflat.2 ⟨r.toList, by simp [cval], by simpa using h2, fun j x u hj hu => h3 j x u hj (by simpa using hu)⟩⟩
    have := hb (parts.map fun (i, x) => (i, a.eval x)) r v' (by simpa using h1)
    simp [execOp, ho, this, Result.andThen]
/-! ### Guarded operations -/
theorem yielded_at {ops : Array Oper} {j d : Nat} {oj : Oper} {b : Bool} (h : Rel E N σ a w G) (hj : ops[j]? = some oj) (hd : oj.dst = some d) (hdN : d < N) (hv : σ.tm d = V.one (.sc (.bool b))) : yielded ops a.tmps j = some b := by
  have h1 : a.tmps[d]? = some (.bool b) := by
    have h2 := h.tmps d
    rw [hv, vone] at h2
    have h3 : a.tmps.getD d undef = .bool b := h2.1
    have h4 : d < a.tmps.size := by rw [h.nsz]; exact hdN
    simp only [Array.getD_eq_getD_getElem?] at h3
    rw [Array.getElem?_eq_getElem h4] at h3 ⊢
    simpa using h3
  simp [yielded, hj, hd, h1]
/-- The guard is met. -/
theorem SV.opY {ops : Array Oper} {rest : List Oper} {j d : Nat} {oj : Oper} {b c : Bool} (h : OpOk P E N σ o σ') (hg : o.guard = some (j, b)) (hj : ops[j]? = some oj) (hd : oj.dst = some d) (hdN : d < N) (hv : σ.tm d = V.one (.sc (.bool c))) (hc : c = b) (k : SV E N σ' (wpList P ops Q rest)) : SV E N σ (wpList P ops Q (o :: rest)) :=
  fun a w G hr => wpList_step fun K hK => by
    have := yielded_at hr hj hd hdN hv
    rw [if_pos (by simp [Region.wanted, hg, this, hc])]
    exact h a w G K Q hr fun a' w' G' hr' => hK _ _ (k a' w' G' hr')
/-- The guard is not met: the slot is left undefined. -/
theorem SV.opN {ops : Array Oper} {rest : List Oper} {j d d' : Nat} {oj : Oper} {b c : Bool} (hg : o.guard = some (j, b)) (hj : ops[j]? = some oj) (hd : oj.dst = some d) (hdN : d < N) (hv : σ.tm d = V.one (.sc (.bool c))) (hc : c = !b) (hd' : o.dst = some d') (hdN' : d' < N) (k : SV E N (σ.put d' (V.one .dead)) (wpList P ops Q rest)) : SV E N σ (wpList P ops Q (o :: rest)) :=
  fun a w G hr => wpList_skip (by
    have := yielded_at hr hj hd hdN hv
    cases b <;> simp [Region.wanted, hg, this, hc]) (by
    rw [hd']
    exact k _ _ _ (hr.put hdN' (vone.2 ⟨trivial, .inl rfl⟩)))
theorem DW.qN {V' : V} {l : List Oper} {zs : List Nat} {ps : List PStep} {fr : List Nat} {cl : Bool} {i j d d' : Nat} {oj : Oper} {b c : Bool} (ho : nthO l i = some o) (hg : o.guard = some (j, b)) (hj : l.toArray[j]? = some oj) (hd : oj.dst = some d) (hdN : d < N) (hv : σ.tm d = V.one (.sc (.bool c))) (hc : c = !b) (hd' : o.dst = some d') (hdN' : d' < N) (hQ : ∀ c (a : Act) v w, Q (.panic c) (a.put o.dst v) w → Q (.panic c) a w)
    (k : DW E N τ fr cl (σ.put d' (V.one .dead)) fun ws Gs a w => wpPi P l.toArray Q (SW E τ ws Gs) zs ps a w) : DW E N τ fr cl σ fun ws Gs a w => wpPi P l.toArray Q (SW E τ ws Gs) zs (.q i :: ps) a w := fun ws Gs a w G hr hl => by
  refine pi_pass ho (fun c a w => hQ c a undef w) ?_ ?_
  · have := yielded_at hr hj hd hdN hv
    cases b <;> simp [Region.wanted, hg, this, hc]
  · rw [hd']
    exact k ws Gs _ w G (hr.put hdN' (vone.2 ⟨trivial, .inl rfl⟩)) hl.put
theorem DW.qY {V' : V} {l : List Oper} {zs : List Nat} {ps : List PStep} {fr : List Nat} {cl : Bool} {i j d d' : Nat} {oj : Oper} {b c : Bool} (ho : nthO l i = some o) (h : OpL P E N τ.bs.length σ o V') (hg : o.guard = some (j, b)) (hj : l.toArray[j]? = some oj) (hd : oj.dst = some d) (hdN : d < N) (hv : σ.tm d = V.one (.sc (.bool c))) (hc : c = b) (hd' : o.dst = some d') (hdN' : d' < N) (hQ : ∀ c (a : Act) v w, Q (.panic c) (a.put o.dst v) w → Q (.panic c) a w)
    (k : DW E N τ fr cl (σ.put d' V') fun ws Gs a w => wpPi P l.toArray Q (SW E τ ws Gs) zs ps a w) : DW E N τ fr cl σ fun ws Gs a w => wpPi P l.toArray Q (SW E τ ws Gs) zs (.q i :: ps) a w := fun ws Gs a w G hr hl => by
  obtain ⟨u, h1, h2⟩ := h a w G hr
  refine pi_take (v := u) ho (fun c a w => hQ c a u w) ?_ (fun v hv => h1 v (hl.lite hv)) ?_
  · have := yielded_at hr hj hd hdN hv
    simp [Region.wanted, hg, this, hc]
  · rw [hd']
    exact k ws Gs _ w G (hr.put hdN' h2) hl.put
theorem wantedY {ops : Array Oper} {j d : Nat} {oj : Oper} {b c : Bool} (h : Rel E N σ a w G) (hg : o.guard = some (j, b)) (hj : ops[j]? = some oj) (hd : oj.dst = some d) (hdN : d < N) (hv : σ.tm d = V.one (.sc (.bool c))) (hc : c = b) : Region.wanted o (yielded ops a.tmps) = true := by
  have := yielded_at h hj hd hdN hv
  simp [Region.wanted, hg, this, hc]
theorem wantedN {ops : Array Oper} {j d : Nat} {oj : Oper} {b c : Bool} (h : Rel E N σ a w G) (hg : o.guard = some (j, b)) (hj : ops[j]? = some oj) (hd : oj.dst = some d) (hdN : d < N) (hv : σ.tm d = V.one (.sc (.bool c))) (hc : c = !b) : Region.wanted o (yielded ops a.tmps) = false := by
  have := yielded_at h hj hd hdN hv
  cases b <;> simp [Region.wanted, hg, this, hc]
/-- An operation that makes memory, its guard not met: the slot is left undefined. -/
theorem DW.mN {l : List Oper} {zs : List Nat} {ps : List PStep} {fr : List Nat} {cl : Bool} {i j d d' : Nat} {oj : Oper} {b c : Bool} (ho : nthO l i = some o) (hg : o.guard = some (j, b)) (hj : l.toArray[j]? = some oj) (hd : oj.dst = some d) (hdN : d < N) (hv : σ.tm d = V.one (.sc (.bool c))) (hc : c = !b) (hd' : o.dst = some d') (hdN' : d' < N)
    (k : DW E N τ fr cl (σ.put d' (V.one .dead)) fun ws Gs a w => wpPi P l.toArray Q (SW E τ ws Gs) zs ps a w) : DW E N τ fr cl σ fun ws Gs a w => wpPi P l.toArray Q (SW E τ ws Gs) zs (.m i :: ps) a w := fun ws Gs a w G hr hl => by
  refine pi_step ho fun K hK => ?_
  rw [if_neg (by rw [wantedN hr hg hj hd hdN hv hc]; simp)]
  refine hK.out _ w hl.same fun _ => ?_
  rw [hd']
  exact k ws Gs _ w G (hr.put hdN' (vone.2 ⟨trivial, .inl rfl⟩)) hl.put
end Go.Proofs.YtlnjgoommpeioaaDoor.V
/- States told by trees: an empty slice as an object, states written out, small helps for walks. -/
namespace Go.Proofs.YtlnjgoommpeioaaDoor.V
open Go Go.RowKit
set_option linter.unusedVariables false
variable {P : Program} {E : Env} {N nb : Nat} {σ σ' τ : VS} {o : Oper} {a : Act} {w : World} {G : Ghost} {Q : Exit → Act → World → Prop} {K : Act → World → Prop}
theorem Rel.newnil (h : Rel E N σ a w G) {ty : TypeId} {n : Nat} (hp : 0 < n) (hz : Sz ty n) : ∃ G', Rel E N (σ.new (.seq ty [])) a w G' ∧ G'.vl σ.nx = .slice none 0 0 ∧ G'.β = G.β ∧ ∀ x u, Holds G σ E w x u → Holds G' (σ.new (.seq ty [])) E w x u := by
  obtain ⟨G', h1, ⟨h2, -, h3⟩, -, h4⟩ := h.renew [] (fun x hx => by cases hx) (w' := w) (t := .seq ty []) (v := .slice none 0 0) (F := fun _ => False) (fun _ => False) (Same.refl _ _) (fun _ _ _ => rfl) (fun b hb => hb.elim)
    (Own.seq (es := []) n hp hz (fun e he => by cases he) [] (World.ownsRow_nil _ _ _ _) (fun _ _ => False) (fun k e j t u h => by simp at h) (fun u hu => by cases hu) (fun b hb => by cases hb) (fun i b hb => hb.elim) (fun i b hb => hb.elim) fun i j b hb => hb.elim) ⟨_, _, rfl⟩ (fun b hb => hb.elim)
  exact ⟨G', h1, h2, h3, h4⟩
/-- An empty slice in a slot is an object. -/
theorem SV.nltm {s kk : Nat} {ty : TypeId} (hk : σ.nx = kk) (hs : σ.tm s = V.one (.nl ty)) (hN : s < N) (k : SV E N ((σ.new (.seq ty [])).put s (V.one (.hd kk))) K) : SV E N σ K := fun a w G h => by
  subst hk
  have h1 := h.tmps s
  rw [hs, vone] at h1
  obtain ⟨⟨h2, n, h3, h4⟩, -⟩ := h1
  obtain ⟨G', k1, k2, -, -⟩ := h.newnil h3 h4
  have k3 := k1.put (d := s) (v := V.one (.hd σ.nx)) (u := a.tmps.getD s undef) hN (vone.2 ⟨⟨Nat.lt_succ_self _, by rw [h2, k2]⟩, .inr (by rw [h2]; rfl)⟩)
  have e : a.put (some s) (a.tmps.getD s undef) = a := by
    have hs' : s < a.tmps.size := by rw [h.nsz]; exact hN
    cases a with
    | mk tmps defers =>
      have : tmps.setIfInBounds s (tmps.getD s undef) = tmps := by
        apply Array.ext_getElem?
        intro i
        rw [Array.getElem?_setIfInBounds]
        split
        · rename_i hi; subst hi
          simp at hs'
          simp [hs']
        · rfl
      show Act.mk _ _ = _
      rw [this]
  rw [e] at k3
  exact k a w G' k3
/-- An empty slice in a box is an object. -/
theorem SV.nlbox {b j kk : Nat} {ty ty' : TypeId} {xs : List Leaf} (hb : σ.bs[b]? = some (ty', xs)) (hk : σ.nx = kk) (hj : xs[j]? = some (.nl ty)) {ys : List Leaf} (hy : xs.set j (.hd kk) = ys) (k : SV E N ((σ.new (.seq ty [])).setb b ty' ys) K) : SV E N σ K := fun a w G h => by
  subst hk
  subst hy
  obtain ⟨hB, us, h1, h2, h3⟩ := h.boxes b ty' xs hb
  have hjl := get_lt hj
  obtain ⟨⟨⟨h4, n, h5, h6⟩, -⟩, -⟩ := h3 j _ us[j] hj (List.getElem?_eq_getElem (by omega))
  obtain ⟨G', k1, k2, hβ, k3⟩ := h.newnil h5 h6
  have k4 := k1.setbox (b := b) (ty := ty') (xs := xs) (xs' := xs.set j (.hd σ.nx)) (us' := us) (w' := w) hb (Same.refl _ _) (fun _ _ => rfl) (by rw [hβ]; exact h1) (by simpa using h2) (fun q x u hq hu => by
    by_cases hqj : j = q
    · subst hqj
      rw [List.getElem?_set_self hjl] at hq
      have hu' : us[j] = u := by rw [List.getElem?_eq_getElem (by omega)] at hu; exact Option.some.inj hu
      rw [← Option.some.inj hq, ← hu', h4]
      exact ⟨⟨⟨Nat.lt_succ_self _, k2.symm⟩, .inr rfl⟩, rfl⟩
    · rw [List.getElem?_set_ne hqj] at hq
      exact ⟨k3 x u (h3 q x u hq hu).1, (h3 q x u hq hu).2⟩)
  exact k a w G' k4
/-! ### States written out -/
def VS.nil : VS := ⟨fun _ => V.one .dead, [], fun _ => none, 0⟩
theorem le_nil {ρ : Nat → Nat} (s : Nat) : V.le σ τ ρ (σ.tm s) (VS.nil.tm s) := .inl rfl
theorem le_put {ρ : Nat → Nat} {τ' : VS} {d : Nat} {v : V} (h : ∀ s, V.le σ τ ρ (σ.tm s) (τ'.tm s)) (hv : V.le σ τ ρ (σ.tm d) v) (s : Nat) : V.le σ τ ρ (σ.tm s) ((τ'.put d v).tm s) := by
  show V.le σ τ ρ (σ.tm s) (bif Nat.beq s d then v else τ'.tm s)
  cases hb : Nat.beq s d with
  | true => rw [nbeq.1 hb]; exact hv
  | false => exact h s
theorem le_box {ρ : Nat → Nat} {τ' : VS} {ty : TypeId} {xs : List Leaf} (h : ∀ s, V.le σ τ ρ (σ.tm s) (τ'.tm s)) (s : Nat) : V.le σ τ ρ (σ.tm s) ((τ'.box ty xs).tm s) := h s
theorem le_new {ρ : Nat → Nat} {τ' : VS} {t : T} (h : ∀ s, V.le σ τ ρ (σ.tm s) (τ'.tm s)) (s : Nat) : V.le σ τ ρ (σ.tm s) ((τ'.new t).tm s) := h s
theorem V.le.flat {ρ : Nat → Nat} {ag : Bool} {xs ys : List Leaf} {v : V} (h : v = V.flat ag xs) (l : leafs σ τ ρ xs ys) : V.le σ τ ρ v (V.flat ag ys) := .inr ⟨ag, xs, ys, h, rfl, l⟩
theorem V.le.one {ρ : Nat → Nat} {x y : Leaf} {v : V} (h : v = V.one x) (l : Leaf.le σ τ ρ x y) : V.le σ τ ρ v (V.one y) := .inr ⟨false, [x], [y], h, rfl, l, trivial⟩
/-- Boxes, one by one. -/
def boxesLe (σ τ : VS) (ρ : Nat → Nat) : List (TypeId × List Leaf) → List (TypeId × List Leaf) → Prop
  | _, [] => True
  | x :: xs, y :: ys => (x.1 = y.1 ∧ leafs σ τ ρ x.2 y.2) ∧ boxesLe σ τ ρ xs ys
  | [], _ :: _ => False
theorem boxesLe.get {ρ : Nat → Nat} : ∀ {xs ys : List (TypeId × List Leaf)}, boxesLe σ τ ρ xs ys → ys.length ≤ xs.length ∧ ∀ (b : Nat) (ty : TypeId) (zs : List Leaf), ys[b]? = some (ty, zs) → ∃ xs', xs[b]? = some (ty, xs') ∧ leafs σ τ ρ xs' zs
  | xs, [], _ => ⟨Nat.zero_le _, fun b ty zs h => by simp at h⟩
  | x :: xs, y :: ys, h => by
    obtain ⟨h1, h2⟩ := h.2.get
    refine ⟨by simpa using h1, fun b ty zs hb => ?_⟩
    cases b with
    | zero =>
      cases hb
      obtain ⟨e, hl⟩ := h.1
      obtain ⟨xt, xl⟩ := x
      have : xt = ty := e
      subst this
      exact ⟨xl, rfl, hl⟩
    | succ b => exact h2 b ty zs (by simpa using hb)
/-- Objects 0 .. n-1 of τ, one by one. -/
def objsLe (σ τ : VS) (ρ : Nat → Nat) : Nat → Prop
  | 0 => True
  | n + 1 => (τ.ob n = none ∨ ∃ ver t, τ.ob n = some (ver, t) ∧ (σ.ob (ρ n)).map (·.2) = some t ∧ ρ n < σ.nx) ∧ objsLe σ τ ρ n
theorem objsLe.get {ρ : Nat → Nat} : ∀ {n : Nat}, objsLe σ τ ρ n → ∀ i, i < n → (τ.ob i = none ∨ ∃ ver t, τ.ob i = some (ver, t) ∧ (σ.ob (ρ i)).map (·.2) = some t ∧ ρ i < σ.nx)
  | n + 1, h, i, hi => by
    rcases Nat.lt_or_ge i n with hl | hl
    · exact h.2.get i hl
    · have : i = n := by omega
      subst this; exact h.1
theorem VS.le.mk' {ρ : Nat → Nat} (tm : ∀ s, V.le σ τ ρ (σ.tm s) (τ.tm s)) (bx : boxesLe σ τ ρ σ.bs τ.bs) (ob : objsLe σ τ ρ τ.nx) (hnx : ∀ i, τ.ob i ≠ none → i < τ.nx) (inj : ∀ i j, i < τ.nx → j < τ.nx → ρ i = ρ j → i = j) : VS.le σ τ ρ :=
  ⟨tm, bx.get.1, bx.get.2, fun i ver t hi => by
    have hlt := hnx i (by rw [hi]; simp)
    rcases ob.get i hlt with h | ⟨ver', t', h1, h2, h3⟩
    · rw [h] at hi; cases hi
    · rw [h1] at hi
      cases hi
      obtain ⟨⟨v, t2⟩, h4, h5⟩ := Option.map_eq_some_iff.1 h2
      exact ⟨hlt, h3, v, by rw [h4]; exact congrArg some (Prod.ext rfl h5)⟩, fun i j hi hj => inj i j (hnx i hi) (hnx j hj)⟩
theorem nil_ob (i : Nat) : VS.nil.ob i ≠ none → i < VS.nil.nx := fun h => absurd rfl h
theorem new_ob {t : T} (h : ∀ i, τ.ob i ≠ none → i < τ.nx) (i : Nat) : (τ.new t).ob i ≠ none → i < (τ.new t).nx := fun hi => by
  by_cases e : i = τ.nx
  · rw [e]; exact Nat.lt_succ_self _
  · have : (τ.new t).ob i = τ.ob i := by
      show (bif Nat.beq i τ.nx then _ else τ.ob i) = _
      rw [nbne e]; rfl
    rw [this] at hi
    exact Nat.lt_succ_of_lt (h i hi)
theorem inj_list {l : List Nat} (h : l.Nodup) (i j : Nat) (hi : i < l.length) (hj : j < l.length) (e : l.getD i 0 = l.getD j 0) : i = j := by
  rw [List.getD_eq_getElem?_getD, List.getD_eq_getElem?_getD, List.getElem?_eq_getElem hi, List.getElem?_eq_getElem hj] at e
  have e' : l[i] = l[j] := by simpa using e
  rcases Nat.lt_trichotomy i j with hl | hl | hl
  · exact absurd e' ((List.pairwise_iff_getElem.1 h) i j hi hj hl)
  · exact hl
  · exact absurd e'.symm ((List.pairwise_iff_getElem.1 h) j i hj hi hl)
theorem map_at {α : Type} {f : α → List T} {L : List α} {k : Nat} {x : α} (h : L[k]? = some x) : (L.map f)[k]? = some (f x) := by rw [List.getElem?_map, h]; rfl
/-- A truth value is the one or the other. -/
theorem SV.split {d : Nat} {c : Bool} (hv : σ.tm d = V.one (.sc (.bool c))) (ht : c = true → SV E N (σ.put d (V.one (.sc (.bool true)))) K) (hf : c = false → SV E N (σ.put d (V.one (.sc (.bool false)))) K) : SV E N σ K := by
  have e : σ.put d (V.one (.sc (.bool c))) = σ := by
    have hf : (fun s => bif Nat.beq s d then V.one (.sc (.bool c)) else σ.tm s) = σ.tm := by
      funext s
      cases hb : Nat.beq s d with
      | true => rw [Nat.eq_of_beq_eq_true hb, hv]; rfl
      | false => rfl
    show (⟨fun s => bif Nat.beq s d then V.one (.sc (.bool c)) else σ.tm s, σ.bs, σ.ob, σ.nx⟩ : VS) = σ
    rw [hf]
  cases c with
  | true => rw [← e]; exact ht rfl
  | false => rw [← e]; exact hf rfl
theorem put_same {d : Nat} {v : V} (hv : σ.tm d = v) : σ.put d v = σ := by
  have hf : (fun s => bif Nat.beq s d then v else σ.tm s) = σ.tm := by
    funext s
    cases hb : Nat.beq s d with
    | true => rw [Nat.eq_of_beq_eq_true hb, hv]; rfl
    | false => rfl
  show (⟨fun s => bif Nat.beq s d then v else σ.tm s, σ.bs, σ.ob, σ.nx⟩ : VS) = σ
  rw [hf]
/-- In a region whose order is drawn: a truth value is the one or the other. -/
theorem DW.split {d : Nat} {c : Bool} {fr : List Nat} {cl : Bool} {Ψ : World → Ghost → Act → World → Prop} (hv : σ.tm d = V.one (.sc (.bool c))) (ht : c = true → DW E N τ fr cl (σ.put d (V.one (.sc (.bool true)))) Ψ) (hf : c = false → DW E N τ fr cl (σ.put d (V.one (.sc (.bool false)))) Ψ) : DW E N τ fr cl σ Ψ := by
  have e := put_same hv
  cases c with
  | true => rw [← e]; exact ht rfl
  | false => rw [← e]; exact hf rfl
theorem ok_pickT {c x y : Operand} {v : V} (ho : o.op = .pick c x y) (hc : σ.ev c = V.one (.sc (.bool true))) (hx : σ.ev x = v) : OpL P E N nb σ o v :=
  fun a w G h => ⟨a.eval x, fun v' _ => by simp [execOp, ho, h.sc hc, asBool], by rw [← hx]; exact h.ev x⟩
theorem ok_pickF {c x y : Operand} {v : V} (ho : o.op = .pick c x y) (hc : σ.ev c = V.one (.sc (.bool false))) (hx : σ.ev y = v) : OpL P E N nb σ o v :=
  fun a w G h => ⟨a.eval y, fun v' _ => by simp [execOp, ho, h.sc hc, asBool], by rw [← hx]; exact h.ev y⟩
end Go.Proofs.YtlnjgoommpeioaaDoor.V
/- States told by trees: loops whose states are told by what changes (the rest stands as at the loop's beginning); calls by contracts of plain values. -/
namespace Go.Proofs.YtlnjgoommpeioaaDoor.V
open Go Go.RowKit
set_option linter.unusedVariables false
variable {P : Program} {E : Env} {N nb : Nat} {σ σ' τ : VS} {o : Oper} {a : Act} {w : World} {G : Ghost} {Q : Exit → Act → World → Prop} {K : Act → World → Prop}
/-- An object's tree. -/
def VS.tree (σ : VS) (i : Nat) : T := match σ.ob i with
  | some p => p.2
  | none => .any
/-- A leaf of a slot, of a box. -/
def VS.lf (σ : VS) (d j : Nat) : Leaf := match (σ.tm d).cs with
  | p :: _ => p.2.getD j .dead
  | [] => .dead
def VS.bl (σ : VS) (b j : Nat) : Leaf := match σ.bs[b]? with
  | some p => p.2.getD j .dead
  | none => .dead
theorem SV.loopF {c : Code} {X : Type} (I : VS → X → VS) (Inv : X → Prop) (μ : X → Nat) (h0 : SV E N σ fun a w => ∃ x, Inv x ∧ ∃ G, Rel E N (I σ x) a w G)
    (round : ∀ x, Inv x → SV E N (I σ x) (c.wp P (Exit.then (fun a w => ∃ x', (Inv x' ∧ μ x' < μ x) ∧ ∃ G, Rel E N (I σ x') a w G) Q))) : SV E N σ ((Code.loop c).wp P Q) := SV.loop (I σ) Inv μ h0 round
theorem V.le.keep {ρ : Nat → Nat} {ag : Bool} {xs ys : List Leaf} {v v' : V} (h : v = V.flat ag xs) (h' : v' = V.flat ag ys) (l : leafs σ τ ρ xs ys) : V.le σ τ ρ v v' := .inr ⟨ag, xs, ys, h, h', l⟩
/-- Where a region begins, a state may be told otherwise. -/
theorem SV.sub {ρ : Nat → Nat} (hp : E.nl ≤ τ.nx ∧ ∀ i, i < E.nl → ρ i = i) (l : VS.le σ τ ρ) (k : SV E N τ K) : SV E N σ K := fun a w G h => by
  obtain ⟨G', h'⟩ := h.weaken hp l
  exact k a w G' h'
/-- An empty slice that a constant gave is an object. -/
theorem SV.nlsc {s kk n : Nat} {ty : TypeId} (hk : σ.nx = kk) (hs : σ.tm s = V.one (.sc (.slice none 0 0))) (hp : 0 < n) (hz : Sz ty n) (hN : s < N) (k : SV E N ((σ.new (.seq ty [])).put s (V.one (.hd kk))) K) : SV E N σ K := fun a w G h => by
  subst hk
  have h1 := h.tmps s
  rw [hs, vone] at h1
  have h2 : a.tmps.getD s undef = .slice none 0 0 := h1.1
  obtain ⟨G', k1, k2, -, -⟩ := h.newnil hp hz
  have k3 := k1.put (d := s) (v := V.one (.hd σ.nx)) (u := a.tmps.getD s undef) hN (vone.2 ⟨⟨Nat.lt_succ_self _, by rw [h2, k2]⟩, .inr (by rw [h2]; rfl)⟩)
  have e : a.put (some s) (a.tmps.getD s undef) = a := by
    have hs' : s < a.tmps.size := by rw [h.nsz]; exact hN
    cases a with
    | mk tmps defers =>
      have : tmps.setIfInBounds s (tmps.getD s undef) = tmps := by
        apply Array.ext_getElem?
        intro i
        rw [Array.getElem?_setIfInBounds]
        split
        · rename_i hi; subst hi
          simp at hs'
          simp [hs']
        · rfl
      show Act.mk _ _ = _
      rw [this]
  rw [e] at k3
  exact k a w G' k3
def isLit : T → Bool
  | .lit _ => true
  | _ => false
theorem flat_of {α : Type} {f : α → List T} (h : ∀ x, (f x).all isLit = true) (X : List α) : Flat (X.map f) := fun k e j t h1 h2 => by
  rw [List.getElem?_map] at h1
  obtain ⟨x, -, rfl⟩ := Option.map_eq_some_iff.1 h1
  have := List.all_eq_true.1 (h x) t (get_mem h2)
  cases t with
  | lit u => exact ⟨u, rfl⟩
  | any => cases this
  | seq ty es => cases this
/-! ### A literal of scalars -/
def VS.scs (σ : VS) : List Operand → List Value → Prop
  | [], [] => True
  | x :: xs, u :: us => σ.ev x = V.one (.sc u) ∧ σ.scs xs us
  | _, _ => False
theorem Rel.scs (h : Rel E N σ a w G) : ∀ {xs : List Operand} {us : List Value}, σ.scs xs us → xs.map a.eval = us ∧ ∀ u ∈ us, u.oneCell' = true
  | [], [], _ => ⟨rfl, fun u hu => by cases hu⟩
  | x :: xs, u :: us, hx => by
    obtain ⟨h1, h2⟩ := h.scs hx.2
    have h3 := h.ev x
    rw [hx.1, vone] at h3
    have h4 : a.eval x = u := h3.1
    refine ⟨by rw [List.map_cons, h1, h4], fun v hv => ?_⟩
    rcases List.mem_cons.1 hv with rfl | hv
    · rcases h3.2 with h5 | h5
      · cases h5
      · rwa [h4] at h5
    · exact h2 v hv
theorem parts_eval {xs : List Operand} : ∀ (i : Nat), ((xs.zipIdx i).map fun x => (x.2, x.1)).map (fun (i, x) => (i, a.eval x)) = ((xs.map a.eval).zipIdx i).map fun x => (x.2, x.1) := by
  induction xs with
  | nil => intro i; rfl
  | cons x xs ih => intro i; simp only [List.zipIdx_cons, List.map_cons, ih]
theorem ok_litS {d m : Nat} {t ty : TypeId} {bytes : Nat} {z : Value} {xs : List Operand} {us : List Value} {ps : Array (Nat × Operand)} (I : ElT t ty 1 z bytes) {kk : Nat} (hk : σ.nx = kk) (ho : o.op = .buildSlice t m ps) (hps : ps = ((xs.zipIdx 0).map fun x => (x.2, x.1)).toArray) (hm : us.length = m) (hm0 : 0 < m) (hm1 : m ≤ 1000) (hx : σ.scs xs us) (hd : o.dst = some d) (hdN : d < N) : OpMk Tryd.prog E N none σ o ((σ.new (.seq ty (us.map fun u => [T.lit u]))).put d (V.one (.hd kk))) :=
  fun a w G K Q h k => by
    subst hk
    obtain ⟨i0, hi, hz0, hz1, hz2⟩ := info_parts I.inf
    obtain ⟨hev, hone⟩ := h.scs hx
    have hc1 : ∀ u ∈ us, u.cells = #[u] := fun u hu => cval_cells (ag := false) (us := [u]) fun _ => ⟨rfl, fun v hv => by rw [List.mem_singleton.1 hv]; exact hone u hu⟩
    have hmap : ps.map (fun (i, x) => (i, a.eval x)) = ((us.zipIdx 0).map fun x => (x.2, x.1)).toArray := by
      rw [hps, List.map_toArray, parts_eval, hev]
    have hrun : (Instr.buildSlice t m (((us.zipIdx 0).map fun x => (x.2, x.1)).toArray)).run Tryd.prog w = .ok (.slice (some ⟨w.heap.size, 0, none⟩) m m) (w.alloc (.cells us.toArray ty)) := by
      refine run_buildSlice w t ty m _ us.toArray i0 z I.und hi hz0 ?_ ?_ ?_
      · rw [hz1]; omega
      · rw [hz1]; omega
      · obtain ⟨r, hr1, hr2, hr3⟩ := Great.fill_dense (s := i0.size) (by omega) us 0 ((Array.range (m * i0.size)).map (z.cells[· % z.cells.size]!)) (fun v hv => by rw [hc1 v hv, hz1]; rfl) (by simp [hm])
        have e : r = us.toArray := by
          apply Array.ext_getElem?
          intro q
          rw [hr3 q]
          rcases Nat.lt_or_ge q us.length with hq | hq
          · rw [if_pos ⟨by omega, by rw [hz1]; omega⟩]
            rw [hz1]
            simp only [Nat.div_one, Nat.sub_zero, Nat.mod_one]
            rw [List.getElem?_eq_getElem hq]
            simp only [Option.bind_some, hc1 us[q] (List.getElem_mem hq)]
            simp [hq]
          · rw [if_neg (by rw [hz1]; omega)]
            have h8 : us.toArray[q]? = none := by simp; omega
            rw [h8, Array.getElem?_eq_none (by simp [hz1]; omega)]
        rw [← e]
        simpa using hr1
    obtain ⟨G', hG', ⟨hvl, hvls, hβs⟩, -, -⟩ := h.renew [] (fun x hx => by cases hx) (w' := w.alloc (.cells us.toArray ty)) (t := .seq ty (us.map fun u => [T.lit u])) (v := .slice (some ⟨w.heap.size, 0, none⟩) m m) (F := fun b => b = w.heap.size) (fun _ => False) (.of_below ((Below.refl _ _).alloc h.low _)) (fun k hk _ => Below.heap_alloc _ _ _ hk) (fun b hb => hb.elim)
      (.seq 1 (by omega) I.sz (fun e he => by obtain ⟨u, -, rfl⟩ := List.mem_map.1 he; rfl) us ⟨by simp, .inr ⟨w.heap.size, m, us.toArray, by rw [List.length_map, hm], Nat.zero_le _, heap_alloc_new _ _, by rw [List.length_map, hm]; exact Nat.le_refl _, by unfold maxLen; omega, by simp [hm], by rw [List.length_map, Nat.mul_one]; exact List.take_of_length_le (by simp)⟩⟩ (fun _ _ => False) (fun k e j t' u hk' hj hu => by
          rw [List.getElem?_map] at hk'
          obtain ⟨u', hu', rfl⟩ := Option.map_eq_some_iff.1 hk'
          have hj0 : j = 0 := by have := get_lt hj; simpa using this
          subst hj0
          cases hj
          rw [Nat.mul_one, Nat.add_zero, hu'] at hu
          rw [← Option.some.inj hu]
          exact .lit (hone u' (get_mem hu'))) hone (fun b hb => (Option.some.inj hb).symm) (fun q b hb => hb.elim) (fun q b hb => hb.elim) fun q q' b hb => hb.elim)
      ⟨_, _, rfl⟩ fun b hb => ⟨by subst hb; exact ⟨.inl h.low, by simp⟩, .inl (h.fresh (by rw [hb]; exact Nat.le_refl _))⟩
    refine wp_value (v := .slice (some ⟨w.heap.size, 0, none⟩) m m) (w' := w.alloc (.cells us.toArray ty)) ?_ (by rw [hd]; exact k _ _ _ (hG'.put hdN (vone.2 ⟨⟨Nat.lt_succ_self _, hvl.symm⟩, .inr rfl⟩)) ⟨by simp, .of_below ((Below.refl _ _).alloc h.low _), hvls, fun b _ => by rw [hβs], fun b hb => .inl (Below.heap_alloc _ _ _ hb), fun i e1 e2 b e3 => .inl (by
      have hi : i = σ.nx := Nat.le_antisymm (Nat.le_of_lt_succ e2) e1
      rw [hi, hvl] at e3
      rw [← Option.some.inj e3]; exact Nat.le_refl _)⟩)
    simp only [execOp, ho, hmap]
    simp [hrun, Result.andThen]
/-- Two strings, one behind the other. -/
theorem cat_run {ρ : Operand → Value} {x y : Operand} {t1 t2 : TypeId} {a b : List UInt8} (ho : o.op = .binOp .add t1 x y t2) (h1 : ρ x = .string ⟨a.toArray⟩) (h2 : ρ y = .string ⟨b.toArray⟩) (hl : a.length + b.length ≤ 9223372036854775807) : (execOp ρ o).run P w = .ok (.value (.string ⟨(a ++ b).toArray⟩)) w := by
  simp only [execOp, ho, h1, h2]
  go_simp
  rw [if_neg (by omega)]
  rw [ByteArray.mk_append_mk]
/-! ### Contracts of plain values -/
theorem inn_lit {ok : Nat → Prop} {u v : Value} (h : Inn ok w (.lit u) v) : v = u := by
  cases h
  rfl
theorem VC.plainAt {f : FuncId} {ins : List (Bool × List Value)} {ag : Bool} {rs : List Value} (h1 : ∀ u ∈ rs, u.oneCell' = true) {w : World} (h : Calls P f (ins.map fun p => cval p.1 p.2).toArray w fun e w' => e = .returned (cval ag rs) ∧ Below w.heap.size w w') (vs : List Value) (hv : ArgsIn (Env.of w) w (ins.map fun p => (p.1, p.2.map T.lit)) vs) : Calls P f vs.toArray w (Gives (Env.of w) false [(ag, rs.map T.lit)]) := by
  have e : vs = ins.map fun p => cval p.1 p.2 := by
    obtain ⟨hl, ha⟩ := hv
    rw [List.length_map] at hl
    apply List.ext_getElem?
    intro c
    rcases Nat.lt_or_ge c ins.length with hc | hc
    · have hcv : vs[c]? = some vs[c] := List.getElem?_eq_getElem (by omega)
      obtain ⟨us, h2, h3, h4⟩ := ha c ins[c].1 (ins[c].2.map T.lit) vs[c] (by rw [List.getElem?_map, List.getElem?_eq_getElem hc]; rfl) hcv
      have h5 : us = ins[c].2 := by
        rw [List.length_map] at h3
        apply List.ext_getElem?
        intro j
        rcases Nat.lt_or_ge j us.length with hj | hj
        · have := h4 j (T.lit ins[c].2[j]) us[j] (by rw [List.getElem?_map, List.getElem?_eq_getElem (by omega)]; rfl) (List.getElem?_eq_getElem hj)
          rw [List.getElem?_eq_getElem hj, List.getElem?_eq_getElem (by omega), inn_lit this]
        · rw [List.getElem?_eq_none hj, List.getElem?_eq_none (by omega)]
      rw [hcv, List.getElem?_map, List.getElem?_eq_getElem hc, h2, h5]; rfl
    · rw [List.getElem?_eq_none (by omega), List.getElem?_eq_none (by simpa using hc)]
  rw [e]
  refine h.mono fun e w' ⟨he, hb⟩ => ?_
  refine ⟨[rs], fun _ _ _ => False, rfl, by rw [he]; rfl, fun c ag' ts us hc hu => ?_, fun c j c' j' b hb => hb.elim, fun c j b hb => hb.elim, .of_below hb⟩
  cases c with
  | zero =>
    cases hc; cases hu
    refine ⟨by simp, fun j t u hj hu => ?_⟩
    rw [List.getElem?_map, hu] at hj
    cases hj
    exact .lit (h1 u (get_mem hu))
  | succ c => simp at hc
/-- A call of plain values that answers a plain value and changes nothing. -/
theorem VC.plain {f : FuncId} {ins : List (Bool × List Value)} {ag : Bool} {rs : List Value} (h1 : ∀ u ∈ rs, u.oneCell' = true) (h : ∀ w, Calls P f (ins.map fun p => cval p.1 p.2).toArray w fun e w' => e = .returned (cval ag rs) ∧ Below w.heap.size w w') : VC P f (ins.map fun p => (p.1, p.2.map T.lit)) false [(ag, rs.map T.lit)] := fun w => VC.plainAt h1 (h w)
end Go.Proofs.YtlnjgoommpeioaaDoor.V
/- Small lemmas about rows of bytes that a call made itself: what is appended, what string(b) reads; no function of the program is walked here. -/
namespace Go.Proofs.YtlnjgoommpeioaaDoor
open Go.RowKit

/-- A row of bytes as cells. -/
def b8 (l : List UInt8) : List Value := l.map fun b => Value.int .u8 (b.toNat : Int)
theorem b8_nil : b8 [] = [] := rfl
theorem b8_length (l : List UInt8) : (b8 l).length = l.length := by simp [b8]
theorem b8_snoc (l : List UInt8) (b : UInt8) (n : Int) (h : n = (b.toNat : Int)) : b8 l ++ [Value.int .u8 n] = b8 (l ++ [b]) := by subst h; simp [b8]
theorem b8_get (l : List UInt8) (j : Nat) (hj : j < l.length) : (b8 l)[j]? = some (Value.int .u8 (l[j].toNat : Int)) := by simp [b8, hj]
theorem b8_one (l : List UInt8) : ∀ u ∈ b8 l, u.oneCell' = true := by
  intro u hu
  simp only [b8, List.mem_map] at hu
  obtain ⟨b, _, rfl⟩ := hu
  rfl
theorem b8_set (l : List UInt8) (j : Nat) (b : UInt8) (n : Int) (h : n = (b.toNat : Int)) : (b8 l).set j (Value.int .u8 n) = b8 (l.set j b) := by subst h; simp [b8, List.map_set]
theorem b8_made (n : Nat) : (madeCells (Value.int .u8 0).cells (n * 1)).toList = b8 (List.replicate n 0) := by
  rw [Nat.mul_one, show (Value.int .u8 0).cells = #[Value.int .u8 0] from rfl, toList_madeCells_one]; simp [b8]
theorem byte_info : (Tryd.prog.info? 5).map (fun i => (i.zero, i.size, i.bytes)) = some (some (.int .u8 0), 1, 1) := by kernel_rfl
/-- 'string(b)' of a row of the call's own. -/
theorem run_own_string {w : World} {base : Nat} {v : Value} {n : Nat} {l : List UInt8} (h : w.ownsRow base 5 1 v n (b8 l)) :
    (convert 22 9 v).run Tryd.prog w = .ok (.string ⟨l.toArray⟩) w := by
  have hn : l.length = n := by have := h.1; rw [b8_length] at this; omega
  rcases h.2 with ⟨rfl, h0⟩ | ⟨g, cap, cur, rfl, _, _, _, _, _, _⟩
  · subst h0
    have hl : l = [] := List.eq_nil_of_length_eq_zero hn
    subst hl
    rw [run_convert_bytes_string w _ _ _ none 0 0 Tryd.underlying22 Tryd.underlying5 Tryd.underlying9]
    rfl
  · have := hn
    subst this
    exact run_convert_bytes_back w _ _ _ ⟨g, 0, none⟩ cap l Tryd.underlying22 Tryd.underlying5 Tryd.underlying9 fun j hj => h.cells (g := g) rfl j _ (b8_get l j hj)
theorem cell_new1 (w : World) (u : Value) (t : TypeId) : ∀ (j : Nat) (x : Value), [u][j]? = some x → (w.alloc (.cells #[u] t)).cell? ((⟨w.heap.size, 0, none⟩ : Addr).add j) = some x := by
  intro j x hj
  match j, hj with
  | 0, hj => simp at hj; subst hj; simp [Addr.add]
/-- 'out = append(out, b)': one byte more on a row of the call's own, the byte in a block of its own. -/
theorem wpList_push {ops : Array Oper} {rest : List Oper} {o : Oper} {a : Act} {Q : Exit → Act → World → Prop} {W wr : World} {out : List UInt8} {n : Int} {v : Value} (s x : Operand) (b : UInt8)
    (hgd : o.guard = none) (ho : o.op = .call { callee := .builtin .append, args := #[s, x], argTypes := #[22, 22] })
    (hs : a.eval s = v) (hx : a.eval x = .slice (some ⟨wr.heap.size, 0, none⟩) 1 1) (hown : wr.ownsRow W.heap.size 5 1 v out.length (b8 out)) (hb : Below W.heap.size W wr)
    (hlen : out.length + 1 ≤ 140737488355328) (hn : n = (b.toNat : Int))
    (h : ∀ v' w', w'.ownsRow W.heap.size 5 1 v' (out ++ [b]).length (b8 (out ++ [b])) → Below W.heap.size W w' → wpList Tryd.prog ops Q rest (a.put o.dst v') w') :
    wpList Tryd.prog ops Q (o :: rest) a (wr.alloc (.cells #[.int .u8 n] 5)) := by
  obtain ⟨i0, hi, hz0, hz1, hz2⟩ := info_parts byte_info
  have hsz := hb.size
  refine wpList_append_own _ hgd s x 22 ho W.heap.size 5 i0 (.int .u8 0) 1 1 Tryd.underlying22 hi hz0 hz1 hz2 rfl (by decide) v out.length (b8 out) hs (hown.alloc _)
    ⟨wr.heap.size, 0, none⟩ 1 1 [.int .u8 n] hx rfl (cell_new1 _ _ _) (by intro u hu; simp at hu; subst hu; rfl) (by unfold maxLen; omega) (by omega) (by simp; omega) ?_
  intro v' w' hown' hg _
  rw [b8_snoc out b n hn] at hown'
  refine h v' w' (by simpa using hown') ((hb.alloc hsz _).grown hg (by simp; omega) fun k hk => (hown.lt k hk).1)
theorem b8_snoc2 (l : List UInt8) (b c : UInt8) (m n : Int) (h : m = (b.toNat : Int)) (h' : n = (c.toNat : Int)) : b8 l ++ [Value.int .u8 m, Value.int .u8 n] = b8 (l ++ [b, c]) := by subst h; subst h'; simp [b8]
theorem cell_new2 (w : World) (u v : Value) (t : TypeId) : ∀ (j : Nat) (x : Value), [u, v][j]? = some x → (w.alloc (.cells #[u, v] t)).cell? ((⟨w.heap.size, 0, none⟩ : Addr).add j) = some x := by
  intro j x hj
  match j, hj with
  | 0, hj => simp at hj; subst hj; simp [Addr.add]
  | 1, hj => simp at hj; subst hj; simp [Addr.add]
/-- 'out = append(out, b, c)'. -/
theorem wpList_push2 {ops : Array Oper} {rest : List Oper} {o : Oper} {a : Act} {Q : Exit → Act → World → Prop} {W wr : World} {out : List UInt8} {m n : Int} {v : Value} (s x : Operand) (b c : UInt8)
    (hgd : o.guard = none) (ho : o.op = .call { callee := .builtin .append, args := #[s, x], argTypes := #[22, 22] })
    (hs : a.eval s = v) (hx : a.eval x = .slice (some ⟨wr.heap.size, 0, none⟩) 2 2) (hown : wr.ownsRow W.heap.size 5 1 v out.length (b8 out)) (hb : Below W.heap.size W wr)
    (hlen : out.length + 2 ≤ 140737488355328) (hm : m = (b.toNat : Int)) (hn : n = (c.toNat : Int))
    (h : ∀ v' w', w'.ownsRow W.heap.size 5 1 v' (out ++ [b, c]).length (b8 (out ++ [b, c])) → Below W.heap.size W w' → wpList Tryd.prog ops Q rest (a.put o.dst v') w') :
    wpList Tryd.prog ops Q (o :: rest) a (wr.alloc (.cells #[.int .u8 m, .int .u8 n] 5)) := by
  obtain ⟨i0, hi, hz0, hz1, hz2⟩ := info_parts byte_info
  have hsz := hb.size
  refine wpList_append_own _ hgd s x 22 ho W.heap.size 5 i0 (.int .u8 0) 1 1 Tryd.underlying22 hi hz0 hz1 hz2 rfl (by decide) v out.length (b8 out) hs (hown.alloc _)
    ⟨wr.heap.size, 0, none⟩ 2 2 [.int .u8 m, .int .u8 n] hx rfl (cell_new2 _ _ _ _) (by intro u hu; simp at hu; rcases hu with rfl | rfl <;> rfl) (by unfold maxLen; omega) (by omega) (by simp; omega) ?_
  intro v' w' hown' hg _
  rw [b8_snoc2 out b c m n hm hn] at hown'
  refine h v' w' (by simpa using hown') ((hb.alloc hsz _).grown hg (by simp; omega) fun k hk => (hown.lt k hk).1)
/-- 'string([]byte{b})'. -/
theorem one_string (wr : World) (x : Int) (b : UInt8) (hx : x = (b.toNat : Int)) :
    (convert 22 9 (.slice (some ⟨wr.heap.size, 0, none⟩) 1 1)).run Tryd.prog (wr.alloc (.cells #[.int .u8 x] 5)) = .ok (.string ⟨[b].toArray⟩) (wr.alloc (.cells #[.int .u8 x] 5)) := by
  subst hx
  exact run_convert_bytes_back _ _ _ _ ⟨wr.heap.size, 0, none⟩ 1 [b] Tryd.underlying22 Tryd.underlying5 Tryd.underlying9 fun j hj => cell_new1 wr _ _ j _ (by simp at hj; subst hj; rfl)
theorem ext_take (s : ByteArray) (k : Nat) : (s.extract 0 k).toList = s.data.toList.take k := by
  rw [ByteArray.toList_eq]
  simp
end Go.Proofs.YtlnjgoommpeioaaDoor
/- What the rows' listed variables give the walks: the table of powers of ten; and how it is kept. -/
namespace Go.Proofs.YtlnjgoommpeioaaDoor
open Go Go.RowKit Go.Shelf

theorem gTab : Tryd.prog.globalNamed "internal/strconv.uint64pow10" = some 1 := by kernel_rfl
theorem tTab : (Tryd.prog.globals[1]?).map (·.type) = some 202 := by kernel_rfl
theorem tabDatum : (Rows.laid_internal_strconv_uint64pow10 : DataW Unit) = Lib.tabData .u64 Lib.pow10Tab := by kernel_rfl

/-- The table of powers of ten lies as the library lays it. -/
def Tab (w : World) : Prop := Lib.TabIs Tryd.prog w "internal/strconv.uint64pow10" .u64 Lib.pow10Tab
theorem Tab.stay {w w' : World} (h : Tab w) (hb : Below w.heap.size w w') : Tab w' := Joins.tab_stays gTab h hb (Nat.le_refl _)
theorem tab_of {r : List (String × DataW Unit)} {w : World} (h : laidMet Tryd.prog (("internal/strconv.uint64pow10", Rows.laid_internal_strconv_uint64pow10) :: r) w) : Tab w := by
  rw [tabDatum] at h
  exact Lib.tabIs_of_head gTab tTab Tryd.underlying202 Tryd.underlying177 (by kernel_rfl) (by kernel_rfl) h
/-- FormatInt of the program. -/
theorem below_grow (w : World) (k : Nat) (os : Array Obj) : Below w.heap.size w (Sort.grow (w.drewN k) os) :=
  ⟨rfl, rfl, rfl, by simp [Sort.grow], fun i hi => Sort.heap_grow_old (w.drewN k) os hi⟩
theorem itoa_any (n : Int) (w : World) (h0 : -9223372036854775808 ≤ n) (h1 : n ≤ 9223372036854775807) (ht : Tab w) :
    Calls Tryd.prog 150 #[.int .i64 n] w fun e w' => e = .returned (.string ⟨(Lib.itoa n).toArray⟩) ∧ Below w.heap.size w w' := by
  refine (Tryd.strconv_Itoa n h0 h1 w ht).mono fun e w' ⟨he, hw⟩ => ⟨he, ?_⟩
  obtain ⟨k, os, rfl⟩ := hw
  exact below_grow w k os
theorem ifmt (n : Int) (w : World) (h0 : -9223372036854775808 ≤ n) (h1 : n ≤ 9223372036854775807) (ht : Tab w) :
    Calls Tryd.prog 141 #[.int .i64 n] w fun e w' => e = .returned (.string ⟨(Lib.itoa n).toArray⟩) ∧ Below w.heap.size w w' := by
  have HT := Lib.hid ht
  clear ht
  go_enter Tryd.func141, Tryd.ntmps141
  go_wp2_with fail
  refine (itoa_any n _ h0 h1 HT.out).mono ?_
  rintro e w1 ⟨rfl, b1⟩
  go_wp2_with fail
  go_ret
  exact ⟨rfl, b1⟩
end Go.Proofs.YtlnjgoommpeioaaDoor
/- States told by trees: contracts under the table that the library's variables hold. -/
namespace Go.Proofs.YtlnjgoommpeioaaDoor.V
open Go Go.RowKit
set_option linter.unusedVariables false
variable {P : Program} {E : Env} {N : Nat} {σ : VS} {o : Oper}
/-- The call answers so, wherever the table lies. -/
def VCD (P : Program) (f : FuncId) (ins : List (Bool × List T)) (tup : Bool) (rs : List (Bool × List T)) : Prop := ∀ (w : World), Tab w → ∀ (vs : List Value), ArgsIn (Env.of w) w ins vs → Calls P f vs.toArray w (Gives (Env.of w) tup rs)
theorem VC.door {f : FuncId} {ins rs : List (Bool × List T)} {tup : Bool} (h : VC P f ins tup rs) : VCD P f ins tup rs := fun w _ => h w
/-- The table lay at the call's beginning, and nothing was lent. -/
def Env.door (E : Env) : Prop := Tab E.w0 ∧ ∀ b, ¬ E.ln b
theorem Env.door.at {w : World} (h : E.door) (hs : Same E E.w0 w) : Tab w := h.1.stay ⟨hs.os, hs.tape, hs.output, hs.size, fun b hb => hs.block b ⟨hb, h.2 b⟩⟩
theorem VCD.enter {f : FuncId} {fn : Func} {c : Code} {n : Nat} {ins rs : List (Bool × List T)} {tup : Bool} (hf : P.funcs[f]? = some fn) (hb : fn.body = some c) (hn : fn.ntmps = n) (hl : ins.length ≤ n)
    (h : ∀ E, E.nl = 0 → E.door → SV E n (VS.init (ins.map fun p => V.flat p.1 (p.2.map argLeaf))) (c.wp P (bodyPost P fn (Gives E tup rs)))) : VCD P f ins tup rs := fun w hT vs hv => by
  refine calls_of_wp hf hb ?_
  obtain ⟨G, hG⟩ := init_rel (E := Env.of w) rfl (n := n) hv (by rw [hv.1]; exact hl)
  have := h (Env.of w) rfl ⟨hT, fun b hb => hb.elim⟩ _ _ G hG
  rw [hn]
  have e : (Env.of w).w0 = w := rfl
  rw [e] at this
  simpa using this
theorem ok_callD {d : Nat} {f : FuncId} {xs : List Operand} {ats : Array TypeId} {qs : List (Bool × List T)} {tup : Bool} {rs : List (Bool × List T)} {ls : List (Bool × List Leaf)} (hD : E.door) (hk : ansLs σ.nx rs = ls) (ho : o.op = .call { callee := .value (.func f), args := xs.toArray, argTypes := ats }) (hb : ∃ fn c, P.funcs[f]? = some fn ∧ fn.body = some c ∧ fn.name ≠ "runtime.NumGoroutine")
    (hc : VCD P f qs tup rs) (hx : σ.argss xs qs) (hd : o.dst = some d) (hdN : d < N) : OpMk P E N none σ o ((ansSs σ rs).put d ⟨tup, ls⟩) := ok_callW hk ho hb (fun w hs => hc w (hD.at hs)) hx hd hdN
/-- A call of plain values that answers a plain value and changes nothing. -/
theorem VCD.plain {f : FuncId} {ins : List (Bool × List Value)} {ag : Bool} {rs : List Value} (h1 : ∀ u ∈ rs, u.oneCell' = true) (h : ∀ w, Tab w → Calls P f (ins.map fun p => cval p.1 p.2).toArray w fun e w' => e = .returned (cval ag rs) ∧ Below w.heap.size w w') : VCD P f (ins.map fun p => (p.1, p.2.map T.lit)) false [(ag, rs.map T.lit)] := fun w hT =>
  VC.plainAt h1 (h w hT)
/-- A law's contract, as its last step takes it. -/
theorem VCD.law {f : FuncId} {ins : List (Bool × List T)} (h : VCD P f ins false [(false, [.lit (.bool true)])]) {w : World} (hT : Tab w) {vs : List Value} (hv : ArgsIn (Env.of w) w ins vs) : Calls P f vs.toArray w fun e w' => e = .returned (.bool true) ∧ Below w.heap.size w w' :=
  (h w hT vs hv).mono fun e w' hg => by
    obtain ⟨he, hs⟩ := Gives.lit hg
    exact ⟨he, ⟨hs.os, hs.tape, hs.output, hs.size, fun b hb => hs.block b ⟨hb, fun h => h.elim⟩⟩⟩
end Go.Proofs.YtlnjgoommpeioaaDoor.V
/- What the programs' types are to the model: sizes, zeros, fields, elements; no function of program or reference. -/
namespace Go.Proofs.YtlnjgoommpeioaaDoor.V
open Go Go.RowKit
set_option linter.unusedVariables false
set_option maxRecDepth 10000
theorem sz_bool : Sz 4 1 := Sz.of (by kernel_rfl)
theorem agg_bool (w : World) : (isAgg 4).run Tryd.prog w = .ok false w := by go_simp <;> rfl
theorem zero_bool (w : World) : (zeroValue 4).run Tryd.prog w = .ok (.bool false) w := by go_simp <;> rfl
theorem sz_impl_Disk : Sz 26 2 := Sz.of (by kernel_rfl)
theorem agg_impl_Disk (w : World) : (isAgg 26).run Tryd.prog w = .ok true w := by go_simp <;> rfl
theorem zero_impl_Disk (w : World) : (zeroValue 26).run Tryd.prog w = .ok (.agg #[.slice none 0 0, .int .i64 0]) w := by go_simp <;> rfl
theorem fld_impl_Disk_0 (ad : Addr) (w : World) (h : ad.spot = none) : (Instr.fieldAt 26 (.pointer (some ad)) 0).run Tryd.prog w = .ok (.pointer (some ⟨ad.block, ad.off + 0, none⟩)) w := by
  obtain ⟨b, o, s⟩ := ad
  subst h
  go_simp
theorem fld_impl_Disk_1 (ad : Addr) (w : World) (h : ad.spot = none) : (Instr.fieldAt 26 (.pointer (some ad)) 1).run Tryd.prog w = .ok (.pointer (some ⟨ad.block, ad.off + 1, none⟩)) w := by
  obtain ⟨b, o, s⟩ := ad
  subst h
  go_simp
theorem bld_impl_Disk (vs : Array (Nat × Value)) (r : Array Value) (w : World) (h : Instr.fill (fun i => ([(0, 1), (1, 1)] : List (Nat × Nat))[i]?) (Value.cells (.agg #[.slice none 0 0, .int .i64 0])) vs.toList = some r) : (Instr.build 26 vs).run Tryd.prog w = .ok (.agg r) w := by
  have h2 := h
  simp only [Value.cells] at h2
  unfold Instr.build
  simp only [Sem.run_bind, zero_impl_Disk, Result.andThen_ok]
  go_simp
theorem sz_impl_File : Sz 80 4 := Sz.of (by kernel_rfl)
theorem agg_impl_File (w : World) : (isAgg 80).run Tryd.prog w = .ok true w := by go_simp <;> rfl
theorem zero_impl_File (w : World) : (zeroValue 80).run Tryd.prog w = .ok (.agg #[.int .i64 0, .slice none 0 0, .int .i64 0, .bool false]) w := by go_simp <;> rfl
theorem fld_impl_File_0 (ad : Addr) (w : World) (h : ad.spot = none) : (Instr.fieldAt 80 (.pointer (some ad)) 0).run Tryd.prog w = .ok (.pointer (some ⟨ad.block, ad.off + 0, none⟩)) w := by
  obtain ⟨b, o, s⟩ := ad
  subst h
  go_simp
theorem fld_impl_File_1 (ad : Addr) (w : World) (h : ad.spot = none) : (Instr.fieldAt 80 (.pointer (some ad)) 1).run Tryd.prog w = .ok (.pointer (some ⟨ad.block, ad.off + 1, none⟩)) w := by
  obtain ⟨b, o, s⟩ := ad
  subst h
  go_simp
theorem fld_impl_File_2 (ad : Addr) (w : World) (h : ad.spot = none) : (Instr.fieldAt 80 (.pointer (some ad)) 2).run Tryd.prog w = .ok (.pointer (some ⟨ad.block, ad.off + 2, none⟩)) w := by
  obtain ⟨b, o, s⟩ := ad
  subst h
  go_simp
theorem fld_impl_File_3 (ad : Addr) (w : World) (h : ad.spot = none) : (Instr.fieldAt 80 (.pointer (some ad)) 3).run Tryd.prog w = .ok (.pointer (some ⟨ad.block, ad.off + 3, none⟩)) w := by
  obtain ⟨b, o, s⟩ := ad
  subst h
  go_simp
theorem bld_impl_File (vs : Array (Nat × Value)) (r : Array Value) (w : World) (h : Instr.fill (fun i => ([(0, 1), (1, 1), (2, 1), (3, 1)] : List (Nat × Nat))[i]?) (Value.cells (.agg #[.int .i64 0, .slice none 0 0, .int .i64 0, .bool false])) vs.toList = some r) : (Instr.build 80 vs).run Tryd.prog w = .ok (.agg r) w := by
  have h2 := h
  simp only [Value.cells] at h2
  unfold Instr.build
  simp only [Sem.run_bind, zero_impl_File, Result.andThen_ok]
  go_simp
theorem sz_impl_Page : Sz 41 1 := Sz.of (by kernel_rfl)
theorem agg_impl_Page (w : World) : (isAgg 41).run Tryd.prog w = .ok true w := by go_simp <;> rfl
theorem zero_impl_Page (w : World) : (zeroValue 41).run Tryd.prog w = .ok (.agg #[.slice none 0 0]) w := by go_simp <;> rfl
theorem fld_impl_Page_0 (ad : Addr) (w : World) (h : ad.spot = none) : (Instr.fieldAt 41 (.pointer (some ad)) 0).run Tryd.prog w = .ok (.pointer (some ⟨ad.block, ad.off + 0, none⟩)) w := by
  obtain ⟨b, o, s⟩ := ad
  subst h
  go_simp
theorem bld_impl_Page (vs : Array (Nat × Value)) (r : Array Value) (w : World) (h : Instr.fill (fun i => ([(0, 1)] : List (Nat × Nat))[i]?) (Value.cells (.agg #[.slice none 0 0])) vs.toList = some r) : (Instr.build 41 vs).run Tryd.prog w = .ok (.agg r) w := by
  have h2 := h
  simp only [Value.cells] at h2
  unfold Instr.build
  simp only [Sem.run_bind, zero_impl_Page, Result.andThen_ok]
  go_simp
theorem sz_impl_Pair : Sz 57 7 := Sz.of (by kernel_rfl)
theorem agg_impl_Pair (w : World) : (isAgg 57).run Tryd.prog w = .ok true w := by go_simp <;> rfl
theorem zero_impl_Pair (w : World) : (zeroValue 57).run Tryd.prog w = .ok (.agg #[.int .i64 0, .int .i64 0, .int .i64 0, .int .i64 0, .int .i64 0, .int .i64 0, .bool false]) w := by go_simp <;> rfl
theorem fld_impl_Pair_0 (ad : Addr) (w : World) (h : ad.spot = none) : (Instr.fieldAt 57 (.pointer (some ad)) 0).run Tryd.prog w = .ok (.pointer (some ⟨ad.block, ad.off + 0, none⟩)) w := by
  obtain ⟨b, o, s⟩ := ad
  subst h
  go_simp
theorem fld_impl_Pair_1 (ad : Addr) (w : World) (h : ad.spot = none) : (Instr.fieldAt 57 (.pointer (some ad)) 1).run Tryd.prog w = .ok (.pointer (some ⟨ad.block, ad.off + 3, none⟩)) w := by
  obtain ⟨b, o, s⟩ := ad
  subst h
  go_simp
theorem fld_impl_Pair_2 (ad : Addr) (w : World) (h : ad.spot = none) : (Instr.fieldAt 57 (.pointer (some ad)) 2).run Tryd.prog w = .ok (.pointer (some ⟨ad.block, ad.off + 6, none⟩)) w := by
  obtain ⟨b, o, s⟩ := ad
  subst h
  go_simp
theorem bld_impl_Pair (vs : Array (Nat × Value)) (r : Array Value) (w : World) (h : Instr.fill (fun i => ([(0, 3), (3, 3), (6, 1)] : List (Nat × Nat))[i]?) (Value.cells (.agg #[.int .i64 0, .int .i64 0, .int .i64 0, .int .i64 0, .int .i64 0, .int .i64 0, .bool false])) vs.toList = some r) : (Instr.build 57 vs).run Tryd.prog w = .ok (.agg r) w := by
  have h2 := h
  simp only [Value.cells] at h2
  unfold Instr.build
  simp only [Sem.run_bind, zero_impl_Pair, Result.andThen_ok]
  go_simp
theorem sz_impl_Row : Sz 55 3 := Sz.of (by kernel_rfl)
theorem agg_impl_Row (w : World) : (isAgg 55).run Tryd.prog w = .ok true w := by go_simp <;> rfl
theorem zero_impl_Row (w : World) : (zeroValue 55).run Tryd.prog w = .ok (.agg #[.int .i64 0, .int .i64 0, .int .i64 0]) w := by go_simp <;> rfl
theorem fld_impl_Row_0 (ad : Addr) (w : World) (h : ad.spot = none) : (Instr.fieldAt 55 (.pointer (some ad)) 0).run Tryd.prog w = .ok (.pointer (some ⟨ad.block, ad.off + 0, none⟩)) w := by
  obtain ⟨b, o, s⟩ := ad
  subst h
  go_simp
theorem fld_impl_Row_1 (ad : Addr) (w : World) (h : ad.spot = none) : (Instr.fieldAt 55 (.pointer (some ad)) 1).run Tryd.prog w = .ok (.pointer (some ⟨ad.block, ad.off + 1, none⟩)) w := by
  obtain ⟨b, o, s⟩ := ad
  subst h
  go_simp
theorem fld_impl_Row_2 (ad : Addr) (w : World) (h : ad.spot = none) : (Instr.fieldAt 55 (.pointer (some ad)) 2).run Tryd.prog w = .ok (.pointer (some ⟨ad.block, ad.off + 2, none⟩)) w := by
  obtain ⟨b, o, s⟩ := ad
  subst h
  go_simp
theorem bld_impl_Row (vs : Array (Nat × Value)) (r : Array Value) (w : World) (h : Instr.fill (fun i => ([(0, 1), (1, 1), (2, 1)] : List (Nat × Nat))[i]?) (Value.cells (.agg #[.int .i64 0, .int .i64 0, .int .i64 0])) vs.toList = some r) : (Instr.build 55 vs).run Tryd.prog w = .ok (.agg r) w := by
  have h2 := h
  simp only [Value.cells] at h2
  unfold Instr.build
  simp only [Sem.run_bind, zero_impl_Row, Result.andThen_ok]
  go_simp
theorem sz_int : Sz 3 1 := Sz.of (by kernel_rfl)
theorem agg_int (w : World) : (isAgg 3).run Tryd.prog w = .ok false w := by go_simp <;> rfl
theorem zero_int (w : World) : (zeroValue 3).run Tryd.prog w = .ok (.int .i64 0) w := by go_simp <;> rfl
theorem sz_int64 : Sz 2 1 := Sz.of (by kernel_rfl)
theorem agg_int64 (w : World) : (isAgg 2).run Tryd.prog w = .ok false w := by go_simp <;> rfl
theorem zero_int64 (w : World) : (zeroValue 2).run Tryd.prog w = .ok (.int .i64 0) w := by go_simp <;> rfl
theorem sz_laws_Disk : Sz 65 2 := Sz.of (by kernel_rfl)
theorem agg_laws_Disk (w : World) : (isAgg 65).run Tryd.prog w = .ok true w := by go_simp <;> rfl
theorem zero_laws_Disk (w : World) : (zeroValue 65).run Tryd.prog w = .ok (.agg #[.slice none 0 0, .int .i64 0]) w := by go_simp <;> rfl
theorem fld_laws_Disk_0 (ad : Addr) (w : World) (h : ad.spot = none) : (Instr.fieldAt 65 (.pointer (some ad)) 0).run Tryd.prog w = .ok (.pointer (some ⟨ad.block, ad.off + 0, none⟩)) w := by
  obtain ⟨b, o, s⟩ := ad
  subst h
  go_simp
theorem fld_laws_Disk_1 (ad : Addr) (w : World) (h : ad.spot = none) : (Instr.fieldAt 65 (.pointer (some ad)) 1).run Tryd.prog w = .ok (.pointer (some ⟨ad.block, ad.off + 1, none⟩)) w := by
  obtain ⟨b, o, s⟩ := ad
  subst h
  go_simp
theorem bld_laws_Disk (vs : Array (Nat × Value)) (r : Array Value) (w : World) (h : Instr.fill (fun i => ([(0, 1), (1, 1)] : List (Nat × Nat))[i]?) (Value.cells (.agg #[.slice none 0 0, .int .i64 0])) vs.toList = some r) : (Instr.build 65 vs).run Tryd.prog w = .ok (.agg r) w := by
  have h2 := h
  simp only [Value.cells] at h2
  unfold Instr.build
  simp only [Sem.run_bind, zero_laws_Disk, Result.andThen_ok]
  go_simp
theorem sz_laws_File : Sz 149 4 := Sz.of (by kernel_rfl)
theorem agg_laws_File (w : World) : (isAgg 149).run Tryd.prog w = .ok true w := by go_simp <;> rfl
theorem zero_laws_File (w : World) : (zeroValue 149).run Tryd.prog w = .ok (.agg #[.int .i64 0, .slice none 0 0, .int .i64 0, .bool false]) w := by go_simp <;> rfl
theorem fld_laws_File_0 (ad : Addr) (w : World) (h : ad.spot = none) : (Instr.fieldAt 149 (.pointer (some ad)) 0).run Tryd.prog w = .ok (.pointer (some ⟨ad.block, ad.off + 0, none⟩)) w := by
  obtain ⟨b, o, s⟩ := ad
  subst h
  go_simp
theorem fld_laws_File_1 (ad : Addr) (w : World) (h : ad.spot = none) : (Instr.fieldAt 149 (.pointer (some ad)) 1).run Tryd.prog w = .ok (.pointer (some ⟨ad.block, ad.off + 1, none⟩)) w := by
  obtain ⟨b, o, s⟩ := ad
  subst h
  go_simp
theorem fld_laws_File_2 (ad : Addr) (w : World) (h : ad.spot = none) : (Instr.fieldAt 149 (.pointer (some ad)) 2).run Tryd.prog w = .ok (.pointer (some ⟨ad.block, ad.off + 2, none⟩)) w := by
  obtain ⟨b, o, s⟩ := ad
  subst h
  go_simp
theorem fld_laws_File_3 (ad : Addr) (w : World) (h : ad.spot = none) : (Instr.fieldAt 149 (.pointer (some ad)) 3).run Tryd.prog w = .ok (.pointer (some ⟨ad.block, ad.off + 3, none⟩)) w := by
  obtain ⟨b, o, s⟩ := ad
  subst h
  go_simp
theorem bld_laws_File (vs : Array (Nat × Value)) (r : Array Value) (w : World) (h : Instr.fill (fun i => ([(0, 1), (1, 1), (2, 1), (3, 1)] : List (Nat × Nat))[i]?) (Value.cells (.agg #[.int .i64 0, .slice none 0 0, .int .i64 0, .bool false])) vs.toList = some r) : (Instr.build 149 vs).run Tryd.prog w = .ok (.agg r) w := by
  have h2 := h
  simp only [Value.cells] at h2
  unfold Instr.build
  simp only [Sem.run_bind, zero_laws_File, Result.andThen_ok]
  go_simp
theorem sz_laws_Page : Sz 181 1 := Sz.of (by kernel_rfl)
theorem agg_laws_Page (w : World) : (isAgg 181).run Tryd.prog w = .ok true w := by go_simp <;> rfl
theorem zero_laws_Page (w : World) : (zeroValue 181).run Tryd.prog w = .ok (.agg #[.slice none 0 0]) w := by go_simp <;> rfl
theorem fld_laws_Page_0 (ad : Addr) (w : World) (h : ad.spot = none) : (Instr.fieldAt 181 (.pointer (some ad)) 0).run Tryd.prog w = .ok (.pointer (some ⟨ad.block, ad.off + 0, none⟩)) w := by
  obtain ⟨b, o, s⟩ := ad
  subst h
  go_simp
theorem bld_laws_Page (vs : Array (Nat × Value)) (r : Array Value) (w : World) (h : Instr.fill (fun i => ([(0, 1)] : List (Nat × Nat))[i]?) (Value.cells (.agg #[.slice none 0 0])) vs.toList = some r) : (Instr.build 181 vs).run Tryd.prog w = .ok (.agg r) w := by
  have h2 := h
  simp only [Value.cells] at h2
  unfold Instr.build
  simp only [Sem.run_bind, zero_laws_Page, Result.andThen_ok]
  go_simp
theorem sz_laws_Pair : Sz 122 7 := Sz.of (by kernel_rfl)
theorem agg_laws_Pair (w : World) : (isAgg 122).run Tryd.prog w = .ok true w := by go_simp <;> rfl
theorem zero_laws_Pair (w : World) : (zeroValue 122).run Tryd.prog w = .ok (.agg #[.int .i64 0, .int .i64 0, .int .i64 0, .int .i64 0, .int .i64 0, .int .i64 0, .bool false]) w := by go_simp <;> rfl
theorem fld_laws_Pair_0 (ad : Addr) (w : World) (h : ad.spot = none) : (Instr.fieldAt 122 (.pointer (some ad)) 0).run Tryd.prog w = .ok (.pointer (some ⟨ad.block, ad.off + 0, none⟩)) w := by
  obtain ⟨b, o, s⟩ := ad
  subst h
  go_simp
theorem fld_laws_Pair_1 (ad : Addr) (w : World) (h : ad.spot = none) : (Instr.fieldAt 122 (.pointer (some ad)) 1).run Tryd.prog w = .ok (.pointer (some ⟨ad.block, ad.off + 3, none⟩)) w := by
  obtain ⟨b, o, s⟩ := ad
  subst h
  go_simp
theorem fld_laws_Pair_2 (ad : Addr) (w : World) (h : ad.spot = none) : (Instr.fieldAt 122 (.pointer (some ad)) 2).run Tryd.prog w = .ok (.pointer (some ⟨ad.block, ad.off + 6, none⟩)) w := by
  obtain ⟨b, o, s⟩ := ad
  subst h
  go_simp
theorem bld_laws_Pair (vs : Array (Nat × Value)) (r : Array Value) (w : World) (h : Instr.fill (fun i => ([(0, 3), (3, 3), (6, 1)] : List (Nat × Nat))[i]?) (Value.cells (.agg #[.int .i64 0, .int .i64 0, .int .i64 0, .int .i64 0, .int .i64 0, .int .i64 0, .bool false])) vs.toList = some r) : (Instr.build 122 vs).run Tryd.prog w = .ok (.agg r) w := by
  have h2 := h
  simp only [Value.cells] at h2
  unfold Instr.build
  simp only [Sem.run_bind, zero_laws_Pair, Result.andThen_ok]
  go_simp
theorem sz_laws_Row : Sz 120 3 := Sz.of (by kernel_rfl)
theorem agg_laws_Row (w : World) : (isAgg 120).run Tryd.prog w = .ok true w := by go_simp <;> rfl
theorem zero_laws_Row (w : World) : (zeroValue 120).run Tryd.prog w = .ok (.agg #[.int .i64 0, .int .i64 0, .int .i64 0]) w := by go_simp <;> rfl
theorem fld_laws_Row_0 (ad : Addr) (w : World) (h : ad.spot = none) : (Instr.fieldAt 120 (.pointer (some ad)) 0).run Tryd.prog w = .ok (.pointer (some ⟨ad.block, ad.off + 0, none⟩)) w := by
  obtain ⟨b, o, s⟩ := ad
  subst h
  go_simp
theorem fld_laws_Row_1 (ad : Addr) (w : World) (h : ad.spot = none) : (Instr.fieldAt 120 (.pointer (some ad)) 1).run Tryd.prog w = .ok (.pointer (some ⟨ad.block, ad.off + 1, none⟩)) w := by
  obtain ⟨b, o, s⟩ := ad
  subst h
  go_simp
theorem fld_laws_Row_2 (ad : Addr) (w : World) (h : ad.spot = none) : (Instr.fieldAt 120 (.pointer (some ad)) 2).run Tryd.prog w = .ok (.pointer (some ⟨ad.block, ad.off + 2, none⟩)) w := by
  obtain ⟨b, o, s⟩ := ad
  subst h
  go_simp
theorem bld_laws_Row (vs : Array (Nat × Value)) (r : Array Value) (w : World) (h : Instr.fill (fun i => ([(0, 1), (1, 1), (2, 1)] : List (Nat × Nat))[i]?) (Value.cells (.agg #[.int .i64 0, .int .i64 0, .int .i64 0])) vs.toList = some r) : (Instr.build 120 vs).run Tryd.prog w = .ok (.agg r) w := by
  have h2 := h
  simp only [Value.cells] at h2
  unfold Instr.build
  simp only [Sem.run_bind, zero_laws_Row, Result.andThen_ok]
  go_simp
theorem sz_spec_l1Cur : Sz 125 3 := Sz.of (by kernel_rfl)
theorem agg_spec_l1Cur (w : World) : (isAgg 125).run Tryd.prog w = .ok true w := by go_simp <;> rfl
theorem zero_spec_l1Cur (w : World) : (zeroValue 125).run Tryd.prog w = .ok (.agg #[.slice none 0 0, .int .i64 0, .int .i64 0]) w := by go_simp <;> rfl
theorem fld_spec_l1Cur_0 (ad : Addr) (w : World) (h : ad.spot = none) : (Instr.fieldAt 125 (.pointer (some ad)) 0).run Tryd.prog w = .ok (.pointer (some ⟨ad.block, ad.off + 0, none⟩)) w := by
  obtain ⟨b, o, s⟩ := ad
  subst h
  go_simp
theorem fld_spec_l1Cur_1 (ad : Addr) (w : World) (h : ad.spot = none) : (Instr.fieldAt 125 (.pointer (some ad)) 1).run Tryd.prog w = .ok (.pointer (some ⟨ad.block, ad.off + 1, none⟩)) w := by
  obtain ⟨b, o, s⟩ := ad
  subst h
  go_simp
theorem fld_spec_l1Cur_2 (ad : Addr) (w : World) (h : ad.spot = none) : (Instr.fieldAt 125 (.pointer (some ad)) 2).run Tryd.prog w = .ok (.pointer (some ⟨ad.block, ad.off + 2, none⟩)) w := by
  obtain ⟨b, o, s⟩ := ad
  subst h
  go_simp
theorem bld_spec_l1Cur (vs : Array (Nat × Value)) (r : Array Value) (w : World) (h : Instr.fill (fun i => ([(0, 1), (1, 1), (2, 1)] : List (Nat × Nat))[i]?) (Value.cells (.agg #[.slice none 0 0, .int .i64 0, .int .i64 0])) vs.toList = some r) : (Instr.build 125 vs).run Tryd.prog w = .ok (.agg r) w := by
  have h2 := h
  simp only [Value.cells] at h2
  unfold Instr.build
  simp only [Sem.run_bind, zero_spec_l1Cur, Result.andThen_ok]
  go_simp
theorem sz_string : Sz 9 1 := Sz.of (by kernel_rfl)
theorem agg_string (w : World) : (isAgg 9).run Tryd.prog w = .ok false w := by go_simp <;> rfl
theorem zero_string (w : World) : (zeroValue 9).run Tryd.prog w = .ok (.string ByteArray.empty) w := by go_simp <;> rfl
theorem sz_uint8 : Sz 5 1 := Sz.of (by kernel_rfl)
theorem agg_uint8 (w : World) : (isAgg 5).run Tryd.prog w = .ok false w := by go_simp <;> rfl
theorem zero_uint8 (w : World) : (zeroValue 5).run Tryd.prog w = .ok (.int .u8 0) w := by go_simp <;> rfl
theorem sz_s_impl_File : Sz 24 1 := Sz.of (by kernel_rfl)
theorem agg_s_impl_File (w : World) : (isAgg 24).run Tryd.prog w = .ok false w := by go_simp <;> rfl
theorem zero_s_impl_File (w : World) : (zeroValue 24).run Tryd.prog w = .ok (.slice none 0 0) w := by go_simp <;> rfl
theorem sz_s_impl_Page : Sz 35 1 := Sz.of (by kernel_rfl)
theorem agg_s_impl_Page (w : World) : (isAgg 35).run Tryd.prog w = .ok false w := by go_simp <;> rfl
theorem zero_s_impl_Page (w : World) : (zeroValue 35).run Tryd.prog w = .ok (.slice none 0 0) w := by go_simp <;> rfl
theorem sz_s_impl_Pair : Sz 48 1 := Sz.of (by kernel_rfl)
theorem agg_s_impl_Pair (w : World) : (isAgg 48).run Tryd.prog w = .ok false w := by go_simp <;> rfl
theorem zero_s_impl_Pair (w : World) : (zeroValue 48).run Tryd.prog w = .ok (.slice none 0 0) w := by go_simp <;> rfl
theorem sz_s_impl_Row : Sz 32 1 := Sz.of (by kernel_rfl)
theorem agg_s_impl_Row (w : World) : (isAgg 32).run Tryd.prog w = .ok false w := by go_simp <;> rfl
theorem zero_s_impl_Row (w : World) : (zeroValue 32).run Tryd.prog w = .ok (.slice none 0 0) w := by go_simp <;> rfl
theorem sz_s_int : Sz 133 1 := Sz.of (by kernel_rfl)
theorem agg_s_int (w : World) : (isAgg 133).run Tryd.prog w = .ok false w := by go_simp <;> rfl
theorem zero_s_int (w : World) : (zeroValue 133).run Tryd.prog w = .ok (.slice none 0 0) w := by go_simp <;> rfl
theorem sz_s_laws_File : Sz 63 1 := Sz.of (by kernel_rfl)
theorem agg_s_laws_File (w : World) : (isAgg 63).run Tryd.prog w = .ok false w := by go_simp <;> rfl
theorem zero_s_laws_File (w : World) : (zeroValue 63).run Tryd.prog w = .ok (.slice none 0 0) w := by go_simp <;> rfl
theorem sz_s_laws_Page : Sz 147 1 := Sz.of (by kernel_rfl)
theorem agg_s_laws_Page (w : World) : (isAgg 147).run Tryd.prog w = .ok false w := by go_simp <;> rfl
theorem zero_s_laws_Page (w : World) : (zeroValue 147).run Tryd.prog w = .ok (.slice none 0 0) w := by go_simp <;> rfl
theorem sz_s_laws_Pair : Sz 72 1 := Sz.of (by kernel_rfl)
theorem agg_s_laws_Pair (w : World) : (isAgg 72).run Tryd.prog w = .ok false w := by go_simp <;> rfl
theorem zero_s_laws_Pair (w : World) : (zeroValue 72).run Tryd.prog w = .ok (.slice none 0 0) w := by go_simp <;> rfl
theorem sz_s_laws_Row : Sz 179 1 := Sz.of (by kernel_rfl)
theorem agg_s_laws_Row (w : World) : (isAgg 179).run Tryd.prog w = .ok false w := by go_simp <;> rfl
theorem zero_s_laws_Row (w : World) : (zeroValue 179).run Tryd.prog w = .ok (.slice none 0 0) w := by go_simp <;> rfl
theorem sz_s_string : Sz 102 1 := Sz.of (by kernel_rfl)
theorem agg_s_string (w : World) : (isAgg 102).run Tryd.prog w = .ok false w := by go_simp <;> rfl
theorem zero_s_string (w : World) : (zeroValue 102).run Tryd.prog w = .ok (.slice none 0 0) w := by go_simp <;> rfl
theorem sz_s_uint8 : Sz 22 1 := Sz.of (by kernel_rfl)
theorem agg_s_uint8 (w : World) : (isAgg 22).run Tryd.prog w = .ok false w := by go_simp <;> rfl
theorem zero_s_uint8 (w : World) : (zeroValue 22).run Tryd.prog w = .ok (.slice none 0 0) w := by go_simp <;> rfl
theorem elt_impl_File : ElT 24 80 4 (.agg #[.int .i64 0, .slice none 0 0, .int .i64 0, .bool false]) 48 := ⟨Tryd.underlying24, by kernel_rfl, rfl, by decide, by decide, by decide⟩
theorem elt_impl_Page : ElT 35 41 1 (.agg #[.slice none 0 0]) 24 := ⟨Tryd.underlying35, by kernel_rfl, rfl, by decide, by decide, by decide⟩
theorem elt_impl_Pair : ElT 48 57 7 (.agg #[.int .i64 0, .int .i64 0, .int .i64 0, .int .i64 0, .int .i64 0, .int .i64 0, .bool false]) 56 := ⟨Tryd.underlying48, by kernel_rfl, rfl, by decide, by decide, by decide⟩
theorem elt_impl_Row : ElT 32 55 3 (.agg #[.int .i64 0, .int .i64 0, .int .i64 0]) 24 := ⟨Tryd.underlying32, by kernel_rfl, rfl, by decide, by decide, by decide⟩
theorem elt_int : ElT 133 3 1 (.int .i64 0) 8 := ⟨Tryd.underlying133, by kernel_rfl, rfl, by decide, by decide, by decide⟩
theorem elt_laws_File : ElT 63 149 4 (.agg #[.int .i64 0, .slice none 0 0, .int .i64 0, .bool false]) 48 := ⟨Tryd.underlying63, by kernel_rfl, rfl, by decide, by decide, by decide⟩
theorem elt_laws_Page : ElT 147 181 1 (.agg #[.slice none 0 0]) 24 := ⟨Tryd.underlying147, by kernel_rfl, rfl, by decide, by decide, by decide⟩
theorem elt_laws_Pair : ElT 72 122 7 (.agg #[.int .i64 0, .int .i64 0, .int .i64 0, .int .i64 0, .int .i64 0, .int .i64 0, .bool false]) 56 := ⟨Tryd.underlying72, by kernel_rfl, rfl, by decide, by decide, by decide⟩
theorem elt_laws_Row : ElT 179 120 3 (.agg #[.int .i64 0, .int .i64 0, .int .i64 0]) 24 := ⟨Tryd.underlying179, by kernel_rfl, rfl, by decide, by decide, by decide⟩
theorem elt_string : ElT 102 9 1 (.string ByteArray.empty) 16 := ⟨Tryd.underlying102, by kernel_rfl, rfl, by decide, by decide, by decide⟩
theorem elt_uint8 : ElT 22 5 1 (.int .u8 0) 1 := ⟨Tryd.underlying22, by kernel_rfl, rfl, by decide, by decide, by decide⟩
end Go.Proofs.YtlnjgoommpeioaaDoor.V
