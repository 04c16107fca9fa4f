/- States told by trees: the rules of the code (order, conditions, loops), a call's beginning and its answer. -/
import Derived.Test.YtlnjgoommpeioaaVL
namespace Go.Proofs.Ytlnjgoommpeioaa.V
open Go Go.RowKit
set_option linter.unusedVariables false

/-- The least number, if there is one. -/
theorem exLeast {p : Nat → Prop} (h : ∃ n, p n) : ∃ n, p n ∧ ∀ m, p m → n ≤ m := by
  obtain ⟨n, hn⟩ := h
  induction n using Nat.strongRecOn with
  | _ n ih =>
    rcases Classical.em (∃ m, m < n ∧ p m) with ⟨m, h1, h2⟩ | h
    · exact ih m h1 h2
    · exact ⟨n, hn, fun m hm => Nat.le_of_not_lt fun hlt => h ⟨m, hlt, hm⟩⟩
theorem least_fn {α β : Type} (p : α → β → Nat → Prop) : ∃ f : α → β → Nat, ∀ a b n, p a b n → p a b (f a b) ∧ ∀ m, p a b m → f a b ≤ m :=
  ⟨fun a b => @Classical.epsilon Nat ⟨0⟩ fun n => p a b n ∧ ∀ m, p a b m → n ≤ m, fun a b n h => @Classical.epsilon_spec Nat (fun n => p a b n ∧ ∀ m, p a b m → n ≤ m) (exLeast ⟨n, h⟩)⟩
section
variable {P : Program} {E : Env} {N : Nat} {σ : VS} {Q : Exit → Act → World → Prop}
theorem SV.nil {ops : Array Oper} (h : SV E N σ (Q .normal)) : SV E N σ (wpList P ops Q []) := h
theorem SV.region {id : Nat} {l : List Oper} (h : SV E N σ (wpList P l.toArray Q l)) : SV E N σ ((Code.region id l.toArray false).wp P Q) := fun a w G hr => wp_region_lit (h a w G hr)
theorem SV.seq {x y : Code} (h : ∀ K : Act → World → Prop, (∀ τ, SV E N τ (y.wp P Q) → SV E N τ K) → SV E N σ (x.wp P (Exit.then K Q))) : SV E N σ ((Code.seq x y).wp P Q) := fun a w G hr => wp_seq (h (y.wp P Q) (fun _ h => h) a w G hr)
theorem SV.cond {c : Operand} {x y : Code} {b : Bool} (hc : σ.ev c = V.one (.sc (.bool b))) (ht : b = true → SV E N σ (x.wp P Q)) (hf : b = false → SV E N σ (y.wp P Q)) : SV E N σ ((Code.cond c x y).wp P Q) :=
  fun a w G hr => wp_cond_split (hr.sc hc) (fun e => ht e a w G hr) fun e => hf e a w G hr
theorem SV.block {id : Nat} {c : Code} (h : SV E N σ (c.wp P (Exit.inBlock id Q))) : SV E N σ ((Code.block id c).wp P Q) := fun a w G hr => wp_block (h a w G hr)
theorem SV.skip (h : SV E N σ (Q .normal)) : SV E N σ (Code.skip.wp P Q) := fun a w G hr => wp_skip (h a w G hr)
theorem SV.exit {id : Nat} (h : SV E N σ (Q (.exit id))) : SV E N σ ((Code.exit id).wp P Q) := fun a w G hr => wp_exit (h a w G hr)
theorem SV.ret (h : SV E N σ (Q .ret)) : SV E N σ (Code.ret.wp P Q) := fun a w G hr => wp_ret (h a w G hr)
theorem SV.loop {c : Code} {X : Type} (I : X → VS) (Inv : X → Prop) (μ : X → Nat) (h0 : SV E N σ fun a w => ∃ x, Inv x ∧ ∃ G, Rel E N (I x) a w G)
    (round : ∀ x, Inv x → SV E N (I x) (c.wp P (Exit.then (fun a w => ∃ x', (Inv x' ∧ μ x' < μ x) ∧ ∃ G, Rel E N (I x') a w G) Q))) : SV E N σ ((Code.loop c).wp P Q) := fun a w G hr => by
  obtain ⟨f, hf⟩ := least_fn fun a w n => ∃ x, Inv x ∧ μ x ≤ n ∧ ∃ G, Rel E N (I x) a w G
  refine wp_loop (fun a w => ∃ x, Inv x ∧ ∃ G, Rel E N (I x) a w G) f (h0 a w G hr) ?_
  rintro a w ⟨x, hx, G, hG⟩
  obtain ⟨y, hy, hym, G', hG'⟩ := (hf a w (μ x) ⟨x, hx, Nat.le_refl _, G, hG⟩).1
  refine wp_mono (round y hy a w G' hG') fun e a' w' hq => ?_
  cases e with
  | normal =>
    obtain ⟨z, ⟨hz, hlt⟩, G2, hG2⟩ := hq
    exact ⟨⟨z, hz, G2, hG2⟩, Nat.lt_of_le_of_lt ((hf a' w' (μ z) ⟨z, hz, Nat.le_refl _, G2, hG2⟩).2 _ ⟨z, hz, Nat.le_refl _, G2, hG2⟩) (Nat.lt_of_lt_of_le hlt hym)⟩
  | exit id => exact hq
  | goto l => exact hq
  | ret => exact hq
  | panic ch => exact hq
  | outgrown => exact hq
end
/-! ### Weakening: what is not wanted any more is let go; objects are named anew -/
/-- The leaf y says less than x, objects named anew by ρ. -/
def Leaf.le (σ τ : VS) (ρ : Nat → Nat) (x y : Leaf) : Prop := match y with
  | .dead => True
  | .hd i => x = .hd (ρ i) ∧ i < τ.nx ∧ ρ i < σ.nx
  | .bp b o => x = .bp b o ∧ b < τ.bs.length
  | .sc u => x = .sc u
  | .nl ty => x = .nl ty
  | .ro t => x = .ro t
  | .rp es => x = .rp es
  | _ => False
theorem Leaf.le.holds {σ τ : VS} {ρ : Nat → Nat} {x y : Leaf} {E : Env} {w : World} {G : Ghost} {u : Value} (h : Leaf.le σ τ ρ x y) (hx : Holds G σ E w x u) : Holds ⟨G.β, fun i => G.vl (ρ i), fun i => G.ft (ρ i)⟩ τ E w y u := by
  cases y with
  | dead => exact ⟨trivial, .inl rfl⟩
  | hd i =>
    obtain ⟨rfl, h1, h2⟩ := h
    exact ⟨⟨h1, hx.1.2⟩, .inr (by rcases hx.2 with h | h; (cases h); exact h)⟩
  | bp b o =>
    obtain ⟨rfl, h1⟩ := h
    exact ⟨⟨h1, hx.1.2⟩, .inr (by rcases hx.2 with h | h; (cases h); exact h)⟩
  | sc v => cases h; exact ⟨hx.1, .inr (by rcases hx.2 with h | h; (cases h); exact h)⟩
  | nl ty => cases h; exact ⟨hx.1, .inr (by rcases hx.2 with h | h; (cases h); exact h)⟩
  | ro t => cases h; exact ⟨hx.1, .inr (by rcases hx.2 with h | h; (cases h); exact h)⟩
  | rp es => cases h; exact ⟨hx.1, .inr (by rcases hx.2 with h | h; (cases h); exact h)⟩
  | nd i v t l => exact h.elim
  | np i v es => exact h.elim
  | ep i k n o => exact h.elim
def leafs (σ τ : VS) (ρ : Nat → Nat) : List Leaf → List Leaf → Prop
  | [], [] => True
  | x :: xs, y :: ys => Leaf.le σ τ ρ x y ∧ leafs σ τ ρ xs ys
  | _, _ => False
theorem leafs.len {σ τ : VS} {ρ : Nat → Nat} : ∀ {xs ys : List Leaf}, leafs σ τ ρ xs ys → xs.length = ys.length
  | [], [], _ => rfl
  | x :: xs, y :: ys, h => by simp [leafs.len h.2]
theorem leafs.get {σ τ : VS} {ρ : Nat → Nat} : ∀ {xs ys : List Leaf}, leafs σ τ ρ xs ys → ∀ (j : Nat) (y : Leaf), ys[j]? = some y → ∃ x, xs[j]? = some x ∧ Leaf.le σ τ ρ x y
  | [], [], _, j, y, h => by simp at h
  | x :: xs, z :: ys, h, j, y, hj => by
    cases j with
    | zero => cases hj; exact ⟨x, rfl, h.1⟩
    | succ j => exact leafs.get h.2 j y (by simpa using hj)
/-- Slot by slot: dead, or the same shape with leaves that say less. -/
def V.le (σ τ : VS) (ρ : Nat → Nat) (v v' : V) : Prop := v' = V.one .dead ∨ ∃ ag xs ys, v = V.flat ag xs ∧ v' = V.flat ag ys ∧ leafs σ τ ρ xs ys
structure VS.le (σ τ : VS) (ρ : Nat → Nat) : Prop where
  tm : ∀ s, V.le σ τ ρ (σ.tm s) (τ.tm s)
  bs : τ.bs.length ≤ σ.bs.length
  box : ∀ (b : Nat) (ty : TypeId) (ys : List Leaf), τ.bs[b]? = some (ty, ys) → ∃ xs : List Leaf, σ.bs[b]? = some (ty, xs) ∧ leafs σ τ ρ xs ys
  ob : ∀ i ver t, τ.ob i = some (ver, t) → i < τ.nx ∧ ρ i < σ.nx ∧ ∃ v, σ.ob (ρ i) = some (v, t)
  inj : ∀ i j, τ.ob i ≠ none → τ.ob j ≠ none → ρ i = ρ j → i = j
theorem Rel.weaken {E : Env} {w : World} {N : Nat} {σ τ : VS} {a : Act} {G : Ghost} {ρ : Nat → Nat} (h : Rel E N σ a w G) (hp : E.nl ≤ τ.nx ∧ ∀ i, i < E.nl → ρ i = i) (l : VS.le σ τ ρ) : ∃ G', Rel E N τ a w G' := by
  have live : ∀ i, τ.ob i ≠ none → σ.ob (ρ i) ≠ none := fun i hi => by
    obtain ⟨⟨ver, t⟩, hv⟩ := Option.ne_none_iff_exists'.1 hi
    obtain ⟨-, -, v, h1⟩ := l.ob i ver t hv
    rw [h1]; simp
  refine ⟨⟨G.β, fun i => G.vl (ρ i), fun i => G.ft (ρ i)⟩, h.below, h.dfr, h.nsz, fun s => ?_, fun b ty ys hb => ?_, fun b b' h1 h2 => h.inj b b' (Nat.lt_of_lt_of_le h1 l.bs) (Nat.lt_of_lt_of_le h2 l.bs), fun b i h1 hi => h.boxft b (ρ i) (Nat.lt_of_lt_of_le h1 l.bs) (live i hi), fun i ver t hi => ?_, fun i j b hi hj hij => h.disj _ _ b (live i hi) (live j hj) fun e => hij (l.inj i j hi hj e), fun i b hi => h.ftlt _ b (live i hi), ⟨hp.1, fun i hi => by show G.vl (ρ i) = _; rw [hp.2 i hi]; exact h.lent.2 i hi⟩⟩
  · rcases l.tm s with h1 | ⟨ag, xs, ys, h1, h2, h3⟩
    · rw [h1, vone]
      exact ⟨trivial, .inl rfl⟩
    · have h4 := h.tmps s
      rw [h1, vflat] at h4
      obtain ⟨us, h5, h6, h7⟩ := h4
      rw [h2, vflat]
      refine ⟨us, h5, h6.trans h3.len, fun j y u hj hu => ?_⟩
      obtain ⟨x, hx1, hx2⟩ := h3.get j y hj
      exact hx2.holds (h7 j x u hx1 hu)
  · obtain ⟨xs, h1, h2⟩ := l.box b ty ys hb
    obtain ⟨h3, us, h4, h5, h6⟩ := h.boxes b ty xs h1
    refine ⟨h3, us, h4, h5.trans h2.len, fun j y u hj hu => ?_⟩
    obtain ⟨x, hx1, hx2⟩ := h2.get j y hj
    exact ⟨hx2.holds (h6 j x u hx1 hu).1, (h6 j x u hx1 hu).2⟩
  · obtain ⟨h1, h2, v, h3⟩ := l.ob i ver t hi
    obtain ⟨-, h4, h5⟩ := h.objs _ v t h3
    exact ⟨h1, h4, h5⟩
theorem SV.weaken {E : Env} {N : Nat} {σ τ : VS} {K : Act → World → Prop} (ρ : Nat → Nat) (hp : E.nl ≤ τ.nx ∧ ∀ i, i < E.nl → ρ i = i) (l : VS.le σ τ ρ) (h : SV E N τ K) : SV E N σ K := fun a w G hr => by
  obtain ⟨G', h'⟩ := hr.weaken hp l
  exact h a w G' h'
theorem SV.again {E : Env} {N : Nat} {σ : VS} {X : Type} {I : X → VS} {R : X → Prop} (ρ : Nat → Nat) (x : X) (hx : R x) (hp : E.nl ≤ (I x).nx ∧ ∀ i, i < E.nl → ρ i = i) (l : VS.le σ (I x) ρ) : SV E N σ fun a w => ∃ x, R x ∧ ∃ G, Rel E N (I x) a w G := fun a w G hr => by
  obtain ⟨G', h'⟩ := hr.weaken hp l
  exact ⟨x, hx, G', h'⟩
/-- The lent objects keep their numbers. -/
theorem pins {E : Env} {m n : Nat} {ρ : Nat → Nat} (hE : E.nl = m) (h1 : Nat.ble m n = true) (h : (List.range m).all (fun i => Nat.beq (ρ i) i) = true) : E.nl ≤ n ∧ ∀ i, i < E.nl → ρ i = i := by
  rw [hE]
  exact ⟨Nat.le_of_ble_eq_true h1, fun i hi => Nat.eq_of_beq_eq_true (List.all_eq_true.1 h i (List.mem_range.2 hi))⟩
/-! ### A call's beginning and its answer -/
def VS.init (vs : List V) : VS := ⟨fun s => vs.getD s (V.one .dead), [], fun _ => none, 0⟩
/-- Arguments that may be read. -/
def Env.of (w : World) : Env := ⟨w, fun _ => False, fun _ h => h.elim, fun _ => undef, 0⟩
theorem Env.of_old {w : World} {b : Nat} : (Env.of w).old b ↔ b < w.heap.size := ⟨fun h => h.1, fun h => ⟨h, fun h => h⟩⟩
def ArgsIn (E : Env) (w : World) (ins : List (Bool × List T)) (vs : List Value) : Prop :=
  vs.length = ins.length ∧ ∀ (c : Nat) (ag : Bool) (ts : List T) (v : Value), ins[c]? = some (ag, ts) → vs[c]? = some v → ∃ us : List Value, v = cval ag us ∧ us.length = ts.length ∧ ∀ (j : Nat) (t : T) (u : Value), ts[j]? = some t → us[j]? = some u → Inn E.old w t u
def argLeaf : T → Leaf
  | .lit u => .sc u
  | .any => .dead
  | t => .ro t
theorem init_rel {E : Env} (hE : E.nl = 0) {ins : List (Bool × List T)} {vs : List Value} {n : Nat} (h : ArgsIn E E.w0 ins vs) (hn : vs.length ≤ n) : ∃ G, Rel E n (VS.init (ins.map fun p => V.flat p.1 (p.2.map argLeaf))) { tmps := vs.toArray ++ Array.replicate (n - vs.length) undef, defers := [] } E.w0 G := by
  refine ⟨⟨fun _ => 0, fun _ => undef, fun _ _ => False⟩, Same.refl _ _, rfl, by simp; omega, fun s => ?_, fun b ty xs hb => by simp [VS.init] at hb, fun b b' hb => by simp [VS.init] at hb, fun b i hb => by simp [VS.init] at hb, fun i v t hi => by simp [VS.init] at hi, fun i j b hi => by simp [VS.init] at hi, fun i b hi => by simp [VS.init] at hi, ⟨by rw [hE]; exact Nat.zero_le _, fun i hi => by rw [hE] at hi; exact absurd hi (Nat.not_lt_zero i)⟩⟩
  show VHolds _ _ _ E.w0 ((ins.map fun p => V.flat p.1 (p.2.map argLeaf)).getD s (V.one .dead)) _
  rcases Nat.lt_or_ge s ins.length with hs | hs
  · obtain ⟨p, hp⟩ : ∃ p, ins[s]? = some p := ⟨ins[s], List.getElem?_eq_getElem hs⟩
    obtain ⟨ag, ts⟩ := p
    have hsv : s < vs.length := by rw [h.1]; exact hs
    obtain ⟨us, h1, h2, h3⟩ := h.2 s ag ts vs[s] hp (List.getElem?_eq_getElem hsv)
    have e1 : (ins.map fun p => V.flat p.1 (p.2.map argLeaf)).getD s (V.one .dead) = V.flat ag (ts.map argLeaf) := by simp [List.getD, hp]
    have e2 : (vs.toArray ++ Array.replicate (n - vs.length) undef).getD s undef = vs[s] := by
      simp only [Array.getD_eq_getD_getElem?]
      rw [Array.getElem?_append_left (by simpa using hsv)]
      simp [hsv]
    rw [e1]
    show VHolds _ _ _ E.w0 _ ((vs.toArray ++ Array.replicate (n - vs.length) undef).getD s undef)
    rw [e2, vflat]
    refine ⟨us, h1, by simp [h2], fun j x u hj hu => ?_⟩
    have hjt : j < ts.length := by have := get_lt hj; simpa using this
    have hx : x = argLeaf ts[j] := by
      rw [List.getElem?_map, List.getElem?_eq_getElem hjt] at hj
      exact (Option.some.inj hj).symm
    have hin := h3 j ts[j] u (List.getElem?_eq_getElem hjt) hu
    rw [hx]
    cases hc : ts[j] with
    | any => exact ⟨trivial, .inl rfl⟩
    | lit v =>
      rw [hc] at hin
      cases hin with
      | lit hv => exact ⟨rfl, .inr hv⟩
    | seq ty es => rw [hc] at hin; exact ⟨hin, .inr hin.one⟩
  · have e1 : (ins.map fun p => V.flat p.1 (p.2.map argLeaf)).getD s (V.one .dead) = V.one .dead := by simp [List.getD, hs]
    rw [e1, vone]
    exact ⟨trivial, .inl rfl⟩
/-- The answer: trees in memory of the call's own, apart from each other. -/
def Gives (E : Env) (tup : Bool) (rs : List (Bool × List T)) (e : Ending) (w' : World) : Prop :=
  ∃ (uss : List (List Value)) (F : Nat → Nat → Nat → Prop), uss.length = rs.length ∧ e = .returned (vval tup (List.zipWith (fun r us => cval r.1 us) rs uss)) ∧
    (∀ (c : Nat) (ag : Bool) (ts : List T) (us : List Value), rs[c]? = some (ag, ts) → uss[c]? = some us → us.length = ts.length ∧ ∀ (j : Nat) (t : T) (u : Value), ts[j]? = some t → us[j]? = some u → Own w' 0 t u (F c j)) ∧
    (∀ c j c' j' b, F c j b → F c' j' b → c = c' ∧ j = j') ∧ (∀ c j b, F c j b → (E.B ≤ b ∨ E.ln b) ∧ b < w'.heap.size) ∧ Same E E.w0 w'
/-- The call answers so, whatever the memory. -/
def VC (P : Program) (f : FuncId) (ins : List (Bool × List T)) (tup : Bool) (rs : List (Bool × List T)) : Prop := ∀ (w : World) (vs : List Value), ArgsIn (Env.of w) w ins vs → Calls P f vs.toArray w (Gives (Env.of w) tup rs)
theorem VC.enter {P : Program} {f : FuncId} {fn : Func} {c : Code} {n : Nat} {ins rs : List (Bool × List T)} {tup : Bool} (hf : P.funcs[f]? = some fn) (hb : fn.body = some c) (hn : fn.ntmps = n) (hl : ins.length ≤ n)
    (h : ∀ E, E.nl = 0 → SV E n (VS.init (ins.map fun p => V.flat p.1 (p.2.map argLeaf))) (c.wp P (bodyPost P fn (Gives E tup rs)))) : VC P f ins tup rs := fun w vs hv => by
  refine calls_of_wp hf hb ?_
  obtain ⟨G, hG⟩ := init_rel (E := Env.of w) rfl (n := n) hv (by rw [hv.1]; exact hl)
  have := h (Env.of w) rfl _ _ G hG
  rw [hn]
  have e : (Env.of w).w0 = w := rfl
  rw [e] at this
  simpa using this
end Go.Proofs.Ytlnjgoommpeioaa.V
