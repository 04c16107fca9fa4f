/- States told by trees: what a step leaves as it was. -/
import Derived.Test.YtlnjgoommpeioaaV
namespace Go.Proofs.Ytlnjgoommpeioaa.V
open Go Go.RowKit
set_option linter.unusedVariables false

/-- What a change of world and objects leaves readable. -/
structure Step (E : Env) (σ σ' : VS) (w w' : World) (G G' : Ghost) : Prop where
  size : w.heap.size ≤ w'.heap.size
  old : ∀ b, E.old b → w'.heap[b]? = w.heap[b]?
  nx : σ.nx ≤ σ'.nx
  bs : σ.bs.length ≤ σ'.bs.length
  vl : ∀ i, i < σ.nx → G'.vl i = G.vl i
  β : ∀ b, b < σ.bs.length → G'.β b = G.β b
  ob : ∀ i v' t', i < σ.nx → σ'.ob i = some (v', t') → ∃ v t, σ.ob i = some (v, t) ∧ v ≤ v' ∧ (v = v' → t = t' ∧ (∀ b, G.ft i b → b < w.heap.size) ∧ ∀ b, G.ft i b → G'.ft i b ∧ w'.heap[b]? = w.heap[b]?)
theorem Holds0.step {E : Env} {σ σ' : VS} {w w' : World} {G G' : Ghost} {x : Leaf} {u : Value} (h : Holds0 G σ E w x u) (s : Step E σ σ' w w' G G') (hft : ∀ i b, σ.ob i ≠ none → G.ft i b → b < w.heap.size)
    (hrt : ∀ i g N c ty es, i < σ.nx → σ.ob i ≠ none → G.vl i = .slice (some ⟨g, 0, none⟩) N c → (∃ v, σ.ob i = some (v, .seq ty es)) → es ≠ [] → G.ft i g) : Holds0 G' σ' E w' x u := by
  cases x with
  | dead => trivial
  | sc v => exact h
  | nl ty => exact h
  | ro t => exact Inn.frame h s.size fun b hb _ => ⟨hb, s.old b hb⟩
  | rp es =>
    obtain ⟨b, o, us, h1, h2, h3⟩ := h
    exact ⟨b, o, us, h1, h2, fun j t ht => ⟨(World.cell?_of_block (s.old b h2)).trans (h3 j t ht).1, (h3 j t ht).2.frame s.size fun b hb _ => ⟨hb, s.old b hb⟩⟩⟩
  | hd i => exact ⟨Nat.lt_of_lt_of_le h.1 s.nx, h.2.trans (s.vl i h.1).symm⟩
  | nd i ver t loc =>
    refine ⟨Nat.lt_of_lt_of_le h.1 s.nx, fun v' t' hv => ?_, fun ⟨t', hv⟩ => ?_⟩
    · obtain ⟨v, t, h1, h2, -⟩ := s.ob i v' t' h.1 hv
      exact Nat.le_trans (h.2.1 v t h1) h2
    · obtain ⟨v, t1, h1, h2, h3⟩ := s.ob i ver t' h.1 hv
      have hve : v = ver := Nat.le_antisymm h2 (h.2.1 v t1 h1)
      subst hve
      obtain ⟨rfl, h4, h5⟩ := h3 rfl
      obtain ⟨h6, h7⟩ := h.2.2 ⟨t1, h1⟩
      refine ⟨h6.frame s.size fun b hb _ => h5 b hb, fun k o hl => ?_⟩
      obtain ⟨g, N, c, n, ty, es, e, h8, h9, h10, h11, h12, h13⟩ := h7 k o hl
      have hes : es ≠ [] := fun hh => by rw [hh] at h10; simp at h10
      have hg := hrt i g N c ty es h.1 (by rw [h8]; simp) h9 ⟨v, h8⟩ hes
      refine ⟨g, N, c, n, ty, es, e, ?_, (s.vl i h.1).trans h9, h10, h11, h12, (World.cell?_of_block (h5 g hg).2).trans h13⟩
      rw [h1] at h8
      rw [hv]
      exact h8
  | np i ver es =>
    refine ⟨Nat.lt_of_lt_of_le h.1 s.nx, fun v' t' hv => ?_, fun ⟨t', hv⟩ => ?_⟩
    · obtain ⟨v, t, h1, h2, -⟩ := s.ob i v' t' h.1 hv
      exact Nat.le_trans (h.2.1 v t h1) h2
    · obtain ⟨v, t1, h1, h2, h3⟩ := s.ob i ver t' h.1 hv
      have hve : v = ver := Nat.le_antisymm h2 (h.2.1 v t1 h1)
      subst hve
      obtain ⟨rfl, h4, h5⟩ := h3 rfl
      obtain ⟨b, o, us, h6, h7, h8⟩ := h.2.2 ⟨t1, h1⟩
      exact ⟨b, o, us, h6, (h5 b h7).1, fun j t ht => ⟨(World.cell?_of_block (h5 b h7).2).trans (h8 j t ht).1, (h8 j t ht).2.frame s.size fun b hb _ => h5 b hb⟩⟩
  | ep i k n o =>
    obtain ⟨h1, g, N, c, h2, h3⟩ := h
    exact ⟨Nat.lt_of_lt_of_le h1 s.nx, g, N, c, (s.vl i h1).trans h2, h3⟩
  | bp b o => exact ⟨Nat.lt_of_lt_of_le h.1 s.bs, by rw [s.β b h.1]; exact h.2⟩
theorem VHolds.step {E : Env} {σ σ' : VS} {w w' : World} {G G' : Ghost} {v : V} {u : Value} (h : VHolds G σ E w v u) (k : ∀ x u, Holds G σ E w x u → Holds G' σ' E w' x u) : VHolds G' σ' E w' v u := by
  obtain ⟨uss, h1, h2, h3⟩ := h
  exact ⟨uss, h1, h2, fun c ag xs us h4 h5 => ⟨(h3 c ag xs us h4 h5).1, fun j x u h6 h7 => k x u ((h3 c ag xs us h4 h5).2 j x u h6 h7)⟩⟩
variable {E : Env} {N : Nat} {σ : VS} {a : Act} {w : World} {G : Ghost}
theorem Rel.low (h : Rel E N σ a w G) : E.B ≤ w.heap.size := h.below.size
theorem Rel.root (h : Rel E N σ a w G) (i g N' c : Nat) (ty : TypeId) (es : List (List T)) (hi : i < σ.nx) (hl : σ.ob i ≠ none) (hv : G.vl i = .slice (some ⟨g, 0, none⟩) N' c) (ht : ∃ v, σ.ob i = some (v, .seq ty es)) (hes : es ≠ []) : G.ft i g := by
  obtain ⟨v, ht⟩ := ht
  obtain ⟨-, ho, -⟩ := h.objs i v _ ht
  cases ho with
  | seq n hp hz hn xs hown Gs hr hone hF hG hne hd => exact hF g (by rw [hv]; rfl)
theorem Rel.leaf (h : Rel E N σ a w G) {σ' : VS} {w' : World} {G' : Ghost} (s : Step E σ σ' w w' G G') {x : Leaf} {u : Value} (hx : Holds G σ E w x u) : Holds G' σ' E w' x u :=
  ⟨hx.1.step s (fun i b hi hb => (h.ftlt i b hi hb).2) h.root, hx.2⟩
/-- The world goes on, nothing that was there has changed. -/
theorem Rel.ext (h : Rel E N σ a w G) {w' : World} (hb : Below w.heap.size w w') : Rel E N σ a w' G := by
  have s : Step E σ σ w w' G G := ⟨hb.size, fun b hb' => hb.block b (Nat.lt_of_lt_of_le hb'.1 h.low), Nat.le_refl _, Nat.le_refl _, fun _ _ => rfl, fun _ _ => rfl,
    fun i v' t' hi hv => ⟨v', t', hv, Nat.le_refl _, fun _ => ⟨rfl, fun b hb' => (h.ftlt i b (by rw [hv]; simp) hb').2, fun b hb' => ⟨hb', hb.block b (h.ftlt i b (by rw [hv]; simp) hb').2⟩⟩⟩⟩
  refine ⟨h.below.trans (.of_below (hb.mono h.low)), h.dfr, h.nsz, fun k => (h.tmps k).step fun x u hx => h.leaf s hx, fun b ty xs hb' => ?_, h.inj, h.boxft, fun i v t hi => ?_, h.disj, fun i b hi hb' => ⟨(h.ftlt i b hi hb').1, Nat.lt_of_lt_of_le (h.ftlt i b hi hb').2 hb.size⟩, h.lent⟩
  · obtain ⟨h1, us, h2, h3, h4⟩ := h.boxes b ty xs hb'
    exact ⟨h1, us, (hb.block _ (lt_of_block h2)).trans h2, h3, fun j x u hx hu => ⟨h.leaf s (h4 j x u hx hu).1, (h4 j x u hx hu).2⟩⟩
  · obtain ⟨h1, h2, h3⟩ := h.objs i v t hi
    exact ⟨h1, h2.frame fun b hb' => hb.block b (h.ftlt i b (by rw [hi]; simp) hb').2, h3⟩
theorem Rel.drew (h : Rel E N σ a w G) : Rel E N σ a w.drew G := h.ext (Below.refl _ _).drew
/-- A slot is written. -/
def VS.put (σ : VS) (d : Nat) (v : V) : VS := { σ with tm := fun s => bif Nat.beq s d then v else σ.tm s }
theorem Holds.put {E : Env} {x : Leaf} {u : Value} {d : Nat} {v : V} (h : Holds G σ E w x u) : Holds G (σ.put d v) E w x u := by cases x <;> exact h
theorem Rel.put (h : Rel E N σ a w G) {d : Nat} {v : V} {u : Value} (hd : d < N) (hv : VHolds G σ E w v u) : Rel E N (σ.put d v) (a.put (some d) u) w G := by
  refine ⟨h.below, h.dfr, by show (a.tmps.setIfInBounds d u).size = N; rw [Array.size_setIfInBounds]; exact h.nsz, fun k => ?_, fun b ty xs hb => ?_, h.inj, h.boxft, h.objs, h.disj, h.ftlt, h.lent⟩
  · show VHolds G (σ.put d v) _ w (bif Nat.beq k d then v else σ.tm k) ((a.tmps.setIfInBounds d u).getD k undef)
    by_cases hkd : k = d
    · subst hkd
      have h2 : (a.tmps.setIfInBounds k u).getD k undef = u := by simp [Array.getD, h.nsz, hd]
      rw [h2, Nat.beq_refl]
      exact hv.step fun x u hx => hx.put
    · have h1 : Nat.beq k d = false := by
        cases hb : Nat.beq k d with
        | false => rfl
        | true => exact absurd (Nat.eq_of_beq_eq_true hb) hkd
      have h2 : (a.tmps.setIfInBounds d u).getD k undef = a.tmps.getD k undef := by
        simp only [Array.getD_eq_getD_getElem?]
        rw [Array.getElem?_setIfInBounds_ne (Ne.symm hkd)]
      rw [h2, h1]
      exact (h.tmps k).step fun x u hx => hx.put
  · obtain ⟨h1, us, h2, h3, h4⟩ := h.boxes b ty xs hb
    exact ⟨h1, us, h2, h3, fun j x u hx hu => ⟨(h4 j x u hx hu).1.put, (h4 j x u hx hu).2⟩⟩
/-- A new box. -/
theorem Rel.alloc (h : Rel E N σ a w G) {ty : TypeId} {us : List Value} {xs : List Leaf} (hl : us.length = xs.length) (hx : ∀ (j : Nat) (x : Leaf) (u : Value), xs[j]? = some x → us[j]? = some u → Holds G σ E w x u ∧ u.oneCell' = true) :
    ∃ G', Rel E N { σ with bs := σ.bs ++ [(ty, xs)] } a (w.alloc (.cells us.toArray ty)) G' ∧ G'.β σ.bs.length = w.heap.size ∧ G'.vl = G.vl ∧ ∀ b, b < σ.bs.length → G'.β b = G.β b := by
  have hb : Below w.heap.size w (w.alloc (.cells us.toArray ty)) := (Below.refl _ _).alloc (Nat.le_refl _) _
  have hnew : (w.alloc (.cells us.toArray ty)).heap[w.heap.size]? = some (.cells us.toArray ty (0, 0)) := heap_alloc_new _ _
  have h' := h.ext hb
  have hlt : ∀ b ty xs, σ.bs[b]? = some (ty, xs) → G.β b < w.heap.size := fun b ty xs hb => by
    obtain ⟨-, us, h2, -⟩ := h.boxes b ty xs hb
    exact lt_of_block h2
  have hlt' : ∀ b, b < σ.bs.length → G.β b < w.heap.size := fun b hb => hlt b _ _ (List.getElem?_eq_getElem hb)
  obtain ⟨G', hG'⟩ : ∃ G' : Ghost, G' = { G with β := fun b => if b = σ.bs.length then w.heap.size else G.β b } := ⟨_, rfl⟩
  have hβ : ∀ b, b < σ.bs.length → G'.β b = G.β b := fun b hb => by rw [hG']; exact if_neg (by omega)
  have hβ' : G'.β σ.bs.length = w.heap.size := by rw [hG']; exact if_pos rfl
  have hvl : G'.vl = G.vl := by rw [hG']
  have hft : G'.ft = G.ft := by rw [hG']
  have s : Step E σ { σ with bs := σ.bs ++ [(ty, xs)] } (w.alloc (.cells us.toArray ty)) (w.alloc (.cells us.toArray ty)) G G' := ⟨Nat.le_refl _, fun b hb' => rfl, Nat.le_refl _, by simp, fun i _ => by rw [hvl], hβ,
    fun i v' t' hi hv => ⟨v', t', hv, Nat.le_refl _, fun _ => ⟨rfl, fun b hb' => (h'.ftlt i b (by rw [show σ.ob i = some (v', t') from hv]; simp) hb').2, fun b hb' => ⟨by rw [hft]; exact hb', rfl⟩⟩⟩⟩
  refine ⟨G', ⟨h'.below, h.dfr, h.nsz, fun k => (h'.tmps k).step fun x u hx => h'.leaf s hx, fun b ty' xs' hb' => ?_, fun b b' hb1 hb2 e => ?_, fun b i hb1 hi hb2 => ?_, fun i v t hi => ?_, ?_, ?_, ⟨h.lent.1, fun i hi => by rw [hvl]; exact h.lent.2 i hi⟩⟩, hβ', hvl, hβ⟩
  · rcases Nat.lt_or_ge b σ.bs.length with hbl | hbl
    · have hb2 : σ.bs[b]? = some (ty', xs') := by rw [List.getElem?_append_left hbl] at hb'; exact hb'
      obtain ⟨h1, us', h2, h3, h4⟩ := h'.boxes b ty' xs' hb2
      rw [hβ b hbl]
      exact ⟨h1, us', h2, h3, fun j x u hx' hu => ⟨h'.leaf s (h4 j x u hx' hu).1, (h4 j x u hx' hu).2⟩⟩
    · have hbe : b = σ.bs.length := by have := get_lt hb'; simp at this; omega
      subst hbe
      have he : (ty, xs) = (ty', xs') := by simpa using hb'
      injection he with e1 e2
      subst e1 e2
      rw [hβ']
      refine ⟨h.low, us, hnew, hl, fun j x u hx' hu => ⟨?_, (hx j x u hx' hu).2⟩⟩
      have s0 : Step E σ σ w (w.alloc (.cells us.toArray ty)) G G := ⟨hb.size, fun b hb' => hb.block b (Nat.lt_of_lt_of_le hb'.1 h.low), Nat.le_refl _, Nat.le_refl _, fun _ _ => rfl, fun _ _ => rfl,
        fun i v' t' hi hv => ⟨v', t', hv, Nat.le_refl _, fun _ => ⟨rfl, fun b hb' => (h.ftlt i b (by rw [hv]; simp) hb').2, fun b hb' => ⟨hb', hb.block b (h.ftlt i b (by rw [hv]; simp) hb').2⟩⟩⟩⟩
      exact h'.leaf s (h.leaf s0 (hx j x u hx' hu).1)
  · have hb1' : b ≤ σ.bs.length := by simpa [Nat.lt_succ_iff] using hb1
    have hb2' : b' ≤ σ.bs.length := by simpa [Nat.lt_succ_iff] using hb2
    rcases Nat.lt_or_ge b σ.bs.length with hbl | hbl <;> rcases Nat.lt_or_ge b' σ.bs.length with hbl' | hbl'
    · rw [hβ b hbl, hβ b' hbl'] at e
      exact h.inj b b' hbl hbl' e
    · rw [hβ b hbl, show b' = σ.bs.length by omega, hβ'] at e
      have := hlt' b hbl
      omega
    · rw [hβ b' hbl', show b = σ.bs.length by omega, hβ'] at e
      have := hlt' b' hbl'
      omega
    · omega
  · have hb1' : b ≤ σ.bs.length := by simpa [Nat.lt_succ_iff] using hb1
    rw [hft] at hb2
    rcases Nat.lt_or_ge b σ.bs.length with hbl | hbl
    · rw [hβ b hbl] at hb2
      exact h.boxft b i hbl hi hb2
    · rw [show b = σ.bs.length by omega, hβ'] at hb2
      have := (h.ftlt i _ hi hb2).2
      omega
  · rw [hvl, hft]; exact h'.objs i v t hi
  · rw [hft]; exact h'.disj
  · rw [hft]; exact h'.ftlt
/-- A box is written. -/
theorem Rel.setbox (h : Rel E N σ a w G) {b : Nat} {ty : TypeId} {xs xs' : List Leaf} {us' : List Value} {w' : World} (hb : σ.bs[b]? = some (ty, xs)) (hbel : Same E w w') (hblk : ∀ k, k ≠ G.β b → w'.heap[k]? = w.heap[k]?) (hnew : w'.heap[G.β b]? = some (.cells us'.toArray ty (0, 0)))
    (hl : us'.length = xs'.length) (hx : ∀ (j : Nat) (x : Leaf) (u : Value), xs'[j]? = some x → us'[j]? = some u → Holds G σ E w x u ∧ u.oneCell' = true) : Rel E N { σ with bs := σ.bs.set b (ty, xs') } a w' G := by
  have hbl := get_lt hb
  have s : Step E σ { σ with bs := σ.bs.set b (ty, xs') } w w' G G := ⟨hbel.size, fun k hk => hbel.block k hk, Nat.le_refl _, by simp, fun _ _ => rfl, fun _ _ => rfl,
    fun i v' t' hi hv => ⟨v', t', hv, Nat.le_refl _, fun _ => ⟨rfl, fun k hk => (h.ftlt i k (by rw [show σ.ob i = some (v', t') from hv]; simp) hk).2, fun k hk => ⟨hk, hblk k fun e => h.boxft b i hbl (by rw [show σ.ob i = some (v', t') from hv]; simp) (by rw [← e]; exact hk)⟩⟩⟩⟩
  refine ⟨h.below.trans hbel, h.dfr, h.nsz, fun k => (h.tmps k).step fun x u hx => h.leaf s hx, fun c ty' ys hc => ?_, fun c c' h1 h2 => h.inj c c' (by simpa using h1) (by simpa using h2), fun c i h1 => h.boxft c i (by simpa using h1), fun i v t hi => ?_, h.disj, fun i k hi hk => ⟨(h.ftlt i k hi hk).1, Nat.lt_of_lt_of_le (h.ftlt i k hi hk).2 hbel.size⟩, h.lent⟩
  · by_cases hcb : b = c
    · subst hcb
      have he : (ty, xs') = (ty', ys) := by simpa [hbl] using hc
      injection he with e1 e2
      subst e1 e2
      obtain ⟨h1, -⟩ := h.boxes b ty xs hb
      exact ⟨h1, us', hnew, hl, fun j x u hx' hu => ⟨h.leaf s (hx j x u hx' hu).1, (hx j x u hx' hu).2⟩⟩
    · have hc' : σ.bs[c]? = some (ty', ys) := by rw [← hc]; exact (List.getElem?_set_ne hcb).symm
      obtain ⟨h1, us, h2, h3, h4⟩ := h.boxes c ty' ys hc'
      exact ⟨h1, us, (hblk _ fun e => hcb (h.inj c b (get_lt hc') hbl e).symm).trans h2, h3, fun j x u hx' hu => ⟨h.leaf s (h4 j x u hx' hu).1, (h4 j x u hx' hu).2⟩⟩
  · obtain ⟨h1, h2, h3⟩ := h.objs i v t hi
    exact ⟨h1, h2.frame fun k hk => hblk k fun e => h.boxft b i hbl (by rw [show σ.ob i = some (v, t) from hi]; simp) (by rw [← e]; exact hk), h3⟩
/-- Objects come and go: what is kept of them lies in blocks that were not written. -/
theorem Rel.turn (h : Rel E N σ a w G) {σ' : VS} {w' : World} {G' : Ghost} (D : Nat → Prop) (htm : σ'.tm = σ.tm) (hbs : σ'.bs = σ.bs) (hβ : G'.β = G.β) (hbel : Same E w w') (hblk : ∀ k, k < w.heap.size → ¬ D k → w'.heap[k]? = w.heap[k]?) (hD : ∀ b, b < σ.bs.length → ¬ D (G.β b))
    (hnx : σ.nx ≤ σ'.nx) (hvl : ∀ i, i < σ.nx → G'.vl i = G.vl i)
    (hob : ∀ i v' t', σ'.ob i = some (v', t') → (σ.ob i = some (v', t') ∧ (∀ b, G'.ft i b ↔ G.ft i b) ∧ ∀ b, G.ft i b → ¬ D b) ∨
      (i < σ'.nx ∧ (i < σ.nx → ∃ v t, σ.ob i = some (v, t) ∧ v < v') ∧ Own w' 0 t' (G'.vl i) (G'.ft i) ∧ (∃ ty es, t' = .seq ty es) ∧ (∀ b, G'.ft i b → (E.B ≤ b ∨ E.ln b) ∧ b < w'.heap.size) ∧ ∀ b, G'.ft i b → ∀ c, c < σ.bs.length → G.β c ≠ b))
    (hdisj : ∀ i j b, σ'.ob i ≠ none → σ'.ob j ≠ none → i ≠ j → G'.ft i b → ¬ G'.ft j b) : Rel E N σ' a w' G' ∧ ∀ x u, Holds G σ E w x u → Holds G' σ' E w' x u := by
  have s : Step E σ σ' w w' G G' := ⟨hbel.size, fun k hk => hbel.block k hk, hnx, by rw [hbs]; exact Nat.le_refl _, hvl, fun b _ => by rw [hβ], fun i v' t' hi hv => by
    rcases hob i v' t' hv with ⟨h1, h2, h3⟩ | ⟨h1, h2, -⟩
    · exact ⟨v', t', h1, Nat.le_refl _, fun _ => ⟨rfl, fun b hb => (h.ftlt i b (by rw [h1]; simp) hb).2, fun b hb => ⟨(h2 b).2 hb, hblk b (h.ftlt i b (by rw [h1]; simp) hb).2 (h3 b hb)⟩⟩⟩
    · obtain ⟨v, t, h3, h4⟩ := h2 hi
      exact ⟨v, t, h3, Nat.le_of_lt h4, fun e => absurd e (Nat.ne_of_lt h4)⟩⟩
  refine ⟨?_, fun x u hx => h.leaf s hx⟩
  refine ⟨h.below.trans hbel, h.dfr, h.nsz, fun k => by rw [htm]; exact (h.tmps k).step fun x u hx => h.leaf s hx, fun b ty xs hb => ?_, by rw [hbs, hβ]; exact h.inj, fun b i hb hi hf => ?_, fun i v t hi => ?_, hdisj, fun i b hi hb => ?_, ⟨Nat.le_trans h.lent.1 hnx, fun i hi => (hvl i (Nat.lt_of_lt_of_le hi h.lent.1)).trans (h.lent.2 i hi)⟩⟩
  · rw [hbs] at hb
    obtain ⟨h1, us, h2, h3, h4⟩ := h.boxes b ty xs hb
    rw [hβ]
    exact ⟨h1, us, (hblk _ (lt_of_block h2) (hD b (get_lt hb))).trans h2, h3, fun j x u hx hu => ⟨h.leaf s (h4 j x u hx hu).1, (h4 j x u hx hu).2⟩⟩
  · rw [hbs] at hb
    rw [hβ] at hf
    obtain ⟨⟨v', t'⟩, hv⟩ := Option.ne_none_iff_exists'.1 hi
    rcases hob i v' t' hv with ⟨h1, h2, h3⟩ | ⟨-, -, -, -, -, h6⟩
    · exact h.boxft b i hb (by rw [h1]; simp) ((h2 _).1 hf)
    · exact h6 _ hf b hb rfl
  · rcases hob i v t hi with ⟨h1, h2, h3⟩ | ⟨h1, -, h3, h4, -⟩
    · obtain ⟨h4, h5, h6⟩ := h.objs i v t h1
      rw [hvl i h4]
      exact ⟨Nat.lt_of_lt_of_le h4 hnx, (h5.frame fun b hb => hblk b (h.ftlt i b (by rw [h1]; simp) hb).2 (h3 b hb)).mono fun b hb => (h2 b).2 hb, h6⟩
    · exact ⟨h1, h3, h4⟩
  · obtain ⟨⟨v', t'⟩, hv⟩ := Option.ne_none_iff_exists'.1 hi
    rcases hob i v' t' hv with ⟨h1, h2, h3⟩ | ⟨-, -, -, -, h5, -⟩
    · have := h.ftlt i b (by rw [h1]; simp) ((h2 b).1 hb)
      exact ⟨this.1, Nat.lt_of_lt_of_le this.2 hbel.size⟩
    · exact h5 b hb
end Go.Proofs.Ytlnjgoommpeioaa.V
