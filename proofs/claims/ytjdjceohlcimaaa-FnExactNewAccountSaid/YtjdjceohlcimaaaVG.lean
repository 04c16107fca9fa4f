/- States told by trees: an empty slice as an object, states written out, small helps for walks. -/
import Derived.Test.YtjdjceohlcimaaaVF
namespace Go.Proofs.Ytjdjceohlcimaaa.V
open Go Go.RowKit
set_option linter.unusedVariables false
variable {P : Program} {E : Env} {N nb : Nat} {σ σ' τ : VS} {o : Oper} {a : Act} {w : World} {G : Ghost} {Q : Exit → Act → World → Prop} {K : Act → World → Prop}
theorem Rel.newnil (h : Rel E N σ a w G) {ty : TypeId} {n : Nat} (hp : 0 < n) (hz : Sz ty n) : ∃ G', Rel E N (σ.new (.seq ty [])) a w G' ∧ G'.vl σ.nx = .slice none 0 0 ∧ G'.β = G.β ∧ ∀ x u, Holds G σ E w x u → Holds G' (σ.new (.seq ty [])) E w x u := by
  obtain ⟨G', h1, ⟨h2, -, h3⟩, -, h4⟩ := h.renew [] (fun x hx => by cases hx) (w' := w) (t := .seq ty []) (v := .slice none 0 0) (F := fun _ => False) (fun _ => False) (Same.refl _ _) (fun _ _ _ => rfl) (fun b hb => hb.elim)
    (Own.seq (es := []) n hp hz (fun e he => by cases he) [] (World.ownsRow_nil _ _ _ _) (fun _ _ => False) (fun k e j t u h => by simp at h) (fun u hu => by cases hu) (fun b hb => by cases hb) (fun i b hb => hb.elim) (fun i b hb => hb.elim) fun i j b hb => hb.elim) ⟨_, _, rfl⟩ (fun b hb => hb.elim)
  exact ⟨G', h1, h2, h3, h4⟩
/-- An empty slice in a slot is an object. -/
theorem SV.nltm {s kk : Nat} {ty : TypeId} (hk : σ.nx = kk) (hs : σ.tm s = V.one (.nl ty)) (hN : s < N) (k : SV E N ((σ.new (.seq ty [])).put s (V.one (.hd kk))) K) : SV E N σ K := fun a w G h => by
  subst hk
  have h1 := h.tmps s
  rw [hs, vone] at h1
  obtain ⟨⟨h2, n, h3, h4⟩, -⟩ := h1
  obtain ⟨G', k1, k2, -, -⟩ := h.newnil h3 h4
  have k3 := k1.put (d := s) (v := V.one (.hd σ.nx)) (u := a.tmps.getD s undef) hN (vone.2 ⟨⟨Nat.lt_succ_self _, by rw [h2, k2]⟩, .inr (by rw [h2]; rfl)⟩)
  have e : a.put (some s) (a.tmps.getD s undef) = a := by
    have hs' : s < a.tmps.size := by rw [h.nsz]; exact hN
    cases a with
    | mk tmps defers =>
      have : tmps.setIfInBounds s (tmps.getD s undef) = tmps := by
        apply Array.ext_getElem?
        intro i
        rw [Array.getElem?_setIfInBounds]
        split
        · rename_i hi; subst hi
          simp at hs'
          simp [hs']
        · rfl
      show Act.mk _ _ = _
      rw [this]
  rw [e] at k3
  exact k a w G' k3
/-- An empty slice in a box is an object. -/
theorem SV.nlbox {b j kk : Nat} {ty ty' : TypeId} {xs : List Leaf} (hb : σ.bs[b]? = some (ty', xs)) (hk : σ.nx = kk) (hj : xs[j]? = some (.nl ty)) {ys : List Leaf} (hy : xs.set j (.hd kk) = ys) (k : SV E N ((σ.new (.seq ty [])).setb b ty' ys) K) : SV E N σ K := fun a w G h => by
  subst hk
  subst hy
  obtain ⟨hB, us, h1, h2, h3⟩ := h.boxes b ty' xs hb
  have hjl := get_lt hj
  obtain ⟨⟨⟨h4, n, h5, h6⟩, -⟩, -⟩ := h3 j _ us[j] hj (List.getElem?_eq_getElem (by omega))
  obtain ⟨G', k1, k2, hβ, k3⟩ := h.newnil h5 h6
  have k4 := k1.setbox (b := b) (ty := ty') (xs := xs) (xs' := xs.set j (.hd σ.nx)) (us' := us) (w' := w) hb (Same.refl _ _) (fun _ _ => rfl) (by rw [hβ]; exact h1) (by simpa using h2) (fun q x u hq hu => by
    by_cases hqj : j = q
    · subst hqj
      rw [List.getElem?_set_self hjl] at hq
      have hu' : us[j] = u := by rw [List.getElem?_eq_getElem (by omega)] at hu; exact Option.some.inj hu
      rw [← Option.some.inj hq, ← hu', h4]
      exact ⟨⟨⟨Nat.lt_succ_self _, k2.symm⟩, .inr rfl⟩, rfl⟩
    · rw [List.getElem?_set_ne hqj] at hq
      exact ⟨k3 x u (h3 q x u hq hu).1, (h3 q x u hq hu).2⟩)
  exact k a w G' k4
/-! ### States written out -/
def VS.nil : VS := ⟨fun _ => V.one .dead, [], fun _ => none, 0⟩
theorem le_nil {ρ : Nat → Nat} (s : Nat) : V.le σ τ ρ (σ.tm s) (VS.nil.tm s) := .inl rfl
theorem le_put {ρ : Nat → Nat} {τ' : VS} {d : Nat} {v : V} (h : ∀ s, V.le σ τ ρ (σ.tm s) (τ'.tm s)) (hv : V.le σ τ ρ (σ.tm d) v) (s : Nat) : V.le σ τ ρ (σ.tm s) ((τ'.put d v).tm s) := by
  show V.le σ τ ρ (σ.tm s) (bif Nat.beq s d then v else τ'.tm s)
  cases hb : Nat.beq s d with
  | true => rw [nbeq.1 hb]; exact hv
  | false => exact h s
theorem le_box {ρ : Nat → Nat} {τ' : VS} {ty : TypeId} {xs : List Leaf} (h : ∀ s, V.le σ τ ρ (σ.tm s) (τ'.tm s)) (s : Nat) : V.le σ τ ρ (σ.tm s) ((τ'.box ty xs).tm s) := h s
theorem le_new {ρ : Nat → Nat} {τ' : VS} {t : T} (h : ∀ s, V.le σ τ ρ (σ.tm s) (τ'.tm s)) (s : Nat) : V.le σ τ ρ (σ.tm s) ((τ'.new t).tm s) := h s
theorem V.le.flat {ρ : Nat → Nat} {ag : Bool} {xs ys : List Leaf} {v : V} (h : v = V.flat ag xs) (l : leafs σ τ ρ xs ys) : V.le σ τ ρ v (V.flat ag ys) := .inr ⟨ag, xs, ys, h, rfl, l⟩
theorem V.le.one {ρ : Nat → Nat} {x y : Leaf} {v : V} (h : v = V.one x) (l : Leaf.le σ τ ρ x y) : V.le σ τ ρ v (V.one y) := .inr ⟨false, [x], [y], h, rfl, l, trivial⟩
/-- Boxes, one by one. -/
def boxesLe (σ τ : VS) (ρ : Nat → Nat) : List (TypeId × List Leaf) → List (TypeId × List Leaf) → Prop
  | _, [] => True
  | x :: xs, y :: ys => (x.1 = y.1 ∧ leafs σ τ ρ x.2 y.2) ∧ boxesLe σ τ ρ xs ys
  | [], _ :: _ => False
theorem boxesLe.get {ρ : Nat → Nat} : ∀ {xs ys : List (TypeId × List Leaf)}, boxesLe σ τ ρ xs ys → ys.length ≤ xs.length ∧ ∀ (b : Nat) (ty : TypeId) (zs : List Leaf), ys[b]? = some (ty, zs) → ∃ xs', xs[b]? = some (ty, xs') ∧ leafs σ τ ρ xs' zs
  | xs, [], _ => ⟨Nat.zero_le _, fun b ty zs h => by simp at h⟩
  | x :: xs, y :: ys, h => by
    obtain ⟨h1, h2⟩ := h.2.get
    refine ⟨by simpa using h1, fun b ty zs hb => ?_⟩
    cases b with
    | zero =>
      cases hb
      obtain ⟨e, hl⟩ := h.1
      obtain ⟨xt, xl⟩ := x
      have : xt = ty := e
      subst this
      exact ⟨xl, rfl, hl⟩
    | succ b => exact h2 b ty zs (by simpa using hb)
/-- Objects 0 .. n-1 of τ, one by one. -/
def objsLe (σ τ : VS) (ρ : Nat → Nat) : Nat → Prop
  | 0 => True
  | n + 1 => (τ.ob n = none ∨ ∃ ver t, τ.ob n = some (ver, t) ∧ (σ.ob (ρ n)).map (·.2) = some t ∧ ρ n < σ.nx) ∧ objsLe σ τ ρ n
theorem objsLe.get {ρ : Nat → Nat} : ∀ {n : Nat}, objsLe σ τ ρ n → ∀ i, i < n → (τ.ob i = none ∨ ∃ ver t, τ.ob i = some (ver, t) ∧ (σ.ob (ρ i)).map (·.2) = some t ∧ ρ i < σ.nx)
  | n + 1, h, i, hi => by
    rcases Nat.lt_or_ge i n with hl | hl
    · exact h.2.get i hl
    · have : i = n := by omega
      subst this; exact h.1
theorem VS.le.mk' {ρ : Nat → Nat} (tm : ∀ s, V.le σ τ ρ (σ.tm s) (τ.tm s)) (bx : boxesLe σ τ ρ σ.bs τ.bs) (ob : objsLe σ τ ρ τ.nx) (hnx : ∀ i, τ.ob i ≠ none → i < τ.nx) (inj : ∀ i j, i < τ.nx → j < τ.nx → ρ i = ρ j → i = j) : VS.le σ τ ρ :=
  ⟨tm, bx.get.1, bx.get.2, fun i ver t hi => by
    have hlt := hnx i (by rw [hi]; simp)
    rcases ob.get i hlt with h | ⟨ver', t', h1, h2, h3⟩
    · rw [h] at hi; cases hi
    · rw [h1] at hi
      cases hi
      obtain ⟨⟨v, t2⟩, h4, h5⟩ := Option.map_eq_some_iff.1 h2
      exact ⟨hlt, h3, v, by rw [h4]; exact congrArg some (Prod.ext rfl h5)⟩, fun i j hi hj => inj i j (hnx i hi) (hnx j hj)⟩
theorem nil_ob (i : Nat) : VS.nil.ob i ≠ none → i < VS.nil.nx := fun h => absurd rfl h
theorem new_ob {t : T} (h : ∀ i, τ.ob i ≠ none → i < τ.nx) (i : Nat) : (τ.new t).ob i ≠ none → i < (τ.new t).nx := fun hi => by
  by_cases e : i = τ.nx
  · rw [e]; exact Nat.lt_succ_self _
  · have : (τ.new t).ob i = τ.ob i := by
      show (bif Nat.beq i τ.nx then _ else τ.ob i) = _
      rw [nbne e]; rfl
    rw [this] at hi
    exact Nat.lt_succ_of_lt (h i hi)
theorem inj_list {l : List Nat} (h : l.Nodup) (i j : Nat) (hi : i < l.length) (hj : j < l.length) (e : l.getD i 0 = l.getD j 0) : i = j := by
  rw [List.getD_eq_getElem?_getD, List.getD_eq_getElem?_getD, List.getElem?_eq_getElem hi, List.getElem?_eq_getElem hj] at e
  have e' : l[i] = l[j] := by simpa using e
  rcases Nat.lt_trichotomy i j with hl | hl | hl
  · exact absurd e' ((List.pairwise_iff_getElem.1 h) i j hi hj hl)
  · exact hl
  · exact absurd e'.symm ((List.pairwise_iff_getElem.1 h) j i hj hi hl)
theorem map_at {α : Type} {f : α → List T} {L : List α} {k : Nat} {x : α} (h : L[k]? = some x) : (L.map f)[k]? = some (f x) := by rw [List.getElem?_map, h]; rfl
/-- A truth value is the one or the other. -/
theorem SV.split {d : Nat} {c : Bool} (hv : σ.tm d = V.one (.sc (.bool c))) (ht : c = true → SV E N (σ.put d (V.one (.sc (.bool true)))) K) (hf : c = false → SV E N (σ.put d (V.one (.sc (.bool false)))) K) : SV E N σ K := by
  have e : σ.put d (V.one (.sc (.bool c))) = σ := by
    have hf : (fun s => bif Nat.beq s d then V.one (.sc (.bool c)) else σ.tm s) = σ.tm := by
      funext s
      cases hb : Nat.beq s d with
      | true => rw [Nat.eq_of_beq_eq_true hb, hv]; rfl
      | false => rfl
    show (⟨fun s => bif Nat.beq s d then V.one (.sc (.bool c)) else σ.tm s, σ.bs, σ.ob, σ.nx⟩ : VS) = σ
    rw [hf]
  cases c with
  | true => rw [← e]; exact ht rfl
  | false => rw [← e]; exact hf rfl
theorem put_same {d : Nat} {v : V} (hv : σ.tm d = v) : σ.put d v = σ := by
  have hf : (fun s => bif Nat.beq s d then v else σ.tm s) = σ.tm := by
    funext s
    cases hb : Nat.beq s d with
    | true => rw [Nat.eq_of_beq_eq_true hb, hv]; rfl
    | false => rfl
  show (⟨fun s => bif Nat.beq s d then v else σ.tm s, σ.bs, σ.ob, σ.nx⟩ : VS) = σ
  rw [hf]
/-- In a region whose order is drawn: a truth value is the one or the other. -/
theorem DW.split {d : Nat} {c : Bool} {fr : List Nat} {cl : Bool} {Ψ : World → Ghost → Act → World → Prop} (hv : σ.tm d = V.one (.sc (.bool c))) (ht : c = true → DW E N τ fr cl (σ.put d (V.one (.sc (.bool true)))) Ψ) (hf : c = false → DW E N τ fr cl (σ.put d (V.one (.sc (.bool false)))) Ψ) : DW E N τ fr cl σ Ψ := by
  have e := put_same hv
  cases c with
  | true => rw [← e]; exact ht rfl
  | false => rw [← e]; exact hf rfl
theorem ok_pickT {c x y : Operand} {v : V} (ho : o.op = .pick c x y) (hc : σ.ev c = V.one (.sc (.bool true))) (hx : σ.ev x = v) : OpL P E N nb σ o v :=
  fun a w G h => ⟨a.eval x, fun v' _ => by simp [execOp, ho, h.sc hc, asBool], by rw [← hx]; exact h.ev x⟩
theorem ok_pickF {c x y : Operand} {v : V} (ho : o.op = .pick c x y) (hc : σ.ev c = V.one (.sc (.bool false))) (hx : σ.ev y = v) : OpL P E N nb σ o v :=
  fun a w G h => ⟨a.eval y, fun v' _ => by simp [execOp, ho, h.sc hc, asBool], by rw [← hx]; exact h.ev y⟩
end Go.Proofs.Ytjdjceohlcimaaa.V
