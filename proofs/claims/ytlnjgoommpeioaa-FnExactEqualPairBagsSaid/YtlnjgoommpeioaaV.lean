/- Data as trees, how they lie in memory (read; owned in blocks of the call's own), states of a call told by trees, and what a step leaves as it was; no function of program or reference is walked here. -/
import Derived.Test.YtlnjgoommpeioaaProg
import Derived.WalkKit
import Derived.Below
import Derived.Lib.Hide
import Derived.OwnWalk
import Derived.Laws.OwnMore
import Derived.Deep.AppendLies
import Derived.Lib.ReflectliteSwap
namespace Go.Proofs.Ytlnjgoommpeioaa.V
open Go Go.RowKit
set_option linter.unusedVariables false

/-- A datum: any one cell, a value of one cell, a slice with its elements (each a list of cells). -/
inductive T where
  | any
  | lit (u : Value)
  | seq (ty : TypeId) (es : List (List T))

/-- How many cells a type's value has. -/
def Sz (ty : TypeId) (n : Nat) : Prop := ∃ i, Try.prog.info? ty = some i ∧ i.size = n
theorem Sz.eq {ty : TypeId} {n m : Nat} (h : Sz ty n) (k : Sz ty m) : n = m := by
  obtain ⟨i, h1, h2⟩ := h
  obtain ⟨j, k1, k2⟩ := k
  rw [h1] at k1
  cases k1
  exact h2.symm.trans k2
/-- The value may be read as the datum; all that is read lies in cells that are ok. -/
inductive Inn (ok : Nat → Prop) (w : World) : T → Value → Prop
  | any {u : Value} (h : u.oneCell' = true) : Inn ok w .any u
  | lit {u : Value} (h : u.oneCell' = true) : Inn ok w (.lit u) u
  | seq {ty : TypeId} {es : List (List T)} {a : Option Addr} {c : Nat} (n : Nat) (hp : 0 < n) (hz : Sz ty n) (hn : ∀ e ∈ es, e.length = n) (hc : es.length ≤ c) (hm : c ≤ maxLen) (h0 : a = none → c = 0)
      (b o : Nat) (us : Nat → Value) (ha : ∀ ad, a = some ad → es ≠ [] → ad = ⟨b, o, none⟩)
      (hb : es ≠ [] → ok b ∧ b < w.heap.size)
      (hcell : ∀ k e j t, es[k]? = some e → e[j]? = some t → w.cell? ⟨b, o + (k * n + j), none⟩ = some (us (k * n + j)))
      (hr : ∀ k e j t, es[k]? = some e → e[j]? = some t → Inn ok w t (us (k * n + j))) : Inn ok w (.seq ty es) (.slice a es.length c)

/-- The value is the datum in blocks of the call's own (from B on): F holds of each of them. -/
inductive Own (w : World) (B : Nat) : T → Value → (Nat → Prop) → Prop
  | any {u : Value} {F : Nat → Prop} (h : u.oneCell' = true) : Own w B .any u F
  | lit {u : Value} {F : Nat → Prop} (h : u.oneCell' = true) : Own w B (.lit u) u F
  | seq {ty : TypeId} {es : List (List T)} {v : Value} {F : Nat → Prop} (n : Nat) (hp : 0 < n) (hz : Sz ty n) (hn : ∀ e ∈ es, e.length = n) (xs : List Value) (hown : w.ownsRow B ty n v es.length xs) (Gs : Nat → Nat → Prop)
      (hr : ∀ k e j t u, es[k]? = some e → e[j]? = some t → xs[k * n + j]? = some u → Own w B t u (Gs (k * n + j)))
      (hone : ∀ u ∈ xs, u.oneCell' = true)
      (hF : ∀ b, v.ownBlock = some b → F b) (hG : ∀ i b, Gs i b → F b) (hne : ∀ i b, Gs i b → v.ownBlock ≠ some b) (hd : ∀ i j b, Gs i b → Gs j b → i = j) : Own w B (.seq ty es) v F

theorem lt_blk {w : World} {b j : Nat} {u : Value} (h : w.cell? ⟨b, j, none⟩ = some u) : b < w.heap.size := by
  rcases Nat.lt_or_ge b w.heap.size with h' | h'
  · exact h'
  · simp [World.cell?, Array.getElem?_eq_none h'] at h
theorem at_lt {n k j L : Nat} (hk : k < L) (hj : j < n) : k * n + j < L * n := by
  have h1 : (k + 1) * n ≤ L * n := Nat.mul_le_mul_right n hk
  rw [Nat.add_mul, Nat.one_mul] at h1
  omega
theorem get_lt {α : Type} {l : List α} {k : Nat} {x : α} (h : l[k]? = some x) : k < l.length := (List.getElem?_eq_some_iff.1 h).1
theorem get_mem {α : Type} {l : List α} {k : Nat} {x : α} (h : l[k]? = some x) : x ∈ l := List.mem_of_getElem? h

theorem Inn.frame {ok ok' : Nat → Prop} {w w' : World} {t : T} {v : Value} (h : Inn ok w t v) (hs : w.heap.size ≤ w'.heap.size) (hk : ∀ b, ok b → b < w.heap.size → ok' b ∧ w'.heap[b]? = w.heap[b]?) : Inn ok' w' t v := by
  induction h with
  | any h => exact .any h
  | lit h => exact .lit h
  | @seq ty es a c n hp hz hn hc hm h0 b o us ha hb hcell hr ih =>
    refine .seq n hp hz hn hc hm h0 b o us ha (fun h => ?_) (fun k e j t h1 h2 => ?_) ih
    · obtain ⟨h1, h2⟩ := hb h
      exact ⟨(hk b h1 h2).1, Nat.lt_of_lt_of_le h2 hs⟩
    · have hne : es ≠ [] := fun h => by rw [h] at h1; simp at h1
      obtain ⟨h3, h4⟩ := hb hne
      exact (World.cell?_of_block (hk b h3 h4).2).trans (hcell k e j t h1 h2)
theorem Inn.one {ok : Nat → Prop} {w : World} {t : T} {v : Value} (h : Inn ok w t v) : v.oneCell' = true := by
  cases h with
  | any h => exact h
  | lit h => exact h
  | seq => rfl
theorem ownsRow_one {w : World} {B : Nat} {T : TypeId} {k n : Nat} {v : Value} {xs : List Value} (h : w.ownsRow B T k v n xs) : v.oneCell' = true := by
  obtain ⟨-, ⟨rfl, -⟩ | ⟨g, c, cur, rfl, -⟩⟩ := h <;> rfl
theorem Own.one {w : World} {B : Nat} {t : T} {v : Value} {F : Nat → Prop} (h : Own w B t v F) : v.oneCell' = true := by
  cases h with
  | any h => exact h
  | lit h => exact h
  | seq n hp hz hn xs hown => exact ownsRow_one hown
theorem ownsRow_heap {w w' : World} {B : Nat} {T : TypeId} {k n : Nat} {v : Value} {xs : List Value} (h : w.ownsRow B T k v n xs) (hs : ∀ b, v.ownBlock = some b → w'.heap[b]? = w.heap[b]?) : w'.ownsRow B T k v n xs := by
  obtain ⟨h1, h0 | ⟨g, cap, cur, rfl, hB, hh, h2⟩⟩ := h
  · exact ⟨h1, .inl h0⟩
  · exact ⟨h1, .inr ⟨g, cap, cur, rfl, hB, (hs g rfl).trans hh, h2⟩⟩
theorem Own.frame {w w' : World} {B : Nat} {t : T} {v : Value} {F : Nat → Prop} (h : Own w B t v F) (hk : ∀ b, F b → w'.heap[b]? = w.heap[b]?) : Own w' B t v F := by
  induction h with
  | any h => exact .any h
  | lit h => exact .lit h
  | seq n hp hz hn xs hown Gs hr hone hF hG hne hd ih =>
    exact .seq n hp hz hn xs (ownsRow_heap hown fun b hb => hk b (hF b hb)) Gs (fun k e j t u h1 h2 h3 => ih k e j t u h1 h2 h3 fun b hb => hk b (hG _ b hb)) hone hF hG hne hd
theorem Own.mono {w : World} {B : Nat} {t : T} {v : Value} {F F' : Nat → Prop} (h : Own w B t v F) (hk : ∀ b, F b → F' b) : Own w B t v F' := by
  cases h with
  | any h => exact .any h
  | lit h => exact .lit h
  | seq n hp hz hn xs hown Gs hr hone hF hG hne hd => exact .seq n hp hz hn xs hown Gs hr hone (fun b hb => hk b (hF b hb)) (fun i b hb => hk b (hG i b hb)) hne hd
theorem ownsRow_lower {w : World} {B B' : Nat} {T : TypeId} {k n : Nat} {v : Value} {xs : List Value} (h : w.ownsRow B T k v n xs) (hb : B' ≤ B) : w.ownsRow B' T k v n xs := by
  obtain ⟨h1, h0 | ⟨g, cap, cur, rfl, hB, h2⟩⟩ := h
  · exact ⟨h1, .inl h0⟩
  · exact ⟨h1, .inr ⟨g, cap, cur, rfl, Nat.le_trans hb hB, h2⟩⟩
theorem Own.lower {w : World} {B B' : Nat} {t : T} {v : Value} {F : Nat → Prop} (h : Own w B t v F) (hb : B' ≤ B) : Own w B' t v F := by
  induction h with
  | any h => exact .any h
  | lit h => exact .lit h
  | seq n hp hz hn xs hown Gs hr hone hF hG hne hd ih => exact .seq n hp hz hn xs (ownsRow_lower hown hb) Gs ih hone hF hG hne hd
/-- The blocks may be taken from B on, and there. -/
theorem Own.trim {w : World} {B : Nat} {t : T} {v : Value} {F : Nat → Prop} (h : Own w B t v F) : Own w B t v (fun b => F b ∧ B ≤ b ∧ b < w.heap.size) := by
  induction h with
  | any h => exact .any h
  | lit h => exact .lit h
  | seq n hp hz hn xs hown Gs hr hone hF hG hne hd ih =>
    refine .seq n hp hz hn xs hown (fun i b => Gs i b ∧ B ≤ b ∧ b < w.heap.size) ih hone (fun b hb => ⟨hF b hb, World.ownsRow.lt hown b hb⟩) (fun i b hb => ⟨hG i b hb.1, hb.2⟩) (fun i b hb => hne i b hb.1) fun i j b h1 h2 => hd i j b h1.1 h2.1
theorem own_slice {w : World} {B : Nat} {T : TypeId} {k n : Nat} {v : Value} {xs : List Value} (h : w.ownsRow B T k v n xs) : ∃ a c, v = .slice a n c ∧ n ≤ c ∧ c ≤ maxLen ∧ (a = none → c = 0) ∧ (0 < n → ∃ g, a = some ⟨g, 0, none⟩ ∧ B ≤ g ∧ g < w.heap.size ∧ (∀ j u, xs[j]? = some u → w.cell? ⟨g, j, none⟩ = some u) ∧ ∀ j, w.frozen? ⟨g, j, none⟩ = false) := by
  obtain ⟨h1, ⟨rfl, rfl⟩ | ⟨g, cap, cur, rfl, hB, hh, hc, hm, hsz, ht⟩⟩ := h
  · exact ⟨none, 0, rfl, Nat.le_refl _, Nat.zero_le _, fun _ => rfl, fun h => absurd h (Nat.lt_irrefl 0)⟩
  · refine ⟨_, _, rfl, hc, hm, fun e => by (cases e), fun _ => ⟨g, rfl, hB, lt_of_block hh, fun j u hj => ?_, fun j => by simp [World.frozen?, hh]⟩⟩
    have hjl := get_lt hj
    rw [h1] at hjl
    rw [← ht, List.getElem?_take, if_pos hjl] at hj
    simp only [World.cell?, hh]
    simpa using hj
theorem Own.inn {w : World} {B : Nat} {t : T} {v : Value} {F : Nat → Prop} (h : Own w B t v F) : Inn F w t v := by
  have key : ∀ {t v F}, Own w B t v F → ∀ F' : Nat → Prop, (∀ b, F b → F' b) → Inn F' w t v := by
    intro t v F h
    induction h with
    | any h => exact fun _ _ => .any h
    | lit h => exact fun _ _ => .lit h
    | @seq ty es v F n hp hz hn xs hown Gs hr hone hF hG hne hd ih =>
      intro F' hF'
      obtain ⟨a, c, rfl, hc, hm, h0, hg⟩ := own_slice hown
      rcases Nat.eq_zero_or_pos es.length with hq | hq
      · have hes : es = [] := List.eq_nil_of_length_eq_zero hq
        subst hes
        exact .seq n hp hz hn hc hm h0 0 0 (fun _ => .bool false) (fun _ _ h => absurd rfl h) (fun h => absurd rfl h) (fun k e j t h => by simp at h) fun k e j t h => by simp at h
      · obtain ⟨g, rfl, hB, hlt, hcell, -⟩ := hg hq
        have hxl : xs.length = es.length * n := hown.1
        have hx : ∀ k e j t, es[k]? = some e → e[j]? = some t → ∃ u, xs[k * n + j]? = some u := fun k e j t h1 h2 => by
          have h3 := at_lt (get_lt h1) (show j < n by rw [← hn e (get_mem h1)]; exact get_lt h2)
          exact ⟨xs[k * n + j], by rw [List.getElem?_eq_getElem (by omega)]⟩
        refine .seq n hp hz hn hc hm h0 g 0 (fun i => xs.getD i (.bool false)) (fun ad h _ => (Option.some.inj h).symm) (fun _ => ⟨hF' _ (hF g rfl), hlt⟩) (fun k e j t h1 h2 => ?_) fun k e j t h1 h2 => ?_
        · obtain ⟨u, hu⟩ := hx k e j t h1 h2
          rw [Nat.zero_add, hcell _ u hu, List.getD, hu]; rfl
        · obtain ⟨u, hu⟩ := hx k e j t h1 h2
          have := ih k e j t u h1 h2 hu F' fun b hb => hF' b (hG _ b hb)
          rwa [List.getD, hu]
  exact key h F fun _ h => h

/-! ### States -/
/-- What a cell or a slot holds. -/
inductive Leaf where
  | dead
  | sc (u : Value)
  | nl (ty : TypeId)
  | ro (t : T)
  | rp (es : List T)
  | hd (i : Nat)
  | nd (i ver : Nat) (t : T) (loc : Option (Nat × Nat))
  | np (i ver : Nat) (es : List T)
  | ep (i k n o : Nat)
  | bp (b o : Nat)
structure V where
  tup : Bool
  cs : List (Bool × List Leaf)
abbrev V.one (x : Leaf) : V := ⟨false, [(false, [x])]⟩
abbrev V.agg (xs : List Leaf) : V := ⟨false, [(true, xs)]⟩
def cval (ag : Bool) (us : List Value) : Value := if ag then .agg us.toArray else us.headD undef
def vval (tup : Bool) (vs : List Value) : Value := if tup then .tuple vs.toArray else vs.headD undef
structure VS where
  tm : Nat → V
  bs : List (TypeId × List Leaf)
  ob : Nat → Option (Nat × T)
  nx : Nat
structure Ghost where
  β : Nat → Nat
  vl : Nat → Value
  ft : Nat → Nat → Prop
/-- A call's beginning: the memory, the blocks that it was lent to be written, and the lent objects' values. -/
structure Env where
  w0 : World
  ln : Nat → Prop
  hln : ∀ b, ln b → b < w0.heap.size
  lv : Nat → Value
  nl : Nat
abbrev Env.B (E : Env) : Nat := E.w0.heap.size
/-- What the call may read and nobody writes. -/
def Env.old (E : Env) (b : Nat) : Prop := b < E.B ∧ ¬ E.ln b
/-- What was there is as it was, but for what was lent. -/
structure Same (E : Env) (w w' : World) : Prop where
  os : w'.os = w.os
  tape : w'.tape = w.tape
  output : w'.output = w.output
  size : w.heap.size ≤ w'.heap.size
  block : ∀ k, E.old k → w'.heap[k]? = w.heap[k]?
theorem Same.refl (E : Env) (w : World) : Same E w w := ⟨rfl, rfl, rfl, Nat.le_refl _, fun _ _ => rfl⟩
theorem Same.trans {E : Env} {a b c : World} (h : Same E a b) (k : Same E b c) : Same E a c := ⟨k.os.trans h.os, k.tape.trans h.tape, k.output.trans h.output, Nat.le_trans h.size k.size, fun i hi => (k.block i hi).trans (h.block i hi)⟩
theorem Same.of_below {E : Env} {w w' : World} (h : Below E.B w w') : Same E w w' := ⟨h.os, h.tape, h.output, h.size, fun k hk => h.block k hk.1⟩
def Holds0 (G : Ghost) (σ : VS) (E : Env) (w : World) (x : Leaf) (u : Value) : Prop := match x with
  | .dead => True
  | .sc v => u = v
  | .nl ty => u = .slice none 0 0 ∧ ∃ n, 0 < n ∧ Sz ty n
  | .ro t => Inn E.old w t u
  | .rp es => ∃ (b o : Nat) (us : Nat → Value), u = .pointer (some ⟨b, o, none⟩) ∧ E.old b ∧ ∀ j t, es[j]? = some t → w.cell? ⟨b, o + j, none⟩ = some (us j) ∧ Inn E.old w t (us j)
  | .hd i => i < σ.nx ∧ u = G.vl i
  | .nd i ver t loc => i < σ.nx ∧ (∀ v t', σ.ob i = some (v, t') → ver ≤ v) ∧ ((∃ t', σ.ob i = some (ver, t')) → Inn (G.ft i) w t u ∧ ∀ k o, loc = some (k, o) → ∃ (g N c n : Nat) (ty : TypeId) (es : List (List T)) (e : List T), σ.ob i = some (ver, .seq ty es) ∧ G.vl i = .slice (some ⟨g, 0, none⟩) N c ∧ es[k]? = some e ∧ e.length = n ∧ o < n ∧ w.cell? ⟨g, k * n + o, none⟩ = some u)
  | .np i ver es => i < σ.nx ∧ (∀ v t', σ.ob i = some (v, t') → ver ≤ v) ∧ ((∃ t', σ.ob i = some (ver, t')) → ∃ (b o : Nat) (us : Nat → Value), u = .pointer (some ⟨b, o, none⟩) ∧ G.ft i b ∧ ∀ j t, es[j]? = some t → w.cell? ⟨b, o + j, none⟩ = some (us j) ∧ Inn (G.ft i) w t (us j))
  | .ep i k n o => i < σ.nx ∧ ∃ g N c : Nat, G.vl i = .slice (some ⟨g, 0, none⟩) N c ∧ u = .pointer (some ⟨g, k * n + o, none⟩)
  | .bp b o => b < σ.bs.length ∧ u = .pointer (some ⟨G.β b, o, none⟩)
def Holds (G : Ghost) (σ : VS) (E : Env) (w : World) (x : Leaf) (u : Value) : Prop := Holds0 G σ E w x u ∧ (x = .dead ∨ u.oneCell' = true)
/-- A slot's value. -/
def VHolds (G : Ghost) (σ : VS) (E : Env) (w : World) (v : V) (u : Value) : Prop :=
  ∃ uss : List (List Value), uss.length = v.cs.length ∧ u = vval v.tup (List.zipWith (fun c us => cval c.1 us) v.cs uss) ∧
    ∀ (c : Nat) (ag : Bool) (xs : List Leaf) (us : List Value), v.cs[c]? = some (ag, xs) → uss[c]? = some us → us.length = xs.length ∧ ∀ (j : Nat) (x : Leaf) (u : Value), xs[j]? = some x → us[j]? = some u → Holds G σ E w x u
/-- The call, entered at E with N slots, stands at σ. -/
structure Rel (E : Env) (N : Nat) (σ : VS) (a : Act) (w : World) (G : Ghost) : Prop where
  below : Same E E.w0 w
  dfr : a.defers = []
  nsz : a.tmps.size = N
  tmps : ∀ s, VHolds G σ E w (σ.tm s) (a.tmps.getD s undef)
  boxes : ∀ (b : Nat) (ty : TypeId) (xs : List Leaf), σ.bs[b]? = some (ty, xs) → E.B ≤ G.β b ∧ ∃ us : List Value, w.heap[G.β b]? = some (.cells us.toArray ty (0, 0)) ∧ us.length = xs.length ∧ ∀ (j : Nat) (x : Leaf) (u : Value), xs[j]? = some x → us[j]? = some u → Holds G σ E w x u ∧ u.oneCell' = true
  inj : ∀ b b', b < σ.bs.length → b' < σ.bs.length → G.β b = G.β b' → b = b'
  boxft : ∀ b i, b < σ.bs.length → σ.ob i ≠ none → ¬ G.ft i (G.β b)
  objs : ∀ i ver t, σ.ob i = some (ver, t) → i < σ.nx ∧ Own w 0 t (G.vl i) (G.ft i) ∧ ∃ ty es, t = .seq ty es
  disj : ∀ i j b, σ.ob i ≠ none → σ.ob j ≠ none → i ≠ j → G.ft i b → ¬ G.ft j b
  ftlt : ∀ i b, σ.ob i ≠ none → G.ft i b → (E.B ≤ b ∨ E.ln b) ∧ b < w.heap.size
  lent : E.nl ≤ σ.nx ∧ ∀ i, i < E.nl → G.vl i = E.lv i
end Go.Proofs.Ytlnjgoommpeioaa.V
