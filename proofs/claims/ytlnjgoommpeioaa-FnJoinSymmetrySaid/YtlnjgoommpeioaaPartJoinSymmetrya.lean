/- Texts joined: V VR VO VL VC VE VT. -/
import Derived.Test.YtlnjgoommpeioaaProg
import Derived.WalkKit
import Derived.Below
import Derived.Lib.Hide
import Derived.OwnWalk
import Derived.Laws.OwnMore
import Derived.Deep.AppendLies
import Derived.Lib.ReflectliteSwap
import Derived.Lib.SmallJoins
/- Data as trees, how they lie in memory (read; owned in blocks of the call's own), states of a call told by trees, and what a step leaves as it was; no function of program or reference is walked here. -/
namespace Go.Proofs.Ytlnjgoommpeioaa.V
open Go Go.RowKit
set_option linter.unusedVariables false

/-- A datum: any one cell, a value of one cell, a slice with its elements (each a list of cells). -/
inductive T where
  | any
  | lit (u : Value)
  | seq (ty : TypeId) (es : List (List T))

/-- How many cells a type's value has. -/
def Sz (ty : TypeId) (n : Nat) : Prop := ∃ i, Try.prog.info? ty = some i ∧ i.size = n
theorem Sz.eq {ty : TypeId} {n m : Nat} (h : Sz ty n) (k : Sz ty m) : n = m := by
  obtain ⟨i, h1, h2⟩ := h
  obtain ⟨j, k1, k2⟩ := k
  rw [h1] at k1
  cases k1
  exact h2.symm.trans k2
/-- The value may be read as the datum; all that is read lies in cells that are ok. -/
inductive Inn (ok : Nat → Prop) (w : World) : T → Value → Prop
  | any {u : Value} (h : u.oneCell' = true) : Inn ok w .any u
  | lit {u : Value} (h : u.oneCell' = true) : Inn ok w (.lit u) u
  | seq {ty : TypeId} {es : List (List T)} {a : Option Addr} {c : Nat} (n : Nat) (hp : 0 < n) (hz : Sz ty n) (hn : ∀ e ∈ es, e.length = n) (hc : es.length ≤ c) (hm : c ≤ maxLen) (h0 : a = none → c = 0)
      (b o : Nat) (us : Nat → Value) (ha : ∀ ad, a = some ad → es ≠ [] → ad = ⟨b, o, none⟩)
      (hb : es ≠ [] → ok b ∧ b < w.heap.size)
      (hcell : ∀ k e j t, es[k]? = some e → e[j]? = some t → w.cell? ⟨b, o + (k * n + j), none⟩ = some (us (k * n + j)))
      (hr : ∀ k e j t, es[k]? = some e → e[j]? = some t → Inn ok w t (us (k * n + j))) : Inn ok w (.seq ty es) (.slice a es.length c)

/-- The value is the datum in blocks of the call's own (from B on): F holds of each of them. -/
inductive Own (w : World) (B : Nat) : T → Value → (Nat → Prop) → Prop
  | any {u : Value} {F : Nat → Prop} (h : u.oneCell' = true) : Own w B .any u F
  | lit {u : Value} {F : Nat → Prop} (h : u.oneCell' = true) : Own w B (.lit u) u F
  | seq {ty : TypeId} {es : List (List T)} {v : Value} {F : Nat → Prop} (n : Nat) (hp : 0 < n) (hz : Sz ty n) (hn : ∀ e ∈ es, e.length = n) (xs : List Value) (hown : w.ownsRow B ty n v es.length xs) (Gs : Nat → Nat → Prop)
      (hr : ∀ k e j t u, es[k]? = some e → e[j]? = some t → xs[k * n + j]? = some u → Own w B t u (Gs (k * n + j)))
      (hone : ∀ u ∈ xs, u.oneCell' = true)
      (hF : ∀ b, v.ownBlock = some b → F b) (hG : ∀ i b, Gs i b → F b) (hne : ∀ i b, Gs i b → v.ownBlock ≠ some b) (hd : ∀ i j b, Gs i b → Gs j b → i = j) : Own w B (.seq ty es) v F

theorem lt_blk {w : World} {b j : Nat} {u : Value} (h : w.cell? ⟨b, j, none⟩ = some u) : b < w.heap.size := by
  rcases Nat.lt_or_ge b w.heap.size with h' | h'
  · exact h'
  · simp [World.cell?, Array.getElem?_eq_none h'] at h
theorem at_lt {n k j L : Nat} (hk : k < L) (hj : j < n) : k * n + j < L * n := by
  have h1 : (k + 1) * n ≤ L * n := Nat.mul_le_mul_right n hk
  rw [Nat.add_mul, Nat.one_mul] at h1
  omega
theorem get_lt {α : Type} {l : List α} {k : Nat} {x : α} (h : l[k]? = some x) : k < l.length := (List.getElem?_eq_some_iff.1 h).1
theorem get_mem {α : Type} {l : List α} {k : Nat} {x : α} (h : l[k]? = some x) : x ∈ l := List.mem_of_getElem? h

theorem Inn.frame {ok ok' : Nat → Prop} {w w' : World} {t : T} {v : Value} (h : Inn ok w t v) (hs : w.heap.size ≤ w'.heap.size) (hk : ∀ b, ok b → b < w.heap.size → ok' b ∧ w'.heap[b]? = w.heap[b]?) : Inn ok' w' t v := by
  induction h with
  | any h => exact .any h
  | lit h => exact .lit h
  | @seq ty es a c n hp hz hn hc hm h0 b o us ha hb hcell hr ih =>
    refine .seq n hp hz hn hc hm h0 b o us ha (fun h => ?_) (fun k e j t h1 h2 => ?_) ih
    · obtain ⟨h1, h2⟩ := hb h
      exact ⟨(hk b h1 h2).1, Nat.lt_of_lt_of_le h2 hs⟩
    · have hne : es ≠ [] := fun h => by rw [h] at h1; simp at h1
      obtain ⟨h3, h4⟩ := hb hne
      exact (World.cell?_of_block (hk b h3 h4).2).trans (hcell k e j t h1 h2)
theorem Inn.one {ok : Nat → Prop} {w : World} {t : T} {v : Value} (h : Inn ok w t v) : v.oneCell' = true := by
  cases h with
  | any h => exact h
  | lit h => exact h
  | seq => rfl
theorem ownsRow_one {w : World} {B : Nat} {T : TypeId} {k n : Nat} {v : Value} {xs : List Value} (h : w.ownsRow B T k v n xs) : v.oneCell' = true := by
  obtain ⟨-, ⟨rfl, -⟩ | ⟨g, c, cur, rfl, -⟩⟩ := h <;> rfl
theorem Own.one {w : World} {B : Nat} {t : T} {v : Value} {F : Nat → Prop} (h : Own w B t v F) : v.oneCell' = true := by
  cases h with
  | any h => exact h
  | lit h => exact h
  | seq n hp hz hn xs hown => exact ownsRow_one hown
theorem ownsRow_heap {w w' : World} {B : Nat} {T : TypeId} {k n : Nat} {v : Value} {xs : List Value} (h : w.ownsRow B T k v n xs) (hs : ∀ b, v.ownBlock = some b → w'.heap[b]? = w.heap[b]?) : w'.ownsRow B T k v n xs := by
  obtain ⟨h1, h0 | ⟨g, cap, cur, rfl, hB, hh, h2⟩⟩ := h
  · exact ⟨h1, .inl h0⟩
  · exact ⟨h1, .inr ⟨g, cap, cur, rfl, hB, (hs g rfl).trans hh, h2⟩⟩
theorem Own.frame {w w' : World} {B : Nat} {t : T} {v : Value} {F : Nat → Prop} (h : Own w B t v F) (hk : ∀ b, F b → w'.heap[b]? = w.heap[b]?) : Own w' B t v F := by
  induction h with
  | any h => exact .any h
  | lit h => exact .lit h
  | seq n hp hz hn xs hown Gs hr hone hF hG hne hd ih =>
    exact .seq n hp hz hn xs (ownsRow_heap hown fun b hb => hk b (hF b hb)) Gs (fun k e j t u h1 h2 h3 => ih k e j t u h1 h2 h3 fun b hb => hk b (hG _ b hb)) hone hF hG hne hd
theorem Own.mono {w : World} {B : Nat} {t : T} {v : Value} {F F' : Nat → Prop} (h : Own w B t v F) (hk : ∀ b, F b → F' b) : Own w B t v F' := by
  cases h with
  | any h => exact .any h
  | lit h => exact .lit h
  | seq n hp hz hn xs hown Gs hr hone hF hG hne hd => exact .seq n hp hz hn xs hown Gs hr hone (fun b hb => hk b (hF b hb)) (fun i b hb => hk b (hG i b hb)) hne hd
theorem ownsRow_lower {w : World} {B B' : Nat} {T : TypeId} {k n : Nat} {v : Value} {xs : List Value} (h : w.ownsRow B T k v n xs) (hb : B' ≤ B) : w.ownsRow B' T k v n xs := by
  obtain ⟨h1, h0 | ⟨g, cap, cur, rfl, hB, h2⟩⟩ := h
  · exact ⟨h1, .inl h0⟩
  · exact ⟨h1, .inr ⟨g, cap, cur, rfl, Nat.le_trans hb hB, h2⟩⟩
theorem Own.lower {w : World} {B B' : Nat} {t : T} {v : Value} {F : Nat → Prop} (h : Own w B t v F) (hb : B' ≤ B) : Own w B' t v F := by
  induction h with
  | any h => exact .any h
  | lit h => exact .lit h
  | seq n hp hz hn xs hown Gs hr hone hF hG hne hd ih => exact .seq n hp hz hn xs (ownsRow_lower hown hb) Gs ih hone hF hG hne hd
/-- The blocks may be taken from B on, and there. -/
theorem Own.trim {w : World} {B : Nat} {t : T} {v : Value} {F : Nat → Prop} (h : Own w B t v F) : Own w B t v (fun b => F b ∧ B ≤ b ∧ b < w.heap.size) := by
  induction h with
  | any h => exact .any h
  | lit h => exact .lit h
  | seq n hp hz hn xs hown Gs hr hone hF hG hne hd ih =>
    refine .seq n hp hz hn xs hown (fun i b => Gs i b ∧ B ≤ b ∧ b < w.heap.size) ih hone (fun b hb => ⟨hF b hb, World.ownsRow.lt hown b hb⟩) (fun i b hb => ⟨hG i b hb.1, hb.2⟩) (fun i b hb => hne i b hb.1) fun i j b h1 h2 => hd i j b h1.1 h2.1
theorem own_slice {w : World} {B : Nat} {T : TypeId} {k n : Nat} {v : Value} {xs : List Value} (h : w.ownsRow B T k v n xs) : ∃ a c, v = .slice a n c ∧ n ≤ c ∧ c ≤ maxLen ∧ (a = none → c = 0) ∧ (0 < n → ∃ g, a = some ⟨g, 0, none⟩ ∧ B ≤ g ∧ g < w.heap.size ∧ (∀ j u, xs[j]? = some u → w.cell? ⟨g, j, none⟩ = some u) ∧ ∀ j, w.frozen? ⟨g, j, none⟩ = false) := by
  obtain ⟨h1, ⟨rfl, rfl⟩ | ⟨g, cap, cur, rfl, hB, hh, hc, hm, hsz, ht⟩⟩ := h
  · exact ⟨none, 0, rfl, Nat.le_refl _, Nat.zero_le _, fun _ => rfl, fun h => absurd h (Nat.lt_irrefl 0)⟩
  · refine ⟨_, _, rfl, hc, hm, fun e => by (cases e), fun _ => ⟨g, rfl, hB, lt_of_block hh, fun j u hj => ?_, fun j => by simp [World.frozen?, hh]⟩⟩
    have hjl := get_lt hj
    rw [h1] at hjl
    rw [← ht, List.getElem?_take, if_pos hjl] at hj
    simp only [World.cell?, hh]
    simpa using hj
theorem Own.inn {w : World} {B : Nat} {t : T} {v : Value} {F : Nat → Prop} (h : Own w B t v F) : Inn F w t v := by
  have key : ∀ {t v F}, Own w B t v F → ∀ F' : Nat → Prop, (∀ b, F b → F' b) → Inn F' w t v := by
    intro t v F h
    induction h with
    | any h => exact fun _ _ => .any h
    | lit h => exact fun _ _ => .lit h
    | @seq ty es v F n hp hz hn xs hown Gs hr hone hF hG hne hd ih =>
      intro F' hF'
      obtain ⟨a, c, rfl, hc, hm, h0, hg⟩ := own_slice hown
      rcases Nat.eq_zero_or_pos es.length with hq | hq
      · have hes : es = [] := List.eq_nil_of_length_eq_zero hq
        subst hes
        exact .seq n hp hz hn hc hm h0 0 0 (fun _ => .bool false) (fun _ _ h => absurd rfl h) (fun h => absurd rfl h) (fun k e j t h => by simp at h) fun k e j t h => by simp at h
      · obtain ⟨g, rfl, hB, hlt, hcell, -⟩ := hg hq
        have hxl : xs.length = es.length * n := hown.1
        have hx : ∀ k e j t, es[k]? = some e → e[j]? = some t → ∃ u, xs[k * n + j]? = some u := fun k e j t h1 h2 => by
          have h3 := at_lt (get_lt h1) (show j < n by rw [← hn e (get_mem h1)]; exact get_lt h2)
          exact ⟨xs[k * n + j], by rw [List.getElem?_eq_getElem (by omega)]⟩
        refine .seq n hp hz hn hc hm h0 g 0 (fun i => xs.getD i (.bool false)) (fun ad h _ => (Option.some.inj h).symm) (fun _ => ⟨hF' _ (hF g rfl), hlt⟩) (fun k e j t h1 h2 => ?_) fun k e j t h1 h2 => ?_
        · obtain ⟨u, hu⟩ := hx k e j t h1 h2
          rw [Nat.zero_add, hcell _ u hu, List.getD, hu]; rfl
        · obtain ⟨u, hu⟩ := hx k e j t h1 h2
          have := ih k e j t u h1 h2 hu F' fun b hb => hF' b (hG _ b hb)
          rwa [List.getD, hu]
  exact key h F fun _ h => h

/-! ### States -/
/-- What a cell or a slot holds. -/
inductive Leaf where
  | dead
  | sc (u : Value)
  | nl (ty : TypeId)
  | ro (t : T)
  | rp (es : List T)
  | hd (i : Nat)
  | nd (i ver : Nat) (t : T) (loc : Option (Nat × Nat))
  | np (i ver : Nat) (es : List T)
  | ep (i k n o : Nat)
  | bp (b o : Nat)
structure V where
  tup : Bool
  cs : List (Bool × List Leaf)
abbrev V.one (x : Leaf) : V := ⟨false, [(false, [x])]⟩
abbrev V.agg (xs : List Leaf) : V := ⟨false, [(true, xs)]⟩
def cval (ag : Bool) (us : List Value) : Value := if ag then .agg us.toArray else us.headD undef
def vval (tup : Bool) (vs : List Value) : Value := if tup then .tuple vs.toArray else vs.headD undef
structure VS where
  tm : Nat → V
  bs : List (TypeId × List Leaf)
  ob : Nat → Option (Nat × T)
  nx : Nat
structure Ghost where
  β : Nat → Nat
  vl : Nat → Value
  ft : Nat → Nat → Prop
/-- A call's beginning: the memory, the blocks that it was lent to be written, and the lent objects' values. -/
structure Env where
  w0 : World
  ln : Nat → Prop
  hln : ∀ b, ln b → b < w0.heap.size
  lv : Nat → Value
  nl : Nat
abbrev Env.B (E : Env) : Nat := E.w0.heap.size
/-- What the call may read and nobody writes. -/
def Env.old (E : Env) (b : Nat) : Prop := b < E.B ∧ ¬ E.ln b
/-- What was there is as it was, but for what was lent. -/
structure Same (E : Env) (w w' : World) : Prop where
  os : w'.os = w.os
  tape : w'.tape = w.tape
  output : w'.output = w.output
  size : w.heap.size ≤ w'.heap.size
  block : ∀ k, E.old k → w'.heap[k]? = w.heap[k]?
theorem Same.refl (E : Env) (w : World) : Same E w w := ⟨rfl, rfl, rfl, Nat.le_refl _, fun _ _ => rfl⟩
theorem Same.trans {E : Env} {a b c : World} (h : Same E a b) (k : Same E b c) : Same E a c := ⟨k.os.trans h.os, k.tape.trans h.tape, k.output.trans h.output, Nat.le_trans h.size k.size, fun i hi => (k.block i hi).trans (h.block i hi)⟩
theorem Same.of_below {E : Env} {w w' : World} (h : Below E.B w w') : Same E w w' := ⟨h.os, h.tape, h.output, h.size, fun k hk => h.block k hk.1⟩
def Holds0 (G : Ghost) (σ : VS) (E : Env) (w : World) (x : Leaf) (u : Value) : Prop := match x with
  | .dead => True
  | .sc v => u = v
  | .nl ty => u = .slice none 0 0 ∧ ∃ n, 0 < n ∧ Sz ty n
  | .ro t => Inn E.old w t u
  | .rp es => ∃ (b o : Nat) (us : Nat → Value), u = .pointer (some ⟨b, o, none⟩) ∧ E.old b ∧ ∀ j t, es[j]? = some t → w.cell? ⟨b, o + j, none⟩ = some (us j) ∧ Inn E.old w t (us j)
  | .hd i => i < σ.nx ∧ u = G.vl i
  | .nd i ver t loc => i < σ.nx ∧ (∀ v t', σ.ob i = some (v, t') → ver ≤ v) ∧ ((∃ t', σ.ob i = some (ver, t')) → Inn (G.ft i) w t u ∧ ∀ k o, loc = some (k, o) → ∃ (g N c n : Nat) (ty : TypeId) (es : List (List T)) (e : List T), σ.ob i = some (ver, .seq ty es) ∧ G.vl i = .slice (some ⟨g, 0, none⟩) N c ∧ es[k]? = some e ∧ e.length = n ∧ o < n ∧ w.cell? ⟨g, k * n + o, none⟩ = some u)
  | .np i ver es => i < σ.nx ∧ (∀ v t', σ.ob i = some (v, t') → ver ≤ v) ∧ ((∃ t', σ.ob i = some (ver, t')) → ∃ (b o : Nat) (us : Nat → Value), u = .pointer (some ⟨b, o, none⟩) ∧ G.ft i b ∧ ∀ j t, es[j]? = some t → w.cell? ⟨b, o + j, none⟩ = some (us j) ∧ Inn (G.ft i) w t (us j))
  | .ep i k n o => i < σ.nx ∧ ∃ g N c : Nat, G.vl i = .slice (some ⟨g, 0, none⟩) N c ∧ u = .pointer (some ⟨g, k * n + o, none⟩)
  | .bp b o => b < σ.bs.length ∧ u = .pointer (some ⟨G.β b, o, none⟩)
def Holds (G : Ghost) (σ : VS) (E : Env) (w : World) (x : Leaf) (u : Value) : Prop := Holds0 G σ E w x u ∧ (x = .dead ∨ u.oneCell' = true)
/-- A slot's value. -/
def VHolds (G : Ghost) (σ : VS) (E : Env) (w : World) (v : V) (u : Value) : Prop :=
  ∃ uss : List (List Value), uss.length = v.cs.length ∧ u = vval v.tup (List.zipWith (fun c us => cval c.1 us) v.cs uss) ∧
    ∀ (c : Nat) (ag : Bool) (xs : List Leaf) (us : List Value), v.cs[c]? = some (ag, xs) → uss[c]? = some us → us.length = xs.length ∧ ∀ (j : Nat) (x : Leaf) (u : Value), xs[j]? = some x → us[j]? = some u → Holds G σ E w x u
/-- The call, entered at E with N slots, stands at σ. -/
structure Rel (E : Env) (N : Nat) (σ : VS) (a : Act) (w : World) (G : Ghost) : Prop where
  below : Same E E.w0 w
  dfr : a.defers = []
  nsz : a.tmps.size = N
  tmps : ∀ s, VHolds G σ E w (σ.tm s) (a.tmps.getD s undef)
  boxes : ∀ (b : Nat) (ty : TypeId) (xs : List Leaf), σ.bs[b]? = some (ty, xs) → (E.B ≤ G.β b ∨ E.ln (G.β b)) ∧ ∃ us : List Value, w.heap[G.β b]? = some (.cells us.toArray ty (0, 0)) ∧ us.length = xs.length ∧ ∀ (j : Nat) (x : Leaf) (u : Value), xs[j]? = some x → us[j]? = some u → Holds G σ E w x u ∧ u.oneCell' = true
  inj : ∀ b b', b < σ.bs.length → b' < σ.bs.length → G.β b = G.β b' → b = b'
  boxft : ∀ b i, b < σ.bs.length → σ.ob i ≠ none → ¬ G.ft i (G.β b)
  objs : ∀ i ver t, σ.ob i = some (ver, t) → i < σ.nx ∧ Own w 0 t (G.vl i) (G.ft i) ∧ ∃ ty es, t = .seq ty es
  disj : ∀ i j b, σ.ob i ≠ none → σ.ob j ≠ none → i ≠ j → G.ft i b → ¬ G.ft j b
  ftlt : ∀ i b, σ.ob i ≠ none → G.ft i b → (E.B ≤ b ∨ E.ln b) ∧ b < w.heap.size
  lent : E.nl ≤ σ.nx ∧ ∀ i, i < E.nl → G.vl i = E.lv i
end Go.Proofs.Ytlnjgoommpeioaa.V
/- States told by trees: what a step leaves as it was. -/
namespace Go.Proofs.Ytlnjgoommpeioaa.V
open Go Go.RowKit
set_option linter.unusedVariables false

/-- What a change of world and objects leaves readable. -/
structure Step (E : Env) (σ σ' : VS) (w w' : World) (G G' : Ghost) : Prop where
  size : w.heap.size ≤ w'.heap.size
  old : ∀ b, E.old b → w'.heap[b]? = w.heap[b]?
  nx : σ.nx ≤ σ'.nx
  bs : σ.bs.length ≤ σ'.bs.length
  vl : ∀ i, i < σ.nx → G'.vl i = G.vl i
  β : ∀ b, b < σ.bs.length → G'.β b = G.β b
  ob : ∀ i v' t', i < σ.nx → σ'.ob i = some (v', t') → ∃ v t, σ.ob i = some (v, t) ∧ v ≤ v' ∧ (v = v' → t = t' ∧ (∀ b, G.ft i b → b < w.heap.size) ∧ ∀ b, G.ft i b → G'.ft i b ∧ w'.heap[b]? = w.heap[b]?)
theorem Holds0.step {E : Env} {σ σ' : VS} {w w' : World} {G G' : Ghost} {x : Leaf} {u : Value} (h : Holds0 G σ E w x u) (s : Step E σ σ' w w' G G') (hft : ∀ i b, σ.ob i ≠ none → G.ft i b → b < w.heap.size)
    (hrt : ∀ i g N c ty es, i < σ.nx → σ.ob i ≠ none → G.vl i = .slice (some ⟨g, 0, none⟩) N c → (∃ v, σ.ob i = some (v, .seq ty es)) → es ≠ [] → G.ft i g) : Holds0 G' σ' E w' x u := by
  cases x with
  | dead => trivial
  | sc v => exact h
  | nl ty => exact h
  | ro t => exact Inn.frame h s.size fun b hb _ => ⟨hb, s.old b hb⟩
  | rp es =>
    obtain ⟨b, o, us, h1, h2, h3⟩ := h
    exact ⟨b, o, us, h1, h2, fun j t ht => ⟨(World.cell?_of_block (s.old b h2)).trans (h3 j t ht).1, (h3 j t ht).2.frame s.size fun b hb _ => ⟨hb, s.old b hb⟩⟩⟩
  | hd i => exact ⟨Nat.lt_of_lt_of_le h.1 s.nx, h.2.trans (s.vl i h.1).symm⟩
  | nd i ver t loc =>
    refine ⟨Nat.lt_of_lt_of_le h.1 s.nx, fun v' t' hv => ?_, fun ⟨t', hv⟩ => ?_⟩
    · obtain ⟨v, t, h1, h2, -⟩ := s.ob i v' t' h.1 hv
      exact Nat.le_trans (h.2.1 v t h1) h2
    · obtain ⟨v, t1, h1, h2, h3⟩ := s.ob i ver t' h.1 hv
      have hve : v = ver := Nat.le_antisymm h2 (h.2.1 v t1 h1)
      subst hve
      obtain ⟨rfl, h4, h5⟩ := h3 rfl
      obtain ⟨h6, h7⟩ := h.2.2 ⟨t1, h1⟩
      refine ⟨h6.frame s.size fun b hb _ => h5 b hb, fun k o hl => ?_⟩
      obtain ⟨g, N, c, n, ty, es, e, h8, h9, h10, h11, h12, h13⟩ := h7 k o hl
      have hes : es ≠ [] := fun hh => by rw [hh] at h10; simp at h10
      have hg := hrt i g N c ty es h.1 (by rw [h8]; simp) h9 ⟨v, h8⟩ hes
      refine ⟨g, N, c, n, ty, es, e, ?_, (s.vl i h.1).trans h9, h10, h11, h12, (World.cell?_of_block (h5 g hg).2).trans h13⟩
      rw [h1] at h8
      rw [hv]
      exact h8
  | np i ver es =>
    refine ⟨Nat.lt_of_lt_of_le h.1 s.nx, fun v' t' hv => ?_, fun ⟨t', hv⟩ => ?_⟩
    · obtain ⟨v, t, h1, h2, -⟩ := s.ob i v' t' h.1 hv
      exact Nat.le_trans (h.2.1 v t h1) h2
    · obtain ⟨v, t1, h1, h2, h3⟩ := s.ob i ver t' h.1 hv
      have hve : v = ver := Nat.le_antisymm h2 (h.2.1 v t1 h1)
      subst hve
      obtain ⟨rfl, h4, h5⟩ := h3 rfl
      obtain ⟨b, o, us, h6, h7, h8⟩ := h.2.2 ⟨t1, h1⟩
      exact ⟨b, o, us, h6, (h5 b h7).1, fun j t ht => ⟨(World.cell?_of_block (h5 b h7).2).trans (h8 j t ht).1, (h8 j t ht).2.frame s.size fun b hb _ => h5 b hb⟩⟩
  | ep i k n o =>
    obtain ⟨h1, g, N, c, h2, h3⟩ := h
    exact ⟨Nat.lt_of_lt_of_le h1 s.nx, g, N, c, (s.vl i h1).trans h2, h3⟩
  | bp b o => exact ⟨Nat.lt_of_lt_of_le h.1 s.bs, by rw [s.β b h.1]; exact h.2⟩
theorem VHolds.step {E : Env} {σ σ' : VS} {w w' : World} {G G' : Ghost} {v : V} {u : Value} (h : VHolds G σ E w v u) (k : ∀ x u, Holds G σ E w x u → Holds G' σ' E w' x u) : VHolds G' σ' E w' v u := by
  obtain ⟨uss, h1, h2, h3⟩ := h
  exact ⟨uss, h1, h2, fun c ag xs us h4 h5 => ⟨(h3 c ag xs us h4 h5).1, fun j x u h6 h7 => k x u ((h3 c ag xs us h4 h5).2 j x u h6 h7)⟩⟩
variable {E : Env} {N : Nat} {σ : VS} {a : Act} {w : World} {G : Ghost}
theorem Rel.low (h : Rel E N σ a w G) : E.B ≤ w.heap.size := h.below.size
theorem Rel.root (h : Rel E N σ a w G) (i g N' c : Nat) (ty : TypeId) (es : List (List T)) (hi : i < σ.nx) (hl : σ.ob i ≠ none) (hv : G.vl i = .slice (some ⟨g, 0, none⟩) N' c) (ht : ∃ v, σ.ob i = some (v, .seq ty es)) (hes : es ≠ []) : G.ft i g := by
  obtain ⟨v, ht⟩ := ht
  obtain ⟨-, ho, -⟩ := h.objs i v _ ht
  cases ho with
  | seq n hp hz hn xs hown Gs hr hone hF hG hne hd => exact hF g (by rw [hv]; rfl)
theorem Rel.leaf (h : Rel E N σ a w G) {σ' : VS} {w' : World} {G' : Ghost} (s : Step E σ σ' w w' G G') {x : Leaf} {u : Value} (hx : Holds G σ E w x u) : Holds G' σ' E w' x u :=
  ⟨hx.1.step s (fun i b hi hb => (h.ftlt i b hi hb).2) h.root, hx.2⟩
/-- The world goes on, nothing that was there has changed. -/
theorem Rel.ext (h : Rel E N σ a w G) {w' : World} (hb : Below w.heap.size w w') : Rel E N σ a w' G := by
  have s : Step E σ σ w w' G G := ⟨hb.size, fun b hb' => hb.block b (Nat.lt_of_lt_of_le hb'.1 h.low), Nat.le_refl _, Nat.le_refl _, fun _ _ => rfl, fun _ _ => rfl,
    fun i v' t' hi hv => ⟨v', t', hv, Nat.le_refl _, fun _ => ⟨rfl, fun b hb' => (h.ftlt i b (by rw [hv]; simp) hb').2, fun b hb' => ⟨hb', hb.block b (h.ftlt i b (by rw [hv]; simp) hb').2⟩⟩⟩⟩
  refine ⟨h.below.trans (.of_below (hb.mono h.low)), h.dfr, h.nsz, fun k => (h.tmps k).step fun x u hx => h.leaf s hx, fun b ty xs hb' => ?_, h.inj, h.boxft, fun i v t hi => ?_, h.disj, fun i b hi hb' => ⟨(h.ftlt i b hi hb').1, Nat.lt_of_lt_of_le (h.ftlt i b hi hb').2 hb.size⟩, h.lent⟩
  · obtain ⟨h1, us, h2, h3, h4⟩ := h.boxes b ty xs hb'
    exact ⟨h1, us, (hb.block _ (lt_of_block h2)).trans h2, h3, fun j x u hx hu => ⟨h.leaf s (h4 j x u hx hu).1, (h4 j x u hx hu).2⟩⟩
  · obtain ⟨h1, h2, h3⟩ := h.objs i v t hi
    exact ⟨h1, h2.frame fun b hb' => hb.block b (h.ftlt i b (by rw [hi]; simp) hb').2, h3⟩
theorem Rel.drew (h : Rel E N σ a w G) : Rel E N σ a w.drew G := h.ext (Below.refl _ _).drew
/-- A slot is written. -/
def VS.put (σ : VS) (d : Nat) (v : V) : VS := { σ with tm := fun s => bif Nat.beq s d then v else σ.tm s }
theorem Holds.put {E : Env} {x : Leaf} {u : Value} {d : Nat} {v : V} (h : Holds G σ E w x u) : Holds G (σ.put d v) E w x u := by cases x <;> exact h
theorem Rel.put (h : Rel E N σ a w G) {d : Nat} {v : V} {u : Value} (hd : d < N) (hv : VHolds G σ E w v u) : Rel E N (σ.put d v) (a.put (some d) u) w G := by
  refine ⟨h.below, h.dfr, by show (a.tmps.setIfInBounds d u).size = N; rw [Array.size_setIfInBounds]; exact h.nsz, fun k => ?_, fun b ty xs hb => ?_, h.inj, h.boxft, h.objs, h.disj, h.ftlt, h.lent⟩
  · show VHolds G (σ.put d v) _ w (bif Nat.beq k d then v else σ.tm k) ((a.tmps.setIfInBounds d u).getD k undef)
    by_cases hkd : k = d
    · subst hkd
      have h2 : (a.tmps.setIfInBounds k u).getD k undef = u := by simp [Array.getD, h.nsz, hd]
      rw [h2, Nat.beq_refl]
      exact hv.step fun x u hx => hx.put
    · have h1 : Nat.beq k d = false := by
        cases hb : Nat.beq k d with
        | false => rfl
        | true => exact absurd (Nat.eq_of_beq_eq_true hb) hkd
      have h2 : (a.tmps.setIfInBounds d u).getD k undef = a.tmps.getD k undef := by
        simp only [Array.getD_eq_getD_getElem?]
        rw [Array.getElem?_setIfInBounds_ne (Ne.symm hkd)]
      rw [h2, h1]
      exact (h.tmps k).step fun x u hx => hx.put
  · obtain ⟨h1, us, h2, h3, h4⟩ := h.boxes b ty xs hb
    exact ⟨h1, us, h2, h3, fun j x u hx hu => ⟨(h4 j x u hx hu).1.put, (h4 j x u hx hu).2⟩⟩
/-- A new box. -/
theorem Rel.alloc (h : Rel E N σ a w G) {ty : TypeId} {us : List Value} {xs : List Leaf} (hl : us.length = xs.length) (hx : ∀ (j : Nat) (x : Leaf) (u : Value), xs[j]? = some x → us[j]? = some u → Holds G σ E w x u ∧ u.oneCell' = true) :
    ∃ G', Rel E N { σ with bs := σ.bs ++ [(ty, xs)] } a (w.alloc (.cells us.toArray ty)) G' ∧ G'.β σ.bs.length = w.heap.size ∧ G'.vl = G.vl ∧ ∀ b, b < σ.bs.length → G'.β b = G.β b := by
  have hb : Below w.heap.size w (w.alloc (.cells us.toArray ty)) := (Below.refl _ _).alloc (Nat.le_refl _) _
  have hnew : (w.alloc (.cells us.toArray ty)).heap[w.heap.size]? = some (.cells us.toArray ty (0, 0)) := heap_alloc_new _ _
  have h' := h.ext hb
  have hlt : ∀ b ty xs, σ.bs[b]? = some (ty, xs) → G.β b < w.heap.size := fun b ty xs hb => by
    obtain ⟨-, us, h2, -⟩ := h.boxes b ty xs hb
    exact lt_of_block h2
  have hlt' : ∀ b, b < σ.bs.length → G.β b < w.heap.size := fun b hb => hlt b _ _ (List.getElem?_eq_getElem hb)
  obtain ⟨G', hG'⟩ : ∃ G' : Ghost, G' = { G with β := fun b => if b = σ.bs.length then w.heap.size else G.β b } := ⟨_, rfl⟩
  have hβ : ∀ b, b < σ.bs.length → G'.β b = G.β b := fun b hb => by rw [hG']; exact if_neg (by omega)
  have hβ' : G'.β σ.bs.length = w.heap.size := by rw [hG']; exact if_pos rfl
  have hvl : G'.vl = G.vl := by rw [hG']
  have hft : G'.ft = G.ft := by rw [hG']
  have s : Step E σ { σ with bs := σ.bs ++ [(ty, xs)] } (w.alloc (.cells us.toArray ty)) (w.alloc (.cells us.toArray ty)) G G' := ⟨Nat.le_refl _, fun b hb' => rfl, Nat.le_refl _, by simp, fun i _ => by rw [hvl], hβ,
    fun i v' t' hi hv => ⟨v', t', hv, Nat.le_refl _, fun _ => ⟨rfl, fun b hb' => (h'.ftlt i b (by rw [show σ.ob i = some (v', t') from hv]; simp) hb').2, fun b hb' => ⟨by rw [hft]; exact hb', rfl⟩⟩⟩⟩
  refine ⟨G', ⟨h'.below, h.dfr, h.nsz, fun k => (h'.tmps k).step fun x u hx => h'.leaf s hx, fun b ty' xs' hb' => ?_, fun b b' hb1 hb2 e => ?_, fun b i hb1 hi hb2 => ?_, fun i v t hi => ?_, ?_, ?_, ⟨h.lent.1, fun i hi => by rw [hvl]; exact h.lent.2 i hi⟩⟩, hβ', hvl, hβ⟩
  · rcases Nat.lt_or_ge b σ.bs.length with hbl | hbl
    · have hb2 : σ.bs[b]? = some (ty', xs') := by rw [List.getElem?_append_left hbl] at hb'; exact hb'
      obtain ⟨h1, us', h2, h3, h4⟩ := h'.boxes b ty' xs' hb2
      rw [hβ b hbl]
      exact ⟨h1, us', h2, h3, fun j x u hx' hu => ⟨h'.leaf s (h4 j x u hx' hu).1, (h4 j x u hx' hu).2⟩⟩
    · have hbe : b = σ.bs.length := by have := get_lt hb'; simp at this; omega
      subst hbe
      have he : (ty, xs) = (ty', xs') := by simpa using hb'
      injection he with e1 e2
      subst e1 e2
      rw [hβ']
      refine ⟨.inl h.low, us, hnew, hl, fun j x u hx' hu => ⟨?_, (hx j x u hx' hu).2⟩⟩
      have s0 : Step E σ σ w (w.alloc (.cells us.toArray ty)) G G := ⟨hb.size, fun b hb' => hb.block b (Nat.lt_of_lt_of_le hb'.1 h.low), Nat.le_refl _, Nat.le_refl _, fun _ _ => rfl, fun _ _ => rfl,
        fun i v' t' hi hv => ⟨v', t', hv, Nat.le_refl _, fun _ => ⟨rfl, fun b hb' => (h.ftlt i b (by rw [hv]; simp) hb').2, fun b hb' => ⟨hb', hb.block b (h.ftlt i b (by rw [hv]; simp) hb').2⟩⟩⟩⟩
      exact h'.leaf s (h.leaf s0 (hx j x u hx' hu).1)
  · have hb1' : b ≤ σ.bs.length := by simpa [Nat.lt_succ_iff] using hb1
    have hb2' : b' ≤ σ.bs.length := by simpa [Nat.lt_succ_iff] using hb2
    rcases Nat.lt_or_ge b σ.bs.length with hbl | hbl <;> rcases Nat.lt_or_ge b' σ.bs.length with hbl' | hbl'
    · rw [hβ b hbl, hβ b' hbl'] at e
      exact h.inj b b' hbl hbl' e
    · rw [hβ b hbl, show b' = σ.bs.length by omega, hβ'] at e
      have := hlt' b hbl
      omega
    · rw [hβ b' hbl', show b = σ.bs.length by omega, hβ'] at e
      have := hlt' b' hbl'
      omega
    · omega
  · have hb1' : b ≤ σ.bs.length := by simpa [Nat.lt_succ_iff] using hb1
    rw [hft] at hb2
    rcases Nat.lt_or_ge b σ.bs.length with hbl | hbl
    · rw [hβ b hbl] at hb2
      exact h.boxft b i hbl hi hb2
    · rw [show b = σ.bs.length by omega, hβ'] at hb2
      have := (h.ftlt i _ hi hb2).2
      omega
  · rw [hvl, hft]; exact h'.objs i v t hi
  · rw [hft]; exact h'.disj
  · rw [hft]; exact h'.ftlt
/-- A box is written. -/
theorem Rel.setbox (h : Rel E N σ a w G) {b : Nat} {ty : TypeId} {xs xs' : List Leaf} {us' : List Value} {w' : World} (hb : σ.bs[b]? = some (ty, xs)) (hbel : Same E w w') (hblk : ∀ k, k ≠ G.β b → w'.heap[k]? = w.heap[k]?) (hnew : w'.heap[G.β b]? = some (.cells us'.toArray ty (0, 0)))
    (hl : us'.length = xs'.length) (hx : ∀ (j : Nat) (x : Leaf) (u : Value), xs'[j]? = some x → us'[j]? = some u → Holds G σ E w x u ∧ u.oneCell' = true) : Rel E N { σ with bs := σ.bs.set b (ty, xs') } a w' G := by
  have hbl := get_lt hb
  have s : Step E σ { σ with bs := σ.bs.set b (ty, xs') } w w' G G := ⟨hbel.size, fun k hk => hbel.block k hk, Nat.le_refl _, by simp, fun _ _ => rfl, fun _ _ => rfl,
    fun i v' t' hi hv => ⟨v', t', hv, Nat.le_refl _, fun _ => ⟨rfl, fun k hk => (h.ftlt i k (by rw [show σ.ob i = some (v', t') from hv]; simp) hk).2, fun k hk => ⟨hk, hblk k fun e => h.boxft b i hbl (by rw [show σ.ob i = some (v', t') from hv]; simp) (by rw [← e]; exact hk)⟩⟩⟩⟩
  refine ⟨h.below.trans hbel, h.dfr, h.nsz, fun k => (h.tmps k).step fun x u hx => h.leaf s hx, fun c ty' ys hc => ?_, fun c c' h1 h2 => h.inj c c' (by simpa using h1) (by simpa using h2), fun c i h1 => h.boxft c i (by simpa using h1), fun i v t hi => ?_, h.disj, fun i k hi hk => ⟨(h.ftlt i k hi hk).1, Nat.lt_of_lt_of_le (h.ftlt i k hi hk).2 hbel.size⟩, h.lent⟩
  · by_cases hcb : b = c
    · subst hcb
      have he : (ty, xs') = (ty', ys) := by simpa [hbl] using hc
      injection he with e1 e2
      subst e1 e2
      obtain ⟨h1, -⟩ := h.boxes b ty xs hb
      exact ⟨h1, us', hnew, hl, fun j x u hx' hu => ⟨h.leaf s (hx j x u hx' hu).1, (hx j x u hx' hu).2⟩⟩
    · have hc' : σ.bs[c]? = some (ty', ys) := by rw [← hc]; exact (List.getElem?_set_ne hcb).symm
      obtain ⟨h1, us, h2, h3, h4⟩ := h.boxes c ty' ys hc'
      exact ⟨h1, us, (hblk _ fun e => hcb (h.inj c b (get_lt hc') hbl e).symm).trans h2, h3, fun j x u hx' hu => ⟨h.leaf s (h4 j x u hx' hu).1, (h4 j x u hx' hu).2⟩⟩
  · obtain ⟨h1, h2, h3⟩ := h.objs i v t hi
    exact ⟨h1, h2.frame fun k hk => hblk k fun e => h.boxft b i hbl (by rw [show σ.ob i = some (v, t) from hi]; simp) (by rw [← e]; exact hk), h3⟩
/-- Objects come and go: what is kept of them lies in blocks that were not written. -/
theorem Rel.turn (h : Rel E N σ a w G) {σ' : VS} {w' : World} {G' : Ghost} (D : Nat → Prop) (htm : σ'.tm = σ.tm) (hbs : σ'.bs = σ.bs) (hβ : G'.β = G.β) (hbel : Same E w w') (hblk : ∀ k, k < w.heap.size → ¬ D k → w'.heap[k]? = w.heap[k]?) (hD : ∀ b, b < σ.bs.length → ¬ D (G.β b))
    (hnx : σ.nx ≤ σ'.nx) (hvl : ∀ i, i < σ.nx → G'.vl i = G.vl i)
    (hob : ∀ i v' t', σ'.ob i = some (v', t') → (σ.ob i = some (v', t') ∧ (∀ b, G'.ft i b ↔ G.ft i b) ∧ ∀ b, G.ft i b → ¬ D b) ∨
      (i < σ'.nx ∧ (i < σ.nx → ∃ v t, σ.ob i = some (v, t) ∧ v < v') ∧ Own w' 0 t' (G'.vl i) (G'.ft i) ∧ (∃ ty es, t' = .seq ty es) ∧ (∀ b, G'.ft i b → (E.B ≤ b ∨ E.ln b) ∧ b < w'.heap.size) ∧ ∀ b, G'.ft i b → ∀ c, c < σ.bs.length → G.β c ≠ b))
    (hdisj : ∀ i j b, σ'.ob i ≠ none → σ'.ob j ≠ none → i ≠ j → G'.ft i b → ¬ G'.ft j b) : Rel E N σ' a w' G' ∧ ∀ x u, Holds G σ E w x u → Holds G' σ' E w' x u := by
  have s : Step E σ σ' w w' G G' := ⟨hbel.size, fun k hk => hbel.block k hk, hnx, by rw [hbs]; exact Nat.le_refl _, hvl, fun b _ => by rw [hβ], fun i v' t' hi hv => by
    rcases hob i v' t' hv with ⟨h1, h2, h3⟩ | ⟨h1, h2, -⟩
    · exact ⟨v', t', h1, Nat.le_refl _, fun _ => ⟨rfl, fun b hb => (h.ftlt i b (by rw [h1]; simp) hb).2, fun b hb => ⟨(h2 b).2 hb, hblk b (h.ftlt i b (by rw [h1]; simp) hb).2 (h3 b hb)⟩⟩⟩
    · obtain ⟨v, t, h3, h4⟩ := h2 hi
      exact ⟨v, t, h3, Nat.le_of_lt h4, fun e => absurd e (Nat.ne_of_lt h4)⟩⟩
  refine ⟨?_, fun x u hx => h.leaf s hx⟩
  refine ⟨h.below.trans hbel, h.dfr, h.nsz, fun k => by rw [htm]; exact (h.tmps k).step fun x u hx => h.leaf s hx, fun b ty xs hb => ?_, by rw [hbs, hβ]; exact h.inj, fun b i hb hi hf => ?_, fun i v t hi => ?_, hdisj, fun i b hi hb => ?_, ⟨Nat.le_trans h.lent.1 hnx, fun i hi => (hvl i (Nat.lt_of_lt_of_le hi h.lent.1)).trans (h.lent.2 i hi)⟩⟩
  · rw [hbs] at hb
    obtain ⟨h1, us, h2, h3, h4⟩ := h.boxes b ty xs hb
    rw [hβ]
    exact ⟨h1, us, (hblk _ (lt_of_block h2) (hD b (get_lt hb))).trans h2, h3, fun j x u hx hu => ⟨h.leaf s (h4 j x u hx hu).1, (h4 j x u hx hu).2⟩⟩
  · rw [hbs] at hb
    rw [hβ] at hf
    obtain ⟨⟨v', t'⟩, hv⟩ := Option.ne_none_iff_exists'.1 hi
    rcases hob i v' t' hv with ⟨h1, h2, h3⟩ | ⟨-, -, -, -, -, h6⟩
    · exact h.boxft b i hb (by rw [h1]; simp) ((h2 _).1 hf)
    · exact h6 _ hf b hb rfl
  · rcases hob i v t hi with ⟨h1, h2, h3⟩ | ⟨h1, -, h3, h4, -⟩
    · obtain ⟨h4, h5, h6⟩ := h.objs i v t h1
      rw [hvl i h4]
      exact ⟨Nat.lt_of_lt_of_le h4 hnx, (h5.frame fun b hb => hblk b (h.ftlt i b (by rw [h1]; simp) hb).2 (h3 b hb)).mono fun b hb => (h2 b).2 hb, h6⟩
    · exact ⟨h1, h3, h4⟩
  · obtain ⟨⟨v', t'⟩, hv⟩ := Option.ne_none_iff_exists'.1 hi
    rcases hob i v' t' hv with ⟨h1, h2, h3⟩ | ⟨-, -, -, -, h5, -⟩
    · have := h.ftlt i b (by rw [h1]; simp) ((h2 b).1 hb)
      exact ⟨this.1, Nat.lt_of_lt_of_le this.2 hbel.size⟩
    · exact h5 b hb
end Go.Proofs.Ytlnjgoommpeioaa.V
/- States told by trees: the rules, an operation each (scalars, copies, boxes, fields). -/
namespace Go.Proofs.Ytlnjgoommpeioaa.V
open Go Go.RowKit
set_option linter.unusedVariables false

def SV (E : Env) (N : Nat) (σ : VS) (K : Act → World → Prop) : Prop := ∀ a w G, Rel E N σ a w G → K a w
/-- What is known of memory behind an operation that makes memory, but for the block of the object c: nothing that was there has changed, but for cells behind that object's last. -/
structure Made (σ : VS) (c : Option Nat) (w w' : World) (G G' : Ghost) (E : Env) (nx' : Nat) : Prop where
  size : w.heap.size ≤ w'.heap.size
  below : Same E w w'
  vl : ∀ i, i < σ.nx → G'.vl i = G.vl i
  β : ∀ b, b < σ.bs.length → G'.β b = G.β b
  block : ∀ b, b < w.heap.size → w'.heap[b]? = w.heap[b]? ∨ ∃ (i v : Nat) (ty : TypeId) (es : List (List T)) (n : Nat) (cs cs' : Array Value), c = some i ∧ σ.ob i = some (v, .seq ty es) ∧ (G.vl i).ownBlock = some b ∧ Sz ty n ∧ w.heap[b]? = some (.cells cs ty (0, 0)) ∧ w'.heap[b]? = some (.cells cs' ty (0, 0)) ∧ cs'.size = cs.size ∧ cs'.toList.take (es.length * n) = cs.toList.take (es.length * n)
  root : ∀ i, σ.nx ≤ i → i < nx' → ∀ b, (G'.vl i).ownBlock = some b → w.heap.size ≤ b ∨ ∃ j, c = some j ∧ (G.vl j).ownBlock = some b
/-- From σ the operation leads to σ', and memory is as 'Made' says. -/
def OpMk (P : Program) (E : Env) (N : Nat) (c : Option Nat) (σ : VS) (o : Oper) (σ' : VS) : Prop :=
  ∀ a w G (K : Act → World → Prop) (Q : Exit → Act → World → Prop), Rel E N σ a w G → (∀ a' w' G', Rel E N σ' a' w' G' → Made σ c w w' G G' E σ'.nx → K a' w') → o.wp P a w K Q
/-- From σ the operation leads to σ'. -/
def OpOk (P : Program) (E : Env) (N : Nat) (σ : VS) (o : Oper) (σ' : VS) : Prop :=
  ∀ a w G (K : Act → World → Prop) (Q : Exit → Act → World → Prop), Rel E N σ a w G → (∀ a' w' G', Rel E N σ' a' w' G' → K a' w') → o.wp P a w K Q
variable {P : Program} {E : Env} {N : Nat} {σ σ' : VS} {o : Oper}
/-- The blocks of the first boxes, and all below the call's own, are as they were. -/
def Lite (E : Env) (nb : Nat) (G : Ghost) (w v : World) : Prop := (∀ b, E.old b → v.heap[b]? = w.heap[b]?) ∧ ∀ c, c < nb → v.heap[G.β c]? = w.heap[G.β c]?
/-- The operation yields one value in every such memory, and leaves it as it is. -/
def OpL (P : Program) (E : Env) (N nb : Nat) (σ : VS) (o : Oper) (V' : V) : Prop :=
  ∀ a w G, Rel E N σ a w G → ∃ u, (∀ v, Lite E nb G w v → (execOp a.eval o).run P v = .ok (.value u) v) ∧ VHolds G σ E w V' u
theorem OpMk.ok {c : Option Nat} (h : OpMk P E N c σ o σ') : OpOk P E N σ o σ' := fun a w G K Q hr k => h a w G K Q hr fun a' w' G' hr' _ => k a' w' G' hr'
theorem SV.op {ops : Array Oper} {rest : List Oper} {Q : Exit → Act → World → Prop} (h : OpOk P E N σ o σ') (hg : o.guard = none) (k : SV E N σ' (wpList P ops Q rest)) : SV E N σ (wpList P ops Q (o :: rest)) :=
  fun a w G hr => wpList_plain hg fun K hK => h a w G K Q hr fun a' w' G' hr' => hK _ _ (k a' w' G' hr')
theorem wp_value {a : Act} {w w' : World} {v : Value} {K : Act → World → Prop} {Q : Exit → Act → World → Prop} (h : (execOp a.eval o).run P w = .ok (.value v) w') (k : K (a.put o.dst v) w') : o.wp P a w K Q := by
  unfold Oper.wp
  rw [h]
  exact k
theorem wp_skipped {a : Act} {w w' : World} {K : Act → World → Prop} {Q : Exit → Act → World → Prop} (h : (execOp a.eval o).run P w = .ok .skip w') (k : K (a.put o.dst undef) w') : o.wp P a w K Q := by
  unfold Oper.wp
  rw [h]
  exact k
theorem OpL.ok {nb d : Nat} {V' : V} (h : OpL P E N nb σ o V') (hd : o.dst = some d) (hdN : d < N) : OpOk P E N σ o (σ.put d V') := fun a w G K Q hr k => by
  obtain ⟨u, h1, h2⟩ := h a w G hr
  exact wp_value (h1 w ⟨fun _ _ => rfl, fun _ _ => rfl⟩) (by rw [hd]; exact k _ _ _ (hr.put hdN h2))
/-! ### Values of operands -/
def VS.ev (σ : VS) : Operand → V
  | .tmp t => σ.tm t
  | .const v => V.one (bif v.oneCell' then .sc v else .dead)
  | .global g => V.one (.sc (.pointer (some ⟨g, 0, none⟩)))
  | .func f => V.one (.sc (.func (.func f) #[] #[]))
theorem vone {G : Ghost} {E : Env} {w : World} {x : Leaf} {u : Value} : VHolds G σ E w (V.one x) u ↔ Holds G σ E w x u := by
  constructor
  · rintro ⟨uss, h1, h2, h3⟩
    match uss, h1 with
    | [us], _ =>
      obtain ⟨h4, h5⟩ := h3 0 false [x] us rfl rfl
      match us, h4 with
      | [v], _ =>
        have : u = v := h2
        rw [this]
        exact h5 0 x v rfl rfl
  · intro h
    refine ⟨[[u]], rfl, rfl, fun c ag xs us h1 h2 => ?_⟩
    match c, h1, h2 with
    | 0, h1, h2 =>
      cases h1
      cases h2
      refine ⟨rfl, fun j y v h3 h4 => ?_⟩
      match j, h3, h4 with
      | 0, h3, h4 => cases h3; cases h4; exact h
/-- A struct's value, or a lone cell's. -/
def V.flat (ag : Bool) (xs : List Leaf) : V := ⟨false, [(ag, xs)]⟩
theorem vflat {G : Ghost} {E : Env} {w : World} {ag : Bool} {xs : List Leaf} {u : Value} : VHolds G σ E w (V.flat ag xs) u ↔ ∃ us : List Value, u = cval ag us ∧ us.length = xs.length ∧ ∀ (j : Nat) (x : Leaf) (u : Value), xs[j]? = some x → us[j]? = some u → Holds G σ E w x u := by
  constructor
  · rintro ⟨uss, h1, h2, h3⟩
    match uss, h1 with
    | [us], _ =>
      obtain ⟨h4, h5⟩ := h3 0 ag xs us rfl rfl
      exact ⟨us, h2, h4, h5⟩
  · rintro ⟨us, h2, h4, h5⟩
    refine ⟨[us], rfl, h2, fun c ag' xs' us' h1 h2 => ?_⟩
    match c, h1, h2 with
    | 0, h1, h2 =>
      cases h1
      cases h2
      exact ⟨h4, h5⟩
theorem Rel.ev {a : Act} {w : World} {G : Ghost} (h : Rel E N σ a w G) (x : Operand) : VHolds G σ E w (σ.ev x) (a.eval x) := by
  cases x with
  | tmp t => exact h.tmps t
  | const v =>
    show VHolds G σ _ w (V.one (bif v.oneCell' then .sc v else .dead)) v
    rw [vone]
    cases hv : v.oneCell' with
    | true => exact ⟨rfl, .inr hv⟩
    | false => exact ⟨trivial, .inl rfl⟩
  | global g => exact vone.2 ⟨rfl, .inr rfl⟩
  | func f => exact vone.2 ⟨rfl, .inr rfl⟩
theorem Rel.sc {a : Act} {w : World} {G : Ghost} (h : Rel E N σ a w G) {x : Operand} {u : Value} (hx : σ.ev x = V.one (.sc u)) : a.eval x = u := by
  have := h.ev x
  rw [hx, vone] at this
  exact this.1
/-! ### Scalars -/
/-- A value without memory behind it. -/
def VScal (v : V) (u : Value) : Prop := ∃ ag us, v = V.flat ag (us.map .sc) ∧ u = cval ag us
theorem VScal.one {v : V} {u : Value} (h : v = V.one (.sc u)) : VScal v u := ⟨false, [u], h, rfl⟩
theorem Rel.scal {a : Act} {w : World} {G : Ghost} (h : Rel E N σ a w G) {x : Operand} {u : Value} (hx : VScal (σ.ev x) u) : a.eval x = u := by
  obtain ⟨ag, us, h1, h2⟩ := hx
  have := h.ev x
  rw [h1, vflat] at this
  obtain ⟨vs, h3, h4, h5⟩ := this
  have h6 : vs.length = us.length := by simpa using h4
  have : vs = us := by
    apply List.ext_getElem?
    intro j
    rcases Nat.lt_or_ge j us.length with hj | hj
    · have hj' : j < vs.length := by omega
      have := h5 j (.sc us[j]) vs[j] (by simp [hj]) (by simp [hj'])
      rw [List.getElem?_eq_getElem hj', List.getElem?_eq_getElem hj, this.1]
    · rw [List.getElem?_eq_none hj, List.getElem?_eq_none (by omega)]
  rw [h3, h2, this]
/-- An operation on scalars alone. -/
theorem ok_scal {nb : Nat} {v : Value} (l : List (Operand × Value)) (hl : ∀ p ∈ l, VScal (σ.ev p.1) p.2) (hr : ∀ ρ : Operand → Value, (∀ p ∈ l, ρ p.1 = p.2) → ∀ w, (execOp ρ o).run P w = .ok (.value v) w) (hv : v.oneCell' = true) : OpL P E N nb σ o (V.one (.sc v)) :=
  fun a w G h => ⟨v, fun v' _ => hr a.eval (fun p hp => h.scal (hl p hp)) v', vone.2 ⟨rfl, .inr hv⟩⟩
theorem ok_s1 {nb : Nat} {v u : Value} {x : Operand} (hx : VScal (σ.ev x) u) (hr : ∀ ρ : Operand → Value, ρ x = u → ∀ w, (execOp ρ o).run P w = .ok (.value v) w) (hv : v.oneCell' = true) : OpL P E N nb σ o (V.one (.sc v)) :=
  fun a w G h => ⟨v, fun v' _ => hr a.eval (h.scal hx) v', vone.2 ⟨rfl, .inr hv⟩⟩
theorem ok_s2 {nb : Nat} {v u u' : Value} {x x' : Operand} (hx : VScal (σ.ev x) u) (hx' : VScal (σ.ev x') u') (hr : ∀ ρ : Operand → Value, ρ x = u → ρ x' = u' → ∀ w, (execOp ρ o).run P w = .ok (.value v) w) (hv : v.oneCell' = true) : OpL P E N nb σ o (V.one (.sc v)) :=
  fun a w G h => ⟨v, fun v' _ => hr a.eval (h.scal hx) (h.scal hx') v', vone.2 ⟨rfl, .inr hv⟩⟩
theorem ok_s3 {nb : Nat} {v u u' u2 : Value} {x x' x2 : Operand} (hx : VScal (σ.ev x) u) (hx' : VScal (σ.ev x') u') (hx2 : VScal (σ.ev x2) u2) (hr : ∀ ρ : Operand → Value, ρ x = u → ρ x' = u' → ρ x2 = u2 → ∀ w, (execOp ρ o).run P w = .ok (.value v) w) (hv : v.oneCell' = true) : OpL P E N nb σ o (V.one (.sc v)) :=
  fun a w G h => ⟨v, fun v' _ => hr a.eval (h.scal hx) (h.scal hx') (h.scal hx2) v', vone.2 ⟨rfl, .inr hv⟩⟩
/-- A value is handed on. -/
theorem ok_move {nb : Nat} {x : Operand} {v : V} (ho : o.op = .move x ∨ o.op = .assign x) (hx : σ.ev x = v) : OpL P E N nb σ o v :=
  fun a w G h => ⟨a.eval x, fun v' _ => by rcases ho with ho | ho <;> simp [execOp, ho], by rw [← hx]; exact h.ev x⟩
/-! ### Boxes -/
def Leaf.live : Leaf → Bool
  | .dead => false
  | _ => true
theorem Holds.one {G : Ghost} {E : Env} {w : World} {x : Leaf} {u : Value} (h : Holds G σ E w x u) (hl : x.live = true) : u.oneCell' = true := by
  rcases h.2 with rfl | h
  · cases hl
  · exact h
/-- What a zero's cells are. -/
def ZL : List Leaf → List Value → Prop
  | [], [] => True
  | .sc v :: xs, u :: us => u = v ∧ u.oneCell' = true ∧ ZL xs us
  | .nl ty :: xs, u :: us => u = .slice none 0 0 ∧ (∃ n, 0 < n ∧ Sz ty n) ∧ ZL xs us
  | _, _ => False
theorem ZL.len : ∀ {xs : List Leaf} {us : List Value}, ZL xs us → us.length = xs.length
  | [], [], _ => rfl
  | .sc v :: xs, u :: us, h => by simp [ZL.len h.2.2]
  | .nl _ :: xs, u :: us, h => by simp [ZL.len h.2.2]
theorem ZL.holds {G : Ghost} {E : Env} {w : World} : ∀ {xs : List Leaf} {us : List Value}, ZL xs us → ∀ (j : Nat) (x : Leaf) (u : Value), xs[j]? = some x → us[j]? = some u → Holds G σ E w x u ∧ u.oneCell' = true
  | [], [], _, j, x, u, h1, _ => by simp at h1
  | .sc v :: xs, u :: us, h, j, x, y, h1, h2 => by
    cases j with
    | zero => cases h1; cases h2; exact ⟨⟨h.1, .inr h.2.1⟩, h.2.1⟩
    | succ j => exact ZL.holds h.2.2 j x y (by simpa using h1) (by simpa using h2)
  | .nl _ :: xs, u :: us, h, j, x, y, h1, h2 => by
    cases j with
    | zero => cases h1; cases h2; exact ⟨⟨⟨h.1, h.2.1⟩, .inr (by rw [h.1]; rfl)⟩, by rw [h.1]; rfl⟩
    | succ j => exact ZL.holds h.2.2 j x y (by simpa using h1) (by simpa using h2)
def VS.box (σ : VS) (ty : TypeId) (xs : List Leaf) : VS := { σ with bs := σ.bs ++ [(ty, xs)] }
theorem Rel.boxed {a : Act} {w : World} {G : Ghost} (h : Rel E N σ a w G) {d : Nat} {ty : TypeId} {us : List Value} {xs : List Leaf} (hdN : d < N) (hl : us.length = xs.length) (hx : ∀ (j : Nat) (x : Leaf) (u : Value), xs[j]? = some x → us[j]? = some u → Holds G σ E w x u ∧ u.oneCell' = true) :
    ∃ G', Rel E N ((σ.box ty xs).put d (V.one (.bp σ.bs.length 0))) (a.put (some d) (.pointer (some ⟨w.heap.size, 0, none⟩))) (w.alloc (.cells us.toArray ty)) G' ∧ Made σ none w (w.alloc (.cells us.toArray ty)) G G' E σ.nx := by
  obtain ⟨G', h1, h2, h3, h4⟩ := h.alloc hl hx
  exact ⟨G', h1.put hdN (vone.2 ⟨⟨by simp, by rw [h2]⟩, .inr rfl⟩), by simp, .of_below ((Below.refl _ _).alloc h.low _), fun i _ => by rw [h3], h4, fun b hb => .inl (Below.heap_alloc _ _ _ hb), fun i h1 h2 => absurd h2 (Nat.not_lt.2 h1)⟩
/-- A new variable, zero. -/
theorem ok_alloc {d : Nat} {ty : TypeId} {z : Value} {xs : List Leaf} {kk : Nat} (hk : σ.bs.length = kk) (ho : o.op = .alloc ty) (hz : ∀ w, (zeroValue ty).run P w = .ok z w) (hxs : ZL xs z.cells.toList) (hd : o.dst = some d) (hdN : d < N) : OpMk P E N none σ o ((σ.box ty xs).put d (V.one (.bp kk 0))) :=
  fun a w G K Q h k => by
    subst hk
    obtain ⟨G', h', hm⟩ := h.boxed (ty := ty) hdN hxs.len hxs.holds
    refine wp_value (v := .pointer (some ⟨w.heap.size, 0, none⟩)) (w' := w.alloc (.cells z.cells.toList.toArray ty)) ?_ (by rw [hd]; exact k _ _ _ h' hm)
    simp [execOp, ho, Instr.alloc, hz, newVar, newRow, Result.andThen]
theorem cval_cells {ag : Bool} {us : List Value} (h : ag = false → us.length = 1 ∧ ∀ u ∈ us, u.oneCell' = true) : (cval ag us).cells = us.toArray := by
  cases ag with
  | true => rfl
  | false =>
    obtain ⟨h1, h2⟩ := h rfl
    match us, h1 with
    | [u], _ =>
      have := h2 u (List.mem_singleton.2 rfl)
      show Value.cells u = #[u]
      exact Lib.cells_one this
/-- A new variable, laid. -/
theorem ok_box {d : Nat} {ty : TypeId} {x : Operand} {ag : Bool} {xs : List Leaf} {kk : Nat} (hk : σ.bs.length = kk) (ho : o.op = .box ty x) (hx : σ.ev x = V.flat ag xs) (hag : ag = false → xs.length = 1) (hlv' : xs.all Leaf.live = true) (hd : o.dst = some d) (hdN : d < N) : OpMk P E N none σ o ((σ.box ty xs).put d (V.one (.bp kk 0))) :=
  fun a w G K Q h k => by
    subst hk
    have hlv : ∀ x ∈ xs, x.live = true := List.all_eq_true.1 hlv'
    have h1 := h.ev x
    rw [hx, vflat] at h1
    obtain ⟨us, h2, h3, h4⟩ := h1
    have h5 : ∀ (j : Nat) (x : Leaf) (u : Value), xs[j]? = some x → us[j]? = some u → Holds G σ E w x u ∧ u.oneCell' = true := fun j x u hj hu => ⟨h4 j x u hj hu, (h4 j x u hj hu).one (hlv x (get_mem hj))⟩
    obtain ⟨G', h', hm⟩ := h.boxed (ty := ty) hdN h3 h5
    have h6 : (a.eval x).cells = us.toArray := by
      rw [h2]
      refine cval_cells fun he => ⟨h3.trans (hag he), fun u hu => ?_⟩
      obtain ⟨j, hj, rfl⟩ := List.getElem_of_mem hu
      have hj' : j < xs.length := by omega
      exact (h5 j xs[j] us[j] (by simp [hj']) (by simp [hj])).2
    refine wp_value (v := .pointer (some ⟨w.heap.size, 0, none⟩)) (w' := w.alloc (.cells us.toArray ty)) ?_ (by rw [hd]; exact k _ _ _ h' hm)
    simp [execOp, ho, Instr.box, h6, newVar, newRow, Result.andThen]
/-- A field of a variable. -/
theorem ok_field_bp {nb b o' off : Nat} {s : TypeId} {x : Operand} {f : Nat} (ho : o.op = .fieldAddr s x f) (hx : σ.ev x = V.one (.bp b o')) (hf : ∀ (ad : Addr) w, ad.spot = none → (Instr.fieldAt s (.pointer (some ad)) f).run P w = .ok (.pointer (some ⟨ad.block, ad.off + off, none⟩)) w) : OpL P E N nb σ o (V.one (.bp b (o' + off))) :=
  fun a w G h => by
    have h1 := h.ev x
    rw [hx, vone] at h1
    obtain ⟨⟨h1, h2⟩, -⟩ := h1
    exact ⟨.pointer (some ⟨G.β b, o' + off, none⟩), fun v' _ => by simp [execOp, ho, h2, hf, Result.andThen], vone.2 ⟨⟨h1, rfl⟩, .inr rfl⟩⟩
/-- Cells are read, as a type's value. -/
theorem load_run {ty : TypeId} {ag : Bool} {m : Nat} {w : World} {b i : Nat} {us : List Value} (hag : ∀ w, (isAgg ty).run P w = .ok ag w) (hm : ∃ inf, P.info? ty = some inf ∧ inf.size = m) (h1 : ag = false → m = 1) (hl : us.length = m) (hc : ∀ j u, us[j]? = some u → w.cell? ⟨b, i + j, none⟩ = some u) : (loadVar ty ⟨b, i, none⟩).run P w = .ok (cval ag us) w := by
  obtain ⟨inf, hi, hs⟩ := hm
  cases ag with
  | true => exact Lib.rl_loadVar_cells ty inf hi hag b i us (by omega) w hc
  | false =>
    have := h1 rfl
    match us, hl with
    | [u], _ =>
      have := hc 0 u rfl
      rw [Nat.add_zero] at this
      simp [loadVar, hag, this, Result.andThen, cval]
    | [], h => simp at h; omega
    | _ :: _ :: _, h => simp at h; omega
theorem cut_get {α : Type} {xs : List α} {i m j : Nat} {x : α} (h : ((xs.drop i).take m)[j]? = some x) : xs[i + j]? = some x := by
  rw [List.getElem?_take] at h
  split at h
  · rw [List.getElem?_drop] at h; exact h
  · cases h
/-- A variable, or a part of it, is read. -/
theorem ok_load_bp {nb b i m : Nat} {ty ty' : TypeId} {x : Operand} {ag : Bool} {xs ys : List Leaf} (ho : o.op = .load ty x) (hx : σ.ev x = V.one (.bp b i)) (hb : σ.bs[b]? = some (ty', xs)) (hag : ∀ w, (isAgg ty).run P w = .ok ag w) (hm : ∃ inf, P.info? ty = some inf ∧ inf.size = m) (h1 : ag = false → m = 1)
    (hy : (xs.drop i).take m = ys) (hyl : ys.length = m) (hnb : b < nb) : OpL P E N nb σ o (V.flat ag ys) :=
  fun a w G h => by
    have h2 := h.ev x
    rw [hx, vone] at h2
    obtain ⟨⟨-, h3⟩, -⟩ := h2
    obtain ⟨-, us, h4, h5, h6⟩ := h.boxes b ty' xs hb
    have h7 : ((us.drop i).take m).length = m := by
      have : ((xs.drop i).take m).length = m := by rw [hy]; exact hyl
      simp only [List.length_take, List.length_drop] at this ⊢
      omega
    refine ⟨cval ag ((us.drop i).take m), fun v' hv' => ?_, vflat.2 ⟨_, rfl, by rw [h7, hyl], fun j y u hj hu => (h6 (i + j) y u (cut_get (by rw [hy]; exact hj)) (cut_get hu)).1⟩⟩
    have hr := load_run (P := P) (w := v') (b := G.β b) (i := i) (us := (us.drop i).take m) hag hm h1 h7 fun j u hj => by
      rw [cell_of_row v' _ _ _ _ _ ((hv'.2 b hnb).trans h4)]
      simpa using cut_get hj
    simp [execOp, ho, h3, Instr.loadAt, Instr.sureAddr, hr, Result.andThen]
/-! ### Stores into boxes -/
theorem setCells_heap (b : Nat) : ∀ (vs : List Value) (o : Nat) (w : World) (us : List Value) (ty : TypeId), w.heap[b]? = some (.cells us.toArray ty (0, 0)) → o + vs.length ≤ us.length →
    (w.setCells b o vs).heap[b]? = some (.cells (us.take o ++ vs ++ us.drop (o + vs.length)).toArray ty (0, 0))
  | [], o, w, us, ty, h, hl => by simpa [World.setCells] using h
  | v :: vs, o, w, us, ty, h, hl => by
    rw [World.setCells]
    have h1 := Joins.block_setCell h (i := o) v
    rw [List.length_cons] at hl
    have h2 : (us.toArray.setIfInBounds o v) = (us.set o v).toArray := by simp
    rw [h2] at h1
    rw [setCells_heap b vs (o + 1) _ (us.set o v) ty h1 (by rw [List.length_set]; omega)]
    congr 3
    have e1 : (us.set o v).take (o + 1) = us.take o ++ [v] := by
      rw [List.take_succ_eq_append_getElem (by rw [List.length_set]; omega), List.getElem_set_self, List.take_set_of_le (Nat.le_refl _)]
    have e2 : (us.set o v).drop (o + 1 + vs.length) = us.drop (o + (v :: vs).length) := by
      rw [List.drop_set_of_lt (by omega), List.length_cons]
      congr 1
      omega
    rw [e1, e2]
    simp
theorem setCells_far (b : Nat) : ∀ (vs : List Value) (o : Nat) (w : World) (k : Nat), k ≠ b → (w.setCells b o vs).heap[k]? = w.heap[k]?
  | [], _, _, _, _ => rfl
  | v :: vs, o, w, k, h => by rw [World.setCells, setCells_far b vs (o + 1) _ k h]; exact Below.heap_setCell _ _ _ _ h
theorem setCells_below (b B : Nat) : ∀ (vs : List Value) (o : Nat) (w : World), B ≤ b → Below B w (w.setCells b o vs)
  | [], _, w, _ => Below.refl _ _
  | v :: vs, o, w, h => by
    rw [World.setCells]
    exact ((Below.refl B w).setCell (p := ⟨b, o, none⟩) h v).trans (setCells_below b B vs (o + 1) _ h)
theorem store_run {ty : TypeId} {ag : Bool} {m : Nat} {w : World} {b i : Nat} {us : List Value} (hm : ∃ inf, P.info? ty = some inf ∧ inf.size = m) (h1 : ag = false → m = 1) (hl : us.length = m) (hone : ∀ u ∈ us, u.oneCell' = true) (hc : ∀ k, k < m → (w.cell? ⟨b, i + k, none⟩).isSome = true) (hf : ∀ k, k < m → w.frozen? ⟨b, i + k, none⟩ = false) :
    (storeVar ty ⟨b, i, none⟩ (cval ag us)).run P w = .ok () (w.setCells b i us) := by
  obtain ⟨inf, hi, hs⟩ := hm
  cases ag with
  | true => exact Lib.rl_storeVar_cells ty inf hi b i us (by omega) hone w (fun k hk => hc k (by omega)) fun k hk => hf k (by omega)
  | false =>
    have hm1 := h1 rfl
    match us, hl with
    | [u], _ =>
      have h2 := hc 0 (by omega)
      obtain ⟨y, hy⟩ := Option.isSome_iff_exists.mp h2
      have h3 := hf 0 (by omega)
      rw [Nat.add_zero] at hy h3
      exact Lib.rl_storeVar_one ty inf hi (by omega) ⟨b, i, none⟩ u y (hone u (List.mem_singleton.2 rfl)) w hy h3
    | [], h => simp at h; omega
    | _ :: _ :: _, h => simp at h; omega
def VS.setb (σ : VS) (b : Nat) (ty : TypeId) (xs : List Leaf) : VS := { σ with bs := σ.bs.set b (ty, xs) }
theorem cat_get {α β : Type} {R : α → β → Prop} {xs zs : List α} {us vs : List β} {i : Nat} (h1 : us.length = xs.length) (h2 : vs.length = zs.length) (hi : i + zs.length ≤ xs.length) (hx : ∀ (j : Nat) (x : α) (u : β), xs[j]? = some x → us[j]? = some u → R x u) (hz : ∀ (j : Nat) (x : α) (u : β), zs[j]? = some x → vs[j]? = some u → R x u)
    (j : Nat) (x : α) (u : β) (h3 : (xs.take i ++ zs ++ xs.drop (i + zs.length))[j]? = some x) (h4 : (us.take i ++ vs ++ us.drop (i + vs.length))[j]? = some u) : R x u := by
  rw [List.append_assoc] at h3 h4
  rcases Nat.lt_or_ge j i with hj | hj
  · rw [List.getElem?_append_left (by rw [List.length_take]; omega), List.getElem?_take, if_pos hj] at h3 h4
    exact hx j x u h3 h4
  · rw [List.getElem?_append_right (by rw [List.length_take]; omega), List.length_take, Nat.min_eq_left (by omega)] at h3 h4
    rcases Nat.lt_or_ge (j - i) zs.length with hk | hk
    · rw [List.getElem?_append_left (by omega)] at h3 h4
      exact hz _ x u h3 h4
    · rw [List.getElem?_append_right (by omega), List.getElem?_drop] at h3 h4
      have e : i + vs.length + (j - i - vs.length) = i + zs.length + (j - i - zs.length) := by omega
      rw [e] at h4
      exact hx _ x u h3 h4
/-- A variable, or a part of it, is written. -/
theorem ok_store_bp {b i m : Nat} {ty ty' : TypeId} {x y : Operand} {ag : Bool} {xs zs : List Leaf} (ho : o.op = .store ty x y) (hx : σ.ev x = V.one (.bp b i)) (hy : σ.ev y = V.flat ag zs) (hb : σ.bs[b]? = some (ty', xs)) (hm : ∃ inf, P.info? ty = some inf ∧ inf.size = m) (h1 : ag = false → m = 1)
    (hzl : zs.length = m) (hi : i + m ≤ xs.length) (hlv' : zs.all Leaf.live = true) (hd : o.dst = none) {ys : List Leaf} (hk : xs.take i ++ zs ++ xs.drop (i + zs.length) = ys) : OpOk P E N σ o (σ.setb b ty' ys) :=
  fun a w G K Q h k => by
    subst hk
    have h2 := h.ev x
    rw [hx, vone] at h2
    obtain ⟨⟨-, h3⟩, -⟩ := h2
    have hlv : ∀ x ∈ zs, x.live = true := List.all_eq_true.1 hlv'
    have h4 := h.ev y
    rw [hy, vflat] at h4
    obtain ⟨vs, h5, h6, h7⟩ := h4
    obtain ⟨hB, us, h8, h9, h10⟩ := h.boxes b ty' xs hb
    have hone : ∀ (j : Nat) (x : Leaf) (u : Value), zs[j]? = some x → vs[j]? = some u → Holds G σ E w x u ∧ u.oneCell' = true := fun j x u hj hu => ⟨h7 j x u hj hu, (h7 j x u hj hu).one (hlv x (get_mem hj))⟩
    have hr := store_run (P := P) (w := w) (b := G.β b) (i := i) (us := vs) (ag := ag) hm h1 (h6.trans hzl) (fun u hu => by
      obtain ⟨j, hj, rfl⟩ := List.getElem_of_mem hu
      exact (hone j zs[j] vs[j] (by simp [show j < zs.length by omega]) (by simp [hj])).2) (fun k hk => by
      rw [cell_of_row w _ _ _ _ _ h8]
      simp [show i + k < us.length by omega]) fun k hk => by simp [World.frozen?, h8]
    refine wp_skipped (w' := w.setCells (G.β b) i vs) ?_ (by
      rw [hd]
      exact k _ _ _ (h.setbox hb ⟨(setCells_below _ _ _ _ _ (Nat.le_refl (G.β b))).os, (setCells_below _ _ _ _ _ (Nat.le_refl (G.β b))).tape, (setCells_below _ _ _ _ _ (Nat.le_refl (G.β b))).output, (setCells_below _ _ _ _ _ (Nat.le_refl (G.β b))).size, fun k hk => setCells_far _ _ _ _ k fun e => by subst e; exact hB.elim (fun h1 => Nat.lt_irrefl _ (Nat.lt_of_lt_of_le hk.1 h1)) hk.2⟩ (fun k hk => setCells_far _ _ _ _ k hk) (setCells_heap _ _ _ _ us ty' h8 (by omega)) (by simp; omega)
        (cat_get (R := fun x u => Holds G σ E w x u ∧ u.oneCell' = true) h9 h6 (by omega) h10 hone)))
    simp [execOp, ho, h3, h5, Instr.storeAt, Instr.sureAddr, hr, Result.andThen]
end Go.Proofs.Ytlnjgoommpeioaa.V
/- States told by trees: slices that are read (length, element, stretch). -/
namespace Go.Proofs.Ytlnjgoommpeioaa.V
open Go Go.RowKit
set_option linter.unusedVariables false

theorem Sz.of {ty : TypeId} {n : Nat} (h : (Try.prog.info? ty).map (·.size) = some n) : Sz ty n := by
  cases hi : Try.prog.info? ty with
  | none => rw [hi] at h; cases h
  | some i => rw [hi] at h; exact ⟨i, hi, Option.some.inj h⟩
/-- What may be read of a leaf. -/
def VS.tr (σ : VS) : Leaf → Option T
  | .sc u => some (.lit u)
  | .nl ty => some (.seq ty [])
  | .ro t => some t
  | .hd i => (σ.ob i).map (·.2)
  | .nd i ver t _ => (σ.ob i).bind fun p => bif Nat.beq p.1 ver then some t else none
  | _ => none
/-- Where a leaf's data lie. -/
def Leaf.okIn (G : Ghost) (E : Env) : Leaf → Nat → Prop
  | .hd i => G.ft i
  | .nd i _ _ _ => G.ft i
  | _ => E.old
variable {E : Env} {N : Nat} {σ σ' : VS} {o : Oper} {a : Act} {w : World} {G : Ghost}
theorem Rel.tree (h : Rel E N σ a w G) {x : Leaf} {u : Value} {t : T} (hx : Holds G σ E w x u) (ht : σ.tr x = some t) : Inn (x.okIn G E) w t u := by
  cases x with
  | sc v =>
    cases ht
    obtain ⟨h1, h2⟩ := hx
    rcases h2 with h2 | h2
    · cases h2
    · rw [show u = v from h1] at h2 ⊢
      exact .lit h2
  | nl ty =>
    cases ht
    obtain ⟨⟨h1, n, h2, h3⟩, -⟩ := hx
    rw [h1]
    exact Inn.seq (es := []) n h2 h3 (fun e he => by cases he) (Nat.le_refl _) (Nat.zero_le _) (fun _ => rfl) 0 0 (fun _ => .bool false) (fun _ _ h => absurd rfl h) (fun h => absurd rfl h) (fun k e j t h => by simp at h) fun k e j t h => by simp at h
  | ro s => cases ht; exact hx.1
  | hd i =>
    obtain ⟨⟨ver, s⟩, h1, h2⟩ := Option.map_eq_some_iff.1 ht
    obtain ⟨-, h3, -⟩ := h.objs i ver s h1
    rw [hx.1.2, ← h2]
    exact h3.inn
  | nd i ver s loc =>
    obtain ⟨⟨v, s'⟩, h1, h2⟩ := Option.bind_eq_some_iff.1 ht
    have hv : v = ver := by
      cases hb : Nat.beq v ver with
      | true => exact Nat.eq_of_beq_eq_true hb
      | false => simp only [hb] at h2; cases h2
    subst hv
    have h3 : s = t := by simpa using h2
    subst h3
    exact (hx.1.2.2 ⟨s', h1⟩).1
  | dead => cases ht
  | rp es => cases ht
  | np i v es => cases ht
  | ep i k n o => cases ht
  | bp b o => cases ht
/-- A slice's header, out of what may be read of it. -/
theorem inn_seq {ok : Nat → Prop} {ty : TypeId} {es : List (List T)} {u : Value} (h : Inn ok w (.seq ty es) u) : ∃ (ad : Option Addr) (c n : Nat), u = .slice ad es.length c ∧ es.length ≤ c ∧ c ≤ maxLen ∧ (ad = none → c = 0) ∧ 0 < n ∧ Sz ty n ∧ (∀ e ∈ es, e.length = n) ∧
    ∃ (b o : Nat) (us : Nat → Value), (∀ x, ad = some x → es ≠ [] → x = ⟨b, o, none⟩) ∧ (es ≠ [] → ok b ∧ b < w.heap.size) ∧ (∀ k e j t, es[k]? = some e → e[j]? = some t → w.cell? ⟨b, o + (k * n + j), none⟩ = some (us (k * n + j))) ∧ ∀ k e j t, es[k]? = some e → e[j]? = some t → Inn ok w t (us (k * n + j)) := by
  cases h with
  | seq n hp hz hn hc hm h0 b o us ha hb hcell hr => exact ⟨_, _, n, rfl, hc, hm, h0, hp, hz, hn, b, o, us, ha, hb, hcell, hr⟩
theorem Rel.head (h : Rel E N σ a w G) {x : Operand} {lf : Leaf} {ty : TypeId} {es : List (List T)} (hx : σ.ev x = V.one lf) (ht : σ.tr lf = some (.seq ty es)) : Inn (lf.okIn G E) w (.seq ty es) (a.eval x) := by
  have h1 := h.ev x
  rw [hx, vone] at h1
  exact h.tree h1 ht
/-- 'len' of a slice. -/
theorem ok_len {nb : Nat} {x : Operand} {lf : Leaf} {ty t : TypeId} {es : List (List T)} (ho : o.op = .call { callee := .builtin .len, args := #[x], argTypes := #[t] }) (hu : Try.prog.underlying t = some (.slice ty)) (hx : σ.ev x = V.one lf) (ht : σ.tr lf = some (.seq ty es)) :
    OpL Try.prog E N nb σ o (V.one (.sc (.int .i64 (es.length : Nat)))) :=
  fun a w G h => by
    obtain ⟨ad, c, n, h1, -⟩ := inn_seq (h.head hx ht)
    refine ⟨.int .i64 (es.length : Nat), fun v' _ => ?_, vone.2 ⟨rfl, .inr rfl⟩⟩
    simp [execOp, ho, resolve, invoke, builtin, Builtin.len_, h1, run_underlying hu, goInt, Result.andThen]
/-- The pointer to an element. -/
def Leaf.elem (lf : Leaf) (k n : Nat) (e : List T) : Leaf := match lf with
  | .ro _ => .rp e
  | .hd i => .ep i k n 0
  | .nd i ver _ _ => .np i ver e
  | _ => .dead
theorem ok_index {nb k n : Nat} {x ix : Operand} {lf : Leaf} {ty t : TypeId} {es : List (List T)} {e : List T} {ki : IntKind} (ho : o.op = .indexAddr t x ix) (hu : Try.prog.underlying t = some (.slice ty)) (hz : Sz ty n) (hx : σ.ev x = V.one lf) (ht : σ.tr lf = some (.seq ty es)) (hi : σ.ev ix = V.one (.sc (.int ki (k : Nat)))) (he : es[k]? = some e) :
    OpL Try.prog E N nb σ o (V.one (lf.elem k n e)) :=
  fun a w G h => by
    have h0 := h.ev x
    rw [hx, vone] at h0
    obtain ⟨ad, c, n', h1, hc, hm, ha0, hp, hz', hn, b, o', us, ha, hb, hcell, hr⟩ := inn_seq (h.head hx ht)
    have hnn := hz'.eq hz
    subst hnn
    have hkl := get_lt he
    have hne : es ≠ [] := fun hh => by rw [hh] at he; simp at he
    have had : ad = some ⟨b, o', none⟩ := by
      cases had : ad with
      | none => have := ha0 had; omega
      | some y => rw [ha y had hne]
    subst had
    have h2 := h.sc hi
    obtain ⟨inf, hinf, hsz⟩ := hz
    have hrun : ∀ v', (execOp a.eval o).run Try.prog v' = .ok (.value (.pointer (some ⟨b, o' + k * n', none⟩))) v' := fun v' => by
      simp [execOp, ho, Instr.indexAt, asIntOf, h1, h2, run_underlying hu, sizeOf, Lib.rl_info ty inf hinf, hsz, Addr.add_lit, show k < es.length from hkl, Result.andThen]
    refine ⟨_, fun v' _ => hrun v', vone.2 ?_⟩
    have hel : ∀ j t, e[j]? = some t → w.cell? ⟨b, o' + k * n' + j, none⟩ = some (us (k * n' + j)) ∧ Inn (lf.okIn G E) w t (us (k * n' + j)) := fun j t hj => by
      refine ⟨?_, hr k e j t he hj⟩
      rw [Nat.add_assoc]
      exact hcell k e j t he hj
    cases lf with
    | ro s => exact ⟨⟨b, o' + k * n', fun j => us (k * n' + j), rfl, (hb hne).1, hel⟩, .inr rfl⟩
    | hd i =>
      obtain ⟨⟨hi1, hi2⟩, -⟩ := h0
      obtain ⟨⟨ver, s⟩, ho1, ho2⟩ := Option.map_eq_some_iff.1 ht
      obtain ⟨-, ho3, -⟩ := h.objs i ver s ho1
      have ho2' : s = .seq ty es := ho2
      subst ho2'
      cases ho3 with
      | seq n2 hp2 hz2 hn2 xs hown =>
        obtain ⟨a2, c2, h4, -, -, -, h7⟩ := own_slice hown
        obtain ⟨g, h8, -⟩ := h7 (by omega)
        rw [h8] at h4
        have h5 : Value.slice (some ⟨b, o', none⟩) es.length c = Value.slice (some ⟨g, 0, none⟩) es.length c2 := by rw [← h1, ← h4]; exact hi2
        injection h5 with h5 _ _
        injection h5 with h5
        injection h5 with h5 h6
        subst h5 h6
        exact ⟨⟨hi1, b, es.length, c2, h4, by rw [Nat.zero_add, Nat.add_zero]⟩, .inr rfl⟩
    | nd i ver s loc =>
      exact ⟨⟨h0.1.1, h0.1.2.1, fun _ => ⟨b, o' + k * n', fun j => us (k * n' + j), rfl, (hb hne).1, hel⟩⟩, .inr rfl⟩
    | sc v => cases ht
    | nl ty' => exact ⟨trivial, .inl rfl⟩
    | dead => cases ht
    | rp es => cases ht
    | np i v es => cases ht
    | ep i k n o => cases ht
    | bp b o => cases ht
/-- The cells that a pointer reaches, from where it points. -/
def VS.cells (σ : VS) : Leaf → Option (List T)
  | .rp es => some es
  | .np i ver es => (σ.ob i).bind fun p => bif Nat.beq p.1 ver then some es else none
  | .ep i k n o => (σ.ob i).bind fun p => match p.2 with
    | .seq _ es => es[k]?.bind fun e => bif Nat.beq e.length n then some (e.drop o) else none
    | _ => none
  | _ => none
/-- The leaf of a cell that has been read through a pointer. -/
def VS.cellLeaf (σ : VS) (p : Leaf) (j : Nat) : T → Leaf
  | .lit u => .sc u
  | .any => .dead
  | .seq ty es => match p with
    | .rp _ => .ro (.seq ty es)
    | .np i ver _ => .nd i ver (.seq ty es) none
    | .ep i k n o => match σ.ob i with
      | some (ver, _) => .nd i ver (.seq ty es) (some (k, o + j))
      | none => .dead
    | _ => .dead
theorem Rel.cells (h : Rel E N σ a w G) {p : Leaf} {u : Value} {es : List T} (hp : Holds G σ E w p u) (hc : σ.cells p = some es) : ∃ b o, u = .pointer (some ⟨b, o, none⟩) ∧ ∀ j t, es[j]? = some t → ∃ y, w.cell? ⟨b, o + j, none⟩ = some y ∧ Holds G σ E w (σ.cellLeaf p j t) y := by
  have mk : ∀ {ok : Nat → Prop} {t : T} {y : Value} {x : Leaf}, Inn ok w t y → (∀ v, t = .lit v → x = .sc v) → (t = .any → x = .dead) → ((∃ ty es, t = .seq ty es) → Holds0 G σ E w x y) → Holds G σ E w x y := fun {ok t y x} hi h1 h2 h3 => by
    cases t with
    | any => rw [h2 rfl]; exact ⟨trivial, .inl rfl⟩
    | lit v =>
      rw [h1 v rfl]
      cases hi with
      | lit hv => exact ⟨rfl, .inr hv⟩
    | seq ty es => exact ⟨h3 ⟨_, _, rfl⟩, .inr hi.one⟩
  cases p with
  | rp fs =>
    cases hc
    obtain ⟨⟨b, o, us, h1, h2, h3⟩, -⟩ := hp
    refine ⟨b, o, h1, fun j t hj => ⟨us j, (h3 j t hj).1, mk (h3 j t hj).2 (fun v e => by subst e; rfl) (fun e => by subst e; rfl) fun ⟨ty, es, e⟩ => by subst e; exact (h3 j _ hj).2⟩⟩
  | np i ver fs =>
    obtain ⟨⟨v, s⟩, h1, h2⟩ := Option.bind_eq_some_iff.1 hc
    have hv : v = ver := by
      cases hb : Nat.beq v ver with
      | true => exact Nat.eq_of_beq_eq_true hb
      | false => simp only [hb] at h2; cases h2
    subst hv
    have h3 : fs = es := by simpa using h2
    subst h3
    obtain ⟨⟨h4, h5, h6⟩, -⟩ := hp
    obtain ⟨b, o, us, h7, h8, h9⟩ := h6 ⟨s, h1⟩
    refine ⟨b, o, h7, fun j t hj => ⟨us j, (h9 j t hj).1, mk (h9 j t hj).2 (fun v e => by subst e; rfl) (fun e => by subst e; rfl) fun ⟨ty, es, e⟩ => ?_⟩⟩
    subst e
    exact ⟨h4, h5, fun _ => ⟨(h9 j _ hj).2, fun k o e => by cases e⟩⟩
  | ep i k n o =>
    obtain ⟨⟨ver, s⟩, h1, h2⟩ := Option.bind_eq_some_iff.1 hc
    obtain ⟨hlt, ho, ty, fs, hs⟩ := h.objs i ver s h1
    have hs' : s = .seq ty fs := hs
    subst hs'
    obtain ⟨e, he, h3⟩ := Option.bind_eq_some_iff.1 h2
    have hen : e.length = n := by
      cases hb : Nat.beq e.length n with
      | true => exact Nat.eq_of_beq_eq_true hb
      | false => simp only [hb] at h3; cases h3
    have h4 : e.drop o = es := by
      have hb : Nat.beq e.length n = true := by rw [hen]; exact Nat.beq_refl n
      simpa [hb] using h3
    obtain ⟨⟨-, g, M, c, h5, h6⟩, -⟩ := hp
    have hin := ho.inn
    cases ho with
    | seq n2 hp2 hz2 hn2 xs hown Gs hr hone hF hG hne hd =>
      have hn : n2 = n := (hn2 e (get_mem he)).symm.trans hen
      subst hn
      obtain ⟨a2, c2, h7, -, -, -, h8⟩ := own_slice hown
      obtain ⟨g2, h9, -, -, hcell, -⟩ := h8 (by have := get_lt he; omega)
      rw [h9, h5] at h7
      injection h7 with h7 _ _
      injection h7 with h7
      injection h7 with h7
      subst h7
      refine ⟨g, k * n2 + o, h6, fun j t hj => ?_⟩
      have hj' : e[o + j]? = some t := by rw [← h4, List.getElem?_drop] at hj; exact hj
      have hol : o + j < n2 := by rw [← hen]; exact get_lt hj'
      have hxl := hown.1
      have hlt2 := at_lt (get_lt he) hol
      have hx : xs[k * n2 + (o + j)]? = some xs[k * n2 + (o + j)] := List.getElem?_eq_getElem (by omega)
      have hcl := hcell _ _ hx
      refine ⟨xs[k * n2 + (o + j)], by rw [Nat.add_assoc]; exact hcl, mk ((hr k e (o + j) t _ he hj' hx).inn) (fun v e => by subst e; rfl) (fun e => by subst e; rfl) fun ⟨ty', es', et⟩ => ?_⟩
      subst et
      have hcv : σ.cellLeaf (.ep i k n2 o) j (.seq ty' es') = .nd i ver (.seq ty' es') (some (k, o + j)) := by
        show (match σ.ob i with | some (ver, _) => Leaf.nd i ver (.seq ty' es') (some (k, o + j)) | none => .dead) = _
        rw [h1]
      rw [hcv]
      refine ⟨hlt, fun v t' hv => ?_, fun _ => ⟨((hr k e (o + j) _ _ he hj' hx).inn).frame (Nat.le_refl _) fun b hb _ => ⟨hG _ b hb, rfl⟩, fun k' o' hk => ?_⟩⟩
      · rw [h1] at hv; cases hv; exact Nat.le_refl _
      · cases hk
        exact ⟨g, M, c, n2, ty, fs, e, h1, h5, he, hen, hol, hcl⟩
  | sc v => cases hc
  | nl ty => cases hc
  | ro t => cases hc
  | hd i => cases hc
  | nd i v t l => cases hc
  | bp b o => cases hc
  | dead => cases hc
/-- A cell, or a struct, is read through a pointer into a slice: whatever memory holds the same cells. -/
theorem load_el {m : Nat} {ty : TypeId} {x : Operand} {p : Leaf} {ag : Bool} {es : List T} {ys : List Leaf} (ho : o.op = .load ty x) (hx : σ.ev x = V.one p) (hc : σ.cells p = some es) (hag : ∀ w, (isAgg ty).run Try.prog w = .ok ag w) (hm : Sz ty m) (h1 : ag = false → m = 1) (hml : m ≤ es.length)
    (hy : (List.range m).map (fun j => match es[j]? with | some t => σ.cellLeaf p j t | none => .dead) = ys) (h : Rel E N σ a w G) :
    ∃ u b i, a.eval x = .pointer (some ⟨b, i, none⟩) ∧ (∀ v, (∀ j y, j < m → w.cell? ⟨b, i + j, none⟩ = some y → v.cell? ⟨b, i + j, none⟩ = some y) → (execOp a.eval o).run Try.prog v = .ok (.value u) v) ∧ VHolds G σ E w (V.flat ag ys) u := by
  have h2 := h.ev x
  rw [hx, vone] at h2
  obtain ⟨b, i, h3, h4⟩ := h.cells h2 hc
  obtain ⟨us, hus⟩ : ∃ us : List Value, us = (List.range m).map fun j => (w.cell? ⟨b, i + j, none⟩).getD (.bool false) := ⟨_, rfl⟩
  have hul : us.length = m := by rw [hus]; simp
  have hget : ∀ j y, us[j]? = some y → ∃ t, es[j]? = some t ∧ w.cell? ⟨b, i + j, none⟩ = some y ∧ Holds G σ E w (σ.cellLeaf p j t) y := fun j y hj => by
    have hjm : j < m := by rw [← hul]; exact get_lt hj
    have hjl : j < es.length := by omega
    obtain ⟨z, hz1, hz2⟩ := h4 j es[j] (List.getElem?_eq_getElem hjl)
    have : y = z := by
      rw [hus] at hj
      simp only [List.getElem?_map, List.getElem?_range hjm, Option.map_some, hz1, Option.getD_some] at hj
      exact (Option.some.inj hj).symm
    subst this
    exact ⟨es[j], List.getElem?_eq_getElem hjl, hz1, hz2⟩
  refine ⟨cval ag us, b, i, h3, fun v hv => ?_, vflat.2 ⟨us, rfl, by rw [hul, ← hy]; simp, fun j x' u hj hu => ?_⟩⟩
  · have hr := load_run (P := Try.prog) (w := v) (b := b) (i := i) (us := us) hag hm h1 hul fun j y hj => hv j y (by rw [← hul]; exact get_lt hj) (hget j y hj).choose_spec.2.1
    simp [execOp, ho, h3, Instr.loadAt, Instr.sureAddr, hr, Result.andThen]
  · obtain ⟨t, ht1, -, ht3⟩ := hget j u hu
    have hjm : j < m := by rw [← hul]; exact get_lt hu
    rw [← hy] at hj
    simp only [List.getElem?_map, List.getElem?_range hjm, Option.map_some, ht1] at hj
    rw [← Option.some.inj hj]
    exact ht3
theorem ok_load_el {d m : Nat} {ty : TypeId} {x : Operand} {p : Leaf} {ag : Bool} {es : List T} {ys : List Leaf} (ho : o.op = .load ty x) (hx : σ.ev x = V.one p) (hc : σ.cells p = some es) (hag : ∀ w, (isAgg ty).run Try.prog w = .ok ag w) (hm : Sz ty m) (h1 : ag = false → m = 1) (hml : m ≤ es.length)
    (hy : (List.range m).map (fun j => match es[j]? with | some t => σ.cellLeaf p j t | none => .dead) = ys) (hd : o.dst = some d) (hdN : d < N) : OpOk Try.prog E N σ o (σ.put d (V.flat ag ys)) :=
  fun a w G K Q h k => by
    obtain ⟨u, b, i, -, h2, h3⟩ := load_el ho hx hc hag hm h1 hml hy h
    exact wp_value (h2 w fun j y _ hj => hj) (by rw [hd]; exact k _ _ _ (h.put hdN h3))
/-- The same in memory that the call was handed. -/
theorem ok_load_rp {nb m : Nat} {ty : TypeId} {x : Operand} {ag : Bool} {es : List T} {ys : List Leaf} (ho : o.op = .load ty x) (hx : σ.ev x = V.one (.rp es)) (hag : ∀ w, (isAgg ty).run Try.prog w = .ok ag w) (hm : Sz ty m) (h1 : ag = false → m = 1) (hml : m ≤ es.length)
    (hy : (List.range m).map (fun j => match es[j]? with | some t => σ.cellLeaf (.rp es) j t | none => .dead) = ys) : OpL Try.prog E N nb σ o (V.flat ag ys) :=
  fun a w G h => by
    obtain ⟨u, b, i, h4, h2, h3⟩ := load_el ho hx (p := .rp es) rfl hag hm h1 hml hy h
    refine ⟨u, fun v hv => h2 v fun j y _ hj => ?_, h3⟩
    have h5 := h.ev x
    rw [hx, vone] at h5
    obtain ⟨⟨b', o', us, h6, h7, -⟩, -⟩ := h5
    rw [h4] at h6
    injection h6 with h6
    injection h6 with h6
    injection h6 with h6 _
    subst h6
    exact (World.cell?_of_block (hv.1 b h7)).trans hj
/-- A field, through a pointer into a slice. -/
def Leaf.fld : Leaf → Nat → Leaf
  | .rp es, off => .rp (es.drop off)
  | .np i ver es, off => .np i ver (es.drop off)
  | .ep i k n o, off => .ep i k n (o + off)
  | _, _ => .dead
theorem ok_field_el {nb off : Nat} {s : TypeId} {x : Operand} {f : Nat} {p : Leaf} {es : List T} (ho : o.op = .fieldAddr s x f) (hx : σ.ev x = V.one p) (hc : σ.cells p = some es) (hf : ∀ (ad : Addr) w, ad.spot = none → (Instr.fieldAt s (.pointer (some ad)) f).run Try.prog w = .ok (.pointer (some ⟨ad.block, ad.off + off, none⟩)) w) : OpL Try.prog E N nb σ o (V.one (p.fld off)) :=
  fun a w G h => by
    have h1 := h.ev x
    rw [hx, vone] at h1
    obtain ⟨b, i, h3, -⟩ := h.cells h1 hc
    refine ⟨.pointer (some ⟨b, i + off, none⟩), fun v' _ => by simp [execOp, ho, h3, hf, Result.andThen], vone.2 ?_⟩
    have hdrop : ∀ (l : List T) (j : Nat) (t : T), (l.drop off)[j]? = some t → l[off + j]? = some t := fun l j t hj => by rwa [List.getElem?_drop] at hj
    cases p with
    | rp fs =>
      obtain ⟨⟨b', o', us, h5, h6, h7⟩, -⟩ := h1
      rw [h3] at h5
      injection h5 with h5
      injection h5 with h5
      injection h5 with h5 h8
      subst h5 h8
      exact ⟨⟨b, i + off, fun j => us (off + j), rfl, h6, fun j t hj => by
        have := h7 (off + j) t (hdrop _ _ _ hj)
        rw [Nat.add_assoc]
        exact this⟩, .inr rfl⟩
    | np i' ver fs =>
      obtain ⟨⟨h4, h5, h6⟩, -⟩ := h1
      refine ⟨⟨h4, h5, fun hh => ?_⟩, .inr rfl⟩
      obtain ⟨b', o', us, h7, h8, h9⟩ := h6 hh
      rw [h3] at h7
      injection h7 with h7
      injection h7 with h7
      injection h7 with h7 h10
      subst h7 h10
      exact ⟨b, i + off, fun j => us (off + j), rfl, h8, fun j t hj => by
        have := h9 (off + j) t (hdrop _ _ _ hj)
        rw [Nat.add_assoc]
        exact this⟩
    | ep i' k' n o' =>
      obtain ⟨⟨h4, g, M, c, h5, h6⟩, -⟩ := h1
      rw [h3] at h6
      injection h6 with h6
      injection h6 with h6
      injection h6 with h6 h7
      subst h6 h7
      exact ⟨⟨h4, b, M, c, h5, by rw [Nat.add_assoc]⟩, .inr rfl⟩
    | sc v => cases hc
    | nl ty => cases hc
    | ro t => cases hc
    | hd i => cases hc
    | nd i v t l => cases hc
    | bp b o => cases hc
    | dead => cases hc
end Go.Proofs.Ytlnjgoommpeioaa.V
/- States told by trees: the rules of the code (order, conditions, loops), a call's beginning and its answer. -/
namespace Go.Proofs.Ytlnjgoommpeioaa.V
open Go Go.RowKit
set_option linter.unusedVariables false

/-- The least number, if there is one. -/
theorem exLeast {p : Nat → Prop} (h : ∃ n, p n) : ∃ n, p n ∧ ∀ m, p m → n ≤ m := by
  obtain ⟨n, hn⟩ := h
  induction n using Nat.strongRecOn with
  | _ n ih =>
    rcases Classical.em (∃ m, m < n ∧ p m) with ⟨m, h1, h2⟩ | h
    · exact ih m h1 h2
    · exact ⟨n, hn, fun m hm => Nat.le_of_not_lt fun hlt => h ⟨m, hlt, hm⟩⟩
theorem least_fn {α β : Type} (p : α → β → Nat → Prop) : ∃ f : α → β → Nat, ∀ a b n, p a b n → p a b (f a b) ∧ ∀ m, p a b m → f a b ≤ m :=
  ⟨fun a b => @Classical.epsilon Nat ⟨0⟩ fun n => p a b n ∧ ∀ m, p a b m → n ≤ m, fun a b n h => @Classical.epsilon_spec Nat (fun n => p a b n ∧ ∀ m, p a b m → n ≤ m) (exLeast ⟨n, h⟩)⟩
section
variable {P : Program} {E : Env} {N : Nat} {σ : VS} {Q : Exit → Act → World → Prop}
theorem SV.nil {ops : Array Oper} (h : SV E N σ (Q .normal)) : SV E N σ (wpList P ops Q []) := h
theorem SV.region {id : Nat} {l : List Oper} (h : SV E N σ (wpList P l.toArray Q l)) : SV E N σ ((Code.region id l.toArray false).wp P Q) := fun a w G hr => wp_region_lit (h a w G hr)
theorem SV.seq {x y : Go.Code} (h : ∀ K : Act → World → Prop, (∀ τ, SV E N τ (y.wp P Q) → SV E N τ K) → SV E N σ (x.wp P (Exit.then K Q))) : SV E N σ ((Code.seq x y).wp P Q) := fun a w G hr => wp_seq (h (y.wp P Q) (fun _ h => h) a w G hr)
theorem SV.cond {c : Operand} {x y : Go.Code} {b : Bool} (hc : σ.ev c = V.one (.sc (.bool b))) (ht : b = true → SV E N σ (x.wp P Q)) (hf : b = false → SV E N σ (y.wp P Q)) : SV E N σ ((Code.cond c x y).wp P Q) :=
  fun a w G hr => wp_cond_split (hr.sc hc) (fun e => ht e a w G hr) fun e => hf e a w G hr
theorem SV.block {id : Nat} {c : Go.Code} (h : SV E N σ (c.wp P (Exit.inBlock id Q))) : SV E N σ ((Code.block id c).wp P Q) := fun a w G hr => wp_block (h a w G hr)
theorem SV.skip (h : SV E N σ (Q .normal)) : SV E N σ (Code.skip.wp P Q) := fun a w G hr => wp_skip (h a w G hr)
theorem SV.exit {id : Nat} (h : SV E N σ (Q (.exit id))) : SV E N σ ((Code.exit id).wp P Q) := fun a w G hr => wp_exit (h a w G hr)
theorem SV.ret (h : SV E N σ (Q .ret)) : SV E N σ (Code.ret.wp P Q) := fun a w G hr => wp_ret (h a w G hr)
theorem SV.loop {c : Go.Code} {X : Type} (I : X → VS) (Inv : X → Prop) (μ : X → Nat) (h0 : SV E N σ fun a w => ∃ x, Inv x ∧ ∃ G, Rel E N (I x) a w G)
    (round : ∀ x, Inv x → SV E N (I x) (c.wp P (Exit.then (fun a w => ∃ x', (Inv x' ∧ μ x' < μ x) ∧ ∃ G, Rel E N (I x') a w G) Q))) : SV E N σ ((Code.loop c).wp P Q) := fun a w G hr => by
  obtain ⟨f, hf⟩ := least_fn fun a w n => ∃ x, Inv x ∧ μ x ≤ n ∧ ∃ G, Rel E N (I x) a w G
  refine wp_loop (fun a w => ∃ x, Inv x ∧ ∃ G, Rel E N (I x) a w G) f (h0 a w G hr) ?_
  rintro a w ⟨x, hx, G, hG⟩
  obtain ⟨y, hy, hym, G', hG'⟩ := (hf a w (μ x) ⟨x, hx, Nat.le_refl _, G, hG⟩).1
  refine wp_mono (round y hy a w G' hG') fun e a' w' hq => ?_
  cases e with
  | normal =>
    obtain ⟨z, ⟨hz, hlt⟩, G2, hG2⟩ := hq
    exact ⟨⟨z, hz, G2, hG2⟩, Nat.lt_of_le_of_lt ((hf a' w' (μ z) ⟨z, hz, Nat.le_refl _, G2, hG2⟩).2 _ ⟨z, hz, Nat.le_refl _, G2, hG2⟩) (Nat.lt_of_lt_of_le hlt hym)⟩
  | exit id => exact hq
  | goto l => exact hq
  | ret => exact hq
  | panic ch => exact hq
  | outgrown => exact hq
end
/-! ### Weakening: what is not wanted any more is let go; objects are named anew -/
/-- The leaf y says less than x, objects named anew by ρ. -/
def Leaf.le (σ τ : VS) (ρ : Nat → Nat) (x y : Leaf) : Prop := match y with
  | .dead => True
  | .hd i => x = .hd (ρ i) ∧ i < τ.nx ∧ ρ i < σ.nx
  | .bp b o => x = .bp b o ∧ b < τ.bs.length
  | .sc u => x = .sc u
  | .nl ty => x = .nl ty
  | .ro t => x = .ro t
  | .rp es => x = .rp es
  | _ => False
theorem Leaf.le.holds {σ τ : VS} {ρ : Nat → Nat} {x y : Leaf} {E : Env} {w : World} {G : Ghost} {u : Value} (h : Leaf.le σ τ ρ x y) (hx : Holds G σ E w x u) : Holds ⟨G.β, fun i => G.vl (ρ i), fun i => G.ft (ρ i)⟩ τ E w y u := by
  cases y with
  | dead => exact ⟨trivial, .inl rfl⟩
  | hd i =>
    obtain ⟨rfl, h1, h2⟩ := h
    exact ⟨⟨h1, hx.1.2⟩, .inr (by rcases hx.2 with h | h; (cases h); exact h)⟩
  | bp b o =>
    obtain ⟨rfl, h1⟩ := h
    exact ⟨⟨h1, hx.1.2⟩, .inr (by rcases hx.2 with h | h; (cases h); exact h)⟩
  | sc v => cases h; exact ⟨hx.1, .inr (by rcases hx.2 with h | h; (cases h); exact h)⟩
  | nl ty => cases h; exact ⟨hx.1, .inr (by rcases hx.2 with h | h; (cases h); exact h)⟩
  | ro t => cases h; exact ⟨hx.1, .inr (by rcases hx.2 with h | h; (cases h); exact h)⟩
  | rp es => cases h; exact ⟨hx.1, .inr (by rcases hx.2 with h | h; (cases h); exact h)⟩
  | nd i v t l => exact h.elim
  | np i v es => exact h.elim
  | ep i k n o => exact h.elim
def leafs (σ τ : VS) (ρ : Nat → Nat) : List Leaf → List Leaf → Prop
  | [], [] => True
  | x :: xs, y :: ys => Leaf.le σ τ ρ x y ∧ leafs σ τ ρ xs ys
  | _, _ => False
theorem leafs.len {σ τ : VS} {ρ : Nat → Nat} : ∀ {xs ys : List Leaf}, leafs σ τ ρ xs ys → xs.length = ys.length
  | [], [], _ => rfl
  | x :: xs, y :: ys, h => by simp [leafs.len h.2]
theorem leafs.get {σ τ : VS} {ρ : Nat → Nat} : ∀ {xs ys : List Leaf}, leafs σ τ ρ xs ys → ∀ (j : Nat) (y : Leaf), ys[j]? = some y → ∃ x, xs[j]? = some x ∧ Leaf.le σ τ ρ x y
  | [], [], _, j, y, h => by simp at h
  | x :: xs, z :: ys, h, j, y, hj => by
    cases j with
    | zero => cases hj; exact ⟨x, rfl, h.1⟩
    | succ j => exact leafs.get h.2 j y (by simpa using hj)
/-- Slot by slot: dead, or the same shape with leaves that say less. -/
def V.le (σ τ : VS) (ρ : Nat → Nat) (v v' : V) : Prop := v' = V.one .dead ∨ ∃ ag xs ys, v = V.flat ag xs ∧ v' = V.flat ag ys ∧ leafs σ τ ρ xs ys
structure VS.le (σ τ : VS) (ρ : Nat → Nat) : Prop where
  tm : ∀ s, V.le σ τ ρ (σ.tm s) (τ.tm s)
  bs : τ.bs.length ≤ σ.bs.length
  box : ∀ (b : Nat) (ty : TypeId) (ys : List Leaf), τ.bs[b]? = some (ty, ys) → ∃ xs : List Leaf, σ.bs[b]? = some (ty, xs) ∧ leafs σ τ ρ xs ys
  ob : ∀ i ver t, τ.ob i = some (ver, t) → i < τ.nx ∧ ρ i < σ.nx ∧ ∃ v, σ.ob (ρ i) = some (v, t)
  inj : ∀ i j, τ.ob i ≠ none → τ.ob j ≠ none → ρ i = ρ j → i = j
theorem Rel.weaken {E : Env} {w : World} {N : Nat} {σ τ : VS} {a : Act} {G : Ghost} {ρ : Nat → Nat} (h : Rel E N σ a w G) (hp : E.nl ≤ τ.nx ∧ ∀ i, i < E.nl → ρ i = i) (l : VS.le σ τ ρ) : ∃ G', Rel E N τ a w G' := by
  have live : ∀ i, τ.ob i ≠ none → σ.ob (ρ i) ≠ none := fun i hi => by
    obtain ⟨⟨ver, t⟩, hv⟩ := Option.ne_none_iff_exists'.1 hi
    obtain ⟨-, -, v, h1⟩ := l.ob i ver t hv
    rw [h1]; simp
  refine ⟨⟨G.β, fun i => G.vl (ρ i), fun i => G.ft (ρ i)⟩, h.below, h.dfr, h.nsz, fun s => ?_, fun b ty ys hb => ?_, fun b b' h1 h2 => h.inj b b' (Nat.lt_of_lt_of_le h1 l.bs) (Nat.lt_of_lt_of_le h2 l.bs), fun b i h1 hi => h.boxft b (ρ i) (Nat.lt_of_lt_of_le h1 l.bs) (live i hi), fun i ver t hi => ?_, fun i j b hi hj hij => h.disj _ _ b (live i hi) (live j hj) fun e => hij (l.inj i j hi hj e), fun i b hi => h.ftlt _ b (live i hi), ⟨hp.1, fun i hi => by show G.vl (ρ i) = _; rw [hp.2 i hi]; exact h.lent.2 i hi⟩⟩
  · rcases l.tm s with h1 | ⟨ag, xs, ys, h1, h2, h3⟩
    · rw [h1, vone]
      exact ⟨trivial, .inl rfl⟩
    · have h4 := h.tmps s
      rw [h1, vflat] at h4
      obtain ⟨us, h5, h6, h7⟩ := h4
      rw [h2, vflat]
      refine ⟨us, h5, h6.trans h3.len, fun j y u hj hu => ?_⟩
      obtain ⟨x, hx1, hx2⟩ := h3.get j y hj
      exact hx2.holds (h7 j x u hx1 hu)
  · obtain ⟨xs, h1, h2⟩ := l.box b ty ys hb
    obtain ⟨h3, us, h4, h5, h6⟩ := h.boxes b ty xs h1
    refine ⟨h3, us, h4, h5.trans h2.len, fun j y u hj hu => ?_⟩
    obtain ⟨x, hx1, hx2⟩ := h2.get j y hj
    exact ⟨hx2.holds (h6 j x u hx1 hu).1, (h6 j x u hx1 hu).2⟩
  · obtain ⟨h1, h2, v, h3⟩ := l.ob i ver t hi
    obtain ⟨-, h4, h5⟩ := h.objs _ v t h3
    exact ⟨h1, h4, h5⟩
theorem SV.weaken {E : Env} {N : Nat} {σ τ : VS} {K : Act → World → Prop} (ρ : Nat → Nat) (hp : E.nl ≤ τ.nx ∧ ∀ i, i < E.nl → ρ i = i) (l : VS.le σ τ ρ) (h : SV E N τ K) : SV E N σ K := fun a w G hr => by
  obtain ⟨G', h'⟩ := hr.weaken hp l
  exact h a w G' h'
theorem SV.again {E : Env} {N : Nat} {σ : VS} {X : Type} {I : X → VS} {R : X → Prop} (ρ : Nat → Nat) (x : X) (hx : R x) (hp : E.nl ≤ (I x).nx ∧ ∀ i, i < E.nl → ρ i = i) (l : VS.le σ (I x) ρ) : SV E N σ fun a w => ∃ x, R x ∧ ∃ G, Rel E N (I x) a w G := fun a w G hr => by
  obtain ⟨G', h'⟩ := hr.weaken hp l
  exact ⟨x, hx, G', h'⟩
/-- The lent objects keep their numbers. -/
theorem pins {E : Env} {m n : Nat} {ρ : Nat → Nat} (hE : E.nl = m) (h1 : Nat.ble m n = true) (h : (List.range m).all (fun i => Nat.beq (ρ i) i) = true) : E.nl ≤ n ∧ ∀ i, i < E.nl → ρ i = i := by
  rw [hE]
  exact ⟨Nat.le_of_ble_eq_true h1, fun i hi => Nat.eq_of_beq_eq_true (List.all_eq_true.1 h i (List.mem_range.2 hi))⟩
/-! ### A call's beginning and its answer -/
def VS.init (vs : List V) : VS := ⟨fun s => vs.getD s (V.one .dead), [], fun _ => none, 0⟩
/-- Arguments that may be read. -/
def Env.of (w : World) : Env := ⟨w, fun _ => False, fun _ h => h.elim, fun _ => undef, 0⟩
theorem Env.of_old {w : World} {b : Nat} : (Env.of w).old b ↔ b < w.heap.size := ⟨fun h => h.1, fun h => ⟨h, fun h => h⟩⟩
def ArgsIn (E : Env) (w : World) (ins : List (Bool × List T)) (vs : List Value) : Prop :=
  vs.length = ins.length ∧ ∀ (c : Nat) (ag : Bool) (ts : List T) (v : Value), ins[c]? = some (ag, ts) → vs[c]? = some v → ∃ us : List Value, v = cval ag us ∧ us.length = ts.length ∧ ∀ (j : Nat) (t : T) (u : Value), ts[j]? = some t → us[j]? = some u → Inn E.old w t u
def argLeaf : T → Leaf
  | .lit u => .sc u
  | .any => .dead
  | t => .ro t
theorem init_rel {E : Env} (hE : E.nl = 0) {ins : List (Bool × List T)} {vs : List Value} {n : Nat} (h : ArgsIn E E.w0 ins vs) (hn : vs.length ≤ n) : ∃ G, Rel E n (VS.init (ins.map fun p => V.flat p.1 (p.2.map argLeaf))) { tmps := vs.toArray ++ Array.replicate (n - vs.length) undef, defers := [] } E.w0 G := by
  refine ⟨⟨fun _ => 0, fun _ => undef, fun _ _ => False⟩, Same.refl _ _, rfl, by simp; omega, fun s => ?_, fun b ty xs hb => by simp [VS.init] at hb, fun b b' hb => by simp [VS.init] at hb, fun b i hb => by simp [VS.init] at hb, fun i v t hi => by simp [VS.init] at hi, fun i j b hi => by simp [VS.init] at hi, fun i b hi => by simp [VS.init] at hi, ⟨by rw [hE]; exact Nat.zero_le _, fun i hi => by rw [hE] at hi; exact absurd hi (Nat.not_lt_zero i)⟩⟩
  show VHolds _ _ _ E.w0 ((ins.map fun p => V.flat p.1 (p.2.map argLeaf)).getD s (V.one .dead)) _
  rcases Nat.lt_or_ge s ins.length with hs | hs
  · obtain ⟨p, hp⟩ : ∃ p, ins[s]? = some p := ⟨ins[s], List.getElem?_eq_getElem hs⟩
    obtain ⟨ag, ts⟩ := p
    have hsv : s < vs.length := by rw [h.1]; exact hs
    obtain ⟨us, h1, h2, h3⟩ := h.2 s ag ts vs[s] hp (List.getElem?_eq_getElem hsv)
    have e1 : (ins.map fun p => V.flat p.1 (p.2.map argLeaf)).getD s (V.one .dead) = V.flat ag (ts.map argLeaf) := by simp [List.getD, hp]
    have e2 : (vs.toArray ++ Array.replicate (n - vs.length) undef).getD s undef = vs[s] := by
      simp only [Array.getD_eq_getD_getElem?]
      rw [Array.getElem?_append_left (by simpa using hsv)]
      simp [hsv]
    rw [e1]
    show VHolds _ _ _ E.w0 _ ((vs.toArray ++ Array.replicate (n - vs.length) undef).getD s undef)
    rw [e2, vflat]
    refine ⟨us, h1, by simp [h2], fun j x u hj hu => ?_⟩
    have hjt : j < ts.length := by have := get_lt hj; simpa using this
    have hx : x = argLeaf ts[j] := by
      rw [List.getElem?_map, List.getElem?_eq_getElem hjt] at hj
      exact (Option.some.inj hj).symm
    have hin := h3 j ts[j] u (List.getElem?_eq_getElem hjt) hu
    rw [hx]
    cases hc : ts[j] with
    | any => exact ⟨trivial, .inl rfl⟩
    | lit v =>
      rw [hc] at hin
      cases hin with
      | lit hv => exact ⟨rfl, .inr hv⟩
    | seq ty es => rw [hc] at hin; exact ⟨hin, .inr hin.one⟩
  · have e1 : (ins.map fun p => V.flat p.1 (p.2.map argLeaf)).getD s (V.one .dead) = V.one .dead := by simp [List.getD, hs]
    rw [e1, vone]
    exact ⟨trivial, .inl rfl⟩
/-- The answer: trees in memory of the call's own, apart from each other. -/
def Gives (E : Env) (tup : Bool) (rs : List (Bool × List T)) (e : Ending) (w' : World) : Prop :=
  ∃ (uss : List (List Value)) (F : Nat → Nat → Nat → Prop), uss.length = rs.length ∧ e = .returned (vval tup (List.zipWith (fun r us => cval r.1 us) rs uss)) ∧
    (∀ (c : Nat) (ag : Bool) (ts : List T) (us : List Value), rs[c]? = some (ag, ts) → uss[c]? = some us → us.length = ts.length ∧ ∀ (j : Nat) (t : T) (u : Value), ts[j]? = some t → us[j]? = some u → Own w' 0 t u (F c j)) ∧
    (∀ c j c' j' b, F c j b → F c' j' b → c = c' ∧ j = j') ∧ (∀ c j b, F c j b → (E.B ≤ b ∨ E.ln b) ∧ b < w'.heap.size) ∧ Same E E.w0 w'
/-- The call answers so, whatever the memory. -/
def VC (P : Program) (f : FuncId) (ins : List (Bool × List T)) (tup : Bool) (rs : List (Bool × List T)) : Prop := ∀ (w : World) (vs : List Value), ArgsIn (Env.of w) w ins vs → Calls P f vs.toArray w (Gives (Env.of w) tup rs)
theorem VC.enter {P : Program} {f : FuncId} {fn : Func} {c : Go.Code} {n : Nat} {ins rs : List (Bool × List T)} {tup : Bool} (hf : P.funcs[f]? = some fn) (hb : fn.body = some c) (hn : fn.ntmps = n) (hl : ins.length ≤ n)
    (h : ∀ E, E.nl = 0 → SV E n (VS.init (ins.map fun p => V.flat p.1 (p.2.map argLeaf))) (c.wp P (bodyPost P fn (Gives E tup rs)))) : VC P f ins tup rs := fun w vs hv => by
  refine calls_of_wp hf hb ?_
  obtain ⟨G, hG⟩ := init_rel (E := Env.of w) rfl (n := n) hv (by rw [hv.1]; exact hl)
  have := h (Env.of w) rfl _ _ G hG
  rw [hn]
  have e : (Env.of w).w0 = w := rfl
  rw [e] at this
  simpa using this
end Go.Proofs.Ytlnjgoommpeioaa.V
/- States told by trees: how a call answers. -/
namespace Go.Proofs.Ytlnjgoommpeioaa.V
open Go Go.RowKit
set_option linter.unusedVariables false

/-- The datum that a leaf hands over. -/
def VS.out (σ : VS) : Leaf → Option T
  | .sc u => some (.lit u)
  | .nl ty => some (.seq ty [])
  | .hd i => (σ.ob i).map (·.2)
  | _ => none
def VS.outs (σ : VS) : List Leaf → List T → Prop
  | [], [] => True
  | x :: xs, t :: ts => σ.out x = some t ∧ σ.outs xs ts
  | _, _ => False
def VS.outss (σ : VS) : List (Bool × List Leaf) → List (Bool × List T) → Prop
  | [], [] => True
  | p :: ps, q :: qs => p.1 = q.1 ∧ σ.outs p.2 q.2 ∧ σ.outss ps qs
  | _, _ => False
theorem outs_get {σ : VS} : ∀ {xs : List Leaf} {ts : List T}, σ.outs xs ts → xs.length = ts.length ∧ ∀ (j : Nat) (t : T), ts[j]? = some t → ∃ x, xs[j]? = some x ∧ σ.out x = some t
  | [], [], _ => ⟨rfl, fun j t h => by simp at h⟩
  | x :: xs, t :: ts, h => by
    obtain ⟨h1, h2⟩ := outs_get h.2
    refine ⟨by simp [h1], fun j y hj => ?_⟩
    cases j with
    | zero => cases hj; exact ⟨x, rfl, h.1⟩
    | succ j => exact h2 j y (by simpa using hj)
theorem outss_get {σ : VS} : ∀ {ps : List (Bool × List Leaf)} {qs : List (Bool × List T)}, σ.outss ps qs → ps.length = qs.length ∧ ∀ (c : Nat) (ag : Bool) (ts : List T), qs[c]? = some (ag, ts) → ∃ xs, ps[c]? = some (ag, xs) ∧ σ.outs xs ts
  | [], [], _ => ⟨rfl, fun j a t h => by simp at h⟩
  | p :: ps, q :: qs, h => by
    obtain ⟨h1, h2⟩ := outss_get h.2.2
    refine ⟨by simp [h1], fun c ag ts hc => ?_⟩
    cases c with
    | zero =>
      cases hc
      obtain ⟨ag', xs⟩ := p
      have : ag' = ag := h.1
      subst this
      exact ⟨xs, rfl, h.2.1⟩
    | succ c => exact h2 c ag ts (by simpa using hc)
theorem outs_c {σ : VS} {x : Leaf} {xs : List Leaf} {t : T} {ts : List T} (h : σ.out x = some t) (k : σ.outs xs ts) : σ.outs (x :: xs) (t :: ts) := ⟨h, k⟩
theorem outs_n {σ : VS} : σ.outs [] [] := trivial
/-- Two leaves do not hand over the same object. -/
def two (x y : Leaf) : Prop := ∀ i, x = .hd i → y ≠ .hd i
def Leaf.foot (G : Ghost) : Leaf → Nat → Prop
  | .hd i => G.ft i
  | _ => fun _ => False
variable {P : Program} {E : Env} {N : Nat} {σ : VS} {a : Act} {w : World} {G : Ghost}
theorem Rel.out (h : Rel E N σ a w G) {x : Leaf} {u : Value} {t : T} (hx : Holds G σ E w x u) (ht : σ.out x = some t) : Own w 0 t u (x.foot G) := by
  cases x with
  | sc v =>
    cases ht
    rcases hx.2 with h2 | h2
    · cases h2
    · rw [show u = v from hx.1] at h2 ⊢
      exact .lit h2
  | nl ty =>
    cases ht
    obtain ⟨⟨h1, n, h2, h3⟩, -⟩ := hx
    rw [h1]
    exact Own.seq (es := []) n h2 h3 (fun e he => by cases he) [] (World.ownsRow_nil _ _ _ _) (fun _ _ => False) (fun k e j t u h => by simp at h) (fun u hu => by cases hu) (fun b hb => by cases hb) (fun i b hb => hb.elim) (fun i b hb => hb.elim) fun i j b hb => hb.elim
  | hd i =>
    obtain ⟨⟨ver, s⟩, h1, h2⟩ := Option.map_eq_some_iff.1 ht
    obtain ⟨-, h3, -⟩ := h.objs i ver s h1
    have h2' : s = t := h2
    subst h2'
    rw [hx.1.2]
    exact h3
  | dead => cases ht
  | ro t => cases ht
  | rp es => cases ht
  | nd i v t l => cases ht
  | np i v es => cases ht
  | ep i k n o => cases ht
  | bp b o => cases ht
/-- What a result's place holds. -/
def ResOk (P : Program) (σ : VS) (rv : ResultVar) (ag : Bool) (xs : List Leaf) : Prop := match rv with
  | .tmp t => σ.tm t = V.flat ag xs
  | .cell p ty => ∃ b ty', σ.tm p = V.one (.bp b 0) ∧ σ.bs[b]? = some (ty', xs) ∧ (∀ w, (isAgg ty).run P w = .ok ag w) ∧ (∃ inf, P.info? ty = some inf ∧ inf.size = xs.length) ∧ (ag = false → xs.length = 1)
def rvRun (tmps : Array Value) : ResultVar → Sem Value
  | .tmp t => pure (tmps.getD t undef)
  | .cell p t => do loadVar t (← asAddr (tmps.getD p undef))
theorem Rel.res (h : Rel E N σ a w G) {rv : ResultVar} {ag : Bool} {xs : List Leaf} (hr : ResOk P σ rv ag xs) : ∃ us : List Value, (rvRun a.tmps rv).run P w = .ok (cval ag us) w ∧ us.length = xs.length ∧ ∀ (j : Nat) (x : Leaf) (u : Value), xs[j]? = some x → us[j]? = some u → Holds G σ E w x u := by
  cases rv with
  | tmp t =>
    have h1 := h.tmps t
    rw [show σ.tm t = V.flat ag xs from hr, vflat] at h1
    obtain ⟨us, h2, h3, h4⟩ := h1
    exact ⟨us, by simp only [rvRun, Sem.run_pure, h2], h3, h4⟩
  | cell p ty =>
    obtain ⟨b, ty', h1, h2, h3, h4, h5⟩ := hr
    have h6 := h.tmps p
    rw [h1, vone] at h6
    obtain ⟨⟨-, h7⟩, -⟩ := h6
    obtain ⟨-, us, h8, h9, h10⟩ := h.boxes b ty' xs h2
    have hrun := load_run (P := P) (w := w) (b := G.β b) (i := 0) (us := us) h3 h4 h5 h9 fun j u hj => by
      rw [cell_of_row w _ _ _ _ _ h8, Nat.zero_add]
      simpa using hj
    refine ⟨us, ?_, h9, fun j x u hx hu => (h10 j x u hx hu).1⟩
    simp only [rvRun, h7, Sem.run_bind, asAddr, Sem.run_pure, Result.andThen_ok, hrun]
def ResAll (P : Program) (σ : VS) : List ResultVar → List (Bool × List Leaf) → Prop
  | [], [] => True
  | r :: rs, p :: ps => ResOk P σ r p.1 p.2 ∧ ResAll P σ rs ps
  | _, _ => False
theorem ResAll.cons {r : ResultVar} {rs : List ResultVar} {ag : Bool} {xs : List Leaf} {ps : List (Bool × List Leaf)} (h : ResOk P σ r ag xs) (k : ResAll P σ rs ps) : ResAll P σ (r :: rs) ((ag, xs) :: ps) := ⟨h, k⟩
theorem ResAll.nil' : ResAll P σ [] [] := trivial
theorem ResOk.tmp {t : Nat} {ag : Bool} {xs : List Leaf} (h : σ.tm t = V.flat ag xs) : ResOk P σ (.tmp t) ag xs := h
theorem ResOk.cell {p b : Nat} {ty ty' : TypeId} {ag : Bool} {xs : List Leaf} (h1 : σ.tm p = V.one (.bp b 0)) (h2 : σ.bs[b]? = some (ty', xs)) (h3 : ∀ w, (isAgg ty).run P w = .ok ag w) (h4 : ∃ inf, P.info? ty = some inf ∧ inf.size = xs.length) (h5 : ag = false → xs.length = 1) : ResOk P σ (.cell p ty) ag xs := ⟨b, ty', h1, h2, h3, h4, h5⟩
theorem Rel.resAll (h : Rel E N σ a w G) : ∀ {rs : List ResultVar} {ps : List (Bool × List Leaf)}, ResAll P σ rs ps → ∃ uss : List (List Value), uss.length = ps.length ∧ (rs.mapM (rvRun a.tmps)).run P w = .ok (List.zipWith (fun p us => cval p.1 us) ps uss) w ∧
    ∀ (c : Nat) (ag : Bool) (xs : List Leaf) (us : List Value), ps[c]? = some (ag, xs) → uss[c]? = some us → us.length = xs.length ∧ ∀ (j : Nat) (x : Leaf) (u : Value), xs[j]? = some x → us[j]? = some u → Holds G σ E w x u
  | [], [], _ => ⟨[], rfl, by simp, fun c ag xs us hc => by simp at hc⟩
  | r :: rs, p :: ps, hr => by
    obtain ⟨us, h1, h2, h3⟩ := h.res hr.1
    obtain ⟨uss, h4, h5, h6⟩ := h.resAll hr.2
    refine ⟨us :: uss, by simp [h4], by simp [h1, h5, Result.andThen], fun c ag xs vs hc hv => ?_⟩
    cases c with
    | zero => cases hc; cases hv; exact ⟨h2, h3⟩
    | succ c => exact h6 c ag xs vs (by simpa using hc) (by simpa using hv)
theorem results_run {fn : Func} {rs : List ResultVar} {tmps : Array Value} {vs : List Value} (h : fn.results = rs.toArray) (hr : (rs.mapM (rvRun tmps)).run P w = .ok vs w) : (results fn tmps).run P w = .ok (vval (!(Nat.beq vs.length 1)) vs) w := by
  have e : (rs.toArray.mapM (rvRun tmps)).run P w = .ok vs.toArray w := by
    rw [List.mapM_toArray]
    simp [hr, Result.andThen]
  have e2 : (results fn tmps).run P w = ((rs.toArray.mapM (rvRun tmps)) >>= fun vs => pure (if h : vs.size = 1 then vs[0] else .tuple vs)).run P w := by
    unfold results
    rw [h]
    rfl
  rw [e2, Sem.run_bind, e, Result.andThen_ok, Sem.run_pure]
  match vs with
  | [] => rfl
  | [v] => rfl
  | v :: v' :: vs => simp [vval]
/-- The call answers. -/
theorem SV.done {fn : Func} {rs : List ResultVar} {ps : List (Bool × List Leaf)} {tup : Bool} {qs : List (Bool × List T)} (hf : fn.results = rs.toArray) (hr : ResAll P σ rs ps) (ho : σ.outss ps qs) (ht : (!(Nat.beq qs.length 1)) = tup) (h2 : (ps.flatMap (·.2)).Pairwise two) {e : Exit} (he : e = .ret ∨ e = .normal) : SV E N σ (bodyPost P fn (Gives E tup qs) e) := fun a w G h => by
  obtain ⟨uss, h3, h4, h5⟩ := h.resAll hr
  obtain ⟨h6, h7⟩ := outss_get ho
  have hrun := results_run hf h4
  have hlen : (List.zipWith (fun (p : Bool × List Leaf) us => cval p.1 us) ps uss).length = qs.length := by simp [h3, h6]
  have hag : ∀ c ag ts, qs[c]? = some (ag, ts) → ∃ xs, ps[c]? = some (ag, xs) ∧ σ.outs xs ts := h7
  have hzip : List.zipWith (fun (p : Bool × List Leaf) us => cval p.1 us) ps uss = List.zipWith (fun (q : Bool × List T) us => cval q.1 us) qs uss := by
    apply List.ext_getElem?
    intro c
    rw [List.getElem?_zipWith, List.getElem?_zipWith]
    cases hq : qs[c]? with
    | none =>
      have : ps[c]? = none := by rw [List.getElem?_eq_none_iff] at hq ⊢; omega
      rw [this]
    | some q =>
      obtain ⟨ag, ts⟩ := q
      obtain ⟨xs, hp, -⟩ := hag c ag ts hq
      rw [hp]
      cases uss[c]? <;> rfl
  rw [hlen, ht, hzip] at hrun
  have hpost : a.defers = [] ∧ ∃ v, (results fn a.tmps).run P w = .ok v w ∧ Gives E tup qs (.returned v) w := by
    refine ⟨h.dfr, _, hrun, uss, (fun c j b => ∃ ag xs x, ps[c]? = some (ag, xs) ∧ xs[j]? = some x ∧ x.foot G b), h3.trans h6, rfl, fun c ag ts us hq hu => ?_, ?_, ?_, h.below⟩
    · obtain ⟨xs, hp, hx⟩ := hag c ag ts hq
      obtain ⟨h8, h9⟩ := outs_get hx
      obtain ⟨h10, h11⟩ := h5 c ag xs us hp hu
      refine ⟨h10.trans h8, fun j t u hj hu' => ?_⟩
      obtain ⟨x, hx1, hx2⟩ := h9 j t hj
      exact (h.out (h11 j x u hx1 hu') hx2).mono fun b hb => ⟨ag, xs, x, hp, hx1, hb⟩
    · rintro c j c' j' b ⟨ag, xs, x, h8, h9, h10⟩ ⟨ag', xs', x', h8', h9', h10'⟩
      have key : ∀ {x x' : Leaf}, x.foot G b → x'.foot G b → (∃ t, σ.out x = some t) → (∃ t, σ.out x' = some t) → ¬ two x x' := fun {x x'} k1 k2 k3 k4 k5 => by
        cases x with
        | hd i =>
          cases x' with
          | hd i' =>
            by_cases hii : i = i'
            · exact k5 i rfl (by rw [hii])
            · obtain ⟨t, k3⟩ := k3
              obtain ⟨t', k4⟩ := k4
              obtain ⟨p, e1, -⟩ := Option.map_eq_some_iff.1 k3
              obtain ⟨p', e2, -⟩ := Option.map_eq_some_iff.1 k4
              exact h.disj i i' b (by rw [e1]; simp) (by rw [e2]; simp) hii k1 k2
          | _ => exact k2
        | _ => exact k1
      have hout : ∀ {c j ag xs x}, ps[c]? = some (ag, xs) → xs[j]? = some x → ∃ t, σ.out x = some t := fun {c j ag xs x} k1 k2 => by
        have hc : c < qs.length := by rw [← h6]; exact get_lt k1
        obtain ⟨xs', k3, k4⟩ := hag c qs[c].1 qs[c].2 (by rw [List.getElem?_eq_getElem hc])
        rw [k1] at k3
        cases k3
        obtain ⟨k5, k6⟩ := outs_get k4
        have hj : j < qs[c].2.length := by rw [← k5]; exact get_lt k2
        obtain ⟨y, k7, k8⟩ := k6 j qs[c].2[j] (List.getElem?_eq_getElem hj)
        rw [k2] at k7
        cases k7
        exact ⟨_, k8⟩
      rw [List.pairwise_flatMap] at h2
      have o1 := hout h8 h9
      have o2 := hout h8' h9'
      have hc1 := get_lt h8
      have hc2 := get_lt h8'
      have g1 : ps[c] = (ag, xs) := by rw [List.getElem?_eq_getElem hc1] at h8; exact Option.some.inj h8
      have g2 : ps[c'] = (ag', xs') := by rw [List.getElem?_eq_getElem hc2] at h8'; exact Option.some.inj h8'
      have m1 := get_mem h9
      have m2 := get_mem h9'
      rcases Nat.lt_trichotomy c c' with hcc | hcc | hcc
      · have := (List.pairwise_iff_getElem.1 h2.2) c c' hc1 hc2 hcc x (by rw [g1]; exact m1) x' (by rw [g2]; exact m2)
        exact absurd this (key h10 h10' o1 o2)
      · subst hcc
        rw [h8] at h8'
        cases h8'
        refine ⟨rfl, ?_⟩
        have hp := h2.1 _ (get_mem h8)
        have hj1 := get_lt h9
        have hj2 := get_lt h9'
        have x1 : xs[j] = x := by rw [List.getElem?_eq_getElem hj1] at h9; exact Option.some.inj h9
        have x2 : xs[j'] = x' := by rw [List.getElem?_eq_getElem hj2] at h9'; exact Option.some.inj h9'
        rcases Nat.lt_trichotomy j j' with hjj | hjj | hjj
        · have := (List.pairwise_iff_getElem.1 hp) j j' hj1 hj2 hjj
          rw [x1, x2] at this
          exact absurd this (key h10 h10' o1 o2)
        · exact hjj
        · have := (List.pairwise_iff_getElem.1 hp) j' j hj2 hj1 hjj
          rw [x1, x2] at this
          exact absurd this (key h10' h10 o2 o1)
      · have := (List.pairwise_iff_getElem.1 h2.2) c' c hc2 hc1 hcc x' (by rw [g2]; exact m2) x (by rw [g1]; exact m1)
        exact absurd this (key h10' h10 o2 o1)
    · rintro c j b ⟨ag, xs, x, h8, h9, h10⟩
      have hc : c < qs.length := by rw [← h6]; exact get_lt h8
      obtain ⟨xs', k3, k4⟩ := hag c qs[c].1 qs[c].2 (by rw [List.getElem?_eq_getElem hc])
      rw [h8] at k3
      cases k3
      obtain ⟨k5, k6⟩ := outs_get k4
      have hj : j < qs[c].2.length := by rw [← k5]; exact get_lt h9
      obtain ⟨y, k7, k8⟩ := k6 j qs[c].2[j] (List.getElem?_eq_getElem hj)
      rw [h9] at k7
      cases k7
      cases x with
      | hd i =>
        obtain ⟨p, e1, -⟩ := Option.map_eq_some_iff.1 k8
        exact h.ftlt i b (by rw [e1]; simp) h10
      | _ => exact h10.elim
  rcases he with rfl | rfl <;> exact hpost
end Go.Proofs.Ytlnjgoommpeioaa.V
/- States told by trees: how a walk goes. -/
namespace Go.Proofs.Ytlnjgoommpeioaa.V
open Go Go.RowKit
set_option linter.unusedVariables false

section
variable {P : Program} {E : Env} {N : Nat} {σ : VS} {Q : Exit → Act → World → Prop} {K : Act → World → Prop}
theorem SV.seq' {x y : Go.Code} (h : SV E N σ (x.wp P (Exit.then (y.wp P Q) Q))) : SV E N σ ((Code.seq x y).wp P Q) := fun a w G hr => wp_seq (h a w G hr)
theorem SV.tn (h : SV E N σ K) : SV E N σ (Exit.then K Q .normal) := h
theorem SV.te {id : Nat} (h : SV E N σ (Q (.exit id))) : SV E N σ (Exit.then K Q (.exit id)) := h
theorem SV.tr {K : Act → World → Prop} (h : SV E N σ (Q .ret)) : SV E N σ (Exit.then K Q .ret) := h
theorem SV.bn {id : Nat} (h : SV E N σ (Q .normal)) : SV E N σ (Exit.inBlock id Q .normal) := h
theorem SV.br {id : Nat} (h : SV E N σ (Q .ret)) : SV E N σ (Exit.inBlock id Q .ret) := h
theorem SV.bh {id : Nat} (h : SV E N σ (Q .normal)) : SV E N σ (Exit.inBlock id Q (.exit id)) := fun a w G hr => by
  show if id = id then Q .normal a w else Q (.exit id) a w
  rw [if_pos rfl]
  exact h a w G hr
theorem SV.bm {id id' : Nat} (hne : Nat.beq id' id = false) (h : SV E N σ (Q (.exit id'))) : SV E N σ (Exit.inBlock id Q (.exit id')) := fun a w G hr => by
  show if id' = id then Q .normal a w else Q (.exit id') a w
  rw [if_neg fun e => by rw [e, Nat.beq_refl] at hne; cases hne]
  exact h a w G hr
end
end Go.Proofs.Ytlnjgoommpeioaa.V
