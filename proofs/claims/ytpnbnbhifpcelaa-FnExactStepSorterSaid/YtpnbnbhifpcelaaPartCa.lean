/- Texts joined: VB Plan VD VF VG VFg VNo Sq VTy. -/
import Derived.Test.YtpnbnbhifpcelaaProg
import Derived.WalkKit
import Derived.Below
import Derived.Lib.Hide
import Derived.OwnWalk
import Derived.Laws.OwnMore
import Derived.Deep.AppendLies
import Derived.Lib.ReflectliteSwap
import Derived.Lib.SmallJoins
import Derived.Maps.AppendAt
import Derived.Great.FillDense
import Derived.Great.BuildSlice
import Derived.Deep.AppendSrc
import Derived.Deep.OwnRows
import Derived.Laws.IdiomCopy
import Derived.OrdersHeld
import Derived.Deep.RegionHeld
set_option linter.unusedSimpArgs false
set_option linter.unusedVariables false
theorem gle {a b : Nat} (h : Nat.ble a b = true) : a ≤ b := Nat.le_of_ble_eq_true h
/- Data as trees, how they lie in memory (read; owned in blocks of the call's own), states of a call told by trees, the rules of operations and of code, a call's beginning and its answer; no function of program or reference is walked here. -/
namespace Go.Proofs.Ytpnbnbhifpcelaa.V
open Go Go.RowKit
set_option linter.unusedVariables false
inductive T where
 | any
 | lit (u : Value)
 | seq (ty : TypeId) (es : List (List T))
def Sz (ty : TypeId) (n : Nat) : Prop := ∃ i, Try.prog.info? ty = some i ∧ i.size = n
theorem Sz.eq {ty : TypeId} {n m : Nat} (h : Sz ty n) (k : Sz ty m) : n = m := by
 obtain ⟨i, h1, h2⟩ := h
 obtain ⟨j, k1, k2⟩ := k
 rw [h1] at k1
 cases k1
 exact h2.symm.trans k2
inductive Inn (ok : Nat → Prop) (w : World) : T → Value → Prop
 | any {u : Value} (h : u.oneCell' = true) : Inn ok w .any u
 | lit {u : Value} (h : u.oneCell' = true) : Inn ok w (.lit u) u
 | seq {ty : TypeId} {es : List (List T)} {a : Option Addr} {c : Nat} (n : Nat) (hp : 0 < n) (hz : Sz ty n) (hn : ∀ e ∈ es, e.length = n) (hc : es.length ≤ c) (hm : c ≤ maxLen) (h0 : a = none → c = 0)
   (b o : Nat) (us : Nat → Value) (ha : ∀ ad, a = some ad → es ≠ [] → ad = ⟨b, o, none⟩)
   (hb : es ≠ [] → ok b ∧ b < w.heap.size)
   (hcell : ∀ k e j t, es[k]? = some e → e[j]? = some t → w.cell? ⟨b, o + (k * n + j), none⟩ = some (us (k * n + j)))
   (hr : ∀ k e j t, es[k]? = some e → e[j]? = some t → Inn ok w t (us (k * n + j))) : Inn ok w (.seq ty es) (.slice a es.length c)
def Row (w : World) (B : Nat) (ty : TypeId) (n : Nat) (v : Value) (L : Nat) (xs : List Value) : Prop :=
 xs.length = L * n ∧ ((v = .slice none 0 0 ∧ L = 0) ∨ ∃ (g q c : Nat) (cur : Array Value), v = .slice (some ⟨g, q, none⟩) L c ∧ B ≤ g ∧ w.heap[g]? = some (.cells cur ty (0, 0)) ∧ L ≤ c ∧ c ≤ maxLen ∧ q + c * n ≤ cur.size ∧ (cur.toList.drop q).take (L * n) = xs)
theorem Row.of {w : World} {B : Nat} {ty : TypeId} {n : Nat} {v : Value} {L : Nat} {xs : List Value} (h : w.ownsRow B ty n v L xs) : Row w B ty n v L xs := by
 obtain ⟨h1, ⟨rfl, rfl⟩ | ⟨g, cap, cur, rfl, hB, hh, hc, hm, hsz, ht⟩⟩ := h
 ·exact ⟨h1, .inl ⟨rfl, rfl⟩⟩
 ·exact ⟨h1, .inr ⟨g, 0, cap, cur, rfl, hB, hh, hc, hm, by rw [hsz, Nat.zero_add]; exact Nat.le_refl _, by rw [List.drop_zero]; exact ht⟩⟩
inductive Own (w : World) (B : Nat) : T → Value → (Nat → Prop) → Prop
 | any {u : Value} {F : Nat → Prop} (h : u.oneCell' = true) : Own w B .any u F
 | lit {u : Value} {F : Nat → Prop} (h : u.oneCell' = true) : Own w B (.lit u) u F
 | seq {ty : TypeId} {es : List (List T)} {v : Value} {F : Nat → Prop} (n : Nat) (hp : 0 < n) (hz : Sz ty n) (hn : ∀ e ∈ es, e.length = n) (xs : List Value) (hown : Row w B ty n v es.length xs) (Gs : Nat → Nat → Prop)
   (hr : ∀ k e j t u, es[k]? = some e → e[j]? = some t → xs[k * n + j]? = some u → Own w B t u (Gs (k * n + j)))
   (hone : ∀ u ∈ xs, u.oneCell' = true)
   (hF : ∀ b, v.ownBlock = some b → F b) (hG : ∀ i b, Gs i b → F b) (hne : ∀ i b, Gs i b → v.ownBlock ≠ some b) (hd : ∀ i j b, Gs i b → Gs j b → i = j) : Own w B (.seq ty es) v F
theorem lt_blk {w : World} {b j : Nat} {u : Value} (h : w.cell? ⟨b, j, none⟩ = some u) : b < w.heap.size := by
 rcases Nat.lt_or_ge b w.heap.size with h' | h'
 ·exact h'
 ·simp [World.cell?, Array.getElem?_eq_none h'] at h
theorem at_lt {n k j L : Nat} (hk : k < L) (hj : j < n) : k * n + j < L * n := by
 have h1 : (k + 1) * n ≤ L * n := Nat.mul_le_mul_right n hk
 rw [Nat.add_mul, Nat.one_mul] at h1
 omega
theorem get_lt {α : Type} {l : List α} {k : Nat} {x : α} (h : l[k]? = some x) : k < l.length := (List.getElem?_eq_some_iff.1 h).1
theorem get_mem {α : Type} {l : List α} {k : Nat} {x : α} (h : l[k]? = some x) : x ∈ l := List.mem_of_getElem? h
theorem Inn.frame {ok ok' : Nat → Prop} {w w' : World} {t : T} {v : Value} (h : Inn ok w t v) (hs : w.heap.size ≤ w'.heap.size) (hk : ∀ b, ok b → b < w.heap.size → ok' b ∧ w'.heap[b]? = w.heap[b]?) : Inn ok' w' t v := by
 induction h with
 | any h => exact .any h
 | lit h => exact .lit h
 | @seq ty es a c n hp hz hn hc hm h0 b o us ha hb hcell hr ih =>
  refine .seq n hp hz hn hc hm h0 b o us ha (fun h => ?_) (fun k e j t h1 h2 => ?_) ih
  ·obtain ⟨h1, h2⟩ := hb h
   exact ⟨(hk b h1 h2).1, Nat.lt_of_lt_of_le h2 hs⟩
  ·have hne : es ≠ [] := fun h => by rw [h] at h1; simp at h1
   obtain ⟨h3, h4⟩ := hb hne
   exact (World.cell?_of_block (hk b h3 h4).2).trans (hcell k e j t h1 h2)
theorem Inn.one {ok : Nat → Prop} {w : World} {t : T} {v : Value} (h : Inn ok w t v) : v.oneCell' = true := by
 cases h with
 | any h => exact h
 | lit h => exact h
 | seq => rfl
theorem row_one {w : World} {B : Nat} {T : TypeId} {k n : Nat} {v : Value} {xs : List Value} (h : Row w B T k v n xs) : v.oneCell' = true := by
 obtain ⟨-, ⟨rfl, -⟩ | ⟨g, q, c, cur, rfl, -⟩⟩ := h <;> rfl
theorem Row.lt {w : World} {B : Nat} {T : TypeId} {k n : Nat} {v : Value} {xs : List Value} (h : Row w B T k v n xs) (b : Nat) (hb : v.ownBlock = some b) : B ≤ b ∧ b < w.heap.size := by
 obtain ⟨-, ⟨rfl, -⟩ | ⟨g, q, c, cur, rfl, h1, h2, -⟩⟩ := h
 ·cases hb
 ·cases hb
  exact ⟨h1, lt_of_block h2⟩
theorem row_heap {w w' : World} {B : Nat} {T : TypeId} {k n : Nat} {v : Value} {xs : List Value} (h : Row w B T k v n xs) (hs : ∀ b, v.ownBlock = some b → w'.heap[b]? = w.heap[b]?) : Row w' B T k v n xs := by
 obtain ⟨h1, h0 | ⟨g, q, cap, cur, rfl, hB, hh, h2⟩⟩ := h
 ·exact ⟨h1, .inl h0⟩
 ·exact ⟨h1, .inr ⟨g, q, cap, cur, rfl, hB, (hs g rfl).trans hh, h2⟩⟩
theorem row_lower {w : World} {B B' : Nat} {T : TypeId} {k n : Nat} {v : Value} {xs : List Value} (h : Row w B T k v n xs) (hb : B' ≤ B) : Row w B' T k v n xs := by
 obtain ⟨h1, h0 | ⟨g, q, cap, cur, rfl, hB, h2⟩⟩ := h
 ·exact ⟨h1, .inl h0⟩
 ·exact ⟨h1, .inr ⟨g, q, cap, cur, rfl, Nat.le_trans hb hB, h2⟩⟩
theorem Own.one {w : World} {B : Nat} {t : T} {v : Value} {F : Nat → Prop} (h : Own w B t v F) : v.oneCell' = true := by
 cases h with
 | any h => exact h
 | lit h => exact h
 | seq n hp hz hn xs hown => exact row_one hown
theorem Own.frame {w w' : World} {B : Nat} {t : T} {v : Value} {F : Nat → Prop} (h : Own w B t v F) (hk : ∀ b, F b → w'.heap[b]? = w.heap[b]?) : Own w' B t v F := by
 induction h with
 | any h => exact .any h
 | lit h => exact .lit h
 | seq n hp hz hn xs hown Gs hr hone hF hG hne hd ih =>
  exact .seq n hp hz hn xs (row_heap hown fun b hb => hk b (hF b hb)) Gs (fun k e j t u h1 h2 h3 => ih k e j t u h1 h2 h3 fun b hb => hk b (hG _ b hb)) hone hF hG hne hd
theorem Own.mono {w : World} {B : Nat} {t : T} {v : Value} {F F' : Nat → Prop} (h : Own w B t v F) (hk : ∀ b, F b → F' b) : Own w B t v F' := by
 cases h with
 | any h => exact .any h
 | lit h => exact .lit h
 | seq n hp hz hn xs hown Gs hr hone hF hG hne hd => exact .seq n hp hz hn xs hown Gs hr hone (fun b hb => hk b (hF b hb)) (fun i b hb => hk b (hG i b hb)) hne hd
theorem own_slice {w : World} {B : Nat} {T : TypeId} {k n : Nat} {v : Value} {xs : List Value} (h : Row w B T k v n xs) : ∃ a c, v = .slice a n c ∧ n ≤ c ∧ c ≤ maxLen ∧ (a = none → c = 0) ∧ (0 < n → ∃ g q, a = some ⟨g, q, none⟩ ∧ B ≤ g ∧ g < w.heap.size ∧ (∀ j u, xs[j]? = some u → w.cell? ⟨g, q + j, none⟩ = some u) ∧ ∀ j, w.frozen? ⟨g, j, none⟩ = false) := by
 obtain ⟨h1, ⟨rfl, rfl⟩ | ⟨g, q, cap, cur, rfl, hB, hh, hc, hm, hsz, ht⟩⟩ := h
 ·exact ⟨none, 0, rfl, Nat.le_refl _, Nat.zero_le _, fun _ => rfl, fun h => absurd h (Nat.lt_irrefl 0)⟩
 ·refine ⟨_, _, rfl, hc, hm, fun e => by (cases e), fun _ => ⟨g, q, rfl, hB, lt_of_block hh, fun j u hj => ?_, fun j => by simp [World.frozen?, hh]⟩⟩
  have hjl := get_lt hj
  rw [h1] at hjl
  rw [← ht, List.getElem?_take, if_pos hjl, List.getElem?_drop] at hj
  simp only [World.cell?, hh]
  simpa using hj
theorem Own.inn {w : World} {B : Nat} {t : T} {v : Value} {F : Nat → Prop} (h : Own w B t v F) : Inn F w t v := by
 have key : ∀ {t v F}, Own w B t v F → ∀ F' : Nat → Prop, (∀ b, F b → F' b) → Inn F' w t v := by
  intro t v F h
  induction h with
  | any h => exact fun _ _ => .any h
  | lit h => exact fun _ _ => .lit h
  | @seq ty es v F n hp hz hn xs hown Gs hr hone hF hG hne hd ih =>
   intro F' hF'
   obtain ⟨a, c, rfl, hc, hm, h0, hg⟩ := own_slice hown
   rcases Nat.eq_zero_or_pos es.length with hq | hq
   ·have hes : es = [] := List.eq_nil_of_length_eq_zero hq
    subst hes
    exact .seq n hp hz hn hc hm h0 0 0 (fun _ => .bool false) (fun _ _ h => absurd rfl h) (fun h => absurd rfl h) (fun k e j t h => by simp at h) fun k e j t h => by simp at h
   ·obtain ⟨g, q, rfl, hB, hlt, hcell, -⟩ := hg hq
    have hxl : xs.length = es.length * n := hown.1
    have hx : ∀ k e j t, es[k]? = some e → e[j]? = some t → ∃ u, xs[k * n + j]? = some u := fun k e j t h1 h2 => by
     have h3 := at_lt (get_lt h1) (show j < n by rw [← hn e (get_mem h1)]; exact get_lt h2)
     exact ⟨xs[k * n + j], by rw [List.getElem?_eq_getElem (by omega)]⟩
    refine .seq n hp hz hn hc hm h0 g q (fun i => xs.getD i (.bool false)) (fun ad h _ => (Option.some.inj h).symm) (fun _ => ⟨hF' _ (hF g rfl), hlt⟩) (fun k e j t h1 h2 => ?_) fun k e j t h1 h2 => ?_
    ·obtain ⟨u, hu⟩ := hx k e j t h1 h2
     rw [hcell _ u hu, List.getD, hu]; rfl
    ·obtain ⟨u, hu⟩ := hx k e j t h1 h2
     have := ih k e j t u h1 h2 hu F' fun b hb => hF' b (hG _ b hb)
     rwa [List.getD, hu]
 exact key h F fun _ h => h
/-! ### States -/
inductive Leaf where
 | dead
 | sc (u : Value)
 | nl (ty : TypeId)
 | ro (t : T)
 | rp (es : List T)
 | hd (i : Nat)
 | nd (i ver : Nat) (t : T) (loc : Option (Nat × Nat))
 | np (i ver : Nat) (es : List T)
 | ep (i k n o : Nat)
 | bp (b o : Nat)
structure V where
 tup : Bool
 cs : List (Bool × List Leaf)
abbrev V.one (x : Leaf) : V := ⟨false, [(false, [x])]⟩
abbrev V.agg (xs : List Leaf) : V := ⟨false, [(true, xs)]⟩
def cval (ag : Bool) (us : List Value) : Value := if ag then .agg us.toArray else us.headD undef
def vval (tup : Bool) (vs : List Value) : Value := if tup then .tuple vs.toArray else vs.headD undef
structure VS where
 tm : Nat → V
 bs : List (TypeId × List Leaf)
 ob : Nat → Option (Nat × T)
 nx : Nat
structure Ghost where
 β : Nat → Nat
 vl : Nat → Value
 ft : Nat → Nat → Prop
structure Env where
 w0 : World
 ln : Nat → Prop
 hln : ∀ b, ln b → b < w0.heap.size
 lv : Nat → Value
 nl : Nat
 pin : Option Nat
abbrev Env.B (E : Env) : Nat := E.w0.heap.size
def Env.old (E : Env) (b : Nat) : Prop := b < E.B ∧ ¬ E.ln b
structure Same (E : Env) (w w' : World) : Prop where
 os : w'.os = w.os
 tape : w'.tape = w.tape
 output : w'.output = w.output
 size : w.heap.size ≤ w'.heap.size
 block : ∀ k, E.old k → w'.heap[k]? = w.heap[k]?
theorem Same.refl (E : Env) (w : World) : Same E w w := ⟨rfl, rfl, rfl, Nat.le_refl _, fun _ _ => rfl⟩
theorem Same.trans {E : Env} {a b c : World} (h : Same E a b) (k : Same E b c) : Same E a c := ⟨k.os.trans h.os, k.tape.trans h.tape, k.output.trans h.output, Nat.le_trans h.size k.size, fun i hi => (k.block i hi).trans (h.block i hi)⟩
theorem Same.of_below {E : Env} {w w' : World} (h : Below E.B w w') : Same E w w' := ⟨h.os, h.tape, h.output, h.size, fun k hk => h.block k hk.1⟩
def Holds0 (G : Ghost) (σ : VS) (E : Env) (w : World) (x : Leaf) (u : Value) : Prop := match x with
 | .dead => True
 | .sc v => u = v
 | .nl ty => u = .slice none 0 0 ∧ ∃ n, 0 < n ∧ Sz ty n
 | .ro t => Inn E.old w t u
 | .rp es => ∃ (b o : Nat) (us : Nat → Value), u = .pointer (some ⟨b, o, none⟩) ∧ E.old b ∧ ∀ j t, es[j]? = some t → w.cell? ⟨b, o + j, none⟩ = some (us j) ∧ Inn E.old w t (us j)
 | .hd i => i < σ.nx ∧ u = G.vl i
 | .nd i ver t loc => i < σ.nx ∧ (∀ v t', σ.ob i = some (v, t') → ver ≤ v) ∧ ((∃ t', σ.ob i = some (ver, t')) → Inn (G.ft i) w t u ∧ ∀ k o, loc = some (k, o) → ∃ (g p N c n : Nat) (ty : TypeId) (es : List (List T)) (e : List T), σ.ob i = some (ver, .seq ty es) ∧ G.vl i = .slice (some ⟨g, p, none⟩) N c ∧ es[k]? = some e ∧ e.length = n ∧ o < n ∧ w.cell? ⟨g, p + k * n + o, none⟩ = some u)
 | .np i ver es => i < σ.nx ∧ (∀ v t', σ.ob i = some (v, t') → ver ≤ v) ∧ ((∃ t', σ.ob i = some (ver, t')) → ∃ (b o : Nat) (us : Nat → Value), u = .pointer (some ⟨b, o, none⟩) ∧ G.ft i b ∧ ∀ j t, es[j]? = some t → w.cell? ⟨b, o + j, none⟩ = some (us j) ∧ Inn (G.ft i) w t (us j))
 | .ep i k n o => i < σ.nx ∧ ∃ g p N c : Nat, G.vl i = .slice (some ⟨g, p, none⟩) N c ∧ u = .pointer (some ⟨g, p + k * n + o, none⟩)
 | .bp b o => b < σ.bs.length ∧ u = .pointer (some ⟨G.β b, o, none⟩)
def Holds (G : Ghost) (σ : VS) (E : Env) (w : World) (x : Leaf) (u : Value) : Prop := Holds0 G σ E w x u ∧ (x = .dead ∨ u.oneCell' = true)
def VHolds (G : Ghost) (σ : VS) (E : Env) (w : World) (v : V) (u : Value) : Prop :=
 ∃ uss : List (List Value), uss.length = v.cs.length ∧ u = vval v.tup (List.zipWith (fun c us => cval c.1 us) v.cs uss) ∧
  ∀ (c : Nat) (ag : Bool) (xs : List Leaf) (us : List Value), v.cs[c]? = some (ag, xs) → uss[c]? = some us → us.length = xs.length ∧ ∀ (j : Nat) (x : Leaf) (u : Value), xs[j]? = some x → us[j]? = some u → Holds G σ E w x u
structure Rel (E : Env) (N : Nat) (σ : VS) (a : Act) (w : World) (G : Ghost) : Prop where
 below : Same E E.w0 w
 dfr : a.defers = []
 nsz : a.tmps.size = N
 tmps : ∀ s, VHolds G σ E w (σ.tm s) (a.tmps.getD s undef)
 boxes : ∀ (b : Nat) (ty : TypeId) (xs : List Leaf), σ.bs[b]? = some (ty, xs) → (E.B ≤ G.β b ∨ E.ln (G.β b)) ∧ ∃ us : List Value, w.heap[G.β b]? = some (.cells us.toArray ty (0, 0)) ∧ us.length = xs.length ∧ ∀ (j : Nat) (x : Leaf) (u : Value), xs[j]? = some x → us[j]? = some u → Holds G σ E w x u ∧ u.oneCell' = true
 inj : ∀ b b', b < σ.bs.length → b' < σ.bs.length → G.β b = G.β b' → b = b'
 boxft : ∀ b i, b < σ.bs.length → σ.ob i ≠ none → ¬ G.ft i (G.β b)
 objs : ∀ i ver t, σ.ob i = some (ver, t) → i < σ.nx ∧ Own w 0 t (G.vl i) (G.ft i) ∧ ∃ ty es, t = .seq ty es
 disj : ∀ i j b, σ.ob i ≠ none → σ.ob j ≠ none → i ≠ j → G.ft i b → ¬ G.ft j b
 ftlt : ∀ i b, σ.ob i ≠ none → G.ft i b → (E.B ≤ b ∨ E.ln b) ∧ b < w.heap.size
 lent : E.nl ≤ σ.nx ∧ (∀ i, i < E.nl → G.vl i = E.lv i) ∧ ∀ c, E.pin = some c → 0 < σ.bs.length ∧ G.β 0 = c
end Go.Proofs.Ytpnbnbhifpcelaa.V
namespace Go.Proofs.Ytpnbnbhifpcelaa.V
open Go Go.RowKit
set_option linter.unusedVariables false
structure Step (E : Env) (σ σ' : VS) (w w' : World) (G G' : Ghost) : Prop where
 size : w.heap.size ≤ w'.heap.size
 old : ∀ b, E.old b → w'.heap[b]? = w.heap[b]?
 nx : σ.nx ≤ σ'.nx
 bs : σ.bs.length ≤ σ'.bs.length
 vl : ∀ i, i < σ.nx → G'.vl i = G.vl i
 β : ∀ b, b < σ.bs.length → G'.β b = G.β b
 ob : ∀ i v' t', i < σ.nx → σ'.ob i = some (v', t') → ∃ v t, σ.ob i = some (v, t) ∧ v ≤ v' ∧ (v = v' → t = t' ∧ (∀ b, G.ft i b → b < w.heap.size) ∧ ∀ b, G.ft i b → G'.ft i b ∧ w'.heap[b]? = w.heap[b]?)
theorem Holds0.step {E : Env} {σ σ' : VS} {w w' : World} {G G' : Ghost} {x : Leaf} {u : Value} (h : Holds0 G σ E w x u) (s : Step E σ σ' w w' G G') (hft : ∀ i b, σ.ob i ≠ none → G.ft i b → b < w.heap.size)
  (hrt : ∀ i g p N c ty es, i < σ.nx → σ.ob i ≠ none → G.vl i = .slice (some ⟨g, p, none⟩) N c → (∃ v, σ.ob i = some (v, .seq ty es)) → es ≠ [] → G.ft i g) : Holds0 G' σ' E w' x u := by
 cases x with
 | dead => trivial
 | sc v => exact h
 | nl ty => exact h
 | ro t => exact Inn.frame h s.size fun b hb _ => ⟨hb, s.old b hb⟩
 | rp es =>
  obtain ⟨b, o, us, h1, h2, h3⟩ := h
  exact ⟨b, o, us, h1, h2, fun j t ht => ⟨(World.cell?_of_block (s.old b h2)).trans (h3 j t ht).1, (h3 j t ht).2.frame s.size fun b hb _ => ⟨hb, s.old b hb⟩⟩⟩
 | hd i => exact ⟨Nat.lt_of_lt_of_le h.1 s.nx, h.2.trans (s.vl i h.1).symm⟩
 | nd i ver t loc =>
  refine ⟨Nat.lt_of_lt_of_le h.1 s.nx, fun v' t' hv => ?_, fun ⟨t', hv⟩ => ?_⟩
  ·obtain ⟨v, t, h1, h2, -⟩ := s.ob i v' t' h.1 hv
   exact Nat.le_trans (h.2.1 v t h1) h2
  ·obtain ⟨v, t1, h1, h2, h3⟩ := s.ob i ver t' h.1 hv
   have hve : v = ver := Nat.le_antisymm h2 (h.2.1 v t1 h1)
   subst hve
   obtain ⟨rfl, h4, h5⟩ := h3 rfl
   obtain ⟨h6, h7⟩ := h.2.2 ⟨t1, h1⟩
   refine ⟨h6.frame s.size fun b hb _ => h5 b hb, fun k o hl => ?_⟩
   obtain ⟨g, p, N, c, n, ty, es, e, h8, h9, h10, h11, h12, h13⟩ := h7 k o hl
   have hes : es ≠ [] := fun hh => by rw [hh] at h10; simp at h10
   have hg := hrt i g p N c ty es h.1 (by rw [h8]; simp) h9 ⟨v, h8⟩ hes
   refine ⟨g, p, N, c, n, ty, es, e, ?_, (s.vl i h.1).trans h9, h10, h11, h12, (World.cell?_of_block (h5 g hg).2).trans h13⟩
   rw [h1] at h8
   rw [hv]
   exact h8
 | np i ver es =>
  refine ⟨Nat.lt_of_lt_of_le h.1 s.nx, fun v' t' hv => ?_, fun ⟨t', hv⟩ => ?_⟩
  ·obtain ⟨v, t, h1, h2, -⟩ := s.ob i v' t' h.1 hv
   exact Nat.le_trans (h.2.1 v t h1) h2
  ·obtain ⟨v, t1, h1, h2, h3⟩ := s.ob i ver t' h.1 hv
   have hve : v = ver := Nat.le_antisymm h2 (h.2.1 v t1 h1)
   subst hve
   obtain ⟨rfl, h4, h5⟩ := h3 rfl
   obtain ⟨b, o, us, h6, h7, h8⟩ := h.2.2 ⟨t1, h1⟩
   exact ⟨b, o, us, h6, (h5 b h7).1, fun j t ht => ⟨(World.cell?_of_block (h5 b h7).2).trans (h8 j t ht).1, (h8 j t ht).2.frame s.size fun b hb _ => h5 b hb⟩⟩
 | ep i k n o =>
  obtain ⟨h1, g, p, N, c, h2, h3⟩ := h
  exact ⟨Nat.lt_of_lt_of_le h1 s.nx, g, p, N, c, (s.vl i h1).trans h2, h3⟩
 | bp b o => exact ⟨Nat.lt_of_lt_of_le h.1 s.bs, by rw [s.β b h.1]; exact h.2⟩
theorem VHolds.step {E : Env} {σ σ' : VS} {w w' : World} {G G' : Ghost} {v : V} {u : Value} (h : VHolds G σ E w v u) (k : ∀ x u, Holds G σ E w x u → Holds G' σ' E w' x u) : VHolds G' σ' E w' v u := by
 obtain ⟨uss, h1, h2, h3⟩ := h
 exact ⟨uss, h1, h2, fun c ag xs us h4 h5 => ⟨(h3 c ag xs us h4 h5).1, fun j x u h6 h7 => k x u ((h3 c ag xs us h4 h5).2 j x u h6 h7)⟩⟩
variable {E : Env} {N : Nat} {σ : VS} {a : Act} {w : World} {G : Ghost}
theorem Rel.low (h : Rel E N σ a w G) : E.B ≤ w.heap.size := h.below.size
theorem Rel.root (h : Rel E N σ a w G) (i g p N' c : Nat) (ty : TypeId) (es : List (List T)) (hi : i < σ.nx) (hl : σ.ob i ≠ none) (hv : G.vl i = .slice (some ⟨g, p, none⟩) N' c) (ht : ∃ v, σ.ob i = some (v, .seq ty es)) (hes : es ≠ []) : G.ft i g := by
 obtain ⟨v, ht⟩ := ht
 obtain ⟨-, ho, -⟩ := h.objs i v _ ht
 cases ho with
 | seq n hp hz hn xs hown Gs hr hone hF hG hne hd => exact hF g (by rw [hv]; rfl)
theorem Rel.leaf (h : Rel E N σ a w G) {σ' : VS} {w' : World} {G' : Ghost} (s : Step E σ σ' w w' G G') {x : Leaf} {u : Value} (hx : Holds G σ E w x u) : Holds G' σ' E w' x u :=
 ⟨hx.1.step s (fun i b hi hb => (h.ftlt i b hi hb).2) h.root, hx.2⟩
theorem Rel.ext (h : Rel E N σ a w G) {w' : World} (hb : Below w.heap.size w w') : Rel E N σ a w' G := by
 have s : Step E σ σ w w' G G := ⟨hb.size, fun b hb' => hb.block b (Nat.lt_of_lt_of_le hb'.1 h.low), Nat.le_refl _, Nat.le_refl _, fun _ _ => rfl, fun _ _ => rfl,
  fun i v' t' hi hv => ⟨v', t', hv, Nat.le_refl _, fun _ => ⟨rfl, fun b hb' => (h.ftlt i b (by rw [hv]; simp) hb').2, fun b hb' => ⟨hb', hb.block b (h.ftlt i b (by rw [hv]; simp) hb').2⟩⟩⟩⟩
 refine ⟨h.below.trans (.of_below (hb.mono h.low)), h.dfr, h.nsz, fun k => (h.tmps k).step fun x u hx => h.leaf s hx, fun b ty xs hb' => ?_, h.inj, h.boxft, fun i v t hi => ?_, h.disj, fun i b hi hb' => ⟨(h.ftlt i b hi hb').1, Nat.lt_of_lt_of_le (h.ftlt i b hi hb').2 hb.size⟩, h.lent⟩
 ·obtain ⟨h1, us, h2, h3, h4⟩ := h.boxes b ty xs hb'
  exact ⟨h1, us, (hb.block _ (lt_of_block h2)).trans h2, h3, fun j x u hx hu => ⟨h.leaf s (h4 j x u hx hu).1, (h4 j x u hx hu).2⟩⟩
 ·obtain ⟨h1, h2, h3⟩ := h.objs i v t hi
  exact ⟨h1, h2.frame fun b hb' => hb.block b (h.ftlt i b (by rw [hi]; simp) hb').2, h3⟩
theorem Rel.drew (h : Rel E N σ a w G) : Rel E N σ a w.drew G := h.ext (Below.refl _ _).drew
def VS.put (σ : VS) (d : Nat) (v : V) : VS := { σ with tm := fun s => bif Nat.beq s d then v else σ.tm s }
theorem Holds.put {E : Env} {x : Leaf} {u : Value} {d : Nat} {v : V} (h : Holds G σ E w x u) : Holds G (σ.put d v) E w x u := by cases x <;> exact h
theorem Rel.put (h : Rel E N σ a w G) {d : Nat} {v : V} {u : Value} (hd : d < N) (hv : VHolds G σ E w v u) : Rel E N (σ.put d v) (a.put (some d) u) w G := by
 refine ⟨h.below, h.dfr, by show (a.tmps.setIfInBounds d u).size = N; rw [Array.size_setIfInBounds]; exact h.nsz, fun k => ?_, fun b ty xs hb => ?_, h.inj, h.boxft, h.objs, h.disj, h.ftlt, h.lent⟩
 ·show VHolds G (σ.put d v) _ w (bif Nat.beq k d then v else σ.tm k) ((a.tmps.setIfInBounds d u).getD k undef)
  by_cases hkd : k = d
  ·subst hkd
   have h2 : (a.tmps.setIfInBounds k u).getD k undef = u := by simp [Array.getD, h.nsz, hd]
   rw [h2, Nat.beq_refl]
   exact hv.step fun x u hx => hx.put
  ·have h1 : Nat.beq k d = false := by
    cases hb : Nat.beq k d with
    | false => rfl
    | true => exact absurd (Nat.eq_of_beq_eq_true hb) hkd
   have h2 : (a.tmps.setIfInBounds d u).getD k undef = a.tmps.getD k undef := by
    simp only [Array.getD_eq_getD_getElem?]
    rw [Array.getElem?_setIfInBounds_ne (Ne.symm hkd)]
   rw [h2, h1]
   exact (h.tmps k).step fun x u hx => hx.put
 ·obtain ⟨h1, us, h2, h3, h4⟩ := h.boxes b ty xs hb
  exact ⟨h1, us, h2, h3, fun j x u hx hu => ⟨(h4 j x u hx hu).1.put, (h4 j x u hx hu).2⟩⟩
theorem Rel.alloc (h : Rel E N σ a w G) {ty : TypeId} {us : List Value} {xs : List Leaf} (hl : us.length = xs.length) (hx : ∀ (j : Nat) (x : Leaf) (u : Value), xs[j]? = some x → us[j]? = some u → Holds G σ E w x u ∧ u.oneCell' = true) :
  ∃ G', Rel E N { σ with bs := σ.bs ++ [(ty, xs)] } a (w.alloc (.cells us.toArray ty)) G' ∧ G'.β σ.bs.length = w.heap.size ∧ G'.vl = G.vl ∧ ∀ b, b < σ.bs.length → G'.β b = G.β b := by
 have hb : Below w.heap.size w (w.alloc (.cells us.toArray ty)) := (Below.refl _ _).alloc (Nat.le_refl _) _
 have hnew : (w.alloc (.cells us.toArray ty)).heap[w.heap.size]? = some (.cells us.toArray ty (0, 0)) := heap_alloc_new _ _
 have h' := h.ext hb
 have hlt : ∀ b ty xs, σ.bs[b]? = some (ty, xs) → G.β b < w.heap.size := fun b ty xs hb => by
  obtain ⟨-, us, h2, -⟩ := h.boxes b ty xs hb
  exact lt_of_block h2
 have hlt' : ∀ b, b < σ.bs.length → G.β b < w.heap.size := fun b hb => hlt b _ _ (List.getElem?_eq_getElem hb)
 obtain ⟨G', hG'⟩ : ∃ G' : Ghost, G' = { G with β := fun b => if b = σ.bs.length then w.heap.size else G.β b } := ⟨_, rfl⟩
 have hβ : ∀ b, b < σ.bs.length → G'.β b = G.β b := fun b hb => by rw [hG']; exact if_neg (by omega)
 have hβ' : G'.β σ.bs.length = w.heap.size := by rw [hG']; exact if_pos rfl
 have hvl : G'.vl = G.vl := by rw [hG']
 have hft : G'.ft = G.ft := by rw [hG']
 have s : Step E σ { σ with bs := σ.bs ++ [(ty, xs)] } (w.alloc (.cells us.toArray ty)) (w.alloc (.cells us.toArray ty)) G G' := ⟨Nat.le_refl _, fun b hb' => rfl, Nat.le_refl _, by simp, fun i _ => by rw [hvl], hβ,
  fun i v' t' hi hv => ⟨v', t', hv, Nat.le_refl _, fun _ => ⟨rfl, fun b hb' => (h'.ftlt i b (by rw [show σ.ob i = some (v', t') from hv]; simp) hb').2, fun b hb' => ⟨by rw [hft]; exact hb', rfl⟩⟩⟩⟩
 refine ⟨G', ⟨h'.below, h.dfr, h.nsz, fun k => (h'.tmps k).step fun x u hx => h'.leaf s hx, fun b ty' xs' hb' => ?_, fun b b' hb1 hb2 e => ?_, fun b i hb1 hi hb2 => ?_, fun i v t hi => ?_, ?_, ?_, ⟨h.lent.1, fun i hi => by rw [hvl]; exact h.lent.2.1 i hi, fun c hc => ⟨by simp, (hβ 0 (h.lent.2.2 c hc).1).trans (h.lent.2.2 c hc).2⟩⟩⟩, hβ', hvl, hβ⟩
 ·rcases Nat.lt_or_ge b σ.bs.length with hbl | hbl
  ·have hb2 : σ.bs[b]? = some (ty', xs') := by rw [List.getElem?_append_left hbl] at hb'; exact hb'
   obtain ⟨h1, us', h2, h3, h4⟩ := h'.boxes b ty' xs' hb2
   rw [hβ b hbl]
   exact ⟨h1, us', h2, h3, fun j x u hx' hu => ⟨h'.leaf s (h4 j x u hx' hu).1, (h4 j x u hx' hu).2⟩⟩
  ·have hbe : b = σ.bs.length := by have := get_lt hb'; simp at this; omega
   subst hbe
   have he : (ty, xs) = (ty', xs') := by simpa using hb'
   injection he with e1 e2
   subst e1 e2
   rw [hβ']
   refine ⟨.inl h.low, us, hnew, hl, fun j x u hx' hu => ⟨?_, (hx j x u hx' hu).2⟩⟩
   have s0 : Step E σ σ w (w.alloc (.cells us.toArray ty)) G G := ⟨hb.size, fun b hb' => hb.block b (Nat.lt_of_lt_of_le hb'.1 h.low), Nat.le_refl _, Nat.le_refl _, fun _ _ => rfl, fun _ _ => rfl,
    fun i v' t' hi hv => ⟨v', t', hv, Nat.le_refl _, fun _ => ⟨rfl, fun b hb' => (h.ftlt i b (by rw [hv]; simp) hb').2, fun b hb' => ⟨hb', hb.block b (h.ftlt i b (by rw [hv]; simp) hb').2⟩⟩⟩⟩
   exact h'.leaf s (h.leaf s0 (hx j x u hx' hu).1)
 ·have hb1' : b ≤ σ.bs.length := by simpa [Nat.lt_succ_iff] using hb1
  have hb2' : b' ≤ σ.bs.length := by simpa [Nat.lt_succ_iff] using hb2
  rcases Nat.lt_or_ge b σ.bs.length with hbl | hbl <;> rcases Nat.lt_or_ge b' σ.bs.length with hbl' | hbl'
  ·rw [hβ b hbl, hβ b' hbl'] at e
   exact h.inj b b' hbl hbl' e
  ·rw [hβ b hbl, show b' = σ.bs.length by omega, hβ'] at e
   have := hlt' b hbl
   omega
  ·rw [hβ b' hbl', show b = σ.bs.length by omega, hβ'] at e
   have := hlt' b' hbl'
   omega
  ·omega
 ·have hb1' : b ≤ σ.bs.length := by simpa [Nat.lt_succ_iff] using hb1
  rw [hft] at hb2
  rcases Nat.lt_or_ge b σ.bs.length with hbl | hbl
  ·rw [hβ b hbl] at hb2
   exact h.boxft b i hbl hi hb2
  ·rw [show b = σ.bs.length by omega, hβ'] at hb2
   have := (h.ftlt i _ hi hb2).2
   omega
 ·rw [hvl, hft]; exact h'.objs i v t hi
 ·rw [hft]; exact h'.disj
 ·rw [hft]; exact h'.ftlt
theorem Rel.setbox (h : Rel E N σ a w G) {b : Nat} {ty : TypeId} {xs xs' : List Leaf} {us' : List Value} {w' : World} (hb : σ.bs[b]? = some (ty, xs)) (hbel : Same E w w') (hblk : ∀ k, k ≠ G.β b → w'.heap[k]? = w.heap[k]?) (hnew : w'.heap[G.β b]? = some (.cells us'.toArray ty (0, 0)))
  (hl : us'.length = xs'.length) (hx : ∀ (j : Nat) (x : Leaf) (u : Value), xs'[j]? = some x → us'[j]? = some u → Holds G σ E w x u ∧ u.oneCell' = true) : Rel E N { σ with bs := σ.bs.set b (ty, xs') } a w' G := by
 have hbl := get_lt hb
 have s : Step E σ { σ with bs := σ.bs.set b (ty, xs') } w w' G G := ⟨hbel.size, fun k hk => hbel.block k hk, Nat.le_refl _, by simp, fun _ _ => rfl, fun _ _ => rfl,
  fun i v' t' hi hv => ⟨v', t', hv, Nat.le_refl _, fun _ => ⟨rfl, fun k hk => (h.ftlt i k (by rw [show σ.ob i = some (v', t') from hv]; simp) hk).2, fun k hk => ⟨hk, hblk k fun e => h.boxft b i hbl (by rw [show σ.ob i = some (v', t') from hv]; simp) (by rw [← e]; exact hk)⟩⟩⟩⟩
 refine ⟨h.below.trans hbel, h.dfr, h.nsz, fun k => (h.tmps k).step fun x u hx => h.leaf s hx, fun c ty' ys hc => ?_, fun c c' h1 h2 => h.inj c c' (by simpa using h1) (by simpa using h2), fun c i h1 => h.boxft c i (by simpa using h1), fun i v t hi => ?_, h.disj, fun i k hi hk => ⟨(h.ftlt i k hi hk).1, Nat.lt_of_lt_of_le (h.ftlt i k hi hk).2 hbel.size⟩, ⟨h.lent.1, h.lent.2.1, fun c hc => ⟨by simpa using (h.lent.2.2 c hc).1, (h.lent.2.2 c hc).2⟩⟩⟩
 ·by_cases hcb : b = c
  ·subst hcb
   have he : (ty, xs') = (ty', ys) := by simpa [hbl] using hc
   injection he with e1 e2
   subst e1 e2
   obtain ⟨h1, -⟩ := h.boxes b ty xs hb
   exact ⟨h1, us', hnew, hl, fun j x u hx' hu => ⟨h.leaf s (hx j x u hx' hu).1, (hx j x u hx' hu).2⟩⟩
  ·have hc' : σ.bs[c]? = some (ty', ys) := by rw [← hc]; exact (List.getElem?_set_ne hcb).symm
   obtain ⟨h1, us, h2, h3, h4⟩ := h.boxes c ty' ys hc'
   exact ⟨h1, us, (hblk _ fun e => hcb (h.inj c b (get_lt hc') hbl e).symm).trans h2, h3, fun j x u hx' hu => ⟨h.leaf s (h4 j x u hx' hu).1, (h4 j x u hx' hu).2⟩⟩
 ·obtain ⟨h1, h2, h3⟩ := h.objs i v t hi
  exact ⟨h1, h2.frame fun k hk => hblk k fun e => h.boxft b i hbl (by rw [show σ.ob i = some (v, t) from hi]; simp) (by rw [← e]; exact hk), h3⟩
theorem Rel.turn (h : Rel E N σ a w G) {σ' : VS} {w' : World} {G' : Ghost} (D : Nat → Prop) (htm : σ'.tm = σ.tm) (hbs : σ'.bs = σ.bs) (hβ : G'.β = G.β) (hbel : Same E w w') (hblk : ∀ k, k < w.heap.size → ¬ D k → w'.heap[k]? = w.heap[k]?) (hD : ∀ b, b < σ.bs.length → ¬ D (G.β b))
  (hnx : σ.nx ≤ σ'.nx) (hvl : ∀ i, i < σ.nx → G'.vl i = G.vl i)
  (hob : ∀ i v' t', σ'.ob i = some (v', t') → (σ.ob i = some (v', t') ∧ (∀ b, G'.ft i b ↔ G.ft i b) ∧ ∀ b, G.ft i b → ¬ D b) ∨
   (i < σ'.nx ∧ (i < σ.nx → ∃ v t, σ.ob i = some (v, t) ∧ v < v') ∧ Own w' 0 t' (G'.vl i) (G'.ft i) ∧ (∃ ty es, t' = .seq ty es) ∧ (∀ b, G'.ft i b → (E.B ≤ b ∨ E.ln b) ∧ b < w'.heap.size) ∧ ∀ b, G'.ft i b → ∀ c, c < σ.bs.length → G.β c ≠ b))
  (hdisj : ∀ i j b, σ'.ob i ≠ none → σ'.ob j ≠ none → i ≠ j → G'.ft i b → ¬ G'.ft j b) : Rel E N σ' a w' G' ∧ ∀ x u, Holds G σ E w x u → Holds G' σ' E w' x u := by
 have s : Step E σ σ' w w' G G' := ⟨hbel.size, fun k hk => hbel.block k hk, hnx, by rw [hbs]; exact Nat.le_refl _, hvl, fun b _ => by rw [hβ], fun i v' t' hi hv => by
  rcases hob i v' t' hv with ⟨h1, h2, h3⟩ | ⟨h1, h2, -⟩
  ·exact ⟨v', t', h1, Nat.le_refl _, fun _ => ⟨rfl, fun b hb => (h.ftlt i b (by rw [h1]; simp) hb).2, fun b hb => ⟨(h2 b).2 hb, hblk b (h.ftlt i b (by rw [h1]; simp) hb).2 (h3 b hb)⟩⟩⟩
  ·obtain ⟨v, t, h3, h4⟩ := h2 hi
   exact ⟨v, t, h3, Nat.le_of_lt h4, fun e => absurd e (Nat.ne_of_lt h4)⟩⟩
 refine ⟨?_, fun x u hx => h.leaf s hx⟩
 refine ⟨h.below.trans hbel, h.dfr, h.nsz, fun k => by rw [htm]; exact (h.tmps k).step fun x u hx => h.leaf s hx, fun b ty xs hb => ?_, by rw [hbs, hβ]; exact h.inj, fun b i hb hi hf => ?_, fun i v t hi => ?_, hdisj, fun i b hi hb => ?_, ⟨Nat.le_trans h.lent.1 hnx, fun i hi => (hvl i (Nat.lt_of_lt_of_le hi h.lent.1)).trans (h.lent.2.1 i hi), by rw [hbs, hβ]; exact h.lent.2.2⟩⟩
 ·rw [hbs] at hb
  obtain ⟨h1, us, h2, h3, h4⟩ := h.boxes b ty xs hb
  rw [hβ]
  exact ⟨h1, us, (hblk _ (lt_of_block h2) (hD b (get_lt hb))).trans h2, h3, fun j x u hx hu => ⟨h.leaf s (h4 j x u hx hu).1, (h4 j x u hx hu).2⟩⟩
 ·rw [hbs] at hb
  rw [hβ] at hf
  obtain ⟨⟨v', t'⟩, hv⟩ := Option.ne_none_iff_exists'.1 hi
  rcases hob i v' t' hv with ⟨h1, h2, h3⟩ | ⟨-, -, -, -, -, h6⟩
  ·exact h.boxft b i hb (by rw [h1]; simp) ((h2 _).1 hf)
  ·exact h6 _ hf b hb rfl
 ·rcases hob i v t hi with ⟨h1, h2, h3⟩ | ⟨h1, -, h3, h4, -⟩
  ·obtain ⟨h4, h5, h6⟩ := h.objs i v t h1
   rw [hvl i h4]
   exact ⟨Nat.lt_of_lt_of_le h4 hnx, (h5.frame fun b hb => hblk b (h.ftlt i b (by rw [h1]; simp) hb).2 (h3 b hb)).mono fun b hb => (h2 b).2 hb, h6⟩
  ·exact ⟨h1, h3, h4⟩
 ·obtain ⟨⟨v', t'⟩, hv⟩ := Option.ne_none_iff_exists'.1 hi
  rcases hob i v' t' hv with ⟨h1, h2, h3⟩ | ⟨-, -, -, -, h5, -⟩
  ·have := h.ftlt i b (by rw [h1]; simp) ((h2 b).1 hb)
   exact ⟨this.1, Nat.lt_of_lt_of_le this.2 hbel.size⟩
  ·exact h5 b hb
end Go.Proofs.Ytpnbnbhifpcelaa.V
namespace Go.Proofs.Ytpnbnbhifpcelaa.V
open Go Go.RowKit
set_option linter.unusedVariables false
def SV (E : Env) (N : Nat) (σ : VS) (K : Act → World → Prop) : Prop := ∀ a w G, Rel E N σ a w G → K a w
structure Made (σ : VS) (c : Option Nat) (w w' : World) (G G' : Ghost) (E : Env) (nx' : Nat) : Prop where
 size : w.heap.size ≤ w'.heap.size
 below : Same E w w'
 vl : ∀ i, i < σ.nx → G'.vl i = G.vl i
 β : ∀ b, b < σ.bs.length → G'.β b = G.β b
 block : ∀ b, b < w.heap.size → w'.heap[b]? = w.heap[b]? ∨ ∃ (i v : Nat) (ty : TypeId) (es : List (List T)) (n : Nat) (cs cs' : Array Value), c = some i ∧ σ.ob i = some (v, .seq ty es) ∧ (G.vl i).ownBlock = some b ∧ Sz ty n ∧ w.heap[b]? = some (.cells cs ty (0, 0)) ∧ w'.heap[b]? = some (.cells cs' ty (0, 0)) ∧ cs'.size = cs.size ∧ ∀ q N' c', G.vl i = .slice (some ⟨b, q, none⟩) N' c' → ∀ p, p < es.length * n → cs'[q + p]? = cs[q + p]?
 root : ∀ i, σ.nx ≤ i → i < nx' → ∀ b, (G'.vl i).ownBlock = some b → w.heap.size ≤ b ∨ ∃ j, c = some j ∧ (G.vl j).ownBlock = some b
def OpMk (P : Program) (E : Env) (N : Nat) (c : Option Nat) (σ : VS) (o : Oper) (σ' : VS) : Prop :=
 ∀ a w G (K : Act → World → Prop) (Q : Exit → Act → World → Prop), Rel E N σ a w G → (∀ a' w' G', Rel E N σ' a' w' G' → Made σ c w w' G G' E σ'.nx → K a' w') → o.wp P a w K Q
def OpOk (P : Program) (E : Env) (N : Nat) (σ : VS) (o : Oper) (σ' : VS) : Prop :=
 ∀ a w G (K : Act → World → Prop) (Q : Exit → Act → World → Prop), Rel E N σ a w G → (∀ a' w' G', Rel E N σ' a' w' G' → K a' w') → o.wp P a w K Q
variable {P : Program} {E : Env} {N : Nat} {σ σ' : VS} {o : Oper}
def Lite (E : Env) (nb : Nat) (G : Ghost) (w v : World) : Prop := (∀ b, E.old b → v.heap[b]? = w.heap[b]?) ∧ ∀ c, c < nb → v.heap[G.β c]? = w.heap[G.β c]?
def OpL (P : Program) (E : Env) (N nb : Nat) (σ : VS) (o : Oper) (V' : V) : Prop :=
 ∀ a w G, Rel E N σ a w G → ∃ u, (∀ v, Lite E nb G w v → (execOp a.eval o).run P v = .ok (.value u) v) ∧ VHolds G σ E w V' u
theorem OpMk.ok {c : Option Nat} (h : OpMk P E N c σ o σ') : OpOk P E N σ o σ' := fun a w G K Q hr k => h a w G K Q hr fun a' w' G' hr' _ => k a' w' G' hr'
theorem SV.op {ops : Array Oper} {rest : List Oper} {Q : Exit → Act → World → Prop} (h : OpOk P E N σ o σ') (hg : o.guard = none) (k : SV E N σ' (wpList P ops Q rest)) : SV E N σ (wpList P ops Q (o :: rest)) :=
 fun a w G hr => wpList_plain hg fun K hK => h a w G K Q hr fun a' w' G' hr' => hK _ _ (k a' w' G' hr')
theorem wp_value {a : Act} {w w' : World} {v : Value} {K : Act → World → Prop} {Q : Exit → Act → World → Prop} (h : (execOp a.eval o).run P w = .ok (.value v) w') (k : K (a.put o.dst v) w') : o.wp P a w K Q := by
 unfold Oper.wp
 rw [h]
 exact k
theorem wp_skipped {a : Act} {w w' : World} {K : Act → World → Prop} {Q : Exit → Act → World → Prop} (h : (execOp a.eval o).run P w = .ok .skip w') (k : K (a.put o.dst undef) w') : o.wp P a w K Q := by
 unfold Oper.wp
 rw [h]
 exact k
theorem OpL.ok {nb d : Nat} {V' : V} (h : OpL P E N nb σ o V') (hd : o.dst = some d) (hdN : d < N) : OpOk P E N σ o (σ.put d V') := fun a w G K Q hr k => by
 obtain ⟨u, h1, h2⟩ := h a w G hr
 exact wp_value (h1 w ⟨fun _ _ => rfl, fun _ _ => rfl⟩) (by rw [hd]; exact k _ _ _ (hr.put hdN h2))
/-! ### Values of operands -/
def VS.ev (σ : VS) : Operand → V
 | .tmp t => σ.tm t
 | .const v => V.one (bif v.oneCell' then .sc v else .dead)
 | .global g => V.one (.sc (.pointer (some ⟨g, 0, none⟩)))
 | .func f => V.one (.sc (.func (.func f) #[] #[]))
theorem vone {G : Ghost} {E : Env} {w : World} {x : Leaf} {u : Value} : VHolds G σ E w (V.one x) u ↔ Holds G σ E w x u := by
 constructor
 ·rintro ⟨uss, h1, h2, h3⟩
  match uss, h1 with
  | [us], _ =>
   obtain ⟨h4, h5⟩ := h3 0 false [x] us rfl rfl
   match us, h4 with
   | [v], _ =>
    have : u = v := h2
    rw [this]
    exact h5 0 x v rfl rfl
 ·intro h
  refine ⟨[[u]], rfl, rfl, fun c ag xs us h1 h2 => ?_⟩
  match c, h1, h2 with
  | 0, h1, h2 =>
   cases h1
   cases h2
   refine ⟨rfl, fun j y v h3 h4 => ?_⟩
   match j, h3, h4 with
   | 0, h3, h4 => cases h3; cases h4; exact h
def V.flat (ag : Bool) (xs : List Leaf) : V := ⟨false, [(ag, xs)]⟩
theorem vflat {G : Ghost} {E : Env} {w : World} {ag : Bool} {xs : List Leaf} {u : Value} : VHolds G σ E w (V.flat ag xs) u ↔ ∃ us : List Value, u = cval ag us ∧ us.length = xs.length ∧ ∀ (j : Nat) (x : Leaf) (u : Value), xs[j]? = some x → us[j]? = some u → Holds G σ E w x u := by
 constructor
 ·rintro ⟨uss, h1, h2, h3⟩
  match uss, h1 with
  | [us], _ =>
   obtain ⟨h4, h5⟩ := h3 0 ag xs us rfl rfl
   exact ⟨us, h2, h4, h5⟩
 ·rintro ⟨us, h2, h4, h5⟩
  refine ⟨[us], rfl, h2, fun c ag' xs' us' h1 h2 => ?_⟩
  match c, h1, h2 with
  | 0, h1, h2 =>
   cases h1
   cases h2
   exact ⟨h4, h5⟩
theorem Rel.ev {a : Act} {w : World} {G : Ghost} (h : Rel E N σ a w G) (x : Operand) : VHolds G σ E w (σ.ev x) (a.eval x) := by
 cases x with
 | tmp t => exact h.tmps t
 | const v =>
  show VHolds G σ _ w (V.one (bif v.oneCell' then .sc v else .dead)) v
  rw [vone]
  cases hv : v.oneCell' with
  | true => exact ⟨rfl, .inr hv⟩
  | false => exact ⟨trivial, .inl rfl⟩
 | global g => exact vone.2 ⟨rfl, .inr rfl⟩
 | func f => exact vone.2 ⟨rfl, .inr rfl⟩
theorem Rel.sc {a : Act} {w : World} {G : Ghost} (h : Rel E N σ a w G) {x : Operand} {u : Value} (hx : σ.ev x = V.one (.sc u)) : a.eval x = u := by
 have := h.ev x
 rw [hx, vone] at this
 exact this.1
/-! ### Scalars -/
def VScal (v : V) (u : Value) : Prop := ∃ ag us, v = V.flat ag (us.map .sc) ∧ u = cval ag us
theorem VScal.one {v : V} {u : Value} (h : v = V.one (.sc u)) : VScal v u := ⟨false, [u], h, rfl⟩
theorem Rel.scal {a : Act} {w : World} {G : Ghost} (h : Rel E N σ a w G) {x : Operand} {u : Value} (hx : VScal (σ.ev x) u) : a.eval x = u := by
 obtain ⟨ag, us, h1, h2⟩ := hx
 have := h.ev x
 rw [h1, vflat] at this
 obtain ⟨vs, h3, h4, h5⟩ := this
 have h6 : vs.length = us.length := by simpa using h4
 have : vs = us := by
  apply List.ext_getElem?
  intro j
  rcases Nat.lt_or_ge j us.length with hj | hj
  ·have hj' : j < vs.length := by omega
   have := h5 j (.sc us[j]) vs[j] (by simp [hj]) (by simp [hj'])
   rw [List.getElem?_eq_getElem hj', List.getElem?_eq_getElem hj, this.1]
  ·rw [List.getElem?_eq_none hj, List.getElem?_eq_none (by omega)]
 rw [h3, h2, this]
theorem ok_s1 {nb : Nat} {v u : Value} {x : Operand} (hx : VScal (σ.ev x) u) (hr : ∀ ρ : Operand → Value, ρ x = u → ∀ w, (execOp ρ o).run P w = .ok (.value v) w) (hv : v.oneCell' = true) : OpL P E N nb σ o (V.one (.sc v)) :=
 fun a w G h => ⟨v, fun v' _ => hr a.eval (h.scal hx) v', vone.2 ⟨rfl, .inr hv⟩⟩
theorem ok_s2 {nb : Nat} {v u u' : Value} {x x' : Operand} (hx : VScal (σ.ev x) u) (hx' : VScal (σ.ev x') u') (hr : ∀ ρ : Operand → Value, ρ x = u → ρ x' = u' → ∀ w, (execOp ρ o).run P w = .ok (.value v) w) (hv : v.oneCell' = true) : OpL P E N nb σ o (V.one (.sc v)) :=
 fun a w G h => ⟨v, fun v' _ => hr a.eval (h.scal hx) (h.scal hx') v', vone.2 ⟨rfl, .inr hv⟩⟩
theorem ok_move {nb : Nat} {x : Operand} {v : V} (ho : o.op = .move x ∨ o.op = .assign x) (hx : σ.ev x = v) : OpL P E N nb σ o v :=
 fun a w G h => ⟨a.eval x, fun v' _ => by rcases ho with ho | ho <;> simp [execOp, ho], by rw [← hx]; exact h.ev x⟩
/-! ### Boxes -/
def Leaf.live : Leaf → Bool
 | .dead => false
 | _ => true
theorem Holds.one {G : Ghost} {E : Env} {w : World} {x : Leaf} {u : Value} (h : Holds G σ E w x u) (hl : x.live = true) : u.oneCell' = true := by
 rcases h.2 with rfl | h
 ·cases hl
 ·exact h
def ZL : List Leaf → List Value → Prop
 | [], [] => True
 | .sc v :: xs, u :: us => u = v ∧ u.oneCell' = true ∧ ZL xs us
 | .nl ty :: xs, u :: us => u = .slice none 0 0 ∧ (∃ n, 0 < n ∧ Sz ty n) ∧ ZL xs us
 | _, _ => False
theorem ZL.len : ∀ {xs : List Leaf} {us : List Value}, ZL xs us → us.length = xs.length
 | [], [], _ => rfl
 | .sc v :: xs, u :: us, h => by simp [ZL.len h.2.2]
 | .nl _ :: xs, u :: us, h => by simp [ZL.len h.2.2]
theorem ZL.holds {G : Ghost} {E : Env} {w : World} : ∀ {xs : List Leaf} {us : List Value}, ZL xs us → ∀ (j : Nat) (x : Leaf) (u : Value), xs[j]? = some x → us[j]? = some u → Holds G σ E w x u ∧ u.oneCell' = true
 | [], [], _, j, x, u, h1, _ => by simp at h1
 | .sc v :: xs, u :: us, h, j, x, y, h1, h2 => by
  cases j with
  | zero => cases h1; cases h2; exact ⟨⟨h.1, .inr h.2.1⟩, h.2.1⟩
  | succ j => exact ZL.holds h.2.2 j x y (by simpa using h1) (by simpa using h2)
 | .nl _ :: xs, u :: us, h, j, x, y, h1, h2 => by
  cases j with
  | zero => cases h1; cases h2; exact ⟨⟨⟨h.1, h.2.1⟩, .inr (by rw [h.1]; rfl)⟩, by rw [h.1]; rfl⟩
  | succ j => exact ZL.holds h.2.2 j x y (by simpa using h1) (by simpa using h2)
def VS.box (σ : VS) (ty : TypeId) (xs : List Leaf) : VS := { σ with bs := σ.bs ++ [(ty, xs)] }
theorem Rel.boxed {a : Act} {w : World} {G : Ghost} (h : Rel E N σ a w G) {d : Nat} {ty : TypeId} {us : List Value} {xs : List Leaf} (hdN : d < N) (hl : us.length = xs.length) (hx : ∀ (j : Nat) (x : Leaf) (u : Value), xs[j]? = some x → us[j]? = some u → Holds G σ E w x u ∧ u.oneCell' = true) :
  ∃ G', Rel E N ((σ.box ty xs).put d (V.one (.bp σ.bs.length 0))) (a.put (some d) (.pointer (some ⟨w.heap.size, 0, none⟩))) (w.alloc (.cells us.toArray ty)) G' ∧ Made σ none w (w.alloc (.cells us.toArray ty)) G G' E σ.nx := by
 obtain ⟨G', h1, h2, h3, h4⟩ := h.alloc hl hx
 exact ⟨G', h1.put hdN (vone.2 ⟨⟨by simp, by rw [h2]⟩, .inr rfl⟩), by simp, .of_below ((Below.refl _ _).alloc h.low _), fun i _ => by rw [h3], h4, fun b hb => .inl (Below.heap_alloc _ _ _ hb), fun i h1 h2 => absurd h2 (Nat.not_lt.2 h1)⟩
theorem ok_alloc {d : Nat} {ty : TypeId} {z : Value} {xs : List Leaf} {kk : Nat} (hk : σ.bs.length = kk) (ho : o.op = .alloc ty) (hz : ∀ w, (zeroValue ty).run P w = .ok z w) (hxs : ZL xs z.cells.toList) (hd : o.dst = some d) (hdN : d < N) : OpMk P E N none σ o ((σ.box ty xs).put d (V.one (.bp kk 0))) :=
 fun a w G K Q h k => by
  subst hk
  obtain ⟨G', h', hm⟩ := h.boxed (ty := ty) hdN hxs.len hxs.holds
  refine wp_value (v := .pointer (some ⟨w.heap.size, 0, none⟩)) (w' := w.alloc (.cells z.cells.toList.toArray ty)) ?_ (by rw [hd]; exact k _ _ _ h' hm)
  simp [execOp, ho, Instr.alloc, hz, newVar, newRow, Result.andThen]
theorem cval_cells {ag : Bool} {us : List Value} (h : ag = false → us.length = 1 ∧ ∀ u ∈ us, u.oneCell' = true) : (cval ag us).cells = us.toArray := by
 cases ag with
 | true => rfl
 | false =>
  obtain ⟨h1, h2⟩ := h rfl
  match us, h1 with
  | [u], _ =>
   have := h2 u (List.mem_singleton.2 rfl)
   show Value.cells u = #[u]
   exact Lib.cells_one this
theorem ok_box {d : Nat} {ty : TypeId} {x : Operand} {ag : Bool} {xs : List Leaf} {kk : Nat} (hk : σ.bs.length = kk) (ho : o.op = .box ty x) (hx : σ.ev x = V.flat ag xs) (hag : ag = false → xs.length = 1) (hlv' : xs.all Leaf.live = true) (hd : o.dst = some d) (hdN : d < N) : OpMk P E N none σ o ((σ.box ty xs).put d (V.one (.bp kk 0))) :=
 fun a w G K Q h k => by
  subst hk
  have hlv : ∀ x ∈ xs, x.live = true := List.all_eq_true.1 hlv'
  have h1 := h.ev x
  rw [hx, vflat] at h1
  obtain ⟨us, h2, h3, h4⟩ := h1
  have h5 : ∀ (j : Nat) (x : Leaf) (u : Value), xs[j]? = some x → us[j]? = some u → Holds G σ E w x u ∧ u.oneCell' = true := fun j x u hj hu => ⟨h4 j x u hj hu, (h4 j x u hj hu).one (hlv x (get_mem hj))⟩
  obtain ⟨G', h', hm⟩ := h.boxed (ty := ty) hdN h3 h5
  have h6 : (a.eval x).cells = us.toArray := by
   rw [h2]
   refine cval_cells fun he => ⟨h3.trans (hag he), fun u hu => ?_⟩
   obtain ⟨j, hj, rfl⟩ := List.getElem_of_mem hu
   have hj' : j < xs.length := by omega
   exact (h5 j xs[j] us[j] (by simp [hj']) (by simp [hj])).2
  refine wp_value (v := .pointer (some ⟨w.heap.size, 0, none⟩)) (w' := w.alloc (.cells us.toArray ty)) ?_ (by rw [hd]; exact k _ _ _ h' hm)
  simp [execOp, ho, Instr.box, h6, newVar, newRow, Result.andThen]
theorem ok_field_bp {nb b o' off : Nat} {s : TypeId} {x : Operand} {f : Nat} (ho : o.op = .fieldAddr s x f) (hx : σ.ev x = V.one (.bp b o')) (hf : ∀ (ad : Addr) w, ad.spot = none → (Instr.fieldAt s (.pointer (some ad)) f).run P w = .ok (.pointer (some ⟨ad.block, ad.off + off, none⟩)) w) : OpL P E N nb σ o (V.one (.bp b (o' + off))) :=
 fun a w G h => by
  have h1 := h.ev x
  rw [hx, vone] at h1
  obtain ⟨⟨h1, h2⟩, -⟩ := h1
  exact ⟨.pointer (some ⟨G.β b, o' + off, none⟩), fun v' _ => by simp [execOp, ho, h2, hf, Result.andThen], vone.2 ⟨⟨h1, rfl⟩, .inr rfl⟩⟩
theorem load_run {ty : TypeId} {ag : Bool} {m : Nat} {w : World} {b i : Nat} {us : List Value} (hag : ∀ w, (isAgg ty).run P w = .ok ag w) (hm : ∃ inf, P.info? ty = some inf ∧ inf.size = m) (h1 : ag = false → m = 1) (hl : us.length = m) (hc : ∀ j u, us[j]? = some u → w.cell? ⟨b, i + j, none⟩ = some u) : (loadVar ty ⟨b, i, none⟩).run P w = .ok (cval ag us) w := by
 obtain ⟨inf, hi, hs⟩ := hm
 cases ag with
 | true => exact Lib.rl_loadVar_cells ty inf hi hag b i us (by omega) w hc
 | false =>
  have := h1 rfl
  match us, hl with
  | [u], _ =>
   have := hc 0 u rfl
   rw [Nat.add_zero] at this
   simp [loadVar, hag, this, Result.andThen, cval]
  | [], h => simp at h; omega
  | _ :: _ :: _, h => simp at h; omega
theorem cut_get {α : Type} {xs : List α} {i m j : Nat} {x : α} (h : ((xs.drop i).take m)[j]? = some x) : xs[i + j]? = some x := by
 rw [List.getElem?_take] at h
 split at h
 ·rw [List.getElem?_drop] at h; exact h
 ·cases h
theorem ok_load_bp {nb b i m : Nat} {ty ty' : TypeId} {x : Operand} {ag : Bool} {xs ys : List Leaf} (ho : o.op = .load ty x) (hx : σ.ev x = V.one (.bp b i)) (hb : σ.bs[b]? = some (ty', xs)) (hag : ∀ w, (isAgg ty).run P w = .ok ag w) (hm : ∃ inf, P.info? ty = some inf ∧ inf.size = m) (h1 : ag = false → m = 1)
  (hy : (xs.drop i).take m = ys) (hyl : ys.length = m) (hnb : b < nb) : OpL P E N nb σ o (V.flat ag ys) :=
 fun a w G h => by
  have h2 := h.ev x
  rw [hx, vone] at h2
  obtain ⟨⟨-, h3⟩, -⟩ := h2
  obtain ⟨-, us, h4, h5, h6⟩ := h.boxes b ty' xs hb
  have h7 : ((us.drop i).take m).length = m := by
   have : ((xs.drop i).take m).length = m := by rw [hy]; exact hyl
   simp only [List.length_take, List.length_drop] at this ⊢
   omega
  refine ⟨cval ag ((us.drop i).take m), fun v' hv' => ?_, vflat.2 ⟨_, rfl, by rw [h7, hyl], fun j y u hj hu => (h6 (i + j) y u (cut_get (by rw [hy]; exact hj)) (cut_get hu)).1⟩⟩
  have hr := load_run (P := P) (w := v') (b := G.β b) (i := i) (us := (us.drop i).take m) hag hm h1 h7 fun j u hj => by
   rw [cell_of_row v' _ _ _ _ _ ((hv'.2 b hnb).trans h4)]
   simpa using cut_get hj
  simp [execOp, ho, h3, Instr.loadAt, Instr.sureAddr, hr, Result.andThen]
/-! ### Stores into boxes -/
theorem setCells_heap (b : Nat) : ∀ (vs : List Value) (o : Nat) (w : World) (us : List Value) (ty : TypeId), w.heap[b]? = some (.cells us.toArray ty (0, 0)) → o + vs.length ≤ us.length →
  (w.setCells b o vs).heap[b]? = some (.cells (us.take o ++ vs ++ us.drop (o + vs.length)).toArray ty (0, 0))
 | [], o, w, us, ty, h, hl => by simpa [World.setCells] using h
 | v :: vs, o, w, us, ty, h, hl => by
  rw [World.setCells]
  have h1 := Joins.block_setCell h (i := o) v
  rw [List.length_cons] at hl
  have h2 : (us.toArray.setIfInBounds o v) = (us.set o v).toArray := by simp
  rw [h2] at h1
  rw [setCells_heap b vs (o + 1) _ (us.set o v) ty h1 (by rw [List.length_set]; omega)]
  congr 3
  have e1 : (us.set o v).take (o + 1) = us.take o ++ [v] := by
   rw [List.take_succ_eq_append_getElem (by rw [List.length_set]; omega), List.getElem_set_self, List.take_set_of_le (Nat.le_refl _)]
  have e2 : (us.set o v).drop (o + 1 + vs.length) = us.drop (o + (v :: vs).length) := by
   rw [List.drop_set_of_lt (by omega), List.length_cons]
   congr 1
   omega
  rw [e1, e2]
  simp
theorem setCells_far (b : Nat) : ∀ (vs : List Value) (o : Nat) (w : World) (k : Nat), k ≠ b → (w.setCells b o vs).heap[k]? = w.heap[k]?
 | [], _, _, _, _ => rfl
 | v :: vs, o, w, k, h => by rw [World.setCells, setCells_far b vs (o + 1) _ k h]; exact Below.heap_setCell _ _ _ _ h
theorem setCells_below (b B : Nat) : ∀ (vs : List Value) (o : Nat) (w : World), B ≤ b → Below B w (w.setCells b o vs)
 | [], _, w, _ => Below.refl _ _
 | v :: vs, o, w, h => by
  rw [World.setCells]
  exact ((Below.refl B w).setCell (p := ⟨b, o, none⟩) h v).trans (setCells_below b B vs (o + 1) _ h)
theorem store_run {ty : TypeId} {ag : Bool} {m : Nat} {w : World} {b i : Nat} {us : List Value} (hm : ∃ inf, P.info? ty = some inf ∧ inf.size = m) (h1 : ag = false → m = 1) (hl : us.length = m) (hone : ∀ u ∈ us, u.oneCell' = true) (hc : ∀ k, k < m → (w.cell? ⟨b, i + k, none⟩).isSome = true) (hf : ∀ k, k < m → w.frozen? ⟨b, i + k, none⟩ = false) :
  (storeVar ty ⟨b, i, none⟩ (cval ag us)).run P w = .ok () (w.setCells b i us) := by
 obtain ⟨inf, hi, hs⟩ := hm
 cases ag with
 | true => exact Lib.rl_storeVar_cells ty inf hi b i us (by omega) hone w (fun k hk => hc k (by omega)) fun k hk => hf k (by omega)
 | false =>
  have hm1 := h1 rfl
  match us, hl with
  | [u], _ =>
   have h2 := hc 0 (by omega)
   obtain ⟨y, hy⟩ := Option.isSome_iff_exists.mp h2
   have h3 := hf 0 (by omega)
   rw [Nat.add_zero] at hy h3
   exact Lib.rl_storeVar_one ty inf hi (by omega) ⟨b, i, none⟩ u y (hone u (List.mem_singleton.2 rfl)) w hy h3
  | [], h => simp at h; omega
  | _ :: _ :: _, h => simp at h; omega
def VS.setb (σ : VS) (b : Nat) (ty : TypeId) (xs : List Leaf) : VS := { σ with bs := σ.bs.set b (ty, xs) }
theorem cat_get {α β : Type} {R : α → β → Prop} {xs zs : List α} {us vs : List β} {i : Nat} (h1 : us.length = xs.length) (h2 : vs.length = zs.length) (hi : i + zs.length ≤ xs.length) (hx : ∀ (j : Nat) (x : α) (u : β), xs[j]? = some x → us[j]? = some u → R x u) (hz : ∀ (j : Nat) (x : α) (u : β), zs[j]? = some x → vs[j]? = some u → R x u)
  (j : Nat) (x : α) (u : β) (h3 : (xs.take i ++ zs ++ xs.drop (i + zs.length))[j]? = some x) (h4 : (us.take i ++ vs ++ us.drop (i + vs.length))[j]? = some u) : R x u := by
 rw [List.append_assoc] at h3 h4
 rcases Nat.lt_or_ge j i with hj | hj
 ·rw [List.getElem?_append_left (by rw [List.length_take]; omega), List.getElem?_take, if_pos hj] at h3 h4
  exact hx j x u h3 h4
 ·rw [List.getElem?_append_right (by rw [List.length_take]; omega), List.length_take, Nat.min_eq_left (by omega)] at h3 h4
  rcases Nat.lt_or_ge (j - i) zs.length with hk | hk
  ·rw [List.getElem?_append_left (by omega)] at h3 h4
   exact hz _ x u h3 h4
  ·rw [List.getElem?_append_right (by omega), List.getElem?_drop] at h3 h4
   have e : i + vs.length + (j - i - vs.length) = i + zs.length + (j - i - zs.length) := by omega
   rw [e] at h4
   exact hx _ x u h3 h4
theorem ok_store_bp {b i m : Nat} {ty ty' : TypeId} {x y : Operand} {ag : Bool} {xs zs : List Leaf} (ho : o.op = .store ty x y) (hx : σ.ev x = V.one (.bp b i)) (hy : σ.ev y = V.flat ag zs) (hb : σ.bs[b]? = some (ty', xs)) (hm : ∃ inf, P.info? ty = some inf ∧ inf.size = m) (h1 : ag = false → m = 1)
  (hzl : zs.length = m) (hi : i + m ≤ xs.length) (hlv' : zs.all Leaf.live = true) (hd : o.dst = none) {ys : List Leaf} (hk : xs.take i ++ zs ++ xs.drop (i + zs.length) = ys) : OpOk P E N σ o (σ.setb b ty' ys) :=
 fun a w G K Q h k => by
  subst hk
  have h2 := h.ev x
  rw [hx, vone] at h2
  obtain ⟨⟨-, h3⟩, -⟩ := h2
  have hlv : ∀ x ∈ zs, x.live = true := List.all_eq_true.1 hlv'
  have h4 := h.ev y
  rw [hy, vflat] at h4
  obtain ⟨vs, h5, h6, h7⟩ := h4
  obtain ⟨hB, us, h8, h9, h10⟩ := h.boxes b ty' xs hb
  have hone : ∀ (j : Nat) (x : Leaf) (u : Value), zs[j]? = some x → vs[j]? = some u → Holds G σ E w x u ∧ u.oneCell' = true := fun j x u hj hu => ⟨h7 j x u hj hu, (h7 j x u hj hu).one (hlv x (get_mem hj))⟩
  have hr := store_run (P := P) (w := w) (b := G.β b) (i := i) (us := vs) (ag := ag) hm h1 (h6.trans hzl) (fun u hu => by
   obtain ⟨j, hj, rfl⟩ := List.getElem_of_mem hu
   exact (hone j zs[j] vs[j] (by simp [show j < zs.length by omega]) (by simp [hj])).2) (fun k hk => by
   rw [cell_of_row w _ _ _ _ _ h8]
   simp [show i + k < us.length by omega]) fun k hk => by simp [World.frozen?, h8]
  refine wp_skipped (w' := w.setCells (G.β b) i vs) ?_ (by
   rw [hd]
   exact k _ _ _ (h.setbox hb ⟨(setCells_below _ _ _ _ _ (Nat.le_refl (G.β b))).os, (setCells_below _ _ _ _ _ (Nat.le_refl (G.β b))).tape, (setCells_below _ _ _ _ _ (Nat.le_refl (G.β b))).output, (setCells_below _ _ _ _ _ (Nat.le_refl (G.β b))).size, fun k hk => setCells_far _ _ _ _ k fun e => by subst e; exact hB.elim (fun h1 => Nat.lt_irrefl _ (Nat.lt_of_lt_of_le hk.1 h1)) hk.2⟩ (fun k hk => setCells_far _ _ _ _ k hk) (setCells_heap _ _ _ _ us ty' h8 (by omega)) (by simp; omega)
    (cat_get (R := fun x u => Holds G σ E w x u ∧ u.oneCell' = true) h9 h6 (by omega) h10 hone)))
  simp [execOp, ho, h3, h5, Instr.storeAt, Instr.sureAddr, hr, Result.andThen]
end Go.Proofs.Ytpnbnbhifpcelaa.V
namespace Go.Proofs.Ytpnbnbhifpcelaa.V
open Go Go.RowKit
set_option linter.unusedVariables false
theorem Sz.of {ty : TypeId} {n : Nat} (h : (Try.prog.info? ty).map (·.size) = some n) : Sz ty n := by
 cases hi : Try.prog.info? ty with
 | none => rw [hi] at h; cases h
 | some i => rw [hi] at h; exact ⟨i, hi, Option.some.inj h⟩
def VS.tr (σ : VS) : Leaf → Option T
 | .sc u => some (.lit u)
 | .nl ty => some (.seq ty [])
 | .ro t => some t
 | .hd i => (σ.ob i).map (·.2)
 | .nd i ver t _ => (σ.ob i).bind fun p => bif Nat.beq p.1 ver then some t else none
 | _ => none
def Leaf.okIn (G : Ghost) (E : Env) : Leaf → Nat → Prop
 | .hd i => G.ft i
 | .nd i _ _ _ => G.ft i
 | _ => E.old
variable {E : Env} {N : Nat} {σ σ' : VS} {o : Oper} {a : Act} {w : World} {G : Ghost}
theorem Rel.tree (h : Rel E N σ a w G) {x : Leaf} {u : Value} {t : T} (hx : Holds G σ E w x u) (ht : σ.tr x = some t) : Inn (x.okIn G E) w t u := by
 cases x with
 | sc v =>
  cases ht
  obtain ⟨h1, h2⟩ := hx
  rcases h2 with h2 | h2
  ·cases h2
  ·rw [show u = v from h1] at h2 ⊢
   exact .lit h2
 | nl ty =>
  cases ht
  obtain ⟨⟨h1, n, h2, h3⟩, -⟩ := hx
  rw [h1]
  exact Inn.seq (es := []) n h2 h3 (fun e he => by cases he) (Nat.le_refl _) (Nat.zero_le _) (fun _ => rfl) 0 0 (fun _ => .bool false) (fun _ _ h => absurd rfl h) (fun h => absurd rfl h) (fun k e j t h => by simp at h) fun k e j t h => by simp at h
 | ro s => cases ht; exact hx.1
 | hd i =>
  obtain ⟨⟨ver, s⟩, h1, h2⟩ := Option.map_eq_some_iff.1 ht
  obtain ⟨-, h3, -⟩ := h.objs i ver s h1
  rw [hx.1.2, ← h2]
  exact h3.inn
 | nd i ver s loc =>
  obtain ⟨⟨v, s'⟩, h1, h2⟩ := Option.bind_eq_some_iff.1 ht
  have hv : v = ver := by
   cases hb : Nat.beq v ver with
   | true => exact Nat.eq_of_beq_eq_true hb
   | false => simp only [hb] at h2; cases h2
  subst hv
  have h3 : s = t := by simpa using h2
  subst h3
  exact (hx.1.2.2 ⟨s', h1⟩).1
 | dead => cases ht
 | rp es => cases ht
 | np i v es => cases ht
 | ep i k n o => cases ht
 | bp b o => cases ht
theorem inn_seq {ok : Nat → Prop} {ty : TypeId} {es : List (List T)} {u : Value} (h : Inn ok w (.seq ty es) u) : ∃ (ad : Option Addr) (c n : Nat), u = .slice ad es.length c ∧ es.length ≤ c ∧ c ≤ maxLen ∧ (ad = none → c = 0) ∧ 0 < n ∧ Sz ty n ∧ (∀ e ∈ es, e.length = n) ∧
  ∃ (b o : Nat) (us : Nat → Value), (∀ x, ad = some x → es ≠ [] → x = ⟨b, o, none⟩) ∧ (es ≠ [] → ok b ∧ b < w.heap.size) ∧ (∀ k e j t, es[k]? = some e → e[j]? = some t → w.cell? ⟨b, o + (k * n + j), none⟩ = some (us (k * n + j))) ∧ ∀ k e j t, es[k]? = some e → e[j]? = some t → Inn ok w t (us (k * n + j)) := by
 cases h with
 | seq n hp hz hn hc hm h0 b o us ha hb hcell hr => exact ⟨_, _, n, rfl, hc, hm, h0, hp, hz, hn, b, o, us, ha, hb, hcell, hr⟩
theorem Rel.head (h : Rel E N σ a w G) {x : Operand} {lf : Leaf} {ty : TypeId} {es : List (List T)} (hx : σ.ev x = V.one lf) (ht : σ.tr lf = some (.seq ty es)) : Inn (lf.okIn G E) w (.seq ty es) (a.eval x) := by
 have h1 := h.ev x
 rw [hx, vone] at h1
 exact h.tree h1 ht
theorem ok_len {nb : Nat} {x : Operand} {lf : Leaf} {ty t : TypeId} {es : List (List T)} (ho : o.op = .call { callee := .builtin .len, args := #[x], argTypes := #[t] }) (hu : Try.prog.underlying t = some (.slice ty)) (hx : σ.ev x = V.one lf) (ht : σ.tr lf = some (.seq ty es)) :
  OpL Try.prog E N nb σ o (V.one (.sc (.int .i64 (es.length : Nat)))) :=
 fun a w G h => by
  obtain ⟨ad, c, n, h1, -⟩ := inn_seq (h.head hx ht)
  refine ⟨.int .i64 (es.length : Nat), fun v' _ => ?_, vone.2 ⟨rfl, .inr rfl⟩⟩
  simp [execOp, ho, resolve, invoke, builtin, Builtin.len_, h1, run_underlying hu, goInt, Result.andThen]
def Leaf.elem (lf : Leaf) (k n : Nat) (e : List T) : Leaf := match lf with
 | .ro _ => .rp e
 | .hd i => .ep i k n 0
 | .nd i ver _ _ => .np i ver e
 | _ => .dead
theorem ok_index {nb k n : Nat} {x ix : Operand} {lf : Leaf} {ty t : TypeId} {es : List (List T)} {e : List T} {ki : IntKind} (ho : o.op = .indexAddr t x ix) (hu : Try.prog.underlying t = some (.slice ty)) (hz : Sz ty n) (hx : σ.ev x = V.one lf) (ht : σ.tr lf = some (.seq ty es)) (hi : σ.ev ix = V.one (.sc (.int ki (k : Nat)))) (he : es[k]? = some e) :
  OpL Try.prog E N nb σ o (V.one (lf.elem k n e)) :=
 fun a w G h => by
  have h0 := h.ev x
  rw [hx, vone] at h0
  obtain ⟨ad, c, n', h1, hc, hm, ha0, hp, hz', hn, b, o', us, ha, hb, hcell, hr⟩ := inn_seq (h.head hx ht)
  have hnn := hz'.eq hz
  subst hnn
  have hkl := get_lt he
  have hne : es ≠ [] := fun hh => by rw [hh] at he; simp at he
  have had : ad = some ⟨b, o', none⟩ := by
   cases had : ad with
   | none => have := ha0 had; omega
   | some y => rw [ha y had hne]
  subst had
  have h2 := h.sc hi
  obtain ⟨inf, hinf, hsz⟩ := hz
  have hrun : ∀ v', (execOp a.eval o).run Try.prog v' = .ok (.value (.pointer (some ⟨b, o' + k * n', none⟩))) v' := fun v' => by
   simp [execOp, ho, Instr.indexAt, asIntOf, h1, h2, run_underlying hu, sizeOf, Lib.rl_info ty inf hinf, hsz, Addr.add_lit, show k < es.length from hkl, Result.andThen]
  refine ⟨_, fun v' _ => hrun v', vone.2 ?_⟩
  have hel : ∀ j t, e[j]? = some t → w.cell? ⟨b, o' + k * n' + j, none⟩ = some (us (k * n' + j)) ∧ Inn (lf.okIn G E) w t (us (k * n' + j)) := fun j t hj => by
   refine ⟨?_, hr k e j t he hj⟩
   rw [Nat.add_assoc]
   exact hcell k e j t he hj
  cases lf with
  | ro s => exact ⟨⟨b, o' + k * n', fun j => us (k * n' + j), rfl, (hb hne).1, hel⟩, .inr rfl⟩
  | hd i =>
   obtain ⟨⟨hi1, hi2⟩, -⟩ := h0
   obtain ⟨⟨ver, s⟩, ho1, ho2⟩ := Option.map_eq_some_iff.1 ht
   obtain ⟨-, ho3, -⟩ := h.objs i ver s ho1
   have ho2' : s = .seq ty es := ho2
   subst ho2'
   cases ho3 with
   | seq n2 hp2 hz2 hn2 xs hown =>
    obtain ⟨a2, c2, h4, -, -, -, h7⟩ := own_slice hown
    obtain ⟨g, q, h8, -⟩ := h7 (by omega)
    rw [h8] at h4
    have h5 : Value.slice (some ⟨b, o', none⟩) es.length c = Value.slice (some ⟨g, q, none⟩) es.length c2 := by rw [← h1, ← h4]; exact hi2
    injection h5 with h5 _ _
    injection h5 with h5
    injection h5 with h5 h6
    subst h5 h6
    exact ⟨⟨hi1, b, _, es.length, c2, h4, by rw [Nat.add_zero]⟩, .inr rfl⟩
  | nd i ver s loc =>
   exact ⟨⟨h0.1.1, h0.1.2.1, fun _ => ⟨b, o' + k * n', fun j => us (k * n' + j), rfl, (hb hne).1, hel⟩⟩, .inr rfl⟩
  | sc v => cases ht
  | nl ty' => exact ⟨trivial, .inl rfl⟩
  | dead => cases ht
  | rp es => cases ht
  | np i v es => cases ht
  | ep i k n o => cases ht
  | bp b o => cases ht
def VS.cells (σ : VS) : Leaf → Option (List T)
 | .rp es => some es
 | .np i ver es => (σ.ob i).bind fun p => bif Nat.beq p.1 ver then some es else none
 | .ep i k n o => (σ.ob i).bind fun p => match p.2 with
  | .seq _ es => es[k]?.bind fun e => bif Nat.beq e.length n then some (e.drop o) else none
  | _ => none
 | _ => none
def VS.cellLeaf (σ : VS) (p : Leaf) (j : Nat) : T → Leaf
 | .lit u => .sc u
 | .any => .dead
 | .seq ty es => match p with
  | .rp _ => .ro (.seq ty es)
  | .np i ver _ => .nd i ver (.seq ty es) none
  | .ep i k n o => match σ.ob i with
   | some (ver, _) => .nd i ver (.seq ty es) (some (k, o + j))
   | none => .dead
  | _ => .dead
theorem Rel.cells (h : Rel E N σ a w G) {p : Leaf} {u : Value} {es : List T} (hp : Holds G σ E w p u) (hc : σ.cells p = some es) : ∃ b o, u = .pointer (some ⟨b, o, none⟩) ∧ ∀ j t, es[j]? = some t → ∃ y, w.cell? ⟨b, o + j, none⟩ = some y ∧ Holds G σ E w (σ.cellLeaf p j t) y := by
 have mk : ∀ {ok : Nat → Prop} {t : T} {y : Value} {x : Leaf}, Inn ok w t y → (∀ v, t = .lit v → x = .sc v) → (t = .any → x = .dead) → ((∃ ty es, t = .seq ty es) → Holds0 G σ E w x y) → Holds G σ E w x y := fun {ok t y x} hi h1 h2 h3 => by
  cases t with
  | any => rw [h2 rfl]; exact ⟨trivial, .inl rfl⟩
  | lit v =>
   rw [h1 v rfl]
   cases hi with
   | lit hv => exact ⟨rfl, .inr hv⟩
  | seq ty es => exact ⟨h3 ⟨_, _, rfl⟩, .inr hi.one⟩
 cases p with
 | rp fs =>
  cases hc
  obtain ⟨⟨b, o, us, h1, h2, h3⟩, -⟩ := hp
  refine ⟨b, o, h1, fun j t hj => ⟨us j, (h3 j t hj).1, mk (h3 j t hj).2 (fun v e => by subst e; rfl) (fun e => by subst e; rfl) fun ⟨ty, es, e⟩ => by subst e; exact (h3 j _ hj).2⟩⟩
 | np i ver fs =>
  obtain ⟨⟨v, s⟩, h1, h2⟩ := Option.bind_eq_some_iff.1 hc
  have hv : v = ver := by
   cases hb : Nat.beq v ver with
   | true => exact Nat.eq_of_beq_eq_true hb
   | false => simp only [hb] at h2; cases h2
  subst hv
  have h3 : fs = es := by simpa using h2
  subst h3
  obtain ⟨⟨h4, h5, h6⟩, -⟩ := hp
  obtain ⟨b, o, us, h7, h8, h9⟩ := h6 ⟨s, h1⟩
  refine ⟨b, o, h7, fun j t hj => ⟨us j, (h9 j t hj).1, mk (h9 j t hj).2 (fun v e => by subst e; rfl) (fun e => by subst e; rfl) fun ⟨ty, es, e⟩ => ?_⟩⟩
  subst e
  exact ⟨h4, h5, fun _ => ⟨(h9 j _ hj).2, fun k o e => by cases e⟩⟩
 | ep i k n o =>
  obtain ⟨⟨ver, s⟩, h1, h2⟩ := Option.bind_eq_some_iff.1 hc
  obtain ⟨hlt, ho, ty, fs, hs⟩ := h.objs i ver s h1
  have hs' : s = .seq ty fs := hs
  subst hs'
  obtain ⟨e, he, h3⟩ := Option.bind_eq_some_iff.1 h2
  have hen : e.length = n := by
   cases hb : Nat.beq e.length n with
   | true => exact Nat.eq_of_beq_eq_true hb
   | false => simp only [hb] at h3; cases h3
  have h4 : e.drop o = es := by
   have hb : Nat.beq e.length n = true := by rw [hen]; exact Nat.beq_refl n
   simpa [hb] using h3
  obtain ⟨⟨-, g, p, M, c, h5, h6⟩, -⟩ := hp
  have hin := ho.inn
  cases ho with
  | seq n2 hp2 hz2 hn2 xs hown Gs hr hone hF hG hne hd =>
   have hn : n2 = n := (hn2 e (get_mem he)).symm.trans hen
   subst hn
   obtain ⟨a2, c2, h7, -, -, -, h8⟩ := own_slice hown
   obtain ⟨g2, q2, h9, -, -, hcell, -⟩ := h8 (by have := get_lt he; omega)
   rw [h9, h5] at h7
   injection h7 with h7 _ _
   injection h7 with h7
   injection h7 with h7 h7'
   subst h7 h7'
   refine ⟨g, p + k * n2 + o, h6, fun j t hj => ?_⟩
   have hj' : e[o + j]? = some t := by rw [← h4, List.getElem?_drop] at hj; exact hj
   have hol : o + j < n2 := by rw [← hen]; exact get_lt hj'
   have hxl := hown.1
   have hlt2 := at_lt (get_lt he) hol
   have hx : xs[k * n2 + (o + j)]? = some xs[k * n2 + (o + j)] := List.getElem?_eq_getElem (by omega)
   have hcl := hcell _ _ hx
   refine ⟨xs[k * n2 + (o + j)], by rw [Nat.add_assoc, Nat.add_assoc]; exact hcl, mk ((hr k e (o + j) t _ he hj' hx).inn) (fun v e => by subst e; rfl) (fun e => by subst e; rfl) fun ⟨ty', es', et⟩ => ?_⟩
   subst et
   have hcv : σ.cellLeaf (.ep i k n2 o) j (.seq ty' es') = .nd i ver (.seq ty' es') (some (k, o + j)) := by
    show (match σ.ob i with | some (ver, _) => Leaf.nd i ver (.seq ty' es') (some (k, o + j)) | none => .dead) = _
    rw [h1]
   rw [hcv]
   refine ⟨hlt, fun v t' hv => ?_, fun _ => ⟨((hr k e (o + j) _ _ he hj' hx).inn).frame (Nat.le_refl _) fun b hb _ => ⟨hG _ b hb, rfl⟩, fun k' o' hk => ?_⟩⟩
   ·rw [h1] at hv; cases hv; exact Nat.le_refl _
   ·cases hk
    exact ⟨g, p, M, c, n2, ty, fs, e, h1, h5, he, hen, hol, by rw [Nat.add_assoc]; exact hcl⟩
 | sc v => cases hc
 | nl ty => cases hc
 | ro t => cases hc
 | hd i => cases hc
 | nd i v t l => cases hc
 | bp b o => cases hc
 | dead => cases hc
theorem load_el {m : Nat} {ty : TypeId} {x : Operand} {p : Leaf} {ag : Bool} {es : List T} {ys : List Leaf} (ho : o.op = .load ty x) (hx : σ.ev x = V.one p) (hc : σ.cells p = some es) (hag : ∀ w, (isAgg ty).run Try.prog w = .ok ag w) (hm : Sz ty m) (h1 : ag = false → m = 1) (hml : m ≤ es.length)
  (hy : (List.range m).map (fun j => match es[j]? with | some t => σ.cellLeaf p j t | none => .dead) = ys) (h : Rel E N σ a w G) :
  ∃ u b i, a.eval x = .pointer (some ⟨b, i, none⟩) ∧ (∀ v, (∀ j y, j < m → w.cell? ⟨b, i + j, none⟩ = some y → v.cell? ⟨b, i + j, none⟩ = some y) → (execOp a.eval o).run Try.prog v = .ok (.value u) v) ∧ VHolds G σ E w (V.flat ag ys) u := by
 have h2 := h.ev x
 rw [hx, vone] at h2
 obtain ⟨b, i, h3, h4⟩ := h.cells h2 hc
 obtain ⟨us, hus⟩ : ∃ us : List Value, us = (List.range m).map fun j => (w.cell? ⟨b, i + j, none⟩).getD (.bool false) := ⟨_, rfl⟩
 have hul : us.length = m := by rw [hus]; simp
 have hget : ∀ j y, us[j]? = some y → ∃ t, es[j]? = some t ∧ w.cell? ⟨b, i + j, none⟩ = some y ∧ Holds G σ E w (σ.cellLeaf p j t) y := fun j y hj => by
  have hjm : j < m := by rw [← hul]; exact get_lt hj
  have hjl : j < es.length := by omega
  obtain ⟨z, hz1, hz2⟩ := h4 j es[j] (List.getElem?_eq_getElem hjl)
  have : y = z := by
   rw [hus] at hj
   simp only [List.getElem?_map, List.getElem?_range hjm, Option.map_some, hz1, Option.getD_some] at hj
   exact (Option.some.inj hj).symm
  subst this
  exact ⟨es[j], List.getElem?_eq_getElem hjl, hz1, hz2⟩
 refine ⟨cval ag us, b, i, h3, fun v hv => ?_, vflat.2 ⟨us, rfl, by rw [hul, ← hy]; simp, fun j x' u hj hu => ?_⟩⟩
 ·have hr := load_run (P := Try.prog) (w := v) (b := b) (i := i) (us := us) hag hm h1 hul fun j y hj => hv j y (by rw [← hul]; exact get_lt hj) (hget j y hj).choose_spec.2.1
  simp [execOp, ho, h3, Instr.loadAt, Instr.sureAddr, hr, Result.andThen]
 ·obtain ⟨t, ht1, -, ht3⟩ := hget j u hu
  have hjm : j < m := by rw [← hul]; exact get_lt hu
  rw [← hy] at hj
  simp only [List.getElem?_map, List.getElem?_range hjm, Option.map_some, ht1] at hj
  rw [← Option.some.inj hj]
  exact ht3
theorem ok_load_el {d m : Nat} {ty : TypeId} {x : Operand} {p : Leaf} {ag : Bool} {es : List T} {ys : List Leaf} (ho : o.op = .load ty x) (hx : σ.ev x = V.one p) (hc : σ.cells p = some es) (hag : ∀ w, (isAgg ty).run Try.prog w = .ok ag w) (hm : Sz ty m) (h1 : ag = false → m = 1) (hml : m ≤ es.length)
  (hy : (List.range m).map (fun j => match es[j]? with | some t => σ.cellLeaf p j t | none => .dead) = ys) (hd : o.dst = some d) (hdN : d < N) : OpOk Try.prog E N σ o (σ.put d (V.flat ag ys)) :=
 fun a w G K Q h k => by
  obtain ⟨u, b, i, -, h2, h3⟩ := load_el ho hx hc hag hm h1 hml hy h
  exact wp_value (h2 w fun j y _ hj => hj) (by rw [hd]; exact k _ _ _ (h.put hdN h3))
theorem ok_load_rp {nb m : Nat} {ty : TypeId} {x : Operand} {ag : Bool} {es : List T} {ys : List Leaf} (ho : o.op = .load ty x) (hx : σ.ev x = V.one (.rp es)) (hag : ∀ w, (isAgg ty).run Try.prog w = .ok ag w) (hm : Sz ty m) (h1 : ag = false → m = 1) (hml : m ≤ es.length)
  (hy : (List.range m).map (fun j => match es[j]? with | some t => σ.cellLeaf (.rp es) j t | none => .dead) = ys) : OpL Try.prog E N nb σ o (V.flat ag ys) :=
 fun a w G h => by
  obtain ⟨u, b, i, h4, h2, h3⟩ := load_el ho hx (p := .rp es) rfl hag hm h1 hml hy h
  refine ⟨u, fun v hv => h2 v fun j y _ hj => ?_, h3⟩
  have h5 := h.ev x
  rw [hx, vone] at h5
  obtain ⟨⟨b', o', us, h6, h7, -⟩, -⟩ := h5
  rw [h4] at h6
  injection h6 with h6
  injection h6 with h6
  injection h6 with h6 _
  subst h6
  exact (World.cell?_of_block (hv.1 b h7)).trans hj
def Leaf.fld : Leaf → Nat → Leaf
 | .rp es, off => .rp (es.drop off)
 | .np i ver es, off => .np i ver (es.drop off)
 | .ep i k n o, off => .ep i k n (o + off)
 | _, _ => .dead
theorem ok_field_el {nb off : Nat} {s : TypeId} {x : Operand} {f : Nat} {p : Leaf} {es : List T} (ho : o.op = .fieldAddr s x f) (hx : σ.ev x = V.one p) (hc : σ.cells p = some es) (hf : ∀ (ad : Addr) w, ad.spot = none → (Instr.fieldAt s (.pointer (some ad)) f).run Try.prog w = .ok (.pointer (some ⟨ad.block, ad.off + off, none⟩)) w) : OpL Try.prog E N nb σ o (V.one (p.fld off)) :=
 fun a w G h => by
  have h1 := h.ev x
  rw [hx, vone] at h1
  obtain ⟨b, i, h3, -⟩ := h.cells h1 hc
  refine ⟨.pointer (some ⟨b, i + off, none⟩), fun v' _ => by simp [execOp, ho, h3, hf, Result.andThen], vone.2 ?_⟩
  have hdrop : ∀ (l : List T) (j : Nat) (t : T), (l.drop off)[j]? = some t → l[off + j]? = some t := fun l j t hj => by rwa [List.getElem?_drop] at hj
  cases p with
  | rp fs =>
   obtain ⟨⟨b', o', us, h5, h6, h7⟩, -⟩ := h1
   rw [h3] at h5
   injection h5 with h5
   injection h5 with h5
   injection h5 with h5 h8
   subst h5 h8
   exact ⟨⟨b, i + off, fun j => us (off + j), rfl, h6, fun j t hj => by
    have := h7 (off + j) t (hdrop _ _ _ hj)
    rw [Nat.add_assoc]
    exact this⟩, .inr rfl⟩
  | np i' ver fs =>
   obtain ⟨⟨h4, h5, h6⟩, -⟩ := h1
   refine ⟨⟨h4, h5, fun hh => ?_⟩, .inr rfl⟩
   obtain ⟨b', o', us, h7, h8, h9⟩ := h6 hh
   rw [h3] at h7
   injection h7 with h7
   injection h7 with h7
   injection h7 with h7 h10
   subst h7 h10
   exact ⟨b, i + off, fun j => us (off + j), rfl, h8, fun j t hj => by
    have := h9 (off + j) t (hdrop _ _ _ hj)
    rw [Nat.add_assoc]
    exact this⟩
  | ep i' k' n o' =>
   obtain ⟨⟨h4, g, p, M, c, h5, h6⟩, -⟩ := h1
   rw [h3] at h6
   injection h6 with h6
   injection h6 with h6
   injection h6 with h6 h7
   subst h6 h7
   exact ⟨⟨h4, b, p, M, c, h5, by rw [Nat.add_assoc]⟩, .inr rfl⟩
  | sc v => cases hc
  | nl ty => cases hc
  | ro t => cases hc
  | hd i => cases hc
  | nd i v t l => cases hc
  | bp b o => cases hc
  | dead => cases hc
end Go.Proofs.Ytpnbnbhifpcelaa.V
namespace Go.Proofs.Ytpnbnbhifpcelaa.V
open Go Go.RowKit
set_option linter.unusedVariables false
theorem exLeast {p : Nat → Prop} (h : ∃ n, p n) : ∃ n, p n ∧ ∀ m, p m → n ≤ m := by
 obtain ⟨n, hn⟩ := h
 induction n using Nat.strongRecOn with
 | _ n ih =>
  rcases Classical.em (∃ m, m < n ∧ p m) with ⟨m, h1, h2⟩ | h
  ·exact ih m h1 h2
  ·exact ⟨n, hn, fun m hm => Nat.le_of_not_lt fun hlt => h ⟨m, hlt, hm⟩⟩
theorem least_fn {α β : Type} (p : α → β → Nat → Prop) : ∃ f : α → β → Nat, ∀ a b n, p a b n → p a b (f a b) ∧ ∀ m, p a b m → f a b ≤ m :=
 ⟨fun a b => @Classical.epsilon Nat ⟨0⟩ fun n => p a b n ∧ ∀ m, p a b m → n ≤ m, fun a b n h => @Classical.epsilon_spec Nat (fun n => p a b n ∧ ∀ m, p a b m → n ≤ m) (exLeast ⟨n, h⟩)⟩
section
variable {P : Program} {E : Env} {N : Nat} {σ : VS} {Q : Exit → Act → World → Prop}
theorem SV.nil {ops : Array Oper} (h : SV E N σ (Q .normal)) : SV E N σ (wpList P ops Q []) := h
theorem SV.region {id : Nat} {l : List Oper} (h : SV E N σ (wpList P l.toArray Q l)) : SV E N σ ((Code.region id l.toArray false).wp P Q) := fun a w G hr => wp_region_lit (h a w G hr)
theorem SV.seq {x y : Go.Code} (h : ∀ K : Act → World → Prop, (∀ τ, SV E N τ (y.wp P Q) → SV E N τ K) → SV E N σ (x.wp P (Exit.then K Q))) : SV E N σ ((Code.seq x y).wp P Q) := fun a w G hr => wp_seq (h (y.wp P Q) (fun _ h => h) a w G hr)
theorem SV.cond {c : Operand} {x y : Go.Code} {b : Bool} (hc : σ.ev c = V.one (.sc (.bool b))) (ht : b = true → SV E N σ (x.wp P Q)) (hf : b = false → SV E N σ (y.wp P Q)) : SV E N σ ((Code.cond c x y).wp P Q) :=
 fun a w G hr => wp_cond_split (hr.sc hc) (fun e => ht e a w G hr) fun e => hf e a w G hr
theorem SV.block {id : Nat} {c : Go.Code} (h : SV E N σ (c.wp P (Exit.inBlock id Q))) : SV E N σ ((Code.block id c).wp P Q) := fun a w G hr => wp_block (h a w G hr)
theorem SV.skip (h : SV E N σ (Q .normal)) : SV E N σ (Code.skip.wp P Q) := fun a w G hr => wp_skip (h a w G hr)
theorem SV.exit {id : Nat} (h : SV E N σ (Q (.exit id))) : SV E N σ ((Code.exit id).wp P Q) := fun a w G hr => wp_exit (h a w G hr)
theorem SV.ret (h : SV E N σ (Q .ret)) : SV E N σ (Code.ret.wp P Q) := fun a w G hr => wp_ret (h a w G hr)
theorem SV.loop {c : Go.Code} {X : Type} (I : X → VS) (Inv : X → Prop) (μ : X → Nat) (h0 : SV E N σ fun a w => ∃ x, Inv x ∧ ∃ G, Rel E N (I x) a w G)
  (round : ∀ x, Inv x → SV E N (I x) (c.wp P (Exit.then (fun a w => ∃ x', (Inv x' ∧ μ x' < μ x) ∧ ∃ G, Rel E N (I x') a w G) Q))) : SV E N σ ((Code.loop c).wp P Q) := fun a w G hr => by
 obtain ⟨f, hf⟩ := least_fn fun a w n => ∃ x, Inv x ∧ μ x ≤ n ∧ ∃ G, Rel E N (I x) a w G
 refine wp_loop (fun a w => ∃ x, Inv x ∧ ∃ G, Rel E N (I x) a w G) f (h0 a w G hr) ?_
 rintro a w ⟨x, hx, G, hG⟩
 obtain ⟨y, hy, hym, G', hG'⟩ := (hf a w (μ x) ⟨x, hx, Nat.le_refl _, G, hG⟩).1
 refine wp_mono (round y hy a w G' hG') fun e a' w' hq => ?_
 cases e with
 | normal =>
  obtain ⟨z, ⟨hz, hlt⟩, G2, hG2⟩ := hq
  exact ⟨⟨z, hz, G2, hG2⟩, Nat.lt_of_le_of_lt ((hf a' w' (μ z) ⟨z, hz, Nat.le_refl _, G2, hG2⟩).2 _ ⟨z, hz, Nat.le_refl _, G2, hG2⟩) (Nat.lt_of_lt_of_le hlt hym)⟩
 | exit id => exact hq
 | goto l => exact hq
 | ret => exact hq
 | panic ch => exact hq
 | outgrown => exact hq
end
/-! ### Weakening: what is not wanted any more is let go; objects are named anew -/
def Leaf.le (σ τ : VS) (ρ : Nat → Nat) (x y : Leaf) : Prop := match y with
 | .dead => True
 | .hd i => x = .hd (ρ i) ∧ i < τ.nx ∧ ρ i < σ.nx
 | .bp b o => x = .bp b o ∧ b < τ.bs.length
 | .sc u => x = .sc u
 | .nl ty => x = .nl ty
 | .ro t => x = .ro t
 | .rp es => x = .rp es
 | .nd i ver t loc => loc = none ∧ i < τ.nx ∧ ∃ ver', x = .nd (ρ i) ver' t none ∧ ρ i < σ.nx ∧ (∃ t', σ.ob (ρ i) = some (ver', t')) ∧ ∃ t', τ.ob i = some (ver, t')
 | _ => False
theorem Leaf.le.holds {σ τ : VS} {ρ : Nat → Nat} {x y : Leaf} {E : Env} {w : World} {G : Ghost} {u : Value} (h : Leaf.le σ τ ρ x y) (hx : Holds G σ E w x u) : Holds ⟨G.β, fun i => G.vl (ρ i), fun i => G.ft (ρ i)⟩ τ E w y u := by
 cases y with
 | dead => exact ⟨trivial, .inl rfl⟩
 | hd i =>
  obtain ⟨rfl, h1, h2⟩ := h
  exact ⟨⟨h1, hx.1.2⟩, .inr (by rcases hx.2 with h | h; (cases h); exact h)⟩
 | bp b o =>
  obtain ⟨rfl, h1⟩ := h
  exact ⟨⟨h1, hx.1.2⟩, .inr (by rcases hx.2 with h | h; (cases h); exact h)⟩
 | sc v => cases h; exact ⟨hx.1, .inr (by rcases hx.2 with h | h; (cases h); exact h)⟩
 | nl ty => cases h; exact ⟨hx.1, .inr (by rcases hx.2 with h | h; (cases h); exact h)⟩
 | ro t => cases h; exact ⟨hx.1, .inr (by rcases hx.2 with h | h; (cases h); exact h)⟩
 | rp es => cases h; exact ⟨hx.1, .inr (by rcases hx.2 with h | h; (cases h); exact h)⟩
 | nd i v t l =>
  obtain ⟨rfl, h1, ver', rfl, h2, ⟨t', h3⟩, t'', h4⟩ := h
  exact ⟨⟨h1, fun v' t1 hv => by rw [h4] at hv; cases hv; exact Nat.le_refl _, fun _ => ⟨(hx.1.2.2 ⟨t', h3⟩).1, fun k o e => by cases e⟩⟩, .inr (by rcases hx.2 with h | h; (cases h); exact h)⟩
 | np i v es => exact h.elim
 | ep i k n o => exact h.elim
def leafs (σ τ : VS) (ρ : Nat → Nat) : List Leaf → List Leaf → Prop
 | [], [] => True
 | x :: xs, y :: ys => Leaf.le σ τ ρ x y ∧ leafs σ τ ρ xs ys
 | _, _ => False
theorem leafs.len {σ τ : VS} {ρ : Nat → Nat} : ∀ {xs ys : List Leaf}, leafs σ τ ρ xs ys → xs.length = ys.length
 | [], [], _ => rfl
 | x :: xs, y :: ys, h => by simp [leafs.len h.2]
theorem leafs.get {σ τ : VS} {ρ : Nat → Nat} : ∀ {xs ys : List Leaf}, leafs σ τ ρ xs ys → ∀ (j : Nat) (y : Leaf), ys[j]? = some y → ∃ x, xs[j]? = some x ∧ Leaf.le σ τ ρ x y
 | [], [], _, j, y, h => by simp at h
 | x :: xs, z :: ys, h, j, y, hj => by
  cases j with
  | zero => cases hj; exact ⟨x, rfl, h.1⟩
  | succ j => exact leafs.get h.2 j y (by simpa using hj)
def V.le (σ τ : VS) (ρ : Nat → Nat) (v v' : V) : Prop := v' = V.one .dead ∨ ∃ ag xs ys, v = V.flat ag xs ∧ v' = V.flat ag ys ∧ leafs σ τ ρ xs ys
structure VS.le (σ τ : VS) (ρ : Nat → Nat) : Prop where
 tm : ∀ s, V.le σ τ ρ (σ.tm s) (τ.tm s)
 bs : τ.bs.length ≤ σ.bs.length
 box : ∀ (b : Nat) (ty : TypeId) (ys : List Leaf), τ.bs[b]? = some (ty, ys) → ∃ xs : List Leaf, σ.bs[b]? = some (ty, xs) ∧ leafs σ τ ρ xs ys
 ob : ∀ i ver t, τ.ob i = some (ver, t) → i < τ.nx ∧ ρ i < σ.nx ∧ ∃ v, σ.ob (ρ i) = some (v, t)
 inj : ∀ i j, τ.ob i ≠ none → τ.ob j ≠ none → ρ i = ρ j → i = j
theorem Rel.weaken {E : Env} {w : World} {N : Nat} {σ τ : VS} {a : Act} {G : Ghost} {ρ : Nat → Nat} (h : Rel E N σ a w G) (hp : E.nl ≤ τ.nx ∧ (∀ i, i < E.nl → ρ i = i) ∧ ∀ c, E.pin = some c → 0 < τ.bs.length) (l : VS.le σ τ ρ) : ∃ G', Rel E N τ a w G' := by
 have live : ∀ i, τ.ob i ≠ none → σ.ob (ρ i) ≠ none := fun i hi => by
  obtain ⟨⟨ver, t⟩, hv⟩ := Option.ne_none_iff_exists'.1 hi
  obtain ⟨-, -, v, h1⟩ := l.ob i ver t hv
  rw [h1]; simp
 refine ⟨⟨G.β, fun i => G.vl (ρ i), fun i => G.ft (ρ i)⟩, h.below, h.dfr, h.nsz, fun s => ?_, fun b ty ys hb => ?_, fun b b' h1 h2 => h.inj b b' (Nat.lt_of_lt_of_le h1 l.bs) (Nat.lt_of_lt_of_le h2 l.bs), fun b i h1 hi => h.boxft b (ρ i) (Nat.lt_of_lt_of_le h1 l.bs) (live i hi), fun i ver t hi => ?_, fun i j b hi hj hij => h.disj _ _ b (live i hi) (live j hj) fun e => hij (l.inj i j hi hj e), fun i b hi => h.ftlt _ b (live i hi), ⟨hp.1, fun i hi => by show G.vl (ρ i) = _; rw [hp.2.1 i hi]; exact h.lent.2.1 i hi, fun c hc => ⟨hp.2.2 c hc, (h.lent.2.2 c hc).2⟩⟩⟩
 ·rcases l.tm s with h1 | ⟨ag, xs, ys, h1, h2, h3⟩
  ·rw [h1, vone]
   exact ⟨trivial, .inl rfl⟩
  ·have h4 := h.tmps s
   rw [h1, vflat] at h4
   obtain ⟨us, h5, h6, h7⟩ := h4
   rw [h2, vflat]
   refine ⟨us, h5, h6.trans h3.len, fun j y u hj hu => ?_⟩
   obtain ⟨x, hx1, hx2⟩ := h3.get j y hj
   exact hx2.holds (h7 j x u hx1 hu)
 ·obtain ⟨xs, h1, h2⟩ := l.box b ty ys hb
  obtain ⟨h3, us, h4, h5, h6⟩ := h.boxes b ty xs h1
  refine ⟨h3, us, h4, h5.trans h2.len, fun j y u hj hu => ?_⟩
  obtain ⟨x, hx1, hx2⟩ := h2.get j y hj
  exact ⟨hx2.holds (h6 j x u hx1 hu).1, (h6 j x u hx1 hu).2⟩
 ·obtain ⟨h1, h2, v, h3⟩ := l.ob i ver t hi
  obtain ⟨-, h4, h5⟩ := h.objs _ v t h3
  exact ⟨h1, h4, h5⟩
theorem SV.weaken {E : Env} {N : Nat} {σ τ : VS} {K : Act → World → Prop} (ρ : Nat → Nat) (hp : E.nl ≤ τ.nx ∧ (∀ i, i < E.nl → ρ i = i) ∧ ∀ c, E.pin = some c → 0 < τ.bs.length) (l : VS.le σ τ ρ) (h : SV E N τ K) : SV E N σ K := fun a w G hr => by
 obtain ⟨G', h'⟩ := hr.weaken hp l
 exact h a w G' h'
theorem SV.again {E : Env} {N : Nat} {σ : VS} {X : Type} {I : X → VS} {R : X → Prop} (ρ : Nat → Nat) (x : X) (hx : R x) (hp : E.nl ≤ (I x).nx ∧ (∀ i, i < E.nl → ρ i = i) ∧ ∀ c, E.pin = some c → 0 < (I x).bs.length) (l : VS.le σ (I x) ρ) : SV E N σ fun a w => ∃ x, R x ∧ ∃ G, Rel E N (I x) a w G := fun a w G hr => by
 obtain ⟨G', h'⟩ := hr.weaken hp l
 exact ⟨x, hx, G', h'⟩
def Env.plain (E : Env) (m : Nat) : Prop := E.nl = m ∧ E.pin = none
theorem pins {E : Env} {m n k : Nat} {ρ : Nat → Nat} (hE : E.plain m) (h1 : Nat.ble m n = true) (h : (List.range m).all (fun i => Nat.beq (ρ i) i) = true) : E.nl ≤ n ∧ (∀ i, i < E.nl → ρ i = i) ∧ ∀ c, E.pin = some c → 0 < k := by
 rw [hE.1, hE.2]
 exact ⟨Nat.le_of_ble_eq_true h1, fun i hi => Nat.eq_of_beq_eq_true (List.all_eq_true.1 h i (List.mem_range.2 hi)), fun c hc => by cases hc⟩
theorem pinsC {E : Env} {n k : Nat} {ρ : Nat → Nat} (hE : E.nl = 0) (hk : Nat.ble 1 k = true) : E.nl ≤ n ∧ (∀ i, i < E.nl → ρ i = i) ∧ ∀ c, E.pin = some c → 0 < k := by
 rw [hE]
 exact ⟨Nat.zero_le _, fun i hi => absurd hi (Nat.not_lt_zero i), fun c _ => Nat.le_of_ble_eq_true hk⟩
/-! ### A call's beginning and its answer -/
def VS.init (vs : List V) : VS := ⟨fun s => vs.getD s (V.one .dead), [], fun _ => none, 0⟩
def Env.of (w : World) : Env := ⟨w, fun _ => False, fun _ h => h.elim, fun _ => undef, 0, none⟩
theorem Env.of_old {w : World} {b : Nat} : (Env.of w).old b ↔ b < w.heap.size := ⟨fun h => h.1, fun h => ⟨h, fun h => h⟩⟩
def ArgsIn (E : Env) (w : World) (ins : List (Bool × List T)) (vs : List Value) : Prop :=
 vs.length = ins.length ∧ ∀ (c : Nat) (ag : Bool) (ts : List T) (v : Value), ins[c]? = some (ag, ts) → vs[c]? = some v → ∃ us : List Value, v = cval ag us ∧ us.length = ts.length ∧ ∀ (j : Nat) (t : T) (u : Value), ts[j]? = some t → us[j]? = some u → Inn E.old w t u
def argLeaf : T → Leaf
 | .lit u => .sc u
 | .any => .dead
 | t => .ro t
theorem init_rel {E : Env} (hE : E.plain 0) {ins : List (Bool × List T)} {vs : List Value} {n : Nat} (h : ArgsIn E E.w0 ins vs) (hn : vs.length ≤ n) : ∃ G, Rel E n (VS.init (ins.map fun p => V.flat p.1 (p.2.map argLeaf))) { tmps := vs.toArray ++ Array.replicate (n - vs.length) undef, defers := [] } E.w0 G := by
 refine ⟨⟨fun _ => 0, fun _ => undef, fun _ _ => False⟩, Same.refl _ _, rfl, by simp; omega, fun s => ?_, fun b ty xs hb => by simp [VS.init] at hb, fun b b' hb => by simp [VS.init] at hb, fun b i hb => by simp [VS.init] at hb, fun i v t hi => by simp [VS.init] at hi, fun i j b hi => by simp [VS.init] at hi, fun i b hi => by simp [VS.init] at hi, ⟨by rw [hE.1]; exact Nat.zero_le _, fun i hi => by rw [hE.1] at hi; exact absurd hi (Nat.not_lt_zero i), fun c hc => by rw [hE.2] at hc; cases hc⟩⟩
 show VHolds _ _ _ E.w0 ((ins.map fun p => V.flat p.1 (p.2.map argLeaf)).getD s (V.one .dead)) _
 rcases Nat.lt_or_ge s ins.length with hs | hs
 ·obtain ⟨p, hp⟩ : ∃ p, ins[s]? = some p := ⟨ins[s], List.getElem?_eq_getElem hs⟩
  obtain ⟨ag, ts⟩ := p
  have hsv : s < vs.length := by rw [h.1]; exact hs
  obtain ⟨us, h1, h2, h3⟩ := h.2 s ag ts vs[s] hp (List.getElem?_eq_getElem hsv)
  have e1 : (ins.map fun p => V.flat p.1 (p.2.map argLeaf)).getD s (V.one .dead) = V.flat ag (ts.map argLeaf) := by simp [List.getD, hp]
  have e2 : (vs.toArray ++ Array.replicate (n - vs.length) undef).getD s undef = vs[s] := by
   simp only [Array.getD_eq_getD_getElem?]
   rw [Array.getElem?_append_left (by simpa using hsv)]
   simp [hsv]
  rw [e1]
  show VHolds _ _ _ E.w0 _ ((vs.toArray ++ Array.replicate (n - vs.length) undef).getD s undef)
  rw [e2, vflat]
  refine ⟨us, h1, by simp [h2], fun j x u hj hu => ?_⟩
  have hjt : j < ts.length := by have := get_lt hj; simpa using this
  have hx : x = argLeaf ts[j] := by
   rw [List.getElem?_map, List.getElem?_eq_getElem hjt] at hj
   exact (Option.some.inj hj).symm
  have hin := h3 j ts[j] u (List.getElem?_eq_getElem hjt) hu
  rw [hx]
  cases hc : ts[j] with
  | any => exact ⟨trivial, .inl rfl⟩
  | lit v =>
   rw [hc] at hin
   cases hin with
   | lit hv => exact ⟨rfl, .inr hv⟩
  | seq ty es => rw [hc] at hin; exact ⟨hin, .inr hin.one⟩
 ·have e1 : (ins.map fun p => V.flat p.1 (p.2.map argLeaf)).getD s (V.one .dead) = V.one .dead := by simp [List.getD, hs]
  rw [e1, vone]
  exact ⟨trivial, .inl rfl⟩
def Gives (E : Env) (tup : Bool) (rs : List (Bool × List T)) (e : Ending) (w' : World) : Prop :=
 ∃ (uss : List (List Value)) (F : Nat → Nat → Nat → Prop), uss.length = rs.length ∧ e = .returned (vval tup (List.zipWith (fun r us => cval r.1 us) rs uss)) ∧
  (∀ (c : Nat) (ag : Bool) (ts : List T) (us : List Value), rs[c]? = some (ag, ts) → uss[c]? = some us → us.length = ts.length ∧ ∀ (j : Nat) (t : T) (u : Value), ts[j]? = some t → us[j]? = some u → Own w' 0 t u (F c j)) ∧
  (∀ c j c' j' b, F c j b → F c' j' b → c = c' ∧ j = j') ∧ (∀ c j b, F c j b → (E.B ≤ b ∨ E.ln b) ∧ b < w'.heap.size) ∧ Same E E.w0 w'
def VC (P : Program) (f : FuncId) (ins : List (Bool × List T)) (tup : Bool) (rs : List (Bool × List T)) : Prop := ∀ (w : World) (vs : List Value), ArgsIn (Env.of w) w ins vs → Calls P f vs.toArray w (Gives (Env.of w) tup rs)
theorem VC.enter {P : Program} {f : FuncId} {fn : Func} {c : Go.Code} {n : Nat} {ins rs : List (Bool × List T)} {tup : Bool} (hf : P.funcs[f]? = some fn) (hb : fn.body = some c) (hn : fn.ntmps = n) (hl : ins.length ≤ n)
  (h : ∀ E, E.plain 0 → SV E n (VS.init (ins.map fun p => V.flat p.1 (p.2.map argLeaf))) (c.wp P (bodyPost P fn (Gives E tup rs)))) : VC P f ins tup rs := fun w vs hv => by
 refine calls_of_wp hf hb ?_
 obtain ⟨G, hG⟩ := init_rel (E := Env.of w) ⟨rfl, rfl⟩ (n := n) hv (by rw [hv.1]; exact hl)
 have := h (Env.of w) ⟨rfl, rfl⟩ _ _ G hG
 rw [hn]
 have e : (Env.of w).w0 = w := rfl
 rw [e] at this
 simpa using this
end Go.Proofs.Ytpnbnbhifpcelaa.V
namespace Go.Proofs.Ytpnbnbhifpcelaa.V
open Go Go.RowKit
set_option linter.unusedVariables false
def VS.out (σ : VS) : Leaf → Option T
 | .sc u => some (.lit u)
 | .nl ty => some (.seq ty [])
 | .hd i => (σ.ob i).map (·.2)
 | _ => none
def VS.outs (σ : VS) : List Leaf → List T → Prop
 | [], [] => True
 | x :: xs, t :: ts => σ.out x = some t ∧ σ.outs xs ts
 | _, _ => False
def VS.outss (σ : VS) : List (Bool × List Leaf) → List (Bool × List T) → Prop
 | [], [] => True
 | p :: ps, q :: qs => p.1 = q.1 ∧ σ.outs p.2 q.2 ∧ σ.outss ps qs
 | _, _ => False
theorem outs_get {σ : VS} : ∀ {xs : List Leaf} {ts : List T}, σ.outs xs ts → xs.length = ts.length ∧ ∀ (j : Nat) (t : T), ts[j]? = some t → ∃ x, xs[j]? = some x ∧ σ.out x = some t
 | [], [], _ => ⟨rfl, fun j t h => by simp at h⟩
 | x :: xs, t :: ts, h => by
  obtain ⟨h1, h2⟩ := outs_get h.2
  refine ⟨by simp [h1], fun j y hj => ?_⟩
  cases j with
  | zero => cases hj; exact ⟨x, rfl, h.1⟩
  | succ j => exact h2 j y (by simpa using hj)
theorem outss_get {σ : VS} : ∀ {ps : List (Bool × List Leaf)} {qs : List (Bool × List T)}, σ.outss ps qs → ps.length = qs.length ∧ ∀ (c : Nat) (ag : Bool) (ts : List T), qs[c]? = some (ag, ts) → ∃ xs, ps[c]? = some (ag, xs) ∧ σ.outs xs ts
 | [], [], _ => ⟨rfl, fun j a t h => by simp at h⟩
 | p :: ps, q :: qs, h => by
  obtain ⟨h1, h2⟩ := outss_get h.2.2
  refine ⟨by simp [h1], fun c ag ts hc => ?_⟩
  cases c with
  | zero =>
   cases hc
   obtain ⟨ag', xs⟩ := p
   have : ag' = ag := h.1
   subst this
   exact ⟨xs, rfl, h.2.1⟩
  | succ c => exact h2 c ag ts (by simpa using hc)
theorem outs_c {σ : VS} {x : Leaf} {xs : List Leaf} {t : T} {ts : List T} (h : σ.out x = some t) (k : σ.outs xs ts) : σ.outs (x :: xs) (t :: ts) := ⟨h, k⟩
theorem outs_n {σ : VS} : σ.outs [] [] := trivial
def two (x y : Leaf) : Prop := ∀ i, x = .hd i → y ≠ .hd i
def Leaf.foot (G : Ghost) : Leaf → Nat → Prop
 | .hd i => G.ft i
 | _ => fun _ => False
variable {P : Program} {E : Env} {N : Nat} {σ : VS} {a : Act} {w : World} {G : Ghost}
theorem Rel.out (h : Rel E N σ a w G) {x : Leaf} {u : Value} {t : T} (hx : Holds G σ E w x u) (ht : σ.out x = some t) : Own w 0 t u (x.foot G) := by
 cases x with
 | sc v =>
  cases ht
  rcases hx.2 with h2 | h2
  ·cases h2
  ·rw [show u = v from hx.1] at h2 ⊢
   exact .lit h2
 | nl ty =>
  cases ht
  obtain ⟨⟨h1, n, h2, h3⟩, -⟩ := hx
  rw [h1]
  exact Own.seq (es := []) n h2 h3 (fun e he => by cases he) [] (Row.of (World.ownsRow_nil _ _ _ _)) (fun _ _ => False) (fun k e j t u h => by simp at h) (fun u hu => by cases hu) (fun b hb => by cases hb) (fun i b hb => hb.elim) (fun i b hb => hb.elim) fun i j b hb => hb.elim
 | hd i =>
  obtain ⟨⟨ver, s⟩, h1, h2⟩ := Option.map_eq_some_iff.1 ht
  obtain ⟨-, h3, -⟩ := h.objs i ver s h1
  have h2' : s = t := h2
  subst h2'
  rw [hx.1.2]
  exact h3
 | dead => cases ht
 | ro t => cases ht
 | rp es => cases ht
 | nd i v t l => cases ht
 | np i v es => cases ht
 | ep i k n o => cases ht
 | bp b o => cases ht
def ResOk (P : Program) (σ : VS) (rv : ResultVar) (ag : Bool) (xs : List Leaf) : Prop := match rv with
 | .tmp t => σ.tm t = V.flat ag xs
 | .cell p ty => ∃ b ty', σ.tm p = V.one (.bp b 0) ∧ σ.bs[b]? = some (ty', xs) ∧ (∀ w, (isAgg ty).run P w = .ok ag w) ∧ (∃ inf, P.info? ty = some inf ∧ inf.size = xs.length) ∧ (ag = false → xs.length = 1)
def rvRun (tmps : Array Value) : ResultVar → Sem Value
 | .tmp t => pure (tmps.getD t undef)
 | .cell p t => do loadVar t (← asAddr (tmps.getD p undef))
theorem Rel.res (h : Rel E N σ a w G) {rv : ResultVar} {ag : Bool} {xs : List Leaf} (hr : ResOk P σ rv ag xs) : ∃ us : List Value, (rvRun a.tmps rv).run P w = .ok (cval ag us) w ∧ us.length = xs.length ∧ ∀ (j : Nat) (x : Leaf) (u : Value), xs[j]? = some x → us[j]? = some u → Holds G σ E w x u := by
 cases rv with
 | tmp t =>
  have h1 := h.tmps t
  rw [show σ.tm t = V.flat ag xs from hr, vflat] at h1
  obtain ⟨us, h2, h3, h4⟩ := h1
  exact ⟨us, by simp only [rvRun, Sem.run_pure, h2], h3, h4⟩
 | cell p ty =>
  obtain ⟨b, ty', h1, h2, h3, h4, h5⟩ := hr
  have h6 := h.tmps p
  rw [h1, vone] at h6
  obtain ⟨⟨-, h7⟩, -⟩ := h6
  obtain ⟨-, us, h8, h9, h10⟩ := h.boxes b ty' xs h2
  have hrun := load_run (P := P) (w := w) (b := G.β b) (i := 0) (us := us) h3 h4 h5 h9 fun j u hj => by
   rw [cell_of_row w _ _ _ _ _ h8, Nat.zero_add]
   simpa using hj
  refine ⟨us, ?_, h9, fun j x u hx hu => (h10 j x u hx hu).1⟩
  simp only [rvRun, h7, Sem.run_bind, asAddr, Sem.run_pure, Result.andThen_ok, hrun]
def ResAll (P : Program) (σ : VS) : List ResultVar → List (Bool × List Leaf) → Prop
 | [], [] => True
 | r :: rs, p :: ps => ResOk P σ r p.1 p.2 ∧ ResAll P σ rs ps
 | _, _ => False
theorem ResAll.cons {r : ResultVar} {rs : List ResultVar} {ag : Bool} {xs : List Leaf} {ps : List (Bool × List Leaf)} (h : ResOk P σ r ag xs) (k : ResAll P σ rs ps) : ResAll P σ (r :: rs) ((ag, xs) :: ps) := ⟨h, k⟩
theorem ResAll.nil' : ResAll P σ [] [] := trivial
theorem ResOk.tmp {t : Nat} {ag : Bool} {xs : List Leaf} (h : σ.tm t = V.flat ag xs) : ResOk P σ (.tmp t) ag xs := h
theorem ResOk.cell {p b : Nat} {ty ty' : TypeId} {ag : Bool} {xs : List Leaf} (h1 : σ.tm p = V.one (.bp b 0)) (h2 : σ.bs[b]? = some (ty', xs)) (h3 : ∀ w, (isAgg ty).run P w = .ok ag w) (h4 : ∃ inf, P.info? ty = some inf ∧ inf.size = xs.length) (h5 : ag = false → xs.length = 1) : ResOk P σ (.cell p ty) ag xs := ⟨b, ty', h1, h2, h3, h4, h5⟩
theorem Rel.resAll (h : Rel E N σ a w G) : ∀ {rs : List ResultVar} {ps : List (Bool × List Leaf)}, ResAll P σ rs ps → ∃ uss : List (List Value), uss.length = ps.length ∧ (rs.mapM (rvRun a.tmps)).run P w = .ok (List.zipWith (fun p us => cval p.1 us) ps uss) w ∧
  ∀ (c : Nat) (ag : Bool) (xs : List Leaf) (us : List Value), ps[c]? = some (ag, xs) → uss[c]? = some us → us.length = xs.length ∧ ∀ (j : Nat) (x : Leaf) (u : Value), xs[j]? = some x → us[j]? = some u → Holds G σ E w x u
 | [], [], _ => ⟨[], rfl, by simp, fun c ag xs us hc => by simp at hc⟩
 | r :: rs, p :: ps, hr => by
  obtain ⟨us, h1, h2, h3⟩ := h.res hr.1
  obtain ⟨uss, h4, h5, h6⟩ := h.resAll hr.2
  refine ⟨us :: uss, by simp [h4], by simp [h1, h5, Result.andThen], fun c ag xs vs hc hv => ?_⟩
  cases c with
  | zero => cases hc; cases hv; exact ⟨h2, h3⟩
  | succ c => exact h6 c ag xs vs (by simpa using hc) (by simpa using hv)
theorem results_run {fn : Func} {rs : List ResultVar} {tmps : Array Value} {vs : List Value} (h : fn.results = rs.toArray) (hr : (rs.mapM (rvRun tmps)).run P w = .ok vs w) : (results fn tmps).run P w = .ok (vval (!(Nat.beq vs.length 1)) vs) w := by
 have e : (rs.toArray.mapM (rvRun tmps)).run P w = .ok vs.toArray w := by
  rw [List.mapM_toArray]
  simp [hr, Result.andThen]
 have e2 : (results fn tmps).run P w = ((rs.toArray.mapM (rvRun tmps)) >>= fun vs => pure (if h : vs.size = 1 then vs[0] else .tuple vs)).run P w := by
  unfold results
  rw [h]
  rfl
 rw [e2, Sem.run_bind, e, Result.andThen_ok, Sem.run_pure]
 match vs with
 | [] => rfl
 | [v] => rfl
 | v :: v' :: vs => simp [vval]
theorem SV.done {fn : Func} {rs : List ResultVar} {ps : List (Bool × List Leaf)} {tup : Bool} {qs : List (Bool × List T)} (hf : fn.results = rs.toArray) (hr : ResAll P σ rs ps) (ho : σ.outss ps qs) (ht : (!(Nat.beq qs.length 1)) = tup) (h2 : (ps.flatMap (·.2)).Pairwise two) {e : Exit} (he : e = .ret ∨ e = .normal) : SV E N σ (bodyPost P fn (Gives E tup qs) e) := fun a w G h => by
 obtain ⟨uss, h3, h4, h5⟩ := h.resAll hr
 obtain ⟨h6, h7⟩ := outss_get ho
 have hrun := results_run hf h4
 have hlen : (List.zipWith (fun (p : Bool × List Leaf) us => cval p.1 us) ps uss).length = qs.length := by simp [h3, h6]
 have hag : ∀ c ag ts, qs[c]? = some (ag, ts) → ∃ xs, ps[c]? = some (ag, xs) ∧ σ.outs xs ts := h7
 have hzip : List.zipWith (fun (p : Bool × List Leaf) us => cval p.1 us) ps uss = List.zipWith (fun (q : Bool × List T) us => cval q.1 us) qs uss := by
  apply List.ext_getElem?
  intro c
  rw [List.getElem?_zipWith, List.getElem?_zipWith]
  cases hq : qs[c]? with
  | none =>
   have : ps[c]? = none := by rw [List.getElem?_eq_none_iff] at hq ⊢; omega
   rw [this]
  | some q =>
   obtain ⟨ag, ts⟩ := q
   obtain ⟨xs, hp, -⟩ := hag c ag ts hq
   rw [hp]
   cases uss[c]? <;> rfl
 rw [hlen, ht, hzip] at hrun
 have hpost : a.defers = [] ∧ ∃ v, (results fn a.tmps).run P w = .ok v w ∧ Gives E tup qs (.returned v) w := by
  refine ⟨h.dfr, _, hrun, uss, (fun c j b => ∃ ag xs x, ps[c]? = some (ag, xs) ∧ xs[j]? = some x ∧ x.foot G b), h3.trans h6, rfl, fun c ag ts us hq hu => ?_, ?_, ?_, h.below⟩
  ·obtain ⟨xs, hp, hx⟩ := hag c ag ts hq
   obtain ⟨h8, h9⟩ := outs_get hx
   obtain ⟨h10, h11⟩ := h5 c ag xs us hp hu
   refine ⟨h10.trans h8, fun j t u hj hu' => ?_⟩
   obtain ⟨x, hx1, hx2⟩ := h9 j t hj
   exact (h.out (h11 j x u hx1 hu') hx2).mono fun b hb => ⟨ag, xs, x, hp, hx1, hb⟩
  ·rintro c j c' j' b ⟨ag, xs, x, h8, h9, h10⟩ ⟨ag', xs', x', h8', h9', h10'⟩
   have key : ∀ {x x' : Leaf}, x.foot G b → x'.foot G b → (∃ t, σ.out x = some t) → (∃ t, σ.out x' = some t) → ¬ two x x' := fun {x x'} k1 k2 k3 k4 k5 => by
    cases x with
    | hd i =>
     cases x' with
     | hd i' =>
      by_cases hii : i = i'
      ·exact k5 i rfl (by rw [hii])
      ·obtain ⟨t, k3⟩ := k3
       obtain ⟨t', k4⟩ := k4
       obtain ⟨p, e1, -⟩ := Option.map_eq_some_iff.1 k3
       obtain ⟨p', e2, -⟩ := Option.map_eq_some_iff.1 k4
       exact h.disj i i' b (by rw [e1]; simp) (by rw [e2]; simp) hii k1 k2
     | _ => exact k2
    | _ => exact k1
   have hout : ∀ {c j ag xs x}, ps[c]? = some (ag, xs) → xs[j]? = some x → ∃ t, σ.out x = some t := fun {c j ag xs x} k1 k2 => by
    have hc : c < qs.length := by rw [← h6]; exact get_lt k1
    obtain ⟨xs', k3, k4⟩ := hag c qs[c].1 qs[c].2 (by rw [List.getElem?_eq_getElem hc])
    rw [k1] at k3
    cases k3
    obtain ⟨k5, k6⟩ := outs_get k4
    have hj : j < qs[c].2.length := by rw [← k5]; exact get_lt k2
    obtain ⟨y, k7, k8⟩ := k6 j qs[c].2[j] (List.getElem?_eq_getElem hj)
    rw [k2] at k7
    cases k7
    exact ⟨_, k8⟩
   rw [List.pairwise_flatMap] at h2
   have o1 := hout h8 h9
   have o2 := hout h8' h9'
   have hc1 := get_lt h8
   have hc2 := get_lt h8'
   have g1 : ps[c] = (ag, xs) := by rw [List.getElem?_eq_getElem hc1] at h8; exact Option.some.inj h8
   have g2 : ps[c'] = (ag', xs') := by rw [List.getElem?_eq_getElem hc2] at h8'; exact Option.some.inj h8'
   have m1 := get_mem h9
   have m2 := get_mem h9'
   rcases Nat.lt_trichotomy c c' with hcc | hcc | hcc
   ·have := (List.pairwise_iff_getElem.1 h2.2) c c' hc1 hc2 hcc x (by rw [g1]; exact m1) x' (by rw [g2]; exact m2)
    exact absurd this (key h10 h10' o1 o2)
   ·subst hcc
    rw [h8] at h8'
    cases h8'
    refine ⟨rfl, ?_⟩
    have hp := h2.1 _ (get_mem h8)
    have hj1 := get_lt h9
    have hj2 := get_lt h9'
    have x1 : xs[j] = x := by rw [List.getElem?_eq_getElem hj1] at h9; exact Option.some.inj h9
    have x2 : xs[j'] = x' := by rw [List.getElem?_eq_getElem hj2] at h9'; exact Option.some.inj h9'
    rcases Nat.lt_trichotomy j j' with hjj | hjj | hjj
    ·have := (List.pairwise_iff_getElem.1 hp) j j' hj1 hj2 hjj
     rw [x1, x2] at this
     exact absurd this (key h10 h10' o1 o2)
    ·exact hjj
    ·have := (List.pairwise_iff_getElem.1 hp) j' j hj2 hj1 hjj
     rw [x1, x2] at this
     exact absurd this (key h10' h10 o2 o1)
   ·have := (List.pairwise_iff_getElem.1 h2.2) c' c hc2 hc1 hcc x' (by rw [g2]; exact m2) x (by rw [g1]; exact m1)
    exact absurd this (key h10' h10 o2 o1)
  ·rintro c j b ⟨ag, xs, x, h8, h9, h10⟩
   have hc : c < qs.length := by rw [← h6]; exact get_lt h8
   obtain ⟨xs', k3, k4⟩ := hag c qs[c].1 qs[c].2 (by rw [List.getElem?_eq_getElem hc])
   rw [h8] at k3
   cases k3
   obtain ⟨k5, k6⟩ := outs_get k4
   have hj : j < qs[c].2.length := by rw [← k5]; exact get_lt h9
   obtain ⟨y, k7, k8⟩ := k6 j qs[c].2[j] (List.getElem?_eq_getElem hj)
   rw [h9] at k7
   cases k7
   cases x with
   | hd i =>
    obtain ⟨p, e1, -⟩ := Option.map_eq_some_iff.1 k8
    exact h.ftlt i b (by rw [e1]; simp) h10
   | _ => exact h10.elim
 rcases he with rfl | rfl <;> exact hpost
end Go.Proofs.Ytpnbnbhifpcelaa.V
namespace Go.Proofs.Ytpnbnbhifpcelaa.V
open Go Go.RowKit
set_option linter.unusedVariables false
section
variable {P : Program} {E : Env} {N : Nat} {σ : VS} {Q : Exit → Act → World → Prop} {K : Act → World → Prop}
theorem SV.seq' {x y : Go.Code} (h : SV E N σ (x.wp P (Exit.then (y.wp P Q) Q))) : SV E N σ ((Code.seq x y).wp P Q) := fun a w G hr => wp_seq (h a w G hr)
theorem SV.tn (h : SV E N σ K) : SV E N σ (Exit.then K Q .normal) := h
theorem SV.te {id : Nat} (h : SV E N σ (Q (.exit id))) : SV E N σ (Exit.then K Q (.exit id)) := h
theorem SV.tr {K : Act → World → Prop} (h : SV E N σ (Q .ret)) : SV E N σ (Exit.then K Q .ret) := h
theorem SV.bn {id : Nat} (h : SV E N σ (Q .normal)) : SV E N σ (Exit.inBlock id Q .normal) := h
theorem SV.br {id : Nat} (h : SV E N σ (Q .ret)) : SV E N σ (Exit.inBlock id Q .ret) := h
theorem SV.bh {id : Nat} (h : SV E N σ (Q .normal)) : SV E N σ (Exit.inBlock id Q (.exit id)) := fun a w G hr => by
 show if id = id then Q .normal a w else Q (.exit id) a w
 rw [if_pos rfl]
 exact h a w G hr
end
end Go.Proofs.Ytpnbnbhifpcelaa.V
namespace Go.Proofs.Ytpnbnbhifpcelaa.V
open Go Go.RowKit
set_option linter.unusedVariables false
def isHd (k : Nat) : Leaf → Bool
 | .hd i => Nat.beq i k
 | _ => false
def VS.kills (σ : VS) (cs : List Leaf) : VS := { σ with ob := fun k => bif cs.any (isHd k) then none else σ.ob k }
def VS.new (σ : VS) (t : T) : VS := { σ with ob := fun k => bif Nat.beq k σ.nx then some (0, t) else σ.ob k, nx := σ.nx + 1 }
variable {E : Env} {N : Nat} {σ σ' : VS} {o : Oper} {a : Act} {w : World} {G : Ghost}
theorem nbeq {a b : Nat} : Nat.beq a b = true ↔ a = b := ⟨Nat.eq_of_beq_eq_true, fun h => by rw [h]; exact Nat.beq_refl b⟩
theorem nbne {a b : Nat} (h : a ≠ b) : Nat.beq a b = false := by
 cases hb : Nat.beq a b with
 | false => rfl
 | true => exact absurd (nbeq.1 hb) h
theorem same_grown {w' : World} {row : Option Nat} (h : Rel E N σ a w G) (hg : w.grownBy w' row) (hr : ∀ b, row = some b → E.B ≤ b ∨ E.ln b) : Same E w w' :=
 ⟨hg.os, hg.tape, hg.output, hg.size, fun k hk => hg.block k (Nat.lt_of_lt_of_le hk.1 h.low) fun e => (hr k e.symm).elim (fun h1 => by have := hk.1; omega) hk.2⟩
def Fresh (σ : VS) (G : Ghost) (b : Nat) : Prop := (∀ i, σ.ob i ≠ none → ¬ G.ft i b) ∧ ∀ c, c < σ.bs.length → G.β c ≠ b
theorem Rel.fresh (h : Rel E N σ a w G) {b : Nat} (hb : w.heap.size ≤ b) : Fresh σ G b :=
 ⟨fun i hi hf => by have := (h.ftlt i b hi hf).2; omega, fun c hc e => by
  obtain ⟨-, us, h2, -⟩ := h.boxes c _ _ (List.getElem?_eq_getElem hc)
  have := lt_of_block h2
  omega⟩
theorem Rel.renew (h : Rel E N σ a w G) (cs : List Leaf) (hcs : ∀ x ∈ cs, ∃ t, σ.out x = some t) {w' : World} {t : T} {v : Value} {F : Nat → Prop} (D : Nat → Prop) (hbel : Same E w w') (hblk : ∀ k, k < w.heap.size → ¬ D k → w'.heap[k]? = w.heap[k]?) (hD : ∀ b, D b → ∃ x ∈ cs, x.foot G b)
  (hown : Own w' 0 t v F) (hseq : ∃ ty es, t = .seq ty es) (hF : ∀ b, F b → ((E.B ≤ b ∨ E.ln b) ∧ b < w'.heap.size) ∧ (Fresh σ G b ∨ ∃ x ∈ cs, x.foot G b)) : ∃ G', Rel E N ((σ.kills cs).new t) a w' G' ∧ (G'.vl σ.nx = v ∧ (∀ i, i < σ.nx → G'.vl i = G.vl i) ∧ G'.β = G.β) ∧ (∀ b, Fresh σ G b → ¬ F b → Fresh ((σ.kills cs).new t) G' b) ∧ ∀ x u, Holds G σ E w x u → Holds G' ((σ.kills cs).new t) E w' x u := by
 have hfoot : ∀ b, (∃ x ∈ cs, x.foot G b) → ∃ i, σ.ob i ≠ none ∧ G.ft i b ∧ cs.any (isHd i) = true := fun b ⟨x, hx, hb⟩ => by
  cases x with
  | hd i =>
   obtain ⟨t, ht⟩ := hcs _ hx
   obtain ⟨p, hp, -⟩ := Option.map_eq_some_iff.1 ht
   exact ⟨i, by rw [hp]; simp, hb, List.any_eq_true.2 ⟨_, hx, Nat.beq_refl i⟩⟩
  | _ => exact hb.elim
 have hlive : ∀ i v t, ((σ.kills cs).new t).ob i = some v → i ≠ σ.nx → σ.ob i = some v ∧ cs.any (isHd i) = false := fun i v t hv hi => by
  have h1 : (bif Nat.beq i σ.nx then some (0, t) else (bif cs.any (isHd i) then none else σ.ob i)) = some v := hv
  rw [nbne hi] at h1
  cases hc : cs.any (isHd i) with
  | true => rw [hc] at h1; cases h1
  | false => rw [hc] at h1; exact ⟨h1, rfl⟩
 have hnew : ((σ.kills cs).new t).ob σ.nx = some (0, t) := by
  show (bif Nat.beq σ.nx σ.nx then some (0, t) else _) = _
  rw [Nat.beq_refl]; rfl
 obtain ⟨G', hG'⟩ : ∃ G' : Ghost, G' = { G with vl := fun k => if k = σ.nx then v else G.vl k, ft := fun k => if k = σ.nx then F else G.ft k } := ⟨_, rfl⟩
 have hvn : G'.vl σ.nx = v := by rw [hG']; exact if_pos rfl
 have hfn : G'.ft σ.nx = F := by rw [hG']; exact if_pos rfl
 have hvo : ∀ i, i ≠ σ.nx → G'.vl i = G.vl i := fun i hi => by rw [hG']; exact if_neg hi
 have hfo : ∀ i, i ≠ σ.nx → G'.ft i = G.ft i := fun i hi => by rw [hG']; exact if_neg hi
 have hltn : ∀ i, σ.ob i ≠ none → i < σ.nx := fun i hi => by
  obtain ⟨⟨v, t⟩, hv⟩ := Option.ne_none_iff_exists'.1 hi
  exact (h.objs i v t hv).1
 have hout : ∀ i v b, σ.ob i = some v → cs.any (isHd i) = false → G.ft i b → ¬ ∃ x ∈ cs, x.foot G b := fun i v b hi hc hb hx => by
  obtain ⟨j, h1, h2, h3⟩ := hfoot b hx
  by_cases hij : i = j
  ·subst hij; rw [hc] at h3; cases h3
  ·exact h.disj i j b (by rw [hi]; simp) h1 hij hb h2
 have hturn : Rel E N ((σ.kills cs).new t) a w' G' ∧ ∀ x u, Holds G σ E w x u → Holds G' ((σ.kills cs).new t) E w' x u := by
  refine h.turn (σ' := (σ.kills cs).new t) D rfl rfl (by rw [hG']) hbel hblk (fun b hb hd => ?_) (Nat.le_succ _) (fun i hi => hvo i (Nat.ne_of_lt hi)) (fun i v' t' hv => ?_) (fun i j b hi hj hij hb hb' => ?_)
  ·obtain ⟨i, h1, h2, -⟩ := hfoot _ (hD _ hd)
   exact h.boxft b i hb h1 h2
  ·by_cases hi : i = σ.nx
   ·subst hi
    rw [hnew] at hv
    cases hv
    refine .inr ⟨Nat.lt_succ_self _, fun hlt => absurd hlt (Nat.lt_irrefl _), by rw [hvn, hfn]; exact hown, hseq, fun b hb => (hF b (by rw [← hfn]; exact hb)).1, fun b hb => ?_⟩
    rw [hfn] at hb
    rcases (hF b hb).2 with h1 | h1
    ·exact h1.2
    ·obtain ⟨j, h2, h3, -⟩ := hfoot b h1
     exact fun c hc e => h.boxft c j hc h2 (by rw [e]; exact h3)
   ·obtain ⟨h1, h2⟩ := hlive i _ t hv hi
    refine .inl ⟨h1, fun b => by rw [hfo i hi], fun b hb hd => hout i _ b h1 h2 hb (hD b hd)⟩
  ·obtain ⟨vi, hvi⟩ := Option.ne_none_iff_exists'.1 hi
   obtain ⟨vj, hvj⟩ := Option.ne_none_iff_exists'.1 hj
   have half : ∀ k vk, k ≠ σ.nx → ((σ.kills cs).new t).ob k = some vk → G'.ft k b → ¬ F b := fun k vk hk hvk hkb hFb => by
    obtain ⟨h1, h2⟩ := hlive k vk t hvk hk
    rw [hfo k hk] at hkb
    rcases (hF b hFb).2 with h3 | h3
    ·exact h3.1 k (by rw [h1]; simp) hkb
    ·exact hout k _ b h1 h2 hkb h3
   by_cases hin : i = σ.nx
   ·subst hin
    rw [hfn] at hb
    exact half j vj (fun e => hij e.symm) hvj hb' hb
   ·by_cases hjn : j = σ.nx
    ·subst hjn
     rw [hfn] at hb'
     exact half i vi hin hvi hb hb'
    ·rw [hfo i hin] at hb
     rw [hfo j hjn] at hb'
     obtain ⟨h1, -⟩ := hlive i _ t hvi hin
     obtain ⟨h2, -⟩ := hlive j _ t hvj hjn
     exact h.disj i j b (by rw [h1]; simp) (by rw [h2]; simp) hij hb hb'
 refine ⟨G', hturn.1, ⟨hvn, fun i hi => hvo i (Nat.ne_of_lt hi), by rw [hG']⟩, fun b hb hnF => ⟨fun i hi hf => ?_, fun c hc e => hb.2 c hc (by rw [hG'] at e; exact e)⟩, hturn.2⟩
 by_cases hin : i = σ.nx
 ·subst hin
  rw [hfn] at hf
  exact hnF hf
 ·obtain ⟨vi, hvi⟩ := Option.ne_none_iff_exists'.1 hi
  obtain ⟨h1, -⟩ := hlive i _ t hvi hin
  rw [hfo i hin] at hf
  exact hb.1 i (by rw [h1]; simp) hf
theorem own_at {v v' : Value} {b : Nat} (h : Rel E N σ a w G) (hb : v'.ownBlock = some b) (hat : v'.ownBlock = v.ownBlock ∨ v'.ownBlock = some w.heap.size) (hv : ∀ b, v.ownBlock = some b → E.B ≤ b ∨ E.ln b) : E.B ≤ b ∨ E.ln b := by
 rcases hat with h1 | h1
 ·exact hv b (by rw [← h1]; exact hb)
 ·rw [h1] at hb
  exact .inl (by rw [← Option.some.inj hb]; exact h.low)
structure ElT (t ty : TypeId) (n : Nat) (z : Value) (bytes : Nat) : Prop where
 und : Try.prog.underlying t = some (.slice ty)
 inf : (Try.prog.info? ty).map (fun i => (i.zero, i.size, i.bytes)) = some (some z, n, bytes)
 zs : z.cells.size = n
 pos : 0 < n
 small : bytes ≤ 400
 few : n ≤ 1000
theorem ElT.sz {t ty : TypeId} {n : Nat} {z : Value} {bytes : Nat} (h : ElT t ty n z bytes) : Sz ty n := by
 obtain ⟨i, h1, -, h3, -⟩ := info_parts h.inf
 exact ⟨i, h1, h3⟩
theorem setCells_rowv {b : Nat} {t : TypeId} {n : Nat} : ∀ (vs : List Value) (o : Nat) (w : World) (f : Nat → Value), w.rowIs b t n f → (w.setCells b o vs).rowIs b t n (fun j => if o ≤ j ∧ j < o + vs.length then vs.getD (j - o) undef else f j)
 | [], o, w, f, h => h.congr fun i _ => by rw [if_neg (fun e => by simp at e; omega)]
 | v :: r, o, w, f, h => by
  have ih := setCells_rowv r (o + 1) _ _ (h.set o v)
  refine ih.congr fun j hj => ?_
  by_cases h1 : o + 1 ≤ j ∧ j < o + 1 + r.length
  ·have h2 : o ≤ j ∧ j < o + (v :: r).length := by simp; omega
   rw [if_pos h1, if_pos h2, show j - o = (j - (o + 1)) + 1 by omega]
   rfl
  ·rw [if_neg h1]
   by_cases h3 : j = o
   ·subst h3
    have h2 : j ≤ j ∧ j < j + (v :: r).length := by simp
    rw [if_pos rfl, if_pos h2, Nat.sub_self]
    rfl
   ·have h2 : ¬ (o ≤ j ∧ j < o + (v :: r).length) := by simp; omega
    rw [if_neg h3, if_neg h2]
theorem setCells_grew {w : World} {g : Nat} : ∀ (vs : List Value) (o : Nat) (w' : World), w.grownBy w' (some g) → w.grownBy (w'.setCells g o vs) (some g)
 | [], _, _, h => h
 | v :: r, o, w', h => setCells_grew r (o + 1) _ ⟨h.os, h.tape, h.output, by simpa [World.setCell] using h.size, fun z hz hn => (Below.heap_setCell w' ⟨g, o, none⟩ v z (fun e => hn (by rw [show z = g from e]))).trans (h.block z hz hn)⟩
theorem append_core {t ty : TypeId} {n bytes : Nat} {z : Value} (I : ElT t ty n z bytes) {w : World} {B : Nat} {v : Value} {L : Nat} {xs : List Value} (hown : Row w B ty n v L xs) (hB : B ≤ w.heap.size) {ad : Option Addr} {m c : Nat} (h0 : ad = none → c = 0) (hmc : m ≤ c) {news : List Value} (hl : news.length = m * n)
  (hnews : ∀ x, ad = some x → ∀ j u, news[j]? = some u → w.cell? (x.add j) = some u) (h1 : ∀ u ∈ news, u.oneCell' = true) (hlen : L + m ≤ 350000000000) (rt : TypeId) :
  ∃ v' w', (Builtin.append_ #[t, t] rt #[v, .slice ad m c]).run Try.prog w = .ok v' w' ∧ Row w' B ty n v' (L + m) (xs ++ news) ∧ w.grownBy w' v.ownBlock ∧ (v'.ownBlock = v.ownBlock ∨ v'.ownBlock = some w.heap.size) ∧
   ∀ b, b < w.heap.size → w'.heap[b]? = w.heap[b]? ∨ ∃ cs cs' : Array Value, v.ownBlock = some b ∧ w.heap[b]? = some (.cells cs ty (0, 0)) ∧ w'.heap[b]? = some (.cells cs' ty (0, 0)) ∧ cs'.size = cs.size ∧ ∀ q N' c', v = .slice (some ⟨b, q, none⟩) N' c' → ∀ p, p < L * n → cs'[q + p]? = cs[q + p]? := by
 obtain ⟨i0, hi, hz0, hz1, hz2⟩ := info_parts I.inf
 obtain ⟨h2, ⟨rfl, rfl⟩ | ⟨g, q, cap, cur, rfl, hbg, hg, hnc, hcm, hcs, htake⟩⟩ := hown
 ·-- nothing yet
  have hx : xs = [] := List.eq_nil_of_length_eq_zero (by omega)
  subst hx
  cases ad with
  | none =>
   have hc := h0 rfl
   subst hc
   have hm : m = 0 := by omega
   subst hm
   have hn : news = [] := List.eq_nil_of_length_eq_zero (by omega)
   subst hn
   exact ⟨_, w, run_append_owned_none w B t rt ty i0 n I.und hi _ 0 [] (World.ownsRow_nil _ _ _ _), ⟨by simp, .inl ⟨rfl, rfl⟩⟩, World.grownBy.refl _ _, .inl rfl, fun b _ => .inl rfl⟩
  | some ad =>
   have hby : (0 + m) * bytes ≤ 140737488355328 := by
    have : (0 + m) * bytes ≤ 350000000000 * 400 := Nat.mul_le_mul hlen I.small
    omega
   obtain ⟨v', w', k1, k2, k3, -, k4⟩ := run_append_own_at (P := Try.prog) w B t rt ty i0 z n bytes I.und hi hz0 hz1 hz2 I.zs I.pos (.slice none 0 0) 0 [] (World.ownsRow_nil _ _ _ _) ad m c news hl (hnews ad rfl) h1 (by unfold maxLen; omega) hby hB
   exact ⟨v', w', k1, Row.of k2, k3, k4, fun b hb => .inl (k3.block b hb fun e => by cases e)⟩
 have hk : Try.prog.underlying t = some (.slice ty) := I.und
 have hLc : L * n ≤ cap * n := Nat.mul_le_mul_right _ hnc
 have hrow : w.rowIs g ty cur.size (fun j => cur.getD j undef) := ⟨cur, hg, rfl, fun j hj => by simp [Array.getD, hj]⟩
 have hxc : ∀ j u, xs[j]? = some u → cur[q + j]? = some u ∧ j < L * n := fun j u hj => by
  have hjl := get_lt hj
  rw [← htake, List.getElem?_take, if_pos (by omega), List.getElem?_drop, Array.getElem?_toList] at hj
  exact ⟨hj, by omega⟩
 have hcx : ∀ j, j < L * n → cur[q + j]? = xs[j]? := fun j hj => by
  rw [← htake, List.getElem?_take, if_pos hj, List.getElem?_drop, Array.getElem?_toList]
 have hsrc : Src Try.prog i0.size t (.slice ad m c) m news w := by
  cases ad with
  | some ad => exact Src.ofSlice w hk ad m c news (by rw [hz1]; exact hl) (hnews ad rfl) h1
  | none =>
   have hm : m = 0 := by have := h0 rfl; omega
   subst hm
   have hn : news = [] := List.eq_nil_of_length_eq_zero (by omega)
   subst hn
   have hc := h0 rfl
   subst hc
   exact Src.ofNil w hk 0
 by_cases hroom : L + m ≤ cap
 ·have hqn : L * n + m * n ≤ cap * n := by rw [← Nat.add_mul]; exact Nat.mul_le_mul_right _ hroom
  have eo : q + L * i0.size = q + L * n := by rw [hz1]
  have hr := run_append_room_src (P := Try.prog) w t t rt ty i0 hk hi g q L cap _ m news hsrc hroom (fun j hj => by rw [eo, hrow.cell (by omega)]; rfl) (fun j hj => hrow.frozen _)
  rw [eo] at hr
  obtain ⟨cur', hc1, hc2, hc3⟩ := setCells_rowv news (q + L * n) w _ hrow
  have hget : ∀ j, j < cur.size → cur'[j]? = some (if q + L * n ≤ j ∧ j < q + L * n + news.length then news.getD (j - (q + L * n)) undef else cur.getD j undef) := fun j hj => hc3 j hj
  have hpre : ∀ p, p < L * n → cur'[q + p]? = cur[q + p]? := fun p hp => by
   rw [hget _ (by omega), if_neg (by omega)]
   have : q + p < cur.size := by omega
   simp [Array.getD, this]
  refine ⟨_, _, hr, ⟨by rw [List.length_append, h2, hl, Nat.add_mul], .inr ⟨g, q, cap, cur', rfl, hbg, hc1, hroom, hcm, by rw [hc2]; exact hcs, ?_⟩⟩, setCells_grew news _ _ ⟨rfl, rfl, rfl, Nat.le_refl _, fun _ _ _ => rfl⟩, .inl rfl, fun b hb => ?_⟩
  ·apply List.ext_getElem?
   intro p
   rw [List.getElem?_take, List.getElem?_drop, Array.getElem?_toList]
   by_cases hp : p < L * n
   ·rw [if_pos (by rw [Nat.add_mul]; omega), hpre p hp, hcx p hp, List.getElem?_append_left (by omega)]
   ·by_cases hp2 : p < (L + m) * n
    ·have hp3 : p < L * n + m * n := by rw [← Nat.add_mul]; exact hp2
     rw [if_pos hp2, hget _ (by omega), if_pos (by omega), List.getElem?_append_right (by omega)]
     have e : q + p - (q + L * n) = p - xs.length := by omega
     have hpl : p - xs.length < news.length := by omega
     rw [e]
     simp [List.getD, List.getElem?_eq_getElem hpl]
    ·rw [if_neg hp2, List.getElem?_eq_none]
     rw [List.length_append, h2, hl, ← Nat.add_mul]
     omega
  ·by_cases hgb : g = b
   ·subst hgb
    exact .inr ⟨cur, cur', rfl, hg, hc1, hc2, fun q' N' c' e p hp => by cases e; exact hpre p hp⟩
   ·exact .inl ((setCells_grew (w := w) news (q + L * n) w ⟨rfl, rfl, rfl, Nat.le_refl _, fun _ _ _ => rfl⟩).block b hb fun e => hgb (Option.some.inj e).symm)
 ·have holds : (Builtin.firstCells i0.size L (.slice (some ⟨g, q, none⟩) L cap)).run Try.prog w.drew = .ok xs.toArray w.drew := by
   refine run_firstCells_some w.drew i0.size L _ L cap xs (by rw [hz1]; exact h2) fun j u hj => ?_
   obtain ⟨e1, e2⟩ := hxc _ _ hj
   rw [Addr.add_lit]
   show w.cell? _ = _
   rw [hrow.cell (by omega)]
   have : q + j < cur.size := by omega
   rw [Array.getElem?_eq_getElem this] at e1
   simp [Array.getD, this, Option.some.inj e1]
  have hby : (L + m) * i0.bytes ≤ 140737488355328 := by
   have := Nat.mul_le_mul hlen (show i0.bytes ≤ 400 by rw [hz2]; exact I.small)
   omega
  have hr := run_append_grow_src (P := Try.prog) w t t rt ty i0 z hk hi hz0 (some ⟨g, q, none⟩) L cap xs holds _ m news hsrc (by omega) (by omega) (growslice_fits (by omega) hby)
  obtain ⟨arr, harr⟩ : ∃ arr, arr = (xs ++ news).toArray ++ Builtin.zeroCells z.cells (grownCap w (L + m) cap ty - (L + m)) := ⟨_, rfl⟩
  rw [← harr] at hr
  have hglt : g < w.heap.size := lt_of_block hg
  have hge := grownCap_ge w (L + m) cap ty
  refine ⟨_, _, hr, ⟨by rw [List.length_append, h2, hl, Nat.add_mul], .inr ⟨w.heap.size, 0, _, arr, rfl, hB, ?_, hge, grownCap_le_maxLen w _ _ _ (by unfold maxLen; omega), ?_, ?_⟩⟩, ⟨rfl, rfl, rfl, by show w.heap.size ≤ (w.heap.push _).size; rw [Array.size_push]; omega, fun b hb _ => Below.heap_alloc w.drew _ _ hb⟩, .inr rfl, fun b hb => .inl (Below.heap_alloc w.drew _ _ hb)⟩
  ·show (w.heap.push _)[w.heap.size]? = _
   simp
  ·rw [harr, Array.size_append, Nat.zero_add, List.size_toArray, List.length_append, h2, hl, ← Nat.add_mul]
   have : (Builtin.zeroCells z.cells (grownCap w (L + m) cap ty - (L + m))).size = (grownCap w (L + m) cap ty - (L + m)) * n := by
    rw [size_zeroCells, I.zs]
   rw [this, ← Nat.add_mul]
   refine Nat.mul_le_mul_right _ (by omega)
  ·rw [List.drop_zero, harr, Array.toList_append, List.take_append_of_le_length (by simp [h2, hl, Nat.add_mul])]
   refine List.take_of_length_le (by simp [h2, hl, Nat.add_mul])
def Leaf.id? : Leaf → Option Nat
 | .hd i => some i
 | _ => none
theorem made_append {t ty : TypeId} {n bytes : Nat} {z : Value} {σ : VS} {w w' : World} {G G' : Ghost} {ls : Leaf} {es : List (List T)} {v v' : Value} {a : Act} {E : Env} {N : Nat} (I : ElT t ty n z bytes) (h : Rel E N σ a w G) (hts : σ.out ls = some (.seq ty es)) (hls : Holds G σ E w ls v) (hg : w.grownBy w' v.ownBlock)
  (hat : v'.ownBlock = v.ownBlock ∨ v'.ownBlock = some w.heap.size) (hpre : ∀ b, b < w.heap.size → w'.heap[b]? = w.heap[b]? ∨ ∃ cs cs' : Array Value, v.ownBlock = some b ∧ w.heap[b]? = some (.cells cs ty (0, 0)) ∧ w'.heap[b]? = some (.cells cs' ty (0, 0)) ∧ cs'.size = cs.size ∧ ∀ q N' c', v = .slice (some ⟨b, q, none⟩) N' c' → ∀ p, p < es.length * n → cs'[q + p]? = cs[q + p]?)
  (hvl : G'.vl σ.nx = v') (hvls : ∀ i, i < σ.nx → G'.vl i = G.vl i) (hβ : G'.β = G.β) (hb : Same E w w') : Made σ (Leaf.id? ls) w w' G G' E (σ.nx + 1) := by
 have key : ∀ b, v.ownBlock = some b → ∃ i, Leaf.id? ls = some i ∧ (∃ ver, σ.ob i = some (ver, .seq ty es)) ∧ (G.vl i).ownBlock = some b ∧ v = G.vl i := fun b hvb => by
  cases ls with
  | hd i =>
   obtain ⟨⟨ver, s⟩, e1, e2⟩ := Option.map_eq_some_iff.1 hts
   exact ⟨i, rfl, ⟨ver, by rw [e1]; exact congrArg some (Prod.ext rfl e2)⟩, by rw [← hls.1.2]; exact hvb, hls.1.2⟩
  | nl ty' => rw [hls.1.1] at hvb; cases hvb
  | sc u => cases hts
  | dead => cases hts
  | ro t => cases hts
  | rp es => cases hts
  | nd i v t l => cases hts
  | np i v es => cases hts
  | ep i k n o => cases hts
  | bp b o => cases hts
 refine ⟨hb.size, hb, hvls, fun b _ => by rw [hβ], fun b hbl => ?_, fun i h1 h2 b hib => ?_⟩
 ·rcases hpre b hbl with h1 | ⟨cs, cs', h1, h2, h3, h4, h5⟩
  ·exact .inl h1
  ·obtain ⟨i, e1, ⟨ver, e2⟩, e3, e4⟩ := key b h1
   exact .inr ⟨i, ver, ty, es, n, cs, cs', e1, e2, e3, I.sz, h2, h3, h4, fun q N' c' hv => h5 q N' c' (e4.trans hv)⟩
 ·have hi : i = σ.nx := by omega
  subst hi
  rw [hvl] at hib
  rcases hat with h3 | h3
  ·obtain ⟨j, e1, -, e3, -⟩ := key b (by rw [← h3]; exact hib)
   exact .inr ⟨j, e1, e3⟩
  ·rw [h3] at hib
   exact .inl (by rw [← Option.some.inj hib]; exact Nat.le_refl _)
theorem cat_el {es fs : List (List T)} {k : Nat} {e : List T} (h : (es ++ fs)[k]? = some e) : (k < es.length ∧ es[k]? = some e) ∨ (es.length ≤ k ∧ fs[k - es.length]? = some e) := by
 rcases Nat.lt_or_ge k es.length with hk | hk
 ·exact .inl ⟨hk, by rwa [List.getElem?_append_left hk] at h⟩
 ·exact .inr ⟨hk, by rwa [List.getElem?_append_right hk] at h⟩
theorem cat_ix {L k n j : Nat} (h : L ≤ k) : k * n + j = L * n + ((k - L) * n + j) := by
 have : k = L + (k - L) := by omega
 conv => lhs; rw [this, Nat.add_mul, Nat.add_assoc]
theorem ok_append {d : Nat} {s x : Operand} {t ty : TypeId} {n bytes : Nat} {z : Value} (I : ElT t ty n z bytes) {ls lx : Leaf} {es fs : List (List T)} {kk : Nat} (hk : σ.nx = kk) (ho : o.op = .call { callee := .builtin .append, args := #[s, x], argTypes := #[t, t] })
  (hs : σ.ev s = V.one ls) (hx : σ.ev x = V.one lx) (hts : σ.out ls = some (.seq ty es)) (htx : σ.out lx = some (.seq ty fs)) (h2 : two ls lx) (hlen : es.length + fs.length ≤ 350000000000) (hd : o.dst = some d) (hdN : d < N) :
  OpMk Try.prog E N (Leaf.id? ls) σ o (((σ.kills [ls, lx]).new (.seq ty (es ++ fs))).put d (V.one (.hd kk))) :=
 fun a w G K Q h k => by
  subst hk
  have hvs := h.ev s
  rw [hs, vone] at hvs
  have hvx := h.ev x
  rw [hx, vone] at hvx
  have os := h.out hvs hts
  have ox := h.out hvx htx
  generalize hF1 : ls.foot G = F1 at os
  generalize hF2 : lx.foot G = F2 at ox
  have hdis : ∀ b, F1 b → F2 b → False := fun b hb1 hb2 => by
   rw [← hF1] at hb1
   rw [← hF2] at hb2
   cases ls with
   | hd i =>
    cases lx with
    | hd j =>
     obtain ⟨p, e1, -⟩ := Option.map_eq_some_iff.1 hts
     obtain ⟨q, e2, -⟩ := Option.map_eq_some_iff.1 htx
     by_cases hij : i = j
     ·exact h2 i rfl (by rw [hij])
     ·exact h.disj i j b (by rw [e1]; simp) (by rw [e2]; simp) hij hb1 hb2
    | _ => exact hb2
   | _ => exact hb1
  have hlt1 : ∀ b, F1 b → (E.B ≤ b ∨ E.ln b) ∧ b < w.heap.size := fun b hb => by
   rw [← hF1] at hb
   cases ls with
   | hd i =>
    obtain ⟨p, e1, -⟩ := Option.map_eq_some_iff.1 hts
    exact h.ftlt i b (by rw [e1]; simp) hb
   | _ => exact hb.elim
  have hlt2 : ∀ b, F2 b → (E.B ≤ b ∨ E.ln b) ∧ b < w.heap.size := fun b hb => by
   rw [← hF2] at hb
   cases lx with
   | hd i =>
    obtain ⟨p, e1, -⟩ := Option.map_eq_some_iff.1 htx
    exact h.ftlt i b (by rw [e1]; simp) hb
   | _ => exact hb.elim
  have hcs : ∀ y ∈ [ls, lx], ∃ t, σ.out y = some t := fun y hy => by
   simp only [List.mem_cons, List.not_mem_nil, or_false] at hy
   rcases hy with rfl | rfl
   ·exact ⟨_, hts⟩
   ·exact ⟨_, htx⟩
  cases os with
  | seq n1 hp1 hz1 hn1 xs1 hown1 Gs1 hr1 hone1 hF1' hG1 hne1 hd1 =>
  cases ox with
  | seq n2 hp2 hz2 hn2 xs2 hown2 Gs2 hr2 hone2 hF2' hG2 hne2 hd2 =>
  have e1 := hz1.eq I.sz
  have e2 := hz2.eq I.sz
  subst e1 e2
  obtain ⟨ad, c, hxv, hc1, -, hc3, hc4⟩ := own_slice hown2
  obtain ⟨v', w', k1, k2, k3, k4, k5⟩ := append_core I hown1 (Nat.zero_le _) hc3 hc1 hown2.1 (fun y hy j u hj => by
   have hpos : 0 < fs.length := by
    rcases Nat.eq_zero_or_pos fs.length with hz | hz
    ·have := get_lt hj; rw [hown2.1, hz, Nat.zero_mul] at this; omega
    ·exact hz
   obtain ⟨g, q, hg, -, -, hg2, -⟩ := hc4 hpos
   rw [hy] at hg
   cases hg
   rw [Addr.add_lit]
   exact hg2 j u hj) hone2 hlen o.type
  have hblk : ∀ k, k < w.heap.size → ¬ ((a.eval s).ownBlock = some k) → w'.heap[k]? = w.heap[k]? := fun k hk hn => k3.block k hk fun e => hn e.symm
  have hx1 : ∀ k e j t', (es ++ fs)[k]? = some e → e[j]? = some t' → j < n2 := fun k e j t' he hj => by
   rcases cat_el he with ⟨-, he⟩ | ⟨-, he⟩
   ·rw [← hn1 e (get_mem he)]; exact get_lt hj
   ·rw [← hn2 e (get_mem he)]; exact get_lt hj
  obtain ⟨G', hG', ⟨hvl, hvls, hβs⟩, -, -⟩ := h.renew [ls, lx] hcs (w' := w') (t := .seq ty (es ++ fs)) (v := v') (F := fun b => F1 b ∨ F2 b ∨ v'.ownBlock = some b) (fun b => (a.eval s).ownBlock = some b)
   (same_grown h k3 fun b hb => (hlt1 b (hF1' b hb)).1) hblk (fun b hb => ⟨ls, List.mem_cons_self .., by rw [hF1]; exact hF1' b hb⟩)
   (by
    refine .seq n2 hp2 hz2 (fun e he => (List.mem_append.1 he).elim (hn1 e) (hn2 e)) (xs1 ++ xs2) (by rw [List.length_append]; exact k2) (fun q b => if q < es.length * n2 then Gs1 q b else Gs2 (q - es.length * n2) b) (fun k e j t' u he hj hu => ?_) (fun u hu => (List.mem_append.1 hu).elim (hone1 u) (hone2 u)) (fun b hb => .inr (.inr hb)) (fun q b hb => ?_) (fun q b hb => ?_) fun q q' b hb hb' => ?_
    ·have hj2 := hx1 k e j t' he hj
     rcases cat_el he with ⟨hk, he⟩ | ⟨hk, he⟩
     ·have hlt := at_lt hk hj2
      rw [List.getElem?_append_left (by rw [hown1.1]; exact hlt)] at hu
      refine ((hr1 k e j t' u he hj hu).frame fun b hb => hblk b (hlt1 b (hG1 _ b hb)).2 fun e => hne1 _ b hb e).mono fun b hb => ?_
      show if k * n2 + j < es.length * n2 then _ else _
      rw [if_pos hlt]; exact hb
     ·rw [cat_ix (n := n2) (j := j) hk] at hu ⊢
      rw [List.getElem?_append_right (by rw [hown1.1]; omega), hown1.1, Nat.add_sub_cancel_left] at hu
      refine ((hr2 _ e j t' u he hj hu).frame fun b hb => hblk b (hlt2 b (hG2 _ b hb)).2 fun e => hdis b (hF1' b e) (hG2 _ b hb)).mono fun b hb => ?_
      show if es.length * n2 + ((k - es.length) * n2 + j) < es.length * n2 then _ else _
      rw [if_neg (by omega), Nat.add_sub_cancel_left]; exact hb
    ·replace hb : if q < es.length * n2 then Gs1 q b else Gs2 (q - es.length * n2) b := hb
     split at hb
     ·exact .inl (hG1 _ b hb)
     ·exact .inr (.inl (hG2 _ b hb))
    ·replace hb : if q < es.length * n2 then Gs1 q b else Gs2 (q - es.length * n2) b := hb
     intro e
     have hbl : b < w.heap.size := by
      split at hb
      ·exact (hlt1 b (hG1 _ b hb)).2
      ·exact (hlt2 b (hG2 _ b hb)).2
     rcases k4 with k4 | k4
     ·rw [k4] at e
      split at hb
      ·exact hne1 _ b hb e
      ·exact hdis b (hF1' b e) (hG2 _ b hb)
     ·rw [k4] at e
      have := Option.some.inj e
      omega
    ·replace hb : if q < es.length * n2 then Gs1 q b else Gs2 (q - es.length * n2) b := hb
     replace hb' : if q' < es.length * n2 then Gs1 q' b else Gs2 (q' - es.length * n2) b := hb'
     split at hb <;> split at hb'
     ·exact hd1 _ _ b hb hb'
     ·exact (hdis b (hG1 _ b hb) (hG2 _ b hb')).elim
     ·exact (hdis b (hG1 _ b hb') (hG2 _ b hb)).elim
     ·have := hd2 _ _ b hb hb'
      omega)
   ⟨_, _, rfl⟩ (fun b hb => by
    rcases hb with hb | hb | hb
    ·exact ⟨⟨(hlt1 b hb).1, Nat.lt_of_lt_of_le (hlt1 b hb).2 k3.size⟩, .inr ⟨ls, List.mem_cons_self .., by rw [hF1]; exact hb⟩⟩
    ·exact ⟨⟨(hlt2 b hb).1, Nat.lt_of_lt_of_le (hlt2 b hb).2 k3.size⟩, .inr ⟨lx, List.mem_cons_of_mem _ (List.mem_cons_self ..), by rw [hF2]; exact hb⟩⟩
    ·refine ⟨⟨own_at h hb k4 (fun b hb => (hlt1 b (hF1' b hb)).1), (Row.lt k2 b hb).2⟩, ?_⟩
     rcases k4 with k4 | k4
     ·exact .inr ⟨ls, List.mem_cons_self .., by rw [hF1]; exact hF1' b (by rw [← k4]; exact hb)⟩
     ·rw [k4] at hb
      exact .inl (h.fresh (by rw [← Option.some.inj hb]; exact Nat.le_refl _)))
  refine wp_value (v := v') (w' := w') ?_ (by rw [hd]; exact k _ _ _ (hG'.put hdN (vone.2 ⟨⟨Nat.lt_succ_self _, hvl.symm⟩, .inr (row_one k2)⟩)) (made_append I h hts hvs k3 k4 k5 hvl hvls hβs ((same_grown h k3 fun b hb => (hlt1 b (hF1' b hb)).1))))
  simp [execOp, ho, resolve, invoke, builtin, hxv, k1, Result.andThen]
end Go.Proofs.Ytpnbnbhifpcelaa.V
namespace Go.Proofs.Ytpnbnbhifpcelaa.V
open Go Go.RowKit
set_option linter.unusedVariables false
variable {E : Env} {N : Nat} {σ σ' : VS} {o : Oper} {a : Act} {w : World} {G : Ghost}
def Flat (fs : List (List T)) : Prop := ∀ (k : Nat) (e : List T) (j : Nat) (t : T), fs[k]? = some e → e[j]? = some t → ∃ u, t = T.lit u
def litv : T → Value
 | .lit u => u
 | _ => .bool false
theorem flat_ix {fs : List (List T)} {n : Nat} (hn : ∀ e ∈ fs, e.length = n) : ∀ (k j : Nat) (e : List T) (t : T), fs[k]? = some e → e[j]? = some t → (fs.flatMap fun e => e.map litv)[k * n + j]? = some (litv t) := by
 induction fs with
 | nil => intro k j e t h; simp at h
 | cons f fs ih =>
  intro k j e t hk hj
  have hf : f.length = n := hn f (List.mem_cons_self ..)
  rw [List.flatMap_cons]
  cases k with
  | zero =>
   cases hk
   rw [Nat.zero_mul, Nat.zero_add, List.getElem?_append_left (by rw [List.length_map]; exact get_lt hj), List.getElem?_map, hj]
   rfl
  | succ k =>
   have h1 : (k + 1) * n + j = n + (k * n + j) := by rw [Nat.add_mul, Nat.one_mul]; omega
   rw [h1, List.getElem?_append_right (by rw [List.length_map, hf]; omega), List.length_map, hf, Nat.add_sub_cancel_left]
   exact ih (fun e he => hn e (List.mem_cons_of_mem _ he)) k j e t (by simpa using hk) hj
theorem flat_len {fs : List (List T)} {n : Nat} (hn : ∀ e ∈ fs, e.length = n) : (fs.flatMap fun e => e.map litv).length = fs.length * n := by
 induction fs with
 | nil => simp
 | cons f fs ih =>
  rw [List.flatMap_cons, List.length_append, List.length_map, hn f (List.mem_cons_self ..), ih fun e he => hn e (List.mem_cons_of_mem _ he), List.length_cons, Nat.add_mul, Nat.one_mul]
  omega
theorem flat_at {fs : List (List T)} {n p : Nat} {u : Value} (hn : ∀ e ∈ fs, e.length = n) (hp : 0 < n) (h : (fs.flatMap fun e => e.map litv)[p]? = some u) : ∃ e t, fs[p / n]? = some e ∧ e[p % n]? = some t ∧ u = litv t ∧ p / n * n + p % n = p := by
 have hlt := get_lt h
 rw [flat_len hn] at hlt
 have hd : p / n < fs.length := by rw [Nat.div_lt_iff_lt_mul hp]; exact hlt
 have hm : p % n < fs[p / n].length := by rw [hn _ (List.getElem_mem hd)]; exact Nat.mod_lt _ hp
 have e1 : p / n * n + p % n = p := by rw [Nat.mul_comm]; exact Nat.div_add_mod p n
 have h2 := flat_ix hn (p / n) (p % n) fs[p / n] fs[p / n][p % n] (List.getElem?_eq_getElem hd) (List.getElem?_eq_getElem hm)
 rw [e1, h] at h2
 exact ⟨_, _, List.getElem?_eq_getElem hd, List.getElem?_eq_getElem hm, Option.some.inj h2, e1⟩
theorem ok_append_ro {d : Nat} {s x : Operand} {t ty : TypeId} {n bytes : Nat} {z : Value} (I : ElT t ty n z bytes) {ls lx : Leaf} {es fs : List (List T)} {kk : Nat} (hk : σ.nx = kk) (ho : o.op = .call { callee := .builtin .append, args := #[s, x], argTypes := #[t, t] })
  (hs : σ.ev s = V.one ls) (hx : σ.ev x = V.one lx) (hts : σ.out ls = some (.seq ty es)) (htx : σ.tr lx = some (.seq ty fs)) (hfl : Flat fs) (hlen : es.length + fs.length ≤ 350000000000) (hd : o.dst = some d) (hdN : d < N) :
  OpMk Try.prog E N (Leaf.id? ls) σ o (((σ.kills [ls]).new (.seq ty (es ++ fs))).put d (V.one (.hd kk))) :=
 fun a w G K Q h k => by
  subst hk
  have hvs := h.ev s
  rw [hs, vone] at hvs
  have os := h.out hvs hts
  generalize hF1 : ls.foot G = F1 at os
  have hlt1 : ∀ b, F1 b → (E.B ≤ b ∨ E.ln b) ∧ b < w.heap.size := fun b hb => by
   rw [← hF1] at hb
   cases ls with
   | hd i =>
    obtain ⟨p, e1, -⟩ := Option.map_eq_some_iff.1 hts
    exact h.ftlt i b (by rw [e1]; simp) hb
   | _ => exact hb.elim
  have hcs : ∀ y ∈ [ls], ∃ t, σ.out y = some t := fun y hy => by
   rw [List.mem_singleton.1 hy]
   exact ⟨_, hts⟩
  obtain ⟨ad, c, n2, hxv, hc1, -, hc3, hp2, hz2, hn2, b2, o2, us, ha2, hb2, hcell, hr2⟩ := inn_seq (h.head hx htx)
  cases os with
  | seq n1 hp1 hz1 hn1 xs1 hown1 Gs1 hr1 hone1 hF1' hG1 hne1 hd1 =>
  have e1 := hz1.eq I.sz
  have e2 := hz2.eq I.sz
  subst e1 e2
  have hval : ∀ p u, (fs.flatMap fun e => e.map litv)[p]? = some u → w.cell? ⟨b2, o2 + p, none⟩ = some u ∧ u.oneCell' = true := fun p u hu => by
   obtain ⟨e, t', h1, h2, h3, h4⟩ := flat_at hn2 hp2 hu
   obtain ⟨v, hv⟩ := hfl _ _ _ _ h1 h2
   subst hv
   have h5 := hr2 _ _ _ _ h1 h2
   have h6 := hcell _ _ _ _ h1 h2
   rw [h4] at h5 h6
   cases h5 with
   | lit h7 =>
    rw [h3]
    exact ⟨h6, h7⟩
  obtain ⟨v', w', k1, k2, k3, k4, k5⟩ := append_core I hown1 (Nat.zero_le _) hc3 hc1 (flat_len hn2) (fun y hy j u hj => by
   have hne : fs ≠ [] := fun hh => by rw [hh] at hj; simp at hj
   rw [ha2 y hy hne, Addr.add_lit]
   exact (hval j u hj).1) (fun u hu => by
    obtain ⟨j, hj, rfl⟩ := List.getElem_of_mem hu
    exact (hval j _ (List.getElem?_eq_getElem hj)).2) hlen o.type
  have hblk : ∀ k, k < w.heap.size → ¬ ((a.eval s).ownBlock = some k) → w'.heap[k]? = w.heap[k]? := fun k hk hn => k3.block k hk fun e => hn e.symm
  obtain ⟨G', hG', ⟨hvl, hvls, hβs⟩, -, -⟩ := h.renew [ls] hcs (w' := w') (t := .seq ty (es ++ fs)) (v := v') (F := fun b => F1 b ∨ v'.ownBlock = some b) (fun b => (a.eval s).ownBlock = some b)
   (same_grown h k3 fun b hb => (hlt1 b (hF1' b hb)).1) hblk (fun b hb => ⟨ls, List.mem_singleton.2 rfl, by rw [hF1]; exact hF1' b hb⟩)
   (by
    refine .seq n2 hp2 hz2 (fun e he => (List.mem_append.1 he).elim (hn1 e) (hn2 e)) _ (by rw [List.length_append]; exact k2) (fun q b => q < es.length * n2 ∧ Gs1 q b) (fun k e j t' u he hj hu => ?_) (fun u hu => (List.mem_append.1 hu).elim (hone1 u) fun hu => ?_) (fun b hb => .inr hb) (fun q b hb => .inl (hG1 _ b hb.2)) (fun q b hb e => ?_) fun q q' b hb hb' => hd1 _ _ b hb.2 hb'.2
    ·have hj2 : j < n2 := by
      rcases cat_el he with ⟨-, he⟩ | ⟨-, he⟩
      ·rw [← hn1 e (get_mem he)]; exact get_lt hj
      ·rw [← hn2 e (get_mem he)]; exact get_lt hj
     rcases cat_el he with ⟨hk, he⟩ | ⟨hk, he⟩
     ·have hlt := at_lt hk hj2
      rw [List.getElem?_append_left (by rw [hown1.1]; exact hlt)] at hu
      exact ((hr1 k e j t' u he hj hu).frame fun b hb => hblk b (hlt1 b (hG1 _ b hb)).2 fun e => hne1 _ b hb e).mono fun b hb => ⟨hlt, hb⟩
     ·rw [cat_ix (n := n2) (j := j) hk] at hu
      rw [List.getElem?_append_right (by rw [hown1.1]; omega), hown1.1, Nat.add_sub_cancel_left, flat_ix hn2 _ j e t' he hj] at hu
      obtain ⟨v, hv⟩ := hfl _ _ _ _ he hj
      subst hv
      rw [← Option.some.inj hu]
      exact .lit (hval _ _ (flat_ix hn2 _ j e _ he hj)).2
    ·obtain ⟨j, hj, rfl⟩ := List.getElem_of_mem hu
     exact (hval j _ (List.getElem?_eq_getElem hj)).2
    ·rcases k4 with k4 | k4
     ·rw [k4] at e
      exact hne1 _ b hb.2 e
     ·rw [k4] at e
      have := Option.some.inj e
      have := (hlt1 b (hG1 _ b hb.2)).2
      omega)
   ⟨_, _, rfl⟩ (fun b hb => by
    rcases hb with hb | hb
    ·exact ⟨⟨(hlt1 b hb).1, Nat.lt_of_lt_of_le (hlt1 b hb).2 k3.size⟩, .inr ⟨ls, List.mem_singleton.2 rfl, by rw [hF1]; exact hb⟩⟩
    ·refine ⟨⟨own_at h hb k4 (fun b hb => (hlt1 b (hF1' b hb)).1), (Row.lt k2 b hb).2⟩, ?_⟩
     rcases k4 with k4 | k4
     ·exact .inr ⟨ls, List.mem_singleton.2 rfl, by rw [hF1]; exact hF1' b (by rw [← k4]; exact hb)⟩
     ·rw [k4] at hb
      exact .inl (h.fresh (by rw [← Option.some.inj hb]; exact Nat.le_refl _)))
  refine wp_value (v := v') (w' := w') ?_ (by rw [hd]; exact k _ _ _ (hG'.put hdN (vone.2 ⟨⟨Nat.lt_succ_self _, hvl.symm⟩, .inr (row_one k2)⟩)) (made_append I h hts hvs k3 k4 k5 hvl hvls hβs ((same_grown h k3 fun b hb => (hlt1 b (hF1' b hb)).1))))
  simp [execOp, ho, resolve, invoke, builtin, hxv, k1, Result.andThen]
def Leaf.cutL (lf : Leaf) (t : T) : Leaf := match lf with
 | .ro _ => .ro t
 | .hd i => .nd i 0 t none
 | .nd i ver _ _ => .nd i ver t none
 | _ => .dead
theorem ok_extract {nb c : Nat} {x : Operand} {ps : List (Bool × List Leaf)} {ag : Bool} {xs : List Leaf} (ho : o.op = .extract x c) (hx : σ.ev x = ⟨true, ps⟩) (hc : ps[c]? = some (ag, xs)) : OpL Try.prog E N nb σ o (V.flat ag xs) :=
 fun a w G h => by
  have h1 := h.ev x
  rw [hx] at h1
  obtain ⟨uss, h2, h3, h4⟩ := h1
  have hcl : c < uss.length := by rw [h2]; exact get_lt hc
  obtain ⟨h5, h6⟩ := h4 c ag xs uss[c] hc (List.getElem?_eq_getElem hcl)
  refine ⟨cval ag uss[c], fun v' _ => ?_, vflat.2 ⟨_, rfl, h5, h6⟩⟩
  have : (List.zipWith (fun (c : Bool × List Leaf) us => cval c.1 us) ps uss)[c]? = some (cval ag uss[c]) := by
   rw [List.getElem?_zipWith, hc, List.getElem?_eq_getElem hcl]
  simp [execOp, ho, Instr.extract, h3, vval, this]
/-! ### Calls -/
def VS.arg (σ : VS) : Leaf → Option T
 | .dead => some .any
 | x => σ.tr x
def VS.args (σ : VS) : List Leaf → List T → Prop
 | [], [] => True
 | x :: xs, t :: ts => σ.tr x = some t ∧ σ.args xs ts
 | _, _ => False
theorem args_get {σ : VS} : ∀ {xs : List Leaf} {ts : List T}, σ.args xs ts → xs.length = ts.length ∧ ∀ (j : Nat) (t : T), ts[j]? = some t → ∃ x, xs[j]? = some x ∧ σ.tr x = some t
 | [], [], _ => ⟨rfl, fun j t h => by simp at h⟩
 | x :: xs, t :: ts, h => by
  obtain ⟨h1, h2⟩ := args_get h.2
  refine ⟨by simp [h1], fun j y hj => ?_⟩
  cases j with
  | zero => cases hj; exact ⟨x, rfl, h.1⟩
  | succ j => exact h2 j y (by simpa using hj)
def VS.argss (σ : VS) : List Operand → List (Bool × List T) → Prop
 | [], [] => True
 | x :: xs, q :: qs => (∃ ls, σ.ev x = V.flat q.1 ls ∧ σ.args ls q.2) ∧ σ.argss xs qs
 | _, _ => False
theorem Rel.args (h : Rel E N σ a w G) : ∀ {xs : List Operand} {qs : List (Bool × List T)}, σ.argss xs qs → ArgsIn (Env.of w) w qs (xs.map a.eval)
 | [], [], _ => ⟨rfl, fun c ag ts v hc => by simp at hc⟩
 | x :: xs, q :: qs, hq => by
  obtain ⟨⟨ls, h1, h2⟩, h3⟩ := hq
  obtain ⟨h4, h5⟩ := h.args h3
  refine ⟨by simpa using h4, fun c ag ts v hc hv => ?_⟩
  cases c with
  | zero =>
   cases hc
   cases hv
   have h6 := h.ev x
   rw [h1, vflat] at h6
   obtain ⟨us, h7, h8, h9⟩ := h6
   obtain ⟨h10, h11⟩ := args_get h2
   refine ⟨us, h7, h8.trans h10, fun j t u hj hu => ?_⟩
   obtain ⟨y, h12, h13⟩ := h11 j t hj
   have := h.tree (h9 j y u h12 hu) h13
   refine this.frame (Nat.le_refl _) fun b hb hb' => ⟨Env.of_old.2 hb', rfl⟩
  | succ c => exact h5 c ag ts v (by simpa using hc) (by simpa using hv)
def ansL : Nat → List T → List Leaf × Nat
 | k, [] => ([], k)
 | k, .lit u :: ts => let r := ansL k ts; (.sc u :: r.1, r.2)
 | k, .any :: ts => let r := ansL k ts; (.dead :: r.1, r.2)
 | k, .seq _ _ :: ts => let r := ansL (k + 1) ts; (.hd k :: r.1, r.2)
def ansS (σ : VS) : List T → VS
 | [] => σ
 | .seq ty es :: ts => ansS (σ.new (.seq ty es)) ts
 | _ :: ts => ansS σ ts
def ansLs : Nat → List (Bool × List T) → List (Bool × List Leaf)
 | _, [] => []
 | k, (ag, ts) :: qs => (ag, (ansL k ts).1) :: ansLs (ansL k ts).2 qs
def ansSs (σ : VS) : List (Bool × List T) → VS
 | [] => σ
 | (_, ts) :: qs => ansSs (ansS σ ts) qs
theorem Rel.addAll : ∀ (ts : List T) {σ : VS} {G : Ghost} (us : List Value) (F : Nat → Nat → Prop), Rel E N σ a w G → us.length = ts.length → (∀ (j : Nat) (t : T) (u : Value), ts[j]? = some t → us[j]? = some u → Own w 0 t u (F j)) → (∀ j b, F j b → Fresh σ G b ∧ (E.B ≤ b ∨ E.ln b) ∧ b < w.heap.size) →
  (∀ i j b, F i b → F j b → i = j) → ∃ G', Rel E N (ansS σ ts) a w G' ∧ (ansS σ ts).bs = σ.bs ∧ (ansS σ ts).nx = (ansL σ.nx ts).2 ∧ σ.nx ≤ (ansS σ ts).nx ∧ (∀ b, Fresh σ G b → (∀ j, ¬ F j b) → Fresh (ansS σ ts) G' b) ∧ (∀ x u, Holds G σ E w x u → Holds G' (ansS σ ts) E w x u) ∧ (ansL σ.nx ts).1.length = ts.length ∧
   (∀ (j : Nat) (x : Leaf) (u : Value), (ansL σ.nx ts).1[j]? = some x → us[j]? = some u → Holds G' (ansS σ ts) E w x u) ∧
   (∀ i, i < σ.nx → G'.vl i = G.vl i) ∧ G'.β = G.β ∧ ∀ i, σ.nx ≤ i → i < (ansS σ ts).nx → ∀ b, (G'.vl i).ownBlock = some b → ∃ j, F j b
 | [], σ, G, us, F, h, hl, ho, hF, hd => ⟨G, h, rfl, rfl, Nat.le_refl _, fun b hb _ => hb, fun x u hx => hx, rfl, fun j x u hj => by simp [ansL] at hj, fun _ _ => rfl, rfl, fun i h1 h2 => absurd h2 (Nat.not_lt.2 h1)⟩
 | .any :: ts, σ, G, u :: us, F, h, hl, ho, hF, hd => by
  obtain ⟨G', h1, h2, h3, h4, h5, h6, h7, h8, h9, h10, h11⟩ := Rel.addAll ts us (fun j => F (j + 1)) h (by simpa using hl) (fun j t u hj hu => ho (j + 1) t u (by simpa using hj) (by simpa using hu)) (fun j b hb => hF _ b hb) fun i j b hi hj => by have := hd _ _ b hi hj; omega
  refine ⟨G', h1, h2, h3, h4, fun b hb hn => h5 b hb fun j => hn (j + 1), h6, by simp [ansL, h7], fun j x v hj hv => ?_, h9, h10, fun i e1 e2 b e3 => by obtain ⟨j, hj⟩ := h11 i e1 e2 b e3; exact ⟨j + 1, hj⟩⟩
  cases j with
  | zero => cases hj; exact ⟨trivial, .inl rfl⟩
  | succ j => exact h8 j x v (by simpa [ansL] using hj) (by simpa using hv)
 | .lit v :: ts, σ, G, u :: us, F, h, hl, ho, hF, hd => by
  obtain ⟨G', h1, h2, h3, h4, h5, h6, h7, h8, h9, h10, h11⟩ := Rel.addAll ts us (fun j => F (j + 1)) h (by simpa using hl) (fun j t u hj hu => ho (j + 1) t u (by simpa using hj) (by simpa using hu)) (fun j b hb => hF _ b hb) fun i j b hi hj => by have := hd _ _ b hi hj; omega
  refine ⟨G', h1, h2, h3, h4, fun b hb hn => h5 b hb fun j => hn (j + 1), h6, by simp [ansL, h7], fun j x y hj hv => ?_, h9, h10, fun i e1 e2 b e3 => by obtain ⟨j, hj⟩ := h11 i e1 e2 b e3; exact ⟨j + 1, hj⟩⟩
  cases j with
  | zero =>
   cases hj
   cases hv
   have := ho 0 (.lit v) u rfl rfl
   cases this with
   | lit hv => exact ⟨rfl, .inr hv⟩
  | succ j => exact h8 j x y (by simpa [ansL] using hj) (by simpa using hv)
 | .seq ty es :: ts, σ, G, u :: us, F, h, hl, ho, hF, hd => by
  have hown := ho 0 (.seq ty es) u rfl rfl
  obtain ⟨G1, k1, ⟨k2, k5, k6⟩, k3, k4⟩ := h.renew [] (fun x hx => by cases hx) (w' := w) (t := .seq ty es) (v := u) (F := F 0) (fun _ => False) (Same.refl _ _) (fun _ _ _ => rfl) (fun b hb => hb.elim) hown ⟨_, _, rfl⟩ fun b hb => ⟨(hF 0 b hb).2, .inl (hF 0 b hb).1⟩
  have e0 : (σ.kills []).new (.seq ty es) = σ.new (.seq ty es) := rfl
  rw [e0] at k1 k3 k4
  obtain ⟨G', h1, h2, h3, h4, h5, h6, h7, h8, h9, h10, h11⟩ := Rel.addAll ts us (fun j => F (j + 1)) k1 (by simpa using hl) (fun j t u hj hu => ho (j + 1) t u (by simpa using hj) (by simpa using hu)) (fun j b hb => ⟨k3 b (hF _ b hb).1 fun hb0 => by have := hd _ _ b hb hb0; omega, (hF _ b hb).2⟩) fun i j b hi hj => by have := hd _ _ b hi hj; omega
  refine ⟨G', h1, h2, h3, Nat.le_trans (Nat.le_succ _) h4, fun b hb hn => h5 b (k3 b hb (hn 0)) fun j => hn (j + 1), fun x u hx => h6 x u (k4 x u hx), by simp [ansL] at h7 ⊢; exact h7, fun j x v hj hv => ?_, fun i hi => (h9 i (Nat.lt_succ_of_lt hi)).trans (k5 i hi), h10.trans k6, fun i e1 e2 b e3 => ?_⟩
  rotate_left
  ·by_cases hi : i = σ.nx
   ·subst hi
    rw [h9 _ (Nat.lt_succ_self _), k2] at e3
    cases hown with
    | seq n hp hz hn xs hown Gs hr hone hF' hG hne hd' => exact ⟨0, hF' b e3⟩
   ·obtain ⟨j, hj⟩ := h11 i (Nat.lt_of_le_of_ne e1 (Ne.symm hi)) e2 b e3
    exact ⟨j + 1, hj⟩
  cases j with
  | zero =>
   cases hj
   cases hv
   exact h6 _ _ ⟨⟨Nat.lt_succ_self _, k2.symm⟩, .inr hown.one⟩
  | succ j =>
   have hj' : (ansL (σ.nx + 1) ts).1[j]? = some x := by simpa [ansL] using hj
   exact h8 j x v hj' (by simpa using hv)
theorem Rel.addAlls : ∀ (qs : List (Bool × List T)) {σ : VS} {G : Ghost} (uss : List (List Value)) (F : Nat → Nat → Nat → Prop), Rel E N σ a w G → uss.length = qs.length →
  (∀ (c : Nat) (ag : Bool) (ts : List T) (us : List Value), qs[c]? = some (ag, ts) → uss[c]? = some us → us.length = ts.length ∧ ∀ (j : Nat) (t : T) (u : Value), ts[j]? = some t → us[j]? = some u → Own w 0 t u (F c j)) → (∀ c j b, F c j b → Fresh σ G b ∧ (E.B ≤ b ∨ E.ln b) ∧ b < w.heap.size) →
  (∀ c j c' j' b, F c j b → F c' j' b → c = c' ∧ j = j') → ∃ G', Rel E N (ansSs σ qs) a w G' ∧ (∀ x u, Holds G σ E w x u → Holds G' (ansSs σ qs) E w x u) ∧ (ansLs σ.nx qs).length = qs.length ∧
   (∀ (c : Nat) (ag : Bool) (xs : List Leaf) (us : List Value), (ansLs σ.nx qs)[c]? = some (ag, xs) → uss[c]? = some us → us.length = xs.length ∧ (∃ ts, qs[c]? = some (ag, ts)) ∧ ∀ (j : Nat) (x : Leaf) (u : Value), xs[j]? = some x → us[j]? = some u → Holds G' (ansSs σ qs) E w x u) ∧
   σ.nx ≤ (ansSs σ qs).nx ∧ (∀ i, i < σ.nx → G'.vl i = G.vl i) ∧ G'.β = G.β ∧ ∀ i, σ.nx ≤ i → i < (ansSs σ qs).nx → ∀ b, (G'.vl i).ownBlock = some b → ∃ c j, F c j b
 | [], σ, G, uss, F, h, hl, ho, hF, hd => ⟨G, h, fun x u hx => hx, rfl, fun c ag xs us hc => by simp [ansLs] at hc, Nat.le_refl _, fun _ _ => rfl, rfl, fun i h1 h2 => absurd h2 (Nat.not_lt.2 h1)⟩
 | (ag0, ts) :: qs, σ, G, us :: uss, F, h, hl, ho, hF, hd => by
  obtain ⟨hlen, ho0⟩ := ho 0 ag0 ts us rfl rfl
  obtain ⟨G1, h1, h2, h3, h4, h5, h6, h7, h8, h9, h10, h11⟩ := Rel.addAll ts us (F 0) h hlen ho0 (hF 0) fun i j b hi hj => (hd 0 i 0 j b hi hj).2
  obtain ⟨G2, k1, k2, k3, k4, k5, k6, k7, k8⟩ := Rel.addAlls qs uss (fun c => F (c + 1)) h1 (by simpa using hl) (fun c ag ts us hc hu => ho (c + 1) ag ts us (by simpa using hc) (by simpa using hu))
   (fun c j b hb => ⟨h5 b (hF _ j b hb).1 fun j' hb' => by have := (hd _ _ _ _ b hb hb').1; omega, (hF _ j b hb).2⟩) fun c j c' j' b hb hb' => by have := hd _ _ _ _ b hb hb'; exact ⟨by omega, this.2⟩
  refine ⟨G2, k1, fun x u hx => k2 x u (h6 x u hx), by rw [h3] at k3; simp [ansLs, k3], fun c ag xs vs hc hv => ?_, Nat.le_trans h4 k5, fun i hi => (k6 i (Nat.lt_of_lt_of_le hi h4)).trans (h9 i hi), k7.trans h10, fun i e1 e2 b e3 => ?_⟩
  rotate_left
  ·rcases Nat.lt_or_ge i (ansS σ ts).nx with hi | hi
   ·rw [k6 i hi] at e3
    obtain ⟨j, hj⟩ := h11 i e1 hi b e3
    exact ⟨0, j, hj⟩
   ·obtain ⟨c, j, hj⟩ := k8 i hi e2 b e3
    exact ⟨c + 1, j, hj⟩
  cases c with
  | zero =>
   cases hv
   have hc' : (ag0, (ansL σ.nx ts).1) = (ag, xs) := by simpa [ansLs] using hc
   injection hc' with e1 e2
   subst e1 e2
   exact ⟨hlen.trans h7.symm, ⟨ts, rfl⟩, fun j x u hj hu => k2 x u (h8 j x u hj hu)⟩
  | succ c =>
   have hc' : (ansLs (ansS σ ts).nx qs)[c]? = some (ag, xs) := by rw [h3]; simpa [ansLs] using hc
   obtain ⟨e1, e2, e3⟩ := k4 c ag xs vs hc' (by simpa using hv)
   exact ⟨e1, by obtain ⟨ts', e2⟩ := e2; exact ⟨ts', by simpa using e2⟩, e3⟩
theorem ok_callW {P : Program} {d : Nat} {f : FuncId} {xs : List Operand} {ats : Array TypeId} {qs : List (Bool × List T)} {tup : Bool} {rs : List (Bool × List T)} {ls : List (Bool × List Leaf)} (hk : ansLs σ.nx rs = ls) (ho : o.op = .call { callee := .value (.func f), args := xs.toArray, argTypes := ats }) (hb : ∃ fn c, P.funcs[f]? = some fn ∧ fn.body = some c ∧ fn.name ≠ "runtime.NumGoroutine")
  (hc : ∀ w, Same E E.w0 w → ∀ vs, ArgsIn (Env.of w) w qs vs → Calls P f vs.toArray w (Gives (Env.of w) tup rs)) (hx : σ.argss xs qs) (hd : o.dst = some d) (hdN : d < N) : OpMk P E N none σ o ((ansSs σ rs).put d ⟨tup, ls⟩) :=
 fun a w G K Q h k => by
  subst hk
  obtain ⟨fn, c, h1, h2, h2'⟩ := hb
  have hcall := hc w h.below (xs.map a.eval) (h.args hx)
  have hrun : (execOp a.eval o).run P w = .ok (.enter f (xs.map a.eval).toArray) w := by
   simp [execOp, ho, resolve, Act.eval, Deferred.ofValue, invoke, callFunc, h1, h2, h2', Result.andThen]
  unfold Oper.wp
  rw [hrun]
  refine hcall.mono fun e w' ⟨uss, F, h3, h4, h5, h6, h6', h7'⟩ => ?_
  have h7 : Below w.heap.size w w' := ⟨h7'.os, h7'.tape, h7'.output, h7'.size, fun k hk => h7'.block k (Env.of_old.2 hk)⟩
  subst h4
  have h' := h.ext h7
  obtain ⟨G', k1, k2, k3, k4, k5, k6, k7, k8⟩ := h'.addAlls rs uss F h3 (fun c ag ts us hc hu => ⟨(h5 c ag ts us hc hu).1, fun j t u hj hu' => (h5 c ag ts us hc hu).2 j t u hj hu'⟩) (fun c j b hb => by
   have hbw : w.heap.size ≤ b := (h6' c j b hb).1.elim id fun h => h.elim
   exact ⟨⟨fun i hi hf => by have := (h.ftlt i b hi hf).2; omega, (h.fresh hbw).2⟩, .inl (Nat.le_trans h.low hbw), (h6' c j b hb).2⟩) h6
  rw [hd]
  refine k _ _ _ (k1.put hdN ⟨uss, h3.trans k3.symm, ?_, fun c ag xs us hc hu => ⟨(k4 c ag xs us hc hu).1, (k4 c ag xs us hc hu).2.2⟩⟩) ⟨h7.size, .of_below (h7.mono h.low), k6, fun b _ => by rw [k7], fun b hb => .inl (h7.block b hb), fun i e1 e2 b e3 => by obtain ⟨c, j, hj⟩ := k8 i e1 e2 b e3; exact .inl ((h6' c j b hj).1.elim id fun h => h.elim)⟩
  congr 1
  apply List.ext_getElem?
  intro c
  rw [List.getElem?_zipWith, List.getElem?_zipWith]
  cases hq : (ansLs σ.nx rs)[c]? with
  | none =>
   have : rs[c]? = none := by rw [List.getElem?_eq_none_iff] at hq ⊢; omega
   rw [this]
  | some q =>
   obtain ⟨ag, xs'⟩ := q
   have hcl : c < uss.length := by have := get_lt hq; omega
   obtain ⟨-, ⟨ts, hts⟩, -⟩ := k4 c ag xs' uss[c] hq (List.getElem?_eq_getElem hcl)
   rw [hts, List.getElem?_eq_getElem hcl]
theorem ok_call {P : Program} {d : Nat} {f : FuncId} {xs : List Operand} {ats : Array TypeId} {qs : List (Bool × List T)} {tup : Bool} {rs : List (Bool × List T)} {ls : List (Bool × List Leaf)} (hk : ansLs σ.nx rs = ls) (ho : o.op = .call { callee := .value (.func f), args := xs.toArray, argTypes := ats }) (hb : ∃ fn c, P.funcs[f]? = some fn ∧ fn.body = some c ∧ fn.name ≠ "runtime.NumGoroutine")
  (hc : VC P f qs tup rs) (hx : σ.argss xs qs) (hd : o.dst = some d) (hdN : d < N) : OpMk P E N none σ o ((ansSs σ rs).put d ⟨tup, ls⟩) :=
 ok_callW hk ho hb (fun w _ => hc w) hx hd hdN
/-! ### Literals of slices -/
theorem ok_lit0 {d : Nat} {t ty : TypeId} {n bytes : Nat} {z : Value} (I : ElT t ty n z bytes) {kk : Nat} (hk : σ.nx = kk) (ho : o.op = .buildSlice t 0 #[]) (hd : o.dst = some d) (hdN : d < N) : OpMk Try.prog E N none σ o ((σ.new (.seq ty [])).put d (V.one (.hd kk))) :=
 fun a w G K Q h k => by
  subst hk
  obtain ⟨i0, hi, hz0, hz1, hz2⟩ := info_parts I.inf
  have hrun : (Instr.buildSlice t 0 #[]).run Try.prog w = .ok (.slice (some ⟨w.heap.size, 0, none⟩) 0 0) (w.alloc (.cells #[] ty)) := by
   simp [Instr.buildSlice, run_underlying I.und, sizeOf, Lib.rl_info ty i0 hi, Instr.fill, newRow, Result.andThen]
   exact congrArg (fun c => w.alloc (.cells c ty)) (by apply Array.ext <;> simp)
  obtain ⟨G', hG', ⟨hvl, hvls, hβs⟩, -, -⟩ := h.renew [] (fun x hx => by cases hx) (w' := w.alloc (.cells #[] ty)) (t := .seq ty []) (v := .slice (some ⟨w.heap.size, 0, none⟩) 0 0) (F := fun b => b = w.heap.size) (fun _ => False) (.of_below ((Below.refl _ _).alloc h.low _)) (fun k hk _ => Below.heap_alloc _ _ _ hk) (fun b hb => hb.elim)
   (.seq n I.pos I.sz (fun e he => by cases he) [] (Row.of (World.ownsRow_made w #[] 0 (Nat.zero_le _) (Nat.zero_le _) (by simp))) (fun _ _ => False) (fun k e j t u h => by simp at h) (fun u hu => by cases hu) (fun b hb => by cases hb; rfl) (fun q b hb => hb.elim) (fun q b hb => hb.elim) fun q q' b hb => hb.elim)
   ⟨_, _, rfl⟩ fun b hb => ⟨by subst hb; exact ⟨.inl h.low, by simp⟩, .inl (h.fresh (by rw [hb]; exact Nat.le_refl _))⟩
  refine wp_value (v := .slice (some ⟨w.heap.size, 0, none⟩) 0 0) (w' := w.alloc (.cells #[] ty)) ?_ (by rw [hd]; exact k _ _ _ (hG'.put hdN (vone.2 ⟨⟨Nat.lt_succ_self _, hvl.symm⟩, .inr rfl⟩)) ⟨by simp, .of_below ((Below.refl _ _).alloc h.low _), hvls, fun b _ => by rw [hβs], fun b hb => .inl (Below.heap_alloc _ _ _ hb), fun i e1 e2 b e3 => .inl (by
   have hi : i = σ.nx := Nat.le_antisymm (Nat.le_of_lt_succ e2) e1
   rw [hi, hvl] at e3
   rw [← Option.some.inj e3]; exact Nat.le_refl _)⟩)
  simp [execOp, ho, hrun, Result.andThen]
theorem ok_lit1 {d : Nat} {t ty : TypeId} {n bytes : Nat} {z : Value} {x : Operand} {ag : Bool} {xs : List Leaf} {ts : List T} (I : ElT t ty n z bytes) {kk : Nat} (hk : σ.nx = kk) (ho : o.op = .buildSlice t 1 #[(0, x)]) (hx : σ.ev x = V.flat ag xs) (hl : xs.length = n) (hag : ag = false → n = 1) (ht : σ.outs xs ts) (h2 : xs.Pairwise two) (hd : o.dst = some d) (hdN : d < N) : OpMk Try.prog E N none σ o (((σ.kills xs).new (.seq ty [ts])).put d (V.one (.hd kk))) :=
 fun a w G K Q h k => by
  subst hk
  obtain ⟨i0, hi, hz0, hz1, hz2⟩ := info_parts I.inf
  have hxv := h.ev x
  rw [hx, vflat] at hxv
  obtain ⟨us, h3, h4, h5⟩ := hxv
  obtain ⟨h6, h7⟩ := outs_get ht
  have htl : ts.length = n := by omega
  have hown : ∀ (j : Nat) (t : T) (u : Value), ts[j]? = some t → us[j]? = some u → ∃ x, xs[j]? = some x ∧ Own w 0 t u (x.foot G) := fun j t u hj hu => by
   obtain ⟨y, hy1, hy2⟩ := h7 j t hj
   exact ⟨y, hy1, h.out (h5 j y u hy1 hu) hy2⟩
  have hone : ∀ u ∈ us, u.oneCell' = true := fun u hu => by
   obtain ⟨j, hj, rfl⟩ := List.getElem_of_mem hu
   obtain ⟨y, -, hy⟩ := hown j ts[j] us[j] (List.getElem?_eq_getElem (by omega)) (List.getElem?_eq_getElem hj)
   exact hy.one
  have hcells : (cval ag us).cells = us.toArray := cval_cells fun e => ⟨by rw [h4, hl]; exact hag e, hone⟩
  have hrun : (Instr.buildSlice t 1 #[(0, cval ag us)]).run Try.prog w = .ok (.slice (some ⟨w.heap.size, 0, none⟩) 1 1) (w.alloc (.cells us.toArray ty)) := by
   refine run_buildSlice w t ty 1 _ us.toArray i0 z I.und hi hz0 ?_ ?_ ?_
   ·rw [hz1]
    have := I.few
    omega
   ·rw [hz1]; have := I.pos; omega
   ·obtain ⟨r, hr1, hr2, hr3⟩ := Great.fill_dense (s := i0.size) (by rw [hz1]; exact I.pos) [cval ag us] 0 ((Array.range (1 * i0.size)).map (z.cells[· % z.cells.size]!)) (fun v hv => by rw [List.mem_singleton.1 hv, hcells, hz1]; simp [h4, hl]) (by simp)
    have e : r = us.toArray := by
     apply Array.ext_getElem?
     intro q
     rw [hr3 q]
     rcases Nat.lt_or_ge q i0.size with hq | hq
     ·rw [if_pos ⟨by omega, by simp; exact hq⟩]
      simp [Nat.div_eq_of_lt hq, Nat.mod_eq_of_lt hq, hcells]
     ·rw [if_neg (by simp; omega)]
      have h8 : us.toArray[q]? = none := by simp; omega
      rw [h8, Array.getElem?_eq_none (by simp; omega)]
    rw [← e]
    simpa using hr1
  have hfoot : ∀ (j : Nat) (b : Nat), (∃ y, xs[j]? = some y ∧ y.foot G b) → (E.B ≤ b ∨ E.ln b) ∧ b < w.heap.size := fun j b ⟨y, hy, hb⟩ => by
   cases y with
   | hd i =>
    have hjt : j < ts.length := by rw [← h6]; exact get_lt hy
    obtain ⟨y', hy1, hy2⟩ := h7 j ts[j] (List.getElem?_eq_getElem hjt)
    rw [hy] at hy1
    cases hy1
    obtain ⟨p, e1, -⟩ := Option.map_eq_some_iff.1 hy2
    exact h.ftlt i b (by rw [e1]; simp) hb
   | _ => exact hb.elim
  obtain ⟨G', hG', ⟨hvl, hvls, hβs⟩, -, -⟩ := h.renew xs (fun y hy => by
    obtain ⟨j, hj, rfl⟩ := List.getElem_of_mem hy
    obtain ⟨y', hy1, hy2⟩ := h7 j ts[j] (List.getElem?_eq_getElem (by omega))
    rw [List.getElem?_eq_getElem hj] at hy1
    exact ⟨_, by rw [Option.some.inj hy1]; exact hy2⟩) (w' := w.alloc (.cells us.toArray ty)) (t := .seq ty [ts]) (v := .slice (some ⟨w.heap.size, 0, none⟩) 1 1) (F := fun b => b = w.heap.size ∨ ∃ j y, xs[j]? = some y ∧ y.foot G b) (fun _ => False) (.of_below ((Below.refl _ _).alloc h.low _)) (fun k hk _ => Below.heap_alloc _ _ _ hk) (fun b hb => hb.elim)
   (.seq n I.pos I.sz (fun e he => by rw [List.mem_singleton.1 he]; exact htl) us ⟨by simp [h4, hl],   .inr ⟨w.heap.size, 0, 1, us.toArray, rfl, Nat.zero_le _, heap_alloc_new _ _, Nat.le_refl _, by unfold maxLen; omega, by simp [h4, hl], by rw [List.length_singleton, Nat.one_mul, List.drop_zero]; exact List.take_of_length_le (by simp; omega)⟩⟩ (fun q b => ∃ y, xs[q]? = some y ∧ y.foot G b) (fun k e j t' u hk hj hu => by
     have hk0 : k = 0 := by have := get_lt hk; simpa using this
     subst hk0
     cases hk
     rw [Nat.zero_mul, Nat.zero_add] at hu ⊢
     obtain ⟨y, hy1, hy2⟩ := hown j t' u hj hu
     exact (hy2.frame fun b hb => Below.heap_alloc _ _ _ (hfoot j b ⟨y, hy1, hb⟩).2).mono fun b hb => ⟨y, hy1, hb⟩) hone (fun b hb => .inl (Option.some.inj hb).symm) (fun q b hb => .inr ⟨q, hb⟩) (fun q b hb e => by
     have := (hfoot q b hb).2
     have := Option.some.inj e
     simp at this
     omega) fun q q' b hb hb' => by
     obtain ⟨y, hy1, hy2⟩ := hb
     obtain ⟨y', hy1', hy2'⟩ := hb'
     cases y with
     | hd i =>
      cases y' with
      | hd i' =>
       by_cases hii : i = i'
       ·subst hii
        have hq := get_lt hy1
        have hq' := get_lt hy1'
        rcases Nat.lt_trichotomy q q' with hlt | hlt | hlt
        ·have := (List.pairwise_iff_getElem.1 h2) q q' hq hq' hlt i (by rw [List.getElem?_eq_getElem hq] at hy1; exact Option.some.inj hy1)
         rw [List.getElem?_eq_getElem hq'] at hy1'
         exact absurd (Option.some.inj hy1') this
        ·exact hlt
        ·have := (List.pairwise_iff_getElem.1 h2) q' q hq' hq hlt i (by rw [List.getElem?_eq_getElem hq'] at hy1'; exact Option.some.inj hy1')
         rw [List.getElem?_eq_getElem hq] at hy1
         exact absurd (Option.some.inj hy1) this
       ·have hlive : ∀ (q i : Nat), xs[q]? = some (Leaf.hd i) → σ.ob i ≠ none := fun q i hy => by
         have hqt : q < ts.length := by rw [← h6]; exact get_lt hy
         obtain ⟨y', hy1, hy2⟩ := h7 q ts[q] (List.getElem?_eq_getElem hqt)
         have e0 : Leaf.hd i = y' := by rw [hy] at hy1; exact Option.some.inj hy1
         rw [← e0] at hy2
         obtain ⟨p, e1, -⟩ := Option.map_eq_some_iff.1 hy2
         rw [e1]; simp
        exact (h.disj i i' b (hlive q i hy1) (hlive q' i' hy1') hii hy2 hy2').elim
      | _ => exact hy2'.elim
     | _ => exact hy2.elim)
   ⟨_, _, rfl⟩ fun b hb => by
    rcases hb with rfl | ⟨j, y, hy1, hy2⟩
    ·exact ⟨⟨.inl h.low, by simp⟩, .inl (h.fresh (Nat.le_refl _))⟩
    ·have := hfoot j b ⟨y, hy1, hy2⟩
     exact ⟨⟨this.1, by simp; omega⟩, .inr ⟨y, get_mem hy1, hy2⟩⟩
  refine wp_value (v := .slice (some ⟨w.heap.size, 0, none⟩) 1 1) (w' := w.alloc (.cells us.toArray ty)) ?_ (by rw [hd]; exact k _ _ _ (hG'.put hdN (vone.2 ⟨⟨Nat.lt_succ_self _, hvl.symm⟩, .inr rfl⟩)) ⟨by simp, .of_below ((Below.refl _ _).alloc h.low _), hvls, fun b _ => by rw [hβs], fun b hb => .inl (Below.heap_alloc _ _ _ hb), fun i e1 e2 b e3 => .inl (by
   have hi : i = σ.nx := Nat.le_antisymm (Nat.le_of_lt_succ e2) e1
   rw [hi, hvl] at e3
   rw [← Option.some.inj e3]; exact Nat.le_refl _)⟩)
  simp [execOp, ho, h3, hrun, Result.andThen]
end Go.Proofs.Ytpnbnbhifpcelaa.V
/- A region that draws its order, walked once along a plan: operations that yield one value in every world that is kept (loads, addresses, arithmetic) as soon as they may come up, the operations that make or write memory one behind the other; the last ones may write what the loads have read. No function of the program. -/
namespace Go.Proofs.Ytpnbnbhifpcelaa
open Go
inductive PStep where
 | q (i : Nat)
 | m (i : Nat)
inductive Pl where
 | nil
 | q (i : Nat) (ps : Pl)
 | m (i : Nat) (ps : Pl)
 | alt (i : Nat) (ps1 : Pl) (j : Nat) (ps2 : Pl)
def Pl.of : List PStep → Pl
 | [] => .nil
 | .q i :: ps => .q i (Pl.of ps)
 | .m i :: ps => .m i (Pl.of ps)
def Pl.len : Pl → Nat
 | .nil => 0
 | .q _ ps => ps.len + 1
 | .m _ ps => ps.len + 1
 | .alt _ ps1 _ _ => ps1.len + 1
section
variable {P : Program} {ops : Array Oper} {Q : Exit → Act → World → Prop} {md : Region.Mode} {S : World → Prop}
def wpAnyP (P : Program) (md : Region.Mode) (ops : Array Oper) (Q : Exit → Act → World → Prop) (S : World → Prop) (late : Nat → Bool) : Nat → Array Bool → Act → World → Prop
 | 0, listed, a, w => Region.ready md ops listed = [] ∧ Q .normal a w
 | fuel + 1, listed, a, w =>
  (Region.ready md ops listed = [] → Q .normal a w) ∧
  ∀ i ∈ Region.ready md ops listed, wpOp P ops Q i (fun a' w' => (late i = false → S w') ∧ wpAnyP P md ops Q S late fuel (listed.setIfInBounds i true) a' w') a w
theorem wpAny_of_P {late : Nat → Bool} : ∀ (fuel : Nat) (listed : Array Bool) (a : Act) (w : World), wpAnyP P md ops Q S late fuel listed a w → wpAny P md ops Q fuel listed a w
 | 0, _, _, _, h => h
 | fuel + 1, _, _, _, h => ⟨h.1, fun i hi => wpOp_mono (fun a' w' h' => wpAny_of_P fuel _ a' w' h'.2) (h.2 i hi)⟩
def waiters (md : Region.Mode) (ops : Array Oper) (i : Nat) : Array Bool :=
 (List.range ops.size).foldl (fun D k => D.push (match ops[k]? with | some o => o.after.any (fun e => Region.binds md e && (e.on == i || D.getD e.on false)) | none => false)) #[]
def lateB (md : Region.Mode) (ops : Array Oper) (late : Nat → Bool) (listed : Array Bool) (i : Nat) : Bool :=
 (List.range ops.size).all fun d => (!late d || (waiters md ops i).getD d false) && (!(waiters md ops i).getD d false ||
  (!listed.getD d false && (match ops[d]? with | some o => o.after.any (fun e => Region.binds md e && (e.on == i || ((waiters md ops i).getD e.on false && decide (e.on < ops.size)))) | none => false)))
theorem not_waiting {D : Nat → Bool} {i j : Nat} {listed : Array Bool} (hi : listed.getD i false = false) (hD : ∀ d, d < ops.size → D d = true → listed.getD d false = false ∧ ∃ o, ops[d]? = some o ∧ ∃ e ∈ o.after, Region.binds md e = true ∧ (e.on = i ∨ (D e.on = true ∧ e.on < ops.size)))
  (hj : j ∈ Region.ready md ops listed) : D j = false := by
 cases h : D j with
 | false => rfl
 | true =>
  obtain ⟨-, oj, hoj, hall⟩ := mem_ready.1 hj
  have hjl : j < ops.size := (Array.getElem?_eq_some_iff.1 hoj).1
  obtain ⟨-, o, ho, e, he, hb, hor⟩ := hD j hjl h
  rw [hoj] at ho
  cases ho
  have h1 := hall e he hb
  have h2 : listed.getD e.on false = false := by
   rcases hor with rfl | ⟨h3, h4⟩
   ·exact hi
   ·exact (hD _ h4 h3).1
  rw [h2] at h1
  cases h1
theorem wpAnyP_first {late D : Nat → Bool} {i : Nat} {oi : Oper} {v : Value} (hi : ops[i]? = some oi) (hsel : ∀ (j : Nat) (o : Oper) cs b, ops[j]? = some o → o.op ≠ .select cs b)
  (hQ : ∀ c a w, Q (.panic c) (a.put oi.dst v) w → Q (.panic c) a w) (hlate : ∀ d, d < ops.size → late d = true → D d = true) (hDi : D i = false) :
  ∀ (fuel : Nat) (listed : Array Bool) (a : Act) (w : World),
   (∀ j oj, ops[j]? = some oj → j ≠ i → listed.getD j true = false → (∀ e ∈ oj.after, Region.binds md e = true → e.on ≠ i) → oi.apart ops oj = true) →
   (∀ d, d < ops.size → D d = true → listed.getD d false = false ∧ ∃ o, ops[d]? = some o ∧ ∃ e ∈ o.after, Region.binds md e = true ∧ (e.on = i ∨ (D e.on = true ∧ e.on < ops.size))) →
   i ∈ Region.ready md ops listed → YieldsIf P ops S oi v a → S w →
   wpAnyP P md ops Q S late fuel (listed.setIfInBounds i true) (a.put oi.dst v) w → wpAnyP P md ops Q S late (fuel + 1) listed a w := by
 intro fuel
 induction fuel with
 | zero =>
  intro listed a w _ hD hr hy hS H
  refine ⟨fun h => (by rw [h] at hr; cases hr), fun j hj => ?_⟩
  by_cases hji : j = i
  ·subst hji; exact hy.wpOp hi hS ⟨fun _ => hS, H⟩
  ·have := ready_mono hj hji
   rw [H.1] at this
   cases this
 | succ fuel ih =>
  intro listed a w hfree hD hr hy hS H
  refine ⟨fun h => (by rw [h] at hr; cases hr), fun j hj => ?_⟩
  by_cases hji : j = i
  ·subst hji; exact hy.wpOp hi hS ⟨fun _ => hS, H⟩
  ·have h1 := H.2 j (ready_mono hj hji)
   obtain ⟨hjun, oj, hoj, hall⟩ := mem_ready.1 hj
   have hiu : listed.getD i false = false := by
    have h0 := (mem_ready.1 hr).1
    rcases Nat.lt_or_ge i listed.size with h' | h'
    ·simp [h'] at h0 ⊢; exact h0
    ·simp [Array.getElem?_eq_none h'] at h0 ⊢
   have hnot : ∀ e ∈ oj.after, Region.binds md e = true → e.on ≠ i := fun e he hb heq => by
    have h1 := hall e he hb
    rw [heq, hiu] at h1
    cases h1
   have hDj := not_waiting hiu hD hj
   have hjl : j < ops.size := (Array.getElem?_eq_some_iff.1 hoj).1
   have hlj : late j = false := by
    cases h : late j with
    | false => rfl
    | true => rw [hlate j hjl h] at hDj; cases hDj
   have h2 := wpOp_putIf hoj (hfree j oj hoj hji hjun hnot) (fun cs b => hsel i oi cs b hi) (fun cs b => hsel j oj cs b hoj) hQ hy h1
   have hfree' : ∀ k ok, ops[k]? = some ok → k ≠ i → (listed.setIfInBounds j true).getD k true = false →
     (∀ e ∈ ok.after, Region.binds md e = true → e.on ≠ i) → oi.apart ops ok = true := fun k ok hk hki hun hno => by
    refine hfree k ok hk hki ?_ hno
    by_cases hjk : j = k
    ·subst hjk; exact hjun
    ·rw [getD_set_ne true hjk] at hun; exact hun
   have hD' : ∀ d, d < ops.size → D d = true → (listed.setIfInBounds j true).getD d false = false ∧ ∃ o, ops[d]? = some o ∧ ∃ e ∈ o.after, Region.binds md e = true ∧ (e.on = i ∨ (D e.on = true ∧ e.on < ops.size)) := fun d hd h => by
    have hne : j ≠ d := fun e => by rw [e, h] at hDj; cases hDj
    rw [getD_set_ne false hne]
    exact hD d hd h
   refine wpOp_mono (fun a' w' h3 => ⟨h3.2.1, ih (listed.setIfInBounds j true) a' w' hfree' hD' (ready_mono hr (Ne.symm hji)) h3.1 (h3.2.1 hlj) ?_⟩) h2
   rw [Array.setIfInBounds_comm _ _ hji]
   exact h3.2.2
/-! ### The walk along a plan -/
def wpZ (P : Program) (ops : Array Oper) (Q : Exit → Act → World → Prop) : List Nat → Act → World → Prop
 | [], a, w => Q .normal a w
 | i :: zs, a, w => wpOp P ops Q i (wpZ P ops Q zs) a w
def wpPi (P : Program) (ops : Array Oper) (Q : Exit → Act → World → Prop) (S : World → Prop) (zs : List Nat) : Pl → Act → World → Prop
 | .nil, a, w => wpZ P ops Q zs a w
 | .q i ps, a, w => ∃ o v, ops[i]? = some o ∧ (∀ c a w, Q (.panic c) (a.put o.dst v) w → Q (.panic c) a w) ∧ YieldsIf P ops S o v a ∧ wpPi P ops Q S zs ps (a.put o.dst v) w
 | .m i ps, a, w => wpOp P ops Q i (fun a' w' => S w' ∧ (S w' → wpPi P ops Q S zs ps a' w')) a w
 | .alt i ps1 j ps2, a, w => wpOp P ops Q i (fun a' w' => S w' ∧ (S w' → wpPi P ops Q S zs ps1 a' w')) a w ∧ wpOp P ops Q j (fun a' w' => S w' ∧ (S w' → wpPi P ops Q S zs ps2 a' w')) a w
def planZ (md : Region.Mode) (ops : Array Oper) : List Nat → Array Bool → Bool
 | [], listed => (Region.ready md ops listed).isEmpty
 | i :: zs, listed => decide (Region.ready md ops listed = [i]) && planZ md ops zs (listed.setIfInBounds i true)
def planP (md : Region.Mode) (ops : Array Oper) (zs : List Nat) : Pl → Array Bool → Bool
 | .nil, listed => planZ md ops zs listed
 | .q i ps, listed => (Region.ready md ops listed).contains i && Region.free md ops listed i && lateB md ops (fun d => zs.contains d) listed i && !(waiters md ops i).getD i false && planP md ops zs ps (listed.setIfInBounds i true)
 | .m i ps, listed => decide (Region.ready md ops listed = [i]) && !zs.contains i && planP md ops zs ps (listed.setIfInBounds i true)
 | .alt i ps1 j ps2, listed => decide (Region.ready md ops listed = [i, j]) && !zs.contains i && !zs.contains j && decide (ps1.len = ps2.len) && planP md ops zs ps1 (listed.setIfInBounds i true) && planP md ops zs ps2 (listed.setIfInBounds j true)
def planB (md : Region.Mode) (ops : Array Oper) (ps : Pl) (zs : List Nat) : Bool := Region.noSelect ops && decide (ps.len + zs.length = ops.size) && planP md ops zs ps (Array.replicate ops.size false)
theorem wpAnyP_of_z {late : Nat → Bool} : ∀ (zs : List Nat) (listed : Array Bool) (a : Act) (w : World), (∀ i ∈ zs, late i = true) → planZ md ops zs listed = true → wpZ P ops Q zs a w → wpAnyP P md ops Q S late zs.length listed a w
 | [], _, _, _, _, hp, h => ⟨by simpa [planZ] using hp, h⟩
 | i :: zs, listed, a, w, hl, hp, h => by
  simp only [planZ, Bool.and_eq_true, decide_eq_true_eq] at hp
  refine ⟨fun h0 => (by rw [hp.1] at h0; cases h0), fun j hj => ?_⟩
  rw [hp.1] at hj
  obtain rfl := List.mem_singleton.1 hj
  exact wpOp_mono (fun a' w' h' => ⟨fun h => (by rw [hl _ (List.mem_cons_self ..)] at h; cases h), wpAnyP_of_z zs _ a' w' (fun k hk => hl k (List.mem_cons_of_mem _ hk)) hp.2 h'⟩) h
theorem wpAnyP_of_pi {zs : List Nat} (hs : Region.noSelect ops = true) : ∀ (ps : Pl) (listed : Array Bool) (a : Act) (w : World), planP md ops zs ps listed = true → S w → wpPi P ops Q S zs ps a w → wpAnyP P md ops Q S (fun d => zs.contains d) (ps.len + zs.length) listed a w
 | .nil, listed, a, w, hp, _, h => by
  rw [Pl.len, Nat.zero_add]
  exact wpAnyP_of_z zs listed a w (fun i hi => by simpa using hi) hp h
 | .q i ps, listed, a, w, hp, hS, h => by
  simp only [planP, Bool.and_eq_true, Bool.not_eq_true'] at hp
  obtain ⟨⟨⟨⟨hr, hf⟩, hl⟩, hw⟩, hp⟩ := hp
  obtain ⟨o, v, ho, hQ, hy, h⟩ := h
  unfold lateB at hl
  rw [List.all_eq_true] at hl
  rw [Pl.len, Nat.add_right_comm]
  refine wpAnyP_first (D := fun d => (waiters md ops i).getD d false) ho (Region.noSelect_spec hs) hQ (fun d hd hl2 => ?_) hw _ _ _ _ (Region.free_spec ho hf) (fun d hd hD => ?_) (by simpa using hr) hy hS (wpAnyP_of_pi hs ps _ _ _ hp hS h)
  ·have := hl d (List.mem_range.2 hd)
   rw [Bool.and_eq_true] at this
   have h3 := this.1
   rw [Bool.or_eq_true] at h3
   rcases h3 with h1 | h1
   ·have h4 : (!zs.contains d) = true := h1; rw [show zs.contains d = true from hl2] at h4; cases h4
   ·exact h1
  ·have := hl d (List.mem_range.2 hd)
   rw [Bool.and_eq_true] at this
   have h3 := this.2
   rw [Bool.or_eq_true] at h3
   rcases h3 with h1 | h1
   ·rw [show (waiters md ops i).getD d false = true from hD] at h1; cases h1
   ·rw [Bool.and_eq_true, Bool.not_eq_true'] at h1
    refine ⟨h1.1, ?_⟩
    have h2 := h1.2
    split at h2
    ·rename_i o' ho'
     rw [Array.any_eq_true] at h2
     obtain ⟨k, hk, he⟩ := h2
     rw [Bool.and_eq_true, Bool.or_eq_true, Bool.and_eq_true, decide_eq_true_eq] at he
     exact ⟨o', ho', o'.after[k], Array.getElem_mem hk, he.1, he.2.imp (fun h => by simpa using h) id⟩
    ·cases h2
 | .m i ps, listed, a, w, hp, hS, h => by
  simp only [planP, Bool.and_eq_true, decide_eq_true_eq] at hp
  obtain ⟨⟨hr, hz⟩, hp⟩ := hp
  rw [Pl.len, Nat.add_right_comm]
  refine ⟨fun h0 => (by rw [hr] at h0; cases h0), fun j hj => ?_⟩
  rw [hr] at hj
  obtain rfl := List.mem_singleton.1 hj
  exact wpOp_mono (fun a' w' h' => ⟨fun _ => h'.1, wpAnyP_of_pi hs ps _ a' w' hp h'.1 (h'.2 h'.1)⟩) h
 | .alt i ps1 j ps2, listed, a, w, hp, hS, h => by
  simp only [planP, Bool.and_eq_true, decide_eq_true_eq] at hp
  obtain ⟨⟨⟨⟨⟨hr, hz1⟩, hz2⟩, hl⟩, hp1⟩, hp2⟩ := hp
  rw [Pl.len, Nat.add_right_comm]
  refine ⟨fun h0 => (by rw [hr] at h0; cases h0), fun k hk => ?_⟩
  rw [hr] at hk
  rcases List.mem_cons.1 hk with rfl | hk
  ·exact wpOp_mono (fun a' w' h' => ⟨fun _ => h'.1, wpAnyP_of_pi hs ps1 _ a' w' hp1 h'.1 (h'.2 h'.1)⟩) h.1
  ·obtain rfl := List.mem_singleton.1 hk
   rw [hl]
   exact wpOp_mono (fun a' w' h' => ⟨fun _ => h'.1, wpAnyP_of_pi hs ps2 _ a' w' hp2 h'.1 (h'.2 h'.1)⟩) h.2
theorem region_plan {id : Nat} {a : Act} {w : World} (S : World → Prop) (ps : Pl) (zs : List Nat) (hm : P.follows .mixedOrders = true) (hB : planB .any ops ps zs = true) (hS : S w.drew) (h : S w.drew → wpPi P ops Q S zs ps a w.drew) : (Code.region id ops true).wp P Q a w := by
 simp only [planB, Bool.and_eq_true, decide_eq_true_eq] at hB
 obtain ⟨⟨h1, h2⟩, h3⟩ := hB
 refine wp_region_any hm (wpAny_of_P (S := S) (late := fun d => zs.contains d) _ _ _ _ ?_)
 rw [← h2]
 rw [← h2] at h3
 exact wpAnyP_of_pi h1 ps _ a w.drew h3 hS (h hS)
/-! ### Its moves -/
def nthO : List Oper → Nat → Option Oper
 | [], _ => none
 | o :: _, 0 => some o
 | _ :: l, n + 1 => nthO l n
theorem nthO_eq : ∀ (l : List Oper) (i : Nat), l.toArray[i]? = nthO l i
 | [], _ => by simp [nthO]
 | o :: l, 0 => by simp [nthO]
 | o :: l, n + 1 => by
  have := nthO_eq l n
  simpa [nthO] using this
variable {l : List Oper} {zs : List Nat} {ps ps1 ps2 : Pl} {a : Act} {w : World} {i : Nat} {o : Oper}
theorem pi_take {v : Value} (ho : nthO l i = some o) (hQ : ∀ c a w, Q (.panic c) (a.put o.dst v) w → Q (.panic c) a w) (hw : Region.wanted o (yielded l.toArray a.tmps) = true) (hy : ∀ w, S w → (execOp a.eval o).run P w = .ok (.value v) w)
  (h : wpPi P l.toArray Q S zs ps (a.put o.dst v) w) : wpPi P l.toArray Q S zs (.q i ps) a w := ⟨o, v, (nthO_eq l i).trans ho, hQ, .inl ⟨hw, hy⟩, h⟩
theorem pi_pass (ho : nthO l i = some o) (hQ : ∀ c a w, Q (.panic c) (a.put o.dst undef) w → Q (.panic c) a w) (hw : Region.wanted o (yielded l.toArray a.tmps) = false) (h : wpPi P l.toArray Q S zs ps (a.put o.dst undef) w) : wpPi P l.toArray Q S zs (.q i ps) a w :=
 ⟨o, undef, (nthO_eq l i).trans ho, hQ, .inr ⟨hw, rfl⟩, h⟩
theorem pi_step (ho : nthO l i = some o) (h : ∀ K' : Act → World → Prop, Shut (∀ a w, S w → (S w → wpPi P l.toArray Q S zs ps a w) → K' a w) → if Region.wanted o (yielded l.toArray a.tmps) = true then Oper.wp P o a w K' Q else K' (a.put o.dst undef) w) :
  wpPi P l.toArray Q S zs (.m i ps) a w := wpOp_step ((nthO_eq l i).trans ho) fun K' hK => h K' fun a w hS hW => hK a w ⟨hS, hW⟩
theorem pi_end (h : wpZ P l.toArray Q zs a w) : wpPi P l.toArray Q S zs .nil a w := h
theorem z_step (ho : nthO l i = some o) (h : ∀ K' : Act → World → Prop, Shut (∀ a w, wpZ P l.toArray Q zs a w → K' a w) → if Region.wanted o (yielded l.toArray a.tmps) = true then Oper.wp P o a w K' Q else K' (a.put o.dst undef) w) :
  wpZ P l.toArray Q (i :: zs) a w := wpOp_step ((nthO_eq l i).trans ho) h
theorem z_end (h : Q .normal a w) : wpZ P l.toArray Q [] a w := h
end
end Go.Proofs.Ytpnbnbhifpcelaa
/- States told by trees: a region that draws its order, walked along a plan. -/
namespace Go.Proofs.Ytpnbnbhifpcelaa.V
open Go Go.RowKit
set_option linter.unusedVariables false
variable {P : Program} {E : Env} {N : Nat} {σ σ' τ : VS} {o : Oper} {a : Act} {w ws : World} {G Gs : Ghost} {Q : Exit → Act → World → Prop}
structure SameT (E : Env) (τ : VS) (G : Ghost) (ws v : World) : Prop where
 below : Same E ws v
 block : ∀ b, b < ws.heap.size → v.heap[b]? = ws.heap[b]? ∨ ∃ (i ver : Nat) (ty : TypeId) (es : List (List T)) (n : Nat) (cs cs' : Array Value), τ.ob i = some (ver, .seq ty es) ∧ (G.vl i).ownBlock = some b ∧ Sz ty n ∧ ws.heap[b]? = some (.cells cs ty (0, 0)) ∧ v.heap[b]? = some (.cells cs' ty (0, 0)) ∧ cs'.size = cs.size ∧ ∀ q N' c', G.vl i = .slice (some ⟨b, q, none⟩) N' c' → ∀ p, p < es.length * n → cs'[q + p]? = cs[q + p]?
theorem SameT.refl (E : Env) (τ : VS) (G : Ghost) (w : World) : SameT E τ G w w := ⟨Same.refl _ _, fun _ _ => .inl rfl⟩
theorem root_ft (h : Rel E N τ a ws Gs) {i ver b : Nat} {ty : TypeId} {es : List (List T)} (hi : τ.ob i = some (ver, .seq ty es)) (hb : (Gs.vl i).ownBlock = some b) : Gs.ft i b := by
 obtain ⟨-, ho, -⟩ := h.objs i ver _ hi
 cases ho with
 | seq n hp hz hn xs hown Gs hr hone hF hG hne hd => exact hF b hb
theorem SameT.box (h : Rel E N τ a ws Gs) {v : World} (s : SameT E τ Gs ws v) {c : Nat} (hc : c < τ.bs.length) : v.heap[Gs.β c]? = ws.heap[Gs.β c]? := by
 obtain ⟨-, us, h2, -⟩ := h.boxes c _ _ (List.getElem?_eq_getElem hc)
 rcases s.block (Gs.β c) (lt_of_block h2) with h1 | ⟨i, ver, ty, es, n, cs, cs', e1, e2, -⟩
 ·exact h1
 ·exact absurd (root_ft h e1 e2) (h.boxft c i hc (by rw [e1]; simp))
structure Link (E : Env) (N : Nat) (τ : VS) (ws : World) (Gs : Ghost) (fr : List Nat) (cl : Bool) (σ : VS) (w : World) (G : Ghost) : Prop where
 start : ∃ a, Rel E N τ a ws Gs
 same : SameT E τ Gs ws w
 vl : ∀ i, i < τ.nx → G.vl i = Gs.vl i
 β : ∀ b, b < τ.bs.length → G.β b = Gs.β b
 nx : τ.nx ≤ σ.nx
 bs : τ.bs.length ≤ σ.bs.length
 fresh : ∀ i ∈ fr, i < σ.nx ∧ ∀ b, (G.vl i).ownBlock = some b → ws.heap.size ≤ b
 clean : cl = true → w = ws ∧ G = Gs ∧ σ.ob = τ.ob
def DW (E : Env) (N : Nat) (τ : VS) (fr : List Nat) (cl : Bool) (σ : VS) (Ψ : World → Ghost → Act → World → Prop) : Prop := ∀ ws Gs a w G, Rel E N σ a w G → Link E N τ ws Gs fr cl σ w G → Ψ ws Gs a w
abbrev SW (E : Env) (τ : VS) (ws : World) (Gs : Ghost) : World → Prop := fun v => SameT E τ Gs ws v
theorem SV.draw {id : Nat} {l : List Oper} (ps : List PStep) (zs : List Nat) (hm : P.follows .mixedOrders = true) (hB : planB .any l.toArray (Pl.of ps) zs = true) (h : DW E N τ [] true τ fun ws Gs a w => wpPi P l.toArray Q (SW E τ ws Gs) zs (Pl.of ps) a w) : SV E N τ ((Code.region id l.toArray true).wp P Q) :=
 fun a w G hr => region_plan (SW E τ w.drew G) (Pl.of ps) zs hm hB (SameT.refl _ _ _ _) fun _ => h w.drew G a w.drew G hr.drew ⟨⟨a, hr.drew⟩, SameT.refl _ _ _ _, fun _ _ => rfl, fun _ _ => rfl, Nat.le_refl _, Nat.le_refl _, fun i hi => (by cases hi), fun _ => ⟨rfl, rfl, rfl⟩⟩
variable {l : List Oper} {zs : List Nat} {ps : Pl} {i d : Nat} {fr : List Nat} {cl : Bool}
theorem Link.put (h : Link E N τ ws Gs fr cl σ w G) {v : V} : Link E N τ ws Gs fr cl (σ.put d v) w G := ⟨h.start, h.same, h.vl, h.β, h.nx, h.bs, h.fresh, h.clean⟩
theorem Link.lite (h : Link E N τ ws Gs fr cl σ w G) {v : World} (s : SameT E τ Gs ws v) : Lite E τ.bs.length G w v := by
 obtain ⟨a, hr⟩ := h.start
 refine ⟨fun b hb => (s.below.block b hb).trans (h.same.below.block b hb).symm, fun c hc => ?_⟩
 rw [h.β c hc]
 exact (SameT.box hr s hc).trans (SameT.box hr h.same hc).symm
theorem DW.q {V' : V} (ho : nthO l i = some o) (h : OpL P E N τ.bs.length σ o V') (hg : o.guard = none) (hd : o.dst = some d) (hdN : d < N) (hQ : ∀ c (a : Act) v w, Q (.panic c) (a.put o.dst v) w → Q (.panic c) a w) (k : DW E N τ fr cl (σ.put d V') fun ws Gs a w => wpPi P l.toArray Q (SW E τ ws Gs) zs ps a w) :
  DW E N τ fr cl σ fun ws Gs a w => wpPi P l.toArray Q (SW E τ ws Gs) zs (.q i ps) a w := fun ws Gs a w G hr hl => by
 obtain ⟨u, h1, h2⟩ := h a w G hr
 refine pi_take (v := u) ho (fun c a w => hQ c a u w) (by simp [Region.wanted, hg]) (fun v hv => h1 v (hl.lite hv)) ?_
 rw [hd]
 exact k ws Gs _ w G (hr.put hdN h2) hl.put
theorem DW.el' {m : Nat} {ty : TypeId} {x : Operand} {j k' n o' : Nat} {ag : Bool} {es : List T} {ys : List Leaf} (hn : nthO l i = some o) (ho : o.op = .load ty x) (hx : σ.ev x = V.one (.ep j k' n o')) (hc : σ.cells (.ep j k' n o') = some es) (hag : ∀ w, (isAgg ty).run Try.prog w = .ok ag w) (hm : Sz ty m) (h1 : ag = false → m = 1) (hml : m ≤ es.length)
  (hy : (List.range m).map (fun q => match es[q]? with | some t => σ.cellLeaf (.ep j k' n o') q t | none => .dead) = ys) (hw : ∀ {a w G}, Rel E N σ a w G → Region.wanted o (yielded l.toArray a.tmps) = true) (hd : o.dst = some d) (hdN : d < N) (hQ : ∀ c (a : Act) v w, Q (.panic c) (a.put o.dst v) w → Q (.panic c) a w) (k : DW E N τ fr true (σ.put d (V.flat ag ys)) fun ws Gs a w => wpPi Try.prog l.toArray Q (SW E τ ws Gs) zs ps a w) :
  DW E N τ fr true σ fun ws Gs a w => wpPi Try.prog l.toArray Q (SW E τ ws Gs) zs (.q i ps) a w := fun ws Gs a w G hr hl => by
 obtain ⟨rfl, rfl, hob⟩ := hl.clean rfl
 obtain ⟨u, b, q, h2, h3, h4⟩ := load_el ho hx hc hag hm h1 hml hy hr
 refine pi_take (v := u) hn (fun c a w => hQ c a u w) (hw hr) (fun v hv => h3 v fun p y hp hcell => ?_) ?_
 ·-- the cell lies among the object's
  have h5 := hr.ev x
  rw [hx, vone] at h5
  obtain ⟨⟨-, g, q0, M, c, h6, h7⟩, -⟩ := h5
  rw [h2] at h7
  injection h7 with h7
  injection h7 with h7
  injection h7 with h7 h8
  subst h7 h8
  obtain ⟨⟨ver, s⟩, e1, e2⟩ := Option.bind_eq_some_iff.1 hc
  obtain ⟨-, hown, ty', fs, hs⟩ := hr.objs j ver s e1
  have hs' : s = .seq ty' fs := hs
  subst hs'
  obtain ⟨e, he, e3⟩ := Option.bind_eq_some_iff.1 e2
  have hen : e.length = n := by
   cases hb : Nat.beq e.length n with
   | true => exact Nat.eq_of_beq_eq_true hb
   | false => simp only [hb] at e3; cases e3
  have hed : e.drop o' = es := by
   have hb : Nat.beq e.length n = true := by rw [hen]; exact Nat.beq_refl n
   simpa [hb] using e3
  have hlen : o' + p < n := by
   have : (e.drop o').length = es.length := by rw [hed]
   rw [List.length_drop, hen] at this
   omega
  rcases hv.block b (lt_blk hcell) with h9 | ⟨i2, v2, ty2, es2, n2, cs, cs', f1, f2, f3, f4, f5, f6, f7⟩
  ·exact (World.cell?_of_block h9).trans hcell
  ·have hji : j = i2 := by
    rcases Nat.decEq j i2 with hne | hne
    ·exfalso
     obtain ⟨ar, hrs⟩ := hl.start
     exact hrs.disj j i2 b (by rw [← hob, e1]; simp) (by rw [f1]; simp) hne (root_ft hrs (by rw [← hob]; exact e1) (by rw [h6]; rfl)) (root_ft hrs f1 f2)
    ·exact hne
   subst hji
   rw [← hob, e1] at f1
   cases f1
   cases hown with
   | seq n3 hp3 hz3 hn3 xs hown3 Gs3 hr3 hone3 hF3 hG3 hne3 hd3 =>
    have hnn : n2 = n := (f3.eq hz3).trans ((hn3 e (get_mem he)).symm.trans hen)
    subst hnn
    have hlt : k' * n2 + o' + p < fs.length * n2 := by
     have := at_lt (get_lt he) hlen
     rw [Nat.add_assoc]; exact this
    rw [cell_of_row _ _ _ _ _ _ f4] at hcell
    rw [cell_of_row _ _ _ _ _ _ f5]
    have g1 := f7 q0 M c h6 (k' * n2 + o' + p) hlt
    have e9 : q0 + k' * n2 + o' + p = q0 + (k' * n2 + o' + p) := by omega
    rw [e9] at hcell ⊢
    exact g1.trans hcell
 ·rw [hd]
  exact k _ _ _ _ _ (hr.put hdN h4) hl.put
theorem DW.el {m : Nat} {ty : TypeId} {x : Operand} {j k' n o' : Nat} {ag : Bool} {es : List T} {ys : List Leaf} (hn : nthO l i = some o) (ho : o.op = .load ty x) (hx : σ.ev x = V.one (.ep j k' n o')) (hc : σ.cells (.ep j k' n o') = some es) (hag : ∀ w, (isAgg ty).run Try.prog w = .ok ag w) (hm : Sz ty m) (h1 : ag = false → m = 1) (hml : m ≤ es.length)
  (hy : (List.range m).map (fun q => match es[q]? with | some t => σ.cellLeaf (.ep j k' n o') q t | none => .dead) = ys) (hg : o.guard = none) (hd : o.dst = some d) (hdN : d < N) (hQ : ∀ c (a : Act) v w, Q (.panic c) (a.put o.dst v) w → Q (.panic c) a w) (k : DW E N τ fr true (σ.put d (V.flat ag ys)) fun ws Gs a w => wpPi Try.prog l.toArray Q (SW E τ ws Gs) zs ps a w) :
  DW E N τ fr true σ fun ws Gs a w => wpPi Try.prog l.toArray Q (SW E τ ws Gs) zs (.q i ps) a w :=
 DW.el' hn ho hx hc hag hm h1 hml hy (fun _ => by simp [Region.wanted, hg]) hd hdN hQ k
theorem DW.m' {c : Option Nat} (fr' : List Nat) (ho : nthO l i = some o) (h : OpMk P E N c σ o σ') (hw : ∀ {a w G}, Rel E N σ a w G → Region.wanted o (yielded l.toArray a.tmps) = true) (hbs : σ.bs.length ≤ σ'.bs.length) (hnx : σ.nx ≤ σ'.nx) (hc : c = none ∨ ∃ j, c = some j ∧ (j ∈ fr ∨ (j < τ.nx ∧ σ.ob j = τ.ob j))) (hfr : ∀ j ∈ fr', (j ∈ fr) ∨ (σ.nx ≤ j ∧ j < σ'.nx ∧ (c = none ∨ ∃ q, c = some q ∧ q ∈ fr)))
  (k : DW E N τ fr' false σ' fun ws Gs a w => wpPi P l.toArray Q (SW E τ ws Gs) zs ps a w) : DW E N τ fr cl σ fun ws Gs a w => wpPi P l.toArray Q (SW E τ ws Gs) zs (.m i ps) a w := fun ws Gs a w G hr hl => by
 refine pi_step ho fun K hK => ?_
 rw [if_pos (hw hr)]
 refine h a w G K Q hr fun a' w' G' hr' hm => ?_
 have hsame : SameT E τ Gs ws w' := by
  refine ⟨hl.same.below.trans hm.below, fun b hb => ?_⟩
  have hbw : b < w.heap.size := Nat.lt_of_lt_of_le hb hl.same.below.size
  rcases hm.block b hbw with h1 | ⟨j, v, ty, es, n, cs, cs', e1, e2, e3, e4, e5, e6, e7, e8⟩
  ·rcases hl.same.block b hb with h2 | ⟨i2, v2, ty2, es2, n2, ds, ds', f1, f2, f3, f4, f5, f6, f7⟩
   ·exact .inl (h1.trans h2)
   ·exact .inr ⟨i2, v2, ty2, es2, n2, ds, ds', f1, f2, f3, f4, h1.trans f5, f6, f7⟩
  ·rcases hc with hc | ⟨qq, hq, hc⟩
   ·rw [hc] at e1; cases e1
   ·have hqj : qq = j := Option.some.inj (hq.symm.trans e1)
    subst hqj
    rcases hc with hc | ⟨hc1, hc2⟩
    ·have := (hl.fresh qq hc).2 b e3
     omega
    ·have e2' : τ.ob qq = some (v, .seq ty es) := by rw [← hc2]; exact e2
     have e3' : (Gs.vl qq).ownBlock = some b := by rw [← hl.vl qq hc1]; exact e3
     rcases hl.same.block b hb with h2 | ⟨i2, v2, ty2, es2, n2, ds, ds', f1, f2, f3, f4, f5, f6, f7⟩
     ·exact .inr ⟨qq, v, ty, es, n, cs, cs', e2', e3', e4, h2.symm.trans e5, e6, e7, fun q N' c' hv => e8 q N' c' (by rw [hl.vl qq hc1]; exact hv)⟩
     ·have hqi : qq = i2 := by
       rcases Nat.decEq qq i2 with hne | hne
       ·exfalso
        obtain ⟨ar, hrs⟩ := hl.start
        exact hrs.disj qq i2 b (by rw [e2']; simp) (by rw [f1]; simp) hne (root_ft hrs e2' e3') (root_ft hrs f1 f2)
       ·exact hne
      subst hqi
      rw [e2'] at f1
      cases f1
      have hnn := e4.eq f3
      subst hnn
      rw [f5] at e5
      cases e5
      exact .inr ⟨qq, v, ty, es, n, ds, cs', e2', e3', e4, f4, e6, e7.trans f6, fun q N' c' hv p hp => (e8 q N' c' (by rw [hl.vl qq hc1]; exact hv) p hp).trans (f7 q N' c' hv p hp)⟩
 refine hK.out a' w' hsame fun _ => k ws Gs a' w' G' hr' ⟨hl.start, hsame, fun j hj => (hm.vl j (Nat.lt_of_lt_of_le hj hl.nx)).trans (hl.vl j hj), fun b hb => (hm.β b (Nat.lt_of_lt_of_le hb hl.bs)).trans (hl.β b hb), Nat.le_trans hl.nx hnx, Nat.le_trans hl.bs hbs, fun j hj => ?_, fun e => by cases e⟩
 rcases hfr j hj with h1 | ⟨h1, h2, h3⟩
 ·refine ⟨Nat.lt_of_lt_of_le (hl.fresh j h1).1 hnx, fun b hb => (hl.fresh j h1).2 b ?_⟩
  rw [← hm.vl j (hl.fresh j h1).1]; exact hb
 ·refine ⟨h2, fun b hb => ?_⟩
  rcases hm.root j h1 h2 b hb with h4 | ⟨qq, h4, h5⟩
  ·exact Nat.le_trans hl.same.below.size h4
  ·rcases h3 with h3 | ⟨q2, h3, h6⟩
   ·rw [h3] at h4; cases h4
   ·have hqq : q2 = qq := Option.some.inj (h3.symm.trans h4)
    subst hqq
    have h7 := (hl.fresh _ h6)
    exact h7.2 b h5
theorem DW.m {c : Option Nat} (fr' : List Nat) (ho : nthO l i = some o) (h : OpMk P E N c σ o σ') (hg : o.guard = none) (hbs : σ.bs.length ≤ σ'.bs.length) (hnx : σ.nx ≤ σ'.nx) (hc : c = none ∨ ∃ j, c = some j ∧ (j ∈ fr ∨ (j < τ.nx ∧ σ.ob j = τ.ob j))) (hfr : ∀ j ∈ fr', (j ∈ fr) ∨ (σ.nx ≤ j ∧ j < σ'.nx ∧ (c = none ∨ ∃ q, c = some q ∧ q ∈ fr)))
  (k : DW E N τ fr' false σ' fun ws Gs a w => wpPi P l.toArray Q (SW E τ ws Gs) zs ps a w) : DW E N τ fr cl σ fun ws Gs a w => wpPi P l.toArray Q (SW E τ ws Gs) zs (.m i ps) a w :=
 DW.m' fr' ho h (fun _ => by simp [Region.wanted, hg]) hbs hnx hc hfr k
theorem DW.alt {ps1 ps2 : Pl} {j : Nat} (h1 : DW E N τ fr cl σ fun ws Gs a w => wpPi P l.toArray Q (SW E τ ws Gs) zs (.m i ps1) a w) (h2 : DW E N τ fr cl σ fun ws Gs a w => wpPi P l.toArray Q (SW E τ ws Gs) zs (.m j ps2) a w) :
  DW E N τ fr cl σ fun ws Gs a w => wpPi P l.toArray Q (SW E τ ws Gs) zs (.alt i ps1 j ps2) a w := fun ws Gs a w G hr hl => ⟨h1 ws Gs a w G hr hl, h2 ws Gs a w G hr hl⟩
theorem DW.stores (h : SV E N σ (wpZ P l.toArray Q zs)) : DW E N τ fr cl σ fun ws Gs a w => wpPi P l.toArray Q (SW E τ ws Gs) zs .nil a w := fun ws Gs a w G hr hl => pi_end (h a w G hr)
theorem SV.z (ho : nthO l i = some o) (h : OpOk P E N σ o σ') (hg : o.guard = none) (k : SV E N σ' (wpZ P l.toArray Q zs)) : SV E N σ (wpZ P l.toArray Q (i :: zs)) := fun a w G hr => by
 refine z_step ho fun K hK => ?_
 rw [if_pos (by simp [Region.wanted, hg])]
 exact h a w G K Q hr fun a' w' G' hr' => hK.out a' w' (k a' w' G' hr')
theorem SV.zend (h : SV E N σ (Q .normal)) : SV E N σ (wpZ P l.toArray Q []) := fun a w G hr => z_end (h a w G hr)
end Go.Proofs.Ytpnbnbhifpcelaa.V
/- States told by trees: stretches, struct literals, parts of structs, stores into slices, guarded operations. -/
namespace Go.Proofs.Ytpnbnbhifpcelaa.V
open Go Go.RowKit
set_option linter.unusedVariables false
set_option linter.unusedSimpArgs false
variable {P : Program} {E : Env} {N nb : Nat} {σ σ' τ : VS} {o : Oper} {a : Act} {w : World} {G : Ghost} {Q : Exit → Act → World → Prop}
/-! ### Stretches -/
def Leaf.cutTo (σ : VS) (lf : Leaf) (t : T) : Leaf := match lf with
 | .ro _ => .ro t
 | .hd i => match σ.ob i with
  | some (ver, _) => .nd i ver t none
  | none => .dead
 | .nd i ver _ _ => .nd i ver t none
 | _ => .dead
def optEv (σ : VS) (x : Option Operand) (k : Nat) (dflt : Nat) : Prop := match x with
 | none => k = dflt
 | some y => ∃ ki, σ.ev y = V.one (.sc (.int ki (k : Nat)))
theorem cut_inn {ok : Nat → Prop} {ty : TypeId} {es : List (List T)} {l h n : Nat} {ad : Option Addr} {c : Nat} (hi : Inn ok w (.seq ty es) (.slice ad es.length c)) (hlh : l ≤ h) (hh : h ≤ es.length) (hz : Sz ty n) : Inn ok w (.seq ty ((es.take h).drop l)) (.slice (if c = l then ad else ad.map (·.add (l * n))) (h - l) (c - l)) := by
 obtain ⟨ad', c', n', h1, hc, hm, ha0, hp, hz', hn, b, o', us, ha, hb, hcell, hr⟩ := inn_seq hi
 injection h1 with e1 e2 e3
 subst e1 e3
 have hnn := hz'.eq hz
 subst hnn
 have hlen : ((es.take h).drop l).length = h - l := by rw [List.length_drop, List.length_take]; omega
 have hget : ∀ k e, ((es.take h).drop l)[k]? = some e → es[l + k]? = some e := fun k e hk => by
  rw [List.getElem?_drop, List.getElem?_take] at hk
  split at hk
  ·exact hk
  ·cases hk
 rw [← hlen]
 refine .seq n' hp hz' (fun e he => ?_) (by rw [hlen]; omega) (by omega) (fun h0 => ?_) b (o' + l * n') (fun q => us (l * n' + q)) (fun y hy hne => ?_) (fun hne => ?_) (fun k e j t hk hj => ?_) fun k e j t hk hj => ?_
 ·obtain ⟨k, hk, rfl⟩ := List.getElem_of_mem he
  exact hn _ (get_mem (hget k _ (List.getElem?_eq_getElem hk)))
 ·have : ad = none := by
   split at h0
   ·exact h0
   ·cases ad with
    | none => rfl
    | some x => cases h0
  have := ha0 this
  omega
 ·have hes : es ≠ [] := fun e => hne (by rw [e]; simp)
  have hpos : 0 < h - l := by
   rcases Nat.eq_zero_or_pos (h - l) with hq | hq
   ·exact absurd (List.eq_nil_of_length_eq_zero (hlen.trans hq)) hne
   ·exact hq
  rw [if_neg (by omega)] at hy
  cases had : ad with
  | none => rw [had] at hy; cases hy
  | some x =>
   rw [had] at hy
   have hx := ha x had hes
   rw [hx] at hy
   have := Option.some.inj hy
   rw [← this]
   show (⟨b, o', none⟩ : Addr).add (l * n') = _
   rw [Addr.add_lit]
 ·exact hb fun e => hne (by rw [e]; simp)
 ·have := hcell (l + k) e j t (hget k e hk) hj
  rw [Nat.add_mul, Nat.add_assoc (l * n')] at this
  rw [Nat.add_assoc o']
  exact this
 ·have := hr (l + k) e j t (hget k e hk) hj
  rwa [Nat.add_mul, Nat.add_assoc (l * n')] at this
theorem ok_slice {x : Operand} {lo hi : Option Operand} {l h n : Nat} {lf : Leaf} {ty t : TypeId} {es : List (List T)} {yy : Leaf} (hk : lf.cutTo σ (.seq ty ((es.take h).drop l)) = yy) (ho : o.op = .slice t x lo hi none) (hu : Try.prog.underlying t = some (.slice ty)) (hz : Sz ty n) (hx : σ.ev x = V.one lf) (ht : σ.tr lf = some (.seq ty es)) (hlo : optEv σ lo l 0) (hhi : optEv σ hi h es.length) (hlh : l ≤ h) (hh : h ≤ es.length) :
  OpL Try.prog E N nb σ o (V.one yy) :=
 fun a w G hr => by
  subst hk
  have h0 := hr.ev x
  rw [hx, vone] at h0
  have hin := hr.head hx ht
  obtain ⟨ad, c, n', h1, hc, hm, ha0, hp, hz', hn, b, o', us, ha, hb, hcell, hr2⟩ := inn_seq hin
  rw [h1] at hin
  have hnn := hz'.eq hz
  subst hnn
  obtain ⟨inf, hinf, hsz⟩ := hz
  have hcut := cut_inn hin hlh hh hz'
  refine ⟨.slice (if c = l then ad else ad.map (·.add (l * n'))) (h - l) (c - l), fun v' _ => ?_, vone.2 ?_⟩
  ·have e1 : ∀ (x' : Option Operand) (k d : Nat), optEv σ x' k d → (x' = none ∧ k = d) ∨ ∃ y ki, x' = some y ∧ a.eval y = .int ki (k : Nat) := fun x' k d he => by
    cases x' with
    | none => exact .inl ⟨rfl, he⟩
    | some y =>
     obtain ⟨ki, hy⟩ := he
     exact .inr ⟨y, ki, rfl, hr.sc hy⟩
   have hlc : l ≤ c := by omega
   have hhc : h ≤ c := by omega
   rcases e1 lo l 0 hlo with ⟨rfl, rfl⟩ | ⟨y, ki, rfl, hy⟩ <;> rcases e1 hi h es.length hhi with ⟨rfl, rfl⟩ | ⟨y', ki', rfl, hy'⟩ <;>
    simp [execOp, ho, h1, Instr.sliceAt, Instr.slice, Instr.sliceBounds, Instr.sliceBound, asIntOf, run_underlying hu, sizeOf, Lib.rl_info ty inf hinf, hsz, Result.andThen, *]
  ·cases lf with
   | ro s => exact ⟨hcut, .inr rfl⟩
   | hd i =>
    obtain ⟨⟨ver, s⟩, k1, k2⟩ := Option.map_eq_some_iff.1 ht
    have e : Leaf.cutTo σ (.hd i) (.seq ty ((es.take h).drop l)) = .nd i ver (.seq ty ((es.take h).drop l)) none := by
     show (match σ.ob i with | some (ver, _) => Leaf.nd i ver _ none | none => .dead) = _
     rw [k1]
    rw [e]
    exact ⟨⟨h0.1.1, fun v t' hv => by rw [k1] at hv; cases hv; exact Nat.le_refl _, fun _ => ⟨hcut, fun k o e => by cases e⟩⟩, .inr rfl⟩
   | nd i ver s loc => exact ⟨⟨h0.1.1, h0.1.2.1, fun _ => ⟨hcut, fun k o e => by cases e⟩⟩, .inr rfl⟩
   | _ => exact ⟨trivial, .inl rfl⟩
/-! ### Parts of a struct's value -/
/-! ### Struct literals -/
def fillL (pl : Nat → Option (Nat × Nat)) : List Leaf → List (Nat × List Leaf) → Option (List Leaf)
 | cs, [] => some cs
 | cs, (i, v) :: rest => match pl i with
  | none => none
  | some (off, size) => bif (!Nat.beq v.length size) || Nat.blt cs.length (off + v.length) then none else fillL pl (cs.take off ++ v ++ cs.drop (off + v.length)) rest
def Aligned (R : Leaf → Value → Prop) : List (Nat × List Leaf) → List (Nat × Value) → Prop
 | [], [] => True
 | p :: ps, v :: vs => (p.1 = v.1 ∧ v.2.cells.size = p.2.length ∧ ∀ (j : Nat) (x : Leaf) (u : Value), p.2[j]? = some x → v.2.cells[j]? = some u → R x u) ∧ Aligned R ps vs
 | _, _ => False
theorem fill_holds {R : Leaf → Value → Prop} {pl : Nat → Option (Nat × Nat)} : ∀ (ps : List (Nat × List Leaf)) (vs : List (Nat × Value)) (zs : List Leaf) (cells : Array Value) (ys : List Leaf), Aligned R ps vs → cells.size = zs.length → (∀ (j : Nat) (x : Leaf) (u : Value), zs[j]? = some x → cells[j]? = some u → R x u) → fillL pl zs ps = some ys →
  ∃ r, Instr.fill pl cells vs = some r ∧ r.size = ys.length ∧ ∀ (j : Nat) (x : Leaf) (u : Value), ys[j]? = some x → r[j]? = some u → R x u
 | [], [], zs, cells, ys, _, hs, hR, hf => by
  cases hf
  exact ⟨cells, rfl, hs, hR⟩
 | (i, xs) :: ps, (i', v) :: vs, zs, cells, ys, ha, hs, hR, hf => by
  obtain ⟨⟨h1, h2, h3⟩, h4⟩ := ha
  have h1' : i = i' := h1
  subst h1'
  replace h2 : v.cells.size = xs.length := h2
  replace h3 : ∀ (j : Nat) (x : Leaf) (u : Value), xs[j]? = some x → v.cells[j]? = some u → R x u := h3
  unfold fillL at hf
  cases hp : pl i with
  | none => rw [hp] at hf; cases hf
  | some q =>
   obtain ⟨off, size⟩ := q
   rw [hp] at hf
   simp only at hf h2 h3
   cases hb : ((!Nat.beq xs.length size) || Nat.blt zs.length (off + xs.length)) with
   | true => rw [hb] at hf; cases hf
   | false =>
    rw [hb] at hf
    rw [Bool.or_eq_false_iff] at hb
    have e1 : xs.length = size := nbeq.1 (by simpa using hb.1)
    have e2 : ¬ zs.length < off + xs.length := fun hlt => by
     have h9 := hb.2
     rw [show Nat.blt zs.length (off + xs.length) = true from Nat.ble_eq_true_of_le hlt] at h9
     cases h9
    obtain ⟨g1, g2⟩ := Great.foldl_set off v.cells.toList 0 cells
    have hfold : (v.cells.zipIdx.foldl (fun cs (x : Value × Nat) => cs.setIfInBounds (off + x.2) x.1) cells) = ((v.cells.toList.zipIdx 0).foldl (fun cs (x : Value × Nat) => cs.setIfInBounds (off + x.2) x.1) cells) := by
     rw [← Array.foldl_toList, Array.toList_zipIdx]
    obtain ⟨r, k1, k2, k3⟩ := fill_holds ps vs (zs.take off ++ xs ++ zs.drop (off + xs.length)) _ ys h4 (by rw [g1]; simp; omega) (fun j x u hj hu => by
     rw [g2 j] at hu
     simp only [Nat.add_zero, Array.length_toList, h2] at hu
     rw [List.append_assoc] at hj
     by_cases hc : off ≤ j ∧ j < off + xs.length ∧ j < cells.size
     ·rw [if_pos hc] at hu
      rw [List.getElem?_append_right (by rw [List.length_take]; omega), List.length_take, Nat.min_eq_left (by omega), List.getElem?_append_left (by omega)] at hj
      exact h3 (j - off) x u hj (by simpa using hu)
     ·rw [if_neg hc] at hu
      have hjc : j < cells.size := by
       rcases Nat.lt_or_ge j cells.size with h | h
       ·exact h
       ·rw [Array.getElem?_eq_none h] at hu; cases hu
      rcases Nat.lt_or_ge j off with hlt | hge
      ·rw [List.getElem?_append_left (by rw [List.length_take]; omega), List.getElem?_take, if_pos hlt] at hj
       exact hR j x u hj hu
      ·rw [List.getElem?_append_right (by rw [List.length_take]; omega), List.length_take, Nat.min_eq_left (by omega), List.getElem?_append_right (by omega), List.getElem?_drop] at hj
       have : off + xs.length + (j - off - xs.length) = j := by omega
       rw [this] at hj
       exact hR j x u hj hu) hf
    refine ⟨r, ?_, k2, k3⟩
    unfold Instr.fill
    simp only [hp]
    rw [if_neg (by rw [h2, e1, hs]; simp; omega), ← k1]
    congr 1
def VS.partsOk (σ : VS) : List (Nat × Operand) → List (Nat × List Leaf) → Prop
 | [], [] => True
 | p :: ps, q :: qs => (p.1 = q.1 ∧ ∃ ag, σ.ev p.2 = V.flat ag q.2 ∧ (ag = false → q.2.length = 1) ∧ q.2.all Leaf.live = true) ∧ σ.partsOk ps qs
 | _, _ => False
theorem parts_aligned (h : Rel E N σ a w G) : ∀ {ps : List (Nat × Operand)} {qs : List (Nat × List Leaf)}, σ.partsOk ps qs → Aligned (Holds G σ E w) qs (ps.map fun (i, x) => (i, a.eval x))
 | [], [], _ => trivial
 | (i, x) :: ps, (i', xs) :: qs, hp => by
  obtain ⟨⟨h1, ag, h2, h3, h3'⟩, h4⟩ := hp
  have h5 := h.ev x
  rw [h2, vflat] at h5
  obtain ⟨us, h6, h7, h8⟩ := h5
  replace h7 : us.length = xs.length := h7
  have h9 : (a.eval x).cells = us.toArray := by
   rw [h6]
   refine cval_cells fun e => ⟨h7.trans (h3 e), fun u hu => ?_⟩
   obtain ⟨j, hj, rfl⟩ := List.getElem_of_mem hu
   have hj' : j < xs.length := by omega
   exact (h8 j xs[j] us[j] (List.getElem?_eq_getElem hj') (List.getElem?_eq_getElem hj)).one (List.all_eq_true.1 h3' _ (List.getElem_mem hj'))
  exact ⟨⟨h1.symm, by show (a.eval x).cells.size = xs.length; rw [h9]; simpa using h7, fun j y u hj hu => by
   replace hu : (a.eval x).cells[j]? = some u := hu
   rw [h9] at hu
   exact h8 j y u hj (by simpa using hu)⟩, parts_aligned h h4⟩
theorem ok_build {ty : TypeId} {parts : Array (Nat × Operand)} {z : Value} {zs ys : List Leaf} {qs : List (Nat × List Leaf)} {pl : Nat → Option (Nat × Nat)} (ho : o.op = .build ty parts) (hz : ∀ w, (zeroValue ty).run P w = .ok z w) (hzl : ZL zs z.cells.toList) (hp : σ.partsOk parts.toList qs)
  (hb : ∀ (vs : Array (Nat × Value)) (r : Array Value) w, Instr.fill pl z.cells vs.toList = some r → (Instr.build ty vs).run P w = .ok (.agg r) w) (hf : fillL pl zs qs = some ys) : OpL P E N nb σ o (V.flat true ys) :=
 fun a w G hr => by
  obtain ⟨r, h1, h2, h3⟩ := fill_holds qs _ zs z.cells ys (parts_aligned hr hp) (by have := hzl.len; simpa using this) (fun j x u hj hu => (hzl.holds j x u hj (by simpa using hu)).1) hf
  refine ⟨.agg r, fun v' _ => ?_, vflat.2 ⟨r.toList, by simp [cval], by simpa using h2, fun j x u hj hu => h3 j x u hj (by simpa using hu)⟩⟩
  have := hb (parts.map fun (i, x) => (i, a.eval x)) r v' (by simpa using h1)
  simp [execOp, ho, this, Result.andThen]
/-! ### Guarded operations -/
theorem yielded_at {ops : Array Oper} {j d : Nat} {oj : Oper} {b : Bool} (h : Rel E N σ a w G) (hj : ops[j]? = some oj) (hd : oj.dst = some d) (hdN : d < N) (hv : σ.tm d = V.one (.sc (.bool b))) : yielded ops a.tmps j = some b := by
 have h1 : a.tmps[d]? = some (.bool b) := by
  have h2 := h.tmps d
  rw [hv, vone] at h2
  have h3 : a.tmps.getD d undef = .bool b := h2.1
  have h4 : d < a.tmps.size := by rw [h.nsz]; exact hdN
  simp only [Array.getD_eq_getD_getElem?] at h3
  rw [Array.getElem?_eq_getElem h4] at h3 ⊢
  simpa using h3
 simp [yielded, hj, hd, h1]
theorem SV.opY {ops : Array Oper} {rest : List Oper} {j d : Nat} {oj : Oper} {b c : Bool} (h : OpOk P E N σ o σ') (hg : o.guard = some (j, b)) (hj : ops[j]? = some oj) (hd : oj.dst = some d) (hdN : d < N) (hv : σ.tm d = V.one (.sc (.bool c))) (hc : c = b) (k : SV E N σ' (wpList P ops Q rest)) : SV E N σ (wpList P ops Q (o :: rest)) :=
 fun a w G hr => wpList_step fun K hK => by
  have := yielded_at hr hj hd hdN hv
  rw [if_pos (by simp [Region.wanted, hg, this, hc])]
  exact h a w G K Q hr fun a' w' G' hr' => hK _ _ (k a' w' G' hr')
theorem SV.opN {ops : Array Oper} {rest : List Oper} {j d d' : Nat} {oj : Oper} {b c : Bool} (hg : o.guard = some (j, b)) (hj : ops[j]? = some oj) (hd : oj.dst = some d) (hdN : d < N) (hv : σ.tm d = V.one (.sc (.bool c))) (hc : c = !b) (hd' : o.dst = some d') (hdN' : d' < N) (k : SV E N (σ.put d' (V.one .dead)) (wpList P ops Q rest)) : SV E N σ (wpList P ops Q (o :: rest)) :=
 fun a w G hr => wpList_skip (by
  have := yielded_at hr hj hd hdN hv
  cases b <;> simp [Region.wanted, hg, this, hc]) (by
  rw [hd']
  exact k _ _ _ (hr.put hdN' (vone.2 ⟨trivial, .inl rfl⟩)))
theorem DW.qN {V' : V} {l : List Oper} {zs : List Nat} {ps : Pl} {fr : List Nat} {cl : Bool} {i j d d' : Nat} {oj : Oper} {b c : Bool} (ho : nthO l i = some o) (hg : o.guard = some (j, b)) (hj : l.toArray[j]? = some oj) (hd : oj.dst = some d) (hdN : d < N) (hv : σ.tm d = V.one (.sc (.bool c))) (hc : c = !b) (hd' : o.dst = some d') (hdN' : d' < N) (hQ : ∀ c (a : Act) v w, Q (.panic c) (a.put o.dst v) w → Q (.panic c) a w)
  (k : DW E N τ fr cl (σ.put d' (V.one .dead)) fun ws Gs a w => wpPi P l.toArray Q (SW E τ ws Gs) zs ps a w) : DW E N τ fr cl σ fun ws Gs a w => wpPi P l.toArray Q (SW E τ ws Gs) zs (.q i ps) a w := fun ws Gs a w G hr hl => by
 refine pi_pass ho (fun c a w => hQ c a undef w) ?_ ?_
 ·have := yielded_at hr hj hd hdN hv
  cases b <;> simp [Region.wanted, hg, this, hc]
 ·rw [hd']
  exact k ws Gs _ w G (hr.put hdN' (vone.2 ⟨trivial, .inl rfl⟩)) hl.put
theorem DW.qY {V' : V} {l : List Oper} {zs : List Nat} {ps : Pl} {fr : List Nat} {cl : Bool} {i j d d' : Nat} {oj : Oper} {b c : Bool} (ho : nthO l i = some o) (h : OpL P E N τ.bs.length σ o V') (hg : o.guard = some (j, b)) (hj : l.toArray[j]? = some oj) (hd : oj.dst = some d) (hdN : d < N) (hv : σ.tm d = V.one (.sc (.bool c))) (hc : c = b) (hd' : o.dst = some d') (hdN' : d' < N) (hQ : ∀ c (a : Act) v w, Q (.panic c) (a.put o.dst v) w → Q (.panic c) a w)
  (k : DW E N τ fr cl (σ.put d' V') fun ws Gs a w => wpPi P l.toArray Q (SW E τ ws Gs) zs ps a w) : DW E N τ fr cl σ fun ws Gs a w => wpPi P l.toArray Q (SW E τ ws Gs) zs (.q i ps) a w := fun ws Gs a w G hr hl => by
 obtain ⟨u, h1, h2⟩ := h a w G hr
 refine pi_take (v := u) ho (fun c a w => hQ c a u w) ?_ (fun v hv => h1 v (hl.lite hv)) ?_
 ·have := yielded_at hr hj hd hdN hv
  simp [Region.wanted, hg, this, hc]
 ·rw [hd']
  exact k ws Gs _ w G (hr.put hdN' h2) hl.put
theorem wantedY {ops : Array Oper} {j d : Nat} {oj : Oper} {b c : Bool} (h : Rel E N σ a w G) (hg : o.guard = some (j, b)) (hj : ops[j]? = some oj) (hd : oj.dst = some d) (hdN : d < N) (hv : σ.tm d = V.one (.sc (.bool c))) (hc : c = b) : Region.wanted o (yielded ops a.tmps) = true := by
 have := yielded_at h hj hd hdN hv
 simp [Region.wanted, hg, this, hc]
theorem wantedN {ops : Array Oper} {j d : Nat} {oj : Oper} {b c : Bool} (h : Rel E N σ a w G) (hg : o.guard = some (j, b)) (hj : ops[j]? = some oj) (hd : oj.dst = some d) (hdN : d < N) (hv : σ.tm d = V.one (.sc (.bool c))) (hc : c = !b) : Region.wanted o (yielded ops a.tmps) = false := by
 have := yielded_at h hj hd hdN hv
 cases b <;> simp [Region.wanted, hg, this, hc]
theorem DW.mN {l : List Oper} {zs : List Nat} {ps : Pl} {fr : List Nat} {cl : Bool} {i j d d' : Nat} {oj : Oper} {b c : Bool} (ho : nthO l i = some o) (hg : o.guard = some (j, b)) (hj : l.toArray[j]? = some oj) (hd : oj.dst = some d) (hdN : d < N) (hv : σ.tm d = V.one (.sc (.bool c))) (hc : c = !b) (hd' : o.dst = some d') (hdN' : d' < N)
  (k : DW E N τ fr cl (σ.put d' (V.one .dead)) fun ws Gs a w => wpPi P l.toArray Q (SW E τ ws Gs) zs ps a w) : DW E N τ fr cl σ fun ws Gs a w => wpPi P l.toArray Q (SW E τ ws Gs) zs (.m i ps) a w := fun ws Gs a w G hr hl => by
 refine pi_step ho fun K hK => ?_
 rw [if_neg (by rw [wantedN hr hg hj hd hdN hv hc]; simp)]
 refine hK.out _ w hl.same fun _ => ?_
 rw [hd']
 exact k ws Gs _ w G (hr.put hdN' (vone.2 ⟨trivial, .inl rfl⟩)) hl.put
end Go.Proofs.Ytpnbnbhifpcelaa.V
/- States told by trees: an empty slice as an object, states written out, small helps for walks. -/
namespace Go.Proofs.Ytpnbnbhifpcelaa.V
open Go Go.RowKit
set_option linter.unusedVariables false
variable {P : Program} {E : Env} {N nb : Nat} {σ σ' τ : VS} {o : Oper} {a : Act} {w : World} {G : Ghost} {Q : Exit → Act → World → Prop} {K : Act → World → Prop}
theorem Rel.newnil (h : Rel E N σ a w G) {ty : TypeId} {n : Nat} (hp : 0 < n) (hz : Sz ty n) : ∃ G', Rel E N (σ.new (.seq ty [])) a w G' ∧ G'.vl σ.nx = .slice none 0 0 ∧ G'.β = G.β ∧ ∀ x u, Holds G σ E w x u → Holds G' (σ.new (.seq ty [])) E w x u := by
 obtain ⟨G', h1, ⟨h2, -, h3⟩, -, h4⟩ := h.renew [] (fun x hx => by cases hx) (w' := w) (t := .seq ty []) (v := .slice none 0 0) (F := fun _ => False) (fun _ => False) (Same.refl _ _) (fun _ _ _ => rfl) (fun b hb => hb.elim)
  (Own.seq (es := []) n hp hz (fun e he => by cases he) [] (Row.of (World.ownsRow_nil _ _ _ _)) (fun _ _ => False) (fun k e j t u h => by simp at h) (fun u hu => by cases hu) (fun b hb => by cases hb) (fun i b hb => hb.elim) (fun i b hb => hb.elim) fun i j b hb => hb.elim) ⟨_, _, rfl⟩ (fun b hb => hb.elim)
 exact ⟨G', h1, h2, h3, h4⟩
/-! ### States written out -/
def VS.nil : VS := ⟨fun _ => V.one .dead, [], fun _ => none, 0⟩
theorem le_nil {ρ : Nat → Nat} (s : Nat) : V.le σ τ ρ (σ.tm s) (VS.nil.tm s) := .inl rfl
theorem le_put {ρ : Nat → Nat} {τ' : VS} {d : Nat} {v : V} (h : ∀ s, V.le σ τ ρ (σ.tm s) (τ'.tm s)) (hv : V.le σ τ ρ (σ.tm d) v) (s : Nat) : V.le σ τ ρ (σ.tm s) ((τ'.put d v).tm s) := by
 show V.le σ τ ρ (σ.tm s) (bif Nat.beq s d then v else τ'.tm s)
 cases hb : Nat.beq s d with
 | true => rw [nbeq.1 hb]; exact hv
 | false => exact h s
theorem le_box {ρ : Nat → Nat} {τ' : VS} {ty : TypeId} {xs : List Leaf} (h : ∀ s, V.le σ τ ρ (σ.tm s) (τ'.tm s)) (s : Nat) : V.le σ τ ρ (σ.tm s) ((τ'.box ty xs).tm s) := h s
theorem le_new {ρ : Nat → Nat} {τ' : VS} {t : T} (h : ∀ s, V.le σ τ ρ (σ.tm s) (τ'.tm s)) (s : Nat) : V.le σ τ ρ (σ.tm s) ((τ'.new t).tm s) := h s
theorem V.le.flat {ρ : Nat → Nat} {ag : Bool} {xs ys : List Leaf} {v : V} (h : v = V.flat ag xs) (l : leafs σ τ ρ xs ys) : V.le σ τ ρ v (V.flat ag ys) := .inr ⟨ag, xs, ys, h, rfl, l⟩
theorem V.le.one {ρ : Nat → Nat} {x y : Leaf} {v : V} (h : v = V.one x) (l : Leaf.le σ τ ρ x y) : V.le σ τ ρ v (V.one y) := .inr ⟨false, [x], [y], h, rfl, l, trivial⟩
def boxesLe (σ τ : VS) (ρ : Nat → Nat) : List (TypeId × List Leaf) → List (TypeId × List Leaf) → Prop
 | _, [] => True
 | x :: xs, y :: ys => (x.1 = y.1 ∧ leafs σ τ ρ x.2 y.2) ∧ boxesLe σ τ ρ xs ys
 | [], _ :: _ => False
theorem boxesLe.get {ρ : Nat → Nat} : ∀ {xs ys : List (TypeId × List Leaf)}, boxesLe σ τ ρ xs ys → ys.length ≤ xs.length ∧ ∀ (b : Nat) (ty : TypeId) (zs : List Leaf), ys[b]? = some (ty, zs) → ∃ xs', xs[b]? = some (ty, xs') ∧ leafs σ τ ρ xs' zs
 | xs, [], _ => ⟨Nat.zero_le _, fun b ty zs h => by simp at h⟩
 | x :: xs, y :: ys, h => by
  obtain ⟨h1, h2⟩ := h.2.get
  refine ⟨by simpa using h1, fun b ty zs hb => ?_⟩
  cases b with
  | zero =>
   cases hb
   obtain ⟨e, hl⟩ := h.1
   obtain ⟨xt, xl⟩ := x
   have : xt = ty := e
   subst this
   exact ⟨xl, rfl, hl⟩
  | succ b => exact h2 b ty zs (by simpa using hb)
def objsLe (σ τ : VS) (ρ : Nat → Nat) : Nat → Prop
 | 0 => True
 | n + 1 => (τ.ob n = none ∨ ∃ ver t, τ.ob n = some (ver, t) ∧ (σ.ob (ρ n)).map (·.2) = some t ∧ ρ n < σ.nx) ∧ objsLe σ τ ρ n
theorem objsLe.get {ρ : Nat → Nat} : ∀ {n : Nat}, objsLe σ τ ρ n → ∀ i, i < n → (τ.ob i = none ∨ ∃ ver t, τ.ob i = some (ver, t) ∧ (σ.ob (ρ i)).map (·.2) = some t ∧ ρ i < σ.nx)
 | n + 1, h, i, hi => by
  rcases Nat.lt_or_ge i n with hl | hl
  ·exact h.2.get i hl
  ·have : i = n := by omega
   subst this; exact h.1
theorem VS.le.mk' {ρ : Nat → Nat} (tm : ∀ s, V.le σ τ ρ (σ.tm s) (τ.tm s)) (bx : boxesLe σ τ ρ σ.bs τ.bs) (ob : objsLe σ τ ρ τ.nx) (hnx : ∀ i, τ.ob i ≠ none → i < τ.nx) (inj : ∀ i j, i < τ.nx → j < τ.nx → ρ i = ρ j → i = j) : VS.le σ τ ρ :=
 ⟨tm, bx.get.1, bx.get.2, fun i ver t hi => by
  have hlt := hnx i (by rw [hi]; simp)
  rcases ob.get i hlt with h | ⟨ver', t', h1, h2, h3⟩
  ·rw [h] at hi; cases hi
  ·rw [h1] at hi
   cases hi
   obtain ⟨⟨v, t2⟩, h4, h5⟩ := Option.map_eq_some_iff.1 h2
   exact ⟨hlt, h3, v, by rw [h4]; exact congrArg some (Prod.ext rfl h5)⟩, fun i j hi hj => inj i j (hnx i hi) (hnx j hj)⟩
theorem nil_ob (i : Nat) : VS.nil.ob i ≠ none → i < VS.nil.nx := fun h => absurd rfl h
theorem new_ob {t : T} (h : ∀ i, τ.ob i ≠ none → i < τ.nx) (i : Nat) : (τ.new t).ob i ≠ none → i < (τ.new t).nx := fun hi => by
 by_cases e : i = τ.nx
 ·rw [e]; exact Nat.lt_succ_self _
 ·have : (τ.new t).ob i = τ.ob i := by
   show (bif Nat.beq i τ.nx then _ else τ.ob i) = _
   rw [nbne e]; rfl
  rw [this] at hi
  exact Nat.lt_succ_of_lt (h i hi)
theorem inj_list {l : List Nat} (h : l.Nodup) (i j : Nat) (hi : i < l.length) (hj : j < l.length) (e : l.getD i 0 = l.getD j 0) : i = j := by
 rw [List.getD_eq_getElem?_getD, List.getD_eq_getElem?_getD, List.getElem?_eq_getElem hi, List.getElem?_eq_getElem hj] at e
 have e' : l[i] = l[j] := by simpa using e
 rcases Nat.lt_trichotomy i j with hl | hl | hl
 ·exact absurd e' ((List.pairwise_iff_getElem.1 h) i j hi hj hl)
 ·exact hl
 ·exact absurd e'.symm ((List.pairwise_iff_getElem.1 h) j i hj hi hl)
theorem map_at {α : Type} {f : α → List T} {L : List α} {k : Nat} {x : α} (h : L[k]? = some x) : (L.map f)[k]? = some (f x) := by rw [List.getElem?_map, h]; rfl
theorem SV.split {d : Nat} {c : Bool} (hv : σ.tm d = V.one (.sc (.bool c))) (ht : c = true → SV E N (σ.put d (V.one (.sc (.bool true)))) K) (hf : c = false → SV E N (σ.put d (V.one (.sc (.bool false)))) K) : SV E N σ K := by
 have e : σ.put d (V.one (.sc (.bool c))) = σ := by
  have hf : (fun s => bif Nat.beq s d then V.one (.sc (.bool c)) else σ.tm s) = σ.tm := by
   funext s
   cases hb : Nat.beq s d with
   | true => rw [Nat.eq_of_beq_eq_true hb, hv]; rfl
   | false => rfl
  show (⟨fun s => bif Nat.beq s d then V.one (.sc (.bool c)) else σ.tm s, σ.bs, σ.ob, σ.nx⟩ : VS) = σ
  rw [hf]
 cases c with
 | true => rw [← e]; exact ht rfl
 | false => rw [← e]; exact hf rfl
theorem put_same {d : Nat} {v : V} (hv : σ.tm d = v) : σ.put d v = σ := by
 have hf : (fun s => bif Nat.beq s d then v else σ.tm s) = σ.tm := by
  funext s
  cases hb : Nat.beq s d with
  | true => rw [Nat.eq_of_beq_eq_true hb, hv]; rfl
  | false => rfl
 show (⟨fun s => bif Nat.beq s d then v else σ.tm s, σ.bs, σ.ob, σ.nx⟩ : VS) = σ
 rw [hf]
theorem DW.split {d : Nat} {c : Bool} {fr : List Nat} {cl : Bool} {Ψ : World → Ghost → Act → World → Prop} (hv : σ.tm d = V.one (.sc (.bool c))) (ht : c = true → DW E N τ fr cl (σ.put d (V.one (.sc (.bool true)))) Ψ) (hf : c = false → DW E N τ fr cl (σ.put d (V.one (.sc (.bool false)))) Ψ) : DW E N τ fr cl σ Ψ := by
 have e := put_same hv
 cases c with
 | true => rw [← e]; exact ht rfl
 | false => rw [← e]; exact hf rfl
theorem ok_pickT {c x y : Operand} {v : V} (ho : o.op = .pick c x y) (hc : σ.ev c = V.one (.sc (.bool true))) (hx : σ.ev x = v) : OpL P E N nb σ o v :=
 fun a w G h => ⟨a.eval x, fun v' _ => by simp [execOp, ho, h.sc hc, asBool], by rw [← hx]; exact h.ev x⟩
theorem ok_pickF {c x y : Operand} {v : V} (ho : o.op = .pick c x y) (hc : σ.ev c = V.one (.sc (.bool false))) (hx : σ.ev y = v) : OpL P E N nb σ o v :=
 fun a w G h => ⟨a.eval y, fun v' _ => by simp [execOp, ho, h.sc hc, asBool], by rw [← hx]; exact h.ev y⟩
end Go.Proofs.Ytpnbnbhifpcelaa.V
/- A state told anew in short words: only the slots and objects that are still wanted. -/
namespace Go.Proofs.Ytpnbnbhifpcelaa.V
open Go Go.RowKit
set_option linter.unusedVariables false
def lookV : List (Nat × V) → Nat → V
 | [], _ => V.one .dead
 | (d, v) :: L, s => bif Nat.beq s d then v else lookV L s
def lookO : List (Nat × Nat × T) → Nat → Option (Nat × T)
 | [], _ => none
 | (d, v, t) :: L, i => bif Nat.beq i d then some (v, t) else lookO L i
abbrev VS.of (L : List (Nat × V)) (B : List (TypeId × List Leaf)) (O : List (Nat × Nat × T)) (n : Nat) : VS := ⟨lookV L, B, lookO O, n⟩
def allV (σ : VS) : List (Nat × V) → Prop
 | [] => True
 | (d, v) :: L => σ.tm d = v ∧ allV σ L
def allO (σ : VS) : List (Nat × Nat × T) → Prop
 | [] => True
 | (i, v, t) :: L => σ.ob i = some (v, t) ∧ allO σ L
theorem lookV_or {σ : VS} : ∀ {L : List (Nat × V)}, allV σ L → ∀ s, lookV L s = σ.tm s ∨ lookV L s = V.one .dead
 | [], _, s => .inr rfl
 | (d, v) :: L, h, s => by
  show (bif Nat.beq s d then v else lookV L s) = _ ∨ (bif Nat.beq s d then v else lookV L s) = _
  cases hb : Nat.beq s d with
  | true =>
   rw [Nat.eq_of_beq_eq_true hb]
   exact .inl h.1.symm
  | false => exact lookV_or h.2 s
theorem lookO_or {σ : VS} : ∀ {O : List (Nat × Nat × T)}, allO σ O → ∀ i, lookO O i = σ.ob i ∨ lookO O i = none
 | [], _, i => .inr rfl
 | (d, v, t) :: O, h, i => by
  show (bif Nat.beq i d then some (v, t) else lookO O i) = _ ∨ (bif Nat.beq i d then some (v, t) else lookO O i) = _
  cases hb : Nat.beq i d with
  | true =>
   rw [Nat.eq_of_beq_eq_true hb]
   exact .inl h.1.symm
  | false => exact lookO_or h.2 i
theorem Holds.forget {G : Ghost} {σ τ : VS} {E : Env} {w : World} {x : Leaf} {u : Value} (hn : τ.nx = σ.nx) (hb : τ.bs = σ.bs) (ho : ∀ i, τ.ob i = σ.ob i ∨ τ.ob i = none) (h : Holds G σ E w x u) : Holds G τ E w x u := by
 refine ⟨?_, h.2⟩
 have h1 := h.1
 cases x with
 | dead => trivial
 | sc v => exact h1
 | nl ty => exact h1
 | ro t => exact h1
 | rp es => exact h1
 | hd i => exact ⟨by rw [hn]; exact h1.1, h1.2⟩
 | nd i ver t loc =>
  rcases ho i with e | e
  ·unfold Holds0 at h1 ⊢
   simp only [e, hn]
   exact h1
  ·refine ⟨by rw [hn]; exact h1.1, fun v t' h => (by rw [e] at h; cases h), fun ⟨t', h⟩ => (by rw [e] at h; cases h)⟩
 | np i ver es =>
  rcases ho i with e | e
  ·unfold Holds0 at h1 ⊢
   simp only [e, hn]
   exact h1
  ·refine ⟨by rw [hn]; exact h1.1, fun v t' h => (by rw [e] at h; cases h), fun ⟨t', h⟩ => (by rw [e] at h; cases h)⟩
 | ep i k n o => exact ⟨by rw [hn]; exact h1.1, h1.2⟩
 | bp b o => exact ⟨by rw [hb]; exact h1.1, h1.2⟩
theorem VHolds.forget {G : Ghost} {σ τ : VS} {E : Env} {w : World} {v : V} {u : Value} (hn : τ.nx = σ.nx) (hb : τ.bs = σ.bs) (ho : ∀ i, τ.ob i = σ.ob i ∨ τ.ob i = none) (h : VHolds G σ E w v u) : VHolds G τ E w v u := by
 obtain ⟨uss, h1, h2, h3⟩ := h
 exact ⟨uss, h1, h2, fun c ag xs us a b => ⟨(h3 c ag xs us a b).1, fun j x u p q => ((h3 c ag xs us a b).2 j x u p q).forget hn hb ho⟩⟩
theorem Rel.forget {E : Env} {N n : Nat} {σ : VS} {a : Act} {w : World} {G : Ghost} {L : List (Nat × V)} {B : List (TypeId × List Leaf)} {O : List (Nat × Nat × T)} (hL : allV σ L) (hB : σ.bs = B) (hO : allO σ O) (hn : σ.nx = n) (h : Rel E N σ a w G) : Rel E N (VS.of L B O n) a w G := by
 have hn' : (VS.of L B O n).nx = σ.nx := hn.symm
 have hb' : (VS.of L B O n).bs = σ.bs := hB.symm
 have ho' : ∀ i, (VS.of L B O n).ob i = σ.ob i ∨ (VS.of L B O n).ob i = none := lookO_or hO
 have live : ∀ i, (VS.of L B O n).ob i ≠ none → (VS.of L B O n).ob i = σ.ob i := fun i hi => (ho' i).resolve_right hi
 refine ⟨h.below, h.dfr, h.nsz, fun s => ?_, fun b ty xs hb => ?_, fun b b' h1 h2 => h.inj b b' (by rw [← hb']; exact h1) (by rw [← hb']; exact h2), fun b i h1 h2 => h.boxft b i (by rw [← hb']; exact h1) (by rw [← live i h2]; exact h2), fun i ver t hi => ?_, fun i j b hi hj => h.disj i j b (by rw [← live i hi]; exact hi) (by rw [← live j hj]; exact hj), fun i b hi => h.ftlt i b (by rw [← live i hi]; exact hi), ⟨by rw [hn']; exact h.lent.1, h.lent.2.1, fun c hc => by rw [hb']; exact h.lent.2.2 c hc⟩⟩
 ·rcases lookV_or hL s with e | e
  ·show VHolds G _ E w (lookV L s) _
   rw [e]
   exact (h.tmps s).forget hn' hb' ho'
  ·show VHolds G _ E w (lookV L s) _
   rw [e, vone]
   exact ⟨trivial, .inl rfl⟩
 ·rw [hb'] at hb
  obtain ⟨h1, us, h2, h3, h4⟩ := h.boxes b ty xs hb
  exact ⟨h1, us, h2, h3, fun j x u p q => ⟨((h4 j x u p q).1).forget hn' hb' ho', (h4 j x u p q).2⟩⟩
 ·have e := live i (by rw [hi]; simp)
  obtain ⟨h1, h2, h3⟩ := h.objs i ver t (by rw [← e]; exact hi)
  exact ⟨by rw [hn']; exact h1, h2, h3⟩
theorem SV.forget {E : Env} {N n : Nat} {σ : VS} {K : Act → World → Prop} {L : List (Nat × V)} {B : List (TypeId × List Leaf)} {O : List (Nat × Nat × T)} (hL : allV σ L) (hB : σ.bs = B) (hO : allO σ O) (hn : σ.nx = n) (k : SV E N (VS.of L B O n) K) : SV E N σ K := fun a w G h => k a w G (h.forget hL hB hO hn)
theorem DW.forget {E : Env} {N n : Nat} {τ σ : VS} {fr : List Nat} {cl : Bool} {Ψ : World → Ghost → Act → World → Prop} {L : List (Nat × V)} {B : List (TypeId × List Leaf)} {O : List (Nat × Nat × T)} (hL : allV σ L) (hB : σ.bs = B) (hO : allO σ O) (hn : σ.nx = n) (k : DW E N τ fr false (VS.of L B O n) Ψ) : DW E N τ fr cl σ Ψ := fun ws Gs a w G h l =>
 k ws Gs a w G (h.forget hL hB hO hn) ⟨l.start, l.same, l.vl, l.β, by rw [show (VS.of L B O n).nx = σ.nx from hn.symm]; exact l.nx, by rw [show (VS.of L B O n).bs = σ.bs from hB.symm]; exact l.bs, fun i hi => ⟨by rw [show (VS.of L B O n).nx = σ.nx from hn.symm]; exact (l.fresh i hi).1, (l.fresh i hi).2⟩, fun h => by cases h⟩
end Go.Proofs.Ytpnbnbhifpcelaa.V
/- Operations that are passed over because the operation that guards them was passed over. -/
namespace Go.Proofs.Ytpnbnbhifpcelaa.V
open Go Go.RowKit
set_option linter.unusedVariables false
variable {P : Program} {E : Env} {N nb : Nat} {σ σ' τ : VS} {o : Oper} {a : Act} {w : World} {G : Ghost} {Q : Exit → Act → World → Prop} {K : Act → World → Prop}
theorem SV.tell (I : VS → VS) (h : SV E N (I σ) K) (k : SV E N (I σ) K → SV E N σ K) : SV E N σ K := k h
abbrev V.no : V := ⟨true, []⟩
theorem vno {G : Ghost} {E : Env} {w : World} {u : Value} : VHolds G σ E w V.no u ↔ u = undef := by
 constructor
 ·rintro ⟨uss, h1, h2, -⟩
  match uss, h1 with
  | [], _ => exact h2
 ·rintro rfl
  exact ⟨[], rfl, rfl, fun c ag xs us h => by simp at h⟩
theorem yielded_no {ops : Array Oper} {j d : Nat} {oj : Oper} (h : Rel E N σ a w G) (hj : ops[j]? = some oj) (hd : oj.dst = some d) (hdN : d < N) (hv : σ.tm d = V.no) : yielded ops a.tmps j = none := by
 have h1 : a.tmps[d]? = some undef := by
  have h2 := h.tmps d
  rw [hv, vno] at h2
  have h4 : d < a.tmps.size := by rw [h.nsz]; exact hdN
  simp only [Array.getD_eq_getD_getElem?] at h2
  rw [Array.getElem?_eq_getElem h4] at h2 ⊢
  simpa using h2
 simp [yielded, hj, hd, h1, undef]
theorem SV.opNu {ops : Array Oper} {rest : List Oper} {j d d' : Nat} {oj : Oper} {b c : Bool} (hg : o.guard = some (j, b)) (hj : ops[j]? = some oj) (hd : oj.dst = some d) (hdN : d < N) (hv : σ.tm d = V.one (.sc (.bool c))) (hc : c = !b) (hd' : o.dst = some d') (hdN' : d' < N) (k : SV E N (σ.put d' V.no) (wpList P ops Q rest)) : SV E N σ (wpList P ops Q (o :: rest)) :=
 fun a w G hr => wpList_skip (by
  have := yielded_at hr hj hd hdN hv
  cases b <;> simp [Region.wanted, hg, this, hc]) (by
  rw [hd']
  exact k _ _ _ (hr.put hdN' (vno.2 rfl)))
theorem SV.opNN {ops : Array Oper} {rest : List Oper} {j d d' : Nat} {oj : Oper} {b : Bool} (hg : o.guard = some (j, b)) (hj : ops[j]? = some oj) (hd : oj.dst = some d) (hdN : d < N) (hv : σ.tm d = V.no) (hd' : o.dst = some d') (hdN' : d' < N) (k : SV E N (σ.put d' V.no) (wpList P ops Q rest)) : SV E N σ (wpList P ops Q (o :: rest)) :=
 fun a w G hr => wpList_skip (by
  have := yielded_no hr hj hd hdN hv
  simp [Region.wanted, hg, this]) (by
  rw [hd']
  exact k _ _ _ (hr.put hdN' (vno.2 rfl)))
theorem DW.qNu {l : List Oper} {zs : List Nat} {ps : Pl} {fr : List Nat} {cl : Bool} {i j d d' : Nat} {oj : Oper} {b c : Bool} (ho : nthO l i = some o) (hg : o.guard = some (j, b)) (hj : l.toArray[j]? = some oj) (hd : oj.dst = some d) (hdN : d < N) (hv : σ.tm d = V.one (.sc (.bool c))) (hc : c = !b) (hd' : o.dst = some d') (hdN' : d' < N) (hQ : ∀ c (a : Act) v w, Q (.panic c) (a.put o.dst v) w → Q (.panic c) a w)
  (k : DW E N τ fr cl (σ.put d' V.no) fun ws Gs a w => wpPi P l.toArray Q (SW E τ ws Gs) zs ps a w) : DW E N τ fr cl σ fun ws Gs a w => wpPi P l.toArray Q (SW E τ ws Gs) zs (.q i ps) a w := fun ws Gs a w G hr hl => by
 refine pi_pass ho (fun c a w => hQ c a undef w) ?_ ?_
 ·have := yielded_at hr hj hd hdN hv
  cases b <;> simp [Region.wanted, hg, this, hc]
 ·rw [hd']
  exact k ws Gs _ w G (hr.put hdN' (vno.2 rfl)) hl.put
theorem DW.qNN {l : List Oper} {zs : List Nat} {ps : Pl} {fr : List Nat} {cl : Bool} {i j d d' : Nat} {oj : Oper} {b : Bool} (ho : nthO l i = some o) (hg : o.guard = some (j, b)) (hj : l.toArray[j]? = some oj) (hd : oj.dst = some d) (hdN : d < N) (hv : σ.tm d = V.no) (hd' : o.dst = some d') (hdN' : d' < N) (hQ : ∀ c (a : Act) v w, Q (.panic c) (a.put o.dst v) w → Q (.panic c) a w)
  (k : DW E N τ fr cl (σ.put d' V.no) fun ws Gs a w => wpPi P l.toArray Q (SW E τ ws Gs) zs ps a w) : DW E N τ fr cl σ fun ws Gs a w => wpPi P l.toArray Q (SW E τ ws Gs) zs (.q i ps) a w := fun ws Gs a w G hr hl => by
 refine pi_pass ho (fun c a w => hQ c a undef w) ?_ ?_
 ·have := yielded_no hr hj hd hdN hv
  simp [Region.wanted, hg, this]
 ·rw [hd']
  exact k ws Gs _ w G (hr.put hdN' (vno.2 rfl)) hl.put
theorem DW.mNN {l : List Oper} {zs : List Nat} {ps : Pl} {fr : List Nat} {cl : Bool} {i j d d' : Nat} {oj : Oper} {b : Bool} (ho : nthO l i = some o) (hg : o.guard = some (j, b)) (hj : l.toArray[j]? = some oj) (hd : oj.dst = some d) (hdN : d < N) (hv : σ.tm d = V.no) (hd' : o.dst = some d') (hdN' : d' < N)
  (k : DW E N τ fr cl (σ.put d' V.no) fun ws Gs a w => wpPi P l.toArray Q (SW E τ ws Gs) zs ps a w) : DW E N τ fr cl σ fun ws Gs a w => wpPi P l.toArray Q (SW E τ ws Gs) zs (.m i ps) a w := fun ws Gs a w G hr hl => by
 refine pi_step ho fun K hK => ?_
 have hw : Region.wanted o (yielded l.toArray a.tmps) = false := by
  have := yielded_no hr hj hd hdN hv
  simp [Region.wanted, hg, this]
 rw [if_neg (by rw [hw]; simp)]
 refine hK.out _ w hl.same fun _ => ?_
 rw [hd']
 exact k ws Gs _ w G (hr.put hdN' (vno.2 rfl)) hl.put
end Go.Proofs.Ytpnbnbhifpcelaa.V
/- Short names for the rules that walks use most (tools/squeeze.py writes them into joined texts). -/
namespace Go.Proofs.Ytpnbnbhifpcelaa.V
open Go Go.RowKit
set_option linter.unusedVariables false
variable {P : Program} {E : Env} {N : Nat} {σ σ' τ : VS} {o : Oper} {Q : Exit → Act → World → Prop} {ops : Array Oper} {rest : List Oper} {d : Nat} {V' : V}
theorem sl (nb : Nat) (h : OpL P E N nb σ o V') (k : SV E N (σ.put d V') (wpList P ops Q rest)) (hd : o.dst = some d := by rfl) (hdN : Nat.ble (d + 1) N = true := by rfl) (hg : o.guard = none := by rfl) : SV E N σ (wpList P ops Q (o :: rest)) := SV.op (OpL.ok h hd (Nat.le_of_ble_eq_true hdN)) hg k
theorem so (h : OpOk P E N σ o σ') (k : SV E N σ' (wpList P ops Q rest)) (hg : o.guard = none := by rfl) : SV E N σ (wpList P ops Q (o :: rest)) := SV.op h hg k
theorem sm {c : Option Nat} (h : OpMk P E N c σ o σ') (k : SV E N σ' (wpList P ops Q rest)) (hg : o.guard = none := by rfl) : SV E N σ (wpList P ops Q (o :: rest)) := SV.op h.ok hg k
section
variable {j d' : Nat} {oj : Oper} {b c : Bool}
theorem sy (nb : Nat) (h : OpL P E N nb σ o V') (k : SV E N (σ.put d V') (wpList P ops Q rest)) (hd : o.dst = some d := by rfl) (hdN : Nat.ble (d + 1) N = true := by rfl) (hg : o.guard = some (j, b) := by rfl) (hj : ops[j]? = some oj := by rfl) (hd' : oj.dst = some d' := by rfl) (hdN' : Nat.ble (d' + 1) N = true := by rfl) (hv : σ.tm d' = V.one (.sc (.bool c)) := by rfl) (hc : c = b := by rfl) : SV E N σ (wpList P ops Q (o :: rest)) := SV.opY (OpL.ok h hd (Nat.le_of_ble_eq_true hdN)) hg hj hd' (Nat.le_of_ble_eq_true hdN') hv hc k
theorem sn (k : SV E N (σ.put d' (V.one .dead)) (wpList P ops Q rest)) (hg : o.guard = some (j, b) := by rfl) (hj : ops[j]? = some oj := by rfl) (hd : oj.dst = some d := by rfl) (hdN : Nat.ble (d + 1) N = true := by rfl) (hv : σ.tm d = V.one (.sc (.bool c)) := by rfl) (hc : c = !b := by rfl) (hd' : o.dst = some d' := by rfl) (hdN' : Nat.ble (d' + 1) N = true := by rfl) : SV E N σ (wpList P ops Q (o :: rest)) := SV.opN hg hj hd (Nat.le_of_ble_eq_true hdN) hv hc hd' (Nat.le_of_ble_eq_true hdN') k
end
section
variable {l : List Oper} {zs : List Nat} {ps : Pl} {fr : List Nat} {cl : Bool} {i j d' : Nat} {oj : Oper} {b c : Bool}
theorem dq (ho : nthO l i = some o) (h : OpL P E N τ.bs.length σ o V') (k : DW E N τ fr cl (σ.put d V') fun ws Gs a w => wpPi P l.toArray Q (SW E τ ws Gs) zs ps a w) (hg : o.guard = none := by rfl) (hd : o.dst = some d := by rfl) (hdN : Nat.ble (d + 1) N = true := by rfl) (hQ : ∀ c (a : Act) v w, Q (.panic c) (a.put o.dst v) w → Q (.panic c) a w := by exact fun _ _ _ _ h => h) : DW E N τ fr cl σ fun ws Gs a w => wpPi P l.toArray Q (SW E τ ws Gs) zs (.q i ps) a w := DW.q ho h hg hd (Nat.le_of_ble_eq_true hdN) hQ k
theorem dn (k : DW E N τ fr cl (σ.put d' (V.one .dead)) fun ws Gs a w => wpPi P l.toArray Q (SW E τ ws Gs) zs ps a w) (ho : nthO l i = some o := by rfl) (hg : o.guard = some (j, b) := by rfl) (hj : l.toArray[j]? = some oj := by rfl) (hd : oj.dst = some d := by rfl) (hdN : Nat.ble (d + 1) N = true := by rfl) (hv : σ.tm d = V.one (.sc (.bool c)) := by rfl) (hc : c = !b := by rfl) (hd' : o.dst = some d' := by rfl) (hdN' : Nat.ble (d' + 1) N = true := by rfl) (hQ : ∀ c (a : Act) v w, Q (.panic c) (a.put o.dst v) w → Q (.panic c) a w := by exact fun _ _ _ _ h => h) : DW E N τ fr cl σ fun ws Gs a w => wpPi P l.toArray Q (SW E τ ws Gs) zs (.q i ps) a w := DW.qN (V' := V.one .dead) ho hg hj hd (Nat.le_of_ble_eq_true hdN) hv hc hd' (Nat.le_of_ble_eq_true hdN') hQ k
theorem dy (ho : nthO l i = some o) (h : OpL P E N τ.bs.length σ o V') (k : DW E N τ fr cl (σ.put d' V') fun ws Gs a w => wpPi P l.toArray Q (SW E τ ws Gs) zs ps a w) (hg : o.guard = some (j, b) := by rfl) (hj : l.toArray[j]? = some oj := by rfl) (hd : oj.dst = some d := by rfl) (hdN : Nat.ble (d + 1) N = true := by rfl) (hv : σ.tm d = V.one (.sc (.bool c)) := by rfl) (hc : c = b := by rfl) (hd' : o.dst = some d' := by rfl) (hdN' : Nat.ble (d' + 1) N = true := by rfl) (hQ : ∀ c (a : Act) v w, Q (.panic c) (a.put o.dst v) w → Q (.panic c) a w := by exact fun _ _ _ _ h => h) : DW E N τ fr cl σ fun ws Gs a w => wpPi P l.toArray Q (SW E τ ws Gs) zs (.q i ps) a w := DW.qY ho h hg hj hd (Nat.le_of_ble_eq_true hdN) hv hc hd' (Nat.le_of_ble_eq_true hdN') hQ k
end
section
variable {nb : Nat} {x c y x' : Operand} {u u' v : Value}
theorem ms (ho : o.op = .move x ∨ o.op = .assign x := by first | exact .inl rfl | exact .inr rfl) (hx : σ.ev x = V.one (.sc u) := by rfl) : OpL P E N nb σ o (V.one (.sc u)) := ok_move ho hx
theorem mv {x : Operand} (v : V) (ho : o.op = .move x ∨ o.op = .assign x := by first | exact .inl rfl | exact .inr rfl) (hx : σ.ev x = v := by rfl) : OpL P E N nb σ o v := ok_move ho hx
theorem s1 (x : Operand) (hx : VScal (σ.ev x) u := by exact VScal.one rfl) (hr : ∀ ρ : Operand → Value, ρ x = u → ∀ w, (execOp ρ o).run P w = .ok (.value v) w := by intro ρ h1 w; go_simp; (try go_bits); with_reducible rfl) (hv : v.oneCell' = true := by rfl) : OpL P E N nb σ o (V.one (.sc v)) := ok_s1 hx hr hv
theorem s2 (x x' : Operand) (hx : VScal (σ.ev x) u := by exact VScal.one rfl) (hx' : VScal (σ.ev x') u' := by exact VScal.one rfl) (hr : ∀ ρ : Operand → Value, ρ x = u → ρ x' = u' → ∀ w, (execOp ρ o).run P w = .ok (.value v) w := by intro ρ h1 h2 w; go_simp; (try go_bits); with_reducible rfl) (hv : v.oneCell' = true := by rfl) : OpL P E N nb σ o (V.one (.sc v)) := ok_s2 hx hx' hr hv
theorem pt (ho : o.op = .pick c x y := by rfl) (hc : σ.ev c = V.one (.sc (.bool true)) := by rfl) (hx : σ.ev x = V.one (.sc u) := by rfl) : OpL P E N nb σ o (V.one (.sc u)) := ok_pickT ho hc hx
theorem pf (ho : o.op = .pick c x y := by rfl) (hc : σ.ev c = V.one (.sc (.bool false)) := by rfl) (hx : σ.ev y = V.one (.sc u) := by rfl) : OpL P E N nb σ o (V.one (.sc u)) := ok_pickF ho hc hx
theorem fb {b o' : Nat} {off : Nat} {s : TypeId} {f : Nat} (hf : ∀ (ad : Addr) w, ad.spot = none → (Instr.fieldAt s (.pointer (some ad)) f).run P w = .ok (.pointer (some ⟨ad.block, ad.off + off, none⟩)) w) (ho : o.op = .fieldAddr s x f := by rfl) (hx : σ.ev x = V.one (.bp b o') := by rfl) : OpL P E N nb σ o (V.one (.bp b (o' + off))) := ok_field_bp ho hx hf
theorem lb (b i : Nat) {m : Nat} {ty ty' : TypeId} {ag : Bool} {xs : List Leaf} (ys : List Leaf) (hag : ∀ w, (isAgg ty).run P w = .ok ag w) (hm : ∃ inf, P.info? ty = some inf ∧ inf.size = m) (h1 : ag = false → m = 1) (ho : o.op = .load ty x := by rfl) (hx : σ.ev x = V.one (.bp b i) := by rfl) (hb : σ.bs[b]? = some (ty', xs) := by rfl) (hy : (xs.drop i).take m = ys := by rfl) (hyl : ys.length = m := by rfl) (hnb : Nat.ble (b + 1) nb = true := by rfl) : OpL P E N nb σ o (V.flat ag ys) := ok_load_bp ho hx hb hag hm h1 hy hyl (Nat.le_of_ble_eq_true hnb)
theorem cl {f : FuncId} {xs : List Operand} {ats : Array TypeId} {qs rs : List (Bool × List T)} {tup : Bool} {fn : Func} {cd : Go.Code} (ls : List (Bool × List Leaf)) (ho : o.op = .call { callee := .value (.func f), args := xs.toArray, argTypes := ats }) (hf : P.funcs[f]? = some fn) (hc : VC P f qs tup rs) (hx : σ.argss xs qs) (hb : fn.body = some cd := by rfl) (hn : fn.name ≠ "runtime.NumGoroutine" := by decide) (hk : ansLs σ.nx rs = ls := by rfl) (hd : o.dst = some d := by rfl) (hdN : Nat.ble (d + 1) N = true := by rfl) : OpMk P E N none σ o ((ansSs σ rs).put d ⟨tup, ls⟩) := ok_call hk ho ⟨_, _, hf, hb, hn⟩ hc hx hd (Nat.le_of_ble_eq_true hdN)
end
theorem d1 {fn : Func} {rvs : List ResultVar} {t : T} {e : Exit} (x : Leaf) (hf : fn.results = rvs.toArray) (hx : σ.out x = some t) (hr : ResAll P σ rvs [(false, [x])] := by exact ResAll.cons (ResOk.tmp rfl) ResAll.nil') (he : e = .ret ∨ e = .normal := by first | exact .inl rfl | exact .inr rfl) : SV E N σ (bodyPost P fn (Gives E false [(false, [t])]) e) := SV.done (ps := [(false, [x])]) (qs := [(false, [t])]) hf hr ⟨rfl, ⟨hx, trivial⟩, trivial⟩ rfl (by simp) he
theorem st {b i m : Nat} {ty ty' : TypeId} {x y : Operand} {ag : Bool} {xs : List Leaf} (zs ys : List Leaf) (hm : ∃ inf, P.info? ty = some inf ∧ inf.size = m) (h1 : ag = false → m = 1) (ho : o.op = .store ty x y := by rfl) (hx : σ.ev x = V.one (.bp b i) := by rfl) (hy : σ.ev y = V.flat ag zs := by rfl) (hb : σ.bs[b]? = some (ty', xs) := by rfl) (hzl : zs.length = m := by rfl) (hi : Nat.ble (i + m) xs.length = true := by rfl) (hlv' : zs.all Leaf.live = true := by rfl) (hd : o.dst = none := by rfl) (hk : xs.take i ++ zs ++ xs.drop (i + zs.length) = ys := by rfl) : OpOk P E N σ o (σ.setb b ty' ys) := ok_store_bp ho hx hy hb hm h1 hzl (Nat.le_of_ble_eq_true hi) hlv' hd hk
theorem lo {τ : VS} {ρ : Nat → Nat} {x y : Leaf} {v : V} (h : v = V.one x := by rfl) (l : Leaf.le σ τ ρ x y := by first | rfl | (show Leaf.sc _ = Leaf.sc _; refine congrArg Leaf.sc ?_; first | rfl | go_num | (simp [cntAll]; done)) | (simp [cntAll]; done) | (simp; omega)) : V.le σ τ ρ v (V.one y) := V.le.one h l
theorem lbq {a b : Bool} (h : a = b) : some (T.lit (Value.bool a)) = some (T.lit (Value.bool b)) := by rw [h]
theorem liq {a b : Int} (h : a = b) : some (T.lit (Value.int .i64 a)) = some (T.lit (Value.int .i64 b)) := by rw [h]
theorem lsq {ty : TypeId} {a b : List (List T)} (h : a = b) : some (T.seq ty a) = some (T.seq ty b) := by rw [h]
end Go.Proofs.Ytpnbnbhifpcelaa.V
/- What the programs' types are to the model: sizes, zeros, fields, elements; no function of program or reference. -/
namespace Go.Proofs.Ytpnbnbhifpcelaa.V
open Go Go.RowKit
set_option linter.unusedVariables false
set_option maxRecDepth 10000
theorem sz_impl_Row : Sz 72 3 := Sz.of (by kernel_rfl)
theorem agg_impl_Row (w : World) : (isAgg 72).run Try.prog w = .ok true w := by go_simp <;> rfl
theorem zero_impl_Row (w : World) : (zeroValue 72).run Try.prog w = .ok (.agg #[.int .i64 0, .int .i64 0, .int .i64 0]) w := by go_simp <;> rfl
theorem fld_impl_Row_0 (ad : Addr) (w : World) (h : ad.spot = none) : (Instr.fieldAt 72 (.pointer (some ad)) 0).run Try.prog w = .ok (.pointer (some ⟨ad.block, ad.off + 0, none⟩)) w := by
 obtain ⟨b, o, s⟩ := ad
 subst h
 go_simp
theorem fld_impl_Row_1 (ad : Addr) (w : World) (h : ad.spot = none) : (Instr.fieldAt 72 (.pointer (some ad)) 1).run Try.prog w = .ok (.pointer (some ⟨ad.block, ad.off + 1, none⟩)) w := by
 obtain ⟨b, o, s⟩ := ad
 subst h
 go_simp
theorem fld_impl_Row_2 (ad : Addr) (w : World) (h : ad.spot = none) : (Instr.fieldAt 72 (.pointer (some ad)) 2).run Try.prog w = .ok (.pointer (some ⟨ad.block, ad.off + 2, none⟩)) w := by
 obtain ⟨b, o, s⟩ := ad
 subst h
 go_simp
theorem sz_impl_Run : Sz 84 1 := Sz.of (by kernel_rfl)
theorem agg_impl_Run (w : World) : (isAgg 84).run Try.prog w = .ok true w := by go_simp <;> rfl
theorem zero_impl_Run (w : World) : (zeroValue 84).run Try.prog w = .ok (.agg #[.slice none 0 0]) w := by go_simp <;> rfl
theorem fld_impl_Run_0 (ad : Addr) (w : World) (h : ad.spot = none) : (Instr.fieldAt 84 (.pointer (some ad)) 0).run Try.prog w = .ok (.pointer (some ⟨ad.block, ad.off + 0, none⟩)) w := by
 obtain ⟨b, o, s⟩ := ad
 subst h
 go_simp
theorem bld_impl_Run (vs : Array (Nat × Value)) (r : Array Value) (w : World) (h : Instr.fill (fun i => ([(0, 1)] : List (Nat × Nat))[i]?) (Value.cells (.agg #[.slice none 0 0])) vs.toList = some r) : (Instr.build 84 vs).run Try.prog w = .ok (.agg r) w := by
 have h2 := h
 simp only [Value.cells] at h2
 unfold Instr.build
 simp only [Sem.run_bind, zero_impl_Run, Result.andThen_ok]
 go_simp
theorem sz_impl_Sorter : Sz 27 10 := Sz.of (by kernel_rfl)
theorem agg_impl_Sorter (w : World) : (isAgg 27).run Try.prog w = .ok true w := by go_simp <;> rfl
theorem zero_impl_Sorter (w : World) : (zeroValue 27).run Try.prog w = .ok (.agg #[.slice none 0 0, .int .i64 0, .slice none 0 0, .slice none 0 0, .slice none 0 0, .slice none 0 0, .int .i64 0, .int .i64 0, .int .i64 0, .int .i64 0]) w := by go_simp <;> rfl
theorem fld_impl_Sorter_0 (ad : Addr) (w : World) (h : ad.spot = none) : (Instr.fieldAt 27 (.pointer (some ad)) 0).run Try.prog w = .ok (.pointer (some ⟨ad.block, ad.off + 0, none⟩)) w := by
 obtain ⟨b, o, s⟩ := ad
 subst h
 go_simp
theorem fld_impl_Sorter_1 (ad : Addr) (w : World) (h : ad.spot = none) : (Instr.fieldAt 27 (.pointer (some ad)) 1).run Try.prog w = .ok (.pointer (some ⟨ad.block, ad.off + 1, none⟩)) w := by
 obtain ⟨b, o, s⟩ := ad
 subst h
 go_simp
theorem fld_impl_Sorter_2 (ad : Addr) (w : World) (h : ad.spot = none) : (Instr.fieldAt 27 (.pointer (some ad)) 2).run Try.prog w = .ok (.pointer (some ⟨ad.block, ad.off + 2, none⟩)) w := by
 obtain ⟨b, o, s⟩ := ad
 subst h
 go_simp
theorem fld_impl_Sorter_3 (ad : Addr) (w : World) (h : ad.spot = none) : (Instr.fieldAt 27 (.pointer (some ad)) 3).run Try.prog w = .ok (.pointer (some ⟨ad.block, ad.off + 3, none⟩)) w := by
 obtain ⟨b, o, s⟩ := ad
 subst h
 go_simp
theorem fld_impl_Sorter_4 (ad : Addr) (w : World) (h : ad.spot = none) : (Instr.fieldAt 27 (.pointer (some ad)) 4).run Try.prog w = .ok (.pointer (some ⟨ad.block, ad.off + 4, none⟩)) w := by
 obtain ⟨b, o, s⟩ := ad
 subst h
 go_simp
theorem fld_impl_Sorter_5 (ad : Addr) (w : World) (h : ad.spot = none) : (Instr.fieldAt 27 (.pointer (some ad)) 5).run Try.prog w = .ok (.pointer (some ⟨ad.block, ad.off + 5, none⟩)) w := by
 obtain ⟨b, o, s⟩ := ad
 subst h
 go_simp
theorem fld_impl_Sorter_6 (ad : Addr) (w : World) (h : ad.spot = none) : (Instr.fieldAt 27 (.pointer (some ad)) 6).run Try.prog w = .ok (.pointer (some ⟨ad.block, ad.off + 6, none⟩)) w := by
 obtain ⟨b, o, s⟩ := ad
 subst h
 go_simp
theorem fld_impl_Sorter_7 (ad : Addr) (w : World) (h : ad.spot = none) : (Instr.fieldAt 27 (.pointer (some ad)) 7).run Try.prog w = .ok (.pointer (some ⟨ad.block, ad.off + 7, none⟩)) w := by
 obtain ⟨b, o, s⟩ := ad
 subst h
 go_simp
theorem fld_impl_Sorter_8 (ad : Addr) (w : World) (h : ad.spot = none) : (Instr.fieldAt 27 (.pointer (some ad)) 8).run Try.prog w = .ok (.pointer (some ⟨ad.block, ad.off + 8, none⟩)) w := by
 obtain ⟨b, o, s⟩ := ad
 subst h
 go_simp
theorem fld_impl_Sorter_9 (ad : Addr) (w : World) (h : ad.spot = none) : (Instr.fieldAt 27 (.pointer (some ad)) 9).run Try.prog w = .ok (.pointer (some ⟨ad.block, ad.off + 9, none⟩)) w := by
 obtain ⟨b, o, s⟩ := ad
 subst h
 go_simp
theorem sz_impl_selection : Sz 95 3 := Sz.of (by kernel_rfl)
theorem zero_impl_selection (w : World) : (zeroValue 95).run Try.prog w = .ok (.agg #[.slice none 0 0, .slice none 0 0, .slice none 0 0]) w := by go_simp <;> rfl
theorem fld_impl_selection_0 (ad : Addr) (w : World) (h : ad.spot = none) : (Instr.fieldAt 95 (.pointer (some ad)) 0).run Try.prog w = .ok (.pointer (some ⟨ad.block, ad.off + 0, none⟩)) w := by
 obtain ⟨b, o, s⟩ := ad
 subst h
 go_simp
theorem fld_impl_selection_1 (ad : Addr) (w : World) (h : ad.spot = none) : (Instr.fieldAt 95 (.pointer (some ad)) 1).run Try.prog w = .ok (.pointer (some ⟨ad.block, ad.off + 1, none⟩)) w := by
 obtain ⟨b, o, s⟩ := ad
 subst h
 go_simp
theorem fld_impl_selection_2 (ad : Addr) (w : World) (h : ad.spot = none) : (Instr.fieldAt 95 (.pointer (some ad)) 2).run Try.prog w = .ok (.pointer (some ⟨ad.block, ad.off + 2, none⟩)) w := by
 obtain ⟨b, o, s⟩ := ad
 subst h
 go_simp
theorem bld_impl_selection (vs : Array (Nat × Value)) (r : Array Value) (w : World) (h : Instr.fill (fun i => ([(0, 1), (1, 1), (2, 1)] : List (Nat × Nat))[i]?) (Value.cells (.agg #[.slice none 0 0, .slice none 0 0, .slice none 0 0])) vs.toList = some r) : (Instr.build 95 vs).run Try.prog w = .ok (.agg r) w := by
 have h2 := h
 simp only [Value.cells] at h2
 unfold Instr.build
 simp only [Sem.run_bind, zero_impl_selection, Result.andThen_ok]
 go_simp
theorem sz_int : Sz 3 1 := Sz.of (by kernel_rfl)
theorem agg_int (w : World) : (isAgg 3).run Try.prog w = .ok false w := by go_simp <;> rfl
theorem sz_laws_Row : Sz 74 3 := Sz.of (by kernel_rfl)
theorem agg_laws_Row (w : World) : (isAgg 74).run Try.prog w = .ok true w := by go_simp <;> rfl
theorem fld_laws_Row_0 (ad : Addr) (w : World) (h : ad.spot = none) : (Instr.fieldAt 74 (.pointer (some ad)) 0).run Try.prog w = .ok (.pointer (some ⟨ad.block, ad.off + 0, none⟩)) w := by
 obtain ⟨b, o, s⟩ := ad
 subst h
 go_simp
theorem fld_laws_Row_1 (ad : Addr) (w : World) (h : ad.spot = none) : (Instr.fieldAt 74 (.pointer (some ad)) 1).run Try.prog w = .ok (.pointer (some ⟨ad.block, ad.off + 1, none⟩)) w := by
 obtain ⟨b, o, s⟩ := ad
 subst h
 go_simp
theorem fld_laws_Row_2 (ad : Addr) (w : World) (h : ad.spot = none) : (Instr.fieldAt 74 (.pointer (some ad)) 2).run Try.prog w = .ok (.pointer (some ⟨ad.block, ad.off + 2, none⟩)) w := by
 obtain ⟨b, o, s⟩ := ad
 subst h
 go_simp
theorem sz_laws_Run : Sz 102 1 := Sz.of (by kernel_rfl)
theorem agg_laws_Run (w : World) : (isAgg 102).run Try.prog w = .ok true w := by go_simp <;> rfl
theorem fld_laws_Run_0 (ad : Addr) (w : World) (h : ad.spot = none) : (Instr.fieldAt 102 (.pointer (some ad)) 0).run Try.prog w = .ok (.pointer (some ⟨ad.block, ad.off + 0, none⟩)) w := by
 obtain ⟨b, o, s⟩ := ad
 subst h
 go_simp
theorem sz_laws_Sorter : Sz 38 10 := Sz.of (by kernel_rfl)
theorem agg_laws_Sorter (w : World) : (isAgg 38).run Try.prog w = .ok true w := by go_simp <;> rfl
theorem fld_laws_Sorter_0 (ad : Addr) (w : World) (h : ad.spot = none) : (Instr.fieldAt 38 (.pointer (some ad)) 0).run Try.prog w = .ok (.pointer (some ⟨ad.block, ad.off + 0, none⟩)) w := by
 obtain ⟨b, o, s⟩ := ad
 subst h
 go_simp
theorem fld_laws_Sorter_1 (ad : Addr) (w : World) (h : ad.spot = none) : (Instr.fieldAt 38 (.pointer (some ad)) 1).run Try.prog w = .ok (.pointer (some ⟨ad.block, ad.off + 1, none⟩)) w := by
 obtain ⟨b, o, s⟩ := ad
 subst h
 go_simp
theorem fld_laws_Sorter_2 (ad : Addr) (w : World) (h : ad.spot = none) : (Instr.fieldAt 38 (.pointer (some ad)) 2).run Try.prog w = .ok (.pointer (some ⟨ad.block, ad.off + 2, none⟩)) w := by
 obtain ⟨b, o, s⟩ := ad
 subst h
 go_simp
theorem fld_laws_Sorter_3 (ad : Addr) (w : World) (h : ad.spot = none) : (Instr.fieldAt 38 (.pointer (some ad)) 3).run Try.prog w = .ok (.pointer (some ⟨ad.block, ad.off + 3, none⟩)) w := by
 obtain ⟨b, o, s⟩ := ad
 subst h
 go_simp
theorem fld_laws_Sorter_4 (ad : Addr) (w : World) (h : ad.spot = none) : (Instr.fieldAt 38 (.pointer (some ad)) 4).run Try.prog w = .ok (.pointer (some ⟨ad.block, ad.off + 4, none⟩)) w := by
 obtain ⟨b, o, s⟩ := ad
 subst h
 go_simp
theorem fld_laws_Sorter_5 (ad : Addr) (w : World) (h : ad.spot = none) : (Instr.fieldAt 38 (.pointer (some ad)) 5).run Try.prog w = .ok (.pointer (some ⟨ad.block, ad.off + 5, none⟩)) w := by
 obtain ⟨b, o, s⟩ := ad
 subst h
 go_simp
theorem fld_laws_Sorter_6 (ad : Addr) (w : World) (h : ad.spot = none) : (Instr.fieldAt 38 (.pointer (some ad)) 6).run Try.prog w = .ok (.pointer (some ⟨ad.block, ad.off + 6, none⟩)) w := by
 obtain ⟨b, o, s⟩ := ad
 subst h
 go_simp
theorem fld_laws_Sorter_7 (ad : Addr) (w : World) (h : ad.spot = none) : (Instr.fieldAt 38 (.pointer (some ad)) 7).run Try.prog w = .ok (.pointer (some ⟨ad.block, ad.off + 7, none⟩)) w := by
 obtain ⟨b, o, s⟩ := ad
 subst h
 go_simp
theorem fld_laws_Sorter_8 (ad : Addr) (w : World) (h : ad.spot = none) : (Instr.fieldAt 38 (.pointer (some ad)) 8).run Try.prog w = .ok (.pointer (some ⟨ad.block, ad.off + 8, none⟩)) w := by
 obtain ⟨b, o, s⟩ := ad
 subst h
 go_simp
theorem fld_laws_Sorter_9 (ad : Addr) (w : World) (h : ad.spot = none) : (Instr.fieldAt 38 (.pointer (some ad)) 9).run Try.prog w = .ok (.pointer (some ⟨ad.block, ad.off + 9, none⟩)) w := by
 obtain ⟨b, o, s⟩ := ad
 subst h
 go_simp
theorem sz_s_impl_Row : Sz 24 1 := Sz.of (by kernel_rfl)
theorem agg_s_impl_Row (w : World) : (isAgg 24).run Try.prog w = .ok false w := by go_simp <;> rfl
theorem sz_s_impl_Run : Sz 25 1 := Sz.of (by kernel_rfl)
theorem agg_s_impl_Run (w : World) : (isAgg 25).run Try.prog w = .ok false w := by go_simp <;> rfl
theorem sz_s_laws_Row : Sz 22 1 := Sz.of (by kernel_rfl)
theorem agg_s_laws_Row (w : World) : (isAgg 22).run Try.prog w = .ok false w := by go_simp <;> rfl
theorem sz_s_laws_Run : Sz 36 1 := Sz.of (by kernel_rfl)
theorem agg_s_laws_Run (w : World) : (isAgg 36).run Try.prog w = .ok false w := by go_simp <;> rfl
theorem elt_impl_Row : ElT 24 72 3 (.agg #[.int .i64 0, .int .i64 0, .int .i64 0]) 24 := ⟨Try.underlying24, by kernel_rfl, rfl, by decide, by decide, by decide⟩
theorem elt_impl_Run : ElT 25 84 1 (.agg #[.slice none 0 0]) 24 := ⟨Try.underlying25, by kernel_rfl, rfl, by decide, by decide, by decide⟩
theorem elt_laws_Row : ElT 22 74 3 (.agg #[.int .i64 0, .int .i64 0, .int .i64 0]) 24 := ⟨Try.underlying22, by kernel_rfl, rfl, by decide, by decide, by decide⟩
theorem elt_laws_Run : ElT 36 102 1 (.agg #[.slice none 0 0]) 24 := ⟨Try.underlying36, by kernel_rfl, rfl, by decide, by decide, by decide⟩
theorem elt_s_impl_Row : ElT 125 24 1 (.slice none 0 0) 24 := ⟨Try.underlying125, by kernel_rfl, rfl, by decide, by decide, by decide⟩
end Go.Proofs.Ytpnbnbhifpcelaa.V
