/- Texts joined: Mem Shape VMk Apart Only ToRow ToRows Mark OpenRow Opens. -/
import Derived.Test.YtmlcdhblofjpbaaDoorPartDeleteUnreadableFilesd
import Derived.Test.YtmlcdhblofjpbaaDoorProg
import Derived.WalkKit
import Derived.Below
import Derived.Lib.Hide
import Derived.OwnWalk
import Derived.IntWalk
import Derived.Laws.OwnMore
import Derived.OpenShut
import Derived.Lib.SmallJoins
import Derived.Laws.AppendOwnNone
import Derived.Deep.RegionLaw
import Derived.Deep.RegionLawGrows
import Derived.Deep.AppendLies
import Derived.Lib.SliceRun
import Derived.BigQuiet
import Derived.Deep.Slices
import Derived.Deep.Strs
/- Rows in memory, slices over shapes, slices built element by element, appends; no function of program or reference is walked here. -/
namespace Go.Proofs.YtmlcdhblofjpbaaDoor
open Go.RowKit

/-- A row as a struct's value. -/
def R.val (r : R) : Value := .agg #[.int .i64 r.key, .int .i64 r.value, .int .i64 r.width]
/-- The three cells of a row at a place. -/
def RowAt (w : World) (b o : Nat) (r : R) : Prop := w.cell? ⟨b, o, none⟩ = some (.int .i64 r.key) ∧ w.cell? ⟨b, o + 1, none⟩ = some (.int .i64 r.value) ∧ w.cell? ⟨b, o + 2, none⟩ = some (.int .i64 r.width)
theorem RowAt.below {w w' : World} {B b o : Nat} {r : R} (h : RowAt w b o r) (hb : Below B w w') (hlt : b < B) : RowAt w' b o r :=
  ⟨(hb.cell hlt).trans h.1, (hb.cell hlt).trans h.2.1, (hb.cell hlt).trans h.2.2⟩
/-- A row laid in a block of its own, behind a call. -/
theorem box_row {w w' : World} {r : R} {t : TypeId} (hb : Below (w.alloc (.cells #[.int .i64 r.key, .int .i64 r.value, .int .i64 r.width] t)).heap.size (w.alloc (.cells #[.int .i64 r.key, .int .i64 r.value, .int .i64 r.width] t)) w') :
    RowAt w' w.heap.size 0 r ∧ Below w.heap.size w w' := by
  have hs : w.heap.size < (w.alloc (.cells #[.int .i64 r.key, .int .i64 r.value, .int .i64 r.width] t)).heap.size := by simp
  refine ⟨RowAt.below ⟨?_, ?_, ?_⟩ hb hs, ?_⟩
  · simp
  · simp
  · simp
  · exact ((Below.refl _ _).alloc (Nat.le_refl _) _).trans (hb.mono (by simp))
theorem box_lt {w w' : World} {cs : Array Value} {t : TypeId} {fr : Nat × Nat} (hb : Below (w.alloc (.cells cs t fr)).heap.size (w.alloc (.cells cs t fr)) w') : w.heap.size < w'.heap.size := Nat.lt_of_lt_of_le (by simp) hb.size
/-- Two rows laid in blocks of their own, one behind the other. -/
theorem box2 (w : World) (a b : R) (s t : TypeId) : ∃ W, W = (w.alloc (.cells #[.int .i64 a.key, .int .i64 a.value, .int .i64 a.width] s)).alloc (.cells #[.int .i64 b.key, .int .i64 b.value, .int .i64 b.width] t) ∧
    RowAt W w.heap.size 0 a ∧ RowAt W (w.heap.size + 1) 0 b ∧ Below w.heap.size w W ∧ w.heap.size + 1 < W.heap.size := by
  refine ⟨_, rfl, ⟨?_, ?_, ?_⟩, ⟨?_, ?_, ?_⟩, Joins.below_alloc2 _ _ _, by simp⟩ <;> simp
/-- Two rows lie in blocks of their own, above what was there at w's time. -/
structure Boxes (w : World) (a b : R) (v : World) : Prop where
  a0 : v.cell? ⟨w.heap.size, 0, none⟩ = some (.int .i64 a.key)
  a1 : v.cell? ⟨w.heap.size, 1, none⟩ = some (.int .i64 a.value)
  a2 : v.cell? ⟨w.heap.size, 2, none⟩ = some (.int .i64 a.width)
  b0 : v.cell? ⟨w.heap.size + 1, 0, none⟩ = some (.int .i64 b.key)
  b1 : v.cell? ⟨w.heap.size + 1, 1, none⟩ = some (.int .i64 b.value)
  b2 : v.cell? ⟨w.heap.size + 1, 2, none⟩ = some (.int .i64 b.width)
  old : Below w.heap.size w v
  big : w.heap.size + 1 < v.heap.size
theorem boxes_start (w : World) (a b : R) (s t : TypeId) : ∃ W, W = (w.alloc (.cells #[.int .i64 a.key, .int .i64 a.value, .int .i64 a.width] s)).alloc (.cells #[.int .i64 b.key, .int .i64 b.value, .int .i64 b.width] t) ∧ Boxes w a b W := by
  refine ⟨_, rfl, ?_, ?_, ?_, ?_, ?_, ?_, Joins.below_alloc2 _ _ _, by simp⟩ <;> simp
theorem Boxes.drew {w v : World} {a b : R} (h : Boxes w a b v) : Boxes w a b v.drew := ⟨h.a0, h.a1, h.a2, h.b0, h.b1, h.b2, h.old.drew, h.big⟩
theorem Boxes.next {w v v' : World} {a b : R} (h : Boxes w a b v) (hb : Below v.heap.size v v') : Boxes w a b v' := by
  have h1 : w.heap.size < v.heap.size := by have := h.big; omega
  exact ⟨(hb.cell h1).trans h.a0, (hb.cell h1).trans h.a1, (hb.cell h1).trans h.a2, (hb.cell h.big).trans h.b0, (hb.cell h.big).trans h.b1, (hb.cell h.big).trans h.b2, h.old.trans (hb.mono (Nat.le_of_lt h1)), Nat.lt_of_lt_of_le h.big hb.size⟩
/-- A slice of rows: nil, or none, or cells. -/
def IsRows (w : World) (a : Option Addr) (len : Nat) (L : List R) : Prop :=
  L.length = len ∧ (∀ r ∈ L, r.wf) ∧ (len = 0 ∨ ∃ b o : Nat, a = some ⟨b, o, none⟩ ∧ b < w.heap.size ∧ ∀ t, t < len → RowAt w b (o + t * 3) (L.getD t R.zero))
theorem IsRows.below {w w' : World} {a : Option Addr} {len B : Nat} {L : List R} (h : IsRows w a len L) (hb : Below B w w') (ha : ∀ x, a = some x → 0 < len → x.block < B) : IsRows w' a len L := by
  obtain ⟨h1, h2, h3⟩ := h
  refine ⟨h1, h2, ?_⟩
  rcases h3 with h3 | ⟨b, o, rfl, hlt, h3⟩
  · exact .inl h3
  · rcases Nat.eq_zero_or_pos len with h0 | h0
    · exact .inl h0
    · exact .inr ⟨b, o, rfl, Nat.lt_of_lt_of_le hlt hb.size, fun t ht => (h3 t ht).below hb (ha _ rfl h0)⟩
/-- Whatever keeps all that was there keeps the rows. -/
theorem IsRows.keep {w w' : World} {a : Option Addr} {len : Nat} {L : List R} (h : IsRows w a len L) (hb : Below w.heap.size w w') : IsRows w' a len L := by
  obtain ⟨h1, h2, h3⟩ := h
  refine ⟨h1, h2, ?_⟩
  rcases h3 with h3 | ⟨b, o, rfl, hlt, h3⟩
  · exact .inl h3
  · exact .inr ⟨b, o, rfl, Nat.lt_of_lt_of_le hlt hb.size, fun t ht => (h3 t ht).below hb hlt⟩
/-- Rows that lie below a bound; what keeps all below it keeps them. -/
def RowsLow (a : Option Addr) (len B : Nat) : Prop := ∀ x, a = some x → 0 < len → x.block < B
theorem IsRows.old {w : World} {a : Option Addr} {len : Nat} {L : List R} (h : IsRows w a len L) : RowsLow a len w.heap.size := by
  intro x hx hp
  obtain ⟨-, -, h0 | ⟨b, o, rfl, hlt, -⟩⟩ := h
  · omega
  · cases hx; exact hlt
theorem IsRows.low {w w' : World} {a : Option Addr} {len B : Nat} {L : List R} (h : IsRows w a len L) (hl : Hid (RowsLow a len B)) (hb : Below B w w') : IsRows w' a len L := h.below hb hl.out
theorem IsRows.wf {w : World} {a : Option Addr} {len : Nat} {L : List R} (h : IsRows w a len L) (t : Nat) (ht : t < len) : (L.getD t R.zero).wf := by
  have hl : t < L.length := by rw [h.1]; exact ht
  have : L.getD t R.zero = L[t] := by simp [List.getD, hl]
  rw [this]
  exact h.2.1 _ (List.getElem_mem hl)
/-- The cells of a row of rows. -/
def cells3 (L : List R) : List Value := L.flatMap fun r => [.int .i64 r.key, .int .i64 r.value, .int .i64 r.width]
theorem cells3_length (L : List R) : (cells3 L).length = L.length * 3 := by
  induction L with
  | nil => rfl
  | cons r L ih => unfold cells3 at ih ⊢; rw [List.flatMap_cons, List.length_append, ih]; simp; omega
theorem cells3_get (L : List R) : ∀ (t : Nat), t < L.length → (cells3 L)[t * 3]? = some (.int .i64 (L.getD t R.zero).key) ∧ (cells3 L)[t * 3 + 1]? = some (.int .i64 (L.getD t R.zero).value) ∧ (cells3 L)[t * 3 + 2]? = some (.int .i64 (L.getD t R.zero).width) := by
  induction L with
  | nil => intro t ht; simp at ht
  | cons r L ih =>
    intro t ht
    cases t with
    | zero => exact ⟨rfl, rfl, rfl⟩
    | succ t =>
      have := ih t (by simpa using ht)
      have e : cells3 (r :: L) = .int .i64 r.key :: .int .i64 r.value :: .int .i64 r.width :: cells3 L := rfl
      rw [e, show (t + 1) * 3 = t * 3 + 3 by omega]
      simpa using this
theorem cells3_set (L : List R) : ∀ (t : Nat) (r : R), t < L.length → (((cells3 L).set (t * 3) (.int .i64 r.key)).set (t * 3 + 1) (.int .i64 r.value)).set (t * 3 + 2) (.int .i64 r.width) = cells3 (L.set t r) := by
  induction L with
  | nil => intro t r ht; simp at ht
  | cons q L ih =>
    intro t r ht
    cases t with
    | zero => rfl
    | succ t =>
      have := ih t r (by simpa using ht)
      have e : cells3 (q :: L) = .int .i64 q.key :: .int .i64 q.value :: .int .i64 q.width :: cells3 L := rfl
      have e' : cells3 ((q :: L).set (t + 1) r) = .int .i64 q.key :: .int .i64 q.value :: .int .i64 q.width :: cells3 (L.set t r) := rfl
      rw [e, e', show (t + 1) * 3 = t * 3 + 3 by omega, ← this]
      simp [List.set]
theorem cells3_append (L M : List R) : cells3 L ++ cells3 M = cells3 (L ++ M) := by simp [cells3]

theorem cells3_val (r : R) : r.val.cells = #[.int .i64 r.key, .int .i64 r.value, .int .i64 r.width] := rfl
theorem made_rows (n : Nat) : madeCells R.zero.val.cells (n * 3) = (cells3 (List.replicate n R.zero)).toArray := by
  apply Array.ext_getElem?
  intro i
  by_cases hi : i < n * 3
  · have hz : (List.replicate n R.zero).getD (i / 3) R.zero = R.zero := by
      simp only [List.getD, List.getElem?_replicate]
      rw [if_pos (by omega)]; rfl
    obtain ⟨e0, e1, e2⟩ := cells3_get (List.replicate n R.zero) (i / 3) (by simp; omega)
    rw [hz] at e0 e1 e2
    have hm : (madeCells R.zero.val.cells (n * 3))[i]? = some (.int .i64 0) := by
      have h3 : i % 3 = 0 ∨ i % 3 = 1 ∨ i % 3 = 2 := by omega
      simp only [madeCells, cells3_val, R.zero, Array.getElem?_map, Array.getElem?_range, hi, if_true, Option.map_some, List.size_toArray, List.length_cons, List.length_nil]
      rcases h3 with h | h | h <;> simp [h]
    rw [hm, List.getElem?_toArray]
    have : i = i / 3 * 3 ∨ i = i / 3 * 3 + 1 ∨ i = i / 3 * 3 + 2 := by omega
    rcases this with h | h | h
    · rw [h]; exact e0.symm
    · rw [h]; exact e1.symm
    · rw [h]; exact e2.symm
  · rw [Array.getElem?_eq_none (by rw [size_madeCells]; omega), List.getElem?_toArray, List.getElem?_eq_none (by rw [cells3_length, List.length_replicate]; omega)]
theorem rowInfo : (Tryd.prog.info? 41).map (fun i => (i.zero, i.size, i.bytes)) = some (some R.zero.val, 3, 24) := by kernel_rfl
/-- 'make([]impl.Row, n)'. -/
theorem run_make_rows (n : Nat) (hn : n ≤ 1000000000000) (w : World) :
    (Instr.makeSlice 24 (.int .i64 (n : Int)) (.int .i64 (n : Int))).run Tryd.prog w = .ok (.slice (some ⟨w.heap.size, 0, none⟩) n n) (w.alloc (.cells (cells3 (List.replicate n R.zero)).toArray 41)) := by
  obtain ⟨i0, hi, hz0, hz1, hz2⟩ := info_parts rowInfo
  have h := run_make (P := Tryd.prog) w 24 41 i0 R.zero.val Tryd.underlying24 hi hz0 .i64 .i64 (n : Int) (n : Int) (by omega) (by omega) (by rw [hz2]; omega) (by omega)
  rw [h, hz1, Int.toNat_natCast, made_rows]
/-- A row of a block of the call's own. -/
theorem rows_cells {w : World} {g : Nat} {M : List R} {t : TypeId} (h : w.heap[g]? = some (.cells (cells3 M).toArray t (0, 0))) (k : Nat) (hk : k < M.length) : RowAt w g (k * 3) (M.getD k R.zero) := by
  obtain ⟨e0, e1, e2⟩ := cells3_get M k hk
  refine ⟨?_, ?_, ?_⟩ <;> simp only [World.cell?, h] <;> simpa
theorem rows_set {w : World} {g : Nat} {M : List R} {t : TypeId} (h : w.heap[g]? = some (.cells (cells3 M).toArray t (0, 0))) (k : Nat) (hk : k < M.length) (r : R) :
    (((w.setCell ⟨g, k * 3, none⟩ (.int .i64 r.key)).setCell ⟨g, k * 3 + 1, none⟩ (.int .i64 r.value)).setCell ⟨g, k * 3 + 2, none⟩ (.int .i64 r.width)).heap[g]? = some (.cells (cells3 (M.set k r)).toArray t (0, 0)) := by
  have h1 := Joins.block_setCell h (i := k * 3) (.int .i64 r.key)
  have h2 := Joins.block_setCell h1 (i := k * 3 + 1) (.int .i64 r.value)
  have h3 := Joins.block_setCell h2 (i := k * 3 + 2) (.int .i64 r.width)
  rw [h3, ← cells3_set M k r hk]
  simp
theorem set_next (L : List R) (n k : Nat) (hn : L.length = n) (hk : k < n) : (L.take k ++ List.replicate (n - k) R.zero).set k (L.getD k R.zero) = L.take (k + 1) ++ List.replicate (n - (k + 1)) R.zero := by
  have hkl : k < L.length := by omega
  rw [List.set_append_right _ _ (by simp; omega)]
  have e : n - k = (n - (k + 1)) + 1 := by omega
  have e2 : k - (L.take k).length = 0 := by simp; omega
  have e3 : L.getD k R.zero = L[k] := by simp [List.getD, hkl]
  rw [e2, e, List.replicate_succ, List.set_cons_zero, e3, List.take_succ_eq_append_getElem hkl, List.append_assoc]
  rfl
theorem below_set3 {B : Nat} {w w' : World} {g : Nat} (h : Below B w w') (hg : B ≤ g) (i j k : Nat) (x y z : Value) : Below B w (((w'.setCell ⟨g, i, none⟩ x).setCell ⟨g, j, none⟩ y).setCell ⟨g, k, none⟩ z) :=
  ((h.setCell hg x).setCell hg y).setCell hg z
theorem rows_free {w : World} {g : Nat} {M : List R} {t : TypeId} (h : w.heap[g]? = some (.cells (cells3 M).toArray t (0, 0))) (i : Nat) : w.frozen? ⟨g, i, none⟩ = false := by simp [World.frozen?, h]
theorem rows_of {w : World} {g len : Nat} {L : List R} {t : TypeId} (h : w.heap[g]? = some (.cells (cells3 L).toArray t (0, 0))) (hl : L.length = len) (hwf : ∀ r ∈ L, r.wf) : IsRows w (some ⟨g, 0, none⟩) len L :=
  ⟨hl, hwf, .inr ⟨g, 0, rfl, lt_of_block h, fun t ht => by rw [Nat.zero_add]; exact rows_cells h t (by omega)⟩⟩
end Go.Proofs.YtmlcdhblofjpbaaDoor
namespace Go.Proofs.YtmlcdhblofjpbaaDoor
open Go.RowKit

/-- 'out = append(out, r)'. -/
theorem wpList_pushR {ops : Array Oper} {rest : List Oper} {o : Oper} {a : Act} {Q : Exit → Act → World → Prop} {wr : World} {B : Nat} {M : List R} {v : Value} (s x : Operand) (r : R) (N : Nat) (hN : N = wr.heap.size)
    (hgd : o.guard = none) (ho : o.op = .call { callee := .builtin .append, args := #[s, x], argTypes := #[24, 24] })
    (hs : a.eval s = v) (hx : a.eval x = .slice (some ⟨N, 0, none⟩) 1 1) (hown : wr.ownsRow B 41 3 v M.length (cells3 M)) (hB : B ≤ wr.heap.size)
    (hlen : (M.length + 1) * 24 ≤ 140737488355328)
    (h : ∀ v' w', w'.ownsRow B 41 3 v' (M ++ [r]).length (cells3 (M ++ [r])) → Below B wr w' → (∀ i, i < wr.heap.size → v.ownBlock ≠ some i → w'.heap[i]? = wr.heap[i]?) → wpList Tryd.prog ops Q rest (a.put o.dst v') w') :
    wpList Tryd.prog ops Q (o :: rest) a (wr.alloc (.cells #[.int .i64 r.key, .int .i64 r.value, .int .i64 r.width] 41)) := by
  subst hN
  obtain ⟨i0, hi, hz0, hz1, hz2⟩ := info_parts rowInfo
  refine wpList_append_own _ hgd s x 24 ho B 41 i0 R.zero.val 3 24 Tryd.underlying24 hi hz0 hz1 hz2 rfl (by decide) v M.length (cells3 M) hs (hown.alloc _)
    ⟨wr.heap.size, 0, none⟩ 1 1 [.int .i64 r.key, .int .i64 r.value, .int .i64 r.width] hx rfl ?_ (by intro u hu; simp at hu; rcases hu with rfl | rfl | rfl <;> rfl) (by unfold maxLen; omega) (by omega) (by simp; omega) ?_
  · intro j u hj
    match j, hj with
    | 0, hj => simp at hj; subst hj; simp [Addr.add]
    | 1, hj => simp at hj; subst hj; simp [Addr.add]
    | 2, hj => simp at hj; subst hj; simp [Addr.add]
  · intro v' w' hown' hg _
    have e : cells3 M ++ [.int .i64 r.key, .int .i64 r.value, .int .i64 r.width] = cells3 (M ++ [r]) := by rw [← cells3_append]; rfl
    rw [e] at hown'
    exact h v' w' (by simpa using hown') (((Below.refl B wr).alloc hB _).grown hg (by simp; omega) fun k hk => (hown.lt k hk).1)
      fun i hi hne => (hg.block i (by simp; omega) (fun e => hne e.symm)).trans (Below.heap_alloc _ _ i hi)
theorem own_below {w w' : World} {B : Nat} {v : Value} {n : Nat} {xs : List Value} (h : w.ownsRow B 41 3 v n xs) (hb : Below w.heap.size w w') : w'.ownsRow B 41 3 v n xs := by
  obtain ⟨h1, h0 | ⟨g, cap, cur, rfl, hB, hh, h2⟩⟩ := h
  · exact ⟨h1, .inl h0⟩
  · exact ⟨h1, .inr ⟨g, cap, cur, rfl, hB, (hb.block g (lt_of_block hh)).trans hh, h2⟩⟩
theorem own_apart {w : World} {B g : Nat} {v : Value} {n : Nat} {xs : List Value} {cs : Array Value} {fz : Nat × Nat} (h : w.ownsRow B 41 3 v n xs) (hg : w.heap[g]? = some (.cells cs 9 fz)) : v.ownBlock ≠ some g := by
  intro e
  rcases h.2 with ⟨rfl, _⟩ | ⟨g', cap, cur, rfl, hB, hh, h2⟩
  · simp [Value.ownBlock] at e
  · simp [Value.ownBlock] at e
    subst e
    rw [hh] at hg
    simp at hg
/-- What was appended, as a slice of rows. -/
theorem rows_of_own {w : World} {B : Nat} {v : Value} {M : List R} (h : w.ownsRow B 41 3 v M.length (cells3 M)) (hwf : ∀ r ∈ M, r.wf) : ∃ a cap, v = .slice a M.length cap ∧ IsRows w a M.length M := by
  rcases h.2 with ⟨rfl, h0⟩ | ⟨g, cap, cur, rfl, hB, hh, hcap, hmax, hsz, htake⟩
  · refine ⟨none, 0, by rw [h0], rfl, hwf, .inl h0⟩
  · refine ⟨_, cap, rfl, rfl, hwf, .inr ⟨g, 0, rfl, lt_of_block hh, fun t ht => ?_⟩⟩
    obtain ⟨e0, e1, e2⟩ := cells3_get M t ht
    have hc : ∀ (j : Nat) (u : Value), (cells3 M)[j]? = some u → w.cell? ⟨g, j, none⟩ = some u := by
      intro j u hu
      have hjl : j < M.length * 3 := by have := (List.getElem?_eq_some_iff.1 hu).1; rwa [cells3_length] at this
      rw [← htake, List.getElem?_take, if_pos hjl] at hu
      simp only [World.cell?, hh]
      simpa using hu
    rw [Nat.zero_add]
    exact ⟨hc _ _ e0, hc _ _ e1, hc _ _ e2⟩
/-- A slice of rows over a block of its own from base on, or an empty one. -/
def OwnRows (w : World) (base : Nat) (a : Option Addr) (len : Nat) (L : List R) : Prop :=
  L.length = len ∧ (len = 0 ∨ ∃ g, a = some ⟨g, 0, none⟩ ∧ base ≤ g ∧ w.heap[g]? = some (.cells (cells3 L).toArray 41 (0, 0)))
theorem OwnRows.rows {w : World} {base : Nat} {a : Option Addr} {len : Nat} {L : List R} (h : OwnRows w base a len L) (hwf : ∀ r ∈ L, r.wf) : IsRows w a len L := by
  obtain ⟨hl, h0 | ⟨g, rfl, hg, hb⟩⟩ := h
  · exact ⟨hl, hwf, .inl h0⟩
  · exact rows_of hb hl hwf
theorem OwnRows.keep {w w' : World} {base : Nat} {a : Option Addr} {len : Nat} {L : List R} (h : OwnRows w base a len L) (hb : Below w.heap.size w w') : OwnRows w' base a len L := by
  obtain ⟨hl, h0 | ⟨g, rfl, hg, hh⟩⟩ := h
  · exact ⟨hl, .inl h0⟩
  · exact ⟨hl, .inr ⟨g, rfl, hg, (hb.block g (lt_of_block hh)).trans hh⟩⟩
/-- The rows as the laws mark them. -/
def marked (n : Nat) (k : Int) : List R := (List.range n).map fun (t : Nat) => ⟨k + 3 * (t : Int), k + 3 * (t : Int) + 1, k + 3 * (t : Int) + 2⟩
theorem marked_length (n : Nat) (k : Int) : (marked n k).length = n := by simp [marked]
theorem marked_get (n : Nat) (k : Int) (t : Nat) (ht : t < n) : (marked n k).getD t R.zero = ⟨k + 3 * t, k + 3 * t + 1, k + 3 * t + 2⟩ := by simp [marked, List.getD, ht]
theorem marked_snoc (n : Nat) (k : Int) : marked (n + 1) k = marked n k ++ [⟨k + 3 * n, k + 3 * n + 1, k + 3 * n + 2⟩] := by simp [marked, List.range_succ]
theorem marked_set (n k : Nat) (q : Int) (L : List R) (hl : L.length = n) (hk : k < n) : (marked k q ++ L.drop k).set k ⟨q + 3 * k, q + 3 * k + 1, q + 3 * k + 2⟩ = marked (k + 1) q ++ L.drop (k + 1) := by
  rw [List.set_append_right _ _ (by rw [marked_length]; exact Nat.le_refl _), marked_length, Nat.sub_self, marked_snoc, List.append_assoc]
  congr 1
  rw [List.drop_eq_getElem_cons (by omega)]
  rfl
end Go.Proofs.YtmlcdhblofjpbaaDoor
namespace Go.Proofs.YtmlcdhblofjpbaaDoor
open Go.RowKit

/-- The slice v holds L in a block of its own, from block B on. -/
def Mine (w : World) (B : Nat) (v : Value) (L : List R) : Prop := w.ownsRow B 41 3 v L.length (cells3 L)
theorem Mine.keep {w w' : World} {B : Nat} {v : Value} {L : List R} (h : Mine w B v L) (hb : Below w.heap.size w w') : Mine w' B v L := own_below h hb
theorem Mine.mono {w : World} {B B' : Nat} {v : Value} {L : List R} (h : Mine w B v L) (hb : B' ≤ B) : Mine w B' v L := by
  obtain ⟨h1, h0 | ⟨g, cap, cur, hv, hB, h2⟩⟩ := h
  · exact ⟨h1, .inl h0⟩
  · exact ⟨h1, .inr ⟨g, cap, cur, hv, Nat.le_trans hb hB, h2⟩⟩
theorem Mine.slice {w : World} {B : Nat} {v : Value} {L : List R} (h : Mine w B v L) : ∃ a cap, v = .slice a L.length cap := by
  rcases h.2 with ⟨rfl, h0⟩ | ⟨g, cap, cur, rfl, -⟩
  · exact ⟨none, 0, by rw [h0]⟩
  · exact ⟨_, _, rfl⟩
theorem Mine.len {w : World} {B : Nat} {a : Option Addr} {len cap : Nat} {L : List R} (h : Mine w B (.slice a len cap) L) : L.length = len := by
  obtain ⟨a', cap', e⟩ := h.slice
  injection e with _ e2 _
  exact e2.symm
theorem Mine.rows {w : World} {B : Nat} {a : Option Addr} {len cap : Nat} {L : List R} (h : Mine w B (.slice a len cap) L) (hwf : ∀ r ∈ L, r.wf) : IsRows w a len L := by
  obtain ⟨a', cap', e, hr⟩ := rows_of_own h hwf
  injection e with e1 e2 e3
  subst e1 e2
  exact hr
theorem Mine.at {w : World} {B : Nat} {a : Option Addr} {len cap : Nat} {L : List R} (h : Mine w B (.slice a len cap) L) {k : Nat} (hk : k < len) :
    ∃ g, a = some ⟨g, 0, none⟩ ∧ B ≤ g ∧ g < w.heap.size ∧ RowAt w g (k * 3) (L.getD k R.zero) ∧ (∀ i, w.frozen? ⟨g, i, none⟩ = false) ∧
      ∀ r : R, Mine (((w.setCell ⟨g, k * 3, none⟩ (.int .i64 r.key)).setCell ⟨g, k * 3 + 1, none⟩ (.int .i64 r.value)).setCell ⟨g, k * 3 + 2, none⟩ (.int .i64 r.width)) B (.slice (some ⟨g, 0, none⟩) len cap) (L.set k r) := by
  have hl := h.len
  obtain ⟨h1, ⟨h0, h2⟩ | ⟨g, cap', cur, hv, hB, hh, hcap, hmax, hsz, htake⟩⟩ := h
  · omega
  · injection hv with e1 e2 e3
    subst e1 e3
    refine ⟨g, rfl, hB, lt_of_block hh, ?_, fun i => by simp [World.frozen?, hh], fun r => ?_⟩
    · obtain ⟨e0, e1, e2⟩ := cells3_get L k (by omega)
      have hc : ∀ (j : Nat) (u : Value), (cells3 L)[j]? = some u → w.cell? ⟨g, j, none⟩ = some u := by
        intro j u hu
        have hjl : j < L.length * 3 := by have := (List.getElem?_eq_some_iff.1 hu).1; rwa [cells3_length] at this
        rw [← htake, List.getElem?_take, if_pos hjl] at hu
        simp only [World.cell?, hh]
        simpa using hu
      exact ⟨hc _ _ e0, hc _ _ e1, hc _ _ e2⟩
    · have s1 := Joins.block_setCell hh (i := k * 3) (.int .i64 r.key)
      have s2 := Joins.block_setCell s1 (i := k * 3 + 1) (.int .i64 r.value)
      have s3 := Joins.block_setCell s2 (i := k * 3 + 2) (.int .i64 r.width)
      refine ⟨by rw [cells3_length], .inr ⟨g, cap, _, by rw [List.length_set, hl], hB, s3, by rw [List.length_set]; exact hcap, hmax, by simpa using hsz, ?_⟩⟩
      rw [← cells3_set L k r (by omega), ← htake]
      simp [List.take_set]
/-- A block of just these rows. -/
theorem mine_of_block {w : World} {B g len : Nat} {L : List R} (h : w.heap[g]? = some (.cells (cells3 L).toArray 41 (0, 0))) (hB : B ≤ g) (hl : L.length = len) (hm : len ≤ maxLen) : Mine w B (.slice (some ⟨g, 0, none⟩) len len) L :=
  ⟨cells3_length L, .inr ⟨g, len, _, by rw [hl], hB, h, by omega, hm, by rw [List.size_toArray, cells3_length, hl], by rw [← cells3_length]; simp⟩⟩
theorem mine_none (w : World) (B : Nat) : Mine w B (.slice none 0 0) [] := ⟨rfl, .inl ⟨rfl, rfl⟩⟩
/-- Fewer of them. -/
theorem Mine.take {w : World} {B : Nat} {a : Option Addr} {len cap : Nat} {L : List R} (h : Mine w B (.slice a len cap) L) {k : Nat} (hk : k ≤ len) : Mine w B (.slice a k cap) (L.take k) := by
  have hl := h.len
  have hlen : (L.take k).length = k := by rw [List.length_take]; omega
  obtain ⟨h1, ⟨h0, h2⟩ | ⟨g, cap', cur, hv, hB, hh, hcap, hmax, hsz, htake⟩⟩ := h
  · injection h0 with e1 e2 e3
    subst e1 e2 e3
    obtain rfl : k = 0 := by omega
    exact mine_none w B
  · injection hv with e1 e2 e3
    subst e1 e3
    refine ⟨cells3_length _, .inr ⟨g, cap, cur, by rw [hlen], hB, hh, by omega, hmax, hsz, ?_⟩⟩
    have e : cells3 L = cells3 (L.take k) ++ cells3 (L.drop k) := by rw [cells3_append, List.take_append_drop]
    have e2 : (cells3 (L.take k)).length = (L.take k).length * 3 := cells3_length _
    rw [← e2]
    have e3 : cur.toList.take ((cells3 (L.take k)).length) = (cur.toList.take (L.length * 3)).take ((cells3 (L.take k)).length) := by
      rw [List.take_take]
      congr 1
      rw [e2, hlen]
      omega
    rw [e3, htake, e, List.take_left]
theorem one_row (r : R) : ∀ u ∈ [Value.int .i64 r.key, .int .i64 r.value, .int .i64 r.width], u.oneCell' = true := by
  intro u hu; simp at hu; rcases hu with rfl | rfl | rfl <;> rfl
theorem one_cells (L : List R) : ∀ u ∈ cells3 L, u.oneCell' = true := by
  intro u hu
  obtain ⟨r, -, hr⟩ := List.mem_flatMap.1 hu
  exact one_row r u hr
theorem IsRows.cell {w : World} {a : Option Addr} {len : Nat} {L : List R} (h : IsRows w a len L) : ∃ ad : Addr, (0 < len → a = some ad) ∧ ∀ j u, (cells3 L)[j]? = some u → w.cell? (ad.add j) = some u := by
  obtain ⟨h1, h2, h0 | ⟨b, o, rfl, hlt, hc⟩⟩ := h
  · refine ⟨⟨0, 0, none⟩, fun h => by omega, fun j u hj => ?_⟩
    have : L = [] := List.eq_nil_of_length_eq_zero (by omega)
    subst this
    simp [cells3] at hj
  · refine ⟨⟨b, o, none⟩, fun _ => rfl, fun j u hj => ?_⟩
    have hjl : j < L.length * 3 := by have := (List.getElem?_eq_some_iff.1 hj).1; rwa [cells3_length] at this
    obtain ⟨c0, c1, c2⟩ := hc (j / 3) (by omega)
    obtain ⟨e0, e1, e2⟩ := cells3_get L (j / 3) (by omega)
    rw [Addr.add_lit]
    have h3 : j = j / 3 * 3 ∨ j = j / 3 * 3 + 1 ∨ j = j / 3 * 3 + 2 := by omega
    rcases h3 with h | h | h
    · rw [h] at hj ⊢; rw [e0] at hj; rw [c0]; exact hj
    · rw [h] at hj ⊢; rw [e1] at hj; rw [← Nat.add_assoc, c1]; exact hj
    · rw [h] at hj ⊢; rw [e2] at hj; rw [← Nat.add_assoc, c2]; exact hj
/-- 'append(x, y...)', y at an address. -/
theorem wpList_appendR {ops : Array Oper} {rest : List Oper} {o : Oper} {a : Act} {Q : Exit → Act → World → Prop} {w : World} {B : Nat} {M L : List R} {v : Value} (s x : Operand) (ad : Addr) (m c : Nat)
    (hgd : o.guard = none) (ho : o.op = .call { callee := .builtin .append, args := #[s, x], argTypes := #[24, 24] })
    (hs : a.eval s = v) (hx : a.eval x = .slice (some ad) m c) (hown : Mine w B v M) (hl : L.length = m) (hc : ∀ j u, (cells3 L)[j]? = some u → w.cell? (ad.add j) = some u) (hB : B ≤ w.heap.size)
    (hlen : M.length + m ≤ 1000000000000)
    (h : ∀ v' w', Mine w' B v' (M ++ L) → w.grownBy w' v.ownBlock → (v' = .slice none 0 0 ↔ v = .slice none 0 0 ∧ m = 0) → wpList Tryd.prog ops Q rest (a.put o.dst v') w') :
    wpList Tryd.prog ops Q (o :: rest) a w := by
  obtain ⟨i0, hi, hz0, hz1, hz2⟩ := info_parts rowInfo
  refine wpList_append_own _ hgd s x 24 ho B 41 i0 R.zero.val 3 24 Tryd.underlying24 hi hz0 hz1 hz2 rfl (by decide) v M.length (cells3 M) hs hown
    ad m c (cells3 L) hx (by rw [cells3_length, hl]) hc (one_cells L) (by unfold maxLen; omega) (by omega) hB ?_
  intro v' w' hown' hg hn
  rw [cells3_append] at hown'
  exact h v' w' (by unfold Mine; rw [List.length_append, hl]; exact hown') hg hn
end Go.Proofs.YtmlcdhblofjpbaaDoor
namespace Go.Proofs.YtmlcdhblofjpbaaDoor
open Go.RowKit

/-- A stretch of a block: the block, its first cell, the cell behind its last. -/
structure Reg where
  b : Nat
  lo : Nat
  hi : Nat
def Reg.apart (x y : Reg) : Prop := x.b ≠ y.b ∨ x.hi ≤ y.lo ∨ y.hi ≤ x.lo
theorem Reg.apart_symm {x y : Reg} (h : x.apart y) : y.apart x := by
  rcases h with h | h | h
  · exact .inl fun e => h e.symm
  · exact .inr (.inr h)
  · exact .inr (.inl h)
/-- The stretches' cells are as they were. -/
structure Stay (F : List Reg) (w w' : World) : Prop where
  size : w.heap.size ≤ w'.heap.size
  cell : ∀ r ∈ F, ∀ j, r.lo ≤ j → j < r.hi → w'.cell? ⟨r.b, j, none⟩ = w.cell? ⟨r.b, j, none⟩ ∧ w'.frozen? ⟨r.b, j, none⟩ = w.frozen? ⟨r.b, j, none⟩
/-- Only the stretches' cells have changed, and what is new. -/
structure OnlyAt (F : List Reg) (w w' : World) : Prop where
  os : w'.os = w.os
  tape : w'.tape = w.tape
  output : w'.output = w.output
  size : w.heap.size ≤ w'.heap.size
  block : ∀ b, b < w.heap.size → (∀ r ∈ F, r.b ≠ b) → w'.heap[b]? = w.heap[b]?
  cell : ∀ b j, b < w.heap.size → (∀ r ∈ F, r.b = b → j < r.lo ∨ r.hi ≤ j) → w'.cell? ⟨b, j, none⟩ = w.cell? ⟨b, j, none⟩
  frozen : ∀ b j, b < w.heap.size → w'.frozen? ⟨b, j, none⟩ = w.frozen? ⟨b, j, none⟩
theorem OnlyAt.refl (F : List Reg) (w : World) : OnlyAt F w w := ⟨rfl, rfl, rfl, Nat.le_refl _, fun _ _ _ => rfl, fun _ _ _ _ => rfl, fun _ _ _ => rfl⟩
theorem OnlyAt.trans {F : List Reg} {a b c : World} (h : OnlyAt F a b) (k : OnlyAt F b c) : OnlyAt F a c :=
  ⟨k.os.trans h.os, k.tape.trans h.tape, k.output.trans h.output, Nat.le_trans h.size k.size, fun i hi hne => (k.block i (Nat.lt_of_lt_of_le hi h.size) hne).trans (h.block i hi hne),
    fun i j hi hne => (k.cell i j (Nat.lt_of_lt_of_le hi h.size) hne).trans (h.cell i j hi hne), fun i j hi => (k.frozen i j (Nat.lt_of_lt_of_le hi h.size)).trans (h.frozen i j hi)⟩
theorem OnlyAt.mono {F G : List Reg} {a b : World} (h : OnlyAt F a b) (hs : ∀ r ∈ F, r ∈ G) : OnlyAt G a b :=
  ⟨h.os, h.tape, h.output, h.size, fun i hi hne => h.block i hi fun r hr => hne r (hs r hr), fun i j hi hne => h.cell i j hi fun r hr => hne r (hs r hr), h.frozen⟩
theorem OnlyAt.below {F : List Reg} {B : Nat} {a b : World} (h : OnlyAt F a b) (hB : B ≤ a.heap.size) (hF : ∀ r ∈ F, B ≤ r.b) : Below B a b :=
  ⟨h.os, h.tape, h.output, h.size, fun i hi => h.block i (Nat.lt_of_lt_of_le hi hB) fun r hr e => by have := hF r hr; omega⟩
theorem OnlyAt.of_below {F : List Reg} {a b : World} (h : Below a.heap.size a b) : OnlyAt F a b :=
  ⟨h.os, h.tape, h.output, h.size, fun i hi _ => h.block i hi, fun i _ hi _ => World.cell?_of_block (h.block i hi), fun i _ hi => World.frozen?_of_block (h.block i hi)⟩
theorem OnlyAt.set {F : List Reg} {a w : World} (h : OnlyAt F a w) {r : Reg} (hr : r ∈ F) {b j : Nat} (hb : r.b = b) (h1 : r.lo ≤ j) (h2 : j < r.hi) (u : Value) : OnlyAt F a (w.setCell ⟨b, j, none⟩ u) := by
  refine ⟨h.os, h.tape, h.output, by simpa [World.setCell] using h.size, fun i hi hne => ?_, fun i k hi hne => ?_, fun i k hi => ?_⟩
  · exact (Below.heap_setCell w ⟨b, j, none⟩ u i (fun e => hne r hr (by rw [hb, e]))).trans (h.block i hi hne)
  · refine (World.cell?_setCell_other _ _ _ _ (fun e => ?_)).trans (h.cell i k hi hne)
    simp only [Addr.mk.injEq] at e
    have := hne r hr (hb.trans (by have := e.1; omega))
    have := e.2.1
    omega
  · exact (World.frozen?_setCell w _ _ _).trans (h.frozen i k hi)
theorem Stay.of_only {F G : List Reg} {w w' : World} (h : OnlyAt F w w') (hap : ∀ x ∈ F, ∀ y ∈ G, x.apart y) (hlt : ∀ y ∈ G, y.b < w.heap.size) : Stay G w w' :=
  ⟨h.size, fun y hy j h1 h2 => ⟨h.cell y.b j (hlt y hy) fun x hx e => by
    rcases hap x hx y hy with hn | hn | hn
    · exact absurd e hn
    · right; omega
    · left; omega, h.frozen y.b j (hlt y hy)⟩⟩
theorem Stay.of_below {G : List Reg} {w w' : World} {B : Nat} (h : Below B w w') (hlt : ∀ y ∈ G, y.b < B) : Stay G w w' :=
  ⟨h.size, fun y hy _ _ _ => ⟨World.cell?_of_block (h.block y.b (hlt y hy)), World.frozen?_of_block (h.block y.b (hlt y hy))⟩⟩
theorem Stay.sub {F G : List Reg} {w w' : World} (h : Stay G w w') (hs : ∀ r ∈ F, r ∈ G) : Stay F w w' := ⟨h.size, fun r hr => h.cell r (hs r hr)⟩
/-- The cells from a place on. -/
def CellsAt (w : World) (b o : Nat) (cs : List Value) : Prop := ∀ (j : Nat) (u : Value), cs[j]? = some u → w.cell? ⟨b, o + j, none⟩ = some u
theorem CellsAt.below {w w' : World} {B b o : Nat} {cs : List Value} (h : CellsAt w b o cs) (hb : Below B w w') (hlt : b < B) : CellsAt w' b o cs := fun j u hj => (hb.cell hlt).trans (h j u hj)
theorem CellsAt.lt {w : World} {b o : Nat} {cs : List Value} (h : CellsAt w b o cs) (hl : 0 < cs.length) : b < w.heap.size := World.block_lt_of_cell? w _ (h 0 cs[0] (by simp [hl]))

/-- How values of a type lie in memory: 'H': what the cells say beside the datum (the slices' heads); 'inn': what lies behind those heads; 'own': the same, in memory of the call's own, whose stretches are listed. -/
structure Rep (α : Type) where
  H : Type
  size : Nat
  cells : α → H → List Value
  inn : World → α → H → Prop
  own : World → Nat → α → H → List Reg → Prop
  len : ∀ x h, (cells x h).length = size
  inn_keep : ∀ {w w' x h}, inn w x h → Below w.heap.size w w' → inn w' x h
  own_inn : ∀ {w B x h F}, own w B x h F → inn w x h
  own_lt : ∀ {w B x h F}, own w B x h F → ∀ r ∈ F, B ≤ r.b ∧ r.b < w.heap.size
  own_stay : ∀ {w w' B x h F}, own w B x h F → Stay F w w' → own w' B x h F
  own_apart : ∀ {w B x h F}, own w B x h F → F.Pairwise Reg.apart
  own_mono : ∀ {w B B' x h F}, own w B x h F → B' ≤ B → own w B' x h F

/-- A slice: what it holds. -/
def SeqIn {α : Type} (r : Rep α) (w : World) (a : Option Addr) (n : Nat) (xs : List α) : Prop :=
  xs.length = n ∧ n ≤ maxLen ∧ (n = 0 ∨ ∃ b o : Nat, a = some ⟨b, o, none⟩ ∧ b < w.heap.size ∧ ∃ hs : Nat → r.H, ∀ t x, xs[t]? = some x → CellsAt w b (o + t * r.size) (r.cells x (hs t)) ∧ r.inn w x (hs t))
/-- A slice in memory of the call's own. -/
def SeqOwn {α : Type} (r : Rep α) (w : World) (B : Nat) (a : Option Addr) (n : Nat) (xs : List α) (F : List Reg) : Prop :=
  xs.length = n ∧ n ≤ maxLen ∧ ((n = 0 ∧ F = []) ∨ ∃ (b o : Nat) (hs : Nat → r.H) (Fs : Nat → List Reg), a = some ⟨b, o, none⟩ ∧ B ≤ b ∧ b < w.heap.size ∧ F = ⟨b, o, o + n * r.size⟩ :: (List.range n).flatMap Fs ∧ F.Pairwise Reg.apart ∧
    (∀ j, o ≤ j → j < o + n * r.size → w.frozen? ⟨b, j, none⟩ = false) ∧ ∀ t x, xs[t]? = some x → CellsAt w b (o + t * r.size) (r.cells x (hs t)) ∧ r.own w B x (hs t) (Fs t))
theorem idx_lt {α : Type} {xs : List α} {t : Nat} {x : α} (h : xs[t]? = some x) : t < xs.length := (List.getElem?_eq_some_iff.1 h).1
theorem at_le {t n s : Nat} (h : t < n) : t * s + s ≤ n * s := by
  have := Nat.mul_le_mul_right s (show t + 1 ≤ n from h)
  rwa [Nat.add_mul, Nat.one_mul] at this
theorem SeqIn.keep {α : Type} {r : Rep α} {w w' : World} {a : Option Addr} {n : Nat} {xs : List α} (h : SeqIn r w a n xs) (hb : Below w.heap.size w w') : SeqIn r w' a n xs := by
  obtain ⟨h1, hm, h2⟩ := h
  refine ⟨h1, hm, h2.imp_right ?_⟩
  rintro ⟨b, o, rfl, hlt, hs, hx⟩
  exact ⟨b, o, rfl, Nat.lt_of_lt_of_le hlt hb.size, hs, fun t x ht => ⟨(hx t x ht).1.below hb hlt, r.inn_keep (hx t x ht).2 hb⟩⟩
theorem SeqOwn.lt {α : Type} {r : Rep α} {w : World} {B : Nat} {a : Option Addr} {n : Nat} {xs : List α} {F : List Reg} (h : SeqOwn r w B a n xs F) : ∀ y ∈ F, B ≤ y.b ∧ y.b < w.heap.size := by
  obtain ⟨h1, -, ⟨-, rfl⟩ | ⟨b, o, hs, Fs, rfl, hB, hlt, rfl, -, -, hx⟩⟩ := h
  · intro y hy; cases hy
  · intro y hy
    rcases List.mem_cons.1 hy with rfl | hy
    · exact ⟨hB, hlt⟩
    · obtain ⟨t, ht, hy⟩ := List.mem_flatMap.1 hy
      have htl : t < xs.length := by rw [h1]; exact List.mem_range.1 ht
      exact r.own_lt (hx t xs[t] (by simp [htl])).2 y hy
theorem SeqOwn.stay {α : Type} {r : Rep α} {w w' : World} {B : Nat} {a : Option Addr} {n : Nat} {xs : List α} {F : List Reg} (h : SeqOwn r w B a n xs F) (hs : Stay F w w') : SeqOwn r w' B a n xs F := by
  obtain ⟨h1, hm, h2⟩ := h
  refine ⟨h1, hm, h2.imp_right ?_⟩
  rintro ⟨b, o, hh, Fs, rfl, hB, hlt, rfl, hp, hf, hx⟩
  have hc := hs.cell ⟨b, o, o + n * r.size⟩ (List.mem_cons_self ..)
  refine ⟨b, o, hh, Fs, rfl, hB, Nat.lt_of_lt_of_le hlt hs.size, rfl, hp, fun j ha hb => ((hc j ha hb).2).trans (hf j ha hb), fun t x ht => ?_⟩
  have htn : t < n := by rw [← h1]; exact idx_lt ht
  refine ⟨fun j u hj => ?_, r.own_stay (hx t x ht).2 (hs.sub fun y hy => List.mem_cons_of_mem _ (List.mem_flatMap.2 ⟨t, List.mem_range.2 htn, hy⟩))⟩
  have hjl : j < r.size := by rw [← r.len x (hh t)]; exact idx_lt hj
  have hle := at_le (s := r.size) htn
  exact ((hc (o + t * r.size + j) (by simp only; omega) (by simp only; omega)).1).trans ((hx t x ht).1 j u hj)
theorem SeqOwn.inn {α : Type} {r : Rep α} {w : World} {B : Nat} {a : Option Addr} {n : Nat} {xs : List α} {F : List Reg} (h : SeqOwn r w B a n xs F) : SeqIn r w a n xs := by
  obtain ⟨h1, hm, ⟨h0, -⟩ | ⟨b, o, hs, Fs, rfl, -, hlt, -, -, -, hx⟩⟩ := h
  · exact ⟨h1, hm, .inl h0⟩
  · exact ⟨h1, hm, .inr ⟨b, o, rfl, hlt, hs, fun t x ht => ⟨(hx t x ht).1, r.own_inn (hx t x ht).2⟩⟩⟩
theorem SeqOwn.apart {α : Type} {r : Rep α} {w : World} {B : Nat} {a : Option Addr} {n : Nat} {xs : List α} {F : List Reg} (h : SeqOwn r w B a n xs F) : F.Pairwise Reg.apart := by
  obtain ⟨h1, -, ⟨-, rfl⟩ | ⟨b, o, hs, Fs, rfl, -, hlt, -, hp, -⟩⟩ := h
  · exact List.Pairwise.nil
  · exact hp
theorem SeqOwn.mono {α : Type} {r : Rep α} {w : World} {B B' : Nat} {a : Option Addr} {n : Nat} {xs : List α} {F : List Reg} (h : SeqOwn r w B a n xs F) (hb : B' ≤ B) : SeqOwn r w B' a n xs F := by
  obtain ⟨h1, hm, h2⟩ := h
  refine ⟨h1, hm, h2.imp_right ?_⟩
  rintro ⟨b, o, hs, Fs, rfl, hB, hlt, hF, hp, hf, hx⟩
  exact ⟨b, o, hs, Fs, rfl, Nat.le_trans hb hB, hlt, hF, hp, hf, fun t x ht => ⟨(hx t x ht).1, r.own_mono (hx t x ht).2 hb⟩⟩
theorem SeqOwn.keep {α : Type} {r : Rep α} {w w' : World} {B : Nat} {a : Option Addr} {n : Nat} {xs : List α} {F : List Reg} (h : SeqOwn r w B a n xs F) (hb : Below w.heap.size w w') : SeqOwn r w' B a n xs F :=
  h.stay (Stay.of_below hb fun y hy => (h.lt y hy).2)
/-- What changes other stretches alone. -/
theorem SeqOwn.far {α : Type} {r : Rep α} {w w' : World} {B : Nat} {a : Option Addr} {n : Nat} {xs : List α} {F G : List Reg} (h : SeqOwn r w B a n xs F) (ho : OnlyAt G w w') (hap : ∀ x ∈ G, ∀ y ∈ F, x.apart y) : SeqOwn r w' B a n xs F :=
  h.stay (Stay.of_only ho hap fun y hy => (h.lt y hy).2)
/-- A row: three numbers. -/
def rowRep : Rep R where
  H := Unit
  size := 3
  cells := fun r _ => [.int .i64 r.key, .int .i64 r.value, .int .i64 r.width]
  inn := fun _ r _ => r.wf
  own := fun _ _ r _ F => r.wf ∧ F = []
  len := fun _ _ => rfl
  inn_keep := fun h _ => h
  own_inn := fun h => h.1
  own_lt := fun h y hy => by rw [h.2] at hy; cases hy
  own_stay := fun h _ => h
  own_apart := fun h => by rw [h.2]; exact List.Pairwise.nil
  own_mono := fun h _ => h
/-- A slice of them. -/
def seqRep {α : Type} (r : Rep α) : Rep (List α) where
  H := Option Addr × Nat × Nat
  size := 1
  cells := fun _ h => [.slice h.1 h.2.1 h.2.2]
  inn := fun w xs h => SeqIn r w h.1 h.2.1 xs ∧ (h.1 = none → h.2.2 = 0)
  own := fun w B xs h F => SeqOwn r w B h.1 h.2.1 xs F ∧ (h.1 = none → h.2.2 = 0)
  len := fun _ _ => rfl
  inn_keep := fun h hb => ⟨h.1.keep hb, h.2⟩
  own_inn := fun h => ⟨h.1.inn, h.2⟩
  own_lt := fun h => h.1.lt
  own_stay := fun h hs => ⟨h.1.stay hs, h.2⟩
  own_apart := fun h => h.1.apart
  own_mono := fun h hb => ⟨h.1.mono hb, h.2⟩
/-- One element, and what a change of it leaves. -/
theorem SeqOwn.at {α : Type} {r : Rep α} {w : World} {B : Nat} {a : Option Addr} {n : Nat} {xs : List α} {F : List Reg} (h : SeqOwn r w B a n xs F) {t : Nat} {x : α} (ht : xs[t]? = some x) :
    ∃ (b o : Nat) (hd : r.H) (G : List Reg), a = some ⟨b, o, none⟩ ∧ b < w.heap.size ∧ CellsAt w b (o + t * r.size) (r.cells x hd) ∧ (∀ j, j < r.size → w.frozen? ⟨b, o + t * r.size + j, none⟩ = false) ∧ r.own w B x hd G ∧ (∀ y ∈ G, y ∈ F) ∧
      ∀ w' x', OnlyAt G w w' → r.own w' B x' hd G → r.cells x' hd = r.cells x hd → SeqOwn r w' B a n (xs.set t x') F := by
  have htl := idx_lt ht
  obtain ⟨h1, hm, ⟨h0, -⟩ | ⟨b, o, hs, Fs, rfl, hB, hlt, rfl, hp, hf, hx⟩⟩ := h
  · omega
  · have htn : t < n := by omega
    have hle := at_le (s := r.size) htn
    have hsub : ∀ y ∈ Fs t, y ∈ (⟨b, o, o + n * r.size⟩ : Reg) :: (List.range n).flatMap Fs := fun y hy => List.mem_cons_of_mem _ (List.mem_flatMap.2 ⟨t, List.mem_range.2 htn, hy⟩)
    refine ⟨b, o, hs t, Fs t, rfl, hlt, (hx t x ht).1, fun j hj => hf _ (by omega) (by omega), (hx t x ht).2, hsub, fun w' x' ho hown hce => ?_⟩
    have hhead : ∀ y ∈ Fs t, (⟨b, o, o + n * r.size⟩ : Reg).apart y := fun y hy => (List.pairwise_cons.1 hp).1 y (List.mem_flatMap.2 ⟨t, List.mem_range.2 htn, hy⟩)
    have hst : Stay [⟨b, o, o + n * r.size⟩] w w' := Stay.of_only ho (fun y hy z hz => by rw [List.mem_singleton.1 hz]; exact Reg.apart_symm (hhead y hy)) (fun z hz => by rw [List.mem_singleton.1 hz]; exact hlt)
    have hc := hst.cell ⟨b, o, o + n * r.size⟩ (List.mem_singleton.2 rfl)
    refine ⟨by rw [List.length_set]; exact h1, hm, .inr ⟨b, o, hs, Fs, rfl, hB, Nat.lt_of_lt_of_le hlt ho.size, rfl, hp, fun j ha hb => ((hc j ha hb).2).trans (hf j ha hb), fun s y hy => ?_⟩⟩
    have hsn : s < n := by have := idx_lt hy; rw [List.length_set] at this; omega
    have hles := at_le (s := r.size) hsn
    have hcell : ∀ z, xs[s]? = some z → CellsAt w' b (o + s * r.size) (r.cells z (hs s)) := fun z hz j u hj => by
      have hjl : j < r.size := by rw [← r.len z (hs s)]; exact idx_lt hj
      exact ((hc (o + s * r.size + j) (by simp only; omega) (by simp only; omega)).1).trans ((hx s z hz).1 j u hj)
    by_cases hst' : s = t
    · subst hst'
      rw [List.getElem?_set_self htl] at hy
      obtain rfl := Option.some.inj hy
      exact ⟨by rw [hce]; exact hcell x ht, hown⟩
    · rw [List.getElem?_set_ne (fun e => hst' e.symm)] at hy
      refine ⟨hcell y hy, r.own_stay (hx s y hy).2 (Stay.of_only ho (fun p hp' q hq => ?_) fun q hq => (r.own_lt (hx s y hy).2 q hq).2)⟩
      have hpw := (List.pairwise_cons.1 hp).2
      rw [List.pairwise_flatMap] at hpw
      have hr := hpw.2
      rcases Nat.lt_or_gt_of_ne hst' with h2 | h2
      · exact Reg.apart_symm ((List.pairwise_iff_getElem.1 hr) s t (by simpa using hsn) (by simpa using htn) h2 q (by simpa using hq) p (by simpa using hp'))
      · exact (List.pairwise_iff_getElem.1 hr) t s (by simpa using htn) (by simpa using hsn) h2 p (by simpa using hp') q (by simpa using hq)
end Go.Proofs.YtmlcdhblofjpbaaDoor
namespace Go.Proofs.YtmlcdhblofjpbaaDoor
open Go.RowKit

/-- An element that has been built: its datum, its heads, its stretches. -/
structure El {α : Type} (r : Rep α) where
  x : α
  h : r.H
  F : List Reg
/-- What lies behind the elements' heads is the call's own, each element's apart from the others'. -/
def OwnAll {α : Type} (r : Rep α) (w : World) (B : Nat) (es : List (El r)) : Prop :=
  (∀ e ∈ es, r.own w B e.x e.h e.F) ∧ es.Pairwise fun e f => ∀ x ∈ e.F, ∀ y ∈ f.F, x.apart y
def InAll {α : Type} (r : Rep α) (w : World) (es : List (El r)) : Prop := ∀ e ∈ es, r.inn w e.x e.h
/-- The elements' cells, one behind the other. -/
def cellsOf {α : Type} {r : Rep α} (es : List (El r)) : List Value := es.flatMap fun e => r.cells e.x e.h
theorem cellsOf_length {α : Type} {r : Rep α} (es : List (El r)) : (cellsOf es).length = es.length * r.size := by
  unfold cellsOf
  induction es with
  | nil => simp
  | cons e es ih => rw [List.flatMap_cons, List.length_append, ih, r.len, List.length_cons, Nat.add_mul]; omega
theorem cellsOf_snoc {α : Type} {r : Rep α} (es : List (El r)) (e : El r) : cellsOf (es ++ [e]) = cellsOf es ++ r.cells e.x e.h := by simp [cellsOf]
theorem cellsOf_get {α : Type} {r : Rep α} : ∀ (es : List (El r)) (t : Nat) (e : El r), es[t]? = some e → ∀ j u, (r.cells e.x e.h)[j]? = some u → (cellsOf es)[t * r.size + j]? = some u
  | [], t, e, ht, j, u, hj => by simp at ht
  | e0 :: es, 0, e, ht, j, u, hj => by
    obtain rfl : e0 = e := by simpa using ht
    have hjl := idx_lt hj
    rw [Nat.zero_mul, Nat.zero_add]
    show (r.cells e0.x e0.h ++ cellsOf es)[j]? = _
    rw [List.getElem?_append_left hjl]
    exact hj
  | e0 :: es, t + 1, e, ht, j, u, hj => by
    have ht' : es[t]? = some e := by simpa using ht
    have := cellsOf_get es t e ht' j u hj
    show (r.cells e0.x e0.h ++ cellsOf es)[(t + 1) * r.size + j]? = _
    have hl := r.len e0.x e0.h
    have e1 : (t + 1) * r.size = t * r.size + r.size := by rw [Nat.add_mul, Nat.one_mul]
    rw [List.getElem?_append_right (by omega), hl, show (t + 1) * r.size + j - r.size = t * r.size + j by omega]
    exact this
theorem OwnAll.nil {α : Type} (r : Rep α) (w : World) (B : Nat) : OwnAll r w B [] := ⟨fun e he => (by cases he), List.Pairwise.nil⟩
theorem InAll.nil {α : Type} (r : Rep α) (w : World) : InAll r w [] := fun e he => (by cases he)
theorem OwnAll.inn {α : Type} {r : Rep α} {w : World} {B : Nat} {es : List (El r)} (h : OwnAll r w B es) : InAll r w es := fun e he => r.own_inn (h.1 e he)
theorem OwnAll.stay {α : Type} {r : Rep α} {w w' : World} {B : Nat} {es : List (El r)} (h : OwnAll r w B es) (hs : ∀ e ∈ es, Stay e.F w w') : OwnAll r w' B es := ⟨fun e he => r.own_stay (h.1 e he) (hs e he), h.2⟩
theorem OwnAll.keep {α : Type} {r : Rep α} {w w' : World} {B : Nat} {es : List (El r)} (h : OwnAll r w B es) (hb : Below w.heap.size w w') : OwnAll r w' B es :=
  h.stay fun e he => Stay.of_below hb fun y hy => (r.own_lt (h.1 e he) y hy).2
theorem InAll.keep {α : Type} {r : Rep α} {w w' : World} {es : List (El r)} (h : InAll r w es) (hb : Below w.heap.size w w') : InAll r w' es := fun e he => r.inn_keep (h e he) hb
/-- What changes a block that none of them is in. -/
theorem OwnAll.only {α : Type} {r : Rep α} {w w' : World} {B : Nat} {es : List (El r)} {G : List Reg} (h : OwnAll r w B es) (ho : OnlyAt G w w') (hne : ∀ e ∈ es, ∀ y ∈ e.F, ∀ x ∈ G, x.b ≠ y.b) : OwnAll r w' B es :=
  h.stay fun e he => Stay.of_only ho (fun x hx y hy => .inl (hne e he y hy x hx)) fun y hy => (r.own_lt (h.1 e he) y hy).2
/-- One more, in memory that is new. -/
theorem OwnAll.push {α : Type} {r : Rep α} {w w' : World} {B B' : Nat} {es : List (El r)} (h : OwnAll r w B es) (hb : Below w.heap.size w w') {e : El r} (he : r.own w' B' e.x e.h e.F) (hB : B ≤ B') (hn : w.heap.size ≤ B') : OwnAll r w' B (es ++ [e]) := by
  have hk := h.keep hb
  refine ⟨fun f hf => ?_, ?_⟩
  · rcases List.mem_append.1 hf with hf | hf
    · exact hk.1 f hf
    · rw [List.mem_singleton.1 hf]; exact r.own_mono he hB
  · rw [List.pairwise_append]
    refine ⟨hk.2, List.pairwise_singleton _ _, fun f hf g hg => ?_⟩
    rw [List.mem_singleton.1 hg]
    intro x hx y hy
    have h1 := (r.own_lt (h.1 f hf) x hx).2
    have h2 := (r.own_lt he y hy).1
    exact .inl (by omega)
theorem InAll.push {α : Type} {r : Rep α} {w : World} {es : List (El r)} (h : InAll r w es) {e : El r} (he : r.inn w e.x e.h) : InAll r w (es ++ [e]) := fun f hf => by
  rcases List.mem_append.1 hf with hf | hf
  · exact h f hf
  · rw [List.mem_singleton.1 hf]; exact he
theorem OwnAll.mono {α : Type} {r : Rep α} {w : World} {B B' : Nat} {es : List (El r)} (h : OwnAll r w B es) (hb : B' ≤ B) : OwnAll r w B' es := ⟨fun e he => r.own_mono (h.1 e he) hb, h.2⟩
theorem built_set {cs : List Value} {m t : Nat} {z v : Value} (h : cs.length = t) (hm : 0 < m) : ((cs ++ List.replicate m z).toArray).setIfInBounds t v = (cs ++ [v] ++ List.replicate (m - 1) z).toArray := by
  obtain ⟨k, rfl⟩ : ∃ k, m = k + 1 := ⟨m - 1, by omega⟩
  apply Array.toList_inj.1
  simp only [Array.toList_setIfInBounds]
  rw [List.set_append_right _ _ (by omega), h, Nat.sub_self, List.replicate_succ, List.set_cons_zero]
  simp
/-- The whole, once the elements' cells lie in a block. -/
theorem OwnAll.done {α : Type} {r : Rep α} {w : World} {B g : Nat} {es : List (El r)} (h : OwnAll r w B es) (hg : B ≤ g) (hl : g < w.heap.size) (hf : ∀ j, w.frozen? ⟨g, j, none⟩ = false) (hc : ∀ j u, (cellsOf es)[j]? = some u → w.cell? ⟨g, j, none⟩ = some u)
    (hne : ∀ e ∈ es, ∀ y ∈ e.F, y.b ≠ g) (hm : es.length ≤ maxLen) : ∃ F, SeqOwn r w B (some ⟨g, 0, none⟩) es.length (es.map El.x) F := by
  rcases Nat.eq_zero_or_pos es.length with h0 | h0
  · exact ⟨[], by simp, hm, .inl ⟨h0, rfl⟩⟩
  · obtain ⟨e0, -⟩ : ∃ e0, es[0]? = some e0 := ⟨es[0], by simp [h0]⟩
    refine ⟨_, by simp, hm, .inr ⟨g, 0, fun t => (es.getD t e0).h, fun t => (es.getD t e0).F, rfl, hg, hl, rfl, ?_, fun j _ _ => hf j, fun t x ht => ?_⟩⟩
    · rw [List.pairwise_cons]
      refine ⟨fun y hy => ?_, ?_⟩
      · obtain ⟨t, ht, hy⟩ := List.mem_flatMap.1 hy
        have htl : t < es.length := List.mem_range.1 ht
        have hgd : es.getD t e0 = es[t] := by simp [List.getD, htl]
        rw [hgd] at hy
        exact .inl fun e => hne es[t] (List.getElem_mem htl) y hy e.symm
      · rw [List.pairwise_flatMap]
        refine ⟨fun t ht => ?_, ?_⟩
        · have htl : t < es.length := List.mem_range.1 ht
          have hgd : es.getD t e0 = es[t] := by simp [List.getD, htl]
          rw [hgd]
          exact r.own_apart (h.1 es[t] (List.getElem_mem htl))
        · rw [List.pairwise_iff_getElem]
          intro i j hi hj hij x hx y hy
          simp only [List.getElem_range] at hx hy
          have hil : i < es.length := by simpa using hi
          have hjl : j < es.length := by simpa using hj
          have h1 : es.getD i e0 = es[i] := by simp [List.getD, hil]
          have h2 : es.getD j e0 = es[j] := by simp [List.getD, hjl]
          rw [h1] at hx
          rw [h2] at hy
          exact (List.pairwise_iff_getElem.1 h.2) i j hil hjl hij x hx y hy
    · have htl : t < es.length := by have := idx_lt ht; simpa using this
      have hgd : es.getD t e0 = es[t] := by simp [List.getD, htl]
      obtain rfl : es[t].x = x := by simpa [htl] using ht
      simp only []
      rw [hgd]
      refine ⟨fun j u hj => ?_, h.1 es[t] (List.getElem_mem htl)⟩
      rw [Nat.zero_add]
      exact hc _ _ (cellsOf_get es t es[t] (by simp [htl]) j u hj)
theorem InAll.done {α : Type} {r : Rep α} {w : World} {g o : Nat} {es : List (El r)} (h : InAll r w es) (hl : g < w.heap.size) (hc : ∀ j u, (cellsOf es)[j]? = some u → w.cell? ⟨g, o + j, none⟩ = some u) (hm : es.length ≤ maxLen) :
    SeqIn r w (some ⟨g, o, none⟩) es.length (es.map El.x) := by
  rcases Nat.eq_zero_or_pos es.length with h0 | h0
  · exact ⟨by simp, hm, .inl h0⟩
  · obtain ⟨e0, -⟩ : ∃ e0, es[0]? = some e0 := ⟨es[0], by simp [h0]⟩
    refine ⟨by simp, hm, .inr ⟨g, o, rfl, hl, fun t => (es.getD t e0).h, fun t x ht => ?_⟩⟩
    have htl : t < es.length := by have := idx_lt ht; simpa using this
    have hgd : es.getD t e0 = es[t] := by simp [List.getD, htl]
    obtain rfl : es[t].x = x := by simpa [htl] using ht
    simp only []
    rw [hgd]
    refine ⟨fun j u hj => ?_, h es[t] (List.getElem_mem htl)⟩
    rw [Nat.add_assoc]
    exact hc _ _ (cellsOf_get es t es[t] (by simp [htl]) j u hj)
/-- One element of a slice of slices. -/
theorem SeqIn.at {α : Type} {r : Rep α} {w : World} {a : Option Addr} {n : Nat} {xs : List (List α)} (h : SeqIn (seqRep r) w a n xs) {t : Nat} {x : List α} (ht : xs[t]? = some x) :
    ∃ (b o : Nat) (c : Option Addr) (k m : Nat), a = some ⟨b, o, none⟩ ∧ b < w.heap.size ∧ w.cell? ⟨b, o + t, none⟩ = some (.slice c k m) ∧ SeqIn r w c k x ∧ (c = none → m = 0) := by
  have htl := idx_lt ht
  obtain ⟨h1, -, h0 | ⟨b, o, rfl, hlt, hs, hx⟩⟩ := h
  · omega
  · obtain ⟨hc, hi⟩ := hx t x ht
    have := hc 0 _ rfl
    simp only [seqRep, Nat.mul_one, Nat.add_zero] at this
    exact ⟨b, o, _, _, _, rfl, hlt, this, hi.1, hi.2⟩
/-- Rows in a block of their own. -/
theorem rows_own {w : World} {B g n cap : Nat} {L : List R} (h : Mine w B (.slice (some ⟨g, 0, none⟩) n cap) L) (hwf : ∀ r ∈ L, r.wf) (hm : n ≤ maxLen) : ∃ F, SeqOwn rowRep w B (some ⟨g, 0, none⟩) n L F ∧ ∀ y ∈ F, y.b = g := by
  have hl := h.len
  have hB : B ≤ g := (World.ownsRow.lt h g rfl).1
  have hlt : g < w.heap.size := (World.ownsRow.lt h g rfl).2
  rcases Nat.eq_zero_or_pos n with h0 | h0
  · exact ⟨[], ⟨by omega, hm, .inl ⟨h0, rfl⟩⟩, fun y hy => by cases hy⟩
  · have hf : ∀ i, w.frozen? ⟨g, i, none⟩ = false := by
      obtain ⟨g', e', -, -, -, hfz, -⟩ := h.at h0
      injection e' with e'
      injection e' with e'
      subst e'
      exact hfz
    have hfl : (List.range n).flatMap (fun _ => ([] : List Reg)) = [] := by simp
    refine ⟨_, ⟨hl, hm, .inr ⟨g, 0, fun _ => (), fun _ => [], rfl, hB, hlt, rfl, ?_, fun j _ _ => hf j, fun t x ht => ⟨fun j u hj => ?_, hwf x (List.mem_of_getElem? ht), rfl⟩⟩⟩, fun y hy => ?_⟩
    · rw [List.pairwise_cons]
      refine ⟨fun y hy => ?_, ?_⟩
      · obtain ⟨t, -, hy⟩ := List.mem_flatMap.1 hy; cases hy
      · have : (List.range n).flatMap (fun _ => ([] : List Reg)) = [] := by simp
        rw [this]; exact List.Pairwise.nil
    · have htl := idx_lt ht
      have hg : L.getD t R.zero = x := by simp [List.getD, ht]
      obtain ⟨g', e', -, -, ⟨c0, c1, c2⟩, -, -⟩ := h.at (k := t) (by omega)
      injection e' with e'
      injection e' with e'
      subst e'
      rw [hg] at c0 c1 c2
      rw [Nat.zero_add]
      match j, hj with
      | 0, hj => obtain rfl := Option.some.inj hj; exact c0
      | 1, hj => obtain rfl := Option.some.inj hj; exact c1
      | 2, hj => obtain rfl := Option.some.inj hj; exact c2
    · rw [hfl] at hy
      rw [List.mem_singleton.1 hy]
/-- Rows, both ways. -/
theorem rows_in {w : World} {a : Option Addr} {len : Nat} {L : List R} (h : SeqIn rowRep w a len L) : IsRows w a len L := by
  obtain ⟨h1, hm, h2⟩ := h
  have hwf : ∀ r ∈ L, r.wf := by
    intro r hr
    obtain ⟨t, ht, rfl⟩ := List.getElem_of_mem hr
    rcases h2 with h2 | ⟨b, o, -, -, hs, hx⟩
    · omega
    · exact (hx t L[t] (by simp [ht])).2
  refine ⟨h1, hwf, h2.imp_right ?_⟩
  rintro ⟨b, o, rfl, hlt, hs, hx⟩
  refine ⟨b, o, rfl, hlt, fun t ht => ?_⟩
  have htl : t < L.length := by omega
  have hg : L.getD t R.zero = L[t] := by simp [List.getD, htl]
  obtain ⟨hc, -⟩ := hx t L[t] (by simp [htl])
  rw [hg]
  exact ⟨hc 0 _ rfl, hc 1 _ rfl, hc 2 _ rfl⟩
theorem in_rows {w : World} {a : Option Addr} {len : Nat} {L : List R} (h : IsRows w a len L) (hm : len ≤ maxLen) : SeqIn rowRep w a len L := by
  obtain ⟨h1, hwf, h2⟩ := h
  refine ⟨h1, hm, h2.imp_right ?_⟩
  rintro ⟨b, o, rfl, hlt, hx⟩
  refine ⟨b, o, rfl, hlt, fun _ => (), fun t x ht => ?_⟩
  have htl := idx_lt ht
  have hg : L.getD t R.zero = x := by simp [List.getD, ht]
  obtain ⟨c0, c1, c2⟩ := hx t (by omega)
  rw [hg] at c0 c1 c2
  refine ⟨fun j u hj => ?_, hwf x (List.mem_of_getElem? ht)⟩
  match j, hj with
  | 0, hj => obtain rfl := Option.some.inj hj; exact c0
  | 1, hj => obtain rfl := Option.some.inj hj; exact c1
  | 2, hj => obtain rfl := Option.some.inj hj; exact c2
end Go.Proofs.YtmlcdhblofjpbaaDoor
namespace Go.Proofs.YtmlcdhblofjpbaaDoor
open Go.RowKit

theorem Mine.grown {w w' : World} {B : Nat} {v : Value} {L : List R} {row : Option Nat} (h : Mine w B v L) (hg : w.grownBy w' row) (hne : ∀ k, v.ownBlock = some k → row ≠ some k) : Mine w' B v L := by
  obtain ⟨h1, h0 | ⟨g, cap, cur, rfl, hB, hh, h2⟩⟩ := h
  · exact ⟨h1, .inl h0⟩
  · exact ⟨h1, .inr ⟨g, cap, cur, rfl, hB, (hg.block g (lt_of_block hh) (fun e => hne g rfl e.symm)).trans hh, h2⟩⟩
theorem Mine.addr {w : World} {B : Nat} {v : Value} {L : List R} (h : Mine w B v L) (hne : v ≠ .slice none 0 0) : ∃ g c, v = .slice (some ⟨g, 0, none⟩) L.length c ∧ B ≤ g ∧ g < w.heap.size := by
  obtain ⟨h1, h0 | ⟨g, cap, cur, rfl, hB, hh, h2⟩⟩ := h
  · exact absurd h0.1 hne
  · exact ⟨g, cap, rfl, hB, lt_of_block hh⟩
theorem Mine.own' {w : World} {B : Nat} {v : Value} {L : List R} (h : Mine w B v L) : ∀ k, v.ownBlock = some k → B ≤ k := fun k hk => (World.ownsRow.lt h k hk).1
theorem Mine.drew {w : World} {B : Nat} {v : Value} {L : List R} (h : Mine w B v L) : Mine w.drew B v L := h
theorem Mine.cap {w : World} {B g len cap : Nat} {L : List R} (h : Mine w B (.slice (some ⟨g, 0, none⟩) len cap) L) : len ≤ cap := by
  have hl := h.len
  rcases h.2 with ⟨h0, h2⟩ | ⟨g', cap', cur, hv, hB, hh, hc, -⟩
  · injection h0 with e1 e2 e3; cases e1
  · injection hv with e1 e2 e3; omega
theorem Mine.lt {w : World} {B g len cap : Nat} {L : List R} (h : Mine w B (.slice (some ⟨g, 0, none⟩) len cap) L) : g < w.heap.size := (World.ownsRow.lt h g rfl).2
/-- The cells of what lies in a slice from k on, where the slice that is cut there begins. -/
theorem Mine.from {w : World} {B : Nat} {g len cap : Nat} {L : List R} (h : Mine w B (.slice (some ⟨g, 0, none⟩) len cap) L) {k : Nat} (hk : k ≤ len) :
    ∃ A : Addr, (if cap = k then some (⟨g, 0, none⟩ : Addr) else some ⟨g, k * 3, none⟩) = some A ∧ (L.drop k).length = len - k ∧ ∀ j u, (cells3 (L.drop k))[j]? = some u → w.cell? (A.add j) = some u := by
  have hl := h.len
  have hcap : len ≤ cap := by
    rcases h.2 with ⟨h0, h2⟩ | ⟨g', cap', cur, hv, hB, hh, hc, -⟩
    · injection h0 with e1 e2 e3; cases e1
    · injection hv with e1 e2 e3; omega
  have hld : (L.drop k).length = len - k := by rw [List.length_drop, hl]
  by_cases hc : cap = k
  · refine ⟨_, by rw [if_pos hc], hld, fun j u hj => ?_⟩
    have : L.drop k = [] := List.drop_eq_nil_of_le (by omega)
    rw [this] at hj
    simp [cells3] at hj
  · refine ⟨_, by rw [if_neg hc], hld, fun j u hj => ?_⟩
    have hjl : j < (len - k) * 3 := by have := (List.getElem?_eq_some_iff.1 hj).1; rwa [cells3_length, hld] at this
    obtain ⟨g', e, hB, hg, -, -, -⟩ := h.at (k := k) (by omega)
    have hat : RowAt w g ((k + j / 3) * 3) (L.getD (k + j / 3) R.zero) := by
      obtain ⟨g2, e2, -, -, hat, -⟩ := h.at (k := k + j / 3) (by omega)
      injection e2 with e2; injection e2 with e2 _ _
      rw [e2]; exact hat
    have hd : (L.drop k).getD (j / 3) R.zero = L.getD (k + j / 3) R.zero := by simp [List.getD, List.getElem?_drop]
    obtain ⟨e0, e1, e2⟩ := cells3_get (L.drop k) (j / 3) (by omega)
    rw [hd] at e0 e1 e2
    obtain ⟨c0, c1, c2⟩ := hat
    rw [Addr.add_lit]
    have h3 : j = j / 3 * 3 ∨ j = j / 3 * 3 + 1 ∨ j = j / 3 * 3 + 2 := by omega
    rcases h3 with h | h | h
    · rw [h] at hj ⊢; rw [e0] at hj; rw [← hj, ← c0]; congr 2; omega
    · rw [h] at hj ⊢; rw [e1] at hj; rw [← hj, ← c1]; congr 2; omega
    · rw [h] at hj ⊢; rw [e2] at hj; rw [← hj, ← c2]; congr 2; omega
theorem Mine.cells {w : World} {B : Nat} {g len cap : Nat} {L : List R} (h : Mine w B (.slice (some ⟨g, 0, none⟩) len cap) L) : ∀ j u, (cells3 L)[j]? = some u → w.cell? ((⟨g, 0, none⟩ : Addr).add j) = some u := by
  intro j u hj
  have hjl : j < L.length * 3 := by have := (List.getElem?_eq_some_iff.1 hj).1; rwa [cells3_length] at this
  rcases h.2 with ⟨h0, h2⟩ | ⟨g', cap', cur, hv, hB, hh, hc, hm, hs, htake⟩
  · injection h0 with e1 e2 e3; cases e1
  · injection hv with e1 e2 e3
    injection e1 with e1
    injection e1 with e1 _ _
    subst e1
    rw [← htake, List.getElem?_take, if_pos hjl] at hj
    rw [Addr.add_lit, Nat.zero_add]
    simp only [World.cell?, hh]
    simpa using hj
/-- 'append(x, y...)' as a step of a region that draws its order. -/
theorem step_appendR {ops : Array Oper} {o : Oper} {a : Act} {K : Act → World → Prop} {Q : Exit → Act → World → Prop} {E : Prop} {w : World} {B : Nat} {M L : List R} {v : Value} (s x : Operand) (ad : Addr) (m c : Nat)
    (hgd : o.guard = none) (ho : o.op = .call { callee := .builtin .append, args := #[s, x], argTypes := #[24, 24] })
    (hs : a.eval s = v) (hx : a.eval x = .slice (some ad) m c) (hown : Mine w B v M) (hl : L.length = m) (hc : ∀ j u, (cells3 L)[j]? = some u → w.cell? (ad.add j) = some u) (hB : B ≤ w.heap.size)
    (hlen : M.length + m ≤ 1000000000000)
    (h : ∀ v' w', Mine w' B v' (M ++ L) → w.grownBy w' v.ownBlock → (v' = .slice none 0 0 ↔ v = .slice none 0 0 ∧ m = 0) → K (a.put o.dst v') w') :
    if Region.wanted o (yielded ops a.tmps) = true then Oper.wp Tryd.prog o a w K Q else E := by
  have hw : Region.wanted o (yielded ops a.tmps) = true := by simp [Region.wanted, hgd]
  rw [if_pos hw]
  obtain ⟨i0, hi, hz0, hz1, hz2⟩ := info_parts rowInfo
  refine wp_append_own _ s x 24 ho B 41 i0 R.zero.val 3 24 Tryd.underlying24 hi hz0 hz1 hz2 rfl (by decide) v M.length (cells3 M) hs hown
    ad m c (cells3 L) hx (by rw [cells3_length, hl]) hc (one_cells L) (by unfold maxLen; omega) (by omega) hB ?_
  intro v' w' hown' hg hn
  rw [cells3_append] at hown'
  exact h v' w' (by unfold Mine; rw [List.length_append, hl]; exact hown') hg hn
/-- One row in a block of its own, as a literal lays it. -/
theorem mine_one (w : World) (B : Nat) (hB : B ≤ w.heap.size) (r : R) : Mine (w.alloc (.cells #[.int .i64 r.key, .int .i64 r.value, .int .i64 r.width] 41)) B (.slice (some ⟨w.heap.size, 0, none⟩) 1 1) [r] :=
  ⟨rfl, .inr ⟨w.heap.size, 1, _, rfl, hB, heap_alloc_new w _, Nat.le_refl _, by unfold maxLen; simp, rfl, rfl⟩⟩
theorem mine_zero (w : World) (B : Nat) (hB : B ≤ w.heap.size) : Mine (w.alloc (.cells #[] 41)) B (.slice (some ⟨w.heap.size, 0, none⟩) 0 0) [] :=
  World.ownsRow_made w #[] 0 hB (Nat.zero_le _) (by simp)
theorem getD_ext {A B : List R} (h : A.length = B.length) (he : ∀ t, t < A.length → A.getD t R.zero = B.getD t R.zero) : A = B := by
  apply List.ext_getElem h
  intro t h1 h2
  have := he t h1
  simpa [List.getD, h1, h2] using this
/-- 'out = append(out, r)', and where the new slice lies. -/
theorem wpList_pushM {ops : Array Oper} {rest : List Oper} {o : Oper} {a : Act} {Q : Exit → Act → World → Prop} {wr : World} {B : Nat} {M : List R} {v : Value} (s x : Operand) (r : R) (N : Nat) (hN : N = wr.heap.size)
    (hgd : o.guard = none) (ho : o.op = .call { callee := .builtin .append, args := #[s, x], argTypes := #[24, 24] })
    (hs : a.eval s = v) (hx : a.eval x = .slice (some ⟨N, 0, none⟩) 1 1) (hown : Mine wr B v M) (hB : B ≤ wr.heap.size) (hlen : M.length + 1 ≤ 1000000000000)
    (h : ∀ g c w', Mine w' B (.slice (some ⟨g, 0, none⟩) (M.length + 1) c) (M ++ [r]) → wr.grownBy w' v.ownBlock → (v.ownBlock = some g ∨ wr.heap.size ≤ g) → wpList Tryd.prog ops Q rest (a.put o.dst (.slice (some ⟨g, 0, none⟩) (M.length + 1) c)) w') :
    wpList Tryd.prog ops Q (o :: rest) a (wr.alloc (.cells #[.int .i64 r.key, .int .i64 r.value, .int .i64 r.width] 41)) := by
  subst hN
  obtain ⟨i0, hi, hz0, hz1, hz2⟩ := info_parts rowInfo
  refine wpList_append_lies _ hgd s x 24 ho B 41 i0 R.zero.val 3 24 Tryd.underlying24 hi hz0 hz1 hz2 rfl (by decide) v M.length (cells3 M) hs (World.ownsRow.alloc hown _)
    ⟨wr.heap.size, 0, none⟩ 1 1 [.int .i64 r.key, .int .i64 r.value, .int .i64 r.width] hx rfl ?_ (one_row r) (by omega) (by unfold maxLen; omega) (by omega) (by simp; omega) _ rfl ?_
  · exact World.news_of_block (heap_alloc_new wr (.cells #[.int .i64 r.key, .int .i64 r.value, .int .i64 r.width] 41))
  · intro g c w' hown' hg hat _
    have e : cells3 M ++ [.int .i64 r.key, .int .i64 r.value, .int .i64 r.width] = cells3 (M ++ [r]) := by rw [← cells3_append]; rfl
    rw [e] at hown'
    refine h g c w' ?_ ((World.grownBy_alloc wr _ _).trans hg) ?_
    · unfold Mine
      rw [List.length_append]
      exact hown'
    · rcases hat with hat | hat
      · exact .inl hat
      · refine .inr ?_
        rw [hat]
        simp
theorem row_ifs {α : Type} (q p : R) (h : q ≠ p) (X Y : α) : (if q.key = p.key then if q.value = p.value then if q.width = p.width then X else Y else Y else Y) = Y := by
  obtain ⟨a, b, c⟩ := q
  obtain ⟨a', b', c'⟩ := p
  (repeat' split) <;> first | rfl | (exfalso; simp_all)
/-- 'append(x, y...)', y the call's own. -/
theorem wpList_appendM {ops : Array Oper} {rest : List Oper} {o : Oper} {a : Act} {Q : Exit → Act → World → Prop} {w : World} {B B' : Nat} {M L : List R} {v y : Value} (s x : Operand)
    (hgd : o.guard = none) (ho : o.op = .call { callee := .builtin .append, args := #[s, x], argTypes := #[24, 24] })
    (hs : a.eval s = v) (hx : a.eval x = y) (hown : Mine w B v M) (hy : Mine w B' y L) (hB : B ≤ w.heap.size) (hlen : M.length + L.length ≤ 1000000000000)
    (h : ∀ v' w', Mine w' B v' (M ++ L) → w.grownBy w' v.ownBlock → wpList Tryd.prog ops Q rest (a.put o.dst v') w') :
    wpList Tryd.prog ops Q (o :: rest) a w := by
  by_cases hn : y = .slice none 0 0
  · subst hn
    have hl : L = [] := List.eq_nil_of_length_eq_zero hy.len
    subst hl
    obtain ⟨i0, hi, hz0, hz1, hz2⟩ := info_parts rowInfo
    refine wpList_append_own_none hgd s x 24 ho B 41 i0 3 Tryd.underlying24 hi v M.length (cells3 M) hs hown hx ?_
    exact h v w (by rw [List.append_nil]; exact hown) (World.grownBy.refl _ _)
  · obtain ⟨g, c, rfl, -, -⟩ := hy.addr hn
    exact wpList_appendR s x ⟨g, 0, none⟩ L.length c hgd ho hs hx hown rfl hy.cells hB hlen fun v' w' h1 h2 _ => h v' w' h1 h2
theorem getD_wf {L : List R} {i : Nat} (h : ∀ r ∈ L, r.wf) (hi : i < L.length) : (L.getD i R.zero).wf := h _ (R.getD_mem hi)
theorem set_wf {L : List R} {i : Nat} {r : R} (h : ∀ r ∈ L, r.wf) (hr : r.wf) : ∀ x ∈ L.set i r, x.wf := fun x hx => (List.mem_or_eq_of_mem_set hx).elim (h x) (fun e => e ▸ hr)
theorem snoc_wf {L : List R} {r : R} (h : ∀ r ∈ L, r.wf) (hr : r.wf) : ∀ x ∈ L ++ [r], x.wf := fun x hx => (List.mem_append.1 hx).elim (h x) (fun e => List.mem_singleton.1 e ▸ hr)
theorem drop_wf {L : List R} {k : Nat} (h : ∀ r ∈ L, r.wf) : ∀ x ∈ L.drop k, x.wf := fun x hx => h x (List.mem_of_mem_drop hx)
theorem take_set3 {α : Type} (cur : List α) (m : Nat) (a b c : α) (h : m + 3 ≤ cur.length) : (((cur.set m a).set (m + 1) b).set (m + 2) c).take (m + 3) = cur.take m ++ [a, b, c] := by
  apply List.ext_getElem
  · simp; omega
  · intro i h1 h2
    simp only [List.getElem_take, List.getElem_set, List.getElem_append, List.length_take]
    have hm : min m cur.length = m := by omega
    simp only [hm]
    by_cases h3 : i < m
    · rw [if_neg (by omega), if_neg (by omega), if_neg (by omega), dif_pos h3]
    · rw [dif_neg h3]
      simp at h1
      have h4 : i = m ∨ i = m + 1 ∨ i = m + 2 := by omega
      rcases h4 with rfl | rfl | rfl
      · rw [if_neg (by omega), if_neg (by omega), if_pos rfl]; simp
      · rw [if_neg (by omega), if_pos rfl]; simp
      · rw [if_pos rfl]; simp
/-- One row more, where there is room. -/
theorem Mine.push {w : World} {B g n cap : Nat} {X : List R} (h : Mine w B (.slice (some ⟨g, 0, none⟩) n cap) X) (hr : n < cap) (s : R) :
    (∀ j, j < 3 → (w.cell? ⟨g, n * 3 + j, none⟩).isSome = true ∧ w.frozen? ⟨g, n * 3 + j, none⟩ = false) ∧
    Mine (((w.setCell ⟨g, n * 3, none⟩ (.int .i64 s.key)).setCell ⟨g, n * 3 + 1, none⟩ (.int .i64 s.value)).setCell ⟨g, n * 3 + 2, none⟩ (.int .i64 s.width)) B (.slice (some ⟨g, 0, none⟩) (n + 1) cap) (X ++ [s]) := by
  have hl := h.len
  obtain ⟨h1, ⟨h0, h2⟩ | ⟨g', cap', cur, hv, hB, hh, hcap, hmax, hsz, htake⟩⟩ := h
  · injection h0 with e1; cases e1
  · injection hv with e1 e2 e3
    injection e1 with e1
    injection e1 with e1 _ _
    subst e1 e3
    have hcs : n * 3 + 3 ≤ cur.size := by omega
    refine ⟨fun j hj => ⟨?_, by simp [World.frozen?, hh]⟩, ?_⟩
    · simp only [World.cell?, hh]
      have : n * 3 + j < cur.size := by omega
      simp [this]
    · have s1 := Joins.block_setCell hh (i := n * 3) (.int .i64 s.key)
      have s2 := Joins.block_setCell s1 (i := n * 3 + 1) (.int .i64 s.value)
      have s3 := Joins.block_setCell s2 (i := n * 3 + 2) (.int .i64 s.width)
      have hln : (X ++ [s]).length = n + 1 := by rw [List.length_append, hl]; rfl
      refine ⟨cells3_length _, .inr ⟨g, cap, _, by rw [hln], hB, s3, by omega, hmax, by simpa using hsz, ?_⟩⟩
      rw [hln, show (n + 1) * 3 = n * 3 + 3 by omega]
      rw [← cells3_append, ← htake, hl]
      simp only [Array.toList_setIfInBounds]
      rw [take_set3 _ _ _ _ _ (by simpa using hcs)]
      rfl
theorem mine_of_grow {w : World} {B m : Nat} {v : Value} {X : List R} {s : R} (h : w.ownsRow B 41 3 v (m + 1) (cells3 X ++ [.int .i64 s.key, .int .i64 s.value, .int .i64 s.width])) (hl : X.length = m) : Mine w B v (X ++ [s]) := by
  have e : cells3 X ++ [Value.int .i64 s.key, .int .i64 s.value, .int .i64 s.width] = cells3 (X ++ [s]) := by rw [← cells3_append]; rfl
  unfold Mine
  rw [← e, List.length_append, hl]
  exact h
theorem IsRows.tail {w : World} {g o n : Nat} {x : R} {Y : List R} (h : IsRows w (some ⟨g, o, none⟩) (n + 1) (x :: Y)) (hn : 0 < n) : IsRows w (some ⟨g, o + 3, none⟩) n Y := by
  obtain ⟨h1, h2, h0 | ⟨b, o', e, hlt, hc⟩⟩ := h
  · omega
  · injection e with e
    injection e with e1 e2 _
    subst e1 e2
    refine ⟨by simpa using h1, fun r hr => h2 r (List.mem_cons_of_mem _ hr), .inr ⟨g, o + 3, rfl, hlt, fun t ht => ?_⟩⟩
    have := hc (t + 1) (by omega)
    rw [show o + (t + 1) * 3 = o + 3 + t * 3 by omega] at this
    simpa using this
/-- A row of a slice. -/
theorem IsRows.at {w : World} {a : Option Addr} {len : Nat} {L : List R} (h : IsRows w a len L) {t : Nat} (ht : t < len) : ∃ b o : Nat, a = some ⟨b, o, none⟩ ∧ b < w.heap.size ∧ RowAt w b (o + t * 3) (L.getD t R.zero) := by
  obtain ⟨-, -, h0 | ⟨b, o, e, hb, hc⟩⟩ := h
  · omega
  · exact ⟨b, o, e, hb, hc t ht⟩
/-- 'out = append(out, r)' as a step of a region that draws its order, and where the new slice lies. -/
theorem step_pushM {ops : Array Oper} {o : Oper} {a : Act} {K : Act → World → Prop} {Q : Exit → Act → World → Prop} {E : Prop} {w : World} {B : Nat} {M : List R} {v : Value} (s x : Operand) (ad : Addr) (r : R)
    (hgd : o.guard = none) (ho : o.op = .call { callee := .builtin .append, args := #[s, x], argTypes := #[24, 24] })
    (hs : a.eval s = v) (hx : a.eval x = .slice (some ad) 1 1) (hown : Mine w B v M) (hc : ∀ j u, [Value.int .i64 r.key, .int .i64 r.value, .int .i64 r.width][j]? = some u → w.cell? (ad.add j) = some u) (hB : B ≤ w.heap.size)
    (hlen : M.length + 1 ≤ 1000000000000)
    (h : ∀ g c w', Mine w' B (.slice (some ⟨g, 0, none⟩) (M.length + 1) c) (M ++ [r]) → w.grownBy w' v.ownBlock → (v.ownBlock = some g ∨ w.heap.size ≤ g) → K (a.put o.dst (.slice (some ⟨g, 0, none⟩) (M.length + 1) c)) w') :
    if Region.wanted o (yielded ops a.tmps) = true then Oper.wp Tryd.prog o a w K Q else E := by
  obtain ⟨i0, hi, hz0, hz1, hz2⟩ := info_parts rowInfo
  refine step_append_lies _ hgd s x 24 ho B 41 i0 R.zero.val 3 24 Tryd.underlying24 hi hz0 hz1 hz2 rfl (by decide) v M.length (cells3 M) hs hown
    ad 1 1 [.int .i64 r.key, .int .i64 r.value, .int .i64 r.width] hx rfl hc (one_row r) (by omega) (by unfold maxLen; omega) (by omega) hB _ rfl ?_
  intro g c w' hown' hg hat _
  refine h g c w' (mine_of_grow hown' rfl) hg ?_
  rcases hat with hat | hat
  · exact .inl hat
  · exact .inr (by rw [hat]; exact Nat.le_refl _)
end Go.Proofs.YtmlcdhblofjpbaaDoor
/- Shapes of records: their leaves one behind the other (numbers, truth values, slices); an element of a slice, and what a change of it leaves; no function of program or reference is walked here. -/
namespace Go.Proofs.YtmlcdhblofjpbaaDoor
open Go.RowKit

def I64 (x : Int) : Prop := -9223372036854775808 ≤ x ∧ x ≤ 9223372036854775807
/-- No leaf. -/
def endRep : Rep Unit where
  H := Unit
  size := 0
  cells := fun _ _ => []
  inn := fun _ _ _ => True
  own := fun _ _ _ _ F => F = []
  len := fun _ _ => rfl
  inn_keep := fun h _ => h
  own_inn := fun _ => trivial
  own_lt := fun h y hy => by rw [h] at hy; cases hy
  own_stay := fun h _ => h
  own_apart := fun h => by rw [h]; exact List.Pairwise.nil
  own_mono := fun h _ => h
/-- A number, then the rest. -/
def intAnd {β : Type} (s : Rep β) : Rep (Int × β) where
  H := s.H
  size := s.size + 1
  cells := fun x h => .int .i64 x.1 :: s.cells x.2 h
  inn := fun w x h => I64 x.1 ∧ s.inn w x.2 h
  own := fun w B x h F => I64 x.1 ∧ s.own w B x.2 h F
  len := fun x h => by rw [List.length_cons, s.len]
  inn_keep := fun h hb => ⟨h.1, s.inn_keep h.2 hb⟩
  own_inn := fun h => ⟨h.1, s.own_inn h.2⟩
  own_lt := fun h => s.own_lt h.2
  own_stay := fun h hs => ⟨h.1, s.own_stay h.2 hs⟩
  own_apart := fun h => s.own_apart h.2
  own_mono := fun h hb => ⟨h.1, s.own_mono h.2 hb⟩
/-- A truth value, then the rest. -/
def boolAnd {β : Type} (s : Rep β) : Rep (Bool × β) where
  H := s.H
  size := s.size + 1
  cells := fun x h => .bool x.1 :: s.cells x.2 h
  inn := fun w x h => s.inn w x.2 h
  own := fun w B x h F => s.own w B x.2 h F
  len := fun x h => by rw [List.length_cons, s.len]
  inn_keep := fun h hb => s.inn_keep h hb
  own_inn := fun h => s.own_inn h
  own_lt := fun h => s.own_lt h
  own_stay := fun h hs => s.own_stay h hs
  own_apart := fun h => s.own_apart h
  own_mono := fun h hb => s.own_mono h hb
/-- A slice, then the rest. -/
def seqAnd {α β : Type} (r : Rep α) (s : Rep β) : Rep (List α × β) where
  H := (Option Addr × Nat × Nat) × s.H
  size := s.size + 1
  cells := fun x h => .slice h.1.1 h.1.2.1 h.1.2.2 :: s.cells x.2 h.2
  inn := fun w x h => (seqRep r).inn w x.1 h.1 ∧ s.inn w x.2 h.2
  own := fun w B x h F => ∃ F1 F2, F = F1 ++ F2 ∧ (seqRep r).own w B x.1 h.1 F1 ∧ s.own w B x.2 h.2 F2 ∧ ∀ a ∈ F1, ∀ b ∈ F2, a.apart b
  len := fun x h => by rw [List.length_cons, s.len]
  inn_keep := fun h hb => ⟨(seqRep r).inn_keep h.1 hb, s.inn_keep h.2 hb⟩
  own_inn := fun ⟨_, _, _, h1, h2, _⟩ => ⟨(seqRep r).own_inn h1, s.own_inn h2⟩
  own_lt := fun ⟨_, _, e, h1, h2, _⟩ y hy => by
    rw [e] at hy
    exact (List.mem_append.1 hy).elim ((seqRep r).own_lt h1 y) (s.own_lt h2 y)
  own_stay := fun ⟨F1, F2, e, h1, h2, h3⟩ hs => by
    subst e
    exact ⟨F1, F2, rfl, (seqRep r).own_stay h1 (hs.sub fun y hy => List.mem_append_left _ hy), s.own_stay h2 (hs.sub fun y hy => List.mem_append_right _ hy), h3⟩
  own_apart := fun ⟨F1, F2, e, h1, h2, h3⟩ => by
    subst e
    exact List.pairwise_append.2 ⟨(seqRep r).own_apart h1, s.own_apart h2, h3⟩
  own_mono := fun ⟨F1, F2, e, h1, h2, h3⟩ hb => ⟨F1, F2, e, (seqRep r).own_mono h1 hb, s.own_mono h2 hb, h3⟩
/-- The same, of a datum that tells the leaves. -/
def viaRep {α β : Type} (f : α → β) (r : Rep β) : Rep α where
  H := r.H
  size := r.size
  cells := fun x h => r.cells (f x) h
  inn := fun w x h => r.inn w (f x) h
  own := fun w B x h F => r.own w B (f x) h F
  len := fun x h => r.len (f x) h
  inn_keep := fun h hb => r.inn_keep h hb
  own_inn := fun h => r.own_inn h
  own_lt := fun h => r.own_lt h
  own_stay := fun h hs => r.own_stay h hs
  own_apart := fun h => r.own_apart h
  own_mono := fun h hb => r.own_mono h hb
/-- Stretches that lie within others. -/
theorem OnlyAt.within {F G : List Reg} {a b : World} (h : OnlyAt F a b) (hs : ∀ r ∈ F, ∃ s ∈ G, s.b = r.b ∧ s.lo ≤ r.lo ∧ r.hi ≤ s.hi) : OnlyAt G a b :=
  ⟨h.os, h.tape, h.output, h.size,
    fun i hi hne => h.block i hi fun r hr e => by obtain ⟨s, hs, e1, -, -⟩ := hs r hr; exact hne s hs (e1.trans e),
    fun i j hi hne => h.cell i j hi fun r hr e => by
      obtain ⟨s, hs, e1, h1, h2⟩ := hs r hr
      rcases hne s hs (e1.trans e) with h3 | h3
      · left; omega
      · right; omega,
    h.frozen⟩
theorem Reg.apart_within {x y z : Reg} (h : x.apart y) (hb : z.b = x.b) (h1 : x.lo ≤ z.lo) (h2 : z.hi ≤ x.hi) : z.apart y := by
  rcases h with h | h | h
  · exact .inl fun e => h (hb.symm.trans e)
  · exact .inr (.inl (by omega))
  · exact .inr (.inr (by omega))
/-- One element, its own cells with it, and what a change of it leaves. -/
theorem SeqOwn.el {α : Type} {r : Rep α} {w : World} {B : Nat} {a : Option Addr} {n : Nat} {xs : List α} {F : List Reg} (h : SeqOwn r w B a n xs F) {t : Nat} {x : α} (ht : xs[t]? = some x) :
    ∃ (b o : Nat) (hd : r.H) (G : List Reg), a = some ⟨b, o, none⟩ ∧ B ≤ b ∧ b < w.heap.size ∧ CellsAt w b (o + t * r.size) (r.cells x hd) ∧ (∀ j, j < r.size → w.frozen? ⟨b, o + t * r.size + j, none⟩ = false) ∧ r.own w B x hd G ∧
      (∀ y ∈ G, Reg.apart ⟨b, o + t * r.size, o + t * r.size + r.size⟩ y) ∧
      ∀ w' x', OnlyAt (⟨b, o + t * r.size, o + t * r.size + r.size⟩ :: G) w w' → CellsAt w' b (o + t * r.size) (r.cells x' hd) → r.own w' B x' hd G → SeqOwn r w' B a n (xs.set t x') F ∧ ∀ w0, OnlyAt F w0 w → OnlyAt F w0 w' := by
  have htl := idx_lt ht
  obtain ⟨h1, hm, ⟨h0, -⟩ | ⟨b, o, hs, Fs, rfl, hB, hlt, rfl, hp, hf, hx⟩⟩ := h
  · omega
  · have htn : t < n := by omega
    have hle := at_le (s := r.size) htn
    have hsub : ∀ y ∈ Fs t, y ∈ (⟨b, o, o + n * r.size⟩ : Reg) :: (List.range n).flatMap Fs := fun y hy => List.mem_cons_of_mem _ (List.mem_flatMap.2 ⟨t, List.mem_range.2 htn, hy⟩)
    have hhead : ∀ s, s < n → ∀ y ∈ Fs s, (⟨b, o, o + n * r.size⟩ : Reg).apart y := fun s hs y hy => (List.pairwise_cons.1 hp).1 y (List.mem_flatMap.2 ⟨s, List.mem_range.2 hs, hy⟩)
    refine ⟨b, o, hs t, Fs t, rfl, hB, hlt, (hx t x ht).1, fun j hj => hf _ (by omega) (by omega), (hx t x ht).2, fun y hy => Reg.apart_within (hhead t htn y hy) rfl (by simp only; omega) (by simp only; omega), fun w' x' ho hce hown => ⟨?_, fun w0 h0 => h0.trans (ho.within ?_)⟩⟩
    · refine ⟨by rw [List.length_set]; exact h1, hm, .inr ⟨b, o, hs, Fs, rfl, hB, Nat.lt_of_lt_of_le hlt ho.size, rfl, hp, fun j ha hb => (ho.frozen b j hlt).trans (hf j ha hb), fun s y hy => ?_⟩⟩
      have hsn : s < n := by have := idx_lt hy; rw [List.length_set] at this; omega
      have hles := at_le (s := r.size) hsn
      by_cases hst' : s = t
      · subst hst'
        rw [List.getElem?_set_self htl] at hy
        obtain rfl := Option.some.inj hy
        exact ⟨hce, hown⟩
      · rw [List.getElem?_set_ne (fun e => hst' e.symm)] at hy
        have hord : s * r.size + r.size ≤ t * r.size ∨ t * r.size + r.size ≤ s * r.size := by
          rcases Nat.lt_or_gt_of_ne hst' with h2 | h2
          · exact .inl (at_le h2)
          · exact .inr (at_le h2)
        refine ⟨fun j u hj => ?_, r.own_stay (hx s y hy).2 (Stay.of_only ho (fun p hp' q hq => ?_) fun q hq => (r.own_lt (hx s y hy).2 q hq).2)⟩
        · have hjl : j < r.size := by rw [← r.len y (hs s)]; exact idx_lt hj
          refine (ho.cell b (o + s * r.size + j) hlt fun z hz e => ?_).trans ((hx s y hy).1 j u hj)
          rcases List.mem_cons.1 hz with rfl | hz
          · simp only
            omega
          · have hap := hhead t htn z hz
            rcases hap with hn | hn | hn
            · exact absurd e.symm hn
            · simp only at hn; left; omega
            · simp only at hn; right; omega
        · rcases List.mem_cons.1 hp' with rfl | hp'
          · exact Reg.apart_within (hhead s hsn q hq) rfl (by simp only; omega) (by simp only; omega)
          · have hpw := (List.pairwise_cons.1 hp).2
            rw [List.pairwise_flatMap] at hpw
            have hr := hpw.2
            rcases Nat.lt_or_gt_of_ne hst' with h2 | h2
            · exact Reg.apart_symm ((List.pairwise_iff_getElem.1 hr) s t (by simpa using hsn) (by simpa using htn) h2 q (by simpa using hq) p (by simpa using hp'))
            · exact (List.pairwise_iff_getElem.1 hr) t s (by simpa using htn) (by simpa using hsn) h2 p (by simpa using hp') q (by simpa using hq)
    · intro z hz
      rcases List.mem_cons.1 hz with rfl | hz
      · exact ⟨_, List.mem_cons_self .., rfl, by simp only; omega, by simp only; omega⟩
      · exact ⟨z, hsub z hz, rfl, Nat.le_refl _, Nat.le_refl _⟩
/-- One element of a slice that is read. -/
theorem SeqIn.el {α : Type} {r : Rep α} {w : World} {a : Option Addr} {n : Nat} {xs : List α} (h : SeqIn r w a n xs) {t : Nat} {x : α} (ht : xs[t]? = some x) :
    ∃ (b o : Nat) (hd : r.H), a = some ⟨b, o, none⟩ ∧ b < w.heap.size ∧ CellsAt w b (o + t * r.size) (r.cells x hd) ∧ r.inn w x hd := by
  have htl := idx_lt ht
  obtain ⟨h1, -, h0 | ⟨b, o, rfl, hlt, hs, hx⟩⟩ := h
  · omega
  · exact ⟨b, o, hs t, rfl, hlt, (hx t x ht).1, (hx t x ht).2⟩

/-! ### The laws' counters and sizes -/
/-- How the laws mark a datum from a counter on, and how many counters that takes. -/
structure Mk (α : Type) where
  mark : Int → α → α
  cnt : α → Nat
  cnt_mark : ∀ q x, cnt (mark q x) = cnt x
def mkAll {α : Type} (m : Mk α) : Int → List α → List α
  | _, [] => []
  | q, x :: xs => m.mark q x :: mkAll m (q + m.cnt x) xs
def cntAll {α : Type} (m : Mk α) (xs : List α) : Nat := (xs.map m.cnt).sum
theorem cntAll_cons {α : Type} (m : Mk α) (x : α) (xs : List α) : cntAll m (x :: xs) = m.cnt x + cntAll m xs := rfl
theorem cntAll_append {α : Type} (m : Mk α) (xs ys : List α) : cntAll m (xs ++ ys) = cntAll m xs + cntAll m ys := by simp [cntAll]
theorem mkAll_length {α : Type} (m : Mk α) : ∀ (q : Int) (xs : List α), (mkAll m q xs).length = xs.length
  | _, [] => rfl
  | q, x :: xs => by rw [mkAll, List.length_cons, mkAll_length m _ xs, List.length_cons]
theorem cnt_mkAll {α : Type} (m : Mk α) : ∀ (q : Int) (xs : List α), cntAll m (mkAll m q xs) = cntAll m xs
  | _, [] => rfl
  | q, x :: xs => by rw [mkAll, cntAll_cons, cntAll_cons, m.cnt_mark, cnt_mkAll m _ xs]
theorem mkAll_append {α : Type} (m : Mk α) : ∀ (q : Int) (xs ys : List α), mkAll m q (xs ++ ys) = mkAll m q xs ++ mkAll m (q + cntAll m xs) ys
  | q, [], ys => by simp [mkAll, cntAll]
  | q, x :: xs, ys => by
    rw [List.cons_append, mkAll, mkAll_append m _ xs ys, mkAll, List.cons_append, cntAll_cons]
    congr 3
    push_cast
    omega
theorem cntAll_next {α : Type} (m : Mk α) (xs : List α) (t : Nat) (ht : t < xs.length) : cntAll m (xs.take (t + 1)) = cntAll m (xs.take t) + m.cnt xs[t] := by
  rw [List.take_succ_eq_append_getElem ht, cntAll_append]; rfl
theorem cntAll_take {α : Type} (m : Mk α) (xs : List α) (t : Nat) : cntAll m (xs.take t) ≤ cntAll m xs := by
  have := congrArg (cntAll m) (List.take_append_drop t xs)
  rw [cntAll_append] at this
  omega
theorem mkAll_next {α : Type} (m : Mk α) (q : Int) (xs : List α) (t : Nat) (ht : t < xs.length) : (mkAll m q (xs.take t) ++ xs.drop t).set t (m.mark (q + cntAll m (xs.take t)) xs[t]) = mkAll m q (xs.take (t + 1)) ++ xs.drop (t + 1) := by
  have hl : (mkAll m q (xs.take t)).length = t := by rw [mkAll_length, List.length_take]; omega
  rw [List.take_succ_eq_append_getElem ht, mkAll_append, List.set_append_right _ _ (by omega), hl, Nat.sub_self, List.drop_eq_getElem_cons ht, List.set_cons_zero]
  simp [mkAll]
theorem mkAll_get {α : Type} (m : Mk α) (q : Int) (xs : List α) (t : Nat) (ht : t < xs.length) : (mkAll m q xs)[t]? = some (m.mark (q + cntAll m (xs.take t)) xs[t]) := by
  have e : xs = xs.take t ++ xs[t] :: xs.drop (t + 1) := by rw [← List.drop_eq_getElem_cons ht, List.take_append_drop]
  have hl : (mkAll m q (xs.take t)).length = t := by rw [mkAll_length, List.length_take]; omega
  rw [show mkAll m q xs = mkAll m q (xs.take t ++ xs[t] :: xs.drop (t + 1)) from congrArg _ e, mkAll_append, List.getElem?_append_right (by omega), hl, Nat.sub_self]
  rfl
theorem mkAll_at {α : Type} (m : Mk α) (q : Int) (xs : List α) (t : Nat) (ht : t < xs.length) : (mkAll m q (xs.take t) ++ xs.drop t)[t]? = some xs[t] := by
  have hl : (mkAll m q (xs.take t)).length = t := by rw [mkAll_length, List.length_take]; omega
  rw [List.getElem?_append_right (by omega), hl, Nat.sub_self, List.drop_eq_getElem_cons ht]
  rfl
def seqMk {α : Type} (m : Mk α) : Mk (List α) := ⟨mkAll m, cntAll m, cnt_mkAll m⟩
/-- The rows' marks. -/
def rowsMk : Mk (List R) := ⟨fun q L => marked L.length q, fun L => 3 * L.length, fun q L => by rw [marked_length]⟩

/-- How many elements its slices hold together, each with what it holds. -/
def wtAll {α : Type} (f : α → Nat) (xs : List α) : Nat := xs.length + (xs.map f).sum
theorem wtAll_cons {α : Type} (f : α → Nat) (x : α) (xs : List α) : wtAll f (x :: xs) = 1 + f x + wtAll f xs := by
  unfold wtAll
  rw [List.length_cons, List.map_cons, List.sum_cons]
  omega
theorem sum_take {α : Type} (f : α → Nat) (xs : List α) (t : Nat) : ((xs.take t).map f).sum ≤ (xs.map f).sum := by
  have := congrArg (fun l => (l.map f).sum) (List.take_append_drop t xs)
  simp only [List.map_append, List.sum_append] at this
  omega
theorem sum_next {α : Type} (f : α → Nat) (xs : List α) (t : Nat) (ht : t < xs.length) : ((xs.take (t + 1)).map f).sum = ((xs.take t).map f).sum + f xs[t] := by
  rw [List.take_succ_eq_append_getElem ht, List.map_append, List.sum_append]; simp
theorem wtAll_at {α : Type} (f : α → Nat) (xs : List α) (t : Nat) (ht : t < xs.length) : f xs[t] ≤ wtAll f xs := by
  have h1 := sum_next f xs t ht
  have h2 := sum_take f xs (t + 1)
  unfold wtAll
  omega
theorem wtAll_len {α : Type} (f : α → Nat) (xs : List α) : xs.length ≤ wtAll f xs := Nat.le_add_right _ _
theorem cntAll_le {α : Type} (m : Mk α) (f : α → Nat) (h : ∀ x, m.cnt x ≤ 64 * (f x + 1)) (xs : List α) : cntAll m xs ≤ 64 * wtAll f xs := by
  induction xs with
  | nil => exact Nat.zero_le _
  | cons x xs ih =>
    have := h x
    rw [cntAll_cons, wtAll_cons]
    omega
theorem mk_room {α : Type} (m : Mk α) (f : α → Nat) (h : ∀ x, m.cnt x ≤ 64 * (f x + 1)) (xs : List α) (t : Nat) (ht : t < xs.length) : cntAll m (xs.take t) + 64 * (f xs[t] + 1) ≤ 64 * wtAll f xs := by
  have h1 := cntAll_le m f h (xs.take t)
  have h2 := sum_next f xs t ht
  have h3 := sum_take f xs (t + 1)
  have h4 : (xs.take t).length = t := by rw [List.length_take]; omega
  unfold wtAll at h1 ⊢
  omega
end Go.Proofs.YtmlcdhblofjpbaaDoor
/- States told by trees: the laws' marks, element by element; no function of program or reference is walked here. -/
namespace Go.Proofs.YtmlcdhblofjpbaaDoor
open Go Go.RowKit V
set_option linter.unusedVariables false
/-- The first t elements are marked. -/
def mkL {α β : Type} (m : Mk α) (f : α → β) (q : Int) (X : List α) (t : Nat) : List β := (mkAll m q (X.take t) ++ X.drop t).map f
variable {α β : Type} {m : Mk α} {f : α → β} {q : Int} {X : List α} {t : Nat}
theorem mkL_zero : mkL m f q X 0 = X.map f := by simp [mkL, mkAll]
theorem mkL_all (h : ¬ t < X.length) : mkL m f q X t = (mkAll m q X).map f := by
  rw [mkL, List.take_of_length_le (by omega), List.drop_eq_nil_of_le (by omega), List.append_nil]
theorem mkL_len (h : t ≤ X.length) : (mkL m f q X t).length = X.length := by
  rw [mkL, List.length_map, List.length_append, mkAll_length, List.length_take, List.length_drop]; omega
theorem mkL_at (h : t < X.length) : (mkL m f q X t)[t]? = some (f X[t]) := by
  rw [mkL, List.getElem?_map, mkAll_at m q X t h]; rfl
theorem mkL_lt (h : t < X.length) : t < (mkL m f q X t).length := by rw [mkL_len (Nat.le_of_lt h)]; exact h
theorem mkL_next (h : t < X.length) : (mkL m f q X t).set t (f (m.mark (q + cntAll m (X.take t)) X[t])) = mkL m f q X (t + 1) := by
  rw [mkL, mkL, ← List.map_set, mkAll_next m q X t h]
theorem set_self {γ : Type} {l : List γ} {k : Nat} {x : γ} (h : k < l.length) : (l.set k x)[k]? = some x := List.getElem?_set_self h
theorem set_twice {γ : Type} {l : List γ} {k : Nat} {x y z : γ} (h : y = z) : (l.set k x).set k y = l.set k z := by rw [List.set_set, h]
/-- A row's marks. -/
def rowMk : Mk R := ⟨fun q _ => ⟨q, q + 1, q + 1 + 1⟩, fun _ => 3, fun _ _ => rfl⟩
theorem rows_cnt (X : List R) : cntAll rowMk X = 3 * X.length := by
  induction X with
  | nil => rfl
  | cons x xs ih => rw [cntAll_cons, ih, List.length_cons]; show 3 + _ = _; omega
/-- The first t elements are copied. -/
def toL {α β : Type} (f : α → β) (z : β) (X : List α) (t : Nat) : List β := (X.take t).map f ++ List.replicate (X.length - t) z
section
variable {α β : Type} {f : α → β} {z : β} {X : List α} {t : Nat}
theorem toL_zero : toL f z X 0 = List.replicate X.length z := by simp [toL]
theorem toL_all (h : ¬ t < X.length) : toL f z X t = X.map f := by
  rw [toL, List.take_of_length_le (by omega), show X.length - t = 0 by omega]; simp
theorem toL_at (h : t < X.length) : (toL f z X t)[t]? = some z := by
  rw [toL, List.getElem?_append_right (by simp; omega)]
  simp [List.getElem?_replicate, List.length_take]
  omega
theorem toL_lt (h : t < X.length) : t < (toL f z X t).length := by
  rw [toL, List.length_append, List.length_map, List.length_take, List.length_replicate]; omega
theorem toL_next (h : t < X.length) : (toL f z X t).set t (f X[t]) = toL f z X (t + 1) := by
  have hl : ((X.take t).map f).length = t := by rw [List.length_map, List.length_take]; omega
  rw [toL, List.set_append_right _ _ (by omega), hl, Nat.sub_self, toL, List.take_succ_eq_append_getElem h, List.map_append, List.append_assoc]
  rw [show X.length - t = (X.length - (t + 1)) + 1 by omega, List.replicate_succ, List.set_cons_zero]
  rfl
end
theorem wtAll_zero {α : Type} (f : α → Nat) (h : ∀ x, f x = 0) (X : List α) : wtAll f X = X.length := by
  induction X with
  | nil => rfl
  | cons a X ih => rw [wtAll_cons, h a, ih, List.length_cons]; omega
theorem marked_eq (X : List R) (q : Int) : rowsMk.mark q X = mkAll rowMk q X := by
  show marked X.length q = _
  induction X generalizing q with
  | nil => rfl
  | cons x xs ih =>
    have h := ih (q + 3)
    rw [mkAll, show q + ((rowMk.cnt x : Nat) : Int) = q + 3 from rfl, ← h]
    simp only [marked, List.length_cons, List.range_succ_eq_map, List.map_cons, List.map_map]
    refine List.cons_eq_cons.2 ⟨?_, List.map_congr_left fun t _ => ?_⟩
    · show (⟨_, _, _⟩ : R) = ⟨_, _, _⟩
      congr 1 <;> first | (simp; done) | (simp; omega)
    · show (⟨_, _, _⟩ : R) = ⟨_, _, _⟩
      congr 1 <;> (push_cast; omega)
theorem rows_cnt' (X : List R) : rowsMk.cnt X = cntAll rowMk X := (rows_cnt X).symm
end Go.Proofs.YtmlcdhblofjpbaaDoor
/- What a call gives: a slice in memory of its own; stretches that are apart; no function of program or reference is walked here. -/
namespace Go.Proofs.YtmlcdhblofjpbaaDoor
open Go.RowKit

theorem Stay.set {F : List Reg} {w w' : World} (h : Stay F w w') {g i : Nat} (u : Value) (hne : ∀ y ∈ F, y.b ≠ g) : Stay F w (w'.setCell ⟨g, i, none⟩ u) :=
  ⟨by simpa [World.setCell] using h.size, fun y hy j h1 h2 => ⟨(World.cell?_setCell_other _ _ _ _ (fun e => by injection e with e _ _; exact hne y hy e.symm)).trans (h.cell y hy j h1 h2).1, (World.frozen?_setCell w' _ _ _).trans (h.cell y hy j h1 h2).2⟩⟩
theorem Stay.refl (F : List Reg) (w : World) : Stay F w w := ⟨Nat.le_refl _, fun _ _ _ _ _ => ⟨rfl, rfl⟩⟩
theorem var_cell {w : World} {g : Nat} {u : Value} {t : TypeId} {fr : Nat × Nat} (h : w.heap[g]? = some (.cells #[u] t fr)) : w.cell? ⟨g, 0, none⟩ = some u := by simp [World.cell?, h]
/-- The answer is a slice, whole in memory of the call's own. -/
def Gives {α : Type} (r : Rep α) (xs : List α) (w : World) (e : Ending) (w' : World) : Prop :=
  ∃ (x : Option Addr) (k m : Nat) (F : List Reg), e = .returned (.slice x k m) ∧ SeqOwn r w' w.heap.size x k xs F ∧ Below w.heap.size w w'
theorem mine_own {w : World} {B n c : Nat} {a : Option Addr} {L : List R} (h : Mine w B (.slice a n c) L) (hwf : ∀ r ∈ L, r.wf) (hm : n ≤ maxLen) : ∃ F, SeqOwn rowRep w B a n L F := by
  by_cases hn : Value.slice a n c = .slice none 0 0
  · injection hn with e1 e2 e3
    subst e1 e2 e3
    exact ⟨[], h.len, Nat.zero_le _, .inl ⟨rfl, rfl⟩⟩
  · obtain ⟨g, c', e, -, -⟩ := h.addr hn
    injection e with e1 e2 e3
    subst e1
    obtain ⟨F, hF, -⟩ := rows_own h hwf hm
    exact ⟨F, hF⟩
theorem gives_mine {w w' : World} {v : Value} {L : List R} {e : Ending} (he : e = .returned v) (h : Mine w' w.heap.size v L) (hb : Below w.heap.size w w') (hwf : ∀ r ∈ L, r.wf) (hm : L.length ≤ maxLen) : Gives rowRep L w e w' := by
  obtain ⟨a, c, rfl⟩ := h.slice
  obtain ⟨F, hF⟩ := mine_own h hwf hm
  exact ⟨a, L.length, c, F, he, hF, hb⟩
/-- Two things of which one was there before the other. -/
theorem apart_new {α β : Type} {r : Rep α} {s : Rep β} {w w' : World} {B B' n n' : Nat} {a a' : Option Addr} {xs : List α} {ys : List β} {F G : List Reg} (h : SeqOwn r w B a n xs F) (h' : SeqOwn s w' B' a' n' ys G) (hB : w.heap.size ≤ B') : ∀ x ∈ F, ∀ y ∈ G, x.apart y :=
  fun x hx y hy => .inl (by have h1 := (h.lt x hx).2; have h2 := (h'.lt y hy).1; omega)
theorem apart_flip {F G : List Reg} (h : ∀ x ∈ F, ∀ y ∈ G, Reg.apart x y) : ∀ y ∈ G, ∀ x ∈ F, Reg.apart y x := fun y hy x hx => Reg.apart_symm (h x hx y hy)
/-- A mark's frame, as what lies below a bound. -/
theorem Below.marked {α : Type} {r : Rep α} {w0 w w' : World} {B n : Nat} {a : Option Addr} {xs : List α} {F : List Reg} (h : SeqOwn r w B a n xs F) (ho : OnlyAt F w w') (hb : Below w0.heap.size w0 w) (hB : w0.heap.size ≤ B) : Below w0.heap.size w0 w' :=
  hb.trans (ho.below hb.size fun y hy => Nat.le_trans hB (h.lt y hy).1)
theorem frozen_grown {w w' : World} {row : Option Nat} (h : w.grownBy w' row) {b j : Nat} (hb : b < w.heap.size) (hne : row ≠ some b) : w'.cell? ⟨b, j, none⟩ = w.cell? ⟨b, j, none⟩ ∧ w'.frozen? ⟨b, j, none⟩ = w.frozen? ⟨b, j, none⟩ :=
  have := h.block b hb (fun e => hne e.symm)
  ⟨World.cell?_of_block this, World.frozen?_of_block this⟩
theorem Stay.of_grown {F : List Reg} {w w' : World} {row : Option Nat} (h : w.grownBy w' row) (hlt : ∀ y ∈ F, y.b < w.heap.size) (hne : ∀ y ∈ F, row ≠ some y.b) : Stay F w w' :=
  ⟨h.size, fun y hy _ _ _ => frozen_grown h (hlt y hy) (hne y hy)⟩
/-! ### What is the call's own, whatever its shape -/
theorem Rep.own.lt {α : Type} {r : Rep α} {w : World} {B : Nat} {x : α} {h : r.H} {F : List Reg} (ho : r.own w B x h F) : ∀ y ∈ F, B ≤ y.b ∧ y.b < w.heap.size := r.own_lt ho
theorem Rep.own.inn {α : Type} {r : Rep α} {w : World} {B : Nat} {x : α} {h : r.H} {F : List Reg} (ho : r.own w B x h F) : r.inn w x h := r.own_inn ho
theorem Rep.own.keep {α : Type} {r : Rep α} {w w' : World} {B : Nat} {x : α} {h : r.H} {F : List Reg} (ho : r.own w B x h F) (hb : Below w.heap.size w w') : r.own w' B x h F := r.own_stay ho (Stay.of_below hb fun y hy => (r.own_lt ho y hy).2)
theorem Rep.own.far {α : Type} {r : Rep α} {w w' : World} {B : Nat} {x : α} {h : r.H} {F G : List Reg} (ho : r.own w B x h F) (hg : OnlyAt G w w') (hap : ∀ x ∈ G, ∀ y ∈ F, Reg.apart x y) : r.own w' B x h F := r.own_stay ho (Stay.of_only hg hap fun y hy => (r.own_lt ho y hy).2)
theorem Rep.inn.keep {α : Type} {r : Rep α} {w w' : World} {x : α} {h : r.H} (hi : r.inn w x h) (hb : Below w.heap.size w w') : r.inn w' x h := r.inn_keep hi hb
theorem apart_lt {F G : List Reg} {n : Nat} (h : ∀ y ∈ F, y.b < n) (h' : ∀ y ∈ G, n ≤ y.b) : ∀ x ∈ F, ∀ y ∈ G, Reg.apart x y := fun x hx y hy => .inl (by have := h x hx; have := h' y hy; omega)
theorem box_cell {w : World} {g : Nat} {cs : Array Value} {t : TypeId} {fr : Nat × Nat} (h : w.heap[g]? = some (.cells cs t fr)) (j : Nat) (u : Value) (hu : cs[j]? = some u) : w.cell? ⟨g, j, none⟩ = some u := by simp [World.cell?, h, hu]
end Go.Proofs.YtmlcdhblofjpbaaDoor
/- What changes one block alone; no function of program or reference is walked here. -/
namespace Go.Proofs.YtmlcdhblofjpbaaDoor
open Go.RowKit

/-- Only block c has changed, and what is new. -/
def Only (c : Nat) (w w' : World) : Prop := w.grownBy w' (some c)
theorem Only.refl (c : Nat) (w : World) : Only c w w := World.grownBy.refl w _
theorem Only.trans {c : Nat} {a b d : World} (h : Only c a b) (k : Only c b d) : Only c a d :=
  ⟨k.os.trans h.os, k.tape.trans h.tape, k.output.trans h.output, Nat.le_trans h.size k.size, fun i hi hne => (k.block i (Nat.lt_of_lt_of_le hi h.size) hne).trans (h.block i hi hne)⟩
theorem Only.drew {c : Nat} {a w : World} (h : Only c a w) : Only c a w.drew := ⟨h.os, h.tape, h.output, h.size, h.block⟩
theorem Only.drewN {c : Nat} {a w : World} (h : Only c a w) (n : Nat) : Only c a (w.drewN n) := ⟨h.os, h.tape, h.output, h.size, h.block⟩
theorem Only.alloc {c : Nat} {a w : World} (h : Only c a w) (o : Obj) : Only c a (w.alloc o) :=
  ⟨h.os, h.tape, h.output, Nat.le_trans h.size (by simp), fun i hi hne => (Below.heap_alloc w o i (Nat.lt_of_lt_of_le hi h.size)).trans (h.block i hi hne)⟩
theorem Only.setCell {c : Nat} {a w : World} (h : Only c a w) (i : Nat) (u : Value) : Only c a (w.setCell ⟨c, i, none⟩ u) :=
  ⟨h.os, h.tape, h.output, by simpa [World.setCell] using h.size, fun k hk hne => (Below.heap_setCell w ⟨c, i, none⟩ u k (fun e => hne (by rw [e]))).trans (h.block k hk hne)⟩
theorem Only.of_below {c : Nat} {a w : World} (h : Below a.heap.size a w) : Only c a w := ⟨h.os, h.tape, h.output, h.size, fun i hi _ => h.block i hi⟩
/-- A step that keeps all that was there at a's time. -/
theorem Only.step {c : Nat} {a b d : World} (h : Only c a b) (k : Below a.heap.size b d) : Only c a d :=
  ⟨k.os.trans h.os, k.tape.trans h.tape, k.output.trans h.output, Nat.le_trans h.size k.size, fun i hi hne => (k.block i hi).trans (h.block i hi hne)⟩
theorem Only.below {c B : Nat} {a b : World} (h : Only c a b) (hB : B ≤ a.heap.size) (hc : B ≤ c) : Below B a b :=
  ⟨h.os, h.tape, h.output, h.size, fun i hi => h.block i (Nat.lt_of_lt_of_le hi hB) (fun e => by injection e with e; omega)⟩

end Go.Proofs.YtmlcdhblofjpbaaDoor
/- The laws' copy of a row (toRow) and comparison (eqRow), by contract. -/
namespace Go.Proofs.YtmlcdhblofjpbaaDoor
open Go.RowKit

theorem torow (r : R) (w : World) : Calls Tryd.prog 175 #[r.val] w fun e w' => e = .returned r.val ∧ Below w.heap.size w w' := by
  obtain ⟨k, v, d⟩ := r
  unfold R.val
  go_enter Tryd.func175, Tryd.ntmps175
  go_wp2_with fail
  refine bodyPost_ret (v := .agg #[.int .i64 k, .int .i64 v, .int .i64 d]) (by simp [results, Tryd.results175, go_sem]) rfl ⟨rfl, ?_⟩
  exact Joins.below_alloc3 _ _ _ _
theorem eqrow (a b : R) (w : World) : Calls Tryd.prog 176 #[a.val, b.val] w fun e w' => e = .returned (.bool (decide (a = b))) ∧ Below w.heap.size w w' := by
  obtain ⟨k, v, d⟩ := a
  obtain ⟨k', v', d'⟩ := b
  have e : decide (R.mk k v d = R.mk k' v' d') = decide (k = k' ∧ v = v' ∧ d = d') := by simp
  rw [e]
  unfold R.val
  go_enter Tryd.func176, Tryd.ntmps176
  go_wp2_with fail
  all_goals go_ret
  all_goals refine ⟨?_, Joins.below_alloc2 _ _ _⟩
  all_goals simp_all
end Go.Proofs.YtmlcdhblofjpbaaDoor
/- The laws' copy of a slice of rows (toRowS), by contract. -/
namespace Go.Proofs.YtmlcdhblofjpbaaDoor
open Go.RowKit

set_option maxRecDepth 100000 in
theorem torows (a : Option Addr) (len cap : Nat) (L : List R) (w : World) (h : IsRows w a len L) (hlen : len ≤ 1000000000000) :
    Calls Tryd.prog 168 #[.slice a len cap] w fun e w' => ∃ g, e = .returned (.slice (some ⟨g, 0, none⟩) len len) ∧ w.heap.size ≤ g ∧ w'.heap[g]? = some (.cells (cells3 L).toArray 41 (0, 0)) ∧ Below w.heap.size w w' := by
  obtain ⟨hl, -, hc⟩ := h
  have HL := Lib.hid hl
  have HC := Lib.hid hc
  clear hl hc
  have hmk := run_make_rows len hlen
  have hbw : Below w.heap.size w (w.alloc (.cells (cells3 (List.replicate len R.zero)).toArray 41)) := (Below.refl _ _).alloc (Nat.le_refl _) _
  have hgw : (w.alloc (.cells (cells3 (List.replicate len R.zero)).toArray 41)).heap[w.heap.size]? = some (.cells (cells3 (List.replicate len R.zero)).toArray 41 (0, 0)) := heap_alloc_new w _
  have HBW := Lib.hid hbw
  have HGW := Lib.hid hgw
  clear hbw hgw
  go_enter Tryd.func168, Tryd.ntmps168
  go_wp2_with fail
  clear hmk
  go_loopw [4] (fun i wr => ∃ k : Nat, i = .int .i64 k ∧ k ≤ len ∧ Hid (wr.heap[w.heap.size]? = some (.cells (cells3 (L.take k ++ List.replicate (len - k) R.zero)).toArray 41 (0, 0))) ∧ Hid (Below w.heap.size w wr)) (fun i _ => len - (intOf i).toNat)
  case atStart => exact ⟨0, rfl, Nat.zero_le _, HGW, HBW⟩
  case round =>
    obtain ⟨k, rfl, hk, hg, hb⟩ := hrel
    by_cases hlt : k < len
    · obtain ⟨b, o, rfl, hbl, hc⟩ : ∃ b o : Nat, a = some ⟨b, o, none⟩ ∧ b < w.heap.size ∧ ∀ t, t < len → RowAt w b (o + t * 3) (L.getD t R.zero) := by
        rcases HC.out with h0 | h0
        · omega
        · exact h0
      obtain ⟨r, hr⟩ : ∃ r, r = L.getD k R.zero := ⟨_, rfl⟩
      have hat : RowAt wr b (o + k * 3) r := by rw [hr]; exact (hc k hlt).below hb.out hbl
      obtain ⟨c0, c1, c2⟩ := hat
      have HR := Lib.hid hr
      clear hr hc
      go_wp2_with fail
      refine (torow r _).mono ?_
      rintro e w1 ⟨rfl, b1⟩
      unfold R.val
      have hgl : w.heap.size < wr.heap.size := lt_of_block hg.out
      have hg1 : w1.heap[w.heap.size]? = some (.cells (cells3 (L.take k ++ List.replicate (len - k) R.zero)).toArray 41 (0, 0)) := (b1.block _ hgl).trans hg.out
      obtain ⟨x, d0, d1, d2⟩ : ∃ x, RowAt w1 w.heap.size (k * 3) x := ⟨_, rows_cells hg1 k (by simp [HL.out]; omega)⟩
      have f0 := rows_free hg1 (k * 3)
      have f1 := rows_free hg1 (k * 3 + 1)
      have f2 := rows_free hg1 (k * 3 + 2)
      have HG1 := Lib.hid hg1
      have B1 := Lib.hid (hb.out.trans (b1.mono hb.out.size))
      clear hg1 b1 hgl
      go_wp2_with fail
      go_roundw
      case rel =>
        refine ⟨k + 1, by go_num, by omega, ?_, below_set3 B1.out (Nat.le_refl _) _ _ _ _ _ _⟩
        show _ = _
        rw [rows_set HG1.out k (by simp [HL.out]; omega) r, HR.out, set_next L len k HL.out hlt]
      case measure => simp [intOf]; omega
    · have hkl : k = len := by omega
      have hfin : wr.heap[w.heap.size]? = some (.cells (cells3 L).toArray 41 (0, 0)) := by
        rw [hg.out, hkl, ← HL.out, List.take_length, Nat.sub_self]; simp
      have HF := Lib.hid hfin
      clear hfin hkl
      go_wp2_with fail
      go_ret
      exact ⟨_, rfl, Nat.le_refl _, HF.out, hb.out⟩
end Go.Proofs.YtmlcdhblofjpbaaDoor
/- The laws' marks on rows of the call's own, and what they leave alone; the sizes that the laws reckon; no function of program or reference is walked here. -/
namespace Go.Proofs.YtmlcdhblofjpbaaDoor
open Go.RowKit

set_option maxRecDepth 100000 in
theorem mark (B : Nat) (a : Option Addr) (len cap : Nat) (L : List R) (q : Int) (w : World) (h : Mine w B (.slice a len cap) L) (hlen : len ≤ 1000000000000) (hq0 : 0 ≤ q) (hq1 : q ≤ 10000000000000) :
    Calls Tryd.prog 138 #[.slice a len cap, .int .i64 q] w fun e w' => e = .returned (.int .i64 (q + 3 * len)) ∧ Mine w' B (.slice a len cap) (marked len q) ∧ w.grownBy w' (Value.slice a len cap).ownBlock := by
  have HL := Lib.hid h.len
  have HO := Lib.hid h
  clear h
  go_enter Tryd.func138, Tryd.ntmps138
  go_wp2_with fail
  go_loopw [1, 5] (fun x i wr => ∃ k : Nat, x = .int .i64 (q + 3 * k) ∧ i = .int .i64 k ∧ k ≤ len ∧ Hid (Mine wr B (.slice a len cap) (marked k q ++ L.drop k)) ∧ Hid (w.grownBy wr (Value.slice a len cap).ownBlock)) (fun _ i _ => len - (intOf i).toNat)
  case atStart => exact ⟨0, by go_num, rfl, Nat.zero_le _, (show Mine w B (.slice a len cap) (marked 0 q ++ L.drop 0) from HO.out), World.grownBy.refl _ _⟩
  case round =>
    obtain ⟨k, rfl, rfl, hk, hown, hb⟩ := hrel
    by_cases hlt : k < len
    · obtain ⟨g, rfl, hg, hgl, hat, hfz, hset⟩ := hown.out.at hlt
      obtain ⟨x, hx⟩ : ∃ x, x = (marked k q ++ L.drop k).getD k R.zero := ⟨_, rfl⟩
      rw [← hx] at hat
      obtain ⟨c0, c1, c2⟩ := hat
      have f0 := hfz (k * 3)
      have f1 := hfz (k * 3 + 1)
      have f2 := hfz (k * 3 + 2)
      have HS := Lib.hid (hset ⟨q + 3 * k, q + 3 * k + 1, q + 3 * k + 2⟩)
      rw [marked_set len k q L HL.out hlt] at HS
      have ho : Only g w wr := hb.out
      have HB := Lib.hid ho
      clear hset hx hfz ho
      go_wp2_with fail
      have e2 : q + 3 * (k : Int) + 1 + 1 = q + 3 * (k : Int) + 2 := by omega
      rw [e2]
      clear e2
      go_roundw
      case rel => exact ⟨k + 1, by go_num, by go_num, by omega, HS.out, ((HB.out.setCell _ _).setCell _ _).setCell _ _⟩
      case measure => simp [intOf]; omega
    · have hkl : k = len := by omega
      have hfin : Mine wr B (.slice a len cap) (marked len q) := by
        have := hown.out
        rw [hkl, List.drop_eq_nil_of_le (by rw [HL.out]; exact Nat.le_refl _), List.append_nil] at this
        exact this
      have HF := Lib.hid hfin
      have HK := Lib.hid hkl
      clear hfin hkl
      go_wp2_with fail
      go_ret
      exact ⟨by rw [← HK.out]; rfl, HF.out, hb.out⟩
set_option maxRecDepth 100000 in
theorem mine_held (B : Nat) (a : Option Addr) (len cap : Nat) (q : Int) (w : World) (h : Mine w B (.slice a len cap) (marked len q)) (hlen : len ≤ 1000000000000) (hq0 : 0 ≤ q) (hq1 : q ≤ 10000000000000) :
    Calls Tryd.prog 139 #[.slice a len cap, .int .i64 q] w fun e w' => e = .returned (.int .i64 (q + 3 * len)) ∧ w = w' := by
  have HO := Lib.hid h
  clear h
  go_enter Tryd.func139, Tryd.ntmps139
  go_wp2_with fail
  go_loop [1, 5] (fun x i => ∃ k : Nat, x = .int .i64 (q + 3 * k) ∧ i = .int .i64 k ∧ k ≤ len) (fun _ i => len - (intOf i).toNat)
  case atStart => exact ⟨0, by go_num, rfl, Nat.zero_le _⟩
  case round =>
    obtain ⟨k, rfl, rfl, hk⟩ := hrel
    by_cases hlt : k < len
    · obtain ⟨g, rfl, hg, hgl, ⟨c0, c1, c2⟩, hfz, -⟩ := HO.out.at hlt
      rw [marked_get len q k hlt] at c0 c1 c2
      simp only at c0 c1 c2
      rw [show q + 3 * (k : Int) + 2 = q + 3 * (k : Int) + 1 + 1 by omega] at c2
      clear hfz
      go_wp2_with fail
      go_round
      case rel => exact ⟨k + 1, by go_num, by go_num, by omega⟩
      case measure => simp [intOf]; omega
    · have hkl : k = len := by omega
      have HK := Lib.hid hkl
      clear hkl
      go_wp2_with fail
      go_ret
      exact ⟨by rw [← HK.out]; rfl, rfl⟩
theorem sz_ok (a : Option Addr) (len cap : Nat) (left : Int) (w : World) (h : (len : Int) ≤ left) (hl : left ≤ 1048576) : Calls Tryd.prog 167 #[.slice a len cap, .int .i64 left] w fun e w' => e = .returned (.int .i64 (left - len)) ∧ w = w' := by
  go_enter Tryd.func167, Tryd.ntmps167
  go_wp2_with fail
  go_ret
  exact ⟨rfl, rfl⟩
theorem sz_no (a : Option Addr) (len cap : Nat) (left : Int) (w : World) (h : left < len) (h' : len ≤ 9223372036854775807) (h0 : 0 ≤ left) : Calls Tryd.prog 167 #[.slice a len cap, .int .i64 left] w fun e w' => e = .returned (.int .i64 (-1)) ∧ w = w' := by
  go_enter Tryd.func167, Tryd.ntmps167
  go_wp2_with fail
  go_ret
  exact ⟨rfl, rfl⟩
/-- What lies below a bound is not what lies from it on. -/
theorem Mine.apart {w w' : World} {B B' s : Nat} {v v' : Value} {L L' : List R} (h : Mine w B v L) (h' : Mine w' B' v' L') (hs : w.heap.size ≤ s) (hB : s ≤ B') : ∀ k, v.ownBlock = some k → v'.ownBlock ≠ some k := fun k hk hk' => by
  have h1 := (World.ownsRow.lt h k hk).2
  have h2 := (World.ownsRow.lt h' k hk').1
  omega
theorem apart_symm {v v' : Value} (h : ∀ k, v.ownBlock = some k → v'.ownBlock ≠ some k) : ∀ k, v'.ownBlock = some k → v.ownBlock ≠ some k := fun k hk hk' => h k hk' hk
theorem copyrows (a : Option Addr) (len cap : Nat) (L : List R) (w : World) (h : IsRows w a len L) (hlen : len ≤ 1000000000000) :
    Calls Tryd.prog 168 #[.slice a len cap] w fun e w' => ∃ g, e = .returned (.slice (some ⟨g, 0, none⟩) len len) ∧ Mine w' w.heap.size (.slice (some ⟨g, 0, none⟩) len len) L ∧ Below w.heap.size w w' :=
  (torows a len cap L w h hlen).mono fun _ _ ⟨g, he, hg, hh, hb⟩ => ⟨g, he, mine_of_block hh hg h.1 (by unfold maxLen; omega), hb⟩
end Go.Proofs.YtmlcdhblofjpbaaDoor
/- Rows among the arguments of a law: a struct by value, and a slice of them: from the reading to the mathematics and back. -/
namespace Go.Proofs.YtmlcdhblofjpbaaDoor
open Go Go.ChangeShapes Go.WideShapes Go.RowKit Go.Deep Go.Joins

/-- A row as a datum. -/
def R.dat {H : Type} (r : R) : DataW H := .agg [.lit (.int .i64 r.key), .lit (.int .i64 r.value), .lit (.int .i64 r.width)]
theorem intCells : Tryd.prog.cellsOf 3 = 1 := by kernel_rfl
theorem lawRowCells : Tryd.prog.cellsOf 202 = 3 := by kernel_rfl
section
variable {H : Type} {enc : TypeId × Value → H} {w : World} {base : Nat} {spare : Nat → Bool} {held : Bool}
set_option maxRecDepth 100000 in
theorem open_row {r : Reach} {b0 : Nat} {v : Value} {d : DataW H} {p : List MemPlace} (hv : Value.okWide Tryd.prog w r b0 202 v) (h : DataW.Trod enc Tryd.prog w base spare held 202 v d p) :
    ∃ q : R, v = q.val ∧ d = q.dat ∧ p = [] ∧ q.wf := by
  obtain ⟨c0, c1, c2, y0, y1, y2, m, rfl, rfl, rfl, h0, h1, h2⟩ := open_agg3 Tryd.underlying202 (by kernel_rfl) lawRowCells hv h
  obtain ⟨k0, e0, rfl, w0⟩ := DataW.trod_int Tryd.underlying3 h0
  obtain ⟨k1, e1, rfl, w1⟩ := DataW.trod_int Tryd.underlying3 h1
  obtain ⟨k2, e2, rfl, w2⟩ := DataW.trod_int Tryd.underlying3 h2
  simp only [List.cons.injEq, and_true] at e0 e1 e2
  subst e0 e1 e2
  exact ⟨⟨k0, k1, k2⟩, rfl, rfl, rfl, bounds_i64 w0, bounds_i64 w1, bounds_i64 w2⟩
theorem lit_wf {n : Int} (h : -9223372036854775808 ≤ n ∧ n ≤ 9223372036854775807) : (Lit.int .i64 n).wf = true := by
  have e0 : IntKind.i64.min = -9223372036854775808 := by decide
  have e1 : IntKind.i64.max = 9223372036854775807 := by decide
  simp [Lit.wf, e0, e1, h.1, h.2]
set_option maxRecDepth 100000 in
theorem shut_row (q : R) (hq : q.wf) : DataW.Trod enc Tryd.prog w base spare held 202 q.val q.dat [] :=
  shut_agg3 (y0 := (.lit (.int .i64 q.key), [])) (y1 := (.lit (.int .i64 q.value), [])) (y2 := (.lit (.int .i64 q.width), [])) Tryd.underlying202 (by kernel_rfl) lawRowCells
    ⟨1, by simp [DataW.trod, Tryd.underlying3, lit_wf hq.1]⟩ ⟨1, by simp [DataW.trod, Tryd.underlying3, lit_wf hq.2.1]⟩ ⟨1, by simp [DataW.trod, Tryd.underlying3, lit_wf hq.2.2]⟩

set_option maxRecDepth 100000 in
theorem open_rows {a : Option Addr} {len cap : Nat} {d : DataW H} {p : List MemPlace} (h : DataW.Trod enc Tryd.prog w 0 spare held 179 (.slice a len cap) d p) : len ≤ maxLen ∧ ∃ L : List R, IsRows w a len L := by
  obtain ⟨fuel, hf⟩ := h
  rcases open_slice Tryd.underlying179 hf with ⟨hcs, _⟩ | ⟨x, l, c, m, n, D, Pl, hcs, _, hl, hm, hmm, _, hi⟩
  · simp [Value.cells] at hcs
    obtain ⟨rfl, rfl, rfl⟩ := hcs
    exact ⟨Nat.zero_le _, [], rfl, (fun r hr => by cases hr), .inl rfl⟩
  · simp [Value.cells] at hcs
    obtain ⟨rfl, rfl, rfl⟩ := hcs
    have hlm : len ≤ m := by rw [hmm]; split <;> omega
    refine ⟨Nat.le_trans hl hm, ?_⟩
    rw [lawRowCells] at hi
    have hone : ∀ i, i < len → ∃ r : R, r.wf ∧ w.cell? (x.add (i * 3)) = some (.int .i64 r.key) ∧ w.cell? (x.add (i * 3 + 1)) = some (.int .i64 r.value) ∧ w.cell? (x.add (i * 3 + 2)) = some (.int .i64 r.width) := by
      intro i hil
      obtain ⟨cs', hc, ht⟩ := hi i (by omega)
      obtain ⟨_, hcl, hat⟩ := World.cells?_some hc
      obtain ⟨y0, y1, y2, k, _, _, h0, h1, h2⟩ := trod_struct3 Tryd.underlying202 ht
      match cs', hcl with
      | [c0, c1, c2], _ =>
        obtain ⟨k0, e0, rfl, w0⟩ := DataW.trod_int Tryd.underlying3 h0
        obtain ⟨k1, e1, rfl, w1⟩ := DataW.trod_int Tryd.underlying3 h1
        obtain ⟨k2, e2, rfl, w2⟩ := DataW.trod_int Tryd.underlying3 h2
        simp [intCells] at e0 e1 e2
        subst e0 e1 e2
        have q0 := hat 0 (by omega)
        have q1 := hat 1 (by omega)
        have q2 := hat 2 (by omega)
        rw [add_add] at q0 q1 q2
        exact ⟨⟨k0, k1, k2⟩, ⟨bounds_i64 w0, bounds_i64 w1, bounds_i64 w2⟩, q0, q1, q2⟩
    obtain ⟨f, hf'⟩ := choose_lt hone
    refine ⟨(List.range len).map f, by simp, fun r hr => ?_, ?_⟩
    · obtain ⟨i, hil, rfl⟩ := List.mem_map.1 hr
      exact (hf' i (List.mem_range.1 hil)).1
    · by_cases h0 : len = 0
      · exact .inl h0
      · right
        obtain ⟨b, o, spot⟩ := x
        have hspot : spot = none := by simpa [Addr.add] using World.cell?_spot (hf' 0 (by omega)).2.1
        subst hspot
        have hb : b < w.heap.size := by
          have := World.block_lt_of_cell? w _ (hf' 0 (by omega)).2.1
          simpa [Addr.add] using this
        refine ⟨b, o, rfl, hb, fun t ht => ?_⟩
        have hg : ((List.range len).map f).getD t R.zero = f t := by simp [List.getD, ht]
        rw [hg]
        obtain ⟨_, q0, q1, q2⟩ := hf' t ht
        have ha : ∀ j, (⟨b, o, none⟩ : Addr).add j = ⟨b, o + j, none⟩ := by
          intro j
          by_cases hj : j = 0
          · subst hj; simp [Addr.add]
          · simp [Addr.add, hj]
        rw [ha] at q0 q1 q2
        exact ⟨q0, q1, q2⟩
end
end Go.Proofs.YtmlcdhblofjpbaaDoor
/- Arguments of whatever shape: from the reading to the mathematics, by the type; no function of program or reference is walked here. -/
namespace Go.Proofs.YtmlcdhblofjpbaaDoor
open Go Go.ChangeShapes Go.WideShapes Go.RowKit Go.Deep Go.Joins

/-- Whatever reads as a value of the type is of this shape. -/
def Opens (T : TypeId) {α : Type} (r : Rep α) : Prop :=
  ∀ (H : Type) (enc : TypeId × Value → H) (w : World) (spare : Nat → Bool) (held : Bool) (fuel : Nat) (cs : List Value) (x : DataW H × List MemPlace), DataW.trod enc Tryd.prog w 0 spare held fuel T cs = some x → cs.length = r.size → ∃ (y : α) (h : r.H), cs = r.cells y h ∧ r.inn w y h
set_option maxRecDepth 100000 in
theorem Opens.seq {T e : TypeId} {α : Type} {r : Rep α} (ht : Tryd.prog.underlying T = some (.slice e)) (hc : Tryd.prog.cellsOf e = r.size) (hp : 0 < r.size) (hO : Opens e r) : Opens T (seqRep r) := by
  intro H enc w spare held fuel cs x h _
  rcases open_slice ht h with ⟨rfl, -⟩ | ⟨a, len, cap, m, n, D, Pl, rfl, -, hl, hm, hmm, -, hi⟩
  · exact ⟨[], (none, 0, 0), rfl, ⟨rfl, Nat.zero_le _, .inl rfl⟩, fun _ => rfl⟩
  · have hlm : len ≤ m := by rw [hmm]; split <;> omega
    rw [hc] at hi
    rcases Nat.eq_zero_or_pos len with h0 | h0
    · subst h0
      exact ⟨[], (some a, 0, cap), rfl, ⟨rfl, Nat.zero_le _, .inl rfl⟩, fun e => by cases e⟩
    · have hone : ∀ i, i < len → ∃ (yh : α × r.H), (∀ j u, (r.cells yh.1 yh.2)[j]? = some u → w.cell? (a.add (i * r.size + j)) = some u) ∧ r.inn w yh.1 yh.2 := by
        intro i hil
        obtain ⟨cs', hcs, htr⟩ := hi i (by omega)
        obtain ⟨_, hcl, hat⟩ := World.cells?_some hcs
        obtain ⟨y, hd, rfl, hin⟩ := hO H enc w spare held n cs' _ htr hcl
        refine ⟨(y, hd), fun j u hj => ?_, hin⟩
        have hjl : j < r.size := by rw [← hcl]; exact idx_lt hj
        have := hat j hjl
        rw [add_add] at this
        rw [this]
        exact hj
      obtain ⟨yh0, -⟩ := hone 0 h0
      obtain ⟨f, hf⟩ := @choose_lt (α × r.H) ⟨yh0⟩ len _ hone
      obtain ⟨b, o, spot⟩ := a
      have hl0 : 0 < (r.cells (f 0).1 (f 0).2).length := by rw [r.len]; exact hp
      have hcell0 := (hf 0 h0).1 0 ((r.cells (f 0).1 (f 0).2)[0]) (by simp [hl0])
      have hspot : spot = none := by simpa [Addr.add] using World.cell?_spot hcell0
      subst hspot
      have hb : b < w.heap.size := by
        have := World.block_lt_of_cell? w _ hcell0
        simpa [Addr.add] using this
      refine ⟨(List.range len).map fun t => (f t).1, (some ⟨b, o, none⟩, len, cap), rfl, ⟨by simp, by show len ≤ maxLen; omega, .inr ⟨b, o, rfl, hb, fun t => (f t).2, fun t x hx => ?_⟩⟩, fun e => by cases e⟩
      have htl : t < len := by simpa using idx_lt hx
      obtain rfl : (f t).1 = x := by simpa [htl] using hx
      refine ⟨fun j u hj => ?_, (hf t htl).2⟩
      have := (hf t htl).1 j u hj
      rw [Addr.add_lit] at this
      rw [Nat.add_assoc]
      exact this
set_option maxRecDepth 100000 in
theorem Opens.row : Opens 202 rowRep := by
  intro H enc w spare held fuel cs x h hl
  obtain ⟨y0, y1, y2, k, _, _, h0, h1, h2⟩ := trod_struct3 Tryd.underlying202 h
  match cs, hl with
  | [c0, c1, c2], _ =>
    obtain ⟨k0, e0, rfl, w0⟩ := DataW.trod_int Tryd.underlying3 h0
    obtain ⟨k1, e1, rfl, w1⟩ := DataW.trod_int Tryd.underlying3 h1
    obtain ⟨k2, e2, rfl, w2⟩ := DataW.trod_int Tryd.underlying3 h2
    simp [intCells] at e0 e1 e2
    subst e0 e1 e2
    exact ⟨⟨k0, k1, k2⟩, (), rfl, bounds_i64 w0, bounds_i64 w1, bounds_i64 w2⟩

/-- A field of a struct that is read. -/
theorem field_at {H : Type} {enc : TypeId × Value → H} {w : World} {spare : Nat → Bool} {held : Bool} {m : Nat} {fs : Array Field} {xs : List (DataW H × List MemPlace)} {cs : List Value}
    (hf : ∀ (i : Nat) (f : Field), fs[i]? = some f → DataW.trod enc Tryd.prog w 0 spare held m f.type ((cs.drop f.offset).take (Tryd.prog.cellsOf f.type)) = xs[i]?) (hl : xs.length = fs.size) (i : Nat) (f : Field) (e : fs[i]? = some f) (o k : Nat) (ho : f.offset = o) (hk : Tryd.prog.cellsOf f.type = k) :
    ∃ x, DataW.trod enc Tryd.prog w 0 spare held m f.type ((cs.drop o).take k) = some x := by
  have hi : i < xs.length := by rw [hl]; exact (Array.getElem?_eq_some_iff.1 e).1
  have := hf i f e
  rw [List.getElem?_eq_getElem hi, ho, hk] at this
  exact ⟨_, this⟩
set_option maxRecDepth 100000 in
theorem Opens.one {T : TypeId} {f0 : Field} {α : Type} {r : Rep α} (hs : Tryd.prog.underlying T = some (.struct #[f0])) (ho : f0.offset = 0) (hc : Tryd.prog.cellsOf f0.type = r.size) (hO : Opens f0.type r) : Opens T r := by
  intro H enc w spare held fuel cs x h hl
  obtain ⟨y0, n, -, -, h0⟩ := trod_struct1 hs h
  rw [ho, hc, List.drop_zero, List.take_of_length_le (by omega)] at h0
  exact hO H enc w spare held n cs _ h0 hl

set_option maxRecDepth 100000 in
theorem Opens.val {T : TypeId} {fs : Array Field} {α : Type} {r : Rep α} (hO : Opens T r) (hs : Tryd.prog.underlying T = some (.struct fs)) (hc : Tryd.prog.cellsOf T = r.size)
    {H : Type} {enc : TypeId × Value → H} {w : World} {spare : Nat → Bool} {held : Bool} {q : Reach} {b0 : Nat} {v : Value} {d : DataW H} {p : List MemPlace} (hv : Value.okWide Tryd.prog w q b0 T v) (h : DataW.Trod enc Tryd.prog w 0 spare held T v d p) :
    ∃ (y : α) (hd : r.H), v = .agg (r.cells y hd).toArray ∧ r.inn w y hd := by
  obtain ⟨cs, rfl, hsz⟩ := okWide_struct hs hv
  obtain ⟨fuel, hf⟩ := h
  obtain ⟨y, hd, e, hi⟩ := hO H enc w spare held fuel _ _ hf (by simpa [Value.cells] using hsz.trans hc)
  refine ⟨y, hd, ?_, hi⟩
  simp only [Value.cells] at e
  rw [← e]

set_option maxRecDepth 100000 in
theorem Opens.arg {T : TypeId} {α : Type} {r : Rep α} (hO : Opens T (seqRep r)) {H : Type} {enc : TypeId × Value → H} {w : World} {spare : Nat → Bool} {held : Bool} {a : Option Addr} {len cap : Nat} {d : DataW H} {p : List MemPlace}
    (h : DataW.Trod enc Tryd.prog w 0 spare held T (.slice a len cap) d p) : ∃ xs : List α, SeqIn r w a len xs := by
  obtain ⟨fuel, hf⟩ := h
  obtain ⟨y, ⟨a', n', c'⟩, e, hi⟩ := hO H enc w spare held fuel _ _ hf (by simp [Value.cells, seqRep])
  simp [Value.cells, seqRep] at e
  obtain ⟨rfl, rfl, rfl⟩ := e
  exact ⟨y, hi.1⟩
end Go.Proofs.YtmlcdhblofjpbaaDoor
