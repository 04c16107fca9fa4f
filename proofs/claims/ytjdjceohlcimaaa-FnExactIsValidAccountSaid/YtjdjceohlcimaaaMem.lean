/- Rows in memory, slices over shapes, slices built element by element, appends; no function of program or reference is walked here. -/
import Derived.Test.YtjdjceohlcimaaaProg
import Derived.Test.YtjdjceohlcimaaaMath
import Derived.WalkKit
import Derived.Below
import Derived.Lib.Hide
import Derived.OwnWalk
import Derived.IntWalk
import Derived.Laws.OwnMore
import Derived.OpenShut
import Derived.Lib.SmallJoins
import Derived.Laws.AppendOwnNone
import Derived.Deep.RegionLaw
import Derived.Deep.RegionLawGrows
import Derived.Deep.AppendLies
import Derived.Lib.SliceRun
namespace Go.Proofs.Ytjdjceohlcimaaa
open Go.RowKit

/-- A row as a struct's value. -/
def R.val (r : R) : Value := .agg #[.int .i64 r.key, .int .i64 r.value, .int .i64 r.width]
/-- The three cells of a row at a place. -/
def RowAt (w : World) (b o : Nat) (r : R) : Prop := w.cell? ⟨b, o, none⟩ = some (.int .i64 r.key) ∧ w.cell? ⟨b, o + 1, none⟩ = some (.int .i64 r.value) ∧ w.cell? ⟨b, o + 2, none⟩ = some (.int .i64 r.width)
theorem RowAt.below {w w' : World} {B b o : Nat} {r : R} (h : RowAt w b o r) (hb : Below B w w') (hlt : b < B) : RowAt w' b o r :=
  ⟨(hb.cell hlt).trans h.1, (hb.cell hlt).trans h.2.1, (hb.cell hlt).trans h.2.2⟩
/-- A row laid in a block of its own, behind a call. -/
theorem box_row {w w' : World} {r : R} {t : TypeId} (hb : Below (w.alloc (.cells #[.int .i64 r.key, .int .i64 r.value, .int .i64 r.width] t)).heap.size (w.alloc (.cells #[.int .i64 r.key, .int .i64 r.value, .int .i64 r.width] t)) w') :
    RowAt w' w.heap.size 0 r ∧ Below w.heap.size w w' := by
  have hs : w.heap.size < (w.alloc (.cells #[.int .i64 r.key, .int .i64 r.value, .int .i64 r.width] t)).heap.size := by simp
  refine ⟨RowAt.below ⟨?_, ?_, ?_⟩ hb hs, ?_⟩
  · simp
  · simp
  · simp
  · exact ((Below.refl _ _).alloc (Nat.le_refl _) _).trans (hb.mono (by simp))
theorem box_lt {w w' : World} {cs : Array Value} {t : TypeId} {fr : Nat × Nat} (hb : Below (w.alloc (.cells cs t fr)).heap.size (w.alloc (.cells cs t fr)) w') : w.heap.size < w'.heap.size := Nat.lt_of_lt_of_le (by simp) hb.size
/-- Two rows laid in blocks of their own, one behind the other. -/
theorem box2 (w : World) (a b : R) (s t : TypeId) : ∃ W, W = (w.alloc (.cells #[.int .i64 a.key, .int .i64 a.value, .int .i64 a.width] s)).alloc (.cells #[.int .i64 b.key, .int .i64 b.value, .int .i64 b.width] t) ∧
    RowAt W w.heap.size 0 a ∧ RowAt W (w.heap.size + 1) 0 b ∧ Below w.heap.size w W ∧ w.heap.size + 1 < W.heap.size := by
  refine ⟨_, rfl, ⟨?_, ?_, ?_⟩, ⟨?_, ?_, ?_⟩, Joins.below_alloc2 _ _ _, by simp⟩ <;> simp
/-- Two rows lie in blocks of their own, above what was there at w's time. -/
structure Boxes (w : World) (a b : R) (v : World) : Prop where
  a0 : v.cell? ⟨w.heap.size, 0, none⟩ = some (.int .i64 a.key)
  a1 : v.cell? ⟨w.heap.size, 1, none⟩ = some (.int .i64 a.value)
  a2 : v.cell? ⟨w.heap.size, 2, none⟩ = some (.int .i64 a.width)
  b0 : v.cell? ⟨w.heap.size + 1, 0, none⟩ = some (.int .i64 b.key)
  b1 : v.cell? ⟨w.heap.size + 1, 1, none⟩ = some (.int .i64 b.value)
  b2 : v.cell? ⟨w.heap.size + 1, 2, none⟩ = some (.int .i64 b.width)
  old : Below w.heap.size w v
  big : w.heap.size + 1 < v.heap.size
theorem boxes_start (w : World) (a b : R) (s t : TypeId) : ∃ W, W = (w.alloc (.cells #[.int .i64 a.key, .int .i64 a.value, .int .i64 a.width] s)).alloc (.cells #[.int .i64 b.key, .int .i64 b.value, .int .i64 b.width] t) ∧ Boxes w a b W := by
  refine ⟨_, rfl, ?_, ?_, ?_, ?_, ?_, ?_, Joins.below_alloc2 _ _ _, by simp⟩ <;> simp
theorem Boxes.drew {w v : World} {a b : R} (h : Boxes w a b v) : Boxes w a b v.drew := ⟨h.a0, h.a1, h.a2, h.b0, h.b1, h.b2, h.old.drew, h.big⟩
theorem Boxes.next {w v v' : World} {a b : R} (h : Boxes w a b v) (hb : Below v.heap.size v v') : Boxes w a b v' := by
  have h1 : w.heap.size < v.heap.size := by have := h.big; omega
  exact ⟨(hb.cell h1).trans h.a0, (hb.cell h1).trans h.a1, (hb.cell h1).trans h.a2, (hb.cell h.big).trans h.b0, (hb.cell h.big).trans h.b1, (hb.cell h.big).trans h.b2, h.old.trans (hb.mono (Nat.le_of_lt h1)), Nat.lt_of_lt_of_le h.big hb.size⟩
/-- A slice of rows: nil, or none, or cells. -/
def IsRows (w : World) (a : Option Addr) (len : Nat) (L : List R) : Prop :=
  L.length = len ∧ (∀ r ∈ L, r.wf) ∧ (len = 0 ∨ ∃ b o : Nat, a = some ⟨b, o, none⟩ ∧ b < w.heap.size ∧ ∀ t, t < len → RowAt w b (o + t * 3) (L.getD t R.zero))
theorem IsRows.below {w w' : World} {a : Option Addr} {len B : Nat} {L : List R} (h : IsRows w a len L) (hb : Below B w w') (ha : ∀ x, a = some x → 0 < len → x.block < B) : IsRows w' a len L := by
  obtain ⟨h1, h2, h3⟩ := h
  refine ⟨h1, h2, ?_⟩
  rcases h3 with h3 | ⟨b, o, rfl, hlt, h3⟩
  · exact .inl h3
  · rcases Nat.eq_zero_or_pos len with h0 | h0
    · exact .inl h0
    · exact .inr ⟨b, o, rfl, Nat.lt_of_lt_of_le hlt hb.size, fun t ht => (h3 t ht).below hb (ha _ rfl h0)⟩
/-- Whatever keeps all that was there keeps the rows. -/
theorem IsRows.keep {w w' : World} {a : Option Addr} {len : Nat} {L : List R} (h : IsRows w a len L) (hb : Below w.heap.size w w') : IsRows w' a len L := by
  obtain ⟨h1, h2, h3⟩ := h
  refine ⟨h1, h2, ?_⟩
  rcases h3 with h3 | ⟨b, o, rfl, hlt, h3⟩
  · exact .inl h3
  · exact .inr ⟨b, o, rfl, Nat.lt_of_lt_of_le hlt hb.size, fun t ht => (h3 t ht).below hb hlt⟩
/-- Rows that lie below a bound; what keeps all below it keeps them. -/
def RowsLow (a : Option Addr) (len B : Nat) : Prop := ∀ x, a = some x → 0 < len → x.block < B
theorem IsRows.old {w : World} {a : Option Addr} {len : Nat} {L : List R} (h : IsRows w a len L) : RowsLow a len w.heap.size := by
  intro x hx hp
  obtain ⟨-, -, h0 | ⟨b, o, rfl, hlt, -⟩⟩ := h
  · omega
  · cases hx; exact hlt
theorem IsRows.low {w w' : World} {a : Option Addr} {len B : Nat} {L : List R} (h : IsRows w a len L) (hl : Hid (RowsLow a len B)) (hb : Below B w w') : IsRows w' a len L := h.below hb hl.out
theorem IsRows.wf {w : World} {a : Option Addr} {len : Nat} {L : List R} (h : IsRows w a len L) (t : Nat) (ht : t < len) : (L.getD t R.zero).wf := by
  have hl : t < L.length := by rw [h.1]; exact ht
  have : L.getD t R.zero = L[t] := by simp [List.getD, hl]
  rw [this]
  exact h.2.1 _ (List.getElem_mem hl)
/-- The cells of a row of rows. -/
def cells3 (L : List R) : List Value := L.flatMap fun r => [.int .i64 r.key, .int .i64 r.value, .int .i64 r.width]
theorem cells3_length (L : List R) : (cells3 L).length = L.length * 3 := by
  induction L with
  | nil => rfl
  | cons r L ih => unfold cells3 at ih ⊢; rw [List.flatMap_cons, List.length_append, ih]; simp; omega
theorem cells3_get (L : List R) : ∀ (t : Nat), t < L.length → (cells3 L)[t * 3]? = some (.int .i64 (L.getD t R.zero).key) ∧ (cells3 L)[t * 3 + 1]? = some (.int .i64 (L.getD t R.zero).value) ∧ (cells3 L)[t * 3 + 2]? = some (.int .i64 (L.getD t R.zero).width) := by
  induction L with
  | nil => intro t ht; simp at ht
  | cons r L ih =>
    intro t ht
    cases t with
    | zero => exact ⟨rfl, rfl, rfl⟩
    | succ t =>
      have := ih t (by simpa using ht)
      have e : cells3 (r :: L) = .int .i64 r.key :: .int .i64 r.value :: .int .i64 r.width :: cells3 L := rfl
      rw [e, show (t + 1) * 3 = t * 3 + 3 by omega]
      simpa using this
theorem cells3_set (L : List R) : ∀ (t : Nat) (r : R), t < L.length → (((cells3 L).set (t * 3) (.int .i64 r.key)).set (t * 3 + 1) (.int .i64 r.value)).set (t * 3 + 2) (.int .i64 r.width) = cells3 (L.set t r) := by
  induction L with
  | nil => intro t r ht; simp at ht
  | cons q L ih =>
    intro t r ht
    cases t with
    | zero => rfl
    | succ t =>
      have := ih t r (by simpa using ht)
      have e : cells3 (q :: L) = .int .i64 q.key :: .int .i64 q.value :: .int .i64 q.width :: cells3 L := rfl
      have e' : cells3 ((q :: L).set (t + 1) r) = .int .i64 q.key :: .int .i64 q.value :: .int .i64 q.width :: cells3 (L.set t r) := rfl
      rw [e, e', show (t + 1) * 3 = t * 3 + 3 by omega, ← this]
      simp [List.set]
theorem cells3_append (L M : List R) : cells3 L ++ cells3 M = cells3 (L ++ M) := by simp [cells3]

theorem cells3_val (r : R) : r.val.cells = #[.int .i64 r.key, .int .i64 r.value, .int .i64 r.width] := rfl
theorem made_rows (n : Nat) : madeCells R.zero.val.cells (n * 3) = (cells3 (List.replicate n R.zero)).toArray := by
  apply Array.ext_getElem?
  intro i
  by_cases hi : i < n * 3
  · have hz : (List.replicate n R.zero).getD (i / 3) R.zero = R.zero := by
      simp only [List.getD, List.getElem?_replicate]
      rw [if_pos (by omega)]; rfl
    obtain ⟨e0, e1, e2⟩ := cells3_get (List.replicate n R.zero) (i / 3) (by simp; omega)
    rw [hz] at e0 e1 e2
    have hm : (madeCells R.zero.val.cells (n * 3))[i]? = some (.int .i64 0) := by
      have h3 : i % 3 = 0 ∨ i % 3 = 1 ∨ i % 3 = 2 := by omega
      simp only [madeCells, cells3_val, R.zero, Array.getElem?_map, Array.getElem?_range, hi, if_true, Option.map_some, List.size_toArray, List.length_cons, List.length_nil]
      rcases h3 with h | h | h <;> simp [h]
    rw [hm, List.getElem?_toArray]
    have : i = i / 3 * 3 ∨ i = i / 3 * 3 + 1 ∨ i = i / 3 * 3 + 2 := by omega
    rcases this with h | h | h
    · rw [h]; exact e0.symm
    · rw [h]; exact e1.symm
    · rw [h]; exact e2.symm
  · rw [Array.getElem?_eq_none (by rw [size_madeCells]; omega), List.getElem?_toArray, List.getElem?_eq_none (by rw [cells3_length, List.length_replicate]; omega)]
/-- A row of a block of the call's own. -/
theorem rows_cells {w : World} {g : Nat} {M : List R} {t : TypeId} (h : w.heap[g]? = some (.cells (cells3 M).toArray t (0, 0))) (k : Nat) (hk : k < M.length) : RowAt w g (k * 3) (M.getD k R.zero) := by
  obtain ⟨e0, e1, e2⟩ := cells3_get M k hk
  refine ⟨?_, ?_, ?_⟩ <;> simp only [World.cell?, h] <;> simpa
theorem rows_set {w : World} {g : Nat} {M : List R} {t : TypeId} (h : w.heap[g]? = some (.cells (cells3 M).toArray t (0, 0))) (k : Nat) (hk : k < M.length) (r : R) :
    (((w.setCell ⟨g, k * 3, none⟩ (.int .i64 r.key)).setCell ⟨g, k * 3 + 1, none⟩ (.int .i64 r.value)).setCell ⟨g, k * 3 + 2, none⟩ (.int .i64 r.width)).heap[g]? = some (.cells (cells3 (M.set k r)).toArray t (0, 0)) := by
  have h1 := Joins.block_setCell h (i := k * 3) (.int .i64 r.key)
  have h2 := Joins.block_setCell h1 (i := k * 3 + 1) (.int .i64 r.value)
  have h3 := Joins.block_setCell h2 (i := k * 3 + 2) (.int .i64 r.width)
  rw [h3, ← cells3_set M k r hk]
  simp
theorem set_next (L : List R) (n k : Nat) (hn : L.length = n) (hk : k < n) : (L.take k ++ List.replicate (n - k) R.zero).set k (L.getD k R.zero) = L.take (k + 1) ++ List.replicate (n - (k + 1)) R.zero := by
  have hkl : k < L.length := by omega
  rw [List.set_append_right _ _ (by simp; omega)]
  have e : n - k = (n - (k + 1)) + 1 := by omega
  have e2 : k - (L.take k).length = 0 := by simp; omega
  have e3 : L.getD k R.zero = L[k] := by simp [List.getD, hkl]
  rw [e2, e, List.replicate_succ, List.set_cons_zero, e3, List.take_succ_eq_append_getElem hkl, List.append_assoc]
  rfl
theorem below_set3 {B : Nat} {w w' : World} {g : Nat} (h : Below B w w') (hg : B ≤ g) (i j k : Nat) (x y z : Value) : Below B w (((w'.setCell ⟨g, i, none⟩ x).setCell ⟨g, j, none⟩ y).setCell ⟨g, k, none⟩ z) :=
  ((h.setCell hg x).setCell hg y).setCell hg z
theorem rows_free {w : World} {g : Nat} {M : List R} {t : TypeId} (h : w.heap[g]? = some (.cells (cells3 M).toArray t (0, 0))) (i : Nat) : w.frozen? ⟨g, i, none⟩ = false := by simp [World.frozen?, h]
theorem rows_of {w : World} {g len : Nat} {L : List R} {t : TypeId} (h : w.heap[g]? = some (.cells (cells3 L).toArray t (0, 0))) (hl : L.length = len) (hwf : ∀ r ∈ L, r.wf) : IsRows w (some ⟨g, 0, none⟩) len L :=
  ⟨hl, hwf, .inr ⟨g, 0, rfl, lt_of_block h, fun t ht => by rw [Nat.zero_add]; exact rows_cells h t (by omega)⟩⟩
end Go.Proofs.Ytjdjceohlcimaaa
namespace Go.Proofs.Ytjdjceohlcimaaa
open Go.RowKit

/-- The rows as the laws mark them. -/
def marked (n : Nat) (k : Int) : List R := (List.range n).map fun (t : Nat) => ⟨k + 3 * (t : Int), k + 3 * (t : Int) + 1, k + 3 * (t : Int) + 2⟩
theorem marked_length (n : Nat) (k : Int) : (marked n k).length = n := by simp [marked]
theorem marked_get (n : Nat) (k : Int) (t : Nat) (ht : t < n) : (marked n k).getD t R.zero = ⟨k + 3 * t, k + 3 * t + 1, k + 3 * t + 2⟩ := by simp [marked, List.getD, ht]
theorem marked_snoc (n : Nat) (k : Int) : marked (n + 1) k = marked n k ++ [⟨k + 3 * n, k + 3 * n + 1, k + 3 * n + 2⟩] := by simp [marked, List.range_succ]
theorem marked_set (n k : Nat) (q : Int) (L : List R) (hl : L.length = n) (hk : k < n) : (marked k q ++ L.drop k).set k ⟨q + 3 * k, q + 3 * k + 1, q + 3 * k + 2⟩ = marked (k + 1) q ++ L.drop (k + 1) := by
  rw [List.set_append_right _ _ (by rw [marked_length]; exact Nat.le_refl _), marked_length, Nat.sub_self, marked_snoc, List.append_assoc]
  congr 1
  rw [List.drop_eq_getElem_cons (by omega)]
  rfl
end Go.Proofs.Ytjdjceohlcimaaa
namespace Go.Proofs.Ytjdjceohlcimaaa
open Go.RowKit

theorem one_row (r : R) : ∀ u ∈ [Value.int .i64 r.key, .int .i64 r.value, .int .i64 r.width], u.oneCell' = true := by
  intro u hu; simp at hu; rcases hu with rfl | rfl | rfl <;> rfl
theorem one_cells (L : List R) : ∀ u ∈ cells3 L, u.oneCell' = true := by
  intro u hu
  obtain ⟨r, -, hr⟩ := List.mem_flatMap.1 hu
  exact one_row r u hr
theorem IsRows.cell {w : World} {a : Option Addr} {len : Nat} {L : List R} (h : IsRows w a len L) : ∃ ad : Addr, (0 < len → a = some ad) ∧ ∀ j u, (cells3 L)[j]? = some u → w.cell? (ad.add j) = some u := by
  obtain ⟨h1, h2, h0 | ⟨b, o, rfl, hlt, hc⟩⟩ := h
  · refine ⟨⟨0, 0, none⟩, fun h => by omega, fun j u hj => ?_⟩
    have : L = [] := List.eq_nil_of_length_eq_zero (by omega)
    subst this
    simp [cells3] at hj
  · refine ⟨⟨b, o, none⟩, fun _ => rfl, fun j u hj => ?_⟩
    have hjl : j < L.length * 3 := by have := (List.getElem?_eq_some_iff.1 hj).1; rwa [cells3_length] at this
    obtain ⟨c0, c1, c2⟩ := hc (j / 3) (by omega)
    obtain ⟨e0, e1, e2⟩ := cells3_get L (j / 3) (by omega)
    rw [Addr.add_lit]
    have h3 : j = j / 3 * 3 ∨ j = j / 3 * 3 + 1 ∨ j = j / 3 * 3 + 2 := by omega
    rcases h3 with h | h | h
    · rw [h] at hj ⊢; rw [e0] at hj; rw [c0]; exact hj
    · rw [h] at hj ⊢; rw [e1] at hj; rw [← Nat.add_assoc, c1]; exact hj
    · rw [h] at hj ⊢; rw [e2] at hj; rw [← Nat.add_assoc, c2]; exact hj
end Go.Proofs.Ytjdjceohlcimaaa
namespace Go.Proofs.Ytjdjceohlcimaaa
open Go.RowKit

/-- A stretch of a block: the block, its first cell, the cell behind its last. -/
structure Reg where
  b : Nat
  lo : Nat
  hi : Nat
def Reg.apart (x y : Reg) : Prop := x.b ≠ y.b ∨ x.hi ≤ y.lo ∨ y.hi ≤ x.lo
theorem Reg.apart_symm {x y : Reg} (h : x.apart y) : y.apart x := by
  rcases h with h | h | h
  · exact .inl fun e => h e.symm
  · exact .inr (.inr h)
  · exact .inr (.inl h)
/-- The stretches' cells are as they were. -/
structure Stay (F : List Reg) (w w' : World) : Prop where
  size : w.heap.size ≤ w'.heap.size
  cell : ∀ r ∈ F, ∀ j, r.lo ≤ j → j < r.hi → w'.cell? ⟨r.b, j, none⟩ = w.cell? ⟨r.b, j, none⟩ ∧ w'.frozen? ⟨r.b, j, none⟩ = w.frozen? ⟨r.b, j, none⟩
/-- Only the stretches' cells have changed, and what is new. -/
structure OnlyAt (F : List Reg) (w w' : World) : Prop where
  os : w'.os = w.os
  tape : w'.tape = w.tape
  output : w'.output = w.output
  size : w.heap.size ≤ w'.heap.size
  block : ∀ b, b < w.heap.size → (∀ r ∈ F, r.b ≠ b) → w'.heap[b]? = w.heap[b]?
  cell : ∀ b j, b < w.heap.size → (∀ r ∈ F, r.b = b → j < r.lo ∨ r.hi ≤ j) → w'.cell? ⟨b, j, none⟩ = w.cell? ⟨b, j, none⟩
  frozen : ∀ b j, b < w.heap.size → w'.frozen? ⟨b, j, none⟩ = w.frozen? ⟨b, j, none⟩
theorem OnlyAt.refl (F : List Reg) (w : World) : OnlyAt F w w := ⟨rfl, rfl, rfl, Nat.le_refl _, fun _ _ _ => rfl, fun _ _ _ _ => rfl, fun _ _ _ => rfl⟩
theorem OnlyAt.trans {F : List Reg} {a b c : World} (h : OnlyAt F a b) (k : OnlyAt F b c) : OnlyAt F a c :=
  ⟨k.os.trans h.os, k.tape.trans h.tape, k.output.trans h.output, Nat.le_trans h.size k.size, fun i hi hne => (k.block i (Nat.lt_of_lt_of_le hi h.size) hne).trans (h.block i hi hne),
    fun i j hi hne => (k.cell i j (Nat.lt_of_lt_of_le hi h.size) hne).trans (h.cell i j hi hne), fun i j hi => (k.frozen i j (Nat.lt_of_lt_of_le hi h.size)).trans (h.frozen i j hi)⟩
theorem OnlyAt.mono {F G : List Reg} {a b : World} (h : OnlyAt F a b) (hs : ∀ r ∈ F, r ∈ G) : OnlyAt G a b :=
  ⟨h.os, h.tape, h.output, h.size, fun i hi hne => h.block i hi fun r hr => hne r (hs r hr), fun i j hi hne => h.cell i j hi fun r hr => hne r (hs r hr), h.frozen⟩
theorem OnlyAt.below {F : List Reg} {B : Nat} {a b : World} (h : OnlyAt F a b) (hB : B ≤ a.heap.size) (hF : ∀ r ∈ F, B ≤ r.b) : Below B a b :=
  ⟨h.os, h.tape, h.output, h.size, fun i hi => h.block i (Nat.lt_of_lt_of_le hi hB) fun r hr e => by have := hF r hr; omega⟩
theorem OnlyAt.of_below {F : List Reg} {a b : World} (h : Below a.heap.size a b) : OnlyAt F a b :=
  ⟨h.os, h.tape, h.output, h.size, fun i hi _ => h.block i hi, fun i _ hi _ => World.cell?_of_block (h.block i hi), fun i _ hi => World.frozen?_of_block (h.block i hi)⟩
theorem OnlyAt.set {F : List Reg} {a w : World} (h : OnlyAt F a w) {r : Reg} (hr : r ∈ F) {b j : Nat} (hb : r.b = b) (h1 : r.lo ≤ j) (h2 : j < r.hi) (u : Value) : OnlyAt F a (w.setCell ⟨b, j, none⟩ u) := by
  refine ⟨h.os, h.tape, h.output, by simpa [World.setCell] using h.size, fun i hi hne => ?_, fun i k hi hne => ?_, fun i k hi => ?_⟩
  · exact (Below.heap_setCell w ⟨b, j, none⟩ u i (fun e => hne r hr (by rw [hb, e]))).trans (h.block i hi hne)
  · refine (World.cell?_setCell_other _ _ _ _ (fun e => ?_)).trans (h.cell i k hi hne)
    simp only [Addr.mk.injEq] at e
    have := hne r hr (hb.trans (by have := e.1; omega))
    have := e.2.1
    omega
  · exact (World.frozen?_setCell w _ _ _).trans (h.frozen i k hi)
theorem Stay.of_only {F G : List Reg} {w w' : World} (h : OnlyAt F w w') (hap : ∀ x ∈ F, ∀ y ∈ G, x.apart y) (hlt : ∀ y ∈ G, y.b < w.heap.size) : Stay G w w' :=
  ⟨h.size, fun y hy j h1 h2 => ⟨h.cell y.b j (hlt y hy) fun x hx e => by
    rcases hap x hx y hy with hn | hn | hn
    · exact absurd e hn
    · right; omega
    · left; omega, h.frozen y.b j (hlt y hy)⟩⟩
theorem Stay.of_below {G : List Reg} {w w' : World} {B : Nat} (h : Below B w w') (hlt : ∀ y ∈ G, y.b < B) : Stay G w w' :=
  ⟨h.size, fun y hy _ _ _ => ⟨World.cell?_of_block (h.block y.b (hlt y hy)), World.frozen?_of_block (h.block y.b (hlt y hy))⟩⟩
theorem Stay.sub {F G : List Reg} {w w' : World} (h : Stay G w w') (hs : ∀ r ∈ F, r ∈ G) : Stay F w w' := ⟨h.size, fun r hr => h.cell r (hs r hr)⟩
/-- The cells from a place on. -/
def CellsAt (w : World) (b o : Nat) (cs : List Value) : Prop := ∀ (j : Nat) (u : Value), cs[j]? = some u → w.cell? ⟨b, o + j, none⟩ = some u
theorem CellsAt.below {w w' : World} {B b o : Nat} {cs : List Value} (h : CellsAt w b o cs) (hb : Below B w w') (hlt : b < B) : CellsAt w' b o cs := fun j u hj => (hb.cell hlt).trans (h j u hj)
theorem CellsAt.lt {w : World} {b o : Nat} {cs : List Value} (h : CellsAt w b o cs) (hl : 0 < cs.length) : b < w.heap.size := World.block_lt_of_cell? w _ (h 0 cs[0] (by simp [hl]))

/-- How values of a type lie in memory: 'H': what the cells say beside the datum (the slices' heads); 'inn': what lies behind those heads; 'own': the same, in memory of the call's own, whose stretches are listed. -/
structure Rep (α : Type) where
  H : Type
  size : Nat
  cells : α → H → List Value
  inn : World → α → H → Prop
  own : World → Nat → α → H → List Reg → Prop
  len : ∀ x h, (cells x h).length = size
  inn_keep : ∀ {w w' x h}, inn w x h → Below w.heap.size w w' → inn w' x h
  own_inn : ∀ {w B x h F}, own w B x h F → inn w x h
  own_lt : ∀ {w B x h F}, own w B x h F → ∀ r ∈ F, B ≤ r.b ∧ r.b < w.heap.size
  own_stay : ∀ {w w' B x h F}, own w B x h F → Stay F w w' → own w' B x h F
  own_apart : ∀ {w B x h F}, own w B x h F → F.Pairwise Reg.apart
  own_mono : ∀ {w B B' x h F}, own w B x h F → B' ≤ B → own w B' x h F

/-- A slice: what it holds. -/
def SeqIn {α : Type} (r : Rep α) (w : World) (a : Option Addr) (n : Nat) (xs : List α) : Prop :=
  xs.length = n ∧ n ≤ maxLen ∧ (n = 0 ∨ ∃ b o : Nat, a = some ⟨b, o, none⟩ ∧ b < w.heap.size ∧ ∃ hs : Nat → r.H, ∀ t x, xs[t]? = some x → CellsAt w b (o + t * r.size) (r.cells x (hs t)) ∧ r.inn w x (hs t))
/-- A slice in memory of the call's own. -/
def SeqOwn {α : Type} (r : Rep α) (w : World) (B : Nat) (a : Option Addr) (n : Nat) (xs : List α) (F : List Reg) : Prop :=
  xs.length = n ∧ n ≤ maxLen ∧ ((n = 0 ∧ F = []) ∨ ∃ (b o : Nat) (hs : Nat → r.H) (Fs : Nat → List Reg), a = some ⟨b, o, none⟩ ∧ B ≤ b ∧ b < w.heap.size ∧ F = ⟨b, o, o + n * r.size⟩ :: (List.range n).flatMap Fs ∧ F.Pairwise Reg.apart ∧
    (∀ j, o ≤ j → j < o + n * r.size → w.frozen? ⟨b, j, none⟩ = false) ∧ ∀ t x, xs[t]? = some x → CellsAt w b (o + t * r.size) (r.cells x (hs t)) ∧ r.own w B x (hs t) (Fs t))
theorem idx_lt {α : Type} {xs : List α} {t : Nat} {x : α} (h : xs[t]? = some x) : t < xs.length := (List.getElem?_eq_some_iff.1 h).1
theorem at_le {t n s : Nat} (h : t < n) : t * s + s ≤ n * s := by
  have := Nat.mul_le_mul_right s (show t + 1 ≤ n from h)
  rwa [Nat.add_mul, Nat.one_mul] at this
theorem SeqIn.keep {α : Type} {r : Rep α} {w w' : World} {a : Option Addr} {n : Nat} {xs : List α} (h : SeqIn r w a n xs) (hb : Below w.heap.size w w') : SeqIn r w' a n xs := by
  obtain ⟨h1, hm, h2⟩ := h
  refine ⟨h1, hm, h2.imp_right ?_⟩
  rintro ⟨b, o, rfl, hlt, hs, hx⟩
  exact ⟨b, o, rfl, Nat.lt_of_lt_of_le hlt hb.size, hs, fun t x ht => ⟨(hx t x ht).1.below hb hlt, r.inn_keep (hx t x ht).2 hb⟩⟩
theorem SeqOwn.lt {α : Type} {r : Rep α} {w : World} {B : Nat} {a : Option Addr} {n : Nat} {xs : List α} {F : List Reg} (h : SeqOwn r w B a n xs F) : ∀ y ∈ F, B ≤ y.b ∧ y.b < w.heap.size := by
  obtain ⟨h1, -, ⟨-, rfl⟩ | ⟨b, o, hs, Fs, rfl, hB, hlt, rfl, -, -, hx⟩⟩ := h
  · intro y hy; cases hy
  · intro y hy
    rcases List.mem_cons.1 hy with rfl | hy
    · exact ⟨hB, hlt⟩
    · obtain ⟨t, ht, hy⟩ := List.mem_flatMap.1 hy
      have htl : t < xs.length := by rw [h1]; exact List.mem_range.1 ht
      exact r.own_lt (hx t xs[t] (by simp [htl])).2 y hy
theorem SeqOwn.stay {α : Type} {r : Rep α} {w w' : World} {B : Nat} {a : Option Addr} {n : Nat} {xs : List α} {F : List Reg} (h : SeqOwn r w B a n xs F) (hs : Stay F w w') : SeqOwn r w' B a n xs F := by
  obtain ⟨h1, hm, h2⟩ := h
  refine ⟨h1, hm, h2.imp_right ?_⟩
  rintro ⟨b, o, hh, Fs, rfl, hB, hlt, rfl, hp, hf, hx⟩
  have hc := hs.cell ⟨b, o, o + n * r.size⟩ (List.mem_cons_self ..)
  refine ⟨b, o, hh, Fs, rfl, hB, Nat.lt_of_lt_of_le hlt hs.size, rfl, hp, fun j ha hb => ((hc j ha hb).2).trans (hf j ha hb), fun t x ht => ?_⟩
  have htn : t < n := by rw [← h1]; exact idx_lt ht
  refine ⟨fun j u hj => ?_, r.own_stay (hx t x ht).2 (hs.sub fun y hy => List.mem_cons_of_mem _ (List.mem_flatMap.2 ⟨t, List.mem_range.2 htn, hy⟩))⟩
  have hjl : j < r.size := by rw [← r.len x (hh t)]; exact idx_lt hj
  have hle := at_le (s := r.size) htn
  exact ((hc (o + t * r.size + j) (by simp only; omega) (by simp only; omega)).1).trans ((hx t x ht).1 j u hj)
theorem SeqOwn.inn {α : Type} {r : Rep α} {w : World} {B : Nat} {a : Option Addr} {n : Nat} {xs : List α} {F : List Reg} (h : SeqOwn r w B a n xs F) : SeqIn r w a n xs := by
  obtain ⟨h1, hm, ⟨h0, -⟩ | ⟨b, o, hs, Fs, rfl, -, hlt, -, -, -, hx⟩⟩ := h
  · exact ⟨h1, hm, .inl h0⟩
  · exact ⟨h1, hm, .inr ⟨b, o, rfl, hlt, hs, fun t x ht => ⟨(hx t x ht).1, r.own_inn (hx t x ht).2⟩⟩⟩
theorem SeqOwn.apart {α : Type} {r : Rep α} {w : World} {B : Nat} {a : Option Addr} {n : Nat} {xs : List α} {F : List Reg} (h : SeqOwn r w B a n xs F) : F.Pairwise Reg.apart := by
  obtain ⟨h1, -, ⟨-, rfl⟩ | ⟨b, o, hs, Fs, rfl, -, hlt, -, hp, -⟩⟩ := h
  · exact List.Pairwise.nil
  · exact hp
theorem SeqOwn.mono {α : Type} {r : Rep α} {w : World} {B B' : Nat} {a : Option Addr} {n : Nat} {xs : List α} {F : List Reg} (h : SeqOwn r w B a n xs F) (hb : B' ≤ B) : SeqOwn r w B' a n xs F := by
  obtain ⟨h1, hm, h2⟩ := h
  refine ⟨h1, hm, h2.imp_right ?_⟩
  rintro ⟨b, o, hs, Fs, rfl, hB, hlt, hF, hp, hf, hx⟩
  exact ⟨b, o, hs, Fs, rfl, Nat.le_trans hb hB, hlt, hF, hp, hf, fun t x ht => ⟨(hx t x ht).1, r.own_mono (hx t x ht).2 hb⟩⟩
theorem SeqOwn.keep {α : Type} {r : Rep α} {w w' : World} {B : Nat} {a : Option Addr} {n : Nat} {xs : List α} {F : List Reg} (h : SeqOwn r w B a n xs F) (hb : Below w.heap.size w w') : SeqOwn r w' B a n xs F :=
  h.stay (Stay.of_below hb fun y hy => (h.lt y hy).2)
/-- What changes other stretches alone. -/
theorem SeqOwn.far {α : Type} {r : Rep α} {w w' : World} {B : Nat} {a : Option Addr} {n : Nat} {xs : List α} {F G : List Reg} (h : SeqOwn r w B a n xs F) (ho : OnlyAt G w w') (hap : ∀ x ∈ G, ∀ y ∈ F, x.apart y) : SeqOwn r w' B a n xs F :=
  h.stay (Stay.of_only ho hap fun y hy => (h.lt y hy).2)
/-- A row: three numbers. -/
def rowRep : Rep R where
  H := Unit
  size := 3
  cells := fun r _ => [.int .i64 r.key, .int .i64 r.value, .int .i64 r.width]
  inn := fun _ r _ => r.wf
  own := fun _ _ r _ F => r.wf ∧ F = []
  len := fun _ _ => rfl
  inn_keep := fun h _ => h
  own_inn := fun h => h.1
  own_lt := fun h y hy => by rw [h.2] at hy; cases hy
  own_stay := fun h _ => h
  own_apart := fun h => by rw [h.2]; exact List.Pairwise.nil
  own_mono := fun h _ => h
/-- A slice of them. -/
def seqRep {α : Type} (r : Rep α) : Rep (List α) where
  H := Option Addr × Nat × Nat
  size := 1
  cells := fun _ h => [.slice h.1 h.2.1 h.2.2]
  inn := fun w xs h => SeqIn r w h.1 h.2.1 xs ∧ (h.1 = none → h.2.2 = 0)
  own := fun w B xs h F => SeqOwn r w B h.1 h.2.1 xs F ∧ (h.1 = none → h.2.2 = 0)
  len := fun _ _ => rfl
  inn_keep := fun h hb => ⟨h.1.keep hb, h.2⟩
  own_inn := fun h => ⟨h.1.inn, h.2⟩
  own_lt := fun h => h.1.lt
  own_stay := fun h hs => ⟨h.1.stay hs, h.2⟩
  own_apart := fun h => h.1.apart
  own_mono := fun h hb => ⟨h.1.mono hb, h.2⟩
/-- One element, and what a change of it leaves. -/
theorem SeqOwn.at {α : Type} {r : Rep α} {w : World} {B : Nat} {a : Option Addr} {n : Nat} {xs : List α} {F : List Reg} (h : SeqOwn r w B a n xs F) {t : Nat} {x : α} (ht : xs[t]? = some x) :
    ∃ (b o : Nat) (hd : r.H) (G : List Reg), a = some ⟨b, o, none⟩ ∧ b < w.heap.size ∧ CellsAt w b (o + t * r.size) (r.cells x hd) ∧ (∀ j, j < r.size → w.frozen? ⟨b, o + t * r.size + j, none⟩ = false) ∧ r.own w B x hd G ∧ (∀ y ∈ G, y ∈ F) ∧
      ∀ w' x', OnlyAt G w w' → r.own w' B x' hd G → r.cells x' hd = r.cells x hd → SeqOwn r w' B a n (xs.set t x') F := by
  have htl := idx_lt ht
  obtain ⟨h1, hm, ⟨h0, -⟩ | ⟨b, o, hs, Fs, rfl, hB, hlt, rfl, hp, hf, hx⟩⟩ := h
  · omega
  · have htn : t < n := by omega
    have hle := at_le (s := r.size) htn
    have hsub : ∀ y ∈ Fs t, y ∈ (⟨b, o, o + n * r.size⟩ : Reg) :: (List.range n).flatMap Fs := fun y hy => List.mem_cons_of_mem _ (List.mem_flatMap.2 ⟨t, List.mem_range.2 htn, hy⟩)
    refine ⟨b, o, hs t, Fs t, rfl, hlt, (hx t x ht).1, fun j hj => hf _ (by omega) (by omega), (hx t x ht).2, hsub, fun w' x' ho hown hce => ?_⟩
    have hhead : ∀ y ∈ Fs t, (⟨b, o, o + n * r.size⟩ : Reg).apart y := fun y hy => (List.pairwise_cons.1 hp).1 y (List.mem_flatMap.2 ⟨t, List.mem_range.2 htn, hy⟩)
    have hst : Stay [⟨b, o, o + n * r.size⟩] w w' := Stay.of_only ho (fun y hy z hz => by rw [List.mem_singleton.1 hz]; exact Reg.apart_symm (hhead y hy)) (fun z hz => by rw [List.mem_singleton.1 hz]; exact hlt)
    have hc := hst.cell ⟨b, o, o + n * r.size⟩ (List.mem_singleton.2 rfl)
    refine ⟨by rw [List.length_set]; exact h1, hm, .inr ⟨b, o, hs, Fs, rfl, hB, Nat.lt_of_lt_of_le hlt ho.size, rfl, hp, fun j ha hb => ((hc j ha hb).2).trans (hf j ha hb), fun s y hy => ?_⟩⟩
    have hsn : s < n := by have := idx_lt hy; rw [List.length_set] at this; omega
    have hles := at_le (s := r.size) hsn
    have hcell : ∀ z, xs[s]? = some z → CellsAt w' b (o + s * r.size) (r.cells z (hs s)) := fun z hz j u hj => by
      have hjl : j < r.size := by rw [← r.len z (hs s)]; exact idx_lt hj
      exact ((hc (o + s * r.size + j) (by simp only; omega) (by simp only; omega)).1).trans ((hx s z hz).1 j u hj)
    by_cases hst' : s = t
    · subst hst'
      rw [List.getElem?_set_self htl] at hy
      obtain rfl := Option.some.inj hy
      exact ⟨by rw [hce]; exact hcell x ht, hown⟩
    · rw [List.getElem?_set_ne (fun e => hst' e.symm)] at hy
      refine ⟨hcell y hy, r.own_stay (hx s y hy).2 (Stay.of_only ho (fun p hp' q hq => ?_) fun q hq => (r.own_lt (hx s y hy).2 q hq).2)⟩
      have hpw := (List.pairwise_cons.1 hp).2
      rw [List.pairwise_flatMap] at hpw
      have hr := hpw.2
      rcases Nat.lt_or_gt_of_ne hst' with h2 | h2
      · exact Reg.apart_symm ((List.pairwise_iff_getElem.1 hr) s t (by simpa using hsn) (by simpa using htn) h2 q (by simpa using hq) p (by simpa using hp'))
      · exact (List.pairwise_iff_getElem.1 hr) t s (by simpa using htn) (by simpa using hsn) h2 p (by simpa using hp') q (by simpa using hq)
end Go.Proofs.Ytjdjceohlcimaaa
namespace Go.Proofs.Ytjdjceohlcimaaa
open Go.RowKit

/-- An element that has been built: its datum, its heads, its stretches. -/
structure El {α : Type} (r : Rep α) where
  x : α
  h : r.H
  F : List Reg
/-- What lies behind the elements' heads is the call's own, each element's apart from the others'. -/
def OwnAll {α : Type} (r : Rep α) (w : World) (B : Nat) (es : List (El r)) : Prop :=
  (∀ e ∈ es, r.own w B e.x e.h e.F) ∧ es.Pairwise fun e f => ∀ x ∈ e.F, ∀ y ∈ f.F, x.apart y
def InAll {α : Type} (r : Rep α) (w : World) (es : List (El r)) : Prop := ∀ e ∈ es, r.inn w e.x e.h
/-- The elements' cells, one behind the other. -/
def cellsOf {α : Type} {r : Rep α} (es : List (El r)) : List Value := es.flatMap fun e => r.cells e.x e.h
theorem cellsOf_length {α : Type} {r : Rep α} (es : List (El r)) : (cellsOf es).length = es.length * r.size := by
  unfold cellsOf
  induction es with
  | nil => simp
  | cons e es ih => rw [List.flatMap_cons, List.length_append, ih, r.len, List.length_cons, Nat.add_mul]; omega
theorem cellsOf_snoc {α : Type} {r : Rep α} (es : List (El r)) (e : El r) : cellsOf (es ++ [e]) = cellsOf es ++ r.cells e.x e.h := by simp [cellsOf]
theorem cellsOf_get {α : Type} {r : Rep α} : ∀ (es : List (El r)) (t : Nat) (e : El r), es[t]? = some e → ∀ j u, (r.cells e.x e.h)[j]? = some u → (cellsOf es)[t * r.size + j]? = some u
  | [], t, e, ht, j, u, hj => by simp at ht
  | e0 :: es, 0, e, ht, j, u, hj => by
    obtain rfl : e0 = e := by simpa using ht
    have hjl := idx_lt hj
    rw [Nat.zero_mul, Nat.zero_add]
    show (r.cells e0.x e0.h ++ cellsOf es)[j]? = _
    rw [List.getElem?_append_left hjl]
    exact hj
  | e0 :: es, t + 1, e, ht, j, u, hj => by
    have ht' : es[t]? = some e := by simpa using ht
    have := cellsOf_get es t e ht' j u hj
    show (r.cells e0.x e0.h ++ cellsOf es)[(t + 1) * r.size + j]? = _
    have hl := r.len e0.x e0.h
    have e1 : (t + 1) * r.size = t * r.size + r.size := by rw [Nat.add_mul, Nat.one_mul]
    rw [List.getElem?_append_right (by omega), hl, show (t + 1) * r.size + j - r.size = t * r.size + j by omega]
    exact this
theorem OwnAll.nil {α : Type} (r : Rep α) (w : World) (B : Nat) : OwnAll r w B [] := ⟨fun e he => (by cases he), List.Pairwise.nil⟩
theorem InAll.nil {α : Type} (r : Rep α) (w : World) : InAll r w [] := fun e he => (by cases he)
theorem OwnAll.inn {α : Type} {r : Rep α} {w : World} {B : Nat} {es : List (El r)} (h : OwnAll r w B es) : InAll r w es := fun e he => r.own_inn (h.1 e he)
theorem OwnAll.stay {α : Type} {r : Rep α} {w w' : World} {B : Nat} {es : List (El r)} (h : OwnAll r w B es) (hs : ∀ e ∈ es, Stay e.F w w') : OwnAll r w' B es := ⟨fun e he => r.own_stay (h.1 e he) (hs e he), h.2⟩
theorem OwnAll.keep {α : Type} {r : Rep α} {w w' : World} {B : Nat} {es : List (El r)} (h : OwnAll r w B es) (hb : Below w.heap.size w w') : OwnAll r w' B es :=
  h.stay fun e he => Stay.of_below hb fun y hy => (r.own_lt (h.1 e he) y hy).2
theorem InAll.keep {α : Type} {r : Rep α} {w w' : World} {es : List (El r)} (h : InAll r w es) (hb : Below w.heap.size w w') : InAll r w' es := fun e he => r.inn_keep (h e he) hb
/-- What changes a block that none of them is in. -/
theorem OwnAll.only {α : Type} {r : Rep α} {w w' : World} {B : Nat} {es : List (El r)} {G : List Reg} (h : OwnAll r w B es) (ho : OnlyAt G w w') (hne : ∀ e ∈ es, ∀ y ∈ e.F, ∀ x ∈ G, x.b ≠ y.b) : OwnAll r w' B es :=
  h.stay fun e he => Stay.of_only ho (fun x hx y hy => .inl (hne e he y hy x hx)) fun y hy => (r.own_lt (h.1 e he) y hy).2
/-- One more, in memory that is new. -/
theorem OwnAll.push {α : Type} {r : Rep α} {w w' : World} {B B' : Nat} {es : List (El r)} (h : OwnAll r w B es) (hb : Below w.heap.size w w') {e : El r} (he : r.own w' B' e.x e.h e.F) (hB : B ≤ B') (hn : w.heap.size ≤ B') : OwnAll r w' B (es ++ [e]) := by
  have hk := h.keep hb
  refine ⟨fun f hf => ?_, ?_⟩
  · rcases List.mem_append.1 hf with hf | hf
    · exact hk.1 f hf
    · rw [List.mem_singleton.1 hf]; exact r.own_mono he hB
  · rw [List.pairwise_append]
    refine ⟨hk.2, List.pairwise_singleton _ _, fun f hf g hg => ?_⟩
    rw [List.mem_singleton.1 hg]
    intro x hx y hy
    have h1 := (r.own_lt (h.1 f hf) x hx).2
    have h2 := (r.own_lt he y hy).1
    exact .inl (by omega)
theorem InAll.push {α : Type} {r : Rep α} {w : World} {es : List (El r)} (h : InAll r w es) {e : El r} (he : r.inn w e.x e.h) : InAll r w (es ++ [e]) := fun f hf => by
  rcases List.mem_append.1 hf with hf | hf
  · exact h f hf
  · rw [List.mem_singleton.1 hf]; exact he
theorem OwnAll.mono {α : Type} {r : Rep α} {w : World} {B B' : Nat} {es : List (El r)} (h : OwnAll r w B es) (hb : B' ≤ B) : OwnAll r w B' es := ⟨fun e he => r.own_mono (h.1 e he) hb, h.2⟩
theorem built_set {cs : List Value} {m t : Nat} {z v : Value} (h : cs.length = t) (hm : 0 < m) : ((cs ++ List.replicate m z).toArray).setIfInBounds t v = (cs ++ [v] ++ List.replicate (m - 1) z).toArray := by
  obtain ⟨k, rfl⟩ : ∃ k, m = k + 1 := ⟨m - 1, by omega⟩
  apply Array.toList_inj.1
  simp only [Array.toList_setIfInBounds]
  rw [List.set_append_right _ _ (by omega), h, Nat.sub_self, List.replicate_succ, List.set_cons_zero]
  simp
/-- The whole, once the elements' cells lie in a block. -/
theorem OwnAll.done {α : Type} {r : Rep α} {w : World} {B g : Nat} {es : List (El r)} (h : OwnAll r w B es) (hg : B ≤ g) (hl : g < w.heap.size) (hf : ∀ j, w.frozen? ⟨g, j, none⟩ = false) (hc : ∀ j u, (cellsOf es)[j]? = some u → w.cell? ⟨g, j, none⟩ = some u)
    (hne : ∀ e ∈ es, ∀ y ∈ e.F, y.b ≠ g) (hm : es.length ≤ maxLen) : ∃ F, SeqOwn r w B (some ⟨g, 0, none⟩) es.length (es.map El.x) F := by
  rcases Nat.eq_zero_or_pos es.length with h0 | h0
  · exact ⟨[], by simp, hm, .inl ⟨h0, rfl⟩⟩
  · obtain ⟨e0, -⟩ : ∃ e0, es[0]? = some e0 := ⟨es[0], by simp [h0]⟩
    refine ⟨_, by simp, hm, .inr ⟨g, 0, fun t => (es.getD t e0).h, fun t => (es.getD t e0).F, rfl, hg, hl, rfl, ?_, fun j _ _ => hf j, fun t x ht => ?_⟩⟩
    · rw [List.pairwise_cons]
      refine ⟨fun y hy => ?_, ?_⟩
      · obtain ⟨t, ht, hy⟩ := List.mem_flatMap.1 hy
        have htl : t < es.length := List.mem_range.1 ht
        have hgd : es.getD t e0 = es[t] := by simp [List.getD, htl]
        rw [hgd] at hy
        exact .inl fun e => hne es[t] (List.getElem_mem htl) y hy e.symm
      · rw [List.pairwise_flatMap]
        refine ⟨fun t ht => ?_, ?_⟩
        · have htl : t < es.length := List.mem_range.1 ht
          have hgd : es.getD t e0 = es[t] := by simp [List.getD, htl]
          rw [hgd]
          exact r.own_apart (h.1 es[t] (List.getElem_mem htl))
        · rw [List.pairwise_iff_getElem]
          intro i j hi hj hij x hx y hy
          simp only [List.getElem_range] at hx hy
          have hil : i < es.length := by simpa using hi
          have hjl : j < es.length := by simpa using hj
          have h1 : es.getD i e0 = es[i] := by simp [List.getD, hil]
          have h2 : es.getD j e0 = es[j] := by simp [List.getD, hjl]
          rw [h1] at hx
          rw [h2] at hy
          exact (List.pairwise_iff_getElem.1 h.2) i j hil hjl hij x hx y hy
    · have htl : t < es.length := by have := idx_lt ht; simpa using this
      have hgd : es.getD t e0 = es[t] := by simp [List.getD, htl]
      obtain rfl : es[t].x = x := by simpa [htl] using ht
      simp only []
      rw [hgd]
      refine ⟨fun j u hj => ?_, h.1 es[t] (List.getElem_mem htl)⟩
      rw [Nat.zero_add]
      exact hc _ _ (cellsOf_get es t es[t] (by simp [htl]) j u hj)
theorem InAll.done {α : Type} {r : Rep α} {w : World} {g o : Nat} {es : List (El r)} (h : InAll r w es) (hl : g < w.heap.size) (hc : ∀ j u, (cellsOf es)[j]? = some u → w.cell? ⟨g, o + j, none⟩ = some u) (hm : es.length ≤ maxLen) :
    SeqIn r w (some ⟨g, o, none⟩) es.length (es.map El.x) := by
  rcases Nat.eq_zero_or_pos es.length with h0 | h0
  · exact ⟨by simp, hm, .inl h0⟩
  · obtain ⟨e0, -⟩ : ∃ e0, es[0]? = some e0 := ⟨es[0], by simp [h0]⟩
    refine ⟨by simp, hm, .inr ⟨g, o, rfl, hl, fun t => (es.getD t e0).h, fun t x ht => ?_⟩⟩
    have htl : t < es.length := by have := idx_lt ht; simpa using this
    have hgd : es.getD t e0 = es[t] := by simp [List.getD, htl]
    obtain rfl : es[t].x = x := by simpa [htl] using ht
    simp only []
    rw [hgd]
    refine ⟨fun j u hj => ?_, h es[t] (List.getElem_mem htl)⟩
    rw [Nat.add_assoc]
    exact hc _ _ (cellsOf_get es t es[t] (by simp [htl]) j u hj)
/-- One element of a slice of slices. -/
theorem SeqIn.at {α : Type} {r : Rep α} {w : World} {a : Option Addr} {n : Nat} {xs : List (List α)} (h : SeqIn (seqRep r) w a n xs) {t : Nat} {x : List α} (ht : xs[t]? = some x) :
    ∃ (b o : Nat) (c : Option Addr) (k m : Nat), a = some ⟨b, o, none⟩ ∧ b < w.heap.size ∧ w.cell? ⟨b, o + t, none⟩ = some (.slice c k m) ∧ SeqIn r w c k x ∧ (c = none → m = 0) := by
  have htl := idx_lt ht
  obtain ⟨h1, -, h0 | ⟨b, o, rfl, hlt, hs, hx⟩⟩ := h
  · omega
  · obtain ⟨hc, hi⟩ := hx t x ht
    have := hc 0 _ rfl
    simp only [seqRep, Nat.mul_one, Nat.add_zero] at this
    exact ⟨b, o, _, _, _, rfl, hlt, this, hi.1, hi.2⟩
/-- Rows, both ways. -/
theorem rows_in {w : World} {a : Option Addr} {len : Nat} {L : List R} (h : SeqIn rowRep w a len L) : IsRows w a len L := by
  obtain ⟨h1, hm, h2⟩ := h
  have hwf : ∀ r ∈ L, r.wf := by
    intro r hr
    obtain ⟨t, ht, rfl⟩ := List.getElem_of_mem hr
    rcases h2 with h2 | ⟨b, o, -, -, hs, hx⟩
    · omega
    · exact (hx t L[t] (by simp [ht])).2
  refine ⟨h1, hwf, h2.imp_right ?_⟩
  rintro ⟨b, o, rfl, hlt, hs, hx⟩
  refine ⟨b, o, rfl, hlt, fun t ht => ?_⟩
  have htl : t < L.length := by omega
  have hg : L.getD t R.zero = L[t] := by simp [List.getD, htl]
  obtain ⟨hc, -⟩ := hx t L[t] (by simp [htl])
  rw [hg]
  exact ⟨hc 0 _ rfl, hc 1 _ rfl, hc 2 _ rfl⟩
theorem in_rows {w : World} {a : Option Addr} {len : Nat} {L : List R} (h : IsRows w a len L) (hm : len ≤ maxLen) : SeqIn rowRep w a len L := by
  obtain ⟨h1, hwf, h2⟩ := h
  refine ⟨h1, hm, h2.imp_right ?_⟩
  rintro ⟨b, o, rfl, hlt, hx⟩
  refine ⟨b, o, rfl, hlt, fun _ => (), fun t x ht => ?_⟩
  have htl := idx_lt ht
  have hg : L.getD t R.zero = x := by simp [List.getD, ht]
  obtain ⟨c0, c1, c2⟩ := hx t (by omega)
  rw [hg] at c0 c1 c2
  refine ⟨fun j u hj => ?_, hwf x (List.mem_of_getElem? ht)⟩
  match j, hj with
  | 0, hj => obtain rfl := Option.some.inj hj; exact c0
  | 1, hj => obtain rfl := Option.some.inj hj; exact c1
  | 2, hj => obtain rfl := Option.some.inj hj; exact c2
end Go.Proofs.Ytjdjceohlcimaaa
namespace Go.Proofs.Ytjdjceohlcimaaa
open Go.RowKit

theorem getD_ext {A B : List R} (h : A.length = B.length) (he : ∀ t, t < A.length → A.getD t R.zero = B.getD t R.zero) : A = B := by
  apply List.ext_getElem h
  intro t h1 h2
  have := he t h1
  simpa [List.getD, h1, h2] using this
theorem row_ifs {α : Type} (q p : R) (h : q ≠ p) (X Y : α) : (if q.key = p.key then if q.value = p.value then if q.width = p.width then X else Y else Y else Y) = Y := by
  obtain ⟨a, b, c⟩ := q
  obtain ⟨a', b', c'⟩ := p
  (repeat' split) <;> first | rfl | (exfalso; simp_all)
theorem getD_wf {L : List R} {i : Nat} (h : ∀ r ∈ L, r.wf) (hi : i < L.length) : (L.getD i R.zero).wf := h _ (R.getD_mem hi)
theorem set_wf {L : List R} {i : Nat} {r : R} (h : ∀ r ∈ L, r.wf) (hr : r.wf) : ∀ x ∈ L.set i r, x.wf := fun x hx => (List.mem_or_eq_of_mem_set hx).elim (h x) (fun e => e ▸ hr)
theorem snoc_wf {L : List R} {r : R} (h : ∀ r ∈ L, r.wf) (hr : r.wf) : ∀ x ∈ L ++ [r], x.wf := fun x hx => (List.mem_append.1 hx).elim (h x) (fun e => List.mem_singleton.1 e ▸ hr)
theorem drop_wf {L : List R} {k : Nat} (h : ∀ r ∈ L, r.wf) : ∀ x ∈ L.drop k, x.wf := fun x hx => h x (List.mem_of_mem_drop hx)
theorem take_set3 {α : Type} (cur : List α) (m : Nat) (a b c : α) (h : m + 3 ≤ cur.length) : (((cur.set m a).set (m + 1) b).set (m + 2) c).take (m + 3) = cur.take m ++ [a, b, c] := by
  apply List.ext_getElem
  · simp; omega
  · intro i h1 h2
    simp only [List.getElem_take, List.getElem_set, List.getElem_append, List.length_take]
    have hm : min m cur.length = m := by omega
    simp only [hm]
    by_cases h3 : i < m
    · rw [if_neg (by omega), if_neg (by omega), if_neg (by omega), dif_pos h3]
    · rw [dif_neg h3]
      simp at h1
      have h4 : i = m ∨ i = m + 1 ∨ i = m + 2 := by omega
      rcases h4 with rfl | rfl | rfl
      · rw [if_neg (by omega), if_neg (by omega), if_pos rfl]; simp
      · rw [if_neg (by omega), if_pos rfl]; simp
      · rw [if_pos rfl]; simp
theorem IsRows.tail {w : World} {g o n : Nat} {x : R} {Y : List R} (h : IsRows w (some ⟨g, o, none⟩) (n + 1) (x :: Y)) (hn : 0 < n) : IsRows w (some ⟨g, o + 3, none⟩) n Y := by
  obtain ⟨h1, h2, h0 | ⟨b, o', e, hlt, hc⟩⟩ := h
  · omega
  · injection e with e
    injection e with e1 e2 _
    subst e1 e2
    refine ⟨by simpa using h1, fun r hr => h2 r (List.mem_cons_of_mem _ hr), .inr ⟨g, o + 3, rfl, hlt, fun t ht => ?_⟩⟩
    have := hc (t + 1) (by omega)
    rw [show o + (t + 1) * 3 = o + 3 + t * 3 by omega] at this
    simpa using this
/-- A row of a slice. -/
theorem IsRows.at {w : World} {a : Option Addr} {len : Nat} {L : List R} (h : IsRows w a len L) {t : Nat} (ht : t < len) : ∃ b o : Nat, a = some ⟨b, o, none⟩ ∧ b < w.heap.size ∧ RowAt w b (o + t * 3) (L.getD t R.zero) := by
  obtain ⟨-, -, h0 | ⟨b, o, e, hb, hc⟩⟩ := h
  · omega
  · exact ⟨b, o, e, hb, hc t ht⟩
end Go.Proofs.Ytjdjceohlcimaaa
