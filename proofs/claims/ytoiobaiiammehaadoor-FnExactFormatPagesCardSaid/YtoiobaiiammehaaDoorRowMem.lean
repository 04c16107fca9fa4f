/- Rows as the program's values: a struct of three numbers, by value and in memory; no function of the program is walked here. -/
import Derived.Test.YtoiobaiiammehaaDoorProg
import Derived.Test.YtoiobaiiammehaaDoorRow
import Derived.WalkKit
import Derived.Below
import Derived.Lib.Hide
import Derived.OwnWalk
import Derived.IntWalk
import Derived.Laws.OwnMore
import Derived.OpenShut
import Derived.Lib.SmallJoins
namespace Go.Proofs.YtoiobaiiammehaaDoor
open Go.RowKit

/-- A row as a struct's value. -/
def R.val (r : R) : Value := .agg #[.int .i64 r.key, .int .i64 r.value, .int .i64 r.width]
/-- The three cells of a row at a place. -/
def RowAt (w : World) (b o : Nat) (r : R) : Prop := w.cell? ⟨b, o, none⟩ = some (.int .i64 r.key) ∧ w.cell? ⟨b, o + 1, none⟩ = some (.int .i64 r.value) ∧ w.cell? ⟨b, o + 2, none⟩ = some (.int .i64 r.width)
theorem RowAt.below {w w' : World} {B b o : Nat} {r : R} (h : RowAt w b o r) (hb : Below B w w') (hlt : b < B) : RowAt w' b o r :=
  ⟨(hb.cell hlt).trans h.1, (hb.cell hlt).trans h.2.1, (hb.cell hlt).trans h.2.2⟩
/-- A row laid in a block of its own, behind a call. -/
theorem box_row {w w' : World} {r : R} {t : TypeId} (hb : Below (w.alloc (.cells #[.int .i64 r.key, .int .i64 r.value, .int .i64 r.width] t)).heap.size (w.alloc (.cells #[.int .i64 r.key, .int .i64 r.value, .int .i64 r.width] t)) w') :
    RowAt w' w.heap.size 0 r ∧ Below w.heap.size w w' := by
  have hs : w.heap.size < (w.alloc (.cells #[.int .i64 r.key, .int .i64 r.value, .int .i64 r.width] t)).heap.size := by simp
  refine ⟨RowAt.below ⟨?_, ?_, ?_⟩ hb hs, ?_⟩
  · simp
  · simp
  · simp
  · exact ((Below.refl _ _).alloc (Nat.le_refl _) _).trans (hb.mono (by simp))
theorem box_lt {w w' : World} {cs : Array Value} {t : TypeId} {fr : Nat × Nat} (hb : Below (w.alloc (.cells cs t fr)).heap.size (w.alloc (.cells cs t fr)) w') : w.heap.size < w'.heap.size := Nat.lt_of_lt_of_le (by simp) hb.size
/-- Two rows laid in blocks of their own, one behind the other. -/
theorem box2 (w : World) (a b : R) (s t : TypeId) : ∃ W, W = (w.alloc (.cells #[.int .i64 a.key, .int .i64 a.value, .int .i64 a.width] s)).alloc (.cells #[.int .i64 b.key, .int .i64 b.value, .int .i64 b.width] t) ∧
    RowAt W w.heap.size 0 a ∧ RowAt W (w.heap.size + 1) 0 b ∧ Below w.heap.size w W ∧ w.heap.size + 1 < W.heap.size := by
  refine ⟨_, rfl, ⟨?_, ?_, ?_⟩, ⟨?_, ?_, ?_⟩, Joins.below_alloc2 _ _ _, by simp⟩ <;> simp
/-- Two rows lie in blocks of their own, above what was there at w's time. -/
structure Boxes (w : World) (a b : R) (v : World) : Prop where
  a0 : v.cell? ⟨w.heap.size, 0, none⟩ = some (.int .i64 a.key)
  a1 : v.cell? ⟨w.heap.size, 1, none⟩ = some (.int .i64 a.value)
  a2 : v.cell? ⟨w.heap.size, 2, none⟩ = some (.int .i64 a.width)
  b0 : v.cell? ⟨w.heap.size + 1, 0, none⟩ = some (.int .i64 b.key)
  b1 : v.cell? ⟨w.heap.size + 1, 1, none⟩ = some (.int .i64 b.value)
  b2 : v.cell? ⟨w.heap.size + 1, 2, none⟩ = some (.int .i64 b.width)
  old : Below w.heap.size w v
  big : w.heap.size + 1 < v.heap.size
theorem boxes_start (w : World) (a b : R) (s t : TypeId) : ∃ W, W = (w.alloc (.cells #[.int .i64 a.key, .int .i64 a.value, .int .i64 a.width] s)).alloc (.cells #[.int .i64 b.key, .int .i64 b.value, .int .i64 b.width] t) ∧ Boxes w a b W := by
  refine ⟨_, rfl, ?_, ?_, ?_, ?_, ?_, ?_, Joins.below_alloc2 _ _ _, by simp⟩ <;> simp
theorem Boxes.drew {w v : World} {a b : R} (h : Boxes w a b v) : Boxes w a b v.drew := ⟨h.a0, h.a1, h.a2, h.b0, h.b1, h.b2, h.old.drew, h.big⟩
theorem Boxes.next {w v v' : World} {a b : R} (h : Boxes w a b v) (hb : Below v.heap.size v v') : Boxes w a b v' := by
  have h1 : w.heap.size < v.heap.size := by have := h.big; omega
  exact ⟨(hb.cell h1).trans h.a0, (hb.cell h1).trans h.a1, (hb.cell h1).trans h.a2, (hb.cell h.big).trans h.b0, (hb.cell h.big).trans h.b1, (hb.cell h.big).trans h.b2, h.old.trans (hb.mono (Nat.le_of_lt h1)), Nat.lt_of_lt_of_le h.big hb.size⟩
/-- A slice of rows: nil, or none, or cells. -/
def IsRows (w : World) (a : Option Addr) (len : Nat) (L : List R) : Prop :=
  L.length = len ∧ (∀ r ∈ L, r.wf) ∧ (len = 0 ∨ ∃ b o : Nat, a = some ⟨b, o, none⟩ ∧ b < w.heap.size ∧ ∀ t, t < len → RowAt w b (o + t * 3) (L.getD t R.zero))
theorem IsRows.below {w w' : World} {a : Option Addr} {len B : Nat} {L : List R} (h : IsRows w a len L) (hb : Below B w w') (ha : ∀ x, a = some x → 0 < len → x.block < B) : IsRows w' a len L := by
  obtain ⟨h1, h2, h3⟩ := h
  refine ⟨h1, h2, ?_⟩
  rcases h3 with h3 | ⟨b, o, rfl, hlt, h3⟩
  · exact .inl h3
  · rcases Nat.eq_zero_or_pos len with h0 | h0
    · exact .inl h0
    · exact .inr ⟨b, o, rfl, Nat.lt_of_lt_of_le hlt hb.size, fun t ht => (h3 t ht).below hb (ha _ rfl h0)⟩
/-- Whatever keeps all that was there keeps the rows. -/
theorem IsRows.keep {w w' : World} {a : Option Addr} {len : Nat} {L : List R} (h : IsRows w a len L) (hb : Below w.heap.size w w') : IsRows w' a len L := by
  obtain ⟨h1, h2, h3⟩ := h
  refine ⟨h1, h2, ?_⟩
  rcases h3 with h3 | ⟨b, o, rfl, hlt, h3⟩
  · exact .inl h3
  · exact .inr ⟨b, o, rfl, Nat.lt_of_lt_of_le hlt hb.size, fun t ht => (h3 t ht).below hb hlt⟩
/-- Rows that lie below a bound; what keeps all below it keeps them. -/
def RowsLow (a : Option Addr) (len B : Nat) : Prop := ∀ x, a = some x → 0 < len → x.block < B
theorem IsRows.old {w : World} {a : Option Addr} {len : Nat} {L : List R} (h : IsRows w a len L) : RowsLow a len w.heap.size := by
  intro x hx hp
  obtain ⟨-, -, h0 | ⟨b, o, rfl, hlt, -⟩⟩ := h
  · omega
  · cases hx; exact hlt
theorem IsRows.low {w w' : World} {a : Option Addr} {len B : Nat} {L : List R} (h : IsRows w a len L) (hl : Hid (RowsLow a len B)) (hb : Below B w w') : IsRows w' a len L := h.below hb hl.out
theorem IsRows.wf {w : World} {a : Option Addr} {len : Nat} {L : List R} (h : IsRows w a len L) (t : Nat) (ht : t < len) : (L.getD t R.zero).wf := by
  have hl : t < L.length := by rw [h.1]; exact ht
  have : L.getD t R.zero = L[t] := by simp [List.getD, hl]
  rw [this]
  exact h.2.1 _ (List.getElem_mem hl)
/-- The cells of a row of rows. -/
def cells3 (L : List R) : List Value := L.flatMap fun r => [.int .i64 r.key, .int .i64 r.value, .int .i64 r.width]
theorem cells3_length (L : List R) : (cells3 L).length = L.length * 3 := by
  induction L with
  | nil => rfl
  | cons r L ih => unfold cells3 at ih ⊢; rw [List.flatMap_cons, List.length_append, ih]; simp; omega
theorem cells3_get (L : List R) : ∀ (t : Nat), t < L.length → (cells3 L)[t * 3]? = some (.int .i64 (L.getD t R.zero).key) ∧ (cells3 L)[t * 3 + 1]? = some (.int .i64 (L.getD t R.zero).value) ∧ (cells3 L)[t * 3 + 2]? = some (.int .i64 (L.getD t R.zero).width) := by
  induction L with
  | nil => intro t ht; simp at ht
  | cons r L ih =>
    intro t ht
    cases t with
    | zero => exact ⟨rfl, rfl, rfl⟩
    | succ t =>
      have := ih t (by simpa using ht)
      have e : cells3 (r :: L) = .int .i64 r.key :: .int .i64 r.value :: .int .i64 r.width :: cells3 L := rfl
      rw [e, show (t + 1) * 3 = t * 3 + 3 by omega]
      simpa using this
theorem cells3_set (L : List R) : ∀ (t : Nat) (r : R), t < L.length → (((cells3 L).set (t * 3) (.int .i64 r.key)).set (t * 3 + 1) (.int .i64 r.value)).set (t * 3 + 2) (.int .i64 r.width) = cells3 (L.set t r) := by
  induction L with
  | nil => intro t r ht; simp at ht
  | cons q L ih =>
    intro t r ht
    cases t with
    | zero => rfl
    | succ t =>
      have := ih t r (by simpa using ht)
      have e : cells3 (q :: L) = .int .i64 q.key :: .int .i64 q.value :: .int .i64 q.width :: cells3 L := rfl
      have e' : cells3 ((q :: L).set (t + 1) r) = .int .i64 q.key :: .int .i64 q.value :: .int .i64 q.width :: cells3 (L.set t r) := rfl
      rw [e, e', show (t + 1) * 3 = t * 3 + 3 by omega, ← this]
      simp [List.set]
theorem cells3_append (L M : List R) : cells3 L ++ cells3 M = cells3 (L ++ M) := by simp [cells3]

theorem cells3_val (r : R) : r.val.cells = #[.int .i64 r.key, .int .i64 r.value, .int .i64 r.width] := rfl
theorem made_rows (n : Nat) : madeCells R.zero.val.cells (n * 3) = (cells3 (List.replicate n R.zero)).toArray := by
  apply Array.ext_getElem?
  intro i
  by_cases hi : i < n * 3
  · have hz : (List.replicate n R.zero).getD (i / 3) R.zero = R.zero := by
      simp only [List.getD, List.getElem?_replicate]
      rw [if_pos (by omega)]; rfl
    obtain ⟨e0, e1, e2⟩ := cells3_get (List.replicate n R.zero) (i / 3) (by simp; omega)
    rw [hz] at e0 e1 e2
    have hm : (madeCells R.zero.val.cells (n * 3))[i]? = some (.int .i64 0) := by
      have h3 : i % 3 = 0 ∨ i % 3 = 1 ∨ i % 3 = 2 := by omega
      simp only [madeCells, cells3_val, R.zero, Array.getElem?_map, Array.getElem?_range, hi, if_true, Option.map_some, List.size_toArray, List.length_cons, List.length_nil]
      rcases h3 with h | h | h <;> simp [h]
    rw [hm, List.getElem?_toArray]
    have : i = i / 3 * 3 ∨ i = i / 3 * 3 + 1 ∨ i = i / 3 * 3 + 2 := by omega
    rcases this with h | h | h
    · rw [h]; exact e0.symm
    · rw [h]; exact e1.symm
    · rw [h]; exact e2.symm
  · rw [Array.getElem?_eq_none (by rw [size_madeCells]; omega), List.getElem?_toArray, List.getElem?_eq_none (by rw [cells3_length, List.length_replicate]; omega)]
theorem rowInfo : (Tryd.prog.info? 65).map (fun i => (i.zero, i.size, i.bytes)) = some (some R.zero.val, 3, 24) := by kernel_rfl
/-- 'make([]impl.Row, n)'. -/
theorem run_make_rows (n : Nat) (hn : n ≤ 1000000000000) (w : World) :
    (Instr.makeSlice 39 (.int .i64 (n : Int)) (.int .i64 (n : Int))).run Tryd.prog w = .ok (.slice (some ⟨w.heap.size, 0, none⟩) n n) (w.alloc (.cells (cells3 (List.replicate n R.zero)).toArray 65)) := by
  obtain ⟨i0, hi, hz0, hz1, hz2⟩ := info_parts rowInfo
  have h := run_make (P := Tryd.prog) w 39 65 i0 R.zero.val Tryd.underlying39 hi hz0 .i64 .i64 (n : Int) (n : Int) (by omega) (by omega) (by rw [hz2]; omega) (by omega)
  rw [h, hz1, Int.toNat_natCast, made_rows]
/-- A row of a block of the call's own. -/
theorem rows_cells {w : World} {g : Nat} {M : List R} {t : TypeId} (h : w.heap[g]? = some (.cells (cells3 M).toArray t (0, 0))) (k : Nat) (hk : k < M.length) : RowAt w g (k * 3) (M.getD k R.zero) := by
  obtain ⟨e0, e1, e2⟩ := cells3_get M k hk
  refine ⟨?_, ?_, ?_⟩ <;> simp only [World.cell?, h] <;> simpa
theorem rows_set {w : World} {g : Nat} {M : List R} {t : TypeId} (h : w.heap[g]? = some (.cells (cells3 M).toArray t (0, 0))) (k : Nat) (hk : k < M.length) (r : R) :
    (((w.setCell ⟨g, k * 3, none⟩ (.int .i64 r.key)).setCell ⟨g, k * 3 + 1, none⟩ (.int .i64 r.value)).setCell ⟨g, k * 3 + 2, none⟩ (.int .i64 r.width)).heap[g]? = some (.cells (cells3 (M.set k r)).toArray t (0, 0)) := by
  have h1 := Joins.block_setCell h (i := k * 3) (.int .i64 r.key)
  have h2 := Joins.block_setCell h1 (i := k * 3 + 1) (.int .i64 r.value)
  have h3 := Joins.block_setCell h2 (i := k * 3 + 2) (.int .i64 r.width)
  rw [h3, ← cells3_set M k r hk]
  simp
theorem set_next (L : List R) (n k : Nat) (hn : L.length = n) (hk : k < n) : (L.take k ++ List.replicate (n - k) R.zero).set k (L.getD k R.zero) = L.take (k + 1) ++ List.replicate (n - (k + 1)) R.zero := by
  have hkl : k < L.length := by omega
  rw [List.set_append_right _ _ (by simp; omega)]
  have e : n - k = (n - (k + 1)) + 1 := by omega
  have e2 : k - (L.take k).length = 0 := by simp; omega
  have e3 : L.getD k R.zero = L[k] := by simp [List.getD, hkl]
  rw [e2, e, List.replicate_succ, List.set_cons_zero, e3, List.take_succ_eq_append_getElem hkl, List.append_assoc]
  rfl
theorem below_set3 {B : Nat} {w w' : World} {g : Nat} (h : Below B w w') (hg : B ≤ g) (i j k : Nat) (x y z : Value) : Below B w (((w'.setCell ⟨g, i, none⟩ x).setCell ⟨g, j, none⟩ y).setCell ⟨g, k, none⟩ z) :=
  ((h.setCell hg x).setCell hg y).setCell hg z
theorem rows_free {w : World} {g : Nat} {M : List R} {t : TypeId} (h : w.heap[g]? = some (.cells (cells3 M).toArray t (0, 0))) (i : Nat) : w.frozen? ⟨g, i, none⟩ = false := by simp [World.frozen?, h]
theorem rows_of {w : World} {g len : Nat} {L : List R} {t : TypeId} (h : w.heap[g]? = some (.cells (cells3 L).toArray t (0, 0))) (hl : L.length = len) (hwf : ∀ r ∈ L, r.wf) : IsRows w (some ⟨g, 0, none⟩) len L :=
  ⟨hl, hwf, .inr ⟨g, 0, rfl, lt_of_block h, fun t ht => by rw [Nat.zero_add]; exact rows_cells h t (by omega)⟩⟩
end Go.Proofs.YtoiobaiiammehaaDoor
