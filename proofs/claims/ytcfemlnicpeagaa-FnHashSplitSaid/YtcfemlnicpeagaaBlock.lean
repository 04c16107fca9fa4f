/- A variable of three numbers in a block of its own, behind calls and stores; no function of the program. -/
import Derived.Test.YtcfemlnicpeagaaMem
namespace Go.Proofs.Ytcfemlnicpeagaa
open Go.RowKit

/-- Block g holds the row r and nothing of it is frozen. -/
def Var3 (w : World) (g : Nat) (r : R) : Prop := w.heap[g]? = some (.cells #[.int .i64 r.key, .int .i64 r.value, .int .i64 r.width] 34 (0, 0))
theorem Var3.lt {w : World} {g : Nat} {r : R} (h : Var3 w g r) : g < w.heap.size := lt_of_block h
theorem Var3.below {w w' : World} {g B : Nat} {r : R} (h : Var3 w g r) (hb : Below B w w') (hg : g < B) : Var3 w' g r := (hb.block g hg).trans h
theorem Var3.keep {w w' : World} {g : Nat} {r : R} (h : Var3 w g r) (hb : Below w.heap.size w w') : Var3 w' g r := h.below hb h.lt
theorem Var3.cells {w : World} {g : Nat} {r : R} (h : Var3 w g r) : w.cell? ⟨g, 0, none⟩ = some (.int .i64 r.key) ∧ w.cell? ⟨g, 1, none⟩ = some (.int .i64 r.value) ∧ w.cell? ⟨g, 2, none⟩ = some (.int .i64 r.width) := by
  unfold Var3 at h
  refine ⟨?_, ?_, ?_⟩ <;> simp [World.cell?, h]
theorem Var3.free {w : World} {g : Nat} {r : R} (h : Var3 w g r) : w.frozen? ⟨g, 0, none⟩ = false ∧ w.frozen? ⟨g, 1, none⟩ = false ∧ w.frozen? ⟨g, 2, none⟩ = false := by
  unfold Var3 at h
  refine ⟨?_, ?_, ?_⟩ <;> simp [World.frozen?, h]
theorem Var3.made (w : World) (r : R) : Var3 (w.alloc (.cells #[.int .i64 r.key, .int .i64 r.value, .int .i64 r.width] 34)) w.heap.size r := heap_alloc_new w _
theorem Var3.alloc {w : World} {g : Nat} {r : R} (h : Var3 w g r) (o : Obj) : Var3 (w.alloc o) g r := h.keep ((Below.refl _ _).alloc (Nat.le_refl _) _)
theorem Var3.drew {w : World} {g : Nat} {r : R} (h : Var3 w g r) : Var3 w.drew g r := h
theorem Var3.set0 {w : World} {g : Nat} {r : R} (h : Var3 w g r) (n : Int) : Var3 (w.setCell ⟨g, 0, none⟩ (.int .i64 n)) g ⟨n, r.value, r.width⟩ := Joins.block_setCell h (i := 0) _
theorem Var3.set1 {w : World} {g : Nat} {r : R} (h : Var3 w g r) (n : Int) : Var3 (w.setCell ⟨g, 1, none⟩ (.int .i64 n)) g ⟨r.key, n, r.width⟩ := Joins.block_setCell h (i := 1) _
theorem Var3.set2 {w : World} {g : Nat} {r : R} (h : Var3 w g r) (n : Int) : Var3 (w.setCell ⟨g, 2, none⟩ (.int .i64 n)) g ⟨r.key, r.value, n⟩ := Joins.block_setCell h (i := 2) _
theorem Var3.other {w : World} {g g' i : Nat} {r : R} (h : Var3 w g r) (hne : g ≠ g') (u : Value) : Var3 (w.setCell ⟨g', i, none⟩ u) g r := by
  unfold Var3 at h ⊢
  rw [Below.heap_setCell _ _ _ _ (fun e => hne e)]
  exact h
end Go.Proofs.Ytcfemlnicpeagaa
