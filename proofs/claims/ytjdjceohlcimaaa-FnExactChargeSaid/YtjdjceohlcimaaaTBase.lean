/- What the texts of the laws' types share; no function of program or reference is walked here. -/
import Derived.Test.YtjdjceohlcimaaaShape
import Derived.Test.YtjdjceohlcimaaaApart
import Derived.Test.YtjdjceohlcimaaaMarkIn
namespace Go.Proofs.Ytjdjceohlcimaaa
open Go.RowKit
set_option linter.unusedVariables false

/-- A size that is left, once it is none, and once it is some. -/
theorem sz_stop {z left : Int} {m : Nat} (h : z = szR left m) (h0 : z < 0) : left < m ∧ z = -1 := by
  unfold szR at h
  split at h <;> omega
theorem sz_step {z left : Int} {m : Nat} (h : z = szR left m) (h0 : 0 ≤ z) : (m : Int) ≤ left ∧ z = left - m := by
  unfold szR at h
  split at h <;> omega
theorem cellsAt_nil {w : World} {b p : Nat} : CellsAt w b p [] := fun j u hj => by simp at hj
theorem cellsAt_cons {w : World} {b p : Nat} {v : Value} {vs : List Value} (h : w.cell? ⟨b, p, none⟩ = some v) (ht : CellsAt w b (p + 1) vs) : CellsAt w b p (v :: vs) := fun j u hj => by
  match j, hj with
  | 0, hj => obtain rfl := Option.some.inj hj; exact h
  | j + 1, hj => have := ht j u (by simpa using hj); rwa [show p + (j + 1) = p + 1 + j by omega]
theorem cell_put {w : World} {b i : Nat} {u v : Value} (h : w.cell? ⟨b, i, none⟩ = some u) : (w.setCell ⟨b, i, none⟩ v).cell? ⟨b, i, none⟩ = some v := World.cell?_setCell_same _ _ _ h
theorem cell_far {w : World} {b i j : Nat} {u v : Value} (h : w.cell? ⟨b, j, none⟩ = some u) (hn : i ≠ j) : (w.setCell ⟨b, i, none⟩ v).cell? ⟨b, j, none⟩ = some u :=
  (World.cell?_setCell_other _ _ _ _ (fun e => by injection e with _ e _; exact hn e)).trans h
/-- A cell of a stretch that what has changed is apart from. -/
theorem cell_only {w w' : World} {F : List Reg} {b lo hi j : Nat} (ho : OnlyAt F w w') (hb : b < w.heap.size) (hap : ∀ y ∈ F, Reg.apart ⟨b, lo, hi⟩ y) (h1 : lo ≤ j) (h2 : j < hi) : w'.cell? ⟨b, j, none⟩ = w.cell? ⟨b, j, none⟩ :=
  ho.cell b j hb fun y hy e => by
    rcases hap y hy with hn | hn | hn
    · exact absurd e.symm hn
    · simp only at hn; left; omega
    · simp only at hn; right; omega
theorem OnlyAt.put {w : World} {b lo hi j : Nat} (w0 : World) (h : OnlyAt [⟨b, lo, hi⟩] w0 w) (h1 : lo ≤ j) (h2 : j < hi) (u : Value) : OnlyAt [⟨b, lo, hi⟩] w0 (w.setCell ⟨b, j, none⟩ u) := h.set (List.mem_singleton.2 rfl) rfl h1 h2 u
theorem apart_one {r : Reg} {F : List Reg} (h : ∀ y ∈ F, r.apart y) : ∀ x ∈ [r], ∀ y ∈ F, Reg.apart x y := fun x hx y hy => by rw [List.mem_singleton.1 hx]; exact h y hy
theorem boxes3 (w W : World) {c0 c1 c2 : Array Value} {t0 t1 t2 : TypeId} (h : W = ((w.alloc (.cells c0 t0)).alloc (.cells c1 t1)).alloc (.cells c2 t2)) :
    W.heap.size = w.heap.size + 3 ∧ Below w.heap.size w W ∧ W.heap[w.heap.size]? = some (.cells c0 t0 (0, 0)) ∧ W.heap[w.heap.size + 1]? = some (.cells c1 t1 (0, 0)) ∧ W.heap[w.heap.size + 2]? = some (.cells c2 t2 (0, 0)) := by
  have hs1 : (w.alloc (.cells c0 t0)).heap.size = w.heap.size + 1 := by simp
  have hs2 : ((w.alloc (.cells c0 t0)).alloc (.cells c1 t1)).heap.size = w.heap.size + 2 := by simp
  refine ⟨by rw [h]; simp, by rw [h]; exact (((Below.refl _ _).alloc (Nat.le_refl _) _).alloc (by simp) _).alloc (by simp; omega) _, ?_, ?_, ?_⟩
  · rw [h]
    exact (Below.heap_alloc _ _ _ (by simp; omega)).trans ((Below.heap_alloc _ _ _ (by simp)).trans (heap_alloc_new _ _))
  · rw [h, ← hs1]
    exact (Below.heap_alloc _ _ _ (by simp)).trans (heap_alloc_new _ _)
  · rw [h, ← hs2]
    exact heap_alloc_new _ _
theorem boxes2 (w W : World) {c0 c1 : Array Value} {t0 t1 : TypeId} (h : W = (w.alloc (.cells c0 t0)).alloc (.cells c1 t1)) :
    Below w.heap.size w W ∧ W.heap[w.heap.size]? = some (.cells c0 t0 (0, 0)) ∧ W.heap[w.heap.size + 1]? = some (.cells c1 t1 (0, 0)) := by
  have hs1 : (w.alloc (.cells c0 t0)).heap.size = w.heap.size + 1 := by simp
  refine ⟨by rw [h]; exact ((Below.refl _ _).alloc (Nat.le_refl _) _).alloc (by simp) _, ?_, ?_⟩
  · rw [h]
    exact (Below.heap_alloc _ _ _ (by simp)).trans (heap_alloc_new _ _)
  · rw [h, ← hs1]
    exact heap_alloc_new _ _
theorem Calls.named {P : Program} {f : FuncId} {a : Array Value} {w : World} {Q : Ending → World → Prop} (h : ∀ V, V = w → Calls P f a V Q) : Calls P f a w Q := h w rfl
theorem blk_put {w : World} {g i : Nat} {cs cs' : Array Value} {t : TypeId} {v : Value} (h : w.heap[g]? = some (.cells cs t (0, 0))) (e : cs.setIfInBounds i v = cs') : (w.setCell ⟨g, i, none⟩ v).heap[g]? = some (.cells cs' t (0, 0)) := by
  rw [← e]; exact Joins.block_setCell h _
theorem blk_far {w : World} {g b i : Nat} {o : Obj} {v : Value} (h : w.heap[b]? = some o) (hne : b ≠ g) : (w.setCell ⟨g, i, none⟩ v).heap[b]? = some o := (Below.heap_setCell w ⟨g, i, none⟩ v b hne).trans h
/-- Cells stored one behind the other. -/
def putCells : World → Nat → Nat → List Value → World
  | w, _, _, [] => w
  | w, g, o, v :: vs => putCells (w.setCell ⟨g, o, none⟩ v) g (o + 1) vs
theorem put_far {g j : Nat} : ∀ (vs : List Value) (w : World) (o : Nat), j < o ∨ o + vs.length ≤ j → (putCells w g o vs).cell? ⟨g, j, none⟩ = w.cell? ⟨g, j, none⟩
  | [], _, _, _ => rfl
  | v :: vs, w, o, h => by
    rw [List.length_cons] at h
    rw [putCells, put_far vs _ (o + 1) (by omega)]
    exact World.cell?_setCell_other _ _ _ _ (fun e => by injection e with _ e _; omega)
theorem put_ex {g j : Nat} : ∀ (vs : List Value) (w : World) (o : Nat), (∃ u, w.cell? ⟨g, j, none⟩ = some u) → ∃ u, (putCells w g o vs).cell? ⟨g, j, none⟩ = some u
  | [], _, _, h => h
  | v :: vs, w, o, ⟨u, h⟩ => by
    rw [putCells]
    refine put_ex vs _ (o + 1) ?_
    by_cases e : o = j
    · subst e; exact ⟨v, cell_put h⟩
    · exact ⟨u, cell_far h e⟩
theorem put_at {g : Nat} : ∀ (vs : List Value) (w : World) (o : Nat), (∀ j, j < vs.length → ∃ u, w.cell? ⟨g, o + j, none⟩ = some u) → ∀ j u, vs[j]? = some u → (putCells w g o vs).cell? ⟨g, o + j, none⟩ = some u
  | [], _, _, _, j, u, hj => by simp at hj
  | v :: vs, w, o, h, j, u, hj => by
    rw [putCells]
    match j, hj with
    | 0, hj =>
      obtain rfl := Option.some.inj hj
      obtain ⟨u0, h0⟩ := h 0 (by simp)
      rw [put_far vs _ (o + 1) (by omega)]
      exact cell_put h0
    | j + 1, hj =>
      have := put_at vs (w.setCell ⟨g, o, none⟩ v) (o + 1) (fun k hk => by
        obtain ⟨u1, h1⟩ := h (k + 1) (by rw [List.length_cons]; omega)
        rw [show o + 1 + k = o + (k + 1) by omega]
        exact ⟨u1, cell_far h1 (by omega)⟩) j u (by simpa using hj)
      rwa [show o + (j + 1) = o + 1 + j by omega]
theorem put_frozen {p : Addr} {g : Nat} : ∀ (vs : List Value) (w : World) (o : Nat), (putCells w g o vs).frozen? p = w.frozen? p
  | [], _, _ => rfl
  | v :: vs, w, o => by rw [putCells, put_frozen vs]; exact World.frozen?_setCell w _ _ _
theorem put_size {g : Nat} : ∀ (vs : List Value) (w : World) (o : Nat), (putCells w g o vs).heap.size = w.heap.size
  | [], _, _ => rfl
  | v :: vs, w, o => by rw [putCells, put_size vs]; simp [World.setCell]
theorem put_below {B g : Nat} (hB : B ≤ g) {w : World} : ∀ (vs : List Value) (w' : World) (o : Nat), Below B w w' → Below B w (putCells w' g o vs)
  | [], _, _, h => h
  | v :: vs, w', o, h => by rw [putCells]; exact put_below hB vs _ (o + 1) (h.setCell (p := ⟨g, o, none⟩) hB v)
theorem put_stay {F : List Reg} {g : Nat} (hne : ∀ y ∈ F, y.b ≠ g) {w : World} : ∀ (vs : List Value) (w' : World) (o : Nat), Stay F w w' → Stay F w (putCells w' g o vs)
  | [], _, _, h => h
  | v :: vs, w', o, h => by rw [putCells]; exact put_stay hne vs _ (o + 1) (h.set v hne)
theorem apart_sub {F G : List Reg} {r : Reg} (h : ∀ y ∈ F, r.apart y) (hs : ∀ y ∈ G, y ∈ F) : ∀ y ∈ G, r.apart y := fun y hy => h y (hs y hy)
end Go.Proofs.Ytjdjceohlcimaaa
