/- What a call gives: a slice in memory of its own; stretches that are apart; no function of program or reference is walked here. -/
import Derived.Test.YtjdjceohlcimaaaMem
namespace Go.Proofs.Ytjdjceohlcimaaa
open Go.RowKit

theorem Stay.set {F : List Reg} {w w' : World} (h : Stay F w w') {g i : Nat} (u : Value) (hne : ∀ y ∈ F, y.b ≠ g) : Stay F w (w'.setCell ⟨g, i, none⟩ u) :=
  ⟨by simpa [World.setCell] using h.size, fun y hy j h1 h2 => ⟨(World.cell?_setCell_other _ _ _ _ (fun e => by injection e with e _ _; exact hne y hy e.symm)).trans (h.cell y hy j h1 h2).1, (World.frozen?_setCell w' _ _ _).trans (h.cell y hy j h1 h2).2⟩⟩
theorem Stay.refl (F : List Reg) (w : World) : Stay F w w := ⟨Nat.le_refl _, fun _ _ _ _ _ => ⟨rfl, rfl⟩⟩
theorem var_cell {w : World} {g : Nat} {u : Value} {t : TypeId} {fr : Nat × Nat} (h : w.heap[g]? = some (.cells #[u] t fr)) : w.cell? ⟨g, 0, none⟩ = some u := by simp [World.cell?, h]
/-- The answer is a slice, whole in memory of the call's own. -/
def Gives {α : Type} (r : Rep α) (xs : List α) (w : World) (e : Ending) (w' : World) : Prop :=
  ∃ (x : Option Addr) (k m : Nat) (F : List Reg), e = .returned (.slice x k m) ∧ SeqOwn r w' w.heap.size x k xs F ∧ Below w.heap.size w w'
/-- Two things of which one was there before the other. -/
theorem apart_new {α β : Type} {r : Rep α} {s : Rep β} {w w' : World} {B B' n n' : Nat} {a a' : Option Addr} {xs : List α} {ys : List β} {F G : List Reg} (h : SeqOwn r w B a n xs F) (h' : SeqOwn s w' B' a' n' ys G) (hB : w.heap.size ≤ B') : ∀ x ∈ F, ∀ y ∈ G, x.apart y :=
  fun x hx y hy => .inl (by have h1 := (h.lt x hx).2; have h2 := (h'.lt y hy).1; omega)
theorem apart_flip {F G : List Reg} (h : ∀ x ∈ F, ∀ y ∈ G, Reg.apart x y) : ∀ y ∈ G, ∀ x ∈ F, Reg.apart y x := fun y hy x hx => Reg.apart_symm (h x hx y hy)
/-- A mark's frame, as what lies below a bound. -/
theorem Below.marked {α : Type} {r : Rep α} {w0 w w' : World} {B n : Nat} {a : Option Addr} {xs : List α} {F : List Reg} (h : SeqOwn r w B a n xs F) (ho : OnlyAt F w w') (hb : Below w0.heap.size w0 w) (hB : w0.heap.size ≤ B) : Below w0.heap.size w0 w' :=
  hb.trans (ho.below hb.size fun y hy => Nat.le_trans hB (h.lt y hy).1)
theorem frozen_grown {w w' : World} {row : Option Nat} (h : w.grownBy w' row) {b j : Nat} (hb : b < w.heap.size) (hne : row ≠ some b) : w'.cell? ⟨b, j, none⟩ = w.cell? ⟨b, j, none⟩ ∧ w'.frozen? ⟨b, j, none⟩ = w.frozen? ⟨b, j, none⟩ :=
  have := h.block b hb (fun e => hne e.symm)
  ⟨World.cell?_of_block this, World.frozen?_of_block this⟩
theorem Stay.of_grown {F : List Reg} {w w' : World} {row : Option Nat} (h : w.grownBy w' row) (hlt : ∀ y ∈ F, y.b < w.heap.size) (hne : ∀ y ∈ F, row ≠ some y.b) : Stay F w w' :=
  ⟨h.size, fun y hy _ _ _ => frozen_grown h (hlt y hy) (hne y hy)⟩
/-! ### What is the call's own, whatever its shape -/
theorem Rep.own.lt {α : Type} {r : Rep α} {w : World} {B : Nat} {x : α} {h : r.H} {F : List Reg} (ho : r.own w B x h F) : ∀ y ∈ F, B ≤ y.b ∧ y.b < w.heap.size := r.own_lt ho
theorem Rep.own.inn {α : Type} {r : Rep α} {w : World} {B : Nat} {x : α} {h : r.H} {F : List Reg} (ho : r.own w B x h F) : r.inn w x h := r.own_inn ho
theorem Rep.own.keep {α : Type} {r : Rep α} {w w' : World} {B : Nat} {x : α} {h : r.H} {F : List Reg} (ho : r.own w B x h F) (hb : Below w.heap.size w w') : r.own w' B x h F := r.own_stay ho (Stay.of_below hb fun y hy => (r.own_lt ho y hy).2)
theorem Rep.own.far {α : Type} {r : Rep α} {w w' : World} {B : Nat} {x : α} {h : r.H} {F G : List Reg} (ho : r.own w B x h F) (hg : OnlyAt G w w') (hap : ∀ x ∈ G, ∀ y ∈ F, Reg.apart x y) : r.own w' B x h F := r.own_stay ho (Stay.of_only hg hap fun y hy => (r.own_lt ho y hy).2)
theorem Rep.inn.keep {α : Type} {r : Rep α} {w w' : World} {x : α} {h : r.H} (hi : r.inn w x h) (hb : Below w.heap.size w w') : r.inn w' x h := r.inn_keep hi hb
theorem apart_lt {F G : List Reg} {n : Nat} (h : ∀ y ∈ F, y.b < n) (h' : ∀ y ∈ G, n ≤ y.b) : ∀ x ∈ F, ∀ y ∈ G, Reg.apart x y := fun x hx y hy => .inl (by have := h x hx; have := h' y hy; omega)
theorem box_cell {w : World} {g : Nat} {cs : Array Value} {t : TypeId} {fr : Nat × Nat} (h : w.heap[g]? = some (.cells cs t fr)) (j : Nat) (u : Value) (hu : cs[j]? = some u) : w.cell? ⟨g, j, none⟩ = some u := by simp [World.cell?, h, hu]
end Go.Proofs.Ytjdjceohlcimaaa
