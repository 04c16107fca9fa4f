/- States told by trees: the laws' marks, element by element; no function of program or reference is walked here. -/
import Derived.Test.YtjdjceohlcimaaaVTy
import Derived.Test.YtjdjceohlcimaaaVN
import Derived.Test.YtjdjceohlcimaaaShape
namespace Go.Proofs.Ytjdjceohlcimaaa
open Go Go.RowKit V
set_option linter.unusedVariables false
/-- The first t elements are marked. -/
def mkL {α β : Type} (m : Mk α) (f : α → β) (q : Int) (X : List α) (t : Nat) : List β := (mkAll m q (X.take t) ++ X.drop t).map f
variable {α β : Type} {m : Mk α} {f : α → β} {q : Int} {X : List α} {t : Nat}
theorem mkL_zero : mkL m f q X 0 = X.map f := by simp [mkL, mkAll]
theorem mkL_all (h : ¬ t < X.length) : mkL m f q X t = (mkAll m q X).map f := by
  rw [mkL, List.take_of_length_le (by omega), List.drop_eq_nil_of_le (by omega), List.append_nil]
theorem mkL_len (h : t ≤ X.length) : (mkL m f q X t).length = X.length := by
  rw [mkL, List.length_map, List.length_append, mkAll_length, List.length_take, List.length_drop]; omega
theorem mkL_at (h : t < X.length) : (mkL m f q X t)[t]? = some (f X[t]) := by
  rw [mkL, List.getElem?_map, mkAll_at m q X t h]; rfl
theorem mkL_lt (h : t < X.length) : t < (mkL m f q X t).length := by rw [mkL_len (Nat.le_of_lt h)]; exact h
theorem mkL_next (h : t < X.length) : (mkL m f q X t).set t (f (m.mark (q + cntAll m (X.take t)) X[t])) = mkL m f q X (t + 1) := by
  rw [mkL, mkL, ← List.map_set, mkAll_next m q X t h]
theorem set_self {γ : Type} {l : List γ} {k : Nat} {x : γ} (h : k < l.length) : (l.set k x)[k]? = some x := List.getElem?_set_self h
theorem set_twice {γ : Type} {l : List γ} {k : Nat} {x y z : γ} (h : y = z) : (l.set k x).set k y = l.set k z := by rw [List.set_set, h]
/-- A row's marks. -/
def rowMk : Mk R := ⟨fun q _ => ⟨q, q + 1, q + 1 + 1⟩, fun _ => 3, fun _ _ => rfl⟩
theorem rows_cnt (X : List R) : cntAll rowMk X = 3 * X.length := by
  induction X with
  | nil => rfl
  | cons x xs ih => rw [cntAll_cons, ih, List.length_cons]; show 3 + _ = _; omega
/-- The first t elements are copied. -/
def toL {α β : Type} (f : α → β) (z : β) (X : List α) (t : Nat) : List β := (X.take t).map f ++ List.replicate (X.length - t) z
section
variable {α β : Type} {f : α → β} {z : β} {X : List α} {t : Nat}
theorem toL_zero : toL f z X 0 = List.replicate X.length z := by simp [toL]
theorem toL_all (h : ¬ t < X.length) : toL f z X t = X.map f := by
  rw [toL, List.take_of_length_le (by omega), show X.length - t = 0 by omega]; simp
theorem toL_at (h : t < X.length) : (toL f z X t)[t]? = some z := by
  rw [toL, List.getElem?_append_right (by simp; omega)]
  simp [List.getElem?_replicate, List.length_take]
  omega
theorem toL_lt (h : t < X.length) : t < (toL f z X t).length := by
  rw [toL, List.length_append, List.length_map, List.length_take, List.length_replicate]; omega
theorem toL_next (h : t < X.length) : (toL f z X t).set t (f X[t]) = toL f z X (t + 1) := by
  have hl : ((X.take t).map f).length = t := by rw [List.length_map, List.length_take]; omega
  rw [toL, List.set_append_right _ _ (by omega), hl, Nat.sub_self, toL, List.take_succ_eq_append_getElem h, List.map_append, List.append_assoc]
  rw [show X.length - t = (X.length - (t + 1)) + 1 by omega, List.replicate_succ, List.set_cons_zero]
  rfl
end
theorem wtAll_zero {α : Type} (f : α → Nat) (h : ∀ x, f x = 0) (X : List α) : wtAll f X = X.length := by
  induction X with
  | nil => rfl
  | cons a X ih => rw [wtAll_cons, h a, ih, List.length_cons]; omega
theorem marked_eq (X : List R) (q : Int) : rowsMk.mark q X = mkAll rowMk q X := by
  show marked X.length q = _
  induction X generalizing q with
  | nil => rfl
  | cons x xs ih =>
    have h := ih (q + 3)
    rw [mkAll, show q + ((rowMk.cnt x : Nat) : Int) = q + 3 from rfl, ← h]
    simp only [marked, List.length_cons, List.range_succ_eq_map, List.map_cons, List.map_map]
    refine List.cons_eq_cons.2 ⟨?_, List.map_congr_left fun t _ => ?_⟩
    · show (⟨_, _, _⟩ : R) = ⟨_, _, _⟩
      congr 1 <;> first | (simp; done) | (simp; omega)
    · show (⟨_, _, _⟩ : R) = ⟨_, _, _⟩
      congr 1 <;> (push_cast; omega)
theorem rows_cnt' (X : List R) : rowsMk.cnt X = cntAll rowMk X := (rows_cnt X).symm
end Go.Proofs.Ytjdjceohlcimaaa
