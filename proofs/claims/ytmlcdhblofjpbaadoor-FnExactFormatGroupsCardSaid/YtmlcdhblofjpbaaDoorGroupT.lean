/- The text of groups, as plain mathematics. -/
import Derived.Test.YtmlcdhblofjpbaaDoorGroupM
namespace Go.Proofs.YtmlcdhblofjpbaaDoor
open Go.RowKit
namespace GroupD
def wf (g : GroupD) : Prop := (-9223372036854775808 ≤ g.fKey ∧ g.fKey ≤ 9223372036854775807) ∧ (-9223372036854775808 ≤ g.fCount ∧ g.fCount ≤ 9223372036854775807) ∧ (-9223372036854775808 ≤ g.fSum ∧ g.fSum ≤ 9223372036854775807) ∧ (-9223372036854775808 ≤ g.fMin ∧ g.fMin ≤ 9223372036854775807) ∧ (-9223372036854775808 ≤ g.fMax ∧ g.fMax ≤ 9223372036854775807)
def fields (g : GroupD) : List (List UInt8) := [Lib.itoa g.fCount, Lib.itoa g.fSum, Lib.itoa g.fMin, Lib.itoa g.fMax]
def txt (g : GroupD) : List UInt8 := Lib.itoa g.fKey ++ 58 :: (Lib.itoa g.fCount ++ 44 :: (Lib.itoa g.fSum ++ 44 :: (Lib.itoa g.fMin ++ 44 :: Lib.itoa g.fMax)))
theorem join_fields (g : GroupD) : Lib.join (fields g) [44] = Lib.itoa g.fCount ++ 44 :: (Lib.itoa g.fSum ++ 44 :: (Lib.itoa g.fMin ++ 44 :: Lib.itoa g.fMax)) := by
  have h : fields g = (([] ++ [Lib.itoa g.fCount]) ++ [Lib.itoa g.fSum] ++ [Lib.itoa g.fMin]) ++ [Lib.itoa g.fMax] := rfl
  rw [h, join_snoc, join_snoc, join_snoc, join_snoc]
  simp
theorem itoa_le {n : Int} (h : -9223372036854775808 ≤ n ∧ n ≤ 9223372036854775807) : (Lib.itoa n).length ≤ 21 := by
  rcases Int.lt_trichotomy n 0 with h0 | h0 | h0
  · rw [Dec.itoa_neg n h0, List.length_cons]
    have := Dec.dd_length_le n.natAbs (by omega)
    omega
  · subst h0; rw [Dec.itoa_zero]; simp
  · rw [Dec.itoa_pos n h0]
    have := Dec.dd_length_le n.toNat (by omega)
    omega
theorem txt_len {g : GroupD} (h : wf g) : (txt g).length ≤ 109 := by
  obtain ⟨h0, h1, h2, h3, h4⟩ := h
  have a0 := itoa_le h0
  have a1 := itoa_le h1
  have a2 := itoa_le h2
  have a3 := itoa_le h3
  have a4 := itoa_le h4
  unfold txt
  simp only [List.length_append, List.length_cons]
  omega
theorem join_next (X : List GroupD) (t : Nat) (h : t < X.length) : Lib.join ((X.take (t + 1)).map txt) [32] = (if t = 0 then [] else Lib.join ((X.take t).map txt) [32] ++ [32]) ++ txt X[t] := by
  rw [List.take_succ_eq_append_getElem h, List.map_append, List.map_cons, List.map_nil, join_snoc]
  by_cases h0 : t = 0
  · subst h0; simp
  · have hne : (X.take t).map txt ≠ [] := by
      intro e
      have := congrArg List.length e
      rw [List.length_map, List.length_take, List.length_nil] at this
      omega
    rw [if_neg hne, if_neg h0]
theorem join_len_le : ∀ (X : List GroupD), (∀ g ∈ X, wf g) → (Lib.join (X.map txt) [32]).length ≤ 110 * X.length
  | [], _ => by simp [Lib.join_nil]
  | x :: X, hX => by
    rw [List.map_cons, Lib.join_length]
    have : ∀ Y : List GroupD, (∀ g ∈ Y, wf g) → Lib.lens (Y.map txt) ≤ 109 * Y.length := by
      intro Y
      induction Y with
      | nil => intro _; simp [Lib.lens]
      | cons y Y ih =>
        intro hY
        have := txt_len (hY y (List.mem_cons_self ..))
        have ih := ih fun g hg => hY g (List.mem_cons_of_mem _ hg)
        simp [Lib.lens] at ih ⊢
        omega
    have := this (x :: X) hX
    simp at this ⊢
    omega
end GroupD
end Go.Proofs.YtmlcdhblofjpbaaDoor
