/- A page's first rows, as the program counts them; no function of program or reference is walked here. -/
import Derived.Test.YtoiobaiiammehaaPageM
namespace Go.Proofs.Ytoiobaiiammehaa
namespace R

/-- How many of the rows go to the first page. -/
structure First (L : List R) (i : Nat) : Prop where
  le : i ≤ L.length
  fits : ∀ j, j < i → ¬ 8 < total (L.take j) + (L.getD j zero).cost
  over : i < L.length → 8 < total (L.take i) + (L.getD i zero).cost
theorem First.pos {L : List R} {i : Nat} (h : First L i) (hL : 0 < L.length) : 1 ≤ i := by
  rcases Nat.eq_zero_or_pos i with h0 | h0
  · subst h0
    have h1 := h.over hL
    have h2 := (L.getD 0 zero).cost_range
    have h3 : total (L.take 0) = 0 := rfl
    omega
  · exact h0
theorem fold_pre (A : List (List R)) (s : List (List R) × List R) (L : List R) : L.foldl packStep (A ++ s.1, s.2) = (A ++ (L.foldl packStep s).1, (L.foldl packStep s).2) := by
  induction L generalizing s with
  | nil => rfl
  | cons r L ih =>
    rw [List.foldl_cons, List.foldl_cons, ← ih]
    congr 1
    unfold packStep
    by_cases h : 8 < total s.2 + r.cost
    · rw [if_pos h, if_pos h]; simp
    · rw [if_neg h, if_neg h]
theorem First.st {L : List R} {i : Nat} (h : First L i) : ∀ j, j ≤ i → packSt (L.take j) = ([], L.take j) := by
  intro j
  induction j with
  | zero => intro _; rfl
  | succ j ih =>
    intro hj
    have hl := h.le
    rw [packSt_next L j (by omega), ih (by omega)]
    unfold packStep
    rw [if_neg (h.fits j (by omega)), List.take_succ_eq_append_getElem (by omega : j < L.length)]
    simp [List.getD, (by omega : j < L.length)]
/-- The first page, and the pages of the rest. -/
theorem First.pack {L : List R} {i : Nat} (h : First L i) (hL : 0 < L.length) : packEnd (packSt L) = L.take i :: packEnd (packSt (L.drop i)) := by
  have hp := h.pos hL
  have hle := h.le
  have hs := h.st i (Nat.le_refl _)
  rcases Nat.lt_or_ge i L.length with hi | hi
  · have h1 : packSt L = (L.drop i).foldl packStep ([], L.take i) := by
      conv => lhs; rw [← List.take_append_drop i L]
      unfold packSt at hs ⊢
      rw [List.foldl_append, hs]
    have hov := h.over hi
    have hg : L.getD i zero = L[i] := by simp [List.getD, hi]
    rw [hg] at hov
    have hc := L[i].cost_range
    have e1 : packStep ([], L.take i) L[i] = ([L.take i] ++ ([] : List (List R)), [L[i]]) := by
      unfold packStep
      rw [if_pos hov]
      simp
    have e2 : packStep ([], []) L[i] = ([], [L[i]]) := by
      unfold packStep
      rw [if_neg (by show ¬ 8 < total [] + _; have : total [] = 0 := rfl; omega)]
      rfl
    have h2 : packSt (L.drop i) = (L.drop (i + 1)).foldl packStep ([], [L[i]]) := by
      unfold packSt
      rw [List.drop_eq_getElem_cons hi, List.foldl_cons, e2]
    rw [h1, List.drop_eq_getElem_cons hi, List.foldl_cons, e1, fold_pre [L.take i] ([], [L[i]]), ← List.drop_eq_getElem_cons hi, h2]
    unfold packEnd
    by_cases hn : ((L.drop (i + 1)).foldl packStep ([], [L[i]])).2 = []
    · rw [if_pos hn, if_pos hn]; rfl
    · rw [if_neg hn, if_neg hn]; simp
  · have he : i = L.length := by omega
    subst he
    rw [List.take_length, List.drop_length]
    rw [List.take_length] at hs
    rw [hs]
    unfold packEnd
    rw [if_neg (by simpa using List.ne_nil_of_length_pos hL)]
    rfl
end R
end Go.Proofs.Ytoiobaiiammehaa
