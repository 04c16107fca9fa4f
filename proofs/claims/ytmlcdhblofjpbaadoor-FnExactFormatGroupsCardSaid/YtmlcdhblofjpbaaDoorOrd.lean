/- Total orders told by a comparison, and sorting by them, as plain mathematics; no function of program or reference is walked here. -/
import Derived.Test.YtmlcdhblofjpbaaDoorMath
namespace Go.Proofs.YtmlcdhblofjpbaaDoor
/-- A comparison that orders: 0 only for equals. -/
structure IsOrd {α : Type} (cmp : α → α → Int) : Prop where
  zero : ∀ a b, cmp a b = 0 ↔ a = b
  anti : ∀ a b, cmp b a = - cmp a b
  trans : ∀ a b c, cmp a b ≤ 0 → cmp b c ≤ 0 → cmp a c ≤ 0
namespace Ord
variable {α : Type} {cmp : α → α → Int}
def leb (cmp : α → α → Int) (a b : α) : Bool := decide (cmp a b ≤ 0)
theorem leb_iff {a b : α} : leb cmp a b = true ↔ cmp a b ≤ 0 := by simp [leb]
def sort (cmp : α → α → Int) (L : List α) : List α := L.mergeSort (leb cmp)
theorem sort_perm (L : List α) : (sort cmp L).Perm L := List.mergeSort_perm L _
theorem sort_length (L : List α) : (sort cmp L).length = L.length := (sort_perm L).length_eq
theorem sort_nil : sort cmp [] = [] := List.eq_nil_of_length_eq_zero (sort_length [])
theorem sort_asc (H : IsOrd cmp) (L : List α) : (sort cmp L).Pairwise fun a b => leb cmp a b = true :=
  List.pairwise_mergeSort (le := leb cmp) (fun a b c h h' => leb_iff.2 (H.trans _ _ _ (leb_iff.1 h) (leb_iff.1 h'))) (fun a b => by
    rcases (show cmp a b ≤ 0 ∨ cmp b a ≤ 0 by have := H.anti a b; omega) with h | h
    · simp [leb_iff.2 h]
    · simp [leb_iff.2 h]) L
theorem sort_unique (H : IsOrd cmp) {M L : List α} (hp : M.Perm L) (hs : M.Pairwise fun a b => leb cmp a b = true) : M = sort cmp L :=
  List.Perm.eq_of_pairwise (fun a b _ _ h h' => (H.zero a b).1 (by have h1 := leb_iff.1 h; have h2 := leb_iff.1 h'; have := H.anti a b; omega)) hs (sort_asc H L) (hp.trans (sort_perm L).symm)
theorem sort_eq (H : IsOrd cmp) {M L : List α} (hp : M.Perm L) : sort cmp M = sort cmp L := sort_unique H ((sort_perm M).trans hp) (sort_asc H M)
theorem sort_sort (H : IsOrd cmp) (L : List α) : sort cmp (sort cmp L) = sort cmp L := sort_eq H (sort_perm L)
/-- One more, at its place. -/
theorem sort_insert (H : IsOrd cmp) {M : List α} {x : α} {k : Nat} (hk : k ≤ M.length) (hlow : k = 0 ∨ ∃ y, (sort cmp M)[k - 1]? = some y ∧ cmp y x ≤ 0) (hup : ∀ t y, k ≤ t → (sort cmp M)[t]? = some y → 0 < cmp y x) :
    (sort cmp M).take k ++ (x :: (sort cmp M).drop k) = sort cmp (M ++ [x]) := by
  have hlen : (sort cmp M).length = M.length := sort_length M
  apply sort_unique H
  · refine List.perm_middle.trans ?_
    rw [List.take_append_drop]
    exact ((List.Perm.cons _ (sort_perm _))).trans (List.perm_append_singleton _ _).symm
  · have hs := sort_asc H M
    have hd : ∀ y ∈ (sort cmp M).drop k, 0 < cmp y x := by
      intro y hy
      obtain ⟨t, ht, rfl⟩ := List.mem_iff_getElem.1 hy
      rw [List.length_drop, hlen] at ht
      rw [List.getElem_drop]
      exact hup (k + t) _ (by omega) (List.getElem?_eq_getElem (by omega))
    have htk : ∀ y ∈ (sort cmp M).take k, cmp y x ≤ 0 := by
      rcases hlow with rfl | ⟨z, hz, hlow⟩
      · intro y hy; simp at hy
      · intro y hy
        obtain ⟨t, ht, rfl⟩ := List.mem_iff_getElem.1 hy
        rw [List.length_take, hlen] at ht
        rw [List.getElem_take]
        rw [List.getElem?_eq_getElem (by omega)] at hz
        have hz' := Option.some.inj hz
        rcases Nat.lt_or_ge t (k - 1) with h | h
        · refine H.trans _ _ _ (leb_iff.1 (List.pairwise_iff_getElem.1 hs t (k - 1) (by omega) (by omega) h)) ?_
          rw [hz']; exact hlow
        · have : t = k - 1 := by omega
          subst this
          rw [hz']; exact hlow
    rw [List.pairwise_append, List.pairwise_cons]
    refine ⟨hs.sublist (List.take_sublist _ _), ⟨fun y hy => leb_iff.2 ?_, hs.sublist (List.drop_sublist _ _)⟩, fun a ha b hb => leb_iff.2 ?_⟩
    · have := hd y hy
      have := H.anti y x
      omega
    · rcases List.mem_cons.1 hb with rfl | hb
      · exact htk a ha
      · refine H.trans _ _ _ (htk a ha) ?_
        have := hd b hb
        have := H.anti b x
        omega
end Ord
end Go.Proofs.YtmlcdhblofjpbaaDoor
