/- Plain mathematics of multisets of rows: the order, sorting, counting, difference, distinct rows; no program. -/
import Derived.Test.YtoiobaiiammehaaDoorRow
namespace Go.Proofs.YtoiobaiiammehaaDoor
open Go.Lib

namespace R
theorem cmp_le (a b : R) : cmp a b ≤ 0 ↔ a.key < b.key ∨ a.key = b.key ∧ (a.value < b.value ∨ a.value = b.value ∧ a.width ≤ b.width) := by
  unfold cmp
  (repeat' split) <;> omega
theorem cmp_anti (a b : R) : cmp b a = - cmp a b := by
  unfold cmp
  (repeat' split) <;> first | rfl | omega
theorem cmp_zero (a b : R) : cmp a b = 0 ↔ a = b := by
  constructor
  · intro h
    have h1 := (cmp_le a b).1 (by omega)
    have h2 := (cmp_le b a).1 (by have := cmp_anti a b; omega)
    have e1 : a.key = b.key := by omega
    have e2 : a.value = b.value := by omega
    have e3 : a.width = b.width := by omega
    obtain ⟨a1, a2, a3⟩ := a
    obtain ⟨b1, b2, b3⟩ := b
    simp only at e1 e2 e3
    subst e1 e2 e3
    rfl
  · rintro rfl
    unfold cmp
    simp
theorem cmp_trans {a b c : R} (h : cmp a b ≤ 0) (h' : cmp b c ≤ 0) : cmp a c ≤ 0 := by
  rw [cmp_le] at *
  omega
theorem cmp_total (a b : R) : cmp a b ≤ 0 ∨ cmp b a ≤ 0 := by
  have := cmp_anti a b
  omega
/-- The order as a Bool. -/
def leb (a b : R) : Bool := decide (cmp a b ≤ 0)
theorem leb_iff {a b : R} : leb a b = true ↔ cmp a b ≤ 0 := by simp [leb]
def sort (L : List R) : List R := L.mergeSort leb
theorem sort_perm (L : List R) : (sort L).Perm L := List.mergeSort_perm L _
theorem sort_asc (L : List R) : (sort L).Pairwise fun a b => leb a b = true :=
  List.pairwise_mergeSort (le := leb) (fun a b c h h' => leb_iff.2 (cmp_trans (leb_iff.1 h) (leb_iff.1 h'))) (fun a b => by
    rcases cmp_total a b with h | h
    · simp [leb_iff.2 h]
    · simp [leb_iff.2 h]) L
/-- There is one sorted permutation. -/
theorem sort_unique {M L : List R} (hp : M.Perm L) (hs : M.Pairwise fun a b => leb a b = true) : M = sort L :=
  List.Perm.eq_of_pairwise (fun a b _ _ h h' => (cmp_zero a b).1 (by have h1 := leb_iff.1 h; have h2 := leb_iff.1 h'; have := cmp_anti a b; omega)) hs (sort_asc L) (hp.trans (sort_perm L).symm)
theorem sort_eq {M L : List R} (hp : M.Perm L) : sort M = sort L := sort_unique ((sort_perm M).trans hp) (sort_asc M)
theorem sort_sort (L : List R) : sort (sort L) = sort L := sort_eq (sort_perm L)
theorem sort_length (L : List R) : (sort L).length = L.length := (sort_perm L).length_eq
theorem sort_nil : sort [] = [] := List.eq_nil_of_length_eq_zero (sort_length [])
theorem sort_wf {L : List R} (h : ∀ r ∈ L, r.wf) : ∀ r ∈ sort L, r.wf := fun r hr => h r ((sort_perm L).mem_iff.1 hr)
theorem getD_mem {L : List R} {t : Nat} (h : t < L.length) : L.getD t zero ∈ L := by
  have : L.getD t zero = L[t] := by simp [List.getD, h]
  rw [this]; exact List.getElem_mem h
/-- One more row, at its place. -/
theorem sort_insert {L : List R} {i k : Nat} (hi : i < L.length) (hk : k ≤ i) (hlow : k = 0 ∨ cmp ((sort (L.take i)).getD (k - 1) zero) (L.getD i zero) ≤ 0) (hup : ∀ t, k ≤ t → t < i → 0 < cmp ((sort (L.take i)).getD t zero) (L.getD i zero)) :
    (sort (L.take i)).take k ++ (L.getD i zero :: (sort (L.take i)).drop k) = sort (L.take (i + 1)) := by
  have hlen : (sort (L.take i)).length = i := by rw [sort_length, List.length_take]; omega
  have hsnoc : L.take (i + 1) = L.take i ++ [L.getD i zero] := by
    rw [List.take_succ_eq_append_getElem hi]
    simp [List.getD, hi]
  apply sort_unique
  · rw [hsnoc]
    refine List.perm_middle.trans ?_
    rw [List.take_append_drop]
    exact ((List.Perm.cons _ (sort_perm _))).trans (List.perm_append_singleton _ _).symm
  · have hs := sort_asc (L.take i)
    have hd : ∀ x ∈ (sort (L.take i)).drop k, 0 < cmp x (L.getD i zero) := by
      intro x hx
      obtain ⟨t, ht, rfl⟩ := List.mem_iff_getElem.1 hx
      rw [List.length_drop, hlen] at ht
      have := hup (k + t) (by omega) (by omega)
      rw [List.getElem_drop]
      rwa [List.getD, List.getElem?_eq_getElem (by omega)] at this
    have htk : ∀ x ∈ (sort (L.take i)).take k, cmp x (L.getD i zero) ≤ 0 := by
      rcases hlow with rfl | hlow
      · intro x hx; simp at hx
      · intro x hx
        obtain ⟨t, ht, rfl⟩ := List.mem_iff_getElem.1 hx
        rw [List.length_take, hlen] at ht
        rw [List.getElem_take]
        rw [List.getD, List.getElem?_eq_getElem (by omega)] at hlow
        rcases Nat.lt_or_ge t (k - 1) with h | h
        · exact cmp_trans (leb_iff.1 (List.pairwise_iff_getElem.1 hs t (k - 1) (by omega) (by omega) h)) hlow
        · have : t = k - 1 := by omega
          subst this
          exact hlow
    rw [List.pairwise_append, List.pairwise_cons]
    refine ⟨hs.sublist (List.take_sublist _ _), ⟨fun x hx => leb_iff.2 ?_, hs.sublist (List.drop_sublist _ _)⟩, fun a ha b hb => leb_iff.2 ?_⟩
    · have := hd x hx
      have := cmp_anti x (L.getD i zero)
      omega
    · rcases List.mem_cons.1 hb with rfl | hb
      · exact htk a ha
      · refine cmp_trans (htk a ha) ?_
        have := hd b hb
        have := cmp_anti b (L.getD i zero)
        omega
/-- In ascending order. -/
def asc : List R → Bool
  | a :: b :: l => leb a b && asc (b :: l)
  | _ => true
theorem asc_iff : ∀ {L : List R}, asc L = true ↔ ∀ t, t + 1 < L.length → cmp (L.getD t zero) (L.getD (t + 1) zero) ≤ 0
  | [] => by simp [asc]
  | [a] => by simp [asc]
  | a :: b :: l => by
    rw [asc, Bool.and_eq_true, asc_iff, leb_iff]
    constructor
    · rintro ⟨h, h'⟩ t ht
      cases t with
      | zero => exact h
      | succ t => exact h' t (by simpa using ht)
    · intro h
      exact ⟨h 0 (by simp), fun t ht => h (t + 1) (by simpa using ht)⟩
theorem asc_bad {L : List R} (t : Nat) (ht : t + 1 < L.length) (h : 0 < cmp (L.getD t zero) (L.getD (t + 1) zero)) : asc L = false := by
  cases ha : asc L with
  | false => rfl
  | true => have := asc_iff.1 ha t ht; omega
theorem asc_pairwise : ∀ {L : List R}, asc L = true ↔ L.Pairwise fun a b => leb a b = true
  | [] => by simp [asc]
  | [a] => by simp [asc]
  | a :: b :: l => by
    rw [asc, Bool.and_eq_true, asc_pairwise, List.pairwise_cons (a := a)]
    constructor
    · rintro ⟨h, h'⟩
      refine ⟨fun x hx => ?_, h'⟩
      rcases List.mem_cons.1 hx with rfl | hx
      · exact h
      · exact leb_iff.2 (cmp_trans (leb_iff.1 h) (leb_iff.1 ((List.pairwise_cons.1 h').1 x hx)))
    · rintro ⟨h, h'⟩
      exact ⟨h b (by simp), h'⟩
theorem asc_sort (L : List R) : asc (sort L) = true := asc_pairwise.2 (sort_asc L)
/-- Equal as multisets. -/
def eqBags (a b : List R) : Bool := decide (sort a = sort b)
theorem eqBags_iff {a b : List R} : eqBags a b = true ↔ ∀ r, a.count r = b.count r := by
  unfold eqBags
  rw [decide_eq_true_iff, ← List.perm_iff_count]
  exact ⟨fun h => (sort_perm a).symm.trans (h ▸ sort_perm b), sort_eq⟩
theorem eqBags_sort (a : List R) : eqBags (sort a) a = true := eqBags_iff.2 fun r => (sort_perm a).count_eq r
theorem take_succ {L : List R} {k : Nat} (hk : k < L.length) : L.take (k + 1) = L.take k ++ [L.getD k zero] := by
  rw [List.take_succ_eq_append_getElem hk]
  simp [List.getD, hk]
theorem count_take {L : List R} {k : Nat} (hk : k < L.length) (r : R) : (L.take (k + 1)).count r = (L.take k).count r + if L.getD k zero = r then 1 else 0 := by
  rw [take_succ hk, List.count_append, List.count_singleton]
  simp
theorem count_le_length (L : List R) (r : R) : L.count r ≤ L.length := List.count_le_length
/-- What is left of x behind b's rows, behind k of x's rows. -/
def difTo (x b : List R) : Nat → List R
  | 0 => []
  | k + 1 => if b.count (x.getD k zero) < (x.take (k + 1)).count (x.getD k zero) then difTo x b k ++ [x.getD k zero] else difTo x b k
def dif (a b : List R) : List R := difTo (sort a) b (sort a).length
theorem difTo_count {x b : List R} : ∀ {k : Nat}, k ≤ x.length → ∀ r, (difTo x b k).count r = (x.take k).count r - b.count r
  | 0, _, r => by simp [difTo]
  | k + 1, hk, r => by
    have ih := difTo_count (b := b) (show k ≤ x.length by omega) r
    have hc := count_take (show k < x.length by omega) r
    unfold difTo
    by_cases he : x.getD k zero = r
    · rw [if_pos he] at hc
      split
      · rename_i hlt
        rw [he] at hlt ⊢
        rw [List.count_append, ih]
        simp
        omega
      · rename_i hge
        rw [he] at hge
        rw [ih]
        omega
    · rw [if_neg he] at hc
      split
      · rw [List.count_append, ih, List.count_singleton, hc, if_neg (by simpa using he)]
        omega
      · rw [ih, hc]; simp
theorem dif_count (a b : List R) (r : R) : (dif a b).count r = a.count r - b.count r := by
  unfold dif
  rw [difTo_count (Nat.le_refl _), List.take_length, (sort_perm a).count_eq]
theorem difTo_mem {x b : List R} : ∀ {k : Nat}, k ≤ x.length → ∀ r ∈ difTo x b k, r ∈ x
  | 0, _, r, h => by simp [difTo] at h
  | k + 1, hk, r, h => by
    unfold difTo at h
    split at h
    · rcases List.mem_append.1 h with h | h
      · exact difTo_mem (by omega) r h
      · rw [List.mem_singleton.1 h]; exact getD_mem (by omega)
    · exact difTo_mem (by omega) r h
theorem difTo_length {x b : List R} : ∀ {k : Nat}, (difTo x b k).length ≤ k
  | 0 => by simp [difTo]
  | k + 1 => by
    have := difTo_length (x := x) (b := b) (k := k)
    unfold difTo
    split
    · simp; omega
    · omega
theorem dif_wf {a b : List R} (h : ∀ r ∈ a, r.wf) : ∀ r ∈ dif a b, r.wf := fun r hr => sort_wf h r (difTo_mem (Nat.le_refl _) r hr)
theorem dif_length (a b : List R) : (dif a b).length ≤ a.length := by
  have := difTo_length (x := sort a) (b := b) (k := (sort a).length)
  rw [sort_length] at this
  unfold dif
  rw [sort_length]
  exact this
theorem dif_nil_iff {a b : List R} : (dif a b).length = 0 ↔ ∀ r, a.count r ≤ b.count r := by
  rw [List.length_eq_zero_iff]
  constructor
  · intro h r
    have := dif_count a b r
    rw [h, List.count_nil] at this
    omega
  · intro h
    rw [List.eq_nil_iff_forall_not_mem]
    intro r hr
    have h1 := List.count_pos_iff.2 hr
    have := dif_count a b r
    have := h r
    omega
theorem eqBags_dif (a b : List R) : eqBags a b = (decide ((dif a b).length = 0) && decide ((dif b a).length = 0)) := by
  rw [Bool.eq_iff_iff, Bool.and_eq_true, decide_eq_true_iff, decide_eq_true_iff, eqBags_iff, dif_nil_iff, dif_nil_iff]
  exact ⟨fun h => ⟨fun r => by rw [h r]; exact Nat.le_refl _, fun r => by rw [h r]; exact Nat.le_refl _⟩, fun h r => Nat.le_antisymm (h.1 r) (h.2 r)⟩
theorem dif_balance (a b : List R) : (a.length : Int) - (dif a b).length = b.length - (dif b a).length := by
  have hp : (a ++ dif b a).Perm (b ++ dif a b) := List.perm_iff_count.2 fun r => by
    rw [List.count_append, List.count_append, dif_count, dif_count]
    omega
  have := hp.length_eq
  simp only [List.length_append] at this
  omega
/-- Each row once, behind k of x's rows. -/
def distTo (x : List R) : Nat → List R
  | 0 => []
  | k + 1 => if k = 0 ∨ x.getD k zero ≠ x.getD (k - 1) zero then distTo x k ++ [x.getD k zero] else distTo x k
def dist (L : List R) : List R := distTo (sort L) (sort L).length
theorem distTo_length {x : List R} : ∀ {k : Nat}, (distTo x k).length ≤ k
  | 0 => by simp [distTo]
  | k + 1 => by
    have := distTo_length (x := x) (k := k)
    unfold distTo
    split
    · simp; omega
    · omega
theorem distTo_mem {x : List R} : ∀ {k : Nat}, k ≤ x.length → ∀ r, r ∈ distTo x k ↔ r ∈ x.take k
  | 0, _, r => by simp [distTo]
  | k + 1, hk, r => by
    have ih := distTo_mem (show k ≤ x.length by omega) r
    unfold distTo
    rw [take_succ (show k < x.length by omega)]
    split
    · rw [List.mem_append, List.mem_append, ih]
    · rename_i h
      rw [ih, List.mem_append, List.mem_singleton]
      refine ⟨.inl, ?_⟩
      rintro (h' | rfl)
      · exact h'
      · have h0 : k ≠ 0 := fun e => h (.inl e)
        have he : x.getD k zero = x.getD (k - 1) zero := Classical.byContradiction fun e => h (.inr e)
        rw [he]
        have hlt : k - 1 < (x.take k).length := by rw [List.length_take]; omega
        have : x.getD (k - 1) zero = (x.take k).getD (k - 1) zero := by simp [List.getD, List.getElem?_take]; rw [if_pos (by omega)]
        rw [this]
        exact getD_mem hlt
theorem distTo_once {x : List R} (hs : x.Pairwise fun a b => leb a b = true) : ∀ {k : Nat}, k ≤ x.length → ∀ r, (distTo x k).count r ≤ 1
  | 0, _, r => by simp [distTo]
  | k + 1, hk, r => by
    have ih := distTo_once hs (show k ≤ x.length by omega) r
    unfold distTo
    split
    · rename_i h
      rw [List.count_append, List.count_singleton]
      by_cases he : x.getD k zero = r
      · have hz : (distTo x k).count r = 0 := by
          rw [List.count_eq_zero]
          intro hm
          rw [distTo_mem (by omega)] at hm
          obtain ⟨t, ht, htr⟩ := List.mem_iff_getElem.1 hm
          rw [List.length_take] at ht
          rw [List.getElem_take] at htr
          have hk0 : k ≠ 0 := by omega
          have hne : x.getD k zero ≠ x.getD (k - 1) zero := by
            rcases h with h | h
            · exact absurd h hk0
            · exact h
          have e1 : x.getD k zero = x[k] := by simp [List.getD, show k < x.length by omega]
          have e2 : x.getD (k - 1) zero = x[k - 1] := by simp [List.getD, show k - 1 < x.length by omega]
          rw [e1, e2] at hne
          rw [e1] at he
          apply hne
          have h1 := leb_iff.1 (List.pairwise_iff_getElem.1 hs (k - 1) k (by omega) (by omega) (by omega))
          have h2 : cmp x[k] x[k - 1] ≤ 0 := by
            rcases Nat.lt_or_ge t (k - 1) with h | h
            · have := leb_iff.1 (List.pairwise_iff_getElem.1 hs t (k - 1) (by omega) (by omega) h)
              rw [htr, ← he] at this
              exact this
            · have : t = k - 1 := by omega
              subst this
              rw [htr, he, (cmp_zero r r).2 rfl]
              exact Int.le_refl _
          have := cmp_anti x[k] x[k - 1]
          exact (cmp_zero _ _).1 (by omega)
        rw [hz, he]
        simp
      · rw [if_neg (by simpa using he)]; exact ih
    · exact ih
theorem dist_mem {L : List R} {r : R} : r ∈ dist L ↔ r ∈ L := by
  unfold dist
  rw [distTo_mem (Nat.le_refl _), List.take_length, (sort_perm L).mem_iff]
theorem dist_once {L : List R} {r : R} (h : r ∈ dist L) : (dist L).count r = 1 := by
  have h1 := distTo_once (sort_asc L) (Nat.le_refl _) r
  have h2 := List.count_pos_iff.2 h
  unfold dist at h2 ⊢
  omega
theorem dist_wf {L : List R} (h : ∀ r ∈ L, r.wf) : ∀ r ∈ dist L, r.wf := fun r hr => h r (dist_mem.1 hr)
theorem dist_length (L : List R) : (dist L).length ≤ L.length := by
  have := distTo_length (x := sort L) (k := (sort L).length)
  rw [sort_length] at this
  unfold dist
  rw [sort_length]
  exact this
end R
end Go.Proofs.YtoiobaiiammehaaDoor
