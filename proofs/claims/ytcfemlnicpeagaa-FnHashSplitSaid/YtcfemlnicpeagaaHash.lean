/- The bits of a key's hash, the two sides of a level, the level that splits: plain mathematics. -/
import Derived.Test.YtcfemlnicpeagaaMath
namespace Go.Proofs.Ytcfemlnicpeagaa
namespace R

/-- The bit of a key's hash that a level selects. -/
def hb (k l : Int) : Int := if 0 ≤ l ∧ l ≤ 3 ∧ 0 ≤ k ∧ k ≤ 9 then 7 * k % 16 / 2 ^ l.toNat % 2 else 0
theorem hb_out {k l : Int} (h : ¬ (0 ≤ l ∧ l ≤ 3 ∧ 0 ≤ k ∧ k ≤ 9)) : hb k l = 0 := if_neg h
theorem hb_in {k l : Int} (h : 0 ≤ l ∧ l ≤ 3 ∧ 0 ≤ k ∧ k ≤ 9) : hb k l = 7 * k % 16 / 2 ^ l.toNat % 2 := if_pos h
theorem hb_range (k l : Int) : 0 ≤ hb k l ∧ hb k l ≤ 1 := by
  unfold hb
  split <;> omega
theorem hb_fin : ∀ a b : Fin 10, (∀ l : Fin 4, hb (a.val : Int) (l.val : Int) = hb (b.val : Int) (l.val : Int)) → a = b := by decide
/-- Different keys differ at a level. -/
theorem hb_inj {a b : Int} (ha : 0 ≤ a ∧ a ≤ 9) (hb' : 0 ≤ b ∧ b ≤ 9) (h : ∀ l : Nat, l < 4 → hb a l = hb b l) : a = b := by
  obtain ⟨m, rfl⟩ : ∃ m : Nat, a = (m : Int) := ⟨a.toNat, by omega⟩
  obtain ⟨n, rfl⟩ : ∃ n : Nat, b = (n : Int) := ⟨b.toNat, by omega⟩
  have := hb_fin ⟨m, by omega⟩ ⟨n, by omega⟩ fun l => h l.val l.isLt
  have := congrArg Fin.val this
  simp only at this
  omega
/-- The rows whose key has the bit 0; the others. -/
def zs (l : Int) (L : List R) : List R := L.filter fun r => decide (hb r.key l = 0)
def os (l : Int) (L : List R) : List R := L.filter fun r => !decide (hb r.key l = 0)
theorem zs_nil (l : Int) : zs l [] = [] := rfl
theorem os_nil (l : Int) : os l [] = [] := rfl
theorem zs_length (l : Int) (L : List R) : (zs l L).length ≤ L.length := List.length_filter_le _ _
theorem os_length (l : Int) (L : List R) : (os l L).length ≤ L.length := List.length_filter_le _ _
theorem zs_mem {l : Int} {L : List R} {r : R} (h : r ∈ zs l L) : r ∈ L ∧ hb r.key l = 0 := by
  unfold zs at h
  rw [List.mem_filter, decide_eq_true_eq] at h
  exact h
theorem os_mem {l : Int} {L : List R} {r : R} (h : r ∈ os l L) : r ∈ L ∧ hb r.key l ≠ 0 := by
  unfold os at h
  rw [List.mem_filter] at h
  exact ⟨h.1, by simpa using h.2⟩
theorem zs_wf {l : Int} {L : List R} (h : ∀ r ∈ L, r.wf) : ∀ r ∈ zs l L, r.wf := fun r hr => h r (zs_mem hr).1
theorem os_wf {l : Int} {L : List R} (h : ∀ r ∈ L, r.wf) : ∀ r ∈ os l L, r.wf := fun r hr => h r (os_mem hr).1
theorem side_zero {l : Int} {L : List R} {k : Nat} (hk : k < L.length) (h : hb (L.getD k zero).key l = 0) : zs l (L.take (k + 1)) = zs l (L.take k) ++ [L.getD k zero] ∧ os l (L.take (k + 1)) = os l (L.take k) := by
  rw [take_succ hk]
  unfold zs os
  rw [List.filter_append, List.filter_append]
  refine ⟨by rw [List.filter_cons_of_pos (by simpa using h), List.filter_nil], by rw [List.filter_cons_of_neg (by simpa using h), List.filter_nil, List.append_nil]⟩
theorem side_one {l : Int} {L : List R} {k : Nat} (hk : k < L.length) (h : hb (L.getD k zero).key l ≠ 0) : zs l (L.take (k + 1)) = zs l (L.take k) ∧ os l (L.take (k + 1)) = os l (L.take k) ++ [L.getD k zero] := by
  rw [take_succ hk]
  unfold zs os
  rw [List.filter_append, List.filter_append]
  refine ⟨by rw [List.filter_cons_of_neg (by simpa using h), List.filter_nil, List.append_nil], by rw [List.filter_cons_of_pos (by simpa using h), List.filter_nil]⟩
/-- The two sides together are the rows. -/
theorem sides_all (l : Int) (L : List R) : eqBags (zs l L ++ os l L) L = true := eqBags_iff.2 fun r => (List.filter_append_perm _ L).count_eq r
/-- Rows of the two sides differ in their keys. -/
theorem sides_apart {l : Int} {L : List R} {r s : R} (hr : r ∈ zs l L) (hs : s ∈ os l L) : r.key ≠ s.key := fun e => (os_mem hs).2 (by rw [← e]; exact (zs_mem hr).2)
theorem sides_apart_at {l : Int} {L : List R} {i j : Nat} (hi : i < (zs l L).length) (hj : j < (os l L).length) : ((zs l L).getD i zero).key ≠ ((os l L).getD j zero).key := sides_apart (getD_mem hi) (getD_mem hj)
/-- No two rows differ in their keys. -/
def same (L : List R) : Bool := L.all fun r => decide (r.key = (L.getD 0 zero).key)
theorem same_no {L : List R} {k : Nat} (hk : k < L.length) (h : (L.getD k zero).key ≠ (L.getD 0 zero).key) : same L = false := by
  unfold same
  rw [List.all_eq_false]
  exact ⟨_, getD_mem hk, by simpa using h⟩
theorem same_yes {L : List R} (h : ∀ k, k < L.length → (L.getD k zero).key = (L.getD 0 zero).key) : same L = true := by
  unfold same
  rw [List.all_eq_true]
  intro r hr
  obtain ⟨k, hk, rfl⟩ := List.mem_iff_getElem.1 hr
  have := h k hk
  rw [decide_eq_true_eq]
  rwa [show L.getD k zero = L[k] by simp [List.getD, hk]] at this
/-- The level puts rows on both sides. -/
def splits (L : List R) (l : Nat) : Bool := decide (0 < (zs l L).length) && decide (0 < (os l L).length)
theorem splits_iff {L : List R} {l : Nat} : splits L l = true ↔ 0 < (zs l L).length ∧ 0 < (os l L).length := by simp [splits]
/-- The first level that does; 4 where none does. -/
def fsl (L : List R) : Nat := if splits L 0 then 0 else if splits L 1 then 1 else if splits L 2 then 2 else if splits L 3 then 3 else 4
theorem fsl_at {L : List R} {n : Nat} (hn : n < 4) (h : ∀ m, m < n → splits L m = false) (hs : splits L n = true) : fsl L = n := by
  unfold fsl
  match n, hn with
  | 0, _ => rw [if_pos hs]
  | 1, _ => rw [h 0 (by decide), if_neg (by decide), if_pos hs]
  | 2, _ => rw [h 0 (by decide), h 1 (by decide), if_neg (by decide), if_neg (by decide), if_pos hs]
  | 3, _ => rw [h 0 (by decide), h 1 (by decide), h 2 (by decide), if_neg (by decide), if_neg (by decide), if_neg (by decide), if_pos hs]
theorem fsl_none {L : List R} (h : ∀ m, m < 4 → splits L m = false) : fsl L = 4 := by
  unfold fsl
  rw [h 0 (by decide), h 1 (by decide), h 2 (by decide), h 3 (by decide)]
  simp
theorem fsl_four {L : List R} : fsl L = 4 ↔ ∀ m, m < 4 → splits L m = false := by
  constructor
  · intro h m hm
    cases hs : splits L m with
    | false => rfl
    | true =>
      exfalso
      unfold fsl at h
      (repeat' split at h) <;> (try omega)
      rename_i h0 h1 h2 h3
      have : m = 0 ∨ m = 1 ∨ m = 2 ∨ m = 3 := by omega
      rcases this with rfl | rfl | rfl | rfl <;> simp_all
  · exact fsl_none
theorem fsl_le (L : List R) : fsl L ≤ 4 := by
  unfold fsl
  (repeat' split) <;> omega
/-- Valid rows are split by no level only if all have the same key. -/
theorem fsl_same {L : List R} (hk : allOk L = true) : decide (fsl L = 4) = same L := by
  have hok : ∀ r ∈ L, r.ok = true := fun r hr => by
    unfold allOk at hk
    exact List.all_eq_true.1 hk r hr
  rw [Bool.eq_iff_iff, decide_eq_true_eq, fsl_four]
  constructor
  · intro h
    refine same_yes fun k hkl => ?_
    have h0 : 0 < L.length := by omega
    obtain ⟨r, hr⟩ : ∃ r, r = L.getD k zero := ⟨_, rfl⟩
    obtain ⟨s, hs⟩ : ∃ s, s = L.getD 0 zero := ⟨_, rfl⟩
    have hrm : r ∈ L := by rw [hr]; exact getD_mem hkl
    have hsm : s ∈ L := by rw [hs]; exact getD_mem h0
    rw [← hr, ← hs]
    have kr := ok_iff.1 (hok r hrm)
    have ks := ok_iff.1 (hok s hsm)
    refine hb_inj ⟨kr.1, kr.2.1⟩ ⟨ks.1, ks.2.1⟩ fun l hl => ?_
    have hn := h l hl
    have rr := hb_range r.key l
    have rs := hb_range s.key l
    have hmem : ∀ x ∈ L, (hb x.key l = 0 → 0 < (zs l L).length) ∧ (hb x.key l ≠ 0 → 0 < (os l L).length) := fun x hx =>
      ⟨fun e => List.length_pos_of_mem (a := x) (by unfold zs; rw [List.mem_filter]; exact ⟨hx, by simpa using e⟩), fun e => List.length_pos_of_mem (a := x) (by unfold os; rw [List.mem_filter]; exact ⟨hx, by simpa using e⟩)⟩
    have hno : ¬ (0 < (zs l L).length ∧ 0 < (os l L).length) := fun hc => by rw [splits_iff.2 hc] at hn; cases hn
    by_cases e1 : hb r.key l = 0
    · by_cases e2 : hb s.key l = 0
      · rw [e1, e2]
      · exact absurd ⟨(hmem r hrm).1 e1, (hmem s hsm).2 e2⟩ hno
    · by_cases e2 : hb s.key l = 0
      · exact absurd ⟨(hmem s hsm).1 e2, (hmem r hrm).2 e1⟩ hno
      · omega
  · intro h m _
    cases hs : splits L m with
    | false => rfl
    | true =>
      exfalso
      obtain ⟨h1, h2⟩ := splits_iff.1 hs
      have hz := getD_mem h1
      have ho := getD_mem h2
      have hall : ∀ r ∈ L, r.key = (L.getD 0 zero).key := fun r hr => by
        unfold same at h
        simpa using List.all_eq_true.1 h r hr
      exact sides_apart hz ho ((hall _ (zs_mem hz).1).trans (hall _ (os_mem ho).1).symm)
end R
end Go.Proofs.Ytcfemlnicpeagaa
