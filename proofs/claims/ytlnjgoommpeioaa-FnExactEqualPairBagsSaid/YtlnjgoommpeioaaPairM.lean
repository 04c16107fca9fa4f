/- Pairs of rows as plain mathematics: the matches of a row, the joins, the order of pairs; no function of program or reference is walked here. -/
import Derived.Test.YtlnjgoommpeioaaTPair
import Derived.Test.YtlnjgoommpeioaaTRow
import Derived.Test.YtlnjgoommpeioaaVMk
import Derived.Test.YtlnjgoommpeioaaMath
import Derived.Test.YtlnjgoommpeioaaOrd
namespace Go.Proofs.Ytlnjgoommpeioaa
open Go.RowKit
set_option linter.unusedVariables false
namespace PairD
def alone (r : R) : PairD := ⟨r, ⟨0, 0, 0⟩, false⟩
def both (r s : R) : PairD := ⟨r, s, true⟩
/-- The rows of B with the row's key. -/
def hits (r : R) (B : List R) : List R := B.filter fun s => s.key == r.key
def hit (r : R) (B : List R) : Nat := (hits r B).length
/-- What a join of kind k gives for one row. -/
def one (k : Int) (r : R) (B : List R) : List PairD :=
  if k = 2 then (if 0 < hit r B then [alone r] else []) else if k = 3 then (if hit r B = 0 then [alone r] else []) else (hits r B).map (both r) ++ (if hit r B = 0 ∧ k = 4 then [alone r] else [])
def valid (k : Int) : Bool := decide (1 ≤ k ∧ k ≤ 4)
def pays (k : Int) : Bool := decide (k = 1 ∨ k = 4)
def alones (k : Int) (b : Bool) : Bool := if k = 2 then b else if k = 3 ∨ k = 4 then !b else false
def join (k : Int) (A B : List R) : List PairD := if valid k = true then A.flatMap fun r => one k r B else []
theorem hits_nil (r : R) : hits r [] = [] := rfl
theorem hits_next (r : R) (B : List R) (t : Nat) (h : t < B.length) : hits r (B.take (t + 1)) = hits r (B.take t) ++ (if B[t].key == r.key then [B[t]] else []) := by
  unfold hits
  rw [List.take_succ_eq_append_getElem h, List.filter_append]
  congr 1
  by_cases hk : (B[t].key == r.key) = true
  · simp [hk]
  · simp [hk]
theorem hits_yes {r : R} {B : List R} {t : Nat} (h : t < B.length) (hk : (B[t].key == r.key) = true) : hits r (B.take (t + 1)) = hits r (B.take t) ++ [B[t]] := by rw [hits_next r B t h, if_pos hk]
theorem hits_no {r : R} {B : List R} {t : Nat} (h : t < B.length) (hk : (B[t].key == r.key) = false) : hits r (B.take (t + 1)) = hits r (B.take t) := by rw [hits_next r B t h, if_neg (by simp [hk]), List.append_nil]
theorem hit_yes {r : R} {B : List R} {t : Nat} (h : t < B.length) (hk : (B[t].key == r.key) = true) : hit r (B.take (t + 1)) = hit r (B.take t) + 1 := by unfold hit; rw [hits_yes h hk]; simp
theorem hit_no {r : R} {B : List R} {t : Nat} (h : t < B.length) (hk : (B[t].key == r.key) = false) : hit r (B.take (t + 1)) = hit r (B.take t) := by unfold hit; rw [hits_no h hk]
theorem hit_le (r : R) (B : List R) : hit r B ≤ B.length := List.length_filter_le _ _
theorem hit_take {r : R} {B : List R} {t : Nat} (h : ¬ t < B.length) : hit r (B.take t) = hit r B := by rw [List.take_of_length_le (by omega)]
/-- What a kind pays for a row: its matches, the row alone. -/
theorem one_by {k : Int} {r : R} {B : List R} (hv : valid k = true) (p q : Bool) (hp : pays k = p) (hq : alones k (decide (0 < (hit r B : Int))) = q) : one k r B = (if p then (hits r B).map (both r) else []) ++ (if q then [alone r] else []) := by
  subst hp hq
  have hv' : 1 ≤ k ∧ k ≤ 4 := by simpa [valid] using hv
  have h4 : k = 1 ∨ k = 2 ∨ k = 3 ∨ k = 4 := by omega
  rcases Nat.eq_zero_or_pos (hit r B) with h0 | h0
  · rcases h4 with rfl | rfl | rfl | rfl <;> simp [one, pays, alones, h0]
  · have h1 : hit r B ≠ 0 := by omega
    rcases h4 with rfl | rfl | rfl | rfl <;> simp [one, pays, alones, h0, h1]
theorem one_len (k : Int) (r : R) (B : List R) : (one k r B).length ≤ B.length + 1 := by
  have h := hit_le r B
  unfold one
  split
  · split <;> simp
  · split
    · split <;> simp
    · rw [List.length_append, List.length_map]
      have : (if hit r B = 0 ∧ k = 4 then [alone r] else []).length ≤ 1 := by split <;> simp
      show hit r B + _ ≤ _
      omega
theorem flat_len {α β : Type} (f : α → List β) (m : Nat) (h : ∀ a, (f a).length ≤ m) : ∀ (A : List α), (A.flatMap f).length ≤ A.length * m
  | [] => by simp
  | a :: A => by
    have := flat_len f m h A
    have h1 := h a
    rw [List.flatMap_cons, List.length_append, List.length_cons, Nat.add_mul, Nat.one_mul]
    omega
theorem flat_next {α β : Type} (f : α → List β) (A : List α) (t : Nat) (h : t < A.length) : (A.take (t + 1)).flatMap f = (A.take t).flatMap f ++ f A[t] := by
  rw [List.take_succ_eq_append_getElem h, List.flatMap_append]; simp
theorem quad (x y : Nat) (h : x + y ≤ 1048577) : x * y ≤ 274878431232 := by
  have key : ∀ a d : Nat, 4 * (a * (a + d)) ≤ (a + (a + d)) * (a + (a + d)) := fun a d => by
    have e1 : (a + (a + d)) * (a + (a + d)) = 4 * (a * a) + 4 * (a * d) + d * d := by
      simp only [Nat.mul_add, Nat.add_mul, Nat.mul_comm d a]
      omega
    rw [e1, Nat.mul_add]
    omega
  have h4 : 4 * (x * y) ≤ (x + y) * (x + y) := by
    rcases Nat.le_total x y with hl | hl
    · obtain ⟨d, rfl⟩ := Nat.exists_eq_add_of_le hl
      exact key x d
    · obtain ⟨d, rfl⟩ := Nat.exists_eq_add_of_le hl
      have := key y d
      rw [Nat.mul_comm (y + d) y, Nat.add_comm (y + d) y]
      exact this
  have h5 : (x + y) * (x + y) ≤ 1048577 * 1048577 := Nat.mul_le_mul h h
  omega
theorem join_take_len (k : Int) (A B : List R) (h : A.length + B.length ≤ 1048576) (t : Nat) (ht : t ≤ A.length) : ((A.take t).flatMap fun r => one k r B).length ≤ 274878431232 := by
  have h1 := flat_len (fun r => one k r B) (B.length + 1) (fun r => one_len k r B) (A.take t)
  have h2 := quad A.length (B.length + 1) (by omega)
  have h3 : (A.take t).length * (B.length + 1) ≤ A.length * (B.length + 1) := Nat.mul_le_mul_right _ (by simp; omega)
  omega
theorem join_len (k : Int) (A B : List R) (h : A.length + B.length ≤ 1048576) : (join k A B).length ≤ 274878431232 := by
  unfold join
  split
  · have := join_take_len k A B h A.length (Nat.le_refl _)
    rwa [List.take_length] at this
  · simp
theorem wt_len (X : List PairD) : wtPairs X = X.length := by
  exact wtAll_zero wtPair (fun _ => rfl) X
/-- The order of pairs. -/
def cmp (x y : PairD) : Int := if R.cmp x.fLeft y.fLeft ≠ 0 then R.cmp x.fLeft y.fLeft else if x.fMatched ≠ y.fMatched then (if y.fMatched then -1 else 1) else R.cmp x.fRight y.fRight
def cb (a b : Bool) : Int := if a = b then 0 else if b then -1 else 1
def ofB (b : Bool) : Int := if b then 1 else 0
theorem cmp_le (x y : PairD) : cmp x y ≤ 0 ↔ R.cmp x.fLeft y.fLeft < 0 ∨ R.cmp x.fLeft y.fLeft = 0 ∧ (ofB x.fMatched < ofB y.fMatched ∨ x.fMatched = y.fMatched ∧ R.cmp x.fRight y.fRight ≤ 0) := by
  unfold cmp ofB
  by_cases h : R.cmp x.fLeft y.fLeft = 0
  · rw [if_neg (by simpa using h)]
    cases x.fMatched <;> cases y.fMatched <;> simp [h]
  · rw [if_pos h]
    omega
theorem cmp_zero (x y : PairD) : cmp x y = 0 ↔ x = y := by
  obtain ⟨a, b, c⟩ := x
  obtain ⟨a', b', c'⟩ := y
  unfold cmp
  have h1 := R.cmp_zero a a'
  have h2 := R.cmp_zero b b'
  simp only [PairD.mk.injEq]
  by_cases h : R.cmp a a' = 0
  · rw [if_neg (by simpa using h)]
    cases c <;> cases c' <;> simp [h1.1 h, h2]
  · rw [if_pos h]
    constructor
    · intro h'; exact absurd h' h
    · rintro ⟨rfl, -⟩; exact absurd (h1.2 rfl) h
theorem cmp_anti (x y : PairD) : cmp y x = - cmp x y := by
  obtain ⟨a, b, c⟩ := x
  obtain ⟨a', b', c'⟩ := y
  unfold cmp
  have h1 := R.cmp_anti a a'
  have h2 := R.cmp_anti b b'
  simp only
  by_cases h : R.cmp a a' = 0
  · have e1 : R.cmp a' a = 0 := by omega
    cases c <;> cases c' <;> simp [h, e1, h2]
  · rw [if_pos (by omega), if_pos h]
    exact h1
theorem cmp_trans {x y z : PairD} (h : cmp x y ≤ 0) (h' : cmp y z ≤ 0) : cmp x z ≤ 0 := by
  rw [cmp_le] at h h' ⊢
  have t1 := @R.cmp_trans x.fLeft y.fLeft z.fLeft
  have t2 := @R.cmp_trans z.fLeft x.fLeft y.fLeft
  have t3 := @R.cmp_trans y.fLeft z.fLeft x.fLeft
  have t4 := @R.cmp_trans x.fRight y.fRight z.fRight
  have a1 := R.cmp_anti x.fLeft y.fLeft
  have a2 := R.cmp_anti y.fLeft z.fLeft
  have a3 := R.cmp_anti x.fLeft z.fLeft
  have hb : ∀ a b : Bool, a = b ↔ ofB a = ofB b := by intro a b; cases a <;> cases b <;> simp [ofB]
  simp only [hb] at h h' ⊢
  by_cases e : R.cmp x.fLeft z.fLeft < 0
  · exact .inl e
  · have h0 : R.cmp x.fLeft z.fLeft = 0 := by
      have := t1 (by omega) (by omega)
      omega
    have hx : R.cmp x.fLeft y.fLeft = 0 ∧ R.cmp y.fLeft z.fLeft = 0 := by
      have e1 := t2 (by omega) (by omega)
      have e2 := t3 (by omega) (by omega)
      omega
    refine .inr ⟨h0, ?_⟩
    rcases h with h | ⟨-, h | ⟨h, k⟩⟩
    · omega
    · rcases h' with h' | ⟨-, h' | ⟨h', k'⟩⟩ <;> omega
    · rcases h' with h' | ⟨-, h' | ⟨h', k'⟩⟩
      · omega
      · omega
      · exact .inr ⟨by omega, t4 k k'⟩
theorem cmp_total (x y : PairD) : cmp x y ≤ 0 ∨ cmp y x ≤ 0 := by
  have := cmp_anti x y
  omega
theorem ord : IsOrd cmp := ⟨cmp_zero, cmp_anti, fun _ _ _ => cmp_trans⟩
end PairD
end Go.Proofs.Ytlnjgoommpeioaa
