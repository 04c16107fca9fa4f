/- Plain mathematics of decimal numerals: what a loop that takes digit after digit from the right has written; no program. -/
import Derived.Lib.ItoaNum
import Derived.Lib.ItoaLen
import Derived.Lib.Atoi
import Derived.Lib.Strings
namespace Go.Proofs.YtoiobaiiammehaaDoor.Dec
open Go.Lib

/-- The digits of u, none for 0. -/
def dd (u : Nat) : List UInt8 := if u = 0 then [] else decDigits u
theorem dd_zero : dd 0 = [] := rfl
theorem dd_step (u : Nat) (h : 0 < u) : dd u = dd (u / 10) ++ [UInt8.ofNat (48 + u % 10)] := by
  unfold dd
  rw [if_neg (by omega), decDigits]
  split
  · rename_i h1
    rw [if_pos (by omega), show u % 10 = u by omega]; rfl
  · rename_i h1
    rw [if_neg (by omega)]
theorem dd_pos (u : Nat) (h : 0 < u) : dd u = decDigits u := by unfold dd; rw [if_neg (by omega)]
theorem itoa_zero : itoa 0 = [48] := by unfold itoa; rw [if_neg (by omega)]; exact decDigits_one (i := 0) (by omega)
theorem itoa_pos (n : Int) (h : 0 < n) : itoa n = dd n.toNat := by unfold itoa; rw [if_neg (by omega), dd_pos _ (by omega)]
theorem itoa_neg (n : Int) (h : n < 0) : itoa n = 45 :: dd n.natAbs := by unfold itoa; rw [if_pos h, dd_pos _ (by omega)]
theorem dd_length_le (u : Nat) (h : u < 18446744073709551616) : (dd u).length ≤ 20 := by
  unfold dd
  split
  · simp
  · rw [decDigits_length]; exact nDigits_le20 u h

/-! ### Reading a numeral -/
theorem digit_toNat (d : Nat) (h : d < 10) : (UInt8.ofNat (48 + d)).toNat = 48 + d := by rw [UInt8.toNat_ofNat']; omega
theorem digitVal_digit (d : Nat) (h : d < 10) : digitVal (UInt8.ofNat (48 + d)) = some d := by
  unfold digitVal; rw [digit_toNat d h, if_pos (by omega)]; congr 1; omega
theorem decFrom_snoc : ∀ (l : List UInt8) (acc n d : Nat) (b : UInt8), decFrom acc l = some n → digitVal b = some d → decFrom acc (l ++ [b]) = some (n * 10 + d)
  | [], acc, n, d, b, h, hb => by
    simp only [decFrom, Option.some.injEq] at h
    subst h
    simp [decFrom, hb]
  | c :: l, acc, n, d, b, h, hb => by
    rw [List.cons_append]
    unfold decFrom at h ⊢
    cases hc : digitVal c with
    | none => rw [hc] at h; cases h
    | some x => rw [hc] at h; exact decFrom_snoc l _ n d b h hb
theorem decFrom_digits (u : Nat) : decFrom 0 (decDigits u) = some u := by
  induction u using Nat.strongRecOn with
  | ind u ih =>
    rw [decDigits]
    split
    · rename_i h
      unfold decFrom
      rw [digitVal_digit u h]
      simp [decFrom]
    · rename_i h
      rw [decFrom_snoc _ 0 (u / 10) (u % 10) _ (ih (u / 10) (by omega)) (digitVal_digit _ (by omega))]
      congr 1; omega
theorem decDigits_ne (u : Nat) : decDigits u ≠ [] := fun h => by
  have := decDigits_length u
  rw [h] at this
  have := nDigits_pos u
  simp at *; omega
theorem decNat_digits (u : Nat) : decNat (decDigits u) = some u := by
  unfold decNat
  have : (decDigits u).isEmpty = false := by
    cases h : decDigits u with
    | nil => exact absurd h (decDigits_ne u)
    | cons _ _ => rfl
  rw [this]; exact decFrom_digits u
/-- Every byte of a numeral is a digit. -/
theorem digits_all (u : Nat) : ∀ b ∈ decDigits u, 48 ≤ b.toNat ∧ b.toNat ≤ 57 := by
  induction u using Nat.strongRecOn with
  | ind u ih =>
    intro b hb
    rw [decDigits] at hb
    split at hb
    · rename_i h
      simp only [List.mem_singleton] at hb
      subst hb; rw [digit_toNat u h]; omega
    · rename_i h
      rcases List.mem_append.1 hb with hb | hb
      · exact ih (u / 10) (by omega) b hb
      · simp only [List.mem_singleton] at hb
        subst hb; rw [digit_toNat _ (by omega)]; omega
theorem atoi_itoa (n : Int) : atoi (itoa n) = some n := by
  unfold itoa
  split
  · rename_i h
    simp only [atoi]
    rw [if_pos (by decide), decNat_digits]
    simp; omega
  · rename_i h
    cases hd : decDigits n.toNat with
    | nil => exact absurd hd (decDigits_ne _)
    | cons b r =>
      have hb := digits_all n.toNat b (by rw [hd]; exact List.mem_cons_self ..)
      have h1 : (b == 45) = false := by rw [beq_eq_false_iff_ne]; rintro rfl; revert hb; decide
      have h2 : (b == 43) = false := by rw [beq_eq_false_iff_ne]; rintro rfl; revert hb; decide
      simp only [atoi, h1, h2, Bool.false_eq_true, if_false]
      rw [← hd, decNat_digits]
      simp; omega
/-- The number whose numeral l is, if it has at most nine digits. -/
def parse (l : List UInt8) : Option Int := (atoi l).bind fun n => if itoa n = l ∧ -999999999 ≤ n ∧ n ≤ 999999999 then some n else none
theorem parse_some {l : List UInt8} {n : Int} (h : itoa n = l) (h1 : -999999999 ≤ n) (h2 : n ≤ 999999999) : parse l = some n := by
  unfold parse; rw [← h, atoi_itoa]; simp [h1, h2]
theorem parse_inv {l : List UInt8} {n : Int} (h : parse l = some n) : itoa n = l ∧ -999999999 ≤ n ∧ n ≤ 999999999 := by
  unfold parse at h
  cases ha : atoi l with
  | none => rw [ha] at h; cases h
  | some m =>
    rw [ha] at h
    simp only [Option.bind_some] at h
    split at h
    · rename_i hc; cases h; exact hc
    · cases h
theorem pow_le_of_nDigits : ∀ (k u : Nat), nDigits u = k + 1 → 1 ≤ k → 10 ^ k ≤ u
  | 0, _, _, h => by omega
  | k + 1, u, h, _ => by
    have hu : ¬ u < 10 := fun hs => by rw [nDigits_small hs] at h; omega
    rw [nDigits_big hu] at h
    by_cases hk : k = 0
    · subst hk; simpa using hu
    · have := pow_le_of_nDigits k (u / 10) (by omega) (by omega)
      rw [Nat.pow_succ]; omega
theorem nine_digits (u : Nat) : nDigits u ≤ 9 ↔ u ≤ 999999999 := by
  constructor
  · intro h
    have h1 := lt_pow_nDigits u
    have h2 : 10 ^ nDigits u ≤ 10 ^ 9 := Nat.pow_le_pow_right (by decide) h
    omega
  · intro h
    exact Nat.le_of_not_lt fun hc => by
      have hk := pow_le_of_nDigits (nDigits u - 1) u (by omega) (by omega)
      have h2 : 10 ^ 9 ≤ 10 ^ (nDigits u - 1) := Nat.pow_le_pow_right (by decide) (by omega)
      omega
/-- The digits of a row of bytes read as one number, the other bytes passed over; and how many digits there are. -/
def dscan : List UInt8 → Nat × Nat := List.foldl (fun p b => if 48 ≤ b.toNat ∧ b.toNat ≤ 57 then (p.1 * 10 + (b.toNat - 48), p.2 + 1) else p) (0, 0)
theorem dscan_snoc (l : List UInt8) (b : UInt8) : dscan (l ++ [b]) = if 48 ≤ b.toNat ∧ b.toNat ≤ 57 then ((dscan l).1 * 10 + (b.toNat - 48), (dscan l).2 + 1) else dscan l := by simp [dscan]
theorem dscan_digits (u : Nat) : dscan (decDigits u) = (u, nDigits u) := by
  induction u using Nat.strongRecOn with
  | ind u ih =>
    rw [decDigits]
    split
    · rename_i h
      have := dscan_snoc [] (UInt8.ofNat (48 + u))
      rw [List.nil_append] at this
      rw [this, digit_toNat u h, if_pos (by omega), nDigits_small h]
      simp [dscan]
    · rename_i h
      rw [dscan_snoc, ih (u / 10) (by omega), digit_toNat _ (by omega), if_pos (by omega), nDigits_big h]
      simp only [Prod.mk.injEq, and_true]; omega
theorem dscan_minus (l : List UInt8) : dscan (45 :: l) = dscan l := by simp [dscan]
theorem dscan_itoa (n : Int) : dscan (itoa n) = (n.natAbs, nDigits n.natAbs) := by
  unfold itoa
  split
  · rw [dscan_minus, dscan_digits]
  · rw [dscan_digits, show n.natAbs = n.toNat by omega]
theorem dscan_le (l : List UInt8) : (dscan l).2 ≤ l.length ∧ (dscan l).1 < 10 ^ (dscan l).2 := by
  induction h : l.length generalizing l with
  | zero =>
    have := List.eq_nil_of_length_eq_zero h
    subst this; simp [dscan]
  | succ k ih =>
    obtain ⟨p, b, rfl⟩ : ∃ p b, l = p ++ [b] := ⟨l.dropLast, l.getLast (fun e => by rw [e] at h; simp at h), (List.dropLast_concat_getLast _).symm⟩
    have hp : p.length = k := by simpa using h
    have := ih p hp
    rw [dscan_snoc]
    split
    · refine ⟨by simp only []; omega, ?_⟩
      simp only []
      rw [Nat.pow_succ]; omega
    · omega
/-- The sign that the reference gives. -/
def signed (l : List UInt8) (n : Int) : Int := if l.head? = some 45 then -n else n
theorem itoa_head (n : Int) : (itoa n).head? = some 45 ↔ n < 0 := by
  unfold itoa
  split
  · rename_i h; simp [h]
  · rename_i h
    constructor
    · intro hh
      cases hd : decDigits n.toNat with
      | nil => exact absurd hd (decDigits_ne _)
      | cons b r =>
        have hb := digits_all n.toNat b (by rw [hd]; exact List.mem_cons_self ..)
        rw [hd] at hh
        simp only [List.head?_cons, Option.some.injEq] at hh
        rw [hh] at hb
        exact absurd hb (by decide)
    · intro hh; omega
theorem itoa_length (n : Int) : (itoa n).length = nDigits n.natAbs + if n < 0 then 1 else 0 := by
  unfold itoa
  split
  · rw [List.length_cons, decDigits_length]
  · rw [decDigits_length, show n.natAbs = n.toNat by omega]; rfl
/-- The reference's way to the same answer. -/
theorem parse_scan (l : List UInt8) (hk : (dscan l).2 ≤ 9) (he : itoa (signed l (dscan l).1) = l) : parse l = some (signed l (dscan l).1) := by
  have hd := dscan_itoa (signed l (dscan l).1)
  rw [he] at hd
  have h9 := (nine_digits (signed l (dscan l).1).natAbs).1 (by have := congrArg Prod.snd hd; simp only [] at this; omega)
  exact parse_some he (by omega) (by omega)
theorem parse_scan_no (l : List UInt8) (h : 10 < l.length ∨ 9 < (dscan l).2 ∨ itoa (signed l (dscan l).1) ≠ l) : parse l = none := by
  cases hp : parse l with
  | none => rfl
  | some m =>
    exfalso
    obtain ⟨h1, h2, h3⟩ := parse_inv hp
    have hd := dscan_itoa m
    have hlen := itoa_length m
    have h9 := (nine_digits m.natAbs).2 (by omega)
    rw [h1] at hd hlen
    have hh := itoa_head m
    rw [h1] at hh
    have hs : signed l (dscan l).1 = m := by
      unfold signed
      rw [hd]
      by_cases hm : m < 0
      · rw [if_pos (hh.2 hm)]; simp only []; omega
      · rw [if_neg (fun e => hm (hh.1 e))]; simp only []; omega
    rw [hs] at h
    rcases h with h | h | h
    · split at hlen <;> omega
    · rw [hd] at h; simp only [] at h; omega
    · exact h h1
/-- The program's way. -/
theorem trim_itoa (n : Int) : (trimPrefix (itoa n) [45]).length = nDigits n.natAbs := by
  unfold trimPrefix
  have hh := itoa_head n
  have hlen := itoa_length n
  cases hi : itoa n with
  | nil => rw [hi] at hlen; have := nDigits_pos n.natAbs; simp at hlen; omega
  | cons b r =>
    rw [hi] at hh hlen
    by_cases hm : n < 0
    · have hb := hh.2 hm
      simp only [List.head?_cons, Option.some.injEq] at hb
      subst hb
      rw [if_pos hm] at hlen
      have : hasPrefix (45 :: r) [45] = true := by simp [hasPrefix]
      rw [if_pos this]; simp at hlen ⊢; omega
    · have hb : b ≠ 45 := fun e => hm (hh.1 (by rw [e]; rfl))
      rw [if_neg hm] at hlen
      have : hasPrefix (b :: r) [45] = false := by
        show (((45 : UInt8) == b) && List.isPrefixOf [] r) = false
        rw [show ((45 : UInt8) == b) = false from beq_eq_false_iff_ne.2 fun e => hb e.symm]; rfl
      rw [if_neg (by rw [this]; simp)]; omega
theorem parse_long (l : List UInt8) (h : 9 < (trimPrefix l [45]).length) : parse l = none := by
  cases hp : parse l with
  | none => rfl
  | some m =>
    exfalso
    obtain ⟨h1, h2, h3⟩ := parse_inv hp
    have := trim_itoa m
    rw [h1] at this
    have h9 := (nine_digits m.natAbs).2 (by omega)
    omega
theorem parse_bad (l : List UInt8) (h : atoi l = none) : parse l = none := by unfold parse; rw [h]; rfl
theorem parse_other (l : List UInt8) (n : Int) (h : atoi l = some n) (hne : itoa n ≠ l) : parse l = none := by unfold parse; rw [h]; simp [hne]
theorem parse_same (l : List UInt8) (n : Int) (he : itoa n = l) (hl : (trimPrefix l [45]).length ≤ 9) : parse l = some n := by
  have := trim_itoa n
  rw [he] at this
  have h9 := (nine_digits n.natAbs).1 (by omega)
  exact parse_some he (by omega) (by omega)
theorem trim_length (l : List UInt8) : l.length ≤ (trimPrefix l [45]).length + 1 := by
  unfold trimPrefix; split <;> simp <;> omega
theorem parse_none (n : Int) (h : n < -999999999 ∨ 999999999 < n) : parse (itoa n) = none := by
  cases hp : parse (itoa n) with
  | none => rfl
  | some m =>
    exfalso
    obtain ⟨h1, h2, h3⟩ := parse_inv hp
    have h4 := atoi_itoa m
    rw [h1, atoi_itoa] at h4
    have := Option.some.inj h4
    omega
end Go.Proofs.YtoiobaiiammehaaDoor.Dec
