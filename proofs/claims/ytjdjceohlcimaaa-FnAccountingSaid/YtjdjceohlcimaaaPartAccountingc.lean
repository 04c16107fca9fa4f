/- Texts joined: Math. -/
import Derived.Test.YtjdjceohlcimaaaPartAccountingb
import Derived.Lib.ItoaNum
import Derived.Lib.ItoaLen
import Derived.Lib.Atoi
import Derived.Lib.Strings
import Derived.Lib.Split
import Derived.Lib.Join
import Derived.Lib.IndexMore
/- Plain mathematics: decimals, cuts, numbers, rows, bags, pages, the first page of a text. -/
namespace Go.Proofs.Ytjdjceohlcimaaa.Dec
open Go.Lib

/-- The digits of u, none for 0. -/
def dd (u : Nat) : List UInt8 := if u = 0 then [] else decDigits u
theorem dd_zero : dd 0 = [] := rfl
theorem dd_step (u : Nat) (h : 0 < u) : dd u = dd (u / 10) ++ [UInt8.ofNat (48 + u % 10)] := by
  unfold dd
  rw [if_neg (by omega), decDigits]
  split
  · rename_i h1
    rw [if_pos (by omega), show u % 10 = u by omega]; rfl
  · rename_i h1
    rw [if_neg (by omega)]
theorem dd_pos (u : Nat) (h : 0 < u) : dd u = decDigits u := by unfold dd; rw [if_neg (by omega)]
theorem itoa_zero : itoa 0 = [48] := by unfold itoa; rw [if_neg (by omega)]; exact decDigits_one (i := 0) (by omega)
theorem itoa_pos (n : Int) (h : 0 < n) : itoa n = dd n.toNat := by unfold itoa; rw [if_neg (by omega), dd_pos _ (by omega)]
theorem itoa_neg (n : Int) (h : n < 0) : itoa n = 45 :: dd n.natAbs := by unfold itoa; rw [if_pos h, dd_pos _ (by omega)]
theorem dd_length_le (u : Nat) (h : u < 18446744073709551616) : (dd u).length ≤ 20 := by
  unfold dd
  split
  · simp
  · rw [decDigits_length]; exact nDigits_le20 u h

/-! ### Reading a numeral -/
theorem digit_toNat (d : Nat) (h : d < 10) : (UInt8.ofNat (48 + d)).toNat = 48 + d := by rw [UInt8.toNat_ofNat']; omega
theorem digitVal_digit (d : Nat) (h : d < 10) : digitVal (UInt8.ofNat (48 + d)) = some d := by
  unfold digitVal; rw [digit_toNat d h, if_pos (by omega)]; congr 1; omega
theorem decFrom_snoc : ∀ (l : List UInt8) (acc n d : Nat) (b : UInt8), decFrom acc l = some n → digitVal b = some d → decFrom acc (l ++ [b]) = some (n * 10 + d)
  | [], acc, n, d, b, h, hb => by
    simp only [decFrom, Option.some.injEq] at h
    subst h
    simp [decFrom, hb]
  | c :: l, acc, n, d, b, h, hb => by
    rw [List.cons_append]
    unfold decFrom at h ⊢
    cases hc : digitVal c with
    | none => rw [hc] at h; cases h
    | some x => rw [hc] at h; exact decFrom_snoc l _ n d b h hb
theorem decFrom_digits (u : Nat) : decFrom 0 (decDigits u) = some u := by
  induction u using Nat.strongRecOn with
  | ind u ih =>
    rw [decDigits]
    split
    · rename_i h
      unfold decFrom
      rw [digitVal_digit u h]
      simp [decFrom]
    · rename_i h
      rw [decFrom_snoc _ 0 (u / 10) (u % 10) _ (ih (u / 10) (by omega)) (digitVal_digit _ (by omega))]
      congr 1; omega
theorem decDigits_ne (u : Nat) : decDigits u ≠ [] := fun h => by
  have := decDigits_length u
  rw [h] at this
  have := nDigits_pos u
  simp at *; omega
theorem decNat_digits (u : Nat) : decNat (decDigits u) = some u := by
  unfold decNat
  have : (decDigits u).isEmpty = false := by
    cases h : decDigits u with
    | nil => exact absurd h (decDigits_ne u)
    | cons _ _ => rfl
  rw [this]; exact decFrom_digits u
/-- Every byte of a numeral is a digit. -/
theorem digits_all (u : Nat) : ∀ b ∈ decDigits u, 48 ≤ b.toNat ∧ b.toNat ≤ 57 := by
  induction u using Nat.strongRecOn with
  | ind u ih =>
    intro b hb
    rw [decDigits] at hb
    split at hb
    · rename_i h
      simp only [List.mem_singleton] at hb
      subst hb; rw [digit_toNat u h]; omega
    · rename_i h
      rcases List.mem_append.1 hb with hb | hb
      · exact ih (u / 10) (by omega) b hb
      · simp only [List.mem_singleton] at hb
        subst hb; rw [digit_toNat _ (by omega)]; omega
theorem atoi_itoa (n : Int) : atoi (itoa n) = some n := by
  unfold itoa
  split
  · rename_i h
    simp only [atoi]
    rw [if_pos (by decide), decNat_digits]
    simp; omega
  · rename_i h
    cases hd : decDigits n.toNat with
    | nil => exact absurd hd (decDigits_ne _)
    | cons b r =>
      have hb := digits_all n.toNat b (by rw [hd]; exact List.mem_cons_self ..)
      have h1 : (b == 45) = false := by rw [beq_eq_false_iff_ne]; rintro rfl; revert hb; decide
      have h2 : (b == 43) = false := by rw [beq_eq_false_iff_ne]; rintro rfl; revert hb; decide
      simp only [atoi, h1, h2, Bool.false_eq_true, if_false]
      rw [← hd, decNat_digits]
      simp; omega
/-- The number whose numeral l is, if it has at most nine digits. -/
def parse (l : List UInt8) : Option Int := (atoi l).bind fun n => if itoa n = l ∧ -999999999 ≤ n ∧ n ≤ 999999999 then some n else none
theorem parse_some {l : List UInt8} {n : Int} (h : itoa n = l) (h1 : -999999999 ≤ n) (h2 : n ≤ 999999999) : parse l = some n := by
  unfold parse; rw [← h, atoi_itoa]; simp [h1, h2]
theorem parse_inv {l : List UInt8} {n : Int} (h : parse l = some n) : itoa n = l ∧ -999999999 ≤ n ∧ n ≤ 999999999 := by
  unfold parse at h
  cases ha : atoi l with
  | none => rw [ha] at h; cases h
  | some m =>
    rw [ha] at h
    simp only [Option.bind_some] at h
    split at h
    · rename_i hc; cases h; exact hc
    · cases h
theorem pow_le_of_nDigits : ∀ (k u : Nat), nDigits u = k + 1 → 1 ≤ k → 10 ^ k ≤ u
  | 0, _, _, h => by omega
  | k + 1, u, h, _ => by
    have hu : ¬ u < 10 := fun hs => by rw [nDigits_small hs] at h; omega
    rw [nDigits_big hu] at h
    by_cases hk : k = 0
    · subst hk; simpa using hu
    · have := pow_le_of_nDigits k (u / 10) (by omega) (by omega)
      rw [Nat.pow_succ]; omega
theorem nine_digits (u : Nat) : nDigits u ≤ 9 ↔ u ≤ 999999999 := by
  constructor
  · intro h
    have h1 := lt_pow_nDigits u
    have h2 : 10 ^ nDigits u ≤ 10 ^ 9 := Nat.pow_le_pow_right (by decide) h
    omega
  · intro h
    exact Nat.le_of_not_lt fun hc => by
      have hk := pow_le_of_nDigits (nDigits u - 1) u (by omega) (by omega)
      have h2 : 10 ^ 9 ≤ 10 ^ (nDigits u - 1) := Nat.pow_le_pow_right (by decide) (by omega)
      omega
/-- The digits of a row of bytes read as one number, the other bytes passed over; and how many digits there are. -/
def dscan : List UInt8 → Nat × Nat := List.foldl (fun p b => if 48 ≤ b.toNat ∧ b.toNat ≤ 57 then (p.1 * 10 + (b.toNat - 48), p.2 + 1) else p) (0, 0)
theorem dscan_snoc (l : List UInt8) (b : UInt8) : dscan (l ++ [b]) = if 48 ≤ b.toNat ∧ b.toNat ≤ 57 then ((dscan l).1 * 10 + (b.toNat - 48), (dscan l).2 + 1) else dscan l := by simp [dscan]
theorem dscan_digits (u : Nat) : dscan (decDigits u) = (u, nDigits u) := by
  induction u using Nat.strongRecOn with
  | ind u ih =>
    rw [decDigits]
    split
    · rename_i h
      have := dscan_snoc [] (UInt8.ofNat (48 + u))
      rw [List.nil_append] at this
      rw [this, digit_toNat u h, if_pos (by omega), nDigits_small h]
      simp [dscan]
    · rename_i h
      rw [dscan_snoc, ih (u / 10) (by omega), digit_toNat _ (by omega), if_pos (by omega), nDigits_big h]
      simp only [Prod.mk.injEq, and_true]; omega
theorem dscan_minus (l : List UInt8) : dscan (45 :: l) = dscan l := by simp [dscan]
theorem dscan_itoa (n : Int) : dscan (itoa n) = (n.natAbs, nDigits n.natAbs) := by
  unfold itoa
  split
  · rw [dscan_minus, dscan_digits]
  · rw [dscan_digits, show n.natAbs = n.toNat by omega]
theorem dscan_le (l : List UInt8) : (dscan l).2 ≤ l.length ∧ (dscan l).1 < 10 ^ (dscan l).2 := by
  induction h : l.length generalizing l with
  | zero =>
    have := List.eq_nil_of_length_eq_zero h
    subst this; simp [dscan]
  | succ k ih =>
    obtain ⟨p, b, rfl⟩ : ∃ p b, l = p ++ [b] := ⟨l.dropLast, l.getLast (fun e => by rw [e] at h; simp at h), (List.dropLast_concat_getLast _).symm⟩
    have hp : p.length = k := by simpa using h
    have := ih p hp
    rw [dscan_snoc]
    split
    · refine ⟨by simp only []; omega, ?_⟩
      simp only []
      rw [Nat.pow_succ]; omega
    · omega
/-- The sign that the reference gives. -/
def signed (l : List UInt8) (n : Int) : Int := if l.head? = some 45 then -n else n
theorem itoa_head (n : Int) : (itoa n).head? = some 45 ↔ n < 0 := by
  unfold itoa
  split
  · rename_i h; simp [h]
  · rename_i h
    constructor
    · intro hh
      cases hd : decDigits n.toNat with
      | nil => exact absurd hd (decDigits_ne _)
      | cons b r =>
        have hb := digits_all n.toNat b (by rw [hd]; exact List.mem_cons_self ..)
        rw [hd] at hh
        simp only [List.head?_cons, Option.some.injEq] at hh
        rw [hh] at hb
        exact absurd hb (by decide)
    · intro hh; omega
theorem itoa_length (n : Int) : (itoa n).length = nDigits n.natAbs + if n < 0 then 1 else 0 := by
  unfold itoa
  split
  · rw [List.length_cons, decDigits_length]
  · rw [decDigits_length, show n.natAbs = n.toNat by omega]; rfl
/-- The reference's way to the same answer. -/
theorem parse_scan (l : List UInt8) (hk : (dscan l).2 ≤ 9) (he : itoa (signed l (dscan l).1) = l) : parse l = some (signed l (dscan l).1) := by
  have hd := dscan_itoa (signed l (dscan l).1)
  rw [he] at hd
  have h9 := (nine_digits (signed l (dscan l).1).natAbs).1 (by have := congrArg Prod.snd hd; simp only [] at this; omega)
  exact parse_some he (by omega) (by omega)
theorem parse_scan_no (l : List UInt8) (h : 10 < l.length ∨ 9 < (dscan l).2 ∨ itoa (signed l (dscan l).1) ≠ l) : parse l = none := by
  cases hp : parse l with
  | none => rfl
  | some m =>
    exfalso
    obtain ⟨h1, h2, h3⟩ := parse_inv hp
    have hd := dscan_itoa m
    have hlen := itoa_length m
    have h9 := (nine_digits m.natAbs).2 (by omega)
    rw [h1] at hd hlen
    have hh := itoa_head m
    rw [h1] at hh
    have hs : signed l (dscan l).1 = m := by
      unfold signed
      rw [hd]
      by_cases hm : m < 0
      · rw [if_pos (hh.2 hm)]; simp only []; omega
      · rw [if_neg (fun e => hm (hh.1 e))]; simp only []; omega
    rw [hs] at h
    rcases h with h | h | h
    · split at hlen <;> omega
    · rw [hd] at h; simp only [] at h; omega
    · exact h h1
/-- The program's way. -/
theorem trim_itoa (n : Int) : (trimPrefix (itoa n) [45]).length = nDigits n.natAbs := by
  unfold trimPrefix
  have hh := itoa_head n
  have hlen := itoa_length n
  cases hi : itoa n with
  | nil => rw [hi] at hlen; have := nDigits_pos n.natAbs; simp at hlen; omega
  | cons b r =>
    rw [hi] at hh hlen
    by_cases hm : n < 0
    · have hb := hh.2 hm
      simp only [List.head?_cons, Option.some.injEq] at hb
      subst hb
      rw [if_pos hm] at hlen
      have : hasPrefix (45 :: r) [45] = true := by simp [hasPrefix]
      rw [if_pos this]; simp at hlen ⊢; omega
    · have hb : b ≠ 45 := fun e => hm (hh.1 (by rw [e]; rfl))
      rw [if_neg hm] at hlen
      have : hasPrefix (b :: r) [45] = false := by
        show (((45 : UInt8) == b) && List.isPrefixOf [] r) = false
        rw [show ((45 : UInt8) == b) = false from beq_eq_false_iff_ne.2 fun e => hb e.symm]; rfl
      rw [if_neg (by rw [this]; simp)]; omega
theorem parse_long (l : List UInt8) (h : 9 < (trimPrefix l [45]).length) : parse l = none := by
  cases hp : parse l with
  | none => rfl
  | some m =>
    exfalso
    obtain ⟨h1, h2, h3⟩ := parse_inv hp
    have := trim_itoa m
    rw [h1] at this
    have h9 := (nine_digits m.natAbs).2 (by omega)
    omega
theorem parse_bad (l : List UInt8) (h : atoi l = none) : parse l = none := by unfold parse; rw [h]; rfl
theorem parse_other (l : List UInt8) (n : Int) (h : atoi l = some n) (hne : itoa n ≠ l) : parse l = none := by unfold parse; rw [h]; simp [hne]
theorem parse_same (l : List UInt8) (n : Int) (he : itoa n = l) (hl : (trimPrefix l [45]).length ≤ 9) : parse l = some n := by
  have := trim_itoa n
  rw [he] at this
  have h9 := (nine_digits n.natAbs).1 (by omega)
  exact parse_some he (by omega) (by omega)
theorem trim_length (l : List UInt8) : l.length ≤ (trimPrefix l [45]).length + 1 := by
  unfold trimPrefix; split <;> simp <;> omega
theorem parse_none (n : Int) (h : n < -999999999 ∨ 999999999 < n) : parse (itoa n) = none := by
  cases hp : parse (itoa n) with
  | none => rfl
  | some m =>
    exfalso
    obtain ⟨h1, h2, h3⟩ := parse_inv hp
    have h4 := atoi_itoa m
    rw [h1, atoi_itoa] at h4
    have := Option.some.inj h4
    omega
end Go.Proofs.Ytjdjceohlcimaaa.Dec
namespace Go.Proofs.Ytjdjceohlcimaaa.Cut
open Go.Lib

/-- All pieces between the signs. -/
def cut (b : UInt8) : List UInt8 → List (List UInt8)
  | [] => [[]]
  | x :: l => if x = b then [] :: cut b l else match cut b l with | h :: t => (x :: h) :: t | [] => [[x]]
theorem cut_ne (b : UInt8) (l : List UInt8) : cut b l ≠ [] := by
  cases l with
  | nil => simp [cut]
  | cons x l =>
    unfold cut
    split
    · simp
    · split <;> simp
theorem cut_none (b : UInt8) : ∀ l : List UInt8, b ∉ l → cut b l = [l]
  | [], _ => rfl
  | x :: l, h => by
    have hx : ¬ x = b := fun e => h (by simp [e])
    have hl : b ∉ l := fun e => h (by simp [e])
    unfold cut
    rw [if_neg hx, cut_none b l hl]
theorem cut_app (b : UInt8) (q : List UInt8) : ∀ p : List UInt8, b ∉ p → cut b (p ++ b :: q) = p :: cut b q
  | [], _ => by simp [cut]
  | x :: p, h => by
    have hx : ¬ x = b := fun e => h (by simp [e])
    have hl : b ∉ p := fun e => h (by simp [e])
    have ih := cut_app b q p hl
    show cut b (x :: (p ++ b :: q)) = _
    generalize cut b q = r at ih ⊢
    unfold cut
    rw [if_neg hx, ih]
theorem cut_mem (b : UInt8) : ∀ (l p : List UInt8), p ∈ cut b l → b ∉ p
  | [], p, h => by simp [cut] at h; simp [h]
  | x :: l, p, h => by
    unfold cut at h
    split at h
    · rcases List.mem_cons.1 h with rfl | h
      · simp
      · exact cut_mem b l p h
    · rename_i hx
      split at h
      · rename_i h0 t e
        rcases List.mem_cons.1 h with rfl | h
        · have := cut_mem b l h0 (by rw [e]; simp)
          intro hc
          rcases List.mem_cons.1 hc with h1 | h1
          · exact hx h1.symm
          · exact this h1
        · exact cut_mem b l p (by rw [e]; simp [h])
      · rename_i e
        exact absurd e (cut_ne b l)
theorem join_two (x y : List UInt8) (r : List (List UInt8)) (sep : List UInt8) : join (x :: y :: r) sep = x ++ sep ++ join (y :: r) sep := by
  rw [join_cons, join_cons]; simp [joinTail]
theorem join_cut (b : UInt8) : ∀ l : List UInt8, join (cut b l) [b] = l
  | [] => by simp [cut, join_one]
  | x :: l => by
    have ih := join_cut b l
    unfold cut
    split
    · rename_i hx
      subst hx
      obtain ⟨y, r, e⟩ : ∃ y r, cut x l = y :: r := by
        cases h : cut x l with
        | nil => exact absurd h (cut_ne x l)
        | cons y r => exact ⟨y, r, rfl⟩
      rw [e] at ih ⊢
      rw [join_two, ih]; simp
    · split
      · rename_i h0 t e
        rw [e] at ih
        rw [join_cons] at ih ⊢
        simp [ih]
      · rename_i e
        exact absurd e (cut_ne b l)
theorem cut_join (b : UInt8) : ∀ (ps : List (List UInt8)), ps ≠ [] → (∀ p ∈ ps, b ∉ p) → cut b (join ps [b]) = ps
  | [], h, _ => absurd rfl h
  | [x], _, h => by rw [join_one, cut_none b x (h x (by simp))]
  | x :: y :: r, _, h => by
    rw [join_two, List.append_assoc]
    show cut b (x ++ b :: join (y :: r) [b]) = _
    rw [cut_app b _ x (h x (by simp)), cut_join b (y :: r) (by simp) (fun p hp => h p (by simp [hp]))]
theorem join_mem_length (ps : List (List UInt8)) (sep p : List UInt8) (h : p ∈ ps) : p.length ≤ (join ps sep).length := by
  induction ps with
  | nil => cases h
  | cons x r ih =>
    cases r with
    | nil =>
      rw [join_one]
      rcases List.mem_cons.1 h with rfl | h
      · exact Nat.le_refl _
      · cases h
    | cons y r =>
      rw [join_two, List.length_append, List.length_append]
      rcases List.mem_cons.1 h with rfl | h
      · omega
      · have := ih h
        omega
theorem cut_length (b : UInt8) : ∀ l : List UInt8, (cut b l).length ≤ l.length + 1
  | [] => by simp [cut]
  | x :: l => by
    have ih := cut_length b l
    unfold cut
    split
    · simp; omega
    · split
      · rename_i h0 t e; rw [e] at ih; simp at ih ⊢; omega
      · simp

/-- What a loop from the left has gathered: the pieces that are closed, and the one that is open. -/
def scan (b : UInt8) (l : List UInt8) : List (List UInt8) × List UInt8 := l.foldl (fun p x => if x = b then (p.1 ++ [p.2], []) else (p.1, p.2 ++ [x])) ([], [])
theorem scan_nil (b : UInt8) : scan b [] = ([], []) := rfl
theorem scan_snoc (b : UInt8) (l : List UInt8) (x : UInt8) : scan b (l ++ [x]) = if x = b then ((scan b l).1 ++ [(scan b l).2], []) else ((scan b l).1, (scan b l).2 ++ [x]) := by
  simp [scan]
theorem cut_snoc (b : UInt8) (x : UInt8) : ∀ (l : List UInt8) (d : List (List UInt8)) (c : List UInt8), cut b l = d ++ [c] → cut b (l ++ [x]) = if x = b then d ++ [c] ++ [[]] else d ++ [c ++ [x]]
  | [], d, c, h => by
    simp only [cut] at h
    have hd : d = [] := by
      cases d with
      | nil => rfl
      | cons a t => simp at h
    subst hd
    simp only [List.nil_append, List.cons.injEq, and_true] at h
    subst h
    by_cases hx : x = b <;> simp [cut, hx]
  | y :: l, d, c, h => by
    show cut b (y :: (l ++ [x])) = _
    unfold cut at h ⊢
    by_cases hy : y = b
    · rw [if_pos hy] at h ⊢
      cases d with
      | nil =>
        simp only [List.nil_append, List.cons.injEq] at h
        exact absurd h.2 (cut_ne b l)
      | cons a t =>
        simp only [List.cons_append, List.cons.injEq] at h
        rw [cut_snoc b x l t c h.2, ← h.1]
        split <;> simp
    · rw [if_neg hy] at h ⊢
      obtain ⟨p, r, e⟩ : ∃ p r, cut b l = p :: r := by
        cases h : cut b l with
        | nil => exact absurd h (cut_ne b l)
        | cons y r => exact ⟨y, r, rfl⟩
      rw [e] at h
      simp only at h
      cases d with
      | nil =>
        simp only [List.nil_append, List.cons.injEq] at h
        obtain ⟨h1, h2⟩ := h
        subst h2
        rw [cut_snoc b x l [] p (by rw [e]; rfl)]
        subst h1
        by_cases hx : x = b <;> simp [hx]
      | cons a t =>
        simp only [List.cons_append, List.cons.injEq] at h
        obtain ⟨h1, h2⟩ := h
        rw [cut_snoc b x l (p :: t) c (by rw [e, h2]; rfl)]
        subst h1
        by_cases hx : x = b <;> simp [hx]
theorem cut_scan (b : UInt8) (l : List UInt8) : cut b l = (scan b l).1 ++ [(scan b l).2] := by
  suffices h : ∀ (n : Nat) (l : List UInt8), l.length = n → cut b l = (scan b l).1 ++ [(scan b l).2] from h _ l rfl
  intro n
  induction n with
  | zero => intro l h; obtain rfl := List.eq_nil_of_length_eq_zero h; rfl
  | succ n ih =>
    intro l h
    obtain ⟨l', x, rfl⟩ : ∃ l' x, l = l' ++ [x] := ⟨l.dropLast, l.getLast (by intro e; simp [e] at h), (List.dropLast_concat_getLast _).symm⟩
    have hl : l'.length = n := by simpa using h
    rw [cut_snoc b x l' _ _ (ih l' hl), scan_snoc]
    split <;> simp
theorem scan_suffix (b : UInt8) (l : List UInt8) : ∃ p, l = p ++ (scan b l).2 := by
  suffices h : ∀ (n : Nat) (l : List UInt8), l.length = n → ∃ p, l = p ++ (scan b l).2 from h _ l rfl
  intro n
  induction n with
  | zero => intro l h; obtain rfl := List.eq_nil_of_length_eq_zero h; exact ⟨[], rfl⟩
  | succ n ih =>
    intro l h
    obtain ⟨l', x, rfl⟩ : ∃ l' x, l = l' ++ [x] := ⟨l.dropLast, l.getLast (by intro e; simp [e] at h), (List.dropLast_concat_getLast _).symm⟩
    obtain ⟨p, hp⟩ := ih l' (by simpa using h)
    rw [scan_snoc]
    split
    · exact ⟨l' ++ [x], by simp⟩
    · refine ⟨p, ?_⟩
      show l' ++ [x] = p ++ ((scan b l').2 ++ [x])
      rw [← List.append_assoc, ← hp]
/-- Where the open piece begins, after t signs. -/
def mark (b : UInt8) (l : List UInt8) (t : Nat) : Nat := t - (scan b (l.take t)).2.length
theorem scan_take (b : UInt8) (l : List UInt8) (t : Nat) (ht : t ≤ l.length) : (scan b (l.take t)).2 = (l.take t).drop (mark b l t) ∧ mark b l t ≤ t := by
  obtain ⟨p, hp⟩ := scan_suffix b (l.take t)
  have hl : (l.take t).length = t := by simp [ht]
  have hs : p.length + (scan b (l.take t)).2.length = t := by
    have := congrArg List.length hp
    rw [List.length_append, hl] at this; omega
  refine ⟨?_, by unfold mark; omega⟩
  have hm : mark b l t = p.length := by unfold mark; omega
  rw [hm]
  conv => rhs; rw [hp]
  simp
theorem scan_next (b : UInt8) (l : List UInt8) (t : Nat) (ht : t < l.length) : scan b (l.take (t + 1)) = if l[t] = b then ((scan b (l.take t)).1 ++ [(l.take t).drop (mark b l t)], []) else ((scan b (l.take t)).1, (scan b (l.take t)).2 ++ [l[t]]) := by
  rw [List.take_succ_eq_append_getElem ht, scan_snoc, (scan_take b l t (by omega)).1]
theorem mark_hit (b : UInt8) (l : List UInt8) (t : Nat) (ht : t < l.length) (h : l[t] = b) : mark b l (t + 1) = t + 1 := by
  unfold mark; rw [scan_next b l t ht, if_pos h]; simp
theorem mark_miss (b : UInt8) (l : List UInt8) (t : Nat) (ht : t < l.length) (h : ¬ l[t] = b) : mark b l (t + 1) = mark b l t := by
  have := (scan_take b l t (by omega)).2
  unfold mark at this ⊢; rw [scan_next b l t ht, if_neg h]
  simp
theorem mark_zero (b : UInt8) (l : List UInt8) : mark b l 0 = 0 := by simp [mark]
theorem scan_length (b : UInt8) (l : List UInt8) : (scan b l).1.length ≤ l.length := by
  have h := cut_length b l
  rw [cut_scan] at h
  simpa using h

/-- strings.SplitN at a sign. -/
theorem index_sign (b : UInt8) (l : List UInt8) : (index l [b] = -1 ∧ b ∉ l) ∨ ∃ i : Nat, index l [b] = i ∧ i < l.length ∧ b ∉ l.take i ∧ l = l.take i ++ b :: l.drop (i + 1) := by
  have hocc : ∀ j, occAt l [b] j = true ↔ l[j]? = some b := by
    intro j
    constructor
    · exact occAt_head rfl
    · intro h
      unfold occAt
      have hj : j < l.length := (List.getElem?_eq_some_iff.1 h).1
      rw [List.drop_eq_getElem_cons hj]
      have : l[j] = b := (List.getElem?_eq_some_iff.1 h).2
      simp [this]
  rcases index_spec l [b] with ⟨h, hn⟩ | ⟨i, h, hi, ho, hno⟩
  · refine .inl ⟨h, fun hm => ?_⟩
    obtain ⟨j, hj, e⟩ := List.getElem_of_mem hm
    have := hn j (by omega)
    rw [(hocc j).2 (by rw [List.getElem?_eq_getElem hj, e])] at this
    cases this
  · right
    have hb := (hocc i).1 ho
    have hlt : i < l.length := (List.getElem?_eq_some_iff.1 hb).1
    refine ⟨i, h, hlt, fun hm => ?_, ?_⟩
    · obtain ⟨j, hj, e⟩ := List.getElem_of_mem hm
      simp at hj e
      have := hno j (by omega)
      rw [(hocc j).2 (by rw [List.getElem?_eq_getElem (by omega), e])] at this
      cases this
    · conv => lhs; rw [← List.take_append_drop i l, List.drop_eq_getElem_cons hlt]
      rw [(List.getElem?_eq_some_iff.1 hb).2]
theorem splitK_sign (b : UInt8) : ∀ (k : Nat) (l : List UInt8), splitK [b] 0 k l = cut b l ∧ (cut b l).length ≤ k + 1 ∨ (splitK [b] 0 k l).length = k + 1 ∧ k + 1 < (cut b l).length
  | 0, l => by
    by_cases h : b ∈ l
    · right
      refine ⟨rfl, ?_⟩
      rcases index_sign b l with ⟨_, hn⟩ | ⟨i, _, hlt, hn, e⟩
      · exact absurd h hn
      · rw [e, cut_app b _ _ hn]
        have := List.length_pos_iff.2 (cut_ne b (l.drop (i + 1)))
        simp only [List.length_cons]; omega
    · left
      rw [cut_none b l h]
      exact ⟨rfl, by simp⟩
  | k + 1, l => by
    rcases index_sign b l with ⟨h, hn⟩ | ⟨i, h, hlt, hn, e⟩
    · left
      unfold splitK
      rw [h, cut_none b l hn]
      simp
    · have hs : splitK [b] 0 (k + 1) l = l.take i :: splitK [b] 0 k (l.drop (i + 1)) := by
        rw [splitK, h]
        have : ((i : Int) == -1) = false := by rw [beq_eq_false_iff_ne]; omega
        rw [this]; simp
      have hc : cut b l = l.take i :: cut b (l.drop (i + 1)) := by
        conv => lhs; rw [e]
        exact cut_app b _ _ hn
      rw [hs, hc]
      rcases splitK_sign b k (l.drop (i + 1)) with ⟨h1, h2⟩ | ⟨h1, h2⟩
      · exact .inl ⟨by rw [h1], by simp; omega⟩
      · exact .inr ⟨by simp [h1], by simp; omega⟩
/-- At most n pieces: all of them, or n and there are more. -/
theorem splitN_sign (b : UInt8) (n : Nat) (hn : 1 ≤ n) (l : List UInt8) : splitK [b] 0 (min n (l.length + 1) - 1) l = cut b l ∧ (cut b l).length ≤ n ∨ (splitK [b] 0 (min n (l.length + 1) - 1) l).length = n ∧ n < (cut b l).length := by
  have hc := cut_length b l
  rcases splitK_sign b (min n (l.length + 1) - 1) l with ⟨h1, h2⟩ | ⟨h1, h2⟩
  · exact .inl ⟨h1, by omega⟩
  · refine .inr ⟨by omega, by omega⟩
end Go.Proofs.Ytjdjceohlcimaaa.Cut
namespace Go.Proofs.Ytjdjceohlcimaaa.Num

/-! ### Fixed width -/
/-- The w lowest base-256 digits of n, the highest first. -/
def be : Nat → Nat → List UInt8
  | 0, _ => []
  | w + 1, n => UInt8.ofNat (n / 256 ^ w) :: be w n
theorem be_length : ∀ w n, (be w n).length = w
  | 0, _ => rfl
  | w + 1, n => by simp [be, be_length w n]
/-- The number that a row of bytes spells, the highest byte first. -/
def bval : List UInt8 → Nat := List.foldl (fun a b => a * 256 + b.toNat) 0
theorem bval_snoc (l : List UInt8) (b : UInt8) : bval (l ++ [b]) = bval l * 256 + b.toNat := by simp [bval]
theorem bval_nil : bval [] = 0 := rfl
theorem foldl_bval : ∀ (l : List UInt8) (a : Nat), List.foldl (fun a b => a * 256 + b.toNat) a l = a * 256 ^ l.length + List.foldl (fun a b => a * 256 + b.toNat) 0 l
  | [], a => by simp
  | b :: l, a => by
    rw [List.foldl_cons, foldl_bval l, List.foldl_cons, foldl_bval l (0 * 256 + b.toNat), List.length_cons, Nat.pow_succ, Nat.zero_mul, Nat.zero_add, Nat.add_mul]
    have : a * 256 * 256 ^ l.length = a * (256 ^ l.length * 256) := by rw [Nat.mul_assoc, Nat.mul_comm 256]
    omega
theorem bval_cons (b : UInt8) (l : List UInt8) : bval (b :: l) = b.toNat * 256 ^ l.length + bval l := by
  rw [bval, List.foldl_cons, foldl_bval]; simp
theorem bval_lt : ∀ (l : List UInt8), bval l < 256 ^ l.length
  | [] => by simp [bval]
  | b :: l => by
    have ih := bval_lt l
    have hb : b.toNat ≤ 255 := by have := b.toNat_lt; omega
    have hm := Nat.mul_le_mul_right (256 ^ l.length) hb
    rw [bval_cons, List.length_cons, Nat.pow_succ]
    omega
theorem bval_be : ∀ (w n : Nat), bval (be w n) = n % 256 ^ w
  | 0, n => by simp [be, bval, Nat.mod_one]
  | w + 1, n => by
    rw [be, bval_cons, be_length, bval_be w n, UInt8.toNat_ofNat', Nat.pow_succ 256 w, Nat.mod_mul, Nat.mul_comm, Nat.add_comm]
theorem be_append (w n k : Nat) : be (w + k) n = be k (n / 256 ^ w) ++ be w n := by
  induction k with
  | zero => simp [be]
  | succ k ih => rw [← Nat.add_assoc, be, ih, be, Nat.div_div_eq_div_mul, Nat.pow_add]; rfl
theorem be_get : ∀ (w n j : Nat) (h : j < (be w n).length), (be w n)[j] = UInt8.ofNat (n / 256 ^ (w - 1 - j))
  | 0, _, _, h => by simp [be] at h
  | w + 1, n, 0, _ => by simp [be]
  | w + 1, n, j + 1, h => by
    simp only [be, List.getElem_cons_succ]
    rw [be_get w n j, show w + 1 - 1 - (j + 1) = w - 1 - j by omega]
/-- The row while it is being filled from the front. -/
def fx (w n k : Nat) : List UInt8 := (be w n).take k ++ List.replicate (w - k) 0
theorem fx_zero (w n : Nat) : fx w n 0 = List.replicate w 0 := by simp [fx]
theorem fx_end (w n : Nat) : fx w n w = be w n := by
  unfold fx; rw [List.take_of_length_le (by rw [be_length]; exact Nat.le_refl _)]; simp
theorem fx_step (w n k : Nat) (h : k < w) : (fx w n k).set k (UInt8.ofNat (n / 256 ^ (w - 1 - k))) = fx w n (k + 1) := by
  have hl : ((be w n).take k).length = k := by rw [List.length_take, be_length]; omega
  unfold fx
  rw [List.set_append_right _ _ (by omega), hl, Nat.sub_self, show w - k = w - (k + 1) + 1 by omega, List.replicate_succ, List.set_cons_zero, List.take_succ_eq_append_getElem (by rw [be_length]; exact h), be_get, List.append_assoc]
  rfl
theorem fx_length (w n k : Nat) (h : k ≤ w) : (fx w n k).length = w := by simp [fx, be_length]; omega
/-- What EncodeFixed answers. -/
def encFixed (n width : Int) : List UInt8 := if 1 ≤ width ∧ width ≤ 7 ∧ 0 ≤ n ∧ n.toNat < 256 ^ width.toNat then be width.toNat n.toNat else []
/-- What DecodeFixed answers: the number, and whether there is one. -/
def decFixedOk (l : List UInt8) (width : Int) : Bool := decide (1 ≤ width ∧ width ≤ 7 ∧ width ≤ l.length)
def decFixed (l : List UInt8) (width : Int) : Nat := if decFixedOk l width then bval (l.take width.toNat) else 0

/-! ### Varints -/
/-- LEB128 with at most f further bytes. -/
def leb : Nat → Nat → List UInt8
  | 0, n => [UInt8.ofNat n]
  | f + 1, n => if n < 128 then [UInt8.ofNat n] else UInt8.ofNat (128 + n % 128) :: leb f (n / 128)
/-- What EncodeVarint answers. -/
def encVar (n : Int) : List UInt8 := if 0 ≤ n ∧ n ≤ 562949953421311 then leb 6 n.toNat else []
/-- Seven bits a byte, the lowest group first. -/
def v7 : List UInt8 → Nat
  | [] => 0
  | b :: l => b.toNat % 128 + 128 * v7 l
theorem v7_snoc : ∀ (l : List UInt8) (b : UInt8), v7 (l ++ [b]) = v7 l + 128 ^ l.length * (b.toNat % 128)
  | [], b => by simp [v7]
  | c :: l, b => by
    rw [List.cons_append, v7, v7_snoc l b, v7, List.length_cons, Nat.pow_succ]
    have : 128 * (128 ^ l.length * (b.toNat % 128)) = 128 ^ l.length * 128 * (b.toNat % 128) := by rw [← Nat.mul_assoc, Nat.mul_comm 128]
    omega
theorem v7_lt : ∀ l : List UInt8, v7 l < 128 ^ l.length
  | [] => by simp [v7]
  | b :: l => by have := v7_lt l; rw [v7, List.length_cons, Nat.pow_succ]; have := Nat.mod_lt b.toNat (show 0 < 128 by decide); omega
/-- A varint, no byte more than it needs. -/
def canon : List UInt8 → Prop
  | [] => False
  | [b] => b.toNat < 128
  | b :: c :: l => 128 ≤ b.toNat ∧ v7 (c :: l) ≠ 0 ∧ canon (c :: l)
theorem ofNat_eq_iff (n : Nat) (b : UInt8) (h : n < 256) : UInt8.ofNat n = b ↔ n = b.toNat := by
  constructor
  · rintro rfl; rw [UInt8.toNat_ofNat']; omega
  · rintro rfl; simp
theorem leb_canon : ∀ (f : Nat) (l : List UInt8), l.length ≤ f + 1 → (leb f (v7 l) = l ↔ canon l)
  | _, [], _ => by
    rename_i f _; cases f <;> simp [leb, canon]; split <;> simp
  | 0, [b], _ => by
    have hb := b.toNat_lt
    simp only [leb, v7, canon, List.cons.injEq, and_true]
    rw [ofNat_eq_iff _ _ (by omega)]; omega
  | 0, _ :: _ :: _, h => by simp at h
  | f + 1, [b], _ => by
    have hb := b.toNat_lt
    have h7 : v7 [b] = b.toNat % 128 := by simp [v7]
    rw [h7, leb, if_pos (by omega), canon, List.cons.injEq, ofNat_eq_iff _ _ (by omega)]
    simp
  | f + 1, b :: c :: l, h => by
    have hb := b.toNat_lt
    have ih := leb_canon f (c :: l) (by simpa using h)
    rw [leb, v7, canon]
    by_cases h0 : v7 (c :: l) = 0
    · rw [h0, if_pos (by omega)]; simp
    · rw [if_neg (by omega), show (b.toNat % 128 + 128 * v7 (c :: l)) / 128 = v7 (c :: l) by omega, List.cons.injEq, ih, ofNat_eq_iff _ _ (by omega)]
      constructor
      · rintro ⟨h1, h2⟩; exact ⟨by omega, h0, h2⟩
      · rintro ⟨h1, _, h2⟩; exact ⟨by omega, h2⟩
/-- n back out of its varint. -/
theorem v7_leb : ∀ (f n : Nat), n < 128 ^ (f + 1) → v7 (leb f n) = n
  | 0, n, h => by simp at h; simp only [leb, v7, UInt8.toNat_ofNat']; omega
  | f + 1, n, h => by
    rw [leb]
    split
    · simp only [v7, UInt8.toNat_ofNat']; omega
    · rw [v7, v7_leb f (n / 128) (by rw [Nat.pow_succ] at h; omega), UInt8.toNat_ofNat']; omega
theorem leb_length : ∀ (f n : Nat), 1 ≤ (leb f n).length ∧ (leb f n).length ≤ f + 1
  | 0, n => by simp [leb]
  | f + 1, n => by
    have := leb_length f (n / 128)
    rw [leb]; split <;> simp <;> omega

/-- The varint at the beginning of l, from byte k on, f bytes more at the most: its number and its length; 0 and 0 if there is none. -/
def dv (l : List UInt8) : Nat → Nat → Nat × Nat
  | 0, _ => (0, 0)
  | f + 1, k => match l[k]? with
    | none => (0, 0)
    | some b => if 128 ≤ b.toNat then dv l f (k + 1) else if b.toNat = 0 ∧ 0 < k then (0, 0) else (v7 (l.take (k + 1)), k + 1)
/-- What DecodeVarint answers. -/
def decV (l : List UInt8) : Nat × Nat := dv l 7 0
theorem dv_end (l : List UInt8) (f k : Nat) (h : l.length ≤ k ∨ f = 0) : dv l f k = (0, 0) := by
  cases f with
  | zero => rfl
  | succ f => rw [dv, List.getElem?_eq_none (by omega)]
theorem dv_more (l : List UInt8) (f k : Nat) (hk : k < l.length) (h : 128 ≤ l[k].toNat) : dv l (f + 1) k = dv l f (k + 1) := by
  rw [dv, List.getElem?_eq_getElem hk]; simp [h]
theorem dv_zero (l : List UInt8) (f k : Nat) (hk : k < l.length) (h : l[k].toNat = 0) (h0 : 0 < k) : dv l (f + 1) k = (0, 0) := by
  rw [dv, List.getElem?_eq_getElem hk]; simp [h, h0]
theorem dv_here (l : List UInt8) (f k : Nat) (hk : k < l.length) (h : l[k].toNat < 128) (h0 : k = 0 ∨ l[k].toNat ≠ 0) : dv l (f + 1) k = (v7 (l.take (k + 1)), k + 1) := by
  rw [dv, List.getElem?_eq_getElem hk]; simp only []; rw [if_neg (by omega), if_neg (by omega)]
theorem take_snoc (l : List UInt8) (k : Nat) (h : k < l.length) : l.take (k + 1) = l.take k ++ [l[k]] := by
  rw [List.take_succ_eq_append_getElem h]
theorem v7_take (l : List UInt8) (k : Nat) (h : k < l.length) : v7 (l.take (k + 1)) = v7 (l.take k) + 128 ^ k * (l[k].toNat % 128) := by
  rw [take_snoc l k h, v7_snoc, List.length_take, Nat.min_eq_left (by omega)]

theorem canon_long : ∀ (l : List UInt8), canon l → ∀ (j : Nat) (h : j < l.length), j + 1 < l.length → 128 ≤ l[j].toNat
  | [], h, _, _, _ => h.elim
  | [_], _, j, _, h1 => by simp at h1
  | b :: c :: l, h, j, hj, h1 => by
    cases j with
    | zero => exact h.1
    | succ j => exact canon_long (c :: l) h.2.2 j (by simpa using hj) (by simpa using h1)
theorem v7_snoc_ne (p : List UInt8) (b : UInt8) (h : b.toNat % 128 ≠ 0) : v7 (p ++ [b]) ≠ 0 := by
  rw [v7_snoc]
  have h1 : 0 < 128 ^ p.length := Nat.pow_pos (by decide)
  have h2 : 128 ^ p.length * 1 ≤ 128 ^ p.length * (b.toNat % 128) := Nat.mul_le_mul_left _ (by omega)
  omega
theorem canon_snoc : ∀ (p : List UInt8) (b : UInt8), (∀ (j : Nat) (h : j < p.length), 128 ≤ p[j].toNat) → (canon (p ++ [b]) ↔ b.toNat < 128 ∧ (p = [] ∨ b.toNat ≠ 0))
  | [], b, _ => by simp [canon]
  | [a], b, h => by
    have h0 := h 0 (by simp)
    simp only [List.getElem_cons_zero] at h0
    simp only [List.cons_append, List.nil_append, canon, v7]
    have : ([a] : List UInt8) ≠ [] := by simp
    constructor
    · rintro ⟨_, h1, h2⟩; exact ⟨h2, .inr (by omega)⟩
    · rintro ⟨h1, h2⟩
      have h3 : b.toNat ≠ 0 := by
        rcases h2 with h2 | h2
        · exact absurd h2 this
        · exact h2
      exact ⟨h0, by omega, h1⟩
  | a :: c :: p, b, h => by
    have h0 := h 0 (by simp)
    simp only [List.getElem_cons_zero] at h0
    have ih := canon_snoc (c :: p) b (fun j hj => by have := h (j + 1) (by simpa using hj); simpa using this)
    have e : (a :: c :: p) ++ [b] = a :: c :: (p ++ [b]) := rfl
    have e' : (c :: p) ++ [b] = c :: (p ++ [b]) := rfl
    rw [e, canon, ← e', ih]
    have key : (c :: p = [] ∨ b.toNat ≠ 0) → b.toNat ≠ 0 := fun h2 => by
      rcases h2 with h2 | h2
      · cases h2
      · exact h2
    constructor
    · rintro ⟨_, _, h1, h2⟩
      exact ⟨h1, .inr (key h2)⟩
    · rintro ⟨h1, h2⟩
      have h3 : b.toNat ≠ 0 := by
        rcases h2 with h2 | h2
        · cases h2
        · exact h2
      exact ⟨h0, v7_snoc_ne _ _ (by omega), h1, .inr h3⟩
/-- The reference's way: the first length at which the number's own varint is the prefix. -/
def sv (l : List UInt8) : Nat → Nat → Nat × Nat
  | 0, _ => (0, 0)
  | f + 1, k => if k ≤ l.length then if leb 6 (v7 (l.take k)) = l.take k then (v7 (l.take k), k) else sv l f (k + 1) else (0, 0)
theorem sv_dead (l : List UInt8) : ∀ (f k j : Nat) (hj : j < l.length), l[j].toNat < 128 → j + 1 < k → k + f ≤ 8 → sv l f k = (0, 0)
  | 0, _, _, _, _, _, _ => rfl
  | f + 1, k, j, hj, h, hjk, hf => by
    rw [sv]
    split
    · rename_i hk
      rw [if_neg, sv_dead l f (k + 1) j hj h (by omega) (by omega)]
      intro he
      have hc := (leb_canon 6 _ (by rw [List.length_take]; omega)).1 he
      have := canon_long _ hc j (by rw [List.length_take]; omega) (by rw [List.length_take]; omega)
      rw [List.getElem_take] at this
      omega
    · rfl
theorem sv_dv (l : List UInt8) : ∀ (f k : Nat), k + f = 7 → (∀ (j : Nat) (h : j < l.length), j < k → 128 ≤ l[j].toNat) → sv l f (k + 1) = dv l f k
  | 0, _, _, _ => rfl
  | f + 1, k, hf, hall => by
    rw [sv]
    by_cases hk : k + 1 ≤ l.length
    · rw [if_pos hk]
      have hkl : k < l.length := by omega
      have hcan : canon (l.take (k + 1)) ↔ l[k].toNat < 128 ∧ (l.take k = [] ∨ l[k].toNat ≠ 0) := by
        rw [take_snoc l k hkl]
        exact canon_snoc _ _ fun j hj => by
          rw [List.length_take] at hj
          rw [List.getElem_take]
          exact hall j (by omega) (by omega)
      rw [← leb_canon 6 _ (by rw [List.length_take]; omega)] at hcan
      by_cases hb : 128 ≤ l[k].toNat
      · rw [if_neg (fun he => by have := (hcan.1 he).1; omega), dv_more l f k hkl hb]
        exact sv_dv l f (k + 1) (by omega) fun j hj hjk => by
          by_cases e : j = k
          · subst e; exact hb
          · exact hall j hj (by omega)
      · by_cases hz : l[k].toNat = 0 ∧ 0 < k
        · rw [if_neg, dv_zero l f k hkl hz.1 hz.2, sv_dead l f (k + 1 + 1) k hkl (by omega) (by omega) (by omega)]
          intro he
          rcases (hcan.1 he).2 with h | h
          · have := congrArg List.length h
            rw [List.length_take, List.length_nil] at this
            omega
          · exact h hz.1
        · have hor : l.take k = [] ∨ l[k].toNat ≠ 0 := by
            by_cases h0 : l[k].toNat = 0
            · have : k = 0 := by omega
              exact .inl (by rw [this]; rfl)
            · exact .inr h0
          rw [if_pos (hcan.2 ⟨by omega, hor⟩), dv_here l f k hkl (by omega) (by omega)]
    · rw [if_neg hk, dv_end l (f + 1) k (.inl (by omega))]
theorem sv_decV (l : List UInt8) : sv l 7 1 = decV l := sv_dv l 7 0 rfl fun _ _ h => by omega
theorem canon_last : ∀ (p : List UInt8), canon p → ∃ (q : List UInt8) (b : UInt8), p = q ++ [b] ∧ b.toNat < 128 ∧ (q = [] ∨ b.toNat ≠ 0)
  | [], h => h.elim
  | [b], h => ⟨[], b, rfl, h, .inl rfl⟩
  | a :: c :: l, h => by
    obtain ⟨q, b, hq, hb, h0⟩ := canon_last (c :: l) h.2.2
    refine ⟨a :: q, b, by rw [hq]; rfl, hb, .inr ?_⟩
    intro hz
    have hv := h.2.1
    rw [hq] at hv
    rcases h0 with h0 | h0
    · rw [h0] at hv; simp [v7, hz] at hv
    · exact h0 hz
theorem dv_canon (p r : List UInt8) (hp : canon p) (hl : p.length ≤ 7) : ∀ (f k : Nat), k + f = 7 → k < p.length → dv (p ++ r) f k = (v7 p, p.length)
  | 0, k, h, hk => by omega
  | f + 1, k, h, hk => by
    have hkl : k < (p ++ r).length := by rw [List.length_append]; omega
    have hg : (p ++ r)[k] = p[k] := List.getElem_append_left hk
    by_cases hlast : k + 1 = p.length
    · obtain ⟨q, b, hq, hb, h0⟩ := canon_last p hp
      have hql : q.length = k := by have := congrArg List.length hq; simp at this; omega
      have hpk : p[k] = b := by
        have : p[k]? = some b := by rw [hq, List.getElem?_append_right (by omega), hql]; simp
        rw [List.getElem?_eq_getElem hk] at this
        exact Option.some.inj this
      rw [dv_here _ f k hkl (by rw [hg, hpk]; exact hb) (by
        rw [hg, hpk]
        rcases h0 with h0 | h0
        · left; rw [h0] at hql; exact hql.symm
        · exact .inr h0)]
      rw [hlast, List.take_left']
      rfl
    · rw [dv_more _ f k hkl (by rw [hg]; exact canon_long p hp k hk (by omega))]
      exact dv_canon p r hp hl f (k + 1) (by omega) (by omega)
/-- A varint is read back, whatever bytes follow. -/
theorem decV_leb (N : Nat) (h : N < 128 ^ 7) (r : List UInt8) : decV (leb 6 N ++ r) = (N, (leb 6 N).length) := by
  have hlen := leb_length 6 N
  have hc : canon (leb 6 N) := (leb_canon 6 _ hlen.2).1 (by rw [v7_leb 6 N h])
  have := dv_canon (leb 6 N) r hc hlen.2 7 0 rfl (by omega)
  rw [v7_leb 6 N h] at this
  exact this
/-- What is read is nothing, or a varint at the beginning. -/
theorem sv_ok (l : List UInt8) : ∀ (f k : Nat), k + f = 8 → 1 ≤ k → (sv l f k).2 = 0 ∨ (1 ≤ (sv l f k).2 ∧ (sv l f k).2 ≤ l.length ∧ leb 6 (sv l f k).1 = l.take (sv l f k).2 ∧ (sv l f k).1 < 128 ^ 7)
  | 0, _, _, _ => .inl rfl
  | f + 1, k, h, hk => by
    rw [sv]
    split
    · split
      · rename_i h1 h2
        refine .inr ⟨hk, h1, h2, ?_⟩
        have := v7_lt (l.take k)
        exact Nat.lt_of_lt_of_le this (Nat.pow_le_pow_right (by decide) (by rw [List.length_take]; omega))
      · exact sv_ok l f (k + 1) (by omega) (by omega)
    · exact .inl rfl
theorem decV_ok (l : List UInt8) : (decV l).2 = 0 ∨ (1 ≤ (decV l).2 ∧ (decV l).2 ≤ l.length ∧ leb 6 (decV l).1 = l.take (decV l).2 ∧ (decV l).1 < 128 ^ 7) := by
  rw [← sv_decV]; exact sv_ok l 7 1 rfl (by omega)
theorem drop_take_cons (l : List UInt8) (k t : Nat) (ht : t < k) (hk : k ≤ l.length) : (l.take k).drop t = l[t] :: (l.take k).drop (t + 1) := by
  rw [List.drop_eq_getElem_cons (by rw [List.length_take]; omega), List.getElem_take]

/-! ### Hexadecimal digits -/
def hexD (k : Nat) : UInt8 := UInt8.ofNat (if k < 10 then 48 + k else 87 + k)
/-- The sixteen digits in order. -/
def hexTab : ByteArray := ⟨#[48, 49, 50, 51, 52, 53, 54, 55, 56, 57, 97, 98, 99, 100, 101, 102]⟩
theorem hexTab_fin : ∀ q : Fin 16, hexTab.data[q.val]! = hexD q.val := by decide
theorem hexTab_at (q : Int) (h : q.toNat < hexTab.size) : hexTab[q.toNat] = hexD q.toNat := by
  have h16 : q.toNat < 16 := h
  have := hexTab_fin ⟨q.toNat, h16⟩
  rw [← this, getElem!_pos hexTab.data q.toNat h16]; rfl
def hex : List UInt8 → List UInt8
  | [] => []
  | b :: l => hexD (b.toNat / 16) :: hexD (b.toNat % 16) :: hex l
theorem hex_append : ∀ (l r : List UInt8), hex (l ++ r) = hex l ++ hex r
  | [], _ => rfl
  | b :: l, r => by simp [hex, hex_append l r]
theorem hex_length : ∀ l : List UInt8, (hex l).length = 2 * l.length
  | [] => rfl
  | b :: l => by simp [hex, hex_length l]; omega
/-- A digit's value; -1: no digit. -/
def nib (b : UInt8) : Int := if 48 ≤ b.toNat ∧ b.toNat ≤ 57 then (b.toNat : Int) - 48 else if 97 ≤ b.toNat ∧ b.toNat ≤ 102 then (b.toNat : Int) - 87 else -1
theorem nib_hexD_fin : ∀ k : Fin 16, nib (hexD k.val) = (k.val : Int) := by decide
theorem nib_hexD (k : Nat) (h : k < 16) : nib (hexD k) = (k : Int) := nib_hexD_fin ⟨k, h⟩
theorem nib_range (b : UInt8) : -1 ≤ nib b ∧ nib b < 16 := by
  unfold nib; split
  · omega
  · split <;> omega
theorem hexD_nib (b : UInt8) (h : 0 ≤ nib b) : hexD (nib b).toNat = b := by
  unfold nib at h ⊢
  unfold hexD
  split
  · rename_i h1
    rw [if_pos (by omega), show 48 + ((b.toNat : Int) - 48).toNat = b.toNat by omega]; simp
  · rename_i h1
    rw [if_neg h1] at h
    split
    · rename_i h2
      rw [if_neg (by omega), show 87 + ((b.toNat : Int) - 87).toNat = b.toNat by omega]; simp
    · rename_i h2
      rw [if_neg h2] at h; omega
theorem nib_none (b : UInt8) (h : ∀ k, k < 16 → hexD k ≠ b) : nib b = -1 := by
  by_cases h0 : 0 ≤ nib b
  · have hr := nib_range b
    exact absurd (hexD_nib b h0) (h _ (by omega))
  · have hr := nib_range b
    omega
/-- The string whose digits l are. -/
def unhex : List UInt8 → Option (List UInt8)
  | [] => some []
  | [_] => none
  | a :: b :: l => if nib a < 0 ∨ nib b < 0 then none else (unhex l).map (UInt8.ofNat (16 * nib a + nib b).toNat :: ·)
theorem unhex_odd : ∀ (l : List UInt8), l.length % 2 = 1 → unhex l = none
  | [], h => by simp at h
  | [_], _ => rfl
  | a :: b :: l, h => by
    rw [unhex, unhex_odd l (by simp at h; omega)]; simp
theorem drop_two (l : List UInt8) (i : Nat) (h : i + 1 < l.length) : l.drop i = l[i] :: l[i + 1] :: l.drop (i + 2) := by
  rw [List.drop_eq_getElem_cons (by omega), List.drop_eq_getElem_cons h]
theorem unhex_step (l : List UInt8) (i : Nat) (h : i + 1 < l.length) : unhex (l.drop i) = if nib l[i] < 0 ∨ nib l[i + 1] < 0 then none else (unhex (l.drop (i + 2))).map (UInt8.ofNat (16 * nib l[i] + nib l[i + 1]).toNat :: ·) := by
  rw [drop_two l i h, unhex]
theorem unhex_hex : ∀ l : List UInt8, unhex (hex l) = some l
  | [] => rfl
  | b :: l => by
    have hb := b.toNat_lt
    rw [hex, unhex, nib_hexD _ (by omega), nib_hexD _ (by omega), if_neg (by omega), unhex_hex l]
    rw [show (16 * ((b.toNat / 16 : Nat) : Int) + ((b.toNat % 16 : Nat) : Int)).toNat = b.toNat by omega]
    simp
end Go.Proofs.Ytjdjceohlcimaaa.Num
namespace Go.Proofs.Ytjdjceohlcimaaa
open Go.Lib

/-- A row: three numbers. -/
structure R where
  key : Int
  value : Int
  width : Int
deriving DecidableEq, Inhabited

namespace R
def ok (r : R) : Bool := decide (0 ≤ r.key ∧ r.key ≤ 9 ∧ 0 ≤ r.value ∧ r.value ≤ 99 ∧ 0 ≤ r.width ∧ r.width ≤ 3)
theorem ok_iff {r : R} : r.ok = true ↔ 0 ≤ r.key ∧ r.key ≤ 9 ∧ 0 ≤ r.value ∧ r.value ≤ 99 ∧ 0 ≤ r.width ∧ r.width ≤ 3 := by simp [ok]
theorem not_ok_iff {r : R} : r.ok = false ↔ ¬ (0 ≤ r.key ∧ r.key ≤ 9 ∧ 0 ≤ r.value ∧ r.value ≤ 99 ∧ 0 ≤ r.width ∧ r.width ≤ 3) := by unfold ok; rw [decide_eq_false_iff_not]
/-- Each number is an int of Go's. -/
def wf (r : R) : Prop := (-9223372036854775808 ≤ r.key ∧ r.key ≤ 9223372036854775807) ∧ (-9223372036854775808 ≤ r.value ∧ r.value ≤ 9223372036854775807) ∧ (-9223372036854775808 ≤ r.width ∧ r.width ≤ 9223372036854775807)
theorem wf_of_ok {r : R} (h : r.ok = true) : r.wf := by rw [ok_iff] at h; unfold wf; omega
def zero : R := ⟨0, 0, 0⟩
theorem zero_wf : zero.wf := by unfold wf zero; decide
def cost (r : R) : Int := if r.ok then 1 + r.width else 0
theorem cost_range (r : R) : 0 ≤ r.cost ∧ r.cost ≤ 4 := by
  unfold cost
  split
  · rename_i h; rw [ok_iff] at h; omega
  · omega
def cmp (a b : R) : Int :=
  if a.key < b.key then -1 else if b.key < a.key then 1 else if a.value < b.value then -1 else if b.value < a.value then 1 else if a.width < b.width then -1 else if b.width < a.width then 1 else 0
/-- The fields by number. -/
def fld (r : R) (k : Nat) : Int := if k = 0 then r.key else if k = 1 then r.value else r.width
theorem fld_wf {r : R} (h : r.wf) (k : Nat) : -9223372036854775808 ≤ r.fld k ∧ r.fld k ≤ 9223372036854775807 := by
  unfold wf at h; unfold fld; split
  · exact h.1
  · split
    · exact h.2.1
    · exact h.2.2
theorem cmp_less (a b : R) (k : Nat) (hk : k < 3) (he : ∀ t, t < k → a.fld t = b.fld t) (h : a.fld k < b.fld k) : cmp a b = -1 := by
  have e0 : 0 < k → a.key = b.key := fun h0 => he 0 h0
  have e1 : 1 < k → a.value = b.value := fun h0 => he 1 h0
  unfold fld at h
  unfold cmp
  split at h
  · rw [if_pos h]
  · have := e0 (by omega)
    rw [if_neg (by omega), if_neg (by omega)]
    split at h
    · rw [if_pos h]
    · have := e1 (by omega)
      rw [if_neg (by omega), if_neg (by omega), if_pos h]
theorem cmp_more (a b : R) (k : Nat) (hk : k < 3) (he : ∀ t, t < k → a.fld t = b.fld t) (h : b.fld k < a.fld k) : cmp a b = 1 := by
  have e0 : 0 < k → a.key = b.key := fun h0 => he 0 h0
  have e1 : 1 < k → a.value = b.value := fun h0 => he 1 h0
  unfold fld at h
  unfold cmp
  split at h
  · rw [if_neg (by omega), if_pos h]
  · have := e0 (by omega)
    rw [if_neg (by omega), if_neg (by omega)]
    split at h
    · rw [if_neg (by omega), if_pos h]
    · have := e1 (by omega)
      rw [if_neg (by omega), if_neg (by omega), if_neg (by omega), if_pos h]
theorem cmp_same (a b : R) (he : ∀ t, t < 3 → a.fld t = b.fld t) : cmp a b = 0 := by
  have e0 : a.key = b.key := he 0 (by omega)
  have e1 : a.value = b.value := he 1 (by omega)
  have e2 : a.width = b.width := he 2 (by omega)
  unfold cmp
  rw [if_neg (by omega), if_neg (by omega), if_neg (by omega), if_neg (by omega), if_neg (by omega), if_neg (by omega)]
/-- One comparison of two numbers. -/
def one (x y : Int) : Int := if x < y then -1 else if y < x then 1 else 0
theorem cmp_or (a b : R) : cmp a b = if one a.key b.key ≠ 0 then one a.key b.key else if one a.value b.value ≠ 0 then one a.value b.value else one a.width b.width := by
  unfold cmp one
  (repeat' split) <;> first | rfl | omega
theorem cmp_range (a b : R) : -1 ≤ cmp a b ∧ cmp a b ≤ 1 := by
  unfold cmp
  (repeat' split) <;> omega
def fmt (r : R) : List UInt8 := if r.ok then itoa r.key ++ 46 :: (itoa r.value ++ 46 :: itoa r.width) else []
end R

def total (L : List R) : Int := (L.map R.cost).sum
theorem total_nil : total [] = 0 := rfl
theorem total_snoc (L : List R) (r : R) : total (L ++ [r]) = total L + r.cost := by simp [total]
theorem total_range (L : List R) : 0 ≤ total L ∧ total L ≤ 4 * L.length := by
  induction L with
  | nil => simp [total]
  | cons r L ih =>
    have := r.cost_range
    have e : total (r :: L) = r.cost + total L := by simp [total]
    rw [e]; simp only [List.length_cons]; omega
theorem total_take (L : List R) (k : Nat) (hk : k < L.length) : total (L.take (k + 1)) = total (L.take k) + (L.getD k R.zero).cost := by
  rw [List.take_succ_eq_append_getElem hk, total_snoc]
  simp [List.getD, hk]

def allOk (L : List R) : Bool := L.all R.ok
def okRows (L : List R) : Bool := decide (L.length ≤ 24) && allOk L
theorem allOk_take (L : List R) (k : Nat) (hk : k < L.length) : allOk (L.take (k + 1)) = (allOk (L.take k) && (L.getD k R.zero).ok) := by
  have e : L.getD k R.zero = L[k] := by simp [List.getD, hk]
  unfold allOk
  rw [e, List.take_succ_eq_append_getElem hk, List.all_append]
  simp only [List.all_cons, List.all_nil, Bool.and_true]
theorem allOk_bad (L : List R) (k : Nat) (hk : k < L.length) (h : (L.getD k R.zero).ok = false) : allOk L = false := by
  unfold allOk
  rw [List.all_eq_false]
  exact ⟨L[k], List.getElem_mem hk, by simpa [List.getD, hk] using h⟩

/-! ### The format -/
theorem itoa_digits (n : Int) (h : 0 ≤ n) : ∀ b ∈ itoa n, 48 ≤ b.toNat ∧ b.toNat ≤ 57 := by
  intro b hb
  unfold itoa at hb
  rw [if_neg (by omega)] at hb
  exact Dec.digits_all _ b hb
theorem itoa_nosign (n : Int) (h : 0 ≤ n) (c : UInt8) (hc : ¬ (48 ≤ c.toNat ∧ c.toNat ≤ 57)) : c ∉ itoa n := fun hm => hc (itoa_digits n h c hm)
theorem fmt_cut (r : R) (h : r.ok = true) : Cut.cut 46 r.fmt = [itoa r.key, itoa r.value, itoa r.width] := by
  have hr := R.ok_iff.1 h
  unfold R.fmt
  rw [if_pos h, Cut.cut_app 46 _ _ (itoa_nosign _ (by omega) 46 (by decide)), Cut.cut_app 46 _ _ (itoa_nosign _ (by omega) 46 (by decide)), Cut.cut_none 46 _ (itoa_nosign _ (by omega) 46 (by decide))]
theorem fmt_nospace (r : R) : (32 : UInt8) ∉ r.fmt := by
  unfold R.fmt
  split
  · rename_i h
    have hr := R.ok_iff.1 h
    have h1 := itoa_nosign r.key (by omega) 32 (by decide)
    have h2 := itoa_nosign r.value (by omega) 32 (by decide)
    have h3 := itoa_nosign r.width (by omega) 32 (by decide)
    simp [h1, h2, h3]
  · simp
theorem fmt_ne (r : R) (h : r.ok = true) : r.fmt ≠ [] := by
  unfold R.fmt
  rw [if_pos h]; simp
theorem dd_small (n : Int) (h0 : 0 ≤ n) (h1 : n ≤ 99) : (itoa n).length ≤ 2 := by
  rw [Dec.itoa_length, if_neg (by omega)]
  have h : nDigits n.natAbs ≤ 2 := by
    rcases Nat.lt_or_ge 2 (nDigits n.natAbs) with hlt | hge
    · obtain ⟨k, hk⟩ : ∃ k, nDigits n.natAbs = k + 1 := ⟨nDigits n.natAbs - 1, by omega⟩
      have h1 := Dec.pow_le_of_nDigits k n.natAbs hk (by omega)
      have h2 : 10 ^ 2 ≤ 10 ^ k := Nat.pow_le_pow_right (by omega) (by omega)
      omega
    · exact hge
  omega
theorem fmt_length (r : R) : r.fmt.length ≤ 8 := by
  unfold R.fmt
  split
  · rename_i h
    have hr := R.ok_iff.1 h
    have h1 := dd_small r.key (by omega) (by omega)
    have h2 := dd_small r.value (by omega) (by omega)
    have h3 := dd_small r.width (by omega) (by omega)
    simp; omega
  · simp

/-- The row whose format l is. -/
def parseRow (l : List UInt8) : Option R :=
  match Cut.cut 46 l with
  | [a, b, c] => match Dec.parse a, Dec.parse b, Dec.parse c with
    | some k, some v, some w => if (R.mk k v w).ok then some ⟨k, v, w⟩ else none
    | _, _, _ => none
  | _ => none
theorem parseRow_fmt (r : R) (h : r.ok = true) : parseRow r.fmt = some r := by
  have hr := R.ok_iff.1 h
  unfold parseRow
  rw [fmt_cut r h]
  simp only
  rw [Dec.parse_some rfl (by omega) (by omega), Dec.parse_some rfl (by omega) (by omega), Dec.parse_some rfl (by omega) (by omega)]
  simp only
  rw [if_pos h]
theorem parseRow_three {l a b c : List UInt8} (h : Cut.cut 46 l = [a, b, c]) : l = a ++ 46 :: (b ++ 46 :: c) := by
  have := Cut.join_cut 46 l
  rw [h, Cut.join_two, Cut.join_two, join_one] at this
  rw [← this]; simp
theorem parseRow_inv {l : List UInt8} {r : R} (h : parseRow l = some r) : r.ok = true ∧ r.fmt = l := by
  unfold parseRow at h
  split at h
  · rename_i a b c hc
    split at h
    · rename_i k v w ha hb hw
      split at h
      · rename_i hok
        cases h
        refine ⟨hok, ?_⟩
        obtain ⟨h1, -, -⟩ := Dec.parse_inv ha
        obtain ⟨h2, -, -⟩ := Dec.parse_inv hb
        obtain ⟨h3, -, -⟩ := Dec.parse_inv hw
        unfold R.fmt
        rw [if_pos hok, parseRow_three hc, ← h1, ← h2, ← h3]
      · cases h
    · cases h
  · cases h
/-- How the reference reads it: the numbers of the three pieces, and the format must be l again. -/
def threeRow (l : List UInt8) : R :=
  ⟨(Dec.parse ((Cut.cut 46 l).getD 0 [])).getD 0, (Dec.parse ((Cut.cut 46 l).getD 1 [])).getD 0, (Dec.parse ((Cut.cut 46 l).getD 2 [])).getD 0⟩
theorem parse_range {l : List UInt8} : -999999999 ≤ (Dec.parse l).getD 0 ∧ (Dec.parse l).getD 0 ≤ 999999999 := by
  cases h : Dec.parse l with
  | none => decide
  | some n => exact (Dec.parse_inv h).2
theorem threeRow_wf (l : List UInt8) : (threeRow l).wf := by
  unfold R.wf threeRow
  have h1 := @parse_range ((Cut.cut 46 l).getD 0 [])
  have h2 := @parse_range ((Cut.cut 46 l).getD 1 [])
  have h3 := @parse_range ((Cut.cut 46 l).getD 2 [])
  simp only
  omega
theorem parseRow_yes (l : List UInt8) (h3 : (Cut.cut 46 l).length = 3) (h : (threeRow l).fmt = l) : parseRow l = some (threeRow l) := by
  have hok : (threeRow l).ok = true := by
    cases hk : (threeRow l).ok with
    | true => rfl
    | false =>
      unfold R.fmt at h
      rw [hk] at h
      simp only [Bool.false_eq_true, if_false] at h
      rw [← h] at h3
      simp [Cut.cut] at h3
  conv => lhs; rw [← h]
  exact parseRow_fmt _ hok
theorem parseRow_no (l : List UInt8) (h : (threeRow l).fmt ≠ l) : parseRow l = none := by
  cases hp : parseRow l with
  | none => rfl
  | some r =>
    obtain ⟨hok, hf⟩ := parseRow_inv hp
    have hr := R.ok_iff.1 hok
    have hc := fmt_cut r hok
    rw [hf] at hc
    have : threeRow l = r := by
      unfold threeRow
      rw [hc]
      simp only [List.getD_cons_zero, List.getD_cons_succ]
      rw [Dec.parse_some rfl (by omega) (by omega), Dec.parse_some rfl (by omega) (by omega), Dec.parse_some rfl (by omega) (by omega)]
      rfl
    rw [this] at h
    exact absurd hf h
theorem parseRow_other (l : List UInt8) (h : (Cut.cut 46 l).length ≠ 3) : parseRow l = none := by
  unfold parseRow
  split
  · rename_i a b c hc; rw [hc] at h; simp at h
  · rfl
/-- How the program reads it: three pieces, three numbers, and the row is valid. -/
theorem parseRow_pieces {l a b c : List UInt8} (h : Cut.cut 46 l = [a, b, c]) :
    parseRow l = if (Dec.parse a).isSome && (Dec.parse b).isSome && (Dec.parse c).isSome && (R.mk ((Dec.parse a).getD 0) ((Dec.parse b).getD 0) ((Dec.parse c).getD 0)).ok then some ⟨(Dec.parse a).getD 0, (Dec.parse b).getD 0, (Dec.parse c).getD 0⟩ else none := by
  unfold parseRow
  rw [h]
  simp only
  cases Dec.parse a <;> cases Dec.parse b <;> cases Dec.parse c <;> simp

/-! ### Several rows -/
def fmtRows (L : List R) : List UInt8 := if okRows L then join (L.map R.fmt) [32] else []
/-- All rows of the pieces, if each piece is a row's format. -/
def readAll : List (List UInt8) → Option (List R)
  | [] => some []
  | p :: ps => match parseRow p, readAll ps with
    | some r, some L => some (r :: L)
    | _, _ => none
theorem readAll_snoc (ps : List (List UInt8)) (p : List UInt8) : readAll (ps ++ [p]) = match readAll ps, parseRow p with | some L, some r => some (L ++ [r]) | _, _ => none := by
  induction ps with
  | nil => simp only [List.nil_append, readAll]; cases parseRow p <;> rfl
  | cons q ps ih =>
    simp only [List.cons_append, readAll]
    rw [ih]
    cases parseRow q <;> cases readAll ps <;> cases parseRow p <;> rfl
theorem readAll_next (ps : List (List UInt8)) (k : Nat) (hk : k < ps.length) (M : List R) (h : readAll (ps.take k) = some M) : readAll (ps.take (k + 1)) = (parseRow ps[k]).map fun r => M ++ [r] := by
  rw [List.take_succ_eq_append_getElem hk, readAll_snoc, h]
  cases parseRow ps[k] <;> rfl
theorem readAll_length : ∀ {ps : List (List UInt8)} {L : List R}, readAll ps = some L → L.length = ps.length
  | [], L, h => by simp only [readAll, Option.some.injEq] at h; rw [← h]; rfl
  | p :: ps, L, h => by
    unfold readAll at h
    split at h
    · rename_i r L' h1 h2; cases h; simp [readAll_length h2]
    · cases h
theorem readAll_ok : ∀ {ps : List (List UInt8)} {L : List R}, readAll ps = some L → allOk L = true ∧ L.map R.fmt = ps
  | [], L, h => by simp only [readAll, Option.some.injEq] at h; rw [← h]; exact ⟨rfl, rfl⟩
  | p :: ps, L, h => by
    unfold readAll at h
    split at h
    · rename_i r L' h1 h2
      cases h
      obtain ⟨a1, a2⟩ := parseRow_inv h1
      obtain ⟨b1, b2⟩ := readAll_ok h2
      exact ⟨by unfold allOk at b1 ⊢; rw [List.all_cons, a1, b1]; rfl, by rw [List.map_cons, a2, b2]⟩
    · cases h
theorem readAll_fmt : ∀ (L : List R), allOk L = true → readAll (L.map R.fmt) = some L
  | [], _ => rfl
  | r :: L, h => by
    unfold allOk at h
    rw [List.all_cons, Bool.and_eq_true] at h
    rw [List.map_cons, readAll, parseRow_fmt r h.1, readAll_fmt L h.2]
theorem readAll_bad : ∀ (ps : List (List UInt8)) (k : Nat) (hk : k < ps.length), parseRow ps[k] = none → readAll ps = none
  | p :: ps, 0, hk, h => by
    simp only [List.getElem_cons_zero] at h
    rw [readAll, h]
  | p :: ps, k + 1, hk, h => by
    simp only [List.getElem_cons_succ] at h
    rw [readAll, readAll_bad ps k (by simpa using hk) h]
    cases parseRow p <;> rfl
/-- The rows whose format l is. -/
def parseRows (l : List UInt8) : Option (List R) := if l = [] then some [] else if (Cut.cut 32 l).length ≤ 24 then readAll (Cut.cut 32 l) else none
theorem parseRows_empty : parseRows [] = some [] := rfl
theorem parseRows_bad (l : List UInt8) (hl : l ≠ []) (k : Nat) (hk : k < (Cut.cut 32 l).length) (h : parseRow (Cut.cut 32 l)[k] = none) : parseRows l = none := by
  unfold parseRows
  rw [if_neg hl, readAll_bad _ k hk h]
  split <;> rfl
theorem parseRows_long (l : List UInt8) (hl : l ≠ []) (h : 24 < (Cut.cut 32 l).length) : parseRows l = none := by
  unfold parseRows
  rw [if_neg hl, if_neg (by omega)]
theorem parseRows_all (l : List UInt8) (hl : l ≠ []) (M : List R) (h : readAll (Cut.cut 32 l) = some M) : parseRows l = if okRows M = true then some M else none := by
  unfold parseRows
  rw [if_neg hl, h]
  have h1 := (readAll_ok h).1
  have h2 := readAll_length h
  unfold okRows
  rw [h1, Bool.and_true]
  by_cases h24 : (Cut.cut 32 l).length ≤ 24
  · rw [if_pos h24, if_pos (by rw [decide_eq_true_eq]; omega)]
  · rw [if_neg h24, if_neg (by rw [decide_eq_true_eq]; omega)]
theorem readAll_wf {ps : List (List UInt8)} {M : List R} (h : readAll ps = some M) : ∀ r ∈ M, r.wf := by
  intro r hr
  have := (readAll_ok h).1
  unfold allOk at this
  exact R.wf_of_ok (List.all_eq_true.1 this r hr)
theorem parseRows_fmt (L : List R) (h : okRows L = true) : parseRows (fmtRows L) = some L := by
  unfold okRows at h
  have h' := h
  rw [Bool.and_eq_true, decide_eq_true_eq] at h
  unfold parseRows fmtRows
  rw [if_pos (show okRows L = true from h')]
  cases L with
  | nil => simp [join_nil]
  | cons r L =>
    have hne : join ((r :: L).map R.fmt) [32] ≠ [] := by
      have hr : r.ok = true := by have := h.2; unfold allOk at this; rw [List.all_cons, Bool.and_eq_true] at this; exact this.1
      have := fmt_ne r hr
      rw [List.map_cons, join_cons]
      intro e
      exact this (List.append_eq_nil_iff.1 e).1
    rw [if_neg hne, Cut.cut_join 32 _ (by simp) (fun p hp => by obtain ⟨q, _, rfl⟩ := List.mem_map.1 hp; exact fmt_nospace q)]
    rw [if_pos (by simpa using h.1)]
    exact readAll_fmt _ h.2
theorem parseRows_inv {l : List UInt8} {L : List R} (h : parseRows l = some L) : okRows L = true ∧ fmtRows L = l := by
  unfold parseRows at h
  split at h
  · rename_i hl
    cases h
    exact ⟨rfl, by rw [hl]; rfl⟩
  · split at h
    · rename_i hl h24
      obtain ⟨h1, h2⟩ := readAll_ok h
      have h3 := readAll_length h
      have hok : okRows L = true := by unfold okRows; rw [h1, Bool.and_true, decide_eq_true_eq]; omega
      refine ⟨hok, ?_⟩
      unfold fmtRows
      rw [if_pos hok, h2, Cut.join_cut]
    · cases h
theorem parseRows_wf {l : List UInt8} {M : List R} (h : parseRows l = some M) : ∀ r ∈ M, r.wf := by
  intro r hr
  have := (parseRows_inv h).1
  unfold okRows at this
  rw [Bool.and_eq_true] at this
  have h2 := this.2
  unfold allOk at h2
  exact R.wf_of_ok (List.all_eq_true.1 h2 r hr)
theorem joinTail_snoc (sep y : List UInt8) (r : List (List UInt8)) : joinTail sep (r ++ [y]) = joinTail sep r ++ (sep ++ y) := by simp [joinTail]
theorem join_snoc (xs : List (List UInt8)) (y sep : List UInt8) : join (xs ++ [y]) sep = if xs = [] then y else join xs sep ++ sep ++ y := by
  cases xs with
  | nil => simp [join_one]
  | cons x r =>
    rw [if_neg (by simp), List.cons_append, join_cons, join_cons, joinTail_snoc]
    simp
theorem join_fmt_length (L : List R) : (join (L.map R.fmt) [32]).length ≤ 9 * L.length := by
  cases L with
  | nil => simp [join_nil]
  | cons r L =>
    rw [List.map_cons, join_cons]
    have h0 := fmt_length r
    have : (joinTail [32] (L.map R.fmt)).length ≤ 9 * L.length := by
      induction L with
      | nil => simp [joinTail]
      | cons q L ih =>
        have hq := fmt_length q
        simp only [joinTail, List.map_cons, List.flatten_cons, List.length_append, List.length_cons, List.length_nil] at ih ⊢
        omega
    rw [List.length_append, List.length_cons]; omega
theorem okRows_length {L : List R} (h : okRows L = true) : L.length ≤ 24 := by
  unfold okRows at h
  rw [Bool.and_eq_true, decide_eq_true_eq] at h
  exact h.1
theorem fmtRows_length (L : List R) : (fmtRows L).length ≤ 216 := by
  unfold fmtRows
  split
  · rename_i h
    have := okRows_length h
    have := join_fmt_length L
    omega
  · simp
theorem join_next (L : List R) (k : Nat) (hk : k < L.length) : join ((L.take (k + 1)).map R.fmt) [32] = if k = 0 then (L.getD k R.zero).fmt else join ((L.take k).map R.fmt) [32] ++ [32] ++ (L.getD k R.zero).fmt := by
  have e : L.getD k R.zero = L[k] := by simp [List.getD, hk]
  rw [e, List.take_succ_eq_append_getElem hk, List.map_append, List.map_cons, List.map_nil, join_snoc]
  by_cases h : k = 0
  · subst h; simp
  · have hne : (L.take k).map R.fmt ≠ [] := by
      intro e
      have := congrArg List.length e
      rw [List.length_map, List.length_take, List.length_nil] at this
      omega
    rw [if_neg hne, if_neg h]
end Go.Proofs.Ytjdjceohlcimaaa
namespace Go.Proofs.Ytjdjceohlcimaaa
open Go.Lib

namespace R
theorem cmp_le (a b : R) : cmp a b ≤ 0 ↔ a.key < b.key ∨ a.key = b.key ∧ (a.value < b.value ∨ a.value = b.value ∧ a.width ≤ b.width) := by
  unfold cmp
  (repeat' split) <;> omega
theorem cmp_anti (a b : R) : cmp b a = - cmp a b := by
  unfold cmp
  (repeat' split) <;> first | rfl | omega
theorem cmp_zero (a b : R) : cmp a b = 0 ↔ a = b := by
  constructor
  · intro h
    have h1 := (cmp_le a b).1 (by omega)
    have h2 := (cmp_le b a).1 (by have := cmp_anti a b; omega)
    have e1 : a.key = b.key := by omega
    have e2 : a.value = b.value := by omega
    have e3 : a.width = b.width := by omega
    obtain ⟨a1, a2, a3⟩ := a
    obtain ⟨b1, b2, b3⟩ := b
    simp only at e1 e2 e3
    subst e1 e2 e3
    rfl
  · rintro rfl
    unfold cmp
    simp
theorem cmp_trans {a b c : R} (h : cmp a b ≤ 0) (h' : cmp b c ≤ 0) : cmp a c ≤ 0 := by
  rw [cmp_le] at *
  omega
theorem cmp_total (a b : R) : cmp a b ≤ 0 ∨ cmp b a ≤ 0 := by
  have := cmp_anti a b
  omega
/-- The order as a Bool. -/
def leb (a b : R) : Bool := decide (cmp a b ≤ 0)
theorem leb_iff {a b : R} : leb a b = true ↔ cmp a b ≤ 0 := by simp [leb]
def sort (L : List R) : List R := L.mergeSort leb
theorem sort_perm (L : List R) : (sort L).Perm L := List.mergeSort_perm L _
theorem sort_asc (L : List R) : (sort L).Pairwise fun a b => leb a b = true :=
  List.pairwise_mergeSort (le := leb) (fun a b c h h' => leb_iff.2 (cmp_trans (leb_iff.1 h) (leb_iff.1 h'))) (fun a b => by
    rcases cmp_total a b with h | h
    · simp [leb_iff.2 h]
    · simp [leb_iff.2 h]) L
/-- There is one sorted permutation. -/
theorem sort_unique {M L : List R} (hp : M.Perm L) (hs : M.Pairwise fun a b => leb a b = true) : M = sort L :=
  List.Perm.eq_of_pairwise (fun a b _ _ h h' => (cmp_zero a b).1 (by have h1 := leb_iff.1 h; have h2 := leb_iff.1 h'; have := cmp_anti a b; omega)) hs (sort_asc L) (hp.trans (sort_perm L).symm)
theorem sort_eq {M L : List R} (hp : M.Perm L) : sort M = sort L := sort_unique ((sort_perm M).trans hp) (sort_asc M)
theorem sort_sort (L : List R) : sort (sort L) = sort L := sort_eq (sort_perm L)
theorem sort_length (L : List R) : (sort L).length = L.length := (sort_perm L).length_eq
theorem sort_nil : sort [] = [] := List.eq_nil_of_length_eq_zero (sort_length [])
theorem sort_wf {L : List R} (h : ∀ r ∈ L, r.wf) : ∀ r ∈ sort L, r.wf := fun r hr => h r ((sort_perm L).mem_iff.1 hr)
theorem getD_mem {L : List R} {t : Nat} (h : t < L.length) : L.getD t zero ∈ L := by
  have : L.getD t zero = L[t] := by simp [List.getD, h]
  rw [this]; exact List.getElem_mem h
/-- One more row, at its place. -/
theorem sort_insert {L : List R} {i k : Nat} (hi : i < L.length) (hk : k ≤ i) (hlow : k = 0 ∨ cmp ((sort (L.take i)).getD (k - 1) zero) (L.getD i zero) ≤ 0) (hup : ∀ t, k ≤ t → t < i → 0 < cmp ((sort (L.take i)).getD t zero) (L.getD i zero)) :
    (sort (L.take i)).take k ++ (L.getD i zero :: (sort (L.take i)).drop k) = sort (L.take (i + 1)) := by
  have hlen : (sort (L.take i)).length = i := by rw [sort_length, List.length_take]; omega
  have hsnoc : L.take (i + 1) = L.take i ++ [L.getD i zero] := by
    rw [List.take_succ_eq_append_getElem hi]
    simp [List.getD, hi]
  apply sort_unique
  · rw [hsnoc]
    refine List.perm_middle.trans ?_
    rw [List.take_append_drop]
    exact ((List.Perm.cons _ (sort_perm _))).trans (List.perm_append_singleton _ _).symm
  · have hs := sort_asc (L.take i)
    have hd : ∀ x ∈ (sort (L.take i)).drop k, 0 < cmp x (L.getD i zero) := by
      intro x hx
      obtain ⟨t, ht, rfl⟩ := List.mem_iff_getElem.1 hx
      rw [List.length_drop, hlen] at ht
      have := hup (k + t) (by omega) (by omega)
      rw [List.getElem_drop]
      rwa [List.getD, List.getElem?_eq_getElem (by omega)] at this
    have htk : ∀ x ∈ (sort (L.take i)).take k, cmp x (L.getD i zero) ≤ 0 := by
      rcases hlow with rfl | hlow
      · intro x hx; simp at hx
      · intro x hx
        obtain ⟨t, ht, rfl⟩ := List.mem_iff_getElem.1 hx
        rw [List.length_take, hlen] at ht
        rw [List.getElem_take]
        rw [List.getD, List.getElem?_eq_getElem (by omega)] at hlow
        rcases Nat.lt_or_ge t (k - 1) with h | h
        · exact cmp_trans (leb_iff.1 (List.pairwise_iff_getElem.1 hs t (k - 1) (by omega) (by omega) h)) hlow
        · have : t = k - 1 := by omega
          subst this
          exact hlow
    rw [List.pairwise_append, List.pairwise_cons]
    refine ⟨hs.sublist (List.take_sublist _ _), ⟨fun x hx => leb_iff.2 ?_, hs.sublist (List.drop_sublist _ _)⟩, fun a ha b hb => leb_iff.2 ?_⟩
    · have := hd x hx
      have := cmp_anti x (L.getD i zero)
      omega
    · rcases List.mem_cons.1 hb with rfl | hb
      · exact htk a ha
      · refine cmp_trans (htk a ha) ?_
        have := hd b hb
        have := cmp_anti b (L.getD i zero)
        omega
/-- In ascending order. -/
def asc : List R → Bool
  | a :: b :: l => leb a b && asc (b :: l)
  | _ => true
theorem asc_iff : ∀ {L : List R}, asc L = true ↔ ∀ t, t + 1 < L.length → cmp (L.getD t zero) (L.getD (t + 1) zero) ≤ 0
  | [] => by simp [asc]
  | [a] => by simp [asc]
  | a :: b :: l => by
    rw [asc, Bool.and_eq_true, asc_iff, leb_iff]
    constructor
    · rintro ⟨h, h'⟩ t ht
      cases t with
      | zero => exact h
      | succ t => exact h' t (by simpa using ht)
    · intro h
      exact ⟨h 0 (by simp), fun t ht => h (t + 1) (by simpa using ht)⟩
theorem asc_bad {L : List R} (t : Nat) (ht : t + 1 < L.length) (h : 0 < cmp (L.getD t zero) (L.getD (t + 1) zero)) : asc L = false := by
  cases ha : asc L with
  | false => rfl
  | true => have := asc_iff.1 ha t ht; omega
theorem asc_pairwise : ∀ {L : List R}, asc L = true ↔ L.Pairwise fun a b => leb a b = true
  | [] => by simp [asc]
  | [a] => by simp [asc]
  | a :: b :: l => by
    rw [asc, Bool.and_eq_true, asc_pairwise, List.pairwise_cons (a := a)]
    constructor
    · rintro ⟨h, h'⟩
      refine ⟨fun x hx => ?_, h'⟩
      rcases List.mem_cons.1 hx with rfl | hx
      · exact h
      · exact leb_iff.2 (cmp_trans (leb_iff.1 h) (leb_iff.1 ((List.pairwise_cons.1 h').1 x hx)))
    · rintro ⟨h, h'⟩
      exact ⟨h b (by simp), h'⟩
theorem asc_sort (L : List R) : asc (sort L) = true := asc_pairwise.2 (sort_asc L)
/-- Equal as multisets. -/
def eqBags (a b : List R) : Bool := decide (sort a = sort b)
theorem eqBags_iff {a b : List R} : eqBags a b = true ↔ ∀ r, a.count r = b.count r := by
  unfold eqBags
  rw [decide_eq_true_iff, ← List.perm_iff_count]
  exact ⟨fun h => (sort_perm a).symm.trans (h ▸ sort_perm b), sort_eq⟩
theorem eqBags_sort (a : List R) : eqBags (sort a) a = true := eqBags_iff.2 fun r => (sort_perm a).count_eq r
theorem take_succ {L : List R} {k : Nat} (hk : k < L.length) : L.take (k + 1) = L.take k ++ [L.getD k zero] := by
  rw [List.take_succ_eq_append_getElem hk]
  simp [List.getD, hk]
theorem count_take {L : List R} {k : Nat} (hk : k < L.length) (r : R) : (L.take (k + 1)).count r = (L.take k).count r + if L.getD k zero = r then 1 else 0 := by
  rw [take_succ hk, List.count_append, List.count_singleton]
  simp
theorem count_le_length (L : List R) (r : R) : L.count r ≤ L.length := List.count_le_length
/-- What is left of x behind b's rows, behind k of x's rows. -/
def difTo (x b : List R) : Nat → List R
  | 0 => []
  | k + 1 => if b.count (x.getD k zero) < (x.take (k + 1)).count (x.getD k zero) then difTo x b k ++ [x.getD k zero] else difTo x b k
def dif (a b : List R) : List R := difTo (sort a) b (sort a).length
theorem difTo_count {x b : List R} : ∀ {k : Nat}, k ≤ x.length → ∀ r, (difTo x b k).count r = (x.take k).count r - b.count r
  | 0, _, r => by simp [difTo]
  | k + 1, hk, r => by
    have ih := difTo_count (b := b) (show k ≤ x.length by omega) r
    have hc := count_take (show k < x.length by omega) r
    unfold difTo
    by_cases he : x.getD k zero = r
    · rw [if_pos he] at hc
      split
      · rename_i hlt
        rw [he] at hlt ⊢
        rw [List.count_append, ih]
        simp
        omega
      · rename_i hge
        rw [he] at hge
        rw [ih]
        omega
    · rw [if_neg he] at hc
      split
      · rw [List.count_append, ih, List.count_singleton, hc, if_neg (by simpa using he)]
        omega
      · rw [ih, hc]; simp
theorem dif_count (a b : List R) (r : R) : (dif a b).count r = a.count r - b.count r := by
  unfold dif
  rw [difTo_count (Nat.le_refl _), List.take_length, (sort_perm a).count_eq]
theorem difTo_mem {x b : List R} : ∀ {k : Nat}, k ≤ x.length → ∀ r ∈ difTo x b k, r ∈ x
  | 0, _, r, h => by simp [difTo] at h
  | k + 1, hk, r, h => by
    unfold difTo at h
    split at h
    · rcases List.mem_append.1 h with h | h
      · exact difTo_mem (by omega) r h
      · rw [List.mem_singleton.1 h]; exact getD_mem (by omega)
    · exact difTo_mem (by omega) r h
theorem difTo_length {x b : List R} : ∀ {k : Nat}, (difTo x b k).length ≤ k
  | 0 => by simp [difTo]
  | k + 1 => by
    have := difTo_length (x := x) (b := b) (k := k)
    unfold difTo
    split
    · simp; omega
    · omega
theorem dif_wf {a b : List R} (h : ∀ r ∈ a, r.wf) : ∀ r ∈ dif a b, r.wf := fun r hr => sort_wf h r (difTo_mem (Nat.le_refl _) r hr)
theorem dif_length (a b : List R) : (dif a b).length ≤ a.length := by
  have := difTo_length (x := sort a) (b := b) (k := (sort a).length)
  rw [sort_length] at this
  unfold dif
  rw [sort_length]
  exact this
theorem dif_nil_iff {a b : List R} : (dif a b).length = 0 ↔ ∀ r, a.count r ≤ b.count r := by
  rw [List.length_eq_zero_iff]
  constructor
  · intro h r
    have := dif_count a b r
    rw [h, List.count_nil] at this
    omega
  · intro h
    rw [List.eq_nil_iff_forall_not_mem]
    intro r hr
    have h1 := List.count_pos_iff.2 hr
    have := dif_count a b r
    have := h r
    omega
theorem eqBags_dif (a b : List R) : eqBags a b = (decide ((dif a b).length = 0) && decide ((dif b a).length = 0)) := by
  rw [Bool.eq_iff_iff, Bool.and_eq_true, decide_eq_true_iff, decide_eq_true_iff, eqBags_iff, dif_nil_iff, dif_nil_iff]
  exact ⟨fun h => ⟨fun r => by rw [h r]; exact Nat.le_refl _, fun r => by rw [h r]; exact Nat.le_refl _⟩, fun h r => Nat.le_antisymm (h.1 r) (h.2 r)⟩
theorem dif_balance (a b : List R) : (a.length : Int) - (dif a b).length = b.length - (dif b a).length := by
  have hp : (a ++ dif b a).Perm (b ++ dif a b) := List.perm_iff_count.2 fun r => by
    rw [List.count_append, List.count_append, dif_count, dif_count]
    omega
  have := hp.length_eq
  simp only [List.length_append] at this
  omega
/-- Each row once, behind k of x's rows. -/
def distTo (x : List R) : Nat → List R
  | 0 => []
  | k + 1 => if k = 0 ∨ x.getD k zero ≠ x.getD (k - 1) zero then distTo x k ++ [x.getD k zero] else distTo x k
def dist (L : List R) : List R := distTo (sort L) (sort L).length
theorem distTo_length {x : List R} : ∀ {k : Nat}, (distTo x k).length ≤ k
  | 0 => by simp [distTo]
  | k + 1 => by
    have := distTo_length (x := x) (k := k)
    unfold distTo
    split
    · simp; omega
    · omega
theorem distTo_mem {x : List R} : ∀ {k : Nat}, k ≤ x.length → ∀ r, r ∈ distTo x k ↔ r ∈ x.take k
  | 0, _, r => by simp [distTo]
  | k + 1, hk, r => by
    have ih := distTo_mem (show k ≤ x.length by omega) r
    unfold distTo
    rw [take_succ (show k < x.length by omega)]
    split
    · rw [List.mem_append, List.mem_append, ih]
    · rename_i h
      rw [ih, List.mem_append, List.mem_singleton]
      refine ⟨.inl, ?_⟩
      rintro (h' | rfl)
      · exact h'
      · have h0 : k ≠ 0 := fun e => h (.inl e)
        have he : x.getD k zero = x.getD (k - 1) zero := Classical.byContradiction fun e => h (.inr e)
        rw [he]
        have hlt : k - 1 < (x.take k).length := by rw [List.length_take]; omega
        have : x.getD (k - 1) zero = (x.take k).getD (k - 1) zero := by simp [List.getD, List.getElem?_take]; rw [if_pos (by omega)]
        rw [this]
        exact getD_mem hlt
theorem distTo_once {x : List R} (hs : x.Pairwise fun a b => leb a b = true) : ∀ {k : Nat}, k ≤ x.length → ∀ r, (distTo x k).count r ≤ 1
  | 0, _, r => by simp [distTo]
  | k + 1, hk, r => by
    have ih := distTo_once hs (show k ≤ x.length by omega) r
    unfold distTo
    split
    · rename_i h
      rw [List.count_append, List.count_singleton]
      by_cases he : x.getD k zero = r
      · have hz : (distTo x k).count r = 0 := by
          rw [List.count_eq_zero]
          intro hm
          rw [distTo_mem (by omega)] at hm
          obtain ⟨t, ht, htr⟩ := List.mem_iff_getElem.1 hm
          rw [List.length_take] at ht
          rw [List.getElem_take] at htr
          have hk0 : k ≠ 0 := by omega
          have hne : x.getD k zero ≠ x.getD (k - 1) zero := by
            rcases h with h | h
            · exact absurd h hk0
            · exact h
          have e1 : x.getD k zero = x[k] := by simp [List.getD, show k < x.length by omega]
          have e2 : x.getD (k - 1) zero = x[k - 1] := by simp [List.getD, show k - 1 < x.length by omega]
          rw [e1, e2] at hne
          rw [e1] at he
          apply hne
          have h1 := leb_iff.1 (List.pairwise_iff_getElem.1 hs (k - 1) k (by omega) (by omega) (by omega))
          have h2 : cmp x[k] x[k - 1] ≤ 0 := by
            rcases Nat.lt_or_ge t (k - 1) with h | h
            · have := leb_iff.1 (List.pairwise_iff_getElem.1 hs t (k - 1) (by omega) (by omega) h)
              rw [htr, ← he] at this
              exact this
            · have : t = k - 1 := by omega
              subst this
              rw [htr, he, (cmp_zero r r).2 rfl]
              exact Int.le_refl _
          have := cmp_anti x[k] x[k - 1]
          exact (cmp_zero _ _).1 (by omega)
        rw [hz, he]
        simp
      · rw [if_neg (by simpa using he)]; exact ih
    · exact ih
theorem dist_mem {L : List R} {r : R} : r ∈ dist L ↔ r ∈ L := by
  unfold dist
  rw [distTo_mem (Nat.le_refl _), List.take_length, (sort_perm L).mem_iff]
theorem dist_once {L : List R} {r : R} (h : r ∈ dist L) : (dist L).count r = 1 := by
  have h1 := distTo_once (sort_asc L) (Nat.le_refl _) r
  have h2 := List.count_pos_iff.2 h
  unfold dist at h2 ⊢
  omega
theorem dist_wf {L : List R} (h : ∀ r ∈ L, r.wf) : ∀ r ∈ dist L, r.wf := fun r hr => h r (dist_mem.1 hr)
theorem dist_length (L : List R) : (dist L).length ≤ L.length := by
  have := distTo_length (x := sort L) (k := (sort L).length)
  rw [sort_length] at this
  unfold dist
  rw [sort_length]
  exact this
end R
end Go.Proofs.Ytjdjceohlcimaaa
namespace Go.Proofs.Ytjdjceohlcimaaa.R
open Go.Lib

theorem getD_l {α : Type} {A B : List α} {t : Nat} {d : α} (h : t < A.length) : (A ++ B).getD t d = A.getD t d := by simp [List.getD, List.getElem?_append_left h]
theorem getD_r {α : Type} {A B : List α} {t : Nat} {d : α} (h : A.length ≤ t) : (A ++ B).getD t d = B.getD (t - A.length) d := by simp [List.getD, List.getElem?_append_right h]
def pageOk (p : List R) : Bool := okRows p && decide (1 ≤ total p ∧ total p ≤ 8)
/-- One row more: the pages that are full, and the page that is being filled. -/
def packStep (s : List (List R) × List R) (r : R) : List (List R) × List R := if 8 < total s.2 + r.cost then (s.1 ++ [s.2], [r]) else (s.1, s.2 ++ [r])
def packSt (L : List R) : List (List R) × List R := L.foldl packStep ([], [])
def packEnd (s : List (List R) × List R) : List (List R) := if s.2 = [] then s.1 else s.1 ++ [s.2]
def pack (L : List R) : List (List R) := if okRows L then packEnd (packSt L) else []
theorem packSt_snoc (L : List R) (r : R) : packSt (L ++ [r]) = packStep (packSt L) r := by simp [packSt]
theorem packSt_next (L : List R) (k : Nat) (hk : k < L.length) : packSt (L.take (k + 1)) = packStep (packSt (L.take k)) (L.getD k R.zero) := by
  have e : L.getD k R.zero = L[k] := by simp [List.getD, hk]
  rw [e, List.take_succ_eq_append_getElem hk, packSt_snoc]
theorem allOk_append (L M : List R) : allOk (L ++ M) = (allOk L && allOk M) := by simp [allOk]
theorem cost_ok {r : R} (h : r.ok = true) : 1 ≤ r.cost := by
  unfold cost
  rw [if_pos h]
  have := (ok_iff.1 h).2.2.2.2.1
  omega
theorem total_pos {p : List R} (h : allOk p = true) (hne : p ≠ []) : 1 ≤ total p := by
  cases p with
  | nil => exact absurd rfl hne
  | cons r p =>
    unfold allOk at h
    rw [List.all_cons, Bool.and_eq_true] at h
    have h1 := cost_ok h.1
    have h2 := (total_range p).1
    have : total (r :: p) = r.cost + total p := by simp [total]
    omega
/-- What holds while rows are packed. -/
structure Packing (L : List R) (s : List (List R) × List R) : Prop where
  flat : s.1.flatten ++ s.2 = L
  full : ∀ p ∈ s.1, p ≠ [] ∧ total p ≤ 8
  fit : total s.2 ≤ 8
  none : s.2 = [] → L = []
  next : ∀ t, t + 1 < s.1.length → 8 < total (s.1.getD t []) + ((s.1.getD (t + 1) []).getD 0 R.zero).cost
  last : ∀ t, t + 1 = s.1.length → 8 < total (s.1.getD t []) + (s.2.getD 0 R.zero).cost
theorem packing (L : List R) : Packing L (packSt L) := by
  have key : ∀ (n : Nat) (L : List R), L.length = n → Packing L (packSt L) := by
    intro n
    induction n with
    | zero =>
      intro L hL
      obtain rfl := List.eq_nil_of_length_eq_zero hL
      exact ⟨rfl, fun p hp => (by cases hp), (by show (0 : Int) ≤ 8; decide), fun _ => rfl, fun t ht => (by simp [packSt] at ht), fun t ht => (by simp [packSt] at ht)⟩
    | succ n ih =>
      intro L hL
      have hne : L ≠ [] := by intro e; rw [e] at hL; simp at hL
      have hL' := List.dropLast_concat_getLast hne
      obtain ⟨M, r, rfl⟩ : ∃ M r, L = M ++ [r] := ⟨_, _, hL'.symm⟩
      have hM := ih M (by rw [List.length_append] at hL; simpa using hL)
      rw [packSt_snoc]
      generalize packSt M = s at hM ⊢
      obtain ⟨o, p⟩ := s
      have hc := r.cost_range
      unfold packStep
      simp only
      by_cases hov : 8 < total p + r.cost
      · rw [if_pos hov]
        have hpne : p ≠ [] := by
          rintro rfl
          have : total ([] : List R) = 0 := rfl
          omega
        refine ⟨?_, fun q hq => ?_, ?_, fun h => (by simp at h), fun t ht => ?_, fun t ht => ?_⟩
        · have := hM.flat
          simp only at this
          simp [this]
        · rcases List.mem_append.1 hq with hq | hq
          · exact hM.full q hq
          · rw [List.mem_singleton.1 hq]; exact ⟨hpne, hM.fit⟩
        · show total [r] ≤ 8
          have : total [r] = r.cost := by simp [total]
          omega
        · have ht' : t + 1 < o.length + 1 := by simpa using ht
          rcases Nat.lt_or_ge (t + 1) o.length with h | h
          · have := hM.next t h
            simp only at this ⊢
            rw [getD_l (by omega), getD_l h]
            exact this
          · have h1 : t + 1 = o.length := by omega
            have := hM.last t h1
            simp only at this ⊢
            rw [getD_l (by omega), getD_r (by omega), h1, Nat.sub_self]
            exact this
        · have ht' : t + 1 = o.length + 1 := by simpa using ht
          simp only
          rw [getD_r (by omega), show t - o.length = 0 by omega]
          exact hov
      · rw [if_neg hov]
        refine ⟨?_, hM.full, ?_, fun h => (by simp at h), hM.next, fun t ht => ?_⟩
        · have := hM.flat
          simp only at this
          simp [← this]
        · show total (p ++ [r]) ≤ 8
          rw [total_snoc]; omega
        · have := hM.last t ht
          simp only at this ⊢
          cases p with
          | nil =>
            have hz : M = [] := hM.none rfl
            subst hz
            have ho := hM.flat
            simp at ho
            have hol : o.length = t + 1 := ht.symm
            have h3 := hM.full (o[0]'(by omega)) (List.getElem_mem _)
            exact absurd (ho _ (List.getElem_mem (by omega : 0 < o.length))) h3.1
          | cons q p => simpa using this
  exact key L.length L rfl
theorem pack_eq {L : List R} (h : okRows L = true) : pack L = packEnd (packSt L) := if_pos h
theorem pack_bad {L : List R} (h : okRows L = false) : pack L = [] := if_neg (by rw [h]; simp)
theorem okRows_allOk {L : List R} (h : okRows L = true) : allOk L = true := by
  unfold okRows at h
  rw [Bool.and_eq_true] at h
  exact h.2
theorem pack_flat {L : List R} (h : okRows L = true) : (pack L).flatten = L := by
  have hp := (packing L).flat
  rw [pack_eq h]
  unfold packEnd
  split
  · rename_i h0; rw [h0, List.append_nil] at hp; exact hp
  · simpa using hp
theorem mem_flat {P : List (List R)} {p : List R} (h : p ∈ P) {r : R} (hr : r ∈ p) : r ∈ P.flatten := List.mem_flatten.2 ⟨p, h, hr⟩
theorem sub_length {P : List (List R)} {p : List R} (h : p ∈ P) : p.length ≤ P.flatten.length := by
  induction P with
  | nil => cases h
  | cons q P ih =>
    rw [List.flatten_cons, List.length_append]
    rcases List.mem_cons.1 h with rfl | h
    · omega
    · have := ih h; omega
theorem pack_fit {L : List R} : ∀ p ∈ packEnd (packSt L), p ≠ [] ∧ total p ≤ 8 := by
  intro p hp
  have h := packing L
  unfold packEnd at hp
  split at hp
  · exact h.full p hp
  · rename_i hne
    rcases List.mem_append.1 hp with hp | hp
    · exact h.full p hp
    · rw [List.mem_singleton.1 hp]; exact ⟨hne, h.fit⟩
theorem pack_ok {L : List R} : ∀ p ∈ pack L, pageOk p = true ∧ p ≠ [] := by
  intro p hp
  cases h : okRows L with
  | false => rw [pack_bad h] at hp; cases hp
  | true =>
    have hf := pack_flat h
    have hlen := okRows_length h
    have hall := okRows_allOk h
    have h1 := sub_length hp
    rw [hf] at h1
    have hok : allOk p = true := List.all_eq_true.2 fun r hr => List.all_eq_true.1 hall r (hf ▸ mem_flat hp hr)
    rw [pack_eq h] at hp
    obtain ⟨hne, h8⟩ := pack_fit p hp
    refine ⟨?_, hne⟩
    unfold pageOk okRows
    rw [hok, decide_eq_true (show p.length ≤ 24 by omega), decide_eq_true ⟨total_pos hok hne, h8⟩]
    rfl
theorem pack_next {L : List R} {t : Nat} (ht : t + 1 < (pack L).length) : 8 < total ((pack L).getD t []) + (((pack L).getD (t + 1) []).getD 0 R.zero).cost := by
  have h := packing L
  cases hk : okRows L with
  | false => rw [pack_bad hk] at ht; simp at ht
  | true =>
    rw [pack_eq hk] at ht ⊢
    unfold packEnd at ht ⊢
    split at ht
    · rename_i h0
      rw [if_pos h0]
      exact h.next t ht
    · rename_i h0
      rw [if_neg h0]
      rw [List.length_append, List.length_singleton] at ht
      rcases Nat.lt_or_ge (t + 1) (packSt L).1.length with h2 | h2
      · rw [getD_l (by omega), getD_l h2]
        exact h.next t h2
      · have h1 : t + 1 = (packSt L).1.length := by omega
        rw [getD_l (by omega), getD_r (by omega), h1, Nat.sub_self]
        exact h.last t h1
theorem flat_count {P : List (List R)} (h : ∀ p ∈ P, p ≠ []) : P.length ≤ P.flatten.length := by
  induction P with
  | nil => simp
  | cons p P ih =>
    have h1 := ih fun q hq => h q (List.mem_cons_of_mem _ hq)
    have h2 : 0 < p.length := List.length_pos_iff.2 (h p (List.mem_cons_self ..))
    rw [List.flatten_cons, List.length_append, List.length_cons]
    omega
theorem packSt_sizes (L : List R) : (packSt L).1.length ≤ L.length ∧ (packSt L).2.length ≤ L.length := by
  have h := packing L
  have h1 := congrArg List.length h.flat
  rw [List.length_append] at h1
  have h2 := flat_count fun p hp => (h.full p hp).1
  omega
theorem pack_length {L : List R} : (pack L).length ≤ L.length := by
  cases h : okRows L with
  | false => rw [pack_bad h]; simp
  | true =>
    have := flat_count (P := pack L) fun p hp => (pack_ok p hp).2
    rw [pack_flat h] at this
    exact this

/-! ### The string format -/
def allPages (P : List (List R)) : Bool := P.all pageOk
def pageTxt (p : List R) : List UInt8 := 91 :: (fmtRows p ++ [93])
def fmtPages (P : List (List R)) : List UInt8 := if allPages P then P.flatMap pageTxt else []
/-- The rows of a piece: what stands behind its bracket. -/
def readPage : List UInt8 → Option (List R)
  | 91 :: q => parseRows q
  | _ => none
def readPages : List (List UInt8) → Option (List (List R))
  | [] => some []
  | p :: ps => match readPage p, readPages ps with
    | some r, some L => some (r :: L)
    | _, _ => none
/-- The pages whose format l is. -/
def parsePages (l : List UInt8) : Option (List (List R)) :=
  match readPages (Cut.cut 93 l).dropLast with
  | some P => if allPages P && decide (fmtPages P = l) then some P else none
  | none => none
theorem readPages_snoc (ps : List (List UInt8)) (p : List UInt8) : readPages (ps ++ [p]) = match readPages ps, readPage p with | some L, some r => some (L ++ [r]) | _, _ => none := by
  induction ps with
  | nil => simp only [List.nil_append, readPages]; cases readPage p <;> rfl
  | cons q ps ih =>
    simp only [List.cons_append, readPages]
    rw [ih]
    cases readPage q <;> cases readPages ps <;> cases readPage p <;> rfl
theorem readPages_next (ps : List (List UInt8)) (k : Nat) (hk : k < ps.length) (M : List (List R)) (h : readPages (ps.take k) = some M) : readPages (ps.take (k + 1)) = (readPage ps[k]).map fun r => M ++ [r] := by
  rw [List.take_succ_eq_append_getElem hk, readPages_snoc, h]
  cases readPage ps[k] <;> rfl
theorem readPages_length : ∀ {ps : List (List UInt8)} {L : List (List R)}, readPages ps = some L → L.length = ps.length
  | [], L, h => by simp only [readPages, Option.some.injEq] at h; rw [← h]; rfl
  | p :: ps, L, h => by
    unfold readPages at h
    split at h
    · rename_i r L' h1 h2; cases h; simp [readPages_length h2]
    · cases h
theorem readPages_bad : ∀ (ps : List (List UInt8)) (k : Nat) (hk : k < ps.length), readPage ps[k] = none → readPages ps = none
  | p :: ps, 0, hk, h => by
    simp only [List.getElem_cons_zero] at h
    rw [readPages, h]
  | p :: ps, k + 1, hk, h => by
    simp only [List.getElem_cons_succ] at h
    rw [readPages, readPages_bad ps k (by simpa using hk) h]
    cases readPage p <;> rfl
theorem parsePages_inv {l : List UInt8} {P : List (List R)} (h : parsePages l = some P) : allPages P = true ∧ fmtPages P = l := by
  unfold parsePages at h
  split at h
  · rename_i Q hQ
    split at h
    · rename_i h1
      cases h
      rw [Bool.and_eq_true, decide_eq_true_eq] at h1
      exact h1
    · cases h
  · cases h
theorem fmt_no (r : R) (c : UInt8) (hc : ¬ (48 ≤ c.toNat ∧ c.toNat ≤ 57)) (hd : c ≠ 46) : c ∉ r.fmt := by
  unfold R.fmt
  split
  · rename_i h
    have hr := R.ok_iff.1 h
    have h1 := itoa_nosign r.key (by omega) c hc
    have h2 := itoa_nosign r.value (by omega) c hc
    have h3 := itoa_nosign r.width (by omega) c hc
    simp [h1, h2, h3, hd]
  · simp
theorem fmtRows_no (p : List R) (c : UInt8) (hc : ¬ (48 ≤ c.toNat ∧ c.toNat ≤ 57)) (hd : c ≠ 46) (hs : c ≠ 32) : c ∉ fmtRows p := by
  have key : ∀ L : List R, c ∉ joinTail [32] (L.map R.fmt) := by
    intro L
    induction L with
    | nil => simp [joinTail]
    | cons r L ih =>
      have h1 := fmt_no r c hc hd
      simp only [joinTail, List.map_cons, List.flatten_cons] at ih ⊢
      intro hm
      rcases List.mem_append.1 hm with hm | hm
      · rcases List.mem_append.1 hm with hm | hm
        · exact hs (List.mem_singleton.1 hm)
        · exact h1 hm
      · exact ih hm
  unfold fmtRows
  split
  · cases p with
    | nil => simp [join_nil]
    | cons r L =>
      rw [List.map_cons, join_cons]
      intro hm
      rcases List.mem_append.1 hm with hm | hm
      · exact fmt_no r c hc hd hm
      · exact key L hm
  · simp
theorem cut_pages : ∀ P : List (List R), Cut.cut 93 (P.flatMap pageTxt) = P.map (fun p => 91 :: fmtRows p) ++ [[]]
  | [] => rfl
  | p :: P => by
    have h93 : (93 : UInt8) ∉ (91 : UInt8) :: fmtRows p := by
      intro hm
      rcases List.mem_cons.1 hm with hm | hm
      · exact absurd hm (by decide)
      · exact fmtRows_no p 93 (by decide) (by decide) (by decide) hm
    have e : (p :: P).flatMap pageTxt = (91 :: fmtRows p) ++ 93 :: P.flatMap pageTxt := by simp [pageTxt]
    rw [e, Cut.cut_app 93 _ _ h93, cut_pages P]
    rfl
theorem pageOk_rows {p : List R} (h : pageOk p = true) : okRows p = true := by
  unfold pageOk at h
  rw [Bool.and_eq_true] at h
  exact h.1
theorem readPages_fmt : ∀ P : List (List R), allPages P = true → readPages (P.map fun p => 91 :: fmtRows p) = some P
  | [], _ => rfl
  | p :: P, h => by
    unfold allPages at h
    rw [List.all_cons, Bool.and_eq_true] at h
    rw [List.map_cons, readPages, readPages_fmt P h.2]
    show (match parseRows (fmtRows p), some P with | some r, some L => some (r :: L) | _, _ => none) = _
    rw [parseRows_fmt p (pageOk_rows h.1)]
theorem parsePages_fmt (P : List (List R)) (h : allPages P = true) : parsePages (fmtPages P) = some P := by
  have e : fmtPages P = P.flatMap pageTxt := if_pos h
  unfold parsePages
  rw [e, cut_pages, List.dropLast_concat, readPages_fmt P h]
  show (if (allPages P && decide (fmtPages P = P.flatMap pageTxt)) = true then some P else none) = _
  rw [h, e, decide_eq_true rfl]
  rfl
/-- The pages are those whose format it is, and there are no others. -/
theorem parsePages_iff {l : List UInt8} {P : List (List R)} : parsePages l = some P ↔ allPages P = true ∧ fmtPages P = l :=
  ⟨parsePages_inv, fun h => by rw [← h.2]; exact parsePages_fmt P h.1⟩
theorem pack_all (L : List R) : allPages (pack L) = true := List.all_eq_true.2 fun p hp => (pack_ok p hp).1
theorem allPages_take {P : List (List R)} {k : Nat} (hk : k < P.length) : allPages (P.take (k + 1)) = (allPages (P.take k) && pageOk P[k]) := by
  unfold allPages
  rw [List.take_succ_eq_append_getElem hk, List.all_append]
  simp only [List.all_cons, List.all_nil, Bool.and_true]
theorem allPages_bad {P : List (List R)} (k : Nat) (hk : k < P.length) (h : pageOk P[k] = false) : allPages P = false := by
  rw [← Bool.not_eq_true]
  intro ha
  have := List.all_eq_true.1 ha P[k] (List.getElem_mem hk)
  rw [h] at this
  cases this
theorem readPages_wf : ∀ {ps : List (List UInt8)} {P : List (List R)}, readPages ps = some P → ∀ p ∈ P, ∀ r ∈ p, r.wf
  | [], P, h, p, hp => by simp only [readPages, Option.some.injEq] at h; rw [← h] at hp; cases hp
  | q :: ps, P, h, p, hp => by
    unfold readPages at h
    split at h
    · rename_i r L' h1 h2
      cases h
      rcases List.mem_cons.1 hp with rfl | hp
      · unfold readPage at h1
        split at h1
        · exact parseRows_wf h1
        · cases h1
      · exact readPages_wf h2 p hp
    · cases h
theorem readPages_flat : ∀ {ps : List (List UInt8)} {P : List (List R)}, readPages ps = some P → P.flatten.length ≤ 24 * P.length
  | [], P, h => by simp only [readPages, Option.some.injEq] at h; rw [← h]; exact Nat.zero_le _
  | q :: ps, P, h => by
    unfold readPages at h
    split at h
    · rename_i r L' h1 h2
      cases h
      have h3 := readPages_flat h2
      have h4 : r.length ≤ 24 := by
        unfold readPage at h1
        split at h1
        · exact okRows_length (parseRows_inv h1).1
        · cases h1
      rw [List.flatten_cons, List.length_append, List.length_cons]
      omega
    · cases h
theorem parsePages_sizes (l : List UInt8) : ((parsePages l).getD []).length ≤ l.length ∧ ((parsePages l).getD []).flatten.length ≤ 24 * l.length := by
  unfold parsePages
  split
  · rename_i Q hQ
    split
    · have h1 := readPages_flat hQ
      have h2 := readPages_length hQ
      rw [List.length_dropLast] at h2
      have h3 := Cut.cut_length 93 l
      simp only [Option.getD_some]
      omega
    · simp
  · simp
theorem fmtPages_length (P : List (List R)) : (fmtPages P).length ≤ 218 * P.length := by
  unfold fmtPages
  split
  · rename_i hk
    clear hk
    induction P with
    | nil => simp
    | cons p P ih =>
      have h1 := fmtRows_length p
      rw [List.flatMap_cons, List.length_append, List.length_cons]
      have : (pageTxt p).length = (fmtRows p).length + 2 := by simp [pageTxt]
      omega
  · simp
end Go.Proofs.Ytjdjceohlcimaaa.R
namespace Go.Proofs.Ytjdjceohlcimaaa
namespace R

/-- How many of the rows go to the first page. -/
structure First (L : List R) (i : Nat) : Prop where
  le : i ≤ L.length
  fits : ∀ j, j < i → ¬ 8 < total (L.take j) + (L.getD j zero).cost
  over : i < L.length → 8 < total (L.take i) + (L.getD i zero).cost
theorem First.pos {L : List R} {i : Nat} (h : First L i) (hL : 0 < L.length) : 1 ≤ i := by
  rcases Nat.eq_zero_or_pos i with h0 | h0
  · subst h0
    have h1 := h.over hL
    have h2 := (L.getD 0 zero).cost_range
    have h3 : total (L.take 0) = 0 := rfl
    omega
  · exact h0
theorem fold_pre (A : List (List R)) (s : List (List R) × List R) (L : List R) : L.foldl packStep (A ++ s.1, s.2) = (A ++ (L.foldl packStep s).1, (L.foldl packStep s).2) := by
  induction L generalizing s with
  | nil => rfl
  | cons r L ih =>
    rw [List.foldl_cons, List.foldl_cons, ← ih]
    congr 1
    unfold packStep
    by_cases h : 8 < total s.2 + r.cost
    · rw [if_pos h, if_pos h]; simp
    · rw [if_neg h, if_neg h]
theorem First.st {L : List R} {i : Nat} (h : First L i) : ∀ j, j ≤ i → packSt (L.take j) = ([], L.take j) := by
  intro j
  induction j with
  | zero => intro _; rfl
  | succ j ih =>
    intro hj
    have hl := h.le
    rw [packSt_next L j (by omega), ih (by omega)]
    unfold packStep
    rw [if_neg (h.fits j (by omega)), List.take_succ_eq_append_getElem (by omega : j < L.length)]
    simp [List.getD, (by omega : j < L.length)]
/-- The first page, and the pages of the rest. -/
theorem First.pack {L : List R} {i : Nat} (h : First L i) (hL : 0 < L.length) : packEnd (packSt L) = L.take i :: packEnd (packSt (L.drop i)) := by
  have hp := h.pos hL
  have hle := h.le
  have hs := h.st i (Nat.le_refl _)
  rcases Nat.lt_or_ge i L.length with hi | hi
  · have h1 : packSt L = (L.drop i).foldl packStep ([], L.take i) := by
      conv => lhs; rw [← List.take_append_drop i L]
      unfold packSt at hs ⊢
      rw [List.foldl_append, hs]
    have hov := h.over hi
    have hg : L.getD i zero = L[i] := by simp [List.getD, hi]
    rw [hg] at hov
    have hc := L[i].cost_range
    have e1 : packStep ([], L.take i) L[i] = ([L.take i] ++ ([] : List (List R)), [L[i]]) := by
      unfold packStep
      rw [if_pos hov]
      simp
    have e2 : packStep ([], []) L[i] = ([], [L[i]]) := by
      unfold packStep
      rw [if_neg (by show ¬ 8 < total [] + _; have : total [] = 0 := rfl; omega)]
      rfl
    have h2 : packSt (L.drop i) = (L.drop (i + 1)).foldl packStep ([], [L[i]]) := by
      unfold packSt
      rw [List.drop_eq_getElem_cons hi, List.foldl_cons, e2]
    rw [h1, List.drop_eq_getElem_cons hi, List.foldl_cons, e1, fold_pre [L.take i] ([], [L[i]]), ← List.drop_eq_getElem_cons hi, h2]
    unfold packEnd
    by_cases hn : ((L.drop (i + 1)).foldl packStep ([], [L[i]])).2 = []
    · rw [if_pos hn, if_pos hn]; rfl
    · rw [if_neg hn, if_neg hn]; simp
  · have he : i = L.length := by omega
    subst he
    rw [List.take_length, List.drop_length]
    rw [List.take_length] at hs
    rw [hs]
    unfold packEnd
    rw [if_neg (by simpa using List.ne_nil_of_length_pos hL)]
    rfl
end R
end Go.Proofs.Ytjdjceohlcimaaa
namespace Go.Proofs.Ytjdjceohlcimaaa
namespace R

theorem split_one {α : Type} {b : α} : ∀ {x x' y y' : List α}, b ∉ x → b ∉ x' → x ++ b :: y = x' ++ b :: y' → x = x' ∧ y = y'
  | [], [], y, y', _, _, h => ⟨rfl, by simpa using h⟩
  | [], a :: x', y, y', _, h2, h => by
    simp only [List.nil_append, List.cons_append, List.cons.injEq] at h
    exact absurd (by rw [h.1]; exact List.mem_cons_self ..) h2
  | a :: x, [], y, y', h1, _, h => by
    simp only [List.nil_append, List.cons_append, List.cons.injEq] at h
    exact absurd (by rw [← h.1]; exact List.mem_cons_self ..) h1
  | a :: x, a' :: x', y, y', h1, h2, h => by
    simp only [List.cons_append, List.cons.injEq] at h
    obtain ⟨e1, e2⟩ := split_one (fun hm => h1 (List.mem_cons_of_mem _ hm)) (fun hm => h2 (List.mem_cons_of_mem _ hm)) h.2
    exact ⟨by rw [h.1, e1], e2⟩
theorem no93 (M : List R) : (93 : UInt8) ∉ fmtRows M := fmtRows_no M 93 (by decide) (by decide) (by decide)
theorem front_inv {l : List UInt8} {P : List (List R)} (h : parsePages l = some P) (hl : l ≠ []) :
    ∃ M t P', l = 91 :: (fmtRows M ++ 93 :: t) ∧ pageOk M = true ∧ parsePages t = some P' ∧ P = M :: P' := by
  obtain ⟨h1, h2⟩ := parsePages_inv h
  cases P with
  | nil => exact absurd h2.symm hl
  | cons M P' =>
    have h3 : pageOk M = true ∧ allPages P' = true := by
      unfold allPages at h1 ⊢
      rwa [List.all_cons, Bool.and_eq_true] at h1
    refine ⟨M, fmtPages P', P', ?_, h3.1, parsePages_fmt P' h3.2, rfl⟩
    rw [← h2]
    unfold fmtPages
    rw [if_pos h1, if_pos h3.2, List.flatMap_cons, pageTxt]
    simp
theorem front_yes {M : List R} {x t : List UInt8} (hM : pageOk M = true) (hx : parseRows x = some M) : parsePages (91 :: (x ++ 93 :: t)) = (parsePages t).map (M :: ·) := by
  obtain ⟨-, hxf⟩ := parseRows_inv hx
  subst hxf
  cases hp : parsePages t with
  | some P =>
    obtain ⟨h1, h2⟩ := parsePages_inv hp
    have h3 : allPages (M :: P) = true := by
      unfold allPages at h1 ⊢
      rw [List.all_cons, hM, h1]; rfl
    refine parsePages_iff.2 ⟨h3, ?_⟩
    rw [← h2]
    unfold fmtPages
    rw [if_pos h1, if_pos h3, List.flatMap_cons, pageTxt]
    simp
  | none =>
    cases hq : parsePages (91 :: (fmtRows M ++ 93 :: t)) with
    | none => rfl
    | some Q =>
      obtain ⟨M', t', P', h1, -, h3, -⟩ := front_inv hq (by simp)
      simp only [List.cons.injEq, true_and] at h1
      obtain ⟨-, e⟩ := split_one (no93 M) (no93 M') h1
      rw [e, h3] at hp
      cases hp
theorem front_no1 {l : List UInt8} (hl : l ≠ []) (h : l.head? ≠ some 91) : parsePages l = none := by
  cases hq : parsePages l with
  | none => rfl
  | some Q =>
    obtain ⟨M', t', P', h1, -⟩ := front_inv hq hl
    rw [h1] at h
    exact absurd rfl h
theorem front_no2 {q : List UInt8} (h : (93 : UInt8) ∉ q) : parsePages (91 :: q) = none := by
  cases hq : parsePages (91 :: q) with
  | none => rfl
  | some Q =>
    obtain ⟨M', t', P', h1, -⟩ := front_inv hq (by simp)
    simp only [List.cons.injEq, true_and] at h1
    exact absurd (by rw [h1]; simp) h
theorem front_no3 {x t : List UInt8} (hx : (93 : UInt8) ∉ x) (h : ∀ M, parseRows x = some M → pageOk M = false) : parsePages (91 :: (x ++ 93 :: t)) = none := by
  cases hq : parsePages (91 :: (x ++ 93 :: t)) with
  | none => rfl
  | some Q =>
    obtain ⟨M', t', P', h1, h2, -⟩ := front_inv hq (by simp)
    simp only [List.cons.injEq, true_and] at h1
    obtain ⟨e, -⟩ := split_one hx (no93 M') h1
    have := h M' (by rw [e]; exact parseRows_fmt M' (pageOk_rows h2))
    rw [h2] at this
    cases this
theorem parsePages_nil : parsePages [] = some [] := parsePages_iff.2 ⟨rfl, rfl⟩
end R
end Go.Proofs.Ytjdjceohlcimaaa
