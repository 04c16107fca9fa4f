/- Texts joined: Math Mem Shape Apart Only ToRow ToRows Mark OpenRow Opens MarkIn TBase TRow Pg TPage TFile TDisk ToSRow. -/
import Derived.Lib.ItoaNum
import Derived.Lib.ItoaLen
import Derived.Lib.Atoi
import Derived.Lib.Strings
import Derived.Lib.Split
import Derived.Lib.Join
import Derived.Lib.IndexMore
import Derived.Test.YthbifibnnhikjaaProg
import Derived.WalkKit
import Derived.Below
import Derived.Lib.Hide
import Derived.OwnWalk
import Derived.IntWalk
import Derived.Laws.OwnMore
import Derived.OpenShut
import Derived.Lib.SmallJoins
import Derived.Laws.AppendOwnNone
import Derived.Deep.RegionLaw
import Derived.Deep.RegionLawGrows
import Derived.Deep.AppendLies
import Derived.Lib.SliceRun
import Derived.BigQuiet
import Derived.Deep.Slices
import Derived.Deep.Strs
/- Plain mathematics: decimals, cuts, numbers, rows, bags, pages, the first page of a text. -/
namespace Go.Proofs.Ythbifibnnhikjaa.Dec
open Go.Lib

/-- The digits of u, none for 0. -/
def dd (u : Nat) : List UInt8 := if u = 0 then [] else decDigits u
theorem dd_zero : dd 0 = [] := rfl
theorem dd_step (u : Nat) (h : 0 < u) : dd u = dd (u / 10) ++ [UInt8.ofNat (48 + u % 10)] := by
  unfold dd
  rw [if_neg (by omega), decDigits]
  split
  · rename_i h1
    rw [if_pos (by omega), show u % 10 = u by omega]; rfl
  · rename_i h1
    rw [if_neg (by omega)]
theorem dd_pos (u : Nat) (h : 0 < u) : dd u = decDigits u := by unfold dd; rw [if_neg (by omega)]
theorem itoa_zero : itoa 0 = [48] := by unfold itoa; rw [if_neg (by omega)]; exact decDigits_one (i := 0) (by omega)
theorem itoa_pos (n : Int) (h : 0 < n) : itoa n = dd n.toNat := by unfold itoa; rw [if_neg (by omega), dd_pos _ (by omega)]
theorem itoa_neg (n : Int) (h : n < 0) : itoa n = 45 :: dd n.natAbs := by unfold itoa; rw [if_pos h, dd_pos _ (by omega)]
theorem dd_length_le (u : Nat) (h : u < 18446744073709551616) : (dd u).length ≤ 20 := by
  unfold dd
  split
  · simp
  · rw [decDigits_length]; exact nDigits_le20 u h

/-! ### Reading a numeral -/
theorem digit_toNat (d : Nat) (h : d < 10) : (UInt8.ofNat (48 + d)).toNat = 48 + d := by rw [UInt8.toNat_ofNat']; omega
theorem digitVal_digit (d : Nat) (h : d < 10) : digitVal (UInt8.ofNat (48 + d)) = some d := by
  unfold digitVal; rw [digit_toNat d h, if_pos (by omega)]; congr 1; omega
theorem decFrom_snoc : ∀ (l : List UInt8) (acc n d : Nat) (b : UInt8), decFrom acc l = some n → digitVal b = some d → decFrom acc (l ++ [b]) = some (n * 10 + d)
  | [], acc, n, d, b, h, hb => by
    simp only [decFrom, Option.some.injEq] at h
    subst h
    simp [decFrom, hb]
  | c :: l, acc, n, d, b, h, hb => by
    rw [List.cons_append]
    unfold decFrom at h ⊢
    cases hc : digitVal c with
    | none => rw [hc] at h; cases h
    | some x => rw [hc] at h; exact decFrom_snoc l _ n d b h hb
theorem decFrom_digits (u : Nat) : decFrom 0 (decDigits u) = some u := by
  induction u using Nat.strongRecOn with
  | ind u ih =>
    rw [decDigits]
    split
    · rename_i h
      unfold decFrom
      rw [digitVal_digit u h]
      simp [decFrom]
    · rename_i h
      rw [decFrom_snoc _ 0 (u / 10) (u % 10) _ (ih (u / 10) (by omega)) (digitVal_digit _ (by omega))]
      congr 1; omega
theorem decDigits_ne (u : Nat) : decDigits u ≠ [] := fun h => by
  have := decDigits_length u
  rw [h] at this
  have := nDigits_pos u
  simp at *; omega
theorem decNat_digits (u : Nat) : decNat (decDigits u) = some u := by
  unfold decNat
  have : (decDigits u).isEmpty = false := by
    cases h : decDigits u with
    | nil => exact absurd h (decDigits_ne u)
    | cons _ _ => rfl
  rw [this]; exact decFrom_digits u
/-- Every byte of a numeral is a digit. -/
theorem digits_all (u : Nat) : ∀ b ∈ decDigits u, 48 ≤ b.toNat ∧ b.toNat ≤ 57 := by
  induction u using Nat.strongRecOn with
  | ind u ih =>
    intro b hb
    rw [decDigits] at hb
    split at hb
    · rename_i h
      simp only [List.mem_singleton] at hb
      subst hb; rw [digit_toNat u h]; omega
    · rename_i h
      rcases List.mem_append.1 hb with hb | hb
      · exact ih (u / 10) (by omega) b hb
      · simp only [List.mem_singleton] at hb
        subst hb; rw [digit_toNat _ (by omega)]; omega
theorem atoi_itoa (n : Int) : atoi (itoa n) = some n := by
  unfold itoa
  split
  · rename_i h
    simp only [atoi]
    rw [if_pos (by decide), decNat_digits]
    simp; omega
  · rename_i h
    cases hd : decDigits n.toNat with
    | nil => exact absurd hd (decDigits_ne _)
    | cons b r =>
      have hb := digits_all n.toNat b (by rw [hd]; exact List.mem_cons_self ..)
      have h1 : (b == 45) = false := by rw [beq_eq_false_iff_ne]; rintro rfl; revert hb; decide
      have h2 : (b == 43) = false := by rw [beq_eq_false_iff_ne]; rintro rfl; revert hb; decide
      simp only [atoi, h1, h2, Bool.false_eq_true, if_false]
      rw [← hd, decNat_digits]
      simp; omega
/-- The number whose numeral l is, if it has at most nine digits. -/
def parse (l : List UInt8) : Option Int := (atoi l).bind fun n => if itoa n = l ∧ -999999999 ≤ n ∧ n ≤ 999999999 then some n else none
theorem parse_some {l : List UInt8} {n : Int} (h : itoa n = l) (h1 : -999999999 ≤ n) (h2 : n ≤ 999999999) : parse l = some n := by
  unfold parse; rw [← h, atoi_itoa]; simp [h1, h2]
theorem parse_inv {l : List UInt8} {n : Int} (h : parse l = some n) : itoa n = l ∧ -999999999 ≤ n ∧ n ≤ 999999999 := by
  unfold parse at h
  cases ha : atoi l with
  | none => rw [ha] at h; cases h
  | some m =>
    rw [ha] at h
    simp only [Option.bind_some] at h
    split at h
    · rename_i hc; cases h; exact hc
    · cases h
theorem pow_le_of_nDigits : ∀ (k u : Nat), nDigits u = k + 1 → 1 ≤ k → 10 ^ k ≤ u
  | 0, _, _, h => by omega
  | k + 1, u, h, _ => by
    have hu : ¬ u < 10 := fun hs => by rw [nDigits_small hs] at h; omega
    rw [nDigits_big hu] at h
    by_cases hk : k = 0
    · subst hk; simpa using hu
    · have := pow_le_of_nDigits k (u / 10) (by omega) (by omega)
      rw [Nat.pow_succ]; omega
theorem nine_digits (u : Nat) : nDigits u ≤ 9 ↔ u ≤ 999999999 := by
  constructor
  · intro h
    have h1 := lt_pow_nDigits u
    have h2 : 10 ^ nDigits u ≤ 10 ^ 9 := Nat.pow_le_pow_right (by decide) h
    omega
  · intro h
    exact Nat.le_of_not_lt fun hc => by
      have hk := pow_le_of_nDigits (nDigits u - 1) u (by omega) (by omega)
      have h2 : 10 ^ 9 ≤ 10 ^ (nDigits u - 1) := Nat.pow_le_pow_right (by decide) (by omega)
      omega
/-- The digits of a row of bytes read as one number, the other bytes passed over; and how many digits there are. -/
def dscan : List UInt8 → Nat × Nat := List.foldl (fun p b => if 48 ≤ b.toNat ∧ b.toNat ≤ 57 then (p.1 * 10 + (b.toNat - 48), p.2 + 1) else p) (0, 0)
theorem dscan_snoc (l : List UInt8) (b : UInt8) : dscan (l ++ [b]) = if 48 ≤ b.toNat ∧ b.toNat ≤ 57 then ((dscan l).1 * 10 + (b.toNat - 48), (dscan l).2 + 1) else dscan l := by simp [dscan]
theorem dscan_digits (u : Nat) : dscan (decDigits u) = (u, nDigits u) := by
  induction u using Nat.strongRecOn with
  | ind u ih =>
    rw [decDigits]
    split
    · rename_i h
      have := dscan_snoc [] (UInt8.ofNat (48 + u))
      rw [List.nil_append] at this
      rw [this, digit_toNat u h, if_pos (by omega), nDigits_small h]
      simp [dscan]
    · rename_i h
      rw [dscan_snoc, ih (u / 10) (by omega), digit_toNat _ (by omega), if_pos (by omega), nDigits_big h]
      simp only [Prod.mk.injEq, and_true]; omega
theorem dscan_minus (l : List UInt8) : dscan (45 :: l) = dscan l := by simp [dscan]
theorem dscan_itoa (n : Int) : dscan (itoa n) = (n.natAbs, nDigits n.natAbs) := by
  unfold itoa
  split
  · rw [dscan_minus, dscan_digits]
  · rw [dscan_digits, show n.natAbs = n.toNat by omega]
theorem dscan_le (l : List UInt8) : (dscan l).2 ≤ l.length ∧ (dscan l).1 < 10 ^ (dscan l).2 := by
  induction h : l.length generalizing l with
  | zero =>
    have := List.eq_nil_of_length_eq_zero h
    subst this; simp [dscan]
  | succ k ih =>
    obtain ⟨p, b, rfl⟩ : ∃ p b, l = p ++ [b] := ⟨l.dropLast, l.getLast (fun e => by rw [e] at h; simp at h), (List.dropLast_concat_getLast _).symm⟩
    have hp : p.length = k := by simpa using h
    have := ih p hp
    rw [dscan_snoc]
    split
    · refine ⟨by simp only []; omega, ?_⟩
      simp only []
      rw [Nat.pow_succ]; omega
    · omega
/-- The sign that the reference gives. -/
def signed (l : List UInt8) (n : Int) : Int := if l.head? = some 45 then -n else n
theorem itoa_head (n : Int) : (itoa n).head? = some 45 ↔ n < 0 := by
  unfold itoa
  split
  · rename_i h; simp [h]
  · rename_i h
    constructor
    · intro hh
      cases hd : decDigits n.toNat with
      | nil => exact absurd hd (decDigits_ne _)
      | cons b r =>
        have hb := digits_all n.toNat b (by rw [hd]; exact List.mem_cons_self ..)
        rw [hd] at hh
        simp only [List.head?_cons, Option.some.injEq] at hh
        rw [hh] at hb
        exact absurd hb (by decide)
    · intro hh; omega
theorem itoa_length (n : Int) : (itoa n).length = nDigits n.natAbs + if n < 0 then 1 else 0 := by
  unfold itoa
  split
  · rw [List.length_cons, decDigits_length]
  · rw [decDigits_length, show n.natAbs = n.toNat by omega]; rfl
/-- The reference's way to the same answer. -/
theorem parse_scan (l : List UInt8) (hk : (dscan l).2 ≤ 9) (he : itoa (signed l (dscan l).1) = l) : parse l = some (signed l (dscan l).1) := by
  have hd := dscan_itoa (signed l (dscan l).1)
  rw [he] at hd
  have h9 := (nine_digits (signed l (dscan l).1).natAbs).1 (by have := congrArg Prod.snd hd; simp only [] at this; omega)
  exact parse_some he (by omega) (by omega)
theorem parse_scan_no (l : List UInt8) (h : 10 < l.length ∨ 9 < (dscan l).2 ∨ itoa (signed l (dscan l).1) ≠ l) : parse l = none := by
  cases hp : parse l with
  | none => rfl
  | some m =>
    exfalso
    obtain ⟨h1, h2, h3⟩ := parse_inv hp
    have hd := dscan_itoa m
    have hlen := itoa_length m
    have h9 := (nine_digits m.natAbs).2 (by omega)
    rw [h1] at hd hlen
    have hh := itoa_head m
    rw [h1] at hh
    have hs : signed l (dscan l).1 = m := by
      unfold signed
      rw [hd]
      by_cases hm : m < 0
      · rw [if_pos (hh.2 hm)]; simp only []; omega
      · rw [if_neg (fun e => hm (hh.1 e))]; simp only []; omega
    rw [hs] at h
    rcases h with h | h | h
    · split at hlen <;> omega
    · rw [hd] at h; simp only [] at h; omega
    · exact h h1
/-- The program's way. -/
theorem trim_itoa (n : Int) : (trimPrefix (itoa n) [45]).length = nDigits n.natAbs := by
  unfold trimPrefix
  have hh := itoa_head n
  have hlen := itoa_length n
  cases hi : itoa n with
  | nil => rw [hi] at hlen; have := nDigits_pos n.natAbs; simp at hlen; omega
  | cons b r =>
    rw [hi] at hh hlen
    by_cases hm : n < 0
    · have hb := hh.2 hm
      simp only [List.head?_cons, Option.some.injEq] at hb
      subst hb
      rw [if_pos hm] at hlen
      have : hasPrefix (45 :: r) [45] = true := by simp [hasPrefix]
      rw [if_pos this]; simp at hlen ⊢; omega
    · have hb : b ≠ 45 := fun e => hm (hh.1 (by rw [e]; rfl))
      rw [if_neg hm] at hlen
      have : hasPrefix (b :: r) [45] = false := by
        show (((45 : UInt8) == b) && List.isPrefixOf [] r) = false
        rw [show ((45 : UInt8) == b) = false from beq_eq_false_iff_ne.2 fun e => hb e.symm]; rfl
      rw [if_neg (by rw [this]; simp)]; omega
theorem parse_long (l : List UInt8) (h : 9 < (trimPrefix l [45]).length) : parse l = none := by
  cases hp : parse l with
  | none => rfl
  | some m =>
    exfalso
    obtain ⟨h1, h2, h3⟩ := parse_inv hp
    have := trim_itoa m
    rw [h1] at this
    have h9 := (nine_digits m.natAbs).2 (by omega)
    omega
theorem parse_bad (l : List UInt8) (h : atoi l = none) : parse l = none := by unfold parse; rw [h]; rfl
theorem parse_other (l : List UInt8) (n : Int) (h : atoi l = some n) (hne : itoa n ≠ l) : parse l = none := by unfold parse; rw [h]; simp [hne]
theorem parse_same (l : List UInt8) (n : Int) (he : itoa n = l) (hl : (trimPrefix l [45]).length ≤ 9) : parse l = some n := by
  have := trim_itoa n
  rw [he] at this
  have h9 := (nine_digits n.natAbs).1 (by omega)
  exact parse_some he (by omega) (by omega)
theorem trim_length (l : List UInt8) : l.length ≤ (trimPrefix l [45]).length + 1 := by
  unfold trimPrefix; split <;> simp <;> omega
theorem parse_none (n : Int) (h : n < -999999999 ∨ 999999999 < n) : parse (itoa n) = none := by
  cases hp : parse (itoa n) with
  | none => rfl
  | some m =>
    exfalso
    obtain ⟨h1, h2, h3⟩ := parse_inv hp
    have h4 := atoi_itoa m
    rw [h1, atoi_itoa] at h4
    have := Option.some.inj h4
    omega
end Go.Proofs.Ythbifibnnhikjaa.Dec
namespace Go.Proofs.Ythbifibnnhikjaa.Cut
open Go.Lib

/-- All pieces between the signs. -/
def cut (b : UInt8) : List UInt8 → List (List UInt8)
  | [] => [[]]
  | x :: l => if x = b then [] :: cut b l else match cut b l with | h :: t => (x :: h) :: t | [] => [[x]]
theorem cut_ne (b : UInt8) (l : List UInt8) : cut b l ≠ [] := by
  cases l with
  | nil => simp [cut]
  | cons x l =>
    unfold cut
    split
    · simp
    · split <;> simp
theorem cut_none (b : UInt8) : ∀ l : List UInt8, b ∉ l → cut b l = [l]
  | [], _ => rfl
  | x :: l, h => by
    have hx : ¬ x = b := fun e => h (by simp [e])
    have hl : b ∉ l := fun e => h (by simp [e])
    unfold cut
    rw [if_neg hx, cut_none b l hl]
theorem cut_app (b : UInt8) (q : List UInt8) : ∀ p : List UInt8, b ∉ p → cut b (p ++ b :: q) = p :: cut b q
  | [], _ => by simp [cut]
  | x :: p, h => by
    have hx : ¬ x = b := fun e => h (by simp [e])
    have hl : b ∉ p := fun e => h (by simp [e])
    have ih := cut_app b q p hl
    show cut b (x :: (p ++ b :: q)) = _
    generalize cut b q = r at ih ⊢
    unfold cut
    rw [if_neg hx, ih]
theorem cut_mem (b : UInt8) : ∀ (l p : List UInt8), p ∈ cut b l → b ∉ p
  | [], p, h => by simp [cut] at h; simp [h]
  | x :: l, p, h => by
    unfold cut at h
    split at h
    · rcases List.mem_cons.1 h with rfl | h
      · simp
      · exact cut_mem b l p h
    · rename_i hx
      split at h
      · rename_i h0 t e
        rcases List.mem_cons.1 h with rfl | h
        · have := cut_mem b l h0 (by rw [e]; simp)
          intro hc
          rcases List.mem_cons.1 hc with h1 | h1
          · exact hx h1.symm
          · exact this h1
        · exact cut_mem b l p (by rw [e]; simp [h])
      · rename_i e
        exact absurd e (cut_ne b l)
theorem join_two (x y : List UInt8) (r : List (List UInt8)) (sep : List UInt8) : join (x :: y :: r) sep = x ++ sep ++ join (y :: r) sep := by
  rw [join_cons, join_cons]; simp [joinTail]
theorem join_cut (b : UInt8) : ∀ l : List UInt8, join (cut b l) [b] = l
  | [] => by simp [cut, join_one]
  | x :: l => by
    have ih := join_cut b l
    unfold cut
    split
    · rename_i hx
      subst hx
      obtain ⟨y, r, e⟩ : ∃ y r, cut x l = y :: r := by
        cases h : cut x l with
        | nil => exact absurd h (cut_ne x l)
        | cons y r => exact ⟨y, r, rfl⟩
      rw [e] at ih ⊢
      rw [join_two, ih]; simp
    · split
      · rename_i h0 t e
        rw [e] at ih
        rw [join_cons] at ih ⊢
        simp [ih]
      · rename_i e
        exact absurd e (cut_ne b l)
theorem cut_join (b : UInt8) : ∀ (ps : List (List UInt8)), ps ≠ [] → (∀ p ∈ ps, b ∉ p) → cut b (join ps [b]) = ps
  | [], h, _ => absurd rfl h
  | [x], _, h => by rw [join_one, cut_none b x (h x (by simp))]
  | x :: y :: r, _, h => by
    rw [join_two, List.append_assoc]
    show cut b (x ++ b :: join (y :: r) [b]) = _
    rw [cut_app b _ x (h x (by simp)), cut_join b (y :: r) (by simp) (fun p hp => h p (by simp [hp]))]
theorem join_mem_length (ps : List (List UInt8)) (sep p : List UInt8) (h : p ∈ ps) : p.length ≤ (join ps sep).length := by
  induction ps with
  | nil => cases h
  | cons x r ih =>
    cases r with
    | nil =>
      rw [join_one]
      rcases List.mem_cons.1 h with rfl | h
      · exact Nat.le_refl _
      · cases h
    | cons y r =>
      rw [join_two, List.length_append, List.length_append]
      rcases List.mem_cons.1 h with rfl | h
      · omega
      · have := ih h
        omega
theorem cut_length (b : UInt8) : ∀ l : List UInt8, (cut b l).length ≤ l.length + 1
  | [] => by simp [cut]
  | x :: l => by
    have ih := cut_length b l
    unfold cut
    split
    · simp; omega
    · split
      · rename_i h0 t e; rw [e] at ih; simp at ih ⊢; omega
      · simp

/-- What a loop from the left has gathered: the pieces that are closed, and the one that is open. -/
def scan (b : UInt8) (l : List UInt8) : List (List UInt8) × List UInt8 := l.foldl (fun p x => if x = b then (p.1 ++ [p.2], []) else (p.1, p.2 ++ [x])) ([], [])
theorem scan_nil (b : UInt8) : scan b [] = ([], []) := rfl
theorem scan_snoc (b : UInt8) (l : List UInt8) (x : UInt8) : scan b (l ++ [x]) = if x = b then ((scan b l).1 ++ [(scan b l).2], []) else ((scan b l).1, (scan b l).2 ++ [x]) := by
  simp [scan]
theorem cut_snoc (b : UInt8) (x : UInt8) : ∀ (l : List UInt8) (d : List (List UInt8)) (c : List UInt8), cut b l = d ++ [c] → cut b (l ++ [x]) = if x = b then d ++ [c] ++ [[]] else d ++ [c ++ [x]]
  | [], d, c, h => by
    simp only [cut] at h
    have hd : d = [] := by
      cases d with
      | nil => rfl
      | cons a t => simp at h
    subst hd
    simp only [List.nil_append, List.cons.injEq, and_true] at h
    subst h
    by_cases hx : x = b <;> simp [cut, hx]
  | y :: l, d, c, h => by
    show cut b (y :: (l ++ [x])) = _
    unfold cut at h ⊢
    by_cases hy : y = b
    · rw [if_pos hy] at h ⊢
      cases d with
      | nil =>
        simp only [List.nil_append, List.cons.injEq] at h
        exact absurd h.2 (cut_ne b l)
      | cons a t =>
        simp only [List.cons_append, List.cons.injEq] at h
        rw [cut_snoc b x l t c h.2, ← h.1]
        split <;> simp
    · rw [if_neg hy] at h ⊢
      obtain ⟨p, r, e⟩ : ∃ p r, cut b l = p :: r := by
        cases h : cut b l with
        | nil => exact absurd h (cut_ne b l)
        | cons y r => exact ⟨y, r, rfl⟩
      rw [e] at h
      simp only at h
      cases d with
      | nil =>
        simp only [List.nil_append, List.cons.injEq] at h
        obtain ⟨h1, h2⟩ := h
        subst h2
        rw [cut_snoc b x l [] p (by rw [e]; rfl)]
        subst h1
        by_cases hx : x = b <;> simp [hx]
      | cons a t =>
        simp only [List.cons_append, List.cons.injEq] at h
        obtain ⟨h1, h2⟩ := h
        rw [cut_snoc b x l (p :: t) c (by rw [e, h2]; rfl)]
        subst h1
        by_cases hx : x = b <;> simp [hx]
theorem cut_scan (b : UInt8) (l : List UInt8) : cut b l = (scan b l).1 ++ [(scan b l).2] := by
  suffices h : ∀ (n : Nat) (l : List UInt8), l.length = n → cut b l = (scan b l).1 ++ [(scan b l).2] from h _ l rfl
  intro n
  induction n with
  | zero => intro l h; obtain rfl := List.eq_nil_of_length_eq_zero h; rfl
  | succ n ih =>
    intro l h
    obtain ⟨l', x, rfl⟩ : ∃ l' x, l = l' ++ [x] := ⟨l.dropLast, l.getLast (by intro e; simp [e] at h), (List.dropLast_concat_getLast _).symm⟩
    have hl : l'.length = n := by simpa using h
    rw [cut_snoc b x l' _ _ (ih l' hl), scan_snoc]
    split <;> simp
theorem scan_suffix (b : UInt8) (l : List UInt8) : ∃ p, l = p ++ (scan b l).2 := by
  suffices h : ∀ (n : Nat) (l : List UInt8), l.length = n → ∃ p, l = p ++ (scan b l).2 from h _ l rfl
  intro n
  induction n with
  | zero => intro l h; obtain rfl := List.eq_nil_of_length_eq_zero h; exact ⟨[], rfl⟩
  | succ n ih =>
    intro l h
    obtain ⟨l', x, rfl⟩ : ∃ l' x, l = l' ++ [x] := ⟨l.dropLast, l.getLast (by intro e; simp [e] at h), (List.dropLast_concat_getLast _).symm⟩
    obtain ⟨p, hp⟩ := ih l' (by simpa using h)
    rw [scan_snoc]
    split
    · exact ⟨l' ++ [x], by simp⟩
    · refine ⟨p, ?_⟩
      show l' ++ [x] = p ++ ((scan b l').2 ++ [x])
      rw [← List.append_assoc, ← hp]
/-- Where the open piece begins, after t signs. -/
def mark (b : UInt8) (l : List UInt8) (t : Nat) : Nat := t - (scan b (l.take t)).2.length
theorem scan_take (b : UInt8) (l : List UInt8) (t : Nat) (ht : t ≤ l.length) : (scan b (l.take t)).2 = (l.take t).drop (mark b l t) ∧ mark b l t ≤ t := by
  obtain ⟨p, hp⟩ := scan_suffix b (l.take t)
  have hl : (l.take t).length = t := by simp [ht]
  have hs : p.length + (scan b (l.take t)).2.length = t := by
    have := congrArg List.length hp
    rw [List.length_append, hl] at this; omega
  refine ⟨?_, by unfold mark; omega⟩
  have hm : mark b l t = p.length := by unfold mark; omega
  rw [hm]
  conv => rhs; rw [hp]
  simp
theorem scan_next (b : UInt8) (l : List UInt8) (t : Nat) (ht : t < l.length) : scan b (l.take (t + 1)) = if l[t] = b then ((scan b (l.take t)).1 ++ [(l.take t).drop (mark b l t)], []) else ((scan b (l.take t)).1, (scan b (l.take t)).2 ++ [l[t]]) := by
  rw [List.take_succ_eq_append_getElem ht, scan_snoc, (scan_take b l t (by omega)).1]
theorem mark_hit (b : UInt8) (l : List UInt8) (t : Nat) (ht : t < l.length) (h : l[t] = b) : mark b l (t + 1) = t + 1 := by
  unfold mark; rw [scan_next b l t ht, if_pos h]; simp
theorem mark_miss (b : UInt8) (l : List UInt8) (t : Nat) (ht : t < l.length) (h : ¬ l[t] = b) : mark b l (t + 1) = mark b l t := by
  have := (scan_take b l t (by omega)).2
  unfold mark at this ⊢; rw [scan_next b l t ht, if_neg h]
  simp
theorem mark_zero (b : UInt8) (l : List UInt8) : mark b l 0 = 0 := by simp [mark]
theorem scan_length (b : UInt8) (l : List UInt8) : (scan b l).1.length ≤ l.length := by
  have h := cut_length b l
  rw [cut_scan] at h
  simpa using h

/-- strings.SplitN at a sign. -/
theorem index_sign (b : UInt8) (l : List UInt8) : (index l [b] = -1 ∧ b ∉ l) ∨ ∃ i : Nat, index l [b] = i ∧ i < l.length ∧ b ∉ l.take i ∧ l = l.take i ++ b :: l.drop (i + 1) := by
  have hocc : ∀ j, occAt l [b] j = true ↔ l[j]? = some b := by
    intro j
    constructor
    · exact occAt_head rfl
    · intro h
      unfold occAt
      have hj : j < l.length := (List.getElem?_eq_some_iff.1 h).1
      rw [List.drop_eq_getElem_cons hj]
      have : l[j] = b := (List.getElem?_eq_some_iff.1 h).2
      simp [this]
  rcases index_spec l [b] with ⟨h, hn⟩ | ⟨i, h, hi, ho, hno⟩
  · refine .inl ⟨h, fun hm => ?_⟩
    obtain ⟨j, hj, e⟩ := List.getElem_of_mem hm
    have := hn j (by omega)
    rw [(hocc j).2 (by rw [List.getElem?_eq_getElem hj, e])] at this
    cases this
  · right
    have hb := (hocc i).1 ho
    have hlt : i < l.length := (List.getElem?_eq_some_iff.1 hb).1
    refine ⟨i, h, hlt, fun hm => ?_, ?_⟩
    · obtain ⟨j, hj, e⟩ := List.getElem_of_mem hm
      simp at hj e
      have := hno j (by omega)
      rw [(hocc j).2 (by rw [List.getElem?_eq_getElem (by omega), e])] at this
      cases this
    · conv => lhs; rw [← List.take_append_drop i l, List.drop_eq_getElem_cons hlt]
      rw [(List.getElem?_eq_some_iff.1 hb).2]
theorem splitK_sign (b : UInt8) : ∀ (k : Nat) (l : List UInt8), splitK [b] 0 k l = cut b l ∧ (cut b l).length ≤ k + 1 ∨ (splitK [b] 0 k l).length = k + 1 ∧ k + 1 < (cut b l).length
  | 0, l => by
    by_cases h : b ∈ l
    · right
      refine ⟨rfl, ?_⟩
      rcases index_sign b l with ⟨_, hn⟩ | ⟨i, _, hlt, hn, e⟩
      · exact absurd h hn
      · rw [e, cut_app b _ _ hn]
        have := List.length_pos_iff.2 (cut_ne b (l.drop (i + 1)))
        simp only [List.length_cons]; omega
    · left
      rw [cut_none b l h]
      exact ⟨rfl, by simp⟩
  | k + 1, l => by
    rcases index_sign b l with ⟨h, hn⟩ | ⟨i, h, hlt, hn, e⟩
    · left
      unfold splitK
      rw [h, cut_none b l hn]
      simp
    · have hs : splitK [b] 0 (k + 1) l = l.take i :: splitK [b] 0 k (l.drop (i + 1)) := by
        rw [splitK, h]
        have : ((i : Int) == -1) = false := by rw [beq_eq_false_iff_ne]; omega
        rw [this]; simp
      have hc : cut b l = l.take i :: cut b (l.drop (i + 1)) := by
        conv => lhs; rw [e]
        exact cut_app b _ _ hn
      rw [hs, hc]
      rcases splitK_sign b k (l.drop (i + 1)) with ⟨h1, h2⟩ | ⟨h1, h2⟩
      · exact .inl ⟨by rw [h1], by simp; omega⟩
      · exact .inr ⟨by simp [h1], by simp; omega⟩
/-- At most n pieces: all of them, or n and there are more. -/
theorem splitN_sign (b : UInt8) (n : Nat) (hn : 1 ≤ n) (l : List UInt8) : splitK [b] 0 (min n (l.length + 1) - 1) l = cut b l ∧ (cut b l).length ≤ n ∨ (splitK [b] 0 (min n (l.length + 1) - 1) l).length = n ∧ n < (cut b l).length := by
  have hc := cut_length b l
  rcases splitK_sign b (min n (l.length + 1) - 1) l with ⟨h1, h2⟩ | ⟨h1, h2⟩
  · exact .inl ⟨h1, by omega⟩
  · refine .inr ⟨by omega, by omega⟩
end Go.Proofs.Ythbifibnnhikjaa.Cut
namespace Go.Proofs.Ythbifibnnhikjaa.Num

/-! ### Fixed width -/
/-- The w lowest base-256 digits of n, the highest first. -/
def be : Nat → Nat → List UInt8
  | 0, _ => []
  | w + 1, n => UInt8.ofNat (n / 256 ^ w) :: be w n
theorem be_length : ∀ w n, (be w n).length = w
  | 0, _ => rfl
  | w + 1, n => by simp [be, be_length w n]
/-- The number that a row of bytes spells, the highest byte first. -/
def bval : List UInt8 → Nat := List.foldl (fun a b => a * 256 + b.toNat) 0
theorem bval_snoc (l : List UInt8) (b : UInt8) : bval (l ++ [b]) = bval l * 256 + b.toNat := by simp [bval]
theorem bval_nil : bval [] = 0 := rfl
theorem foldl_bval : ∀ (l : List UInt8) (a : Nat), List.foldl (fun a b => a * 256 + b.toNat) a l = a * 256 ^ l.length + List.foldl (fun a b => a * 256 + b.toNat) 0 l
  | [], a => by simp
  | b :: l, a => by
    rw [List.foldl_cons, foldl_bval l, List.foldl_cons, foldl_bval l (0 * 256 + b.toNat), List.length_cons, Nat.pow_succ, Nat.zero_mul, Nat.zero_add, Nat.add_mul]
    have : a * 256 * 256 ^ l.length = a * (256 ^ l.length * 256) := by rw [Nat.mul_assoc, Nat.mul_comm 256]
    omega
theorem bval_cons (b : UInt8) (l : List UInt8) : bval (b :: l) = b.toNat * 256 ^ l.length + bval l := by
  rw [bval, List.foldl_cons, foldl_bval]; simp
theorem bval_lt : ∀ (l : List UInt8), bval l < 256 ^ l.length
  | [] => by simp [bval]
  | b :: l => by
    have ih := bval_lt l
    have hb : b.toNat ≤ 255 := by have := b.toNat_lt; omega
    have hm := Nat.mul_le_mul_right (256 ^ l.length) hb
    rw [bval_cons, List.length_cons, Nat.pow_succ]
    omega
theorem bval_be : ∀ (w n : Nat), bval (be w n) = n % 256 ^ w
  | 0, n => by simp [be, bval, Nat.mod_one]
  | w + 1, n => by
    rw [be, bval_cons, be_length, bval_be w n, UInt8.toNat_ofNat', Nat.pow_succ 256 w, Nat.mod_mul, Nat.mul_comm, Nat.add_comm]
theorem be_append (w n k : Nat) : be (w + k) n = be k (n / 256 ^ w) ++ be w n := by
  induction k with
  | zero => simp [be]
  | succ k ih => rw [← Nat.add_assoc, be, ih, be, Nat.div_div_eq_div_mul, Nat.pow_add]; rfl
theorem be_get : ∀ (w n j : Nat) (h : j < (be w n).length), (be w n)[j] = UInt8.ofNat (n / 256 ^ (w - 1 - j))
  | 0, _, _, h => by simp [be] at h
  | w + 1, n, 0, _ => by simp [be]
  | w + 1, n, j + 1, h => by
    simp only [be, List.getElem_cons_succ]
    rw [be_get w n j, show w + 1 - 1 - (j + 1) = w - 1 - j by omega]
/-- The row while it is being filled from the front. -/
def fx (w n k : Nat) : List UInt8 := (be w n).take k ++ List.replicate (w - k) 0
theorem fx_zero (w n : Nat) : fx w n 0 = List.replicate w 0 := by simp [fx]
theorem fx_end (w n : Nat) : fx w n w = be w n := by
  unfold fx; rw [List.take_of_length_le (by rw [be_length]; exact Nat.le_refl _)]; simp
theorem fx_step (w n k : Nat) (h : k < w) : (fx w n k).set k (UInt8.ofNat (n / 256 ^ (w - 1 - k))) = fx w n (k + 1) := by
  have hl : ((be w n).take k).length = k := by rw [List.length_take, be_length]; omega
  unfold fx
  rw [List.set_append_right _ _ (by omega), hl, Nat.sub_self, show w - k = w - (k + 1) + 1 by omega, List.replicate_succ, List.set_cons_zero, List.take_succ_eq_append_getElem (by rw [be_length]; exact h), be_get, List.append_assoc]
  rfl
theorem fx_length (w n k : Nat) (h : k ≤ w) : (fx w n k).length = w := by simp [fx, be_length]; omega
/-- What EncodeFixed answers. -/
def encFixed (n width : Int) : List UInt8 := if 1 ≤ width ∧ width ≤ 7 ∧ 0 ≤ n ∧ n.toNat < 256 ^ width.toNat then be width.toNat n.toNat else []
/-- What DecodeFixed answers: the number, and whether there is one. -/
def decFixedOk (l : List UInt8) (width : Int) : Bool := decide (1 ≤ width ∧ width ≤ 7 ∧ width ≤ l.length)
def decFixed (l : List UInt8) (width : Int) : Nat := if decFixedOk l width then bval (l.take width.toNat) else 0

/-! ### Varints -/
/-- LEB128 with at most f further bytes. -/
def leb : Nat → Nat → List UInt8
  | 0, n => [UInt8.ofNat n]
  | f + 1, n => if n < 128 then [UInt8.ofNat n] else UInt8.ofNat (128 + n % 128) :: leb f (n / 128)
/-- What EncodeVarint answers. -/
def encVar (n : Int) : List UInt8 := if 0 ≤ n ∧ n ≤ 562949953421311 then leb 6 n.toNat else []
/-- Seven bits a byte, the lowest group first. -/
def v7 : List UInt8 → Nat
  | [] => 0
  | b :: l => b.toNat % 128 + 128 * v7 l
theorem v7_snoc : ∀ (l : List UInt8) (b : UInt8), v7 (l ++ [b]) = v7 l + 128 ^ l.length * (b.toNat % 128)
  | [], b => by simp [v7]
  | c :: l, b => by
    rw [List.cons_append, v7, v7_snoc l b, v7, List.length_cons, Nat.pow_succ]
    have : 128 * (128 ^ l.length * (b.toNat % 128)) = 128 ^ l.length * 128 * (b.toNat % 128) := by rw [← Nat.mul_assoc, Nat.mul_comm 128]
    omega
theorem v7_lt : ∀ l : List UInt8, v7 l < 128 ^ l.length
  | [] => by simp [v7]
  | b :: l => by have := v7_lt l; rw [v7, List.length_cons, Nat.pow_succ]; have := Nat.mod_lt b.toNat (show 0 < 128 by decide); omega
/-- A varint, no byte more than it needs. -/
def canon : List UInt8 → Prop
  | [] => False
  | [b] => b.toNat < 128
  | b :: c :: l => 128 ≤ b.toNat ∧ v7 (c :: l) ≠ 0 ∧ canon (c :: l)
theorem ofNat_eq_iff (n : Nat) (b : UInt8) (h : n < 256) : UInt8.ofNat n = b ↔ n = b.toNat := by
  constructor
  · rintro rfl; rw [UInt8.toNat_ofNat']; omega
  · rintro rfl; simp
theorem leb_canon : ∀ (f : Nat) (l : List UInt8), l.length ≤ f + 1 → (leb f (v7 l) = l ↔ canon l)
  | _, [], _ => by
    rename_i f _; cases f <;> simp [leb, canon]; split <;> simp
  | 0, [b], _ => by
    have hb := b.toNat_lt
    simp only [leb, v7, canon, List.cons.injEq, and_true]
    rw [ofNat_eq_iff _ _ (by omega)]; omega
  | 0, _ :: _ :: _, h => by simp at h
  | f + 1, [b], _ => by
    have hb := b.toNat_lt
    have h7 : v7 [b] = b.toNat % 128 := by simp [v7]
    rw [h7, leb, if_pos (by omega), canon, List.cons.injEq, ofNat_eq_iff _ _ (by omega)]
    simp
  | f + 1, b :: c :: l, h => by
    have hb := b.toNat_lt
    have ih := leb_canon f (c :: l) (by simpa using h)
    rw [leb, v7, canon]
    by_cases h0 : v7 (c :: l) = 0
    · rw [h0, if_pos (by omega)]; simp
    · rw [if_neg (by omega), show (b.toNat % 128 + 128 * v7 (c :: l)) / 128 = v7 (c :: l) by omega, List.cons.injEq, ih, ofNat_eq_iff _ _ (by omega)]
      constructor
      · rintro ⟨h1, h2⟩; exact ⟨by omega, h0, h2⟩
      · rintro ⟨h1, _, h2⟩; exact ⟨by omega, h2⟩
/-- n back out of its varint. -/
theorem v7_leb : ∀ (f n : Nat), n < 128 ^ (f + 1) → v7 (leb f n) = n
  | 0, n, h => by simp at h; simp only [leb, v7, UInt8.toNat_ofNat']; omega
  | f + 1, n, h => by
    rw [leb]
    split
    · simp only [v7, UInt8.toNat_ofNat']; omega
    · rw [v7, v7_leb f (n / 128) (by rw [Nat.pow_succ] at h; omega), UInt8.toNat_ofNat']; omega
theorem leb_length : ∀ (f n : Nat), 1 ≤ (leb f n).length ∧ (leb f n).length ≤ f + 1
  | 0, n => by simp [leb]
  | f + 1, n => by
    have := leb_length f (n / 128)
    rw [leb]; split <;> simp <;> omega

/-- The varint at the beginning of l, from byte k on, f bytes more at the most: its number and its length; 0 and 0 if there is none. -/
def dv (l : List UInt8) : Nat → Nat → Nat × Nat
  | 0, _ => (0, 0)
  | f + 1, k => match l[k]? with
    | none => (0, 0)
    | some b => if 128 ≤ b.toNat then dv l f (k + 1) else if b.toNat = 0 ∧ 0 < k then (0, 0) else (v7 (l.take (k + 1)), k + 1)
/-- What DecodeVarint answers. -/
def decV (l : List UInt8) : Nat × Nat := dv l 7 0
theorem dv_end (l : List UInt8) (f k : Nat) (h : l.length ≤ k ∨ f = 0) : dv l f k = (0, 0) := by
  cases f with
  | zero => rfl
  | succ f => rw [dv, List.getElem?_eq_none (by omega)]
theorem dv_more (l : List UInt8) (f k : Nat) (hk : k < l.length) (h : 128 ≤ l[k].toNat) : dv l (f + 1) k = dv l f (k + 1) := by
  rw [dv, List.getElem?_eq_getElem hk]; simp [h]
theorem dv_zero (l : List UInt8) (f k : Nat) (hk : k < l.length) (h : l[k].toNat = 0) (h0 : 0 < k) : dv l (f + 1) k = (0, 0) := by
  rw [dv, List.getElem?_eq_getElem hk]; simp [h, h0]
theorem dv_here (l : List UInt8) (f k : Nat) (hk : k < l.length) (h : l[k].toNat < 128) (h0 : k = 0 ∨ l[k].toNat ≠ 0) : dv l (f + 1) k = (v7 (l.take (k + 1)), k + 1) := by
  rw [dv, List.getElem?_eq_getElem hk]; simp only []; rw [if_neg (by omega), if_neg (by omega)]
theorem take_snoc (l : List UInt8) (k : Nat) (h : k < l.length) : l.take (k + 1) = l.take k ++ [l[k]] := by
  rw [List.take_succ_eq_append_getElem h]
theorem v7_take (l : List UInt8) (k : Nat) (h : k < l.length) : v7 (l.take (k + 1)) = v7 (l.take k) + 128 ^ k * (l[k].toNat % 128) := by
  rw [take_snoc l k h, v7_snoc, List.length_take, Nat.min_eq_left (by omega)]

theorem canon_long : ∀ (l : List UInt8), canon l → ∀ (j : Nat) (h : j < l.length), j + 1 < l.length → 128 ≤ l[j].toNat
  | [], h, _, _, _ => h.elim
  | [_], _, j, _, h1 => by simp at h1
  | b :: c :: l, h, j, hj, h1 => by
    cases j with
    | zero => exact h.1
    | succ j => exact canon_long (c :: l) h.2.2 j (by simpa using hj) (by simpa using h1)
theorem v7_snoc_ne (p : List UInt8) (b : UInt8) (h : b.toNat % 128 ≠ 0) : v7 (p ++ [b]) ≠ 0 := by
  rw [v7_snoc]
  have h1 : 0 < 128 ^ p.length := Nat.pow_pos (by decide)
  have h2 : 128 ^ p.length * 1 ≤ 128 ^ p.length * (b.toNat % 128) := Nat.mul_le_mul_left _ (by omega)
  omega
theorem canon_snoc : ∀ (p : List UInt8) (b : UInt8), (∀ (j : Nat) (h : j < p.length), 128 ≤ p[j].toNat) → (canon (p ++ [b]) ↔ b.toNat < 128 ∧ (p = [] ∨ b.toNat ≠ 0))
  | [], b, _ => by simp [canon]
  | [a], b, h => by
    have h0 := h 0 (by simp)
    simp only [List.getElem_cons_zero] at h0
    simp only [List.cons_append, List.nil_append, canon, v7]
    have : ([a] : List UInt8) ≠ [] := by simp
    constructor
    · rintro ⟨_, h1, h2⟩; exact ⟨h2, .inr (by omega)⟩
    · rintro ⟨h1, h2⟩
      have h3 : b.toNat ≠ 0 := by
        rcases h2 with h2 | h2
        · exact absurd h2 this
        · exact h2
      exact ⟨h0, by omega, h1⟩
  | a :: c :: p, b, h => by
    have h0 := h 0 (by simp)
    simp only [List.getElem_cons_zero] at h0
    have ih := canon_snoc (c :: p) b (fun j hj => by have := h (j + 1) (by simpa using hj); simpa using this)
    have e : (a :: c :: p) ++ [b] = a :: c :: (p ++ [b]) := rfl
    have e' : (c :: p) ++ [b] = c :: (p ++ [b]) := rfl
    rw [e, canon, ← e', ih]
    have key : (c :: p = [] ∨ b.toNat ≠ 0) → b.toNat ≠ 0 := fun h2 => by
      rcases h2 with h2 | h2
      · cases h2
      · exact h2
    constructor
    · rintro ⟨_, _, h1, h2⟩
      exact ⟨h1, .inr (key h2)⟩
    · rintro ⟨h1, h2⟩
      have h3 : b.toNat ≠ 0 := by
        rcases h2 with h2 | h2
        · cases h2
        · exact h2
      exact ⟨h0, v7_snoc_ne _ _ (by omega), h1, .inr h3⟩
/-- The reference's way: the first length at which the number's own varint is the prefix. -/
def sv (l : List UInt8) : Nat → Nat → Nat × Nat
  | 0, _ => (0, 0)
  | f + 1, k => if k ≤ l.length then if leb 6 (v7 (l.take k)) = l.take k then (v7 (l.take k), k) else sv l f (k + 1) else (0, 0)
theorem sv_dead (l : List UInt8) : ∀ (f k j : Nat) (hj : j < l.length), l[j].toNat < 128 → j + 1 < k → k + f ≤ 8 → sv l f k = (0, 0)
  | 0, _, _, _, _, _, _ => rfl
  | f + 1, k, j, hj, h, hjk, hf => by
    rw [sv]
    split
    · rename_i hk
      rw [if_neg, sv_dead l f (k + 1) j hj h (by omega) (by omega)]
      intro he
      have hc := (leb_canon 6 _ (by rw [List.length_take]; omega)).1 he
      have := canon_long _ hc j (by rw [List.length_take]; omega) (by rw [List.length_take]; omega)
      rw [List.getElem_take] at this
      omega
    · rfl
theorem sv_dv (l : List UInt8) : ∀ (f k : Nat), k + f = 7 → (∀ (j : Nat) (h : j < l.length), j < k → 128 ≤ l[j].toNat) → sv l f (k + 1) = dv l f k
  | 0, _, _, _ => rfl
  | f + 1, k, hf, hall => by
    rw [sv]
    by_cases hk : k + 1 ≤ l.length
    · rw [if_pos hk]
      have hkl : k < l.length := by omega
      have hcan : canon (l.take (k + 1)) ↔ l[k].toNat < 128 ∧ (l.take k = [] ∨ l[k].toNat ≠ 0) := by
        rw [take_snoc l k hkl]
        exact canon_snoc _ _ fun j hj => by
          rw [List.length_take] at hj
          rw [List.getElem_take]
          exact hall j (by omega) (by omega)
      rw [← leb_canon 6 _ (by rw [List.length_take]; omega)] at hcan
      by_cases hb : 128 ≤ l[k].toNat
      · rw [if_neg (fun he => by have := (hcan.1 he).1; omega), dv_more l f k hkl hb]
        exact sv_dv l f (k + 1) (by omega) fun j hj hjk => by
          by_cases e : j = k
          · subst e; exact hb
          · exact hall j hj (by omega)
      · by_cases hz : l[k].toNat = 0 ∧ 0 < k
        · rw [if_neg, dv_zero l f k hkl hz.1 hz.2, sv_dead l f (k + 1 + 1) k hkl (by omega) (by omega) (by omega)]
          intro he
          rcases (hcan.1 he).2 with h | h
          · have := congrArg List.length h
            rw [List.length_take, List.length_nil] at this
            omega
          · exact h hz.1
        · have hor : l.take k = [] ∨ l[k].toNat ≠ 0 := by
            by_cases h0 : l[k].toNat = 0
            · have : k = 0 := by omega
              exact .inl (by rw [this]; rfl)
            · exact .inr h0
          rw [if_pos (hcan.2 ⟨by omega, hor⟩), dv_here l f k hkl (by omega) (by omega)]
    · rw [if_neg hk, dv_end l (f + 1) k (.inl (by omega))]
theorem sv_decV (l : List UInt8) : sv l 7 1 = decV l := sv_dv l 7 0 rfl fun _ _ h => by omega
theorem canon_last : ∀ (p : List UInt8), canon p → ∃ (q : List UInt8) (b : UInt8), p = q ++ [b] ∧ b.toNat < 128 ∧ (q = [] ∨ b.toNat ≠ 0)
  | [], h => h.elim
  | [b], h => ⟨[], b, rfl, h, .inl rfl⟩
  | a :: c :: l, h => by
    obtain ⟨q, b, hq, hb, h0⟩ := canon_last (c :: l) h.2.2
    refine ⟨a :: q, b, by rw [hq]; rfl, hb, .inr ?_⟩
    intro hz
    have hv := h.2.1
    rw [hq] at hv
    rcases h0 with h0 | h0
    · rw [h0] at hv; simp [v7, hz] at hv
    · exact h0 hz
theorem dv_canon (p r : List UInt8) (hp : canon p) (hl : p.length ≤ 7) : ∀ (f k : Nat), k + f = 7 → k < p.length → dv (p ++ r) f k = (v7 p, p.length)
  | 0, k, h, hk => by omega
  | f + 1, k, h, hk => by
    have hkl : k < (p ++ r).length := by rw [List.length_append]; omega
    have hg : (p ++ r)[k] = p[k] := List.getElem_append_left hk
    by_cases hlast : k + 1 = p.length
    · obtain ⟨q, b, hq, hb, h0⟩ := canon_last p hp
      have hql : q.length = k := by have := congrArg List.length hq; simp at this; omega
      have hpk : p[k] = b := by
        have : p[k]? = some b := by rw [hq, List.getElem?_append_right (by omega), hql]; simp
        rw [List.getElem?_eq_getElem hk] at this
        exact Option.some.inj this
      rw [dv_here _ f k hkl (by rw [hg, hpk]; exact hb) (by
        rw [hg, hpk]
        rcases h0 with h0 | h0
        · left; rw [h0] at hql; exact hql.symm
        · exact .inr h0)]
      rw [hlast, List.take_left']
      rfl
    · rw [dv_more _ f k hkl (by rw [hg]; exact canon_long p hp k hk (by omega))]
      exact dv_canon p r hp hl f (k + 1) (by omega) (by omega)
/-- A varint is read back, whatever bytes follow. -/
theorem decV_leb (N : Nat) (h : N < 128 ^ 7) (r : List UInt8) : decV (leb 6 N ++ r) = (N, (leb 6 N).length) := by
  have hlen := leb_length 6 N
  have hc : canon (leb 6 N) := (leb_canon 6 _ hlen.2).1 (by rw [v7_leb 6 N h])
  have := dv_canon (leb 6 N) r hc hlen.2 7 0 rfl (by omega)
  rw [v7_leb 6 N h] at this
  exact this
/-- What is read is nothing, or a varint at the beginning. -/
theorem sv_ok (l : List UInt8) : ∀ (f k : Nat), k + f = 8 → 1 ≤ k → (sv l f k).2 = 0 ∨ (1 ≤ (sv l f k).2 ∧ (sv l f k).2 ≤ l.length ∧ leb 6 (sv l f k).1 = l.take (sv l f k).2 ∧ (sv l f k).1 < 128 ^ 7)
  | 0, _, _, _ => .inl rfl
  | f + 1, k, h, hk => by
    rw [sv]
    split
    · split
      · rename_i h1 h2
        refine .inr ⟨hk, h1, h2, ?_⟩
        have := v7_lt (l.take k)
        exact Nat.lt_of_lt_of_le this (Nat.pow_le_pow_right (by decide) (by rw [List.length_take]; omega))
      · exact sv_ok l f (k + 1) (by omega) (by omega)
    · exact .inl rfl
theorem decV_ok (l : List UInt8) : (decV l).2 = 0 ∨ (1 ≤ (decV l).2 ∧ (decV l).2 ≤ l.length ∧ leb 6 (decV l).1 = l.take (decV l).2 ∧ (decV l).1 < 128 ^ 7) := by
  rw [← sv_decV]; exact sv_ok l 7 1 rfl (by omega)
theorem drop_take_cons (l : List UInt8) (k t : Nat) (ht : t < k) (hk : k ≤ l.length) : (l.take k).drop t = l[t] :: (l.take k).drop (t + 1) := by
  rw [List.drop_eq_getElem_cons (by rw [List.length_take]; omega), List.getElem_take]

/-! ### Hexadecimal digits -/
def hexD (k : Nat) : UInt8 := UInt8.ofNat (if k < 10 then 48 + k else 87 + k)
/-- The sixteen digits in order. -/
def hexTab : ByteArray := ⟨#[48, 49, 50, 51, 52, 53, 54, 55, 56, 57, 97, 98, 99, 100, 101, 102]⟩
theorem hexTab_fin : ∀ q : Fin 16, hexTab.data[q.val]! = hexD q.val := by decide
theorem hexTab_at (q : Int) (h : q.toNat < hexTab.size) : hexTab[q.toNat] = hexD q.toNat := by
  have h16 : q.toNat < 16 := h
  have := hexTab_fin ⟨q.toNat, h16⟩
  rw [← this, getElem!_pos hexTab.data q.toNat h16]; rfl
def hex : List UInt8 → List UInt8
  | [] => []
  | b :: l => hexD (b.toNat / 16) :: hexD (b.toNat % 16) :: hex l
theorem hex_append : ∀ (l r : List UInt8), hex (l ++ r) = hex l ++ hex r
  | [], _ => rfl
  | b :: l, r => by simp [hex, hex_append l r]
theorem hex_length : ∀ l : List UInt8, (hex l).length = 2 * l.length
  | [] => rfl
  | b :: l => by simp [hex, hex_length l]; omega
/-- A digit's value; -1: no digit. -/
def nib (b : UInt8) : Int := if 48 ≤ b.toNat ∧ b.toNat ≤ 57 then (b.toNat : Int) - 48 else if 97 ≤ b.toNat ∧ b.toNat ≤ 102 then (b.toNat : Int) - 87 else -1
theorem nib_hexD_fin : ∀ k : Fin 16, nib (hexD k.val) = (k.val : Int) := by decide
theorem nib_hexD (k : Nat) (h : k < 16) : nib (hexD k) = (k : Int) := nib_hexD_fin ⟨k, h⟩
theorem nib_range (b : UInt8) : -1 ≤ nib b ∧ nib b < 16 := by
  unfold nib; split
  · omega
  · split <;> omega
theorem hexD_nib (b : UInt8) (h : 0 ≤ nib b) : hexD (nib b).toNat = b := by
  unfold nib at h ⊢
  unfold hexD
  split
  · rename_i h1
    rw [if_pos (by omega), show 48 + ((b.toNat : Int) - 48).toNat = b.toNat by omega]; simp
  · rename_i h1
    rw [if_neg h1] at h
    split
    · rename_i h2
      rw [if_neg (by omega), show 87 + ((b.toNat : Int) - 87).toNat = b.toNat by omega]; simp
    · rename_i h2
      rw [if_neg h2] at h; omega
theorem nib_none (b : UInt8) (h : ∀ k, k < 16 → hexD k ≠ b) : nib b = -1 := by
  by_cases h0 : 0 ≤ nib b
  · have hr := nib_range b
    exact absurd (hexD_nib b h0) (h _ (by omega))
  · have hr := nib_range b
    omega
/-- The string whose digits l are. -/
def unhex : List UInt8 → Option (List UInt8)
  | [] => some []
  | [_] => none
  | a :: b :: l => if nib a < 0 ∨ nib b < 0 then none else (unhex l).map (UInt8.ofNat (16 * nib a + nib b).toNat :: ·)
theorem unhex_odd : ∀ (l : List UInt8), l.length % 2 = 1 → unhex l = none
  | [], h => by simp at h
  | [_], _ => rfl
  | a :: b :: l, h => by
    rw [unhex, unhex_odd l (by simp at h; omega)]; simp
theorem drop_two (l : List UInt8) (i : Nat) (h : i + 1 < l.length) : l.drop i = l[i] :: l[i + 1] :: l.drop (i + 2) := by
  rw [List.drop_eq_getElem_cons (by omega), List.drop_eq_getElem_cons h]
theorem unhex_step (l : List UInt8) (i : Nat) (h : i + 1 < l.length) : unhex (l.drop i) = if nib l[i] < 0 ∨ nib l[i + 1] < 0 then none else (unhex (l.drop (i + 2))).map (UInt8.ofNat (16 * nib l[i] + nib l[i + 1]).toNat :: ·) := by
  rw [drop_two l i h, unhex]
theorem unhex_hex : ∀ l : List UInt8, unhex (hex l) = some l
  | [] => rfl
  | b :: l => by
    have hb := b.toNat_lt
    rw [hex, unhex, nib_hexD _ (by omega), nib_hexD _ (by omega), if_neg (by omega), unhex_hex l]
    rw [show (16 * ((b.toNat / 16 : Nat) : Int) + ((b.toNat % 16 : Nat) : Int)).toNat = b.toNat by omega]
    simp
end Go.Proofs.Ythbifibnnhikjaa.Num
namespace Go.Proofs.Ythbifibnnhikjaa
open Go.Lib

/-- A row: three numbers. -/
structure R where
  key : Int
  value : Int
  width : Int
deriving DecidableEq, Inhabited

namespace R
def ok (r : R) : Bool := decide (0 ≤ r.key ∧ r.key ≤ 9 ∧ 0 ≤ r.value ∧ r.value ≤ 99 ∧ 0 ≤ r.width ∧ r.width ≤ 3)
theorem ok_iff {r : R} : r.ok = true ↔ 0 ≤ r.key ∧ r.key ≤ 9 ∧ 0 ≤ r.value ∧ r.value ≤ 99 ∧ 0 ≤ r.width ∧ r.width ≤ 3 := by simp [ok]
theorem not_ok_iff {r : R} : r.ok = false ↔ ¬ (0 ≤ r.key ∧ r.key ≤ 9 ∧ 0 ≤ r.value ∧ r.value ≤ 99 ∧ 0 ≤ r.width ∧ r.width ≤ 3) := by unfold ok; rw [decide_eq_false_iff_not]
/-- Each number is an int of Go's. -/
def wf (r : R) : Prop := (-9223372036854775808 ≤ r.key ∧ r.key ≤ 9223372036854775807) ∧ (-9223372036854775808 ≤ r.value ∧ r.value ≤ 9223372036854775807) ∧ (-9223372036854775808 ≤ r.width ∧ r.width ≤ 9223372036854775807)
theorem wf_of_ok {r : R} (h : r.ok = true) : r.wf := by rw [ok_iff] at h; unfold wf; omega
def zero : R := ⟨0, 0, 0⟩
theorem zero_wf : zero.wf := by unfold wf zero; decide
def cost (r : R) : Int := if r.ok then 1 + r.width else 0
theorem cost_range (r : R) : 0 ≤ r.cost ∧ r.cost ≤ 4 := by
  unfold cost
  split
  · rename_i h; rw [ok_iff] at h; omega
  · omega
def cmp (a b : R) : Int :=
  if a.key < b.key then -1 else if b.key < a.key then 1 else if a.value < b.value then -1 else if b.value < a.value then 1 else if a.width < b.width then -1 else if b.width < a.width then 1 else 0
/-- The fields by number. -/
def fld (r : R) (k : Nat) : Int := if k = 0 then r.key else if k = 1 then r.value else r.width
theorem fld_wf {r : R} (h : r.wf) (k : Nat) : -9223372036854775808 ≤ r.fld k ∧ r.fld k ≤ 9223372036854775807 := by
  unfold wf at h; unfold fld; split
  · exact h.1
  · split
    · exact h.2.1
    · exact h.2.2
theorem cmp_less (a b : R) (k : Nat) (hk : k < 3) (he : ∀ t, t < k → a.fld t = b.fld t) (h : a.fld k < b.fld k) : cmp a b = -1 := by
  have e0 : 0 < k → a.key = b.key := fun h0 => he 0 h0
  have e1 : 1 < k → a.value = b.value := fun h0 => he 1 h0
  unfold fld at h
  unfold cmp
  split at h
  · rw [if_pos h]
  · have := e0 (by omega)
    rw [if_neg (by omega), if_neg (by omega)]
    split at h
    · rw [if_pos h]
    · have := e1 (by omega)
      rw [if_neg (by omega), if_neg (by omega), if_pos h]
theorem cmp_more (a b : R) (k : Nat) (hk : k < 3) (he : ∀ t, t < k → a.fld t = b.fld t) (h : b.fld k < a.fld k) : cmp a b = 1 := by
  have e0 : 0 < k → a.key = b.key := fun h0 => he 0 h0
  have e1 : 1 < k → a.value = b.value := fun h0 => he 1 h0
  unfold fld at h
  unfold cmp
  split at h
  · rw [if_neg (by omega), if_pos h]
  · have := e0 (by omega)
    rw [if_neg (by omega), if_neg (by omega)]
    split at h
    · rw [if_neg (by omega), if_pos h]
    · have := e1 (by omega)
      rw [if_neg (by omega), if_neg (by omega), if_neg (by omega), if_pos h]
theorem cmp_same (a b : R) (he : ∀ t, t < 3 → a.fld t = b.fld t) : cmp a b = 0 := by
  have e0 : a.key = b.key := he 0 (by omega)
  have e1 : a.value = b.value := he 1 (by omega)
  have e2 : a.width = b.width := he 2 (by omega)
  unfold cmp
  rw [if_neg (by omega), if_neg (by omega), if_neg (by omega), if_neg (by omega), if_neg (by omega), if_neg (by omega)]
/-- One comparison of two numbers. -/
def one (x y : Int) : Int := if x < y then -1 else if y < x then 1 else 0
theorem cmp_or (a b : R) : cmp a b = if one a.key b.key ≠ 0 then one a.key b.key else if one a.value b.value ≠ 0 then one a.value b.value else one a.width b.width := by
  unfold cmp one
  (repeat' split) <;> first | rfl | omega
theorem cmp_range (a b : R) : -1 ≤ cmp a b ∧ cmp a b ≤ 1 := by
  unfold cmp
  (repeat' split) <;> omega
def fmt (r : R) : List UInt8 := if r.ok then itoa r.key ++ 46 :: (itoa r.value ++ 46 :: itoa r.width) else []
end R

def total (L : List R) : Int := (L.map R.cost).sum
theorem total_nil : total [] = 0 := rfl
theorem total_snoc (L : List R) (r : R) : total (L ++ [r]) = total L + r.cost := by simp [total]
theorem total_range (L : List R) : 0 ≤ total L ∧ total L ≤ 4 * L.length := by
  induction L with
  | nil => simp [total]
  | cons r L ih =>
    have := r.cost_range
    have e : total (r :: L) = r.cost + total L := by simp [total]
    rw [e]; simp only [List.length_cons]; omega
theorem total_take (L : List R) (k : Nat) (hk : k < L.length) : total (L.take (k + 1)) = total (L.take k) + (L.getD k R.zero).cost := by
  rw [List.take_succ_eq_append_getElem hk, total_snoc]
  simp [List.getD, hk]

def allOk (L : List R) : Bool := L.all R.ok
def okRows (L : List R) : Bool := decide (L.length ≤ 24) && allOk L
theorem allOk_take (L : List R) (k : Nat) (hk : k < L.length) : allOk (L.take (k + 1)) = (allOk (L.take k) && (L.getD k R.zero).ok) := by
  have e : L.getD k R.zero = L[k] := by simp [List.getD, hk]
  unfold allOk
  rw [e, List.take_succ_eq_append_getElem hk, List.all_append]
  simp only [List.all_cons, List.all_nil, Bool.and_true]
theorem allOk_bad (L : List R) (k : Nat) (hk : k < L.length) (h : (L.getD k R.zero).ok = false) : allOk L = false := by
  unfold allOk
  rw [List.all_eq_false]
  exact ⟨L[k], List.getElem_mem hk, by simpa [List.getD, hk] using h⟩

/-! ### The format -/
theorem itoa_digits (n : Int) (h : 0 ≤ n) : ∀ b ∈ itoa n, 48 ≤ b.toNat ∧ b.toNat ≤ 57 := by
  intro b hb
  unfold itoa at hb
  rw [if_neg (by omega)] at hb
  exact Dec.digits_all _ b hb
theorem itoa_nosign (n : Int) (h : 0 ≤ n) (c : UInt8) (hc : ¬ (48 ≤ c.toNat ∧ c.toNat ≤ 57)) : c ∉ itoa n := fun hm => hc (itoa_digits n h c hm)
theorem fmt_cut (r : R) (h : r.ok = true) : Cut.cut 46 r.fmt = [itoa r.key, itoa r.value, itoa r.width] := by
  have hr := R.ok_iff.1 h
  unfold R.fmt
  rw [if_pos h, Cut.cut_app 46 _ _ (itoa_nosign _ (by omega) 46 (by decide)), Cut.cut_app 46 _ _ (itoa_nosign _ (by omega) 46 (by decide)), Cut.cut_none 46 _ (itoa_nosign _ (by omega) 46 (by decide))]
theorem fmt_nospace (r : R) : (32 : UInt8) ∉ r.fmt := by
  unfold R.fmt
  split
  · rename_i h
    have hr := R.ok_iff.1 h
    have h1 := itoa_nosign r.key (by omega) 32 (by decide)
    have h2 := itoa_nosign r.value (by omega) 32 (by decide)
    have h3 := itoa_nosign r.width (by omega) 32 (by decide)
    simp [h1, h2, h3]
  · simp
theorem fmt_ne (r : R) (h : r.ok = true) : r.fmt ≠ [] := by
  unfold R.fmt
  rw [if_pos h]; simp
theorem dd_small (n : Int) (h0 : 0 ≤ n) (h1 : n ≤ 99) : (itoa n).length ≤ 2 := by
  rw [Dec.itoa_length, if_neg (by omega)]
  have h : nDigits n.natAbs ≤ 2 := by
    rcases Nat.lt_or_ge 2 (nDigits n.natAbs) with hlt | hge
    · obtain ⟨k, hk⟩ : ∃ k, nDigits n.natAbs = k + 1 := ⟨nDigits n.natAbs - 1, by omega⟩
      have h1 := Dec.pow_le_of_nDigits k n.natAbs hk (by omega)
      have h2 : 10 ^ 2 ≤ 10 ^ k := Nat.pow_le_pow_right (by omega) (by omega)
      omega
    · exact hge
  omega
theorem fmt_length (r : R) : r.fmt.length ≤ 8 := by
  unfold R.fmt
  split
  · rename_i h
    have hr := R.ok_iff.1 h
    have h1 := dd_small r.key (by omega) (by omega)
    have h2 := dd_small r.value (by omega) (by omega)
    have h3 := dd_small r.width (by omega) (by omega)
    simp; omega
  · simp

/-- The row whose format l is. -/
def parseRow (l : List UInt8) : Option R :=
  match Cut.cut 46 l with
  | [a, b, c] => match Dec.parse a, Dec.parse b, Dec.parse c with
    | some k, some v, some w => if (R.mk k v w).ok then some ⟨k, v, w⟩ else none
    | _, _, _ => none
  | _ => none
theorem parseRow_fmt (r : R) (h : r.ok = true) : parseRow r.fmt = some r := by
  have hr := R.ok_iff.1 h
  unfold parseRow
  rw [fmt_cut r h]
  simp only
  rw [Dec.parse_some rfl (by omega) (by omega), Dec.parse_some rfl (by omega) (by omega), Dec.parse_some rfl (by omega) (by omega)]
  simp only
  rw [if_pos h]
theorem parseRow_three {l a b c : List UInt8} (h : Cut.cut 46 l = [a, b, c]) : l = a ++ 46 :: (b ++ 46 :: c) := by
  have := Cut.join_cut 46 l
  rw [h, Cut.join_two, Cut.join_two, join_one] at this
  rw [← this]; simp
theorem parseRow_inv {l : List UInt8} {r : R} (h : parseRow l = some r) : r.ok = true ∧ r.fmt = l := by
  unfold parseRow at h
  split at h
  · rename_i a b c hc
    split at h
    · rename_i k v w ha hb hw
      split at h
      · rename_i hok
        cases h
        refine ⟨hok, ?_⟩
        obtain ⟨h1, -, -⟩ := Dec.parse_inv ha
        obtain ⟨h2, -, -⟩ := Dec.parse_inv hb
        obtain ⟨h3, -, -⟩ := Dec.parse_inv hw
        unfold R.fmt
        rw [if_pos hok, parseRow_three hc, ← h1, ← h2, ← h3]
      · cases h
    · cases h
  · cases h
/-- How the reference reads it: the numbers of the three pieces, and the format must be l again. -/
def threeRow (l : List UInt8) : R :=
  ⟨(Dec.parse ((Cut.cut 46 l).getD 0 [])).getD 0, (Dec.parse ((Cut.cut 46 l).getD 1 [])).getD 0, (Dec.parse ((Cut.cut 46 l).getD 2 [])).getD 0⟩
theorem parse_range {l : List UInt8} : -999999999 ≤ (Dec.parse l).getD 0 ∧ (Dec.parse l).getD 0 ≤ 999999999 := by
  cases h : Dec.parse l with
  | none => decide
  | some n => exact (Dec.parse_inv h).2
theorem threeRow_wf (l : List UInt8) : (threeRow l).wf := by
  unfold R.wf threeRow
  have h1 := @parse_range ((Cut.cut 46 l).getD 0 [])
  have h2 := @parse_range ((Cut.cut 46 l).getD 1 [])
  have h3 := @parse_range ((Cut.cut 46 l).getD 2 [])
  simp only
  omega
theorem parseRow_yes (l : List UInt8) (h3 : (Cut.cut 46 l).length = 3) (h : (threeRow l).fmt = l) : parseRow l = some (threeRow l) := by
  have hok : (threeRow l).ok = true := by
    cases hk : (threeRow l).ok with
    | true => rfl
    | false =>
      unfold R.fmt at h
      rw [hk] at h
      simp only [Bool.false_eq_true, if_false] at h
      rw [← h] at h3
      simp [Cut.cut] at h3
  conv => lhs; rw [← h]
  exact parseRow_fmt _ hok
theorem parseRow_no (l : List UInt8) (h : (threeRow l).fmt ≠ l) : parseRow l = none := by
  cases hp : parseRow l with
  | none => rfl
  | some r =>
    obtain ⟨hok, hf⟩ := parseRow_inv hp
    have hr := R.ok_iff.1 hok
    have hc := fmt_cut r hok
    rw [hf] at hc
    have : threeRow l = r := by
      unfold threeRow
      rw [hc]
      simp only [List.getD_cons_zero, List.getD_cons_succ]
      rw [Dec.parse_some rfl (by omega) (by omega), Dec.parse_some rfl (by omega) (by omega), Dec.parse_some rfl (by omega) (by omega)]
      rfl
    rw [this] at h
    exact absurd hf h
theorem parseRow_other (l : List UInt8) (h : (Cut.cut 46 l).length ≠ 3) : parseRow l = none := by
  unfold parseRow
  split
  · rename_i a b c hc; rw [hc] at h; simp at h
  · rfl
/-- How the program reads it: three pieces, three numbers, and the row is valid. -/
theorem parseRow_pieces {l a b c : List UInt8} (h : Cut.cut 46 l = [a, b, c]) :
    parseRow l = if (Dec.parse a).isSome && (Dec.parse b).isSome && (Dec.parse c).isSome && (R.mk ((Dec.parse a).getD 0) ((Dec.parse b).getD 0) ((Dec.parse c).getD 0)).ok then some ⟨(Dec.parse a).getD 0, (Dec.parse b).getD 0, (Dec.parse c).getD 0⟩ else none := by
  unfold parseRow
  rw [h]
  simp only
  cases Dec.parse a <;> cases Dec.parse b <;> cases Dec.parse c <;> simp

/-! ### Several rows -/
def fmtRows (L : List R) : List UInt8 := if okRows L then join (L.map R.fmt) [32] else []
/-- All rows of the pieces, if each piece is a row's format. -/
def readAll : List (List UInt8) → Option (List R)
  | [] => some []
  | p :: ps => match parseRow p, readAll ps with
    | some r, some L => some (r :: L)
    | _, _ => none
theorem readAll_snoc (ps : List (List UInt8)) (p : List UInt8) : readAll (ps ++ [p]) = match readAll ps, parseRow p with | some L, some r => some (L ++ [r]) | _, _ => none := by
  induction ps with
  | nil => simp only [List.nil_append, readAll]; cases parseRow p <;> rfl
  | cons q ps ih =>
    simp only [List.cons_append, readAll]
    rw [ih]
    cases parseRow q <;> cases readAll ps <;> cases parseRow p <;> rfl
theorem readAll_next (ps : List (List UInt8)) (k : Nat) (hk : k < ps.length) (M : List R) (h : readAll (ps.take k) = some M) : readAll (ps.take (k + 1)) = (parseRow ps[k]).map fun r => M ++ [r] := by
  rw [List.take_succ_eq_append_getElem hk, readAll_snoc, h]
  cases parseRow ps[k] <;> rfl
theorem readAll_length : ∀ {ps : List (List UInt8)} {L : List R}, readAll ps = some L → L.length = ps.length
  | [], L, h => by simp only [readAll, Option.some.injEq] at h; rw [← h]; rfl
  | p :: ps, L, h => by
    unfold readAll at h
    split at h
    · rename_i r L' h1 h2; cases h; simp [readAll_length h2]
    · cases h
theorem readAll_ok : ∀ {ps : List (List UInt8)} {L : List R}, readAll ps = some L → allOk L = true ∧ L.map R.fmt = ps
  | [], L, h => by simp only [readAll, Option.some.injEq] at h; rw [← h]; exact ⟨rfl, rfl⟩
  | p :: ps, L, h => by
    unfold readAll at h
    split at h
    · rename_i r L' h1 h2
      cases h
      obtain ⟨a1, a2⟩ := parseRow_inv h1
      obtain ⟨b1, b2⟩ := readAll_ok h2
      exact ⟨by unfold allOk at b1 ⊢; rw [List.all_cons, a1, b1]; rfl, by rw [List.map_cons, a2, b2]⟩
    · cases h
theorem readAll_fmt : ∀ (L : List R), allOk L = true → readAll (L.map R.fmt) = some L
  | [], _ => rfl
  | r :: L, h => by
    unfold allOk at h
    rw [List.all_cons, Bool.and_eq_true] at h
    rw [List.map_cons, readAll, parseRow_fmt r h.1, readAll_fmt L h.2]
theorem readAll_bad : ∀ (ps : List (List UInt8)) (k : Nat) (hk : k < ps.length), parseRow ps[k] = none → readAll ps = none
  | p :: ps, 0, hk, h => by
    simp only [List.getElem_cons_zero] at h
    rw [readAll, h]
  | p :: ps, k + 1, hk, h => by
    simp only [List.getElem_cons_succ] at h
    rw [readAll, readAll_bad ps k (by simpa using hk) h]
    cases parseRow p <;> rfl
/-- The rows whose format l is. -/
def parseRows (l : List UInt8) : Option (List R) := if l = [] then some [] else if (Cut.cut 32 l).length ≤ 24 then readAll (Cut.cut 32 l) else none
theorem parseRows_empty : parseRows [] = some [] := rfl
theorem parseRows_bad (l : List UInt8) (hl : l ≠ []) (k : Nat) (hk : k < (Cut.cut 32 l).length) (h : parseRow (Cut.cut 32 l)[k] = none) : parseRows l = none := by
  unfold parseRows
  rw [if_neg hl, readAll_bad _ k hk h]
  split <;> rfl
theorem parseRows_long (l : List UInt8) (hl : l ≠ []) (h : 24 < (Cut.cut 32 l).length) : parseRows l = none := by
  unfold parseRows
  rw [if_neg hl, if_neg (by omega)]
theorem parseRows_all (l : List UInt8) (hl : l ≠ []) (M : List R) (h : readAll (Cut.cut 32 l) = some M) : parseRows l = if okRows M = true then some M else none := by
  unfold parseRows
  rw [if_neg hl, h]
  have h1 := (readAll_ok h).1
  have h2 := readAll_length h
  unfold okRows
  rw [h1, Bool.and_true]
  by_cases h24 : (Cut.cut 32 l).length ≤ 24
  · rw [if_pos h24, if_pos (by rw [decide_eq_true_eq]; omega)]
  · rw [if_neg h24, if_neg (by rw [decide_eq_true_eq]; omega)]
theorem readAll_wf {ps : List (List UInt8)} {M : List R} (h : readAll ps = some M) : ∀ r ∈ M, r.wf := by
  intro r hr
  have := (readAll_ok h).1
  unfold allOk at this
  exact R.wf_of_ok (List.all_eq_true.1 this r hr)
theorem parseRows_fmt (L : List R) (h : okRows L = true) : parseRows (fmtRows L) = some L := by
  unfold okRows at h
  have h' := h
  rw [Bool.and_eq_true, decide_eq_true_eq] at h
  unfold parseRows fmtRows
  rw [if_pos (show okRows L = true from h')]
  cases L with
  | nil => simp [join_nil]
  | cons r L =>
    have hne : join ((r :: L).map R.fmt) [32] ≠ [] := by
      have hr : r.ok = true := by have := h.2; unfold allOk at this; rw [List.all_cons, Bool.and_eq_true] at this; exact this.1
      have := fmt_ne r hr
      rw [List.map_cons, join_cons]
      intro e
      exact this (List.append_eq_nil_iff.1 e).1
    rw [if_neg hne, Cut.cut_join 32 _ (by simp) (fun p hp => by obtain ⟨q, _, rfl⟩ := List.mem_map.1 hp; exact fmt_nospace q)]
    rw [if_pos (by simpa using h.1)]
    exact readAll_fmt _ h.2
theorem parseRows_inv {l : List UInt8} {L : List R} (h : parseRows l = some L) : okRows L = true ∧ fmtRows L = l := by
  unfold parseRows at h
  split at h
  · rename_i hl
    cases h
    exact ⟨rfl, by rw [hl]; rfl⟩
  · split at h
    · rename_i hl h24
      obtain ⟨h1, h2⟩ := readAll_ok h
      have h3 := readAll_length h
      have hok : okRows L = true := by unfold okRows; rw [h1, Bool.and_true, decide_eq_true_eq]; omega
      refine ⟨hok, ?_⟩
      unfold fmtRows
      rw [if_pos hok, h2, Cut.join_cut]
    · cases h
theorem parseRows_wf {l : List UInt8} {M : List R} (h : parseRows l = some M) : ∀ r ∈ M, r.wf := by
  intro r hr
  have := (parseRows_inv h).1
  unfold okRows at this
  rw [Bool.and_eq_true] at this
  have h2 := this.2
  unfold allOk at h2
  exact R.wf_of_ok (List.all_eq_true.1 h2 r hr)
theorem joinTail_snoc (sep y : List UInt8) (r : List (List UInt8)) : joinTail sep (r ++ [y]) = joinTail sep r ++ (sep ++ y) := by simp [joinTail]
theorem join_snoc (xs : List (List UInt8)) (y sep : List UInt8) : join (xs ++ [y]) sep = if xs = [] then y else join xs sep ++ sep ++ y := by
  cases xs with
  | nil => simp [join_one]
  | cons x r =>
    rw [if_neg (by simp), List.cons_append, join_cons, join_cons, joinTail_snoc]
    simp
theorem join_fmt_length (L : List R) : (join (L.map R.fmt) [32]).length ≤ 9 * L.length := by
  cases L with
  | nil => simp [join_nil]
  | cons r L =>
    rw [List.map_cons, join_cons]
    have h0 := fmt_length r
    have : (joinTail [32] (L.map R.fmt)).length ≤ 9 * L.length := by
      induction L with
      | nil => simp [joinTail]
      | cons q L ih =>
        have hq := fmt_length q
        simp only [joinTail, List.map_cons, List.flatten_cons, List.length_append, List.length_cons, List.length_nil] at ih ⊢
        omega
    rw [List.length_append, List.length_cons]; omega
theorem okRows_length {L : List R} (h : okRows L = true) : L.length ≤ 24 := by
  unfold okRows at h
  rw [Bool.and_eq_true, decide_eq_true_eq] at h
  exact h.1
theorem fmtRows_length (L : List R) : (fmtRows L).length ≤ 216 := by
  unfold fmtRows
  split
  · rename_i h
    have := okRows_length h
    have := join_fmt_length L
    omega
  · simp
theorem join_next (L : List R) (k : Nat) (hk : k < L.length) : join ((L.take (k + 1)).map R.fmt) [32] = if k = 0 then (L.getD k R.zero).fmt else join ((L.take k).map R.fmt) [32] ++ [32] ++ (L.getD k R.zero).fmt := by
  have e : L.getD k R.zero = L[k] := by simp [List.getD, hk]
  rw [e, List.take_succ_eq_append_getElem hk, List.map_append, List.map_cons, List.map_nil, join_snoc]
  by_cases h : k = 0
  · subst h; simp
  · have hne : (L.take k).map R.fmt ≠ [] := by
      intro e
      have := congrArg List.length e
      rw [List.length_map, List.length_take, List.length_nil] at this
      omega
    rw [if_neg hne, if_neg h]
end Go.Proofs.Ythbifibnnhikjaa
namespace Go.Proofs.Ythbifibnnhikjaa
open Go.Lib

namespace R
theorem cmp_le (a b : R) : cmp a b ≤ 0 ↔ a.key < b.key ∨ a.key = b.key ∧ (a.value < b.value ∨ a.value = b.value ∧ a.width ≤ b.width) := by
  unfold cmp
  (repeat' split) <;> omega
theorem cmp_anti (a b : R) : cmp b a = - cmp a b := by
  unfold cmp
  (repeat' split) <;> first | rfl | omega
theorem cmp_zero (a b : R) : cmp a b = 0 ↔ a = b := by
  constructor
  · intro h
    have h1 := (cmp_le a b).1 (by omega)
    have h2 := (cmp_le b a).1 (by have := cmp_anti a b; omega)
    have e1 : a.key = b.key := by omega
    have e2 : a.value = b.value := by omega
    have e3 : a.width = b.width := by omega
    obtain ⟨a1, a2, a3⟩ := a
    obtain ⟨b1, b2, b3⟩ := b
    simp only at e1 e2 e3
    subst e1 e2 e3
    rfl
  · rintro rfl
    unfold cmp
    simp
theorem cmp_trans {a b c : R} (h : cmp a b ≤ 0) (h' : cmp b c ≤ 0) : cmp a c ≤ 0 := by
  rw [cmp_le] at *
  omega
theorem cmp_total (a b : R) : cmp a b ≤ 0 ∨ cmp b a ≤ 0 := by
  have := cmp_anti a b
  omega
/-- The order as a Bool. -/
def leb (a b : R) : Bool := decide (cmp a b ≤ 0)
theorem leb_iff {a b : R} : leb a b = true ↔ cmp a b ≤ 0 := by simp [leb]
def sort (L : List R) : List R := L.mergeSort leb
theorem sort_perm (L : List R) : (sort L).Perm L := List.mergeSort_perm L _
theorem sort_asc (L : List R) : (sort L).Pairwise fun a b => leb a b = true :=
  List.pairwise_mergeSort (le := leb) (fun a b c h h' => leb_iff.2 (cmp_trans (leb_iff.1 h) (leb_iff.1 h'))) (fun a b => by
    rcases cmp_total a b with h | h
    · simp [leb_iff.2 h]
    · simp [leb_iff.2 h]) L
/-- There is one sorted permutation. -/
theorem sort_unique {M L : List R} (hp : M.Perm L) (hs : M.Pairwise fun a b => leb a b = true) : M = sort L :=
  List.Perm.eq_of_pairwise (fun a b _ _ h h' => (cmp_zero a b).1 (by have h1 := leb_iff.1 h; have h2 := leb_iff.1 h'; have := cmp_anti a b; omega)) hs (sort_asc L) (hp.trans (sort_perm L).symm)
theorem sort_eq {M L : List R} (hp : M.Perm L) : sort M = sort L := sort_unique ((sort_perm M).trans hp) (sort_asc M)
theorem sort_sort (L : List R) : sort (sort L) = sort L := sort_eq (sort_perm L)
theorem sort_length (L : List R) : (sort L).length = L.length := (sort_perm L).length_eq
theorem sort_nil : sort [] = [] := List.eq_nil_of_length_eq_zero (sort_length [])
theorem sort_wf {L : List R} (h : ∀ r ∈ L, r.wf) : ∀ r ∈ sort L, r.wf := fun r hr => h r ((sort_perm L).mem_iff.1 hr)
theorem getD_mem {L : List R} {t : Nat} (h : t < L.length) : L.getD t zero ∈ L := by
  have : L.getD t zero = L[t] := by simp [List.getD, h]
  rw [this]; exact List.getElem_mem h
/-- One more row, at its place. -/
theorem sort_insert {L : List R} {i k : Nat} (hi : i < L.length) (hk : k ≤ i) (hlow : k = 0 ∨ cmp ((sort (L.take i)).getD (k - 1) zero) (L.getD i zero) ≤ 0) (hup : ∀ t, k ≤ t → t < i → 0 < cmp ((sort (L.take i)).getD t zero) (L.getD i zero)) :
    (sort (L.take i)).take k ++ (L.getD i zero :: (sort (L.take i)).drop k) = sort (L.take (i + 1)) := by
  have hlen : (sort (L.take i)).length = i := by rw [sort_length, List.length_take]; omega
  have hsnoc : L.take (i + 1) = L.take i ++ [L.getD i zero] := by
    rw [List.take_succ_eq_append_getElem hi]
    simp [List.getD, hi]
  apply sort_unique
  · rw [hsnoc]
    refine List.perm_middle.trans ?_
    rw [List.take_append_drop]
    exact ((List.Perm.cons _ (sort_perm _))).trans (List.perm_append_singleton _ _).symm
  · have hs := sort_asc (L.take i)
    have hd : ∀ x ∈ (sort (L.take i)).drop k, 0 < cmp x (L.getD i zero) := by
      intro x hx
      obtain ⟨t, ht, rfl⟩ := List.mem_iff_getElem.1 hx
      rw [List.length_drop, hlen] at ht
      have := hup (k + t) (by omega) (by omega)
      rw [List.getElem_drop]
      rwa [List.getD, List.getElem?_eq_getElem (by omega)] at this
    have htk : ∀ x ∈ (sort (L.take i)).take k, cmp x (L.getD i zero) ≤ 0 := by
      rcases hlow with rfl | hlow
      · intro x hx; simp at hx
      · intro x hx
        obtain ⟨t, ht, rfl⟩ := List.mem_iff_getElem.1 hx
        rw [List.length_take, hlen] at ht
        rw [List.getElem_take]
        rw [List.getD, List.getElem?_eq_getElem (by omega)] at hlow
        rcases Nat.lt_or_ge t (k - 1) with h | h
        · exact cmp_trans (leb_iff.1 (List.pairwise_iff_getElem.1 hs t (k - 1) (by omega) (by omega) h)) hlow
        · have : t = k - 1 := by omega
          subst this
          exact hlow
    rw [List.pairwise_append, List.pairwise_cons]
    refine ⟨hs.sublist (List.take_sublist _ _), ⟨fun x hx => leb_iff.2 ?_, hs.sublist (List.drop_sublist _ _)⟩, fun a ha b hb => leb_iff.2 ?_⟩
    · have := hd x hx
      have := cmp_anti x (L.getD i zero)
      omega
    · rcases List.mem_cons.1 hb with rfl | hb
      · exact htk a ha
      · refine cmp_trans (htk a ha) ?_
        have := hd b hb
        have := cmp_anti b (L.getD i zero)
        omega
/-- In ascending order. -/
def asc : List R → Bool
  | a :: b :: l => leb a b && asc (b :: l)
  | _ => true
theorem asc_iff : ∀ {L : List R}, asc L = true ↔ ∀ t, t + 1 < L.length → cmp (L.getD t zero) (L.getD (t + 1) zero) ≤ 0
  | [] => by simp [asc]
  | [a] => by simp [asc]
  | a :: b :: l => by
    rw [asc, Bool.and_eq_true, asc_iff, leb_iff]
    constructor
    · rintro ⟨h, h'⟩ t ht
      cases t with
      | zero => exact h
      | succ t => exact h' t (by simpa using ht)
    · intro h
      exact ⟨h 0 (by simp), fun t ht => h (t + 1) (by simpa using ht)⟩
theorem asc_bad {L : List R} (t : Nat) (ht : t + 1 < L.length) (h : 0 < cmp (L.getD t zero) (L.getD (t + 1) zero)) : asc L = false := by
  cases ha : asc L with
  | false => rfl
  | true => have := asc_iff.1 ha t ht; omega
theorem asc_pairwise : ∀ {L : List R}, asc L = true ↔ L.Pairwise fun a b => leb a b = true
  | [] => by simp [asc]
  | [a] => by simp [asc]
  | a :: b :: l => by
    rw [asc, Bool.and_eq_true, asc_pairwise, List.pairwise_cons (a := a)]
    constructor
    · rintro ⟨h, h'⟩
      refine ⟨fun x hx => ?_, h'⟩
      rcases List.mem_cons.1 hx with rfl | hx
      · exact h
      · exact leb_iff.2 (cmp_trans (leb_iff.1 h) (leb_iff.1 ((List.pairwise_cons.1 h').1 x hx)))
    · rintro ⟨h, h'⟩
      exact ⟨h b (by simp), h'⟩
theorem asc_sort (L : List R) : asc (sort L) = true := asc_pairwise.2 (sort_asc L)
/-- Equal as multisets. -/
def eqBags (a b : List R) : Bool := decide (sort a = sort b)
theorem eqBags_iff {a b : List R} : eqBags a b = true ↔ ∀ r, a.count r = b.count r := by
  unfold eqBags
  rw [decide_eq_true_iff, ← List.perm_iff_count]
  exact ⟨fun h => (sort_perm a).symm.trans (h ▸ sort_perm b), sort_eq⟩
theorem eqBags_sort (a : List R) : eqBags (sort a) a = true := eqBags_iff.2 fun r => (sort_perm a).count_eq r
theorem take_succ {L : List R} {k : Nat} (hk : k < L.length) : L.take (k + 1) = L.take k ++ [L.getD k zero] := by
  rw [List.take_succ_eq_append_getElem hk]
  simp [List.getD, hk]
theorem count_take {L : List R} {k : Nat} (hk : k < L.length) (r : R) : (L.take (k + 1)).count r = (L.take k).count r + if L.getD k zero = r then 1 else 0 := by
  rw [take_succ hk, List.count_append, List.count_singleton]
  simp
theorem count_le_length (L : List R) (r : R) : L.count r ≤ L.length := List.count_le_length
/-- What is left of x behind b's rows, behind k of x's rows. -/
def difTo (x b : List R) : Nat → List R
  | 0 => []
  | k + 1 => if b.count (x.getD k zero) < (x.take (k + 1)).count (x.getD k zero) then difTo x b k ++ [x.getD k zero] else difTo x b k
def dif (a b : List R) : List R := difTo (sort a) b (sort a).length
theorem difTo_count {x b : List R} : ∀ {k : Nat}, k ≤ x.length → ∀ r, (difTo x b k).count r = (x.take k).count r - b.count r
  | 0, _, r => by simp [difTo]
  | k + 1, hk, r => by
    have ih := difTo_count (b := b) (show k ≤ x.length by omega) r
    have hc := count_take (show k < x.length by omega) r
    unfold difTo
    by_cases he : x.getD k zero = r
    · rw [if_pos he] at hc
      split
      · rename_i hlt
        rw [he] at hlt ⊢
        rw [List.count_append, ih]
        simp
        omega
      · rename_i hge
        rw [he] at hge
        rw [ih]
        omega
    · rw [if_neg he] at hc
      split
      · rw [List.count_append, ih, List.count_singleton, hc, if_neg (by simpa using he)]
        omega
      · rw [ih, hc]; simp
theorem dif_count (a b : List R) (r : R) : (dif a b).count r = a.count r - b.count r := by
  unfold dif
  rw [difTo_count (Nat.le_refl _), List.take_length, (sort_perm a).count_eq]
theorem difTo_mem {x b : List R} : ∀ {k : Nat}, k ≤ x.length → ∀ r ∈ difTo x b k, r ∈ x
  | 0, _, r, h => by simp [difTo] at h
  | k + 1, hk, r, h => by
    unfold difTo at h
    split at h
    · rcases List.mem_append.1 h with h | h
      · exact difTo_mem (by omega) r h
      · rw [List.mem_singleton.1 h]; exact getD_mem (by omega)
    · exact difTo_mem (by omega) r h
theorem difTo_length {x b : List R} : ∀ {k : Nat}, (difTo x b k).length ≤ k
  | 0 => by simp [difTo]
  | k + 1 => by
    have := difTo_length (x := x) (b := b) (k := k)
    unfold difTo
    split
    · simp; omega
    · omega
theorem dif_wf {a b : List R} (h : ∀ r ∈ a, r.wf) : ∀ r ∈ dif a b, r.wf := fun r hr => sort_wf h r (difTo_mem (Nat.le_refl _) r hr)
theorem dif_length (a b : List R) : (dif a b).length ≤ a.length := by
  have := difTo_length (x := sort a) (b := b) (k := (sort a).length)
  rw [sort_length] at this
  unfold dif
  rw [sort_length]
  exact this
theorem dif_nil_iff {a b : List R} : (dif a b).length = 0 ↔ ∀ r, a.count r ≤ b.count r := by
  rw [List.length_eq_zero_iff]
  constructor
  · intro h r
    have := dif_count a b r
    rw [h, List.count_nil] at this
    omega
  · intro h
    rw [List.eq_nil_iff_forall_not_mem]
    intro r hr
    have h1 := List.count_pos_iff.2 hr
    have := dif_count a b r
    have := h r
    omega
theorem eqBags_dif (a b : List R) : eqBags a b = (decide ((dif a b).length = 0) && decide ((dif b a).length = 0)) := by
  rw [Bool.eq_iff_iff, Bool.and_eq_true, decide_eq_true_iff, decide_eq_true_iff, eqBags_iff, dif_nil_iff, dif_nil_iff]
  exact ⟨fun h => ⟨fun r => by rw [h r]; exact Nat.le_refl _, fun r => by rw [h r]; exact Nat.le_refl _⟩, fun h r => Nat.le_antisymm (h.1 r) (h.2 r)⟩
theorem dif_balance (a b : List R) : (a.length : Int) - (dif a b).length = b.length - (dif b a).length := by
  have hp : (a ++ dif b a).Perm (b ++ dif a b) := List.perm_iff_count.2 fun r => by
    rw [List.count_append, List.count_append, dif_count, dif_count]
    omega
  have := hp.length_eq
  simp only [List.length_append] at this
  omega
/-- Each row once, behind k of x's rows. -/
def distTo (x : List R) : Nat → List R
  | 0 => []
  | k + 1 => if k = 0 ∨ x.getD k zero ≠ x.getD (k - 1) zero then distTo x k ++ [x.getD k zero] else distTo x k
def dist (L : List R) : List R := distTo (sort L) (sort L).length
theorem distTo_length {x : List R} : ∀ {k : Nat}, (distTo x k).length ≤ k
  | 0 => by simp [distTo]
  | k + 1 => by
    have := distTo_length (x := x) (k := k)
    unfold distTo
    split
    · simp; omega
    · omega
theorem distTo_mem {x : List R} : ∀ {k : Nat}, k ≤ x.length → ∀ r, r ∈ distTo x k ↔ r ∈ x.take k
  | 0, _, r => by simp [distTo]
  | k + 1, hk, r => by
    have ih := distTo_mem (show k ≤ x.length by omega) r
    unfold distTo
    rw [take_succ (show k < x.length by omega)]
    split
    · rw [List.mem_append, List.mem_append, ih]
    · rename_i h
      rw [ih, List.mem_append, List.mem_singleton]
      refine ⟨.inl, ?_⟩
      rintro (h' | rfl)
      · exact h'
      · have h0 : k ≠ 0 := fun e => h (.inl e)
        have he : x.getD k zero = x.getD (k - 1) zero := Classical.byContradiction fun e => h (.inr e)
        rw [he]
        have hlt : k - 1 < (x.take k).length := by rw [List.length_take]; omega
        have : x.getD (k - 1) zero = (x.take k).getD (k - 1) zero := by simp [List.getD, List.getElem?_take]; rw [if_pos (by omega)]
        rw [this]
        exact getD_mem hlt
theorem distTo_once {x : List R} (hs : x.Pairwise fun a b => leb a b = true) : ∀ {k : Nat}, k ≤ x.length → ∀ r, (distTo x k).count r ≤ 1
  | 0, _, r => by simp [distTo]
  | k + 1, hk, r => by
    have ih := distTo_once hs (show k ≤ x.length by omega) r
    unfold distTo
    split
    · rename_i h
      rw [List.count_append, List.count_singleton]
      by_cases he : x.getD k zero = r
      · have hz : (distTo x k).count r = 0 := by
          rw [List.count_eq_zero]
          intro hm
          rw [distTo_mem (by omega)] at hm
          obtain ⟨t, ht, htr⟩ := List.mem_iff_getElem.1 hm
          rw [List.length_take] at ht
          rw [List.getElem_take] at htr
          have hk0 : k ≠ 0 := by omega
          have hne : x.getD k zero ≠ x.getD (k - 1) zero := by
            rcases h with h | h
            · exact absurd h hk0
            · exact h
          have e1 : x.getD k zero = x[k] := by simp [List.getD, show k < x.length by omega]
          have e2 : x.getD (k - 1) zero = x[k - 1] := by simp [List.getD, show k - 1 < x.length by omega]
          rw [e1, e2] at hne
          rw [e1] at he
          apply hne
          have h1 := leb_iff.1 (List.pairwise_iff_getElem.1 hs (k - 1) k (by omega) (by omega) (by omega))
          have h2 : cmp x[k] x[k - 1] ≤ 0 := by
            rcases Nat.lt_or_ge t (k - 1) with h | h
            · have := leb_iff.1 (List.pairwise_iff_getElem.1 hs t (k - 1) (by omega) (by omega) h)
              rw [htr, ← he] at this
              exact this
            · have : t = k - 1 := by omega
              subst this
              rw [htr, he, (cmp_zero r r).2 rfl]
              exact Int.le_refl _
          have := cmp_anti x[k] x[k - 1]
          exact (cmp_zero _ _).1 (by omega)
        rw [hz, he]
        simp
      · rw [if_neg (by simpa using he)]; exact ih
    · exact ih
theorem dist_mem {L : List R} {r : R} : r ∈ dist L ↔ r ∈ L := by
  unfold dist
  rw [distTo_mem (Nat.le_refl _), List.take_length, (sort_perm L).mem_iff]
theorem dist_once {L : List R} {r : R} (h : r ∈ dist L) : (dist L).count r = 1 := by
  have h1 := distTo_once (sort_asc L) (Nat.le_refl _) r
  have h2 := List.count_pos_iff.2 h
  unfold dist at h2 ⊢
  omega
theorem dist_wf {L : List R} (h : ∀ r ∈ L, r.wf) : ∀ r ∈ dist L, r.wf := fun r hr => h r (dist_mem.1 hr)
theorem dist_length (L : List R) : (dist L).length ≤ L.length := by
  have := distTo_length (x := sort L) (k := (sort L).length)
  rw [sort_length] at this
  unfold dist
  rw [sort_length]
  exact this
end R
end Go.Proofs.Ythbifibnnhikjaa
namespace Go.Proofs.Ythbifibnnhikjaa.R
open Go.Lib

theorem getD_l {α : Type} {A B : List α} {t : Nat} {d : α} (h : t < A.length) : (A ++ B).getD t d = A.getD t d := by simp [List.getD, List.getElem?_append_left h]
theorem getD_r {α : Type} {A B : List α} {t : Nat} {d : α} (h : A.length ≤ t) : (A ++ B).getD t d = B.getD (t - A.length) d := by simp [List.getD, List.getElem?_append_right h]
def pageOk (p : List R) : Bool := okRows p && decide (1 ≤ total p ∧ total p ≤ 8)
/-- One row more: the pages that are full, and the page that is being filled. -/
def packStep (s : List (List R) × List R) (r : R) : List (List R) × List R := if 8 < total s.2 + r.cost then (s.1 ++ [s.2], [r]) else (s.1, s.2 ++ [r])
def packSt (L : List R) : List (List R) × List R := L.foldl packStep ([], [])
def packEnd (s : List (List R) × List R) : List (List R) := if s.2 = [] then s.1 else s.1 ++ [s.2]
def pack (L : List R) : List (List R) := if okRows L then packEnd (packSt L) else []
theorem packSt_snoc (L : List R) (r : R) : packSt (L ++ [r]) = packStep (packSt L) r := by simp [packSt]
theorem packSt_next (L : List R) (k : Nat) (hk : k < L.length) : packSt (L.take (k + 1)) = packStep (packSt (L.take k)) (L.getD k R.zero) := by
  have e : L.getD k R.zero = L[k] := by simp [List.getD, hk]
  rw [e, List.take_succ_eq_append_getElem hk, packSt_snoc]
theorem allOk_append (L M : List R) : allOk (L ++ M) = (allOk L && allOk M) := by simp [allOk]
theorem cost_ok {r : R} (h : r.ok = true) : 1 ≤ r.cost := by
  unfold cost
  rw [if_pos h]
  have := (ok_iff.1 h).2.2.2.2.1
  omega
theorem total_pos {p : List R} (h : allOk p = true) (hne : p ≠ []) : 1 ≤ total p := by
  cases p with
  | nil => exact absurd rfl hne
  | cons r p =>
    unfold allOk at h
    rw [List.all_cons, Bool.and_eq_true] at h
    have h1 := cost_ok h.1
    have h2 := (total_range p).1
    have : total (r :: p) = r.cost + total p := by simp [total]
    omega
/-- What holds while rows are packed. -/
structure Packing (L : List R) (s : List (List R) × List R) : Prop where
  flat : s.1.flatten ++ s.2 = L
  full : ∀ p ∈ s.1, p ≠ [] ∧ total p ≤ 8
  fit : total s.2 ≤ 8
  none : s.2 = [] → L = []
  next : ∀ t, t + 1 < s.1.length → 8 < total (s.1.getD t []) + ((s.1.getD (t + 1) []).getD 0 R.zero).cost
  last : ∀ t, t + 1 = s.1.length → 8 < total (s.1.getD t []) + (s.2.getD 0 R.zero).cost
theorem packing (L : List R) : Packing L (packSt L) := by
  have key : ∀ (n : Nat) (L : List R), L.length = n → Packing L (packSt L) := by
    intro n
    induction n with
    | zero =>
      intro L hL
      obtain rfl := List.eq_nil_of_length_eq_zero hL
      exact ⟨rfl, fun p hp => (by cases hp), (by show (0 : Int) ≤ 8; decide), fun _ => rfl, fun t ht => (by simp [packSt] at ht), fun t ht => (by simp [packSt] at ht)⟩
    | succ n ih =>
      intro L hL
      have hne : L ≠ [] := by intro e; rw [e] at hL; simp at hL
      have hL' := List.dropLast_concat_getLast hne
      obtain ⟨M, r, rfl⟩ : ∃ M r, L = M ++ [r] := ⟨_, _, hL'.symm⟩
      have hM := ih M (by rw [List.length_append] at hL; simpa using hL)
      rw [packSt_snoc]
      generalize packSt M = s at hM ⊢
      obtain ⟨o, p⟩ := s
      have hc := r.cost_range
      unfold packStep
      simp only
      by_cases hov : 8 < total p + r.cost
      · rw [if_pos hov]
        have hpne : p ≠ [] := by
          rintro rfl
          have : total ([] : List R) = 0 := rfl
          omega
        refine ⟨?_, fun q hq => ?_, ?_, fun h => (by simp at h), fun t ht => ?_, fun t ht => ?_⟩
        · have := hM.flat
          simp only at this
          simp [this]
        · rcases List.mem_append.1 hq with hq | hq
          · exact hM.full q hq
          · rw [List.mem_singleton.1 hq]; exact ⟨hpne, hM.fit⟩
        · show total [r] ≤ 8
          have : total [r] = r.cost := by simp [total]
          omega
        · have ht' : t + 1 < o.length + 1 := by simpa using ht
          rcases Nat.lt_or_ge (t + 1) o.length with h | h
          · have := hM.next t h
            simp only at this ⊢
            rw [getD_l (by omega), getD_l h]
            exact this
          · have h1 : t + 1 = o.length := by omega
            have := hM.last t h1
            simp only at this ⊢
            rw [getD_l (by omega), getD_r (by omega), h1, Nat.sub_self]
            exact this
        · have ht' : t + 1 = o.length + 1 := by simpa using ht
          simp only
          rw [getD_r (by omega), show t - o.length = 0 by omega]
          exact hov
      · rw [if_neg hov]
        refine ⟨?_, hM.full, ?_, fun h => (by simp at h), hM.next, fun t ht => ?_⟩
        · have := hM.flat
          simp only at this
          simp [← this]
        · show total (p ++ [r]) ≤ 8
          rw [total_snoc]; omega
        · have := hM.last t ht
          simp only at this ⊢
          cases p with
          | nil =>
            have hz : M = [] := hM.none rfl
            subst hz
            have ho := hM.flat
            simp at ho
            have hol : o.length = t + 1 := ht.symm
            have h3 := hM.full (o[0]'(by omega)) (List.getElem_mem _)
            exact absurd (ho _ (List.getElem_mem (by omega : 0 < o.length))) h3.1
          | cons q p => simpa using this
  exact key L.length L rfl
theorem pack_eq {L : List R} (h : okRows L = true) : pack L = packEnd (packSt L) := if_pos h
theorem pack_bad {L : List R} (h : okRows L = false) : pack L = [] := if_neg (by rw [h]; simp)
theorem okRows_allOk {L : List R} (h : okRows L = true) : allOk L = true := by
  unfold okRows at h
  rw [Bool.and_eq_true] at h
  exact h.2
theorem pack_flat {L : List R} (h : okRows L = true) : (pack L).flatten = L := by
  have hp := (packing L).flat
  rw [pack_eq h]
  unfold packEnd
  split
  · rename_i h0; rw [h0, List.append_nil] at hp; exact hp
  · simpa using hp
theorem mem_flat {P : List (List R)} {p : List R} (h : p ∈ P) {r : R} (hr : r ∈ p) : r ∈ P.flatten := List.mem_flatten.2 ⟨p, h, hr⟩
theorem sub_length {P : List (List R)} {p : List R} (h : p ∈ P) : p.length ≤ P.flatten.length := by
  induction P with
  | nil => cases h
  | cons q P ih =>
    rw [List.flatten_cons, List.length_append]
    rcases List.mem_cons.1 h with rfl | h
    · omega
    · have := ih h; omega
theorem pack_fit {L : List R} : ∀ p ∈ packEnd (packSt L), p ≠ [] ∧ total p ≤ 8 := by
  intro p hp
  have h := packing L
  unfold packEnd at hp
  split at hp
  · exact h.full p hp
  · rename_i hne
    rcases List.mem_append.1 hp with hp | hp
    · exact h.full p hp
    · rw [List.mem_singleton.1 hp]; exact ⟨hne, h.fit⟩
theorem pack_ok {L : List R} : ∀ p ∈ pack L, pageOk p = true ∧ p ≠ [] := by
  intro p hp
  cases h : okRows L with
  | false => rw [pack_bad h] at hp; cases hp
  | true =>
    have hf := pack_flat h
    have hlen := okRows_length h
    have hall := okRows_allOk h
    have h1 := sub_length hp
    rw [hf] at h1
    have hok : allOk p = true := List.all_eq_true.2 fun r hr => List.all_eq_true.1 hall r (hf ▸ mem_flat hp hr)
    rw [pack_eq h] at hp
    obtain ⟨hne, h8⟩ := pack_fit p hp
    refine ⟨?_, hne⟩
    unfold pageOk okRows
    rw [hok, decide_eq_true (show p.length ≤ 24 by omega), decide_eq_true ⟨total_pos hok hne, h8⟩]
    rfl
theorem pack_next {L : List R} {t : Nat} (ht : t + 1 < (pack L).length) : 8 < total ((pack L).getD t []) + (((pack L).getD (t + 1) []).getD 0 R.zero).cost := by
  have h := packing L
  cases hk : okRows L with
  | false => rw [pack_bad hk] at ht; simp at ht
  | true =>
    rw [pack_eq hk] at ht ⊢
    unfold packEnd at ht ⊢
    split at ht
    · rename_i h0
      rw [if_pos h0]
      exact h.next t ht
    · rename_i h0
      rw [if_neg h0]
      rw [List.length_append, List.length_singleton] at ht
      rcases Nat.lt_or_ge (t + 1) (packSt L).1.length with h2 | h2
      · rw [getD_l (by omega), getD_l h2]
        exact h.next t h2
      · have h1 : t + 1 = (packSt L).1.length := by omega
        rw [getD_l (by omega), getD_r (by omega), h1, Nat.sub_self]
        exact h.last t h1
theorem flat_count {P : List (List R)} (h : ∀ p ∈ P, p ≠ []) : P.length ≤ P.flatten.length := by
  induction P with
  | nil => simp
  | cons p P ih =>
    have h1 := ih fun q hq => h q (List.mem_cons_of_mem _ hq)
    have h2 : 0 < p.length := List.length_pos_iff.2 (h p (List.mem_cons_self ..))
    rw [List.flatten_cons, List.length_append, List.length_cons]
    omega
theorem packSt_sizes (L : List R) : (packSt L).1.length ≤ L.length ∧ (packSt L).2.length ≤ L.length := by
  have h := packing L
  have h1 := congrArg List.length h.flat
  rw [List.length_append] at h1
  have h2 := flat_count fun p hp => (h.full p hp).1
  omega
theorem pack_length {L : List R} : (pack L).length ≤ L.length := by
  cases h : okRows L with
  | false => rw [pack_bad h]; simp
  | true =>
    have := flat_count (P := pack L) fun p hp => (pack_ok p hp).2
    rw [pack_flat h] at this
    exact this

/-! ### The string format -/
def allPages (P : List (List R)) : Bool := P.all pageOk
def pageTxt (p : List R) : List UInt8 := 91 :: (fmtRows p ++ [93])
def fmtPages (P : List (List R)) : List UInt8 := if allPages P then P.flatMap pageTxt else []
/-- The rows of a piece: what stands behind its bracket. -/
def readPage : List UInt8 → Option (List R)
  | 91 :: q => parseRows q
  | _ => none
def readPages : List (List UInt8) → Option (List (List R))
  | [] => some []
  | p :: ps => match readPage p, readPages ps with
    | some r, some L => some (r :: L)
    | _, _ => none
/-- The pages whose format l is. -/
def parsePages (l : List UInt8) : Option (List (List R)) :=
  match readPages (Cut.cut 93 l).dropLast with
  | some P => if allPages P && decide (fmtPages P = l) then some P else none
  | none => none
theorem readPages_snoc (ps : List (List UInt8)) (p : List UInt8) : readPages (ps ++ [p]) = match readPages ps, readPage p with | some L, some r => some (L ++ [r]) | _, _ => none := by
  induction ps with
  | nil => simp only [List.nil_append, readPages]; cases readPage p <;> rfl
  | cons q ps ih =>
    simp only [List.cons_append, readPages]
    rw [ih]
    cases readPage q <;> cases readPages ps <;> cases readPage p <;> rfl
theorem readPages_next (ps : List (List UInt8)) (k : Nat) (hk : k < ps.length) (M : List (List R)) (h : readPages (ps.take k) = some M) : readPages (ps.take (k + 1)) = (readPage ps[k]).map fun r => M ++ [r] := by
  rw [List.take_succ_eq_append_getElem hk, readPages_snoc, h]
  cases readPage ps[k] <;> rfl
theorem readPages_length : ∀ {ps : List (List UInt8)} {L : List (List R)}, readPages ps = some L → L.length = ps.length
  | [], L, h => by simp only [readPages, Option.some.injEq] at h; rw [← h]; rfl
  | p :: ps, L, h => by
    unfold readPages at h
    split at h
    · rename_i r L' h1 h2; cases h; simp [readPages_length h2]
    · cases h
theorem readPages_bad : ∀ (ps : List (List UInt8)) (k : Nat) (hk : k < ps.length), readPage ps[k] = none → readPages ps = none
  | p :: ps, 0, hk, h => by
    simp only [List.getElem_cons_zero] at h
    rw [readPages, h]
  | p :: ps, k + 1, hk, h => by
    simp only [List.getElem_cons_succ] at h
    rw [readPages, readPages_bad ps k (by simpa using hk) h]
    cases readPage p <;> rfl
theorem parsePages_inv {l : List UInt8} {P : List (List R)} (h : parsePages l = some P) : allPages P = true ∧ fmtPages P = l := by
  unfold parsePages at h
  split at h
  · rename_i Q hQ
    split at h
    · rename_i h1
      cases h
      rw [Bool.and_eq_true, decide_eq_true_eq] at h1
      exact h1
    · cases h
  · cases h
theorem fmt_no (r : R) (c : UInt8) (hc : ¬ (48 ≤ c.toNat ∧ c.toNat ≤ 57)) (hd : c ≠ 46) : c ∉ r.fmt := by
  unfold R.fmt
  split
  · rename_i h
    have hr := R.ok_iff.1 h
    have h1 := itoa_nosign r.key (by omega) c hc
    have h2 := itoa_nosign r.value (by omega) c hc
    have h3 := itoa_nosign r.width (by omega) c hc
    simp [h1, h2, h3, hd]
  · simp
theorem fmtRows_no (p : List R) (c : UInt8) (hc : ¬ (48 ≤ c.toNat ∧ c.toNat ≤ 57)) (hd : c ≠ 46) (hs : c ≠ 32) : c ∉ fmtRows p := by
  have key : ∀ L : List R, c ∉ joinTail [32] (L.map R.fmt) := by
    intro L
    induction L with
    | nil => simp [joinTail]
    | cons r L ih =>
      have h1 := fmt_no r c hc hd
      simp only [joinTail, List.map_cons, List.flatten_cons] at ih ⊢
      intro hm
      rcases List.mem_append.1 hm with hm | hm
      · rcases List.mem_append.1 hm with hm | hm
        · exact hs (List.mem_singleton.1 hm)
        · exact h1 hm
      · exact ih hm
  unfold fmtRows
  split
  · cases p with
    | nil => simp [join_nil]
    | cons r L =>
      rw [List.map_cons, join_cons]
      intro hm
      rcases List.mem_append.1 hm with hm | hm
      · exact fmt_no r c hc hd hm
      · exact key L hm
  · simp
theorem cut_pages : ∀ P : List (List R), Cut.cut 93 (P.flatMap pageTxt) = P.map (fun p => 91 :: fmtRows p) ++ [[]]
  | [] => rfl
  | p :: P => by
    have h93 : (93 : UInt8) ∉ (91 : UInt8) :: fmtRows p := by
      intro hm
      rcases List.mem_cons.1 hm with hm | hm
      · exact absurd hm (by decide)
      · exact fmtRows_no p 93 (by decide) (by decide) (by decide) hm
    have e : (p :: P).flatMap pageTxt = (91 :: fmtRows p) ++ 93 :: P.flatMap pageTxt := by simp [pageTxt]
    rw [e, Cut.cut_app 93 _ _ h93, cut_pages P]
    rfl
theorem pageOk_rows {p : List R} (h : pageOk p = true) : okRows p = true := by
  unfold pageOk at h
  rw [Bool.and_eq_true] at h
  exact h.1
theorem readPages_fmt : ∀ P : List (List R), allPages P = true → readPages (P.map fun p => 91 :: fmtRows p) = some P
  | [], _ => rfl
  | p :: P, h => by
    unfold allPages at h
    rw [List.all_cons, Bool.and_eq_true] at h
    rw [List.map_cons, readPages, readPages_fmt P h.2]
    show (match parseRows (fmtRows p), some P with | some r, some L => some (r :: L) | _, _ => none) = _
    rw [parseRows_fmt p (pageOk_rows h.1)]
theorem parsePages_fmt (P : List (List R)) (h : allPages P = true) : parsePages (fmtPages P) = some P := by
  have e : fmtPages P = P.flatMap pageTxt := if_pos h
  unfold parsePages
  rw [e, cut_pages, List.dropLast_concat, readPages_fmt P h]
  show (if (allPages P && decide (fmtPages P = P.flatMap pageTxt)) = true then some P else none) = _
  rw [h, e, decide_eq_true rfl]
  rfl
/-- The pages are those whose format it is, and there are no others. -/
theorem parsePages_iff {l : List UInt8} {P : List (List R)} : parsePages l = some P ↔ allPages P = true ∧ fmtPages P = l :=
  ⟨parsePages_inv, fun h => by rw [← h.2]; exact parsePages_fmt P h.1⟩
theorem pack_all (L : List R) : allPages (pack L) = true := List.all_eq_true.2 fun p hp => (pack_ok p hp).1
theorem allPages_take {P : List (List R)} {k : Nat} (hk : k < P.length) : allPages (P.take (k + 1)) = (allPages (P.take k) && pageOk P[k]) := by
  unfold allPages
  rw [List.take_succ_eq_append_getElem hk, List.all_append]
  simp only [List.all_cons, List.all_nil, Bool.and_true]
theorem allPages_bad {P : List (List R)} (k : Nat) (hk : k < P.length) (h : pageOk P[k] = false) : allPages P = false := by
  rw [← Bool.not_eq_true]
  intro ha
  have := List.all_eq_true.1 ha P[k] (List.getElem_mem hk)
  rw [h] at this
  cases this
theorem readPages_wf : ∀ {ps : List (List UInt8)} {P : List (List R)}, readPages ps = some P → ∀ p ∈ P, ∀ r ∈ p, r.wf
  | [], P, h, p, hp => by simp only [readPages, Option.some.injEq] at h; rw [← h] at hp; cases hp
  | q :: ps, P, h, p, hp => by
    unfold readPages at h
    split at h
    · rename_i r L' h1 h2
      cases h
      rcases List.mem_cons.1 hp with rfl | hp
      · unfold readPage at h1
        split at h1
        · exact parseRows_wf h1
        · cases h1
      · exact readPages_wf h2 p hp
    · cases h
theorem readPages_flat : ∀ {ps : List (List UInt8)} {P : List (List R)}, readPages ps = some P → P.flatten.length ≤ 24 * P.length
  | [], P, h => by simp only [readPages, Option.some.injEq] at h; rw [← h]; exact Nat.zero_le _
  | q :: ps, P, h => by
    unfold readPages at h
    split at h
    · rename_i r L' h1 h2
      cases h
      have h3 := readPages_flat h2
      have h4 : r.length ≤ 24 := by
        unfold readPage at h1
        split at h1
        · exact okRows_length (parseRows_inv h1).1
        · cases h1
      rw [List.flatten_cons, List.length_append, List.length_cons]
      omega
    · cases h
theorem parsePages_sizes (l : List UInt8) : ((parsePages l).getD []).length ≤ l.length ∧ ((parsePages l).getD []).flatten.length ≤ 24 * l.length := by
  unfold parsePages
  split
  · rename_i Q hQ
    split
    · have h1 := readPages_flat hQ
      have h2 := readPages_length hQ
      rw [List.length_dropLast] at h2
      have h3 := Cut.cut_length 93 l
      simp only [Option.getD_some]
      omega
    · simp
  · simp
theorem fmtPages_length (P : List (List R)) : (fmtPages P).length ≤ 218 * P.length := by
  unfold fmtPages
  split
  · rename_i hk
    clear hk
    induction P with
    | nil => simp
    | cons p P ih =>
      have h1 := fmtRows_length p
      rw [List.flatMap_cons, List.length_append, List.length_cons]
      have : (pageTxt p).length = (fmtRows p).length + 2 := by simp [pageTxt]
      omega
  · simp
end Go.Proofs.Ythbifibnnhikjaa.R
namespace Go.Proofs.Ythbifibnnhikjaa
namespace R

/-- How many of the rows go to the first page. -/
structure First (L : List R) (i : Nat) : Prop where
  le : i ≤ L.length
  fits : ∀ j, j < i → ¬ 8 < total (L.take j) + (L.getD j zero).cost
  over : i < L.length → 8 < total (L.take i) + (L.getD i zero).cost
theorem First.pos {L : List R} {i : Nat} (h : First L i) (hL : 0 < L.length) : 1 ≤ i := by
  rcases Nat.eq_zero_or_pos i with h0 | h0
  · subst h0
    have h1 := h.over hL
    have h2 := (L.getD 0 zero).cost_range
    have h3 : total (L.take 0) = 0 := rfl
    omega
  · exact h0
theorem fold_pre (A : List (List R)) (s : List (List R) × List R) (L : List R) : L.foldl packStep (A ++ s.1, s.2) = (A ++ (L.foldl packStep s).1, (L.foldl packStep s).2) := by
  induction L generalizing s with
  | nil => rfl
  | cons r L ih =>
    rw [List.foldl_cons, List.foldl_cons, ← ih]
    congr 1
    unfold packStep
    by_cases h : 8 < total s.2 + r.cost
    · rw [if_pos h, if_pos h]; simp
    · rw [if_neg h, if_neg h]
theorem First.st {L : List R} {i : Nat} (h : First L i) : ∀ j, j ≤ i → packSt (L.take j) = ([], L.take j) := by
  intro j
  induction j with
  | zero => intro _; rfl
  | succ j ih =>
    intro hj
    have hl := h.le
    rw [packSt_next L j (by omega), ih (by omega)]
    unfold packStep
    rw [if_neg (h.fits j (by omega)), List.take_succ_eq_append_getElem (by omega : j < L.length)]
    simp [List.getD, (by omega : j < L.length)]
/-- The first page, and the pages of the rest. -/
theorem First.pack {L : List R} {i : Nat} (h : First L i) (hL : 0 < L.length) : packEnd (packSt L) = L.take i :: packEnd (packSt (L.drop i)) := by
  have hp := h.pos hL
  have hle := h.le
  have hs := h.st i (Nat.le_refl _)
  rcases Nat.lt_or_ge i L.length with hi | hi
  · have h1 : packSt L = (L.drop i).foldl packStep ([], L.take i) := by
      conv => lhs; rw [← List.take_append_drop i L]
      unfold packSt at hs ⊢
      rw [List.foldl_append, hs]
    have hov := h.over hi
    have hg : L.getD i zero = L[i] := by simp [List.getD, hi]
    rw [hg] at hov
    have hc := L[i].cost_range
    have e1 : packStep ([], L.take i) L[i] = ([L.take i] ++ ([] : List (List R)), [L[i]]) := by
      unfold packStep
      rw [if_pos hov]
      simp
    have e2 : packStep ([], []) L[i] = ([], [L[i]]) := by
      unfold packStep
      rw [if_neg (by show ¬ 8 < total [] + _; have : total [] = 0 := rfl; omega)]
      rfl
    have h2 : packSt (L.drop i) = (L.drop (i + 1)).foldl packStep ([], [L[i]]) := by
      unfold packSt
      rw [List.drop_eq_getElem_cons hi, List.foldl_cons, e2]
    rw [h1, List.drop_eq_getElem_cons hi, List.foldl_cons, e1, fold_pre [L.take i] ([], [L[i]]), ← List.drop_eq_getElem_cons hi, h2]
    unfold packEnd
    by_cases hn : ((L.drop (i + 1)).foldl packStep ([], [L[i]])).2 = []
    · rw [if_pos hn, if_pos hn]; rfl
    · rw [if_neg hn, if_neg hn]; simp
  · have he : i = L.length := by omega
    subst he
    rw [List.take_length, List.drop_length]
    rw [List.take_length] at hs
    rw [hs]
    unfold packEnd
    rw [if_neg (by simpa using List.ne_nil_of_length_pos hL)]
    rfl
end R
end Go.Proofs.Ythbifibnnhikjaa
namespace Go.Proofs.Ythbifibnnhikjaa
namespace R

theorem split_one {α : Type} {b : α} : ∀ {x x' y y' : List α}, b ∉ x → b ∉ x' → x ++ b :: y = x' ++ b :: y' → x = x' ∧ y = y'
  | [], [], y, y', _, _, h => ⟨rfl, by simpa using h⟩
  | [], a :: x', y, y', _, h2, h => by
    simp only [List.nil_append, List.cons_append, List.cons.injEq] at h
    exact absurd (by rw [h.1]; exact List.mem_cons_self ..) h2
  | a :: x, [], y, y', h1, _, h => by
    simp only [List.nil_append, List.cons_append, List.cons.injEq] at h
    exact absurd (by rw [← h.1]; exact List.mem_cons_self ..) h1
  | a :: x, a' :: x', y, y', h1, h2, h => by
    simp only [List.cons_append, List.cons.injEq] at h
    obtain ⟨e1, e2⟩ := split_one (fun hm => h1 (List.mem_cons_of_mem _ hm)) (fun hm => h2 (List.mem_cons_of_mem _ hm)) h.2
    exact ⟨by rw [h.1, e1], e2⟩
theorem no93 (M : List R) : (93 : UInt8) ∉ fmtRows M := fmtRows_no M 93 (by decide) (by decide) (by decide)
theorem front_inv {l : List UInt8} {P : List (List R)} (h : parsePages l = some P) (hl : l ≠ []) :
    ∃ M t P', l = 91 :: (fmtRows M ++ 93 :: t) ∧ pageOk M = true ∧ parsePages t = some P' ∧ P = M :: P' := by
  obtain ⟨h1, h2⟩ := parsePages_inv h
  cases P with
  | nil => exact absurd h2.symm hl
  | cons M P' =>
    have h3 : pageOk M = true ∧ allPages P' = true := by
      unfold allPages at h1 ⊢
      rwa [List.all_cons, Bool.and_eq_true] at h1
    refine ⟨M, fmtPages P', P', ?_, h3.1, parsePages_fmt P' h3.2, rfl⟩
    rw [← h2]
    unfold fmtPages
    rw [if_pos h1, if_pos h3.2, List.flatMap_cons, pageTxt]
    simp
theorem front_yes {M : List R} {x t : List UInt8} (hM : pageOk M = true) (hx : parseRows x = some M) : parsePages (91 :: (x ++ 93 :: t)) = (parsePages t).map (M :: ·) := by
  obtain ⟨-, hxf⟩ := parseRows_inv hx
  subst hxf
  cases hp : parsePages t with
  | some P =>
    obtain ⟨h1, h2⟩ := parsePages_inv hp
    have h3 : allPages (M :: P) = true := by
      unfold allPages at h1 ⊢
      rw [List.all_cons, hM, h1]; rfl
    refine parsePages_iff.2 ⟨h3, ?_⟩
    rw [← h2]
    unfold fmtPages
    rw [if_pos h1, if_pos h3, List.flatMap_cons, pageTxt]
    simp
  | none =>
    cases hq : parsePages (91 :: (fmtRows M ++ 93 :: t)) with
    | none => rfl
    | some Q =>
      obtain ⟨M', t', P', h1, -, h3, -⟩ := front_inv hq (by simp)
      simp only [List.cons.injEq, true_and] at h1
      obtain ⟨-, e⟩ := split_one (no93 M) (no93 M') h1
      rw [e, h3] at hp
      cases hp
theorem front_no1 {l : List UInt8} (hl : l ≠ []) (h : l.head? ≠ some 91) : parsePages l = none := by
  cases hq : parsePages l with
  | none => rfl
  | some Q =>
    obtain ⟨M', t', P', h1, -⟩ := front_inv hq hl
    rw [h1] at h
    exact absurd rfl h
theorem front_no2 {q : List UInt8} (h : (93 : UInt8) ∉ q) : parsePages (91 :: q) = none := by
  cases hq : parsePages (91 :: q) with
  | none => rfl
  | some Q =>
    obtain ⟨M', t', P', h1, -⟩ := front_inv hq (by simp)
    simp only [List.cons.injEq, true_and] at h1
    exact absurd (by rw [h1]; simp) h
theorem front_no3 {x t : List UInt8} (hx : (93 : UInt8) ∉ x) (h : ∀ M, parseRows x = some M → pageOk M = false) : parsePages (91 :: (x ++ 93 :: t)) = none := by
  cases hq : parsePages (91 :: (x ++ 93 :: t)) with
  | none => rfl
  | some Q =>
    obtain ⟨M', t', P', h1, h2, -⟩ := front_inv hq (by simp)
    simp only [List.cons.injEq, true_and] at h1
    obtain ⟨e, -⟩ := split_one hx (no93 M') h1
    have := h M' (by rw [e]; exact parseRows_fmt M' (pageOk_rows h2))
    rw [h2] at this
    cases this
theorem parsePages_nil : parsePages [] = some [] := parsePages_iff.2 ⟨rfl, rfl⟩
end R
end Go.Proofs.Ythbifibnnhikjaa
/- Rows in memory, slices over shapes, slices built element by element, appends; no function of program or reference is walked here. -/
namespace Go.Proofs.Ythbifibnnhikjaa
open Go.RowKit

/-- A row as a struct's value. -/
def R.val (r : R) : Value := .agg #[.int .i64 r.key, .int .i64 r.value, .int .i64 r.width]
/-- The three cells of a row at a place. -/
def RowAt (w : World) (b o : Nat) (r : R) : Prop := w.cell? ⟨b, o, none⟩ = some (.int .i64 r.key) ∧ w.cell? ⟨b, o + 1, none⟩ = some (.int .i64 r.value) ∧ w.cell? ⟨b, o + 2, none⟩ = some (.int .i64 r.width)
theorem RowAt.below {w w' : World} {B b o : Nat} {r : R} (h : RowAt w b o r) (hb : Below B w w') (hlt : b < B) : RowAt w' b o r :=
  ⟨(hb.cell hlt).trans h.1, (hb.cell hlt).trans h.2.1, (hb.cell hlt).trans h.2.2⟩
/-- A row laid in a block of its own, behind a call. -/
theorem box_row {w w' : World} {r : R} {t : TypeId} (hb : Below (w.alloc (.cells #[.int .i64 r.key, .int .i64 r.value, .int .i64 r.width] t)).heap.size (w.alloc (.cells #[.int .i64 r.key, .int .i64 r.value, .int .i64 r.width] t)) w') :
    RowAt w' w.heap.size 0 r ∧ Below w.heap.size w w' := by
  have hs : w.heap.size < (w.alloc (.cells #[.int .i64 r.key, .int .i64 r.value, .int .i64 r.width] t)).heap.size := by simp
  refine ⟨RowAt.below ⟨?_, ?_, ?_⟩ hb hs, ?_⟩
  · simp
  · simp
  · simp
  · exact ((Below.refl _ _).alloc (Nat.le_refl _) _).trans (hb.mono (by simp))
theorem box_lt {w w' : World} {cs : Array Value} {t : TypeId} {fr : Nat × Nat} (hb : Below (w.alloc (.cells cs t fr)).heap.size (w.alloc (.cells cs t fr)) w') : w.heap.size < w'.heap.size := Nat.lt_of_lt_of_le (by simp) hb.size
/-- Two rows laid in blocks of their own, one behind the other. -/
theorem box2 (w : World) (a b : R) (s t : TypeId) : ∃ W, W = (w.alloc (.cells #[.int .i64 a.key, .int .i64 a.value, .int .i64 a.width] s)).alloc (.cells #[.int .i64 b.key, .int .i64 b.value, .int .i64 b.width] t) ∧
    RowAt W w.heap.size 0 a ∧ RowAt W (w.heap.size + 1) 0 b ∧ Below w.heap.size w W ∧ w.heap.size + 1 < W.heap.size := by
  refine ⟨_, rfl, ⟨?_, ?_, ?_⟩, ⟨?_, ?_, ?_⟩, Joins.below_alloc2 _ _ _, by simp⟩ <;> simp
/-- Two rows lie in blocks of their own, above what was there at w's time. -/
structure Boxes (w : World) (a b : R) (v : World) : Prop where
  a0 : v.cell? ⟨w.heap.size, 0, none⟩ = some (.int .i64 a.key)
  a1 : v.cell? ⟨w.heap.size, 1, none⟩ = some (.int .i64 a.value)
  a2 : v.cell? ⟨w.heap.size, 2, none⟩ = some (.int .i64 a.width)
  b0 : v.cell? ⟨w.heap.size + 1, 0, none⟩ = some (.int .i64 b.key)
  b1 : v.cell? ⟨w.heap.size + 1, 1, none⟩ = some (.int .i64 b.value)
  b2 : v.cell? ⟨w.heap.size + 1, 2, none⟩ = some (.int .i64 b.width)
  old : Below w.heap.size w v
  big : w.heap.size + 1 < v.heap.size
theorem boxes_start (w : World) (a b : R) (s t : TypeId) : ∃ W, W = (w.alloc (.cells #[.int .i64 a.key, .int .i64 a.value, .int .i64 a.width] s)).alloc (.cells #[.int .i64 b.key, .int .i64 b.value, .int .i64 b.width] t) ∧ Boxes w a b W := by
  refine ⟨_, rfl, ?_, ?_, ?_, ?_, ?_, ?_, Joins.below_alloc2 _ _ _, by simp⟩ <;> simp
theorem Boxes.drew {w v : World} {a b : R} (h : Boxes w a b v) : Boxes w a b v.drew := ⟨h.a0, h.a1, h.a2, h.b0, h.b1, h.b2, h.old.drew, h.big⟩
theorem Boxes.next {w v v' : World} {a b : R} (h : Boxes w a b v) (hb : Below v.heap.size v v') : Boxes w a b v' := by
  have h1 : w.heap.size < v.heap.size := by have := h.big; omega
  exact ⟨(hb.cell h1).trans h.a0, (hb.cell h1).trans h.a1, (hb.cell h1).trans h.a2, (hb.cell h.big).trans h.b0, (hb.cell h.big).trans h.b1, (hb.cell h.big).trans h.b2, h.old.trans (hb.mono (Nat.le_of_lt h1)), Nat.lt_of_lt_of_le h.big hb.size⟩
/-- A slice of rows: nil, or none, or cells. -/
def IsRows (w : World) (a : Option Addr) (len : Nat) (L : List R) : Prop :=
  L.length = len ∧ (∀ r ∈ L, r.wf) ∧ (len = 0 ∨ ∃ b o : Nat, a = some ⟨b, o, none⟩ ∧ b < w.heap.size ∧ ∀ t, t < len → RowAt w b (o + t * 3) (L.getD t R.zero))
theorem IsRows.below {w w' : World} {a : Option Addr} {len B : Nat} {L : List R} (h : IsRows w a len L) (hb : Below B w w') (ha : ∀ x, a = some x → 0 < len → x.block < B) : IsRows w' a len L := by
  obtain ⟨h1, h2, h3⟩ := h
  refine ⟨h1, h2, ?_⟩
  rcases h3 with h3 | ⟨b, o, rfl, hlt, h3⟩
  · exact .inl h3
  · rcases Nat.eq_zero_or_pos len with h0 | h0
    · exact .inl h0
    · exact .inr ⟨b, o, rfl, Nat.lt_of_lt_of_le hlt hb.size, fun t ht => (h3 t ht).below hb (ha _ rfl h0)⟩
/-- Whatever keeps all that was there keeps the rows. -/
theorem IsRows.keep {w w' : World} {a : Option Addr} {len : Nat} {L : List R} (h : IsRows w a len L) (hb : Below w.heap.size w w') : IsRows w' a len L := by
  obtain ⟨h1, h2, h3⟩ := h
  refine ⟨h1, h2, ?_⟩
  rcases h3 with h3 | ⟨b, o, rfl, hlt, h3⟩
  · exact .inl h3
  · exact .inr ⟨b, o, rfl, Nat.lt_of_lt_of_le hlt hb.size, fun t ht => (h3 t ht).below hb hlt⟩
/-- Rows that lie below a bound; what keeps all below it keeps them. -/
def RowsLow (a : Option Addr) (len B : Nat) : Prop := ∀ x, a = some x → 0 < len → x.block < B
theorem IsRows.old {w : World} {a : Option Addr} {len : Nat} {L : List R} (h : IsRows w a len L) : RowsLow a len w.heap.size := by
  intro x hx hp
  obtain ⟨-, -, h0 | ⟨b, o, rfl, hlt, -⟩⟩ := h
  · omega
  · cases hx; exact hlt
theorem IsRows.low {w w' : World} {a : Option Addr} {len B : Nat} {L : List R} (h : IsRows w a len L) (hl : Hid (RowsLow a len B)) (hb : Below B w w') : IsRows w' a len L := h.below hb hl.out
theorem IsRows.wf {w : World} {a : Option Addr} {len : Nat} {L : List R} (h : IsRows w a len L) (t : Nat) (ht : t < len) : (L.getD t R.zero).wf := by
  have hl : t < L.length := by rw [h.1]; exact ht
  have : L.getD t R.zero = L[t] := by simp [List.getD, hl]
  rw [this]
  exact h.2.1 _ (List.getElem_mem hl)
/-- The cells of a row of rows. -/
def cells3 (L : List R) : List Value := L.flatMap fun r => [.int .i64 r.key, .int .i64 r.value, .int .i64 r.width]
theorem cells3_length (L : List R) : (cells3 L).length = L.length * 3 := by
  induction L with
  | nil => rfl
  | cons r L ih => unfold cells3 at ih ⊢; rw [List.flatMap_cons, List.length_append, ih]; simp; omega
theorem cells3_get (L : List R) : ∀ (t : Nat), t < L.length → (cells3 L)[t * 3]? = some (.int .i64 (L.getD t R.zero).key) ∧ (cells3 L)[t * 3 + 1]? = some (.int .i64 (L.getD t R.zero).value) ∧ (cells3 L)[t * 3 + 2]? = some (.int .i64 (L.getD t R.zero).width) := by
  induction L with
  | nil => intro t ht; simp at ht
  | cons r L ih =>
    intro t ht
    cases t with
    | zero => exact ⟨rfl, rfl, rfl⟩
    | succ t =>
      have := ih t (by simpa using ht)
      have e : cells3 (r :: L) = .int .i64 r.key :: .int .i64 r.value :: .int .i64 r.width :: cells3 L := rfl
      rw [e, show (t + 1) * 3 = t * 3 + 3 by omega]
      simpa using this
theorem cells3_set (L : List R) : ∀ (t : Nat) (r : R), t < L.length → (((cells3 L).set (t * 3) (.int .i64 r.key)).set (t * 3 + 1) (.int .i64 r.value)).set (t * 3 + 2) (.int .i64 r.width) = cells3 (L.set t r) := by
  induction L with
  | nil => intro t r ht; simp at ht
  | cons q L ih =>
    intro t r ht
    cases t with
    | zero => rfl
    | succ t =>
      have := ih t r (by simpa using ht)
      have e : cells3 (q :: L) = .int .i64 q.key :: .int .i64 q.value :: .int .i64 q.width :: cells3 L := rfl
      have e' : cells3 ((q :: L).set (t + 1) r) = .int .i64 q.key :: .int .i64 q.value :: .int .i64 q.width :: cells3 (L.set t r) := rfl
      rw [e, e', show (t + 1) * 3 = t * 3 + 3 by omega, ← this]
      simp [List.set]
theorem cells3_append (L M : List R) : cells3 L ++ cells3 M = cells3 (L ++ M) := by simp [cells3]

theorem cells3_val (r : R) : r.val.cells = #[.int .i64 r.key, .int .i64 r.value, .int .i64 r.width] := rfl
theorem made_rows (n : Nat) : madeCells R.zero.val.cells (n * 3) = (cells3 (List.replicate n R.zero)).toArray := by
  apply Array.ext_getElem?
  intro i
  by_cases hi : i < n * 3
  · have hz : (List.replicate n R.zero).getD (i / 3) R.zero = R.zero := by
      simp only [List.getD, List.getElem?_replicate]
      rw [if_pos (by omega)]; rfl
    obtain ⟨e0, e1, e2⟩ := cells3_get (List.replicate n R.zero) (i / 3) (by simp; omega)
    rw [hz] at e0 e1 e2
    have hm : (madeCells R.zero.val.cells (n * 3))[i]? = some (.int .i64 0) := by
      have h3 : i % 3 = 0 ∨ i % 3 = 1 ∨ i % 3 = 2 := by omega
      simp only [madeCells, cells3_val, R.zero, Array.getElem?_map, Array.getElem?_range, hi, if_true, Option.map_some, List.size_toArray, List.length_cons, List.length_nil]
      rcases h3 with h | h | h <;> simp [h]
    rw [hm, List.getElem?_toArray]
    have : i = i / 3 * 3 ∨ i = i / 3 * 3 + 1 ∨ i = i / 3 * 3 + 2 := by omega
    rcases this with h | h | h
    · rw [h]; exact e0.symm
    · rw [h]; exact e1.symm
    · rw [h]; exact e2.symm
  · rw [Array.getElem?_eq_none (by rw [size_madeCells]; omega), List.getElem?_toArray, List.getElem?_eq_none (by rw [cells3_length, List.length_replicate]; omega)]
theorem rowInfo : (Try.prog.info? 89).map (fun i => (i.zero, i.size, i.bytes)) = some (some R.zero.val, 3, 24) := by kernel_rfl
/-- 'make([]impl.Row, n)'. -/
theorem run_make_rows (n : Nat) (hn : n ≤ 1000000000000) (w : World) :
    (Instr.makeSlice 44 (.int .i64 (n : Int)) (.int .i64 (n : Int))).run Try.prog w = .ok (.slice (some ⟨w.heap.size, 0, none⟩) n n) (w.alloc (.cells (cells3 (List.replicate n R.zero)).toArray 89)) := by
  obtain ⟨i0, hi, hz0, hz1, hz2⟩ := info_parts rowInfo
  have h := run_make (P := Try.prog) w 44 89 i0 R.zero.val Try.underlying44 hi hz0 .i64 .i64 (n : Int) (n : Int) (by omega) (by omega) (by rw [hz2]; omega) (by omega)
  rw [h, hz1, Int.toNat_natCast, made_rows]
/-- A row of a block of the call's own. -/
theorem rows_cells {w : World} {g : Nat} {M : List R} {t : TypeId} (h : w.heap[g]? = some (.cells (cells3 M).toArray t (0, 0))) (k : Nat) (hk : k < M.length) : RowAt w g (k * 3) (M.getD k R.zero) := by
  obtain ⟨e0, e1, e2⟩ := cells3_get M k hk
  refine ⟨?_, ?_, ?_⟩ <;> simp only [World.cell?, h] <;> simpa
theorem rows_set {w : World} {g : Nat} {M : List R} {t : TypeId} (h : w.heap[g]? = some (.cells (cells3 M).toArray t (0, 0))) (k : Nat) (hk : k < M.length) (r : R) :
    (((w.setCell ⟨g, k * 3, none⟩ (.int .i64 r.key)).setCell ⟨g, k * 3 + 1, none⟩ (.int .i64 r.value)).setCell ⟨g, k * 3 + 2, none⟩ (.int .i64 r.width)).heap[g]? = some (.cells (cells3 (M.set k r)).toArray t (0, 0)) := by
  have h1 := Joins.block_setCell h (i := k * 3) (.int .i64 r.key)
  have h2 := Joins.block_setCell h1 (i := k * 3 + 1) (.int .i64 r.value)
  have h3 := Joins.block_setCell h2 (i := k * 3 + 2) (.int .i64 r.width)
  rw [h3, ← cells3_set M k r hk]
  simp
theorem set_next (L : List R) (n k : Nat) (hn : L.length = n) (hk : k < n) : (L.take k ++ List.replicate (n - k) R.zero).set k (L.getD k R.zero) = L.take (k + 1) ++ List.replicate (n - (k + 1)) R.zero := by
  have hkl : k < L.length := by omega
  rw [List.set_append_right _ _ (by simp; omega)]
  have e : n - k = (n - (k + 1)) + 1 := by omega
  have e2 : k - (L.take k).length = 0 := by simp; omega
  have e3 : L.getD k R.zero = L[k] := by simp [List.getD, hkl]
  rw [e2, e, List.replicate_succ, List.set_cons_zero, e3, List.take_succ_eq_append_getElem hkl, List.append_assoc]
  rfl
theorem below_set3 {B : Nat} {w w' : World} {g : Nat} (h : Below B w w') (hg : B ≤ g) (i j k : Nat) (x y z : Value) : Below B w (((w'.setCell ⟨g, i, none⟩ x).setCell ⟨g, j, none⟩ y).setCell ⟨g, k, none⟩ z) :=
  ((h.setCell hg x).setCell hg y).setCell hg z
theorem rows_free {w : World} {g : Nat} {M : List R} {t : TypeId} (h : w.heap[g]? = some (.cells (cells3 M).toArray t (0, 0))) (i : Nat) : w.frozen? ⟨g, i, none⟩ = false := by simp [World.frozen?, h]
theorem rows_of {w : World} {g len : Nat} {L : List R} {t : TypeId} (h : w.heap[g]? = some (.cells (cells3 L).toArray t (0, 0))) (hl : L.length = len) (hwf : ∀ r ∈ L, r.wf) : IsRows w (some ⟨g, 0, none⟩) len L :=
  ⟨hl, hwf, .inr ⟨g, 0, rfl, lt_of_block h, fun t ht => by rw [Nat.zero_add]; exact rows_cells h t (by omega)⟩⟩
end Go.Proofs.Ythbifibnnhikjaa
namespace Go.Proofs.Ythbifibnnhikjaa
open Go.RowKit

/-- 'out = append(out, r)'. -/
theorem wpList_pushR {ops : Array Oper} {rest : List Oper} {o : Oper} {a : Act} {Q : Exit → Act → World → Prop} {wr : World} {B : Nat} {M : List R} {v : Value} (s x : Operand) (r : R) (N : Nat) (hN : N = wr.heap.size)
    (hgd : o.guard = none) (ho : o.op = .call { callee := .builtin .append, args := #[s, x], argTypes := #[44, 44] })
    (hs : a.eval s = v) (hx : a.eval x = .slice (some ⟨N, 0, none⟩) 1 1) (hown : wr.ownsRow B 89 3 v M.length (cells3 M)) (hB : B ≤ wr.heap.size)
    (hlen : (M.length + 1) * 24 ≤ 140737488355328)
    (h : ∀ v' w', w'.ownsRow B 89 3 v' (M ++ [r]).length (cells3 (M ++ [r])) → Below B wr w' → (∀ i, i < wr.heap.size → v.ownBlock ≠ some i → w'.heap[i]? = wr.heap[i]?) → wpList Try.prog ops Q rest (a.put o.dst v') w') :
    wpList Try.prog ops Q (o :: rest) a (wr.alloc (.cells #[.int .i64 r.key, .int .i64 r.value, .int .i64 r.width] 89)) := by
  subst hN
  obtain ⟨i0, hi, hz0, hz1, hz2⟩ := info_parts rowInfo
  refine wpList_append_own _ hgd s x 44 ho B 89 i0 R.zero.val 3 24 Try.underlying44 hi hz0 hz1 hz2 rfl (by decide) v M.length (cells3 M) hs (hown.alloc _)
    ⟨wr.heap.size, 0, none⟩ 1 1 [.int .i64 r.key, .int .i64 r.value, .int .i64 r.width] hx rfl ?_ (by intro u hu; simp at hu; rcases hu with rfl | rfl | rfl <;> rfl) (by unfold maxLen; omega) (by omega) (by simp; omega) ?_
  · intro j u hj
    match j, hj with
    | 0, hj => simp at hj; subst hj; simp [Addr.add]
    | 1, hj => simp at hj; subst hj; simp [Addr.add]
    | 2, hj => simp at hj; subst hj; simp [Addr.add]
  · intro v' w' hown' hg _
    have e : cells3 M ++ [.int .i64 r.key, .int .i64 r.value, .int .i64 r.width] = cells3 (M ++ [r]) := by rw [← cells3_append]; rfl
    rw [e] at hown'
    exact h v' w' (by simpa using hown') (((Below.refl B wr).alloc hB _).grown hg (by simp; omega) fun k hk => (hown.lt k hk).1)
      fun i hi hne => (hg.block i (by simp; omega) (fun e => hne e.symm)).trans (Below.heap_alloc _ _ i hi)
theorem own_below {w w' : World} {B : Nat} {v : Value} {n : Nat} {xs : List Value} (h : w.ownsRow B 89 3 v n xs) (hb : Below w.heap.size w w') : w'.ownsRow B 89 3 v n xs := by
  obtain ⟨h1, h0 | ⟨g, cap, cur, rfl, hB, hh, h2⟩⟩ := h
  · exact ⟨h1, .inl h0⟩
  · exact ⟨h1, .inr ⟨g, cap, cur, rfl, hB, (hb.block g (lt_of_block hh)).trans hh, h2⟩⟩
theorem own_apart {w : World} {B g : Nat} {v : Value} {n : Nat} {xs : List Value} {cs : Array Value} {fz : Nat × Nat} (h : w.ownsRow B 89 3 v n xs) (hg : w.heap[g]? = some (.cells cs 9 fz)) : v.ownBlock ≠ some g := by
  intro e
  rcases h.2 with ⟨rfl, _⟩ | ⟨g', cap, cur, rfl, hB, hh, h2⟩
  · simp [Value.ownBlock] at e
  · simp [Value.ownBlock] at e
    subst e
    rw [hh] at hg
    simp at hg
/-- What was appended, as a slice of rows. -/
theorem rows_of_own {w : World} {B : Nat} {v : Value} {M : List R} (h : w.ownsRow B 89 3 v M.length (cells3 M)) (hwf : ∀ r ∈ M, r.wf) : ∃ a cap, v = .slice a M.length cap ∧ IsRows w a M.length M := by
  rcases h.2 with ⟨rfl, h0⟩ | ⟨g, cap, cur, rfl, hB, hh, hcap, hmax, hsz, htake⟩
  · refine ⟨none, 0, by rw [h0], rfl, hwf, .inl h0⟩
  · refine ⟨_, cap, rfl, rfl, hwf, .inr ⟨g, 0, rfl, lt_of_block hh, fun t ht => ?_⟩⟩
    obtain ⟨e0, e1, e2⟩ := cells3_get M t ht
    have hc : ∀ (j : Nat) (u : Value), (cells3 M)[j]? = some u → w.cell? ⟨g, j, none⟩ = some u := by
      intro j u hu
      have hjl : j < M.length * 3 := by have := (List.getElem?_eq_some_iff.1 hu).1; rwa [cells3_length] at this
      rw [← htake, List.getElem?_take, if_pos hjl] at hu
      simp only [World.cell?, hh]
      simpa using hu
    rw [Nat.zero_add]
    exact ⟨hc _ _ e0, hc _ _ e1, hc _ _ e2⟩
/-- A slice of rows over a block of its own from base on, or an empty one. -/
def OwnRows (w : World) (base : Nat) (a : Option Addr) (len : Nat) (L : List R) : Prop :=
  L.length = len ∧ (len = 0 ∨ ∃ g, a = some ⟨g, 0, none⟩ ∧ base ≤ g ∧ w.heap[g]? = some (.cells (cells3 L).toArray 89 (0, 0)))
theorem OwnRows.rows {w : World} {base : Nat} {a : Option Addr} {len : Nat} {L : List R} (h : OwnRows w base a len L) (hwf : ∀ r ∈ L, r.wf) : IsRows w a len L := by
  obtain ⟨hl, h0 | ⟨g, rfl, hg, hb⟩⟩ := h
  · exact ⟨hl, hwf, .inl h0⟩
  · exact rows_of hb hl hwf
theorem OwnRows.keep {w w' : World} {base : Nat} {a : Option Addr} {len : Nat} {L : List R} (h : OwnRows w base a len L) (hb : Below w.heap.size w w') : OwnRows w' base a len L := by
  obtain ⟨hl, h0 | ⟨g, rfl, hg, hh⟩⟩ := h
  · exact ⟨hl, .inl h0⟩
  · exact ⟨hl, .inr ⟨g, rfl, hg, (hb.block g (lt_of_block hh)).trans hh⟩⟩
/-- The rows as the laws mark them. -/
def marked (n : Nat) (k : Int) : List R := (List.range n).map fun (t : Nat) => ⟨k + 3 * (t : Int), k + 3 * (t : Int) + 1, k + 3 * (t : Int) + 2⟩
theorem marked_length (n : Nat) (k : Int) : (marked n k).length = n := by simp [marked]
theorem marked_get (n : Nat) (k : Int) (t : Nat) (ht : t < n) : (marked n k).getD t R.zero = ⟨k + 3 * t, k + 3 * t + 1, k + 3 * t + 2⟩ := by simp [marked, List.getD, ht]
theorem marked_snoc (n : Nat) (k : Int) : marked (n + 1) k = marked n k ++ [⟨k + 3 * n, k + 3 * n + 1, k + 3 * n + 2⟩] := by simp [marked, List.range_succ]
theorem marked_set (n k : Nat) (q : Int) (L : List R) (hl : L.length = n) (hk : k < n) : (marked k q ++ L.drop k).set k ⟨q + 3 * k, q + 3 * k + 1, q + 3 * k + 2⟩ = marked (k + 1) q ++ L.drop (k + 1) := by
  rw [List.set_append_right _ _ (by rw [marked_length]; exact Nat.le_refl _), marked_length, Nat.sub_self, marked_snoc, List.append_assoc]
  congr 1
  rw [List.drop_eq_getElem_cons (by omega)]
  rfl
end Go.Proofs.Ythbifibnnhikjaa
namespace Go.Proofs.Ythbifibnnhikjaa
open Go.RowKit

/-- The slice v holds L in a block of its own, from block B on. -/
def Mine (w : World) (B : Nat) (v : Value) (L : List R) : Prop := w.ownsRow B 89 3 v L.length (cells3 L)
theorem Mine.keep {w w' : World} {B : Nat} {v : Value} {L : List R} (h : Mine w B v L) (hb : Below w.heap.size w w') : Mine w' B v L := own_below h hb
theorem Mine.mono {w : World} {B B' : Nat} {v : Value} {L : List R} (h : Mine w B v L) (hb : B' ≤ B) : Mine w B' v L := by
  obtain ⟨h1, h0 | ⟨g, cap, cur, hv, hB, h2⟩⟩ := h
  · exact ⟨h1, .inl h0⟩
  · exact ⟨h1, .inr ⟨g, cap, cur, hv, Nat.le_trans hb hB, h2⟩⟩
theorem Mine.slice {w : World} {B : Nat} {v : Value} {L : List R} (h : Mine w B v L) : ∃ a cap, v = .slice a L.length cap := by
  rcases h.2 with ⟨rfl, h0⟩ | ⟨g, cap, cur, rfl, -⟩
  · exact ⟨none, 0, by rw [h0]⟩
  · exact ⟨_, _, rfl⟩
theorem Mine.len {w : World} {B : Nat} {a : Option Addr} {len cap : Nat} {L : List R} (h : Mine w B (.slice a len cap) L) : L.length = len := by
  obtain ⟨a', cap', e⟩ := h.slice
  injection e with _ e2 _
  exact e2.symm
theorem Mine.rows {w : World} {B : Nat} {a : Option Addr} {len cap : Nat} {L : List R} (h : Mine w B (.slice a len cap) L) (hwf : ∀ r ∈ L, r.wf) : IsRows w a len L := by
  obtain ⟨a', cap', e, hr⟩ := rows_of_own h hwf
  injection e with e1 e2 e3
  subst e1 e2
  exact hr
theorem Mine.at {w : World} {B : Nat} {a : Option Addr} {len cap : Nat} {L : List R} (h : Mine w B (.slice a len cap) L) {k : Nat} (hk : k < len) :
    ∃ g, a = some ⟨g, 0, none⟩ ∧ B ≤ g ∧ g < w.heap.size ∧ RowAt w g (k * 3) (L.getD k R.zero) ∧ (∀ i, w.frozen? ⟨g, i, none⟩ = false) ∧
      ∀ r : R, Mine (((w.setCell ⟨g, k * 3, none⟩ (.int .i64 r.key)).setCell ⟨g, k * 3 + 1, none⟩ (.int .i64 r.value)).setCell ⟨g, k * 3 + 2, none⟩ (.int .i64 r.width)) B (.slice (some ⟨g, 0, none⟩) len cap) (L.set k r) := by
  have hl := h.len
  obtain ⟨h1, ⟨h0, h2⟩ | ⟨g, cap', cur, hv, hB, hh, hcap, hmax, hsz, htake⟩⟩ := h
  · omega
  · injection hv with e1 e2 e3
    subst e1 e3
    refine ⟨g, rfl, hB, lt_of_block hh, ?_, fun i => by simp [World.frozen?, hh], fun r => ?_⟩
    · obtain ⟨e0, e1, e2⟩ := cells3_get L k (by omega)
      have hc : ∀ (j : Nat) (u : Value), (cells3 L)[j]? = some u → w.cell? ⟨g, j, none⟩ = some u := by
        intro j u hu
        have hjl : j < L.length * 3 := by have := (List.getElem?_eq_some_iff.1 hu).1; rwa [cells3_length] at this
        rw [← htake, List.getElem?_take, if_pos hjl] at hu
        simp only [World.cell?, hh]
        simpa using hu
      exact ⟨hc _ _ e0, hc _ _ e1, hc _ _ e2⟩
    · have s1 := Joins.block_setCell hh (i := k * 3) (.int .i64 r.key)
      have s2 := Joins.block_setCell s1 (i := k * 3 + 1) (.int .i64 r.value)
      have s3 := Joins.block_setCell s2 (i := k * 3 + 2) (.int .i64 r.width)
      refine ⟨by rw [cells3_length], .inr ⟨g, cap, _, by rw [List.length_set, hl], hB, s3, by rw [List.length_set]; exact hcap, hmax, by simpa using hsz, ?_⟩⟩
      rw [← cells3_set L k r (by omega), ← htake]
      simp [List.take_set]
/-- A block of just these rows. -/
theorem mine_of_block {w : World} {B g len : Nat} {L : List R} (h : w.heap[g]? = some (.cells (cells3 L).toArray 89 (0, 0))) (hB : B ≤ g) (hl : L.length = len) (hm : len ≤ maxLen) : Mine w B (.slice (some ⟨g, 0, none⟩) len len) L :=
  ⟨cells3_length L, .inr ⟨g, len, _, by rw [hl], hB, h, by omega, hm, by rw [List.size_toArray, cells3_length, hl], by rw [← cells3_length]; simp⟩⟩
theorem mine_none (w : World) (B : Nat) : Mine w B (.slice none 0 0) [] := ⟨rfl, .inl ⟨rfl, rfl⟩⟩
/-- Fewer of them. -/
theorem Mine.take {w : World} {B : Nat} {a : Option Addr} {len cap : Nat} {L : List R} (h : Mine w B (.slice a len cap) L) {k : Nat} (hk : k ≤ len) : Mine w B (.slice a k cap) (L.take k) := by
  have hl := h.len
  have hlen : (L.take k).length = k := by rw [List.length_take]; omega
  obtain ⟨h1, ⟨h0, h2⟩ | ⟨g, cap', cur, hv, hB, hh, hcap, hmax, hsz, htake⟩⟩ := h
  · injection h0 with e1 e2 e3
    subst e1 e2 e3
    obtain rfl : k = 0 := by omega
    exact mine_none w B
  · injection hv with e1 e2 e3
    subst e1 e3
    refine ⟨cells3_length _, .inr ⟨g, cap, cur, by rw [hlen], hB, hh, by omega, hmax, hsz, ?_⟩⟩
    have e : cells3 L = cells3 (L.take k) ++ cells3 (L.drop k) := by rw [cells3_append, List.take_append_drop]
    have e2 : (cells3 (L.take k)).length = (L.take k).length * 3 := cells3_length _
    rw [← e2]
    have e3 : cur.toList.take ((cells3 (L.take k)).length) = (cur.toList.take (L.length * 3)).take ((cells3 (L.take k)).length) := by
      rw [List.take_take]
      congr 1
      rw [e2, hlen]
      omega
    rw [e3, htake, e, List.take_left]
theorem one_row (r : R) : ∀ u ∈ [Value.int .i64 r.key, .int .i64 r.value, .int .i64 r.width], u.oneCell' = true := by
  intro u hu; simp at hu; rcases hu with rfl | rfl | rfl <;> rfl
theorem one_cells (L : List R) : ∀ u ∈ cells3 L, u.oneCell' = true := by
  intro u hu
  obtain ⟨r, -, hr⟩ := List.mem_flatMap.1 hu
  exact one_row r u hr
theorem IsRows.cell {w : World} {a : Option Addr} {len : Nat} {L : List R} (h : IsRows w a len L) : ∃ ad : Addr, (0 < len → a = some ad) ∧ ∀ j u, (cells3 L)[j]? = some u → w.cell? (ad.add j) = some u := by
  obtain ⟨h1, h2, h0 | ⟨b, o, rfl, hlt, hc⟩⟩ := h
  · refine ⟨⟨0, 0, none⟩, fun h => by omega, fun j u hj => ?_⟩
    have : L = [] := List.eq_nil_of_length_eq_zero (by omega)
    subst this
    simp [cells3] at hj
  · refine ⟨⟨b, o, none⟩, fun _ => rfl, fun j u hj => ?_⟩
    have hjl : j < L.length * 3 := by have := (List.getElem?_eq_some_iff.1 hj).1; rwa [cells3_length] at this
    obtain ⟨c0, c1, c2⟩ := hc (j / 3) (by omega)
    obtain ⟨e0, e1, e2⟩ := cells3_get L (j / 3) (by omega)
    rw [Addr.add_lit]
    have h3 : j = j / 3 * 3 ∨ j = j / 3 * 3 + 1 ∨ j = j / 3 * 3 + 2 := by omega
    rcases h3 with h | h | h
    · rw [h] at hj ⊢; rw [e0] at hj; rw [c0]; exact hj
    · rw [h] at hj ⊢; rw [e1] at hj; rw [← Nat.add_assoc, c1]; exact hj
    · rw [h] at hj ⊢; rw [e2] at hj; rw [← Nat.add_assoc, c2]; exact hj
/-- 'append(x, y...)', y at an address. -/
theorem wpList_appendR {ops : Array Oper} {rest : List Oper} {o : Oper} {a : Act} {Q : Exit → Act → World → Prop} {w : World} {B : Nat} {M L : List R} {v : Value} (s x : Operand) (ad : Addr) (m c : Nat)
    (hgd : o.guard = none) (ho : o.op = .call { callee := .builtin .append, args := #[s, x], argTypes := #[44, 44] })
    (hs : a.eval s = v) (hx : a.eval x = .slice (some ad) m c) (hown : Mine w B v M) (hl : L.length = m) (hc : ∀ j u, (cells3 L)[j]? = some u → w.cell? (ad.add j) = some u) (hB : B ≤ w.heap.size)
    (hlen : M.length + m ≤ 1000000000000)
    (h : ∀ v' w', Mine w' B v' (M ++ L) → w.grownBy w' v.ownBlock → (v' = .slice none 0 0 ↔ v = .slice none 0 0 ∧ m = 0) → wpList Try.prog ops Q rest (a.put o.dst v') w') :
    wpList Try.prog ops Q (o :: rest) a w := by
  obtain ⟨i0, hi, hz0, hz1, hz2⟩ := info_parts rowInfo
  refine wpList_append_own _ hgd s x 44 ho B 89 i0 R.zero.val 3 24 Try.underlying44 hi hz0 hz1 hz2 rfl (by decide) v M.length (cells3 M) hs hown
    ad m c (cells3 L) hx (by rw [cells3_length, hl]) hc (one_cells L) (by unfold maxLen; omega) (by omega) hB ?_
  intro v' w' hown' hg hn
  rw [cells3_append] at hown'
  exact h v' w' (by unfold Mine; rw [List.length_append, hl]; exact hown') hg hn
end Go.Proofs.Ythbifibnnhikjaa
namespace Go.Proofs.Ythbifibnnhikjaa
open Go.RowKit

/-- A stretch of a block: the block, its first cell, the cell behind its last. -/
structure Reg where
  b : Nat
  lo : Nat
  hi : Nat
def Reg.apart (x y : Reg) : Prop := x.b ≠ y.b ∨ x.hi ≤ y.lo ∨ y.hi ≤ x.lo
theorem Reg.apart_symm {x y : Reg} (h : x.apart y) : y.apart x := by
  rcases h with h | h | h
  · exact .inl fun e => h e.symm
  · exact .inr (.inr h)
  · exact .inr (.inl h)
/-- The stretches' cells are as they were. -/
structure Stay (F : List Reg) (w w' : World) : Prop where
  size : w.heap.size ≤ w'.heap.size
  cell : ∀ r ∈ F, ∀ j, r.lo ≤ j → j < r.hi → w'.cell? ⟨r.b, j, none⟩ = w.cell? ⟨r.b, j, none⟩ ∧ w'.frozen? ⟨r.b, j, none⟩ = w.frozen? ⟨r.b, j, none⟩
/-- Only the stretches' cells have changed, and what is new. -/
structure OnlyAt (F : List Reg) (w w' : World) : Prop where
  os : w'.os = w.os
  tape : w'.tape = w.tape
  output : w'.output = w.output
  size : w.heap.size ≤ w'.heap.size
  block : ∀ b, b < w.heap.size → (∀ r ∈ F, r.b ≠ b) → w'.heap[b]? = w.heap[b]?
  cell : ∀ b j, b < w.heap.size → (∀ r ∈ F, r.b = b → j < r.lo ∨ r.hi ≤ j) → w'.cell? ⟨b, j, none⟩ = w.cell? ⟨b, j, none⟩
  frozen : ∀ b j, b < w.heap.size → w'.frozen? ⟨b, j, none⟩ = w.frozen? ⟨b, j, none⟩
theorem OnlyAt.refl (F : List Reg) (w : World) : OnlyAt F w w := ⟨rfl, rfl, rfl, Nat.le_refl _, fun _ _ _ => rfl, fun _ _ _ _ => rfl, fun _ _ _ => rfl⟩
theorem OnlyAt.trans {F : List Reg} {a b c : World} (h : OnlyAt F a b) (k : OnlyAt F b c) : OnlyAt F a c :=
  ⟨k.os.trans h.os, k.tape.trans h.tape, k.output.trans h.output, Nat.le_trans h.size k.size, fun i hi hne => (k.block i (Nat.lt_of_lt_of_le hi h.size) hne).trans (h.block i hi hne),
    fun i j hi hne => (k.cell i j (Nat.lt_of_lt_of_le hi h.size) hne).trans (h.cell i j hi hne), fun i j hi => (k.frozen i j (Nat.lt_of_lt_of_le hi h.size)).trans (h.frozen i j hi)⟩
theorem OnlyAt.mono {F G : List Reg} {a b : World} (h : OnlyAt F a b) (hs : ∀ r ∈ F, r ∈ G) : OnlyAt G a b :=
  ⟨h.os, h.tape, h.output, h.size, fun i hi hne => h.block i hi fun r hr => hne r (hs r hr), fun i j hi hne => h.cell i j hi fun r hr => hne r (hs r hr), h.frozen⟩
theorem OnlyAt.below {F : List Reg} {B : Nat} {a b : World} (h : OnlyAt F a b) (hB : B ≤ a.heap.size) (hF : ∀ r ∈ F, B ≤ r.b) : Below B a b :=
  ⟨h.os, h.tape, h.output, h.size, fun i hi => h.block i (Nat.lt_of_lt_of_le hi hB) fun r hr e => by have := hF r hr; omega⟩
theorem OnlyAt.of_below {F : List Reg} {a b : World} (h : Below a.heap.size a b) : OnlyAt F a b :=
  ⟨h.os, h.tape, h.output, h.size, fun i hi _ => h.block i hi, fun i _ hi _ => World.cell?_of_block (h.block i hi), fun i _ hi => World.frozen?_of_block (h.block i hi)⟩
theorem OnlyAt.set {F : List Reg} {a w : World} (h : OnlyAt F a w) {r : Reg} (hr : r ∈ F) {b j : Nat} (hb : r.b = b) (h1 : r.lo ≤ j) (h2 : j < r.hi) (u : Value) : OnlyAt F a (w.setCell ⟨b, j, none⟩ u) := by
  refine ⟨h.os, h.tape, h.output, by simpa [World.setCell] using h.size, fun i hi hne => ?_, fun i k hi hne => ?_, fun i k hi => ?_⟩
  · exact (Below.heap_setCell w ⟨b, j, none⟩ u i (fun e => hne r hr (by rw [hb, e]))).trans (h.block i hi hne)
  · refine (World.cell?_setCell_other _ _ _ _ (fun e => ?_)).trans (h.cell i k hi hne)
    simp only [Addr.mk.injEq] at e
    have := hne r hr (hb.trans (by have := e.1; omega))
    have := e.2.1
    omega
  · exact (World.frozen?_setCell w _ _ _).trans (h.frozen i k hi)
theorem Stay.of_only {F G : List Reg} {w w' : World} (h : OnlyAt F w w') (hap : ∀ x ∈ F, ∀ y ∈ G, x.apart y) (hlt : ∀ y ∈ G, y.b < w.heap.size) : Stay G w w' :=
  ⟨h.size, fun y hy j h1 h2 => ⟨h.cell y.b j (hlt y hy) fun x hx e => by
    rcases hap x hx y hy with hn | hn | hn
    · exact absurd e hn
    · right; omega
    · left; omega, h.frozen y.b j (hlt y hy)⟩⟩
theorem Stay.of_below {G : List Reg} {w w' : World} {B : Nat} (h : Below B w w') (hlt : ∀ y ∈ G, y.b < B) : Stay G w w' :=
  ⟨h.size, fun y hy _ _ _ => ⟨World.cell?_of_block (h.block y.b (hlt y hy)), World.frozen?_of_block (h.block y.b (hlt y hy))⟩⟩
theorem Stay.sub {F G : List Reg} {w w' : World} (h : Stay G w w') (hs : ∀ r ∈ F, r ∈ G) : Stay F w w' := ⟨h.size, fun r hr => h.cell r (hs r hr)⟩
/-- The cells from a place on. -/
def CellsAt (w : World) (b o : Nat) (cs : List Value) : Prop := ∀ (j : Nat) (u : Value), cs[j]? = some u → w.cell? ⟨b, o + j, none⟩ = some u
theorem CellsAt.below {w w' : World} {B b o : Nat} {cs : List Value} (h : CellsAt w b o cs) (hb : Below B w w') (hlt : b < B) : CellsAt w' b o cs := fun j u hj => (hb.cell hlt).trans (h j u hj)
theorem CellsAt.lt {w : World} {b o : Nat} {cs : List Value} (h : CellsAt w b o cs) (hl : 0 < cs.length) : b < w.heap.size := World.block_lt_of_cell? w _ (h 0 cs[0] (by simp [hl]))

/-- How values of a type lie in memory: 'H': what the cells say beside the datum (the slices' heads); 'inn': what lies behind those heads; 'own': the same, in memory of the call's own, whose stretches are listed. -/
structure Rep (α : Type) where
  H : Type
  size : Nat
  cells : α → H → List Value
  inn : World → α → H → Prop
  own : World → Nat → α → H → List Reg → Prop
  len : ∀ x h, (cells x h).length = size
  inn_keep : ∀ {w w' x h}, inn w x h → Below w.heap.size w w' → inn w' x h
  own_inn : ∀ {w B x h F}, own w B x h F → inn w x h
  own_lt : ∀ {w B x h F}, own w B x h F → ∀ r ∈ F, B ≤ r.b ∧ r.b < w.heap.size
  own_stay : ∀ {w w' B x h F}, own w B x h F → Stay F w w' → own w' B x h F
  own_apart : ∀ {w B x h F}, own w B x h F → F.Pairwise Reg.apart
  own_mono : ∀ {w B B' x h F}, own w B x h F → B' ≤ B → own w B' x h F

/-- A slice: what it holds. -/
def SeqIn {α : Type} (r : Rep α) (w : World) (a : Option Addr) (n : Nat) (xs : List α) : Prop :=
  xs.length = n ∧ n ≤ maxLen ∧ (n = 0 ∨ ∃ b o : Nat, a = some ⟨b, o, none⟩ ∧ b < w.heap.size ∧ ∃ hs : Nat → r.H, ∀ t x, xs[t]? = some x → CellsAt w b (o + t * r.size) (r.cells x (hs t)) ∧ r.inn w x (hs t))
/-- A slice in memory of the call's own. -/
def SeqOwn {α : Type} (r : Rep α) (w : World) (B : Nat) (a : Option Addr) (n : Nat) (xs : List α) (F : List Reg) : Prop :=
  xs.length = n ∧ n ≤ maxLen ∧ ((n = 0 ∧ F = []) ∨ ∃ (b o : Nat) (hs : Nat → r.H) (Fs : Nat → List Reg), a = some ⟨b, o, none⟩ ∧ B ≤ b ∧ b < w.heap.size ∧ F = ⟨b, o, o + n * r.size⟩ :: (List.range n).flatMap Fs ∧ F.Pairwise Reg.apart ∧
    (∀ j, o ≤ j → j < o + n * r.size → w.frozen? ⟨b, j, none⟩ = false) ∧ ∀ t x, xs[t]? = some x → CellsAt w b (o + t * r.size) (r.cells x (hs t)) ∧ r.own w B x (hs t) (Fs t))
theorem idx_lt {α : Type} {xs : List α} {t : Nat} {x : α} (h : xs[t]? = some x) : t < xs.length := (List.getElem?_eq_some_iff.1 h).1
theorem at_le {t n s : Nat} (h : t < n) : t * s + s ≤ n * s := by
  have := Nat.mul_le_mul_right s (show t + 1 ≤ n from h)
  rwa [Nat.add_mul, Nat.one_mul] at this
theorem SeqIn.keep {α : Type} {r : Rep α} {w w' : World} {a : Option Addr} {n : Nat} {xs : List α} (h : SeqIn r w a n xs) (hb : Below w.heap.size w w') : SeqIn r w' a n xs := by
  obtain ⟨h1, hm, h2⟩ := h
  refine ⟨h1, hm, h2.imp_right ?_⟩
  rintro ⟨b, o, rfl, hlt, hs, hx⟩
  exact ⟨b, o, rfl, Nat.lt_of_lt_of_le hlt hb.size, hs, fun t x ht => ⟨(hx t x ht).1.below hb hlt, r.inn_keep (hx t x ht).2 hb⟩⟩
theorem SeqOwn.lt {α : Type} {r : Rep α} {w : World} {B : Nat} {a : Option Addr} {n : Nat} {xs : List α} {F : List Reg} (h : SeqOwn r w B a n xs F) : ∀ y ∈ F, B ≤ y.b ∧ y.b < w.heap.size := by
  obtain ⟨h1, -, ⟨-, rfl⟩ | ⟨b, o, hs, Fs, rfl, hB, hlt, rfl, -, -, hx⟩⟩ := h
  · intro y hy; cases hy
  · intro y hy
    rcases List.mem_cons.1 hy with rfl | hy
    · exact ⟨hB, hlt⟩
    · obtain ⟨t, ht, hy⟩ := List.mem_flatMap.1 hy
      have htl : t < xs.length := by rw [h1]; exact List.mem_range.1 ht
      exact r.own_lt (hx t xs[t] (by simp [htl])).2 y hy
theorem SeqOwn.stay {α : Type} {r : Rep α} {w w' : World} {B : Nat} {a : Option Addr} {n : Nat} {xs : List α} {F : List Reg} (h : SeqOwn r w B a n xs F) (hs : Stay F w w') : SeqOwn r w' B a n xs F := by
  obtain ⟨h1, hm, h2⟩ := h
  refine ⟨h1, hm, h2.imp_right ?_⟩
  rintro ⟨b, o, hh, Fs, rfl, hB, hlt, rfl, hp, hf, hx⟩
  have hc := hs.cell ⟨b, o, o + n * r.size⟩ (List.mem_cons_self ..)
  refine ⟨b, o, hh, Fs, rfl, hB, Nat.lt_of_lt_of_le hlt hs.size, rfl, hp, fun j ha hb => ((hc j ha hb).2).trans (hf j ha hb), fun t x ht => ?_⟩
  have htn : t < n := by rw [← h1]; exact idx_lt ht
  refine ⟨fun j u hj => ?_, r.own_stay (hx t x ht).2 (hs.sub fun y hy => List.mem_cons_of_mem _ (List.mem_flatMap.2 ⟨t, List.mem_range.2 htn, hy⟩))⟩
  have hjl : j < r.size := by rw [← r.len x (hh t)]; exact idx_lt hj
  have hle := at_le (s := r.size) htn
  exact ((hc (o + t * r.size + j) (by simp only; omega) (by simp only; omega)).1).trans ((hx t x ht).1 j u hj)
theorem SeqOwn.inn {α : Type} {r : Rep α} {w : World} {B : Nat} {a : Option Addr} {n : Nat} {xs : List α} {F : List Reg} (h : SeqOwn r w B a n xs F) : SeqIn r w a n xs := by
  obtain ⟨h1, hm, ⟨h0, -⟩ | ⟨b, o, hs, Fs, rfl, -, hlt, -, -, -, hx⟩⟩ := h
  · exact ⟨h1, hm, .inl h0⟩
  · exact ⟨h1, hm, .inr ⟨b, o, rfl, hlt, hs, fun t x ht => ⟨(hx t x ht).1, r.own_inn (hx t x ht).2⟩⟩⟩
theorem SeqOwn.apart {α : Type} {r : Rep α} {w : World} {B : Nat} {a : Option Addr} {n : Nat} {xs : List α} {F : List Reg} (h : SeqOwn r w B a n xs F) : F.Pairwise Reg.apart := by
  obtain ⟨h1, -, ⟨-, rfl⟩ | ⟨b, o, hs, Fs, rfl, -, hlt, -, hp, -⟩⟩ := h
  · exact List.Pairwise.nil
  · exact hp
theorem SeqOwn.mono {α : Type} {r : Rep α} {w : World} {B B' : Nat} {a : Option Addr} {n : Nat} {xs : List α} {F : List Reg} (h : SeqOwn r w B a n xs F) (hb : B' ≤ B) : SeqOwn r w B' a n xs F := by
  obtain ⟨h1, hm, h2⟩ := h
  refine ⟨h1, hm, h2.imp_right ?_⟩
  rintro ⟨b, o, hs, Fs, rfl, hB, hlt, hF, hp, hf, hx⟩
  exact ⟨b, o, hs, Fs, rfl, Nat.le_trans hb hB, hlt, hF, hp, hf, fun t x ht => ⟨(hx t x ht).1, r.own_mono (hx t x ht).2 hb⟩⟩
theorem SeqOwn.keep {α : Type} {r : Rep α} {w w' : World} {B : Nat} {a : Option Addr} {n : Nat} {xs : List α} {F : List Reg} (h : SeqOwn r w B a n xs F) (hb : Below w.heap.size w w') : SeqOwn r w' B a n xs F :=
  h.stay (Stay.of_below hb fun y hy => (h.lt y hy).2)
/-- What changes other stretches alone. -/
theorem SeqOwn.far {α : Type} {r : Rep α} {w w' : World} {B : Nat} {a : Option Addr} {n : Nat} {xs : List α} {F G : List Reg} (h : SeqOwn r w B a n xs F) (ho : OnlyAt G w w') (hap : ∀ x ∈ G, ∀ y ∈ F, x.apart y) : SeqOwn r w' B a n xs F :=
  h.stay (Stay.of_only ho hap fun y hy => (h.lt y hy).2)
/-- A row: three numbers. -/
def rowRep : Rep R where
  H := Unit
  size := 3
  cells := fun r _ => [.int .i64 r.key, .int .i64 r.value, .int .i64 r.width]
  inn := fun _ r _ => r.wf
  own := fun _ _ r _ F => r.wf ∧ F = []
  len := fun _ _ => rfl
  inn_keep := fun h _ => h
  own_inn := fun h => h.1
  own_lt := fun h y hy => by rw [h.2] at hy; cases hy
  own_stay := fun h _ => h
  own_apart := fun h => by rw [h.2]; exact List.Pairwise.nil
  own_mono := fun h _ => h
/-- A slice of them. -/
def seqRep {α : Type} (r : Rep α) : Rep (List α) where
  H := Option Addr × Nat × Nat
  size := 1
  cells := fun _ h => [.slice h.1 h.2.1 h.2.2]
  inn := fun w xs h => SeqIn r w h.1 h.2.1 xs ∧ (h.1 = none → h.2.2 = 0)
  own := fun w B xs h F => SeqOwn r w B h.1 h.2.1 xs F ∧ (h.1 = none → h.2.2 = 0)
  len := fun _ _ => rfl
  inn_keep := fun h hb => ⟨h.1.keep hb, h.2⟩
  own_inn := fun h => ⟨h.1.inn, h.2⟩
  own_lt := fun h => h.1.lt
  own_stay := fun h hs => ⟨h.1.stay hs, h.2⟩
  own_apart := fun h => h.1.apart
  own_mono := fun h hb => ⟨h.1.mono hb, h.2⟩
/-- One element, and what a change of it leaves. -/
theorem SeqOwn.at {α : Type} {r : Rep α} {w : World} {B : Nat} {a : Option Addr} {n : Nat} {xs : List α} {F : List Reg} (h : SeqOwn r w B a n xs F) {t : Nat} {x : α} (ht : xs[t]? = some x) :
    ∃ (b o : Nat) (hd : r.H) (G : List Reg), a = some ⟨b, o, none⟩ ∧ b < w.heap.size ∧ CellsAt w b (o + t * r.size) (r.cells x hd) ∧ (∀ j, j < r.size → w.frozen? ⟨b, o + t * r.size + j, none⟩ = false) ∧ r.own w B x hd G ∧ (∀ y ∈ G, y ∈ F) ∧
      ∀ w' x', OnlyAt G w w' → r.own w' B x' hd G → r.cells x' hd = r.cells x hd → SeqOwn r w' B a n (xs.set t x') F := by
  have htl := idx_lt ht
  obtain ⟨h1, hm, ⟨h0, -⟩ | ⟨b, o, hs, Fs, rfl, hB, hlt, rfl, hp, hf, hx⟩⟩ := h
  · omega
  · have htn : t < n := by omega
    have hle := at_le (s := r.size) htn
    have hsub : ∀ y ∈ Fs t, y ∈ (⟨b, o, o + n * r.size⟩ : Reg) :: (List.range n).flatMap Fs := fun y hy => List.mem_cons_of_mem _ (List.mem_flatMap.2 ⟨t, List.mem_range.2 htn, hy⟩)
    refine ⟨b, o, hs t, Fs t, rfl, hlt, (hx t x ht).1, fun j hj => hf _ (by omega) (by omega), (hx t x ht).2, hsub, fun w' x' ho hown hce => ?_⟩
    have hhead : ∀ y ∈ Fs t, (⟨b, o, o + n * r.size⟩ : Reg).apart y := fun y hy => (List.pairwise_cons.1 hp).1 y (List.mem_flatMap.2 ⟨t, List.mem_range.2 htn, hy⟩)
    have hst : Stay [⟨b, o, o + n * r.size⟩] w w' := Stay.of_only ho (fun y hy z hz => by rw [List.mem_singleton.1 hz]; exact Reg.apart_symm (hhead y hy)) (fun z hz => by rw [List.mem_singleton.1 hz]; exact hlt)
    have hc := hst.cell ⟨b, o, o + n * r.size⟩ (List.mem_singleton.2 rfl)
    refine ⟨by rw [List.length_set]; exact h1, hm, .inr ⟨b, o, hs, Fs, rfl, hB, Nat.lt_of_lt_of_le hlt ho.size, rfl, hp, fun j ha hb => ((hc j ha hb).2).trans (hf j ha hb), fun s y hy => ?_⟩⟩
    have hsn : s < n := by have := idx_lt hy; rw [List.length_set] at this; omega
    have hles := at_le (s := r.size) hsn
    have hcell : ∀ z, xs[s]? = some z → CellsAt w' b (o + s * r.size) (r.cells z (hs s)) := fun z hz j u hj => by
      have hjl : j < r.size := by rw [← r.len z (hs s)]; exact idx_lt hj
      exact ((hc (o + s * r.size + j) (by simp only; omega) (by simp only; omega)).1).trans ((hx s z hz).1 j u hj)
    by_cases hst' : s = t
    · subst hst'
      rw [List.getElem?_set_self htl] at hy
      obtain rfl := Option.some.inj hy
      exact ⟨by rw [hce]; exact hcell x ht, hown⟩
    · rw [List.getElem?_set_ne (fun e => hst' e.symm)] at hy
      refine ⟨hcell y hy, r.own_stay (hx s y hy).2 (Stay.of_only ho (fun p hp' q hq => ?_) fun q hq => (r.own_lt (hx s y hy).2 q hq).2)⟩
      have hpw := (List.pairwise_cons.1 hp).2
      rw [List.pairwise_flatMap] at hpw
      have hr := hpw.2
      rcases Nat.lt_or_gt_of_ne hst' with h2 | h2
      · exact Reg.apart_symm ((List.pairwise_iff_getElem.1 hr) s t (by simpa using hsn) (by simpa using htn) h2 q (by simpa using hq) p (by simpa using hp'))
      · exact (List.pairwise_iff_getElem.1 hr) t s (by simpa using htn) (by simpa using hsn) h2 p (by simpa using hp') q (by simpa using hq)
end Go.Proofs.Ythbifibnnhikjaa
namespace Go.Proofs.Ythbifibnnhikjaa
open Go.RowKit

/-- An element that has been built: its datum, its heads, its stretches. -/
structure El {α : Type} (r : Rep α) where
  x : α
  h : r.H
  F : List Reg
/-- What lies behind the elements' heads is the call's own, each element's apart from the others'. -/
def OwnAll {α : Type} (r : Rep α) (w : World) (B : Nat) (es : List (El r)) : Prop :=
  (∀ e ∈ es, r.own w B e.x e.h e.F) ∧ es.Pairwise fun e f => ∀ x ∈ e.F, ∀ y ∈ f.F, x.apart y
def InAll {α : Type} (r : Rep α) (w : World) (es : List (El r)) : Prop := ∀ e ∈ es, r.inn w e.x e.h
/-- The elements' cells, one behind the other. -/
def cellsOf {α : Type} {r : Rep α} (es : List (El r)) : List Value := es.flatMap fun e => r.cells e.x e.h
theorem cellsOf_length {α : Type} {r : Rep α} (es : List (El r)) : (cellsOf es).length = es.length * r.size := by
  unfold cellsOf
  induction es with
  | nil => simp
  | cons e es ih => rw [List.flatMap_cons, List.length_append, ih, r.len, List.length_cons, Nat.add_mul]; omega
theorem cellsOf_snoc {α : Type} {r : Rep α} (es : List (El r)) (e : El r) : cellsOf (es ++ [e]) = cellsOf es ++ r.cells e.x e.h := by simp [cellsOf]
theorem cellsOf_get {α : Type} {r : Rep α} : ∀ (es : List (El r)) (t : Nat) (e : El r), es[t]? = some e → ∀ j u, (r.cells e.x e.h)[j]? = some u → (cellsOf es)[t * r.size + j]? = some u
  | [], t, e, ht, j, u, hj => by simp at ht
  | e0 :: es, 0, e, ht, j, u, hj => by
    obtain rfl : e0 = e := by simpa using ht
    have hjl := idx_lt hj
    rw [Nat.zero_mul, Nat.zero_add]
    show (r.cells e0.x e0.h ++ cellsOf es)[j]? = _
    rw [List.getElem?_append_left hjl]
    exact hj
  | e0 :: es, t + 1, e, ht, j, u, hj => by
    have ht' : es[t]? = some e := by simpa using ht
    have := cellsOf_get es t e ht' j u hj
    show (r.cells e0.x e0.h ++ cellsOf es)[(t + 1) * r.size + j]? = _
    have hl := r.len e0.x e0.h
    have e1 : (t + 1) * r.size = t * r.size + r.size := by rw [Nat.add_mul, Nat.one_mul]
    rw [List.getElem?_append_right (by omega), hl, show (t + 1) * r.size + j - r.size = t * r.size + j by omega]
    exact this
theorem OwnAll.nil {α : Type} (r : Rep α) (w : World) (B : Nat) : OwnAll r w B [] := ⟨fun e he => (by cases he), List.Pairwise.nil⟩
theorem InAll.nil {α : Type} (r : Rep α) (w : World) : InAll r w [] := fun e he => (by cases he)
theorem OwnAll.inn {α : Type} {r : Rep α} {w : World} {B : Nat} {es : List (El r)} (h : OwnAll r w B es) : InAll r w es := fun e he => r.own_inn (h.1 e he)
theorem OwnAll.stay {α : Type} {r : Rep α} {w w' : World} {B : Nat} {es : List (El r)} (h : OwnAll r w B es) (hs : ∀ e ∈ es, Stay e.F w w') : OwnAll r w' B es := ⟨fun e he => r.own_stay (h.1 e he) (hs e he), h.2⟩
theorem OwnAll.keep {α : Type} {r : Rep α} {w w' : World} {B : Nat} {es : List (El r)} (h : OwnAll r w B es) (hb : Below w.heap.size w w') : OwnAll r w' B es :=
  h.stay fun e he => Stay.of_below hb fun y hy => (r.own_lt (h.1 e he) y hy).2
theorem InAll.keep {α : Type} {r : Rep α} {w w' : World} {es : List (El r)} (h : InAll r w es) (hb : Below w.heap.size w w') : InAll r w' es := fun e he => r.inn_keep (h e he) hb
/-- What changes a block that none of them is in. -/
theorem OwnAll.only {α : Type} {r : Rep α} {w w' : World} {B : Nat} {es : List (El r)} {G : List Reg} (h : OwnAll r w B es) (ho : OnlyAt G w w') (hne : ∀ e ∈ es, ∀ y ∈ e.F, ∀ x ∈ G, x.b ≠ y.b) : OwnAll r w' B es :=
  h.stay fun e he => Stay.of_only ho (fun x hx y hy => .inl (hne e he y hy x hx)) fun y hy => (r.own_lt (h.1 e he) y hy).2
/-- One more, in memory that is new. -/
theorem OwnAll.push {α : Type} {r : Rep α} {w w' : World} {B B' : Nat} {es : List (El r)} (h : OwnAll r w B es) (hb : Below w.heap.size w w') {e : El r} (he : r.own w' B' e.x e.h e.F) (hB : B ≤ B') (hn : w.heap.size ≤ B') : OwnAll r w' B (es ++ [e]) := by
  have hk := h.keep hb
  refine ⟨fun f hf => ?_, ?_⟩
  · rcases List.mem_append.1 hf with hf | hf
    · exact hk.1 f hf
    · rw [List.mem_singleton.1 hf]; exact r.own_mono he hB
  · rw [List.pairwise_append]
    refine ⟨hk.2, List.pairwise_singleton _ _, fun f hf g hg => ?_⟩
    rw [List.mem_singleton.1 hg]
    intro x hx y hy
    have h1 := (r.own_lt (h.1 f hf) x hx).2
    have h2 := (r.own_lt he y hy).1
    exact .inl (by omega)
theorem InAll.push {α : Type} {r : Rep α} {w : World} {es : List (El r)} (h : InAll r w es) {e : El r} (he : r.inn w e.x e.h) : InAll r w (es ++ [e]) := fun f hf => by
  rcases List.mem_append.1 hf with hf | hf
  · exact h f hf
  · rw [List.mem_singleton.1 hf]; exact he
theorem OwnAll.mono {α : Type} {r : Rep α} {w : World} {B B' : Nat} {es : List (El r)} (h : OwnAll r w B es) (hb : B' ≤ B) : OwnAll r w B' es := ⟨fun e he => r.own_mono (h.1 e he) hb, h.2⟩
theorem built_set {cs : List Value} {m t : Nat} {z v : Value} (h : cs.length = t) (hm : 0 < m) : ((cs ++ List.replicate m z).toArray).setIfInBounds t v = (cs ++ [v] ++ List.replicate (m - 1) z).toArray := by
  obtain ⟨k, rfl⟩ : ∃ k, m = k + 1 := ⟨m - 1, by omega⟩
  apply Array.toList_inj.1
  simp only [Array.toList_setIfInBounds]
  rw [List.set_append_right _ _ (by omega), h, Nat.sub_self, List.replicate_succ, List.set_cons_zero]
  simp
/-- The whole, once the elements' cells lie in a block. -/
theorem OwnAll.done {α : Type} {r : Rep α} {w : World} {B g : Nat} {es : List (El r)} (h : OwnAll r w B es) (hg : B ≤ g) (hl : g < w.heap.size) (hf : ∀ j, w.frozen? ⟨g, j, none⟩ = false) (hc : ∀ j u, (cellsOf es)[j]? = some u → w.cell? ⟨g, j, none⟩ = some u)
    (hne : ∀ e ∈ es, ∀ y ∈ e.F, y.b ≠ g) (hm : es.length ≤ maxLen) : ∃ F, SeqOwn r w B (some ⟨g, 0, none⟩) es.length (es.map El.x) F := by
  rcases Nat.eq_zero_or_pos es.length with h0 | h0
  · exact ⟨[], by simp, hm, .inl ⟨h0, rfl⟩⟩
  · obtain ⟨e0, -⟩ : ∃ e0, es[0]? = some e0 := ⟨es[0], by simp [h0]⟩
    refine ⟨_, by simp, hm, .inr ⟨g, 0, fun t => (es.getD t e0).h, fun t => (es.getD t e0).F, rfl, hg, hl, rfl, ?_, fun j _ _ => hf j, fun t x ht => ?_⟩⟩
    · rw [List.pairwise_cons]
      refine ⟨fun y hy => ?_, ?_⟩
      · obtain ⟨t, ht, hy⟩ := List.mem_flatMap.1 hy
        have htl : t < es.length := List.mem_range.1 ht
        have hgd : es.getD t e0 = es[t] := by simp [List.getD, htl]
        rw [hgd] at hy
        exact .inl fun e => hne es[t] (List.getElem_mem htl) y hy e.symm
      · rw [List.pairwise_flatMap]
        refine ⟨fun t ht => ?_, ?_⟩
        · have htl : t < es.length := List.mem_range.1 ht
          have hgd : es.getD t e0 = es[t] := by simp [List.getD, htl]
          rw [hgd]
          exact r.own_apart (h.1 es[t] (List.getElem_mem htl))
        · rw [List.pairwise_iff_getElem]
          intro i j hi hj hij x hx y hy
          simp only [List.getElem_range] at hx hy
          have hil : i < es.length := by simpa using hi
          have hjl : j < es.length := by simpa using hj
          have h1 : es.getD i e0 = es[i] := by simp [List.getD, hil]
          have h2 : es.getD j e0 = es[j] := by simp [List.getD, hjl]
          rw [h1] at hx
          rw [h2] at hy
          exact (List.pairwise_iff_getElem.1 h.2) i j hil hjl hij x hx y hy
    · have htl : t < es.length := by have := idx_lt ht; simpa using this
      have hgd : es.getD t e0 = es[t] := by simp [List.getD, htl]
      obtain rfl : es[t].x = x := by simpa [htl] using ht
      simp only []
      rw [hgd]
      refine ⟨fun j u hj => ?_, h.1 es[t] (List.getElem_mem htl)⟩
      rw [Nat.zero_add]
      exact hc _ _ (cellsOf_get es t es[t] (by simp [htl]) j u hj)
theorem InAll.done {α : Type} {r : Rep α} {w : World} {g o : Nat} {es : List (El r)} (h : InAll r w es) (hl : g < w.heap.size) (hc : ∀ j u, (cellsOf es)[j]? = some u → w.cell? ⟨g, o + j, none⟩ = some u) (hm : es.length ≤ maxLen) :
    SeqIn r w (some ⟨g, o, none⟩) es.length (es.map El.x) := by
  rcases Nat.eq_zero_or_pos es.length with h0 | h0
  · exact ⟨by simp, hm, .inl h0⟩
  · obtain ⟨e0, -⟩ : ∃ e0, es[0]? = some e0 := ⟨es[0], by simp [h0]⟩
    refine ⟨by simp, hm, .inr ⟨g, o, rfl, hl, fun t => (es.getD t e0).h, fun t x ht => ?_⟩⟩
    have htl : t < es.length := by have := idx_lt ht; simpa using this
    have hgd : es.getD t e0 = es[t] := by simp [List.getD, htl]
    obtain rfl : es[t].x = x := by simpa [htl] using ht
    simp only []
    rw [hgd]
    refine ⟨fun j u hj => ?_, h es[t] (List.getElem_mem htl)⟩
    rw [Nat.add_assoc]
    exact hc _ _ (cellsOf_get es t es[t] (by simp [htl]) j u hj)
/-- One element of a slice of slices. -/
theorem SeqIn.at {α : Type} {r : Rep α} {w : World} {a : Option Addr} {n : Nat} {xs : List (List α)} (h : SeqIn (seqRep r) w a n xs) {t : Nat} {x : List α} (ht : xs[t]? = some x) :
    ∃ (b o : Nat) (c : Option Addr) (k m : Nat), a = some ⟨b, o, none⟩ ∧ b < w.heap.size ∧ w.cell? ⟨b, o + t, none⟩ = some (.slice c k m) ∧ SeqIn r w c k x ∧ (c = none → m = 0) := by
  have htl := idx_lt ht
  obtain ⟨h1, -, h0 | ⟨b, o, rfl, hlt, hs, hx⟩⟩ := h
  · omega
  · obtain ⟨hc, hi⟩ := hx t x ht
    have := hc 0 _ rfl
    simp only [seqRep, Nat.mul_one, Nat.add_zero] at this
    exact ⟨b, o, _, _, _, rfl, hlt, this, hi.1, hi.2⟩
/-- Rows in a block of their own. -/
theorem rows_own {w : World} {B g n cap : Nat} {L : List R} (h : Mine w B (.slice (some ⟨g, 0, none⟩) n cap) L) (hwf : ∀ r ∈ L, r.wf) (hm : n ≤ maxLen) : ∃ F, SeqOwn rowRep w B (some ⟨g, 0, none⟩) n L F ∧ ∀ y ∈ F, y.b = g := by
  have hl := h.len
  have hB : B ≤ g := (World.ownsRow.lt h g rfl).1
  have hlt : g < w.heap.size := (World.ownsRow.lt h g rfl).2
  rcases Nat.eq_zero_or_pos n with h0 | h0
  · exact ⟨[], ⟨by omega, hm, .inl ⟨h0, rfl⟩⟩, fun y hy => by cases hy⟩
  · have hf : ∀ i, w.frozen? ⟨g, i, none⟩ = false := by
      obtain ⟨g', e', -, -, -, hfz, -⟩ := h.at h0
      injection e' with e'
      injection e' with e'
      subst e'
      exact hfz
    have hfl : (List.range n).flatMap (fun _ => ([] : List Reg)) = [] := by simp
    refine ⟨_, ⟨hl, hm, .inr ⟨g, 0, fun _ => (), fun _ => [], rfl, hB, hlt, rfl, ?_, fun j _ _ => hf j, fun t x ht => ⟨fun j u hj => ?_, hwf x (List.mem_of_getElem? ht), rfl⟩⟩⟩, fun y hy => ?_⟩
    · rw [List.pairwise_cons]
      refine ⟨fun y hy => ?_, ?_⟩
      · obtain ⟨t, -, hy⟩ := List.mem_flatMap.1 hy; cases hy
      · have : (List.range n).flatMap (fun _ => ([] : List Reg)) = [] := by simp
        rw [this]; exact List.Pairwise.nil
    · have htl := idx_lt ht
      have hg : L.getD t R.zero = x := by simp [List.getD, ht]
      obtain ⟨g', e', -, -, ⟨c0, c1, c2⟩, -, -⟩ := h.at (k := t) (by omega)
      injection e' with e'
      injection e' with e'
      subst e'
      rw [hg] at c0 c1 c2
      rw [Nat.zero_add]
      match j, hj with
      | 0, hj => obtain rfl := Option.some.inj hj; exact c0
      | 1, hj => obtain rfl := Option.some.inj hj; exact c1
      | 2, hj => obtain rfl := Option.some.inj hj; exact c2
    · rw [hfl] at hy
      rw [List.mem_singleton.1 hy]
/-- Rows, both ways. -/
theorem rows_in {w : World} {a : Option Addr} {len : Nat} {L : List R} (h : SeqIn rowRep w a len L) : IsRows w a len L := by
  obtain ⟨h1, hm, h2⟩ := h
  have hwf : ∀ r ∈ L, r.wf := by
    intro r hr
    obtain ⟨t, ht, rfl⟩ := List.getElem_of_mem hr
    rcases h2 with h2 | ⟨b, o, -, -, hs, hx⟩
    · omega
    · exact (hx t L[t] (by simp [ht])).2
  refine ⟨h1, hwf, h2.imp_right ?_⟩
  rintro ⟨b, o, rfl, hlt, hs, hx⟩
  refine ⟨b, o, rfl, hlt, fun t ht => ?_⟩
  have htl : t < L.length := by omega
  have hg : L.getD t R.zero = L[t] := by simp [List.getD, htl]
  obtain ⟨hc, -⟩ := hx t L[t] (by simp [htl])
  rw [hg]
  exact ⟨hc 0 _ rfl, hc 1 _ rfl, hc 2 _ rfl⟩
theorem in_rows {w : World} {a : Option Addr} {len : Nat} {L : List R} (h : IsRows w a len L) (hm : len ≤ maxLen) : SeqIn rowRep w a len L := by
  obtain ⟨h1, hwf, h2⟩ := h
  refine ⟨h1, hm, h2.imp_right ?_⟩
  rintro ⟨b, o, rfl, hlt, hx⟩
  refine ⟨b, o, rfl, hlt, fun _ => (), fun t x ht => ?_⟩
  have htl := idx_lt ht
  have hg : L.getD t R.zero = x := by simp [List.getD, ht]
  obtain ⟨c0, c1, c2⟩ := hx t (by omega)
  rw [hg] at c0 c1 c2
  refine ⟨fun j u hj => ?_, hwf x (List.mem_of_getElem? ht)⟩
  match j, hj with
  | 0, hj => obtain rfl := Option.some.inj hj; exact c0
  | 1, hj => obtain rfl := Option.some.inj hj; exact c1
  | 2, hj => obtain rfl := Option.some.inj hj; exact c2
end Go.Proofs.Ythbifibnnhikjaa
namespace Go.Proofs.Ythbifibnnhikjaa
open Go.RowKit

theorem Mine.grown {w w' : World} {B : Nat} {v : Value} {L : List R} {row : Option Nat} (h : Mine w B v L) (hg : w.grownBy w' row) (hne : ∀ k, v.ownBlock = some k → row ≠ some k) : Mine w' B v L := by
  obtain ⟨h1, h0 | ⟨g, cap, cur, rfl, hB, hh, h2⟩⟩ := h
  · exact ⟨h1, .inl h0⟩
  · exact ⟨h1, .inr ⟨g, cap, cur, rfl, hB, (hg.block g (lt_of_block hh) (fun e => hne g rfl e.symm)).trans hh, h2⟩⟩
theorem Mine.addr {w : World} {B : Nat} {v : Value} {L : List R} (h : Mine w B v L) (hne : v ≠ .slice none 0 0) : ∃ g c, v = .slice (some ⟨g, 0, none⟩) L.length c ∧ B ≤ g ∧ g < w.heap.size := by
  obtain ⟨h1, h0 | ⟨g, cap, cur, rfl, hB, hh, h2⟩⟩ := h
  · exact absurd h0.1 hne
  · exact ⟨g, cap, rfl, hB, lt_of_block hh⟩
theorem Mine.own' {w : World} {B : Nat} {v : Value} {L : List R} (h : Mine w B v L) : ∀ k, v.ownBlock = some k → B ≤ k := fun k hk => (World.ownsRow.lt h k hk).1
theorem Mine.drew {w : World} {B : Nat} {v : Value} {L : List R} (h : Mine w B v L) : Mine w.drew B v L := h
theorem Mine.cap {w : World} {B g len cap : Nat} {L : List R} (h : Mine w B (.slice (some ⟨g, 0, none⟩) len cap) L) : len ≤ cap := by
  have hl := h.len
  rcases h.2 with ⟨h0, h2⟩ | ⟨g', cap', cur, hv, hB, hh, hc, -⟩
  · injection h0 with e1 e2 e3; cases e1
  · injection hv with e1 e2 e3; omega
theorem Mine.lt {w : World} {B g len cap : Nat} {L : List R} (h : Mine w B (.slice (some ⟨g, 0, none⟩) len cap) L) : g < w.heap.size := (World.ownsRow.lt h g rfl).2
/-- The cells of what lies in a slice from k on, where the slice that is cut there begins. -/
theorem Mine.from {w : World} {B : Nat} {g len cap : Nat} {L : List R} (h : Mine w B (.slice (some ⟨g, 0, none⟩) len cap) L) {k : Nat} (hk : k ≤ len) :
    ∃ A : Addr, (if cap = k then some (⟨g, 0, none⟩ : Addr) else some ⟨g, k * 3, none⟩) = some A ∧ (L.drop k).length = len - k ∧ ∀ j u, (cells3 (L.drop k))[j]? = some u → w.cell? (A.add j) = some u := by
  have hl := h.len
  have hcap : len ≤ cap := by
    rcases h.2 with ⟨h0, h2⟩ | ⟨g', cap', cur, hv, hB, hh, hc, -⟩
    · injection h0 with e1 e2 e3; cases e1
    · injection hv with e1 e2 e3; omega
  have hld : (L.drop k).length = len - k := by rw [List.length_drop, hl]
  by_cases hc : cap = k
  · refine ⟨_, by rw [if_pos hc], hld, fun j u hj => ?_⟩
    have : L.drop k = [] := List.drop_eq_nil_of_le (by omega)
    rw [this] at hj
    simp [cells3] at hj
  · refine ⟨_, by rw [if_neg hc], hld, fun j u hj => ?_⟩
    have hjl : j < (len - k) * 3 := by have := (List.getElem?_eq_some_iff.1 hj).1; rwa [cells3_length, hld] at this
    obtain ⟨g', e, hB, hg, -, -, -⟩ := h.at (k := k) (by omega)
    have hat : RowAt w g ((k + j / 3) * 3) (L.getD (k + j / 3) R.zero) := by
      obtain ⟨g2, e2, -, -, hat, -⟩ := h.at (k := k + j / 3) (by omega)
      injection e2 with e2; injection e2 with e2 _ _
      rw [e2]; exact hat
    have hd : (L.drop k).getD (j / 3) R.zero = L.getD (k + j / 3) R.zero := by simp [List.getD, List.getElem?_drop]
    obtain ⟨e0, e1, e2⟩ := cells3_get (L.drop k) (j / 3) (by omega)
    rw [hd] at e0 e1 e2
    obtain ⟨c0, c1, c2⟩ := hat
    rw [Addr.add_lit]
    have h3 : j = j / 3 * 3 ∨ j = j / 3 * 3 + 1 ∨ j = j / 3 * 3 + 2 := by omega
    rcases h3 with h | h | h
    · rw [h] at hj ⊢; rw [e0] at hj; rw [← hj, ← c0]; congr 2; omega
    · rw [h] at hj ⊢; rw [e1] at hj; rw [← hj, ← c1]; congr 2; omega
    · rw [h] at hj ⊢; rw [e2] at hj; rw [← hj, ← c2]; congr 2; omega
theorem Mine.cells {w : World} {B : Nat} {g len cap : Nat} {L : List R} (h : Mine w B (.slice (some ⟨g, 0, none⟩) len cap) L) : ∀ j u, (cells3 L)[j]? = some u → w.cell? ((⟨g, 0, none⟩ : Addr).add j) = some u := by
  intro j u hj
  have hjl : j < L.length * 3 := by have := (List.getElem?_eq_some_iff.1 hj).1; rwa [cells3_length] at this
  rcases h.2 with ⟨h0, h2⟩ | ⟨g', cap', cur, hv, hB, hh, hc, hm, hs, htake⟩
  · injection h0 with e1 e2 e3; cases e1
  · injection hv with e1 e2 e3
    injection e1 with e1
    injection e1 with e1 _ _
    subst e1
    rw [← htake, List.getElem?_take, if_pos hjl] at hj
    rw [Addr.add_lit, Nat.zero_add]
    simp only [World.cell?, hh]
    simpa using hj
/-- 'append(x, y...)' as a step of a region that draws its order. -/
theorem step_appendR {ops : Array Oper} {o : Oper} {a : Act} {K : Act → World → Prop} {Q : Exit → Act → World → Prop} {E : Prop} {w : World} {B : Nat} {M L : List R} {v : Value} (s x : Operand) (ad : Addr) (m c : Nat)
    (hgd : o.guard = none) (ho : o.op = .call { callee := .builtin .append, args := #[s, x], argTypes := #[44, 44] })
    (hs : a.eval s = v) (hx : a.eval x = .slice (some ad) m c) (hown : Mine w B v M) (hl : L.length = m) (hc : ∀ j u, (cells3 L)[j]? = some u → w.cell? (ad.add j) = some u) (hB : B ≤ w.heap.size)
    (hlen : M.length + m ≤ 1000000000000)
    (h : ∀ v' w', Mine w' B v' (M ++ L) → w.grownBy w' v.ownBlock → (v' = .slice none 0 0 ↔ v = .slice none 0 0 ∧ m = 0) → K (a.put o.dst v') w') :
    if Region.wanted o (yielded ops a.tmps) = true then Oper.wp Try.prog o a w K Q else E := by
  have hw : Region.wanted o (yielded ops a.tmps) = true := by simp [Region.wanted, hgd]
  rw [if_pos hw]
  obtain ⟨i0, hi, hz0, hz1, hz2⟩ := info_parts rowInfo
  refine wp_append_own _ s x 44 ho B 89 i0 R.zero.val 3 24 Try.underlying44 hi hz0 hz1 hz2 rfl (by decide) v M.length (cells3 M) hs hown
    ad m c (cells3 L) hx (by rw [cells3_length, hl]) hc (one_cells L) (by unfold maxLen; omega) (by omega) hB ?_
  intro v' w' hown' hg hn
  rw [cells3_append] at hown'
  exact h v' w' (by unfold Mine; rw [List.length_append, hl]; exact hown') hg hn
/-- One row in a block of its own, as a literal lays it. -/
theorem mine_one (w : World) (B : Nat) (hB : B ≤ w.heap.size) (r : R) : Mine (w.alloc (.cells #[.int .i64 r.key, .int .i64 r.value, .int .i64 r.width] 89)) B (.slice (some ⟨w.heap.size, 0, none⟩) 1 1) [r] :=
  ⟨rfl, .inr ⟨w.heap.size, 1, _, rfl, hB, heap_alloc_new w _, Nat.le_refl _, by unfold maxLen; simp, rfl, rfl⟩⟩
theorem mine_zero (w : World) (B : Nat) (hB : B ≤ w.heap.size) : Mine (w.alloc (.cells #[] 89)) B (.slice (some ⟨w.heap.size, 0, none⟩) 0 0) [] :=
  World.ownsRow_made w #[] 0 hB (Nat.zero_le _) (by simp)
theorem getD_ext {A B : List R} (h : A.length = B.length) (he : ∀ t, t < A.length → A.getD t R.zero = B.getD t R.zero) : A = B := by
  apply List.ext_getElem h
  intro t h1 h2
  have := he t h1
  simpa [List.getD, h1, h2] using this
/-- 'out = append(out, r)', and where the new slice lies. -/
theorem wpList_pushM {ops : Array Oper} {rest : List Oper} {o : Oper} {a : Act} {Q : Exit → Act → World → Prop} {wr : World} {B : Nat} {M : List R} {v : Value} (s x : Operand) (r : R) (N : Nat) (hN : N = wr.heap.size)
    (hgd : o.guard = none) (ho : o.op = .call { callee := .builtin .append, args := #[s, x], argTypes := #[44, 44] })
    (hs : a.eval s = v) (hx : a.eval x = .slice (some ⟨N, 0, none⟩) 1 1) (hown : Mine wr B v M) (hB : B ≤ wr.heap.size) (hlen : M.length + 1 ≤ 1000000000000)
    (h : ∀ g c w', Mine w' B (.slice (some ⟨g, 0, none⟩) (M.length + 1) c) (M ++ [r]) → wr.grownBy w' v.ownBlock → (v.ownBlock = some g ∨ wr.heap.size ≤ g) → wpList Try.prog ops Q rest (a.put o.dst (.slice (some ⟨g, 0, none⟩) (M.length + 1) c)) w') :
    wpList Try.prog ops Q (o :: rest) a (wr.alloc (.cells #[.int .i64 r.key, .int .i64 r.value, .int .i64 r.width] 89)) := by
  subst hN
  obtain ⟨i0, hi, hz0, hz1, hz2⟩ := info_parts rowInfo
  refine wpList_append_lies _ hgd s x 44 ho B 89 i0 R.zero.val 3 24 Try.underlying44 hi hz0 hz1 hz2 rfl (by decide) v M.length (cells3 M) hs (World.ownsRow.alloc hown _)
    ⟨wr.heap.size, 0, none⟩ 1 1 [.int .i64 r.key, .int .i64 r.value, .int .i64 r.width] hx rfl ?_ (one_row r) (by omega) (by unfold maxLen; omega) (by omega) (by simp; omega) _ rfl ?_
  · exact World.news_of_block (heap_alloc_new wr (.cells #[.int .i64 r.key, .int .i64 r.value, .int .i64 r.width] 89))
  · intro g c w' hown' hg hat _
    have e : cells3 M ++ [.int .i64 r.key, .int .i64 r.value, .int .i64 r.width] = cells3 (M ++ [r]) := by rw [← cells3_append]; rfl
    rw [e] at hown'
    refine h g c w' ?_ ((World.grownBy_alloc wr _ _).trans hg) ?_
    · unfold Mine
      rw [List.length_append]
      exact hown'
    · rcases hat with hat | hat
      · exact .inl hat
      · refine .inr ?_
        rw [hat]
        simp
theorem row_ifs {α : Type} (q p : R) (h : q ≠ p) (X Y : α) : (if q.key = p.key then if q.value = p.value then if q.width = p.width then X else Y else Y else Y) = Y := by
  obtain ⟨a, b, c⟩ := q
  obtain ⟨a', b', c'⟩ := p
  (repeat' split) <;> first | rfl | (exfalso; simp_all)
/-- 'append(x, y...)', y the call's own. -/
theorem wpList_appendM {ops : Array Oper} {rest : List Oper} {o : Oper} {a : Act} {Q : Exit → Act → World → Prop} {w : World} {B B' : Nat} {M L : List R} {v y : Value} (s x : Operand)
    (hgd : o.guard = none) (ho : o.op = .call { callee := .builtin .append, args := #[s, x], argTypes := #[44, 44] })
    (hs : a.eval s = v) (hx : a.eval x = y) (hown : Mine w B v M) (hy : Mine w B' y L) (hB : B ≤ w.heap.size) (hlen : M.length + L.length ≤ 1000000000000)
    (h : ∀ v' w', Mine w' B v' (M ++ L) → w.grownBy w' v.ownBlock → wpList Try.prog ops Q rest (a.put o.dst v') w') :
    wpList Try.prog ops Q (o :: rest) a w := by
  by_cases hn : y = .slice none 0 0
  · subst hn
    have hl : L = [] := List.eq_nil_of_length_eq_zero hy.len
    subst hl
    obtain ⟨i0, hi, hz0, hz1, hz2⟩ := info_parts rowInfo
    refine wpList_append_own_none hgd s x 44 ho B 89 i0 3 Try.underlying44 hi v M.length (cells3 M) hs hown hx ?_
    exact h v w (by rw [List.append_nil]; exact hown) (World.grownBy.refl _ _)
  · obtain ⟨g, c, rfl, -, -⟩ := hy.addr hn
    exact wpList_appendR s x ⟨g, 0, none⟩ L.length c hgd ho hs hx hown rfl hy.cells hB hlen fun v' w' h1 h2 _ => h v' w' h1 h2
theorem getD_wf {L : List R} {i : Nat} (h : ∀ r ∈ L, r.wf) (hi : i < L.length) : (L.getD i R.zero).wf := h _ (R.getD_mem hi)
theorem set_wf {L : List R} {i : Nat} {r : R} (h : ∀ r ∈ L, r.wf) (hr : r.wf) : ∀ x ∈ L.set i r, x.wf := fun x hx => (List.mem_or_eq_of_mem_set hx).elim (h x) (fun e => e ▸ hr)
theorem snoc_wf {L : List R} {r : R} (h : ∀ r ∈ L, r.wf) (hr : r.wf) : ∀ x ∈ L ++ [r], x.wf := fun x hx => (List.mem_append.1 hx).elim (h x) (fun e => List.mem_singleton.1 e ▸ hr)
theorem drop_wf {L : List R} {k : Nat} (h : ∀ r ∈ L, r.wf) : ∀ x ∈ L.drop k, x.wf := fun x hx => h x (List.mem_of_mem_drop hx)
theorem take_set3 {α : Type} (cur : List α) (m : Nat) (a b c : α) (h : m + 3 ≤ cur.length) : (((cur.set m a).set (m + 1) b).set (m + 2) c).take (m + 3) = cur.take m ++ [a, b, c] := by
  apply List.ext_getElem
  · simp; omega
  · intro i h1 h2
    simp only [List.getElem_take, List.getElem_set, List.getElem_append, List.length_take]
    have hm : min m cur.length = m := by omega
    simp only [hm]
    by_cases h3 : i < m
    · rw [if_neg (by omega), if_neg (by omega), if_neg (by omega), dif_pos h3]
    · rw [dif_neg h3]
      simp at h1
      have h4 : i = m ∨ i = m + 1 ∨ i = m + 2 := by omega
      rcases h4 with rfl | rfl | rfl
      · rw [if_neg (by omega), if_neg (by omega), if_pos rfl]; simp
      · rw [if_neg (by omega), if_pos rfl]; simp
      · rw [if_pos rfl]; simp
/-- One row more, where there is room. -/
theorem Mine.push {w : World} {B g n cap : Nat} {X : List R} (h : Mine w B (.slice (some ⟨g, 0, none⟩) n cap) X) (hr : n < cap) (s : R) :
    (∀ j, j < 3 → (w.cell? ⟨g, n * 3 + j, none⟩).isSome = true ∧ w.frozen? ⟨g, n * 3 + j, none⟩ = false) ∧
    Mine (((w.setCell ⟨g, n * 3, none⟩ (.int .i64 s.key)).setCell ⟨g, n * 3 + 1, none⟩ (.int .i64 s.value)).setCell ⟨g, n * 3 + 2, none⟩ (.int .i64 s.width)) B (.slice (some ⟨g, 0, none⟩) (n + 1) cap) (X ++ [s]) := by
  have hl := h.len
  obtain ⟨h1, ⟨h0, h2⟩ | ⟨g', cap', cur, hv, hB, hh, hcap, hmax, hsz, htake⟩⟩ := h
  · injection h0 with e1; cases e1
  · injection hv with e1 e2 e3
    injection e1 with e1
    injection e1 with e1 _ _
    subst e1 e3
    have hcs : n * 3 + 3 ≤ cur.size := by omega
    refine ⟨fun j hj => ⟨?_, by simp [World.frozen?, hh]⟩, ?_⟩
    · simp only [World.cell?, hh]
      have : n * 3 + j < cur.size := by omega
      simp [this]
    · have s1 := Joins.block_setCell hh (i := n * 3) (.int .i64 s.key)
      have s2 := Joins.block_setCell s1 (i := n * 3 + 1) (.int .i64 s.value)
      have s3 := Joins.block_setCell s2 (i := n * 3 + 2) (.int .i64 s.width)
      have hln : (X ++ [s]).length = n + 1 := by rw [List.length_append, hl]; rfl
      refine ⟨cells3_length _, .inr ⟨g, cap, _, by rw [hln], hB, s3, by omega, hmax, by simpa using hsz, ?_⟩⟩
      rw [hln, show (n + 1) * 3 = n * 3 + 3 by omega]
      rw [← cells3_append, ← htake, hl]
      simp only [Array.toList_setIfInBounds]
      rw [take_set3 _ _ _ _ _ (by simpa using hcs)]
      rfl
theorem mine_of_grow {w : World} {B m : Nat} {v : Value} {X : List R} {s : R} (h : w.ownsRow B 89 3 v (m + 1) (cells3 X ++ [.int .i64 s.key, .int .i64 s.value, .int .i64 s.width])) (hl : X.length = m) : Mine w B v (X ++ [s]) := by
  have e : cells3 X ++ [Value.int .i64 s.key, .int .i64 s.value, .int .i64 s.width] = cells3 (X ++ [s]) := by rw [← cells3_append]; rfl
  unfold Mine
  rw [← e, List.length_append, hl]
  exact h
theorem IsRows.tail {w : World} {g o n : Nat} {x : R} {Y : List R} (h : IsRows w (some ⟨g, o, none⟩) (n + 1) (x :: Y)) (hn : 0 < n) : IsRows w (some ⟨g, o + 3, none⟩) n Y := by
  obtain ⟨h1, h2, h0 | ⟨b, o', e, hlt, hc⟩⟩ := h
  · omega
  · injection e with e
    injection e with e1 e2 _
    subst e1 e2
    refine ⟨by simpa using h1, fun r hr => h2 r (List.mem_cons_of_mem _ hr), .inr ⟨g, o + 3, rfl, hlt, fun t ht => ?_⟩⟩
    have := hc (t + 1) (by omega)
    rw [show o + (t + 1) * 3 = o + 3 + t * 3 by omega] at this
    simpa using this
/-- A row of a slice. -/
theorem IsRows.at {w : World} {a : Option Addr} {len : Nat} {L : List R} (h : IsRows w a len L) {t : Nat} (ht : t < len) : ∃ b o : Nat, a = some ⟨b, o, none⟩ ∧ b < w.heap.size ∧ RowAt w b (o + t * 3) (L.getD t R.zero) := by
  obtain ⟨-, -, h0 | ⟨b, o, e, hb, hc⟩⟩ := h
  · omega
  · exact ⟨b, o, e, hb, hc t ht⟩
/-- 'out = append(out, r)' as a step of a region that draws its order, and where the new slice lies. -/
theorem step_pushM {ops : Array Oper} {o : Oper} {a : Act} {K : Act → World → Prop} {Q : Exit → Act → World → Prop} {E : Prop} {w : World} {B : Nat} {M : List R} {v : Value} (s x : Operand) (ad : Addr) (r : R)
    (hgd : o.guard = none) (ho : o.op = .call { callee := .builtin .append, args := #[s, x], argTypes := #[44, 44] })
    (hs : a.eval s = v) (hx : a.eval x = .slice (some ad) 1 1) (hown : Mine w B v M) (hc : ∀ j u, [Value.int .i64 r.key, .int .i64 r.value, .int .i64 r.width][j]? = some u → w.cell? (ad.add j) = some u) (hB : B ≤ w.heap.size)
    (hlen : M.length + 1 ≤ 1000000000000)
    (h : ∀ g c w', Mine w' B (.slice (some ⟨g, 0, none⟩) (M.length + 1) c) (M ++ [r]) → w.grownBy w' v.ownBlock → (v.ownBlock = some g ∨ w.heap.size ≤ g) → K (a.put o.dst (.slice (some ⟨g, 0, none⟩) (M.length + 1) c)) w') :
    if Region.wanted o (yielded ops a.tmps) = true then Oper.wp Try.prog o a w K Q else E := by
  obtain ⟨i0, hi, hz0, hz1, hz2⟩ := info_parts rowInfo
  refine step_append_lies _ hgd s x 44 ho B 89 i0 R.zero.val 3 24 Try.underlying44 hi hz0 hz1 hz2 rfl (by decide) v M.length (cells3 M) hs hown
    ad 1 1 [.int .i64 r.key, .int .i64 r.value, .int .i64 r.width] hx rfl hc (one_row r) (by omega) (by unfold maxLen; omega) (by omega) hB _ rfl ?_
  intro g c w' hown' hg hat _
  refine h g c w' (mine_of_grow hown' rfl) hg ?_
  rcases hat with hat | hat
  · exact .inl hat
  · exact .inr (by rw [hat]; exact Nat.le_refl _)
end Go.Proofs.Ythbifibnnhikjaa
/- Shapes of records: their leaves one behind the other (numbers, truth values, slices); an element of a slice, and what a change of it leaves; no function of program or reference is walked here. -/
namespace Go.Proofs.Ythbifibnnhikjaa
open Go.RowKit

def I64 (x : Int) : Prop := -9223372036854775808 ≤ x ∧ x ≤ 9223372036854775807
/-- No leaf. -/
def endRep : Rep Unit where
  H := Unit
  size := 0
  cells := fun _ _ => []
  inn := fun _ _ _ => True
  own := fun _ _ _ _ F => F = []
  len := fun _ _ => rfl
  inn_keep := fun h _ => h
  own_inn := fun _ => trivial
  own_lt := fun h y hy => by rw [h] at hy; cases hy
  own_stay := fun h _ => h
  own_apart := fun h => by rw [h]; exact List.Pairwise.nil
  own_mono := fun h _ => h
/-- A number, then the rest. -/
def intAnd {β : Type} (s : Rep β) : Rep (Int × β) where
  H := s.H
  size := s.size + 1
  cells := fun x h => .int .i64 x.1 :: s.cells x.2 h
  inn := fun w x h => I64 x.1 ∧ s.inn w x.2 h
  own := fun w B x h F => I64 x.1 ∧ s.own w B x.2 h F
  len := fun x h => by rw [List.length_cons, s.len]
  inn_keep := fun h hb => ⟨h.1, s.inn_keep h.2 hb⟩
  own_inn := fun h => ⟨h.1, s.own_inn h.2⟩
  own_lt := fun h => s.own_lt h.2
  own_stay := fun h hs => ⟨h.1, s.own_stay h.2 hs⟩
  own_apart := fun h => s.own_apart h.2
  own_mono := fun h hb => ⟨h.1, s.own_mono h.2 hb⟩
/-- A truth value, then the rest. -/
def boolAnd {β : Type} (s : Rep β) : Rep (Bool × β) where
  H := s.H
  size := s.size + 1
  cells := fun x h => .bool x.1 :: s.cells x.2 h
  inn := fun w x h => s.inn w x.2 h
  own := fun w B x h F => s.own w B x.2 h F
  len := fun x h => by rw [List.length_cons, s.len]
  inn_keep := fun h hb => s.inn_keep h hb
  own_inn := fun h => s.own_inn h
  own_lt := fun h => s.own_lt h
  own_stay := fun h hs => s.own_stay h hs
  own_apart := fun h => s.own_apart h
  own_mono := fun h hb => s.own_mono h hb
/-- A slice, then the rest. -/
def seqAnd {α β : Type} (r : Rep α) (s : Rep β) : Rep (List α × β) where
  H := (Option Addr × Nat × Nat) × s.H
  size := s.size + 1
  cells := fun x h => .slice h.1.1 h.1.2.1 h.1.2.2 :: s.cells x.2 h.2
  inn := fun w x h => (seqRep r).inn w x.1 h.1 ∧ s.inn w x.2 h.2
  own := fun w B x h F => ∃ F1 F2, F = F1 ++ F2 ∧ (seqRep r).own w B x.1 h.1 F1 ∧ s.own w B x.2 h.2 F2 ∧ ∀ a ∈ F1, ∀ b ∈ F2, a.apart b
  len := fun x h => by rw [List.length_cons, s.len]
  inn_keep := fun h hb => ⟨(seqRep r).inn_keep h.1 hb, s.inn_keep h.2 hb⟩
  own_inn := fun ⟨_, _, _, h1, h2, _⟩ => ⟨(seqRep r).own_inn h1, s.own_inn h2⟩
  own_lt := fun ⟨_, _, e, h1, h2, _⟩ y hy => by
    rw [e] at hy
    exact (List.mem_append.1 hy).elim ((seqRep r).own_lt h1 y) (s.own_lt h2 y)
  own_stay := fun ⟨F1, F2, e, h1, h2, h3⟩ hs => by
    subst e
    exact ⟨F1, F2, rfl, (seqRep r).own_stay h1 (hs.sub fun y hy => List.mem_append_left _ hy), s.own_stay h2 (hs.sub fun y hy => List.mem_append_right _ hy), h3⟩
  own_apart := fun ⟨F1, F2, e, h1, h2, h3⟩ => by
    subst e
    exact List.pairwise_append.2 ⟨(seqRep r).own_apart h1, s.own_apart h2, h3⟩
  own_mono := fun ⟨F1, F2, e, h1, h2, h3⟩ hb => ⟨F1, F2, e, (seqRep r).own_mono h1 hb, s.own_mono h2 hb, h3⟩
/-- The same, of a datum that tells the leaves. -/
def viaRep {α β : Type} (f : α → β) (r : Rep β) : Rep α where
  H := r.H
  size := r.size
  cells := fun x h => r.cells (f x) h
  inn := fun w x h => r.inn w (f x) h
  own := fun w B x h F => r.own w B (f x) h F
  len := fun x h => r.len (f x) h
  inn_keep := fun h hb => r.inn_keep h hb
  own_inn := fun h => r.own_inn h
  own_lt := fun h => r.own_lt h
  own_stay := fun h hs => r.own_stay h hs
  own_apart := fun h => r.own_apart h
  own_mono := fun h hb => r.own_mono h hb
/-- Stretches that lie within others. -/
theorem OnlyAt.within {F G : List Reg} {a b : World} (h : OnlyAt F a b) (hs : ∀ r ∈ F, ∃ s ∈ G, s.b = r.b ∧ s.lo ≤ r.lo ∧ r.hi ≤ s.hi) : OnlyAt G a b :=
  ⟨h.os, h.tape, h.output, h.size,
    fun i hi hne => h.block i hi fun r hr e => by obtain ⟨s, hs, e1, -, -⟩ := hs r hr; exact hne s hs (e1.trans e),
    fun i j hi hne => h.cell i j hi fun r hr e => by
      obtain ⟨s, hs, e1, h1, h2⟩ := hs r hr
      rcases hne s hs (e1.trans e) with h3 | h3
      · left; omega
      · right; omega,
    h.frozen⟩
theorem Reg.apart_within {x y z : Reg} (h : x.apart y) (hb : z.b = x.b) (h1 : x.lo ≤ z.lo) (h2 : z.hi ≤ x.hi) : z.apart y := by
  rcases h with h | h | h
  · exact .inl fun e => h (hb.symm.trans e)
  · exact .inr (.inl (by omega))
  · exact .inr (.inr (by omega))
/-- One element, its own cells with it, and what a change of it leaves. -/
theorem SeqOwn.el {α : Type} {r : Rep α} {w : World} {B : Nat} {a : Option Addr} {n : Nat} {xs : List α} {F : List Reg} (h : SeqOwn r w B a n xs F) {t : Nat} {x : α} (ht : xs[t]? = some x) :
    ∃ (b o : Nat) (hd : r.H) (G : List Reg), a = some ⟨b, o, none⟩ ∧ B ≤ b ∧ b < w.heap.size ∧ CellsAt w b (o + t * r.size) (r.cells x hd) ∧ (∀ j, j < r.size → w.frozen? ⟨b, o + t * r.size + j, none⟩ = false) ∧ r.own w B x hd G ∧
      (∀ y ∈ G, Reg.apart ⟨b, o + t * r.size, o + t * r.size + r.size⟩ y) ∧
      ∀ w' x', OnlyAt (⟨b, o + t * r.size, o + t * r.size + r.size⟩ :: G) w w' → CellsAt w' b (o + t * r.size) (r.cells x' hd) → r.own w' B x' hd G → SeqOwn r w' B a n (xs.set t x') F ∧ ∀ w0, OnlyAt F w0 w → OnlyAt F w0 w' := by
  have htl := idx_lt ht
  obtain ⟨h1, hm, ⟨h0, -⟩ | ⟨b, o, hs, Fs, rfl, hB, hlt, rfl, hp, hf, hx⟩⟩ := h
  · omega
  · have htn : t < n := by omega
    have hle := at_le (s := r.size) htn
    have hsub : ∀ y ∈ Fs t, y ∈ (⟨b, o, o + n * r.size⟩ : Reg) :: (List.range n).flatMap Fs := fun y hy => List.mem_cons_of_mem _ (List.mem_flatMap.2 ⟨t, List.mem_range.2 htn, hy⟩)
    have hhead : ∀ s, s < n → ∀ y ∈ Fs s, (⟨b, o, o + n * r.size⟩ : Reg).apart y := fun s hs y hy => (List.pairwise_cons.1 hp).1 y (List.mem_flatMap.2 ⟨s, List.mem_range.2 hs, hy⟩)
    refine ⟨b, o, hs t, Fs t, rfl, hB, hlt, (hx t x ht).1, fun j hj => hf _ (by omega) (by omega), (hx t x ht).2, fun y hy => Reg.apart_within (hhead t htn y hy) rfl (by simp only; omega) (by simp only; omega), fun w' x' ho hce hown => ⟨?_, fun w0 h0 => h0.trans (ho.within ?_)⟩⟩
    · refine ⟨by rw [List.length_set]; exact h1, hm, .inr ⟨b, o, hs, Fs, rfl, hB, Nat.lt_of_lt_of_le hlt ho.size, rfl, hp, fun j ha hb => (ho.frozen b j hlt).trans (hf j ha hb), fun s y hy => ?_⟩⟩
      have hsn : s < n := by have := idx_lt hy; rw [List.length_set] at this; omega
      have hles := at_le (s := r.size) hsn
      by_cases hst' : s = t
      · subst hst'
        rw [List.getElem?_set_self htl] at hy
        obtain rfl := Option.some.inj hy
        exact ⟨hce, hown⟩
      · rw [List.getElem?_set_ne (fun e => hst' e.symm)] at hy
        have hord : s * r.size + r.size ≤ t * r.size ∨ t * r.size + r.size ≤ s * r.size := by
          rcases Nat.lt_or_gt_of_ne hst' with h2 | h2
          · exact .inl (at_le h2)
          · exact .inr (at_le h2)
        refine ⟨fun j u hj => ?_, r.own_stay (hx s y hy).2 (Stay.of_only ho (fun p hp' q hq => ?_) fun q hq => (r.own_lt (hx s y hy).2 q hq).2)⟩
        · have hjl : j < r.size := by rw [← r.len y (hs s)]; exact idx_lt hj
          refine (ho.cell b (o + s * r.size + j) hlt fun z hz e => ?_).trans ((hx s y hy).1 j u hj)
          rcases List.mem_cons.1 hz with rfl | hz
          · simp only
            omega
          · have hap := hhead t htn z hz
            rcases hap with hn | hn | hn
            · exact absurd e.symm hn
            · simp only at hn; left; omega
            · simp only at hn; right; omega
        · rcases List.mem_cons.1 hp' with rfl | hp'
          · exact Reg.apart_within (hhead s hsn q hq) rfl (by simp only; omega) (by simp only; omega)
          · have hpw := (List.pairwise_cons.1 hp).2
            rw [List.pairwise_flatMap] at hpw
            have hr := hpw.2
            rcases Nat.lt_or_gt_of_ne hst' with h2 | h2
            · exact Reg.apart_symm ((List.pairwise_iff_getElem.1 hr) s t (by simpa using hsn) (by simpa using htn) h2 q (by simpa using hq) p (by simpa using hp'))
            · exact (List.pairwise_iff_getElem.1 hr) t s (by simpa using htn) (by simpa using hsn) h2 p (by simpa using hp') q (by simpa using hq)
    · intro z hz
      rcases List.mem_cons.1 hz with rfl | hz
      · exact ⟨_, List.mem_cons_self .., rfl, by simp only; omega, by simp only; omega⟩
      · exact ⟨z, hsub z hz, rfl, Nat.le_refl _, Nat.le_refl _⟩
/-- One element of a slice that is read. -/
theorem SeqIn.el {α : Type} {r : Rep α} {w : World} {a : Option Addr} {n : Nat} {xs : List α} (h : SeqIn r w a n xs) {t : Nat} {x : α} (ht : xs[t]? = some x) :
    ∃ (b o : Nat) (hd : r.H), a = some ⟨b, o, none⟩ ∧ b < w.heap.size ∧ CellsAt w b (o + t * r.size) (r.cells x hd) ∧ r.inn w x hd := by
  have htl := idx_lt ht
  obtain ⟨h1, -, h0 | ⟨b, o, rfl, hlt, hs, hx⟩⟩ := h
  · omega
  · exact ⟨b, o, hs t, rfl, hlt, (hx t x ht).1, (hx t x ht).2⟩

/-! ### The laws' counters and sizes -/
/-- How the laws mark a datum from a counter on, and how many counters that takes. -/
structure Mk (α : Type) where
  mark : Int → α → α
  cnt : α → Nat
  cnt_mark : ∀ q x, cnt (mark q x) = cnt x
def mkAll {α : Type} (m : Mk α) : Int → List α → List α
  | _, [] => []
  | q, x :: xs => m.mark q x :: mkAll m (q + m.cnt x) xs
def cntAll {α : Type} (m : Mk α) (xs : List α) : Nat := (xs.map m.cnt).sum
theorem cntAll_cons {α : Type} (m : Mk α) (x : α) (xs : List α) : cntAll m (x :: xs) = m.cnt x + cntAll m xs := rfl
theorem cntAll_append {α : Type} (m : Mk α) (xs ys : List α) : cntAll m (xs ++ ys) = cntAll m xs + cntAll m ys := by simp [cntAll]
theorem mkAll_length {α : Type} (m : Mk α) : ∀ (q : Int) (xs : List α), (mkAll m q xs).length = xs.length
  | _, [] => rfl
  | q, x :: xs => by rw [mkAll, List.length_cons, mkAll_length m _ xs, List.length_cons]
theorem cnt_mkAll {α : Type} (m : Mk α) : ∀ (q : Int) (xs : List α), cntAll m (mkAll m q xs) = cntAll m xs
  | _, [] => rfl
  | q, x :: xs => by rw [mkAll, cntAll_cons, cntAll_cons, m.cnt_mark, cnt_mkAll m _ xs]
theorem mkAll_append {α : Type} (m : Mk α) : ∀ (q : Int) (xs ys : List α), mkAll m q (xs ++ ys) = mkAll m q xs ++ mkAll m (q + cntAll m xs) ys
  | q, [], ys => by simp [mkAll, cntAll]
  | q, x :: xs, ys => by
    rw [List.cons_append, mkAll, mkAll_append m _ xs ys, mkAll, List.cons_append, cntAll_cons]
    congr 3
    push_cast
    omega
theorem cntAll_next {α : Type} (m : Mk α) (xs : List α) (t : Nat) (ht : t < xs.length) : cntAll m (xs.take (t + 1)) = cntAll m (xs.take t) + m.cnt xs[t] := by
  rw [List.take_succ_eq_append_getElem ht, cntAll_append]; rfl
theorem cntAll_take {α : Type} (m : Mk α) (xs : List α) (t : Nat) : cntAll m (xs.take t) ≤ cntAll m xs := by
  have := congrArg (cntAll m) (List.take_append_drop t xs)
  rw [cntAll_append] at this
  omega
theorem mkAll_next {α : Type} (m : Mk α) (q : Int) (xs : List α) (t : Nat) (ht : t < xs.length) : (mkAll m q (xs.take t) ++ xs.drop t).set t (m.mark (q + cntAll m (xs.take t)) xs[t]) = mkAll m q (xs.take (t + 1)) ++ xs.drop (t + 1) := by
  have hl : (mkAll m q (xs.take t)).length = t := by rw [mkAll_length, List.length_take]; omega
  rw [List.take_succ_eq_append_getElem ht, mkAll_append, List.set_append_right _ _ (by omega), hl, Nat.sub_self, List.drop_eq_getElem_cons ht, List.set_cons_zero]
  simp [mkAll]
theorem mkAll_get {α : Type} (m : Mk α) (q : Int) (xs : List α) (t : Nat) (ht : t < xs.length) : (mkAll m q xs)[t]? = some (m.mark (q + cntAll m (xs.take t)) xs[t]) := by
  have e : xs = xs.take t ++ xs[t] :: xs.drop (t + 1) := by rw [← List.drop_eq_getElem_cons ht, List.take_append_drop]
  have hl : (mkAll m q (xs.take t)).length = t := by rw [mkAll_length, List.length_take]; omega
  rw [show mkAll m q xs = mkAll m q (xs.take t ++ xs[t] :: xs.drop (t + 1)) from congrArg _ e, mkAll_append, List.getElem?_append_right (by omega), hl, Nat.sub_self]
  rfl
theorem mkAll_at {α : Type} (m : Mk α) (q : Int) (xs : List α) (t : Nat) (ht : t < xs.length) : (mkAll m q (xs.take t) ++ xs.drop t)[t]? = some xs[t] := by
  have hl : (mkAll m q (xs.take t)).length = t := by rw [mkAll_length, List.length_take]; omega
  rw [List.getElem?_append_right (by omega), hl, Nat.sub_self, List.drop_eq_getElem_cons ht]
  rfl
def seqMk {α : Type} (m : Mk α) : Mk (List α) := ⟨mkAll m, cntAll m, cnt_mkAll m⟩
/-- The rows' marks. -/
def rowsMk : Mk (List R) := ⟨fun q L => marked L.length q, fun L => 3 * L.length, fun q L => by rw [marked_length]⟩

/-- How many elements its slices hold together, each with what it holds. -/
def wtAll {α : Type} (f : α → Nat) (xs : List α) : Nat := xs.length + (xs.map f).sum
theorem wtAll_cons {α : Type} (f : α → Nat) (x : α) (xs : List α) : wtAll f (x :: xs) = 1 + f x + wtAll f xs := by
  unfold wtAll
  rw [List.length_cons, List.map_cons, List.sum_cons]
  omega
theorem sum_take {α : Type} (f : α → Nat) (xs : List α) (t : Nat) : ((xs.take t).map f).sum ≤ (xs.map f).sum := by
  have := congrArg (fun l => (l.map f).sum) (List.take_append_drop t xs)
  simp only [List.map_append, List.sum_append] at this
  omega
theorem sum_next {α : Type} (f : α → Nat) (xs : List α) (t : Nat) (ht : t < xs.length) : ((xs.take (t + 1)).map f).sum = ((xs.take t).map f).sum + f xs[t] := by
  rw [List.take_succ_eq_append_getElem ht, List.map_append, List.sum_append]; simp
theorem wtAll_at {α : Type} (f : α → Nat) (xs : List α) (t : Nat) (ht : t < xs.length) : f xs[t] ≤ wtAll f xs := by
  have h1 := sum_next f xs t ht
  have h2 := sum_take f xs (t + 1)
  unfold wtAll
  omega
theorem wtAll_len {α : Type} (f : α → Nat) (xs : List α) : xs.length ≤ wtAll f xs := Nat.le_add_right _ _
theorem cntAll_le {α : Type} (m : Mk α) (f : α → Nat) (h : ∀ x, m.cnt x ≤ 64 * (f x + 1)) (xs : List α) : cntAll m xs ≤ 64 * wtAll f xs := by
  induction xs with
  | nil => exact Nat.zero_le _
  | cons x xs ih =>
    have := h x
    rw [cntAll_cons, wtAll_cons]
    omega
theorem mk_room {α : Type} (m : Mk α) (f : α → Nat) (h : ∀ x, m.cnt x ≤ 64 * (f x + 1)) (xs : List α) (t : Nat) (ht : t < xs.length) : cntAll m (xs.take t) + 64 * (f xs[t] + 1) ≤ 64 * wtAll f xs := by
  have h1 := cntAll_le m f h (xs.take t)
  have h2 := sum_next f xs t ht
  have h3 := sum_take f xs (t + 1)
  have h4 : (xs.take t).length = t := by rw [List.length_take]; omega
  unfold wtAll at h1 ⊢
  omega
end Go.Proofs.Ythbifibnnhikjaa
/- What a call gives: a slice in memory of its own; stretches that are apart; no function of program or reference is walked here. -/
namespace Go.Proofs.Ythbifibnnhikjaa
open Go.RowKit

theorem Stay.set {F : List Reg} {w w' : World} (h : Stay F w w') {g i : Nat} (u : Value) (hne : ∀ y ∈ F, y.b ≠ g) : Stay F w (w'.setCell ⟨g, i, none⟩ u) :=
  ⟨by simpa [World.setCell] using h.size, fun y hy j h1 h2 => ⟨(World.cell?_setCell_other _ _ _ _ (fun e => by injection e with e _ _; exact hne y hy e.symm)).trans (h.cell y hy j h1 h2).1, (World.frozen?_setCell w' _ _ _).trans (h.cell y hy j h1 h2).2⟩⟩
theorem Stay.refl (F : List Reg) (w : World) : Stay F w w := ⟨Nat.le_refl _, fun _ _ _ _ _ => ⟨rfl, rfl⟩⟩
theorem var_cell {w : World} {g : Nat} {u : Value} {t : TypeId} {fr : Nat × Nat} (h : w.heap[g]? = some (.cells #[u] t fr)) : w.cell? ⟨g, 0, none⟩ = some u := by simp [World.cell?, h]
/-- The answer is a slice, whole in memory of the call's own. -/
def Gives {α : Type} (r : Rep α) (xs : List α) (w : World) (e : Ending) (w' : World) : Prop :=
  ∃ (x : Option Addr) (k m : Nat) (F : List Reg), e = .returned (.slice x k m) ∧ SeqOwn r w' w.heap.size x k xs F ∧ Below w.heap.size w w'
theorem mine_own {w : World} {B n c : Nat} {a : Option Addr} {L : List R} (h : Mine w B (.slice a n c) L) (hwf : ∀ r ∈ L, r.wf) (hm : n ≤ maxLen) : ∃ F, SeqOwn rowRep w B a n L F := by
  by_cases hn : Value.slice a n c = .slice none 0 0
  · injection hn with e1 e2 e3
    subst e1 e2 e3
    exact ⟨[], h.len, Nat.zero_le _, .inl ⟨rfl, rfl⟩⟩
  · obtain ⟨g, c', e, -, -⟩ := h.addr hn
    injection e with e1 e2 e3
    subst e1
    obtain ⟨F, hF, -⟩ := rows_own h hwf hm
    exact ⟨F, hF⟩
theorem gives_mine {w w' : World} {v : Value} {L : List R} {e : Ending} (he : e = .returned v) (h : Mine w' w.heap.size v L) (hb : Below w.heap.size w w') (hwf : ∀ r ∈ L, r.wf) (hm : L.length ≤ maxLen) : Gives rowRep L w e w' := by
  obtain ⟨a, c, rfl⟩ := h.slice
  obtain ⟨F, hF⟩ := mine_own h hwf hm
  exact ⟨a, L.length, c, F, he, hF, hb⟩
/-- Two things of which one was there before the other. -/
theorem apart_new {α β : Type} {r : Rep α} {s : Rep β} {w w' : World} {B B' n n' : Nat} {a a' : Option Addr} {xs : List α} {ys : List β} {F G : List Reg} (h : SeqOwn r w B a n xs F) (h' : SeqOwn s w' B' a' n' ys G) (hB : w.heap.size ≤ B') : ∀ x ∈ F, ∀ y ∈ G, x.apart y :=
  fun x hx y hy => .inl (by have h1 := (h.lt x hx).2; have h2 := (h'.lt y hy).1; omega)
theorem apart_flip {F G : List Reg} (h : ∀ x ∈ F, ∀ y ∈ G, Reg.apart x y) : ∀ y ∈ G, ∀ x ∈ F, Reg.apart y x := fun y hy x hx => Reg.apart_symm (h x hx y hy)
/-- A mark's frame, as what lies below a bound. -/
theorem Below.marked {α : Type} {r : Rep α} {w0 w w' : World} {B n : Nat} {a : Option Addr} {xs : List α} {F : List Reg} (h : SeqOwn r w B a n xs F) (ho : OnlyAt F w w') (hb : Below w0.heap.size w0 w) (hB : w0.heap.size ≤ B) : Below w0.heap.size w0 w' :=
  hb.trans (ho.below hb.size fun y hy => Nat.le_trans hB (h.lt y hy).1)
theorem frozen_grown {w w' : World} {row : Option Nat} (h : w.grownBy w' row) {b j : Nat} (hb : b < w.heap.size) (hne : row ≠ some b) : w'.cell? ⟨b, j, none⟩ = w.cell? ⟨b, j, none⟩ ∧ w'.frozen? ⟨b, j, none⟩ = w.frozen? ⟨b, j, none⟩ :=
  have := h.block b hb (fun e => hne e.symm)
  ⟨World.cell?_of_block this, World.frozen?_of_block this⟩
theorem Stay.of_grown {F : List Reg} {w w' : World} {row : Option Nat} (h : w.grownBy w' row) (hlt : ∀ y ∈ F, y.b < w.heap.size) (hne : ∀ y ∈ F, row ≠ some y.b) : Stay F w w' :=
  ⟨h.size, fun y hy _ _ _ => frozen_grown h (hlt y hy) (hne y hy)⟩
/-! ### What is the call's own, whatever its shape -/
theorem Rep.own.lt {α : Type} {r : Rep α} {w : World} {B : Nat} {x : α} {h : r.H} {F : List Reg} (ho : r.own w B x h F) : ∀ y ∈ F, B ≤ y.b ∧ y.b < w.heap.size := r.own_lt ho
theorem Rep.own.inn {α : Type} {r : Rep α} {w : World} {B : Nat} {x : α} {h : r.H} {F : List Reg} (ho : r.own w B x h F) : r.inn w x h := r.own_inn ho
theorem Rep.own.keep {α : Type} {r : Rep α} {w w' : World} {B : Nat} {x : α} {h : r.H} {F : List Reg} (ho : r.own w B x h F) (hb : Below w.heap.size w w') : r.own w' B x h F := r.own_stay ho (Stay.of_below hb fun y hy => (r.own_lt ho y hy).2)
theorem Rep.own.far {α : Type} {r : Rep α} {w w' : World} {B : Nat} {x : α} {h : r.H} {F G : List Reg} (ho : r.own w B x h F) (hg : OnlyAt G w w') (hap : ∀ x ∈ G, ∀ y ∈ F, Reg.apart x y) : r.own w' B x h F := r.own_stay ho (Stay.of_only hg hap fun y hy => (r.own_lt ho y hy).2)
theorem Rep.inn.keep {α : Type} {r : Rep α} {w w' : World} {x : α} {h : r.H} (hi : r.inn w x h) (hb : Below w.heap.size w w') : r.inn w' x h := r.inn_keep hi hb
theorem apart_lt {F G : List Reg} {n : Nat} (h : ∀ y ∈ F, y.b < n) (h' : ∀ y ∈ G, n ≤ y.b) : ∀ x ∈ F, ∀ y ∈ G, Reg.apart x y := fun x hx y hy => .inl (by have := h x hx; have := h' y hy; omega)
theorem box_cell {w : World} {g : Nat} {cs : Array Value} {t : TypeId} {fr : Nat × Nat} (h : w.heap[g]? = some (.cells cs t fr)) (j : Nat) (u : Value) (hu : cs[j]? = some u) : w.cell? ⟨g, j, none⟩ = some u := by simp [World.cell?, h, hu]
end Go.Proofs.Ythbifibnnhikjaa
/- What changes one block alone; no function of program or reference is walked here. -/
namespace Go.Proofs.Ythbifibnnhikjaa
open Go.RowKit

/-- Only block c has changed, and what is new. -/
def Only (c : Nat) (w w' : World) : Prop := w.grownBy w' (some c)
theorem Only.refl (c : Nat) (w : World) : Only c w w := World.grownBy.refl w _
theorem Only.trans {c : Nat} {a b d : World} (h : Only c a b) (k : Only c b d) : Only c a d :=
  ⟨k.os.trans h.os, k.tape.trans h.tape, k.output.trans h.output, Nat.le_trans h.size k.size, fun i hi hne => (k.block i (Nat.lt_of_lt_of_le hi h.size) hne).trans (h.block i hi hne)⟩
theorem Only.drew {c : Nat} {a w : World} (h : Only c a w) : Only c a w.drew := ⟨h.os, h.tape, h.output, h.size, h.block⟩
theorem Only.drewN {c : Nat} {a w : World} (h : Only c a w) (n : Nat) : Only c a (w.drewN n) := ⟨h.os, h.tape, h.output, h.size, h.block⟩
theorem Only.alloc {c : Nat} {a w : World} (h : Only c a w) (o : Obj) : Only c a (w.alloc o) :=
  ⟨h.os, h.tape, h.output, Nat.le_trans h.size (by simp), fun i hi hne => (Below.heap_alloc w o i (Nat.lt_of_lt_of_le hi h.size)).trans (h.block i hi hne)⟩
theorem Only.setCell {c : Nat} {a w : World} (h : Only c a w) (i : Nat) (u : Value) : Only c a (w.setCell ⟨c, i, none⟩ u) :=
  ⟨h.os, h.tape, h.output, by simpa [World.setCell] using h.size, fun k hk hne => (Below.heap_setCell w ⟨c, i, none⟩ u k (fun e => hne (by rw [e]))).trans (h.block k hk hne)⟩
theorem Only.of_below {c : Nat} {a w : World} (h : Below a.heap.size a w) : Only c a w := ⟨h.os, h.tape, h.output, h.size, fun i hi _ => h.block i hi⟩
/-- A step that keeps all that was there at a's time. -/
theorem Only.step {c : Nat} {a b d : World} (h : Only c a b) (k : Below a.heap.size b d) : Only c a d :=
  ⟨k.os.trans h.os, k.tape.trans h.tape, k.output.trans h.output, Nat.le_trans h.size k.size, fun i hi hne => (k.block i hi).trans (h.block i hi hne)⟩
theorem Only.below {c B : Nat} {a b : World} (h : Only c a b) (hB : B ≤ a.heap.size) (hc : B ≤ c) : Below B a b :=
  ⟨h.os, h.tape, h.output, h.size, fun i hi => h.block i (Nat.lt_of_lt_of_le hi hB) (fun e => by injection e with e; omega)⟩

end Go.Proofs.Ythbifibnnhikjaa
/- The laws' copy of a row (toRow) and comparison (eqRow), by contract. -/
namespace Go.Proofs.Ythbifibnnhikjaa
open Go.RowKit

theorem torow (r : R) (w : World) : Calls Try.prog 66 #[r.val] w fun e w' => e = .returned r.val ∧ Below w.heap.size w w' := by
  obtain ⟨k, v, d⟩ := r
  unfold R.val
  go_enter Try.func66, Try.ntmps66
  go_wp2_with fail
  refine bodyPost_ret (v := .agg #[.int .i64 k, .int .i64 v, .int .i64 d]) (by simp [results, Try.results66, go_sem]) rfl ⟨rfl, ?_⟩
  exact Joins.below_alloc3 _ _ _ _
theorem eqrow (a b : R) (w : World) : Calls Try.prog 70 #[a.val, b.val] w fun e w' => e = .returned (.bool (decide (a = b))) ∧ Below w.heap.size w w' := by
  obtain ⟨k, v, d⟩ := a
  obtain ⟨k', v', d'⟩ := b
  have e : decide (R.mk k v d = R.mk k' v' d') = decide (k = k' ∧ v = v' ∧ d = d') := by simp
  rw [e]
  unfold R.val
  go_enter Try.func70, Try.ntmps70
  go_wp2_with fail
  all_goals go_ret
  all_goals refine ⟨?_, Joins.below_alloc2 _ _ _⟩
  all_goals simp_all
end Go.Proofs.Ythbifibnnhikjaa
/- The laws' copy of a slice of rows (toRowS), by contract. -/
namespace Go.Proofs.Ythbifibnnhikjaa
open Go.RowKit

set_option maxRecDepth 100000 in
theorem torows (a : Option Addr) (len cap : Nat) (L : List R) (w : World) (h : IsRows w a len L) (hlen : len ≤ 1000000000000) :
    Calls Try.prog 47 #[.slice a len cap] w fun e w' => ∃ g, e = .returned (.slice (some ⟨g, 0, none⟩) len len) ∧ w.heap.size ≤ g ∧ w'.heap[g]? = some (.cells (cells3 L).toArray 89 (0, 0)) ∧ Below w.heap.size w w' := by
  obtain ⟨hl, -, hc⟩ := h
  have HL := Lib.hid hl
  have HC := Lib.hid hc
  clear hl hc
  have hmk := run_make_rows len hlen
  have hbw : Below w.heap.size w (w.alloc (.cells (cells3 (List.replicate len R.zero)).toArray 89)) := (Below.refl _ _).alloc (Nat.le_refl _) _
  have hgw : (w.alloc (.cells (cells3 (List.replicate len R.zero)).toArray 89)).heap[w.heap.size]? = some (.cells (cells3 (List.replicate len R.zero)).toArray 89 (0, 0)) := heap_alloc_new w _
  have HBW := Lib.hid hbw
  have HGW := Lib.hid hgw
  clear hbw hgw
  go_enter Try.func47, Try.ntmps47
  go_wp2_with fail
  clear hmk
  go_loopw [4] (fun i wr => ∃ k : Nat, i = .int .i64 k ∧ k ≤ len ∧ Hid (wr.heap[w.heap.size]? = some (.cells (cells3 (L.take k ++ List.replicate (len - k) R.zero)).toArray 89 (0, 0))) ∧ Hid (Below w.heap.size w wr)) (fun i _ => len - (intOf i).toNat)
  case atStart => exact ⟨0, rfl, Nat.zero_le _, HGW, HBW⟩
  case round =>
    obtain ⟨k, rfl, hk, hg, hb⟩ := hrel
    by_cases hlt : k < len
    · obtain ⟨b, o, rfl, hbl, hc⟩ : ∃ b o : Nat, a = some ⟨b, o, none⟩ ∧ b < w.heap.size ∧ ∀ t, t < len → RowAt w b (o + t * 3) (L.getD t R.zero) := by
        rcases HC.out with h0 | h0
        · omega
        · exact h0
      obtain ⟨r, hr⟩ : ∃ r, r = L.getD k R.zero := ⟨_, rfl⟩
      have hat : RowAt wr b (o + k * 3) r := by rw [hr]; exact (hc k hlt).below hb.out hbl
      obtain ⟨c0, c1, c2⟩ := hat
      have HR := Lib.hid hr
      clear hr hc
      go_wp2_with fail
      refine (torow r _).mono ?_
      rintro e w1 ⟨rfl, b1⟩
      unfold R.val
      have hgl : w.heap.size < wr.heap.size := lt_of_block hg.out
      have hg1 : w1.heap[w.heap.size]? = some (.cells (cells3 (L.take k ++ List.replicate (len - k) R.zero)).toArray 89 (0, 0)) := (b1.block _ hgl).trans hg.out
      obtain ⟨x, d0, d1, d2⟩ : ∃ x, RowAt w1 w.heap.size (k * 3) x := ⟨_, rows_cells hg1 k (by simp [HL.out]; omega)⟩
      have f0 := rows_free hg1 (k * 3)
      have f1 := rows_free hg1 (k * 3 + 1)
      have f2 := rows_free hg1 (k * 3 + 2)
      have HG1 := Lib.hid hg1
      have B1 := Lib.hid (hb.out.trans (b1.mono hb.out.size))
      clear hg1 b1 hgl
      go_wp2_with fail
      go_roundw
      case rel =>
        refine ⟨k + 1, by go_num, by omega, ?_, below_set3 B1.out (Nat.le_refl _) _ _ _ _ _ _⟩
        show _ = _
        rw [rows_set HG1.out k (by simp [HL.out]; omega) r, HR.out, set_next L len k HL.out hlt]
      case measure => simp [intOf]; omega
    · have hkl : k = len := by omega
      have hfin : wr.heap[w.heap.size]? = some (.cells (cells3 L).toArray 89 (0, 0)) := by
        rw [hg.out, hkl, ← HL.out, List.take_length, Nat.sub_self]; simp
      have HF := Lib.hid hfin
      clear hfin hkl
      go_wp2_with fail
      go_ret
      exact ⟨_, rfl, Nat.le_refl _, HF.out, hb.out⟩
end Go.Proofs.Ythbifibnnhikjaa
/- The laws' marks on rows of the call's own, and what they leave alone; the sizes that the laws reckon; no function of program or reference is walked here. -/
namespace Go.Proofs.Ythbifibnnhikjaa
open Go.RowKit

set_option maxRecDepth 100000 in
theorem mark (B : Nat) (a : Option Addr) (len cap : Nat) (L : List R) (q : Int) (w : World) (h : Mine w B (.slice a len cap) L) (hlen : len ≤ 1000000000000) (hq0 : 0 ≤ q) (hq1 : q ≤ 10000000000000) :
    Calls Try.prog 52 #[.slice a len cap, .int .i64 q] w fun e w' => e = .returned (.int .i64 (q + 3 * len)) ∧ Mine w' B (.slice a len cap) (marked len q) ∧ w.grownBy w' (Value.slice a len cap).ownBlock := by
  have HL := Lib.hid h.len
  have HO := Lib.hid h
  clear h
  go_enter Try.func52, Try.ntmps52
  go_wp2_with fail
  go_loopw [1, 5] (fun x i wr => ∃ k : Nat, x = .int .i64 (q + 3 * k) ∧ i = .int .i64 k ∧ k ≤ len ∧ Hid (Mine wr B (.slice a len cap) (marked k q ++ L.drop k)) ∧ Hid (w.grownBy wr (Value.slice a len cap).ownBlock)) (fun _ i _ => len - (intOf i).toNat)
  case atStart => exact ⟨0, by go_num, rfl, Nat.zero_le _, (show Mine w B (.slice a len cap) (marked 0 q ++ L.drop 0) from HO.out), World.grownBy.refl _ _⟩
  case round =>
    obtain ⟨k, rfl, rfl, hk, hown, hb⟩ := hrel
    by_cases hlt : k < len
    · obtain ⟨g, rfl, hg, hgl, hat, hfz, hset⟩ := hown.out.at hlt
      obtain ⟨x, hx⟩ : ∃ x, x = (marked k q ++ L.drop k).getD k R.zero := ⟨_, rfl⟩
      rw [← hx] at hat
      obtain ⟨c0, c1, c2⟩ := hat
      have f0 := hfz (k * 3)
      have f1 := hfz (k * 3 + 1)
      have f2 := hfz (k * 3 + 2)
      have HS := Lib.hid (hset ⟨q + 3 * k, q + 3 * k + 1, q + 3 * k + 2⟩)
      rw [marked_set len k q L HL.out hlt] at HS
      have ho : Only g w wr := hb.out
      have HB := Lib.hid ho
      clear hset hx hfz ho
      go_wp2_with fail
      have e2 : q + 3 * (k : Int) + 1 + 1 = q + 3 * (k : Int) + 2 := by omega
      rw [e2]
      clear e2
      go_roundw
      case rel => exact ⟨k + 1, by go_num, by go_num, by omega, HS.out, ((HB.out.setCell _ _).setCell _ _).setCell _ _⟩
      case measure => simp [intOf]; omega
    · have hkl : k = len := by omega
      have hfin : Mine wr B (.slice a len cap) (marked len q) := by
        have := hown.out
        rw [hkl, List.drop_eq_nil_of_le (by rw [HL.out]; exact Nat.le_refl _), List.append_nil] at this
        exact this
      have HF := Lib.hid hfin
      have HK := Lib.hid hkl
      clear hfin hkl
      go_wp2_with fail
      go_ret
      exact ⟨by rw [← HK.out]; rfl, HF.out, hb.out⟩
set_option maxRecDepth 100000 in
theorem mine_held (B : Nat) (a : Option Addr) (len cap : Nat) (q : Int) (w : World) (h : Mine w B (.slice a len cap) (marked len q)) (hlen : len ≤ 1000000000000) (hq0 : 0 ≤ q) (hq1 : q ≤ 10000000000000) :
    Calls Try.prog 77 #[.slice a len cap, .int .i64 q] w fun e w' => e = .returned (.int .i64 (q + 3 * len)) ∧ w = w' := by
  have HO := Lib.hid h
  clear h
  go_enter Try.func77, Try.ntmps77
  go_wp2_with fail
  go_loop [1, 5] (fun x i => ∃ k : Nat, x = .int .i64 (q + 3 * k) ∧ i = .int .i64 k ∧ k ≤ len) (fun _ i => len - (intOf i).toNat)
  case atStart => exact ⟨0, by go_num, rfl, Nat.zero_le _⟩
  case round =>
    obtain ⟨k, rfl, rfl, hk⟩ := hrel
    by_cases hlt : k < len
    · obtain ⟨g, rfl, hg, hgl, ⟨c0, c1, c2⟩, hfz, -⟩ := HO.out.at hlt
      rw [marked_get len q k hlt] at c0 c1 c2
      simp only at c0 c1 c2
      rw [show q + 3 * (k : Int) + 2 = q + 3 * (k : Int) + 1 + 1 by omega] at c2
      clear hfz
      go_wp2_with fail
      go_round
      case rel => exact ⟨k + 1, by go_num, by go_num, by omega⟩
      case measure => simp [intOf]; omega
    · have hkl : k = len := by omega
      have HK := Lib.hid hkl
      clear hkl
      go_wp2_with fail
      go_ret
      exact ⟨by rw [← HK.out]; rfl, rfl⟩
theorem sz_ok (a : Option Addr) (len cap : Nat) (left : Int) (w : World) (h : (len : Int) ≤ left) (hl : left ≤ 1048576) : Calls Try.prog 44 #[.slice a len cap, .int .i64 left] w fun e w' => e = .returned (.int .i64 (left - len)) ∧ w = w' := by
  go_enter Try.func44, Try.ntmps44
  go_wp2_with fail
  go_ret
  exact ⟨rfl, rfl⟩
theorem sz_no (a : Option Addr) (len cap : Nat) (left : Int) (w : World) (h : left < len) (h' : len ≤ 9223372036854775807) (h0 : 0 ≤ left) : Calls Try.prog 44 #[.slice a len cap, .int .i64 left] w fun e w' => e = .returned (.int .i64 (-1)) ∧ w = w' := by
  go_enter Try.func44, Try.ntmps44
  go_wp2_with fail
  go_ret
  exact ⟨rfl, rfl⟩
/-- What lies below a bound is not what lies from it on. -/
theorem Mine.apart {w w' : World} {B B' s : Nat} {v v' : Value} {L L' : List R} (h : Mine w B v L) (h' : Mine w' B' v' L') (hs : w.heap.size ≤ s) (hB : s ≤ B') : ∀ k, v.ownBlock = some k → v'.ownBlock ≠ some k := fun k hk hk' => by
  have h1 := (World.ownsRow.lt h k hk).2
  have h2 := (World.ownsRow.lt h' k hk').1
  omega
theorem apart_symm {v v' : Value} (h : ∀ k, v.ownBlock = some k → v'.ownBlock ≠ some k) : ∀ k, v'.ownBlock = some k → v.ownBlock ≠ some k := fun k hk hk' => h k hk' hk
theorem copyrows (a : Option Addr) (len cap : Nat) (L : List R) (w : World) (h : IsRows w a len L) (hlen : len ≤ 1000000000000) :
    Calls Try.prog 47 #[.slice a len cap] w fun e w' => ∃ g, e = .returned (.slice (some ⟨g, 0, none⟩) len len) ∧ Mine w' w.heap.size (.slice (some ⟨g, 0, none⟩) len len) L ∧ Below w.heap.size w w' :=
  (torows a len cap L w h hlen).mono fun _ _ ⟨g, he, hg, hh, hb⟩ => ⟨g, he, mine_of_block hh hg h.1 (by unfold maxLen; omega), hb⟩
end Go.Proofs.Ythbifibnnhikjaa
/- Rows among the arguments of a law: a struct by value, and a slice of them: from the reading to the mathematics and back. -/
namespace Go.Proofs.Ythbifibnnhikjaa
open Go Go.ChangeShapes Go.WideShapes Go.RowKit Go.Deep Go.Joins

/-- A row as a datum. -/
def R.dat {H : Type} (r : R) : DataW H := .agg [.lit (.int .i64 r.key), .lit (.int .i64 r.value), .lit (.int .i64 r.width)]
theorem intCells : Try.prog.cellsOf 3 = 1 := by kernel_rfl
theorem lawRowCells : Try.prog.cellsOf 91 = 3 := by kernel_rfl
section
variable {H : Type} {enc : TypeId × Value → H} {w : World} {base : Nat} {spare : Nat → Bool} {held : Bool}
set_option maxRecDepth 100000 in
theorem open_row {r : Reach} {b0 : Nat} {v : Value} {d : DataW H} {p : List MemPlace} (hv : Value.okWide Try.prog w r b0 91 v) (h : DataW.Trod enc Try.prog w base spare held 91 v d p) :
    ∃ q : R, v = q.val ∧ d = q.dat ∧ p = [] ∧ q.wf := by
  obtain ⟨c0, c1, c2, y0, y1, y2, m, rfl, rfl, rfl, h0, h1, h2⟩ := open_agg3 Try.underlying91 (by kernel_rfl) lawRowCells hv h
  obtain ⟨k0, e0, rfl, w0⟩ := DataW.trod_int Try.underlying3 h0
  obtain ⟨k1, e1, rfl, w1⟩ := DataW.trod_int Try.underlying3 h1
  obtain ⟨k2, e2, rfl, w2⟩ := DataW.trod_int Try.underlying3 h2
  simp only [List.cons.injEq, and_true] at e0 e1 e2
  subst e0 e1 e2
  exact ⟨⟨k0, k1, k2⟩, rfl, rfl, rfl, bounds_i64 w0, bounds_i64 w1, bounds_i64 w2⟩
theorem lit_wf {n : Int} (h : -9223372036854775808 ≤ n ∧ n ≤ 9223372036854775807) : (Lit.int .i64 n).wf = true := by
  have e0 : IntKind.i64.min = -9223372036854775808 := by decide
  have e1 : IntKind.i64.max = 9223372036854775807 := by decide
  simp [Lit.wf, e0, e1, h.1, h.2]
set_option maxRecDepth 100000 in
theorem shut_row (q : R) (hq : q.wf) : DataW.Trod enc Try.prog w base spare held 91 q.val q.dat [] :=
  shut_agg3 (y0 := (.lit (.int .i64 q.key), [])) (y1 := (.lit (.int .i64 q.value), [])) (y2 := (.lit (.int .i64 q.width), [])) Try.underlying91 (by kernel_rfl) lawRowCells
    ⟨1, by simp [DataW.trod, Try.underlying3, lit_wf hq.1]⟩ ⟨1, by simp [DataW.trod, Try.underlying3, lit_wf hq.2.1]⟩ ⟨1, by simp [DataW.trod, Try.underlying3, lit_wf hq.2.2]⟩

set_option maxRecDepth 100000 in
theorem open_rows {a : Option Addr} {len cap : Nat} {d : DataW H} {p : List MemPlace} (h : DataW.Trod enc Try.prog w 0 spare held 38 (.slice a len cap) d p) : len ≤ maxLen ∧ ∃ L : List R, IsRows w a len L := by
  obtain ⟨fuel, hf⟩ := h
  rcases open_slice Try.underlying38 hf with ⟨hcs, _⟩ | ⟨x, l, c, m, n, D, Pl, hcs, _, hl, hm, hmm, _, hi⟩
  · simp [Value.cells] at hcs
    obtain ⟨rfl, rfl, rfl⟩ := hcs
    exact ⟨Nat.zero_le _, [], rfl, (fun r hr => by cases hr), .inl rfl⟩
  · simp [Value.cells] at hcs
    obtain ⟨rfl, rfl, rfl⟩ := hcs
    have hlm : len ≤ m := by rw [hmm]; split <;> omega
    refine ⟨Nat.le_trans hl hm, ?_⟩
    rw [lawRowCells] at hi
    have hone : ∀ i, i < len → ∃ r : R, r.wf ∧ w.cell? (x.add (i * 3)) = some (.int .i64 r.key) ∧ w.cell? (x.add (i * 3 + 1)) = some (.int .i64 r.value) ∧ w.cell? (x.add (i * 3 + 2)) = some (.int .i64 r.width) := by
      intro i hil
      obtain ⟨cs', hc, ht⟩ := hi i (by omega)
      obtain ⟨_, hcl, hat⟩ := World.cells?_some hc
      obtain ⟨y0, y1, y2, k, _, _, h0, h1, h2⟩ := trod_struct3 Try.underlying91 ht
      match cs', hcl with
      | [c0, c1, c2], _ =>
        obtain ⟨k0, e0, rfl, w0⟩ := DataW.trod_int Try.underlying3 h0
        obtain ⟨k1, e1, rfl, w1⟩ := DataW.trod_int Try.underlying3 h1
        obtain ⟨k2, e2, rfl, w2⟩ := DataW.trod_int Try.underlying3 h2
        simp [intCells] at e0 e1 e2
        subst e0 e1 e2
        have q0 := hat 0 (by omega)
        have q1 := hat 1 (by omega)
        have q2 := hat 2 (by omega)
        rw [add_add] at q0 q1 q2
        exact ⟨⟨k0, k1, k2⟩, ⟨bounds_i64 w0, bounds_i64 w1, bounds_i64 w2⟩, q0, q1, q2⟩
    obtain ⟨f, hf'⟩ := choose_lt hone
    refine ⟨(List.range len).map f, by simp, fun r hr => ?_, ?_⟩
    · obtain ⟨i, hil, rfl⟩ := List.mem_map.1 hr
      exact (hf' i (List.mem_range.1 hil)).1
    · by_cases h0 : len = 0
      · exact .inl h0
      · right
        obtain ⟨b, o, spot⟩ := x
        have hspot : spot = none := by simpa [Addr.add] using World.cell?_spot (hf' 0 (by omega)).2.1
        subst hspot
        have hb : b < w.heap.size := by
          have := World.block_lt_of_cell? w _ (hf' 0 (by omega)).2.1
          simpa [Addr.add] using this
        refine ⟨b, o, rfl, hb, fun t ht => ?_⟩
        have hg : ((List.range len).map f).getD t R.zero = f t := by simp [List.getD, ht]
        rw [hg]
        obtain ⟨_, q0, q1, q2⟩ := hf' t ht
        have ha : ∀ j, (⟨b, o, none⟩ : Addr).add j = ⟨b, o + j, none⟩ := by
          intro j
          by_cases hj : j = 0
          · subst hj; simp [Addr.add]
          · simp [Addr.add, hj]
        rw [ha] at q0 q1 q2
        exact ⟨q0, q1, q2⟩
end
end Go.Proofs.Ythbifibnnhikjaa
/- Arguments of whatever shape: from the reading to the mathematics, by the type; no function of program or reference is walked here. -/
namespace Go.Proofs.Ythbifibnnhikjaa
open Go Go.ChangeShapes Go.WideShapes Go.RowKit Go.Deep Go.Joins

/-- Whatever reads as a value of the type is of this shape. -/
def Opens (T : TypeId) {α : Type} (r : Rep α) : Prop :=
  ∀ (H : Type) (enc : TypeId × Value → H) (w : World) (spare : Nat → Bool) (held : Bool) (fuel : Nat) (cs : List Value) (x : DataW H × List MemPlace), DataW.trod enc Try.prog w 0 spare held fuel T cs = some x → cs.length = r.size → ∃ (y : α) (h : r.H), cs = r.cells y h ∧ r.inn w y h
set_option maxRecDepth 100000 in
theorem Opens.seq {T e : TypeId} {α : Type} {r : Rep α} (ht : Try.prog.underlying T = some (.slice e)) (hc : Try.prog.cellsOf e = r.size) (hp : 0 < r.size) (hO : Opens e r) : Opens T (seqRep r) := by
  intro H enc w spare held fuel cs x h _
  rcases open_slice ht h with ⟨rfl, -⟩ | ⟨a, len, cap, m, n, D, Pl, rfl, -, hl, hm, hmm, -, hi⟩
  · exact ⟨[], (none, 0, 0), rfl, ⟨rfl, Nat.zero_le _, .inl rfl⟩, fun _ => rfl⟩
  · have hlm : len ≤ m := by rw [hmm]; split <;> omega
    rw [hc] at hi
    rcases Nat.eq_zero_or_pos len with h0 | h0
    · subst h0
      exact ⟨[], (some a, 0, cap), rfl, ⟨rfl, Nat.zero_le _, .inl rfl⟩, fun e => by cases e⟩
    · have hone : ∀ i, i < len → ∃ (yh : α × r.H), (∀ j u, (r.cells yh.1 yh.2)[j]? = some u → w.cell? (a.add (i * r.size + j)) = some u) ∧ r.inn w yh.1 yh.2 := by
        intro i hil
        obtain ⟨cs', hcs, htr⟩ := hi i (by omega)
        obtain ⟨_, hcl, hat⟩ := World.cells?_some hcs
        obtain ⟨y, hd, rfl, hin⟩ := hO H enc w spare held n cs' _ htr hcl
        refine ⟨(y, hd), fun j u hj => ?_, hin⟩
        have hjl : j < r.size := by rw [← hcl]; exact idx_lt hj
        have := hat j hjl
        rw [add_add] at this
        rw [this]
        exact hj
      obtain ⟨yh0, -⟩ := hone 0 h0
      obtain ⟨f, hf⟩ := @choose_lt (α × r.H) ⟨yh0⟩ len _ hone
      obtain ⟨b, o, spot⟩ := a
      have hl0 : 0 < (r.cells (f 0).1 (f 0).2).length := by rw [r.len]; exact hp
      have hcell0 := (hf 0 h0).1 0 ((r.cells (f 0).1 (f 0).2)[0]) (by simp [hl0])
      have hspot : spot = none := by simpa [Addr.add] using World.cell?_spot hcell0
      subst hspot
      have hb : b < w.heap.size := by
        have := World.block_lt_of_cell? w _ hcell0
        simpa [Addr.add] using this
      refine ⟨(List.range len).map fun t => (f t).1, (some ⟨b, o, none⟩, len, cap), rfl, ⟨by simp, by show len ≤ maxLen; omega, .inr ⟨b, o, rfl, hb, fun t => (f t).2, fun t x hx => ?_⟩⟩, fun e => by cases e⟩
      have htl : t < len := by simpa using idx_lt hx
      obtain rfl : (f t).1 = x := by simpa [htl] using hx
      refine ⟨fun j u hj => ?_, (hf t htl).2⟩
      have := (hf t htl).1 j u hj
      rw [Addr.add_lit] at this
      rw [Nat.add_assoc]
      exact this
set_option maxRecDepth 100000 in
theorem Opens.row : Opens 91 rowRep := by
  intro H enc w spare held fuel cs x h hl
  obtain ⟨y0, y1, y2, k, _, _, h0, h1, h2⟩ := trod_struct3 Try.underlying91 h
  match cs, hl with
  | [c0, c1, c2], _ =>
    obtain ⟨k0, e0, rfl, w0⟩ := DataW.trod_int Try.underlying3 h0
    obtain ⟨k1, e1, rfl, w1⟩ := DataW.trod_int Try.underlying3 h1
    obtain ⟨k2, e2, rfl, w2⟩ := DataW.trod_int Try.underlying3 h2
    simp [intCells] at e0 e1 e2
    subst e0 e1 e2
    exact ⟨⟨k0, k1, k2⟩, (), rfl, bounds_i64 w0, bounds_i64 w1, bounds_i64 w2⟩

/-- A field of a struct that is read. -/
theorem field_at {H : Type} {enc : TypeId × Value → H} {w : World} {spare : Nat → Bool} {held : Bool} {m : Nat} {fs : Array Field} {xs : List (DataW H × List MemPlace)} {cs : List Value}
    (hf : ∀ (i : Nat) (f : Field), fs[i]? = some f → DataW.trod enc Try.prog w 0 spare held m f.type ((cs.drop f.offset).take (Try.prog.cellsOf f.type)) = xs[i]?) (hl : xs.length = fs.size) (i : Nat) (f : Field) (e : fs[i]? = some f) (o k : Nat) (ho : f.offset = o) (hk : Try.prog.cellsOf f.type = k) :
    ∃ x, DataW.trod enc Try.prog w 0 spare held m f.type ((cs.drop o).take k) = some x := by
  have hi : i < xs.length := by rw [hl]; exact (Array.getElem?_eq_some_iff.1 e).1
  have := hf i f e
  rw [List.getElem?_eq_getElem hi, ho, hk] at this
  exact ⟨_, this⟩
set_option maxRecDepth 100000 in
theorem Opens.one {T : TypeId} {f0 : Field} {α : Type} {r : Rep α} (hs : Try.prog.underlying T = some (.struct #[f0])) (ho : f0.offset = 0) (hc : Try.prog.cellsOf f0.type = r.size) (hO : Opens f0.type r) : Opens T r := by
  intro H enc w spare held fuel cs x h hl
  obtain ⟨y0, n, -, -, h0⟩ := trod_struct1 hs h
  rw [ho, hc, List.drop_zero, List.take_of_length_le (by omega)] at h0
  exact hO H enc w spare held n cs _ h0 hl

set_option maxRecDepth 100000 in
theorem Opens.val {T : TypeId} {fs : Array Field} {α : Type} {r : Rep α} (hO : Opens T r) (hs : Try.prog.underlying T = some (.struct fs)) (hc : Try.prog.cellsOf T = r.size)
    {H : Type} {enc : TypeId × Value → H} {w : World} {spare : Nat → Bool} {held : Bool} {q : Reach} {b0 : Nat} {v : Value} {d : DataW H} {p : List MemPlace} (hv : Value.okWide Try.prog w q b0 T v) (h : DataW.Trod enc Try.prog w 0 spare held T v d p) :
    ∃ (y : α) (hd : r.H), v = .agg (r.cells y hd).toArray ∧ r.inn w y hd := by
  obtain ⟨cs, rfl, hsz⟩ := okWide_struct hs hv
  obtain ⟨fuel, hf⟩ := h
  obtain ⟨y, hd, e, hi⟩ := hO H enc w spare held fuel _ _ hf (by simpa [Value.cells] using hsz.trans hc)
  refine ⟨y, hd, ?_, hi⟩
  simp only [Value.cells] at e
  rw [← e]

set_option maxRecDepth 100000 in
theorem Opens.arg {T : TypeId} {α : Type} {r : Rep α} (hO : Opens T (seqRep r)) {H : Type} {enc : TypeId × Value → H} {w : World} {spare : Nat → Bool} {held : Bool} {a : Option Addr} {len cap : Nat} {d : DataW H} {p : List MemPlace}
    (h : DataW.Trod enc Try.prog w 0 spare held T (.slice a len cap) d p) : ∃ xs : List α, SeqIn r w a len xs := by
  obtain ⟨fuel, hf⟩ := h
  obtain ⟨y, ⟨a', n', c'⟩, e, hi⟩ := hO H enc w spare held fuel _ _ hf (by simp [Value.cells, seqRep])
  simp [Value.cells, seqRep] at e
  obtain ⟨rfl, rfl, rfl⟩ := e
  exact ⟨y, hi.1⟩
end Go.Proofs.Ythbifibnnhikjaa
/- The laws' marks on rows that lie in a stretch of a block; sizes; copies as owned slices; no function of program or reference is walked here. -/
namespace Go.Proofs.Ythbifibnnhikjaa
open Go.RowKit

theorem marked_wf (n : Nat) (q : Int) (hn : n ≤ 1000000000000) (h0 : 0 ≤ q) (h1 : q ≤ 10000000000000) : ∀ r ∈ marked n q, r.wf := by
  intro r hr
  obtain ⟨t, ht, rfl⟩ := List.getElem_of_mem hr
  have htn : t < n := by simpa [marked] using ht
  have hg := marked_get n q t htn
  have : (marked n q).getD t R.zero = (marked n q)[t] := by simp [List.getD, ht]
  rw [this] at hg
  rw [hg]
  unfold R.wf
  simp only
  omega
theorem set3_cells {w : World} {b o : Nat} {x y z : Value} (h0 : w.cell? ⟨b, o, none⟩ = some x) (h1 : w.cell? ⟨b, o + 1, none⟩ = some y) (h2 : w.cell? ⟨b, o + 2, none⟩ = some z) (r : R) :
    RowAt (((w.setCell ⟨b, o, none⟩ (.int .i64 r.key)).setCell ⟨b, o + 1, none⟩ (.int .i64 r.value)).setCell ⟨b, o + 2, none⟩ (.int .i64 r.width)) b o r := by
  have n01 : (⟨b, o, none⟩ : Addr) ≠ ⟨b, o + 1, none⟩ := by intro e; injection e with _ e _; omega
  have n02 : (⟨b, o, none⟩ : Addr) ≠ ⟨b, o + 2, none⟩ := by intro e; injection e with _ e _; omega
  have n12 : (⟨b, o + 1, none⟩ : Addr) ≠ ⟨b, o + 2, none⟩ := by intro e; injection e with _ e _; omega
  refine ⟨?_, ?_, ?_⟩
  · rw [World.cell?_setCell_other _ _ _ _ n02.symm, World.cell?_setCell_other _ _ _ _ n01.symm]
    exact World.cell?_setCell_same _ _ _ h0
  · rw [World.cell?_setCell_other _ _ _ _ n12.symm]
    refine World.cell?_setCell_same _ _ _ (u := y) ?_
    rw [World.cell?_setCell_other _ _ _ _ n01]
    exact h1
  · refine World.cell?_setCell_same _ _ _ (u := z) ?_
    rw [World.cell?_setCell_other _ _ _ _ n12, World.cell?_setCell_other _ _ _ _ n02]
    exact h2
/-- One row of them, and what a store into it leaves. -/
theorem SeqOwn.row {w : World} {B n : Nat} {a : Option Addr} {L : List R} {F : List Reg} (h : SeqOwn rowRep w B a n L F) {k : Nat} (hk : k < n) :
    ∃ b o : Nat, a = some ⟨b, o, none⟩ ∧ b < w.heap.size ∧ RowAt w b (o + k * 3) (L.getD k R.zero) ∧ (∀ j, j < 3 → w.frozen? ⟨b, o + k * 3 + j, none⟩ = false) ∧
      ∀ r : R, r.wf → SeqOwn rowRep (((w.setCell ⟨b, o + k * 3, none⟩ (.int .i64 r.key)).setCell ⟨b, o + k * 3 + 1, none⟩ (.int .i64 r.value)).setCell ⟨b, o + k * 3 + 2, none⟩ (.int .i64 r.width)) B a n (L.set k r) F ∧
        ∀ w0, OnlyAt F w0 w → OnlyAt F w0 (((w.setCell ⟨b, o + k * 3, none⟩ (.int .i64 r.key)).setCell ⟨b, o + k * 3 + 1, none⟩ (.int .i64 r.value)).setCell ⟨b, o + k * 3 + 2, none⟩ (.int .i64 r.width)) := by
  obtain ⟨h1, hm, ⟨h0, -⟩ | ⟨b, o, hs, Fs, rfl, hB, hlt, rfl, hp, hf, hx⟩⟩ := h
  · omega
  · have hkl : k < L.length := by omega
    have hg : L.getD k R.zero = L[k] := by simp [List.getD, hkl]
    have hle : k * 3 + 3 ≤ n * 3 := by omega
    obtain ⟨hc, -⟩ := hx k L[k] (by simp [hkl])
    have c0 := hc 0 _ rfl
    have c1 := hc 1 _ rfl
    have c2 := hc 2 _ rfl
    have hhead : (⟨b, o, o + n * rowRep.size⟩ : Reg) ∈ (⟨b, o, o + n * rowRep.size⟩ : Reg) :: (List.range n).flatMap Fs := List.mem_cons_self ..
    refine ⟨b, o, rfl, hlt, by rw [hg]; exact ⟨c0, c1, c2⟩, fun j hj => hf _ (by omega) (by show _ < o + n * 3; omega), fun r hr => ⟨?_, fun w0 h0 => ?_⟩⟩
    · refine ⟨by rw [List.length_set]; exact h1, hm, .inr ⟨b, o, hs, Fs, rfl, hB, by simpa [World.setCell] using hlt, rfl, hp, fun j ha hb => ?_, fun t x ht => ?_⟩⟩
      · rw [World.frozen?_setCell, World.frozen?_setCell, World.frozen?_setCell]
        exact hf j ha hb
      · have htl : t < L.length := by have := idx_lt ht; rwa [List.length_set] at this
        by_cases htk : t = k
        · subst htk
          rw [List.getElem?_set_self htl] at ht
          obtain rfl := Option.some.inj ht
          refine ⟨fun j u hj => ?_, hr, (hx t L[t] (by simp [htl])).2.2⟩
          have e0 : w.cell? ⟨b, o + t * 3, none⟩ = some (.int .i64 (L[t]).key) := c0
          have e1 : w.cell? ⟨b, o + t * 3 + 1, none⟩ = some (.int .i64 (L[t]).value) := c1
          have e2 : w.cell? ⟨b, o + t * 3 + 2, none⟩ = some (.int .i64 (L[t]).width) := c2
          have hq := set3_cells e0 e1 e2 r
          match j, hj with
          | 0, hj => obtain rfl := Option.some.inj hj; exact hq.1
          | 1, hj => obtain rfl := Option.some.inj hj; exact hq.2.1
          | 2, hj => obtain rfl := Option.some.inj hj; exact hq.2.2
        · rw [List.getElem?_set_ne (fun e => htk e.symm)] at ht
          obtain ⟨hc', ho'⟩ := hx t x ht
          refine ⟨fun j u hj => ?_, ho'⟩
          have hj3 : j < 3 := idx_lt hj
          have hcj := hc' j u hj
          have hoff : ∀ i, i < 3 → (⟨b, o + k * 3 + i, none⟩ : Addr) ≠ ⟨b, o + t * rowRep.size + j, none⟩ := by
            intro i hi e
            injection e with _ e _
            have : o + k * 3 + i = o + t * 3 + j := e
            omega
          rw [World.cell?_setCell_other _ _ _ _ (hoff 2 (by omega)), World.cell?_setCell_other _ _ _ _ (hoff 1 (by omega)), World.cell?_setCell_other _ _ _ _ (show (⟨b, o + k * 3, none⟩ : Addr) ≠ _ from hoff 0 (by omega))]
          exact hcj
    · refine (((h0.set hhead rfl ?_ ?_ _).set hhead rfl ?_ ?_ _).set hhead rfl ?_ ?_ _)
      all_goals first | (show o ≤ _; omega) | (show _ < o + n * 3; omega)
set_option maxRecDepth 100000 in
theorem markrows (B n c : Nat) (a : Option Addr) (L : List R) (F : List Reg) (q : Int) (w : World) (h : SeqOwn rowRep w B a n L F) (hn : n ≤ 1000000000000) (hq0 : 0 ≤ q) (hq1 : q ≤ 1000000000000) :
    Calls Try.prog 52 #[.slice a n c, .int .i64 q] w fun e w' => e = .returned (.int .i64 (q + 3 * n)) ∧ SeqOwn rowRep w' B a n (marked n q) F ∧ OnlyAt F w w' := by
  have HL := Lib.hid h.1
  have HO := Lib.hid h
  clear h
  go_enter Try.func52, Try.ntmps52
  go_wp2_with fail
  go_loopw [1, 5] (fun x i wr => ∃ k : Nat, x = .int .i64 (q + 3 * k) ∧ i = .int .i64 k ∧ k ≤ n ∧ Hid (SeqOwn rowRep wr B a n (marked k q ++ L.drop k) F) ∧ Hid (OnlyAt F w wr)) (fun _ i _ => n - (intOf i).toNat)
  case atStart => exact ⟨0, by go_num, rfl, Nat.zero_le _, (show SeqOwn rowRep w B a n (marked 0 q ++ L.drop 0) F from HO.out), OnlyAt.refl _ _⟩
  case round =>
    obtain ⟨k, rfl, rfl, hk, hown, hb⟩ := hrel
    by_cases hlt : k < n
    · obtain ⟨b, o, rfl, hbl, hat, hfz, hset⟩ := hown.out.row hlt
      obtain ⟨x, hx⟩ : ∃ x, x = (marked k q ++ L.drop k).getD k R.zero := ⟨_, rfl⟩
      rw [← hx] at hat
      obtain ⟨c0, c1, c2⟩ := hat
      have f0 := hfz 0 (by omega)
      have f1 := hfz 1 (by omega)
      have f2 := hfz 2 (by omega)
      rw [Nat.add_zero] at f0
      obtain ⟨hs1, hs2⟩ := hset ⟨q + 3 * k, q + 3 * k + 1, q + 3 * k + 2⟩ (by unfold R.wf; simp only; omega)
      rw [marked_set n k q L HL.out hlt] at hs1
      have HS1 := Lib.hid hs1
      have HS2 := Lib.hid (hs2 w hb.out)
      clear hset hx hfz hs1 hs2
      go_wp2_with fail
      have e2 : q + 3 * (k : Int) + 1 + 1 = q + 3 * (k : Int) + 2 := by omega
      rw [e2]
      clear e2
      go_roundw
      case rel => exact ⟨k + 1, by go_num, by go_num, by omega, HS1.out, HS2.out⟩
      case measure => simp [intOf]; omega
    · have hkl : k = n := by omega
      have hfin : SeqOwn rowRep wr B a n (marked n q) F := by
        have := hown.out
        rw [hkl, List.drop_eq_nil_of_le (by rw [HL.out]; exact Nat.le_refl _), List.append_nil] at this
        exact this
      have HF := Lib.hid hfin
      have HK := Lib.hid hkl
      clear hfin hkl
      go_wp2_with fail
      go_ret
      exact ⟨by rw [← HK.out]; rfl, HF.out, hb.out⟩
set_option maxRecDepth 100000 in
theorem heldrows (a : Option Addr) (n c : Nat) (q : Int) (w : World) (h : IsRows w a n (marked n q)) (hn : n ≤ 1000000000000) (hq0 : 0 ≤ q) (hq1 : q ≤ 1000000000000) :
    Calls Try.prog 77 #[.slice a n c, .int .i64 q] w fun e w' => e = .returned (.int .i64 (q + 3 * n)) ∧ w = w' := by
  have HO := Lib.hid h
  clear h
  go_enter Try.func77, Try.ntmps77
  go_wp2_with fail
  go_loop [1, 5] (fun x i => ∃ k : Nat, x = .int .i64 (q + 3 * k) ∧ i = .int .i64 k ∧ k ≤ n) (fun _ i => n - (intOf i).toNat)
  case atStart => exact ⟨0, by go_num, rfl, Nat.zero_le _⟩
  case round =>
    obtain ⟨k, rfl, rfl, hk⟩ := hrel
    by_cases hlt : k < n
    · obtain ⟨-, -, h0 | ⟨b, o, rfl, hbl, hat⟩⟩ := HO.out
      · omega
      · obtain ⟨c0, c1, c2⟩ := hat k hlt
        rw [marked_get n q k hlt] at c0 c1 c2
        simp only at c0 c1 c2
        rw [show q + 3 * (k : Int) + 2 = q + 3 * (k : Int) + 1 + 1 by omega] at c2
        clear hat
        go_wp2_with fail
        go_round
        case rel => exact ⟨k + 1, by go_num, by go_num, by omega⟩
        case measure => simp [intOf]; omega
    · have hkl : k = n := by omega
      have HK := Lib.hid hkl
      clear hkl
      go_wp2_with fail
      go_ret
      exact ⟨by rw [← HK.out]; rfl, rfl⟩
/-- The size that is left. -/
def szR (left : Int) (n : Nat) : Int := if left < n then -1 else left - n
theorem szR_le {left : Int} {n : Nat} (h : ¬ szR left n < 0) : (n : Int) ≤ left ∧ szR left n = left - n := by
  unfold szR at h ⊢
  split
  · rename_i hl; rw [if_pos hl] at h; omega
  · exact ⟨by omega, rfl⟩
theorem szrows (a : Option Addr) (n c : Nat) (left : Int) (w : World) (h0 : 0 ≤ left) (h1 : left ≤ 1048576) (hn : n ≤ maxLen) : Calls Try.prog 44 #[.slice a n c, .int .i64 left] w fun e w' => e = .returned (.int .i64 (szR left n)) ∧ w = w' := by
  unfold szR
  unfold maxLen at hn
  split
  · rename_i h
    exact sz_no a n c left w h hn h0
  · rename_i h
    exact sz_ok a n c left w (by omega) h1
theorem ownrows (a : Option Addr) (n c : Nat) (L : List R) (w : World) (h : IsRows w a n L) (hn : n ≤ 1000000000000) :
    Calls Try.prog 47 #[.slice a n c] w fun e w' => ∃ g F, e = .returned (.slice (some ⟨g, 0, none⟩) n n) ∧ SeqOwn rowRep w' w.heap.size (some ⟨g, 0, none⟩) n L F ∧ Below w.heap.size w w' :=
  (copyrows a n c L w h hn).mono fun _ _ ⟨g, he, hm, hb⟩ => by
    obtain ⟨F, hF, -⟩ := rows_own hm h.2.1 (by unfold maxLen; omega)
    exact ⟨g, F, he, hF, hb⟩
end Go.Proofs.Ythbifibnnhikjaa
/- What the texts of the laws' types share; no function of program or reference is walked here. -/
namespace Go.Proofs.Ythbifibnnhikjaa
open Go.RowKit
set_option linter.unusedVariables false

/-- A size that is left, once it is none, and once it is some. -/
theorem sz_stop {z left : Int} {m : Nat} (h : z = szR left m) (h0 : z < 0) : left < m ∧ z = -1 := by
  unfold szR at h
  split at h <;> omega
theorem sz_step {z left : Int} {m : Nat} (h : z = szR left m) (h0 : 0 ≤ z) : (m : Int) ≤ left ∧ z = left - m := by
  unfold szR at h
  split at h <;> omega
theorem cellsAt_nil {w : World} {b p : Nat} : CellsAt w b p [] := fun j u hj => by simp at hj
theorem cellsAt_cons {w : World} {b p : Nat} {v : Value} {vs : List Value} (h : w.cell? ⟨b, p, none⟩ = some v) (ht : CellsAt w b (p + 1) vs) : CellsAt w b p (v :: vs) := fun j u hj => by
  match j, hj with
  | 0, hj => obtain rfl := Option.some.inj hj; exact h
  | j + 1, hj => have := ht j u (by simpa using hj); rwa [show p + (j + 1) = p + 1 + j by omega]
theorem cell_put {w : World} {b i : Nat} {u v : Value} (h : w.cell? ⟨b, i, none⟩ = some u) : (w.setCell ⟨b, i, none⟩ v).cell? ⟨b, i, none⟩ = some v := World.cell?_setCell_same _ _ _ h
theorem cell_far {w : World} {b i j : Nat} {u v : Value} (h : w.cell? ⟨b, j, none⟩ = some u) (hn : i ≠ j) : (w.setCell ⟨b, i, none⟩ v).cell? ⟨b, j, none⟩ = some u :=
  (World.cell?_setCell_other _ _ _ _ (fun e => by injection e with _ e _; exact hn e)).trans h
/-- A cell of a stretch that what has changed is apart from. -/
theorem cell_only {w w' : World} {F : List Reg} {b lo hi j : Nat} (ho : OnlyAt F w w') (hb : b < w.heap.size) (hap : ∀ y ∈ F, Reg.apart ⟨b, lo, hi⟩ y) (h1 : lo ≤ j) (h2 : j < hi) : w'.cell? ⟨b, j, none⟩ = w.cell? ⟨b, j, none⟩ :=
  ho.cell b j hb fun y hy e => by
    rcases hap y hy with hn | hn | hn
    · exact absurd e.symm hn
    · simp only at hn; left; omega
    · simp only at hn; right; omega
theorem OnlyAt.put {w : World} {b lo hi j : Nat} (w0 : World) (h : OnlyAt [⟨b, lo, hi⟩] w0 w) (h1 : lo ≤ j) (h2 : j < hi) (u : Value) : OnlyAt [⟨b, lo, hi⟩] w0 (w.setCell ⟨b, j, none⟩ u) := h.set (List.mem_singleton.2 rfl) rfl h1 h2 u
theorem apart_one {r : Reg} {F : List Reg} (h : ∀ y ∈ F, r.apart y) : ∀ x ∈ [r], ∀ y ∈ F, Reg.apart x y := fun x hx y hy => by rw [List.mem_singleton.1 hx]; exact h y hy
theorem boxes3 (w W : World) {c0 c1 c2 : Array Value} {t0 t1 t2 : TypeId} (h : W = ((w.alloc (.cells c0 t0)).alloc (.cells c1 t1)).alloc (.cells c2 t2)) :
    W.heap.size = w.heap.size + 3 ∧ Below w.heap.size w W ∧ W.heap[w.heap.size]? = some (.cells c0 t0 (0, 0)) ∧ W.heap[w.heap.size + 1]? = some (.cells c1 t1 (0, 0)) ∧ W.heap[w.heap.size + 2]? = some (.cells c2 t2 (0, 0)) := by
  have hs1 : (w.alloc (.cells c0 t0)).heap.size = w.heap.size + 1 := by simp
  have hs2 : ((w.alloc (.cells c0 t0)).alloc (.cells c1 t1)).heap.size = w.heap.size + 2 := by simp
  refine ⟨by rw [h]; simp, by rw [h]; exact (((Below.refl _ _).alloc (Nat.le_refl _) _).alloc (by simp) _).alloc (by simp; omega) _, ?_, ?_, ?_⟩
  · rw [h]
    exact (Below.heap_alloc _ _ _ (by simp; omega)).trans ((Below.heap_alloc _ _ _ (by simp)).trans (heap_alloc_new _ _))
  · rw [h, ← hs1]
    exact (Below.heap_alloc _ _ _ (by simp)).trans (heap_alloc_new _ _)
  · rw [h, ← hs2]
    exact heap_alloc_new _ _
theorem boxes2 (w W : World) {c0 c1 : Array Value} {t0 t1 : TypeId} (h : W = (w.alloc (.cells c0 t0)).alloc (.cells c1 t1)) :
    Below w.heap.size w W ∧ W.heap[w.heap.size]? = some (.cells c0 t0 (0, 0)) ∧ W.heap[w.heap.size + 1]? = some (.cells c1 t1 (0, 0)) := by
  have hs1 : (w.alloc (.cells c0 t0)).heap.size = w.heap.size + 1 := by simp
  refine ⟨by rw [h]; exact ((Below.refl _ _).alloc (Nat.le_refl _) _).alloc (by simp) _, ?_, ?_⟩
  · rw [h]
    exact (Below.heap_alloc _ _ _ (by simp)).trans (heap_alloc_new _ _)
  · rw [h, ← hs1]
    exact heap_alloc_new _ _
theorem Calls.named {P : Program} {f : FuncId} {a : Array Value} {w : World} {Q : Ending → World → Prop} (h : ∀ V, V = w → Calls P f a V Q) : Calls P f a w Q := h w rfl
theorem blk_put {w : World} {g i : Nat} {cs cs' : Array Value} {t : TypeId} {v : Value} (h : w.heap[g]? = some (.cells cs t (0, 0))) (e : cs.setIfInBounds i v = cs') : (w.setCell ⟨g, i, none⟩ v).heap[g]? = some (.cells cs' t (0, 0)) := by
  rw [← e]; exact Joins.block_setCell h _
theorem blk_far {w : World} {g b i : Nat} {o : Obj} {v : Value} (h : w.heap[b]? = some o) (hne : b ≠ g) : (w.setCell ⟨g, i, none⟩ v).heap[b]? = some o := (Below.heap_setCell w ⟨g, i, none⟩ v b hne).trans h
/-- Cells stored one behind the other. -/
def putCells : World → Nat → Nat → List Value → World
  | w, _, _, [] => w
  | w, g, o, v :: vs => putCells (w.setCell ⟨g, o, none⟩ v) g (o + 1) vs
theorem put_far {g j : Nat} : ∀ (vs : List Value) (w : World) (o : Nat), j < o ∨ o + vs.length ≤ j → (putCells w g o vs).cell? ⟨g, j, none⟩ = w.cell? ⟨g, j, none⟩
  | [], _, _, _ => rfl
  | v :: vs, w, o, h => by
    rw [List.length_cons] at h
    rw [putCells, put_far vs _ (o + 1) (by omega)]
    exact World.cell?_setCell_other _ _ _ _ (fun e => by injection e with _ e _; omega)
theorem put_ex {g j : Nat} : ∀ (vs : List Value) (w : World) (o : Nat), (∃ u, w.cell? ⟨g, j, none⟩ = some u) → ∃ u, (putCells w g o vs).cell? ⟨g, j, none⟩ = some u
  | [], _, _, h => h
  | v :: vs, w, o, ⟨u, h⟩ => by
    rw [putCells]
    refine put_ex vs _ (o + 1) ?_
    by_cases e : o = j
    · subst e; exact ⟨v, cell_put h⟩
    · exact ⟨u, cell_far h e⟩
theorem put_at {g : Nat} : ∀ (vs : List Value) (w : World) (o : Nat), (∀ j, j < vs.length → ∃ u, w.cell? ⟨g, o + j, none⟩ = some u) → ∀ j u, vs[j]? = some u → (putCells w g o vs).cell? ⟨g, o + j, none⟩ = some u
  | [], _, _, _, j, u, hj => by simp at hj
  | v :: vs, w, o, h, j, u, hj => by
    rw [putCells]
    match j, hj with
    | 0, hj =>
      obtain rfl := Option.some.inj hj
      obtain ⟨u0, h0⟩ := h 0 (by simp)
      rw [put_far vs _ (o + 1) (by omega)]
      exact cell_put h0
    | j + 1, hj =>
      have := put_at vs (w.setCell ⟨g, o, none⟩ v) (o + 1) (fun k hk => by
        obtain ⟨u1, h1⟩ := h (k + 1) (by rw [List.length_cons]; omega)
        rw [show o + 1 + k = o + (k + 1) by omega]
        exact ⟨u1, cell_far h1 (by omega)⟩) j u (by simpa using hj)
      rwa [show o + (j + 1) = o + 1 + j by omega]
theorem put_frozen {p : Addr} {g : Nat} : ∀ (vs : List Value) (w : World) (o : Nat), (putCells w g o vs).frozen? p = w.frozen? p
  | [], _, _ => rfl
  | v :: vs, w, o => by rw [putCells, put_frozen vs]; exact World.frozen?_setCell w _ _ _
theorem put_size {g : Nat} : ∀ (vs : List Value) (w : World) (o : Nat), (putCells w g o vs).heap.size = w.heap.size
  | [], _, _ => rfl
  | v :: vs, w, o => by rw [putCells, put_size vs]; simp [World.setCell]
theorem put_below {B g : Nat} (hB : B ≤ g) {w : World} : ∀ (vs : List Value) (w' : World) (o : Nat), Below B w w' → Below B w (putCells w' g o vs)
  | [], _, _, h => h
  | v :: vs, w', o, h => by rw [putCells]; exact put_below hB vs _ (o + 1) (h.setCell (p := ⟨g, o, none⟩) hB v)
theorem put_stay {F : List Reg} {g : Nat} (hne : ∀ y ∈ F, y.b ≠ g) {w : World} : ∀ (vs : List Value) (w' : World) (o : Nat), Stay F w w' → Stay F w (putCells w' g o vs)
  | [], _, _, h => h
  | v :: vs, w', o, h => by rw [putCells]; exact put_stay hne vs _ (o + 1) (h.set v hne)
theorem apart_sub {F G : List Reg} {r : Reg} (h : ∀ y ∈ F, r.apart y) (hs : ∀ y ∈ G, y ∈ F) : ∀ y ∈ G, r.apart y := fun y hy => h y (hs y hy)
end Go.Proofs.Ythbifibnnhikjaa
/- Rows: the laws' weight of a slice of them; no function of program or reference is walked here. -/
namespace Go.Proofs.Ythbifibnnhikjaa
open Go.RowKit
set_option linter.unusedVariables false

def wtRows (X : List R) : Nat := X.length
theorem cnt_rows (X : List R) : rowsMk.cnt X ≤ 64 * wtRows X := by show 3 * X.length ≤ 64 * X.length; omega
theorem wt_row_len (X : List R) : X.length ≤ wtRows X := Nat.le_refl _
end Go.Proofs.Ythbifibnnhikjaa
/- Pages in memory: their shape, what a call gives, their heads; no function of program or reference is walked here. -/
namespace Go.Proofs.Ythbifibnnhikjaa
open Go.RowKit

abbrev pageRep : Rep (List R) := seqRep rowRep
abbrev pagesRep : Rep (List (List R)) := seqRep pageRep
def mkP : Int → List (List R) → List (List R)
  | _, [] => []
  | q, p :: P => marked p.length q :: mkP (q + 3 * p.length) P
theorem mkP_length : ∀ (q : Int) (P : List (List R)), (mkP q P).length = P.length
  | _, [] => rfl
  | q, p :: P => by rw [mkP, List.length_cons, List.length_cons, mkP_length]
theorem mkP_append : ∀ (q : Int) (P Q : List (List R)), mkP q (P ++ Q) = mkP q P ++ mkP (q + 3 * P.flatten.length) Q
  | q, [], Q => by simp [mkP]
  | q, p :: P, Q => by
    rw [List.cons_append, mkP, mkP, mkP_append, List.cons_append, List.flatten_cons, List.length_append]
    congr 3
    omega
theorem mkP_next (q : Int) (P : List (List R)) (t : Nat) (ht : t < P.length) : (mkP q (P.take t) ++ P.drop t).set t (marked P[t].length (q + 3 * ((P.take t).flatten.length : Int))) = mkP q (P.take (t + 1)) ++ P.drop (t + 1) := by
  have hl : (mkP q (P.take t)).length = t := by rw [mkP_length, List.length_take]; omega
  rw [List.take_succ_eq_append_getElem ht, mkP_append, List.drop_eq_getElem_cons ht, List.set_append_right _ _ (by omega), hl, Nat.sub_self, List.set_cons_zero]
  simp [mkP]
theorem mkP_get (q : Int) (P : List (List R)) (t : Nat) (ht : t < P.length) : (mkP q P)[t]? = some (marked P[t].length (q + 3 * ((P.take t).flatten.length : Int))) := by
  have hl : (mkP q (P.take t)).length = t := by rw [mkP_length, List.length_take]; omega
  have e : P = P.take t ++ P[t] :: P.drop (t + 1) := by rw [← List.drop_eq_getElem_cons ht, List.take_append_drop]
  conv => lhs; rw [e, mkP_append]
  rw [List.getElem?_append_right (by omega), hl, Nat.sub_self, mkP]
  rfl
theorem flat_next (P : List (List R)) (t : Nat) (ht : t < P.length) : (P.take (t + 1)).flatten.length = (P.take t).flatten.length + P[t].length := by
  rw [List.take_succ_eq_append_getElem ht, List.flatten_append, List.length_append, List.flatten_cons, List.flatten_nil, List.append_nil]
theorem flat_take (P : List (List R)) (t : Nat) : (P.take t).flatten.length ≤ P.flatten.length := by
  conv => rhs; rw [← List.take_append_drop t P]
  rw [List.flatten_append, List.length_append]; omega
theorem flat_mem (P : List (List R)) (t : Nat) (ht : t < P.length) : P[t].length ≤ P.flatten.length := by
  have := flat_next P t ht
  have := flat_take P (t + 1)
  omega
theorem pageInfo : (Try.prog.info? 46).map (fun i => (i.zero, i.size, i.bytes)) = some (some (.agg #[.slice none 0 0]), 1, 24) := by kernel_rfl
theorem run_make_pages (n : Nat) (hn : n ≤ 1000000000000) (w : World) :
    (Instr.makeSlice 57 (.int .i64 (n : Int)) (.int .i64 (n : Int))).run Try.prog w = .ok (.slice (some ⟨w.heap.size, 0, none⟩) n n) (w.alloc (.cells (List.replicate n (Value.slice none 0 0)).toArray 46)) := by
  obtain ⟨i0, hi, hz0, hz1, hz2⟩ := info_parts pageInfo
  have h := run_make (P := Try.prog) w 57 46 i0 (.agg #[.slice none 0 0]) Try.underlying57 hi hz0 .i64 .i64 (n : Int) (n : Int) (by omega) (by omega) (by rw [hz2]; omega) (by omega)
  rw [h, hz1, Int.toNat_natCast, Nat.mul_one]
  have e : madeCells (Value.agg #[.slice none 0 0]).cells n = (List.replicate n (Value.slice none 0 0)).toArray := by
    apply Array.toList_inj.1
    exact toList_madeCells_one _ _
  rw [e]
end Go.Proofs.Ythbifibnnhikjaa
namespace Go.Proofs.Ythbifibnnhikjaa
open Go.RowKit

/-- Pages' heads in a block of the call's own. -/
def Heads (w : World) (B : Nat) (v : Value) (cs : List Value) : Prop := w.ownsRow B 46 1 v cs.length cs
/-- 'out = append(out, p)'. -/
theorem wpList_pushP {ops : Array Oper} {rest : List Oper} {o : Oper} {a : Act} {Q : Exit → Act → World → Prop} {wr : World} {B : Nat} {cs : List Value} {v h : Value} (s x : Operand) (N : Nat) (hN : N = wr.heap.size)
    (hgd : o.guard = none) (ho : o.op = .call { callee := .builtin .append, args := #[s, x], argTypes := #[57, 57] })
    (hs : a.eval s = v) (hx : a.eval x = .slice (some ⟨N, 0, none⟩) 1 1) (hown : Heads wr B v cs) (hB : B ≤ wr.heap.size) (hlen : cs.length + 1 ≤ 1000000000000) (h1 : h.oneCell' = true)
    (h' : ∀ g c w', Heads w' B (.slice (some ⟨g, 0, none⟩) (cs.length + 1) c) (cs ++ [h]) → wr.grownBy w' v.ownBlock → (v.ownBlock = some g ∨ wr.heap.size ≤ g) → wpList Try.prog ops Q rest (a.put o.dst (.slice (some ⟨g, 0, none⟩) (cs.length + 1) c)) w') :
    wpList Try.prog ops Q (o :: rest) a (wr.alloc (.cells #[h] 46)) := by
  subst hN
  obtain ⟨i0, hi, hz0, hz1, hz2⟩ := info_parts pageInfo
  refine wpList_append_lies _ hgd s x 57 ho B 46 i0 (.agg #[.slice none 0 0]) 1 24 Try.underlying57 hi hz0 hz1 hz2 rfl (by decide) v cs.length cs hs (World.ownsRow.alloc hown _)
    ⟨wr.heap.size, 0, none⟩ 1 1 [h] hx rfl ?_ (fun u hu => by rw [List.mem_singleton.1 hu]; exact h1) (by omega) (by unfold maxLen; omega) (by omega) (by simp; omega) _ rfl ?_
  · exact World.news_of_block (heap_alloc_new wr (.cells #[h] 46))
  · intro g c w' hown' hg hat _
    refine h' g c w' ?_ ((World.grownBy_alloc wr _ _).trans hg) ?_
    · unfold Heads
      rw [List.length_append]
      exact hown'
    · rcases hat with hat | hat
      · exact .inl hat
      · refine .inr ?_
        rw [hat]
        simp
theorem heads_zero (w : World) (B : Nat) (hB : B ≤ w.heap.size) : Heads (w.alloc (.cells #[] 46)) B (.slice (some ⟨w.heap.size, 0, none⟩) 0 0) [] :=
  World.ownsRow_made w #[] 0 hB (Nat.zero_le _) (by simp)
theorem Heads.keep {w w' : World} {B : Nat} {v : Value} {cs : List Value} (h : Heads w B v cs) (hb : Below w.heap.size w w') : Heads w' B v cs := by
  obtain ⟨h1, h0 | ⟨g, cap, cur, rfl, hB, hh, h2⟩⟩ := h
  · exact ⟨h1, .inl h0⟩
  · exact ⟨h1, .inr ⟨g, cap, cur, rfl, hB, (hb.block g (lt_of_block hh)).trans hh, h2⟩⟩
theorem Heads.far {w w' : World} {B : Nat} {v : Value} {cs : List Value} (h : Heads w B v cs) (hb : ∀ k, v.ownBlock = some k → k < w.heap.size → w'.heap[k]? = w.heap[k]?) : Heads w' B v cs := by
  obtain ⟨h1, h0 | ⟨g, cap, cur, rfl, hB, hh, h2⟩⟩ := h
  · exact ⟨h1, .inl h0⟩
  · exact ⟨h1, .inr ⟨g, cap, cur, rfl, hB, (hb g rfl (lt_of_block hh)).trans hh, h2⟩⟩
theorem Heads.own {w : World} {B : Nat} {v : Value} {cs : List Value} (h : Heads w B v cs) : ∀ k, v.ownBlock = some k → B ≤ k ∧ k < w.heap.size := fun k hk => World.ownsRow.lt h k hk
theorem Heads.cells {w : World} {B g n c : Nat} {cs : List Value} (h : Heads w B (.slice (some ⟨g, 0, none⟩) n c) cs) : n = cs.length ∧ g < w.heap.size ∧ (∀ j, w.frozen? ⟨g, j, none⟩ = false) ∧ ∀ j u, cs[j]? = some u → w.cell? ⟨g, j, none⟩ = some u := by
  obtain ⟨h1, ⟨h0, -⟩ | ⟨g', cap, cur, hv, hB, hh, hcap, hmax, hsz, htake⟩⟩ := h
  · injection h0 with e1; cases e1
  · injection hv with e1 e2 e3
    injection e1 with e1
    injection e1 with e1 _ _
    subst e1
    refine ⟨e2, lt_of_block hh, fun j => by simp [World.frozen?, hh], fun j u hj => ?_⟩
    have hjl : j < cs.length * 1 := by rw [Nat.mul_one]; exact idx_lt hj
    rw [← htake, List.getElem?_take, if_pos (by omega)] at hj
    simp only [World.cell?, hh]
    simpa using hj
theorem Heads.slice {w : World} {B : Nat} {v : Value} {cs : List Value} (h : Heads w B v cs) : ∃ a c, v = .slice a cs.length c := by
  obtain ⟨h1, ⟨rfl, h0⟩ | ⟨g, cap, cur, rfl, -⟩⟩ := h
  · exact ⟨none, 0, by rw [h0]⟩
  · exact ⟨_, _, rfl⟩
/-- The pages as a slice in memory of the call's own. -/
theorem pages_done {w : World} {B : Nat} {a : Option Addr} {n c : Nat} {es : List (El pageRep)} (hh : Heads w B (.slice a n c) (cellsOf es)) (hall : OwnAll pageRep w B es) (hne : ∀ e ∈ es, ∀ y ∈ e.F, (Value.slice a n c).ownBlock ≠ some y.b) (hm : es.length ≤ maxLen) :
    ∃ F, SeqOwn pageRep w B a n (es.map El.x) F := by
  have hcl : (cellsOf es).length = es.length := by rw [cellsOf_length]; exact Nat.mul_one _
  rcases Nat.eq_zero_or_pos es.length with h0 | h0
  · obtain rfl : es = [] := List.eq_nil_of_length_eq_zero h0
    obtain ⟨a', c', e⟩ := hh.slice
    injection e with _ e2 _
    have hn : n = 0 := e2
    exact ⟨[], by rw [hn]; rfl, by omega, .inl ⟨hn, rfl⟩⟩
  · rcases hh.2 with ⟨e, hz⟩ | ⟨g, cap, cur, e, hB, hb, -⟩
    · have := hcl; omega
    · injection e with e1 e2 e3
      subst e1
      obtain ⟨hn, hgl, hf, hc⟩ := Heads.cells hh
      obtain ⟨F, hF⟩ := hall.done hB hgl hf hc (fun e he y hy e2 => hne e he y hy (by rw [e2]; rfl)) hm
      exact ⟨F, by rw [hn, hcl]; exact hF⟩
end Go.Proofs.Ythbifibnnhikjaa
/- Page: the datum, its shape, the laws' marks over it, its weight; no function of program or reference is walked here. -/
namespace Go.Proofs.Ythbifibnnhikjaa
open Go.RowKit
set_option linter.unusedVariables false

theorem pageRep_size : pageRep.size = 1 := rfl
def pageMk : Mk (List R) := ⟨fun q x => rowsMk.mark (q) x, fun x => rowsMk.cnt x, fun q x => by simp [Mk.cnt_mark]⟩
def pagesMk : Mk (List (List R)) := seqMk pageMk
def pageMkV : Mk (List R) := ⟨fun q x => rowsMk.mark (q) x, fun x => rowsMk.cnt x, fun q x => by simp [Mk.cnt_mark]⟩
def wtPage (x : List R) : Nat := wtRows x
def wtPages (X : List (List R)) : Nat := wtAll wtPage X
theorem cnt_page (x : List R) : pageMk.cnt x ≤ 64 * (wtPage x + 1) := by
  have h0 := cnt_rows x
  show rowsMk.cnt x ≤ 64 * (wtRows x + 1)
  omega
theorem cnt_pages (X : List (List R)) : pagesMk.cnt X ≤ 64 * wtPages X := cntAll_le pageMk wtPage cnt_page X
theorem wt_page_at (X : List (List R)) (t : Nat) (ht : t < X.length) : wtPage X[t] ≤ wtPages X := wtAll_at wtPage X t ht
theorem wt_page_len (X : List (List R)) : X.length ≤ wtPages X := wtAll_len wtPage X
end Go.Proofs.Ythbifibnnhikjaa
/- File: the datum, its shape, the laws' marks over it, its weight; no function of program or reference is walked here. -/
namespace Go.Proofs.Ythbifibnnhikjaa
open Go.RowKit
set_option linter.unusedVariables false

structure FileD where
  fName : Int
  fPages : List (List R)
  fChecksum : Int
  fSealed : Bool
deriving DecidableEq
def fileRep : Rep FileD := viaRep (fun x => (x.fName, x.fPages, x.fChecksum, x.fSealed, ())) (intAnd (seqAnd pageRep (intAnd (boolAnd endRep))))
theorem fileRep_size : fileRep.size = 4 := rfl
def fileMk : Mk FileD := ⟨fun q x => ⟨q, pagesMk.mark (q + 1) x.fPages, q + 1 + (pagesMk.cnt x.fPages : Nat), ((q + 1 + (pagesMk.cnt x.fPages : Nat) + 1) % 3 == 0)⟩, fun x => 1 + pagesMk.cnt x.fPages + 1 + 1, fun q x => by simp [Mk.cnt_mark]⟩
def filesMk : Mk (List FileD) := seqMk fileMk
def wtFile (x : FileD) : Nat := wtPages x.fPages
def wtFiles (X : List FileD) : Nat := wtAll wtFile X
theorem cnt_file (x : FileD) : fileMk.cnt x ≤ 64 * (wtFile x + 1) := by
  have h1 := cnt_pages x.fPages
  show 1 + pagesMk.cnt x.fPages + 1 + 1 ≤ 64 * (wtPages x.fPages + 1)
  omega
theorem cnt_files (X : List FileD) : filesMk.cnt X ≤ 64 * wtFiles X := cntAll_le fileMk wtFile cnt_file X
theorem wt_file_at (X : List FileD) (t : Nat) (ht : t < X.length) : wtFile X[t] ≤ wtFiles X := wtAll_at wtFile X t ht
theorem wt_file_len (X : List FileD) : X.length ≤ wtFiles X := wtAll_len wtFile X
theorem fileInfo : (Try.prog.info? 59).map (fun i => (i.zero, i.size, i.bytes)) = some (some (.agg #[.int .i64 0, .slice none 0 0, .int .i64 0, .bool false]), 4, 48) := by kernel_rfl
end Go.Proofs.Ythbifibnnhikjaa
/- Disk: the datum, its shape, the laws' marks over it, its weight; no function of program or reference is walked here. -/
namespace Go.Proofs.Ythbifibnnhikjaa
open Go.RowKit
set_option linter.unusedVariables false

structure DiskD where
  fFiles : List FileD
  fNextName : Int
deriving DecidableEq
def diskRep : Rep DiskD := viaRep (fun x => (x.fFiles, x.fNextName, ())) (seqAnd fileRep (intAnd endRep))
theorem diskRep_size : diskRep.size = 2 := rfl
def diskMk : Mk DiskD := ⟨fun q x => ⟨filesMk.mark (q) x.fFiles, q + (filesMk.cnt x.fFiles : Nat)⟩, fun x => filesMk.cnt x.fFiles + 1, fun q x => by simp [Mk.cnt_mark]⟩
def disksMk : Mk (List DiskD) := seqMk diskMk
def diskMkV : Mk DiskD := ⟨fun q x => ⟨filesMk.mark (q) x.fFiles, x.fNextName⟩, fun x => filesMk.cnt x.fFiles, fun q x => by simp [Mk.cnt_mark]⟩
def wtDisk (x : DiskD) : Nat := wtFiles x.fFiles
def wtDisks (X : List DiskD) : Nat := wtAll wtDisk X
theorem cnt_disk (x : DiskD) : diskMk.cnt x ≤ 64 * (wtDisk x + 1) := by
  have h0 := cnt_files x.fFiles
  show filesMk.cnt x.fFiles + 1 ≤ 64 * (wtFiles x.fFiles + 1)
  omega
theorem cnt_disks (X : List DiskD) : disksMk.cnt X ≤ 64 * wtDisks X := cntAll_le diskMk wtDisk cnt_disk X
theorem wt_disk_at (X : List DiskD) (t : Nat) (ht : t < X.length) : wtDisk X[t] ≤ wtDisks X := wtAll_at wtDisk X t ht
theorem wt_disk_len (X : List DiskD) : X.length ≤ wtDisks X := wtAll_len wtDisk X
theorem diskInfo : (Try.prog.info? 31).map (fun i => (i.zero, i.size, i.bytes)) = some (some (.agg #[.slice none 0 0, .int .i64 0]), 2, 32) := by kernel_rfl
end Go.Proofs.Ythbifibnnhikjaa
/- Rows: a copy of a slice of them; no function of program or reference is walked here. -/
namespace Go.Proofs.Ythbifibnnhikjaa
open Go.RowKit
set_option linter.unusedVariables false

theorem toS_row (a : Option Addr) (n c : Nat) (X : List R) (w : World) (h : SeqIn rowRep w a n X) (hw : wtRows X ≤ 1000000000) :
    Calls Try.prog 47 #[.slice a n c] w fun e w' => ∃ g F, e = .returned (.slice (some ⟨g, 0, none⟩) n n) ∧ SeqOwn rowRep w' w.heap.size (some ⟨g, 0, none⟩) n X F ∧ Below w.heap.size w w' :=
  ownrows a n c X w (rows_in h) (by have : X.length ≤ 1000000000 := hw; rw [h.1] at this; omega)
end Go.Proofs.Ythbifibnnhikjaa
