/- Plain mathematics of rows: validity, cost, order, the string format and its inverse; no program. -/
import Derived.Test.YtoiobaiiammehaaDoorDec
import Derived.Test.YtoiobaiiammehaaDoorCut
namespace Go.Proofs.YtoiobaiiammehaaDoor
open Go.Lib

/-- A row: three numbers. -/
structure R where
  key : Int
  value : Int
  width : Int
deriving DecidableEq, Inhabited

namespace R
def ok (r : R) : Bool := decide (0 ≤ r.key ∧ r.key ≤ 9 ∧ 0 ≤ r.value ∧ r.value ≤ 99 ∧ 0 ≤ r.width ∧ r.width ≤ 3)
theorem ok_iff {r : R} : r.ok = true ↔ 0 ≤ r.key ∧ r.key ≤ 9 ∧ 0 ≤ r.value ∧ r.value ≤ 99 ∧ 0 ≤ r.width ∧ r.width ≤ 3 := by simp [ok]
theorem not_ok_iff {r : R} : r.ok = false ↔ ¬ (0 ≤ r.key ∧ r.key ≤ 9 ∧ 0 ≤ r.value ∧ r.value ≤ 99 ∧ 0 ≤ r.width ∧ r.width ≤ 3) := by unfold ok; rw [decide_eq_false_iff_not]
/-- Each number is an int of Go's. -/
def wf (r : R) : Prop := (-9223372036854775808 ≤ r.key ∧ r.key ≤ 9223372036854775807) ∧ (-9223372036854775808 ≤ r.value ∧ r.value ≤ 9223372036854775807) ∧ (-9223372036854775808 ≤ r.width ∧ r.width ≤ 9223372036854775807)
theorem wf_of_ok {r : R} (h : r.ok = true) : r.wf := by rw [ok_iff] at h; unfold wf; omega
def zero : R := ⟨0, 0, 0⟩
theorem zero_wf : zero.wf := by unfold wf zero; decide
def cost (r : R) : Int := if r.ok then 1 + r.width else 0
theorem cost_range (r : R) : 0 ≤ r.cost ∧ r.cost ≤ 4 := by
  unfold cost
  split
  · rename_i h; rw [ok_iff] at h; omega
  · omega
def cmp (a b : R) : Int :=
  if a.key < b.key then -1 else if b.key < a.key then 1 else if a.value < b.value then -1 else if b.value < a.value then 1 else if a.width < b.width then -1 else if b.width < a.width then 1 else 0
/-- The fields by number. -/
def fld (r : R) (k : Nat) : Int := if k = 0 then r.key else if k = 1 then r.value else r.width
theorem fld_wf {r : R} (h : r.wf) (k : Nat) : -9223372036854775808 ≤ r.fld k ∧ r.fld k ≤ 9223372036854775807 := by
  unfold wf at h; unfold fld; split
  · exact h.1
  · split
    · exact h.2.1
    · exact h.2.2
theorem cmp_less (a b : R) (k : Nat) (hk : k < 3) (he : ∀ t, t < k → a.fld t = b.fld t) (h : a.fld k < b.fld k) : cmp a b = -1 := by
  have e0 : 0 < k → a.key = b.key := fun h0 => he 0 h0
  have e1 : 1 < k → a.value = b.value := fun h0 => he 1 h0
  unfold fld at h
  unfold cmp
  split at h
  · rw [if_pos h]
  · have := e0 (by omega)
    rw [if_neg (by omega), if_neg (by omega)]
    split at h
    · rw [if_pos h]
    · have := e1 (by omega)
      rw [if_neg (by omega), if_neg (by omega), if_pos h]
theorem cmp_more (a b : R) (k : Nat) (hk : k < 3) (he : ∀ t, t < k → a.fld t = b.fld t) (h : b.fld k < a.fld k) : cmp a b = 1 := by
  have e0 : 0 < k → a.key = b.key := fun h0 => he 0 h0
  have e1 : 1 < k → a.value = b.value := fun h0 => he 1 h0
  unfold fld at h
  unfold cmp
  split at h
  · rw [if_neg (by omega), if_pos h]
  · have := e0 (by omega)
    rw [if_neg (by omega), if_neg (by omega)]
    split at h
    · rw [if_neg (by omega), if_pos h]
    · have := e1 (by omega)
      rw [if_neg (by omega), if_neg (by omega), if_neg (by omega), if_pos h]
theorem cmp_same (a b : R) (he : ∀ t, t < 3 → a.fld t = b.fld t) : cmp a b = 0 := by
  have e0 : a.key = b.key := he 0 (by omega)
  have e1 : a.value = b.value := he 1 (by omega)
  have e2 : a.width = b.width := he 2 (by omega)
  unfold cmp
  rw [if_neg (by omega), if_neg (by omega), if_neg (by omega), if_neg (by omega), if_neg (by omega), if_neg (by omega)]
/-- One comparison of two numbers. -/
def one (x y : Int) : Int := if x < y then -1 else if y < x then 1 else 0
theorem cmp_or (a b : R) : cmp a b = if one a.key b.key ≠ 0 then one a.key b.key else if one a.value b.value ≠ 0 then one a.value b.value else one a.width b.width := by
  unfold cmp one
  (repeat' split) <;> first | rfl | omega
theorem cmp_range (a b : R) : -1 ≤ cmp a b ∧ cmp a b ≤ 1 := by
  unfold cmp
  (repeat' split) <;> omega
def fmt (r : R) : List UInt8 := if r.ok then itoa r.key ++ 46 :: (itoa r.value ++ 46 :: itoa r.width) else []
end R

def total (L : List R) : Int := (L.map R.cost).sum
theorem total_nil : total [] = 0 := rfl
theorem total_snoc (L : List R) (r : R) : total (L ++ [r]) = total L + r.cost := by simp [total]
theorem total_range (L : List R) : 0 ≤ total L ∧ total L ≤ 4 * L.length := by
  induction L with
  | nil => simp [total]
  | cons r L ih =>
    have := r.cost_range
    have e : total (r :: L) = r.cost + total L := by simp [total]
    rw [e]; simp only [List.length_cons]; omega
theorem total_take (L : List R) (k : Nat) (hk : k < L.length) : total (L.take (k + 1)) = total (L.take k) + (L.getD k R.zero).cost := by
  rw [List.take_succ_eq_append_getElem hk, total_snoc]
  simp [List.getD, hk]

def allOk (L : List R) : Bool := L.all R.ok
def okRows (L : List R) : Bool := decide (L.length ≤ 24) && allOk L
theorem allOk_take (L : List R) (k : Nat) (hk : k < L.length) : allOk (L.take (k + 1)) = (allOk (L.take k) && (L.getD k R.zero).ok) := by
  have e : L.getD k R.zero = L[k] := by simp [List.getD, hk]
  unfold allOk
  rw [e, List.take_succ_eq_append_getElem hk, List.all_append]
  simp only [List.all_cons, List.all_nil, Bool.and_true]
theorem allOk_bad (L : List R) (k : Nat) (hk : k < L.length) (h : (L.getD k R.zero).ok = false) : allOk L = false := by
  unfold allOk
  rw [List.all_eq_false]
  exact ⟨L[k], List.getElem_mem hk, by simpa [List.getD, hk] using h⟩

/-! ### The format -/
theorem itoa_digits (n : Int) (h : 0 ≤ n) : ∀ b ∈ itoa n, 48 ≤ b.toNat ∧ b.toNat ≤ 57 := by
  intro b hb
  unfold itoa at hb
  rw [if_neg (by omega)] at hb
  exact Dec.digits_all _ b hb
theorem itoa_nosign (n : Int) (h : 0 ≤ n) (c : UInt8) (hc : ¬ (48 ≤ c.toNat ∧ c.toNat ≤ 57)) : c ∉ itoa n := fun hm => hc (itoa_digits n h c hm)
theorem fmt_cut (r : R) (h : r.ok = true) : Cut.cut 46 r.fmt = [itoa r.key, itoa r.value, itoa r.width] := by
  have hr := R.ok_iff.1 h
  unfold R.fmt
  rw [if_pos h, Cut.cut_app 46 _ _ (itoa_nosign _ (by omega) 46 (by decide)), Cut.cut_app 46 _ _ (itoa_nosign _ (by omega) 46 (by decide)), Cut.cut_none 46 _ (itoa_nosign _ (by omega) 46 (by decide))]
theorem fmt_nospace (r : R) : (32 : UInt8) ∉ r.fmt := by
  unfold R.fmt
  split
  · rename_i h
    have hr := R.ok_iff.1 h
    have h1 := itoa_nosign r.key (by omega) 32 (by decide)
    have h2 := itoa_nosign r.value (by omega) 32 (by decide)
    have h3 := itoa_nosign r.width (by omega) 32 (by decide)
    simp [h1, h2, h3]
  · simp
theorem fmt_ne (r : R) (h : r.ok = true) : r.fmt ≠ [] := by
  unfold R.fmt
  rw [if_pos h]; simp
theorem dd_small (n : Int) (h0 : 0 ≤ n) (h1 : n ≤ 99) : (itoa n).length ≤ 2 := by
  rw [Dec.itoa_length, if_neg (by omega)]
  have h : nDigits n.natAbs ≤ 2 := by
    rcases Nat.lt_or_ge 2 (nDigits n.natAbs) with hlt | hge
    · obtain ⟨k, hk⟩ : ∃ k, nDigits n.natAbs = k + 1 := ⟨nDigits n.natAbs - 1, by omega⟩
      have h1 := Dec.pow_le_of_nDigits k n.natAbs hk (by omega)
      have h2 : 10 ^ 2 ≤ 10 ^ k := Nat.pow_le_pow_right (by omega) (by omega)
      omega
    · exact hge
  omega
theorem fmt_length (r : R) : r.fmt.length ≤ 8 := by
  unfold R.fmt
  split
  · rename_i h
    have hr := R.ok_iff.1 h
    have h1 := dd_small r.key (by omega) (by omega)
    have h2 := dd_small r.value (by omega) (by omega)
    have h3 := dd_small r.width (by omega) (by omega)
    simp; omega
  · simp

/-- The row whose format l is. -/
def parseRow (l : List UInt8) : Option R :=
  match Cut.cut 46 l with
  | [a, b, c] => match Dec.parse a, Dec.parse b, Dec.parse c with
    | some k, some v, some w => if (R.mk k v w).ok then some ⟨k, v, w⟩ else none
    | _, _, _ => none
  | _ => none
theorem parseRow_fmt (r : R) (h : r.ok = true) : parseRow r.fmt = some r := by
  have hr := R.ok_iff.1 h
  unfold parseRow
  rw [fmt_cut r h]
  simp only
  rw [Dec.parse_some rfl (by omega) (by omega), Dec.parse_some rfl (by omega) (by omega), Dec.parse_some rfl (by omega) (by omega)]
  simp only
  rw [if_pos h]
theorem parseRow_three {l a b c : List UInt8} (h : Cut.cut 46 l = [a, b, c]) : l = a ++ 46 :: (b ++ 46 :: c) := by
  have := Cut.join_cut 46 l
  rw [h, Cut.join_two, Cut.join_two, join_one] at this
  rw [← this]; simp
theorem parseRow_inv {l : List UInt8} {r : R} (h : parseRow l = some r) : r.ok = true ∧ r.fmt = l := by
  unfold parseRow at h
  split at h
  · rename_i a b c hc
    split at h
    · rename_i k v w ha hb hw
      split at h
      · rename_i hok
        cases h
        refine ⟨hok, ?_⟩
        obtain ⟨h1, -, -⟩ := Dec.parse_inv ha
        obtain ⟨h2, -, -⟩ := Dec.parse_inv hb
        obtain ⟨h3, -, -⟩ := Dec.parse_inv hw
        unfold R.fmt
        rw [if_pos hok, parseRow_three hc, ← h1, ← h2, ← h3]
      · cases h
    · cases h
  · cases h
/-- How the reference reads it: the numbers of the three pieces, and the format must be l again. -/
def threeRow (l : List UInt8) : R :=
  ⟨(Dec.parse ((Cut.cut 46 l).getD 0 [])).getD 0, (Dec.parse ((Cut.cut 46 l).getD 1 [])).getD 0, (Dec.parse ((Cut.cut 46 l).getD 2 [])).getD 0⟩
theorem parse_range {l : List UInt8} : -999999999 ≤ (Dec.parse l).getD 0 ∧ (Dec.parse l).getD 0 ≤ 999999999 := by
  cases h : Dec.parse l with
  | none => decide
  | some n => exact (Dec.parse_inv h).2
theorem threeRow_wf (l : List UInt8) : (threeRow l).wf := by
  unfold R.wf threeRow
  have h1 := @parse_range ((Cut.cut 46 l).getD 0 [])
  have h2 := @parse_range ((Cut.cut 46 l).getD 1 [])
  have h3 := @parse_range ((Cut.cut 46 l).getD 2 [])
  simp only
  omega
theorem parseRow_yes (l : List UInt8) (h3 : (Cut.cut 46 l).length = 3) (h : (threeRow l).fmt = l) : parseRow l = some (threeRow l) := by
  have hok : (threeRow l).ok = true := by
    cases hk : (threeRow l).ok with
    | true => rfl
    | false =>
      unfold R.fmt at h
      rw [hk] at h
      simp only [Bool.false_eq_true, if_false] at h
      rw [← h] at h3
      simp [Cut.cut] at h3
  conv => lhs; rw [← h]
  exact parseRow_fmt _ hok
theorem parseRow_no (l : List UInt8) (h : (threeRow l).fmt ≠ l) : parseRow l = none := by
  cases hp : parseRow l with
  | none => rfl
  | some r =>
    obtain ⟨hok, hf⟩ := parseRow_inv hp
    have hr := R.ok_iff.1 hok
    have hc := fmt_cut r hok
    rw [hf] at hc
    have : threeRow l = r := by
      unfold threeRow
      rw [hc]
      simp only [List.getD_cons_zero, List.getD_cons_succ]
      rw [Dec.parse_some rfl (by omega) (by omega), Dec.parse_some rfl (by omega) (by omega), Dec.parse_some rfl (by omega) (by omega)]
      rfl
    rw [this] at h
    exact absurd hf h
theorem parseRow_other (l : List UInt8) (h : (Cut.cut 46 l).length ≠ 3) : parseRow l = none := by
  unfold parseRow
  split
  · rename_i a b c hc; rw [hc] at h; simp at h
  · rfl
/-- How the program reads it: three pieces, three numbers, and the row is valid. -/
theorem parseRow_pieces {l a b c : List UInt8} (h : Cut.cut 46 l = [a, b, c]) :
    parseRow l = if (Dec.parse a).isSome && (Dec.parse b).isSome && (Dec.parse c).isSome && (R.mk ((Dec.parse a).getD 0) ((Dec.parse b).getD 0) ((Dec.parse c).getD 0)).ok then some ⟨(Dec.parse a).getD 0, (Dec.parse b).getD 0, (Dec.parse c).getD 0⟩ else none := by
  unfold parseRow
  rw [h]
  simp only
  cases Dec.parse a <;> cases Dec.parse b <;> cases Dec.parse c <;> simp

/-! ### Several rows -/
def fmtRows (L : List R) : List UInt8 := if okRows L then join (L.map R.fmt) [32] else []
/-- All rows of the pieces, if each piece is a row's format. -/
def readAll : List (List UInt8) → Option (List R)
  | [] => some []
  | p :: ps => match parseRow p, readAll ps with
    | some r, some L => some (r :: L)
    | _, _ => none
theorem readAll_snoc (ps : List (List UInt8)) (p : List UInt8) : readAll (ps ++ [p]) = match readAll ps, parseRow p with | some L, some r => some (L ++ [r]) | _, _ => none := by
  induction ps with
  | nil => simp only [List.nil_append, readAll]; cases parseRow p <;> rfl
  | cons q ps ih =>
    simp only [List.cons_append, readAll]
    rw [ih]
    cases parseRow q <;> cases readAll ps <;> cases parseRow p <;> rfl
theorem readAll_next (ps : List (List UInt8)) (k : Nat) (hk : k < ps.length) (M : List R) (h : readAll (ps.take k) = some M) : readAll (ps.take (k + 1)) = (parseRow ps[k]).map fun r => M ++ [r] := by
  rw [List.take_succ_eq_append_getElem hk, readAll_snoc, h]
  cases parseRow ps[k] <;> rfl
theorem readAll_length : ∀ {ps : List (List UInt8)} {L : List R}, readAll ps = some L → L.length = ps.length
  | [], L, h => by simp only [readAll, Option.some.injEq] at h; rw [← h]; rfl
  | p :: ps, L, h => by
    unfold readAll at h
    split at h
    · rename_i r L' h1 h2; cases h; simp [readAll_length h2]
    · cases h
theorem readAll_ok : ∀ {ps : List (List UInt8)} {L : List R}, readAll ps = some L → allOk L = true ∧ L.map R.fmt = ps
  | [], L, h => by simp only [readAll, Option.some.injEq] at h; rw [← h]; exact ⟨rfl, rfl⟩
  | p :: ps, L, h => by
    unfold readAll at h
    split at h
    · rename_i r L' h1 h2
      cases h
      obtain ⟨a1, a2⟩ := parseRow_inv h1
      obtain ⟨b1, b2⟩ := readAll_ok h2
      exact ⟨by unfold allOk at b1 ⊢; rw [List.all_cons, a1, b1]; rfl, by rw [List.map_cons, a2, b2]⟩
    · cases h
theorem readAll_fmt : ∀ (L : List R), allOk L = true → readAll (L.map R.fmt) = some L
  | [], _ => rfl
  | r :: L, h => by
    unfold allOk at h
    rw [List.all_cons, Bool.and_eq_true] at h
    rw [List.map_cons, readAll, parseRow_fmt r h.1, readAll_fmt L h.2]
theorem readAll_bad : ∀ (ps : List (List UInt8)) (k : Nat) (hk : k < ps.length), parseRow ps[k] = none → readAll ps = none
  | p :: ps, 0, hk, h => by
    simp only [List.getElem_cons_zero] at h
    rw [readAll, h]
  | p :: ps, k + 1, hk, h => by
    simp only [List.getElem_cons_succ] at h
    rw [readAll, readAll_bad ps k (by simpa using hk) h]
    cases parseRow p <;> rfl
/-- The rows whose format l is. -/
def parseRows (l : List UInt8) : Option (List R) := if l = [] then some [] else if (Cut.cut 32 l).length ≤ 24 then readAll (Cut.cut 32 l) else none
theorem parseRows_empty : parseRows [] = some [] := rfl
theorem parseRows_bad (l : List UInt8) (hl : l ≠ []) (k : Nat) (hk : k < (Cut.cut 32 l).length) (h : parseRow (Cut.cut 32 l)[k] = none) : parseRows l = none := by
  unfold parseRows
  rw [if_neg hl, readAll_bad _ k hk h]
  split <;> rfl
theorem parseRows_long (l : List UInt8) (hl : l ≠ []) (h : 24 < (Cut.cut 32 l).length) : parseRows l = none := by
  unfold parseRows
  rw [if_neg hl, if_neg (by omega)]
theorem parseRows_all (l : List UInt8) (hl : l ≠ []) (M : List R) (h : readAll (Cut.cut 32 l) = some M) : parseRows l = if okRows M = true then some M else none := by
  unfold parseRows
  rw [if_neg hl, h]
  have h1 := (readAll_ok h).1
  have h2 := readAll_length h
  unfold okRows
  rw [h1, Bool.and_true]
  by_cases h24 : (Cut.cut 32 l).length ≤ 24
  · rw [if_pos h24, if_pos (by rw [decide_eq_true_eq]; omega)]
  · rw [if_neg h24, if_neg (by rw [decide_eq_true_eq]; omega)]
theorem readAll_wf {ps : List (List UInt8)} {M : List R} (h : readAll ps = some M) : ∀ r ∈ M, r.wf := by
  intro r hr
  have := (readAll_ok h).1
  unfold allOk at this
  exact R.wf_of_ok (List.all_eq_true.1 this r hr)
theorem parseRows_fmt (L : List R) (h : okRows L = true) : parseRows (fmtRows L) = some L := by
  unfold okRows at h
  have h' := h
  rw [Bool.and_eq_true, decide_eq_true_eq] at h
  unfold parseRows fmtRows
  rw [if_pos (show okRows L = true from h')]
  cases L with
  | nil => simp [join_nil]
  | cons r L =>
    have hne : join ((r :: L).map R.fmt) [32] ≠ [] := by
      have hr : r.ok = true := by have := h.2; unfold allOk at this; rw [List.all_cons, Bool.and_eq_true] at this; exact this.1
      have := fmt_ne r hr
      rw [List.map_cons, join_cons]
      intro e
      exact this (List.append_eq_nil_iff.1 e).1
    rw [if_neg hne, Cut.cut_join 32 _ (by simp) (fun p hp => by obtain ⟨q, _, rfl⟩ := List.mem_map.1 hp; exact fmt_nospace q)]
    rw [if_pos (by simpa using h.1)]
    exact readAll_fmt _ h.2
theorem parseRows_inv {l : List UInt8} {L : List R} (h : parseRows l = some L) : okRows L = true ∧ fmtRows L = l := by
  unfold parseRows at h
  split at h
  · rename_i hl
    cases h
    exact ⟨rfl, by rw [hl]; rfl⟩
  · split at h
    · rename_i hl h24
      obtain ⟨h1, h2⟩ := readAll_ok h
      have h3 := readAll_length h
      have hok : okRows L = true := by unfold okRows; rw [h1, Bool.and_true, decide_eq_true_eq]; omega
      refine ⟨hok, ?_⟩
      unfold fmtRows
      rw [if_pos hok, h2, Cut.join_cut]
    · cases h
theorem parseRows_wf {l : List UInt8} {M : List R} (h : parseRows l = some M) : ∀ r ∈ M, r.wf := by
  intro r hr
  have := (parseRows_inv h).1
  unfold okRows at this
  rw [Bool.and_eq_true] at this
  have h2 := this.2
  unfold allOk at h2
  exact R.wf_of_ok (List.all_eq_true.1 h2 r hr)
theorem joinTail_snoc (sep y : List UInt8) (r : List (List UInt8)) : joinTail sep (r ++ [y]) = joinTail sep r ++ (sep ++ y) := by simp [joinTail]
theorem join_snoc (xs : List (List UInt8)) (y sep : List UInt8) : join (xs ++ [y]) sep = if xs = [] then y else join xs sep ++ sep ++ y := by
  cases xs with
  | nil => simp [join_one]
  | cons x r =>
    rw [if_neg (by simp), List.cons_append, join_cons, join_cons, joinTail_snoc]
    simp
theorem join_fmt_length (L : List R) : (join (L.map R.fmt) [32]).length ≤ 9 * L.length := by
  cases L with
  | nil => simp [join_nil]
  | cons r L =>
    rw [List.map_cons, join_cons]
    have h0 := fmt_length r
    have : (joinTail [32] (L.map R.fmt)).length ≤ 9 * L.length := by
      induction L with
      | nil => simp [joinTail]
      | cons q L ih =>
        have hq := fmt_length q
        simp only [joinTail, List.map_cons, List.flatten_cons, List.length_append, List.length_cons, List.length_nil] at ih ⊢
        omega
    rw [List.length_append, List.length_cons]; omega
theorem okRows_length {L : List R} (h : okRows L = true) : L.length ≤ 24 := by
  unfold okRows at h
  rw [Bool.and_eq_true, decide_eq_true_eq] at h
  exact h.1
theorem fmtRows_length (L : List R) : (fmtRows L).length ≤ 216 := by
  unfold fmtRows
  split
  · rename_i h
    have := okRows_length h
    have := join_fmt_length L
    omega
  · simp
theorem join_next (L : List R) (k : Nat) (hk : k < L.length) : join ((L.take (k + 1)).map R.fmt) [32] = if k = 0 then (L.getD k R.zero).fmt else join ((L.take k).map R.fmt) [32] ++ [32] ++ (L.getD k R.zero).fmt := by
  have e : L.getD k R.zero = L[k] := by simp [List.getD, hk]
  rw [e, List.take_succ_eq_append_getElem hk, List.map_append, List.map_cons, List.map_nil, join_snoc]
  by_cases h : k = 0
  · subst h; simp
  · have hne : (L.take k).map R.fmt ≠ [] := by
      intro e
      have := congrArg List.length e
      rw [List.length_map, List.length_take, List.length_nil] at this
      omega
    rw [if_neg hne, if_neg h]
end Go.Proofs.YtoiobaiiammehaaDoor
