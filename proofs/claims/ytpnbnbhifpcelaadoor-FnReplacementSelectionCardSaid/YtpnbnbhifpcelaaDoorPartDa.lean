/- Texts joined: Math RunM RunN Mem Shape Apart Only ToRow ToRows Mark OpenRow Opens MarkIn TBase TRow TRun. -/
import Derived.Lib.ItoaNum
import Derived.Lib.ItoaLen
import Derived.Lib.Atoi
import Derived.Lib.Strings
import Derived.Lib.Split
import Derived.Lib.Join
import Derived.Lib.IndexMore
import Derived.Test.YtpnbnbhifpcelaaDoorProg
import Derived.WalkKit
import Derived.Below
import Derived.Lib.Hide
import Derived.OwnWalk
import Derived.IntWalk
import Derived.Laws.OwnMore
import Derived.OpenShut
import Derived.Lib.SmallJoins
import Derived.Laws.AppendOwnNone
import Derived.Deep.RegionLaw
import Derived.Deep.RegionLawGrows
import Derived.Deep.AppendLies
import Derived.Lib.SliceRun
import Derived.BigQuiet
import Derived.Deep.Slices
import Derived.Deep.Strs
set_option linter.unusedSimpArgs false
set_option linter.unusedVariables false
theorem gle {a b : Nat} (h : Nat.ble a b = true) : a ≤ b := Nat.le_of_ble_eq_true h
/- Plain mathematics: decimals, cuts, numbers, rows, bags, pages, the first page of a text. -/
namespace Go.Proofs.YtpnbnbhifpcelaaDoor.Dec
open Go.Lib
def dd (u : Nat) : List UInt8 := if u = 0 then [] else decDigits u
theorem dd_step (u : Nat) (h : 0 < u) : dd u = dd (u / 10) ++ [UInt8.ofNat (48 + u % 10)] := by
  unfold dd
  rw [if_neg (by omega), decDigits]
  split
  · rename_i h1
    rw [if_pos (by omega), show u % 10 = u by omega]; rfl
  · rename_i h1
    rw [if_neg (by omega)]
theorem dd_pos (u : Nat) (h : 0 < u) : dd u = decDigits u := by unfold dd; rw [if_neg (by omega)]
theorem itoa_zero : itoa 0 = [48] := by unfold itoa; rw [if_neg (by omega)]; exact decDigits_one (i := 0) (by omega)
theorem itoa_pos (n : Int) (h : 0 < n) : itoa n = dd n.toNat := by unfold itoa; rw [if_neg (by omega), dd_pos _ (by omega)]
theorem itoa_neg (n : Int) (h : n < 0) : itoa n = 45 :: dd n.natAbs := by unfold itoa; rw [if_pos h, dd_pos _ (by omega)]
theorem dd_length_le (u : Nat) (h : u < 18446744073709551616) : (dd u).length ≤ 20 := by
  unfold dd
  split
  · simp
  · rw [decDigits_length]; exact nDigits_le20 u h
/-! ### Reading a numeral -/
theorem digit_toNat (d : Nat) (h : d < 10) : (UInt8.ofNat (48 + d)).toNat = 48 + d := by rw [UInt8.toNat_ofNat']; omega
theorem digits_all (u : Nat) : ∀ b ∈ decDigits u, 48 ≤ b.toNat ∧ b.toNat ≤ 57 := by
  induction u using Nat.strongRecOn with
  | ind u ih =>
    intro b hb
    rw [decDigits] at hb
    split at hb
    · rename_i h
      simp only [List.mem_singleton] at hb
      subst hb; rw [digit_toNat u h]; omega
    · rename_i h
      rcases List.mem_append.1 hb with hb | hb
      · exact ih (u / 10) (by omega) b hb
      · simp only [List.mem_singleton] at hb
        subst hb; rw [digit_toNat _ (by omega)]; omega
def parse (l : List UInt8) : Option Int := (atoi l).bind fun n => if itoa n = l ∧ -999999999 ≤ n ∧ n ≤ 999999999 then some n else none
theorem pow_le_of_nDigits : ∀ (k u : Nat), nDigits u = k + 1 → 1 ≤ k → 10 ^ k ≤ u
  | 0, _, _, h => by omega
  | k + 1, u, h, _ => by
    have hu : ¬ u < 10 := fun hs => by rw [nDigits_small hs] at h; omega
    rw [nDigits_big hu] at h
    by_cases hk : k = 0
    · subst hk; simpa using hu
    · have := pow_le_of_nDigits k (u / 10) (by omega) (by omega)
      rw [Nat.pow_succ]; omega
def dscan : List UInt8 → Nat × Nat := List.foldl (fun p b => if 48 ≤ b.toNat ∧ b.toNat ≤ 57 then (p.1 * 10 + (b.toNat - 48), p.2 + 1) else p) (0, 0)
theorem dscan_snoc (l : List UInt8) (b : UInt8) : dscan (l ++ [b]) = if 48 ≤ b.toNat ∧ b.toNat ≤ 57 then ((dscan l).1 * 10 + (b.toNat - 48), (dscan l).2 + 1) else dscan l := by simp [dscan]
theorem dscan_digits (u : Nat) : dscan (decDigits u) = (u, nDigits u) := by
  induction u using Nat.strongRecOn with
  | ind u ih =>
    rw [decDigits]
    split
    · rename_i h
      have := dscan_snoc [] (UInt8.ofNat (48 + u))
      rw [List.nil_append] at this
      rw [this, digit_toNat u h, if_pos (by omega), nDigits_small h]
      simp [dscan]
    · rename_i h
      rw [dscan_snoc, ih (u / 10) (by omega), digit_toNat _ (by omega), if_pos (by omega), nDigits_big h]
      simp only [Prod.mk.injEq, and_true]; omega
theorem dscan_minus (l : List UInt8) : dscan (45 :: l) = dscan l := by simp [dscan]
theorem dscan_itoa (n : Int) : dscan (itoa n) = (n.natAbs, nDigits n.natAbs) := by
  unfold itoa
  split
  · rw [dscan_minus, dscan_digits]
  · rw [dscan_digits, show n.natAbs = n.toNat by omega]
def signed (l : List UInt8) (n : Int) : Int := if l.head? = some 45 then -n else n
theorem itoa_length (n : Int) : (itoa n).length = nDigits n.natAbs + if n < 0 then 1 else 0 := by
  unfold itoa
  split
  · rw [List.length_cons, decDigits_length]
  · rw [decDigits_length, show n.natAbs = n.toNat by omega]; rfl
end Go.Proofs.YtpnbnbhifpcelaaDoor.Dec
namespace Go.Proofs.YtpnbnbhifpcelaaDoor.Cut
open Go.Lib
def cut (b : UInt8) : List UInt8 → List (List UInt8)
  | [] => [[]]
  | x :: l => if x = b then [] :: cut b l else match cut b l with | h :: t => (x :: h) :: t | [] => [[x]]
theorem cut_none (b : UInt8) : ∀ l : List UInt8, b ∉ l → cut b l = [l]
  | [], _ => rfl
  | x :: l, h => by
    have hx : ¬ x = b := fun e => h (by simp [e])
    have hl : b ∉ l := fun e => h (by simp [e])
    unfold cut
    rw [if_neg hx, cut_none b l hl]
theorem cut_app (b : UInt8) (q : List UInt8) : ∀ p : List UInt8, b ∉ p → cut b (p ++ b :: q) = p :: cut b q
  | [], _ => by simp [cut]
  | x :: p, h => by
    have hx : ¬ x = b := fun e => h (by simp [e])
    have hl : b ∉ p := fun e => h (by simp [e])
    have ih := cut_app b q p hl
    show cut b (x :: (p ++ b :: q)) = _
    generalize cut b q = r at ih ⊢
    unfold cut
    rw [if_neg hx, ih]
def scan (b : UInt8) (l : List UInt8) : List (List UInt8) × List UInt8 := l.foldl (fun p x => if x = b then (p.1 ++ [p.2], []) else (p.1, p.2 ++ [x])) ([], [])
def mark (b : UInt8) (l : List UInt8) (t : Nat) : Nat := t - (scan b (l.take t)).2.length
end Go.Proofs.YtpnbnbhifpcelaaDoor.Cut
namespace Go.Proofs.YtpnbnbhifpcelaaDoor.Num
/-! ### Fixed width -/
def be : Nat → Nat → List UInt8
  | 0, _ => []
  | w + 1, n => UInt8.ofNat (n / 256 ^ w) :: be w n
def bval : List UInt8 → Nat := List.foldl (fun a b => a * 256 + b.toNat) 0
def fx (w n k : Nat) : List UInt8 := (be w n).take k ++ List.replicate (w - k) 0
def encFixed (n width : Int) : List UInt8 := if 1 ≤ width ∧ width ≤ 7 ∧ 0 ≤ n ∧ n.toNat < 256 ^ width.toNat then be width.toNat n.toNat else []
def decFixedOk (l : List UInt8) (width : Int) : Bool := decide (1 ≤ width ∧ width ≤ 7 ∧ width ≤ l.length)
def decFixed (l : List UInt8) (width : Int) : Nat := if decFixedOk l width then bval (l.take width.toNat) else 0
/-! ### Varints -/
def leb : Nat → Nat → List UInt8
  | 0, n => [UInt8.ofNat n]
  | f + 1, n => if n < 128 then [UInt8.ofNat n] else UInt8.ofNat (128 + n % 128) :: leb f (n / 128)
def encVar (n : Int) : List UInt8 := if 0 ≤ n ∧ n ≤ 562949953421311 then leb 6 n.toNat else []
def v7 : List UInt8 → Nat
  | [] => 0
  | b :: l => b.toNat % 128 + 128 * v7 l
def canon : List UInt8 → Prop
  | [] => False
  | [b] => b.toNat < 128
  | b :: c :: l => 128 ≤ b.toNat ∧ v7 (c :: l) ≠ 0 ∧ canon (c :: l)
def dv (l : List UInt8) : Nat → Nat → Nat × Nat
  | 0, _ => (0, 0)
  | f + 1, k => match l[k]? with
    | none => (0, 0)
    | some b => if 128 ≤ b.toNat then dv l f (k + 1) else if b.toNat = 0 ∧ 0 < k then (0, 0) else (v7 (l.take (k + 1)), k + 1)
def decV (l : List UInt8) : Nat × Nat := dv l 7 0
def sv (l : List UInt8) : Nat → Nat → Nat × Nat
  | 0, _ => (0, 0)
  | f + 1, k => if k ≤ l.length then if leb 6 (v7 (l.take k)) = l.take k then (v7 (l.take k), k) else sv l f (k + 1) else (0, 0)
/-! ### Hexadecimal digits -/
def hexD (k : Nat) : UInt8 := UInt8.ofNat (if k < 10 then 48 + k else 87 + k)
def hexTab : ByteArray := ⟨#[48, 49, 50, 51, 52, 53, 54, 55, 56, 57, 97, 98, 99, 100, 101, 102]⟩
def hex : List UInt8 → List UInt8
  | [] => []
  | b :: l => hexD (b.toNat / 16) :: hexD (b.toNat % 16) :: hex l
def nib (b : UInt8) : Int := if 48 ≤ b.toNat ∧ b.toNat ≤ 57 then (b.toNat : Int) - 48 else if 97 ≤ b.toNat ∧ b.toNat ≤ 102 then (b.toNat : Int) - 87 else -1
def unhex : List UInt8 → Option (List UInt8)
  | [] => some []
  | [_] => none
  | a :: b :: l => if nib a < 0 ∨ nib b < 0 then none else (unhex l).map (UInt8.ofNat (16 * nib a + nib b).toNat :: ·)
end Go.Proofs.YtpnbnbhifpcelaaDoor.Num
namespace Go.Proofs.YtpnbnbhifpcelaaDoor
open Go.Lib
structure R where
  key : Int
  value : Int
  width : Int
deriving DecidableEq, Inhabited
namespace R
def ok (r : R) : Bool := decide (0 ≤ r.key ∧ r.key ≤ 9 ∧ 0 ≤ r.value ∧ r.value ≤ 99 ∧ 0 ≤ r.width ∧ r.width ≤ 3)
theorem ok_iff {r : R} : r.ok = true ↔ 0 ≤ r.key ∧ r.key ≤ 9 ∧ 0 ≤ r.value ∧ r.value ≤ 99 ∧ 0 ≤ r.width ∧ r.width ≤ 3 := by simp [ok]
def wf (r : R) : Prop := (-9223372036854775808 ≤ r.key ∧ r.key ≤ 9223372036854775807) ∧ (-9223372036854775808 ≤ r.value ∧ r.value ≤ 9223372036854775807) ∧ (-9223372036854775808 ≤ r.width ∧ r.width ≤ 9223372036854775807)
def zero : R := ⟨0, 0, 0⟩
def cost (r : R) : Int := if r.ok then 1 + r.width else 0
theorem cost_range (r : R) : 0 ≤ r.cost ∧ r.cost ≤ 4 := by
  unfold cost
  split
  · rename_i h; rw [ok_iff] at h; omega
  · omega
def cmp (a b : R) : Int :=
  if a.key < b.key then -1 else if b.key < a.key then 1 else if a.value < b.value then -1 else if b.value < a.value then 1 else if a.width < b.width then -1 else if b.width < a.width then 1 else 0
def fld (r : R) (k : Nat) : Int := if k = 0 then r.key else if k = 1 then r.value else r.width
theorem cmp_less (a b : R) (k : Nat) (hk : k < 3) (he : ∀ t, t < k → a.fld t = b.fld t) (h : a.fld k < b.fld k) : cmp a b = -1 := by
  have e0 : 0 < k → a.key = b.key := fun h0 => he 0 h0
  have e1 : 1 < k → a.value = b.value := fun h0 => he 1 h0
  unfold fld at h
  unfold cmp
  split at h
  · rw [if_pos h]
  · have := e0 (by omega)
    rw [if_neg (by omega), if_neg (by omega)]
    split at h
    · rw [if_pos h]
    · have := e1 (by omega)
      rw [if_neg (by omega), if_neg (by omega), if_pos h]
theorem cmp_more (a b : R) (k : Nat) (hk : k < 3) (he : ∀ t, t < k → a.fld t = b.fld t) (h : b.fld k < a.fld k) : cmp a b = 1 := by
  have e0 : 0 < k → a.key = b.key := fun h0 => he 0 h0
  have e1 : 1 < k → a.value = b.value := fun h0 => he 1 h0
  unfold fld at h
  unfold cmp
  split at h
  · rw [if_neg (by omega), if_pos h]
  · have := e0 (by omega)
    rw [if_neg (by omega), if_neg (by omega)]
    split at h
    · rw [if_neg (by omega), if_pos h]
    · have := e1 (by omega)
      rw [if_neg (by omega), if_neg (by omega), if_neg (by omega), if_pos h]
theorem cmp_same (a b : R) (he : ∀ t, t < 3 → a.fld t = b.fld t) : cmp a b = 0 := by
  have e0 : a.key = b.key := he 0 (by omega)
  have e1 : a.value = b.value := he 1 (by omega)
  have e2 : a.width = b.width := he 2 (by omega)
  unfold cmp
  rw [if_neg (by omega), if_neg (by omega), if_neg (by omega), if_neg (by omega), if_neg (by omega), if_neg (by omega)]
def one (x y : Int) : Int := if x < y then -1 else if y < x then 1 else 0
theorem cmp_or (a b : R) : cmp a b = if one a.key b.key ≠ 0 then one a.key b.key else if one a.value b.value ≠ 0 then one a.value b.value else one a.width b.width := by
  unfold cmp one
  (repeat' split) <;> first | rfl | omega
def fmt (r : R) : List UInt8 := if r.ok then itoa r.key ++ 46 :: (itoa r.value ++ 46 :: itoa r.width) else []
end R
def total (L : List R) : Int := (L.map R.cost).sum
theorem total_snoc (L : List R) (r : R) : total (L ++ [r]) = total L + r.cost := by simp [total]
theorem total_range (L : List R) : 0 ≤ total L ∧ total L ≤ 4 * L.length := by
  induction L with
  | nil => simp [total]
  | cons r L ih =>
    have := r.cost_range
    have e : total (r :: L) = r.cost + total L := by simp [total]
    rw [e]; simp only [List.length_cons]; omega
theorem total_take (L : List R) (k : Nat) (hk : k < L.length) : total (L.take (k + 1)) = total (L.take k) + (L.getD k R.zero).cost := by
  rw [List.take_succ_eq_append_getElem hk, total_snoc]
  simp [List.getD, hk]
def allOk (L : List R) : Bool := L.all R.ok
def okRows (L : List R) : Bool := decide (L.length ≤ 24) && allOk L
theorem allOk_take (L : List R) (k : Nat) (hk : k < L.length) : allOk (L.take (k + 1)) = (allOk (L.take k) && (L.getD k R.zero).ok) := by
  have e : L.getD k R.zero = L[k] := by simp [List.getD, hk]
  unfold allOk
  rw [e, List.take_succ_eq_append_getElem hk, List.all_append]
  simp only [List.all_cons, List.all_nil, Bool.and_true]
theorem allOk_bad (L : List R) (k : Nat) (hk : k < L.length) (h : (L.getD k R.zero).ok = false) : allOk L = false := by
  unfold allOk
  rw [List.all_eq_false]
  exact ⟨L[k], List.getElem_mem hk, by simpa [List.getD, hk] using h⟩
/-! ### The format -/
theorem itoa_digits (n : Int) (h : 0 ≤ n) : ∀ b ∈ itoa n, 48 ≤ b.toNat ∧ b.toNat ≤ 57 := by
  intro b hb
  unfold itoa at hb
  rw [if_neg (by omega)] at hb
  exact Dec.digits_all _ b hb
theorem itoa_nosign (n : Int) (h : 0 ≤ n) (c : UInt8) (hc : ¬ (48 ≤ c.toNat ∧ c.toNat ≤ 57)) : c ∉ itoa n := fun hm => hc (itoa_digits n h c hm)
theorem fmt_cut (r : R) (h : r.ok = true) : Cut.cut 46 r.fmt = [itoa r.key, itoa r.value, itoa r.width] := by
  have hr := R.ok_iff.1 h
  unfold R.fmt
  rw [if_pos h, Cut.cut_app 46 _ _ (itoa_nosign _ (by omega) 46 (by decide)), Cut.cut_app 46 _ _ (itoa_nosign _ (by omega) 46 (by decide)), Cut.cut_none 46 _ (itoa_nosign _ (by omega) 46 (by decide))]
theorem dd_small (n : Int) (h0 : 0 ≤ n) (h1 : n ≤ 99) : (itoa n).length ≤ 2 := by
  rw [Dec.itoa_length, if_neg (by omega)]
  have h : nDigits n.natAbs ≤ 2 := by
    rcases Nat.lt_or_ge 2 (nDigits n.natAbs) with hlt | hge
    · obtain ⟨k, hk⟩ : ∃ k, nDigits n.natAbs = k + 1 := ⟨nDigits n.natAbs - 1, by omega⟩
      have h1 := Dec.pow_le_of_nDigits k n.natAbs hk (by omega)
      have h2 : 10 ^ 2 ≤ 10 ^ k := Nat.pow_le_pow_right (by omega) (by omega)
      omega
    · exact hge
  omega
theorem fmt_length (r : R) : r.fmt.length ≤ 8 := by
  unfold R.fmt
  split
  · rename_i h
    have hr := R.ok_iff.1 h
    have h1 := dd_small r.key (by omega) (by omega)
    have h2 := dd_small r.value (by omega) (by omega)
    have h3 := dd_small r.width (by omega) (by omega)
    simp; omega
  · simp
def parseRow (l : List UInt8) : Option R :=
  match Cut.cut 46 l with
  | [a, b, c] => match Dec.parse a, Dec.parse b, Dec.parse c with
    | some k, some v, some w => if (R.mk k v w).ok then some ⟨k, v, w⟩ else none
    | _, _, _ => none
  | _ => none
def threeRow (l : List UInt8) : R :=
  ⟨(Dec.parse ((Cut.cut 46 l).getD 0 [])).getD 0, (Dec.parse ((Cut.cut 46 l).getD 1 [])).getD 0, (Dec.parse ((Cut.cut 46 l).getD 2 [])).getD 0⟩
/-! ### Several rows -/
def fmtRows (L : List R) : List UInt8 := if okRows L then join (L.map R.fmt) [32] else []
def readAll : List (List UInt8) → Option (List R)
  | [] => some []
  | p :: ps => match parseRow p, readAll ps with
    | some r, some L => some (r :: L)
    | _, _ => none
def parseRows (l : List UInt8) : Option (List R) := if l = [] then some [] else if (Cut.cut 32 l).length ≤ 24 then readAll (Cut.cut 32 l) else none
theorem joinTail_snoc (sep y : List UInt8) (r : List (List UInt8)) : joinTail sep (r ++ [y]) = joinTail sep r ++ (sep ++ y) := by simp [joinTail]
theorem join_snoc (xs : List (List UInt8)) (y sep : List UInt8) : join (xs ++ [y]) sep = if xs = [] then y else join xs sep ++ sep ++ y := by
  cases xs with
  | nil => simp [join_one]
  | cons x r =>
    rw [if_neg (by simp), List.cons_append, join_cons, join_cons, joinTail_snoc]
    simp
theorem join_fmt_length (L : List R) : (join (L.map R.fmt) [32]).length ≤ 9 * L.length := by
  cases L with
  | nil => simp [join_nil]
  | cons r L =>
    rw [List.map_cons, join_cons]
    have h0 := fmt_length r
    have : (joinTail [32] (L.map R.fmt)).length ≤ 9 * L.length := by
      induction L with
      | nil => simp [joinTail]
      | cons q L ih =>
        have hq := fmt_length q
        simp only [joinTail, List.map_cons, List.flatten_cons, List.length_append, List.length_cons, List.length_nil] at ih ⊢
        omega
    rw [List.length_append, List.length_cons]; omega
theorem okRows_length {L : List R} (h : okRows L = true) : L.length ≤ 24 := by
  unfold okRows at h
  rw [Bool.and_eq_true, decide_eq_true_eq] at h
  exact h.1
theorem fmtRows_length (L : List R) : (fmtRows L).length ≤ 216 := by
  unfold fmtRows
  split
  · rename_i h
    have := okRows_length h
    have := join_fmt_length L
    omega
  · simp
theorem join_next (L : List R) (k : Nat) (hk : k < L.length) : join ((L.take (k + 1)).map R.fmt) [32] = if k = 0 then (L.getD k R.zero).fmt else join ((L.take k).map R.fmt) [32] ++ [32] ++ (L.getD k R.zero).fmt := by
  have e : L.getD k R.zero = L[k] := by simp [List.getD, hk]
  rw [e, List.take_succ_eq_append_getElem hk, List.map_append, List.map_cons, List.map_nil, join_snoc]
  by_cases h : k = 0
  · subst h; simp
  · have hne : (L.take k).map R.fmt ≠ [] := by
      intro e
      have := congrArg List.length e
      rw [List.length_map, List.length_take, List.length_nil] at this
      omega
    rw [if_neg hne, if_neg h]
end Go.Proofs.YtpnbnbhifpcelaaDoor
namespace Go.Proofs.YtpnbnbhifpcelaaDoor
open Go.Lib
namespace R
theorem cmp_le (a b : R) : cmp a b ≤ 0 ↔ a.key < b.key ∨ a.key = b.key ∧ (a.value < b.value ∨ a.value = b.value ∧ a.width ≤ b.width) := by
  unfold cmp
  (repeat' split) <;> omega
theorem cmp_anti (a b : R) : cmp b a = - cmp a b := by
  unfold cmp
  (repeat' split) <;> first | rfl | omega
theorem cmp_zero (a b : R) : cmp a b = 0 ↔ a = b := by
  constructor
  · intro h
    have h1 := (cmp_le a b).1 (by omega)
    have h2 := (cmp_le b a).1 (by have := cmp_anti a b; omega)
    have e1 : a.key = b.key := by omega
    have e2 : a.value = b.value := by omega
    have e3 : a.width = b.width := by omega
    obtain ⟨a1, a2, a3⟩ := a
    obtain ⟨b1, b2, b3⟩ := b
    simp only at e1 e2 e3
    subst e1 e2 e3
    rfl
  · rintro rfl
    unfold cmp
    simp
theorem cmp_trans {a b c : R} (h : cmp a b ≤ 0) (h' : cmp b c ≤ 0) : cmp a c ≤ 0 := by
  rw [cmp_le] at *
  omega
theorem cmp_total (a b : R) : cmp a b ≤ 0 ∨ cmp b a ≤ 0 := by
  have := cmp_anti a b
  omega
def leb (a b : R) : Bool := decide (cmp a b ≤ 0)
theorem leb_iff {a b : R} : leb a b = true ↔ cmp a b ≤ 0 := by simp [leb]
def sort (L : List R) : List R := L.mergeSort leb
theorem sort_perm (L : List R) : (sort L).Perm L := List.mergeSort_perm L _
theorem sort_asc (L : List R) : (sort L).Pairwise fun a b => leb a b = true :=
  List.pairwise_mergeSort (le := leb) (fun a b c h h' => leb_iff.2 (cmp_trans (leb_iff.1 h) (leb_iff.1 h'))) (fun a b => by
    rcases cmp_total a b with h | h
    · simp [leb_iff.2 h]
    · simp [leb_iff.2 h]) L
theorem sort_unique {M L : List R} (hp : M.Perm L) (hs : M.Pairwise fun a b => leb a b = true) : M = sort L :=
  List.Perm.eq_of_pairwise (fun a b _ _ h h' => (cmp_zero a b).1 (by have h1 := leb_iff.1 h; have h2 := leb_iff.1 h'; have := cmp_anti a b; omega)) hs (sort_asc L) (hp.trans (sort_perm L).symm)
theorem sort_eq {M L : List R} (hp : M.Perm L) : sort M = sort L := sort_unique ((sort_perm M).trans hp) (sort_asc M)
theorem sort_length (L : List R) : (sort L).length = L.length := (sort_perm L).length_eq
theorem sort_nil : sort [] = [] := List.eq_nil_of_length_eq_zero (sort_length [])
theorem sort_wf {L : List R} (h : ∀ r ∈ L, r.wf) : ∀ r ∈ sort L, r.wf := fun r hr => h r ((sort_perm L).mem_iff.1 hr)
theorem sort_insert {L : List R} {i k : Nat} (hi : i < L.length) (hk : k ≤ i) (hlow : k = 0 ∨ cmp ((sort (L.take i)).getD (k - 1) zero) (L.getD i zero) ≤ 0) (hup : ∀ t, k ≤ t → t < i → 0 < cmp ((sort (L.take i)).getD t zero) (L.getD i zero)) :
    (sort (L.take i)).take k ++ (L.getD i zero :: (sort (L.take i)).drop k) = sort (L.take (i + 1)) := by
  have hlen : (sort (L.take i)).length = i := by rw [sort_length, List.length_take]; omega
  have hsnoc : L.take (i + 1) = L.take i ++ [L.getD i zero] := by
    rw [List.take_succ_eq_append_getElem hi]
    simp [List.getD, hi]
  apply sort_unique
  · rw [hsnoc]
    refine List.perm_middle.trans ?_
    rw [List.take_append_drop]
    exact ((List.Perm.cons _ (sort_perm _))).trans (List.perm_append_singleton _ _).symm
  · have hs := sort_asc (L.take i)
    have hd : ∀ x ∈ (sort (L.take i)).drop k, 0 < cmp x (L.getD i zero) := by
      intro x hx
      obtain ⟨t, ht, rfl⟩ := List.mem_iff_getElem.1 hx
      rw [List.length_drop, hlen] at ht
      have := hup (k + t) (by omega) (by omega)
      rw [List.getElem_drop]
      rwa [List.getD, List.getElem?_eq_getElem (by omega)] at this
    have htk : ∀ x ∈ (sort (L.take i)).take k, cmp x (L.getD i zero) ≤ 0 := by
      rcases hlow with rfl | hlow
      · intro x hx; simp at hx
      · intro x hx
        obtain ⟨t, ht, rfl⟩ := List.mem_iff_getElem.1 hx
        rw [List.length_take, hlen] at ht
        rw [List.getElem_take]
        rw [List.getD, List.getElem?_eq_getElem (by omega)] at hlow
        rcases Nat.lt_or_ge t (k - 1) with h | h
        · exact cmp_trans (leb_iff.1 (List.pairwise_iff_getElem.1 hs t (k - 1) (by omega) (by omega) h)) hlow
        · have : t = k - 1 := by omega
          subst this
          exact hlow
    rw [List.pairwise_append, List.pairwise_cons]
    refine ⟨hs.sublist (List.take_sublist _ _), ⟨fun x hx => leb_iff.2 ?_, hs.sublist (List.drop_sublist _ _)⟩, fun a ha b hb => leb_iff.2 ?_⟩
    · have := hd x hx
      have := cmp_anti x (L.getD i zero)
      omega
    · rcases List.mem_cons.1 hb with rfl | hb
      · exact htk a ha
      · refine cmp_trans (htk a ha) ?_
        have := hd b hb
        have := cmp_anti b (L.getD i zero)
        omega
def asc : List R → Bool
  | a :: b :: l => leb a b && asc (b :: l)
  | _ => true
theorem asc_iff : ∀ {L : List R}, asc L = true ↔ ∀ t, t + 1 < L.length → cmp (L.getD t zero) (L.getD (t + 1) zero) ≤ 0
  | [] => by simp [asc]
  | [a] => by simp [asc]
  | a :: b :: l => by
    rw [asc, Bool.and_eq_true, asc_iff, leb_iff]
    constructor
    · rintro ⟨h, h'⟩ t ht
      cases t with
      | zero => exact h
      | succ t => exact h' t (by simpa using ht)
    · intro h
      exact ⟨h 0 (by simp), fun t ht => h (t + 1) (by simpa using ht)⟩
theorem asc_bad {L : List R} (t : Nat) (ht : t + 1 < L.length) (h : 0 < cmp (L.getD t zero) (L.getD (t + 1) zero)) : asc L = false := by
  cases ha : asc L with
  | false => rfl
  | true => have := asc_iff.1 ha t ht; omega
theorem asc_pairwise : ∀ {L : List R}, asc L = true ↔ L.Pairwise fun a b => leb a b = true
  | [] => by simp [asc]
  | [a] => by simp [asc]
  | a :: b :: l => by
    rw [asc, Bool.and_eq_true, asc_pairwise, List.pairwise_cons (a := a)]
    constructor
    · rintro ⟨h, h'⟩
      refine ⟨fun x hx => ?_, h'⟩
      rcases List.mem_cons.1 hx with rfl | hx
      · exact h
      · exact leb_iff.2 (cmp_trans (leb_iff.1 h) (leb_iff.1 ((List.pairwise_cons.1 h').1 x hx)))
    · rintro ⟨h, h'⟩
      exact ⟨h b (by simp), h'⟩
def eqBags (a b : List R) : Bool := decide (sort a = sort b)
theorem eqBags_iff {a b : List R} : eqBags a b = true ↔ ∀ r, a.count r = b.count r := by
  unfold eqBags
  rw [decide_eq_true_iff, ← List.perm_iff_count]
  exact ⟨fun h => (sort_perm a).symm.trans (h ▸ sort_perm b), sort_eq⟩
def difTo (x b : List R) : Nat → List R
  | 0 => []
  | k + 1 => if b.count (x.getD k zero) < (x.take (k + 1)).count (x.getD k zero) then difTo x b k ++ [x.getD k zero] else difTo x b k
def dif (a b : List R) : List R := difTo (sort a) b (sort a).length
def distTo (x : List R) : Nat → List R
  | 0 => []
  | k + 1 => if k = 0 ∨ x.getD k zero ≠ x.getD (k - 1) zero then distTo x k ++ [x.getD k zero] else distTo x k
def dist (L : List R) : List R := distTo (sort L) (sort L).length
end R
end Go.Proofs.YtpnbnbhifpcelaaDoor
namespace Go.Proofs.YtpnbnbhifpcelaaDoor.R
open Go.Lib
def pageOk (p : List R) : Bool := okRows p && decide (1 ≤ total p ∧ total p ≤ 8)
def packStep (s : List (List R) × List R) (r : R) : List (List R) × List R := if 8 < total s.2 + r.cost then (s.1 ++ [s.2], [r]) else (s.1, s.2 ++ [r])
def packSt (L : List R) : List (List R) × List R := L.foldl packStep ([], [])
def packEnd (s : List (List R) × List R) : List (List R) := if s.2 = [] then s.1 else s.1 ++ [s.2]
def pack (L : List R) : List (List R) := if okRows L then packEnd (packSt L) else []
theorem packSt_snoc (L : List R) (r : R) : packSt (L ++ [r]) = packStep (packSt L) r := by simp [packSt]
theorem packSt_next (L : List R) (k : Nat) (hk : k < L.length) : packSt (L.take (k + 1)) = packStep (packSt (L.take k)) (L.getD k R.zero) := by
  have e : L.getD k R.zero = L[k] := by simp [List.getD, hk]
  rw [e, List.take_succ_eq_append_getElem hk, packSt_snoc]
theorem cost_ok {r : R} (h : r.ok = true) : 1 ≤ r.cost := by
  unfold cost
  rw [if_pos h]
  have := (ok_iff.1 h).2.2.2.2.1
  omega
theorem total_pos {p : List R} (h : allOk p = true) (hne : p ≠ []) : 1 ≤ total p := by
  cases p with
  | nil => exact absurd rfl hne
  | cons r p =>
    unfold allOk at h
    rw [List.all_cons, Bool.and_eq_true] at h
    have h1 := cost_ok h.1
    have h2 := (total_range p).1
    have : total (r :: p) = r.cost + total p := by simp [total]
    omega
structure Packing (L : List R) (s : List (List R) × List R) : Prop where
  flat : s.1.flatten ++ s.2 = L
  full : ∀ p ∈ s.1, p ≠ [] ∧ total p ≤ 8
  fit : total s.2 ≤ 8
  none : s.2 = [] → L = []
  next : ∀ t, t + 1 < s.1.length → 8 < total (s.1.getD t []) + ((s.1.getD (t + 1) []).getD 0 R.zero).cost
  last : ∀ t, t + 1 = s.1.length → 8 < total (s.1.getD t []) + (s.2.getD 0 R.zero).cost
/-! ### The string format -/
def allPages (P : List (List R)) : Bool := P.all pageOk
def pageTxt (p : List R) : List UInt8 := 91 :: (fmtRows p ++ [93])
def fmtPages (P : List (List R)) : List UInt8 := if allPages P then P.flatMap pageTxt else []
def readPage : List UInt8 → Option (List R)
  | 91 :: q => parseRows q
  | _ => none
def readPages : List (List UInt8) → Option (List (List R))
  | [] => some []
  | p :: ps => match readPage p, readPages ps with
    | some r, some L => some (r :: L)
    | _, _ => none
def parsePages (l : List UInt8) : Option (List (List R)) :=
  match readPages (Cut.cut 93 l).dropLast with
  | some P => if allPages P && decide (fmtPages P = l) then some P else none
  | none => none
end Go.Proofs.YtpnbnbhifpcelaaDoor.R
namespace Go.Proofs.YtpnbnbhifpcelaaDoor
namespace R
structure First (L : List R) (i : Nat) : Prop where
  le : i ≤ L.length
  fits : ∀ j, j < i → ¬ 8 < total (L.take j) + (L.getD j zero).cost
  over : i < L.length → 8 < total (L.take i) + (L.getD i zero).cost
theorem First.pos {L : List R} {i : Nat} (h : First L i) (hL : 0 < L.length) : 1 ≤ i := by
  rcases Nat.eq_zero_or_pos i with h0 | h0
  · subst h0
    have h1 := h.over hL
    have h2 := (L.getD 0 zero).cost_range
    have h3 : total (L.take 0) = 0 := rfl
    omega
  · exact h0
theorem fold_pre (A : List (List R)) (s : List (List R) × List R) (L : List R) : L.foldl packStep (A ++ s.1, s.2) = (A ++ (L.foldl packStep s).1, (L.foldl packStep s).2) := by
  induction L generalizing s with
  | nil => rfl
  | cons r L ih =>
    rw [List.foldl_cons, List.foldl_cons, ← ih]
    congr 1
    unfold packStep
    by_cases h : 8 < total s.2 + r.cost
    · rw [if_pos h, if_pos h]; simp
    · rw [if_neg h, if_neg h]
theorem First.st {L : List R} {i : Nat} (h : First L i) : ∀ j, j ≤ i → packSt (L.take j) = ([], L.take j) := by
  intro j
  induction j with
  | zero => intro _; rfl
  | succ j ih =>
    intro hj
    have hl := h.le
    rw [packSt_next L j (by omega), ih (by omega)]
    unfold packStep
    rw [if_neg (h.fits j (by omega)), List.take_succ_eq_append_getElem (by omega : j < L.length)]
    simp [List.getD, (by omega : j < L.length)]
theorem First.pack {L : List R} {i : Nat} (h : First L i) (hL : 0 < L.length) : packEnd (packSt L) = L.take i :: packEnd (packSt (L.drop i)) := by
  have hp := h.pos hL
  have hle := h.le
  have hs := h.st i (Nat.le_refl _)
  rcases Nat.lt_or_ge i L.length with hi | hi
  · have h1 : packSt L = (L.drop i).foldl packStep ([], L.take i) := by
      conv => lhs; rw [← List.take_append_drop i L]
      unfold packSt at hs ⊢
      rw [List.foldl_append, hs]
    have hov := h.over hi
    have hg : L.getD i zero = L[i] := by simp [List.getD, hi]
    rw [hg] at hov
    have hc := L[i].cost_range
    have e1 : packStep ([], L.take i) L[i] = ([L.take i] ++ ([] : List (List R)), [L[i]]) := by
      unfold packStep
      rw [if_pos hov]
      simp
    have e2 : packStep ([], []) L[i] = ([], [L[i]]) := by
      unfold packStep
      rw [if_neg (by show ¬ 8 < total [] + _; have : total [] = 0 := rfl; omega)]
      rfl
    have h2 : packSt (L.drop i) = (L.drop (i + 1)).foldl packStep ([], [L[i]]) := by
      unfold packSt
      rw [List.drop_eq_getElem_cons hi, List.foldl_cons, e2]
    rw [h1, List.drop_eq_getElem_cons hi, List.foldl_cons, e1, fold_pre [L.take i] ([], [L[i]]), ← List.drop_eq_getElem_cons hi, h2]
    unfold packEnd
    by_cases hn : ((L.drop (i + 1)).foldl packStep ([], [L[i]])).2 = []
    · rw [if_pos hn, if_pos hn]; rfl
    · rw [if_neg hn, if_neg hn]; simp
  · have he : i = L.length := by omega
    subst he
    rw [List.take_length, List.drop_length]
    rw [List.take_length] at hs
    rw [hs]
    unfold packEnd
    rw [if_neg (by simpa using List.ne_nil_of_length_pos hL)]
    rfl
end R
end Go.Proofs.YtpnbnbhifpcelaaDoor
namespace Go.Proofs.YtpnbnbhifpcelaaDoor
namespace R
end R
end Go.Proofs.YtpnbnbhifpcelaaDoor
/- Runs by replacement selection, as plain mathematics: the first least row, the steps, and what holds of the runs; no function of program or reference is walked here. -/
namespace Go.Proofs.YtpnbnbhifpcelaaDoor
open Go.RowKit
set_option linter.unusedVariables false
namespace Runs
/-! ### The first least row -/
def minAt (l : List R) : Nat → Nat
  | 0 => 0
  | t + 1 => match l[t]?, l[minAt l t]? with
    | some c, some d => if R.cmp c d < 0 then t else minAt l t
    | _, _ => minAt l t
def idxMin (l : List R) : Int := if l.length = 0 then -1 else (minAt l l.length : Nat)
theorem getlt {α : Type} {l : List α} {k : Nat} {x : α} (h : l[k]? = some x) : k < l.length := (List.getElem?_eq_some_iff.1 h).1
theorem minAt_le (l : List R) : ∀ t, minAt l t ≤ t - 1
  | 0 => Nat.le_refl 0
  | t + 1 => by
    have := minAt_le l t
    rw [minAt]
    split
    · split <;> omega
    · omega
theorem minAt_lt {l : List R} {t : Nat} (h : 0 < t) : minAt l t < t := by have := minAt_le l t; omega
theorem minAt_step {l : List R} {t : Nat} {c d : R} (hc : l[t]? = some c) (hd : l[minAt l t]? = some d) : minAt l (t + 1) = if R.cmp c d < 0 then t else minAt l t := by rw [minAt, hc, hd]
theorem minAt_one (l : List R) : minAt l 1 = 0 := by
  have := minAt_le l 1
  omega
theorem minAt_least {l : List R} : ∀ {t : Nat} {d : R}, t ≤ l.length → 0 < t → l[minAt l t]? = some d → ∀ u x, u < t → l[u]? = some x → R.cmp d x ≤ 0
  | t + 1, d, ht, _, hd, u, x, hu, hx => by
    obtain ⟨c, hc⟩ : ∃ c, l[t]? = some c := ⟨_, List.getElem?_eq_getElem (by omega)⟩
    rcases Nat.eq_zero_or_pos t with h0 | h0
    · subst h0
      have hu0 : u = 0 := by omega
      subst hu0
      rw [minAt_one, hx] at hd
      cases hd
      rw [(R.cmp_zero _ _).2 rfl]; exact Int.le_refl _
    · obtain ⟨e, he⟩ : ∃ e, l[minAt l t]? = some e := ⟨_, List.getElem?_eq_getElem (by have := minAt_lt (l := l) h0; omega)⟩
      have ih := minAt_least (t := t) (by omega) h0 he
      rw [minAt_step hc he] at hd
      by_cases hlt : R.cmp c e < 0
      · rw [if_pos hlt, hc] at hd
        cases hd
        rcases Nat.lt_or_ge u t with h | h
        · exact R.cmp_trans (Int.le_of_lt hlt) (ih u x h hx)
        · have e1 : u = t := by omega
          subst e1
          rw [hc] at hx
          cases hx
          rw [(R.cmp_zero _ _).2 rfl]; exact Int.le_refl _
      · rw [if_neg hlt, he] at hd
        cases hd
        rcases Nat.lt_or_ge u t with h | h
        · exact ih u x h hx
        · have e1 : u = t := by omega
          subst e1
          rw [hc] at hx
          cases hx
          have := R.cmp_anti x d
          omega
/-! ### The steps -/
structure St where
  i : Nat
  out : List (List R)
  cur : List R
  heap : List R
  next : List R
def init : St := ⟨0, [], [], [], []⟩
def room (mem : Int) (s : St) (r : R) : Bool := decide (total s.heap + total s.next + r.cost ≤ mem)
def later (cur : List R) (r : R) : Bool := match cur.getLast? with
  | some d => decide (R.cmp r d < 0)
  | none => false
def reads (l : List R) (mem : Int) (s : St) : Bool := match l[s.i]? with
  | some r => room mem s r
  | none => false
def take1 (s : St) (r : R) : St := if later s.cur r = true then ⟨s.i + 1, s.out, s.cur, s.heap, s.next ++ [r]⟩ else ⟨s.i + 1, s.out, s.cur, s.heap ++ [r], s.next⟩
def turn (s : St) : St := ⟨s.i, s.out ++ [s.cur], [], s.next, []⟩
def give (s : St) (r : R) : St := ⟨s.i, s.out, s.cur ++ [r], s.heap.eraseIdx (minAt s.heap s.heap.length), s.next⟩
def step (l : List R) (mem : Int) (s : St) : St := match l[s.i]? with
  | some r => if room mem s r = true then take1 s r else flow s
  | none => flow s
where flow (s : St) : St := match s.heap[minAt s.heap s.heap.length]? with
  | some r => give s r
  | none => turn s
def done (l : List R) (s : St) : Bool := decide (l.length ≤ s.i ∧ s.heap.length + s.next.length = 0)
def sts (l : List R) (mem : Int) : Nat → St
  | 0 => init
  | t + 1 => if done l (sts l mem t) = true then sts l mem t else step l mem (sts l mem t)
def fin (s : St) : List (List R) := if s.cur.length = 0 then s.out else s.out ++ [s.cur]
def isMem (m : Int) : Bool := decide (8 ≤ m ∧ m ≤ 60)
def can (l : List R) (m : Int) : Bool := okRows l && isMem m
def build (l : List R) (m : Int) : List (List R) := if can l m = true then fin (sts l m (3 * l.length)) else []
theorem step_read {l : List R} {m : Int} {s : St} {r : R} (h : l[s.i]? = some r) (hr : room m s r = true) : step l m s = take1 s r := by unfold step; rw [h]; exact if_pos hr
theorem step_flow {l : List R} {m : Int} {s : St} (h : reads l m s = false) : step l m s = step.flow s := by
  unfold step
  unfold reads at h
  split
  · rename_i r hr
    rw [hr] at h
    exact if_neg (by rw [show room m s r = false from h]; decide)
  · rfl
theorem flow_turn {s : St} (h : s.heap.length = 0) : step.flow s = turn s := by
  unfold step.flow
  rw [List.getElem?_eq_none (by omega)]
theorem flow_give {s : St} {r : R} (h : s.heap[minAt s.heap s.heap.length]? = some r) : step.flow s = give s r := by
  unfold step.flow
  rw [h]
/-! ### It ends -/
def mu (l : List R) (s : St) : Nat := 3 * (l.length - s.i) + 2 * s.next.length + s.heap.length
theorem cost_ok {r : R} (h : r.ok = true) : 1 ≤ r.cost ∧ r.cost ≤ 4 := by
  unfold R.cost
  rw [if_pos h]
  unfold R.ok at h
  rw [decide_eq_true_eq] at h
  omega
theorem room_empty {l : List R} {m : Int} {s : St} {r : R} (hl : okRows l = true) (hm : isMem m = true) (hr : l[s.i]? = some r) (h1 : s.heap.length = 0) (h2 : s.next.length = 0) : room m s r = true := by
  have e1 := List.eq_nil_of_length_eq_zero h1
  have e2 := List.eq_nil_of_length_eq_zero h2
  unfold okRows allOk at hl
  rw [Bool.and_eq_true, List.all_eq_true] at hl
  have := cost_ok (hl.2 r (List.mem_of_getElem? hr))
  unfold isMem at hm
  rw [decide_eq_true_eq] at hm
  unfold room
  rw [e1, e2, decide_eq_true_eq]
  have : total [] = 0 := rfl
  omega
theorem mu_step {l : List R} {m : Int} {s : St} (hl : okRows l = true) (hm : isMem m = true) (hd : done l s = false) : mu l (step l m s) < mu l s := by
  unfold done at hd
  rw [decide_eq_false_iff_not] at hd
  cases hrd : reads l m s with
  | true =>
    unfold reads at hrd
    split at hrd
    · rename_i r hr
      have hi := getlt hr
      rw [step_read hr hrd]
      unfold take1 mu
      split <;> simp only [List.length_append, List.length_cons, List.length_nil] <;> omega
    · cases hrd
  | false =>
    rw [step_flow hrd]
    rcases Nat.eq_zero_or_pos s.heap.length with h0 | h0
    · rw [flow_turn h0]
      have hn : 0 < s.next.length := by
        rcases Nat.eq_zero_or_pos s.next.length with h1 | h1
        · exfalso
          have hi : s.i < l.length := by omega
          unfold reads at hrd
          rw [List.getElem?_eq_getElem hi] at hrd
          have hrd' : room m s l[s.i] = false := hrd
          have := room_empty (s := s) hl hm (List.getElem?_eq_getElem hi) h0 h1
          rw [this] at hrd'
          cases hrd'
        · exact h1
      unfold turn mu
      simp only [List.length_nil]
      omega
    · have hk := minAt_lt (l := s.heap) h0
      rw [flow_give (List.getElem?_eq_getElem hk)]
      unfold give mu
      simp only [List.length_eraseIdx_of_lt hk]
      omega
theorem sts_done {l : List R} {m : Int} {t : Nat} (h : done l (sts l m t) = true) : ∀ n, t ≤ n → sts l m n = sts l m t
  | 0, hn => by have e : t = 0 := by omega
                subst e; rfl
  | n + 1, hn => by
    rcases Nat.lt_or_ge n t with h1 | h1
    · have e : t = n + 1 := by omega
      subst e; rfl
    · have ih := sts_done h n h1
      rw [sts, ih, if_pos h]
theorem sts_mu {l : List R} {m : Int} (hl : okRows l = true) (hm : isMem m = true) : ∀ t, (∀ u, u < t → done l (sts l m u) = false) → mu l (sts l m t) + t ≤ 3 * l.length
  | 0, _ => by unfold sts init mu; simp
  | t + 1, h => by
    have ih := sts_mu hl hm t fun u hu => h u (by omega)
    have hd := h t (Nat.lt_succ_self t)
    have := mu_step (m := m) hl hm hd
    rw [sts, if_neg (by rw [hd]; decide)]
    omega
theorem sts_end {l : List R} {m : Int} {t : Nat} (hl : okRows l = true) (hm : isMem m = true) (hn : ∀ u, u < t → done l (sts l m u) = false) (hd : done l (sts l m t) = true) : sts l m (3 * l.length) = sts l m t := by
  have := sts_mu hl hm t hn
  exact sts_done hd _ (by omega)
theorem sts_all {l : List R} {m : Int} (hl : okRows l = true) (hm : isMem m = true) : done l (sts l m (3 * l.length)) = true := by
  cases hd : done l (sts l m (3 * l.length)) with
  | true => rfl
  | false =>
    exfalso
    have hn : ∀ u, u < 3 * l.length + 1 → done l (sts l m u) = false := fun u hu => by
      cases hu' : done l (sts l m u) with
      | false => rfl
      | true =>
        rw [sts_done hu' _ (by omega), hu'] at hd
        cases hd
    have := sts_mu hl hm _ hn
    omega
end Runs
end Go.Proofs.YtpnbnbhifpcelaaDoor
/- What holds of runs by replacement selection, as plain mathematics; no function of program or reference is walked here. -/
namespace Go.Proofs.YtpnbnbhifpcelaaDoor
open Go.RowKit
set_option linter.unusedVariables false
namespace Runs
theorem total_app (a b : List R) : total (a ++ b) = total a + total b := by simp [total]
theorem total_one (r : R) : total [r] = r.cost := by simp [total]
theorem total_cons (r : R) (l : List R) : total (r :: l) = r.cost + total l := by simp [total]
theorem total_perm {a b : List R} (h : a.Perm b) : total a = total b := by
  induction h with
  | nil => rfl
  | cons x _ ih => rw [total_cons, total_cons, ih]
  | swap x y l => rw [total_cons, total_cons, total_cons, total_cons]; omega
  | trans _ _ h1 h2 => exact h1.trans h2
theorem total_pos (l : List R) : 0 ≤ total l := (total_range l).1
structure Inv (l : List R) (m : Int) (s : St) : Prop where
  ile : s.i ≤ l.length
  perm : (s.out.flatten ++ (s.cur ++ (s.heap ++ s.next))).Perm (l.take s.i)
  start : s.cur.length = 0 → s.next.length = 0
  full : 0 < s.cur.length → m - 4 < total s.cur + total s.heap ∨ (s.i = l.length ∧ s.next.length = 0)
  asc : s.cur.Pairwise fun a b => R.cmp a b ≤ 0
  low : ∀ a ∈ s.cur, ∀ b ∈ s.heap, R.cmp a b ≤ 0
  runs : ∀ p ∈ s.out, 0 < p.length ∧ (p.Pairwise fun a b => R.cmp a b ≤ 0) ∧ m - 4 < total p
  fits : total l ≤ m → s.out = [] ∧ s.next.length = 0 ∧ (s.i < l.length → s.cur.length = 0)
theorem inv_init (l : List R) (m : Int) : Inv l m init := ⟨Nat.zero_le _, by simp [init], fun _ => rfl, fun h => absurd h (Nat.lt_irrefl 0), List.Pairwise.nil, fun a ha => by simp [init] at ha, fun p hp => by simp [init] at hp, fun _ => ⟨rfl, rfl, fun _ => rfl⟩⟩
theorem take_next {l : List R} {i : Nat} {r : R} (h : l[i]? = some r) : l.take (i + 1) = l.take i ++ [r] := by
  have hl := getlt h
  rw [List.take_succ_eq_append_getElem hl]
  rw [List.getElem?_eq_getElem hl] at h
  rw [Option.some.inj h]
theorem later_cur {cur : List R} {r : R} (h : later cur r = true) : 0 < cur.length := by
  unfold later at h
  cases cur with
  | nil => simp at h
  | cons x c => simp
theorem not_later {cur : List R} {r : R} (h : later cur r = false) (ha : cur.Pairwise fun a b => R.cmp a b ≤ 0) : ∀ a ∈ cur, R.cmp a r ≤ 0 := by
  intro a hm
  unfold later at h
  split at h
  · rename_i d hd
    rw [decide_eq_false_iff_not] at h
    have h1 := R.cmp_anti r d
    have hdr : R.cmp d r ≤ 0 := by omega
    obtain ⟨ys, hys⟩ := List.getLast?_eq_some_iff.1 hd
    rw [hys] at ha hm
    rcases List.mem_append.1 hm with h2 | h2
    · exact R.cmp_trans ((List.pairwise_append.1 ha).2.2 a h2 d (List.mem_singleton_self d)) hdr
    · rw [List.mem_singleton.1 h2]; exact hdr
  · rename_i hd
    rw [List.getLast?_eq_none_iff] at hd
    rw [hd] at hm
    simp at hm
theorem erase_perm {h : List R} {k : Nat} {r : R} (hr : h[k]? = some r) : (r :: h.eraseIdx k).Perm h := by
  have hl := getlt hr
  rw [List.getElem?_eq_getElem hl] at hr
  have e : h[k] = r := Option.some.inj hr
  rw [List.eraseIdx_eq_take_drop_succ]
  have e2 : h = h.take k ++ r :: h.drop (k + 1) := by
    conv => lhs; rw [← List.take_append_drop k h, List.drop_eq_getElem_cons hl, e]
  exact List.Perm.trans List.perm_middle.symm (e2 ▸ List.Perm.refl _)
theorem inv_step {l : List R} {m : Int} {s : St} (hl : okRows l = true) (hm : isMem m = true) (hd : done l s = false) (h : Inv l m s) : Inv l m (step l m s) := by
  unfold done at hd
  rw [decide_eq_false_iff_not] at hd
  have hcost : ∀ (i : Nat) (r : R), l[i]? = some r → 1 ≤ r.cost ∧ r.cost ≤ 4 := fun i r hr => by
    have hl' := hl
    unfold okRows allOk at hl'
    rw [Bool.and_eq_true, List.all_eq_true] at hl'
    exact cost_ok (hl'.2 r (List.mem_of_getElem? hr))
  cases hrd : reads l m s with
  | true =>
    unfold reads at hrd
    split at hrd
    · rename_i r hr
      have hi := getlt hr
      have hc := hcost _ _ hr
      rw [step_read hr hrd]
      unfold take1
      cases hlt : later s.cur r with
      | true =>
        rw [if_pos rfl]
        refine ⟨hi, ?_, fun h0 => ?_, fun h0 => ?_, h.asc, h.low, h.runs, fun hf => ?_⟩
        · show (s.out.flatten ++ (s.cur ++ (s.heap ++ (s.next ++ [r])))).Perm (l.take (s.i + 1))
          rw [take_next hr]
          have := h.perm.append_right [r]
          simpa only [List.append_assoc] using this
        · have := later_cur hlt
          have h0' : s.cur.length = 0 := h0
          omega
        · rcases h.full h0 with h1 | h1
          · exact .inl h1
          · omega
        · have := later_cur hlt
          have := (h.fits hf).2.2 hi
          omega
      | false =>
        rw [if_neg (by decide)]
        refine ⟨hi, ?_, h.start, fun h0 => ?_, h.asc, fun a ha b hb => ?_, h.runs, fun hf => ?_⟩
        · show (s.out.flatten ++ (s.cur ++ ((s.heap ++ [r]) ++ s.next))).Perm (l.take (s.i + 1))
          rw [take_next hr]
          refine List.Perm.trans ?_ (h.perm.append_right [r])
          rw [List.append_assoc, List.append_assoc, List.append_assoc]
          refine List.Perm.append_left _ (List.Perm.append_left _ ?_)
          rw [List.append_assoc]
          exact List.Perm.append_left _ List.perm_append_comm
        · show m - 4 < total s.cur + total (s.heap ++ [r]) ∨ _
          rw [total_app, total_one]
          rcases h.full h0 with h1 | h1
          · exact .inl (by omega)
          · omega
        · rcases List.mem_append.1 hb with h1 | h1
          · exact h.low a ha b h1
          · rw [List.mem_singleton.1 h1]
            exact not_later hlt h.asc a ha
        · obtain ⟨f1, f2, f3⟩ := h.fits hf
          exact ⟨f1, f2, fun _ => f3 hi⟩
    · cases hrd
  | false =>
    have hno : ∀ r, l[s.i]? = some r → m < total s.heap + total s.next + r.cost := fun r hr => by
      unfold reads room at hrd
      rw [hr] at hrd
      simp only [decide_eq_false_iff_not] at hrd
      omega
    have hnf : total l ≤ m → ¬ s.i < l.length := fun hf hi => by
      obtain ⟨r, hr⟩ : ∃ r, l[s.i]? = some r := ⟨_, List.getElem?_eq_getElem hi⟩
      have h1 := hno r hr
      have h2 := total_perm h.perm
      have h3 : total l = total (l.take (s.i + 1)) + total (l.drop (s.i + 1)) := by rw [← total_app, List.take_append_drop]
      rw [take_next hr, total_app, total_one] at h3
      rw [total_app, total_app, total_app] at h2
      have p1 := total_pos s.out.flatten
      have p2 := total_pos s.cur
      have p3 := total_pos (l.drop (s.i + 1))
      omega
    rw [step_flow hrd]
    rcases Nat.eq_zero_or_pos s.heap.length with h0 | h0
    · rw [flow_turn h0]
      have e0 := List.eq_nil_of_length_eq_zero h0
      have hn : 0 < s.next.length := by
        rcases Nat.eq_zero_or_pos s.next.length with h1 | h1
        · exfalso
          have hi : s.i < l.length := by omega
          have := room_empty (s := s) hl hm (List.getElem?_eq_getElem hi) h0 h1
          unfold room at this
          rw [decide_eq_true_eq] at this
          have := hno _ (List.getElem?_eq_getElem hi)
          omega
        · exact h1
      have hc : 0 < s.cur.length := by
        rcases Nat.eq_zero_or_pos s.cur.length with h1 | h1
        · have := h.start h1; omega
        · exact h1
      unfold turn
      refine ⟨h.ile, ?_, fun _ => rfl, fun h1 => absurd h1 (Nat.lt_irrefl 0), List.Pairwise.nil, fun a ha => by simp at ha, fun p hp => ?_, fun hf => ?_⟩
      · show ((s.out ++ [s.cur]).flatten ++ ([] ++ (s.next ++ []))).Perm (l.take s.i)
        have := h.perm
        rw [e0] at this
        simpa [List.flatten_append, List.append_assoc] using this
      · rcases List.mem_append.1 hp with h1 | h1
        · exact h.runs p h1
        · rw [List.mem_singleton.1 h1]
          refine ⟨hc, h.asc, ?_⟩
          rcases h.full hc with h2 | h2
          · rw [e0, show total [] = 0 from rfl] at h2; omega
          · omega
      · have := (h.fits hf).2.1
        omega
    · have hk := minAt_lt (l := s.heap) h0
      obtain ⟨r, hr⟩ : ∃ r, s.heap[minAt s.heap s.heap.length]? = some r := ⟨_, List.getElem?_eq_getElem hk⟩
      rw [flow_give hr]
      have hp := erase_perm hr
      have ht := total_perm hp
      rw [total_cons] at ht
      have hrm : r ∈ s.heap := List.mem_of_getElem? hr
      unfold give
      refine ⟨h.ile, ?_, fun h1 => by simp at h1, fun _ => ?_, ?_, fun a ha b hb => ?_, h.runs, fun hf => ?_⟩
      · show (s.out.flatten ++ ((s.cur ++ [r]) ++ (s.heap.eraseIdx _ ++ s.next))).Perm (l.take s.i)
        refine List.Perm.trans (List.Perm.append_left _ ?_) h.perm
        rw [List.append_assoc]
        refine List.Perm.append_left _ ?_
        have := hp.append_right s.next
        simpa using this
      · show m - 4 < total (s.cur ++ [r]) + total (s.heap.eraseIdx _) ∨ (s.i = l.length ∧ s.next.length = 0)
        rw [total_app, total_one]
        rcases Nat.eq_zero_or_pos s.cur.length with h1 | h1
        · have hn := h.start h1
          have e1 := List.eq_nil_of_length_eq_zero h1
          have e2 := List.eq_nil_of_length_eq_zero hn
          rcases Nat.lt_or_ge s.i l.length with hi | hi
          · obtain ⟨x, hx⟩ : ∃ x, l[s.i]? = some x := ⟨_, List.getElem?_eq_getElem hi⟩
            have h2 := hno x hx
            have h3 := hcost _ _ hx
            rw [e2, show total [] = 0 from rfl] at h2
            rw [e1, show total [] = 0 from rfl]
            exact .inl (by omega)
          · exact .inr ⟨by have := h.ile; omega, hn⟩
        · rcases h.full h1 with h2 | h2
          · exact .inl (by omega)
          · exact .inr h2
      · refine List.pairwise_append.2 ⟨h.asc, List.pairwise_singleton _ _, fun a ha b hb => ?_⟩
        rw [List.mem_singleton.1 hb]
        exact h.low a ha r hrm
      · have hb' : b ∈ s.heap := List.mem_of_mem_eraseIdx hb
        rcases List.mem_append.1 ha with h1 | h1
        · exact h.low a h1 b hb'
        · rw [List.mem_singleton.1 h1]
          obtain ⟨u, hu, rfl⟩ := List.mem_iff_getElem.1 hb'
          exact minAt_least (Nat.le_refl _) h0 hr u _ hu (List.getElem?_eq_getElem hu)
      · obtain ⟨f1, f2, f3⟩ := h.fits hf
        exact ⟨f1, f2, fun hi => absurd hi (hnf hf)⟩
theorem inv_sts {l : List R} {m : Int} (hl : okRows l = true) (hm : isMem m = true) : ∀ t, Inv l m (sts l m t)
  | 0 => inv_init l m
  | t + 1 => by
    rw [sts]
    split
    · exact inv_sts hl hm t
    · rename_i h
      exact inv_step hl hm (by simpa using h) (inv_sts hl hm t)
def Going (l : List R) (m : Int) (s : St) : Prop := ∃ t, s = sts l m t ∧ ∀ u, u < t → done l (sts l m u) = false
theorem going_init (l : List R) (m : Int) : Going l m init := ⟨0, rfl, fun u hu => absurd hu (Nat.not_lt_zero u)⟩
theorem going_next {l : List R} {m : Int} {s s' : St} (hl : okRows l = true) (hm : isMem m = true) (h : Going l m s) (hd : done l s = false) (he : step l m s = s') : Going l m s' ∧ mu l s' < mu l s := by
  obtain ⟨t, rfl, hn⟩ := h
  refine ⟨⟨t + 1, by rw [sts, if_neg (by rw [hd]; decide), he], fun u hu => ?_⟩, by rw [← he]; exact mu_step hl hm hd⟩
  rcases Nat.lt_or_ge u t with h | h
  · exact hn u h
  · have e : u = t := by omega
    rw [e]; exact hd
theorem going_end {l : List R} {m : Int} {s : St} (hc : can l m = true) (h : Going l m s) (hd : done l s = true) : build l m = fin s := by
  have hc' := hc
  unfold can at hc'
  rw [Bool.and_eq_true] at hc'
  obtain ⟨t, rfl, hn⟩ := h
  unfold build
  rw [if_pos hc, sts_end hc'.1 hc'.2 hn hd]
theorem going_inv {l : List R} {m : Int} {s : St} (hc : can l m = true) (h : Going l m s) : Inv l m s := by
  unfold can at hc
  rw [Bool.and_eq_true] at hc
  obtain ⟨t, rfl, -⟩ := h
  exact inv_sts hc.1 hc.2 t
theorem build_facts {l : List R} {m : Int} (h : can l m = true) : (build l m).flatten.Perm l ∧ (∀ p ∈ build l m, 0 < p.length ∧ p.Pairwise fun a b => R.cmp a b ≤ 0) ∧ (∀ i p, i + 1 < (build l m).length → (build l m)[i]? = some p → m - 4 < total p) ∧ (total l ≤ m → (build l m).length ≤ 1) := by
  have h' := h
  unfold can at h'
  rw [Bool.and_eq_true] at h'
  obtain ⟨hl, hm⟩ := h'
  have hI := inv_sts hl hm (3 * l.length)
  have hd := sts_all hl hm
  unfold build
  rw [if_pos h]
  generalize sts l m (3 * l.length) = s at hI hd
  unfold done at hd
  rw [decide_eq_true_eq] at hd
  have e1 : s.heap = [] := List.eq_nil_of_length_eq_zero (by omega)
  have e2 : s.next = [] := List.eq_nil_of_length_eq_zero (by omega)
  have hp := hI.perm
  rw [e1, e2, List.take_of_length_le hd.1, List.append_nil, List.append_nil] at hp
  unfold fin
  by_cases hc : s.cur.length = 0
  · rw [if_pos hc]
    have e3 := List.eq_nil_of_length_eq_zero hc
    rw [e3, List.append_nil] at hp
    exact ⟨hp, fun p hm' => ⟨(hI.runs p hm').1, (hI.runs p hm').2.1⟩, fun i p _ hi => (hI.runs p (List.mem_of_getElem? hi)).2.2, fun hf => by rw [(hI.fits hf).1]; simp⟩
  · rw [if_neg hc]
    refine ⟨by rw [List.flatten_append]; simpa using hp, fun p hm' => ?_, fun i p hi hpi => ?_, fun hf => by rw [(hI.fits hf).1]; simp⟩
    · rcases List.mem_append.1 hm' with h1 | h1
      · exact ⟨(hI.runs p h1).1, (hI.runs p h1).2.1⟩
      · rw [List.mem_singleton.1 h1]; exact ⟨by omega, hI.asc⟩
    · rw [List.length_append, List.length_singleton] at hi
      rw [List.getElem?_append_left (by omega)] at hpi
      exact (hI.runs p (List.mem_of_getElem? hpi)).2.2
def okRun (p : List R) : Bool := decide (0 < p.length) && (R.asc p && okRows p)
def okRuns (X : List (List R)) : Bool := X.all okRun
def fmtRuns (X : List (List R)) : List UInt8 := Go.Lib.join (X.map fmtRows) [124]
theorem mem_len {p : List R} : ∀ {X : List (List R)}, p ∈ X → p.length ≤ X.flatten.length
  | q :: X, h => by
    rw [List.flatten_cons, List.length_append]
    rcases List.mem_cons.1 h with rfl | h
    · omega
    · have := mem_len h; omega
theorem build_ok {l : List R} {m : Int} (h : can l m = true) : okRuns (build l m) = true := by
  obtain ⟨h1, h2, -, -⟩ := build_facts h
  have hl : okRows l = true := by unfold can at h; rw [Bool.and_eq_true] at h; exact h.1
  unfold okRows allOk at hl
  rw [Bool.and_eq_true, List.all_eq_true, decide_eq_true_eq] at hl
  refine List.all_eq_true.2 fun p hp => ?_
  obtain ⟨k1, k2⟩ := h2 p hp
  unfold okRun okRows allOk
  rw [Bool.and_eq_true, Bool.and_eq_true, Bool.and_eq_true, decide_eq_true_eq, decide_eq_true_eq, List.all_eq_true]
  refine ⟨k1, R.asc_pairwise.2 (k2.imp fun h => R.leb_iff.2 h), ?_, fun r hr => hl.2 r (h1.mem_iff.1 (List.mem_flatten.2 ⟨p, hp, hr⟩))⟩
  have := mem_len hp
  have := h1.length_eq
  omega
theorem build_bag {l : List R} {m : Int} (h : can l m = true) : R.eqBags (build l m).flatten l = true := R.eqBags_iff.2 fun r => (build_facts h).1.count_eq r
end Runs
end Go.Proofs.YtpnbnbhifpcelaaDoor
/- Rows in memory, slices over shapes, slices built element by element, appends; no function of program or reference is walked here. -/
namespace Go.Proofs.YtpnbnbhifpcelaaDoor
open Go.RowKit
def R.val (r : R) : Value := .agg #[.int .i64 r.key, .int .i64 r.value, .int .i64 r.width]
def RowAt (w : World) (b o : Nat) (r : R) : Prop := w.cell? ⟨b, o, none⟩ = some (.int .i64 r.key) ∧ w.cell? ⟨b, o + 1, none⟩ = some (.int .i64 r.value) ∧ w.cell? ⟨b, o + 2, none⟩ = some (.int .i64 r.width)
theorem RowAt.below {w w' : World} {B b o : Nat} {r : R} (h : RowAt w b o r) (hb : Below B w w') (hlt : b < B) : RowAt w' b o r :=
  ⟨(hb.cell hlt).trans h.1, (hb.cell hlt).trans h.2.1, (hb.cell hlt).trans h.2.2⟩
theorem box_row {w w' : World} {r : R} {t : TypeId} (hb : Below (w.alloc (.cells #[.int .i64 r.key, .int .i64 r.value, .int .i64 r.width] t)).heap.size (w.alloc (.cells #[.int .i64 r.key, .int .i64 r.value, .int .i64 r.width] t)) w') :
    RowAt w' w.heap.size 0 r ∧ Below w.heap.size w w' := by
  have hs : w.heap.size < (w.alloc (.cells #[.int .i64 r.key, .int .i64 r.value, .int .i64 r.width] t)).heap.size := by simp
  refine ⟨RowAt.below ⟨?_, ?_, ?_⟩ hb hs, ?_⟩
  · simp
  · simp
  · simp
  · exact ((Below.refl _ _).alloc (Nat.le_refl _) _).trans (hb.mono (by simp))
theorem box_lt {w w' : World} {cs : Array Value} {t : TypeId} {fr : Nat × Nat} (hb : Below (w.alloc (.cells cs t fr)).heap.size (w.alloc (.cells cs t fr)) w') : w.heap.size < w'.heap.size := Nat.lt_of_lt_of_le (by simp) hb.size
theorem box2 (w : World) (a b : R) (s t : TypeId) : ∃ W, W = (w.alloc (.cells #[.int .i64 a.key, .int .i64 a.value, .int .i64 a.width] s)).alloc (.cells #[.int .i64 b.key, .int .i64 b.value, .int .i64 b.width] t) ∧
    RowAt W w.heap.size 0 a ∧ RowAt W (w.heap.size + 1) 0 b ∧ Below w.heap.size w W ∧ w.heap.size + 1 < W.heap.size := by
  refine ⟨_, rfl, ⟨?_, ?_, ?_⟩, ⟨?_, ?_, ?_⟩, Joins.below_alloc2 _ _ _, by simp⟩ <;> simp
structure Boxes (w : World) (a b : R) (v : World) : Prop where
  a0 : v.cell? ⟨w.heap.size, 0, none⟩ = some (.int .i64 a.key)
  a1 : v.cell? ⟨w.heap.size, 1, none⟩ = some (.int .i64 a.value)
  a2 : v.cell? ⟨w.heap.size, 2, none⟩ = some (.int .i64 a.width)
  b0 : v.cell? ⟨w.heap.size + 1, 0, none⟩ = some (.int .i64 b.key)
  b1 : v.cell? ⟨w.heap.size + 1, 1, none⟩ = some (.int .i64 b.value)
  b2 : v.cell? ⟨w.heap.size + 1, 2, none⟩ = some (.int .i64 b.width)
  old : Below w.heap.size w v
  big : w.heap.size + 1 < v.heap.size
theorem Boxes.drew {w v : World} {a b : R} (h : Boxes w a b v) : Boxes w a b v.drew := ⟨h.a0, h.a1, h.a2, h.b0, h.b1, h.b2, h.old.drew, h.big⟩
theorem Boxes.next {w v v' : World} {a b : R} (h : Boxes w a b v) (hb : Below v.heap.size v v') : Boxes w a b v' := by
  have h1 : w.heap.size < v.heap.size := by have := h.big; omega
  exact ⟨(hb.cell h1).trans h.a0, (hb.cell h1).trans h.a1, (hb.cell h1).trans h.a2, (hb.cell h.big).trans h.b0, (hb.cell h.big).trans h.b1, (hb.cell h.big).trans h.b2, h.old.trans (hb.mono (Nat.le_of_lt h1)), Nat.lt_of_lt_of_le h.big hb.size⟩
def IsRows (w : World) (a : Option Addr) (len : Nat) (L : List R) : Prop :=
  L.length = len ∧ (∀ r ∈ L, r.wf) ∧ (len = 0 ∨ ∃ b o : Nat, a = some ⟨b, o, none⟩ ∧ b < w.heap.size ∧ ∀ t, t < len → RowAt w b (o + t * 3) (L.getD t R.zero))
theorem IsRows.below {w w' : World} {a : Option Addr} {len B : Nat} {L : List R} (h : IsRows w a len L) (hb : Below B w w') (ha : ∀ x, a = some x → 0 < len → x.block < B) : IsRows w' a len L := by
  obtain ⟨h1, h2, h3⟩ := h
  refine ⟨h1, h2, ?_⟩
  rcases h3 with h3 | ⟨b, o, rfl, hlt, h3⟩
  · exact .inl h3
  · rcases Nat.eq_zero_or_pos len with h0 | h0
    · exact .inl h0
    · exact .inr ⟨b, o, rfl, Nat.lt_of_lt_of_le hlt hb.size, fun t ht => (h3 t ht).below hb (ha _ rfl h0)⟩
theorem IsRows.keep {w w' : World} {a : Option Addr} {len : Nat} {L : List R} (h : IsRows w a len L) (hb : Below w.heap.size w w') : IsRows w' a len L := by
  obtain ⟨h1, h2, h3⟩ := h
  refine ⟨h1, h2, ?_⟩
  rcases h3 with h3 | ⟨b, o, rfl, hlt, h3⟩
  · exact .inl h3
  · exact .inr ⟨b, o, rfl, Nat.lt_of_lt_of_le hlt hb.size, fun t ht => (h3 t ht).below hb hlt⟩
def RowsLow (a : Option Addr) (len B : Nat) : Prop := ∀ x, a = some x → 0 < len → x.block < B
theorem IsRows.old {w : World} {a : Option Addr} {len : Nat} {L : List R} (h : IsRows w a len L) : RowsLow a len w.heap.size := by
  intro x hx hp
  obtain ⟨-, -, h0 | ⟨b, o, rfl, hlt, -⟩⟩ := h
  · omega
  · cases hx; exact hlt
theorem IsRows.low {w w' : World} {a : Option Addr} {len B : Nat} {L : List R} (h : IsRows w a len L) (hl : Hid (RowsLow a len B)) (hb : Below B w w') : IsRows w' a len L := h.below hb hl.out
theorem IsRows.wf {w : World} {a : Option Addr} {len : Nat} {L : List R} (h : IsRows w a len L) (t : Nat) (ht : t < len) : (L.getD t R.zero).wf := by
  have hl : t < L.length := by rw [h.1]; exact ht
  have : L.getD t R.zero = L[t] := by simp [List.getD, hl]
  rw [this]
  exact h.2.1 _ (List.getElem_mem hl)
def cells3 (L : List R) : List Value := L.flatMap fun r => [.int .i64 r.key, .int .i64 r.value, .int .i64 r.width]
theorem cells3_length (L : List R) : (cells3 L).length = L.length * 3 := by
  induction L with
  | nil => rfl
  | cons r L ih => unfold cells3 at ih ⊢; rw [List.flatMap_cons, List.length_append, ih]; simp; omega
theorem cells3_get (L : List R) : ∀ (t : Nat), t < L.length → (cells3 L)[t * 3]? = some (.int .i64 (L.getD t R.zero).key) ∧ (cells3 L)[t * 3 + 1]? = some (.int .i64 (L.getD t R.zero).value) ∧ (cells3 L)[t * 3 + 2]? = some (.int .i64 (L.getD t R.zero).width) := by
  induction L with
  | nil => intro t ht; simp at ht
  | cons r L ih =>
    intro t ht
    cases t with
    | zero => exact ⟨rfl, rfl, rfl⟩
    | succ t =>
      have := ih t (by simpa using ht)
      have e : cells3 (r :: L) = .int .i64 r.key :: .int .i64 r.value :: .int .i64 r.width :: cells3 L := rfl
      rw [e, show (t + 1) * 3 = t * 3 + 3 by omega]
      simpa using this
theorem cells3_set (L : List R) : ∀ (t : Nat) (r : R), t < L.length → (((cells3 L).set (t * 3) (.int .i64 r.key)).set (t * 3 + 1) (.int .i64 r.value)).set (t * 3 + 2) (.int .i64 r.width) = cells3 (L.set t r) := by
  induction L with
  | nil => intro t r ht; simp at ht
  | cons q L ih =>
    intro t r ht
    cases t with
    | zero => rfl
    | succ t =>
      have := ih t r (by simpa using ht)
      have e : cells3 (q :: L) = .int .i64 q.key :: .int .i64 q.value :: .int .i64 q.width :: cells3 L := rfl
      have e' : cells3 ((q :: L).set (t + 1) r) = .int .i64 q.key :: .int .i64 q.value :: .int .i64 q.width :: cells3 (L.set t r) := rfl
      rw [e, e', show (t + 1) * 3 = t * 3 + 3 by omega, ← this]
      simp [List.set]
theorem cells3_append (L M : List R) : cells3 L ++ cells3 M = cells3 (L ++ M) := by simp [cells3]
theorem rowInfo : (Tryd.prog.info? 50).map (fun i => (i.zero, i.size, i.bytes)) = some (some R.zero.val, 3, 24) := by kernel_rfl
theorem rows_cells {w : World} {g : Nat} {M : List R} {t : TypeId} (h : w.heap[g]? = some (.cells (cells3 M).toArray t (0, 0))) (k : Nat) (hk : k < M.length) : RowAt w g (k * 3) (M.getD k R.zero) := by
  obtain ⟨e0, e1, e2⟩ := cells3_get M k hk
  refine ⟨?_, ?_, ?_⟩ <;> simp only [World.cell?, h] <;> simpa
theorem below_set3 {B : Nat} {w w' : World} {g : Nat} (h : Below B w w') (hg : B ≤ g) (i j k : Nat) (x y z : Value) : Below B w (((w'.setCell ⟨g, i, none⟩ x).setCell ⟨g, j, none⟩ y).setCell ⟨g, k, none⟩ z) :=
  ((h.setCell hg x).setCell hg y).setCell hg z
theorem rows_of {w : World} {g len : Nat} {L : List R} {t : TypeId} (h : w.heap[g]? = some (.cells (cells3 L).toArray t (0, 0))) (hl : L.length = len) (hwf : ∀ r ∈ L, r.wf) : IsRows w (some ⟨g, 0, none⟩) len L :=
  ⟨hl, hwf, .inr ⟨g, 0, rfl, lt_of_block h, fun t ht => by rw [Nat.zero_add]; exact rows_cells h t (by omega)⟩⟩
end Go.Proofs.YtpnbnbhifpcelaaDoor
namespace Go.Proofs.YtpnbnbhifpcelaaDoor
open Go.RowKit
theorem wpList_pushR {ops : Array Oper} {rest : List Oper} {o : Oper} {a : Act} {Q : Exit → Act → World → Prop} {wr : World} {B : Nat} {M : List R} {v : Value} (s x : Operand) (r : R) (N : Nat) (hN : N = wr.heap.size)
    (hgd : o.guard = none) (ho : o.op = .call { callee := .builtin .append, args := #[s, x], argTypes := #[24, 24] })
    (hs : a.eval s = v) (hx : a.eval x = .slice (some ⟨N, 0, none⟩) 1 1) (hown : wr.ownsRow B 50 3 v M.length (cells3 M)) (hB : B ≤ wr.heap.size)
    (hlen : (M.length + 1) * 24 ≤ 140737488355328)
    (h : ∀ v' w', w'.ownsRow B 50 3 v' (M ++ [r]).length (cells3 (M ++ [r])) → Below B wr w' → (∀ i, i < wr.heap.size → v.ownBlock ≠ some i → w'.heap[i]? = wr.heap[i]?) → wpList Tryd.prog ops Q rest (a.put o.dst v') w') :
    wpList Tryd.prog ops Q (o :: rest) a (wr.alloc (.cells #[.int .i64 r.key, .int .i64 r.value, .int .i64 r.width] 50)) := by
  subst hN
  obtain ⟨i0, hi, hz0, hz1, hz2⟩ := info_parts rowInfo
  refine wpList_append_own _ hgd s x 24 ho B 50 i0 R.zero.val 3 24 Tryd.underlying24 hi hz0 hz1 hz2 rfl (by decide) v M.length (cells3 M) hs (hown.alloc _)
    ⟨wr.heap.size, 0, none⟩ 1 1 [.int .i64 r.key, .int .i64 r.value, .int .i64 r.width] hx rfl ?_ (by intro u hu; simp at hu; rcases hu with rfl | rfl | rfl <;> rfl) (by unfold maxLen; omega) (by omega) (by simp; omega) ?_
  · intro j u hj
    match j, hj with
    | 0, hj => simp at hj; subst hj; simp [Addr.add]
    | 1, hj => simp at hj; subst hj; simp [Addr.add]
    | 2, hj => simp at hj; subst hj; simp [Addr.add]
  · intro v' w' hown' hg _
    have e : cells3 M ++ [.int .i64 r.key, .int .i64 r.value, .int .i64 r.width] = cells3 (M ++ [r]) := by rw [← cells3_append]; rfl
    rw [e] at hown'
    exact h v' w' (by simpa using hown') (((Below.refl B wr).alloc hB _).grown hg (by simp; omega) fun k hk => (hown.lt k hk).1)
      fun i hi hne => (hg.block i (by simp; omega) (fun e => hne e.symm)).trans (Below.heap_alloc _ _ i hi)
theorem own_below {w w' : World} {B : Nat} {v : Value} {n : Nat} {xs : List Value} (h : w.ownsRow B 50 3 v n xs) (hb : Below w.heap.size w w') : w'.ownsRow B 50 3 v n xs := by
  obtain ⟨h1, h0 | ⟨g, cap, cur, rfl, hB, hh, h2⟩⟩ := h
  · exact ⟨h1, .inl h0⟩
  · exact ⟨h1, .inr ⟨g, cap, cur, rfl, hB, (hb.block g (lt_of_block hh)).trans hh, h2⟩⟩
theorem own_apart {w : World} {B g : Nat} {v : Value} {n : Nat} {xs : List Value} {cs : Array Value} {fz : Nat × Nat} (h : w.ownsRow B 50 3 v n xs) (hg : w.heap[g]? = some (.cells cs 9 fz)) : v.ownBlock ≠ some g := by
  intro e
  rcases h.2 with ⟨rfl, _⟩ | ⟨g', cap, cur, rfl, hB, hh, h2⟩
  · simp [Value.ownBlock] at e
  · simp [Value.ownBlock] at e
    subst e
    rw [hh] at hg
    simp at hg
theorem rows_of_own {w : World} {B : Nat} {v : Value} {M : List R} (h : w.ownsRow B 50 3 v M.length (cells3 M)) (hwf : ∀ r ∈ M, r.wf) : ∃ a cap, v = .slice a M.length cap ∧ IsRows w a M.length M := by
  rcases h.2 with ⟨rfl, h0⟩ | ⟨g, cap, cur, rfl, hB, hh, hcap, hmax, hsz, htake⟩
  · refine ⟨none, 0, by rw [h0], rfl, hwf, .inl h0⟩
  · refine ⟨_, cap, rfl, rfl, hwf, .inr ⟨g, 0, rfl, lt_of_block hh, fun t ht => ?_⟩⟩
    obtain ⟨e0, e1, e2⟩ := cells3_get M t ht
    have hc : ∀ (j : Nat) (u : Value), (cells3 M)[j]? = some u → w.cell? ⟨g, j, none⟩ = some u := by
      intro j u hu
      have hjl : j < M.length * 3 := by have := (List.getElem?_eq_some_iff.1 hu).1; rwa [cells3_length] at this
      rw [← htake, List.getElem?_take, if_pos hjl] at hu
      simp only [World.cell?, hh]
      simpa using hu
    rw [Nat.zero_add]
    exact ⟨hc _ _ e0, hc _ _ e1, hc _ _ e2⟩
def OwnRows (w : World) (base : Nat) (a : Option Addr) (len : Nat) (L : List R) : Prop :=
  L.length = len ∧ (len = 0 ∨ ∃ g, a = some ⟨g, 0, none⟩ ∧ base ≤ g ∧ w.heap[g]? = some (.cells (cells3 L).toArray 50 (0, 0)))
theorem OwnRows.rows {w : World} {base : Nat} {a : Option Addr} {len : Nat} {L : List R} (h : OwnRows w base a len L) (hwf : ∀ r ∈ L, r.wf) : IsRows w a len L := by
  obtain ⟨hl, h0 | ⟨g, rfl, hg, hb⟩⟩ := h
  · exact ⟨hl, hwf, .inl h0⟩
  · exact rows_of hb hl hwf
theorem OwnRows.keep {w w' : World} {base : Nat} {a : Option Addr} {len : Nat} {L : List R} (h : OwnRows w base a len L) (hb : Below w.heap.size w w') : OwnRows w' base a len L := by
  obtain ⟨hl, h0 | ⟨g, rfl, hg, hh⟩⟩ := h
  · exact ⟨hl, .inl h0⟩
  · exact ⟨hl, .inr ⟨g, rfl, hg, (hb.block g (lt_of_block hh)).trans hh⟩⟩
def marked (n : Nat) (k : Int) : List R := (List.range n).map fun (t : Nat) => ⟨k + 3 * (t : Int), k + 3 * (t : Int) + 1, k + 3 * (t : Int) + 2⟩
theorem marked_length (n : Nat) (k : Int) : (marked n k).length = n := by simp [marked]
end Go.Proofs.YtpnbnbhifpcelaaDoor
namespace Go.Proofs.YtpnbnbhifpcelaaDoor
open Go.RowKit
def Mine (w : World) (B : Nat) (v : Value) (L : List R) : Prop := w.ownsRow B 50 3 v L.length (cells3 L)
theorem Mine.keep {w w' : World} {B : Nat} {v : Value} {L : List R} (h : Mine w B v L) (hb : Below w.heap.size w w') : Mine w' B v L := own_below h hb
theorem Mine.mono {w : World} {B B' : Nat} {v : Value} {L : List R} (h : Mine w B v L) (hb : B' ≤ B) : Mine w B' v L := by
  obtain ⟨h1, h0 | ⟨g, cap, cur, hv, hB, h2⟩⟩ := h
  · exact ⟨h1, .inl h0⟩
  · exact ⟨h1, .inr ⟨g, cap, cur, hv, Nat.le_trans hb hB, h2⟩⟩
theorem Mine.slice {w : World} {B : Nat} {v : Value} {L : List R} (h : Mine w B v L) : ∃ a cap, v = .slice a L.length cap := by
  rcases h.2 with ⟨rfl, h0⟩ | ⟨g, cap, cur, rfl, -⟩
  · exact ⟨none, 0, by rw [h0]⟩
  · exact ⟨_, _, rfl⟩
theorem Mine.len {w : World} {B : Nat} {a : Option Addr} {len cap : Nat} {L : List R} (h : Mine w B (.slice a len cap) L) : L.length = len := by
  obtain ⟨a', cap', e⟩ := h.slice
  injection e with _ e2 _
  exact e2.symm
theorem Mine.rows {w : World} {B : Nat} {a : Option Addr} {len cap : Nat} {L : List R} (h : Mine w B (.slice a len cap) L) (hwf : ∀ r ∈ L, r.wf) : IsRows w a len L := by
  obtain ⟨a', cap', e, hr⟩ := rows_of_own h hwf
  injection e with e1 e2 e3
  subst e1 e2
  exact hr
theorem Mine.at {w : World} {B : Nat} {a : Option Addr} {len cap : Nat} {L : List R} (h : Mine w B (.slice a len cap) L) {k : Nat} (hk : k < len) :
    ∃ g, a = some ⟨g, 0, none⟩ ∧ B ≤ g ∧ g < w.heap.size ∧ RowAt w g (k * 3) (L.getD k R.zero) ∧ (∀ i, w.frozen? ⟨g, i, none⟩ = false) ∧
      ∀ r : R, Mine (((w.setCell ⟨g, k * 3, none⟩ (.int .i64 r.key)).setCell ⟨g, k * 3 + 1, none⟩ (.int .i64 r.value)).setCell ⟨g, k * 3 + 2, none⟩ (.int .i64 r.width)) B (.slice (some ⟨g, 0, none⟩) len cap) (L.set k r) := by
  have hl := h.len
  obtain ⟨h1, ⟨h0, h2⟩ | ⟨g, cap', cur, hv, hB, hh, hcap, hmax, hsz, htake⟩⟩ := h
  · omega
  · injection hv with e1 e2 e3
    subst e1 e3
    refine ⟨g, rfl, hB, lt_of_block hh, ?_, fun i => by simp [World.frozen?, hh], fun r => ?_⟩
    · obtain ⟨e0, e1, e2⟩ := cells3_get L k (by omega)
      have hc : ∀ (j : Nat) (u : Value), (cells3 L)[j]? = some u → w.cell? ⟨g, j, none⟩ = some u := by
        intro j u hu
        have hjl : j < L.length * 3 := by have := (List.getElem?_eq_some_iff.1 hu).1; rwa [cells3_length] at this
        rw [← htake, List.getElem?_take, if_pos hjl] at hu
        simp only [World.cell?, hh]
        simpa using hu
      exact ⟨hc _ _ e0, hc _ _ e1, hc _ _ e2⟩
    · have s1 := Joins.block_setCell hh (i := k * 3) (.int .i64 r.key)
      have s2 := Joins.block_setCell s1 (i := k * 3 + 1) (.int .i64 r.value)
      have s3 := Joins.block_setCell s2 (i := k * 3 + 2) (.int .i64 r.width)
      refine ⟨by rw [cells3_length], .inr ⟨g, cap, _, by rw [List.length_set, hl], hB, s3, by rw [List.length_set]; exact hcap, hmax, by simpa using hsz, ?_⟩⟩
      rw [← cells3_set L k r (by omega), ← htake]
      simp [List.take_set]
theorem mine_none (w : World) (B : Nat) : Mine w B (.slice none 0 0) [] := ⟨rfl, .inl ⟨rfl, rfl⟩⟩
theorem Mine.take {w : World} {B : Nat} {a : Option Addr} {len cap : Nat} {L : List R} (h : Mine w B (.slice a len cap) L) {k : Nat} (hk : k ≤ len) : Mine w B (.slice a k cap) (L.take k) := by
  have hl := h.len
  have hlen : (L.take k).length = k := by rw [List.length_take]; omega
  obtain ⟨h1, ⟨h0, h2⟩ | ⟨g, cap', cur, hv, hB, hh, hcap, hmax, hsz, htake⟩⟩ := h
  · injection h0 with e1 e2 e3
    subst e1 e2 e3
    obtain rfl : k = 0 := by omega
    exact mine_none w B
  · injection hv with e1 e2 e3
    subst e1 e3
    refine ⟨cells3_length _, .inr ⟨g, cap, cur, by rw [hlen], hB, hh, by omega, hmax, hsz, ?_⟩⟩
    have e : cells3 L = cells3 (L.take k) ++ cells3 (L.drop k) := by rw [cells3_append, List.take_append_drop]
    have e2 : (cells3 (L.take k)).length = (L.take k).length * 3 := cells3_length _
    rw [← e2]
    have e3 : cur.toList.take ((cells3 (L.take k)).length) = (cur.toList.take (L.length * 3)).take ((cells3 (L.take k)).length) := by
      rw [List.take_take]
      congr 1
      rw [e2, hlen]
      omega
    rw [e3, htake, e, List.take_left]
theorem one_row (r : R) : ∀ u ∈ [Value.int .i64 r.key, .int .i64 r.value, .int .i64 r.width], u.oneCell' = true := by
  intro u hu; simp at hu; rcases hu with rfl | rfl | rfl <;> rfl
theorem one_cells (L : List R) : ∀ u ∈ cells3 L, u.oneCell' = true := by
  intro u hu
  obtain ⟨r, -, hr⟩ := List.mem_flatMap.1 hu
  exact one_row r u hr
theorem IsRows.cell {w : World} {a : Option Addr} {len : Nat} {L : List R} (h : IsRows w a len L) : ∃ ad : Addr, (0 < len → a = some ad) ∧ ∀ j u, (cells3 L)[j]? = some u → w.cell? (ad.add j) = some u := by
  obtain ⟨h1, h2, h0 | ⟨b, o, rfl, hlt, hc⟩⟩ := h
  · refine ⟨⟨0, 0, none⟩, fun h => by omega, fun j u hj => ?_⟩
    have : L = [] := List.eq_nil_of_length_eq_zero (by omega)
    subst this
    simp [cells3] at hj
  · refine ⟨⟨b, o, none⟩, fun _ => rfl, fun j u hj => ?_⟩
    have hjl : j < L.length * 3 := by have := (List.getElem?_eq_some_iff.1 hj).1; rwa [cells3_length] at this
    obtain ⟨c0, c1, c2⟩ := hc (j / 3) (by omega)
    obtain ⟨e0, e1, e2⟩ := cells3_get L (j / 3) (by omega)
    rw [Addr.add_lit]
    have h3 : j = j / 3 * 3 ∨ j = j / 3 * 3 + 1 ∨ j = j / 3 * 3 + 2 := by omega
    rcases h3 with h | h | h
    · rw [h] at hj ⊢; rw [e0] at hj; rw [c0]; exact hj
    · rw [h] at hj ⊢; rw [e1] at hj; rw [← Nat.add_assoc, c1]; exact hj
    · rw [h] at hj ⊢; rw [e2] at hj; rw [← Nat.add_assoc, c2]; exact hj
theorem wpList_appendR {ops : Array Oper} {rest : List Oper} {o : Oper} {a : Act} {Q : Exit → Act → World → Prop} {w : World} {B : Nat} {M L : List R} {v : Value} (s x : Operand) (ad : Addr) (m c : Nat)
    (hgd : o.guard = none) (ho : o.op = .call { callee := .builtin .append, args := #[s, x], argTypes := #[24, 24] })
    (hs : a.eval s = v) (hx : a.eval x = .slice (some ad) m c) (hown : Mine w B v M) (hl : L.length = m) (hc : ∀ j u, (cells3 L)[j]? = some u → w.cell? (ad.add j) = some u) (hB : B ≤ w.heap.size)
    (hlen : M.length + m ≤ 1000000000000)
    (h : ∀ v' w', Mine w' B v' (M ++ L) → w.grownBy w' v.ownBlock → (v' = .slice none 0 0 ↔ v = .slice none 0 0 ∧ m = 0) → wpList Tryd.prog ops Q rest (a.put o.dst v') w') :
    wpList Tryd.prog ops Q (o :: rest) a w := by
  obtain ⟨i0, hi, hz0, hz1, hz2⟩ := info_parts rowInfo
  refine wpList_append_own _ hgd s x 24 ho B 50 i0 R.zero.val 3 24 Tryd.underlying24 hi hz0 hz1 hz2 rfl (by decide) v M.length (cells3 M) hs hown
    ad m c (cells3 L) hx (by rw [cells3_length, hl]) hc (one_cells L) (by unfold maxLen; omega) (by omega) hB ?_
  intro v' w' hown' hg hn
  rw [cells3_append] at hown'
  exact h v' w' (by unfold Mine; rw [List.length_append, hl]; exact hown') hg hn
end Go.Proofs.YtpnbnbhifpcelaaDoor
namespace Go.Proofs.YtpnbnbhifpcelaaDoor
open Go.RowKit
structure Reg where
  b : Nat
  lo : Nat
  hi : Nat
def Reg.apart (x y : Reg) : Prop := x.b ≠ y.b ∨ x.hi ≤ y.lo ∨ y.hi ≤ x.lo
theorem Reg.apart_symm {x y : Reg} (h : x.apart y) : y.apart x := by
  rcases h with h | h | h
  · exact .inl fun e => h e.symm
  · exact .inr (.inr h)
  · exact .inr (.inl h)
structure Stay (F : List Reg) (w w' : World) : Prop where
  size : w.heap.size ≤ w'.heap.size
  cell : ∀ r ∈ F, ∀ j, r.lo ≤ j → j < r.hi → w'.cell? ⟨r.b, j, none⟩ = w.cell? ⟨r.b, j, none⟩ ∧ w'.frozen? ⟨r.b, j, none⟩ = w.frozen? ⟨r.b, j, none⟩
structure OnlyAt (F : List Reg) (w w' : World) : Prop where
  os : w'.os = w.os
  tape : w'.tape = w.tape
  output : w'.output = w.output
  size : w.heap.size ≤ w'.heap.size
  block : ∀ b, b < w.heap.size → (∀ r ∈ F, r.b ≠ b) → w'.heap[b]? = w.heap[b]?
  cell : ∀ b j, b < w.heap.size → (∀ r ∈ F, r.b = b → j < r.lo ∨ r.hi ≤ j) → w'.cell? ⟨b, j, none⟩ = w.cell? ⟨b, j, none⟩
  frozen : ∀ b j, b < w.heap.size → w'.frozen? ⟨b, j, none⟩ = w.frozen? ⟨b, j, none⟩
theorem OnlyAt.refl (F : List Reg) (w : World) : OnlyAt F w w := ⟨rfl, rfl, rfl, Nat.le_refl _, fun _ _ _ => rfl, fun _ _ _ _ => rfl, fun _ _ _ => rfl⟩
theorem OnlyAt.trans {F : List Reg} {a b c : World} (h : OnlyAt F a b) (k : OnlyAt F b c) : OnlyAt F a c :=
  ⟨k.os.trans h.os, k.tape.trans h.tape, k.output.trans h.output, Nat.le_trans h.size k.size, fun i hi hne => (k.block i (Nat.lt_of_lt_of_le hi h.size) hne).trans (h.block i hi hne),
    fun i j hi hne => (k.cell i j (Nat.lt_of_lt_of_le hi h.size) hne).trans (h.cell i j hi hne), fun i j hi => (k.frozen i j (Nat.lt_of_lt_of_le hi h.size)).trans (h.frozen i j hi)⟩
theorem OnlyAt.mono {F G : List Reg} {a b : World} (h : OnlyAt F a b) (hs : ∀ r ∈ F, r ∈ G) : OnlyAt G a b :=
  ⟨h.os, h.tape, h.output, h.size, fun i hi hne => h.block i hi fun r hr => hne r (hs r hr), fun i j hi hne => h.cell i j hi fun r hr => hne r (hs r hr), h.frozen⟩
theorem OnlyAt.below {F : List Reg} {B : Nat} {a b : World} (h : OnlyAt F a b) (hB : B ≤ a.heap.size) (hF : ∀ r ∈ F, B ≤ r.b) : Below B a b :=
  ⟨h.os, h.tape, h.output, h.size, fun i hi => h.block i (Nat.lt_of_lt_of_le hi hB) fun r hr e => by have := hF r hr; omega⟩
theorem OnlyAt.of_below {F : List Reg} {a b : World} (h : Below a.heap.size a b) : OnlyAt F a b :=
  ⟨h.os, h.tape, h.output, h.size, fun i hi _ => h.block i hi, fun i _ hi _ => World.cell?_of_block (h.block i hi), fun i _ hi => World.frozen?_of_block (h.block i hi)⟩
theorem OnlyAt.set {F : List Reg} {a w : World} (h : OnlyAt F a w) {r : Reg} (hr : r ∈ F) {b j : Nat} (hb : r.b = b) (h1 : r.lo ≤ j) (h2 : j < r.hi) (u : Value) : OnlyAt F a (w.setCell ⟨b, j, none⟩ u) := by
  refine ⟨h.os, h.tape, h.output, by simpa [World.setCell] using h.size, fun i hi hne => ?_, fun i k hi hne => ?_, fun i k hi => ?_⟩
  · exact (Below.heap_setCell w ⟨b, j, none⟩ u i (fun e => hne r hr (by rw [hb, e]))).trans (h.block i hi hne)
  · refine (World.cell?_setCell_other _ _ _ _ (fun e => ?_)).trans (h.cell i k hi hne)
    simp only [Addr.mk.injEq] at e
    have := hne r hr (hb.trans (by have := e.1; omega))
    have := e.2.1
    omega
  · exact (World.frozen?_setCell w _ _ _).trans (h.frozen i k hi)
theorem Stay.of_only {F G : List Reg} {w w' : World} (h : OnlyAt F w w') (hap : ∀ x ∈ F, ∀ y ∈ G, x.apart y) (hlt : ∀ y ∈ G, y.b < w.heap.size) : Stay G w w' :=
  ⟨h.size, fun y hy j h1 h2 => ⟨h.cell y.b j (hlt y hy) fun x hx e => by
    rcases hap x hx y hy with hn | hn | hn
    · exact absurd e hn
    · right; omega
    · left; omega, h.frozen y.b j (hlt y hy)⟩⟩
theorem Stay.of_below {G : List Reg} {w w' : World} {B : Nat} (h : Below B w w') (hlt : ∀ y ∈ G, y.b < B) : Stay G w w' :=
  ⟨h.size, fun y hy _ _ _ => ⟨World.cell?_of_block (h.block y.b (hlt y hy)), World.frozen?_of_block (h.block y.b (hlt y hy))⟩⟩
theorem Stay.sub {F G : List Reg} {w w' : World} (h : Stay G w w') (hs : ∀ r ∈ F, r ∈ G) : Stay F w w' := ⟨h.size, fun r hr => h.cell r (hs r hr)⟩
def CellsAt (w : World) (b o : Nat) (cs : List Value) : Prop := ∀ (j : Nat) (u : Value), cs[j]? = some u → w.cell? ⟨b, o + j, none⟩ = some u
theorem CellsAt.below {w w' : World} {B b o : Nat} {cs : List Value} (h : CellsAt w b o cs) (hb : Below B w w') (hlt : b < B) : CellsAt w' b o cs := fun j u hj => (hb.cell hlt).trans (h j u hj)
theorem CellsAt.lt {w : World} {b o : Nat} {cs : List Value} (h : CellsAt w b o cs) (hl : 0 < cs.length) : b < w.heap.size := World.block_lt_of_cell? w _ (h 0 cs[0] (by simp [hl]))
structure Rep (α : Type) where
  H : Type
  size : Nat
  cells : α → H → List Value
  inn : World → α → H → Prop
  own : World → Nat → α → H → List Reg → Prop
  len : ∀ x h, (cells x h).length = size
  inn_keep : ∀ {w w' x h}, inn w x h → Below w.heap.size w w' → inn w' x h
  own_inn : ∀ {w B x h F}, own w B x h F → inn w x h
  own_lt : ∀ {w B x h F}, own w B x h F → ∀ r ∈ F, B ≤ r.b ∧ r.b < w.heap.size
  own_stay : ∀ {w w' B x h F}, own w B x h F → Stay F w w' → own w' B x h F
  own_apart : ∀ {w B x h F}, own w B x h F → F.Pairwise Reg.apart
  own_mono : ∀ {w B B' x h F}, own w B x h F → B' ≤ B → own w B' x h F
def SeqIn {α : Type} (r : Rep α) (w : World) (a : Option Addr) (n : Nat) (xs : List α) : Prop :=
  xs.length = n ∧ n ≤ maxLen ∧ (n = 0 ∨ ∃ b o : Nat, a = some ⟨b, o, none⟩ ∧ b < w.heap.size ∧ ∃ hs : Nat → r.H, ∀ t x, xs[t]? = some x → CellsAt w b (o + t * r.size) (r.cells x (hs t)) ∧ r.inn w x (hs t))
def SeqOwn {α : Type} (r : Rep α) (w : World) (B : Nat) (a : Option Addr) (n : Nat) (xs : List α) (F : List Reg) : Prop :=
  xs.length = n ∧ n ≤ maxLen ∧ ((n = 0 ∧ F = []) ∨ ∃ (b o : Nat) (hs : Nat → r.H) (Fs : Nat → List Reg), a = some ⟨b, o, none⟩ ∧ B ≤ b ∧ b < w.heap.size ∧ F = ⟨b, o, o + n * r.size⟩ :: (List.range n).flatMap Fs ∧ F.Pairwise Reg.apart ∧
    (∀ j, o ≤ j → j < o + n * r.size → w.frozen? ⟨b, j, none⟩ = false) ∧ ∀ t x, xs[t]? = some x → CellsAt w b (o + t * r.size) (r.cells x (hs t)) ∧ r.own w B x (hs t) (Fs t))
theorem idx_lt {α : Type} {xs : List α} {t : Nat} {x : α} (h : xs[t]? = some x) : t < xs.length := (List.getElem?_eq_some_iff.1 h).1
theorem at_le {t n s : Nat} (h : t < n) : t * s + s ≤ n * s := by
  have := Nat.mul_le_mul_right s (show t + 1 ≤ n from h)
  rwa [Nat.add_mul, Nat.one_mul] at this
theorem SeqIn.keep {α : Type} {r : Rep α} {w w' : World} {a : Option Addr} {n : Nat} {xs : List α} (h : SeqIn r w a n xs) (hb : Below w.heap.size w w') : SeqIn r w' a n xs := by
  obtain ⟨h1, hm, h2⟩ := h
  refine ⟨h1, hm, h2.imp_right ?_⟩
  rintro ⟨b, o, rfl, hlt, hs, hx⟩
  exact ⟨b, o, rfl, Nat.lt_of_lt_of_le hlt hb.size, hs, fun t x ht => ⟨(hx t x ht).1.below hb hlt, r.inn_keep (hx t x ht).2 hb⟩⟩
theorem SeqOwn.lt {α : Type} {r : Rep α} {w : World} {B : Nat} {a : Option Addr} {n : Nat} {xs : List α} {F : List Reg} (h : SeqOwn r w B a n xs F) : ∀ y ∈ F, B ≤ y.b ∧ y.b < w.heap.size := by
  obtain ⟨h1, -, ⟨-, rfl⟩ | ⟨b, o, hs, Fs, rfl, hB, hlt, rfl, -, -, hx⟩⟩ := h
  · intro y hy; cases hy
  · intro y hy
    rcases List.mem_cons.1 hy with rfl | hy
    · exact ⟨hB, hlt⟩
    · obtain ⟨t, ht, hy⟩ := List.mem_flatMap.1 hy
      have htl : t < xs.length := by rw [h1]; exact List.mem_range.1 ht
      exact r.own_lt (hx t xs[t] (by simp [htl])).2 y hy
theorem SeqOwn.stay {α : Type} {r : Rep α} {w w' : World} {B : Nat} {a : Option Addr} {n : Nat} {xs : List α} {F : List Reg} (h : SeqOwn r w B a n xs F) (hs : Stay F w w') : SeqOwn r w' B a n xs F := by
  obtain ⟨h1, hm, h2⟩ := h
  refine ⟨h1, hm, h2.imp_right ?_⟩
  rintro ⟨b, o, hh, Fs, rfl, hB, hlt, rfl, hp, hf, hx⟩
  have hc := hs.cell ⟨b, o, o + n * r.size⟩ (List.mem_cons_self ..)
  refine ⟨b, o, hh, Fs, rfl, hB, Nat.lt_of_lt_of_le hlt hs.size, rfl, hp, fun j ha hb => ((hc j ha hb).2).trans (hf j ha hb), fun t x ht => ?_⟩
  have htn : t < n := by rw [← h1]; exact idx_lt ht
  refine ⟨fun j u hj => ?_, r.own_stay (hx t x ht).2 (hs.sub fun y hy => List.mem_cons_of_mem _ (List.mem_flatMap.2 ⟨t, List.mem_range.2 htn, hy⟩))⟩
  have hjl : j < r.size := by rw [← r.len x (hh t)]; exact idx_lt hj
  have hle := at_le (s := r.size) htn
  exact ((hc (o + t * r.size + j) (by simp only; omega) (by simp only; omega)).1).trans ((hx t x ht).1 j u hj)
theorem SeqOwn.inn {α : Type} {r : Rep α} {w : World} {B : Nat} {a : Option Addr} {n : Nat} {xs : List α} {F : List Reg} (h : SeqOwn r w B a n xs F) : SeqIn r w a n xs := by
  obtain ⟨h1, hm, ⟨h0, -⟩ | ⟨b, o, hs, Fs, rfl, -, hlt, -, -, -, hx⟩⟩ := h
  · exact ⟨h1, hm, .inl h0⟩
  · exact ⟨h1, hm, .inr ⟨b, o, rfl, hlt, hs, fun t x ht => ⟨(hx t x ht).1, r.own_inn (hx t x ht).2⟩⟩⟩
theorem SeqOwn.apart {α : Type} {r : Rep α} {w : World} {B : Nat} {a : Option Addr} {n : Nat} {xs : List α} {F : List Reg} (h : SeqOwn r w B a n xs F) : F.Pairwise Reg.apart := by
  obtain ⟨h1, -, ⟨-, rfl⟩ | ⟨b, o, hs, Fs, rfl, -, hlt, -, hp, -⟩⟩ := h
  · exact List.Pairwise.nil
  · exact hp
theorem SeqOwn.mono {α : Type} {r : Rep α} {w : World} {B B' : Nat} {a : Option Addr} {n : Nat} {xs : List α} {F : List Reg} (h : SeqOwn r w B a n xs F) (hb : B' ≤ B) : SeqOwn r w B' a n xs F := by
  obtain ⟨h1, hm, h2⟩ := h
  refine ⟨h1, hm, h2.imp_right ?_⟩
  rintro ⟨b, o, hs, Fs, rfl, hB, hlt, hF, hp, hf, hx⟩
  exact ⟨b, o, hs, Fs, rfl, Nat.le_trans hb hB, hlt, hF, hp, hf, fun t x ht => ⟨(hx t x ht).1, r.own_mono (hx t x ht).2 hb⟩⟩
theorem SeqOwn.keep {α : Type} {r : Rep α} {w w' : World} {B : Nat} {a : Option Addr} {n : Nat} {xs : List α} {F : List Reg} (h : SeqOwn r w B a n xs F) (hb : Below w.heap.size w w') : SeqOwn r w' B a n xs F :=
  h.stay (Stay.of_below hb fun y hy => (h.lt y hy).2)
def rowRep : Rep R where
  H := Unit
  size := 3
  cells := fun r _ => [.int .i64 r.key, .int .i64 r.value, .int .i64 r.width]
  inn := fun _ r _ => r.wf
  own := fun _ _ r _ F => r.wf ∧ F = []
  len := fun _ _ => rfl
  inn_keep := fun h _ => h
  own_inn := fun h => h.1
  own_lt := fun h y hy => by rw [h.2] at hy; cases hy
  own_stay := fun h _ => h
  own_apart := fun h => by rw [h.2]; exact List.Pairwise.nil
  own_mono := fun h _ => h
def seqRep {α : Type} (r : Rep α) : Rep (List α) where
  H := Option Addr × Nat × Nat
  size := 1
  cells := fun _ h => [.slice h.1 h.2.1 h.2.2]
  inn := fun w xs h => SeqIn r w h.1 h.2.1 xs ∧ (h.1 = none → h.2.2 = 0)
  own := fun w B xs h F => SeqOwn r w B h.1 h.2.1 xs F ∧ (h.1 = none → h.2.2 = 0)
  len := fun _ _ => rfl
  inn_keep := fun h hb => ⟨h.1.keep hb, h.2⟩
  own_inn := fun h => ⟨h.1.inn, h.2⟩
  own_lt := fun h => h.1.lt
  own_stay := fun h hs => ⟨h.1.stay hs, h.2⟩
  own_apart := fun h => h.1.apart
  own_mono := fun h hb => ⟨h.1.mono hb, h.2⟩
theorem SeqOwn.at {α : Type} {r : Rep α} {w : World} {B : Nat} {a : Option Addr} {n : Nat} {xs : List α} {F : List Reg} (h : SeqOwn r w B a n xs F) {t : Nat} {x : α} (ht : xs[t]? = some x) :
    ∃ (b o : Nat) (hd : r.H) (G : List Reg), a = some ⟨b, o, none⟩ ∧ b < w.heap.size ∧ CellsAt w b (o + t * r.size) (r.cells x hd) ∧ (∀ j, j < r.size → w.frozen? ⟨b, o + t * r.size + j, none⟩ = false) ∧ r.own w B x hd G ∧ (∀ y ∈ G, y ∈ F) ∧
      ∀ w' x', OnlyAt G w w' → r.own w' B x' hd G → r.cells x' hd = r.cells x hd → SeqOwn r w' B a n (xs.set t x') F := by
  have htl := idx_lt ht
  obtain ⟨h1, hm, ⟨h0, -⟩ | ⟨b, o, hs, Fs, rfl, hB, hlt, rfl, hp, hf, hx⟩⟩ := h
  · omega
  · have htn : t < n := by omega
    have hle := at_le (s := r.size) htn
    have hsub : ∀ y ∈ Fs t, y ∈ (⟨b, o, o + n * r.size⟩ : Reg) :: (List.range n).flatMap Fs := fun y hy => List.mem_cons_of_mem _ (List.mem_flatMap.2 ⟨t, List.mem_range.2 htn, hy⟩)
    refine ⟨b, o, hs t, Fs t, rfl, hlt, (hx t x ht).1, fun j hj => hf _ (by omega) (by omega), (hx t x ht).2, hsub, fun w' x' ho hown hce => ?_⟩
    have hhead : ∀ y ∈ Fs t, (⟨b, o, o + n * r.size⟩ : Reg).apart y := fun y hy => (List.pairwise_cons.1 hp).1 y (List.mem_flatMap.2 ⟨t, List.mem_range.2 htn, hy⟩)
    have hst : Stay [⟨b, o, o + n * r.size⟩] w w' := Stay.of_only ho (fun y hy z hz => by rw [List.mem_singleton.1 hz]; exact Reg.apart_symm (hhead y hy)) (fun z hz => by rw [List.mem_singleton.1 hz]; exact hlt)
    have hc := hst.cell ⟨b, o, o + n * r.size⟩ (List.mem_singleton.2 rfl)
    refine ⟨by rw [List.length_set]; exact h1, hm, .inr ⟨b, o, hs, Fs, rfl, hB, Nat.lt_of_lt_of_le hlt ho.size, rfl, hp, fun j ha hb => ((hc j ha hb).2).trans (hf j ha hb), fun s y hy => ?_⟩⟩
    have hsn : s < n := by have := idx_lt hy; rw [List.length_set] at this; omega
    have hles := at_le (s := r.size) hsn
    have hcell : ∀ z, xs[s]? = some z → CellsAt w' b (o + s * r.size) (r.cells z (hs s)) := fun z hz j u hj => by
      have hjl : j < r.size := by rw [← r.len z (hs s)]; exact idx_lt hj
      exact ((hc (o + s * r.size + j) (by simp only; omega) (by simp only; omega)).1).trans ((hx s z hz).1 j u hj)
    by_cases hst' : s = t
    · subst hst'
      rw [List.getElem?_set_self htl] at hy
      obtain rfl := Option.some.inj hy
      exact ⟨by rw [hce]; exact hcell x ht, hown⟩
    · rw [List.getElem?_set_ne (fun e => hst' e.symm)] at hy
      refine ⟨hcell y hy, r.own_stay (hx s y hy).2 (Stay.of_only ho (fun p hp' q hq => ?_) fun q hq => (r.own_lt (hx s y hy).2 q hq).2)⟩
      have hpw := (List.pairwise_cons.1 hp).2
      rw [List.pairwise_flatMap] at hpw
      have hr := hpw.2
      rcases Nat.lt_or_gt_of_ne hst' with h2 | h2
      · exact Reg.apart_symm ((List.pairwise_iff_getElem.1 hr) s t (by simpa using hsn) (by simpa using htn) h2 q (by simpa using hq) p (by simpa using hp'))
      · exact (List.pairwise_iff_getElem.1 hr) t s (by simpa using htn) (by simpa using hsn) h2 p (by simpa using hp') q (by simpa using hq)
end Go.Proofs.YtpnbnbhifpcelaaDoor
namespace Go.Proofs.YtpnbnbhifpcelaaDoor
open Go.RowKit
structure El {α : Type} (r : Rep α) where
  x : α
  h : r.H
  F : List Reg
def OwnAll {α : Type} (r : Rep α) (w : World) (B : Nat) (es : List (El r)) : Prop :=
  (∀ e ∈ es, r.own w B e.x e.h e.F) ∧ es.Pairwise fun e f => ∀ x ∈ e.F, ∀ y ∈ f.F, x.apart y
def InAll {α : Type} (r : Rep α) (w : World) (es : List (El r)) : Prop := ∀ e ∈ es, r.inn w e.x e.h
def cellsOf {α : Type} {r : Rep α} (es : List (El r)) : List Value := es.flatMap fun e => r.cells e.x e.h
theorem cellsOf_get {α : Type} {r : Rep α} : ∀ (es : List (El r)) (t : Nat) (e : El r), es[t]? = some e → ∀ j u, (r.cells e.x e.h)[j]? = some u → (cellsOf es)[t * r.size + j]? = some u
  | [], t, e, ht, j, u, hj => by simp at ht
  | e0 :: es, 0, e, ht, j, u, hj => by
    obtain rfl : e0 = e := by simpa using ht
    have hjl := idx_lt hj
    rw [Nat.zero_mul, Nat.zero_add]
    show (r.cells e0.x e0.h ++ cellsOf es)[j]? = _
    rw [List.getElem?_append_left hjl]
    exact hj
  | e0 :: es, t + 1, e, ht, j, u, hj => by
    have ht' : es[t]? = some e := by simpa using ht
    have := cellsOf_get es t e ht' j u hj
    show (r.cells e0.x e0.h ++ cellsOf es)[(t + 1) * r.size + j]? = _
    have hl := r.len e0.x e0.h
    have e1 : (t + 1) * r.size = t * r.size + r.size := by rw [Nat.add_mul, Nat.one_mul]
    rw [List.getElem?_append_right (by omega), hl, show (t + 1) * r.size + j - r.size = t * r.size + j by omega]
    exact this
theorem OwnAll.nil {α : Type} (r : Rep α) (w : World) (B : Nat) : OwnAll r w B [] := ⟨fun e he => (by cases he), List.Pairwise.nil⟩
theorem InAll.nil {α : Type} (r : Rep α) (w : World) : InAll r w [] := fun e he => (by cases he)
theorem OwnAll.inn {α : Type} {r : Rep α} {w : World} {B : Nat} {es : List (El r)} (h : OwnAll r w B es) : InAll r w es := fun e he => r.own_inn (h.1 e he)
theorem OwnAll.stay {α : Type} {r : Rep α} {w w' : World} {B : Nat} {es : List (El r)} (h : OwnAll r w B es) (hs : ∀ e ∈ es, Stay e.F w w') : OwnAll r w' B es := ⟨fun e he => r.own_stay (h.1 e he) (hs e he), h.2⟩
theorem OwnAll.keep {α : Type} {r : Rep α} {w w' : World} {B : Nat} {es : List (El r)} (h : OwnAll r w B es) (hb : Below w.heap.size w w') : OwnAll r w' B es :=
  h.stay fun e he => Stay.of_below hb fun y hy => (r.own_lt (h.1 e he) y hy).2
theorem InAll.keep {α : Type} {r : Rep α} {w w' : World} {es : List (El r)} (h : InAll r w es) (hb : Below w.heap.size w w') : InAll r w' es := fun e he => r.inn_keep (h e he) hb
theorem OwnAll.only {α : Type} {r : Rep α} {w w' : World} {B : Nat} {es : List (El r)} {G : List Reg} (h : OwnAll r w B es) (ho : OnlyAt G w w') (hne : ∀ e ∈ es, ∀ y ∈ e.F, ∀ x ∈ G, x.b ≠ y.b) : OwnAll r w' B es :=
  h.stay fun e he => Stay.of_only ho (fun x hx y hy => .inl (hne e he y hy x hx)) fun y hy => (r.own_lt (h.1 e he) y hy).2
theorem OwnAll.push {α : Type} {r : Rep α} {w w' : World} {B B' : Nat} {es : List (El r)} (h : OwnAll r w B es) (hb : Below w.heap.size w w') {e : El r} (he : r.own w' B' e.x e.h e.F) (hB : B ≤ B') (hn : w.heap.size ≤ B') : OwnAll r w' B (es ++ [e]) := by
  have hk := h.keep hb
  refine ⟨fun f hf => ?_, ?_⟩
  · rcases List.mem_append.1 hf with hf | hf
    · exact hk.1 f hf
    · rw [List.mem_singleton.1 hf]; exact r.own_mono he hB
  · rw [List.pairwise_append]
    refine ⟨hk.2, List.pairwise_singleton _ _, fun f hf g hg => ?_⟩
    rw [List.mem_singleton.1 hg]
    intro x hx y hy
    have h1 := (r.own_lt (h.1 f hf) x hx).2
    have h2 := (r.own_lt he y hy).1
    exact .inl (by omega)
theorem InAll.push {α : Type} {r : Rep α} {w : World} {es : List (El r)} (h : InAll r w es) {e : El r} (he : r.inn w e.x e.h) : InAll r w (es ++ [e]) := fun f hf => by
  rcases List.mem_append.1 hf with hf | hf
  · exact h f hf
  · rw [List.mem_singleton.1 hf]; exact he
theorem OwnAll.mono {α : Type} {r : Rep α} {w : World} {B B' : Nat} {es : List (El r)} (h : OwnAll r w B es) (hb : B' ≤ B) : OwnAll r w B' es := ⟨fun e he => r.own_mono (h.1 e he) hb, h.2⟩
theorem OwnAll.done {α : Type} {r : Rep α} {w : World} {B g : Nat} {es : List (El r)} (h : OwnAll r w B es) (hg : B ≤ g) (hl : g < w.heap.size) (hf : ∀ j, w.frozen? ⟨g, j, none⟩ = false) (hc : ∀ j u, (cellsOf es)[j]? = some u → w.cell? ⟨g, j, none⟩ = some u)
    (hne : ∀ e ∈ es, ∀ y ∈ e.F, y.b ≠ g) (hm : es.length ≤ maxLen) : ∃ F, SeqOwn r w B (some ⟨g, 0, none⟩) es.length (es.map El.x) F := by
  rcases Nat.eq_zero_or_pos es.length with h0 | h0
  · exact ⟨[], by simp, hm, .inl ⟨h0, rfl⟩⟩
  · obtain ⟨e0, -⟩ : ∃ e0, es[0]? = some e0 := ⟨es[0], by simp [h0]⟩
    refine ⟨_, by simp, hm, .inr ⟨g, 0, fun t => (es.getD t e0).h, fun t => (es.getD t e0).F, rfl, hg, hl, rfl, ?_, fun j _ _ => hf j, fun t x ht => ?_⟩⟩
    · rw [List.pairwise_cons]
      refine ⟨fun y hy => ?_, ?_⟩
      · obtain ⟨t, ht, hy⟩ := List.mem_flatMap.1 hy
        have htl : t < es.length := List.mem_range.1 ht
        have hgd : es.getD t e0 = es[t] := by simp [List.getD, htl]
        rw [hgd] at hy
        exact .inl fun e => hne es[t] (List.getElem_mem htl) y hy e.symm
      · rw [List.pairwise_flatMap]
        refine ⟨fun t ht => ?_, ?_⟩
        · have htl : t < es.length := List.mem_range.1 ht
          have hgd : es.getD t e0 = es[t] := by simp [List.getD, htl]
          rw [hgd]
          exact r.own_apart (h.1 es[t] (List.getElem_mem htl))
        · rw [List.pairwise_iff_getElem]
          intro i j hi hj hij x hx y hy
          simp only [List.getElem_range] at hx hy
          have hil : i < es.length := by simpa using hi
          have hjl : j < es.length := by simpa using hj
          have h1 : es.getD i e0 = es[i] := by simp [List.getD, hil]
          have h2 : es.getD j e0 = es[j] := by simp [List.getD, hjl]
          rw [h1] at hx
          rw [h2] at hy
          exact (List.pairwise_iff_getElem.1 h.2) i j hil hjl hij x hx y hy
    · have htl : t < es.length := by have := idx_lt ht; simpa using this
      have hgd : es.getD t e0 = es[t] := by simp [List.getD, htl]
      obtain rfl : es[t].x = x := by simpa [htl] using ht
      simp only []
      rw [hgd]
      refine ⟨fun j u hj => ?_, h.1 es[t] (List.getElem_mem htl)⟩
      rw [Nat.zero_add]
      exact hc _ _ (cellsOf_get es t es[t] (by simp [htl]) j u hj)
theorem InAll.done {α : Type} {r : Rep α} {w : World} {g o : Nat} {es : List (El r)} (h : InAll r w es) (hl : g < w.heap.size) (hc : ∀ j u, (cellsOf es)[j]? = some u → w.cell? ⟨g, o + j, none⟩ = some u) (hm : es.length ≤ maxLen) :
    SeqIn r w (some ⟨g, o, none⟩) es.length (es.map El.x) := by
  rcases Nat.eq_zero_or_pos es.length with h0 | h0
  · exact ⟨by simp, hm, .inl h0⟩
  · obtain ⟨e0, -⟩ : ∃ e0, es[0]? = some e0 := ⟨es[0], by simp [h0]⟩
    refine ⟨by simp, hm, .inr ⟨g, o, rfl, hl, fun t => (es.getD t e0).h, fun t x ht => ?_⟩⟩
    have htl : t < es.length := by have := idx_lt ht; simpa using this
    have hgd : es.getD t e0 = es[t] := by simp [List.getD, htl]
    obtain rfl : es[t].x = x := by simpa [htl] using ht
    simp only []
    rw [hgd]
    refine ⟨fun j u hj => ?_, h es[t] (List.getElem_mem htl)⟩
    rw [Nat.add_assoc]
    exact hc _ _ (cellsOf_get es t es[t] (by simp [htl]) j u hj)
theorem SeqIn.at {α : Type} {r : Rep α} {w : World} {a : Option Addr} {n : Nat} {xs : List (List α)} (h : SeqIn (seqRep r) w a n xs) {t : Nat} {x : List α} (ht : xs[t]? = some x) :
    ∃ (b o : Nat) (c : Option Addr) (k m : Nat), a = some ⟨b, o, none⟩ ∧ b < w.heap.size ∧ w.cell? ⟨b, o + t, none⟩ = some (.slice c k m) ∧ SeqIn r w c k x ∧ (c = none → m = 0) := by
  have htl := idx_lt ht
  obtain ⟨h1, -, h0 | ⟨b, o, rfl, hlt, hs, hx⟩⟩ := h
  · omega
  · obtain ⟨hc, hi⟩ := hx t x ht
    have := hc 0 _ rfl
    simp only [seqRep, Nat.mul_one, Nat.add_zero] at this
    exact ⟨b, o, _, _, _, rfl, hlt, this, hi.1, hi.2⟩
theorem rows_in {w : World} {a : Option Addr} {len : Nat} {L : List R} (h : SeqIn rowRep w a len L) : IsRows w a len L := by
  obtain ⟨h1, hm, h2⟩ := h
  have hwf : ∀ r ∈ L, r.wf := by
    intro r hr
    obtain ⟨t, ht, rfl⟩ := List.getElem_of_mem hr
    rcases h2 with h2 | ⟨b, o, -, -, hs, hx⟩
    · omega
    · exact (hx t L[t] (by simp [ht])).2
  refine ⟨h1, hwf, h2.imp_right ?_⟩
  rintro ⟨b, o, rfl, hlt, hs, hx⟩
  refine ⟨b, o, rfl, hlt, fun t ht => ?_⟩
  have htl : t < L.length := by omega
  have hg : L.getD t R.zero = L[t] := by simp [List.getD, htl]
  obtain ⟨hc, -⟩ := hx t L[t] (by simp [htl])
  rw [hg]
  exact ⟨hc 0 _ rfl, hc 1 _ rfl, hc 2 _ rfl⟩
end Go.Proofs.YtpnbnbhifpcelaaDoor
namespace Go.Proofs.YtpnbnbhifpcelaaDoor
open Go.RowKit
theorem Mine.grown {w w' : World} {B : Nat} {v : Value} {L : List R} {row : Option Nat} (h : Mine w B v L) (hg : w.grownBy w' row) (hne : ∀ k, v.ownBlock = some k → row ≠ some k) : Mine w' B v L := by
  obtain ⟨h1, h0 | ⟨g, cap, cur, rfl, hB, hh, h2⟩⟩ := h
  · exact ⟨h1, .inl h0⟩
  · exact ⟨h1, .inr ⟨g, cap, cur, rfl, hB, (hg.block g (lt_of_block hh) (fun e => hne g rfl e.symm)).trans hh, h2⟩⟩
theorem Mine.addr {w : World} {B : Nat} {v : Value} {L : List R} (h : Mine w B v L) (hne : v ≠ .slice none 0 0) : ∃ g c, v = .slice (some ⟨g, 0, none⟩) L.length c ∧ B ≤ g ∧ g < w.heap.size := by
  obtain ⟨h1, h0 | ⟨g, cap, cur, rfl, hB, hh, h2⟩⟩ := h
  · exact absurd h0.1 hne
  · exact ⟨g, cap, rfl, hB, lt_of_block hh⟩
theorem Mine.own' {w : World} {B : Nat} {v : Value} {L : List R} (h : Mine w B v L) : ∀ k, v.ownBlock = some k → B ≤ k := fun k hk => (World.ownsRow.lt h k hk).1
theorem Mine.drew {w : World} {B : Nat} {v : Value} {L : List R} (h : Mine w B v L) : Mine w.drew B v L := h
theorem Mine.cap {w : World} {B g len cap : Nat} {L : List R} (h : Mine w B (.slice (some ⟨g, 0, none⟩) len cap) L) : len ≤ cap := by
  have hl := h.len
  rcases h.2 with ⟨h0, h2⟩ | ⟨g', cap', cur, hv, hB, hh, hc, -⟩
  · injection h0 with e1 e2 e3; cases e1
  · injection hv with e1 e2 e3; omega
theorem Mine.lt {w : World} {B g len cap : Nat} {L : List R} (h : Mine w B (.slice (some ⟨g, 0, none⟩) len cap) L) : g < w.heap.size := (World.ownsRow.lt h g rfl).2
theorem Mine.from {w : World} {B : Nat} {g len cap : Nat} {L : List R} (h : Mine w B (.slice (some ⟨g, 0, none⟩) len cap) L) {k : Nat} (hk : k ≤ len) :
    ∃ A : Addr, (if cap = k then some (⟨g, 0, none⟩ : Addr) else some ⟨g, k * 3, none⟩) = some A ∧ (L.drop k).length = len - k ∧ ∀ j u, (cells3 (L.drop k))[j]? = some u → w.cell? (A.add j) = some u := by
  have hl := h.len
  have hcap : len ≤ cap := by
    rcases h.2 with ⟨h0, h2⟩ | ⟨g', cap', cur, hv, hB, hh, hc, -⟩
    · injection h0 with e1 e2 e3; cases e1
    · injection hv with e1 e2 e3; omega
  have hld : (L.drop k).length = len - k := by rw [List.length_drop, hl]
  by_cases hc : cap = k
  · refine ⟨_, by rw [if_pos hc], hld, fun j u hj => ?_⟩
    have : L.drop k = [] := List.drop_eq_nil_of_le (by omega)
    rw [this] at hj
    simp [cells3] at hj
  · refine ⟨_, by rw [if_neg hc], hld, fun j u hj => ?_⟩
    have hjl : j < (len - k) * 3 := by have := (List.getElem?_eq_some_iff.1 hj).1; rwa [cells3_length, hld] at this
    obtain ⟨g', e, hB, hg, -, -, -⟩ := h.at (k := k) (by omega)
    have hat : RowAt w g ((k + j / 3) * 3) (L.getD (k + j / 3) R.zero) := by
      obtain ⟨g2, e2, -, -, hat, -⟩ := h.at (k := k + j / 3) (by omega)
      injection e2 with e2; injection e2 with e2 _ _
      rw [e2]; exact hat
    have hd : (L.drop k).getD (j / 3) R.zero = L.getD (k + j / 3) R.zero := by simp [List.getD, List.getElem?_drop]
    obtain ⟨e0, e1, e2⟩ := cells3_get (L.drop k) (j / 3) (by omega)
    rw [hd] at e0 e1 e2
    obtain ⟨c0, c1, c2⟩ := hat
    rw [Addr.add_lit]
    have h3 : j = j / 3 * 3 ∨ j = j / 3 * 3 + 1 ∨ j = j / 3 * 3 + 2 := by omega
    rcases h3 with h | h | h
    · rw [h] at hj ⊢; rw [e0] at hj; rw [← hj, ← c0]; congr 2; omega
    · rw [h] at hj ⊢; rw [e1] at hj; rw [← hj, ← c1]; congr 2; omega
    · rw [h] at hj ⊢; rw [e2] at hj; rw [← hj, ← c2]; congr 2; omega
theorem Mine.cells {w : World} {B : Nat} {g len cap : Nat} {L : List R} (h : Mine w B (.slice (some ⟨g, 0, none⟩) len cap) L) : ∀ j u, (cells3 L)[j]? = some u → w.cell? ((⟨g, 0, none⟩ : Addr).add j) = some u := by
  intro j u hj
  have hjl : j < L.length * 3 := by have := (List.getElem?_eq_some_iff.1 hj).1; rwa [cells3_length] at this
  rcases h.2 with ⟨h0, h2⟩ | ⟨g', cap', cur, hv, hB, hh, hc, hm, hs, htake⟩
  · injection h0 with e1 e2 e3; cases e1
  · injection hv with e1 e2 e3
    injection e1 with e1
    injection e1 with e1 _ _
    subst e1
    rw [← htake, List.getElem?_take, if_pos hjl] at hj
    rw [Addr.add_lit, Nat.zero_add]
    simp only [World.cell?, hh]
    simpa using hj
theorem step_appendR {ops : Array Oper} {o : Oper} {a : Act} {K : Act → World → Prop} {Q : Exit → Act → World → Prop} {E : Prop} {w : World} {B : Nat} {M L : List R} {v : Value} (s x : Operand) (ad : Addr) (m c : Nat)
    (hgd : o.guard = none) (ho : o.op = .call { callee := .builtin .append, args := #[s, x], argTypes := #[24, 24] })
    (hs : a.eval s = v) (hx : a.eval x = .slice (some ad) m c) (hown : Mine w B v M) (hl : L.length = m) (hc : ∀ j u, (cells3 L)[j]? = some u → w.cell? (ad.add j) = some u) (hB : B ≤ w.heap.size)
    (hlen : M.length + m ≤ 1000000000000)
    (h : ∀ v' w', Mine w' B v' (M ++ L) → w.grownBy w' v.ownBlock → (v' = .slice none 0 0 ↔ v = .slice none 0 0 ∧ m = 0) → K (a.put o.dst v') w') :
    if Region.wanted o (yielded ops a.tmps) = true then Oper.wp Tryd.prog o a w K Q else E := by
  have hw : Region.wanted o (yielded ops a.tmps) = true := by simp [Region.wanted, hgd]
  rw [if_pos hw]
  obtain ⟨i0, hi, hz0, hz1, hz2⟩ := info_parts rowInfo
  refine wp_append_own _ s x 24 ho B 50 i0 R.zero.val 3 24 Tryd.underlying24 hi hz0 hz1 hz2 rfl (by decide) v M.length (cells3 M) hs hown
    ad m c (cells3 L) hx (by rw [cells3_length, hl]) hc (one_cells L) (by unfold maxLen; omega) (by omega) hB ?_
  intro v' w' hown' hg hn
  rw [cells3_append] at hown'
  exact h v' w' (by unfold Mine; rw [List.length_append, hl]; exact hown') hg hn
theorem mine_one (w : World) (B : Nat) (hB : B ≤ w.heap.size) (r : R) : Mine (w.alloc (.cells #[.int .i64 r.key, .int .i64 r.value, .int .i64 r.width] 50)) B (.slice (some ⟨w.heap.size, 0, none⟩) 1 1) [r] :=
  ⟨rfl, .inr ⟨w.heap.size, 1, _, rfl, hB, heap_alloc_new w _, Nat.le_refl _, by unfold maxLen; simp, rfl, rfl⟩⟩
theorem mine_zero (w : World) (B : Nat) (hB : B ≤ w.heap.size) : Mine (w.alloc (.cells #[] 50)) B (.slice (some ⟨w.heap.size, 0, none⟩) 0 0) [] :=
  World.ownsRow_made w #[] 0 hB (Nat.zero_le _) (by simp)
theorem getD_ext {A B : List R} (h : A.length = B.length) (he : ∀ t, t < A.length → A.getD t R.zero = B.getD t R.zero) : A = B := by
  apply List.ext_getElem h
  intro t h1 h2
  have := he t h1
  simpa [List.getD, h1, h2] using this
theorem take_set3 {α : Type} (cur : List α) (m : Nat) (a b c : α) (h : m + 3 ≤ cur.length) : (((cur.set m a).set (m + 1) b).set (m + 2) c).take (m + 3) = cur.take m ++ [a, b, c] := by
  apply List.ext_getElem
  · simp; omega
  · intro i h1 h2
    simp only [List.getElem_take, List.getElem_set, List.getElem_append, List.length_take]
    have hm : min m cur.length = m := by omega
    simp only [hm]
    by_cases h3 : i < m
    · rw [if_neg (by omega), if_neg (by omega), if_neg (by omega), dif_pos h3]
    · rw [dif_neg h3]
      simp at h1
      have h4 : i = m ∨ i = m + 1 ∨ i = m + 2 := by omega
      rcases h4 with rfl | rfl | rfl
      · rw [if_neg (by omega), if_neg (by omega), if_pos rfl]; simp
      · rw [if_neg (by omega), if_pos rfl]; simp
      · rw [if_pos rfl]; simp
theorem Mine.push {w : World} {B g n cap : Nat} {X : List R} (h : Mine w B (.slice (some ⟨g, 0, none⟩) n cap) X) (hr : n < cap) (s : R) :
    (∀ j, j < 3 → (w.cell? ⟨g, n * 3 + j, none⟩).isSome = true ∧ w.frozen? ⟨g, n * 3 + j, none⟩ = false) ∧
    Mine (((w.setCell ⟨g, n * 3, none⟩ (.int .i64 s.key)).setCell ⟨g, n * 3 + 1, none⟩ (.int .i64 s.value)).setCell ⟨g, n * 3 + 2, none⟩ (.int .i64 s.width)) B (.slice (some ⟨g, 0, none⟩) (n + 1) cap) (X ++ [s]) := by
  have hl := h.len
  obtain ⟨h1, ⟨h0, h2⟩ | ⟨g', cap', cur, hv, hB, hh, hcap, hmax, hsz, htake⟩⟩ := h
  · injection h0 with e1; cases e1
  · injection hv with e1 e2 e3
    injection e1 with e1
    injection e1 with e1 _ _
    subst e1 e3
    have hcs : n * 3 + 3 ≤ cur.size := by omega
    refine ⟨fun j hj => ⟨?_, by simp [World.frozen?, hh]⟩, ?_⟩
    · simp only [World.cell?, hh]
      have : n * 3 + j < cur.size := by omega
      simp [this]
    · have s1 := Joins.block_setCell hh (i := n * 3) (.int .i64 s.key)
      have s2 := Joins.block_setCell s1 (i := n * 3 + 1) (.int .i64 s.value)
      have s3 := Joins.block_setCell s2 (i := n * 3 + 2) (.int .i64 s.width)
      have hln : (X ++ [s]).length = n + 1 := by rw [List.length_append, hl]; rfl
      refine ⟨cells3_length _, .inr ⟨g, cap, _, by rw [hln], hB, s3, by omega, hmax, by simpa using hsz, ?_⟩⟩
      rw [hln, show (n + 1) * 3 = n * 3 + 3 by omega]
      rw [← cells3_append, ← htake, hl]
      simp only [Array.toList_setIfInBounds]
      rw [take_set3 _ _ _ _ _ (by simpa using hcs)]
      rfl
theorem IsRows.at {w : World} {a : Option Addr} {len : Nat} {L : List R} (h : IsRows w a len L) {t : Nat} (ht : t < len) : ∃ b o : Nat, a = some ⟨b, o, none⟩ ∧ b < w.heap.size ∧ RowAt w b (o + t * 3) (L.getD t R.zero) := by
  obtain ⟨-, -, h0 | ⟨b, o, e, hb, hc⟩⟩ := h
  · omega
  · exact ⟨b, o, e, hb, hc t ht⟩
end Go.Proofs.YtpnbnbhifpcelaaDoor
/- Shapes of records: their leaves one behind the other (numbers, truth values, slices); an element of a slice, and what a change of it leaves; no function of program or reference is walked here. -/
namespace Go.Proofs.YtpnbnbhifpcelaaDoor
open Go.RowKit
def I64 (x : Int) : Prop := -9223372036854775808 ≤ x ∧ x ≤ 9223372036854775807
def endRep : Rep Unit where
  H := Unit
  size := 0
  cells := fun _ _ => []
  inn := fun _ _ _ => True
  own := fun _ _ _ _ F => F = []
  len := fun _ _ => rfl
  inn_keep := fun h _ => h
  own_inn := fun _ => trivial
  own_lt := fun h y hy => by rw [h] at hy; cases hy
  own_stay := fun h _ => h
  own_apart := fun h => by rw [h]; exact List.Pairwise.nil
  own_mono := fun h _ => h
def intAnd {β : Type} (s : Rep β) : Rep (Int × β) where
  H := s.H
  size := s.size + 1
  cells := fun x h => .int .i64 x.1 :: s.cells x.2 h
  inn := fun w x h => I64 x.1 ∧ s.inn w x.2 h
  own := fun w B x h F => I64 x.1 ∧ s.own w B x.2 h F
  len := fun x h => by rw [List.length_cons, s.len]
  inn_keep := fun h hb => ⟨h.1, s.inn_keep h.2 hb⟩
  own_inn := fun h => ⟨h.1, s.own_inn h.2⟩
  own_lt := fun h => s.own_lt h.2
  own_stay := fun h hs => ⟨h.1, s.own_stay h.2 hs⟩
  own_apart := fun h => s.own_apart h.2
  own_mono := fun h hb => ⟨h.1, s.own_mono h.2 hb⟩
def boolAnd {β : Type} (s : Rep β) : Rep (Bool × β) where
  H := s.H
  size := s.size + 1
  cells := fun x h => .bool x.1 :: s.cells x.2 h
  inn := fun w x h => s.inn w x.2 h
  own := fun w B x h F => s.own w B x.2 h F
  len := fun x h => by rw [List.length_cons, s.len]
  inn_keep := fun h hb => s.inn_keep h hb
  own_inn := fun h => s.own_inn h
  own_lt := fun h => s.own_lt h
  own_stay := fun h hs => s.own_stay h hs
  own_apart := fun h => s.own_apart h
  own_mono := fun h hb => s.own_mono h hb
def seqAnd {α β : Type} (r : Rep α) (s : Rep β) : Rep (List α × β) where
  H := (Option Addr × Nat × Nat) × s.H
  size := s.size + 1
  cells := fun x h => .slice h.1.1 h.1.2.1 h.1.2.2 :: s.cells x.2 h.2
  inn := fun w x h => (seqRep r).inn w x.1 h.1 ∧ s.inn w x.2 h.2
  own := fun w B x h F => ∃ F1 F2, F = F1 ++ F2 ∧ (seqRep r).own w B x.1 h.1 F1 ∧ s.own w B x.2 h.2 F2 ∧ ∀ a ∈ F1, ∀ b ∈ F2, a.apart b
  len := fun x h => by rw [List.length_cons, s.len]
  inn_keep := fun h hb => ⟨(seqRep r).inn_keep h.1 hb, s.inn_keep h.2 hb⟩
  own_inn := fun ⟨_, _, _, h1, h2, _⟩ => ⟨(seqRep r).own_inn h1, s.own_inn h2⟩
  own_lt := fun ⟨_, _, e, h1, h2, _⟩ y hy => by
    rw [e] at hy
    exact (List.mem_append.1 hy).elim ((seqRep r).own_lt h1 y) (s.own_lt h2 y)
  own_stay := fun ⟨F1, F2, e, h1, h2, h3⟩ hs => by
    subst e
    exact ⟨F1, F2, rfl, (seqRep r).own_stay h1 (hs.sub fun y hy => List.mem_append_left _ hy), s.own_stay h2 (hs.sub fun y hy => List.mem_append_right _ hy), h3⟩
  own_apart := fun ⟨F1, F2, e, h1, h2, h3⟩ => by
    subst e
    exact List.pairwise_append.2 ⟨(seqRep r).own_apart h1, s.own_apart h2, h3⟩
  own_mono := fun ⟨F1, F2, e, h1, h2, h3⟩ hb => ⟨F1, F2, e, (seqRep r).own_mono h1 hb, s.own_mono h2 hb, h3⟩
def viaRep {α β : Type} (f : α → β) (r : Rep β) : Rep α where
  H := r.H
  size := r.size
  cells := fun x h => r.cells (f x) h
  inn := fun w x h => r.inn w (f x) h
  own := fun w B x h F => r.own w B (f x) h F
  len := fun x h => r.len (f x) h
  inn_keep := fun h hb => r.inn_keep h hb
  own_inn := fun h => r.own_inn h
  own_lt := fun h => r.own_lt h
  own_stay := fun h hs => r.own_stay h hs
  own_apart := fun h => r.own_apart h
  own_mono := fun h hb => r.own_mono h hb
theorem OnlyAt.within {F G : List Reg} {a b : World} (h : OnlyAt F a b) (hs : ∀ r ∈ F, ∃ s ∈ G, s.b = r.b ∧ s.lo ≤ r.lo ∧ r.hi ≤ s.hi) : OnlyAt G a b :=
  ⟨h.os, h.tape, h.output, h.size,
    fun i hi hne => h.block i hi fun r hr e => by obtain ⟨s, hs, e1, -, -⟩ := hs r hr; exact hne s hs (e1.trans e),
    fun i j hi hne => h.cell i j hi fun r hr e => by
      obtain ⟨s, hs, e1, h1, h2⟩ := hs r hr
      rcases hne s hs (e1.trans e) with h3 | h3
      · left; omega
      · right; omega,
    h.frozen⟩
/-! ### The laws' counters and sizes -/
structure Mk (α : Type) where
  mark : Int → α → α
  cnt : α → Nat
  cnt_mark : ∀ q x, cnt (mark q x) = cnt x
def mkAll {α : Type} (m : Mk α) : Int → List α → List α
  | _, [] => []
  | q, x :: xs => m.mark q x :: mkAll m (q + m.cnt x) xs
def cntAll {α : Type} (m : Mk α) (xs : List α) : Nat := (xs.map m.cnt).sum
theorem cntAll_cons {α : Type} (m : Mk α) (x : α) (xs : List α) : cntAll m (x :: xs) = m.cnt x + cntAll m xs := rfl
theorem cnt_mkAll {α : Type} (m : Mk α) : ∀ (q : Int) (xs : List α), cntAll m (mkAll m q xs) = cntAll m xs
  | _, [] => rfl
  | q, x :: xs => by rw [mkAll, cntAll_cons, cntAll_cons, m.cnt_mark, cnt_mkAll m _ xs]
def seqMk {α : Type} (m : Mk α) : Mk (List α) := ⟨mkAll m, cntAll m, cnt_mkAll m⟩
def rowsMk : Mk (List R) := ⟨fun q L => marked L.length q, fun L => 3 * L.length, fun q L => by rw [marked_length]⟩
def wtAll {α : Type} (f : α → Nat) (xs : List α) : Nat := xs.length + (xs.map f).sum
end Go.Proofs.YtpnbnbhifpcelaaDoor
/- What a call gives: a slice in memory of its own; stretches that are apart; no function of program or reference is walked here. -/
namespace Go.Proofs.YtpnbnbhifpcelaaDoor
open Go.RowKit
theorem Stay.set {F : List Reg} {w w' : World} (h : Stay F w w') {g i : Nat} (u : Value) (hne : ∀ y ∈ F, y.b ≠ g) : Stay F w (w'.setCell ⟨g, i, none⟩ u) :=
  ⟨by simpa [World.setCell] using h.size, fun y hy j h1 h2 => ⟨(World.cell?_setCell_other _ _ _ _ (fun e => by injection e with e _ _; exact hne y hy e.symm)).trans (h.cell y hy j h1 h2).1, (World.frozen?_setCell w' _ _ _).trans (h.cell y hy j h1 h2).2⟩⟩
theorem Stay.refl (F : List Reg) (w : World) : Stay F w w := ⟨Nat.le_refl _, fun _ _ _ _ _ => ⟨rfl, rfl⟩⟩
def Gives {α : Type} (r : Rep α) (xs : List α) (w : World) (e : Ending) (w' : World) : Prop :=
  ∃ (x : Option Addr) (k m : Nat) (F : List Reg), e = .returned (.slice x k m) ∧ SeqOwn r w' w.heap.size x k xs F ∧ Below w.heap.size w w'
theorem Below.marked {α : Type} {r : Rep α} {w0 w w' : World} {B n : Nat} {a : Option Addr} {xs : List α} {F : List Reg} (h : SeqOwn r w B a n xs F) (ho : OnlyAt F w w') (hb : Below w0.heap.size w0 w) (hB : w0.heap.size ≤ B) : Below w0.heap.size w0 w' :=
  hb.trans (ho.below hb.size fun y hy => Nat.le_trans hB (h.lt y hy).1)
/-! ### What is the call's own, whatever its shape -/
theorem Rep.own.lt {α : Type} {r : Rep α} {w : World} {B : Nat} {x : α} {h : r.H} {F : List Reg} (ho : r.own w B x h F) : ∀ y ∈ F, B ≤ y.b ∧ y.b < w.heap.size := r.own_lt ho
theorem Rep.own.inn {α : Type} {r : Rep α} {w : World} {B : Nat} {x : α} {h : r.H} {F : List Reg} (ho : r.own w B x h F) : r.inn w x h := r.own_inn ho
theorem Rep.own.keep {α : Type} {r : Rep α} {w w' : World} {B : Nat} {x : α} {h : r.H} {F : List Reg} (ho : r.own w B x h F) (hb : Below w.heap.size w w') : r.own w' B x h F := r.own_stay ho (Stay.of_below hb fun y hy => (r.own_lt ho y hy).2)
theorem Rep.inn.keep {α : Type} {r : Rep α} {w w' : World} {x : α} {h : r.H} (hi : r.inn w x h) (hb : Below w.heap.size w w') : r.inn w' x h := r.inn_keep hi hb
end Go.Proofs.YtpnbnbhifpcelaaDoor
/- What changes one block alone; no function of program or reference is walked here. -/
namespace Go.Proofs.YtpnbnbhifpcelaaDoor
open Go.RowKit
def Only (c : Nat) (w w' : World) : Prop := w.grownBy w' (some c)
theorem Only.refl (c : Nat) (w : World) : Only c w w := World.grownBy.refl w _
theorem Only.trans {c : Nat} {a b d : World} (h : Only c a b) (k : Only c b d) : Only c a d :=
  ⟨k.os.trans h.os, k.tape.trans h.tape, k.output.trans h.output, Nat.le_trans h.size k.size, fun i hi hne => (k.block i (Nat.lt_of_lt_of_le hi h.size) hne).trans (h.block i hi hne)⟩
theorem Only.drew {c : Nat} {a w : World} (h : Only c a w) : Only c a w.drew := ⟨h.os, h.tape, h.output, h.size, h.block⟩
theorem Only.drewN {c : Nat} {a w : World} (h : Only c a w) (n : Nat) : Only c a (w.drewN n) := ⟨h.os, h.tape, h.output, h.size, h.block⟩
theorem Only.alloc {c : Nat} {a w : World} (h : Only c a w) (o : Obj) : Only c a (w.alloc o) :=
  ⟨h.os, h.tape, h.output, Nat.le_trans h.size (by simp), fun i hi hne => (Below.heap_alloc w o i (Nat.lt_of_lt_of_le hi h.size)).trans (h.block i hi hne)⟩
theorem Only.setCell {c : Nat} {a w : World} (h : Only c a w) (i : Nat) (u : Value) : Only c a (w.setCell ⟨c, i, none⟩ u) :=
  ⟨h.os, h.tape, h.output, by simpa [World.setCell] using h.size, fun k hk hne => (Below.heap_setCell w ⟨c, i, none⟩ u k (fun e => hne (by rw [e]))).trans (h.block k hk hne)⟩
theorem Only.of_below {c : Nat} {a w : World} (h : Below a.heap.size a w) : Only c a w := ⟨h.os, h.tape, h.output, h.size, fun i hi _ => h.block i hi⟩
theorem Only.step {c : Nat} {a b d : World} (h : Only c a b) (k : Below a.heap.size b d) : Only c a d :=
  ⟨k.os.trans h.os, k.tape.trans h.tape, k.output.trans h.output, Nat.le_trans h.size k.size, fun i hi hne => (k.block i hi).trans (h.block i hi hne)⟩
theorem Only.below {c B : Nat} {a b : World} (h : Only c a b) (hB : B ≤ a.heap.size) (hc : B ≤ c) : Below B a b :=
  ⟨h.os, h.tape, h.output, h.size, fun i hi => h.block i (Nat.lt_of_lt_of_le hi hB) (fun e => by injection e with e; omega)⟩
end Go.Proofs.YtpnbnbhifpcelaaDoor
/- The laws' copy of a row (toRow) and comparison (eqRow), by contract. -/
namespace Go.Proofs.YtpnbnbhifpcelaaDoor
open Go.RowKit
end Go.Proofs.YtpnbnbhifpcelaaDoor
/- The laws' copy of a slice of rows (toRowS), by contract. -/
namespace Go.Proofs.YtpnbnbhifpcelaaDoor
open Go.RowKit
end Go.Proofs.YtpnbnbhifpcelaaDoor
/- The laws' marks on rows of the call's own, and what they leave alone; the sizes that the laws reckon; no function of program or reference is walked here. -/
namespace Go.Proofs.YtpnbnbhifpcelaaDoor
open Go.RowKit
theorem Mine.apart {w w' : World} {B B' s : Nat} {v v' : Value} {L L' : List R} (h : Mine w B v L) (h' : Mine w' B' v' L') (hs : w.heap.size ≤ s) (hB : s ≤ B') : ∀ k, v.ownBlock = some k → v'.ownBlock ≠ some k := fun k hk hk' => by
  have h1 := (World.ownsRow.lt h k hk).2
  have h2 := (World.ownsRow.lt h' k hk').1
  omega
theorem apart_symm {v v' : Value} (h : ∀ k, v.ownBlock = some k → v'.ownBlock ≠ some k) : ∀ k, v'.ownBlock = some k → v.ownBlock ≠ some k := fun k hk hk' => h k hk' hk
end Go.Proofs.YtpnbnbhifpcelaaDoor
/- Rows among the arguments of a law: a struct by value, and a slice of them: from the reading to the mathematics and back. -/
namespace Go.Proofs.YtpnbnbhifpcelaaDoor
open Go Go.ChangeShapes Go.WideShapes Go.RowKit Go.Deep Go.Joins
def R.dat {H : Type} (r : R) : DataW H := .agg [.lit (.int .i64 r.key), .lit (.int .i64 r.value), .lit (.int .i64 r.width)]
section
variable {H : Type} {enc : TypeId × Value → H} {w : World} {base : Nat} {spare : Nat → Bool} {held : Bool}
end
end Go.Proofs.YtpnbnbhifpcelaaDoor
/- Arguments of whatever shape: from the reading to the mathematics, by the type; no function of program or reference is walked here. -/
namespace Go.Proofs.YtpnbnbhifpcelaaDoor
open Go Go.ChangeShapes Go.WideShapes Go.RowKit Go.Deep Go.Joins
def Opens (T : TypeId) {α : Type} (r : Rep α) : Prop :=
  ∀ (H : Type) (enc : TypeId × Value → H) (w : World) (spare : Nat → Bool) (held : Bool) (fuel : Nat) (cs : List Value) (x : DataW H × List MemPlace), DataW.trod enc Tryd.prog w 0 spare held fuel T cs = some x → cs.length = r.size → ∃ (y : α) (h : r.H), cs = r.cells y h ∧ r.inn w y h
set_option maxRecDepth 100000 in
theorem Opens.seq {T e : TypeId} {α : Type} {r : Rep α} (ht : Tryd.prog.underlying T = some (.slice e)) (hc : Tryd.prog.cellsOf e = r.size) (hp : 0 < r.size) (hO : Opens e r) : Opens T (seqRep r) := by
  intro H enc w spare held fuel cs x h _
  rcases open_slice ht h with ⟨rfl, -⟩ | ⟨a, len, cap, m, n, D, Pl, rfl, -, hl, hm, hmm, -, hi⟩
  · exact ⟨[], (none, 0, 0), rfl, ⟨rfl, Nat.zero_le _, .inl rfl⟩, fun _ => rfl⟩
  · have hlm : len ≤ m := by rw [hmm]; split <;> omega
    rw [hc] at hi
    rcases Nat.eq_zero_or_pos len with h0 | h0
    · subst h0
      exact ⟨[], (some a, 0, cap), rfl, ⟨rfl, Nat.zero_le _, .inl rfl⟩, fun e => by cases e⟩
    · have hone : ∀ i, i < len → ∃ (yh : α × r.H), (∀ j u, (r.cells yh.1 yh.2)[j]? = some u → w.cell? (a.add (i * r.size + j)) = some u) ∧ r.inn w yh.1 yh.2 := by
        intro i hil
        obtain ⟨cs', hcs, htr⟩ := hi i (by omega)
        obtain ⟨_, hcl, hat⟩ := World.cells?_some hcs
        obtain ⟨y, hd, rfl, hin⟩ := hO H enc w spare held n cs' _ htr hcl
        refine ⟨(y, hd), fun j u hj => ?_, hin⟩
        have hjl : j < r.size := by rw [← hcl]; exact idx_lt hj
        have := hat j hjl
        rw [add_add] at this
        rw [this]
        exact hj
      obtain ⟨yh0, -⟩ := hone 0 h0
      obtain ⟨f, hf⟩ := @choose_lt (α × r.H) ⟨yh0⟩ len _ hone
      obtain ⟨b, o, spot⟩ := a
      have hl0 : 0 < (r.cells (f 0).1 (f 0).2).length := by rw [r.len]; exact hp
      have hcell0 := (hf 0 h0).1 0 ((r.cells (f 0).1 (f 0).2)[0]) (by simp [hl0])
      have hspot : spot = none := by simpa [Addr.add] using World.cell?_spot hcell0
      subst hspot
      have hb : b < w.heap.size := by
        have := World.block_lt_of_cell? w _ hcell0
        simpa [Addr.add] using this
      refine ⟨(List.range len).map fun t => (f t).1, (some ⟨b, o, none⟩, len, cap), rfl, ⟨by simp, by show len ≤ maxLen; omega, .inr ⟨b, o, rfl, hb, fun t => (f t).2, fun t x hx => ?_⟩⟩, fun e => by cases e⟩
      have htl : t < len := by simpa using idx_lt hx
      obtain rfl : (f t).1 = x := by simpa [htl] using hx
      refine ⟨fun j u hj => ?_, (hf t htl).2⟩
      have := (hf t htl).1 j u hj
      rw [Addr.add_lit] at this
      rw [Nat.add_assoc]
      exact this
set_option maxRecDepth 100000 in
theorem Opens.one {T : TypeId} {f0 : Field} {α : Type} {r : Rep α} (hs : Tryd.prog.underlying T = some (.struct #[f0])) (ho : f0.offset = 0) (hc : Tryd.prog.cellsOf f0.type = r.size) (hO : Opens f0.type r) : Opens T r := by
  intro H enc w spare held fuel cs x h hl
  obtain ⟨y0, n, -, -, h0⟩ := trod_struct1 hs h
  rw [ho, hc, List.drop_zero, List.take_of_length_le (by omega)] at h0
  exact hO H enc w spare held n cs _ h0 hl
set_option maxRecDepth 100000 in
theorem Opens.val {T : TypeId} {fs : Array Field} {α : Type} {r : Rep α} (hO : Opens T r) (hs : Tryd.prog.underlying T = some (.struct fs)) (hc : Tryd.prog.cellsOf T = r.size)
    {H : Type} {enc : TypeId × Value → H} {w : World} {spare : Nat → Bool} {held : Bool} {q : Reach} {b0 : Nat} {v : Value} {d : DataW H} {p : List MemPlace} (hv : Value.okWide Tryd.prog w q b0 T v) (h : DataW.Trod enc Tryd.prog w 0 spare held T v d p) :
    ∃ (y : α) (hd : r.H), v = .agg (r.cells y hd).toArray ∧ r.inn w y hd := by
  obtain ⟨cs, rfl, hsz⟩ := okWide_struct hs hv
  obtain ⟨fuel, hf⟩ := h
  obtain ⟨y, hd, e, hi⟩ := hO H enc w spare held fuel _ _ hf (by simpa [Value.cells] using hsz.trans hc)
  refine ⟨y, hd, ?_, hi⟩
  simp only [Value.cells] at e
  rw [← e]
set_option maxRecDepth 100000 in
theorem Opens.arg {T : TypeId} {α : Type} {r : Rep α} (hO : Opens T (seqRep r)) {H : Type} {enc : TypeId × Value → H} {w : World} {spare : Nat → Bool} {held : Bool} {a : Option Addr} {len cap : Nat} {d : DataW H} {p : List MemPlace}
    (h : DataW.Trod enc Tryd.prog w 0 spare held T (.slice a len cap) d p) : ∃ xs : List α, SeqIn r w a len xs := by
  obtain ⟨fuel, hf⟩ := h
  obtain ⟨y, ⟨a', n', c'⟩, e, hi⟩ := hO H enc w spare held fuel _ _ hf (by simp [Value.cells, seqRep])
  simp [Value.cells, seqRep] at e
  obtain ⟨rfl, rfl, rfl⟩ := e
  exact ⟨y, hi.1⟩
end Go.Proofs.YtpnbnbhifpcelaaDoor
/- The laws' marks on rows that lie in a stretch of a block; sizes; copies as owned slices; no function of program or reference is walked here. -/
namespace Go.Proofs.YtpnbnbhifpcelaaDoor
open Go.RowKit
theorem set3_cells {w : World} {b o : Nat} {x y z : Value} (h0 : w.cell? ⟨b, o, none⟩ = some x) (h1 : w.cell? ⟨b, o + 1, none⟩ = some y) (h2 : w.cell? ⟨b, o + 2, none⟩ = some z) (r : R) :
    RowAt (((w.setCell ⟨b, o, none⟩ (.int .i64 r.key)).setCell ⟨b, o + 1, none⟩ (.int .i64 r.value)).setCell ⟨b, o + 2, none⟩ (.int .i64 r.width)) b o r := by
  have n01 : (⟨b, o, none⟩ : Addr) ≠ ⟨b, o + 1, none⟩ := by intro e; injection e with _ e _; omega
  have n02 : (⟨b, o, none⟩ : Addr) ≠ ⟨b, o + 2, none⟩ := by intro e; injection e with _ e _; omega
  have n12 : (⟨b, o + 1, none⟩ : Addr) ≠ ⟨b, o + 2, none⟩ := by intro e; injection e with _ e _; omega
  refine ⟨?_, ?_, ?_⟩
  · rw [World.cell?_setCell_other _ _ _ _ n02.symm, World.cell?_setCell_other _ _ _ _ n01.symm]
    exact World.cell?_setCell_same _ _ _ h0
  · rw [World.cell?_setCell_other _ _ _ _ n12.symm]
    refine World.cell?_setCell_same _ _ _ (u := y) ?_
    rw [World.cell?_setCell_other _ _ _ _ n01]
    exact h1
  · refine World.cell?_setCell_same _ _ _ (u := z) ?_
    rw [World.cell?_setCell_other _ _ _ _ n12, World.cell?_setCell_other _ _ _ _ n02]
    exact h2
theorem SeqOwn.row {w : World} {B n : Nat} {a : Option Addr} {L : List R} {F : List Reg} (h : SeqOwn rowRep w B a n L F) {k : Nat} (hk : k < n) :
    ∃ b o : Nat, a = some ⟨b, o, none⟩ ∧ b < w.heap.size ∧ RowAt w b (o + k * 3) (L.getD k R.zero) ∧ (∀ j, j < 3 → w.frozen? ⟨b, o + k * 3 + j, none⟩ = false) ∧
      ∀ r : R, r.wf → SeqOwn rowRep (((w.setCell ⟨b, o + k * 3, none⟩ (.int .i64 r.key)).setCell ⟨b, o + k * 3 + 1, none⟩ (.int .i64 r.value)).setCell ⟨b, o + k * 3 + 2, none⟩ (.int .i64 r.width)) B a n (L.set k r) F ∧
        ∀ w0, OnlyAt F w0 w → OnlyAt F w0 (((w.setCell ⟨b, o + k * 3, none⟩ (.int .i64 r.key)).setCell ⟨b, o + k * 3 + 1, none⟩ (.int .i64 r.value)).setCell ⟨b, o + k * 3 + 2, none⟩ (.int .i64 r.width)) := by
  obtain ⟨h1, hm, ⟨h0, -⟩ | ⟨b, o, hs, Fs, rfl, hB, hlt, rfl, hp, hf, hx⟩⟩ := h
  · omega
  · have hkl : k < L.length := by omega
    have hg : L.getD k R.zero = L[k] := by simp [List.getD, hkl]
    have hle : k * 3 + 3 ≤ n * 3 := by omega
    obtain ⟨hc, -⟩ := hx k L[k] (by simp [hkl])
    have c0 := hc 0 _ rfl
    have c1 := hc 1 _ rfl
    have c2 := hc 2 _ rfl
    have hhead : (⟨b, o, o + n * rowRep.size⟩ : Reg) ∈ (⟨b, o, o + n * rowRep.size⟩ : Reg) :: (List.range n).flatMap Fs := List.mem_cons_self ..
    refine ⟨b, o, rfl, hlt, by rw [hg]; exact ⟨c0, c1, c2⟩, fun j hj => hf _ (by omega) (by show _ < o + n * 3; omega), fun r hr => ⟨?_, fun w0 h0 => ?_⟩⟩
    · refine ⟨by rw [List.length_set]; exact h1, hm, .inr ⟨b, o, hs, Fs, rfl, hB, by simpa [World.setCell] using hlt, rfl, hp, fun j ha hb => ?_, fun t x ht => ?_⟩⟩
      · rw [World.frozen?_setCell, World.frozen?_setCell, World.frozen?_setCell]
        exact hf j ha hb
      · have htl : t < L.length := by have := idx_lt ht; rwa [List.length_set] at this
        by_cases htk : t = k
        · subst htk
          rw [List.getElem?_set_self htl] at ht
          obtain rfl := Option.some.inj ht
          refine ⟨fun j u hj => ?_, hr, (hx t L[t] (by simp [htl])).2.2⟩
          have e0 : w.cell? ⟨b, o + t * 3, none⟩ = some (.int .i64 (L[t]).key) := c0
          have e1 : w.cell? ⟨b, o + t * 3 + 1, none⟩ = some (.int .i64 (L[t]).value) := c1
          have e2 : w.cell? ⟨b, o + t * 3 + 2, none⟩ = some (.int .i64 (L[t]).width) := c2
          have hq := set3_cells e0 e1 e2 r
          match j, hj with
          | 0, hj => obtain rfl := Option.some.inj hj; exact hq.1
          | 1, hj => obtain rfl := Option.some.inj hj; exact hq.2.1
          | 2, hj => obtain rfl := Option.some.inj hj; exact hq.2.2
        · rw [List.getElem?_set_ne (fun e => htk e.symm)] at ht
          obtain ⟨hc', ho'⟩ := hx t x ht
          refine ⟨fun j u hj => ?_, ho'⟩
          have hj3 : j < 3 := idx_lt hj
          have hcj := hc' j u hj
          have hoff : ∀ i, i < 3 → (⟨b, o + k * 3 + i, none⟩ : Addr) ≠ ⟨b, o + t * rowRep.size + j, none⟩ := by
            intro i hi e
            injection e with _ e _
            have : o + k * 3 + i = o + t * 3 + j := e
            omega
          rw [World.cell?_setCell_other _ _ _ _ (hoff 2 (by omega)), World.cell?_setCell_other _ _ _ _ (hoff 1 (by omega)), World.cell?_setCell_other _ _ _ _ (show (⟨b, o + k * 3, none⟩ : Addr) ≠ _ from hoff 0 (by omega))]
          exact hcj
    · refine (((h0.set hhead rfl ?_ ?_ _).set hhead rfl ?_ ?_ _).set hhead rfl ?_ ?_ _)
      all_goals first | (show o ≤ _; omega) | (show _ < o + n * 3; omega)
def szR (left : Int) (n : Nat) : Int := if left < n then -1 else left - n
end Go.Proofs.YtpnbnbhifpcelaaDoor
/- What the texts of the laws' types share; no function of program or reference is walked here. -/
namespace Go.Proofs.YtpnbnbhifpcelaaDoor
open Go.RowKit
set_option linter.unusedVariables false
theorem OnlyAt.put {w : World} {b lo hi j : Nat} (w0 : World) (h : OnlyAt [⟨b, lo, hi⟩] w0 w) (h1 : lo ≤ j) (h2 : j < hi) (u : Value) : OnlyAt [⟨b, lo, hi⟩] w0 (w.setCell ⟨b, j, none⟩ u) := h.set (List.mem_singleton.2 rfl) rfl h1 h2 u
theorem Calls.named {P : Program} {f : FuncId} {a : Array Value} {w : World} {Q : Ending → World → Prop} (h : ∀ V, V = w → Calls P f a V Q) : Calls P f a w Q := h w rfl
def putCells : World → Nat → Nat → List Value → World
  | w, _, _, [] => w
  | w, g, o, v :: vs => putCells (w.setCell ⟨g, o, none⟩ v) g (o + 1) vs
end Go.Proofs.YtpnbnbhifpcelaaDoor
/- Rows: the laws' weight of a slice of them; no function of program or reference is walked here. -/
namespace Go.Proofs.YtpnbnbhifpcelaaDoor
open Go.RowKit
set_option linter.unusedVariables false
def wtRows (X : List R) : Nat := X.length
end Go.Proofs.YtpnbnbhifpcelaaDoor
/- Run: the datum, its shape, the laws' marks over it, its weight; no function of program or reference is walked here. -/
namespace Go.Proofs.YtpnbnbhifpcelaaDoor
open Go.RowKit
set_option linter.unusedVariables false
abbrev runRep : Rep (List R) := seqRep rowRep
def runMk : Mk (List R) := ⟨fun q x => rowsMk.mark (q) x, fun x => rowsMk.cnt x, fun q x => by first | rfl | simp [Mk.cnt_mark]⟩
def runsMk : Mk (List (List R)) := seqMk runMk
def wtRun (x : List R) : Nat := wtRows x
def wtRuns (X : List (List R)) : Nat := wtAll wtRun X
end Go.Proofs.YtpnbnbhifpcelaaDoor
