/- Plain mathematics behind the encodings of chapter 1: fixed-width numbers, LEB128 varints, hexadecimal digits, over lists of bytes; no program. -/
namespace Go.Proofs.Ytckfagjffpajdaa.Num

/-! ### Fixed width -/
/-- The w lowest base-256 digits of n, the highest first. -/
def be : Nat → Nat → List UInt8
  | 0, _ => []
  | w + 1, n => UInt8.ofNat (n / 256 ^ w) :: be w n
theorem be_length : ∀ w n, (be w n).length = w
  | 0, _ => rfl
  | w + 1, n => by simp [be, be_length w n]
/-- The number that a row of bytes spells, the highest byte first. -/
def bval : List UInt8 → Nat := List.foldl (fun a b => a * 256 + b.toNat) 0
theorem bval_snoc (l : List UInt8) (b : UInt8) : bval (l ++ [b]) = bval l * 256 + b.toNat := by simp [bval]
theorem bval_nil : bval [] = 0 := rfl
theorem foldl_bval : ∀ (l : List UInt8) (a : Nat), List.foldl (fun a b => a * 256 + b.toNat) a l = a * 256 ^ l.length + List.foldl (fun a b => a * 256 + b.toNat) 0 l
  | [], a => by simp
  | b :: l, a => by
    rw [List.foldl_cons, foldl_bval l, List.foldl_cons, foldl_bval l (0 * 256 + b.toNat), List.length_cons, Nat.pow_succ, Nat.zero_mul, Nat.zero_add, Nat.add_mul]
    have : a * 256 * 256 ^ l.length = a * (256 ^ l.length * 256) := by rw [Nat.mul_assoc, Nat.mul_comm 256]
    omega
theorem bval_cons (b : UInt8) (l : List UInt8) : bval (b :: l) = b.toNat * 256 ^ l.length + bval l := by
  rw [bval, List.foldl_cons, foldl_bval]; simp
theorem bval_lt : ∀ (l : List UInt8), bval l < 256 ^ l.length
  | [] => by simp [bval]
  | b :: l => by
    have ih := bval_lt l
    have hb : b.toNat ≤ 255 := by have := b.toNat_lt; omega
    have hm := Nat.mul_le_mul_right (256 ^ l.length) hb
    rw [bval_cons, List.length_cons, Nat.pow_succ]
    omega
theorem bval_be : ∀ (w n : Nat), bval (be w n) = n % 256 ^ w
  | 0, n => by simp [be, bval, Nat.mod_one]
  | w + 1, n => by
    rw [be, bval_cons, be_length, bval_be w n, UInt8.toNat_ofNat', Nat.pow_succ 256 w, Nat.mod_mul, Nat.mul_comm, Nat.add_comm]
theorem be_append (w n k : Nat) : be (w + k) n = be k (n / 256 ^ w) ++ be w n := by
  induction k with
  | zero => simp [be]
  | succ k ih => rw [← Nat.add_assoc, be, ih, be, Nat.div_div_eq_div_mul, Nat.pow_add]; rfl
/-- What EncodeFixed answers. -/
def encFixed (n width : Int) : List UInt8 := if 1 ≤ width ∧ width ≤ 7 ∧ 0 ≤ n ∧ n.toNat < 256 ^ width.toNat then be width.toNat n.toNat else []
/-- What DecodeFixed answers: the number, and whether there is one. -/
def decFixedOk (l : List UInt8) (width : Int) : Bool := decide (1 ≤ width ∧ width ≤ 7 ∧ width ≤ l.length)
def decFixed (l : List UInt8) (width : Int) : Nat := if decFixedOk l width then bval (l.take width.toNat) else 0

/-! ### Varints -/
/-- LEB128 with at most f further bytes. -/
def leb : Nat → Nat → List UInt8
  | 0, n => [UInt8.ofNat n]
  | f + 1, n => if n < 128 then [UInt8.ofNat n] else UInt8.ofNat (128 + n % 128) :: leb f (n / 128)
/-- What EncodeVarint answers. -/
def encVar (n : Int) : List UInt8 := if 0 ≤ n ∧ n ≤ 562949953421311 then leb 6 n.toNat else []
/-- Seven bits a byte, the lowest group first. -/
def v7 : List UInt8 → Nat
  | [] => 0
  | b :: l => b.toNat % 128 + 128 * v7 l
theorem v7_snoc : ∀ (l : List UInt8) (b : UInt8), v7 (l ++ [b]) = v7 l + 128 ^ l.length * (b.toNat % 128)
  | [], b => by simp [v7]
  | c :: l, b => by
    rw [List.cons_append, v7, v7_snoc l b, v7, List.length_cons, Nat.pow_succ]
    have : 128 * (128 ^ l.length * (b.toNat % 128)) = 128 ^ l.length * 128 * (b.toNat % 128) := by rw [← Nat.mul_assoc, Nat.mul_comm 128]
    omega
theorem v7_lt : ∀ l : List UInt8, v7 l < 128 ^ l.length
  | [] => by simp [v7]
  | b :: l => by have := v7_lt l; rw [v7, List.length_cons, Nat.pow_succ]; have := Nat.mod_lt b.toNat (show 0 < 128 by decide); omega
/-- A varint, no byte more than it needs. -/
def canon : List UInt8 → Prop
  | [] => False
  | [b] => b.toNat < 128
  | b :: c :: l => 128 ≤ b.toNat ∧ v7 (c :: l) ≠ 0 ∧ canon (c :: l)
theorem ofNat_eq_iff (n : Nat) (b : UInt8) (h : n < 256) : UInt8.ofNat n = b ↔ n = b.toNat := by
  constructor
  · rintro rfl; rw [UInt8.toNat_ofNat']; omega
  · rintro rfl; simp
theorem leb_canon : ∀ (f : Nat) (l : List UInt8), l.length ≤ f + 1 → (leb f (v7 l) = l ↔ canon l)
  | _, [], _ => by
    rename_i f _; cases f <;> simp [leb, canon]; split <;> simp
  | 0, [b], _ => by
    have hb := b.toNat_lt
    simp only [leb, v7, canon, List.cons.injEq, and_true]
    rw [ofNat_eq_iff _ _ (by omega)]; omega
  | 0, _ :: _ :: _, h => by simp at h
  | f + 1, [b], _ => by
    have hb := b.toNat_lt
    have h7 : v7 [b] = b.toNat % 128 := by simp [v7]
    rw [h7, leb, if_pos (by omega), canon, List.cons.injEq, ofNat_eq_iff _ _ (by omega)]
    simp
  | f + 1, b :: c :: l, h => by
    have hb := b.toNat_lt
    have ih := leb_canon f (c :: l) (by simpa using h)
    rw [leb, v7, canon]
    by_cases h0 : v7 (c :: l) = 0
    · rw [h0, if_pos (by omega)]; simp
    · rw [if_neg (by omega), show (b.toNat % 128 + 128 * v7 (c :: l)) / 128 = v7 (c :: l) by omega, List.cons.injEq, ih, ofNat_eq_iff _ _ (by omega)]
      constructor
      · rintro ⟨h1, h2⟩; exact ⟨by omega, h0, h2⟩
      · rintro ⟨h1, _, h2⟩; exact ⟨by omega, h2⟩
/-- n back out of its varint. -/
theorem v7_leb : ∀ (f n : Nat), n < 128 ^ (f + 1) → v7 (leb f n) = n
  | 0, n, h => by simp at h; simp only [leb, v7, UInt8.toNat_ofNat']; omega
  | f + 1, n, h => by
    rw [leb]
    split
    · simp only [v7, UInt8.toNat_ofNat']; omega
    · rw [v7, v7_leb f (n / 128) (by rw [Nat.pow_succ] at h; omega), UInt8.toNat_ofNat']; omega
theorem leb_length : ∀ (f n : Nat), 1 ≤ (leb f n).length ∧ (leb f n).length ≤ f + 1
  | 0, n => by simp [leb]
  | f + 1, n => by
    have := leb_length f (n / 128)
    rw [leb]; split <;> simp <;> omega

/-! ### Hexadecimal digits -/
def hexDigit (k : Nat) : UInt8 := UInt8.ofNat (if k < 10 then 48 + k else 87 + k)
def hex : List UInt8 → List UInt8
  | [] => []
  | b :: l => hexDigit (b.toNat / 16) :: hexDigit (b.toNat % 16) :: hex l
theorem hex_append : ∀ (l r : List UInt8), hex (l ++ r) = hex l ++ hex r
  | [], _ => rfl
  | b :: l, r => by simp [hex, hex_append l r]
theorem hex_length : ∀ l : List UInt8, (hex l).length = 2 * l.length
  | [] => rfl
  | b :: l => by simp [hex, hex_length l]; omega
end Go.Proofs.Ytckfagjffpajdaa.Num
