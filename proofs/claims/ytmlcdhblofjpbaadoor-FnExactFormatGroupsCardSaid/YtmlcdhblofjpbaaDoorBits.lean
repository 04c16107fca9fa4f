/- What '&', '|' and '<<' of the program's integers are on numbers that are not below zero; no function of the program. -/
import Derived.WalkKit
import Derived.Laws.BitsAllLaws
import Derived.Laws.BitsLemmas
import Derived.IntWalk
namespace Go.Proofs.YtmlcdhblofjpbaaDoor
open Go.RowKit

theorem toNat_bv (a : Nat) (ha : a < 9223372036854775808) : (BitVec.ofInt 64 (a : Int)).toNat = a := by
  rw [BitVec.ofInt_natCast, BitVec.toNat_ofNat]; omega
theorem and64 (a b : Nat) (ha : a < 9223372036854775808) (hb : b < 9223372036854775808) : bits .and .i64 (a : Int) (b : Int) = ((a &&& b : Nat) : Int) := by
  have hx : a &&& b < 2 ^ 63 := Nat.and_lt_two_pow _ (by omega)
  show IntKind.i64.wrap ((BitVec.ofInt 64 (a : Int) &&& BitVec.ofInt 64 (b : Int)).toNat : Int) = _
  rw [BitVec.toNat_and, toNat_bv a ha, toNat_bv b hb, IntKind.wrap_i64]; omega
theorem or64 (a b : Nat) (ha : a < 9223372036854775808) (hb : b < 9223372036854775808) : bits .or .i64 (a : Int) (b : Int) = ((a ||| b : Nat) : Int) := by
  have hx : a ||| b < 2 ^ 63 := Nat.or_lt_two_pow (by omega) (by omega)
  show IntKind.i64.wrap ((BitVec.ofInt 64 (a : Int) ||| BitVec.ofInt 64 (b : Int)).toNat : Int) = _
  rw [BitVec.toNat_or, toNat_bv a ha, toNat_bv b hb, IntKind.wrap_i64]; omega
theorem xor64 (a b : Nat) (ha : a < 9223372036854775808) (hb : b < 9223372036854775808) : bits .xor .i64 (a : Int) (b : Int) = ((a ^^^ b : Nat) : Int) := by
  have hx : a ^^^ b < 2 ^ 63 := Nat.xor_lt_two_pow (by omega) (by omega)
  show IntKind.i64.wrap ((BitVec.ofInt 64 (a : Int) ^^^ BitVec.ofInt 64 (b : Int)).toNat : Int) = _
  rw [BitVec.toNat_xor, toNat_bv a ha, toNat_bv b hb, IntKind.wrap_i64]; omega
/-- A high part and a low part that do not meet: '|' is '+'. -/
theorem or_high (k a b : Nat) (hb : b < 2 ^ k) : (2 ^ k * a) ||| b = 2 ^ k * a + b := (Nat.two_pow_add_eq_or_of_lt hb a).symm
theorem low7 (m : Int) (h0 : 0 ≤ m) (h1 : m < 9223372036854775808) : bits .and .i64 m 127 = m % 128 := by
  obtain ⟨n, rfl⟩ : ∃ n : Nat, m = (n : Int) := ⟨m.toNat, by omega⟩
  have := and64 n 127 (by omega) (by omega)
  rw [show ((127 : Nat) : Int) = 127 from rfl] at this
  rw [this, show (127 : Nat) = 2 ^ 7 - 1 from rfl, Nat.and_two_pow_sub_one_eq_mod]
  omega
theorem high7 (m : Int) (h0 : 0 ≤ m) (h1 : m < 128) : bits .or .i64 m 128 = 128 + m := by
  obtain ⟨n, rfl⟩ : ∃ n : Nat, m = (n : Int) := ⟨m.toNat, by omega⟩
  have := or64 n 128 (by omega) (by omega)
  rw [show ((128 : Nat) : Int) = 128 from rfl] at this
  rw [this, Nat.or_comm, show (128 : Nat) = 2 ^ 7 * 1 from rfl, or_high 7 1 n (by omega)]
  omega
theorem low7_u8 (x : Int) (h0 : 0 ≤ x) (h1 : x < 256) : bits .and .u8 x 127 = x % 128 := bits_mask .u8 8 (by decide) wraps_u8 7 (by decide) x h0 h1
/-- 'v | int(c&127) << (7*k)' where v lies below 2^(7*k): the next seven bits. -/
theorem or_group (v c : Int) (k : Nat) (h7 : k < 7) (hv0 : 0 ≤ v) (hv : v < 2 ^ (7 * k)) (hc0 : 0 ≤ c) (hc : c < 256) :
    bits .or .i64 v (wrap64 (wrap64 (bits .and .u8 c 127) * 2 ^ (7 * k))) = v + 2 ^ (7 * k) * (c % 128) := by
  obtain ⟨V, rfl⟩ : ∃ V : Nat, v = (V : Int) := ⟨v.toNat, by omega⟩
  obtain ⟨C, rfl⟩ : ∃ C : Nat, c = (C : Int) := ⟨c.toNat, by omega⟩
  have hp : (2 : Nat) ^ (7 * k) ≤ 2 ^ 42 := Nat.pow_le_pow_right (by decide) (by omega)
  have hV : V < 2 ^ (7 * k) := by exact_mod_cast hv
  obtain ⟨p, hpe⟩ : ∃ p : Nat, p = 2 ^ (7 * k) := ⟨_, rfl⟩
  have hpi : (2 : Int) ^ (7 * k) = (p : Int) := by rw [hpe]; exact_mod_cast rfl
  rw [low7_u8 _ (by omega) (by omega), hpi]
  have hm : C % 128 * p ≤ 127 * p := Nat.mul_le_mul_right p (by omega)
  have e1 : wrap64 ((C : Int) % 128) = ((C % 128 : Nat) : Int) := by rw [IntWalk.wrap64_in _ ⟨by omega, by omega⟩]; omega
  have e2 : ((C % 128 : Nat) : Int) * (p : Int) = ((C % 128 * p : Nat) : Int) := by rw [Int.natCast_mul]
  rw [e1, e2, IntWalk.wrap64_in _ ⟨by omega, by omega⟩, or64 _ _ (by omega) (by omega), Nat.or_comm]
  have := or_high (7 * k) (C % 128) V (by omega)
  rw [← hpe] at this
  rw [show C % 128 * p = p * (C % 128) from Nat.mul_comm _ _, this, Int.natCast_add, Int.natCast_mul, show ((C % 128 : Nat) : Int) = (C : Int) % 128 by omega, Int.add_comm]
theorem low4_u8 (x : Int) (h0 : 0 ≤ x) (h1 : x < 256) : bits .and .u8 x 15 = x % 16 := bits_mask .u8 8 (by decide) wraps_u8 4 (by decide) x h0 h1
/-- 'v<<8 | b'. -/
theorem or_byte (v b : Int) (h0 : 0 ≤ v) (h1 : v < 281474976710656) (hb0 : 0 ≤ b) (hb : b < 256) : bits .or .i64 (v * 256) b = v * 256 + b := by
  obtain ⟨V, rfl⟩ : ∃ V : Nat, v = (V : Int) := ⟨v.toNat, by omega⟩
  obtain ⟨B, rfl⟩ : ∃ B : Nat, b = (B : Int) := ⟨b.toNat, by omega⟩
  have := or64 (2 ^ 8 * V) B (by omega) (by omega)
  rw [or_high 8 V B (by omega)] at this
  rw [show (V : Int) * 256 = ((2 ^ 8 * V : Nat) : Int) by omega, this]
  omega
end Go.Proofs.YtmlcdhblofjpbaaDoor
