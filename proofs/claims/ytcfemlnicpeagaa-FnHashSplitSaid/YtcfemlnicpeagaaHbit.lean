/- HashBit, the program's and the reference's, by contract. -/
import Derived.Test.YtcfemlnicpeagaaHash
import Derived.Test.YtcfemlnicpeagaaIn
import Derived.Test.YtcfemlnicpeagaaBits
import Derived.Test.YtcfemlnicpeagaaIup
namespace Go.Proofs.Ytcfemlnicpeagaa
open Go.RowKit

theorem bit1 (m : Int) (h0 : 0 ≤ m) (h1 : m < 9223372036854775808) : bits .and .i64 m 1 = m % 2 := by
  obtain ⟨n, rfl⟩ : ∃ n : Nat, m = (n : Int) := ⟨m.toNat, by omega⟩
  have := and64 n 1 (by omega) (by omega)
  rw [show ((1 : Nat) : Int) = 1 from rfl] at this
  rw [this, show (1 : Nat) = 2 ^ 1 - 1 from rfl, Nat.and_two_pow_sub_one_eq_mod]
  omega
theorem hash_bit {k : Int} (l : Nat) : bits .and .i64 (7 * k % 16 / 2 ^ l) 1 = 7 * k % 16 / 2 ^ l % 2 := by
  have h0 : 0 ≤ 7 * k % 16 := by omega
  have h1 : 7 * k % 16 / 2 ^ l ≤ 7 * k % 16 := Int.ediv_le_self _ h0
  exact bit1 _ (Int.ediv_nonneg h0 (Int.pow_nonneg (by decide))) (by omega)
set_option maxRecDepth 100000 in
theorem ihbit (k l : Int) (w : World) : Calls Try.prog 14 #[.int .i64 k, .int .i64 l] w fun e w' => e = .returned (.int .i64 (R.hb k l)) ∧ w = w' := by
  by_cases hl : 0 ≤ l ∧ l ≤ 3
  · by_cases hk : 0 ≤ k ∧ k ≤ 9
    · rw [R.hb_in ⟨hl.1, hl.2, hk.1, hk.2⟩, ← hash_bit l.toNat]
      obtain ⟨hl0, hl3⟩ := hl
      obtain ⟨hk0, hk9⟩ := hk
      go_enter Try.func14, Try.ntmps14
      go_wp2_with (first | (go_at_call 31; refine (iup _ _ _).mono ?_; rintro e w' ⟨rfl, rfl⟩; rw [decide_eq_true (show 0 ≤ l ∧ l ≤ 3 from ⟨hl0, hl3⟩)]) | (go_at_call 31; refine (iup _ _ _).mono ?_; rintro e w' ⟨rfl, rfl⟩; rw [decide_eq_true (show 0 ≤ k ∧ k ≤ 9 from ⟨hk0, hk9⟩)]))
      go_ret
      exact ⟨rfl, rfl⟩
    · rw [R.hb_out (fun h => hk ⟨h.2.2.1, h.2.2.2⟩)]
      have hk' : k < 0 ∨ 9 < k := by omega
      obtain ⟨hl0, hl3⟩ := hl
      go_enter Try.func14, Try.ntmps14
      go_wp2_with (first | (go_at_call 31; refine (iup _ _ _).mono ?_; rintro e w' ⟨rfl, rfl⟩; rw [decide_eq_true (show 0 ≤ l ∧ l ≤ 3 from ⟨hl0, hl3⟩)]) | (go_at_call 31; refine (iup _ _ _).mono ?_; rintro e w' ⟨rfl, rfl⟩; rw [decide_eq_false hk]))
      go_ret
      exact ⟨rfl, rfl⟩
  · rw [R.hb_out (fun h => hl ⟨h.1, h.2.1⟩)]
    have hl' : l < 0 ∨ 3 < l := by omega
    go_enter Try.func14, Try.ntmps14
    go_wp2_with ((go_at_call 31; refine (iup _ _ _).mono ?_; rintro e w' ⟨rfl, rfl⟩; rw [decide_eq_false hl]))
    go_ret
    exact ⟨rfl, rfl⟩
set_option maxRecDepth 100000 in
theorem shbit (k l : Int) (w : World) : Calls Try.prog 15 #[.int .i64 k, .int .i64 l] w fun e w' => e = .returned (.int .i64 (R.hb k l)) ∧ w = w' := by
  by_cases hl : 0 ≤ l ∧ l ≤ 3
  · by_cases hk : 0 ≤ k ∧ k ≤ 9
    · rw [R.hb_in ⟨hl.1, hl.2, hk.1, hk.2⟩, ← hash_bit l.toNat]
      have hc : 7 * k = k * 7 := Int.mul_comm _ _
      rw [hc]
      clear hc
      obtain ⟨hl0, hl3⟩ := hl
      obtain ⟨hk0, hk9⟩ := hk
      go_enter Try.func15, Try.ntmps15
      go_wp2_with fail
      refine (in_yes l 0 3 _ hl0 hl3).mono ?_
      rintro e w' ⟨rfl, rfl⟩
      go_wp2_with fail
      refine (in_yes k 0 9 _ hk0 hk9).mono ?_
      rintro e w' ⟨rfl, rfl⟩
      go_wp2_with fail
      go_ret
      exact ⟨rfl, rfl⟩
    · rw [R.hb_out (fun h => hk ⟨h.2.2.1, h.2.2.2⟩)]
      have hk' : k < 0 ∨ 9 < k := by omega
      obtain ⟨hl0, hl3⟩ := hl
      go_enter Try.func15, Try.ntmps15
      go_wp2_with fail
      refine (in_yes l 0 3 _ hl0 hl3).mono ?_
      rintro e w' ⟨rfl, rfl⟩
      go_wp2_with fail
      refine (in_no k 0 9 _ hk').mono ?_
      rintro e w' ⟨rfl, rfl⟩
      go_wp2_with fail
      go_ret
      exact ⟨rfl, rfl⟩
  · rw [R.hb_out (fun h => hl ⟨h.1, h.2.1⟩)]
    have hl' : l < 0 ∨ 3 < l := by omega
    go_enter Try.func15, Try.ntmps15
    go_wp2_with fail
    refine (in_no l 0 3 _ hl').mono ?_
    rintro e w' ⟨rfl, rfl⟩
    go_wp2_with fail
    go_ret
    exact ⟨rfl, rfl⟩
end Go.Proofs.Ytcfemlnicpeagaa
