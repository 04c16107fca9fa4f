/- The laws' comparison of two slices of rows by '!=' on the structs (sameRows), by contract: where both read as the same rows. -/
import Derived.Test.YtcfemlnicpeagaaMem
import Derived.Deep.QuietTactic
import Derived.BigQuiet
import Derived.StillTailTactics
import Derived.Laws.StructEq
namespace Go.Proofs.Ytcfemlnicpeagaa
open Go.RowKit

theorem row_neq (a b : R) (w : World) : (binOp .neq 34 (.agg #[.int .i64 a.key, .int .i64 a.value, .int .i64 a.width]) (.agg #[.int .i64 b.key, .int .i64 b.value, .int .i64 b.width])).run Try.prog w = .ok (.bool (!decide (a = b))) w := by
  have h1 : (Op.equalIn 10000 34 (.agg #[.int .i64 a.key, .int .i64 a.value, .int .i64 a.width]) (.agg #[.int .i64 b.key, .int .i64 b.value, .int .i64 b.width])).run Try.prog w = .ok (decide (a = b)) w := by
    rw [run_equalIn_agg w 9999 34 _ _ (by kernel_rfl) (by kernel_rfl)]
    obtain ⟨k, v, d⟩ := a
    obtain ⟨k', v', d'⟩ := b
    have e : decide (R.mk k v d = R.mk k' v' d') = decide (k = k' ∧ v = v' ∧ d = d') := by simp
    rw [e]
    by_cases hk : k = k' <;> by_cases hv : v = v' <;> by_cases hd : d = d' <;> simp [go_sem, Try.underlying34, Try.underlying3, hk, hv, hd]
  rw [run_neq_struct, h1]
  rfl
set_option maxRecDepth 100000 in
theorem samerows (a a' : Option Addr) (len cap len' cap' : Nat) (L : List R) (w : World) (h : IsRows w a len L) (h' : IsRows w a' len' L) (hlen : len ≤ 9223372036854775807) :
    Calls Try.prog 13 #[.slice a len cap, .slice a' len' cap'] w fun e w' => e = .returned (.bool true) ∧ Below w.heap.size w w' := by
  obtain ⟨hl, -, hc⟩ := h
  obtain ⟨hl', -, hc'⟩ := h'
  obtain rfl : len = len' := hl.symm.trans hl'
  have HC := Lib.hid hc
  have HC' := Lib.hid hc'
  clear hl hc hl' hc'
  go_enter Try.func13, Try.ntmps13
  go_wp2_with fail
  go_loopw [5] (fun i wr => ∃ k : Nat, i = .int .i64 k ∧ k ≤ len ∧ Hid (Below w.heap.size w wr)) (fun i _ => len - (intOf i).toNat)
  case atStart => exact ⟨0, rfl, Nat.zero_le _, Below.refl _ _⟩
  case round =>
    obtain ⟨k, rfl, hk, hb⟩ := hrel
    by_cases hlt : k < len
    · obtain ⟨b, o, rfl, hbl, hc⟩ : ∃ b o : Nat, a = some ⟨b, o, none⟩ ∧ b < w.heap.size ∧ ∀ t, t < len → RowAt w b (o + t * 3) (L.getD t R.zero) := by
        rcases HC.out with h0 | h0
        · omega
        · exact h0
      obtain ⟨b', o', rfl, hbl', hc'⟩ : ∃ b o : Nat, a' = some ⟨b, o, none⟩ ∧ b < w.heap.size ∧ ∀ t, t < len → RowAt w b (o + t * 3) (L.getD t R.zero) := by
        rcases HC'.out with h0 | h0
        · omega
        · exact h0
      obtain ⟨r, hr⟩ : ∃ r, r = L.getD k R.zero := ⟨_, rfl⟩
      have hat : RowAt wr b (o + k * 3) r := by rw [hr]; exact (hc k hlt).below hb.out hbl
      have hat' : RowAt wr b' (o' + k * 3) r := by rw [hr]; exact (hc' k hlt).below hb.out hbl'
      obtain ⟨c0, c1, c2⟩ := hat
      obtain ⟨d0, d1, d2⟩ := hat'
      clear hr hc hc'
      go_wp2_with fail
      go_still_tail 8, (by kernel_rfl)
      go_wp2_with fail
      go_roundw
      case rel => exact ⟨k + 1, by go_num, by omega, hb.out.drew⟩
      case measure => simp [intOf]; omega
    · go_wp2_with fail
      go_ret
      exact ⟨rfl, hb.out⟩
end Go.Proofs.Ytcfemlnicpeagaa
