/- The laws' comparison of two slices of rows (eqRowS), by contract. -/
import Derived.Test.YtcfemlnicpeagaaToRow
import Derived.Deep.QuietTactic
import Derived.BigQuiet
import Derived.StillTailTactics
namespace Go.Proofs.Ytcfemlnicpeagaa
open Go.RowKit

set_option maxRecDepth 100000 in
theorem eqrows (a a' : Option Addr) (len cap len' cap' : Nat) (L L' : List R) (w : World) (h : IsRows w a len L) (h' : IsRows w a' len' L') (hlen : len ≤ 9223372036854775807) (hlen' : len' ≤ 9223372036854775807) :
    Calls Try.prog 25 #[.slice a len cap, .slice a' len' cap'] w fun e w' => e = .returned (.bool (decide (L = L'))) ∧ Below w.heap.size w w' := by
  obtain ⟨hl, -, hc⟩ := h
  obtain ⟨hl', -, hc'⟩ := h'
  have HL := Lib.hid hl
  have HC := Lib.hid hc
  have HL' := Lib.hid hl'
  have HC' := Lib.hid hc'
  clear hl hc hl' hc'
  by_cases hne : (len : Int) = len'
  · have hne' : len = len' := by omega
    subst hne'
    clear hne
    go_enter Try.func25, Try.ntmps25
    go_wp2_with fail
    go_loopw [5] (fun i wr => ∃ k : Nat, i = .int .i64 k ∧ k ≤ len ∧ Hid (∀ t, t < k → L.getD t R.zero = L'.getD t R.zero) ∧ Hid (Below w.heap.size w wr)) (fun i _ => len - (intOf i).toNat)
    case atStart => exact ⟨0, rfl, Nat.zero_le _, fun t ht => absurd ht (Nat.not_lt_zero _), Below.refl _ _⟩
    case round =>
      obtain ⟨k, rfl, hk, hok, hb⟩ := hrel
      by_cases hlt : k < len
      · obtain ⟨b, o, rfl, hbl, hc⟩ : ∃ b o : Nat, a = some ⟨b, o, none⟩ ∧ b < w.heap.size ∧ ∀ t, t < len → RowAt w b (o + t * 3) (L.getD t R.zero) := by
          rcases HC.out with h0 | h0
          · omega
          · exact h0
        obtain ⟨b', o', rfl, hbl', hc'⟩ : ∃ b o : Nat, a' = some ⟨b, o, none⟩ ∧ b < w.heap.size ∧ ∀ t, t < len → RowAt w b (o + t * 3) (L'.getD t R.zero) := by
          rcases HC'.out with h0 | h0
          · omega
          · exact h0
        obtain ⟨r, hr⟩ : ∃ r, r = L.getD k R.zero := ⟨_, rfl⟩
        obtain ⟨q, hq⟩ : ∃ r, r = L'.getD k R.zero := ⟨_, rfl⟩
        have hat : RowAt wr b (o + k * 3) r := by rw [hr]; exact (hc k hlt).below hb.out hbl
        have hat' : RowAt wr b' (o' + k * 3) q := by rw [hq]; exact (hc' k hlt).below hb.out hbl'
        obtain ⟨c0, c1, c2⟩ := hat
        obtain ⟨d0, d1, d2⟩ := hat'
        have HR := Lib.hid hr
        have HQ := Lib.hid hq
        clear hr hc hq hc'
        go_wp2_with fail
        go_still_tail 8, (by kernel_rfl)
        go_wp2_with fail
        refine (eqrow r q _).mono ?_
        rintro e w1 ⟨rfl, b1⟩
        have B1 := Lib.hid (hb.out.drew.trans (b1.mono hb.out.size))
        clear b1
        by_cases hrq : r = q
        · rw [decide_eq_true hrq]
          have HRQ := Lib.hid hrq
          clear hrq
          go_wp2_with fail
          go_roundw
          case rel =>
            refine ⟨k + 1, by go_num, by omega, ?_, B1⟩
            intro t ht
            rcases Nat.lt_or_ge t k with htk | htk
            · exact hok.out t htk
            · obtain rfl : t = k := by omega
              rw [← HR.out, ← HQ.out]; exact HRQ.out
          case measure => simp [intOf]; omega
        · rw [decide_eq_false hrq]
          have hno : decide (L = L') = false := by
            rw [decide_eq_false_iff_not]
            intro e
            apply hrq
            rw [HR.out, HQ.out, e]
          have HN := Lib.hid hno
          clear hno hrq
          go_wp2_with fail
          go_ret
          exact ⟨by rw [HN.out]; rfl, B1.out⟩
      · have hkl : k = len := by omega
        have hall : decide (L = L') = true := by
          rw [decide_eq_true_eq]
          apply List.ext_getElem (by rw [HL.out, HL'.out])
          intro t h1 h2
          have := hok.out t (by rw [hkl, ← HL.out]; exact h1)
          simpa [List.getD, h1, h2] using this
        clear hkl
        have HA := Lib.hid hall
        clear hall
        go_wp2_with fail
        go_ret
        exact ⟨by rw [HA.out]; rfl, hb.out⟩
  · have hno : decide (L = L') = false := by
      rw [decide_eq_false_iff_not]
      intro e
      apply hne
      rw [← HL.out, ← HL'.out, e]
    have HN := Lib.hid hno
    clear hno
    go_enter Try.func25, Try.ntmps25
    go_wp2_with fail
    go_ret
    exact ⟨by rw [HN.out]; rfl, Below.refl _ _⟩
end Go.Proofs.Ytcfemlnicpeagaa
