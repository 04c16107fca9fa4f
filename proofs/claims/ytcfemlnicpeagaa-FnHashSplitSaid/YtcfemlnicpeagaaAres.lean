/- The reference's AreValidRows and TotalCost, by contract. -/
import Derived.Test.YtcfemlnicpeagaaValids
namespace Go.Proofs.Ytcfemlnicpeagaa
open Go.RowKit

set_option maxRecDepth 100000 in
theorem sare (a : Option Addr) (len cap : Nat) (L : List R) (w : World) (h : IsRows w a len L) (hlen : len ≤ 9223372036854775807) :
    Calls Try.prog 22 #[.slice a len cap] w fun e w' => e = .returned (.bool (okRows L)) ∧ Below w.heap.size w w' := by
  obtain ⟨hl, hwf, hc⟩ := h
  have HL := Lib.hid hl
  have HC := Lib.hid hc
  clear hl hwf hc
  go_enter Try.func22, Try.ntmps22
  go_wp2_with fail
  go_loopw [3] (fun i wr => ∃ k : Nat, i = .int .i64 k ∧ k ≤ len ∧ Hid (allOk (L.take k) = true) ∧ Hid (Below w.heap.size w wr)) (fun i _ => len - (intOf i).toNat)
  case atStart => exact ⟨0, rfl, Nat.zero_le _, rfl, Below.refl _ _⟩
  case round =>
    obtain ⟨k, rfl, hk, hok, hb⟩ := hrel
    by_cases hlt : k < len
    · obtain ⟨b, o, rfl, hbl, hc⟩ : ∃ b o : Nat, a = some ⟨b, o, none⟩ ∧ b < w.heap.size ∧ ∀ t, t < len → RowAt w b (o + t * 3) (L.getD t R.zero) := by
        rcases HC.out with h0 | h0
        · omega
        · exact h0
      obtain ⟨r, hr⟩ : ∃ r, r = L.getD k R.zero := ⟨_, rfl⟩
      have hat : RowAt wr b (o + k * 3) r := by rw [hr]; exact (hc k hlt).below hb.out hbl
      obtain ⟨c0, c1, c2⟩ := hat
      have HR := Lib.hid hr
      clear hr hc
      go_wp2_with fail
      refine (svalid r _).mono ?_
      rintro e w1 ⟨rfl, b1⟩
      have B1 := Lib.hid (hb.out.trans (b1.mono hb.out.size))
      clear b1
      cases hv : r.ok with
      | true =>
        go_wp2_with fail
        go_roundw
        case rel => exact ⟨k + 1, by go_num, by omega, by show _ = _; rw [allOk_take L k (by rw [HL.out]; exact hlt), hok.out, ← HR.out, hv]; rfl, B1⟩
        case measure => simp [intOf]; omega
      | false =>
        have hno : okRows L = false := by unfold okRows; rw [allOk_bad L k (by rw [HL.out]; exact hlt) (by rw [← HR.out]; exact hv), Bool.and_false]
        go_wp2_with fail
        go_ret
        exact ⟨by rw [hno]; rfl, B1.out⟩
    · have hkl : k = len := by omega
      have hall : okRows L = decide ((len : Int) ≤ 24) := by
        have : allOk L = true := by have := hok.out; rwa [hkl, ← HL.out, List.take_length] at this
        unfold okRows; rw [this, Bool.and_true, HL.out]
        simp; omega
      clear hkl
      have HA := Lib.hid hall
      clear hall
      go_wp2_with fail
      go_ret
      exact ⟨by rw [HA.out]; rfl, hb.out⟩
end Go.Proofs.Ytcfemlnicpeagaa
