/- IsSorted of the program, the library's IsSortedFunc behind it, and the reference's IsSorted, by contract. -/
import Derived.Test.YtedfjpfppipfhaaCounti
import Derived.Test.YtedfjpfppipfhaaCmps
import Derived.Test.YtedfjpfppipfhaaCmpi
namespace Go.Proofs.Ytedfjpfppipfhaa
open Go.RowKit

theorem IsRows.at2 {w : World} {a : Option Addr} {len : Nat} {L : List R} (h : IsRows w a len L) {t u : Nat} (ht : t < len) (hu : u < len) : ∃ b o : Nat, a = some ⟨b, o, none⟩ ∧ b < w.heap.size ∧ RowAt w b (o + t * 3) (L.getD t R.zero) ∧ RowAt w b (o + u * 3) (L.getD u R.zero) := by
  obtain ⟨-, -, h0 | ⟨b, o, e, hb, hc⟩⟩ := h
  · omega
  · exact ⟨b, o, e, hb, hc t ht, hc u hu⟩
set_option maxRecDepth 100000 in
theorem sasc (a : Option Addr) (len cap : Nat) (L : List R) (w : World) (h : IsRows w a len L) (hlen : len ≤ 1000000000000) :
    Calls Try.prog 22 #[.slice a len cap] w fun e w' => e = .returned (.bool (R.asc L)) ∧ Below w.heap.size w w' := by
  have HL := Lib.hid h.1
  have HI := Lib.hid h
  clear h
  go_enter Try.func22, Try.ntmps22
  go_wp2_with fail
  go_loopw [3] (fun i wr => ∃ k : Nat, i = .int .i64 ((k : Int) + 1) ∧ (k = 0 ∨ k < len) ∧ Hid (∀ t, t < k → R.cmp (L.getD t R.zero) (L.getD (t + 1) R.zero) ≤ 0) ∧ Hid (Below w.heap.size w wr)) (fun i _ => len + 1 - (intOf i).toNat)
  case atStart => exact ⟨0, rfl, .inl rfl, fun t ht => absurd ht (Nat.not_lt_zero _), Below.refl _ _⟩
  case round =>
    obtain ⟨k, rfl, hk, hasc, hb⟩ := hrel
    have hk' : k ≤ 1000000000000 := by omega
    by_cases hlt : k + 1 < len
    · obtain ⟨b, o, rfl, hbl, hat, hat'⟩ := (HI.out.keep hb.out).at2 (t := k) (u := k + 1) (by omega) hlt
      obtain ⟨p, hp⟩ : ∃ p, p = L.getD k R.zero := ⟨_, rfl⟩
      obtain ⟨q, hq⟩ : ∃ q, q = L.getD (k + 1) R.zero := ⟨_, rfl⟩
      rw [← hp] at hat
      rw [← hq] at hat'
      obtain ⟨c0, c1, c2⟩ := hat
      obtain ⟨d0, d1, d2⟩ := hat'
      have HP := Lib.hid hp
      have HQ := Lib.hid hq
      clear hp hq
      have hwr : IntKind.i64.wrap (k : Int) = k := by simp [IntKind.wrap, IntKind.bits, IntKind.signed]; omega
      have hkl : (k : Int) < len := by omega
      have hkl2 : (k : Int) + 1 < len := by omega
      have hkn : ((k : Int) + 1).toNat = k + 1 := by omega
      have hkp : 0 ≤ (k : Int) + 1 := by omega
      go_wp2_with fail
      go_still_tail 9, (by kernel_rfl)
      go_wp2_with fail
      refine (scmp p q _).mono ?_
      rintro e w1 ⟨rfl, b1⟩
      obtain ⟨x, hx⟩ : ∃ x, x = R.cmp p q := ⟨_, rfl⟩
      rw [← hx]
      have B1 := Lib.hid ((hb.out.drew).trans (b1.mono hb.out.size))
      have HX := Lib.hid hx
      clear hx b1
      by_cases hgt : 0 < x
      · have hbad : R.asc L = false := R.asc_bad k (by rw [HL.out]; exact hlt) (by rw [← HP.out, ← HQ.out, ← HX.out]; exact hgt)
        have HB := Lib.hid hbad
        clear hbad
        go_wp2_with fail
        go_ret
        exact ⟨by rw [HB.out]; rfl, B1.out⟩
      · go_wp2_with fail
        go_roundw
        case rel =>
          refine ⟨k + 1, by go_num, .inr hlt, fun t ht => ?_, B1.out⟩
          rcases Nat.lt_or_ge t k with h | h
          · exact hasc.out t h
          · obtain rfl : t = k := by omega
            rw [← HP.out, ← HQ.out, ← HX.out]; omega
        case measure => simp [intOf]; omega
    · have hall : R.asc L = true := R.asc_iff.2 fun t ht => hasc.out t (by rw [HL.out] at ht; omega)
      have HA := Lib.hid hall
      clear hall
      go_wp2_with fail
      go_ret
      exact ⟨by rw [HA.out]; rfl, hb.out⟩
set_option maxRecDepth 100000 in
theorem lasc (a : Option Addr) (len cap : Nat) (L : List R) (w : World) (h : IsRows w a len L) (hlen : len ≤ 1000000000000) :
    Calls Try.prog 46 #[.slice a len cap, .func (.func 15) #[] #[]] w fun e w' => e = .returned (.bool (R.asc L)) ∧ Below w.heap.size w w' := by
  have HL := Lib.hid h.1
  have HI := Lib.hid h
  clear h
  go_enter Try.func46, Try.ntmps46
  go_wp2_with fail
  go_loopw [5] (fun i wr => ∃ k : Nat, i = .int .i64 ((k : Int) - 1) ∧ k ≤ len ∧ Hid (∀ t, k ≤ t + 1 → t + 1 < len → R.cmp (L.getD t R.zero) (L.getD (t + 1) R.zero) ≤ 0) ∧ Hid (Below w.heap.size w wr)) (fun i _ => (intOf i + 1).toNat)
  case atStart => exact ⟨len, by go_num, Nat.le_refl _, fun t h1 h2 => by omega, Below.refl _ _⟩
  case round =>
    obtain ⟨k, rfl, hk, hasc, hb⟩ := hrel
    by_cases hlt : 1 < k
    · obtain ⟨m, rfl⟩ : ∃ m, k = m + 2 := ⟨k - 2, by omega⟩
      have e1 : ((m + 2 : Nat) : Int) - 1 = (m : Int) + 1 := by omega
      rw [e1]
      clear e1
      obtain ⟨b, o, rfl, hbl, hat, hat'⟩ := (HI.out.keep hb.out).at2 (t := m) (u := m + 1) (by omega) (by omega)
      obtain ⟨p, hp⟩ : ∃ p, p = L.getD m R.zero := ⟨_, rfl⟩
      obtain ⟨q, hq⟩ : ∃ q, q = L.getD (m + 1) R.zero := ⟨_, rfl⟩
      rw [← hp] at hat
      rw [← hq] at hat'
      obtain ⟨c0, c1, c2⟩ := hat
      obtain ⟨d0, d1, d2⟩ := hat'
      have HP := Lib.hid hp
      have HQ := Lib.hid hq
      clear hp hq
      have HC := Lib.hid (fun W => icmp q p W)
      unfold R.val at HC
      have hwr : IntKind.i64.wrap (m : Int) = m := by simp [IntKind.wrap, IntKind.bits, IntKind.signed]; omega
      have hkl : (m : Int) < len := by omega
      have hkl2 : (m : Int) + 1 < len := by omega
      have hkn : ((m : Int) + 1).toNat = m + 1 := by omega
      have hkp : 0 ≤ (m : Int) + 1 := by omega
      go_wp2_with fail
      go_still_tail 10, (by kernel_rfl)
      go_wp2_with fail
      refine (HC.out _).mono ?_
      rintro e w1 ⟨rfl, b1⟩
      obtain ⟨x, hx⟩ : ∃ x, x = R.cmp q p := ⟨_, rfl⟩
      rw [← hx]
      have B1 := Lib.hid ((hb.out.drew).trans (b1.mono hb.out.size))
      have HX := Lib.hid (hx.trans (R.cmp_anti p q))
      clear hx b1
      by_cases hgt : x < 0
      · have hbad : R.asc L = false := R.asc_bad m (by rw [HL.out]; omega) (by have := HX.out; rw [← HP.out, ← HQ.out]; omega)
        have HB := Lib.hid hbad
        clear hbad
        go_wp2_with fail
        go_ret
        exact ⟨by rw [HB.out]; rfl, B1.out⟩
      · go_wp2_with fail
        go_roundw
        case rel =>
          refine ⟨m + 1, by go_num, by omega, fun t h1 h2 => ?_, B1.out⟩
          rcases Nat.lt_or_ge t (m + 1) with h | h
          · obtain rfl : t = m := by omega
            have := HX.out
            rw [← HP.out, ← HQ.out]; omega
          · exact hasc.out t (by omega) h2
        case measure => simp [intOf]; omega
    · have hall : R.asc L = true := R.asc_iff.2 fun t ht => hasc.out t (by omega) (by rw [HL.out] at ht; exact ht)
      have HA := Lib.hid hall
      clear hall
      go_wp2_with fail
      go_ret
      exact ⟨by rw [HA.out]; rfl, hb.out⟩
theorem iasc (a : Option Addr) (len cap : Nat) (L : List R) (w : World) (h : IsRows w a len L) (hlen : len ≤ 1000000000000) :
    Calls Try.prog 19 #[.slice a len cap] w fun e w' => e = .returned (.bool (R.asc L)) ∧ Below w.heap.size w w' := by
  have HC := Lib.hid (lasc a len cap L w h hlen)
  clear h
  go_enter Try.func19, Try.ntmps19
  go_wp2_with fail
  refine HC.out.mono ?_
  rintro e w1 ⟨rfl, b1⟩
  have B1 := Lib.hid b1
  clear b1
  go_wp2_with fail
  go_ret
  exact ⟨rfl, B1.out⟩
end Go.Proofs.Ytedfjpfppipfhaa
