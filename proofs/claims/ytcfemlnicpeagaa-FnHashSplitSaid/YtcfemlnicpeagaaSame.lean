/- AllSameKey, the program's and the reference's, by contract. -/
import Derived.Test.YtcfemlnicpeagaaHash
import Derived.Test.YtcfemlnicpeagaaMem
import Derived.Deep.RegionWith
namespace Go.Proofs.Ytcfemlnicpeagaa
open Go.RowKit

set_option maxRecDepth 100000 in
set_option maxHeartbeats 1000000 in
theorem isame (a : Option Addr) (len cap : Nat) (L : List R) (w : World) (h : IsRows w a len L) (hlen : len ≤ 100000000000) :
    Calls Try.prog 20 #[.slice a len cap] w fun e w' => e = .returned (.bool (R.same L)) ∧ Below w.heap.size w w' := by
  have HL := Lib.hid h.1
  have HI := Lib.hid h
  clear h
  go_enter Try.func20, Try.ntmps20
  go_wp2_with fail
  go_loopw [7] (fun i wr => ∃ k : Nat, i = .int .i64 k ∧ k ≤ len ∧ Hid (∀ t, t < k → (L.getD t R.zero).key = (L.getD 0 R.zero).key) ∧ Hid (Below w.heap.size w wr)) (fun i _ => len - (intOf i).toNat)
  case atStart => exact ⟨0, rfl, Nat.zero_le _, fun t ht => by omega, Below.refl _ _⟩
  case round =>
    obtain ⟨k, rfl, hk, hall, hb⟩ := hrel
    by_cases hlt : k < len
    · obtain ⟨b, o', rfl, hbl, hc⟩ := HI.out.at hlt
      obtain ⟨b', o2, e1, -, hz⟩ := HI.out.at (t := 0) (by omega)
      injection e1 with e1
      injection e1 with e1 e2 _
      subst e1 e2
      obtain ⟨r, hr⟩ : ∃ r, r = L.getD k R.zero := ⟨_, rfl⟩
      obtain ⟨s, hs⟩ : ∃ s, s = L.getD 0 R.zero := ⟨_, rfl⟩
      rw [← hr] at hc
      rw [← hs, Nat.zero_mul, Nat.add_zero] at hz
      obtain ⟨Wa, hWa⟩ : ∃ Wa, Wa = wr.alloc (.cells #[.int .i64 r.key, .int .i64 r.value, .int .i64 r.width] 34) := ⟨_, rfl⟩
      have hba : Below w.heap.size w Wa := by rw [hWa]; exact hb.out.alloc hb.out.size _
      obtain ⟨c0, c1, c2⟩ := hc.below hb.out hbl
      have d0 : Wa.cell? ⟨b, o', none⟩ = some (.int .i64 s.key) := (hz.below hba hbl).1
      have e0 : Wa.cell? ⟨wr.heap.size, 0, none⟩ = some (.int .i64 r.key) := by rw [hWa]; simp
      have HBA := Lib.hid hba
      have HR := Lib.hid hr
      have HS := Lib.hid hs
      have hlen0 : (0 : Int) < len := by omega
      clear hr hs hc hz hba
      go_wp2_with fail
      rw [← hWa]
      clear hWa
      by_cases he : r.key = s.key
      · have hne : (r.key != s.key) = false := by simpa using he
        go_region
        all_goals (
          go_wp2_with fail
          go_roundw
          case rel => exact ⟨k + 1, by go_num, by omega, fun t ht => (Nat.lt_or_eq_of_le (Nat.le_of_lt_succ ht)).elim (hall.out t) (fun e => by rw [e, ← HR.out, ← HS.out]; exact he), HBA.out.drew⟩
          case measure => simp [intOf]; omega)
      · have hne : (r.key != s.key) = true := by simpa using he
        have hno : R.same L = false := R.same_no (k := k) (by rw [HL.out]; exact hlt) (by rw [← HR.out, ← HS.out]; exact he)
        have HNO := Lib.hid hno
        clear hno
        go_region
        all_goals (
          go_wp2_with fail
          go_ret
          exact ⟨by rw [HNO.out]; rfl, HBA.out.drew⟩)
    · have hkl : k = len := by omega
      have hsm : R.same L = true := R.same_yes fun t ht => hall.out t (by rw [hkl, ← HL.out]; exact ht)
      have HSM := Lib.hid hsm
      clear hkl hsm
      go_wp2_with fail
      go_ret
      exact ⟨by rw [HSM.out]; rfl, hb.out⟩
set_option maxRecDepth 100000 in
set_option maxHeartbeats 1000000 in
theorem ssame (a : Option Addr) (len cap : Nat) (L : List R) (w : World) (h : IsRows w a len L) (hlen : len ≤ 100000000000) :
    Calls Try.prog 21 #[.slice a len cap] w fun e w' => e = .returned (.bool (R.same L)) ∧ Below w.heap.size w w' := by
  have HL := Lib.hid h.1
  have HI := Lib.hid h
  clear h
  go_enter Try.func21, Try.ntmps21
  go_wp2_with fail
  go_loopw [3] (fun i wr => ∃ k : Nat, i = .int .i64 ((k : Int) + 1) ∧ (k = 0 ∨ k + 1 ≤ len) ∧ Hid (∀ t, t < k + 1 → (L.getD t R.zero).key = (L.getD 0 R.zero).key) ∧ Hid (Below w.heap.size w wr)) (fun i _ => len - (intOf i).toNat)
  case atStart => exact ⟨0, rfl, .inl rfl, fun t ht => by rw [show t = 0 by omega], Below.refl _ _⟩
  case round =>
    obtain ⟨k, rfl, hk, hall, hb⟩ := hrel
    by_cases hlt : k + 1 < len
    · obtain ⟨b, o', rfl, hbl, hc⟩ := HI.out.at hlt
      obtain ⟨b', o2, e1, -, hz⟩ := HI.out.at (t := 0) (by omega)
      injection e1 with e1
      injection e1 with e1 e2 _
      subst e1 e2
      obtain ⟨r, hr⟩ : ∃ r, r = L.getD (k + 1) R.zero := ⟨_, rfl⟩
      obtain ⟨s, hs⟩ : ∃ s, s = L.getD 0 R.zero := ⟨_, rfl⟩
      rw [← hr] at hc
      rw [← hs, Nat.zero_mul, Nat.add_zero] at hz
      obtain ⟨c0, c1, c2⟩ := hc.below hb.out hbl
      have d0 : wr.cell? ⟨b, o', none⟩ = some (.int .i64 s.key) := (hz.below hb.out hbl).1
      have HR := Lib.hid hr
      have HS := Lib.hid hs
      have hlen0 : (0 : Int) < len := by omega
      have hk1 : (k : Int) + 1 < len := by omega
      have hk2 : ((k : Int) + 1).toNat = k + 1 := by omega
      have hk3 : 0 ≤ (k : Int) + 1 := by omega
      clear hr hs hc hz hk
      go_wp2_with fail
      by_cases he : r.key = s.key
      · have hne : (r.key != s.key) = false := by simpa using he
        go_region
        all_goals (
          go_wp2_with fail
          go_roundw
          case rel => exact ⟨k + 1, by go_num, .inr (by omega), fun t ht => (Nat.lt_or_eq_of_le (Nat.le_of_lt_succ ht)).elim (hall.out t) (fun e => by rw [e, ← HR.out, ← HS.out]; exact he), hb.out.drew⟩
          case measure => simp [intOf]; omega)
      · have hne : (r.key != s.key) = true := by simpa using he
        have hno : R.same L = false := R.same_no (k := k + 1) (by rw [HL.out]; exact hlt) (by rw [← HR.out, ← HS.out]; exact he)
        have HNO := Lib.hid hno
        clear hno
        go_region
        all_goals (
          go_wp2_with fail
          go_ret
          exact ⟨by rw [HNO.out]; rfl, hb.out.drew⟩)
    · have hsm : R.same L = true := R.same_yes fun t ht => hall.out t (by rw [HL.out] at ht; omega)
      have HSM := Lib.hid hsm
      have hk1 : ¬ (k : Int) + 1 < len := by omega
      clear hsm
      go_wp2_with fail
      go_ret
      exact ⟨by rw [HSM.out]; rfl, hb.out⟩
end Go.Proofs.Ytcfemlnicpeagaa
