/- ChecksumOf, the program's and the reference's, by contract. -/
import Derived.Test.YthbifibnnhikjaaDiskM
import Derived.Lib.Hide
namespace Go.Proofs.Ythbifibnnhikjaa
open Go.RowKit

theorem byte_at (s : ByteArray) (k : Nat) (h : k < s.size) : s.data.toList[k]'(by simpa using h) = s[k] := by simp; rfl
set_option maxRecDepth 100000 in
theorem scheck (s : ByteArray) (w : World) (hs : s.size ≤ 1000000000000) : Calls Try.prog 10 #[.string s] w fun e w' => e = .returned (.int .i64 (ck s.data.toList : Nat)) ∧ w = w' := by
  have HSL := Lib.hid (show s.data.toList.length = s.size by simp)
  go_enter Try.func10, Try.ntmps10
  go_wp2_with fail
  go_loopw [3, 4] (fun n i wr => ∃ (t m : Nat), n = .int .i64 m ∧ i = .int .i64 t ∧ t ≤ s.size ∧ m < 65521 ∧ Hid (m = ck (s.data.toList.take t)) ∧ Hid (w = wr)) (fun _ i _ => s.size - (intOf i).toNat)
  case atStart => exact ⟨0, 11, rfl, rfl, Nat.zero_le _, by omega, rfl, rfl⟩
  case round =>
    obtain ⟨t, m, rfl, rfl, ht, hm, hc, hw⟩ := hrel
    by_cases hlt : t < s.size
    · have hnx := ck_next s.data.toList t (by rw [HSL.out]; exact hlt)
      rw [byte_at s t hlt] at hnx
      have HNX := Lib.hid hnx
      have hb : s[t].toNat < 256 := UInt8.toNat_lt _
      clear hnx
      go_wp2_with fail
      go_roundw
      case rel => exact ⟨t + 1, _, rfl, by go_num, by omega, Nat.mod_lt _ (by decide), (by show _ = _; rw [HNX.out, ← hc.out]; rfl), hw⟩
      case measure => simp [intOf]; omega
    · have hk : s.data.toList.take t = s.data.toList := List.take_of_length_le (by rw [HSL.out]; omega)
      rw [hk] at hc
      clear hk
      go_wp2_with fail
      go_ret
      exact ⟨by rw [hc.out]; rfl, hw.out⟩
set_option maxRecDepth 100000 in
theorem icheck (s : ByteArray) (w : World) (hs : s.size ≤ 1000000000000) : Calls Try.prog 11 #[.string s] w fun e w' => e = .returned (.int .i64 (ck s.data.toList : Nat)) ∧ w = w' := by
  have HSL := Lib.hid (show s.data.toList.length = s.size by simp)
  go_enter Try.func11, Try.ntmps11
  go_wp2_with fail
  go_loopw [3, 7] (fun n i wr => ∃ (t m : Nat), n = .int .i64 m ∧ i = .int .i64 t ∧ t ≤ s.size ∧ m < 65521 ∧ Hid (m = ck (s.data.toList.take t)) ∧ Hid (w = wr)) (fun _ i _ => s.size - (intOf i).toNat)
  case atStart => exact ⟨0, 11, rfl, rfl, Nat.zero_le _, by omega, rfl, rfl⟩
  case round =>
    obtain ⟨t, m, rfl, rfl, ht, hm, hc, hw⟩ := hrel
    by_cases hlt : t < s.size
    · have hnx := ck_next s.data.toList t (by rw [HSL.out]; exact hlt)
      rw [byte_at s t hlt] at hnx
      have HNX := Lib.hid hnx
      have hb : s[t].toNat < 256 := UInt8.toNat_lt _
      clear hnx
      go_wp2_with fail
      go_roundw
      case rel => exact ⟨t + 1, _, rfl, by go_num, by omega, Nat.mod_lt _ (by decide), (by show _ = _; rw [HNX.out, ← hc.out]; unfold ckStep; rw [Nat.mul_comm m 37]; rfl), hw⟩
      case measure => simp [intOf]; omega
    · have hk : s.data.toList.take t = s.data.toList := List.take_of_length_le (by rw [HSL.out]; omega)
      rw [hk] at hc
      clear hk
      go_wp2_with fail
      go_ret
      exact ⟨by rw [hc.out]; rfl, hw.out⟩
end Go.Proofs.Ythbifibnnhikjaa
