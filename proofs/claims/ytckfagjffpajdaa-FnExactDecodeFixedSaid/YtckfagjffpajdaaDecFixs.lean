/- DecodeFixed of the reference: the same number and the same bool. -/
import Derived.Test.YtckfagjffpajdaaDecFixi
import Derived.Test.YtckfagjffpajdaaFixs
namespace Go.Proofs.Ytckfagjffpajdaa
open Go.RowKit Num

theorem sdfix_no (s : ByteArray) (d : Int) (w : World) (h : d < 1 ∨ 7 < d ∨ (s.size : Int) < d) :
    Calls Try.prog 11 #[.string s, .int .i64 d] w fun e w' => FixAns s.data.toList d e ∧ w = w' := by
  have hans := fixans_no (l := s.data.toList) (d := d) (by simpa using h)
  by_cases hd : d < 1 ∨ 7 < d
  · go_enter Try.func11, Try.ntmps11
    go_wp2_with (go_at_call 21; refine (in_no _ _ _ _ (by omega)).mono ?_; rintro e w' ⟨rfl, rfl⟩)
    go_ret2
    exact ⟨hans, rfl⟩
  · have h1 : 1 ≤ d := by omega
    have h7 : d ≤ 7 := by omega
    have hn : (s.size : Int) < d := by omega
    clear h hd
    go_enter Try.func11, Try.ntmps11
    go_wp2_with (go_at_call 21; refine (in_yes _ _ _ _ (by omega) (by omega)).mono ?_; rintro e w' ⟨rfl, rfl⟩)
    go_ret2
    exact ⟨hans, rfl⟩
set_option maxRecDepth 100000 in
theorem sdfix_yes (s : ByteArray) (D : Nat) (w : World) (h1 : 1 ≤ D) (h7 : D ≤ 7) (hl : D ≤ s.size) :
    Calls Try.prog 11 #[.string s, .int .i64 D] w fun e w' => FixAns s.data.toList D e ∧ w = w' := by
  have hd : decide ((s.size : Int) < D) = false := by simp; omega
  have hsl : Hid (s.data.toList.length = s.size) := by show _ = _; simp
  go_enter Try.func11, Try.ntmps11
  go_wp2_with (go_at_call 21; refine (in_yes _ _ _ _ (by omega) (by omega)).mono ?_; rintro e w' ⟨rfl, rfl⟩)
  go_loop [6, 7] (fun n i => ∃ (v : Int) (k : Nat), n = .int .i64 v ∧ i = .int .i64 k ∧ k ≤ D ∧ 0 ≤ v ∧ Hid (v = (bval (s.data.toList.take k) : Int))) (fun _ i => D - (intOf i).toNat)
  case atStart => exact ⟨0, 0, rfl, rfl, Nat.zero_le _, by omega, rfl⟩
  case round =>
    obtain ⟨v, k, rfl, rfl, hk, hv0, hv⟩ := hrel
    by_cases hlt : k < D
    · have hv1 : v < 281474976710656 := by rw [hv.out]; exact bval_take_lt _ _ (by omega)
      have hks : k < s.size := by omega
      have hbt : (s[k].toNat : Int) < 256 := by have := s[k].toNat_lt; omega
      go_wp2
      go_round
      case rel =>
        refine ⟨_, k + 1, rfl, by go_num, by omega, by omega, ?_⟩
        show _ = _
        rw [bval_take _ k (by rw [hsl.out]; exact hks), Int.natCast_add, Int.natCast_mul, ← hv.out]; rfl
      case measure => simp [intOf]; omega
    · have hkd : k = D := by omega
      have hans := fixans_yes (l := s.data.toList) (D := D) (v := v) h1 h7 (by rw [hsl.out]; exact hl) (by rw [hv.out, hkd])
      clear hkd
      go_wp2
      go_ret2
      exact ⟨hans, rfl⟩
theorem sdfix (s : ByteArray) (d : Int) (w : World) : Calls Try.prog 11 #[.string s, .int .i64 d] w fun e w' => FixAns s.data.toList d e ∧ w = w' := by
  by_cases h : d < 1 ∨ 7 < d ∨ (s.size : Int) < d
  · exact sdfix_no s d w h
  · obtain ⟨D, rfl⟩ : ∃ D : Nat, d = (D : Int) := ⟨d.toNat, by omega⟩
    exact sdfix_yes s D w (by omega) (by omega) (by omega)
end Go.Proofs.Ytckfagjffpajdaa
