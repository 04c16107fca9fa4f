/- DecodeVarint of the program: the number and the length of the varint that the string begins with, for every string. -/
import Derived.Test.YtckfagjffpajdaaDoorKit
import Derived.Test.YtckfagjffpajdaaDoorNum
import Derived.Test.YtckfagjffpajdaaDoorBits
namespace Go.Proofs.YtckfagjffpajdaaDoor
open Go.RowKit Num

theorem pow7 (k : Nat) : (2 : Nat) ^ (7 * k) = 128 ^ k := by rw [Nat.pow_mul]
/-- One byte more of the number. -/
theorem acc7 (v c : Int) (l : List UInt8) (k : Nat) (hk : k < l.length) (h7 : k < 7) (hv : v = (v7 (l.take k) : Int)) (hc : c = (l[k].toNat : Int)) :
    bits .or .i64 v (wrap64 (wrap64 (bits .and .u8 c 127) * 2 ^ (7 * k))) = (v7 (l.take (k + 1)) : Int) := by
  have hl := v7_lt (l.take k)
  rw [List.length_take, Nat.min_eq_left (by omega), ← pow7] at hl
  have hb := l[k].toNat_lt
  have hi : v < 2 ^ (7 * k) := by rw [hv]; exact_mod_cast hl
  rw [or_group v c k h7 (by omega) hi (by omega) (by omega), v7_take l k hk, ← pow7, Int.natCast_add, Int.natCast_mul, ← hv, hc]
  have e : ((2 ^ (7 * k) : Nat) : Int) = (2 : Int) ^ (7 * k) := by exact_mod_cast rfl
  rw [e]
  congr 2
theorem v7_take_lt (l : List UInt8) (k : Nat) (h : k ≤ 7) : (v7 (l.take k) : Int) < 562949953421312 := by
  have h1 := v7_lt (l.take k)
  have h2 : 128 ^ (l.take k).length ≤ 128 ^ 7 := Nat.pow_le_pow_right (by decide) (by rw [List.length_take]; omega)
  have h3 : (128 : Nat) ^ 7 = 562949953421312 := by decide
  omega
theorem ret_pair {a b c d : Int} (h : a = c) (h' : b = d) : Ending.returned (.tuple #[.int .i64 a, .int .i64 b]) = .returned (.tuple #[.int .i64 c, .int .i64 d]) := by rw [h, h']

set_option maxRecDepth 100000 in
theorem idec_le (s : ByteArray) (w : World) (h7 : s.size ≤ 7) :
    Calls Tryd.prog 10 #[.string s] w fun e w' => e = .returned (.tuple #[.int .i64 (decV s.data.toList).1, .int .i64 (decV s.data.toList).2]) ∧ w = w' := by
  have hd : Hid (decV s.data.toList = dv s.data.toList 7 0) := rfl
  have hsl : Hid (s.data.toList.length = s.size) := by show _ = _; simp
  go_enter Tryd.func10, Tryd.ntmps10
  go_wp2
  go_loop [4, 5, 9] (fun n _ i => ∃ (v : Int) (k : Nat), n = .int .i64 v ∧ i = .int .i64 k ∧ k ≤ s.size ∧ Hid (v = (v7 (s.data.toList.take k) : Int)) ∧ 0 ≤ v ∧ v < 562949953421312 ∧ Hid (dv s.data.toList (7 - k) k = dv s.data.toList 7 0)) (fun _ _ i => s.size - (intOf i).toNat)
  case atStart => exact ⟨0, 0, rfl, rfl, Nat.zero_le _, rfl, by omega, by omega, rfl⟩
  case round =>
    obtain ⟨v, k, rfl, rfl, hk, hv, hv0, hv1, hD⟩ := hrel
    by_cases hlt : k < s.size
    · have hf : Hid (7 - k = 6 - k + 1) := by show _ = _; omega
      have hkl : k < s.data.toList.length := by rw [hsl.out]; exact hlt
      go_wp2_with fail
      case roundEnd =>
        have hc := acc7 v (s[k].toNat : Int) s.data.toList k hkl (by omega) hv.out rfl
        refine ⟨⟨_, k + 1, rfl, by go_num, by omega, hc, by rw [hc]; omega, by rw [hc]; exact v7_take_lt _ _ (by omega), ?_⟩, by simp [intOf]; omega⟩
        show _ = _
        rw [← hD.out, hf.out, dv_more _ _ _ hkl (by have : (128 : Int) ≤ (s[k].toNat : Int) := by assumption
                                                    exact_mod_cast this), show 7 - (k + 1) = 6 - k by omega]
      · have h0 : s[k].toNat = 0 := by assumption
        have hp : 0 < k := by assumption
        go_ret2
        exact ⟨by rw [hd.out, ← hD.out, hf.out, dv_zero _ _ _ hkl h0 hp]; rfl, rfl⟩
      · have h0 : s[k].toNat = 0 := by assumption
        have hp : ¬ 0 < k := by assumption
        go_ret2
        exact ⟨ret_pair (by rw [hd.out, ← hD.out, hf.out, dv_here _ _ _ hkl (by exact Nat.lt_of_le_of_lt (Nat.le_of_eq h0) (by decide)) (.inl (by omega))]; exact acc7 v _ _ k hkl (by omega) hv.out (by exact_mod_cast h0.symm)) (by rw [hd.out, ← hD.out, hf.out, dv_here _ _ _ hkl (by exact Nat.lt_of_le_of_lt (Nat.le_of_eq h0) (by decide)) (.inl (by omega))]; rfl), rfl⟩
      · have h0 : ¬ s[k].toNat = 0 := by assumption
        have h128 : (s[k].toNat : Int) < 128 := by assumption
        have h128' : s.data.toList[k].toNat < 128 := by exact_mod_cast h128
        go_ret2
        exact ⟨ret_pair (by rw [hd.out, ← hD.out, hf.out, dv_here _ _ _ hkl h128' (.inr h0)]; exact acc7 v _ _ k hkl (by omega) hv.out rfl) (by rw [hd.out, ← hD.out, hf.out, dv_here _ _ _ hkl h128' (.inr h0)]; rfl), rfl⟩
    · go_wp2_with fail
      go_ret2
      exact ⟨by rw [hd.out, ← hD.out, dv_end _ _ _ (.inl (by rw [hsl.out]; omega))]; rfl, rfl⟩
set_option maxRecDepth 100000 in
theorem idec_gt (s : ByteArray) (w : World) (h7 : 7 < s.size) :
    Calls Tryd.prog 10 #[.string s] w fun e w' => e = .returned (.tuple #[.int .i64 (decV s.data.toList).1, .int .i64 (decV s.data.toList).2]) ∧ w = w' := by
  have hd : Hid (decV s.data.toList = dv s.data.toList 7 0) := rfl
  have hsl : Hid (s.data.toList.length = s.size) := by show _ = _; simp
  go_enter Tryd.func10, Tryd.ntmps10
  go_wp2
  go_loop [4, 5, 9] (fun n _ i => ∃ (v : Int) (k : Nat), n = .int .i64 v ∧ i = .int .i64 k ∧ k ≤ 7 ∧ Hid (v = (v7 (s.data.toList.take k) : Int)) ∧ 0 ≤ v ∧ v < 562949953421312 ∧ Hid (dv s.data.toList (7 - k) k = dv s.data.toList 7 0)) (fun _ _ i => 7 - (intOf i).toNat)
  case atStart => exact ⟨0, 0, rfl, rfl, Nat.zero_le _, rfl, by omega, by omega, rfl⟩
  case round =>
    obtain ⟨v, k, rfl, rfl, hk, hv, hv0, hv1, hD⟩ := hrel
    by_cases hlt : k < 7
    · have hks : k < s.size := by omega
      have hf : Hid (7 - k = 6 - k + 1) := by show _ = _; omega
      have hkl : k < s.data.toList.length := by rw [hsl.out]; omega
      go_wp2_with fail
      case roundEnd =>
        have hc := acc7 v (s[k].toNat : Int) s.data.toList k hkl (by omega) hv.out rfl
        refine ⟨⟨_, k + 1, rfl, by go_num, by omega, hc, by rw [hc]; omega, by rw [hc]; exact v7_take_lt _ _ (by omega), ?_⟩, by simp [intOf]; omega⟩
        show _ = _
        rw [← hD.out, hf.out, dv_more _ _ _ hkl (by have : (128 : Int) ≤ (s[k].toNat : Int) := by assumption
                                                    exact_mod_cast this), show 7 - (k + 1) = 6 - k by omega]
      · have h0 : s[k].toNat = 0 := by assumption
        have hp : 0 < k := by assumption
        go_ret2
        exact ⟨by rw [hd.out, ← hD.out, hf.out, dv_zero _ _ _ hkl h0 hp]; rfl, rfl⟩
      · have h0 : s[k].toNat = 0 := by assumption
        have hp : ¬ 0 < k := by assumption
        go_ret2
        exact ⟨ret_pair (by rw [hd.out, ← hD.out, hf.out, dv_here _ _ _ hkl (by exact Nat.lt_of_le_of_lt (Nat.le_of_eq h0) (by decide)) (.inl (by omega))]; exact acc7 v _ _ k hkl (by omega) hv.out (by exact_mod_cast h0.symm)) (by rw [hd.out, ← hD.out, hf.out, dv_here _ _ _ hkl (by exact Nat.lt_of_le_of_lt (Nat.le_of_eq h0) (by decide)) (.inl (by omega))]; rfl), rfl⟩
      · have h0 : ¬ s[k].toNat = 0 := by assumption
        have h128 : (s[k].toNat : Int) < 128 := by assumption
        have h128' : s.data.toList[k].toNat < 128 := by exact_mod_cast h128
        go_ret2
        exact ⟨ret_pair (by rw [hd.out, ← hD.out, hf.out, dv_here _ _ _ hkl h128' (.inr h0)]; exact acc7 v _ _ k hkl (by omega) hv.out rfl) (by rw [hd.out, ← hD.out, hf.out, dv_here _ _ _ hkl h128' (.inr h0)]; rfl), rfl⟩
    · go_wp2_with fail
      go_ret2
      exact ⟨by rw [hd.out, ← hD.out, dv_end _ _ _ (.inr (by omega))]; rfl, rfl⟩
theorem idec (s : ByteArray) (w : World) :
    Calls Tryd.prog 10 #[.string s] w fun e w' => e = .returned (.tuple #[.int .i64 (decV s.data.toList).1, .int .i64 (decV s.data.toList).2]) ∧ w = w' := by
  by_cases h : s.size ≤ 7
  · exact idec_le s w h
  · exact idec_gt s w (by omega)
end Go.Proofs.YtckfagjffpajdaaDoor
