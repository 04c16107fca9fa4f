/- DecodeFixed of the program: the number that the first width bytes spell; 0 and false where the width is out of range or the string is shorter. -/
import Derived.Test.YtckfagjffpajdaaFixi
namespace Go.Proofs.Ytckfagjffpajdaa
open Go.RowKit Num

theorem ret_ib {a b : Int} {c d : Bool} (h : a = b) (h' : c = d) : Ending.returned (.tuple #[.int .i64 a, .bool c]) = .returned (.tuple #[.int .i64 b, .bool d]) := by rw [h, h']
/-- What both answer. -/
def FixAns (l : List UInt8) (d : Int) (e : Ending) : Prop := e = .returned (.tuple #[.int .i64 (decFixed l d), .bool (decFixedOk l d)])
theorem fixans_no {l : List UInt8} {d : Int} (h : d < 1 ∨ 7 < d ∨ (l.length : Int) < d) : FixAns l d (.returned (.tuple #[.int .i64 0, .bool false])) := by
  have hk : decFixedOk l d = false := by unfold decFixedOk; rw [decide_eq_false (by omega)]
  unfold FixAns decFixed
  rw [hk]; rfl
theorem fixans_yes {l : List UInt8} {D : Nat} {v : Int} (h1 : 1 ≤ D) (h7 : D ≤ 7) (hl : D ≤ l.length) (hv : v = (bval (l.take D) : Int)) : FixAns l D (.returned (.tuple #[.int .i64 v, .bool true])) := by
  have hk : decFixedOk l D = true := by unfold decFixedOk; rw [decide_eq_true (by omega)]
  unfold FixAns decFixed
  rw [hk, hv]; rfl
theorem bval_take_lt (l : List UInt8) (k : Nat) (h : k ≤ 6) : (bval (l.take k) : Int) < 281474976710656 := by
  have h1 := bval_lt (l.take k)
  have h2 : 256 ^ (l.take k).length ≤ 256 ^ 6 := Nat.pow_le_pow_right (by decide) (by rw [List.length_take]; omega)
  have h3 : (256 : Nat) ^ 6 = 281474976710656 := by decide
  omega
theorem bval_take (l : List UInt8) (k : Nat) (h : k < l.length) : bval (l.take (k + 1)) = bval (l.take k) * 256 + l[k].toNat := by rw [take_snoc l k h, bval_snoc]

theorem idfix_no (s : ByteArray) (d : Int) (w : World) (h : d < 1 ∨ 7 < d ∨ (s.size : Int) < d) :
    Calls Try.prog 12 #[.string s, .int .i64 d] w fun e w' => FixAns s.data.toList d e ∧ w = w' := by
  have hans := fixans_no (l := s.data.toList) (d := d) (by simpa using h)
  by_cases hd : d < 1 ∨ 7 < d
  · go_enter Try.func12, Try.ntmps12
    go_wp2_with (go_at_call 22; refine (wid_no _ _ (by omega)).mono ?_; rintro e w' ⟨rfl, rfl⟩)
    go_ret2
    exact ⟨hans, rfl⟩
  · have h1 : 1 ≤ d := by omega
    have h7 : d ≤ 7 := by omega
    have hn : (s.size : Int) < d := by omega
    clear h hd
    go_enter Try.func12, Try.ntmps12
    go_wp2_with (go_at_call 22; refine (wid_yes _ _ (by omega) (by omega)).mono ?_; rintro e w' ⟨rfl, rfl⟩)
    go_ret2
    exact ⟨hans, rfl⟩

set_option maxRecDepth 100000 in
theorem idfix_yes (s : ByteArray) (D : Nat) (w : World) (h1 : 1 ≤ D) (h7 : D ≤ 7) (hl : D ≤ s.size) :
    Calls Try.prog 12 #[.string s, .int .i64 D] w fun e w' => FixAns s.data.toList D e ∧ w = w' := by
  have hd : decide ((s.size : Int) < D) = false := by simp; omega
  have hsl : Hid (s.data.toList.length = s.size) := by show _ = _; simp
  go_enter Try.func12, Try.ntmps12
  go_wp2_with (go_at_call 22; refine (wid_yes _ _ (by omega) (by omega)).mono ?_; rintro e w' ⟨rfl, rfl⟩)
  go_loop [6, 7, 18] (fun n _ i => ∃ (v : Int) (k : Nat), n = .int .i64 v ∧ i = .int .i64 k ∧ k ≤ D ∧ 0 ≤ v ∧ Hid (v = (bval (s.data.toList.take k) : Int))) (fun _ _ i => D - (intOf i).toNat)
  case atStart => exact ⟨0, 0, rfl, rfl, Nat.zero_le _, by omega, rfl⟩
  case round =>
    obtain ⟨v, k, rfl, rfl, hk, hv0, hv⟩ := hrel
    by_cases hlt : k < D
    · have hv1 : v < 281474976710656 := by rw [hv.out]; exact bval_take_lt _ _ (by omega)
      have hks : k < s.size := by omega
      have hbt : (s[k].toNat : Int) < 256 := by have := s[k].toNat_lt; omega
      go_wp2
      go_round
      case rel =>
        rw [or_byte v _ hv0 hv1 (by omega) hbt]
        refine ⟨_, k + 1, rfl, by go_num, by omega, by omega, ?_⟩
        show _ = _
        rw [bval_take _ k (by rw [hsl.out]; exact hks), Int.natCast_add, Int.natCast_mul, ← hv.out]; rfl
      case measure => simp [intOf]; omega
    · have hkd : k = D := by omega
      have hans := fixans_yes (l := s.data.toList) (D := D) (v := v) h1 h7 (by rw [hsl.out]; exact hl) (by rw [hv.out, hkd])
      clear hkd
      go_wp2
      go_ret2
      exact ⟨hans, rfl⟩
theorem idfix (s : ByteArray) (d : Int) (w : World) : Calls Try.prog 12 #[.string s, .int .i64 d] w fun e w' => FixAns s.data.toList d e ∧ w = w' := by
  by_cases h : d < 1 ∨ 7 < d ∨ (s.size : Int) < d
  · exact idfix_no s d w h
  · obtain ⟨D, rfl⟩ : ∃ D : Nat, d = (D : Int) := ⟨d.toNat, by omega⟩
    exact idfix_yes s D w (by omega) (by omega) (by omega)
end Go.Proofs.Ytckfagjffpajdaa
