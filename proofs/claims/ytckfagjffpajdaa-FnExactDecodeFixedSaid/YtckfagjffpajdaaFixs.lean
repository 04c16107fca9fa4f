/- EncodeFixed of the reference: the width bytes of n, the highest first; no bytes where the width or n is out of range. -/
import Derived.Test.YtckfagjffpajdaaFixi
namespace Go.Proofs.Ytckfagjffpajdaa
open Go.RowKit Num

theorem sfix_out (n d : Int) (w : World) (h : d < 1 ∨ 7 < d ∨ n < 0) :
    Calls Try.prog 9 #[.int .i64 n, .int .i64 d] w fun e w' => e = .returned (.string ⟨(encFixed n d).toArray⟩) ∧ Below w.heap.size w w' := by
  rw [fix_out n d h]
  by_cases hd : d < 1 ∨ 7 < d
  · go_enter Try.func9, Try.ntmps9
    go_wp2_with (go_at_call 21; refine (in_no _ _ _ _ (by omega)).mono ?_; rintro e w' ⟨rfl, rfl⟩)
    go_ret
    exact ⟨rfl, Below.refl _ _⟩
  · have h1 : 1 ≤ d := by omega
    have h7 : d ≤ 7 := by omega
    have hn : n < 0 := by omega
    clear h hd
    go_enter Try.func9, Try.ntmps9
    go_wp2_with (go_at_call 21; refine (in_yes _ _ _ _ (by omega) (by omega)).mono ?_; rintro e w' ⟨rfl, rfl⟩)
    go_ret
    exact ⟨rfl, Below.refl _ _⟩

theorem sfix_in (n d : Int) (w : World) (h1 : 1 ≤ d) (h7 : d ≤ 7) (h0 : 0 ≤ n) (h63 : n ≤ 9223372036854775807) :
    Calls Try.prog 9 #[.int .i64 n, .int .i64 d] w fun e w' => e = .returned (.string ⟨(encFixed n d).toArray⟩) ∧ Below w.heap.size w w' := by
  go_enter Try.func9, Try.ntmps9
  go_wp2_with (go_at_call 21; refine (in_yes _ _ _ _ (by omega) (by omega)).mono ?_; rintro e w' ⟨rfl, rfl⟩)
  go_loopw [0, 5, 6] (fun m o i wr => ∃ (k : Nat) (x : Int), i = .int .i64 k ∧ m = .int .i64 x ∧ o = .string ⟨(be k n.toNat).toArray⟩ ∧ (k : Int) ≤ d ∧ 0 ≤ x ∧ x ≤ 9223372036854775807 ∧ Hid (x = ((n.toNat / 256 ^ k : Nat) : Int)) ∧ Below w.heap.size w wr) (fun _ _ i _ => (d - intOf i).toNat)
  case atStart => exact ⟨0, n, rfl, rfl, rfl, by omega, h0, h63, by show _ = _; simp; omega, Below.refl _ _⟩
  case round =>
    obtain ⟨k, x, rfl, rfl, rfl, hk, hx0, hx1, hx, hb⟩ := hrel
    have hl := be_length k n.toNat
    by_cases hlt : (k : Int) < d
    · have hone := one_string wr (x % 256) (UInt8.ofNat (n.toNat / 256 ^ k)) (by rw [hx.out, UInt8.toNat_ofNat']; omega)
      go_wp2
      go_roundw
      case rel =>
        refine ⟨k + 1, x / 256, by go_num, rfl, ?_, by omega, by omega, by omega, ?_, hb.alloc hb.size _⟩
        · rw [be]; exact congrArg Value.string (ByteArray.mk_append_mk [_] _)
        · show _ = _
          rw [hx.out, Nat.pow_succ, ← Nat.div_div_eq_div_mul]; omega
      case measure => simp [intOf]; omega
    · have hkd : k = d.toNat := by omega
      by_cases hz : 0 < x
      · go_wp2
        go_ret
        exact ⟨by rw [fix_no n d (by have := hx.out; rw [← hkd]; intro hh; rw [Nat.div_eq_of_lt hh] at this; omega)]; rfl, hb⟩
      · go_wp2
        go_ret
        exact ⟨by rw [fix_yes n d h1 h7 h0 (by have := hx.out; rw [← hkd]; exact Nat.lt_of_not_le fun hh => by have := Nat.div_pos hh (Nat.pow_pos (n := k) (show 0 < 256 by decide)); omega), ← hkd]; rfl, hb⟩
theorem sfix (n d : Int) (w : World) (wn : (Lit.int .i64 n).wf = true) :
    Calls Try.prog 9 #[.int .i64 n, .int .i64 d] w fun e w' => e = .returned (.string ⟨(encFixed n d).toArray⟩) ∧ Below w.heap.size w w' := by
  have hbd : n ≤ 9223372036854775807 := (bounds_i64 wn).2
  by_cases h : d < 1 ∨ 7 < d ∨ n < 0
  · exact sfix_out n d w h
  · exact sfix_in n d w (by omega) (by omega) (by omega) hbd
end Go.Proofs.Ytckfagjffpajdaa
