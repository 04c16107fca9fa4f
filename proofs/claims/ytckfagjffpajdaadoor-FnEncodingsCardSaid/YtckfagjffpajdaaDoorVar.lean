/- EncodeVarint of the program and of the reference: both give the LEB128 bytes of every n from 0 to MaxVarint, and no bytes for every other n. -/
import Derived.Test.YtckfagjffpajdaaDoorKit
import Derived.Test.YtckfagjffpajdaaDoorNum
import Derived.Test.YtckfagjffpajdaaDoorBits
namespace Go.Proofs.YtckfagjffpajdaaDoor
open Go.RowKit Num

theorem in_yes (x lo hi : Int) (w : World) (h1 : lo ≤ x) (h2 : x ≤ hi) : Calls Tryd.prog 39 #[.int .i64 x, .int .i64 lo, .int .i64 hi] w fun e w' => e = .returned (.bool true) ∧ w = w' := by
  go_enter Tryd.func39, Tryd.ntmps39
  go_wp2
  go_ret
  exact ⟨rfl, rfl⟩
theorem in_no (x lo hi : Int) (w : World) (h : x < lo ∨ hi < x) : Calls Tryd.prog 39 #[.int .i64 x, .int .i64 lo, .int .i64 hi] w fun e w' => e = .returned (.bool false) ∧ w = w' := by
  by_cases h1 : x < lo
  · go_enter Tryd.func39, Tryd.ntmps39
    go_wp2
    go_ret
    exact ⟨rfl, rfl⟩
  · have h2 : hi < x := by omega
    have h3 : lo ≤ x := by omega
    have hd : decide (x ≤ hi) = false := by simpa using h2
    clear h1 h
    go_enter Tryd.func39, Tryd.ntmps39
    go_wp2
    go_ret
    exact ⟨rfl, rfl⟩

theorem ret_str {a b : List UInt8} (h : a = b) : Ending.returned (.string ⟨a.toArray⟩) = .returned (.string ⟨b.toArray⟩) := by rw [h]
theorem enc_out (n : Int) (h : n < 0 ∨ 562949953421311 < n) : encVar n = [] := by unfold encVar; rw [if_neg (by omega)]
theorem enc_in (n : Int) (h0 : 0 ≤ n) (h1 : n ≤ 562949953421311) : encVar n = leb 6 n.toNat := by unfold encVar; rw [if_pos ⟨h0, h1⟩]

theorem senc_out (n : Int) (w : World) (h : n < 0 ∨ 562949953421311 < n) :
    Calls Tryd.prog 28 #[.int .i64 n] w fun e w' => e = .returned (.string ⟨(encVar n).toArray⟩) ∧ Below w.heap.size w w' := by
  rw [enc_out n h]
  go_enter Tryd.func28, Tryd.ntmps28
  go_wp2_with (go_at_call 39; refine (in_no _ _ _ _ (by omega)).mono ?_; rintro e w' ⟨rfl, rfl⟩)
  go_ret
  exact ⟨rfl, Below.refl _ _⟩

theorem leb_step (f m : Nat) (h : ¬ m < 128) (hm : m < 128 ^ (f + 1)) : ∃ g, f = g + 1 ∧ leb f m = UInt8.ofNat (128 + m % 128) :: leb g (m / 128) ∧ m / 128 < 128 ^ (g + 1) := by
  cases f with
  | zero => simp at hm; omega
  | succ g => exact ⟨g, rfl, by rw [leb, if_neg h], by rw [Nat.pow_succ] at hm; omega⟩
theorem leb_last (f m : Nat) (h : m < 128) : leb f m = [UInt8.ofNat m] := by cases f <;> simp [leb, h]

theorem senc_in (n : Int) (w : World) (h0 : 0 ≤ n) (h1 : n ≤ 562949953421311) :
    Calls Tryd.prog 28 #[.int .i64 n] w fun e w' => e = .returned (.string ⟨(encVar n).toArray⟩) ∧ Below w.heap.size w w' := by
  rw [enc_in n h0 h1]
  have hN : Hid (n.toNat < 128 ^ (6 + 1)) := by show n.toNat < 128 ^ (6 + 1); simp; omega
  obtain ⟨i0, hi, hz0, hz1, hz2⟩ := info_parts byte_info
  go_enter Tryd.func28, Tryd.ntmps28
  go_wp2_with (go_at_call 39; refine (in_yes _ _ _ _ (by omega) (by omega)).mono ?_; rintro e w' ⟨rfl, rfl⟩)
  go_loopw [0, 3] (fun s v wr => ∃ (m : Int) (f : Nat) (out : List UInt8), s = .int .i64 m ∧ Hid (out ++ leb f m.toNat = leb 6 n.toNat) ∧ Hid (m.toNat < 128 ^ (f + 1)) ∧ Hid (out.length + f = 6) ∧ 0 ≤ m ∧ m ≤ 562949953421311 ∧ wr.ownsRow w.heap.size 5 1 v out.length (b8 out) ∧ Below w.heap.size w wr) (fun s _ _ => (intOf s).toNat)
  case atStart => exact ⟨n, 6, [], rfl, rfl, hN, rfl, by omega, by omega, World.ownsRow_made _ _ _ (Nat.le_refl _) (by unfold maxLen; omega) rfl, (Below.refl _ _).alloc (Nat.le_refl _) _⟩
  case round =>
    obtain ⟨m, f, out, rfl, hR, hM, hL, hm0, hm, hown, hb⟩ := hrel
    have hl := hL.out
    by_cases hlt : m < 128
    · have hb8 : m = ((UInt8.ofNat m.toNat).toNat : Int) := by rw [UInt8.toNat_ofNat']; omega
      have HB := Lib.hid hb8
      clear hb8
      go_wp2_with (at_builtin; refine wpList_push (.tmp 19) (.tmp 22) (UInt8.ofNat m.toNat) rfl rfl rfl rfl hown hb (by omega) HB.out ?_; clear hown hb; intro v1 w1 hown hb; have hrun := run_own_string hown)
      go_ret
      exact ⟨ret_str (by rw [← hR.out, leb_last _ _ (by omega)]), hb⟩
    · have hb8 : 128 + m % 128 = ((UInt8.ofNat (128 + m.toNat % 128)).toNat : Int) := by rw [UInt8.toNat_ofNat']; omega
      have HB := Lib.hid hb8
      clear hb8
      obtain ⟨g, rfl, hstep, hg⟩ := leb_step f m.toNat (by omega) hM.out
      have HS := Lib.hid hstep
      have HG := Lib.hid hg
      clear hstep hg
      go_wp2_with (at_builtin; refine wpList_push (.tmp 10) (.tmp 15) (UInt8.ofNat (128 + m.toNat % 128)) rfl rfl rfl rfl hown hb (by omega) HB.out ?_; clear hown hb; intro v1 w1 hown hb)
      go_roundw
      case rel => exact ⟨m / 128, g, _, rfl, by show _ = _; rw [← hR.out, HS.out, show (m / 128).toNat = m.toNat / 128 by omega]; simp, by show _ < _; rw [show (m / 128).toNat = m.toNat / 128 by omega]; exact HG.out, by show _ = _; simp; omega, by omega, by omega, hown, hb⟩
      case measure => simp [intOf]; omega

theorem ienc_out (n : Int) (w : World) (h : n < 0 ∨ 562949953421311 < n) :
    Calls Tryd.prog 9 #[.int .i64 n] w fun e w' => e = .returned (.string ⟨(encVar n).toArray⟩) ∧ Below w.heap.size w w' := by
  rw [enc_out n h]
  by_cases h0 : n < 0
  · go_enter Tryd.func9, Tryd.ntmps9
    go_wp2
    go_ret
    exact ⟨rfl, Below.refl _ _⟩
  · have h1 : 562949953421311 < n := by omega
    have h2 : 0 ≤ n := by omega
    clear h h0
    go_enter Tryd.func9, Tryd.ntmps9
    go_wp2
    go_ret
    exact ⟨rfl, Below.refl _ _⟩

theorem ienc_in (n : Int) (w : World) (h0 : 0 ≤ n) (h1 : n ≤ 562949953421311) :
    Calls Tryd.prog 9 #[.int .i64 n] w fun e w' => e = .returned (.string ⟨(encVar n).toArray⟩) ∧ Below w.heap.size w w' := by
  rw [enc_in n h0 h1]
  have hN : Hid (n.toNat < 128 ^ (6 + 1)) := by show n.toNat < 128 ^ (6 + 1); simp; omega
  have hd : decide (562949953421311 < n) = false := by simpa using h1
  go_enter Tryd.func9, Tryd.ntmps9
  go_wp2
  go_loopw [0, 3] (fun s v wr => ∃ (m : Int) (f : Nat) (out : List UInt8), s = .int .i64 m ∧ Hid (out ++ leb f m.toNat = leb 6 n.toNat) ∧ Hid (m.toNat < 128 ^ (f + 1)) ∧ Hid (out.length + f = 6) ∧ 0 ≤ m ∧ m ≤ 562949953421311 ∧ wr.ownsRow w.heap.size 5 1 v out.length (b8 out) ∧ Below w.heap.size w wr) (fun s _ _ => (intOf s).toNat)
  case atStart => exact ⟨n, 6, [], rfl, rfl, hN, rfl, by omega, by omega, World.ownsRow_nil _ _ _ _, Below.refl _ _⟩
  case round =>
    obtain ⟨m, f, out, rfl, hR, hM, hL, hm0, hm, hown, hb⟩ := hrel
    have hl := hL.out
    by_cases hlt : m < 128
    · have hb8 : m = ((UInt8.ofNat m.toNat).toNat : Int) := by rw [UInt8.toNat_ofNat']; omega
      have HB := Lib.hid hb8
      clear hb8
      go_wp2_with (at_builtin; refine wpList_push (.tmp 21) (.tmp 24) (UInt8.ofNat m.toNat) rfl rfl rfl rfl hown hb (by omega) HB.out ?_; clear hown hb; intro v1 w1 hown hb; have hrun := run_own_string hown)
      go_ret
      exact ⟨ret_str (by rw [← hR.out, leb_last _ _ (by omega)]), hb⟩
    · have hb8 : bits BinOp.or IntKind.i64 (bits BinOp.and IntKind.i64 m 127) 128 % 256 = ((UInt8.ofNat (128 + m.toNat % 128)).toNat : Int) := by rw [low7 m hm0 (by omega), high7 _ (by omega) (by omega), UInt8.toNat_ofNat']; omega
      have HB := Lib.hid hb8
      clear hb8
      obtain ⟨g, rfl, hstep, hg⟩ := leb_step f m.toNat (by omega) hM.out
      have HS := Lib.hid hstep
      have HG := Lib.hid hg
      clear hstep hg
      go_wp2_with (at_builtin; refine wpList_push (.tmp 12) (.tmp 17) (UInt8.ofNat (128 + m.toNat % 128)) rfl rfl rfl rfl hown hb (by omega) HB.out ?_; clear hown hb; intro v1 w1 hown hb)
      go_roundw
      case rel => exact ⟨m / 128, g, _, rfl, by show _ = _; rw [← hR.out, HS.out, show (m / 128).toNat = m.toNat / 128 by omega]; simp, by show _ < _; rw [show (m / 128).toNat = m.toNat / 128 by omega]; exact HG.out, by show _ = _; simp; omega, by omega, by omega, hown, hb⟩
      case measure => simp [intOf]; omega

theorem senc (n : Int) (w : World) : Calls Tryd.prog 28 #[.int .i64 n] w fun e w' => e = .returned (.string ⟨(encVar n).toArray⟩) ∧ Below w.heap.size w w' := by
  by_cases h : n < 0 ∨ 562949953421311 < n
  · exact senc_out n w h
  · exact senc_in n w (by omega) (by omega)
theorem ienc (n : Int) (w : World) : Calls Tryd.prog 9 #[.int .i64 n] w fun e w' => e = .returned (.string ⟨(encVar n).toArray⟩) ∧ Below w.heap.size w w' := by
  by_cases h : n < 0 ∨ 562949953421311 < n
  · exact ienc_out n w h
  · exact ienc_in n w (by omega) (by omega)
end Go.Proofs.YtckfagjffpajdaaDoor
