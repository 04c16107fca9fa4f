/- EncodeFixed of the program: the width bytes of n, the highest first; no bytes where the width or n is out of range. -/
import Derived.Test.YtckfagjffpajdaaVar
import Derived.OpenShut
import Derived.Test.YtckfagjffpajdaaBits
namespace Go.Proofs.Ytckfagjffpajdaa
open Go.RowKit Num

theorem fix_out (n d : Int) (h : d < 1 ∨ 7 < d ∨ n < 0) : encFixed n d = [] := by unfold encFixed; rw [if_neg (by omega)]
theorem fix_yes (n d : Int) (h1 : 1 ≤ d) (h7 : d ≤ 7) (h0 : 0 ≤ n) (h : n.toNat < 256 ^ d.toNat) : encFixed n d = be d.toNat n.toNat := by unfold encFixed; rw [if_pos ⟨h1, h7, h0, h⟩]
theorem fix_no (n d : Int) (h : ¬ n.toNat < 256 ^ d.toNat) : encFixed n d = [] := by unfold encFixed; rw [if_neg (fun hh => h hh.2.2.2)]

theorem wid_yes (d : Int) (w : World) (h1 : 1 ≤ d) (h7 : d ≤ 7) : Calls Try.prog 22 #[.int .i64 d] w fun e w' => e = .returned (.bool true) ∧ w = w' := by
  go_enter Try.func22, Try.ntmps22
  go_wp2
  go_ret
  exact ⟨rfl, rfl⟩
theorem wid_no (d : Int) (w : World) (h : d < 1 ∨ 7 < d) : Calls Try.prog 22 #[.int .i64 d] w fun e w' => e = .returned (.bool false) ∧ w = w' := by
  by_cases h1 : d < 1
  · go_enter Try.func22, Try.ntmps22
    go_wp2
    go_ret
    exact ⟨rfl, rfl⟩
  · have h2 : 7 < d := by omega
    have h3 : 1 ≤ d := by omega
    have hd : decide (d ≤ 7) = false := by simpa using h2
    clear h1 h
    go_enter Try.func22, Try.ntmps22
    go_wp2
    go_ret
    exact ⟨rfl, rfl⟩

theorem ifix_out (n d : Int) (w : World) (h : d < 1 ∨ 7 < d ∨ n < 0) :
    Calls Try.prog 10 #[.int .i64 n, .int .i64 d] w fun e w' => e = .returned (.string ⟨(encFixed n d).toArray⟩) ∧ Below w.heap.size w w' := by
  rw [fix_out n d h]
  by_cases hd : d < 1 ∨ 7 < d
  · go_enter Try.func10, Try.ntmps10
    go_wp2_with (go_at_call 22; refine (wid_no _ _ (by omega)).mono ?_; rintro e w' ⟨rfl, rfl⟩)
    go_ret
    exact ⟨rfl, Below.refl _ _⟩
  · have h1 : 1 ≤ d := by omega
    have h7 : d ≤ 7 := by omega
    have hn : n < 0 := by omega
    clear h hd
    go_enter Try.func10, Try.ntmps10
    go_wp2_with (go_at_call 22; refine (wid_yes _ _ (by omega) (by omega)).mono ?_; rintro e w' ⟨rfl, rfl⟩)
    go_ret
    exact ⟨rfl, Below.refl _ _⟩

theorem pow8 (k : Nat) : (2 : Nat) ^ (8 * k) = 256 ^ k := by rw [Nat.pow_mul]
theorem shr8 (n : Int) (k : Nat) (h0 : 0 ≤ n) : n / 2 ^ (8 * k) = ((n.toNat / 256 ^ k : Nat) : Int) := by
  obtain ⟨N, rfl⟩ : ∃ N : Nat, n = (N : Int) := ⟨n.toNat, by omega⟩
  rw [← pow8, Int.toNat_natCast, Int.natCast_ediv]
  exact_mod_cast rfl
theorem shr8_zero (n : Int) (k : Nat) (h0 : 0 ≤ n) (h : n.toNat < 256 ^ k) : (n / 2 ^ (8 * k) != 0) = false := by rw [shr8 n k h0, Nat.div_eq_of_lt h]; rfl
theorem shr8_pos (n : Int) (k : Nat) (h0 : 0 ≤ n) (h : ¬ n.toNat < 256 ^ k) : (n / 2 ^ (8 * k) != 0) = true := by
  rw [shr8 n k h0]
  have := Nat.div_pos (Nat.le_of_not_lt h) (Nat.pow_pos (n := k) (show 0 < 256 by decide))
  rw [bne_iff_ne]; omega
theorem ifix_big (n : Int) (D : Nat) (w : World) (h1 : 1 ≤ D) (h7 : D ≤ 7) (h0 : 0 ≤ n) (_h63 : n ≤ 9223372036854775807) (hb : ¬ n.toNat < 256 ^ D) :
    Calls Try.prog 10 #[.int .i64 n, .int .i64 D] w fun e w' => e = .returned (.string ⟨(encFixed n D).toArray⟩) ∧ Below w.heap.size w w' := by
  rw [fix_no n D (by simpa using hb)]
  have ht := shr8_pos n D h0 hb
  clear hb
  go_enter Try.func10, Try.ntmps10
  go_wp2_with (go_at_call 22; refine (wid_yes _ _ (by omega) (by omega)).mono ?_; rintro e w' ⟨rfl, rfl⟩)
  go_ret
  exact ⟨rfl, Below.refl _ _⟩
set_option maxRecDepth 100000 in
theorem ifix_in (n : Int) (D : Nat) (w : World) (h1 : 1 ≤ D) (h7 : D ≤ 7) (h0 : 0 ≤ n) (h63 : n ≤ 9223372036854775807) (hb : n.toNat < 256 ^ D) :
    Calls Try.prog 10 #[.int .i64 n, .int .i64 D] w fun e w' => e = .returned (.string ⟨(encFixed n D).toArray⟩) ∧ Below w.heap.size w w' := by
  rw [fix_yes n D (by omega) (by omega) h0 (by simpa using hb)]
  have ht := shr8_zero n D h0 hb
  clear hb
  obtain ⟨i0, hi, hz0, hz1, hz2⟩ := info_parts byte_info
  go_enter Try.func10, Try.ntmps10
  go_wp2_with (first
    | (go_at_call 22; refine (wid_yes _ _ (by omega) (by omega)).mono ?_; rintro e w' ⟨rfl, rfl⟩)
    | (at_make; refine wpList_make_full _ rfl (.tmp 21) (.tmp 21) 36 rfl w.heap.size 5 i0 (.int .u8 0) 1 Try.underlying36 hi hz0 hz1 .i64 .i64 _ _ D rfl rfl rfl rfl (by rw [hz2]; omega) (by unfold maxLen; omega) (Nat.le_refl _) ?_; intro w1 hown hg; rw [b8_made, ← fx_zero D n.toNat] at hown))
  have hb1 : Below w.heap.size w w1 := (Below.refl _ _).grown hg (Nat.le_refl _) (fun _ h => by cases h)
  clear hg
  go_loopw [6, 25] (fun _ i wr => ∃ k : Nat, i = .int .i64 k ∧ k ≤ D ∧ wr.ownsRow w.heap.size 5 1 (.slice (some ⟨w.heap.size, 0, none⟩) D D) D (b8 (fx D n.toNat k)) ∧ Below w.heap.size w wr) (fun _ i _ => D - (intOf i).toNat)
  case atStart => exact ⟨0, rfl, by omega, hown, hb1⟩
  case round =>
    obtain ⟨k, rfl, hk, hown, hb⟩ := hrel
    by_cases hlt : k < D
    · have hfl := fx_length D n.toNat k hk
      have hcell : wr.cell? ⟨w.heap.size, k, none⟩ = some (.int .u8 ((fx D n.toNat k)[k]'(by omega)).toNat) := by rw [hown.cellAt k (by omega), b8_get _ k (by omega)]
      have hfro := hown.frozenAt k
      go_wp2
      go_roundw
      case rel =>
        have hst := hown.stored k (.int .u8 (n / 2 ^ (8 * (D - 1 - k)) % 256))
        rw [b8_set _ k (UInt8.ofNat (n.toNat / 256 ^ (D - 1 - k))) _ (by rw [shr8 n _ h0, UInt8.toNat_ofNat']; omega), fx_step D n.toNat k hlt] at hst
        exact ⟨k + 1, by go_num, by omega, hst.1, hb.setCell (Nat.le_refl _) _⟩
      case measure => simp [intOf]; omega
    · have hkd : k = D := by omega
      have hrun := run_own_string hown
      rw [hkd, fx_end] at hrun
      clear hkd
      go_wp2_with fail
      go_ret
      exact ⟨rfl, hb⟩
theorem ifix (n d : Int) (w : World) (wn : (Lit.int .i64 n).wf = true) :
    Calls Try.prog 10 #[.int .i64 n, .int .i64 d] w fun e w' => e = .returned (.string ⟨(encFixed n d).toArray⟩) ∧ Below w.heap.size w w' := by
  have hbd : n ≤ 9223372036854775807 := (bounds_i64 wn).2
  by_cases h : d < 1 ∨ 7 < d ∨ n < 0
  · exact ifix_out n d w h
  · obtain ⟨D, rfl⟩ : ∃ D : Nat, d = (D : Int) := ⟨d.toNat, by omega⟩
    by_cases hb : n.toNat < 256 ^ D
    · exact ifix_in n D w (by omega) (by omega) (by omega) hbd hb
    · exact ifix_big n D w (by omega) (by omega) (by omega) hbd hb
end Go.Proofs.Ytckfagjffpajdaa
