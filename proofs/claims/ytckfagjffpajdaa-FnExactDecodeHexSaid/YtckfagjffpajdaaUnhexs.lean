/- DecodeHex of the reference: the same string and the same bool. -/
import Derived.Test.YtckfagjffpajdaaUnhexi
import Derived.Test.YtckfagjffpajdaaHexs
namespace Go.Proofs.Ytckfagjffpajdaa
open Go.RowKit Num

theorem u8_toNat_ne {a b : UInt8} (h : (a.toNat : Int) ≠ (b.toNat : Int)) : a ≠ b := fun e => h (by rw [e])
set_option maxRecDepth 100000 in
theorem from_any (c r : Int) (b : UInt8) (w : World) (hc : c = (b.toNat : Int)) (hr : r = nib b) :
    Calls Try.prog 24 #[.int .u8 c] w fun e w' => e = .returned (.int .i64 r) ∧ w = w' := by
  have HC := Lib.hid hc
  have HR := Lib.hid hr
  clear hc hr
  go_enter Try.func24, Try.ntmps24
  go_wp2
  go_loop [3] (fun i => ∃ k : Nat, i = .int .i64 k ∧ k ≤ 16 ∧ Hid (∀ j, j < k → hexD j ≠ b)) (fun i => 16 - (intOf i).toNat)
  case atStart => exact ⟨0, rfl, by omega, fun j h => absurd h (Nat.not_lt_zero j)⟩
  case round =>
    obtain ⟨k, rfl, hk, hall⟩ := hrel
    by_cases hlt : k < 16
    · obtain ⟨d, hd⟩ : ∃ d : Int, d = ((hexD k).toNat : Int) := ⟨_, rfl⟩
      have HD := Lib.hid hd
      clear hd
      go_wp2_with fail
      refine (digit_any _ _ (by omega) (by omega)).mono ?_
      rintro e w' ⟨rfl, rfl⟩
      rw [show (((hexD ((k : Nat) : Int).toNat).toNat : Nat) : Int) = d from HD.out.symm]
      by_cases hcd : d = c
      · have hb : hexD k = b := UInt8.toNat_inj.1 (by have := HC.out; have := HD.out; omega)
        have hrk : r = (k : Int) := by rw [HR.out, ← hb, nib_hexD k hlt]
        have HRK := Lib.hid hrk
        have ht : (d == c) = true := by simpa using hcd
        clear hcd hrk hb
        go_wp2_with fail
        go_ret
        exact ⟨by rw [HRK.out]; rfl, rfl⟩
      · have hb : hexD k ≠ b := fun e => hcd (by rw [HD.out, HC.out, e])
        have HB := Lib.hid hb
        have ht : (d == c) = false := by simpa using hcd
        clear hcd hb
        go_wp2_with fail
        go_round
        case rel =>
          refine ⟨k + 1, by go_num, by omega, fun j hj => ?_⟩
          by_cases e : j = k
          · rw [e]; exact HB.out
          · exact hall.out j (by omega)
        case measure => simp [intOf]; omega
    · have hr1 : r = -1 := by rw [HR.out]; exact nib_none b fun j hj => hall.out j (by omega)
      have HR1 := Lib.hid hr1
      clear hr1
      go_wp2_with fail
      go_ret
      exact ⟨by rw [HR1.out]; rfl, rfl⟩

theorem sunhex_odd (s : ByteArray) (hs : s.size ≤ 1048576) (w : World) (ho : s.size % 2 = 1) :
    Calls Try.prog 19 #[.string s] w fun e w' => HexAns s.data.toList e ∧ Below w.heap.size w w' := by
  have hans := hexans_no (unhex_odd s.data.toList (by simpa using ho))
  have hodd : ((s.size : Int) % 2 == 1) = true := by rw [beq_iff_eq]; omega
  clear ho
  go_enter Try.func19, Try.ntmps19
  go_wp2
  go_ret2
  exact ⟨hans, (Below.refl _ _).alloc (Nat.le_refl _) _⟩

set_option maxRecDepth 100000 in
theorem sunhex_even (s : ByteArray) (hs : s.size ≤ 1048576) (w : World) (M : Nat) (ho : s.size = 2 * M) :
    Calls Try.prog 19 #[.string s] w fun e w' => HexAns s.data.toList e ∧ Below w.heap.size w w' := by
  have hM : M ≤ 524288 := by omega
  have HO := Lib.hid ho
  have hsl : Hid (s.data.toList.length = s.size) := by show _ = _; simp
  have hev : ((s.size : Int) % 2 == 1) = false := by rw [beq_eq_false_iff_ne]; omega
  clear ho
  go_enter Try.func19, Try.ntmps19
  go_wp2
  go_loopw [4, 5, 6, 7] (fun v i _ _ wr => ∃ (k : Nat) (x : Value) (out : List UInt8), i = .int .i64 k ∧ x = v ∧ k ≤ s.size ∧ Hid (k = 2 * out.length) ∧ Hid (unhex s.data.toList = (unhex (s.data.toList.drop k)).map (out ++ ·)) ∧ wr.ownsRow w.heap.size 5 1 x out.length (b8 out) ∧ Below w.heap.size w wr) (fun _ i _ _ _ => s.size - (intOf i).toNat)
  case atStart => exact ⟨0, _, [], rfl, rfl, by omega, rfl, by show _ = _; simp, World.ownsRow_made _ _ _ (Nat.le_refl _) (by unfold maxLen; omega) rfl, (Below.refl _ _).alloc (Nat.le_refl _) _⟩
  case round =>
    obtain ⟨k, x, out, rfl, rfl, hk, hkl, hU, hown, hb⟩ := hrel
    by_cases hlt : k < s.size
    · have hk1 : k + 1 < s.size := by have := hkl.out; have := HO.out; omega
      have hst : Hid (unhex (s.data.toList.drop k) = if nib s[k] < 0 ∨ nib s[k + 1] < 0 then none else (unhex (s.data.toList.drop (k + 2))).map (UInt8.ofNat (16 * nib s[k] + nib s[k + 1]).toNat :: ·)) := unhex_step s.data.toList k (by rw [hsl.out]; exact hk1)
      obtain ⟨a, ha⟩ : ∃ a, a = nib s[k] := ⟨_, rfl⟩
      obtain ⟨b, hb0⟩ : ∃ b, b = nib s[k + 1] := ⟨_, rfl⟩
      have ra := nib_range s[k]
      have rb := nib_range s[k + 1]
      rw [← ha] at ra
      rw [← hb0] at rb
      have HA := Lib.hid ha
      have HB := Lib.hid hb0
      clear ha hb0
      have step : ∀ (P : Prop), (a < 0 → P) → (0 ≤ a → b < 0 → P) → (0 ≤ a → 0 ≤ b → P) → P := fun P h1 h2 h3 => by
        by_cases c1 : a < 0
        · exact h1 c1
        · by_cases c2 : b < 0
          · exact h2 (by omega) c2
          · exact h3 (by omega) (by omega)
      refine step _ (fun c1 => ?_) (fun c1 c2 => ?_) (fun c1 c2 => ?_) <;> clear step
      · have hans := hexans_no (l := s.data.toList) (by rw [hU.out, hst.out, ← HA.out, if_pos (.inl c1)]; rfl)
        go_wp2_with fail
        refine (from_any _ a s[k] _ rfl HA.out).mono ?_
        rintro e w' ⟨rfl, rfl⟩
        go_wp2_with fail
        refine (from_any _ b s[k + 1] _ rfl HB.out).mono ?_
        rintro e w' ⟨rfl, rfl⟩
        go_wp2_with fail
        go_ret2
        exact ⟨hans, hb⟩
      · have hans := hexans_no (l := s.data.toList) (by rw [hU.out, hst.out, ← HB.out, if_pos (.inr c2)]; rfl)
        go_wp2_with fail
        refine (from_any _ a s[k] _ rfl HA.out).mono ?_
        rintro e w' ⟨rfl, rfl⟩
        go_wp2_with fail
        refine (from_any _ b s[k + 1] _ rfl HB.out).mono ?_
        rintro e w' ⟨rfl, rfl⟩
        go_wp2_with fail
        go_ret2
        exact ⟨hans, hb⟩
      · have HN : Hid (16 * a + b = ((UInt8.ofNat (16 * a + b).toNat).toNat : Int)) := by
          show _ = _
          rw [UInt8.toNat_ofNat']; omega
        have hol : out.length ≤ 1048576 := by have := hkl.out; omega
        go_wp2_with fail
        refine (from_any _ a s[k] _ rfl HA.out).mono ?_
        rintro e w' ⟨rfl, rfl⟩
        go_wp2_with fail
        refine (from_any _ b s[k + 1] _ rfl HB.out).mono ?_
        rintro e w' ⟨rfl, rfl⟩
        go_wp2_with (at_builtin; refine wpList_push (.tmp 34) (.tmp 40) (UInt8.ofNat (16 * a + b).toNat) rfl rfl rfl rfl hown hb (by omega) HN.out ?_; clear hown hb; intro v1 w1 hown hb)
        go_roundw
        case rel =>
          refine ⟨k + 2, _, _, by go_num, rfl, by omega, ?_, ?_, hown, hb⟩
          · show _ = _
            have := hkl.out
            rw [List.length_append, List.length_singleton]; omega
          · show _ = _
            rw [hU.out, hst.out, ← HA.out, ← HB.out, if_neg (by omega), Option.map_map]
            congr 1
            funext z
            simp
        case measure => simp [intOf]; omega
    · have hrun := run_own_string hown
      have hans := hexans_yes (l := s.data.toList) (o := out) (by rw [hU.out, List.drop_eq_nil_of_le (by rw [hsl.out]; omega)]; simp [unhex])
      go_wp2_with fail
      go_ret2
      exact ⟨hans, hb⟩
theorem sunhex (s : ByteArray) (hs : s.size ≤ 1048576) (w : World) : Calls Try.prog 19 #[.string s] w fun e w' => HexAns s.data.toList e ∧ Below w.heap.size w w' := by
  by_cases h : s.size % 2 = 1
  · exact sunhex_odd s hs w h
  · exact sunhex_even s hs w (s.size / 2) (by omega)
end Go.Proofs.Ytckfagjffpajdaa
