/- DecodeHex of the program: the string whose lowercase digits are given; no string and false where there is none. -/
import Derived.Test.YtckfagjffpajdaaDoorHexi
import Derived.Test.YtckfagjffpajdaaDoorShelf
namespace Go.Proofs.YtckfagjffpajdaaDoor
open Go.RowKit Num

theorem tab_index_fin : ∀ i : Fin 256, Lib.indexByte hexTab.data.toList (UInt8.ofNat i.val) = nib (UInt8.ofNat i.val) := by decide +kernel
theorem tab_index (b : UInt8) : Lib.indexByte hexTab.data.toList b = nib b := by
  have := tab_index_fin ⟨b.toNat, b.toNat_lt⟩
  simpa using this
/-- 'strings.IndexByte(hexDigits, c)'. -/
theorem idx_any (c r : Int) (b : UInt8) (w : World) (hc : c = (b.toNat : Int)) (hr : r = nib b) :
    Calls Tryd.prog 27 #[.string hexTab, .int .u8 c] w fun e w' => e = .returned (.int .i64 r) ∧ w = w' := by
  refine (Tryd.strings_IndexByte hexTab c w).mono fun e w' ⟨he, hw⟩ => ⟨?_, hw.symm⟩
  rw [hr, he, hc, Int.toNat_natCast, show b.toNat.toUInt8 = b by simp, tab_index]
/-- What both DecodeHex answer. -/
def HexAns (l : List UInt8) (e : Ending) : Prop := e = .returned (.tuple #[.string ⟨((unhex l).getD []).toArray⟩, .bool (unhex l).isSome])
theorem hexans_no {l : List UInt8} (h : unhex l = none) : HexAns l (.returned (.tuple #[.string ⟨#[]⟩, .bool false])) := by unfold HexAns; rw [h]; rfl
theorem hexans_yes {l o : List UInt8} (h : unhex l = some o) : HexAns l (.returned (.tuple #[.string ⟨o.toArray⟩, .bool true])) := by unfold HexAns; rw [h]; rfl
theorem or_nib (a b : Int) (h0 : 0 ≤ a) (h1 : a < 16) (h2 : 0 ≤ b) (h3 : b < 16) : bits .or .i64 (a * 16) b = 16 * a + b := by
  obtain ⟨A, rfl⟩ : ∃ A : Nat, a = (A : Int) := ⟨a.toNat, by omega⟩
  obtain ⟨B, rfl⟩ : ∃ B : Nat, b = (B : Int) := ⟨b.toNat, by omega⟩
  have := or64 (2 ^ 4 * A) B (by omega) (by omega)
  rw [or_high 4 A B (by omega)] at this
  rw [show (A : Int) * 16 = ((2 ^ 4 * A : Nat) : Int) by omega, this]
  omega

theorem iunhex_odd (s : ByteArray) (hs : s.size ≤ 1048576) (w : World) (ho : s.size % 2 = 1) :
    Calls Tryd.prog 15 #[.string s] w fun e w' => HexAns s.data.toList e ∧ Below w.heap.size w w' := by
  have hans := hexans_no (unhex_odd s.data.toList (by simpa using ho))
  have hodd : ((s.size : Int) % 2 != 0) = true := by rw [bne_iff_ne]; omega
  go_enter Tryd.func15, Tryd.ntmps15
  go_wp2
  go_ret2
  exact ⟨hans, Below.refl _ _⟩

set_option maxRecDepth 100000 in
theorem iunhex_even (s : ByteArray) (hs : s.size ≤ 1048576) (w : World) (M : Nat) (ho : s.size = 2 * M) :
    Calls Tryd.prog 15 #[.string s] w fun e w' => HexAns s.data.toList e ∧ Below w.heap.size w w' := by
  have hM : M ≤ 524288 := by omega
  have HO := Lib.hid ho
  have hsl : Hid (s.data.toList.length = s.size) := by show _ = _; simp
  have hev : ((s.size : Int) % 2 != 0) = false := by rw [bne_eq_false_iff_eq]; omega
  have hhalf : (s.size : Int) / 2 = (M : Int) := by omega
  clear ho
  obtain ⟨i0, hi, hz0, hz1, hz2⟩ := info_parts byte_info
  go_enter Tryd.func15, Tryd.ntmps15
  go_wp2_with (at_make; refine wpList_make_own _ rfl (.const (.int .i64 0)) (.tmp 14) 22 rfl w.heap.size 5 i0 (.int .u8 0) 1 Tryd.underlying22 hi hz0 hz1 .i64 .i64 _ M rfl rfl rfl (by rw [hz2]; omega) (by unfold maxLen; omega) (Nat.le_refl _) ?_; intro w1 hown hg)
  have hb1 : Below w.heap.size w w1 := (Below.refl _ _).grown hg (Nat.le_refl _) (fun _ h => by cases h)
  clear hg
  go_loopw [4, 5, 6, 7] (fun v i _ _ wr => ∃ (k : Nat) (x : Value) (out : List UInt8), i = .int .i64 k ∧ x = v ∧ k ≤ s.size ∧ Hid (k = 2 * out.length) ∧ Hid (unhex s.data.toList = (unhex (s.data.toList.drop k)).map (out ++ ·)) ∧ wr.ownsRow w.heap.size 5 1 x out.length (b8 out) ∧ Below w.heap.size w wr) (fun _ i _ _ _ => s.size - (intOf i).toNat)
  case atStart => exact ⟨0, _, [], rfl, rfl, by omega, rfl, by show _ = _; simp, hown, hb1⟩
  case round =>
    obtain ⟨k, x, out, rfl, rfl, hk, hkl, hU, hown, hb⟩ := hrel
    by_cases hlt : k < s.size
    · have hk1 : k + 1 < s.size := by have := hkl.out; have := HO.out; omega
      have hst : Hid (unhex (s.data.toList.drop k) = if nib s[k] < 0 ∨ nib s[k + 1] < 0 then none else (unhex (s.data.toList.drop (k + 2))).map (UInt8.ofNat (16 * nib s[k] + nib s[k + 1]).toNat :: ·)) := unhex_step s.data.toList k (by rw [hsl.out]; exact hk1)
      obtain ⟨a, ha⟩ : ∃ a, a = nib s[k] := ⟨_, rfl⟩
      obtain ⟨b, hb0⟩ : ∃ b, b = nib s[k + 1] := ⟨_, rfl⟩
      have ra := nib_range s[k]
      have rb := nib_range s[k + 1]
      rw [← ha] at ra
      rw [← hb0] at rb
      have HA := Lib.hid ha
      have HB := Lib.hid hb0
      clear ha hb0
      have step : ∀ (P : Prop), (a < 0 → P) → (0 ≤ a → b < 0 → P) → (0 ≤ a → 0 ≤ b → P) → P := fun P h1 h2 h3 => by
        by_cases c1 : a < 0
        · exact h1 c1
        · by_cases c2 : b < 0
          · exact h2 (by omega) c2
          · exact h3 (by omega) (by omega)
      refine step _ (fun c1 => ?_) (fun c1 c2 => ?_) (fun c1 c2 => ?_) <;> clear step
      · have hans := hexans_no (l := s.data.toList) (by rw [hU.out, hst.out, ← HA.out, if_pos (.inl c1)]; rfl)
        go_wp2_with fail
        refine (idx_any _ a s[k] _ rfl HA.out).mono ?_
        rintro e w' ⟨rfl, rfl⟩
        go_wp2_with fail
        refine (idx_any _ b s[k + 1] _ rfl HB.out).mono ?_
        rintro e w' ⟨rfl, rfl⟩
        go_wp2_with fail
        go_ret2
        exact ⟨hans, hb⟩
      · have hans := hexans_no (l := s.data.toList) (by rw [hU.out, hst.out, ← HB.out, if_pos (.inr c2)]; rfl)
        go_wp2_with fail
        refine (idx_any _ a s[k] _ rfl HA.out).mono ?_
        rintro e w' ⟨rfl, rfl⟩
        go_wp2_with fail
        refine (idx_any _ b s[k + 1] _ rfl HB.out).mono ?_
        rintro e w' ⟨rfl, rfl⟩
        go_wp2_with fail
        go_ret2
        exact ⟨hans, hb⟩
      · have HN : Hid (bits BinOp.or IntKind.i64 (a * 16) b % 256 = ((UInt8.ofNat (16 * a + b).toNat).toNat : Int)) := by
          show _ = _
          rw [or_nib a b c1 ra.2 c2 rb.2, UInt8.toNat_ofNat']; omega
        have hol : out.length ≤ 1048576 := by have := hkl.out; omega
        go_wp2_with fail
        refine (idx_any _ a s[k] _ rfl HA.out).mono ?_
        rintro e w' ⟨rfl, rfl⟩
        go_wp2_with fail
        refine (idx_any _ b s[k + 1] _ rfl HB.out).mono ?_
        rintro e w' ⟨rfl, rfl⟩
        go_wp2_with (at_builtin; refine wpList_push (.tmp 37) (.tmp 43) (UInt8.ofNat (16 * a + b).toNat) rfl rfl rfl rfl hown hb (by omega) HN.out ?_; clear hown hb; intro v1 w1 hown hb)
        go_roundw
        case rel =>
          refine ⟨k + 2, _, _, by go_num, rfl, by omega, ?_, ?_, hown, hb⟩
          · show _ = _
            have := hkl.out
            rw [List.length_append, List.length_singleton]; omega
          · show _ = _
            rw [hU.out, hst.out, ← HA.out, ← HB.out, if_neg (by omega), Option.map_map]
            congr 1
            funext z
            simp
        case measure => simp [intOf]; omega
    · have hrun := run_own_string hown
      have hans := hexans_yes (l := s.data.toList) (o := out) (by rw [hU.out, List.drop_eq_nil_of_le (by rw [hsl.out]; omega)]; simp [unhex])
      go_wp2_with fail
      go_ret2
      exact ⟨hans, hb⟩
theorem iunhex (s : ByteArray) (hs : s.size ≤ 1048576) (w : World) : Calls Tryd.prog 15 #[.string s] w fun e w' => HexAns s.data.toList e ∧ Below w.heap.size w w' := by
  by_cases h : s.size % 2 = 1
  · exact iunhex_odd s hs w h
  · exact iunhex_even s hs w (s.size / 2) (by omega)
end Go.Proofs.YtckfagjffpajdaaDoor
