/- DecodeVarint of the reference: the same number and length as the program's, for every string. -/
import Derived.Test.YtckfagjffpajdaaDecV
import Derived.Test.YtckfagjffpajdaaVar
import Derived.Deep.RegionWith
namespace Go.Proofs.Ytckfagjffpajdaa
open Go.RowKit Num

set_option maxRecDepth 100000 in
theorem sdec (s : ByteArray) (hs : s.size ≤ maxLen) (w : World) :
    Calls Try.prog 15 #[.string s] w fun e w' => e = .returned (.tuple #[.int .i64 (decV s.data.toList).1, .int .i64 (decV s.data.toList).2]) ∧ Below w.heap.size w w' := by
  unfold maxLen at hs
  have hd : Hid (decV s.data.toList = sv s.data.toList 7 1) := (sv_decV _).symm
  have hsl : Hid (s.data.toList.length = s.size) := by show _ = _; simp
  go_enter Try.func15, Try.ntmps15
  go_wp2
  go_loopw [4, 5, 6] (fun i _ _ wr => ∃ (k : Nat), i = .int .i64 k ∧ 1 ≤ k ∧ k ≤ 8 ∧ Hid (sv s.data.toList (8 - k) k = sv s.data.toList 7 1) ∧ Below w.heap.size w wr) (fun i _ _ _ => 8 - (intOf i).toNat)
  case atStart => exact ⟨1, rfl, by omega, by omega, rfl, Below.refl _ _⟩
  case round =>
    obtain ⟨k, rfl, hk1, hk8, hS, hb⟩ := hrel
    by_cases hlt : k ≤ 7
    · by_cases hle : k ≤ s.size
      · go_wp2
        go_loop [5, 6] (fun n i => ∃ (v i' : Int), n = .int .i64 v ∧ i = .int .i64 i' ∧ -1 ≤ i' ∧ i' < k ∧ Hid (v = (v7 ((s.data.toList.take k).drop (i' + 1).toNat) : Int)) ∧ 0 ≤ v ∧ v < 562949953421312) (fun _ i => (intOf i + 1).toNat)
        case atStart => exact ⟨0, (k : Int) - 1, rfl, rfl, by omega, by omega, by show (0 : Int) = _; rw [show ((k : Int) - 1 + 1).toNat = k by omega, List.drop_eq_nil_of_le (by rw [List.length_take]; omega)]; rfl, by omega, by omega⟩
        case round =>
          obtain ⟨v, i, rfl, rfl, hi0, hik, hv, hv0, hv1⟩ := hrel
          by_cases hneg : i < 0
          · have hkb : k ≤ s.size := hle
            go_wp2_with fail
            go_region_with (go_at_call 13; refine (senc v _).mono ?_; rintro e w1 ⟨rfl, b1⟩)
            have hi : i = -1 := by omega
            have hvt : v = (v7 (s.data.toList.take k) : Int) := by rw [hv.out, hi]; rfl
            have hev : encVar v = leb 6 (v7 (s.data.toList.take k)) := by rw [enc_in v hv0 (by omega), hvt]; rfl
            have hext := ext_take s k
            have HV := Lib.hid hvt
            have HE := Lib.hid hev
            have HX := Lib.hid hext
            clear hvt hev hext hi
            go_wp2_with fail
            · have ht : (encVar v == (s.extract 0 k).toList) = true := by assumption
              rw [HE.out, HX.out, beq_iff_eq] at ht
              go_ret2
              exact ⟨by rw [hd.out, ← hS.out, show 8 - k = 7 - k + 1 by omega, sv, if_pos (by rw [hsl.out]; exact hkb), if_pos ht]; exact ret_pair HV.out rfl, hb.drew.trans (b1.mono hb.size)⟩
            · have ht : (encVar v == (s.extract 0 k).toList) = false := by assumption
              rw [HE.out, HX.out, beq_eq_false_iff_ne] at ht
              go_roundw
              case rel =>
                refine ⟨k + 1, by go_num, by omega, by omega, ?_, hb.drew.trans (b1.mono hb.size)⟩
                show _ = _
                rw [← hS.out, show 8 - k = 7 - k + 1 by omega, sv, if_pos (by rw [hsl.out]; exact hkb), if_neg ht, show 8 - (k + 1) = 7 - k by omega]
              case measure => simp [intOf]; omega
          · obtain ⟨t, rfl⟩ : ∃ t : Nat, i = (t : Int) := ⟨i.toNat, by omega⟩
            have htk : t < k := by omega
            have hts : t < s.size := by omega
            have hbt : (s[t].toNat : Int) < 256 := by have := s[t].toNat_lt; omega
            go_wp2
            go_round
            case rel =>
              have hdt := drop_take_cons s.data.toList k t htk (by rw [hsl.out]; exact hle)
              have hv2 := hv.out
              have hn : v * 128 + (s[t].toNat : Int) % 128 = (v7 ((s.data.toList.take k).drop t) : Int) := by
                rw [hdt, v7, hv2, show ((t : Int) + 1).toNat = t + 1 by omega]
                have : (s.data.toList[t]'(by rw [hsl.out]; exact hts)) = s[t] := rfl
                rw [this]; omega
              have hlt7 := v7_lt ((s.data.toList.take k).drop t)
              have hle7 : 128 ^ ((s.data.toList.take k).drop t).length ≤ 128 ^ 7 := Nat.pow_le_pow_right (by decide) (by rw [List.length_drop, List.length_take]; omega)
              have h7 : (128 : Nat) ^ 7 = 562949953421312 := by decide
              exact ⟨_, (t : Int) - 1, rfl, rfl, by omega, by omega, by rw [hn, show ((t : Int) - 1 + 1).toNat = t by omega]; rfl, by rw [hn]; omega, by rw [hn]; omega⟩
            case measure => simp [intOf]
      · have hd1 : decide ((k : Int) ≤ s.size) = false := by simp; omega
        go_wp2
        go_ret2
        exact ⟨by rw [hd.out, ← hS.out, show 8 - k = 7 - k + 1 by omega, sv, if_neg (by rw [hsl.out]; exact hle)]; rfl, hb⟩
    · go_wp2
      go_ret2
      exact ⟨by rw [hd.out, ← hS.out, show 8 - k = 0 by omega]; rfl, hb⟩
end Go.Proofs.Ytckfagjffpajdaa
