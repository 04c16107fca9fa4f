/- EncodeHex of the program: two lowercase digits for each byte. -/
import Derived.Test.YtckfagjffpajdaaDoorKit
import Derived.Test.YtckfagjffpajdaaDoorNum
import Derived.Test.YtckfagjffpajdaaDoorBits
import Derived.Test.YtckfagjffpajdaaDoorStep
import Derived.OpenShut
namespace Go.Proofs.YtckfagjffpajdaaDoor
open Go.RowKit Num

theorem hex_take (l : List UInt8) (k : Nat) (h : k < l.length) : hex (l.take (k + 1)) = hex (l.take k) ++ [hexD (l[k].toNat / 16), hexD (l[k].toNat % 16)] := by
  rw [take_snoc l k h, hex_append]; rfl
set_option maxRecDepth 100000 in
theorem ihex (s : ByteArray) (hs : s.size ≤ 1048576) (w : World) :
    Calls Tryd.prog 16 #[.string s] w fun e w' => e = .returned (.string ⟨(hex s.data.toList).toArray⟩) ∧ Below w.heap.size w w' := by
  have hsl : Hid (s.data.toList.length = s.size) := by show _ = _; simp
  obtain ⟨i0, hi, hz0, hz1, hz2⟩ := info_parts byte_info
  go_enter Tryd.func16, Tryd.ntmps16
  go_wp2_with (at_make; refine wpList_make_own _ rfl (.const (.int .i64 0)) (.tmp 7) 22 rfl w.heap.size 5 i0 (.int .u8 0) 1 Tryd.underlying22 hi hz0 hz1 .i64 .i64 _ (2 * s.size) rfl rfl (by omega) (by rw [hz2]; omega) (by unfold maxLen; omega) (Nat.le_refl _) ?_; intro w1 hown hg)
  have hb1 : Below w.heap.size w w1 := (Below.refl _ _).grown hg (Nat.le_refl _) (fun _ h => by cases h)
  clear hg
  go_loopw [3, 4, 11] (fun v _ i wr => ∃ (k : Nat) (x : Value), i = .int .i64 k ∧ x = v ∧ k ≤ s.size ∧ wr.ownsRow w.heap.size 5 1 x (hex (s.data.toList.take k)).length (b8 (hex (s.data.toList.take k))) ∧ Below w.heap.size w wr) (fun _ _ i _ => s.size - (intOf i).toNat)
  case atStart => exact ⟨0, _, rfl, rfl, by omega, hown, hb1⟩
  case round =>
    obtain ⟨k, x, rfl, rfl, hk, hown, hb⟩ := hrel
    by_cases hlt : k < s.size
    · have hbt : (s[k].toNat : Int) < 256 := by have := s[k].toNat_lt; omega
      have hand := low4_u8 (s[k].toNat : Int) (by omega) hbt
      have hq0 : 0 ≤ (s[k].toNat : Int) / 16 := by omega
      have hq1 : (s[k].toNat : Int) / 16 < 16 := by omega
      have hr0 : 0 ≤ (s[k].toNat : Int) % 16 := by omega
      have hr1 : (s[k].toNat : Int) % 16 < 16 := by omega
      have hHL : (hex (s.data.toList.take k)).length ≤ 2097152 := by have := hex_length (s.data.toList.take k); rw [List.length_take, hsl.out] at this; omega
      have h1 : ((s[k].toNat : Int) / 16).toNat < hexTab.size := by show _ < 16; omega
      have h2 : ((s[k].toNat : Int) % 16).toNat < hexTab.size := by show _ < 16; omega
      have H1 : Hid (((hexTab[((s[k].toNat : Int) / 16).toNat]'h1).toNat : Int) = ((hexD (s[k].toNat / 16)).toNat : Int)) := by show _ = _; rw [hexTab_at _ h1, show ((s[k].toNat : Int) / 16).toNat = s[k].toNat / 16 by omega]
      have H2 : Hid (((hexTab[((s[k].toNat : Int) % 16).toNat]'h2).toNat : Int) = ((hexD (s[k].toNat % 16)).toNat : Int)) := by show _ = _; rw [hexTab_at _ h2, show ((s[k].toNat : Int) % 16).toNat = s[k].toNat % 16 by omega]
      go_wp2_with fail
      go_region_law ((refine step_push2 (W := w) (out := hex (s.data.toList.take k)) (v := x) (.tmp 14) (.tmp 25) (hexD (s[k].toNat / 16)) (hexD (s[k].toNat % 16)) wr.heap.size rfl rfl rfl rfl (hown.alloc _) ((hb.alloc hb.size _).drew) ⟨_, cell_two_0 wr _ _ _, H1.out⟩ ⟨_, cell_two_1 wr _ _ _, H2.out⟩ (by omega) ?_; intro v2 w2 hown2 hb2))
      all_goals
        go_wp2_with fail
        go_roundw
        case rel =>
          have hst := hex_take s.data.toList k (by rw [hsl.out]; exact hlt)
          rw [show (s.data.toList[k]'(by rw [hsl.out]; exact hlt)) = s[k] from rfl] at hst
          exact ⟨k + 1, _, by go_num, rfl, by omega, by rw [hst]; exact hown2, hb2⟩
        case measure => simp [intOf]; omega
    · have hkd : k = s.size := by omega
      have hrun := run_own_string hown
      go_wp2_with fail
      go_ret
      exact ⟨by rw [hkd, List.take_of_length_le (by rw [hsl.out]; exact Nat.le_refl _)]; rfl, hb⟩
end Go.Proofs.YtckfagjffpajdaaDoor
