/- EncodeHex of the reference: the same digits. -/
import Derived.Test.YtckfagjffpajdaaHexi
namespace Go.Proofs.Ytckfagjffpajdaa
open Go.RowKit Num

theorem digit_any (q : Int) (w : World) (h0 : 0 ≤ q) (h : q < 16) : Calls Try.prog 23 #[.int .i64 q] w fun e w' => e = .returned (.int .u8 ((hexD q.toNat).toNat : Int)) ∧ w = w' := by
  have h1 : q.toNat < hexTab.size := by show _ < 16; omega
  have H1 : Hid (((hexTab[q.toNat]'h1).toNat : Int) = ((hexD q.toNat).toNat : Int)) := by show _ = _; rw [hexTab_at _ h1]
  go_enter Try.func23, Try.ntmps23
  go_wp2
  go_ret
  exact ⟨congrArg (fun z => Ending.returned (.int .u8 z)) H1.out, rfl⟩

set_option maxRecDepth 100000 in
theorem shex (s : ByteArray) (hs : s.size ≤ 1048576) (w : World) :
    Calls Try.prog 17 #[.string s] w fun e w' => e = .returned (.string ⟨(hex s.data.toList).toArray⟩) ∧ Below w.heap.size w w' := by
  have hsl : Hid (s.data.toList.length = s.size) := by show _ = _; simp
  go_enter Try.func17, Try.ntmps17
  go_wp2
  go_loopw [3, 4] (fun v i wr => ∃ (k : Nat) (x : Value), i = .int .i64 k ∧ x = v ∧ k ≤ s.size ∧ wr.ownsRow w.heap.size 5 1 x (hex (s.data.toList.take k)).length (b8 (hex (s.data.toList.take k))) ∧ Below w.heap.size w wr) (fun _ i _ => s.size - (intOf i).toNat)
  case atStart => exact ⟨0, _, rfl, rfl, by omega, World.ownsRow_made _ _ _ (Nat.le_refl _) (by unfold maxLen; omega) rfl, (Below.refl _ _).alloc (Nat.le_refl _) _⟩
  case round =>
    obtain ⟨k, x, rfl, rfl, hk, hown, hb⟩ := hrel
    by_cases hlt : k < s.size
    · have hbt : (s[k].toNat : Int) < 256 := by have := s[k].toNat_lt; omega
      have hHL : (hex (s.data.toList.take k)).length ≤ 2097152 := by have := hex_length (s.data.toList.take k); rw [List.length_take, hsl.out] at this; omega
      have ew : IntKind.i64.wrap (s[k].toNat : Int) = (s[k].toNat : Int) := IntWalk.i64_in _ (by omega)
      have ew2 : IntKind.i64.wrap ((s[k].toNat : Int) / 16) = (s[k].toNat : Int) / 16 := IntWalk.i64_in _ (by omega)
      have ew3 : IntKind.i64.wrap ((s[k].toNat : Int).tdiv 16) = (s[k].toNat : Int) / 16 := by rw [Int.tdiv_eq_ediv_of_nonneg (by omega)]; exact ew2
      have ew4 : (s[k].toNat : Int).tmod 16 = (s[k].toNat : Int) % 16 := Int.tmod_eq_emod_of_nonneg (by omega)
      have hq : ((s[k].toNat : Int) / 16).toNat = s[k].toNat / 16 := by omega
      have hr : ((s[k].toNat : Int) % 16).toNat = s[k].toNat % 16 := by omega
      go_wp2_with fail
      go_region_law (first | (refine step_push2 (W := w) (out := hex (s.data.toList.take k)) (v := x) (.tmp 12) (.tmp 25) (hexD (s[k].toNat / 16)) (hexD (s[k].toNat % 16)) wr.heap.size rfl rfl rfl rfl (hown.alloc _) ((hb.alloc hb.size _).drew) ⟨_, cell_two_0 wr _ _ _, rfl⟩ ⟨_, cell_two_1 wr _ _ _, rfl⟩ (by omega) ?_; intro v2 w2 hown2 hb2) | (go_simp; go_at_call 23; refine (digit_any _ _ (by omega) (by omega)).mono ?_; rintro e w' ⟨rfl, rfl⟩))
      all_goals
        go_wp2_with fail
        go_roundw
        case rel =>
          have hst := hex_take s.data.toList k (by rw [hsl.out]; exact hlt)
          rw [show (s.data.toList[k]'(by rw [hsl.out]; exact hlt)) = s[k] from rfl] at hst
          exact ⟨k + 1, _, by go_num, rfl, by omega, by rw [hst]; exact hown2, hb2⟩
        case measure => simp [intOf]; omega
    · have hkd : k = s.size := by omega
      have hrun := run_own_string hown
      go_wp2_with fail
      go_ret
      exact ⟨by rw [hkd, List.take_of_length_le (by rw [hsl.out]; exact Nat.le_refl _)]; rfl, hb⟩
end Go.Proofs.Ytckfagjffpajdaa
