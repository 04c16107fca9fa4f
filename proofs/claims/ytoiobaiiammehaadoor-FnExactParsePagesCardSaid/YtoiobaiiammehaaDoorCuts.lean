/- The reference's l2Cut, by contract: all pieces between the signs. -/
import Derived.Test.YtoiobaiiammehaaDoorStrs
import Derived.Test.YtoiobaiiammehaaDoorMath
namespace Go.Proofs.YtoiobaiiammehaaDoor
open Go.RowKit

theorem data_get (s : ByteArray) (k : Nat) (h : k < s.size) : s.data.toList[k]'(by simpa using h) = s[k] := by simp; rfl
set_option maxRecDepth 100000 in
theorem scut (s : ByteArray) (b : UInt8) (n : Int) (hn : n = (b.toNat : Int)) (hs : s.size ≤ 1000000000000) (w : World) : Calls Tryd.prog 23 #[.string s, .int .u8 n] w fun e w' =>
    ∃ g cap, e = .returned (.slice (some ⟨g, 0, none⟩) (Cut.cut b s.data.toList).length cap) ∧ w.heap.size ≤ g ∧ IsStrs w' g (Cut.cut b s.data.toList) ∧ Below w.heap.size w w' := by
  have HN := Lib.hid hn
  clear hn
  have hsl : s.data.toList.length = s.size := by simp
  have HSL := Lib.hid hsl
  clear hsl
  have hb0 : Below w.heap.size w (w.alloc (.cells #[] 9)) := (Below.refl _ _).alloc (Nat.le_refl _) _
  have HO0 := Lib.hid (World.ownsRow_made (e := 9) (size := 1) (base := w.heap.size) w #[] 0 (Nat.le_refl _) (by unfold maxLen; omega) rfl)
  have HB0 := Lib.hid hb0
  clear hb0
  go_enter Tryd.func23, Tryd.ntmps23
  go_wp2_with fail
  go_loopw [5, 6, 7] (fun v f i wr => ∃ (k m : Nat) (x : Value), f = .int .i64 m ∧ i = .int .i64 k ∧ x = v ∧ k ≤ s.size ∧ m ≤ k ∧ Hid (m = Cut.mark b s.data.toList k) ∧ Hid (wr.ownsRow w.heap.size 9 1 x (Cut.scan b (s.data.toList.take k)).1.length (strs (Cut.scan b (s.data.toList.take k)).1)) ∧ Hid (Below w.heap.size w wr)) (fun _ _ i _ => s.size - (intOf i).toNat)
  case atStart =>
    refine ⟨0, 0, _, rfl, rfl, rfl, Nat.zero_le _, Nat.le_refl _, ?_, HO0, HB0⟩
    show _ = _
    rw [Cut.mark_zero]
  case round =>
    obtain ⟨k, m, x, rfl, rfl, rfl, hk, hmk, hm, hown, hb⟩ := hrel
    have hsz := hb.out.size
    have hdl : (Cut.scan b (s.data.toList.take k)).1.length ≤ s.size := by
      have := Cut.scan_length b (s.data.toList.take k)
      rw [List.length_take, HSL.out] at this; omega
    by_cases hlt : k < s.size
    · obtain ⟨c, hc⟩ : ∃ c, c = s[k] := ⟨_, rfl⟩
      have hcc : s.data.toList[k]'(by rw [HSL.out]; exact hlt) = c := by rw [hc]; exact data_get s k hlt
      have hnx := Cut.scan_next b s.data.toList k (by rw [HSL.out]; exact hlt)
      rw [hcc] at hnx
      by_cases he : s[k] = b
      · have hmh := Cut.mark_hit b s.data.toList k (by rw [HSL.out]; exact hlt) (by rw [hcc, hc]; exact he)
        rw [if_pos (hc.trans he)] at hnx
        have HNX := Lib.hid hnx
        have HMH := Lib.hid hmh
        have hd : (s[k].toNat : Int) = n := by rw [HN.out, he]
        have HP : Hid (s.extract m k = ⟨((s.data.toList.take k).drop (Cut.mark b s.data.toList k)).toArray⟩) := by show _ = _; rw [piece, hm.out]
        clear hnx hmh hc hcc he
        have hmk' : (m : Int) ≤ k := by omega
        have hks : (k : Int) ≤ s.size := by omega
        go_wp2_with (at_builtin; refine wpList_pushS (.tmp 20) (.tmp 25) _ _ rfl rfl rfl rfl hown.out hsz (by omega) HP.out ?_; intro v4 w4 hown4 hb4)
        go_roundw
        case rel =>
          refine ⟨k + 1, k + 1, _, by go_num, by go_num, rfl, by omega, Nat.le_refl _, HMH.out.symm, ?_, hb.out.trans hb4⟩
          show World.ownsRow _ _ _ _ _ _ _
          rw [HNX.out]; exact hown4
        case measure => simp [intOf]; omega
      · have hmh := Cut.mark_miss b s.data.toList k (by rw [HSL.out]; exact hlt) (by rw [hcc, hc]; exact he)
        rw [if_neg (by rw [hc]; exact he)] at hnx
        have HNX := Lib.hid hnx
        have HMH := Lib.hid hmh
        have hd : ((s[k].toNat : Int) == n) = false := by
          rw [HN.out, beq_eq_false_iff_ne]
          intro e
          exact he (UInt8.toNat_inj.1 (by omega))
        clear hnx hmh hc hcc he
        have hks : (k : Int) ≤ s.size := by omega
        go_wp2_with fail
        go_roundw
        case rel =>
          refine ⟨k + 1, m, _, rfl, by go_num, rfl, by omega, by omega, ?_, ?_, hb⟩
          · show _ = _
            rw [HMH.out]; exact hm.out
          · show World.ownsRow _ _ _ _ _ _ _
            rw [HNX.out]; exact hown.out
        case measure => simp [intOf]; omega
    · have hkl : k = s.size := by omega
      have htake : s.data.toList.take k = s.data.toList := by rw [hkl, ← HSL.out, List.take_length]
      have hcut : Cut.cut b s.data.toList = (Cut.scan b (s.data.toList.take k)).1 ++ [(s.data.toList.take k).drop (Cut.mark b s.data.toList k)] := by
        rw [← (Cut.scan_take b s.data.toList k (by rw [HSL.out]; exact hk)).1, htake]; exact Cut.cut_scan b _
      have HC := Lib.hid hcut
      have HP : Hid (s.extract m s.size = ⟨((s.data.toList.take k).drop (Cut.mark b s.data.toList k)).toArray⟩) := by show _ = _; rw [piece, hm.out, hkl]
      have hmk' : (m : Int) ≤ s.size := by omega
      clear hkl htake hcut
      go_wp2_with (at_builtin; refine wpList_pushS (.tmp 29) (.tmp 33) _ _ rfl rfl rfl rfl hown.out hsz (by omega) HP.out ?_; intro v4 w4 hown4 hb4)
      rw [← HC.out] at hown4
      obtain ⟨g, cap, rfl, hg, hst⟩ := strs_of_own hown4 (List.length_pos_iff.2 (Cut.cut_ne b _))
      go_wp2_with fail
      go_ret
      exact ⟨g, cap, rfl, hg, hst, hb.out.trans hb4⟩
end Go.Proofs.YtoiobaiiammehaaDoor
