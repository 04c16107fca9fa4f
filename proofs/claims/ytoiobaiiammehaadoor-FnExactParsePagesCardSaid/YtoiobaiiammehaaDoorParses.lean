/- ParseInt of the reference: the same number and the same bool. -/
import Derived.Test.YtoiobaiiammehaaDoorParsei
import Derived.Test.YtoiobaiiammehaaDoorFmt
namespace Go.Proofs.YtoiobaiiammehaaDoor
open Go Go.RowKit Num Dec

theorem dscan_take (l : List UInt8) (t : Nat) (h : t < l.length) : dscan (l.take (t + 1)) = if 48 ≤ l[t].toNat ∧ l[t].toNat ≤ 57 then ((dscan (l.take t)).1 * 10 + (l[t].toNat - 48), (dscan (l.take t)).2 + 1) else dscan (l.take t) := by
  rw [take_snoc l t h, dscan_snoc]
theorem dscan_lt (l : List UInt8) (t : Nat) (ht : t ≤ 11) : ((dscan (l.take t)).1 : Int) < 100000000000 ∧ (dscan (l.take t)).2 ≤ t := by
  obtain ⟨h1, h2⟩ := dscan_le (l.take t)
  have h3 : (l.take t).length ≤ t := List.length_take_le _ _
  have h4 : 10 ^ (dscan (l.take t)).2 ≤ 10 ^ 11 := Nat.pow_le_pow_right (by decide) (by omega)
  exact ⟨by omega, by omega⟩

set_option maxRecDepth 100000 in
theorem sparse_small (s : ByteArray) (w : World) (h10 : s.size ≤ 10) :
    Calls Tryd.prog 54 #[.string s] w fun e w' => ParAns s.data.toList e ∧ Below w.heap.size w w' := by
  have hsl : Hid (s.data.toList.length = s.size) := by show _ = _; simp
  have htl : Hid (s.toList = s.data.toList) := ByteArray.toList_eq s
  go_enter Tryd.func54, Tryd.ntmps54
  go_wp2
  go_loop [4, 5, 6] (fun n c i => ∃ (v k : Int) (t : Nat), n = .int .i64 v ∧ c = .int .i64 k ∧ i = .int .i64 t ∧ t ≤ s.size ∧ t ≤ 11 ∧ 0 ≤ v ∧ v < 100000000000 ∧ 0 ≤ k ∧ k ≤ t ∧ Hid (v = ((dscan (s.data.toList.take t)).1 : Int) ∧ k = ((dscan (s.data.toList.take t)).2 : Int))) (fun _ _ i => s.size - (intOf i).toNat)
  case atStart => exact ⟨0, 0, 0, rfl, rfl, rfl, by omega, by omega, by omega, by omega, by omega, by omega, ⟨rfl, rfl⟩⟩
  case round =>
    obtain ⟨v, k, t, rfl, rfl, rfl, ht, ht11, hv0, hv1, hk0, hk1, hD⟩ := hrel
    by_cases hlt : t < s.size
    · have hbt : (s[t].toNat : Int) < 256 := by have := s[t].toNat_lt; omega
      by_cases hd : 48 ≤ (s[t].toNat : Int)
      · by_cases hd1 : (s[t].toNat : Int) ≤ 57
        · go_wp2
          go_round
          case rel =>
            have hst := dscan_take s.data.toList t (by rw [hsl.out]; exact hlt)
            rw [show (s.data.toList[t]'(by rw [hsl.out]; exact hlt)) = s[t] from rfl] at hst
            have hD1 := hD.out.1
            have hD2 := hD.out.2
            have hlt1 := dscan_lt s.data.toList (t + 1) (by omega)
            rw [hst, if_pos (by omega)] at hlt1
            simp only [] at hlt1
            refine ⟨_, k + 1, t + 1, rfl, rfl, by go_num, by omega, by omega, by omega, by omega, by omega, by omega, ?_⟩
            show _ ∧ _
            rw [hst, if_pos (by omega)]
            simp only []
            omega
          case measure => simp [intOf]; omega
        · have hd2 : decide ((s[t].toNat : Int) ≤ 57) = false := by simp; omega
          go_wp2
          go_round
          case rel =>
            have hst := dscan_take s.data.toList t (by rw [hsl.out]; exact hlt)
            rw [show (s.data.toList[t]'(by rw [hsl.out]; exact hlt)) = s[t] from rfl, if_neg (by omega)] at hst
            refine ⟨v, k, t + 1, rfl, rfl, by go_num, by omega, by omega, hv0, hv1, hk0, by omega, ?_⟩
            show _ ∧ _
            rw [hst]
            exact hD.out
          case measure => simp [intOf]; omega
      · have hd2 : decide (48 ≤ (s[t].toNat : Int)) = false := by simp; omega
        go_wp2
        go_round
        case rel =>
          have hst := dscan_take s.data.toList t (by rw [hsl.out]; exact hlt)
          rw [show (s.data.toList[t]'(by rw [hsl.out]; exact hlt)) = s[t] from rfl, if_neg (by omega)] at hst
          refine ⟨v, k, t + 1, rfl, rfl, by go_num, by omega, by omega, hv0, hv1, hk0, by omega, ?_⟩
          show _ ∧ _
          rw [hst]
          exact hD.out
        case measure => simp [intOf]; omega
    · have hts : t = s.size := by omega
      have hDl : v = ((dscan s.data.toList).1 : Int) ∧ k = ((dscan s.data.toList).2 : Int) := by have := hD.out; rwa [hts, List.take_of_length_le (by rw [hsl.out]; exact Nat.le_refl _)] at this
      have HD := Lib.hid hDl
      clear hD hDl
      by_cases h0 : s.size = 0
      · have hz : ¬ (0 : Int) < s.size := by omega
        have hsig : signed s.data.toList (dscan s.data.toList).1 = v := by
          have hnil : s.data.toList = [] := List.eq_nil_of_length_eq_zero (by rw [hsl.out]; exact h0)
          have := HD.out.1
          unfold signed
          rw [if_neg (by rw [hnil]; simp), this]
        clear h0
        have hyes : Lib.itoa (v) = s.data.toList → (dscan s.data.toList).2 ≤ 9 → ParAns s.data.toList (.returned (.tuple #[.int .i64 (v), .bool true])) := fun he h9 => parans_yes (by have := parse_scan s.data.toList h9 (by rw [hsig]; exact he); rw [hsig] at this; exact this)
        have hno : 9 < (dscan s.data.toList).2 ∨ Lib.itoa (v) ≠ s.data.toList → ParAns s.data.toList (.returned (.tuple #[.int .i64 0, .bool false])) := fun he => parans_no (parse_scan_no _ (by rw [hsig]; exact .inr he))
        have HY := Lib.hid hyes
        have HN := Lib.hid hno
        clear hyes hno hsig
        by_cases hk9 : 9 < k
        · exfalso; omega
        · have hk9' : decide (9 < k) = false := by simpa using hk9
          go_wp2_with fail
          refine (sfmt (v) _ (by omega) (by omega)).mono ?_
          rintro e w1 ⟨rfl, b1⟩
          go_wp2_with fail
          · have hor : 10 < (s.size : Int) ∨ (!(Lib.itoa (v) == s.toList)) = true := by assumption
            have hne : (!(Lib.itoa (v) == s.toList)) = true := hor.resolve_left (by omega)
            rw [htl.out] at hne
            go_ret2
            exact ⟨HN.out (.inr (by simpa using hne)), b1⟩
          · have hand : (s.size : Int) ≤ 10 ∧ (!(Lib.itoa (v) == s.toList)) = false := by assumption
            have heq := hand.2
            rw [htl.out] at heq
            go_ret2
            exact ⟨HY.out (by simpa using heq) (by have := HD.out.2; omega), b1⟩
      · have hp : (0 : Int) < s.size := by omega
        have hp' : 0 < s.size := by omega
        have hhead : s.data.toList.head? = some s[0] := by
          rw [List.head?_eq_getElem?, List.getElem?_eq_getElem (by rw [hsl.out]; exact hp')]; rfl
        by_cases hm : s[0] = 45
        · have hb : ((s[0].toNat : Int) == 45) = true := by rw [hm]; rfl
          have hsig : signed s.data.toList (dscan s.data.toList).1 = -v := by
            have := HD.out.1
            unfold signed; rw [hhead, hm, if_pos rfl]; omega
          clear hm hhead h0
          have hyes : Lib.itoa (-v) = s.data.toList → (dscan s.data.toList).2 ≤ 9 → ParAns s.data.toList (.returned (.tuple #[.int .i64 (-v), .bool true])) := fun he h9 => parans_yes (by have := parse_scan s.data.toList h9 (by rw [hsig]; exact he); rw [hsig] at this; exact this)
          have hno : 9 < (dscan s.data.toList).2 ∨ Lib.itoa (-v) ≠ s.data.toList → ParAns s.data.toList (.returned (.tuple #[.int .i64 0, .bool false])) := fun he => parans_no (parse_scan_no _ (by rw [hsig]; exact .inr he))
          have HY := Lib.hid hyes
          have HN := Lib.hid hno
          clear hyes hno hsig
          by_cases hk9 : 9 < k
          · go_wp2_with fail
            go_ret2
            exact ⟨HN.out (.inl (by have := HD.out.2; omega)), Below.refl _ _⟩
          · have hk9' : decide (9 < k) = false := by simpa using hk9
            go_wp2_with fail
            refine (sfmt (-v) _ (by omega) (by omega)).mono ?_
            rintro e w1 ⟨rfl, b1⟩
            go_wp2_with fail
            · have hor : 10 < (s.size : Int) ∨ (!(Lib.itoa (-v) == s.toList)) = true := by assumption
              have hne : (!(Lib.itoa (-v) == s.toList)) = true := hor.resolve_left (by omega)
              rw [htl.out] at hne
              go_ret2
              exact ⟨HN.out (.inr (by simpa using hne)), b1⟩
            · have hand : (s.size : Int) ≤ 10 ∧ (!(Lib.itoa (-v) == s.toList)) = false := by assumption
              have heq := hand.2
              rw [htl.out] at heq
              go_ret2
              exact ⟨HY.out (by simpa using heq) (by have := HD.out.2; omega), b1⟩
        · have hb : ((s[0].toNat : Int) == 45) = false := by
            rw [beq_eq_false_iff_ne]
            intro hc
            exact hm (UInt8.toNat_inj.1 (by have h45 : (45 : UInt8).toNat = 45 := rfl; omega))
          have hsig : signed s.data.toList (dscan s.data.toList).1 = v := by
            have := HD.out.1
            unfold signed; rw [hhead, if_neg (fun hc => hm (Option.some.inj hc))]; omega
          clear hm hhead h0
          have hyes : Lib.itoa (v) = s.data.toList → (dscan s.data.toList).2 ≤ 9 → ParAns s.data.toList (.returned (.tuple #[.int .i64 (v), .bool true])) := fun he h9 => parans_yes (by have := parse_scan s.data.toList h9 (by rw [hsig]; exact he); rw [hsig] at this; exact this)
          have hno : 9 < (dscan s.data.toList).2 ∨ Lib.itoa (v) ≠ s.data.toList → ParAns s.data.toList (.returned (.tuple #[.int .i64 0, .bool false])) := fun he => parans_no (parse_scan_no _ (by rw [hsig]; exact .inr he))
          have HY := Lib.hid hyes
          have HN := Lib.hid hno
          clear hyes hno hsig
          by_cases hk9 : 9 < k
          · go_wp2_with fail
            go_ret2
            exact ⟨HN.out (.inl (by have := HD.out.2; omega)), Below.refl _ _⟩
          · have hk9' : decide (9 < k) = false := by simpa using hk9
            go_wp2_with fail
            refine (sfmt (v) _ (by omega) (by omega)).mono ?_
            rintro e w1 ⟨rfl, b1⟩
            go_wp2_with fail
            · have hor : 10 < (s.size : Int) ∨ (!(Lib.itoa (v) == s.toList)) = true := by assumption
              have hne : (!(Lib.itoa (v) == s.toList)) = true := hor.resolve_left (by omega)
              rw [htl.out] at hne
              go_ret2
              exact ⟨HN.out (.inr (by simpa using hne)), b1⟩
            · have hand : (s.size : Int) ≤ 10 ∧ (!(Lib.itoa (v) == s.toList)) = false := by assumption
              have heq := hand.2
              rw [htl.out] at heq
              go_ret2
              exact ⟨HY.out (by simpa using heq) (by have := HD.out.2; omega), b1⟩

set_option maxRecDepth 100000 in
theorem sparse_big (s : ByteArray) (hs : s.size ≤ maxLen) (w : World) (h10 : 10 < s.size) :
    Calls Tryd.prog 54 #[.string s] w fun e w' => ParAns s.data.toList e ∧ Below w.heap.size w w' := by
  unfold maxLen at hs
  have hans := parans_no (parse_scan_no s.data.toList (.inl (by simpa using h10)))
  have h10' : (10 : Int) < s.size := by omega
  go_enter Tryd.func54, Tryd.ntmps54
  go_wp2
  go_loop [4, 5, 6] (fun n c i => ∃ (v k : Int) (t : Nat), n = .int .i64 v ∧ c = .int .i64 k ∧ i = .int .i64 t ∧ t ≤ 11 ∧ 0 ≤ v ∧ Hid (v < 10 ^ t) ∧ 0 ≤ k ∧ k ≤ t) (fun _ _ i => 11 - (intOf i).toNat)
  case atStart => exact ⟨0, 0, 0, rfl, rfl, rfl, by omega, by omega, by show (0 : Int) < 1; omega, by omega, by omega⟩
  case round =>
    obtain ⟨v, k, t, rfl, rfl, rfl, ht, hv0, hv, hk0, hk1⟩ := hrel
    have hv1 : v < 100000000000 := by
      have h1 := hv.out
      have h2 : (10 : Nat) ^ t ≤ 10 ^ 11 := Nat.pow_le_pow_right (by decide) ht
      have h3 : ((10 : Nat) ^ t : Nat) = (10 : Int) ^ t := by exact_mod_cast rfl
      omega
    by_cases hlt : t < 11
    · have hts : t < s.size := by omega
      have hbt : (s[t].toNat : Int) < 256 := by have := s[t].toNat_lt; omega
      by_cases hd : 48 ≤ (s[t].toNat : Int)
      · by_cases hd1 : (s[t].toNat : Int) ≤ 57
        · go_wp2
          go_round
          case rel =>
            refine ⟨_, k + 1, t + 1, rfl, rfl, by go_num, by omega, by omega, ?_, by omega, by omega⟩
            show _ < _
            have h1 := hv.out
            rw [Int.pow_succ]; omega
          case measure => simp [intOf]; omega
        · have hd2 : decide ((s[t].toNat : Int) ≤ 57) = false := by simp; omega
          go_wp2
          go_round
          case rel =>
            refine ⟨v, k, t + 1, rfl, rfl, by go_num, by omega, hv0, ?_, hk0, by omega⟩
            show _ < _
            have h1 := hv.out
            have h2 : (0 : Int) < 10 ^ t := by omega
            rw [Int.pow_succ]; omega
          case measure => simp [intOf]; omega
      · have hd2 : decide (48 ≤ (s[t].toNat : Int)) = false := by simp; omega
        go_wp2
        go_round
        case rel =>
          refine ⟨v, k, t + 1, rfl, rfl, by go_num, by omega, hv0, ?_, hk0, by omega⟩
          show _ < _
          have h1 := hv.out
          have h2 : (0 : Int) < 10 ^ t := by omega
          rw [Int.pow_succ]; omega
        case measure => simp [intOf]; omega
    · have hp : (0 : Int) < s.size := by omega
      have hp' : 0 < s.size := by omega
      have htd : decide ((t : Int) < 11) = false := by simp; omega
      by_cases h11 : t < s.size
      · by_cases hm : ((s[0].toNat : Int) == 45) = true
        · by_cases hk9 : 9 < k
          all_goals
            go_wp2
            go_ret2
            exact ⟨hans, Below.refl _ _⟩
        · have hm' : ((s[0].toNat : Int) == 45) = false := by simpa using hm
          clear hm
          by_cases hk9 : 9 < k
          all_goals
            go_wp2
            go_ret2
            exact ⟨hans, Below.refl _ _⟩
      · by_cases hm : ((s[0].toNat : Int) == 45) = true
        · by_cases hk9 : 9 < k
          all_goals
            go_wp2
            go_ret2
            exact ⟨hans, Below.refl _ _⟩
        · have hm' : ((s[0].toNat : Int) == 45) = false := by simpa using hm
          clear hm
          by_cases hk9 : 9 < k
          all_goals
            go_wp2
            go_ret2
            exact ⟨hans, Below.refl _ _⟩
theorem sparse (s : ByteArray) (hs : s.size ≤ maxLen) (w : World) : Calls Tryd.prog 54 #[.string s] w fun e w' => ParAns s.data.toList e ∧ Below w.heap.size w w' := by
  by_cases h : 10 < s.size
  · exact sparse_big s hs w h
  · exact sparse_small s w (by omega)
end Go.Proofs.YtoiobaiiammehaaDoor
