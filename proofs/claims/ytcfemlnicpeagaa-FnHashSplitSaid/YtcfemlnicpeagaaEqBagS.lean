/- The reference's EqualBags, by contract. -/
import Derived.Test.YtcfemlnicpeagaaSorts
import Derived.Test.YtcfemlnicpeagaaSameRows
import Derived.StillTailTactics
namespace Go.Proofs.Ytcfemlnicpeagaa
open Go.RowKit

set_option maxRecDepth 100000 in
theorem seqbags (a a' : Option Addr) (len cap len' cap' : Nat) (L M : List R) (w : World) (h : IsRows w a len L) (h' : IsRows w a' len' M) (hlen : len ≤ 1000000000) (hlen' : len' ≤ 1000000000) :
    Calls Try.prog 16 #[.slice a len cap, .slice a' len' cap'] w fun e w' => e = .returned (.bool (R.eqBags L M)) ∧ Below w.heap.size w w' := by
  have HL := Lib.hid h.1
  have HL' := Lib.hid h'.1
  have HW := Lib.hid h.2.1
  have HW' := Lib.hid h'.2.1
  have HI := Lib.hid h
  have HI' := Lib.hid h'
  clear h h'
  go_enter Try.func16, Try.ntmps16
  go_wp2_with fail
  refine (ssort a len cap L _ HI.out hlen).mono ?_
  rintro e w1 ⟨g1, c1, rfl, m1, b1⟩
  have M1 := Lib.hid m1
  have B1 := Lib.hid b1
  have I1 := Lib.hid (HI'.out.keep b1)
  clear m1 b1
  go_wp2_with fail
  refine (ssort a' len' cap' M _ I1.out hlen').mono ?_
  rintro e w2 ⟨g2, c2, rfl, m2, b2⟩
  have X := Lib.hid ((M1.out.keep b2).rows (R.sort_wf HW.out))
  have Y := Lib.hid (m2.rows (R.sort_wf HW'.out))
  have B2 := Lib.hid (B1.out.trans (b2.mono B1.out.size))
  clear m2 b2
  by_cases hne : len = len'
  · subst hne
    go_wp2_with fail
    go_loopw [7] (fun x wr => ∃ k : Nat, x = .int .i64 k ∧ k ≤ len ∧ Hid (∀ t, t < k → (R.sort L).getD t R.zero = (R.sort M).getD t R.zero) ∧ Hid (Below w2.heap.size w2 wr)) (fun x _ => len - (intOf x).toNat)
    case atStart => exact ⟨0, rfl, Nat.zero_le _, fun t h => by omega, Below.refl _ _⟩
    case round =>
      obtain ⟨k, rfl, hk, hsame, hb⟩ := hrel
      by_cases hlt : k < len
      · obtain ⟨b, o, e1, hbl, hat⟩ := (X.out.keep hb.out).at hlt
        injection e1 with e1
        injection e1 with e1 e2
        subst e1
        subst e2
        obtain ⟨b', o', e1, hbl', hat'⟩ := (Y.out.keep hb.out).at hlt
        injection e1 with e1
        injection e1 with e1 e2
        subst e1
        subst e2
        obtain ⟨p, hp⟩ : ∃ p, p = (R.sort L).getD k R.zero := ⟨_, rfl⟩
        obtain ⟨q, hq⟩ : ∃ q, q = (R.sort M).getD k R.zero := ⟨_, rfl⟩
        rw [← hp] at hat
        rw [← hq] at hat'
        simp only [Nat.zero_add] at hat hat'
        obtain ⟨c0, c1, c2⟩ := hat
        obtain ⟨d0, d1, d2⟩ := hat'
        have HP := Lib.hid hp
        have HQ := Lib.hid hq
        have hn := row_neq p q
        clear hp hq
        by_cases he : p = q
        · have HE := Lib.hid he
          rw [decide_eq_true he] at hn
          clear he
          go_wp2_with fail
          go_still_tail 8, (by kernel_rfl)
          go_wp2_with fail
          go_roundw
          case rel =>
            refine ⟨k + 1, by go_num, by omega, fun t h => ?_, hb.out.drew⟩
            rcases Nat.lt_or_ge t k with h1 | h1
            · exact hsame.out t h1
            · obtain rfl : t = k := by omega
              rw [← HP.out, ← HQ.out, HE.out]
          case measure => simp [intOf]; omega
        · have hbad : R.eqBags L M = false := by
            unfold R.eqBags
            exact decide_eq_false fun e => he (by rw [HP.out, HQ.out, e])
          have HB := Lib.hid hbad
          rw [decide_eq_false he] at hn
          clear he hbad
          go_wp2_with fail
          go_still_tail 8, (by kernel_rfl)
          go_wp2_with fail
          go_ret
          exact ⟨by rw [HB.out]; rfl, B2.out.trans (hb.out.drew.mono B2.out.size)⟩
      · have hkl : k = len := by omega
        have hall : R.eqBags L M = true := by
          unfold R.eqBags
          have hl1 : (R.sort L).length = len := by rw [R.sort_length, HL.out]
          have hl2 : (R.sort M).length = len := by rw [R.sort_length, HL'.out]
          exact decide_eq_true (getD_ext (by rw [hl1, hl2]) fun t ht => hsame.out t (by omega))
        have HA := Lib.hid hall
        clear hall hkl
        go_wp2_with fail
        go_ret
        exact ⟨by rw [HA.out]; rfl, B2.out.trans (hb.out.mono B2.out.size)⟩
  · have hbad : R.eqBags L M = false := by
      unfold R.eqBags
      refine decide_eq_false fun e => hne ?_
      have := congrArg List.length e
      rw [R.sort_length, R.sort_length, HL.out, HL'.out] at this
      exact this
    have HB := Lib.hid hbad
    clear hbad
    go_wp2_with fail
    go_ret
    exact ⟨by rw [HB.out]; rfl, B2.out⟩
end Go.Proofs.Ytcfemlnicpeagaa
