/- FirstSplittingLevel, the program's and the reference's, by contract. -/
import Derived.Test.YtcfemlnicpeagaaSplits
namespace Go.Proofs.Ytcfemlnicpeagaa
open Go.RowKit

set_option maxRecDepth 100000 in
set_option maxHeartbeats 1000000 in
theorem ifsl (a : Option Addr) (len cap : Nat) (L : List R) (w : World) (h : IsRows w a len L) (hlen : len ≤ 100000000000) :
    Calls Try.prog 18 #[.slice a len cap] w fun e w' => e = .returned (.int .i64 (R.fsl L)) ∧ Below w.heap.size w w' := by
  have HI := Lib.hid h
  clear h
  go_enter Try.func18, Try.ntmps18
  go_wp2_with fail
  go_loopw [6] (fun i wr => ∃ k : Nat, i = .int .i64 k ∧ k ≤ 4 ∧ Hid (∀ m, m < k → R.splits L m = false) ∧ Hid (Below w.heap.size w wr)) (fun i _ => 4 - (intOf i).toNat)
  case atStart => exact ⟨0, rfl, Nat.zero_le _, fun m hm => by omega, Below.refl _ _⟩
  case round =>
    obtain ⟨k, rfl, hk, hno, hb⟩ := hrel
    by_cases hlt : k < 4
    · go_wp2_with fail
      refine (isplit a len cap L k _ (HI.out.keep hb.out) hlen).mono ?_
      rintro e w1 ⟨v, u, rfl, hs⟩
      obtain ⟨x, c, rfl⟩ := hs.lft.slice
      obtain ⟨y, d, rfl⟩ := hs.rgt.slice
      have B1 := Lib.hid (hb.out.trans (hs.old.mono hb.out.size))
      clear hs
      have hsp := R.splits_iff (L := L) (l := k)
      obtain ⟨m, hm⟩ : ∃ m, m = (R.zs (k : Int) L).length := ⟨_, rfl⟩
      obtain ⟨n, hn⟩ : ∃ n, n = (R.os (k : Int) L).length := ⟨_, rfl⟩
      rw [← hm, ← hn] at hsp
      rw [← hm, ← hn]
      have HSP := Lib.hid hsp
      clear hsp hm hn
      by_cases hc : 0 < m ∧ 0 < n
      · have hf : R.fsl L = k := R.fsl_at hlt hno.out (HSP.out.2 hc)
        have HF := Lib.hid hf
        obtain ⟨hm0, hn0⟩ := hc
        clear hf
        go_wp2_with fail
        go_ret
        exact ⟨by rw [HF.out]; rfl, B1.out⟩
      · have hnx : ∀ j, j < k + 1 → R.splits L j = false := fun j hj => (Nat.lt_or_eq_of_le (Nat.le_of_lt_succ hj)).elim (hno.out j) (fun e => by
          rw [e]
          cases hq : R.splits L k with
          | false => rfl
          | true => exact absurd (HSP.out.1 hq) hc)
        have HNX := Lib.hid hnx
        clear hnx
        by_cases hm0 : 0 < m
        · have hn0 : ¬ 0 < n := fun h => hc ⟨hm0, h⟩
          clear hc
          go_wp2_with fail
          go_roundw
          case rel => exact ⟨k + 1, by go_num, by omega, HNX.out, B1.out⟩
          case measure => simp [intOf]; omega
        · clear hc
          go_wp2_with fail
          go_roundw
          case rel => exact ⟨k + 1, by go_num, by omega, HNX.out, B1.out⟩
          case measure => simp [intOf]; omega
    · have hkl : k = 4 := by omega
      have hf : R.fsl L = 4 := R.fsl_none fun m hm => hno.out m (by omega)
      have HF := Lib.hid hf
      clear hf
      subst hkl
      go_wp2_with fail
      go_ret
      exact ⟨by rw [HF.out]; rfl, hb.out⟩
set_option maxRecDepth 100000 in
set_option maxHeartbeats 1000000 in
theorem sfsl (a : Option Addr) (len cap : Nat) (L : List R) (w : World) (h : IsRows w a len L) (hlen : len ≤ 100000000000) :
    Calls Try.prog 19 #[.slice a len cap] w fun e w' => e = .returned (.int .i64 (R.fsl L)) ∧ Below w.heap.size w w' := by
  have HI := Lib.hid h
  clear h
  go_enter Try.func19, Try.ntmps19
  go_wp2_with fail
  go_loopw [3] (fun i wr => ∃ k : Nat, i = .int .i64 k ∧ k ≤ 4 ∧ Hid (∀ m, m < k → R.splits L m = false) ∧ Hid (Below w.heap.size w wr)) (fun i _ => 4 - (intOf i).toNat)
  case atStart => exact ⟨0, rfl, Nat.zero_le _, fun m hm => by omega, Below.refl _ _⟩
  case round =>
    obtain ⟨k, rfl, hk, hno, hb⟩ := hrel
    by_cases hlt : k < 4
    · go_wp2_with fail
      refine (ssplit a len cap L k _ (HI.out.keep hb.out) hlen).mono ?_
      rintro e w1 ⟨v, u, rfl, hs⟩
      obtain ⟨x, c, rfl⟩ := hs.lft.slice
      obtain ⟨y, d, rfl⟩ := hs.rgt.slice
      have B1 := Lib.hid (hb.out.trans (hs.old.mono hb.out.size))
      clear hs
      have hsp := R.splits_iff (L := L) (l := k)
      obtain ⟨m, hm⟩ : ∃ m, m = (R.zs (k : Int) L).length := ⟨_, rfl⟩
      obtain ⟨n, hn⟩ : ∃ n, n = (R.os (k : Int) L).length := ⟨_, rfl⟩
      rw [← hm, ← hn] at hsp
      rw [← hm, ← hn]
      have HSP := Lib.hid hsp
      clear hsp hm hn
      by_cases hc : 0 < m ∧ 0 < n
      · have hf : R.fsl L = k := R.fsl_at hlt hno.out (HSP.out.2 hc)
        have HF := Lib.hid hf
        obtain ⟨hm0, hn0⟩ := hc
        clear hf
        go_wp2_with fail
        go_ret
        exact ⟨by rw [HF.out]; rfl, B1.out⟩
      · have hnx : ∀ j, j < k + 1 → R.splits L j = false := fun j hj => (Nat.lt_or_eq_of_le (Nat.le_of_lt_succ hj)).elim (hno.out j) (fun e => by
          rw [e]
          cases hq : R.splits L k with
          | false => rfl
          | true => exact absurd (HSP.out.1 hq) hc)
        have HNX := Lib.hid hnx
        clear hnx
        by_cases hm0 : 0 < m
        · have hn0 : ¬ 0 < n := fun h => hc ⟨hm0, h⟩
          clear hc
          go_wp2_with fail
          go_roundw
          case rel => exact ⟨k + 1, by go_num, by omega, HNX.out, B1.out⟩
          case measure => simp [intOf]; omega
        · clear hc
          go_wp2_with fail
          go_roundw
          case rel => exact ⟨k + 1, by go_num, by omega, HNX.out, B1.out⟩
          case measure => simp [intOf]; omega
    · have hkl : k = 4 := by omega
      have hf : R.fsl L = 4 := R.fsl_none fun m hm => hno.out m (by omega)
      have HF := Lib.hid hf
      clear hf
      subst hkl
      go_wp2_with fail
      go_ret
      exact ⟨by rw [HF.out]; rfl, hb.out⟩
end Go.Proofs.Ytcfemlnicpeagaa
