/- SplitByHashBit, the program's and the reference's, by contract. -/
import Derived.Test.YtcfemlnicpeagaaHbit
import Derived.Test.YtcfemlnicpeagaaSides
namespace Go.Proofs.Ytcfemlnicpeagaa
open Go.RowKit

set_option maxRecDepth 100000 in
set_option maxHeartbeats 1000000 in
theorem isplit (a : Option Addr) (len cap : Nat) (L : List R) (l : Int) (w : World) (h : IsRows w a len L) (hlen : len ≤ 100000000000) :
    Calls Try.prog 10 #[.slice a len cap, .int .i64 l] w fun e w' => ∃ v u, e = .returned (.tuple #[v, u]) ∧ Sides w w.heap.size (R.zs l L) (R.os l L) v u w' := by
  have HL := Lib.hid h.1
  have HI := Lib.hid h
  have HS0 := Lib.hid (Sides.start w)
  clear h
  go_enter Try.func10, Try.ntmps10
  go_wp2_with fail
  go_loopw [6, 7, 12] (fun z o i wr => ∃ (k : Nat) (p q : Value), p = z ∧ q = o ∧ i = .int .i64 k ∧ k ≤ len ∧ Hid (Sides w w.heap.size (R.zs l (L.take k)) (R.os l (L.take k)) p q wr)) (fun _ _ i _ => len - (intOf i).toNat)
  case atStart => exact ⟨0, _, _, rfl, rfl, rfl, Nat.zero_le _, HS0.out⟩
  case round =>
    obtain ⟨k, v0, v1, rfl, rfl, rfl, hk, hs⟩ := hrel
    by_cases hlt : k < len
    · obtain ⟨b, o', rfl, hbl, hc⟩ := HI.out.at hlt
      obtain ⟨r, hr⟩ : ∃ r, r = L.getD k R.zero := ⟨_, rfl⟩
      rw [← hr] at hc
      obtain ⟨c0, c1, c2⟩ := hc.below hs.out.old hbl
      have hwr : w.heap.size ≤ wr.heap.size := hs.out.old.size
      obtain ⟨Wa, hWa⟩ : ∃ Wa, Wa = wr.alloc (.cells #[.int .i64 r.key, .int .i64 r.value, .int .i64 r.width] 34) := ⟨_, rfl⟩
      have hba : Below wr.heap.size wr Wa := by rw [hWa]; exact (Below.refl _ _).alloc (Nat.le_refl _) _
      have HSA := Lib.hid (hs.out.keep hba hwr)
      have HWA := Lib.hid hWa
      have hwa : w.heap.size ≤ Wa.heap.size := Nat.le_trans hwr hba.size
      have HNN : Hid (wr.heap.size + 1 = (wr.alloc (.cells #[.int .i64 r.key, .int .i64 r.value, .int .i64 r.width] 34)).heap.size) := Lib.hid (by simp)
      rw [hWa] at hwa
      have HR := Lib.hid hr
      have hkl : k < L.length := by rw [HL.out]; exact hlt
      have hzl : (R.zs l (L.take k)).length ≤ k := Nat.le_trans (R.zs_length _ _) (by rw [List.length_take]; omega)
      have hol : (R.os l (L.take k)).length ≤ k := Nat.le_trans (R.os_length _ _) (by rw [List.length_take]; omega)
      have HKL := Lib.hid hkl
      clear hr hc hkl hba hWa
      go_wp2_with fail
      refine (ihbit r.key l _).mono ?_
      rintro e w' ⟨rfl, rfl⟩
      obtain ⟨t, ht⟩ : ∃ t, t = R.hb r.key l := ⟨_, rfl⟩
      rw [← ht]
      have HT := Lib.hid ht
      clear ht
      by_cases hz : t = 0
      · have hst := R.side_zero HKL.out (show R.hb (L.getD k R.zero).key l = 0 by rw [← HR.out, ← HT.out]; exact hz)
        rw [← HR.out] at hst
        have HST := Lib.hid hst
        clear hst
        go_wp2_with (at_builtin; refine wpList_pushM (B := w.heap.size) (M := R.zs l (L.take k)) (v := v0) _ _ r (wr.heap.size + 1) HNN.out rfl rfl rfl rfl ?qc1 ?qc2 ?qc3 ?_)
        case qc1 => rw [← HWA.out]; exact HSA.out.lft
        case qc2 => exact hwa
        case qc3 => omega
        intro g4 c4 w4 hm4 hg4 hat4
        rw [HNN.out] at hat4
        rw [← HWA.out] at hg4 hat4 hwa
        have hs4 := HSA.out.push hwa hm4 hg4 hat4
        rw [← HST.out.1, ← HST.out.2] at hs4
        have HS4 := Lib.hid hs4
        clear hm4 hg4 hat4 hs4
        go_wp2_with fail
        go_roundw
        case rel => exact ⟨k + 1, _, _, rfl, rfl, by go_num, by omega, HS4.out⟩
        case measure => simp [intOf]; omega
      · have hst := R.side_one HKL.out (show R.hb (L.getD k R.zero).key l ≠ 0 by rw [← HR.out, ← HT.out]; exact hz)
        rw [← HR.out] at hst
        have HST := Lib.hid hst
        clear hst
        go_wp2_with (at_builtin; refine wpList_pushM (B := w.heap.size) (M := R.os l (L.take k)) (v := v1) _ _ r (wr.heap.size + 1) HNN.out rfl rfl rfl rfl ?qc1 ?qc2 ?qc3 ?_)
        case qc1 => rw [← HWA.out]; exact HSA.out.rgt
        case qc2 => exact hwa
        case qc3 => omega
        intro g4 c4 w4 hm4 hg4 hat4
        rw [HNN.out] at hat4
        rw [← HWA.out] at hg4 hat4 hwa
        have hs4 := (HSA.out.flip.push hwa hm4 hg4 hat4).flip
        rw [← HST.out.1, ← HST.out.2] at hs4
        have HS4 := Lib.hid hs4
        clear hm4 hg4 hat4 hs4
        go_wp2_with fail
        go_roundw
        case rel => exact ⟨k + 1, _, _, rfl, rfl, by go_num, by omega, HS4.out⟩
        case measure => simp [intOf]; omega
    · have hkl : k = len := by omega
      have hall : L.take k = L := by rw [hkl, ← HL.out, List.take_length]
      rw [hall] at hs
      clear hkl hall
      go_wp2_with fail
      go_ret2
      exact ⟨_, _, rfl, hs.out⟩
set_option maxRecDepth 100000 in
set_option maxHeartbeats 1000000 in
theorem ssplit (a : Option Addr) (len cap : Nat) (L : List R) (l : Int) (w : World) (h : IsRows w a len L) (hlen : len ≤ 100000000000) :
    Calls Try.prog 11 #[.slice a len cap, .int .i64 l] w fun e w' => ∃ v u, e = .returned (.tuple #[v, u]) ∧ Sides w w.heap.size (R.zs l L) (R.os l L) v u w' := by
  have HL := Lib.hid h.1
  have HI := Lib.hid h
  have HS0 := Lib.hid (Sides.empty w)
  clear h
  go_enter Try.func11, Try.ntmps11
  go_wp2_with fail
  go_loopw [6, 7, 8] (fun z o i wr => ∃ (k : Nat) (p q : Value), p = z ∧ q = o ∧ i = .int .i64 k ∧ k ≤ len ∧ Hid (Sides w w.heap.size (R.zs l (L.take k)) (R.os l (L.take k)) p q wr)) (fun _ _ i _ => len - (intOf i).toNat)
  case atStart => exact ⟨0, _, _, rfl, rfl, rfl, Nat.zero_le _, HS0.out⟩
  case round =>
    obtain ⟨k, v0, v1, rfl, rfl, rfl, hk, hs⟩ := hrel
    by_cases hlt : k < len
    · obtain ⟨b, o', rfl, hbl, hc⟩ := HI.out.at hlt
      obtain ⟨r, hr⟩ : ∃ r, r = L.getD k R.zero := ⟨_, rfl⟩
      rw [← hr] at hc
      obtain ⟨c0, c1, c2⟩ := hc.below hs.out.old hbl
      have hwr : w.heap.size ≤ wr.heap.size := hs.out.old.size
      have HSA := hs
      have hk1 : (k : Int) < len := by omega
      have HR := Lib.hid hr
      have hkl : k < L.length := by rw [HL.out]; exact hlt
      have hzl : (R.zs l (L.take k)).length ≤ k := Nat.le_trans (R.zs_length _ _) (by rw [List.length_take]; omega)
      have hol : (R.os l (L.take k)).length ≤ k := Nat.le_trans (R.os_length _ _) (by rw [List.length_take]; omega)
      have HKL := Lib.hid hkl
      clear hr hc hkl
      go_wp2_with fail
      refine (shbit r.key l _).mono ?_
      rintro e w' ⟨rfl, rfl⟩
      obtain ⟨t, ht⟩ : ∃ t, t = R.hb r.key l := ⟨_, rfl⟩
      rw [← ht]
      have HT := Lib.hid ht
      clear ht
      by_cases hz : t = 0
      · have hst := R.side_zero HKL.out (show R.hb (L.getD k R.zero).key l = 0 by rw [← HR.out, ← HT.out]; exact hz)
        rw [← HR.out] at hst
        have HST := Lib.hid hst
        clear hst
        go_wp2_with (at_builtin; refine wpList_pushM (B := w.heap.size) (M := R.zs l (L.take k)) (v := v0) _ _ r (wr.heap.size) rfl rfl rfl rfl rfl ?qc1 ?qc2 ?qc3 ?_)
        case qc1 => exact HSA.out.lft
        case qc2 => exact hwr
        case qc3 => omega
        intro g4 c4 w4 hm4 hg4 hat4
        have hs4 := HSA.out.push hwr hm4 hg4 hat4
        rw [← HST.out.1, ← HST.out.2] at hs4
        have HS4 := Lib.hid hs4
        clear hm4 hg4 hat4 hs4
        go_wp2_with fail
        go_roundw
        case rel => exact ⟨k + 1, _, _, rfl, rfl, by go_num, by omega, HS4.out⟩
        case measure => simp [intOf]; omega
      · have hst := R.side_one HKL.out (show R.hb (L.getD k R.zero).key l ≠ 0 by rw [← HR.out, ← HT.out]; exact hz)
        rw [← HR.out] at hst
        have HST := Lib.hid hst
        clear hst
        go_wp2_with (at_builtin; refine wpList_pushM (B := w.heap.size) (M := R.os l (L.take k)) (v := v1) _ _ r (wr.heap.size) rfl rfl rfl rfl rfl ?qc1 ?qc2 ?qc3 ?_)
        case qc1 => exact HSA.out.rgt
        case qc2 => exact hwr
        case qc3 => omega
        intro g4 c4 w4 hm4 hg4 hat4
        have hs4 := (HSA.out.flip.push hwr hm4 hg4 hat4).flip
        rw [← HST.out.1, ← HST.out.2] at hs4
        have HS4 := Lib.hid hs4
        clear hm4 hg4 hat4 hs4
        go_wp2_with fail
        go_roundw
        case rel => exact ⟨k + 1, _, _, rfl, rfl, by go_num, by omega, HS4.out⟩
        case measure => simp [intOf]; omega
    · have hkl : k = len := by omega
      have hall : L.take k = L := by rw [hkl, ← HL.out, List.take_length]
      rw [hall] at hs
      clear hkl hall
      go_wp2_with fail
      go_ret2
      exact ⟨_, _, rfl, hs.out⟩
end Go.Proofs.Ytcfemlnicpeagaa
