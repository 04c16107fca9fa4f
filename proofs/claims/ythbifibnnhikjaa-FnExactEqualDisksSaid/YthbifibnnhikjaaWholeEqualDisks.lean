/- Proved: for every pair of disks the law FnExactEqualDisks returns true: the program's EqualDisks answers as the reference's, and leaves its arguments alone (the law itself answers true above 2^20 elements). No condition. -/
import Derived.Test.YthbifibnnhikjaaPartSixd
import Derived.Test.YthbifibnnhikjaaRows
import Derived.Deep.CutRange
import Derived.Deep.RegionWith
import Derived.ProofKit
import Derived.OpenShut
import Derived.ShutString
import Derived.ChangeOld
namespace Go.Proofs.Ythbifibnnhikjaa.FnExactEqualDisks
open Go Go.ChangeShapes Go.WideShapes Go.ChangeAt Go.RowKit
open Go.ChangeMaps (open_string shut_string)
set_option linter.unusedVariables false

def Ans (Y0 : Bool) (v : World) (e : Ending) (v' : World) : Prop := e = .returned (.bool Y0) ∧ Below v.heap.size v v'
def Cut (Y0 : Bool) (w : World) (s0 : Value) (v : World) : Prop := s0 = .bool Y0 ∧ Below w.heap.size w v
theorem cut_fin (Y0 : Bool) {w v : World}   (hb : Below w.heap.size w v) : Cut Y0 w (.bool Y0) v := by
  obtain ⟨u, hu⟩ : ∃ u, u = v := ⟨_, rfl⟩
  rw [← hu]
  have kb : Below v.heap.size v u := by rw [hu]; exact Below.refl _ _
  have hs := hb.size
  exact ⟨rfl, hb.trans (kb.mono hs)⟩
set_option maxRecDepth 100000 in
set_option maxHeartbeats 4000000 in
theorem walk (a0_0 : Option Addr) (n0_0 c0_0 : Nat) (X0 : DiskD) (w : World) (h0 : diskRep.inn w X0 ((a0_0, n0_0, c0_0), ())) (a1_0 : Option Addr) (n1_0 c1_0 : Nat) (X1 : DiskD) (h1 : diskRep.inn w X1 ((a1_0, n1_0, c1_0), ())) : Calls Try.prog 9 #[.agg #[.slice a0_0 n0_0 c0_0, .int .i64 X0.fNextName], .agg #[.slice a1_0 n1_0 c1_0, .int .i64 X1.fNextName]] w fun e w' => e = .returned (.bool true) ∧ Below w.heap.size w w' := by
  have HI0 := Lib.hid h0
  clear h0
  have HI1 := Lib.hid h1
  clear h1
  obtain ⟨z0, hz0⟩ : ∃ z, z = szR 1048576 (wtDisk X0) := ⟨_, rfl⟩
  have HZ0 := Lib.hid hz0
  clear hz0
  obtain ⟨z1, hz1⟩ : ∃ z, z = szR z0 (wtDisk X1) := ⟨_, rfl⟩
  have HZ1 := Lib.hid hz1
  clear hz1
  have B0 := Lib.hid (Below.refl w.heap.size w)
  obtain ⟨w1, hv1⟩ : ∃ v, v = ((w.alloc (.cells #[.slice a0_0 n0_0 c0_0, .int .i64 X0.fNextName] 26)).alloc (.cells #[.slice a1_0 n1_0 c1_0, .int .i64 X1.fNextName] 26)) := ⟨_, rfl⟩
  have bb1 := boxes2 _ _ hv1
  have b1 : Below w.heap.size w w1 := bb1.1
  have B1 := Lib.hid (B0.out.trans (b1.mono B0.out.size))
  have V_A0_1 : Hid (w1.heap[w.heap.size]? = some (.cells #[.slice a0_0 n0_0 c0_0, .int .i64 X0.fNextName] 26 (0, 0))) := Lib.hid bb1.2.1
  have V_A1_1 : Hid (w1.heap[w.heap.size + 1]? = some (.cells #[.slice a1_0 n1_0 c1_0, .int .i64 X1.fNextName] 26 (0, 0))) := Lib.hid bb1.2.2
  clear b1 bb1
  go_enter Try.func9, Try.ntmps9
  have cv1_A0_0 := box_cell V_A0_1.out 0 _ rfl
  rw [hv1] at cv1_A0_0
  have cv1_A0_1 := box_cell V_A0_1.out 1 _ rfl
  rw [hv1] at cv1_A0_1
  have cv1_A1_0 := box_cell V_A1_1.out 0 _ rfl
  rw [hv1] at cv1_A1_0
  have cv1_A1_1 := box_cell V_A1_1.out 1 _ rfl
  rw [hv1] at cv1_A1_1
  go_wp2_with fail
  rw [← hv1]
  clear hv1 cv1_A0_0 cv1_A0_1 cv1_A1_0 cv1_A1_1
  refine (szD_disk X0 a0_0 n0_0 c0_0 1048576 _ (HI0.out.keep B1.out) (by omega) (by omega)).mono ?_
  rintro e w2 ⟨rfl, b2⟩
  rw [← HZ0.out]
  have V_A0_2 := Lib.hid ((b2.block _ (lt_of_block V_A0_1.out)).trans V_A0_1.out)
  have V_A1_2 := Lib.hid ((b2.block _ (lt_of_block V_A1_1.out)).trans V_A1_1.out)
  have B2 := Lib.hid (B1.out.trans (b2.mono B1.out.size))
  clear b2
  by_cases hz0 : z0 < 0
  · go_wp2_with fail
    go_ret
    exact ⟨rfl, B2.out⟩
  have U0 := Lib.hid (sz_step HZ0.out (by omega))
  have p0 : z0 ≤ 1048576 := by have := U0.out; omega
  have cv2_A0_0 := box_cell V_A0_2.out 0 _ rfl
  have cv2_A0_1 := box_cell V_A0_2.out 1 _ rfl
  have cv2_A1_0 := box_cell V_A1_2.out 0 _ rfl
  have cv2_A1_1 := box_cell V_A1_2.out 1 _ rfl
  go_wp2_with fail
  refine (szD_disk X1 a1_0 n1_0 c1_0 z0 _ (HI1.out.keep B2.out) (by omega) (by omega)).mono ?_
  rintro e w3 ⟨rfl, b3⟩
  rw [← HZ1.out]
  have V_A0_3 := Lib.hid ((b3.block _ (lt_of_block V_A0_2.out)).trans V_A0_2.out)
  have V_A1_3 := Lib.hid ((b3.block _ (lt_of_block V_A1_2.out)).trans V_A1_2.out)
  have B3 := Lib.hid (B2.out.trans (b3.mono B2.out.size))
  clear b3
  by_cases hz1 : z1 < 0
  · go_wp2_with fail
    go_ret
    exact ⟨rfl, B3.out⟩
  have U1 := Lib.hid (sz_step HZ1.out (by omega))
  have HA : Hid (wtDisk X0 ≤ 1048576 ∧ wtDisk X1 ≤ 1048576 ∧ diskMkV.cnt X0 ≤ 64 * wtDisk X0 ∧ diskMkV.cnt X1 ≤ 64 * wtDisk X1) := Lib.hid ⟨by have := U0.out; have := U1.out; omega, by have := U0.out; have := U1.out; omega, cntV_disk X0, cntV_disk X1⟩
  clear U0
  clear U1
  have SP := Lib.hid fun (p0_0 : Option Addr) (d0_0 : Nat) (p1_0 : Option Addr) (d1_0 : Nat) (v : World) (h0 : diskRep.inn v X0 ((p0_0, n0_0, d0_0), ())) (h1 : diskRep.inn v X1 ((p1_0, n1_0, d1_0), ())) => (show Calls Try.prog 31 #[.agg #[.slice p0_0 n0_0 d0_0, .int .i64 X0.fNextName], .agg #[.slice p1_0 n1_0 d1_0, .int .i64 X1.fNextName]] v (Ans (decide (X0 = X1)) v) from sequal p0_0 n0_0 d0_0 X0 p1_0 n1_0 d1_0 X1 v h0 h1)
  have IP := Lib.hid fun (p0_0 : Option Addr) (d0_0 : Nat) (p1_0 : Option Addr) (d1_0 : Nat) (v : World) (h0 : diskRep.inn v X0 ((p0_0, n0_0, d0_0), ())) (h1 : diskRep.inn v X1 ((p1_0, n1_0, d1_0), ())) => (show Calls Try.prog 32 #[.agg #[.slice p0_0 n0_0 d0_0, .int .i64 X0.fNextName], .agg #[.slice p1_0 n1_0 d1_0, .int .i64 X1.fNextName]] v (Ans (decide (X0 = X1)) v) from iequal p0_0 n0_0 d0_0 X0 p1_0 n1_0 d1_0 X1 v h0 h1)
  obtain ⟨Y0, hY0⟩ : ∃ Y, Y = decide (X0 = X1) := ⟨_, rfl⟩
  rw [← hY0] at SP IP
  clear hY0
  clear cv2_A0_0 cv2_A0_1 cv2_A1_0 cv2_A1_1
  have cv3_A0_0 := box_cell V_A0_3.out 0 _ rfl
  have cv3_A0_1 := box_cell V_A0_3.out 1 _ rfl
  have cv3_A1_0 := box_cell V_A1_3.out 0 _ rfl
  have cv3_A1_1 := box_cell V_A1_3.out 1 _ rfl
  go_wp2_with fail
  have hcc : ∀ v', Below w3.heap.size w3 v' → v'.cell? ⟨w.heap.size, 0, none⟩ = some (.slice a0_0 n0_0 c0_0) ∧ v'.cell? ⟨w.heap.size, 1, none⟩ = some (.int .i64 X0.fNextName) ∧ v'.cell? ⟨w.heap.size + 1, 0, none⟩ = some (.slice a1_0 n1_0 c1_0) ∧ v'.cell? ⟨w.heap.size + 1, 1, none⟩ = some (.int .i64 X1.fNextName) := fun v' hv => ⟨box_cell ((hv.block _ (lt_of_block V_A0_3.out)).trans V_A0_3.out) 0 _ rfl, box_cell ((hv.block _ (lt_of_block V_A0_3.out)).trans V_A0_3.out) 1 _ rfl, box_cell ((hv.block _ (lt_of_block V_A1_3.out)).trans V_A1_3.out) 0 _ rfl, box_cell ((hv.block _ (lt_of_block V_A1_3.out)).trans V_A1_3.out) 1 _ rfl⟩
  have CP0 := Lib.hid fun v  (hv : Below w3.heap.size w3 v)  => (toD_disk X0 a0_0 n0_0 c0_0 v (HI0.out.keep (B3.out.trans (hv.mono B3.out.size))) (by have := HA.out; omega)).mono fun e v' (h : ∃ (g0_0 : Nat) (F : List Reg), e = .returned (.agg #[.slice (some ⟨g0_0, 0, none⟩) n0_0 n0_0, .int .i64 X0.fNextName]) ∧ diskRep.own v' v.heap.size X0 (((some ⟨g0_0, 0, none⟩), n0_0, n0_0), ()) F ∧ Below v.heap.size v v') => (show ∃ (g0_0 : Nat) (F : List Reg), e = .returned (.agg #[.slice (some ⟨g0_0, 0, none⟩) n0_0 n0_0, .int .i64 X0.fNextName]) ∧ Hid (diskRep.inn v' X0 (((some ⟨g0_0, 0, none⟩), n0_0, n0_0), ())) ∧ Below w3.heap.size w3 v' ∧ v'.cell? ⟨w.heap.size, 0, none⟩ = some (.slice a0_0 n0_0 c0_0) ∧ v'.cell? ⟨w.heap.size, 1, none⟩ = some (.int .i64 X0.fNextName) ∧ v'.cell? ⟨w.heap.size + 1, 0, none⟩ = some (.slice a1_0 n1_0 c1_0) ∧ v'.cell? ⟨w.heap.size + 1, 1, none⟩ = some (.int .i64 X1.fNextName) from by
    obtain ⟨g0_0, F, he, hm, hb⟩ := h
    have hv' := hv.trans (hb.mono hv.size)
    exact ⟨g0_0, F, he, Lib.hid hm.inn, hv', hcc v' hv'⟩)
  have CP1 := Lib.hid fun v g0_0 (hv : Below w3.heap.size w3 v) (hi0 : Hid (diskRep.inn v X0 (((some ⟨g0_0, 0, none⟩), n0_0, n0_0), ()))) => (toD_disk X1 a1_0 n1_0 c1_0 v (HI1.out.keep (B3.out.trans (hv.mono B3.out.size))) (by have := HA.out; omega)).mono fun e v' (h : ∃ (g1_0 : Nat) (F : List Reg), e = .returned (.agg #[.slice (some ⟨g1_0, 0, none⟩) n1_0 n1_0, .int .i64 X1.fNextName]) ∧ diskRep.own v' v.heap.size X1 (((some ⟨g1_0, 0, none⟩), n1_0, n1_0), ()) F ∧ Below v.heap.size v v') => (show ∃ (g1_0 : Nat) (F : List Reg), e = .returned (.agg #[.slice (some ⟨g1_0, 0, none⟩) n1_0 n1_0, .int .i64 X1.fNextName]) ∧ Hid (diskRep.inn v' X0 (((some ⟨g0_0, 0, none⟩), n0_0, n0_0), ())) ∧ Hid (diskRep.inn v' X1 (((some ⟨g1_0, 0, none⟩), n1_0, n1_0), ())) ∧ Below w3.heap.size w3 v' ∧ v'.cell? ⟨w.heap.size, 0, none⟩ = some (.slice a0_0 n0_0 c0_0) ∧ v'.cell? ⟨w.heap.size, 1, none⟩ = some (.int .i64 X0.fNextName) ∧ v'.cell? ⟨w.heap.size + 1, 0, none⟩ = some (.slice a1_0 n1_0 c1_0) ∧ v'.cell? ⟨w.heap.size + 1, 1, none⟩ = some (.int .i64 X1.fNextName) from by
    obtain ⟨g1_0, F, he, hm, hb⟩ := h
    have hv' := hv.trans (hb.mono hv.size)
    exact ⟨g1_0, F, he, Lib.hid (diskRep.inn_keep hi0.out hb), Lib.hid hm.inn, hv', hcc v' hv'⟩)
  have CF := Lib.hid fun v g0_0 g1_0 (hv : Below w3.heap.size w3 v) (hi0 : Hid (diskRep.inn v X0 (((some ⟨g0_0, 0, none⟩), n0_0, n0_0), ()))) (hi1 : Hid (diskRep.inn v X1 (((some ⟨g1_0, 0, none⟩), n1_0, n1_0), ()))) => (SP.out _ _ _ _ v hi0.out hi1.out).mono fun e v' h => (show e = .returned (.bool Y0) ∧ Below w3.heap.size w3 v' from by
    obtain ⟨he, hb⟩ := h
    exact ⟨he, hv.trans (hb.mono hv.size)⟩)
  go_cut [6] from 20 to 24 (fun s0 wx => ∃ v, v = wx ∧ Hid (Cut Y0 w3 s0 v))
  case first =>
    have hK : Below w3.heap.size w3 w3.drew := (Below.refl _ _).drew
    obtain ⟨e0, e1, e2, e3⟩ := hcc _ (Below.refl _ _)
    clear hcc
    go_region_with (first
      | (go_at_call 31; refine (CF.out _ _ _ (by assumption) (by assumption) (by assumption)).mono ?_; rintro e v ⟨rfl, hK⟩)
      | (go_at_call 14; have hh := hi0; clear hh; refine (CP1.out _ _ (by assumption) (by assumption)).mono ?_; rintro e v ⟨g1_0, F, rfl, hi0, hi1, hK, e0, e1, e2, e3⟩)
      | (go_at_call 14; refine (CP0.out _ (by assumption)).mono ?_; rintro e v ⟨g0_0, F, rfl, hi0, hK, e0, e1, e2, e3⟩))
    all_goals go_wp2_with fail
    all_goals go_meet
    all_goals exact ⟨_, rfl, cut_fin Y0  hK⟩
  case rest =>
    clear CF hcc CP0 CP1
    obtain ⟨w4, rfl, hcu⟩ := hcut
    obtain ⟨rfl, b4⟩ := hcu.out
    have V_A0_4 := Lib.hid ((b4.block _ (lt_of_block V_A0_3.out)).trans V_A0_3.out)
    have V_A1_4 := Lib.hid ((b4.block _ (lt_of_block V_A1_3.out)).trans V_A1_3.out)
    have B4 := Lib.hid (B3.out.trans (b4.mono B3.out.size))
    clear hcu b4 
    clear cv3_A0_0 cv3_A0_1 cv3_A1_0 cv3_A1_1
    have cv4_A0_0 := box_cell V_A0_4.out 0 _ rfl
    have cv4_A0_1 := box_cell V_A0_4.out 1 _ rfl
    have cv4_A1_0 := box_cell V_A1_4.out 0 _ rfl
    have cv4_A1_1 := box_cell V_A1_4.out 1 _ rfl
    go_wp2_with fail
    refine (toD_disk X0 a0_0 n0_0 c0_0 _ (HI0.out.keep B4.out) (by have := HA.out; omega)).mono ?_
    rintro e w5 ⟨g5_0, F5, rfl, m5_0, b5⟩
    have V_A0_5 := Lib.hid ((b5.block _ (lt_of_block V_A0_4.out)).trans V_A0_4.out)
    have V_A1_5 := Lib.hid ((b5.block _ (lt_of_block V_A1_4.out)).trans V_A1_4.out)
    have B5 := Lib.hid (B4.out.trans (b5.mono B4.out.size))
    have P0_5 := Lib.hid m5_0
    have NE_P0_A0 := Lib.hid (fun y (hy : y ∈ F5) => (show y.b ≠ _ from by have h1 := lt_of_block V_A0_4.out; have h2 := (m5_0.lt y hy).1; intro e; rw [e] at h2; exact absurd h1 (Nat.not_lt.2 h2)))
    have NE_P0_A1 := Lib.hid (fun y (hy : y ∈ F5) => (show y.b ≠ _ from by have h1 := lt_of_block V_A1_4.out; have h2 := (m5_0.lt y hy).1; intro e; rw [e] at h2; exact absurd h1 (Nat.not_lt.2 h2)))
    clear b5 m5_0
    obtain ⟨w6, hv6⟩ : ∃ v, v = (w5.alloc (.cells #[.slice (some ⟨g5_0, 0, none⟩) n0_0 n0_0, .int .i64 X0.fNextName] 31)) := ⟨_, rfl⟩
    have b6 : Below w5.heap.size w5 w6 := by rw [hv6]; exact (Below.refl _ _).alloc (Nat.le_refl _) _
    have P0_6 := Lib.hid (P0_5.out.keep b6)
    have V_A0_6 := Lib.hid ((b6.block _ (lt_of_block V_A0_5.out)).trans V_A0_5.out)
    have V_A1_6 := Lib.hid ((b6.block _ (lt_of_block V_A1_5.out)).trans V_A1_5.out)
    have B6 := Lib.hid (B5.out.trans (b6.mono B5.out.size))
    have V_P0_6 : Hid (w6.heap[w5.heap.size]? = some (.cells #[.slice (some ⟨g5_0, 0, none⟩) n0_0 n0_0, .int .i64 X0.fNextName] 31 (0, 0))) := Lib.hid (by rw [hv6]; exact heap_alloc_new _ _)
    have NE_P0_P0 : Hid (∀ y ∈ F5, y.b ≠ w5.heap.size) := Lib.hid (fun y hy => by have := (P0_5.out.lt y hy).2; omega)
    clear b6
    clear cv4_A0_0 cv4_A0_1 cv4_A1_0 cv4_A1_1
    have cv6_A0_0 := box_cell V_A0_6.out 0 _ rfl
    rw [hv6] at cv6_A0_0
    have cv6_A0_1 := box_cell V_A0_6.out 1 _ rfl
    rw [hv6] at cv6_A0_1
    have cv6_A1_0 := box_cell V_A1_6.out 0 _ rfl
    rw [hv6] at cv6_A1_0
    have cv6_A1_1 := box_cell V_A1_6.out 1 _ rfl
    rw [hv6] at cv6_A1_1
    have cv6_P0_0 := box_cell V_P0_6.out 0 _ rfl
    rw [hv6] at cv6_P0_0
    have cv6_P0_1 := box_cell V_P0_6.out 1 _ rfl
    rw [hv6] at cv6_P0_1
    go_wp2_with fail
    rw [← hv6]
    clear hv6 cv6_A0_0 cv6_A0_1 cv6_A1_0 cv6_A1_1 cv6_P0_0 cv6_P0_1
    refine (toD_disk X1 a1_0 n1_0 c1_0 _ (HI1.out.keep B6.out) (by have := HA.out; omega)).mono ?_
    rintro e w7 ⟨g7_0, F7, rfl, m7_0, b7⟩
    have P0_7 := Lib.hid (P0_6.out.keep b7)
    have V_A0_7 := Lib.hid ((b7.block _ (lt_of_block V_A0_6.out)).trans V_A0_6.out)
    have V_A1_7 := Lib.hid ((b7.block _ (lt_of_block V_A1_6.out)).trans V_A1_6.out)
    have V_P0_7 := Lib.hid ((b7.block _ (lt_of_block V_P0_6.out)).trans V_P0_6.out)
    have B7 := Lib.hid (B6.out.trans (b7.mono B6.out.size))
    have P1_7 := Lib.hid m7_0
    have ap_P0_P1 : Hid (∀ x ∈ F5, ∀ y ∈ F7, Reg.apart x y) := Lib.hid (apart_lt (fun y hy => (P0_6.out.lt y hy).2) (fun y hy => (m7_0.lt y hy).1))
    have NE_P1_A0 := Lib.hid (fun y (hy : y ∈ F7) => (show y.b ≠ _ from by have h1 := lt_of_block V_A0_6.out; have h2 := (m7_0.lt y hy).1; intro e; rw [e] at h2; exact absurd h1 (Nat.not_lt.2 h2)))
    have NE_P1_A1 := Lib.hid (fun y (hy : y ∈ F7) => (show y.b ≠ _ from by have h1 := lt_of_block V_A1_6.out; have h2 := (m7_0.lt y hy).1; intro e; rw [e] at h2; exact absurd h1 (Nat.not_lt.2 h2)))
    have NE_P1_P0 := Lib.hid (fun y (hy : y ∈ F7) => (show y.b ≠ _ from by have h1 := lt_of_block V_P0_6.out; have h2 := (m7_0.lt y hy).1; intro e; rw [e] at h2; exact absurd h1 (Nat.not_lt.2 h2)))
    clear b7 m7_0
    obtain ⟨w8, hv8⟩ : ∃ v, v = (w7.alloc (.cells #[.slice (some ⟨g7_0, 0, none⟩) n1_0 n1_0, .int .i64 X1.fNextName] 31)) := ⟨_, rfl⟩
    have b8 : Below w7.heap.size w7 w8 := by rw [hv8]; exact (Below.refl _ _).alloc (Nat.le_refl _) _
    have P0_8 := Lib.hid (P0_7.out.keep b8)
    have P1_8 := Lib.hid (P1_7.out.keep b8)
    have V_A0_8 := Lib.hid ((b8.block _ (lt_of_block V_A0_7.out)).trans V_A0_7.out)
    have V_A1_8 := Lib.hid ((b8.block _ (lt_of_block V_A1_7.out)).trans V_A1_7.out)
    have V_P0_8 := Lib.hid ((b8.block _ (lt_of_block V_P0_7.out)).trans V_P0_7.out)
    have B8 := Lib.hid (B7.out.trans (b8.mono B7.out.size))
    have V_P1_8 : Hid (w8.heap[w7.heap.size]? = some (.cells #[.slice (some ⟨g7_0, 0, none⟩) n1_0 n1_0, .int .i64 X1.fNextName] 31 (0, 0))) := Lib.hid (by rw [hv8]; exact heap_alloc_new _ _)
    have NE_P0_P1 : Hid (∀ y ∈ F5, y.b ≠ w7.heap.size) := Lib.hid (fun y hy => by have := (P0_7.out.lt y hy).2; omega)
    have NE_P1_P1 : Hid (∀ y ∈ F7, y.b ≠ w7.heap.size) := Lib.hid (fun y hy => by have := (P1_7.out.lt y hy).2; omega)
    clear b8
    have cv8_A0_0 := box_cell V_A0_8.out 0 _ rfl
    rw [hv8] at cv8_A0_0
    have cv8_A0_1 := box_cell V_A0_8.out 1 _ rfl
    rw [hv8] at cv8_A0_1
    have cv8_A1_0 := box_cell V_A1_8.out 0 _ rfl
    rw [hv8] at cv8_A1_0
    have cv8_A1_1 := box_cell V_A1_8.out 1 _ rfl
    rw [hv8] at cv8_A1_1
    have cv8_P0_0 := box_cell V_P0_8.out 0 _ rfl
    rw [hv8] at cv8_P0_0
    have cv8_P0_1 := box_cell V_P0_8.out 1 _ rfl
    rw [hv8] at cv8_P0_1
    have cv8_P1_0 := box_cell V_P1_8.out 0 _ rfl
    rw [hv8] at cv8_P1_0
    have cv8_P1_1 := box_cell V_P1_8.out 1 _ rfl
    rw [hv8] at cv8_P1_1
    go_wp2_with fail
    rw [← hv8]
    clear hv8 cv8_A0_0 cv8_A0_1 cv8_A1_0 cv8_A1_1 cv8_P0_0 cv8_P0_1 cv8_P1_0 cv8_P1_1
    refine (IP.out _ _ _ _ _ P0_8.out.inn P1_8.out.inn).mono ?_
    rintro e w9 ⟨rfl, b9⟩
    have P0_9 := Lib.hid (P0_8.out.keep b9)
    have P1_9 := Lib.hid (P1_8.out.keep b9)
    have V_A0_9 := Lib.hid ((b9.block _ (lt_of_block V_A0_8.out)).trans V_A0_8.out)
    have V_A1_9 := Lib.hid ((b9.block _ (lt_of_block V_A1_8.out)).trans V_A1_8.out)
    have V_P0_9 := Lib.hid ((b9.block _ (lt_of_block V_P0_8.out)).trans V_P0_8.out)
    have V_P1_9 := Lib.hid ((b9.block _ (lt_of_block V_P1_8.out)).trans V_P1_8.out)
    have B9 := Lib.hid (B8.out.trans (b9.mono B8.out.size))
    clear b9
    go_wp2_with fail
    have hcc : ∀ v', Below w9.heap.size w9 v' → v'.cell? ⟨w.heap.size, 0, none⟩ = some (.slice a0_0 n0_0 c0_0) ∧ v'.cell? ⟨w.heap.size, 1, none⟩ = some (.int .i64 X0.fNextName) ∧ v'.cell? ⟨w5.heap.size, 0, none⟩ = some (.slice (some ⟨g5_0, 0, none⟩) n0_0 n0_0) ∧ v'.cell? ⟨w5.heap.size, 1, none⟩ = some (.int .i64 X0.fNextName) := fun v' hv => ⟨box_cell ((hv.block _ (lt_of_block V_A0_9.out)).trans V_A0_9.out) 0 _ rfl, box_cell ((hv.block _ (lt_of_block V_A0_9.out)).trans V_A0_9.out) 1 _ rfl, box_cell ((hv.block _ (lt_of_block V_P0_9.out)).trans V_P0_9.out) 0 _ rfl, box_cell ((hv.block _ (lt_of_block V_P0_9.out)).trans V_P0_9.out) 1 _ rfl⟩
    have CP := Lib.hid fun v (hv : Below w9.heap.size w9 v) => (toD_disk X0 a0_0 n0_0 c0_0 v (HI0.out.keep (B9.out.trans (hv.mono B9.out.size))) (by have := HA.out; omega)).mono fun e v' (h : ∃ (g0 : Nat) (F : List Reg), e = .returned (.agg #[.slice (some ⟨g0, 0, none⟩) n0_0 n0_0, .int .i64 X0.fNextName]) ∧ diskRep.own v' v.heap.size X0 (((some ⟨g0, 0, none⟩), n0_0, n0_0), ()) F ∧ Below v.heap.size v v') => (show ∃ (g0 : Nat) (F : List Reg), e = .returned (.agg #[.slice (some ⟨g0, 0, none⟩) n0_0 n0_0, .int .i64 X0.fNextName]) ∧ Hid (diskRep.inn v' X0 (((some ⟨g0, 0, none⟩), n0_0, n0_0), ())) ∧ Below w9.heap.size w9 v' ∧ v'.cell? ⟨w.heap.size, 0, none⟩ = some (.slice a0_0 n0_0 c0_0) ∧ v'.cell? ⟨w.heap.size, 1, none⟩ = some (.int .i64 X0.fNextName) ∧ v'.cell? ⟨w5.heap.size, 0, none⟩ = some (.slice (some ⟨g5_0, 0, none⟩) n0_0 n0_0) ∧ v'.cell? ⟨w5.heap.size, 1, none⟩ = some (.int .i64 X0.fNextName) from by
      obtain ⟨g0, F, he, hm, hb⟩ := h
      have hv' := hv.trans (hb.mono hv.size)
      exact ⟨g0, F, he, Lib.hid hm.inn, hv', hcc v' hv'⟩)
    have CE := Lib.hid fun v g0 (hv : Below w9.heap.size w9 v) (hr : Hid (diskRep.inn v X0 (((some ⟨g0, 0, none⟩), n0_0, n0_0), ()))) => (eqD_disk X0 X0 (some ⟨g5_0, 0, none⟩) n0_0 n0_0 (some ⟨g0, 0, none⟩) n0_0 n0_0 v (P0_9.out.inn.keep hv) hr.out).mono fun e v' (h : e = .returned (.bool (decide (X0 = X0))) ∧ Below v.heap.size v v') => (show e = .returned (.bool true) ∧ Below w9.heap.size w9 v' from ⟨by rw [h.1, decide_eq_true rfl], hv.trans (h.2.mono hv.size)⟩)
    go_cut [39] from 35 to 39 (fun sx wx => ∃ v, v = wx ∧ sx = .bool false ∧ Hid (Below w9.heap.size w9 v))
    case first =>
      have hK : Below w9.heap.size w9 w9.drew := (Below.refl _ _).drew
      obtain ⟨c0, c1, c2, c3⟩ := hcc _ (Below.refl _ _)
      clear hcc
      go_region_with (first
        | (go_at_call 14; refine (CP.out _ (by assumption)).mono ?_; rintro e v ⟨g0, F, rfl, hrr, hK, c0, c1, c2, c3⟩)
        | (go_at_call 16; refine (CE.out _ _ (by assumption) (by assumption)).mono ?_; rintro e v ⟨rfl, hK⟩))
      all_goals go_wp2_with fail
      all_goals go_meet
      all_goals exact ⟨_, rfl, rfl, by assumption⟩
    case rest =>
      clear CP CE hcc
      obtain ⟨w10, rfl, rfl, hB10⟩ := hcut
      have b10 := hB10.out
      have P0_10 := Lib.hid (P0_9.out.keep b10)
      have P1_10 := Lib.hid (P1_9.out.keep b10)
      have V_A0_10 := Lib.hid ((b10.block _ (lt_of_block V_A0_9.out)).trans V_A0_9.out)
      have V_A1_10 := Lib.hid ((b10.block _ (lt_of_block V_A1_9.out)).trans V_A1_9.out)
      have V_P0_10 := Lib.hid ((b10.block _ (lt_of_block V_P0_9.out)).trans V_P0_9.out)
      have V_P1_10 := Lib.hid ((b10.block _ (lt_of_block V_P1_9.out)).trans V_P1_9.out)
      have B10 := Lib.hid (B9.out.trans (b10.mono B9.out.size))
      clear b10 hB10
      go_wp2_with fail
      have hcc : ∀ v', Below w10.heap.size w10 v' → v'.cell? ⟨w.heap.size + 1, 0, none⟩ = some (.slice a1_0 n1_0 c1_0) ∧ v'.cell? ⟨w.heap.size + 1, 1, none⟩ = some (.int .i64 X1.fNextName) ∧ v'.cell? ⟨w7.heap.size, 0, none⟩ = some (.slice (some ⟨g7_0, 0, none⟩) n1_0 n1_0) ∧ v'.cell? ⟨w7.heap.size, 1, none⟩ = some (.int .i64 X1.fNextName) := fun v' hv => ⟨box_cell ((hv.block _ (lt_of_block V_A1_10.out)).trans V_A1_10.out) 0 _ rfl, box_cell ((hv.block _ (lt_of_block V_A1_10.out)).trans V_A1_10.out) 1 _ rfl, box_cell ((hv.block _ (lt_of_block V_P1_10.out)).trans V_P1_10.out) 0 _ rfl, box_cell ((hv.block _ (lt_of_block V_P1_10.out)).trans V_P1_10.out) 1 _ rfl⟩
      have CP := Lib.hid fun v (hv : Below w10.heap.size w10 v) => (toD_disk X1 a1_0 n1_0 c1_0 v (HI1.out.keep (B10.out.trans (hv.mono B10.out.size))) (by have := HA.out; omega)).mono fun e v' (h : ∃ (g0 : Nat) (F : List Reg), e = .returned (.agg #[.slice (some ⟨g0, 0, none⟩) n1_0 n1_0, .int .i64 X1.fNextName]) ∧ diskRep.own v' v.heap.size X1 (((some ⟨g0, 0, none⟩), n1_0, n1_0), ()) F ∧ Below v.heap.size v v') => (show ∃ (g0 : Nat) (F : List Reg), e = .returned (.agg #[.slice (some ⟨g0, 0, none⟩) n1_0 n1_0, .int .i64 X1.fNextName]) ∧ Hid (diskRep.inn v' X1 (((some ⟨g0, 0, none⟩), n1_0, n1_0), ())) ∧ Below w10.heap.size w10 v' ∧ v'.cell? ⟨w.heap.size + 1, 0, none⟩ = some (.slice a1_0 n1_0 c1_0) ∧ v'.cell? ⟨w.heap.size + 1, 1, none⟩ = some (.int .i64 X1.fNextName) ∧ v'.cell? ⟨w7.heap.size, 0, none⟩ = some (.slice (some ⟨g7_0, 0, none⟩) n1_0 n1_0) ∧ v'.cell? ⟨w7.heap.size, 1, none⟩ = some (.int .i64 X1.fNextName) from by
        obtain ⟨g0, F, he, hm, hb⟩ := h
        have hv' := hv.trans (hb.mono hv.size)
        exact ⟨g0, F, he, Lib.hid hm.inn, hv', hcc v' hv'⟩)
      have CE := Lib.hid fun v g0 (hv : Below w10.heap.size w10 v) (hr : Hid (diskRep.inn v X1 (((some ⟨g0, 0, none⟩), n1_0, n1_0), ()))) => (eqD_disk X1 X1 (some ⟨g7_0, 0, none⟩) n1_0 n1_0 (some ⟨g0, 0, none⟩) n1_0 n1_0 v (P1_10.out.inn.keep hv) hr.out).mono fun e v' (h : e = .returned (.bool (decide (X1 = X1))) ∧ Below v.heap.size v v') => (show e = .returned (.bool true) ∧ Below w10.heap.size w10 v' from ⟨by rw [h.1, decide_eq_true rfl], hv.trans (h.2.mono hv.size)⟩)
      go_cut [44] from 40 to 44 (fun sx wx => ∃ v, v = wx ∧ sx = .bool false ∧ Hid (Below w10.heap.size w10 v))
      case first =>
        have hK : Below w10.heap.size w10 w10.drew := (Below.refl _ _).drew
        obtain ⟨c0, c1, c2, c3⟩ := hcc _ (Below.refl _ _)
        clear hcc
        go_region_with (first
          | (go_at_call 14; refine (CP.out _ (by assumption)).mono ?_; rintro e v ⟨g0, F, rfl, hrr, hK, c0, c1, c2, c3⟩)
          | (go_at_call 16; refine (CE.out _ _ (by assumption) (by assumption)).mono ?_; rintro e v ⟨rfl, hK⟩))
        all_goals go_wp2_with fail
        all_goals go_meet
        all_goals exact ⟨_, rfl, rfl, by assumption⟩
      case rest =>
        clear CP CE hcc
        obtain ⟨w11, rfl, rfl, hB11⟩ := hcut
        have b11 := hB11.out
        have P0_11 := Lib.hid (P0_10.out.keep b11)
        have P1_11 := Lib.hid (P1_10.out.keep b11)
        have V_A0_11 := Lib.hid ((b11.block _ (lt_of_block V_A0_10.out)).trans V_A0_10.out)
        have V_A1_11 := Lib.hid ((b11.block _ (lt_of_block V_A1_10.out)).trans V_A1_10.out)
        have V_P0_11 := Lib.hid ((b11.block _ (lt_of_block V_P0_10.out)).trans V_P0_10.out)
        have V_P1_11 := Lib.hid ((b11.block _ (lt_of_block V_P1_10.out)).trans V_P1_10.out)
        have B11 := Lib.hid (B10.out.trans (b11.mono B10.out.size))
        clear b11 hB11
        have cv11_A0_0 := box_cell V_A0_11.out 0 _ rfl
        have cv11_A0_1 := box_cell V_A0_11.out 1 _ rfl
        have cv11_A1_0 := box_cell V_A1_11.out 0 _ rfl
        have cv11_A1_1 := box_cell V_A1_11.out 1 _ rfl
        have cv11_P0_0 := box_cell V_P0_11.out 0 _ rfl
        have cv11_P0_1 := box_cell V_P0_11.out 1 _ rfl
        have cv11_P1_0 := box_cell V_P1_11.out 0 _ rfl
        have cv11_P1_1 := box_cell V_P1_11.out 1 _ rfl
        go_wp2_with fail
        go_ret
        exact ⟨rfl, B11.out⟩

/-! ### The row's step -/
theorem own : ownKnob Try.prog.godebug = none := by kernel_rfl
theorem laidOut : laidOutB Try.prog = true := by kernel_rfl
set_option maxRecDepth 100000 in
theorem lifted (os : Os) (started : os.Started) (H : Type) (enc : TypeId × Value → H) :
    ReturnsInHanded {} Try.checked os 9 .any (Rows.fnExactEqualDisksSpec.pre6 enc Try.prog Try.f9 Rows.fnExactEqualDisksRow.domain false) (Rows.fnExactEqualDisksSpec.post enc Try.prog Try.f9 false true false false) := by
  refine returnsInHanded_of_change (C := Try.checked) own started (by kernel_rfl) Try.func9
    (ChangeSpec.witness6 (enc := enc) (C := Try.checked) false ⟨#[], #[.agg #[.slice none 0 0, .int .i64 0], .agg #[.slice none 0 0, .int .i64 0]], []⟩ 8 (by kernel_rfl) (by kernel_rfl) (by kernel_rfl) (by kernel_rfl)) ?_
  intro W base args ds gs before hval0 hW hcnd hsz
  have hval : ∀ (j : Nat) t v, Try.f9.params[j]? = some t → args[j]? = some v → Value.okWide Try.prog W .any base t v := hval0
  have hW' := hW
  obtain ⟨p, q, hA0, hV, rfl, hfz, hnd⟩ := hW
  have hA : DataW.TrodAll enc Try.prog W 0 (fun _ => true) true Try.f9.params.toList args.toList ds p := hA0
  rw [Try.params9] at hA hval
  obtain ⟨v0, vs0, d0, ds0, p0, q0, hargs, rfl, rfl, h0, r0⟩ := trodAll_cons hA
  obtain ⟨v1, vs1, d1, ds1, p1, q1, rfl, rfl, rfl, h1, r1⟩ := trodAll_cons r0
  obtain ⟨rfl, rfl, rfl⟩ := trodAll_nil r1
  obtain rfl : args = #[v0, v1] := by cases args; simp_all
  obtain ⟨rfl, rfl⟩ := trodVars_none hV
  have k0 := h0
  have lt0 : ∀ x ∈ p0, x.block < W.heap.size := by obtain ⟨m, hm⟩ := k0; exact DataW.trod_lt m _ _ _ hm
  obtain ⟨a0_0, n0_0, c0_0, L0, rfl, w0⟩ := openD_disk (hval 0 26 v0 rfl rfl) h0
  have k1 := h1
  have lt1 : ∀ x ∈ p1, x.block < W.heap.size := by obtain ⟨m, hm⟩ := k1; exact DataW.trod_lt m _ _ _ hm
  obtain ⟨a1_0, n1_0, c1_0, L1, rfl, w1⟩ := openD_disk (hval 1 26 v1 rfl rfl) h1
  clear hA0 hval0
  refine (walk a0_0 n0_0 c0_0 L0 W w0 a1_0 n1_0 c1_0 L1 w1).mono fun e W' ⟨he, bel⟩ => ?_
  subst he
  exact ⟨_, rfl, _, _, _, [], _, [], hW', trodAll_mk1 (shut_bool Try.underlying4 _), (trodAll_cons_mk (Below.trod laidOut (by kernel_rfl) (of_decide_eq_true (by kernel_rfl)) k0 bel lt0) (trodAll_cons_mk (Below.trod laidOut (by kernel_rfl) (of_decide_eq_true (by kernel_rfl)) k1 bel lt1) trodAll_mk0)), rfl, bel.frame _, fun h => by cases h⟩
theorem over : Rows.fnExactEqualDisksRow.holds Try.pinned (OpenSpec.ofChange Rows.fnExactEqualDisksSpec) :=
  OpenClaim.holds_of_wide 9 Try.f9 rfl rfl rfl rfl rfl rfl rfl ⟨rfl, rfl, rfl, rfl, rfl⟩ rfl rfl rfl rfl rfl (by kernel_rfl) Try.func9 (by kernel_rfl)
    (of_decide_eq_true (by kernel_rfl)) (by unfold Func.isWrapper; first | (rw [if_pos (by decide +kernel)]; kernel_rfl) | (rw [if_neg (by decide +kernel)]; exact ⟨rfl, rfl⟩))
    (fun os started H enc _ => lifted os started H enc)
/-- The statement. -/
theorem proved : Rows.FnExactEqualDisksSaid := over
#print axioms proved
end Go.Proofs.Ythbifibnnhikjaa.FnExactEqualDisks
