/- Proved: for every disk and name the law FnExactDeleteFile returns true: the program's DeleteFile answers as the reference's, leaves its argument alone, and answers in memory of its own that a later call does not touch (the law itself answers true above 2^20 elements). No condition. -/
import Derived.Test.YthbifibnnhikjaaPartSixd
import Derived.Test.YthbifibnnhikjaaRows
import Derived.Deep.CutRange
import Derived.Deep.RegionWith
import Derived.ProofKit
import Derived.OpenShut
import Derived.ShutString
import Derived.ChangeOld
namespace Go.Proofs.Ythbifibnnhikjaa.FnExactDeleteFile
open Go Go.ChangeShapes Go.WideShapes Go.ChangeAt Go.RowKit
open Go.ChangeMaps (open_string shut_string)
set_option linter.unusedVariables false

def Ans (Y0 : DiskD) (Y1 : Bool) (v : World) (e : Ending) (v' : World) : Prop := ∃ (x0_0 : Option Addr) (k0_0 c0_0 : Nat) (F0 : List Reg), e = .returned (.tuple #[.agg #[.slice x0_0 k0_0 c0_0, .int .i64 Y0.fNextName], .bool Y1]) ∧ diskRep.own v' v.heap.size Y0 ((x0_0, k0_0, c0_0), ()) F0 ∧ Below v.heap.size v v'
theorem ans_of {Y0 : DiskD} {Y1 : Bool} {v : World} {e : Ending} {v' : World} (h : DiskAnd Y0 [.bool Y1] v e v') : Ans Y0 Y1 v e v' := by
  obtain ⟨a, n, c, G, rfl, hb, hl⟩ := h
  obtain ⟨F, hF, -⟩ := diskB.blk_own hb
  exact ⟨a, n, c, F, rfl, hF, hl⟩
set_option maxRecDepth 100000 in
set_option maxHeartbeats 4000000 in
theorem walk (a0_0 : Option Addr) (n0_0 c0_0 : Nat) (X0 : DiskD) (w : World) (h0 : diskRep.inn w X0 ((a0_0, n0_0, c0_0), ())) (s1 : Int) (r1 : (Lit.int .i64 s1).wf = true) : Calls Try.prog 7 #[.agg #[.slice a0_0 n0_0 c0_0, .int .i64 X0.fNextName], .int .i64 s1] w fun e w' => e = .returned (.bool true) ∧ Below w.heap.size w w' := by
  have HI0 := Lib.hid h0
  clear h0
  obtain ⟨z0, hz0⟩ : ∃ z, z = szR 1048576 (wtDisk X0) := ⟨_, rfl⟩
  have HZ0 := Lib.hid hz0
  clear hz0
  have B0 := Lib.hid (Below.refl w.heap.size w)
  obtain ⟨w1, hv1⟩ : ∃ v, v = (w.alloc (.cells #[.slice a0_0 n0_0 c0_0, .int .i64 X0.fNextName] 26)) := ⟨_, rfl⟩
  have b1 : Below w.heap.size w w1 := by rw [hv1]; exact (Below.refl _ _).alloc (Nat.le_refl _) _
  have B1 := Lib.hid (B0.out.trans (b1.mono B0.out.size))
  have V_A0_1 : Hid (w1.heap[w.heap.size]? = some (.cells #[.slice a0_0 n0_0 c0_0, .int .i64 X0.fNextName] 26 (0, 0))) := Lib.hid (by rw [hv1]; exact heap_alloc_new _ _)
  clear b1
  go_enter Try.func7, Try.ntmps7
  have cv1_A0_0 := box_cell V_A0_1.out 0 _ rfl
  rw [hv1] at cv1_A0_0
  have cv1_A0_1 := box_cell V_A0_1.out 1 _ rfl
  rw [hv1] at cv1_A0_1
  go_wp2_with fail
  rw [← hv1]
  clear hv1 cv1_A0_0 cv1_A0_1
  refine (szD_disk X0 a0_0 n0_0 c0_0 1048576 _ (HI0.out.keep B1.out) (by omega) (by omega)).mono ?_
  rintro e w2 ⟨rfl, b2⟩
  rw [← HZ0.out]
  have V_A0_2 := Lib.hid ((b2.block _ (lt_of_block V_A0_1.out)).trans V_A0_1.out)
  have B2 := Lib.hid (B1.out.trans (b2.mono B1.out.size))
  clear b2
  by_cases hz0 : z0 < 0
  · go_wp2_with fail
    go_ret
    exact ⟨rfl, B2.out⟩
  have U0 := Lib.hid (sz_step HZ0.out (by omega))
  have HA : Hid (wtDisk X0 ≤ 1048576 ∧ diskMkV.cnt X0 ≤ 64 * wtDisk X0) := Lib.hid ⟨by have := U0.out; omega, cntV_disk X0⟩
  clear U0
  have SP := Lib.hid fun (p0_0 : Option Addr) (d0_0 : Nat) (v : World) (h0 : diskRep.inn v X0 ((p0_0, n0_0, d0_0), ())) => (show Calls Try.prog 27 #[.agg #[.slice p0_0 n0_0 d0_0, .int .i64 X0.fNextName], .int .i64 s1] v (Ans ((DiskD.delete X0 s1).getD X0) ((DiskD.delete X0 s1).isSome) v) from (sdelete p0_0 n0_0 d0_0 X0 s1 v h0 (by have := HA.out; omega)).mono fun _ _ h => ans_of h)
  have IP := Lib.hid fun (p0_0 : Option Addr) (d0_0 : Nat) (v : World) (h0 : diskRep.inn v X0 ((p0_0, n0_0, d0_0), ())) => (show Calls Try.prog 28 #[.agg #[.slice p0_0 n0_0 d0_0, .int .i64 X0.fNextName], .int .i64 s1] v (Ans ((DiskD.delete X0 s1).getD X0) ((DiskD.delete X0 s1).isSome) v) from (idelete p0_0 n0_0 d0_0 X0 s1 v h0 (by have := HA.out; omega)).mono fun _ _ h => ans_of h)
  have hy0 : wtDisk ((DiskD.delete X0 s1).getD X0) ≤ 1048576 := DiskD.wt_delete HA.out.1
  obtain ⟨Y0, hY0⟩ : ∃ Y, Y = (DiskD.delete X0 s1).getD X0 := ⟨_, rfl⟩
  rw [← hY0] at SP IP hy0
  clear hY0
  obtain ⟨Y1, hY1⟩ : ∃ Y, Y = (DiskD.delete X0 s1).isSome := ⟨_, rfl⟩
  rw [← hY1] at SP IP
  clear hY1
  have HY : Hid (wtDisk Y0 ≤ 1048576 ∧ diskMkV.cnt Y0 ≤ 64 * wtDisk Y0) := Lib.hid ⟨hy0, cntV_disk Y0⟩
  clear hy0
  obtain ⟨C0, hC0⟩ : ∃ C, C = diskMkV.cnt X0 := ⟨_, rfl⟩
  have HC0 := Lib.hid hC0
  clear hC0
  obtain ⟨D0, hD0⟩ : ∃ D, D = diskMkV.cnt Y0 := ⟨_, rfl⟩
  have HD0 := Lib.hid hD0
  clear hD0
  have cv2_A0_0 := box_cell V_A0_2.out 0 _ rfl
  have cv2_A0_1 := box_cell V_A0_2.out 1 _ rfl
  go_wp2_with fail
  refine (toD_disk X0 a0_0 n0_0 c0_0 _ (HI0.out.keep B2.out) (by have := HA.out; omega)).mono ?_
  rintro e w3 ⟨g3_0, F3, rfl, m3_0, b3⟩
  have V_A0_3 := Lib.hid ((b3.block _ (lt_of_block V_A0_2.out)).trans V_A0_2.out)
  have B3 := Lib.hid (B2.out.trans (b3.mono B2.out.size))
  have S0_3 := Lib.hid m3_0
  have NE_S0_A0 := Lib.hid (fun y (hy : y ∈ F3) => (show y.b ≠ _ from by have h1 := lt_of_block V_A0_2.out; have h2 := (m3_0.lt y hy).1; intro e; rw [e] at h2; exact absurd h1 (Nat.not_lt.2 h2)))
  clear b3 m3_0
  clear cv2_A0_0 cv2_A0_1
  have cv3_A0_0 := box_cell V_A0_3.out 0 _ rfl
  have cv3_A0_1 := box_cell V_A0_3.out 1 _ rfl
  go_wp2_with fail
  refine (SP.out _ _ _ S0_3.out.inn).mono ?_
  rintro e w4 ⟨x4_0_0, k4_0_0, c4_0_0, F4_0, rfl, m4_0, b4⟩
  have S0_4 := Lib.hid (S0_3.out.keep b4)
  have V_A0_4 := Lib.hid ((b4.block _ (lt_of_block V_A0_3.out)).trans V_A0_3.out)
  have B4 := Lib.hid (B3.out.trans (b4.mono B3.out.size))
  have Z0_4 := Lib.hid m4_0
  have ap_S0_Z0 : Hid (∀ x ∈ F3, ∀ y ∈ F4_0, Reg.apart x y) := Lib.hid (apart_lt (fun y hy => (S0_3.out.lt y hy).2) (fun y hy => (m4_0.lt y hy).1))
  have NE_Z0_A0 := Lib.hid (fun y (hy : y ∈ F4_0) => (show y.b ≠ _ from by have h1 := lt_of_block V_A0_3.out; have h2 := (m4_0.lt y hy).1; intro e; rw [e] at h2; exact absurd h1 (Nat.not_lt.2 h2)))
  clear b4 m4_0
  obtain ⟨w5, hv5⟩ : ∃ v, v = (w4.alloc (.cells #[.slice x4_0_0 k4_0_0 c4_0_0, .int .i64 Y0.fNextName] 31)) := ⟨_, rfl⟩
  have b5 : Below w4.heap.size w4 w5 := by rw [hv5]; exact (Below.refl _ _).alloc (Nat.le_refl _) _
  have Z0_5 := Lib.hid (Z0_4.out.keep b5)
  have V_A0_5 := Lib.hid ((b5.block _ (lt_of_block V_A0_4.out)).trans V_A0_4.out)
  have B5 := Lib.hid (B4.out.trans (b5.mono B4.out.size))
  have V_Z0_5 : Hid (w5.heap[w4.heap.size]? = some (.cells #[.slice x4_0_0 k4_0_0 c4_0_0, .int .i64 Y0.fNextName] 31 (0, 0))) := Lib.hid (by rw [hv5]; exact heap_alloc_new _ _)
  have NE_Z0_Z0 : Hid (∀ y ∈ F4_0, y.b ≠ w4.heap.size) := Lib.hid (fun y hy => by have := (Z0_4.out.lt y hy).2; omega)
  clear b5
  clear cv3_A0_0 cv3_A0_1
  have cv5_A0_0 := box_cell V_A0_5.out 0 _ rfl
  rw [hv5] at cv5_A0_0
  have cv5_A0_1 := box_cell V_A0_5.out 1 _ rfl
  rw [hv5] at cv5_A0_1
  have cv5_Z0_0 := box_cell V_Z0_5.out 0 _ rfl
  rw [hv5] at cv5_Z0_0
  have cv5_Z0_1 := box_cell V_Z0_5.out 1 _ rfl
  rw [hv5] at cv5_Z0_1
  go_wp2_with fail
  rw [← hv5]
  clear hv5 cv5_A0_0 cv5_A0_1 cv5_Z0_0 cv5_Z0_1
  refine (toD_disk X0 a0_0 n0_0 c0_0 _ (HI0.out.keep B5.out) (by have := HA.out; omega)).mono ?_
  rintro e w6 ⟨g6_0, F6, rfl, m6_0, b6⟩
  have Z0_6 := Lib.hid (Z0_5.out.keep b6)
  have V_A0_6 := Lib.hid ((b6.block _ (lt_of_block V_A0_5.out)).trans V_A0_5.out)
  have V_Z0_6 := Lib.hid ((b6.block _ (lt_of_block V_Z0_5.out)).trans V_Z0_5.out)
  have B6 := Lib.hid (B5.out.trans (b6.mono B5.out.size))
  have P0_6 := Lib.hid m6_0
  have ap_Z0_P0 : Hid (∀ x ∈ F4_0, ∀ y ∈ F6, Reg.apart x y) := Lib.hid (apart_lt (fun y hy => (Z0_5.out.lt y hy).2) (fun y hy => (m6_0.lt y hy).1))
  have NE_P0_A0 := Lib.hid (fun y (hy : y ∈ F6) => (show y.b ≠ _ from by have h1 := lt_of_block V_A0_5.out; have h2 := (m6_0.lt y hy).1; intro e; rw [e] at h2; exact absurd h1 (Nat.not_lt.2 h2)))
  have NE_P0_Z0 := Lib.hid (fun y (hy : y ∈ F6) => (show y.b ≠ _ from by have h1 := lt_of_block V_Z0_5.out; have h2 := (m6_0.lt y hy).1; intro e; rw [e] at h2; exact absurd h1 (Nat.not_lt.2 h2)))
  clear b6 m6_0
  obtain ⟨w7, hv7⟩ : ∃ v, v = (w6.alloc (.cells #[.slice (some ⟨g6_0, 0, none⟩) n0_0 n0_0, .int .i64 X0.fNextName] 31)) := ⟨_, rfl⟩
  have b7 : Below w6.heap.size w6 w7 := by rw [hv7]; exact (Below.refl _ _).alloc (Nat.le_refl _) _
  have Z0_7 := Lib.hid (Z0_6.out.keep b7)
  have P0_7 := Lib.hid (P0_6.out.keep b7)
  have V_A0_7 := Lib.hid ((b7.block _ (lt_of_block V_A0_6.out)).trans V_A0_6.out)
  have V_Z0_7 := Lib.hid ((b7.block _ (lt_of_block V_Z0_6.out)).trans V_Z0_6.out)
  have B7 := Lib.hid (B6.out.trans (b7.mono B6.out.size))
  have V_P0_7 : Hid (w7.heap[w6.heap.size]? = some (.cells #[.slice (some ⟨g6_0, 0, none⟩) n0_0 n0_0, .int .i64 X0.fNextName] 31 (0, 0))) := Lib.hid (by rw [hv7]; exact heap_alloc_new _ _)
  have NE_Z0_P0 : Hid (∀ y ∈ F4_0, y.b ≠ w6.heap.size) := Lib.hid (fun y hy => by have := (Z0_6.out.lt y hy).2; omega)
  have NE_P0_P0 : Hid (∀ y ∈ F6, y.b ≠ w6.heap.size) := Lib.hid (fun y hy => by have := (P0_6.out.lt y hy).2; omega)
  clear b7
  have cv7_A0_0 := box_cell V_A0_7.out 0 _ rfl
  rw [hv7] at cv7_A0_0
  have cv7_A0_1 := box_cell V_A0_7.out 1 _ rfl
  rw [hv7] at cv7_A0_1
  have cv7_Z0_0 := box_cell V_Z0_7.out 0 _ rfl
  rw [hv7] at cv7_Z0_0
  have cv7_Z0_1 := box_cell V_Z0_7.out 1 _ rfl
  rw [hv7] at cv7_Z0_1
  have cv7_P0_0 := box_cell V_P0_7.out 0 _ rfl
  rw [hv7] at cv7_P0_0
  have cv7_P0_1 := box_cell V_P0_7.out 1 _ rfl
  rw [hv7] at cv7_P0_1
  go_wp2_with fail
  rw [← hv7]
  clear hv7 cv7_A0_0 cv7_A0_1 cv7_Z0_0 cv7_Z0_1 cv7_P0_0 cv7_P0_1
  refine (IP.out _ _ _ P0_7.out.inn).mono ?_
  rintro e w8 ⟨x8_0_0, k8_0_0, c8_0_0, F8_0, rfl, m8_0, b8⟩
  have Z0_8 := Lib.hid (Z0_7.out.keep b8)
  have P0_8 := Lib.hid (P0_7.out.keep b8)
  have V_A0_8 := Lib.hid ((b8.block _ (lt_of_block V_A0_7.out)).trans V_A0_7.out)
  have V_Z0_8 := Lib.hid ((b8.block _ (lt_of_block V_Z0_7.out)).trans V_Z0_7.out)
  have V_P0_8 := Lib.hid ((b8.block _ (lt_of_block V_P0_7.out)).trans V_P0_7.out)
  have B8 := Lib.hid (B7.out.trans (b8.mono B7.out.size))
  have G0_8 := Lib.hid m8_0
  have ap_Z0_G0 : Hid (∀ x ∈ F4_0, ∀ y ∈ F8_0, Reg.apart x y) := Lib.hid (apart_lt (fun y hy => (Z0_7.out.lt y hy).2) (fun y hy => (m8_0.lt y hy).1))
  have ap_P0_G0 : Hid (∀ x ∈ F6, ∀ y ∈ F8_0, Reg.apart x y) := Lib.hid (apart_lt (fun y hy => (P0_7.out.lt y hy).2) (fun y hy => (m8_0.lt y hy).1))
  have NE_G0_A0 := Lib.hid (fun y (hy : y ∈ F8_0) => (show y.b ≠ _ from by have h1 := lt_of_block V_A0_7.out; have h2 := (m8_0.lt y hy).1; intro e; rw [e] at h2; exact absurd h1 (Nat.not_lt.2 h2)))
  have NE_G0_Z0 := Lib.hid (fun y (hy : y ∈ F8_0) => (show y.b ≠ _ from by have h1 := lt_of_block V_Z0_7.out; have h2 := (m8_0.lt y hy).1; intro e; rw [e] at h2; exact absurd h1 (Nat.not_lt.2 h2)))
  have NE_G0_P0 := Lib.hid (fun y (hy : y ∈ F8_0) => (show y.b ≠ _ from by have h1 := lt_of_block V_P0_7.out; have h2 := (m8_0.lt y hy).1; intro e; rw [e] at h2; exact absurd h1 (Nat.not_lt.2 h2)))
  clear b8 m8_0
  obtain ⟨w9, hv9⟩ : ∃ v, v = (w8.alloc (.cells #[.slice x8_0_0 k8_0_0 c8_0_0, .int .i64 Y0.fNextName] 31)) := ⟨_, rfl⟩
  have b9 : Below w8.heap.size w8 w9 := by rw [hv9]; exact (Below.refl _ _).alloc (Nat.le_refl _) _
  have Z0_9 := Lib.hid (Z0_8.out.keep b9)
  have P0_9 := Lib.hid (P0_8.out.keep b9)
  have G0_9 := Lib.hid (G0_8.out.keep b9)
  have V_A0_9 := Lib.hid ((b9.block _ (lt_of_block V_A0_8.out)).trans V_A0_8.out)
  have V_Z0_9 := Lib.hid ((b9.block _ (lt_of_block V_Z0_8.out)).trans V_Z0_8.out)
  have V_P0_9 := Lib.hid ((b9.block _ (lt_of_block V_P0_8.out)).trans V_P0_8.out)
  have B9 := Lib.hid (B8.out.trans (b9.mono B8.out.size))
  have V_G0_9 : Hid (w9.heap[w8.heap.size]? = some (.cells #[.slice x8_0_0 k8_0_0 c8_0_0, .int .i64 Y0.fNextName] 31 (0, 0))) := Lib.hid (by rw [hv9]; exact heap_alloc_new _ _)
  have NE_Z0_G0 : Hid (∀ y ∈ F4_0, y.b ≠ w8.heap.size) := Lib.hid (fun y hy => by have := (Z0_8.out.lt y hy).2; omega)
  have NE_P0_G0 : Hid (∀ y ∈ F6, y.b ≠ w8.heap.size) := Lib.hid (fun y hy => by have := (P0_8.out.lt y hy).2; omega)
  have NE_G0_G0 : Hid (∀ y ∈ F8_0, y.b ≠ w8.heap.size) := Lib.hid (fun y hy => by have := (G0_8.out.lt y hy).2; omega)
  clear b9
  have cv9_A0_0 := box_cell V_A0_9.out 0 _ rfl
  rw [hv9] at cv9_A0_0
  have cv9_A0_1 := box_cell V_A0_9.out 1 _ rfl
  rw [hv9] at cv9_A0_1
  have cv9_Z0_0 := box_cell V_Z0_9.out 0 _ rfl
  rw [hv9] at cv9_Z0_0
  have cv9_Z0_1 := box_cell V_Z0_9.out 1 _ rfl
  rw [hv9] at cv9_Z0_1
  have cv9_P0_0 := box_cell V_P0_9.out 0 _ rfl
  rw [hv9] at cv9_P0_0
  have cv9_P0_1 := box_cell V_P0_9.out 1 _ rfl
  rw [hv9] at cv9_P0_1
  have cv9_G0_0 := box_cell V_G0_9.out 0 _ rfl
  rw [hv9] at cv9_G0_0
  have cv9_G0_1 := box_cell V_G0_9.out 1 _ rfl
  rw [hv9] at cv9_G0_1
  go_wp2_with fail
  rw [← hv9]
  clear hv9 cv9_A0_0 cv9_A0_1 cv9_Z0_0 cv9_Z0_1 cv9_P0_0 cv9_P0_1 cv9_G0_0 cv9_G0_1
  refine (eqD_disk Y0 Y0 x8_0_0 k8_0_0 c8_0_0 x4_0_0 k4_0_0 c4_0_0 _ G0_9.out.inn Z0_9.out.inn).mono ?_
  rintro e w10 ⟨rfl, b10⟩
  rw [decide_eq_true (rfl : Y0 = Y0)]
  have Z0_10 := Lib.hid (Z0_9.out.keep b10)
  have P0_10 := Lib.hid (P0_9.out.keep b10)
  have G0_10 := Lib.hid (G0_9.out.keep b10)
  have V_A0_10 := Lib.hid ((b10.block _ (lt_of_block V_A0_9.out)).trans V_A0_9.out)
  have V_Z0_10 := Lib.hid ((b10.block _ (lt_of_block V_Z0_9.out)).trans V_Z0_9.out)
  have V_P0_10 := Lib.hid ((b10.block _ (lt_of_block V_P0_9.out)).trans V_P0_9.out)
  have V_G0_10 := Lib.hid ((b10.block _ (lt_of_block V_G0_9.out)).trans V_G0_9.out)
  have B10 := Lib.hid (B9.out.trans (b10.mono B9.out.size))
  clear b10
  go_wp2_with fail
  have hcc : ∀ v', Below w10.heap.size w10 v' → v'.cell? ⟨w.heap.size, 0, none⟩ = some (.slice a0_0 n0_0 c0_0) ∧ v'.cell? ⟨w.heap.size, 1, none⟩ = some (.int .i64 X0.fNextName) ∧ v'.cell? ⟨w6.heap.size, 0, none⟩ = some (.slice (some ⟨g6_0, 0, none⟩) n0_0 n0_0) ∧ v'.cell? ⟨w6.heap.size, 1, none⟩ = some (.int .i64 X0.fNextName) := fun v' hv => ⟨box_cell ((hv.block _ (lt_of_block V_A0_10.out)).trans V_A0_10.out) 0 _ rfl, box_cell ((hv.block _ (lt_of_block V_A0_10.out)).trans V_A0_10.out) 1 _ rfl, box_cell ((hv.block _ (lt_of_block V_P0_10.out)).trans V_P0_10.out) 0 _ rfl, box_cell ((hv.block _ (lt_of_block V_P0_10.out)).trans V_P0_10.out) 1 _ rfl⟩
  have CP := Lib.hid fun v (hv : Below w10.heap.size w10 v) => (toD_disk X0 a0_0 n0_0 c0_0 v (HI0.out.keep (B10.out.trans (hv.mono B10.out.size))) (by have := HA.out; omega)).mono fun e v' (h : ∃ (g0 : Nat) (F : List Reg), e = .returned (.agg #[.slice (some ⟨g0, 0, none⟩) n0_0 n0_0, .int .i64 X0.fNextName]) ∧ diskRep.own v' v.heap.size X0 (((some ⟨g0, 0, none⟩), n0_0, n0_0), ()) F ∧ Below v.heap.size v v') => (show ∃ (g0 : Nat) (F : List Reg), e = .returned (.agg #[.slice (some ⟨g0, 0, none⟩) n0_0 n0_0, .int .i64 X0.fNextName]) ∧ Hid (diskRep.inn v' X0 (((some ⟨g0, 0, none⟩), n0_0, n0_0), ())) ∧ Below w10.heap.size w10 v' ∧ v'.cell? ⟨w.heap.size, 0, none⟩ = some (.slice a0_0 n0_0 c0_0) ∧ v'.cell? ⟨w.heap.size, 1, none⟩ = some (.int .i64 X0.fNextName) ∧ v'.cell? ⟨w6.heap.size, 0, none⟩ = some (.slice (some ⟨g6_0, 0, none⟩) n0_0 n0_0) ∧ v'.cell? ⟨w6.heap.size, 1, none⟩ = some (.int .i64 X0.fNextName) from by
    obtain ⟨g0, F, he, hm, hb⟩ := h
    have hv' := hv.trans (hb.mono hv.size)
    exact ⟨g0, F, he, Lib.hid hm.inn, hv', hcc v' hv'⟩)
  have CE := Lib.hid fun v g0 (hv : Below w10.heap.size w10 v) (hr : Hid (diskRep.inn v X0 (((some ⟨g0, 0, none⟩), n0_0, n0_0), ()))) => (eqD_disk X0 X0 (some ⟨g6_0, 0, none⟩) n0_0 n0_0 (some ⟨g0, 0, none⟩) n0_0 n0_0 v (P0_10.out.inn.keep hv) hr.out).mono fun e v' (h : e = .returned (.bool (decide (X0 = X0))) ∧ Below v.heap.size v v') => (show e = .returned (.bool true) ∧ Below w10.heap.size w10 v' from ⟨by rw [h.1, decide_eq_true rfl], hv.trans (h.2.mono hv.size)⟩)
  go_cut [49] from 45 to 49 (fun sx wx => ∃ v, v = wx ∧ sx = .bool false ∧ Hid (Below w10.heap.size w10 v))
  case first =>
    have hK : Below w10.heap.size w10 w10.drew := (Below.refl _ _).drew
    obtain ⟨c0, c1, c2, c3⟩ := hcc _ (Below.refl _ _)
    clear hcc
    go_region_with (first
      | (go_at_call 14; refine (CP.out _ (by assumption)).mono ?_; rintro e v ⟨g0, F, rfl, hrr, hK, c0, c1, c2, c3⟩)
      | (go_at_call 16; refine (CE.out _ _ (by assumption) (by assumption)).mono ?_; rintro e v ⟨rfl, hK⟩))
    all_goals go_wp2_with fail
    all_goals go_meet
    all_goals exact ⟨_, rfl, rfl, by assumption⟩
  case rest =>
    clear CP CE hcc
    obtain ⟨w11, rfl, rfl, hB11⟩ := hcut
    have b11 := hB11.out
    have Z0_11 := Lib.hid (Z0_10.out.keep b11)
    have P0_11 := Lib.hid (P0_10.out.keep b11)
    have G0_11 := Lib.hid (G0_10.out.keep b11)
    have V_A0_11 := Lib.hid ((b11.block _ (lt_of_block V_A0_10.out)).trans V_A0_10.out)
    have V_Z0_11 := Lib.hid ((b11.block _ (lt_of_block V_Z0_10.out)).trans V_Z0_10.out)
    have V_P0_11 := Lib.hid ((b11.block _ (lt_of_block V_P0_10.out)).trans V_P0_10.out)
    have V_G0_11 := Lib.hid ((b11.block _ (lt_of_block V_G0_10.out)).trans V_G0_10.out)
    have B11 := Lib.hid (B10.out.trans (b11.mono B10.out.size))
    clear b11 hB11
    have cv11_A0_0 := box_cell V_A0_11.out 0 _ rfl
    have cv11_A0_1 := box_cell V_A0_11.out 1 _ rfl
    have cv11_Z0_0 := box_cell V_Z0_11.out 0 _ rfl
    have cv11_Z0_1 := box_cell V_Z0_11.out 1 _ rfl
    have cv11_P0_0 := box_cell V_P0_11.out 0 _ rfl
    have cv11_P0_1 := box_cell V_P0_11.out 1 _ rfl
    have cv11_G0_0 := box_cell V_G0_11.out 0 _ rfl
    have cv11_G0_1 := box_cell V_G0_11.out 1 _ rfl
    go_wp2_with fail
    refine (mkD_disk _ X0 (some ⟨g6_0, 0, none⟩) n0_0 n0_0 _ (1 : Int) _ P0_11.out (by omega) (by have := HA.out; have := HY.out; have := HC0.out; omega)).mono ?_
    rintro e w12 ⟨rfl, m12, o12⟩
    rw [← HC0.out]
    have Z0_12 := Lib.hid (Z0_11.out.far o12 (apart_flip ap_Z0_P0.out))
    have G0_12 := Lib.hid (G0_11.out.far o12 ap_P0_G0.out)
    have V_A0_12 := Lib.hid ((o12.block _ (lt_of_block V_A0_11.out) NE_P0_A0.out).trans V_A0_11.out)
    have V_Z0_12 := Lib.hid ((o12.block _ (lt_of_block V_Z0_11.out) NE_P0_Z0.out).trans V_Z0_11.out)
    have V_P0_12 := Lib.hid ((o12.block _ (lt_of_block V_P0_11.out) NE_P0_P0.out).trans V_P0_11.out)
    have V_G0_12 := Lib.hid ((o12.block _ (lt_of_block V_G0_11.out) NE_P0_G0.out).trans V_G0_11.out)
    have B12 := Lib.hid (B11.out.trans (o12.below B11.out.size fun y hy => Nat.le_trans B5.out.size (P0_11.out.lt y hy).1))
    have P0_12 := Lib.hid m12
    clear m12 o12
    have hk : ¬ (((1 : Int) + (C0 : Int)) < 0) := by omega
    clear cv11_A0_0 cv11_A0_1 cv11_Z0_0 cv11_Z0_1 cv11_P0_0 cv11_P0_1 cv11_G0_0 cv11_G0_1
    have cv12_A0_0 := box_cell V_A0_12.out 0 _ rfl
    have cv12_A0_1 := box_cell V_A0_12.out 1 _ rfl
    have cv12_Z0_0 := box_cell V_Z0_12.out 0 _ rfl
    have cv12_Z0_1 := box_cell V_Z0_12.out 1 _ rfl
    have cv12_G0_0 := box_cell V_G0_12.out 0 _ rfl
    have cv12_G0_1 := box_cell V_G0_12.out 1 _ rfl
    go_wp2_with fail
    refine (eqD_disk Y0 Y0 x8_0_0 k8_0_0 c8_0_0 x4_0_0 k4_0_0 c4_0_0 _ G0_12.out.inn Z0_12.out.inn).mono ?_
    rintro e w13 ⟨rfl, b13⟩
    rw [decide_eq_true (rfl : Y0 = Y0)]
    have Z0_13 := Lib.hid (Z0_12.out.keep b13)
    have G0_13 := Lib.hid (G0_12.out.keep b13)
    have V_A0_13 := Lib.hid ((b13.block _ (lt_of_block V_A0_12.out)).trans V_A0_12.out)
    have V_Z0_13 := Lib.hid ((b13.block _ (lt_of_block V_Z0_12.out)).trans V_Z0_12.out)
    have V_G0_13 := Lib.hid ((b13.block _ (lt_of_block V_G0_12.out)).trans V_G0_12.out)
    have B13 := Lib.hid (B12.out.trans (b13.mono B12.out.size))
    clear b13
    clear cv12_A0_0 cv12_A0_1 cv12_Z0_0 cv12_Z0_1 cv12_G0_0 cv12_G0_1
    have cv13_A0_0 := box_cell V_A0_13.out 0 _ rfl
    have cv13_A0_1 := box_cell V_A0_13.out 1 _ rfl
    have cv13_Z0_0 := box_cell V_Z0_13.out 0 _ rfl
    have cv13_Z0_1 := box_cell V_Z0_13.out 1 _ rfl
    have cv13_G0_0 := box_cell V_G0_13.out 0 _ rfl
    have cv13_G0_1 := box_cell V_G0_13.out 1 _ rfl
    go_wp2_with fail
    refine (mkD_disk _ Y0 x8_0_0 k8_0_0 c8_0_0 _ (1 : Int) _ G0_13.out (by omega) (by have := HA.out; have := HY.out; have := HD0.out; omega)).mono ?_
    rintro e w14 ⟨rfl, m14, o14⟩
    rw [← HD0.out]
    have Z0_14 := Lib.hid (Z0_13.out.far o14 (apart_flip ap_Z0_G0.out))
    have V_A0_14 := Lib.hid ((o14.block _ (lt_of_block V_A0_13.out) NE_G0_A0.out).trans V_A0_13.out)
    have V_Z0_14 := Lib.hid ((o14.block _ (lt_of_block V_Z0_13.out) NE_G0_Z0.out).trans V_Z0_13.out)
    have V_G0_14 := Lib.hid ((o14.block _ (lt_of_block V_G0_13.out) NE_G0_G0.out).trans V_G0_13.out)
    have B14 := Lib.hid (B13.out.trans (o14.below B13.out.size fun y hy => Nat.le_trans B7.out.size (G0_13.out.lt y hy).1))
    have G0_14 := Lib.hid m14
    clear m14 o14
    clear cv13_A0_0 cv13_A0_1 cv13_Z0_0 cv13_Z0_1 cv13_G0_0 cv13_G0_1
    have cv14_A0_0 := box_cell V_A0_14.out 0 _ rfl
    have cv14_A0_1 := box_cell V_A0_14.out 1 _ rfl
    have cv14_Z0_0 := box_cell V_Z0_14.out 0 _ rfl
    have cv14_Z0_1 := box_cell V_Z0_14.out 1 _ rfl
    have cv14_G0_0 := box_cell V_G0_14.out 0 _ rfl
    have cv14_G0_1 := box_cell V_G0_14.out 1 _ rfl
    go_wp2_with fail
    refine (hdD_disk Y0 x8_0_0 k8_0_0 c8_0_0 (1 : Int) _ G0_14.out.inn (by omega) (by have := HA.out; have := HY.out; have := HD0.out; omega)).mono ?_
    rintro e w15 ⟨rfl, b15⟩
    rw [← HD0.out]
    have Z0_15 := Lib.hid (Z0_14.out.keep b15)
    have G0_15 := Lib.hid (G0_14.out.keep b15)
    have V_A0_15 := Lib.hid ((b15.block _ (lt_of_block V_A0_14.out)).trans V_A0_14.out)
    have V_Z0_15 := Lib.hid ((b15.block _ (lt_of_block V_Z0_14.out)).trans V_Z0_14.out)
    have V_G0_15 := Lib.hid ((b15.block _ (lt_of_block V_G0_14.out)).trans V_G0_14.out)
    have B15 := Lib.hid (B14.out.trans (b15.mono B14.out.size))
    clear b15
    have hq0 : ¬ (((1 : Int) + (D0 : Int)) < 0) := by omega
    clear cv14_A0_0 cv14_A0_1 cv14_Z0_0 cv14_Z0_1 cv14_G0_0 cv14_G0_1
    have cv15_A0_0 := box_cell V_A0_15.out 0 _ rfl
    have cv15_A0_1 := box_cell V_A0_15.out 1 _ rfl
    have cv15_Z0_0 := box_cell V_Z0_15.out 0 _ rfl
    have cv15_Z0_1 := box_cell V_Z0_15.out 1 _ rfl
    have cv15_G0_0 := box_cell V_G0_15.out 0 _ rfl
    have cv15_G0_1 := box_cell V_G0_15.out 1 _ rfl
    go_wp2_with fail
    refine (toD_disk X0 a0_0 n0_0 c0_0 _ (HI0.out.keep B15.out) (by have := HA.out; omega)).mono ?_
    rintro e w16 ⟨g16_0, F16, rfl, m16_0, b16⟩
    have Z0_16 := Lib.hid (Z0_15.out.keep b16)
    have G0_16 := Lib.hid (G0_15.out.keep b16)
    have V_A0_16 := Lib.hid ((b16.block _ (lt_of_block V_A0_15.out)).trans V_A0_15.out)
    have V_Z0_16 := Lib.hid ((b16.block _ (lt_of_block V_Z0_15.out)).trans V_Z0_15.out)
    have V_G0_16 := Lib.hid ((b16.block _ (lt_of_block V_G0_15.out)).trans V_G0_15.out)
    have B16 := Lib.hid (B15.out.trans (b16.mono B15.out.size))
    have T0_16 := Lib.hid m16_0
    have ap_Z0_T0 : Hid (∀ x ∈ F4_0, ∀ y ∈ F16, Reg.apart x y) := Lib.hid (apart_lt (fun y hy => (Z0_15.out.lt y hy).2) (fun y hy => (m16_0.lt y hy).1))
    have ap_G0_T0 : Hid (∀ x ∈ F8_0, ∀ y ∈ F16, Reg.apart x y) := Lib.hid (apart_lt (fun y hy => (G0_15.out.lt y hy).2) (fun y hy => (m16_0.lt y hy).1))
    have NE_T0_A0 := Lib.hid (fun y (hy : y ∈ F16) => (show y.b ≠ _ from by have h1 := lt_of_block V_A0_15.out; have h2 := (m16_0.lt y hy).1; intro e; rw [e] at h2; exact absurd h1 (Nat.not_lt.2 h2)))
    have NE_T0_Z0 := Lib.hid (fun y (hy : y ∈ F16) => (show y.b ≠ _ from by have h1 := lt_of_block V_Z0_15.out; have h2 := (m16_0.lt y hy).1; intro e; rw [e] at h2; exact absurd h1 (Nat.not_lt.2 h2)))
    have NE_T0_G0 := Lib.hid (fun y (hy : y ∈ F16) => (show y.b ≠ _ from by have h1 := lt_of_block V_G0_15.out; have h2 := (m16_0.lt y hy).1; intro e; rw [e] at h2; exact absurd h1 (Nat.not_lt.2 h2)))
    clear b16 m16_0
    clear cv15_A0_0 cv15_A0_1 cv15_Z0_0 cv15_Z0_1 cv15_G0_0 cv15_G0_1
    have cv16_A0_0 := box_cell V_A0_16.out 0 _ rfl
    have cv16_A0_1 := box_cell V_A0_16.out 1 _ rfl
    have cv16_Z0_0 := box_cell V_Z0_16.out 0 _ rfl
    have cv16_Z0_1 := box_cell V_Z0_16.out 1 _ rfl
    have cv16_G0_0 := box_cell V_G0_16.out 0 _ rfl
    have cv16_G0_1 := box_cell V_G0_16.out 1 _ rfl
    go_wp2_with fail
    refine (IP.out _ _ _ T0_16.out.inn).mono ?_
    rintro e w17 ⟨x17_0_0, k17_0_0, c17_0_0, F17_0, rfl, m17_0, b17⟩
    have Z0_17 := Lib.hid (Z0_16.out.keep b17)
    have G0_17 := Lib.hid (G0_16.out.keep b17)
    have T0_17 := Lib.hid (T0_16.out.keep b17)
    have V_A0_17 := Lib.hid ((b17.block _ (lt_of_block V_A0_16.out)).trans V_A0_16.out)
    have V_Z0_17 := Lib.hid ((b17.block _ (lt_of_block V_Z0_16.out)).trans V_Z0_16.out)
    have V_G0_17 := Lib.hid ((b17.block _ (lt_of_block V_G0_16.out)).trans V_G0_16.out)
    have B17 := Lib.hid (B16.out.trans (b17.mono B16.out.size))
    have H0_17 := Lib.hid m17_0
    have ap_Z0_H0 : Hid (∀ x ∈ F4_0, ∀ y ∈ F17_0, Reg.apart x y) := Lib.hid (apart_lt (fun y hy => (Z0_16.out.lt y hy).2) (fun y hy => (m17_0.lt y hy).1))
    have ap_G0_H0 : Hid (∀ x ∈ F8_0, ∀ y ∈ F17_0, Reg.apart x y) := Lib.hid (apart_lt (fun y hy => (G0_16.out.lt y hy).2) (fun y hy => (m17_0.lt y hy).1))
    have ap_T0_H0 : Hid (∀ x ∈ F16, ∀ y ∈ F17_0, Reg.apart x y) := Lib.hid (apart_lt (fun y hy => (T0_16.out.lt y hy).2) (fun y hy => (m17_0.lt y hy).1))
    have NE_H0_A0 := Lib.hid (fun y (hy : y ∈ F17_0) => (show y.b ≠ _ from by have h1 := lt_of_block V_A0_16.out; have h2 := (m17_0.lt y hy).1; intro e; rw [e] at h2; exact absurd h1 (Nat.not_lt.2 h2)))
    have NE_H0_Z0 := Lib.hid (fun y (hy : y ∈ F17_0) => (show y.b ≠ _ from by have h1 := lt_of_block V_Z0_16.out; have h2 := (m17_0.lt y hy).1; intro e; rw [e] at h2; exact absurd h1 (Nat.not_lt.2 h2)))
    have NE_H0_G0 := Lib.hid (fun y (hy : y ∈ F17_0) => (show y.b ≠ _ from by have h1 := lt_of_block V_G0_16.out; have h2 := (m17_0.lt y hy).1; intro e; rw [e] at h2; exact absurd h1 (Nat.not_lt.2 h2)))
    clear b17 m17_0
    obtain ⟨w18, hv18⟩ : ∃ v, v = (w17.alloc (.cells #[.slice x17_0_0 k17_0_0 c17_0_0, .int .i64 Y0.fNextName] 31)) := ⟨_, rfl⟩
    have b18 : Below w17.heap.size w17 w18 := by rw [hv18]; exact (Below.refl _ _).alloc (Nat.le_refl _) _
    have Z0_18 := Lib.hid (Z0_17.out.keep b18)
    have G0_18 := Lib.hid (G0_17.out.keep b18)
    have H0_18 := Lib.hid (H0_17.out.keep b18)
    have V_A0_18 := Lib.hid ((b18.block _ (lt_of_block V_A0_17.out)).trans V_A0_17.out)
    have V_Z0_18 := Lib.hid ((b18.block _ (lt_of_block V_Z0_17.out)).trans V_Z0_17.out)
    have V_G0_18 := Lib.hid ((b18.block _ (lt_of_block V_G0_17.out)).trans V_G0_17.out)
    have B18 := Lib.hid (B17.out.trans (b18.mono B17.out.size))
    have V_H0_18 : Hid (w18.heap[w17.heap.size]? = some (.cells #[.slice x17_0_0 k17_0_0 c17_0_0, .int .i64 Y0.fNextName] 31 (0, 0))) := Lib.hid (by rw [hv18]; exact heap_alloc_new _ _)
    have NE_Z0_H0 : Hid (∀ y ∈ F4_0, y.b ≠ w17.heap.size) := Lib.hid (fun y hy => by have := (Z0_17.out.lt y hy).2; omega)
    have NE_G0_H0 : Hid (∀ y ∈ F8_0, y.b ≠ w17.heap.size) := Lib.hid (fun y hy => by have := (G0_17.out.lt y hy).2; omega)
    have NE_H0_H0 : Hid (∀ y ∈ F17_0, y.b ≠ w17.heap.size) := Lib.hid (fun y hy => by have := (H0_17.out.lt y hy).2; omega)
    clear b18
    clear cv16_A0_0 cv16_A0_1 cv16_Z0_0 cv16_Z0_1 cv16_G0_0 cv16_G0_1
    have cv18_A0_0 := box_cell V_A0_18.out 0 _ rfl
    rw [hv18] at cv18_A0_0
    have cv18_A0_1 := box_cell V_A0_18.out 1 _ rfl
    rw [hv18] at cv18_A0_1
    have cv18_Z0_0 := box_cell V_Z0_18.out 0 _ rfl
    rw [hv18] at cv18_Z0_0
    have cv18_Z0_1 := box_cell V_Z0_18.out 1 _ rfl
    rw [hv18] at cv18_Z0_1
    have cv18_G0_0 := box_cell V_G0_18.out 0 _ rfl
    rw [hv18] at cv18_G0_0
    have cv18_G0_1 := box_cell V_G0_18.out 1 _ rfl
    rw [hv18] at cv18_G0_1
    have cv18_H0_0 := box_cell V_H0_18.out 0 _ rfl
    rw [hv18] at cv18_H0_0
    have cv18_H0_1 := box_cell V_H0_18.out 1 _ rfl
    rw [hv18] at cv18_H0_1
    go_wp2_with fail
    rw [← hv18]
    clear hv18 cv18_A0_0 cv18_A0_1 cv18_Z0_0 cv18_Z0_1 cv18_G0_0 cv18_G0_1 cv18_H0_0 cv18_H0_1
    refine (eqD_disk Y0 Y0 x17_0_0 k17_0_0 c17_0_0 x4_0_0 k4_0_0 c4_0_0 _ H0_18.out.inn Z0_18.out.inn).mono ?_
    rintro e w19 ⟨rfl, b19⟩
    rw [decide_eq_true (rfl : Y0 = Y0)]
    have Z0_19 := Lib.hid (Z0_18.out.keep b19)
    have G0_19 := Lib.hid (G0_18.out.keep b19)
    have H0_19 := Lib.hid (H0_18.out.keep b19)
    have V_A0_19 := Lib.hid ((b19.block _ (lt_of_block V_A0_18.out)).trans V_A0_18.out)
    have V_Z0_19 := Lib.hid ((b19.block _ (lt_of_block V_Z0_18.out)).trans V_Z0_18.out)
    have V_G0_19 := Lib.hid ((b19.block _ (lt_of_block V_G0_18.out)).trans V_G0_18.out)
    have V_H0_19 := Lib.hid ((b19.block _ (lt_of_block V_H0_18.out)).trans V_H0_18.out)
    have B19 := Lib.hid (B18.out.trans (b19.mono B18.out.size))
    clear b19
    have cv19_A0_0 := box_cell V_A0_19.out 0 _ rfl
    have cv19_A0_1 := box_cell V_A0_19.out 1 _ rfl
    have cv19_Z0_0 := box_cell V_Z0_19.out 0 _ rfl
    have cv19_Z0_1 := box_cell V_Z0_19.out 1 _ rfl
    have cv19_G0_0 := box_cell V_G0_19.out 0 _ rfl
    have cv19_G0_1 := box_cell V_G0_19.out 1 _ rfl
    have cv19_H0_0 := box_cell V_H0_19.out 0 _ rfl
    have cv19_H0_1 := box_cell V_H0_19.out 1 _ rfl
    go_wp2_with fail
    refine (hdD_disk Y0 x8_0_0 k8_0_0 c8_0_0 (1 : Int) _ G0_19.out.inn (by omega) (by have := HA.out; have := HY.out; have := HD0.out; omega)).mono ?_
    rintro e w20 ⟨rfl, b20⟩
    rw [← HD0.out]
    have Z0_20 := Lib.hid (Z0_19.out.keep b20)
    have G0_20 := Lib.hid (G0_19.out.keep b20)
    have H0_20 := Lib.hid (H0_19.out.keep b20)
    have V_A0_20 := Lib.hid ((b20.block _ (lt_of_block V_A0_19.out)).trans V_A0_19.out)
    have V_Z0_20 := Lib.hid ((b20.block _ (lt_of_block V_Z0_19.out)).trans V_Z0_19.out)
    have V_G0_20 := Lib.hid ((b20.block _ (lt_of_block V_G0_19.out)).trans V_G0_19.out)
    have V_H0_20 := Lib.hid ((b20.block _ (lt_of_block V_H0_19.out)).trans V_H0_19.out)
    have B20 := Lib.hid (B19.out.trans (b20.mono B19.out.size))
    clear b20
    clear cv19_A0_0 cv19_A0_1 cv19_Z0_0 cv19_Z0_1 cv19_G0_0 cv19_G0_1 cv19_H0_0 cv19_H0_1
    have cv20_A0_0 := box_cell V_A0_20.out 0 _ rfl
    have cv20_A0_1 := box_cell V_A0_20.out 1 _ rfl
    have cv20_Z0_0 := box_cell V_Z0_20.out 0 _ rfl
    have cv20_Z0_1 := box_cell V_Z0_20.out 1 _ rfl
    have cv20_G0_0 := box_cell V_G0_20.out 0 _ rfl
    have cv20_G0_1 := box_cell V_G0_20.out 1 _ rfl
    have cv20_H0_0 := box_cell V_H0_20.out 0 _ rfl
    have cv20_H0_1 := box_cell V_H0_20.out 1 _ rfl
    go_wp2_with fail
    go_ret
    exact ⟨rfl, B20.out⟩

/-! ### The row's step -/
theorem own : ownKnob Try.prog.godebug = none := by kernel_rfl
theorem laidOut : laidOutB Try.prog = true := by kernel_rfl
set_option maxRecDepth 100000 in
theorem lifted (os : Os) (started : os.Started) (H : Type) (enc : TypeId × Value → H) :
    ReturnsInHanded {} Try.checked os 7 .any (Rows.fnExactDeleteFileSpec.pre6 enc Try.prog Try.f7 Rows.fnExactDeleteFileRow.domain false) (Rows.fnExactDeleteFileSpec.post enc Try.prog Try.f7 false true false false) := by
  refine returnsInHanded_of_change (C := Try.checked) own started (by kernel_rfl) Try.func7
    (ChangeSpec.witness6 (enc := enc) (C := Try.checked) false ⟨#[], #[.agg #[.slice none 0 0, .int .i64 0], .int .i64 0], []⟩ 8 (by kernel_rfl) (by kernel_rfl) (by kernel_rfl) (by kernel_rfl)) ?_
  intro W base args ds gs before hval0 hW hcnd hsz
  have hval : ∀ (j : Nat) t v, Try.f7.params[j]? = some t → args[j]? = some v → Value.okWide Try.prog W .any base t v := hval0
  have hW' := hW
  obtain ⟨p, q, hA0, hV, rfl, hfz, hnd⟩ := hW
  have hA : DataW.TrodAll enc Try.prog W 0 (fun _ => true) true Try.f7.params.toList args.toList ds p := hA0
  rw [Try.params7] at hA hval
  obtain ⟨v0, vs0, d0, ds0, p0, q0, hargs, rfl, rfl, h0, r0⟩ := trodAll_cons hA
  obtain ⟨v1, vs1, d1, ds1, p1, q1, rfl, rfl, rfl, h1, r1⟩ := trodAll_cons r0
  obtain ⟨rfl, rfl, rfl⟩ := trodAll_nil r1
  obtain rfl : args = #[v0, v1] := by cases args; simp_all
  obtain ⟨rfl, rfl⟩ := trodVars_none hV
  have k0 := h0
  have lt0 : ∀ x ∈ p0, x.block < W.heap.size := by obtain ⟨m, hm⟩ := k0; exact DataW.trod_lt m _ _ _ hm
  obtain ⟨a0_0, n0_0, c0_0, L0, rfl, w0⟩ := openD_disk (hval 0 26 v0 rfl rfl) h0
  obtain ⟨a1, rfl, rfl, rfl, w1⟩ := open_int Try.underlying3 (hval 1 3 v1 rfl rfl) h1
  clear hA0 hval0
  refine (walk a0_0 n0_0 c0_0 L0 W w0 a1 w1).mono fun e W' ⟨he, bel⟩ => ?_
  subst he
  exact ⟨_, rfl, _, _, _, [], _, [], hW', trodAll_mk1 (shut_bool Try.underlying4 _), (trodAll_cons_mk (Below.trod laidOut (by kernel_rfl) (of_decide_eq_true (by kernel_rfl)) k0 bel lt0) (trodAll_cons_mk (shut_int Try.underlying3 w1) trodAll_mk0)), rfl, bel.frame _, fun h => by cases h⟩
theorem over : Rows.fnExactDeleteFileRow.holds Try.pinned (OpenSpec.ofChange Rows.fnExactDeleteFileSpec) :=
  OpenClaim.holds_of_wide 7 Try.f7 rfl rfl rfl rfl rfl rfl rfl ⟨rfl, rfl, rfl, rfl, rfl⟩ rfl rfl rfl rfl rfl (by kernel_rfl) Try.func7 (by kernel_rfl)
    (of_decide_eq_true (by kernel_rfl)) (by unfold Func.isWrapper; first | (rw [if_pos (by decide +kernel)]; kernel_rfl) | (rw [if_neg (by decide +kernel)]; exact ⟨rfl, rfl⟩))
    (fun os started H enc _ => lifted os started H enc)
/-- The statement. -/
theorem proved : Rows.FnExactDeleteFileSaid := over
#print axioms proved
end Go.Proofs.Ythbifibnnhikjaa.FnExactDeleteFile
