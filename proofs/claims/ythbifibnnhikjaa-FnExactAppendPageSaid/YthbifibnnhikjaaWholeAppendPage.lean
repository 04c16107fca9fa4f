/- Proved: for every disk, name and page the law FnExactAppendPage returns true: the program's AppendPage answers as the reference's, leaves its argument alone, and answers in memory of its own that a later call does not touch (the law itself answers true above 2^20 elements). No condition. -/
import Derived.Test.YthbifibnnhikjaaPartSixd
import Derived.Test.YthbifibnnhikjaaRows
import Derived.Deep.CutRange
import Derived.Deep.RegionWith
import Derived.ProofKit
import Derived.OpenShut
import Derived.ShutString
import Derived.ChangeOld
namespace Go.Proofs.Ythbifibnnhikjaa.FnExactAppendPage
open Go Go.ChangeShapes Go.WideShapes Go.ChangeAt Go.RowKit
open Go.ChangeMaps (open_string shut_string)
set_option linter.unusedVariables false

def Ans (Y0 : DiskD) (Y1 : Bool) (v : World) (e : Ending) (v' : World) : Prop := ∃ (x0_0 : Option Addr) (k0_0 c0_0 : Nat) (F0 : List Reg), e = .returned (.tuple #[.agg #[.slice x0_0 k0_0 c0_0, .int .i64 Y0.fNextName], .bool Y1]) ∧ diskRep.own v' v.heap.size Y0 ((x0_0, k0_0, c0_0), ()) F0 ∧ Below v.heap.size v v'
theorem ans_of {Y0 : DiskD} {Y1 : Bool} {v : World} {e : Ending} {v' : World} (h : DiskAnd Y0 [.bool Y1] v e v') : Ans Y0 Y1 v e v' := by
  obtain ⟨a, n, c, G, rfl, hb, hl⟩ := h
  obtain ⟨F, hF, -⟩ := diskB.blk_own hb
  exact ⟨a, n, c, F, rfl, hF, hl⟩
def Cut (Y0 : DiskD) (Y1 : Bool) (w : World) (s0 s1 : Value) (v : World) : Prop := ∃ (b0 : Nat) (x0_0 : Option Addr) (k0_0 c0_0 : Nat) (F0 : List Reg), s0 = .pointer (some ⟨b0, 0, none⟩) ∧ s1 = .bool Y1 ∧ v.heap[b0]? = some (.cells #[.slice x0_0 k0_0 c0_0, .int .i64 Y0.fNextName] 31 (0, 0)) ∧ w.heap.size ≤ b0 ∧ diskRep.own v w.heap.size Y0 ((x0_0, k0_0, c0_0), ()) F0 ∧ (∀ y ∈ F0, y.b ≠ b0) ∧ Below w.heap.size w v
theorem cut_fin (Y0 : DiskD) (Y1 : Bool) {w v : World} {x0_0 : Option Addr} {k0_0 c0_0 : Nat} {F0 : List Reg} (m0 : Hid (diskRep.own v w.heap.size Y0 ((x0_0, k0_0, c0_0), ()) F0)) (hb : Below w.heap.size w v) : Cut Y0 Y1 w (.pointer (some ⟨v.heap.size, 0, none⟩)) (.bool Y1) (v.alloc (.cells #[.slice x0_0 k0_0 c0_0, .int .i64 Y0.fNextName] 31)) := by
  obtain ⟨u, hu⟩ : ∃ u, u = (v.alloc (.cells #[.slice x0_0 k0_0 c0_0, .int .i64 Y0.fNextName] 31)) := ⟨_, rfl⟩
  rw [← hu]
  have kb : Below v.heap.size v u := by rw [hu]; exact (Below.refl _ _).alloc (Nat.le_refl _) _
  have hs := hb.size
  exact ⟨_, _, _, _, _, rfl, rfl, (by rw [hu]; exact heap_alloc_new _ _), (by omega), m0.out.keep kb, (fun y hy => by have := (m0.out.lt y hy).2; omega), hb.trans (kb.mono hs)⟩
theorem cut_put (Y0 : DiskD) (Y1 : Bool) {w v : World} {x0_0 : Option Addr} {k0_0 c0_0 : Nat} {F0 : List Reg} (m0 : Hid (diskRep.own v w.heap.size Y0 ((x0_0, k0_0, c0_0), ()) F0)) (hb : Below w.heap.size w v) {b : Nat} (kb : v.heap[b]? = some (.cells #[.slice none 0 0, .int .i64 0] 31 (0, 0))) (lb : w.heap.size ≤ b) (ne0 : ∀ y ∈ F0, y.b ≠ b) : Cut Y0 Y1 w (.pointer (some ⟨b, 0, none⟩)) (.bool Y1) ((v.setCell ⟨b, 0, none⟩ (.slice x0_0 k0_0 c0_0)).setCell ⟨b, 1, none⟩ (.int .i64 Y0.fNextName)) := by
  exact ⟨b, _, _, _, _, rfl, rfl, (blk_put (blk_put kb rfl) rfl), lb, diskRep.own_stay m0.out (Stay.set (Stay.set (Stay.refl _ _) _ ne0) _ ne0), ne0, (Below.setCell (Below.setCell hb lb _) lb _)⟩
theorem frozen_at {v : World} {g : Nat} {cs : Array Value} {T : TypeId} (h : v.heap[g]? = some (.cells cs T (0, 0))) (j : Nat) : v.frozen? ⟨g, j, none⟩ = false := by simp [World.frozen?, h]
theorem ne_new {u : World} {o : Obj} {n : Nat} (h : (u.alloc o).heap.size ≤ n) : n ≠ u.heap.size := by simp at h; omega
theorem ne_old {v : World} {b n : Nat} {o : Obj} (hb : v.heap[b]? = some o) (h : v.heap.size ≤ n) : n ≠ b := by have := lt_of_block hb; omega
set_option maxRecDepth 100000 in
set_option maxHeartbeats 20000000 in
theorem walk (a0_0 : Option Addr) (n0_0 c0_0 : Nat) (X0 : DiskD) (w : World) (h0 : diskRep.inn w X0 ((a0_0, n0_0, c0_0), ())) (s1 : Int) (r1 : (Lit.int .i64 s1).wf = true) (a2_0 : Option Addr) (n2_0 c2_0 : Nat) (X2 : List R) (h2 : pageRep.inn w X2 (a2_0, n2_0, c2_0)) : Calls Try.prog 6 #[.agg #[.slice a0_0 n0_0 c0_0, .int .i64 X0.fNextName], .int .i64 s1, .agg #[.slice a2_0 n2_0 c2_0]] w fun e w' => e = .returned (.bool true) ∧ Below w.heap.size w w' := by
  have HI0 := Lib.hid h0
  clear h0
  have HI2 := Lib.hid h2
  clear h2
  obtain ⟨z0, hz0⟩ : ∃ z, z = szR 1048576 (wtDisk X0) := ⟨_, rfl⟩
  have HZ0 := Lib.hid hz0
  clear hz0
  obtain ⟨z2, hz2⟩ : ∃ z, z = szR z0 (wtPage X2) := ⟨_, rfl⟩
  have HZ2 := Lib.hid hz2
  clear hz2
  have B0 := Lib.hid (Below.refl w.heap.size w)
  obtain ⟨w1, hv1⟩ : ∃ v, v = ((w.alloc (.cells #[.slice a0_0 n0_0 c0_0, .int .i64 X0.fNextName] 26)).alloc (.cells #[.slice a2_0 n2_0 c2_0] 40)) := ⟨_, rfl⟩
  have bb1 := boxes2 _ _ hv1
  have b1 : Below w.heap.size w w1 := bb1.1
  have B1 := Lib.hid (B0.out.trans (b1.mono B0.out.size))
  have V_A0_1 : Hid (w1.heap[w.heap.size]? = some (.cells #[.slice a0_0 n0_0 c0_0, .int .i64 X0.fNextName] 26 (0, 0))) := Lib.hid bb1.2.1
  have V_A2_1 : Hid (w1.heap[w.heap.size + 1]? = some (.cells #[.slice a2_0 n2_0 c2_0] 40 (0, 0))) := Lib.hid bb1.2.2
  clear b1 bb1
  go_enter Try.func6, Try.ntmps6
  have cv1_A0_0 := box_cell V_A0_1.out 0 _ rfl
  rw [hv1] at cv1_A0_0
  have cv1_A0_1 := box_cell V_A0_1.out 1 _ rfl
  rw [hv1] at cv1_A0_1
  have cv1_A2_0 := box_cell V_A2_1.out 0 _ rfl
  rw [hv1] at cv1_A2_0
  go_wp2_with fail
  rw [← hv1]
  clear hv1 cv1_A0_0 cv1_A0_1 cv1_A2_0
  refine (szD_disk X0 a0_0 n0_0 c0_0 1048576 _ (HI0.out.keep B1.out) (by omega) (by omega)).mono ?_
  rintro e w2 ⟨rfl, b2⟩
  rw [← HZ0.out]
  have V_A0_2 := Lib.hid ((b2.block _ (lt_of_block V_A0_1.out)).trans V_A0_1.out)
  have V_A2_2 := Lib.hid ((b2.block _ (lt_of_block V_A2_1.out)).trans V_A2_1.out)
  have B2 := Lib.hid (B1.out.trans (b2.mono B1.out.size))
  clear b2
  by_cases hz0 : z0 < 0
  · go_wp2_with fail
    go_ret
    exact ⟨rfl, B2.out⟩
  have U0 := Lib.hid (sz_step HZ0.out (by omega))
  have p0 : z0 ≤ 1048576 := by have := U0.out; omega
  have cv2_A0_0 := box_cell V_A0_2.out 0 _ rfl
  have cv2_A0_1 := box_cell V_A0_2.out 1 _ rfl
  have cv2_A2_0 := box_cell V_A2_2.out 0 _ rfl
  go_wp2_with fail
  refine (szD_page X2 a2_0 n2_0 c2_0 z0 _ (HI2.out.keep B2.out) (by omega) (by omega)).mono ?_
  rintro e w3 ⟨rfl, b3⟩
  rw [← HZ2.out]
  have V_A0_3 := Lib.hid ((b3.block _ (lt_of_block V_A0_2.out)).trans V_A0_2.out)
  have V_A2_3 := Lib.hid ((b3.block _ (lt_of_block V_A2_2.out)).trans V_A2_2.out)
  have B3 := Lib.hid (B2.out.trans (b3.mono B2.out.size))
  clear b3
  by_cases hz2 : z2 < 0
  · go_wp2_with fail
    go_ret
    exact ⟨rfl, B3.out⟩
  have U2 := Lib.hid (sz_step HZ2.out (by omega))
  have HA : Hid (wtDisk X0 ≤ 1048576 ∧ wtPage X2 ≤ 1048576 ∧ diskMkV.cnt X0 ≤ 64 * wtDisk X0 ∧ pageMkV.cnt X2 ≤ 64 * wtPage X2) := Lib.hid ⟨by have := U0.out; have := U2.out; omega, by have := U0.out; have := U2.out; omega, cntV_disk X0, cntV_page X2⟩
  clear U0
  clear U2
  have SP := Lib.hid fun (p0_0 : Option Addr) (d0_0 : Nat) (p2_0 : Option Addr) (d2_0 : Nat) (v : World) (h0 : diskRep.inn v X0 ((p0_0, n0_0, d0_0), ())) (h2 : pageRep.inn v X2 (p2_0, n2_0, d2_0)) => (show Calls Try.prog 22 #[.agg #[.slice p0_0 n0_0 d0_0, .int .i64 X0.fNextName], .int .i64 s1, .agg #[.slice p2_0 n2_0 d2_0]] v (Ans ((DiskD.appendTo X0 s1 X2).getD X0) ((DiskD.appendTo X0 s1 X2).isSome) v) from (sappend p0_0 n0_0 d0_0 X0 s1 p2_0 n2_0 d2_0 X2 v h0 h2 (by have := HA.out; omega) (by have := HA.out; omega)).mono fun _ _ h => ans_of h)
  have IP := Lib.hid fun (p0_0 : Option Addr) (d0_0 : Nat) (p2_0 : Option Addr) (d2_0 : Nat) (v : World) (h0 : diskRep.inn v X0 ((p0_0, n0_0, d0_0), ())) (h2 : pageRep.inn v X2 (p2_0, n2_0, d2_0)) => (show Calls Try.prog 24 #[.agg #[.slice p0_0 n0_0 d0_0, .int .i64 X0.fNextName], .int .i64 s1, .agg #[.slice p2_0 n2_0 d2_0]] v (Ans ((DiskD.appendTo X0 s1 X2).getD X0) ((DiskD.appendTo X0 s1 X2).isSome) v) from (iappend p0_0 n0_0 d0_0 X0 s1 p2_0 n2_0 d2_0 X2 v h0 h2 (by have := HA.out; omega) (by have := HA.out; omega)).mono fun _ _ h => ans_of h)
  have hy0 : wtDisk ((DiskD.appendTo X0 s1 X2).getD X0) ≤ 1048576 := DiskD.wt_appendTo HA.out.1
  obtain ⟨Y0, hY0⟩ : ∃ Y, Y = (DiskD.appendTo X0 s1 X2).getD X0 := ⟨_, rfl⟩
  rw [← hY0] at SP IP hy0
  clear hY0
  obtain ⟨Y1, hY1⟩ : ∃ Y, Y = (DiskD.appendTo X0 s1 X2).isSome := ⟨_, rfl⟩
  rw [← hY1] at SP IP
  clear hY1
  have HY : Hid (wtDisk Y0 ≤ 1048576 ∧ diskMkV.cnt Y0 ≤ 64 * wtDisk Y0) := Lib.hid ⟨hy0, cntV_disk Y0⟩
  clear hy0
  obtain ⟨C0, hC0⟩ : ∃ C, C = diskMkV.cnt X0 := ⟨_, rfl⟩
  have HC0 := Lib.hid hC0
  clear hC0
  obtain ⟨C2, hC2⟩ : ∃ C, C = pageMkV.cnt X2 := ⟨_, rfl⟩
  have HC2 := Lib.hid hC2
  clear hC2
  obtain ⟨D0, hD0⟩ : ∃ D, D = diskMkV.cnt Y0 := ⟨_, rfl⟩
  have HD0 := Lib.hid hD0
  clear hD0
  clear cv2_A0_0 cv2_A0_1 cv2_A2_0
  have cv3_A0_0 := box_cell V_A0_3.out 0 _ rfl
  have cv3_A0_1 := box_cell V_A0_3.out 1 _ rfl
  have cv3_A2_0 := box_cell V_A2_3.out 0 _ rfl
  go_wp2_with fail
  have hcc : ∀ v', Below w3.heap.size w3 v' → v'.cell? ⟨w.heap.size, 0, none⟩ = some (.slice a0_0 n0_0 c0_0) ∧ v'.cell? ⟨w.heap.size, 1, none⟩ = some (.int .i64 X0.fNextName) ∧ v'.cell? ⟨w.heap.size + 1, 0, none⟩ = some (.slice a2_0 n2_0 c2_0) ∧ (∀ o, (v'.alloc o).cell? ⟨w.heap.size, 0, none⟩ = some (.slice a0_0 n0_0 c0_0)) ∧ (∀ o, (v'.alloc o).cell? ⟨w.heap.size, 1, none⟩ = some (.int .i64 X0.fNextName)) ∧ (∀ o, (v'.alloc o).cell? ⟨w.heap.size + 1, 0, none⟩ = some (.slice a2_0 n2_0 c2_0)) := fun v' hv => ⟨box_cell ((hv.block _ (lt_of_block V_A0_3.out)).trans V_A0_3.out) 0 _ rfl, box_cell ((hv.block _ (lt_of_block V_A0_3.out)).trans V_A0_3.out) 1 _ rfl, box_cell ((hv.block _ (lt_of_block V_A2_3.out)).trans V_A2_3.out) 0 _ rfl, fun o => Lib.cell?_alloc_some o (box_cell ((hv.block _ (lt_of_block V_A0_3.out)).trans V_A0_3.out) 0 _ rfl), fun o => Lib.cell?_alloc_some o (box_cell ((hv.block _ (lt_of_block V_A0_3.out)).trans V_A0_3.out) 1 _ rfl), fun o => Lib.cell?_alloc_some o (box_cell ((hv.block _ (lt_of_block V_A2_3.out)).trans V_A2_3.out) 0 _ rfl)⟩
  have CP0 := Lib.hid fun v  (hv : Below w3.heap.size w3 v)  => (toD_disk X0 a0_0 n0_0 c0_0 v (HI0.out.keep (B3.out.trans (hv.mono B3.out.size))) (by have := HA.out; omega)).mono fun e v' (h : ∃ (g0_0 : Nat) (F : List Reg), e = .returned (.agg #[.slice (some ⟨g0_0, 0, none⟩) n0_0 n0_0, .int .i64 X0.fNextName]) ∧ diskRep.own v' v.heap.size X0 (((some ⟨g0_0, 0, none⟩), n0_0, n0_0), ()) F ∧ Below v.heap.size v v') => (show ∃ (g0_0 : Nat) (F : List Reg), e = .returned (.agg #[.slice (some ⟨g0_0, 0, none⟩) n0_0 n0_0, .int .i64 X0.fNextName]) ∧ Hid (diskRep.inn v' X0 (((some ⟨g0_0, 0, none⟩), n0_0, n0_0), ())) ∧ Below w3.heap.size w3 v' ∧ v'.cell? ⟨w.heap.size, 0, none⟩ = some (.slice a0_0 n0_0 c0_0) ∧ v'.cell? ⟨w.heap.size, 1, none⟩ = some (.int .i64 X0.fNextName) ∧ v'.cell? ⟨w.heap.size + 1, 0, none⟩ = some (.slice a2_0 n2_0 c2_0) ∧ (∀ o, (v'.alloc o).cell? ⟨w.heap.size, 0, none⟩ = some (.slice a0_0 n0_0 c0_0)) ∧ (∀ o, (v'.alloc o).cell? ⟨w.heap.size, 1, none⟩ = some (.int .i64 X0.fNextName)) ∧ (∀ o, (v'.alloc o).cell? ⟨w.heap.size + 1, 0, none⟩ = some (.slice a2_0 n2_0 c2_0)) ∧ Below v.heap.size v v' from by
    obtain ⟨g0_0, F, he, hm, hb⟩ := h
    have hv' := hv.trans (hb.mono hv.size)
    exact ⟨g0_0, F, he, Lib.hid hm.inn, hv', by obtain ⟨e0, e1, e2, e3, e4, e5⟩ := hcc v' hv'; exact ⟨e0, e1, e2, e3, e4, e5, hb⟩⟩)
  have CP2 := Lib.hid fun v g0_0 (hv : Below w3.heap.size w3 v) (hi0 : Hid (diskRep.inn v X0 (((some ⟨g0_0, 0, none⟩), n0_0, n0_0), ()))) => (toD_page X2 a2_0 n2_0 c2_0 v (HI2.out.keep (B3.out.trans (hv.mono B3.out.size))) (by have := HA.out; omega)).mono fun e v' (h : ∃ (g2_0 : Nat) (F : List Reg), e = .returned (.agg #[.slice (some ⟨g2_0, 0, none⟩) n2_0 n2_0]) ∧ pageRep.own v' v.heap.size X2 ((some ⟨g2_0, 0, none⟩), n2_0, n2_0) F ∧ Below v.heap.size v v') => (show ∃ (g2_0 : Nat) (F : List Reg), e = .returned (.agg #[.slice (some ⟨g2_0, 0, none⟩) n2_0 n2_0]) ∧ Hid (diskRep.inn v' X0 (((some ⟨g0_0, 0, none⟩), n0_0, n0_0), ())) ∧ Hid (pageRep.inn v' X2 ((some ⟨g2_0, 0, none⟩), n2_0, n2_0)) ∧ Below w3.heap.size w3 v' ∧ v'.cell? ⟨w.heap.size, 0, none⟩ = some (.slice a0_0 n0_0 c0_0) ∧ v'.cell? ⟨w.heap.size, 1, none⟩ = some (.int .i64 X0.fNextName) ∧ v'.cell? ⟨w.heap.size + 1, 0, none⟩ = some (.slice a2_0 n2_0 c2_0) ∧ (∀ o, (v'.alloc o).cell? ⟨w.heap.size, 0, none⟩ = some (.slice a0_0 n0_0 c0_0)) ∧ (∀ o, (v'.alloc o).cell? ⟨w.heap.size, 1, none⟩ = some (.int .i64 X0.fNextName)) ∧ (∀ o, (v'.alloc o).cell? ⟨w.heap.size + 1, 0, none⟩ = some (.slice a2_0 n2_0 c2_0)) ∧ Below v.heap.size v v' from by
    obtain ⟨g2_0, F, he, hm, hb⟩ := h
    have hv' := hv.trans (hb.mono hv.size)
    exact ⟨g2_0, F, he, Lib.hid (diskRep.inn_keep hi0.out hb), Lib.hid hm.inn, hv', by obtain ⟨e0, e1, e2, e3, e4, e5⟩ := hcc v' hv'; exact ⟨e0, e1, e2, e3, e4, e5, hb⟩⟩)
  have CF := Lib.hid fun v g0_0 g2_0 (hv : Below w3.heap.size w3 v) (hi0 : Hid (diskRep.inn v X0 (((some ⟨g0_0, 0, none⟩), n0_0, n0_0), ()))) (hi2 : Hid (pageRep.inn v X2 ((some ⟨g2_0, 0, none⟩), n2_0, n2_0))) => (SP.out _ _ _ _ v hi0.out hi2.out).mono fun e v' h => (show ∃ (x0_0 : Option Addr) (k0_0 c0_0 : Nat) (F0 : List Reg), e = .returned (.tuple #[.agg #[.slice x0_0 k0_0 c0_0, .int .i64 Y0.fNextName], .bool Y1]) ∧ Hid (diskRep.own v' w3.heap.size Y0 ((x0_0, k0_0, c0_0), ()) F0) ∧ (∀ y ∈ F0, v.heap.size ≤ y.b) ∧ Below w3.heap.size w3 v' ∧ Below v.heap.size v v' from by
    obtain ⟨x0_0, k0_0, c0_0, F0, he, m0, hb⟩ := h
    exact ⟨x0_0, k0_0, c0_0, F0, he, Lib.hid (diskRep.own_mono m0 hv.size), (fun y hy => (m0.lt y hy).1), hv.trans (hb.mono hv.size), hb⟩)
  go_cut [8, 9] from 29 to 37 (fun s0 s1 wx => ∃ v, v = wx ∧ Hid (Cut Y0 Y1 w3 s0 s1 v))
  case first =>
    have hK : Below w3.heap.size w3 w3.drew := (Below.refl _ _).drew
    obtain ⟨e0, e1, e2, e3, e4, e5⟩ := hcc _ (Below.refl _ _)
    clear hcc
    try clear hv
    try clear cv3_A2_0
    try clear cv3_A0_1
    try clear cv3_A0_0
    try clear HD0
    try clear HC2
    try clear HC0
    try clear HY
    try clear hy0
    try clear IP
    try clear SP
    try clear HA
    try clear U2
    try clear B3
    try clear V_A2_3
    try clear V_A0_3
    try clear cv2_A2_0
    try clear cv2_A0_1
    try clear cv2_A0_0
    try clear p0
    try clear U0
    try clear B2
    try clear V_A2_2
    try clear V_A0_2
    try clear cv1_A2_0
    try clear cv1_A0_1
    try clear cv1_A0_0
    try clear V_A2_1
    try clear V_A0_1
    try clear B1
    try clear b1
    try clear bb1
    try clear B0
    try clear HZ2
    try clear HZ0
    try clear HI2
    try clear HI0
    go_region_with (first
      | (go_at_call 22; refine (CF.out _ _ _ (by first | assumption | exact Below.alloc (by assumption) (Below.size (by assumption)) _) (by first | assumption | exact Lib.hid (diskRep.inn_keep (Hid.out (by assumption)) (Below.alloc (Below.refl _ _) (Nat.le_refl _) _))) (by first | assumption | exact Lib.hid (pageRep.inn_keep (Hid.out (by assumption)) (Below.alloc (Below.refl _ _) (Nat.le_refl _) _)))).mono ?_; rintro e v ⟨x0_0, k0_0, c0_0, F0, rfl, m0, hlo0, hK, hst⟩; (first | (have hne0 := fun y (hy : y ∈ F0) => ne_old kbx (hlo0 y hy)) | (have hne0 := fun y (hy : y ∈ F0) => ne_new (hlo0 y hy)) | skip); (first | (have kbx := (hst.block _ (lt_of_block kbx)).trans kbx) | (have kbx := (hst.block _ (by simp)).trans (heap_alloc_new _ _)) | skip); (first | (have bc0 := box_cell kbx 0 _ rfl; have bc1 := box_cell kbx 1 _ rfl) | skip); (first | (have bcf : ∀ j, v.frozen? ⟨_, j, none⟩ = false := fun j => frozen_at kbx j) | skip))
      | (go_at_call 23; have hh := hi0; clear hh; refine (CP2.out _ _ (by first | assumption | exact Below.alloc (by assumption) (Below.size (by assumption)) _) (by first | assumption | exact Lib.hid (diskRep.inn_keep (Hid.out (by assumption)) (Below.alloc (Below.refl _ _) (Nat.le_refl _) _)))).mono ?_; rintro e v ⟨g2_0, F, rfl, hi0, hi2, hK, e0, e1, e2, e3, e4, e5, hst⟩; (first | (have kbx := (hst.block _ (lt_of_block kbx)).trans kbx) | (have kbx := (hst.block _ (by simp)).trans (heap_alloc_new _ _)) | skip); (first | (have bc0 := box_cell kbx 0 _ rfl; have bc1 := box_cell kbx 1 _ rfl) | skip); (first | (have bcf : ∀ j, v.frozen? ⟨_, j, none⟩ = false := fun j => frozen_at kbx j) | skip))
      | (go_at_call 14; refine (CP0.out _ (by first | assumption | exact Below.alloc (by assumption) (Below.size (by assumption)) _)).mono ?_; rintro e v ⟨g0_0, F, rfl, hi0, hK, e0, e1, e2, e3, e4, e5, hst⟩; (first | (have kbx := (hst.block _ (lt_of_block kbx)).trans kbx) | (have kbx := (hst.block _ (by simp)).trans (heap_alloc_new _ _)) | skip); (first | (have bc0 := box_cell kbx 0 _ rfl; have bc1 := box_cell kbx 1 _ rfl) | skip); (first | (have bcf : ∀ j, v.frozen? ⟨_, j, none⟩ = false := fun j => frozen_at kbx j) | skip)))
    all_goals go_wp2_with fail
    all_goals go_meet
    all_goals first | exact ⟨_, rfl, cut_fin Y0 Y1 m0 hK⟩ | exact ⟨_, rfl, cut_put Y0 Y1 m0 hK kbx (by first | exact Nat.le_refl _ | exact Below.size (by assumption)) hne0⟩
  case rest =>
    clear CF hcc CP0 CP2
    obtain ⟨w4, rfl, hcu⟩ := hcut
    obtain ⟨t4_0, x4_0_0, k4_0_0, c4_0_0, F4_0, rfl, rfl, kb0, lb0, m4_0, nb0_0, b4⟩ := hcu.out
    have V_A0_4 := Lib.hid ((b4.block _ (lt_of_block V_A0_3.out)).trans V_A0_3.out)
    have V_A2_4 := Lib.hid ((b4.block _ (lt_of_block V_A2_3.out)).trans V_A2_3.out)
    have B4 := Lib.hid (B3.out.trans (b4.mono B3.out.size))
    have Z0_4 := Lib.hid m4_0
    have NE_Z0_A0 := Lib.hid (fun y (hy : y ∈ F4_0) => (show y.b ≠ _ from by have h1 := lt_of_block V_A0_3.out; have h2 := (m4_0.lt y hy).1; intro e; rw [e] at h2; exact absurd h1 (Nat.not_lt.2 h2)))
    have NE_Z0_A2 := Lib.hid (fun y (hy : y ∈ F4_0) => (show y.b ≠ _ from by have h1 := lt_of_block V_A2_3.out; have h2 := (m4_0.lt y hy).1; intro e; rw [e] at h2; exact absurd h1 (Nat.not_lt.2 h2)))
    have V_Z0_4 := Lib.hid kb0
    have NE_Z0_Z0 := Lib.hid nb0_0
    clear hcu b4 kb0 lb0 m4_0 nb0_0
    clear cv3_A0_0 cv3_A0_1 cv3_A2_0
    have cv4_A0_0 := box_cell V_A0_4.out 0 _ rfl
    have cv4_A0_1 := box_cell V_A0_4.out 1 _ rfl
    have cv4_A2_0 := box_cell V_A2_4.out 0 _ rfl
    have cv4_Z0_0 := box_cell V_Z0_4.out 0 _ rfl
    have cv4_Z0_1 := box_cell V_Z0_4.out 1 _ rfl
    go_wp2_with fail
    refine (toD_disk X0 a0_0 n0_0 c0_0 _ (HI0.out.keep B4.out) (by have := HA.out; omega)).mono ?_
    rintro e w5 ⟨g5_0, F5, rfl, m5_0, b5⟩
    have Z0_5 := Lib.hid (Z0_4.out.keep b5)
    have V_A0_5 := Lib.hid ((b5.block _ (lt_of_block V_A0_4.out)).trans V_A0_4.out)
    have V_A2_5 := Lib.hid ((b5.block _ (lt_of_block V_A2_4.out)).trans V_A2_4.out)
    have V_Z0_5 := Lib.hid ((b5.block _ (lt_of_block V_Z0_4.out)).trans V_Z0_4.out)
    have B5 := Lib.hid (B4.out.trans (b5.mono B4.out.size))
    have P0_5 := Lib.hid m5_0
    have ap_Z0_P0 : Hid (∀ x ∈ F4_0, ∀ y ∈ F5, Reg.apart x y) := Lib.hid (apart_lt (fun y hy => (Z0_4.out.lt y hy).2) (fun y hy => (m5_0.lt y hy).1))
    have NE_P0_A0 := Lib.hid (fun y (hy : y ∈ F5) => (show y.b ≠ _ from by have h1 := lt_of_block V_A0_4.out; have h2 := (m5_0.lt y hy).1; intro e; rw [e] at h2; exact absurd h1 (Nat.not_lt.2 h2)))
    have NE_P0_A2 := Lib.hid (fun y (hy : y ∈ F5) => (show y.b ≠ _ from by have h1 := lt_of_block V_A2_4.out; have h2 := (m5_0.lt y hy).1; intro e; rw [e] at h2; exact absurd h1 (Nat.not_lt.2 h2)))
    have NE_P0_Z0 := Lib.hid (fun y (hy : y ∈ F5) => (show y.b ≠ _ from by have h1 := lt_of_block V_Z0_4.out; have h2 := (m5_0.lt y hy).1; intro e; rw [e] at h2; exact absurd h1 (Nat.not_lt.2 h2)))
    clear b5 m5_0
    obtain ⟨w6, hv6⟩ : ∃ v, v = (w5.alloc (.cells #[.slice (some ⟨g5_0, 0, none⟩) n0_0 n0_0, .int .i64 X0.fNextName] 31)) := ⟨_, rfl⟩
    have b6 : Below w5.heap.size w5 w6 := by rw [hv6]; exact (Below.refl _ _).alloc (Nat.le_refl _) _
    have Z0_6 := Lib.hid (Z0_5.out.keep b6)
    have P0_6 := Lib.hid (P0_5.out.keep b6)
    have V_A0_6 := Lib.hid ((b6.block _ (lt_of_block V_A0_5.out)).trans V_A0_5.out)
    have V_A2_6 := Lib.hid ((b6.block _ (lt_of_block V_A2_5.out)).trans V_A2_5.out)
    have V_Z0_6 := Lib.hid ((b6.block _ (lt_of_block V_Z0_5.out)).trans V_Z0_5.out)
    have B6 := Lib.hid (B5.out.trans (b6.mono B5.out.size))
    have V_P0_6 : Hid (w6.heap[w5.heap.size]? = some (.cells #[.slice (some ⟨g5_0, 0, none⟩) n0_0 n0_0, .int .i64 X0.fNextName] 31 (0, 0))) := Lib.hid (by rw [hv6]; exact heap_alloc_new _ _)
    have NE_Z0_P0 : Hid (∀ y ∈ F4_0, y.b ≠ w5.heap.size) := Lib.hid (fun y hy => by have := (Z0_5.out.lt y hy).2; omega)
    have NE_P0_P0 : Hid (∀ y ∈ F5, y.b ≠ w5.heap.size) := Lib.hid (fun y hy => by have := (P0_5.out.lt y hy).2; omega)
    clear b6
    clear cv4_A0_0 cv4_A0_1 cv4_A2_0 cv4_Z0_0 cv4_Z0_1
    have cv6_A0_0 := box_cell V_A0_6.out 0 _ rfl
    rw [hv6] at cv6_A0_0
    have cv6_A0_1 := box_cell V_A0_6.out 1 _ rfl
    rw [hv6] at cv6_A0_1
    have cv6_A2_0 := box_cell V_A2_6.out 0 _ rfl
    rw [hv6] at cv6_A2_0
    have cv6_Z0_0 := box_cell V_Z0_6.out 0 _ rfl
    rw [hv6] at cv6_Z0_0
    have cv6_Z0_1 := box_cell V_Z0_6.out 1 _ rfl
    rw [hv6] at cv6_Z0_1
    have cv6_P0_0 := box_cell V_P0_6.out 0 _ rfl
    rw [hv6] at cv6_P0_0
    have cv6_P0_1 := box_cell V_P0_6.out 1 _ rfl
    rw [hv6] at cv6_P0_1
    go_wp2_with fail
    rw [← hv6]
    clear hv6 cv6_A0_0 cv6_A0_1 cv6_A2_0 cv6_Z0_0 cv6_Z0_1 cv6_P0_0 cv6_P0_1
    refine (toD_page X2 a2_0 n2_0 c2_0 _ (HI2.out.keep B6.out) (by have := HA.out; omega)).mono ?_
    rintro e w7 ⟨g7_0, F7, rfl, m7_0, b7⟩
    have Z0_7 := Lib.hid (Z0_6.out.keep b7)
    have P0_7 := Lib.hid (P0_6.out.keep b7)
    have V_A0_7 := Lib.hid ((b7.block _ (lt_of_block V_A0_6.out)).trans V_A0_6.out)
    have V_A2_7 := Lib.hid ((b7.block _ (lt_of_block V_A2_6.out)).trans V_A2_6.out)
    have V_Z0_7 := Lib.hid ((b7.block _ (lt_of_block V_Z0_6.out)).trans V_Z0_6.out)
    have V_P0_7 := Lib.hid ((b7.block _ (lt_of_block V_P0_6.out)).trans V_P0_6.out)
    have B7 := Lib.hid (B6.out.trans (b7.mono B6.out.size))
    have P2_7 := Lib.hid m7_0
    have ap_Z0_P2 : Hid (∀ x ∈ F4_0, ∀ y ∈ F7, Reg.apart x y) := Lib.hid (apart_lt (fun y hy => (Z0_6.out.lt y hy).2) (fun y hy => (m7_0.lt y hy).1))
    have ap_P0_P2 : Hid (∀ x ∈ F5, ∀ y ∈ F7, Reg.apart x y) := Lib.hid (apart_lt (fun y hy => (P0_6.out.lt y hy).2) (fun y hy => (m7_0.lt y hy).1))
    have NE_P2_A0 := Lib.hid (fun y (hy : y ∈ F7) => (show y.b ≠ _ from by have h1 := lt_of_block V_A0_6.out; have h2 := (m7_0.lt y hy).1; intro e; rw [e] at h2; exact absurd h1 (Nat.not_lt.2 h2)))
    have NE_P2_A2 := Lib.hid (fun y (hy : y ∈ F7) => (show y.b ≠ _ from by have h1 := lt_of_block V_A2_6.out; have h2 := (m7_0.lt y hy).1; intro e; rw [e] at h2; exact absurd h1 (Nat.not_lt.2 h2)))
    have NE_P2_Z0 := Lib.hid (fun y (hy : y ∈ F7) => (show y.b ≠ _ from by have h1 := lt_of_block V_Z0_6.out; have h2 := (m7_0.lt y hy).1; intro e; rw [e] at h2; exact absurd h1 (Nat.not_lt.2 h2)))
    have NE_P2_P0 := Lib.hid (fun y (hy : y ∈ F7) => (show y.b ≠ _ from by have h1 := lt_of_block V_P0_6.out; have h2 := (m7_0.lt y hy).1; intro e; rw [e] at h2; exact absurd h1 (Nat.not_lt.2 h2)))
    clear b7 m7_0
    obtain ⟨w8, hv8⟩ : ∃ v, v = (w7.alloc (.cells #[.slice (some ⟨g7_0, 0, none⟩) n2_0 n2_0] 46)) := ⟨_, rfl⟩
    have b8 : Below w7.heap.size w7 w8 := by rw [hv8]; exact (Below.refl _ _).alloc (Nat.le_refl _) _
    have Z0_8 := Lib.hid (Z0_7.out.keep b8)
    have P0_8 := Lib.hid (P0_7.out.keep b8)
    have P2_8 := Lib.hid (P2_7.out.keep b8)
    have V_A0_8 := Lib.hid ((b8.block _ (lt_of_block V_A0_7.out)).trans V_A0_7.out)
    have V_A2_8 := Lib.hid ((b8.block _ (lt_of_block V_A2_7.out)).trans V_A2_7.out)
    have V_Z0_8 := Lib.hid ((b8.block _ (lt_of_block V_Z0_7.out)).trans V_Z0_7.out)
    have V_P0_8 := Lib.hid ((b8.block _ (lt_of_block V_P0_7.out)).trans V_P0_7.out)
    have B8 := Lib.hid (B7.out.trans (b8.mono B7.out.size))
    have V_P2_8 : Hid (w8.heap[w7.heap.size]? = some (.cells #[.slice (some ⟨g7_0, 0, none⟩) n2_0 n2_0] 46 (0, 0))) := Lib.hid (by rw [hv8]; exact heap_alloc_new _ _)
    have NE_Z0_P2 : Hid (∀ y ∈ F4_0, y.b ≠ w7.heap.size) := Lib.hid (fun y hy => by have := (Z0_7.out.lt y hy).2; omega)
    have NE_P0_P2 : Hid (∀ y ∈ F5, y.b ≠ w7.heap.size) := Lib.hid (fun y hy => by have := (P0_7.out.lt y hy).2; omega)
    have NE_P2_P2 : Hid (∀ y ∈ F7, y.b ≠ w7.heap.size) := Lib.hid (fun y hy => by have := (P2_7.out.lt y hy).2; omega)
    clear b8
    have cv8_A0_0 := box_cell V_A0_8.out 0 _ rfl
    rw [hv8] at cv8_A0_0
    have cv8_A0_1 := box_cell V_A0_8.out 1 _ rfl
    rw [hv8] at cv8_A0_1
    have cv8_A2_0 := box_cell V_A2_8.out 0 _ rfl
    rw [hv8] at cv8_A2_0
    have cv8_Z0_0 := box_cell V_Z0_8.out 0 _ rfl
    rw [hv8] at cv8_Z0_0
    have cv8_Z0_1 := box_cell V_Z0_8.out 1 _ rfl
    rw [hv8] at cv8_Z0_1
    have cv8_P0_0 := box_cell V_P0_8.out 0 _ rfl
    rw [hv8] at cv8_P0_0
    have cv8_P0_1 := box_cell V_P0_8.out 1 _ rfl
    rw [hv8] at cv8_P0_1
    have cv8_P2_0 := box_cell V_P2_8.out 0 _ rfl
    rw [hv8] at cv8_P2_0
    go_wp2_with fail
    rw [← hv8]
    clear hv8 cv8_A0_0 cv8_A0_1 cv8_A2_0 cv8_Z0_0 cv8_Z0_1 cv8_P0_0 cv8_P0_1 cv8_P2_0
    refine (IP.out _ _ _ _ _ P0_8.out.inn P2_8.out.inn).mono ?_
    rintro e w9 ⟨x9_0_0, k9_0_0, c9_0_0, F9_0, rfl, m9_0, b9⟩
    have Z0_9 := Lib.hid (Z0_8.out.keep b9)
    have P0_9 := Lib.hid (P0_8.out.keep b9)
    have P2_9 := Lib.hid (P2_8.out.keep b9)
    have V_A0_9 := Lib.hid ((b9.block _ (lt_of_block V_A0_8.out)).trans V_A0_8.out)
    have V_A2_9 := Lib.hid ((b9.block _ (lt_of_block V_A2_8.out)).trans V_A2_8.out)
    have V_Z0_9 := Lib.hid ((b9.block _ (lt_of_block V_Z0_8.out)).trans V_Z0_8.out)
    have V_P0_9 := Lib.hid ((b9.block _ (lt_of_block V_P0_8.out)).trans V_P0_8.out)
    have V_P2_9 := Lib.hid ((b9.block _ (lt_of_block V_P2_8.out)).trans V_P2_8.out)
    have B9 := Lib.hid (B8.out.trans (b9.mono B8.out.size))
    have G0_9 := Lib.hid m9_0
    have ap_Z0_G0 : Hid (∀ x ∈ F4_0, ∀ y ∈ F9_0, Reg.apart x y) := Lib.hid (apart_lt (fun y hy => (Z0_8.out.lt y hy).2) (fun y hy => (m9_0.lt y hy).1))
    have ap_P0_G0 : Hid (∀ x ∈ F5, ∀ y ∈ F9_0, Reg.apart x y) := Lib.hid (apart_lt (fun y hy => (P0_8.out.lt y hy).2) (fun y hy => (m9_0.lt y hy).1))
    have ap_P2_G0 : Hid (∀ x ∈ F7, ∀ y ∈ F9_0, Reg.apart x y) := Lib.hid (apart_lt (fun y hy => (P2_8.out.lt y hy).2) (fun y hy => (m9_0.lt y hy).1))
    have NE_G0_A0 := Lib.hid (fun y (hy : y ∈ F9_0) => (show y.b ≠ _ from by have h1 := lt_of_block V_A0_8.out; have h2 := (m9_0.lt y hy).1; intro e; rw [e] at h2; exact absurd h1 (Nat.not_lt.2 h2)))
    have NE_G0_A2 := Lib.hid (fun y (hy : y ∈ F9_0) => (show y.b ≠ _ from by have h1 := lt_of_block V_A2_8.out; have h2 := (m9_0.lt y hy).1; intro e; rw [e] at h2; exact absurd h1 (Nat.not_lt.2 h2)))
    have NE_G0_Z0 := Lib.hid (fun y (hy : y ∈ F9_0) => (show y.b ≠ _ from by have h1 := lt_of_block V_Z0_8.out; have h2 := (m9_0.lt y hy).1; intro e; rw [e] at h2; exact absurd h1 (Nat.not_lt.2 h2)))
    have NE_G0_P0 := Lib.hid (fun y (hy : y ∈ F9_0) => (show y.b ≠ _ from by have h1 := lt_of_block V_P0_8.out; have h2 := (m9_0.lt y hy).1; intro e; rw [e] at h2; exact absurd h1 (Nat.not_lt.2 h2)))
    have NE_G0_P2 := Lib.hid (fun y (hy : y ∈ F9_0) => (show y.b ≠ _ from by have h1 := lt_of_block V_P2_8.out; have h2 := (m9_0.lt y hy).1; intro e; rw [e] at h2; exact absurd h1 (Nat.not_lt.2 h2)))
    clear b9 m9_0
    obtain ⟨w10, hv10⟩ : ∃ v, v = (w9.alloc (.cells #[.slice x9_0_0 k9_0_0 c9_0_0, .int .i64 Y0.fNextName] 31)) := ⟨_, rfl⟩
    have b10 : Below w9.heap.size w9 w10 := by rw [hv10]; exact (Below.refl _ _).alloc (Nat.le_refl _) _
    have Z0_10 := Lib.hid (Z0_9.out.keep b10)
    have P0_10 := Lib.hid (P0_9.out.keep b10)
    have P2_10 := Lib.hid (P2_9.out.keep b10)
    have G0_10 := Lib.hid (G0_9.out.keep b10)
    have V_A0_10 := Lib.hid ((b10.block _ (lt_of_block V_A0_9.out)).trans V_A0_9.out)
    have V_A2_10 := Lib.hid ((b10.block _ (lt_of_block V_A2_9.out)).trans V_A2_9.out)
    have V_Z0_10 := Lib.hid ((b10.block _ (lt_of_block V_Z0_9.out)).trans V_Z0_9.out)
    have V_P0_10 := Lib.hid ((b10.block _ (lt_of_block V_P0_9.out)).trans V_P0_9.out)
    have V_P2_10 := Lib.hid ((b10.block _ (lt_of_block V_P2_9.out)).trans V_P2_9.out)
    have B10 := Lib.hid (B9.out.trans (b10.mono B9.out.size))
    have V_G0_10 : Hid (w10.heap[w9.heap.size]? = some (.cells #[.slice x9_0_0 k9_0_0 c9_0_0, .int .i64 Y0.fNextName] 31 (0, 0))) := Lib.hid (by rw [hv10]; exact heap_alloc_new _ _)
    have NE_Z0_G0 : Hid (∀ y ∈ F4_0, y.b ≠ w9.heap.size) := Lib.hid (fun y hy => by have := (Z0_9.out.lt y hy).2; omega)
    have NE_P0_G0 : Hid (∀ y ∈ F5, y.b ≠ w9.heap.size) := Lib.hid (fun y hy => by have := (P0_9.out.lt y hy).2; omega)
    have NE_P2_G0 : Hid (∀ y ∈ F7, y.b ≠ w9.heap.size) := Lib.hid (fun y hy => by have := (P2_9.out.lt y hy).2; omega)
    have NE_G0_G0 : Hid (∀ y ∈ F9_0, y.b ≠ w9.heap.size) := Lib.hid (fun y hy => by have := (G0_9.out.lt y hy).2; omega)
    clear b10
    have cv10_A0_0 := box_cell V_A0_10.out 0 _ rfl
    rw [hv10] at cv10_A0_0
    have cv10_A0_1 := box_cell V_A0_10.out 1 _ rfl
    rw [hv10] at cv10_A0_1
    have cv10_A2_0 := box_cell V_A2_10.out 0 _ rfl
    rw [hv10] at cv10_A2_0
    have cv10_Z0_0 := box_cell V_Z0_10.out 0 _ rfl
    rw [hv10] at cv10_Z0_0
    have cv10_Z0_1 := box_cell V_Z0_10.out 1 _ rfl
    rw [hv10] at cv10_Z0_1
    have cv10_P0_0 := box_cell V_P0_10.out 0 _ rfl
    rw [hv10] at cv10_P0_0
    have cv10_P0_1 := box_cell V_P0_10.out 1 _ rfl
    rw [hv10] at cv10_P0_1
    have cv10_P2_0 := box_cell V_P2_10.out 0 _ rfl
    rw [hv10] at cv10_P2_0
    have cv10_G0_0 := box_cell V_G0_10.out 0 _ rfl
    rw [hv10] at cv10_G0_0
    have cv10_G0_1 := box_cell V_G0_10.out 1 _ rfl
    rw [hv10] at cv10_G0_1
    go_wp2_with fail
    rw [← hv10]
    clear hv10 cv10_A0_0 cv10_A0_1 cv10_A2_0 cv10_Z0_0 cv10_Z0_1 cv10_P0_0 cv10_P0_1 cv10_P2_0 cv10_G0_0 cv10_G0_1
    refine (eqD_disk Y0 Y0 x9_0_0 k9_0_0 c9_0_0 x4_0_0 k4_0_0 c4_0_0 _ G0_10.out.inn Z0_10.out.inn).mono ?_
    rintro e w11 ⟨rfl, b11⟩
    rw [decide_eq_true (rfl : Y0 = Y0)]
    have Z0_11 := Lib.hid (Z0_10.out.keep b11)
    have P0_11 := Lib.hid (P0_10.out.keep b11)
    have P2_11 := Lib.hid (P2_10.out.keep b11)
    have G0_11 := Lib.hid (G0_10.out.keep b11)
    have V_A0_11 := Lib.hid ((b11.block _ (lt_of_block V_A0_10.out)).trans V_A0_10.out)
    have V_A2_11 := Lib.hid ((b11.block _ (lt_of_block V_A2_10.out)).trans V_A2_10.out)
    have V_Z0_11 := Lib.hid ((b11.block _ (lt_of_block V_Z0_10.out)).trans V_Z0_10.out)
    have V_P0_11 := Lib.hid ((b11.block _ (lt_of_block V_P0_10.out)).trans V_P0_10.out)
    have V_P2_11 := Lib.hid ((b11.block _ (lt_of_block V_P2_10.out)).trans V_P2_10.out)
    have V_G0_11 := Lib.hid ((b11.block _ (lt_of_block V_G0_10.out)).trans V_G0_10.out)
    have B11 := Lib.hid (B10.out.trans (b11.mono B10.out.size))
    clear b11
    go_wp2_with fail
    have hcc : ∀ v', Below w11.heap.size w11 v' → v'.cell? ⟨w.heap.size, 0, none⟩ = some (.slice a0_0 n0_0 c0_0) ∧ v'.cell? ⟨w.heap.size, 1, none⟩ = some (.int .i64 X0.fNextName) ∧ v'.cell? ⟨w5.heap.size, 0, none⟩ = some (.slice (some ⟨g5_0, 0, none⟩) n0_0 n0_0) ∧ v'.cell? ⟨w5.heap.size, 1, none⟩ = some (.int .i64 X0.fNextName) := fun v' hv => ⟨box_cell ((hv.block _ (lt_of_block V_A0_11.out)).trans V_A0_11.out) 0 _ rfl, box_cell ((hv.block _ (lt_of_block V_A0_11.out)).trans V_A0_11.out) 1 _ rfl, box_cell ((hv.block _ (lt_of_block V_P0_11.out)).trans V_P0_11.out) 0 _ rfl, box_cell ((hv.block _ (lt_of_block V_P0_11.out)).trans V_P0_11.out) 1 _ rfl⟩
    have CP := Lib.hid fun v (hv : Below w11.heap.size w11 v) => (toD_disk X0 a0_0 n0_0 c0_0 v (HI0.out.keep (B11.out.trans (hv.mono B11.out.size))) (by have := HA.out; omega)).mono fun e v' (h : ∃ (g0 : Nat) (F : List Reg), e = .returned (.agg #[.slice (some ⟨g0, 0, none⟩) n0_0 n0_0, .int .i64 X0.fNextName]) ∧ diskRep.own v' v.heap.size X0 (((some ⟨g0, 0, none⟩), n0_0, n0_0), ()) F ∧ Below v.heap.size v v') => (show ∃ (g0 : Nat) (F : List Reg), e = .returned (.agg #[.slice (some ⟨g0, 0, none⟩) n0_0 n0_0, .int .i64 X0.fNextName]) ∧ Hid (diskRep.inn v' X0 (((some ⟨g0, 0, none⟩), n0_0, n0_0), ())) ∧ Below w11.heap.size w11 v' ∧ v'.cell? ⟨w.heap.size, 0, none⟩ = some (.slice a0_0 n0_0 c0_0) ∧ v'.cell? ⟨w.heap.size, 1, none⟩ = some (.int .i64 X0.fNextName) ∧ v'.cell? ⟨w5.heap.size, 0, none⟩ = some (.slice (some ⟨g5_0, 0, none⟩) n0_0 n0_0) ∧ v'.cell? ⟨w5.heap.size, 1, none⟩ = some (.int .i64 X0.fNextName) from by
      obtain ⟨g0, F, he, hm, hb⟩ := h
      have hv' := hv.trans (hb.mono hv.size)
      exact ⟨g0, F, he, Lib.hid hm.inn, hv', hcc v' hv'⟩)
    have CE := Lib.hid fun v g0 (hv : Below w11.heap.size w11 v) (hr : Hid (diskRep.inn v X0 (((some ⟨g0, 0, none⟩), n0_0, n0_0), ()))) => (eqD_disk X0 X0 (some ⟨g5_0, 0, none⟩) n0_0 n0_0 (some ⟨g0, 0, none⟩) n0_0 n0_0 v (P0_11.out.inn.keep hv) hr.out).mono fun e v' (h : e = .returned (.bool (decide (X0 = X0))) ∧ Below v.heap.size v v') => (show e = .returned (.bool true) ∧ Below w11.heap.size w11 v' from ⟨by rw [h.1, decide_eq_true rfl], hv.trans (h.2.mono hv.size)⟩)
    go_cut [62] from 58 to 62 (fun sx wx => ∃ v, v = wx ∧ sx = .bool false ∧ Hid (Below w11.heap.size w11 v))
    case first =>
      have hK : Below w11.heap.size w11 w11.drew := (Below.refl _ _).drew
      obtain ⟨c0, c1, c2, c3⟩ := hcc _ (Below.refl _ _)
      clear hcc
      go_region_with (first
        | (go_at_call 14; refine (CP.out _ (by assumption)).mono ?_; rintro e v ⟨g0, F, rfl, hrr, hK, c0, c1, c2, c3⟩)
        | (go_at_call 16; refine (CE.out _ _ (by assumption) (by assumption)).mono ?_; rintro e v ⟨rfl, hK⟩))
      all_goals go_wp2_with fail
      all_goals go_meet
      all_goals exact ⟨_, rfl, rfl, by assumption⟩
    case rest =>
      clear CP CE hcc
      obtain ⟨w12, rfl, rfl, hB12⟩ := hcut
      have b12 := hB12.out
      have Z0_12 := Lib.hid (Z0_11.out.keep b12)
      have P0_12 := Lib.hid (P0_11.out.keep b12)
      have P2_12 := Lib.hid (P2_11.out.keep b12)
      have G0_12 := Lib.hid (G0_11.out.keep b12)
      have V_A0_12 := Lib.hid ((b12.block _ (lt_of_block V_A0_11.out)).trans V_A0_11.out)
      have V_A2_12 := Lib.hid ((b12.block _ (lt_of_block V_A2_11.out)).trans V_A2_11.out)
      have V_Z0_12 := Lib.hid ((b12.block _ (lt_of_block V_Z0_11.out)).trans V_Z0_11.out)
      have V_P0_12 := Lib.hid ((b12.block _ (lt_of_block V_P0_11.out)).trans V_P0_11.out)
      have V_P2_12 := Lib.hid ((b12.block _ (lt_of_block V_P2_11.out)).trans V_P2_11.out)
      have V_G0_12 := Lib.hid ((b12.block _ (lt_of_block V_G0_11.out)).trans V_G0_11.out)
      have B12 := Lib.hid (B11.out.trans (b12.mono B11.out.size))
      clear b12 hB12
      go_wp2_with fail
      have hcc : ∀ v', Below w12.heap.size w12 v' → v'.cell? ⟨w.heap.size + 1, 0, none⟩ = some (.slice a2_0 n2_0 c2_0) ∧ v'.cell? ⟨w7.heap.size, 0, none⟩ = some (.slice (some ⟨g7_0, 0, none⟩) n2_0 n2_0) := fun v' hv => ⟨box_cell ((hv.block _ (lt_of_block V_A2_12.out)).trans V_A2_12.out) 0 _ rfl, box_cell ((hv.block _ (lt_of_block V_P2_12.out)).trans V_P2_12.out) 0 _ rfl⟩
      have CP := Lib.hid fun v (hv : Below w12.heap.size w12 v) => (toD_page X2 a2_0 n2_0 c2_0 v (HI2.out.keep (B12.out.trans (hv.mono B12.out.size))) (by have := HA.out; omega)).mono fun e v' (h : ∃ (g0 : Nat) (F : List Reg), e = .returned (.agg #[.slice (some ⟨g0, 0, none⟩) n2_0 n2_0]) ∧ pageRep.own v' v.heap.size X2 ((some ⟨g0, 0, none⟩), n2_0, n2_0) F ∧ Below v.heap.size v v') => (show ∃ (g0 : Nat) (F : List Reg), e = .returned (.agg #[.slice (some ⟨g0, 0, none⟩) n2_0 n2_0]) ∧ Hid (pageRep.inn v' X2 ((some ⟨g0, 0, none⟩), n2_0, n2_0)) ∧ Below w12.heap.size w12 v' ∧ v'.cell? ⟨w.heap.size + 1, 0, none⟩ = some (.slice a2_0 n2_0 c2_0) ∧ v'.cell? ⟨w7.heap.size, 0, none⟩ = some (.slice (some ⟨g7_0, 0, none⟩) n2_0 n2_0) from by
        obtain ⟨g0, F, he, hm, hb⟩ := h
        have hv' := hv.trans (hb.mono hv.size)
        exact ⟨g0, F, he, Lib.hid hm.inn, hv', hcc v' hv'⟩)
      have CE := Lib.hid fun v g0 (hv : Below w12.heap.size w12 v) (hr : Hid (pageRep.inn v X2 ((some ⟨g0, 0, none⟩), n2_0, n2_0))) => (eqD_page X2 X2 (some ⟨g7_0, 0, none⟩) n2_0 n2_0 (some ⟨g0, 0, none⟩) n2_0 n2_0 v (P2_12.out.inn.keep hv) hr.out).mono fun e v' (h : e = .returned (.bool (decide (X2 = X2))) ∧ Below v.heap.size v v') => (show e = .returned (.bool true) ∧ Below w12.heap.size w12 v' from ⟨by rw [h.1, decide_eq_true rfl], hv.trans (h.2.mono hv.size)⟩)
      go_cut [67] from 63 to 67 (fun sx wx => ∃ v, v = wx ∧ sx = .bool false ∧ Hid (Below w12.heap.size w12 v))
      case first =>
        have hK : Below w12.heap.size w12 w12.drew := (Below.refl _ _).drew
        obtain ⟨c0, c1⟩ := hcc _ (Below.refl _ _)
        clear hcc
        go_region_with (first
          | (go_at_call 23; refine (CP.out _ (by assumption)).mono ?_; rintro e v ⟨g0, F, rfl, hrr, hK, c0, c1⟩)
          | (go_at_call 25; refine (CE.out _ _ (by assumption) (by assumption)).mono ?_; rintro e v ⟨rfl, hK⟩))
        all_goals go_wp2_with fail
        all_goals go_meet
        all_goals exact ⟨_, rfl, rfl, by assumption⟩
      case rest =>
        clear CP CE hcc
        obtain ⟨w13, rfl, rfl, hB13⟩ := hcut
        have b13 := hB13.out
        have Z0_13 := Lib.hid (Z0_12.out.keep b13)
        have P0_13 := Lib.hid (P0_12.out.keep b13)
        have P2_13 := Lib.hid (P2_12.out.keep b13)
        have G0_13 := Lib.hid (G0_12.out.keep b13)
        have V_A0_13 := Lib.hid ((b13.block _ (lt_of_block V_A0_12.out)).trans V_A0_12.out)
        have V_A2_13 := Lib.hid ((b13.block _ (lt_of_block V_A2_12.out)).trans V_A2_12.out)
        have V_Z0_13 := Lib.hid ((b13.block _ (lt_of_block V_Z0_12.out)).trans V_Z0_12.out)
        have V_P0_13 := Lib.hid ((b13.block _ (lt_of_block V_P0_12.out)).trans V_P0_12.out)
        have V_P2_13 := Lib.hid ((b13.block _ (lt_of_block V_P2_12.out)).trans V_P2_12.out)
        have V_G0_13 := Lib.hid ((b13.block _ (lt_of_block V_G0_12.out)).trans V_G0_12.out)
        have B13 := Lib.hid (B12.out.trans (b13.mono B12.out.size))
        clear b13 hB13
        have cv13_A0_0 := box_cell V_A0_13.out 0 _ rfl
        have cv13_A0_1 := box_cell V_A0_13.out 1 _ rfl
        have cv13_A2_0 := box_cell V_A2_13.out 0 _ rfl
        have cv13_Z0_0 := box_cell V_Z0_13.out 0 _ rfl
        have cv13_Z0_1 := box_cell V_Z0_13.out 1 _ rfl
        have cv13_P0_0 := box_cell V_P0_13.out 0 _ rfl
        have cv13_P0_1 := box_cell V_P0_13.out 1 _ rfl
        have cv13_P2_0 := box_cell V_P2_13.out 0 _ rfl
        have cv13_G0_0 := box_cell V_G0_13.out 0 _ rfl
        have cv13_G0_1 := box_cell V_G0_13.out 1 _ rfl
        go_wp2_with fail
        refine (mkD_disk _ X0 (some ⟨g5_0, 0, none⟩) n0_0 n0_0 _ (1 : Int) _ P0_13.out (by omega) (by have := HA.out; have := HY.out; have := HC0.out; omega)).mono ?_
        rintro e w14 ⟨rfl, m14, o14⟩
        rw [← HC0.out]
        have Z0_14 := Lib.hid (Z0_13.out.far o14 (apart_flip ap_Z0_P0.out))
        have P2_14 := Lib.hid (P2_13.out.far o14 ap_P0_P2.out)
        have G0_14 := Lib.hid (G0_13.out.far o14 ap_P0_G0.out)
        have V_A0_14 := Lib.hid ((o14.block _ (lt_of_block V_A0_13.out) NE_P0_A0.out).trans V_A0_13.out)
        have V_A2_14 := Lib.hid ((o14.block _ (lt_of_block V_A2_13.out) NE_P0_A2.out).trans V_A2_13.out)
        have V_Z0_14 := Lib.hid ((o14.block _ (lt_of_block V_Z0_13.out) NE_P0_Z0.out).trans V_Z0_13.out)
        have V_P0_14 := Lib.hid ((o14.block _ (lt_of_block V_P0_13.out) NE_P0_P0.out).trans V_P0_13.out)
        have V_P2_14 := Lib.hid ((o14.block _ (lt_of_block V_P2_13.out) NE_P0_P2.out).trans V_P2_13.out)
        have V_G0_14 := Lib.hid ((o14.block _ (lt_of_block V_G0_13.out) NE_P0_G0.out).trans V_G0_13.out)
        have B14 := Lib.hid (B13.out.trans (o14.below B13.out.size fun y hy => Nat.le_trans B4.out.size (P0_13.out.lt y hy).1))
        have P0_14 := Lib.hid m14
        clear m14 o14
        clear cv13_A0_0 cv13_A0_1 cv13_A2_0 cv13_Z0_0 cv13_Z0_1 cv13_P0_0 cv13_P0_1 cv13_P2_0 cv13_G0_0 cv13_G0_1
        have cv14_A0_0 := box_cell V_A0_14.out 0 _ rfl
        have cv14_A0_1 := box_cell V_A0_14.out 1 _ rfl
        have cv14_A2_0 := box_cell V_A2_14.out 0 _ rfl
        have cv14_Z0_0 := box_cell V_Z0_14.out 0 _ rfl
        have cv14_Z0_1 := box_cell V_Z0_14.out 1 _ rfl
        have cv14_P2_0 := box_cell V_P2_14.out 0 _ rfl
        have cv14_G0_0 := box_cell V_G0_14.out 0 _ rfl
        have cv14_G0_1 := box_cell V_G0_14.out 1 _ rfl
        go_wp2_with fail
        refine (mkD_page _ X2 (some ⟨g7_0, 0, none⟩) n2_0 n2_0 _ ((1 : Int) + (C0 : Int)) _ P2_14.out (by omega) (by have := HA.out; have := HY.out; have := HC2.out; have := HC0.out; omega)).mono ?_
        rintro e w15 ⟨rfl, m15, o15⟩
        rw [← HC2.out]
        have Z0_15 := Lib.hid (Z0_14.out.far o15 (apart_flip ap_Z0_P2.out))
        have G0_15 := Lib.hid (G0_14.out.far o15 ap_P2_G0.out)
        have V_A0_15 := Lib.hid ((o15.block _ (lt_of_block V_A0_14.out) NE_P2_A0.out).trans V_A0_14.out)
        have V_A2_15 := Lib.hid ((o15.block _ (lt_of_block V_A2_14.out) NE_P2_A2.out).trans V_A2_14.out)
        have V_Z0_15 := Lib.hid ((o15.block _ (lt_of_block V_Z0_14.out) NE_P2_Z0.out).trans V_Z0_14.out)
        have V_P2_15 := Lib.hid ((o15.block _ (lt_of_block V_P2_14.out) NE_P2_P2.out).trans V_P2_14.out)
        have V_G0_15 := Lib.hid ((o15.block _ (lt_of_block V_G0_14.out) NE_P2_G0.out).trans V_G0_14.out)
        have B15 := Lib.hid (B14.out.trans (o15.below B14.out.size fun y hy => Nat.le_trans B6.out.size (P2_14.out.lt y hy).1))
        have P2_15 := Lib.hid m15
        clear m15 o15
        have hk : ¬ (((1 : Int) + (C0 : Int) + (C2 : Int)) < 0) := by omega
        clear cv14_A0_0 cv14_A0_1 cv14_A2_0 cv14_Z0_0 cv14_Z0_1 cv14_P2_0 cv14_G0_0 cv14_G0_1
        have cv15_A0_0 := box_cell V_A0_15.out 0 _ rfl
        have cv15_A0_1 := box_cell V_A0_15.out 1 _ rfl
        have cv15_A2_0 := box_cell V_A2_15.out 0 _ rfl
        have cv15_Z0_0 := box_cell V_Z0_15.out 0 _ rfl
        have cv15_Z0_1 := box_cell V_Z0_15.out 1 _ rfl
        have cv15_G0_0 := box_cell V_G0_15.out 0 _ rfl
        have cv15_G0_1 := box_cell V_G0_15.out 1 _ rfl
        go_wp2_with fail
        refine (eqD_disk Y0 Y0 x9_0_0 k9_0_0 c9_0_0 x4_0_0 k4_0_0 c4_0_0 _ G0_15.out.inn Z0_15.out.inn).mono ?_
        rintro e w16 ⟨rfl, b16⟩
        rw [decide_eq_true (rfl : Y0 = Y0)]
        have Z0_16 := Lib.hid (Z0_15.out.keep b16)
        have G0_16 := Lib.hid (G0_15.out.keep b16)
        have V_A0_16 := Lib.hid ((b16.block _ (lt_of_block V_A0_15.out)).trans V_A0_15.out)
        have V_A2_16 := Lib.hid ((b16.block _ (lt_of_block V_A2_15.out)).trans V_A2_15.out)
        have V_Z0_16 := Lib.hid ((b16.block _ (lt_of_block V_Z0_15.out)).trans V_Z0_15.out)
        have V_G0_16 := Lib.hid ((b16.block _ (lt_of_block V_G0_15.out)).trans V_G0_15.out)
        have B16 := Lib.hid (B15.out.trans (b16.mono B15.out.size))
        clear b16
        clear cv15_A0_0 cv15_A0_1 cv15_A2_0 cv15_Z0_0 cv15_Z0_1 cv15_G0_0 cv15_G0_1
        have cv16_A0_0 := box_cell V_A0_16.out 0 _ rfl
        have cv16_A0_1 := box_cell V_A0_16.out 1 _ rfl
        have cv16_A2_0 := box_cell V_A2_16.out 0 _ rfl
        have cv16_Z0_0 := box_cell V_Z0_16.out 0 _ rfl
        have cv16_Z0_1 := box_cell V_Z0_16.out 1 _ rfl
        have cv16_G0_0 := box_cell V_G0_16.out 0 _ rfl
        have cv16_G0_1 := box_cell V_G0_16.out 1 _ rfl
        go_wp2_with fail
        refine (mkD_disk _ Y0 x9_0_0 k9_0_0 c9_0_0 _ (1 : Int) _ G0_16.out (by omega) (by have := HA.out; have := HY.out; have := HD0.out; omega)).mono ?_
        rintro e w17 ⟨rfl, m17, o17⟩
        rw [← HD0.out]
        have Z0_17 := Lib.hid (Z0_16.out.far o17 (apart_flip ap_Z0_G0.out))
        have V_A0_17 := Lib.hid ((o17.block _ (lt_of_block V_A0_16.out) NE_G0_A0.out).trans V_A0_16.out)
        have V_A2_17 := Lib.hid ((o17.block _ (lt_of_block V_A2_16.out) NE_G0_A2.out).trans V_A2_16.out)
        have V_Z0_17 := Lib.hid ((o17.block _ (lt_of_block V_Z0_16.out) NE_G0_Z0.out).trans V_Z0_16.out)
        have V_G0_17 := Lib.hid ((o17.block _ (lt_of_block V_G0_16.out) NE_G0_G0.out).trans V_G0_16.out)
        have B17 := Lib.hid (B16.out.trans (o17.below B16.out.size fun y hy => Nat.le_trans B8.out.size (G0_16.out.lt y hy).1))
        have G0_17 := Lib.hid m17
        clear m17 o17
        clear cv16_A0_0 cv16_A0_1 cv16_A2_0 cv16_Z0_0 cv16_Z0_1 cv16_G0_0 cv16_G0_1
        have cv17_A0_0 := box_cell V_A0_17.out 0 _ rfl
        have cv17_A0_1 := box_cell V_A0_17.out 1 _ rfl
        have cv17_A2_0 := box_cell V_A2_17.out 0 _ rfl
        have cv17_Z0_0 := box_cell V_Z0_17.out 0 _ rfl
        have cv17_Z0_1 := box_cell V_Z0_17.out 1 _ rfl
        have cv17_G0_0 := box_cell V_G0_17.out 0 _ rfl
        have cv17_G0_1 := box_cell V_G0_17.out 1 _ rfl
        go_wp2_with fail
        refine (hdD_disk Y0 x9_0_0 k9_0_0 c9_0_0 (1 : Int) _ G0_17.out.inn (by omega) (by have := HA.out; have := HY.out; have := HD0.out; omega)).mono ?_
        rintro e w18 ⟨rfl, b18⟩
        rw [← HD0.out]
        have Z0_18 := Lib.hid (Z0_17.out.keep b18)
        have G0_18 := Lib.hid (G0_17.out.keep b18)
        have V_A0_18 := Lib.hid ((b18.block _ (lt_of_block V_A0_17.out)).trans V_A0_17.out)
        have V_A2_18 := Lib.hid ((b18.block _ (lt_of_block V_A2_17.out)).trans V_A2_17.out)
        have V_Z0_18 := Lib.hid ((b18.block _ (lt_of_block V_Z0_17.out)).trans V_Z0_17.out)
        have V_G0_18 := Lib.hid ((b18.block _ (lt_of_block V_G0_17.out)).trans V_G0_17.out)
        have B18 := Lib.hid (B17.out.trans (b18.mono B17.out.size))
        clear b18
        have hq0 : ¬ (((1 : Int) + (D0 : Int)) < 0) := by omega
        clear cv17_A0_0 cv17_A0_1 cv17_A2_0 cv17_Z0_0 cv17_Z0_1 cv17_G0_0 cv17_G0_1
        have cv18_A0_0 := box_cell V_A0_18.out 0 _ rfl
        have cv18_A0_1 := box_cell V_A0_18.out 1 _ rfl
        have cv18_A2_0 := box_cell V_A2_18.out 0 _ rfl
        have cv18_Z0_0 := box_cell V_Z0_18.out 0 _ rfl
        have cv18_Z0_1 := box_cell V_Z0_18.out 1 _ rfl
        have cv18_G0_0 := box_cell V_G0_18.out 0 _ rfl
        have cv18_G0_1 := box_cell V_G0_18.out 1 _ rfl
        go_wp2_with fail
        have hcc : ∀ v', Below w18.heap.size w18 v' → v'.cell? ⟨w.heap.size, 0, none⟩ = some (.slice a0_0 n0_0 c0_0) ∧ v'.cell? ⟨w.heap.size, 1, none⟩ = some (.int .i64 X0.fNextName) ∧ v'.cell? ⟨w.heap.size + 1, 0, none⟩ = some (.slice a2_0 n2_0 c2_0) ∧ (∀ o, (v'.alloc o).cell? ⟨w.heap.size, 0, none⟩ = some (.slice a0_0 n0_0 c0_0)) ∧ (∀ o, (v'.alloc o).cell? ⟨w.heap.size, 1, none⟩ = some (.int .i64 X0.fNextName)) ∧ (∀ o, (v'.alloc o).cell? ⟨w.heap.size + 1, 0, none⟩ = some (.slice a2_0 n2_0 c2_0)) := fun v' hv => ⟨box_cell ((hv.block _ (lt_of_block V_A0_18.out)).trans V_A0_18.out) 0 _ rfl, box_cell ((hv.block _ (lt_of_block V_A0_18.out)).trans V_A0_18.out) 1 _ rfl, box_cell ((hv.block _ (lt_of_block V_A2_18.out)).trans V_A2_18.out) 0 _ rfl, fun o => Lib.cell?_alloc_some o (box_cell ((hv.block _ (lt_of_block V_A0_18.out)).trans V_A0_18.out) 0 _ rfl), fun o => Lib.cell?_alloc_some o (box_cell ((hv.block _ (lt_of_block V_A0_18.out)).trans V_A0_18.out) 1 _ rfl), fun o => Lib.cell?_alloc_some o (box_cell ((hv.block _ (lt_of_block V_A2_18.out)).trans V_A2_18.out) 0 _ rfl)⟩
        have CP0 := Lib.hid fun v  (hv : Below w18.heap.size w18 v)  => (toD_disk X0 a0_0 n0_0 c0_0 v (HI0.out.keep (B18.out.trans (hv.mono B18.out.size))) (by have := HA.out; omega)).mono fun e v' (h : ∃ (g0_0 : Nat) (F : List Reg), e = .returned (.agg #[.slice (some ⟨g0_0, 0, none⟩) n0_0 n0_0, .int .i64 X0.fNextName]) ∧ diskRep.own v' v.heap.size X0 (((some ⟨g0_0, 0, none⟩), n0_0, n0_0), ()) F ∧ Below v.heap.size v v') => (show ∃ (g0_0 : Nat) (F : List Reg), e = .returned (.agg #[.slice (some ⟨g0_0, 0, none⟩) n0_0 n0_0, .int .i64 X0.fNextName]) ∧ Hid (diskRep.inn v' X0 (((some ⟨g0_0, 0, none⟩), n0_0, n0_0), ())) ∧ Below w18.heap.size w18 v' ∧ v'.cell? ⟨w.heap.size, 0, none⟩ = some (.slice a0_0 n0_0 c0_0) ∧ v'.cell? ⟨w.heap.size, 1, none⟩ = some (.int .i64 X0.fNextName) ∧ v'.cell? ⟨w.heap.size + 1, 0, none⟩ = some (.slice a2_0 n2_0 c2_0) ∧ (∀ o, (v'.alloc o).cell? ⟨w.heap.size, 0, none⟩ = some (.slice a0_0 n0_0 c0_0)) ∧ (∀ o, (v'.alloc o).cell? ⟨w.heap.size, 1, none⟩ = some (.int .i64 X0.fNextName)) ∧ (∀ o, (v'.alloc o).cell? ⟨w.heap.size + 1, 0, none⟩ = some (.slice a2_0 n2_0 c2_0)) ∧ Below v.heap.size v v' from by
          obtain ⟨g0_0, F, he, hm, hb⟩ := h
          have hv' := hv.trans (hb.mono hv.size)
          exact ⟨g0_0, F, he, Lib.hid hm.inn, hv', by obtain ⟨e0, e1, e2, e3, e4, e5⟩ := hcc v' hv'; exact ⟨e0, e1, e2, e3, e4, e5, hb⟩⟩)
        have CP2 := Lib.hid fun v g0_0 (hv : Below w18.heap.size w18 v) (hi0 : Hid (diskRep.inn v X0 (((some ⟨g0_0, 0, none⟩), n0_0, n0_0), ()))) => (toD_page X2 a2_0 n2_0 c2_0 v (HI2.out.keep (B18.out.trans (hv.mono B18.out.size))) (by have := HA.out; omega)).mono fun e v' (h : ∃ (g2_0 : Nat) (F : List Reg), e = .returned (.agg #[.slice (some ⟨g2_0, 0, none⟩) n2_0 n2_0]) ∧ pageRep.own v' v.heap.size X2 ((some ⟨g2_0, 0, none⟩), n2_0, n2_0) F ∧ Below v.heap.size v v') => (show ∃ (g2_0 : Nat) (F : List Reg), e = .returned (.agg #[.slice (some ⟨g2_0, 0, none⟩) n2_0 n2_0]) ∧ Hid (diskRep.inn v' X0 (((some ⟨g0_0, 0, none⟩), n0_0, n0_0), ())) ∧ Hid (pageRep.inn v' X2 ((some ⟨g2_0, 0, none⟩), n2_0, n2_0)) ∧ Below w18.heap.size w18 v' ∧ v'.cell? ⟨w.heap.size, 0, none⟩ = some (.slice a0_0 n0_0 c0_0) ∧ v'.cell? ⟨w.heap.size, 1, none⟩ = some (.int .i64 X0.fNextName) ∧ v'.cell? ⟨w.heap.size + 1, 0, none⟩ = some (.slice a2_0 n2_0 c2_0) ∧ (∀ o, (v'.alloc o).cell? ⟨w.heap.size, 0, none⟩ = some (.slice a0_0 n0_0 c0_0)) ∧ (∀ o, (v'.alloc o).cell? ⟨w.heap.size, 1, none⟩ = some (.int .i64 X0.fNextName)) ∧ (∀ o, (v'.alloc o).cell? ⟨w.heap.size + 1, 0, none⟩ = some (.slice a2_0 n2_0 c2_0)) ∧ Below v.heap.size v v' from by
          obtain ⟨g2_0, F, he, hm, hb⟩ := h
          have hv' := hv.trans (hb.mono hv.size)
          exact ⟨g2_0, F, he, Lib.hid (diskRep.inn_keep hi0.out hb), Lib.hid hm.inn, hv', by obtain ⟨e0, e1, e2, e3, e4, e5⟩ := hcc v' hv'; exact ⟨e0, e1, e2, e3, e4, e5, hb⟩⟩)
        have CF := Lib.hid fun v g0_0 g2_0 (hv : Below w18.heap.size w18 v) (hi0 : Hid (diskRep.inn v X0 (((some ⟨g0_0, 0, none⟩), n0_0, n0_0), ()))) (hi2 : Hid (pageRep.inn v X2 ((some ⟨g2_0, 0, none⟩), n2_0, n2_0))) => (IP.out _ _ _ _ v hi0.out hi2.out).mono fun e v' h => (show ∃ (x0_0 : Option Addr) (k0_0 c0_0 : Nat) (F0 : List Reg), e = .returned (.tuple #[.agg #[.slice x0_0 k0_0 c0_0, .int .i64 Y0.fNextName], .bool Y1]) ∧ Hid (diskRep.own v' w18.heap.size Y0 ((x0_0, k0_0, c0_0), ()) F0) ∧ (∀ y ∈ F0, v.heap.size ≤ y.b) ∧ Below w18.heap.size w18 v' ∧ Below v.heap.size v v' from by
          obtain ⟨x0_0, k0_0, c0_0, F0, he, m0, hb⟩ := h
          exact ⟨x0_0, k0_0, c0_0, F0, he, Lib.hid (diskRep.own_mono m0 hv.size), (fun y hy => (m0.lt y hy).1), hv.trans (hb.mono hv.size), hb⟩)
        go_cut [17, 18] from 98 to 106 (fun s0 s1 wx => ∃ v, v = wx ∧ Hid (Cut Y0 Y1 w18 s0 s1 v))
        case first =>
          have hK : Below w18.heap.size w18 w18.drew := (Below.refl _ _).drew
          obtain ⟨e0, e1, e2, e3, e4, e5⟩ := hcc _ (Below.refl _ _)
          clear hcc
          try clear cv18_G0_1
          try clear cv18_G0_0
          try clear cv18_Z0_1
          try clear cv18_Z0_0
          try clear cv18_A2_0
          try clear cv18_A0_1
          try clear cv18_A0_0
          try clear hq0
          try clear B18
          try clear V_G0_18
          try clear V_Z0_18
          try clear V_A2_18
          try clear V_A0_18
          try clear G0_18
          try clear Z0_18
          try clear cv17_G0_1
          try clear cv17_G0_0
          try clear cv17_Z0_1
          try clear cv17_Z0_0
          try clear cv17_A2_0
          try clear cv17_A0_1
          try clear cv17_A0_0
          try clear G0_17
          try clear B17
          try clear V_G0_17
          try clear V_Z0_17
          try clear V_A2_17
          try clear V_A0_17
          try clear Z0_17
          try clear cv16_G0_1
          try clear cv16_G0_0
          try clear cv16_Z0_1
          try clear cv16_Z0_0
          try clear cv16_A2_0
          try clear cv16_A0_1
          try clear cv16_A0_0
          try clear B16
          try clear V_G0_16
          try clear V_Z0_16
          try clear V_A2_16
          try clear V_A0_16
          try clear G0_16
          try clear Z0_16
          try clear cv15_G0_1
          try clear cv15_G0_0
          try clear cv15_Z0_1
          try clear cv15_Z0_0
          try clear cv15_A2_0
          try clear cv15_A0_1
          try clear cv15_A0_0
          try clear hk
          try clear P2_15
          try clear B15
          try clear V_G0_15
          try clear V_P2_15
          try clear V_Z0_15
          try clear V_A2_15
          try clear V_A0_15
          try clear G0_15
          try clear Z0_15
          try clear cv14_G0_1
          try clear cv14_G0_0
          try clear cv14_P2_0
          try clear cv14_Z0_1
          try clear cv14_Z0_0
          try clear cv14_A2_0
          try clear cv14_A0_1
          try clear cv14_A0_0
          try clear P0_14
          try clear B14
          try clear V_G0_14
          try clear V_P2_14
          try clear V_P0_14
          try clear V_Z0_14
          try clear V_A2_14
          try clear V_A0_14
          try clear G0_14
          try clear P2_14
          try clear Z0_14
          try clear cv13_G0_1
          try clear cv13_G0_0
          try clear cv13_P2_0
          try clear cv13_P0_1
          try clear cv13_P0_0
          try clear cv13_Z0_1
          try clear cv13_Z0_0
          try clear cv13_A2_0
          try clear cv13_A0_1
          try clear cv13_A0_0
          try clear B13
          try clear V_G0_13
          try clear V_P2_13
          try clear V_P0_13
          try clear V_Z0_13
          try clear V_A2_13
          try clear V_A0_13
          try clear G0_13
          try clear P2_13
          try clear P0_13
          try clear Z0_13
          try clear b13
          try clear B12
          try clear V_G0_12
          try clear V_P2_12
          try clear V_P0_12
          try clear V_Z0_12
          try clear V_A2_12
          try clear V_A0_12
          try clear G0_12
          try clear P2_12
          try clear P0_12
          try clear Z0_12
          try clear b12
          try clear CE
          try clear B11
          try clear V_G0_11
          try clear V_P2_11
          try clear V_P0_11
          try clear V_Z0_11
          try clear V_A2_11
          try clear V_A0_11
          try clear G0_11
          try clear P2_11
          try clear P0_11
          try clear Z0_11
          try clear cv10_G0_1
          try clear cv10_G0_0
          try clear cv10_P2_0
          try clear cv10_P0_1
          try clear cv10_P0_0
          try clear cv10_Z0_1
          try clear cv10_Z0_0
          try clear cv10_A2_0
          try clear cv10_A0_1
          try clear cv10_A0_0
          try clear NE_G0_G0
          try clear NE_P2_G0
          try clear NE_P0_G0
          try clear NE_Z0_G0
          try clear V_G0_10
          try clear B10
          try clear V_P2_10
          try clear V_P0_10
          try clear V_Z0_10
          try clear V_A2_10
          try clear V_A0_10
          try clear G0_10
          try clear P2_10
          try clear P0_10
          try clear Z0_10
          try clear b10
          try clear NE_G0_P2
          try clear NE_G0_P0
          try clear NE_G0_Z0
          try clear NE_G0_A2
          try clear NE_G0_A0
          try clear ap_P2_G0
          try clear ap_P0_G0
          try clear ap_Z0_G0
          try clear G0_9
          try clear B9
          try clear V_P2_9
          try clear V_P0_9
          try clear V_Z0_9
          try clear V_A2_9
          try clear V_A0_9
          try clear P2_9
          try clear P0_9
          try clear Z0_9
          try clear cv8_P2_0
          try clear cv8_P0_1
          try clear cv8_P0_0
          try clear cv8_Z0_1
          try clear cv8_Z0_0
          try clear cv8_A2_0
          try clear cv8_A0_1
          try clear cv8_A0_0
          try clear NE_P2_P2
          try clear NE_P0_P2
          try clear NE_Z0_P2
          try clear V_P2_8
          try clear B8
          try clear V_P0_8
          try clear V_Z0_8
          try clear V_A2_8
          try clear V_A0_8
          try clear P2_8
          try clear P0_8
          try clear Z0_8
          try clear b8
          try clear NE_P2_P0
          try clear NE_P2_Z0
          try clear NE_P2_A2
          try clear NE_P2_A0
          try clear ap_P0_P2
          try clear ap_Z0_P2
          try clear P2_7
          try clear B7
          try clear V_P0_7
          try clear V_Z0_7
          try clear V_A2_7
          try clear V_A0_7
          try clear P0_7
          try clear Z0_7
          try clear cv6_P0_1
          try clear cv6_P0_0
          try clear cv6_Z0_1
          try clear cv6_Z0_0
          try clear cv6_A2_0
          try clear cv6_A0_1
          try clear cv6_A0_0
          try clear NE_P0_P0
          try clear NE_Z0_P0
          try clear V_P0_6
          try clear B6
          try clear V_Z0_6
          try clear V_A2_6
          try clear V_A0_6
          try clear P0_6
          try clear Z0_6
          try clear b6
          try clear NE_P0_Z0
          try clear NE_P0_A2
          try clear NE_P0_A0
          try clear ap_Z0_P0
          try clear P0_5
          try clear B5
          try clear V_Z0_5
          try clear V_A2_5
          try clear V_A0_5
          try clear Z0_5
          try clear cv4_Z0_1
          try clear cv4_Z0_0
          try clear cv4_A2_0
          try clear cv4_A0_1
          try clear cv4_A0_0
          try clear NE_Z0_Z0
          try clear V_Z0_4
          try clear NE_Z0_A2
          try clear NE_Z0_A0
          try clear Z0_4
          try clear B4
          try clear V_A2_4
          try clear V_A0_4
          try clear hv
          try clear cv3_A2_0
          try clear cv3_A0_1
          try clear cv3_A0_0
          try clear HD0
          try clear HC2
          try clear HC0
          try clear HY
          try clear hy0
          try clear IP
          try clear SP
          try clear HA
          try clear U2
          try clear B3
          try clear V_A2_3
          try clear V_A0_3
          try clear cv2_A2_0
          try clear cv2_A0_1
          try clear cv2_A0_0
          try clear p0
          try clear U0
          try clear B2
          try clear V_A2_2
          try clear V_A0_2
          try clear cv1_A2_0
          try clear cv1_A0_1
          try clear cv1_A0_0
          try clear V_A2_1
          try clear V_A0_1
          try clear B1
          try clear b1
          try clear bb1
          try clear B0
          try clear HZ2
          try clear HZ0
          try clear HI2
          try clear HI0
          go_region_with (first
            | (go_at_call 24; refine (CF.out _ _ _ (by first | assumption | exact Below.alloc (by assumption) (Below.size (by assumption)) _) (by first | assumption | exact Lib.hid (diskRep.inn_keep (Hid.out (by assumption)) (Below.alloc (Below.refl _ _) (Nat.le_refl _) _))) (by first | assumption | exact Lib.hid (pageRep.inn_keep (Hid.out (by assumption)) (Below.alloc (Below.refl _ _) (Nat.le_refl _) _)))).mono ?_; rintro e v ⟨x0_0, k0_0, c0_0, F0, rfl, m0, hlo0, hK, hst⟩; (first | (have hne0 := fun y (hy : y ∈ F0) => ne_old kbx (hlo0 y hy)) | (have hne0 := fun y (hy : y ∈ F0) => ne_new (hlo0 y hy)) | skip); (first | (have kbx := (hst.block _ (lt_of_block kbx)).trans kbx) | (have kbx := (hst.block _ (by simp)).trans (heap_alloc_new _ _)) | skip); (first | (have bc0 := box_cell kbx 0 _ rfl; have bc1 := box_cell kbx 1 _ rfl) | skip); (first | (have bcf : ∀ j, v.frozen? ⟨_, j, none⟩ = false := fun j => frozen_at kbx j) | skip))
            | (go_at_call 23; have hh := hi0; clear hh; refine (CP2.out _ _ (by first | assumption | exact Below.alloc (by assumption) (Below.size (by assumption)) _) (by first | assumption | exact Lib.hid (diskRep.inn_keep (Hid.out (by assumption)) (Below.alloc (Below.refl _ _) (Nat.le_refl _) _)))).mono ?_; rintro e v ⟨g2_0, F, rfl, hi0, hi2, hK, e0, e1, e2, e3, e4, e5, hst⟩; (first | (have kbx := (hst.block _ (lt_of_block kbx)).trans kbx) | (have kbx := (hst.block _ (by simp)).trans (heap_alloc_new _ _)) | skip); (first | (have bc0 := box_cell kbx 0 _ rfl; have bc1 := box_cell kbx 1 _ rfl) | skip); (first | (have bcf : ∀ j, v.frozen? ⟨_, j, none⟩ = false := fun j => frozen_at kbx j) | skip))
            | (go_at_call 14; refine (CP0.out _ (by first | assumption | exact Below.alloc (by assumption) (Below.size (by assumption)) _)).mono ?_; rintro e v ⟨g0_0, F, rfl, hi0, hK, e0, e1, e2, e3, e4, e5, hst⟩; (first | (have kbx := (hst.block _ (lt_of_block kbx)).trans kbx) | (have kbx := (hst.block _ (by simp)).trans (heap_alloc_new _ _)) | skip); (first | (have bc0 := box_cell kbx 0 _ rfl; have bc1 := box_cell kbx 1 _ rfl) | skip); (first | (have bcf : ∀ j, v.frozen? ⟨_, j, none⟩ = false := fun j => frozen_at kbx j) | skip)))
          all_goals go_wp2_with fail
          all_goals go_meet
          all_goals first | exact ⟨_, rfl, cut_fin Y0 Y1 m0 hK⟩ | exact ⟨_, rfl, cut_put Y0 Y1 m0 hK kbx (by first | exact Nat.le_refl _ | exact Below.size (by assumption)) hne0⟩
        case rest =>
          clear CF hcc CP0 CP2
          obtain ⟨w19, rfl, hcu⟩ := hcut
          obtain ⟨t19_0, x19_0_0, k19_0_0, c19_0_0, F19_0, rfl, rfl, kb0, lb0, m19_0, nb0_0, b19⟩ := hcu.out
          have Z0_19 := Lib.hid (Z0_18.out.keep b19)
          have G0_19 := Lib.hid (G0_18.out.keep b19)
          have V_A0_19 := Lib.hid ((b19.block _ (lt_of_block V_A0_18.out)).trans V_A0_18.out)
          have V_A2_19 := Lib.hid ((b19.block _ (lt_of_block V_A2_18.out)).trans V_A2_18.out)
          have V_Z0_19 := Lib.hid ((b19.block _ (lt_of_block V_Z0_18.out)).trans V_Z0_18.out)
          have V_G0_19 := Lib.hid ((b19.block _ (lt_of_block V_G0_18.out)).trans V_G0_18.out)
          have B19 := Lib.hid (B18.out.trans (b19.mono B18.out.size))
          have H0_19 := Lib.hid m19_0
          have ap_Z0_H0 : Hid (∀ x ∈ F4_0, ∀ y ∈ F19_0, Reg.apart x y) := Lib.hid (apart_lt (fun y hy => (Z0_18.out.lt y hy).2) (fun y hy => (m19_0.lt y hy).1))
          have ap_G0_H0 : Hid (∀ x ∈ F9_0, ∀ y ∈ F19_0, Reg.apart x y) := Lib.hid (apart_lt (fun y hy => (G0_18.out.lt y hy).2) (fun y hy => (m19_0.lt y hy).1))
          have NE_H0_A0 := Lib.hid (fun y (hy : y ∈ F19_0) => (show y.b ≠ _ from by have h1 := lt_of_block V_A0_18.out; have h2 := (m19_0.lt y hy).1; intro e; rw [e] at h2; exact absurd h1 (Nat.not_lt.2 h2)))
          have NE_H0_A2 := Lib.hid (fun y (hy : y ∈ F19_0) => (show y.b ≠ _ from by have h1 := lt_of_block V_A2_18.out; have h2 := (m19_0.lt y hy).1; intro e; rw [e] at h2; exact absurd h1 (Nat.not_lt.2 h2)))
          have NE_H0_Z0 := Lib.hid (fun y (hy : y ∈ F19_0) => (show y.b ≠ _ from by have h1 := lt_of_block V_Z0_18.out; have h2 := (m19_0.lt y hy).1; intro e; rw [e] at h2; exact absurd h1 (Nat.not_lt.2 h2)))
          have NE_H0_G0 := Lib.hid (fun y (hy : y ∈ F19_0) => (show y.b ≠ _ from by have h1 := lt_of_block V_G0_18.out; have h2 := (m19_0.lt y hy).1; intro e; rw [e] at h2; exact absurd h1 (Nat.not_lt.2 h2)))
          have V_H0_19 := Lib.hid kb0
          have NE_Z0_H0 : Hid (∀ y ∈ F4_0, y.b ≠ t19_0) := Lib.hid (fun y hy => by have := (Z0_18.out.lt y hy).2; omega)
          have NE_G0_H0 : Hid (∀ y ∈ F9_0, y.b ≠ t19_0) := Lib.hid (fun y hy => by have := (G0_18.out.lt y hy).2; omega)
          have NE_H0_H0 := Lib.hid nb0_0
          clear hcu b19 kb0 lb0 m19_0 nb0_0
          clear cv18_A0_0 cv18_A0_1 cv18_A2_0 cv18_Z0_0 cv18_Z0_1 cv18_G0_0 cv18_G0_1
          have cv19_A0_0 := box_cell V_A0_19.out 0 _ rfl
          have cv19_A0_1 := box_cell V_A0_19.out 1 _ rfl
          have cv19_A2_0 := box_cell V_A2_19.out 0 _ rfl
          have cv19_Z0_0 := box_cell V_Z0_19.out 0 _ rfl
          have cv19_Z0_1 := box_cell V_Z0_19.out 1 _ rfl
          have cv19_G0_0 := box_cell V_G0_19.out 0 _ rfl
          have cv19_G0_1 := box_cell V_G0_19.out 1 _ rfl
          have cv19_H0_0 := box_cell V_H0_19.out 0 _ rfl
          have cv19_H0_1 := box_cell V_H0_19.out 1 _ rfl
          go_wp2_with fail
          refine (eqD_disk Y0 Y0 x19_0_0 k19_0_0 c19_0_0 x4_0_0 k4_0_0 c4_0_0 _ H0_19.out.inn Z0_19.out.inn).mono ?_
          rintro e w20 ⟨rfl, b20⟩
          rw [decide_eq_true (rfl : Y0 = Y0)]
          have Z0_20 := Lib.hid (Z0_19.out.keep b20)
          have G0_20 := Lib.hid (G0_19.out.keep b20)
          have H0_20 := Lib.hid (H0_19.out.keep b20)
          have V_A0_20 := Lib.hid ((b20.block _ (lt_of_block V_A0_19.out)).trans V_A0_19.out)
          have V_A2_20 := Lib.hid ((b20.block _ (lt_of_block V_A2_19.out)).trans V_A2_19.out)
          have V_Z0_20 := Lib.hid ((b20.block _ (lt_of_block V_Z0_19.out)).trans V_Z0_19.out)
          have V_G0_20 := Lib.hid ((b20.block _ (lt_of_block V_G0_19.out)).trans V_G0_19.out)
          have V_H0_20 := Lib.hid ((b20.block _ (lt_of_block V_H0_19.out)).trans V_H0_19.out)
          have B20 := Lib.hid (B19.out.trans (b20.mono B19.out.size))
          clear b20
          clear cv19_A0_0 cv19_A0_1 cv19_A2_0 cv19_Z0_0 cv19_Z0_1 cv19_G0_0 cv19_G0_1 cv19_H0_0 cv19_H0_1
          have cv20_A0_0 := box_cell V_A0_20.out 0 _ rfl
          have cv20_A0_1 := box_cell V_A0_20.out 1 _ rfl
          have cv20_A2_0 := box_cell V_A2_20.out 0 _ rfl
          have cv20_Z0_0 := box_cell V_Z0_20.out 0 _ rfl
          have cv20_Z0_1 := box_cell V_Z0_20.out 1 _ rfl
          have cv20_G0_0 := box_cell V_G0_20.out 0 _ rfl
          have cv20_G0_1 := box_cell V_G0_20.out 1 _ rfl
          have cv20_H0_0 := box_cell V_H0_20.out 0 _ rfl
          have cv20_H0_1 := box_cell V_H0_20.out 1 _ rfl
          go_wp2_with fail
          refine (hdD_disk Y0 x9_0_0 k9_0_0 c9_0_0 (1 : Int) _ G0_20.out.inn (by omega) (by have := HA.out; have := HY.out; have := HD0.out; omega)).mono ?_
          rintro e w21 ⟨rfl, b21⟩
          rw [← HD0.out]
          have Z0_21 := Lib.hid (Z0_20.out.keep b21)
          have G0_21 := Lib.hid (G0_20.out.keep b21)
          have H0_21 := Lib.hid (H0_20.out.keep b21)
          have V_A0_21 := Lib.hid ((b21.block _ (lt_of_block V_A0_20.out)).trans V_A0_20.out)
          have V_A2_21 := Lib.hid ((b21.block _ (lt_of_block V_A2_20.out)).trans V_A2_20.out)
          have V_Z0_21 := Lib.hid ((b21.block _ (lt_of_block V_Z0_20.out)).trans V_Z0_20.out)
          have V_G0_21 := Lib.hid ((b21.block _ (lt_of_block V_G0_20.out)).trans V_G0_20.out)
          have V_H0_21 := Lib.hid ((b21.block _ (lt_of_block V_H0_20.out)).trans V_H0_20.out)
          have B21 := Lib.hid (B20.out.trans (b21.mono B20.out.size))
          clear b21
          clear cv20_A0_0 cv20_A0_1 cv20_A2_0 cv20_Z0_0 cv20_Z0_1 cv20_G0_0 cv20_G0_1 cv20_H0_0 cv20_H0_1
          have cv21_A0_0 := box_cell V_A0_21.out 0 _ rfl
          have cv21_A0_1 := box_cell V_A0_21.out 1 _ rfl
          have cv21_A2_0 := box_cell V_A2_21.out 0 _ rfl
          have cv21_Z0_0 := box_cell V_Z0_21.out 0 _ rfl
          have cv21_Z0_1 := box_cell V_Z0_21.out 1 _ rfl
          have cv21_G0_0 := box_cell V_G0_21.out 0 _ rfl
          have cv21_G0_1 := box_cell V_G0_21.out 1 _ rfl
          have cv21_H0_0 := box_cell V_H0_21.out 0 _ rfl
          have cv21_H0_1 := box_cell V_H0_21.out 1 _ rfl
          go_wp2_with fail
          go_ret
          exact ⟨rfl, B21.out⟩

/-! ### The row's step -/
theorem own : ownKnob Try.prog.godebug = none := by kernel_rfl
theorem laidOut : laidOutB Try.prog = true := by kernel_rfl
set_option maxRecDepth 100000 in
theorem lifted (os : Os) (started : os.Started) (H : Type) (enc : TypeId × Value → H) :
    ReturnsInHanded {} Try.checked os 6 .any (Rows.fnExactAppendPageSpec.pre6 enc Try.prog Try.f6 Rows.fnExactAppendPageRow.domain false) (Rows.fnExactAppendPageSpec.post enc Try.prog Try.f6 false true false false) := by
  refine returnsInHanded_of_change (C := Try.checked) own started (by kernel_rfl) Try.func6
    (ChangeSpec.witness6 (enc := enc) (C := Try.checked) false ⟨#[], #[.agg #[.slice none 0 0, .int .i64 0], .int .i64 0, .agg #[.slice none 0 0]], []⟩ 8 (by kernel_rfl) (by kernel_rfl) (by kernel_rfl) (by kernel_rfl)) ?_
  intro W base args ds gs before hval0 hW hcnd hsz
  have hval : ∀ (j : Nat) t v, Try.f6.params[j]? = some t → args[j]? = some v → Value.okWide Try.prog W .any base t v := hval0
  have hW' := hW
  obtain ⟨p, q, hA0, hV, rfl, hfz, hnd⟩ := hW
  have hA : DataW.TrodAll enc Try.prog W 0 (fun _ => true) true Try.f6.params.toList args.toList ds p := hA0
  rw [Try.params6] at hA hval
  obtain ⟨v0, vs0, d0, ds0, p0, q0, hargs, rfl, rfl, h0, r0⟩ := trodAll_cons hA
  obtain ⟨v1, vs1, d1, ds1, p1, q1, rfl, rfl, rfl, h1, r1⟩ := trodAll_cons r0
  obtain ⟨v2, vs2, d2, ds2, p2, q2, rfl, rfl, rfl, h2, r2⟩ := trodAll_cons r1
  obtain ⟨rfl, rfl, rfl⟩ := trodAll_nil r2
  obtain rfl : args = #[v0, v1, v2] := by cases args; simp_all
  obtain ⟨rfl, rfl⟩ := trodVars_none hV
  have k0 := h0
  have lt0 : ∀ x ∈ p0, x.block < W.heap.size := by obtain ⟨m, hm⟩ := k0; exact DataW.trod_lt m _ _ _ hm
  obtain ⟨a0_0, n0_0, c0_0, L0, rfl, w0⟩ := openD_disk (hval 0 26 v0 rfl rfl) h0
  obtain ⟨a1, rfl, rfl, rfl, w1⟩ := open_int Try.underlying3 (hval 1 3 v1 rfl rfl) h1
  have k2 := h2
  have lt2 : ∀ x ∈ p2, x.block < W.heap.size := by obtain ⟨m, hm⟩ := k2; exact DataW.trod_lt m _ _ _ hm
  obtain ⟨a2_0, n2_0, c2_0, L2, rfl, w2⟩ := openD_page (hval 2 40 v2 rfl rfl) h2
  clear hA0 hval0
  refine (walk a0_0 n0_0 c0_0 L0 W w0 a1 w1 a2_0 n2_0 c2_0 L2 w2).mono fun e W' ⟨he, bel⟩ => ?_
  subst he
  exact ⟨_, rfl, _, _, _, [], _, [], hW', trodAll_mk1 (shut_bool Try.underlying4 _), (trodAll_cons_mk (Below.trod laidOut (by kernel_rfl) (of_decide_eq_true (by kernel_rfl)) k0 bel lt0) (trodAll_cons_mk (shut_int Try.underlying3 w1) (trodAll_cons_mk (Below.trod laidOut (by kernel_rfl) (of_decide_eq_true (by kernel_rfl)) k2 bel lt2) trodAll_mk0))), rfl, bel.frame _, fun h => by cases h⟩
theorem over : Rows.fnExactAppendPageRow.holds Try.pinned (OpenSpec.ofChange Rows.fnExactAppendPageSpec) :=
  OpenClaim.holds_of_wide 6 Try.f6 rfl rfl rfl rfl rfl rfl rfl ⟨rfl, rfl, rfl, rfl, rfl⟩ rfl rfl rfl rfl rfl (by kernel_rfl) Try.func6 (by kernel_rfl)
    (of_decide_eq_true (by kernel_rfl)) (by unfold Func.isWrapper; first | (rw [if_pos (by decide +kernel)]; kernel_rfl) | (rw [if_neg (by decide +kernel)]; exact ⟨rfl, rfl⟩))
    (fun os started H enc _ => lifted os started H enc)
/-- The statement. -/
theorem proved : Rows.FnExactAppendPageSaid := over
#print axioms proved
end Go.Proofs.Ythbifibnnhikjaa.FnExactAppendPage
