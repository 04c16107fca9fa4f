/- Proved: for every disk the law FnExactCountPages returns true: the program's CountPages answers as the reference's, and leaves its argument alone (the law itself answers true above 2^20 elements). No condition. -/
import Derived.Test.YthbifibnnhikjaaPartSixd
import Derived.Test.YthbifibnnhikjaaRows
import Derived.Deep.CutRange
import Derived.Deep.RegionWith
import Derived.ProofKit
import Derived.OpenShut
import Derived.ShutString
import Derived.ChangeOld
namespace Go.Proofs.Ythbifibnnhikjaa.FnExactCountPages
open Go Go.ChangeShapes Go.WideShapes Go.ChangeAt Go.RowKit
open Go.ChangeMaps (open_string shut_string)
set_option linter.unusedVariables false

def Ans (Y0 : Int) (v : World) (e : Ending) (v' : World) : Prop := e = .returned (.int .i64 Y0) ∧ Below v.heap.size v v'
set_option maxRecDepth 100000 in
set_option maxHeartbeats 4000000 in
theorem walk (a0_0 : Option Addr) (n0_0 c0_0 : Nat) (X0 : DiskD) (w : World) (h0 : diskRep.inn w X0 ((a0_0, n0_0, c0_0), ())) : Calls Try.prog 8 #[.agg #[.slice a0_0 n0_0 c0_0, .int .i64 X0.fNextName]] w fun e w' => e = .returned (.bool true) ∧ Below w.heap.size w w' := by
  have HI0 := Lib.hid h0
  clear h0
  obtain ⟨z0, hz0⟩ : ∃ z, z = szR 1048576 (wtDisk X0) := ⟨_, rfl⟩
  have HZ0 := Lib.hid hz0
  clear hz0
  have B0 := Lib.hid (Below.refl w.heap.size w)
  obtain ⟨w1, hv1⟩ : ∃ v, v = (w.alloc (.cells #[.slice a0_0 n0_0 c0_0, .int .i64 X0.fNextName] 26)) := ⟨_, rfl⟩
  have b1 : Below w.heap.size w w1 := by rw [hv1]; exact (Below.refl _ _).alloc (Nat.le_refl _) _
  have B1 := Lib.hid (B0.out.trans (b1.mono B0.out.size))
  have V_A0_1 : Hid (w1.heap[w.heap.size]? = some (.cells #[.slice a0_0 n0_0 c0_0, .int .i64 X0.fNextName] 26 (0, 0))) := Lib.hid (by rw [hv1]; exact heap_alloc_new _ _)
  clear b1
  go_enter Try.func8, Try.ntmps8
  have cv1_A0_0 := box_cell V_A0_1.out 0 _ rfl
  rw [hv1] at cv1_A0_0
  have cv1_A0_1 := box_cell V_A0_1.out 1 _ rfl
  rw [hv1] at cv1_A0_1
  go_wp2_with fail
  rw [← hv1]
  clear hv1 cv1_A0_0 cv1_A0_1
  refine (szD_disk X0 a0_0 n0_0 c0_0 1048576 _ (HI0.out.keep B1.out) (by omega) (by omega)).mono ?_
  rintro e w2 ⟨rfl, b2⟩
  rw [← HZ0.out]
  have V_A0_2 := Lib.hid ((b2.block _ (lt_of_block V_A0_1.out)).trans V_A0_1.out)
  have B2 := Lib.hid (B1.out.trans (b2.mono B1.out.size))
  clear b2
  by_cases hz0 : z0 < 0
  · go_wp2_with fail
    go_ret
    exact ⟨rfl, B2.out⟩
  have U0 := Lib.hid (sz_step HZ0.out (by omega))
  have HA : Hid (wtDisk X0 ≤ 1048576 ∧ diskMkV.cnt X0 ≤ 64 * wtDisk X0) := Lib.hid ⟨by have := U0.out; omega, cntV_disk X0⟩
  clear U0
  have SP := Lib.hid fun (p0_0 : Option Addr) (d0_0 : Nat) (v : World) (h0 : diskRep.inn v X0 ((p0_0, n0_0, d0_0), ())) => (show Calls Try.prog 29 #[.agg #[.slice p0_0 n0_0 d0_0, .int .i64 X0.fNextName]] v (Ans ((DiskD.count X0.fFiles : Int)) v) from scountp p0_0 n0_0 d0_0 X0 v h0 (by have := HA.out; omega))
  have IP := Lib.hid fun (p0_0 : Option Addr) (d0_0 : Nat) (v : World) (h0 : diskRep.inn v X0 ((p0_0, n0_0, d0_0), ())) => (show Calls Try.prog 30 #[.agg #[.slice p0_0 n0_0 d0_0, .int .i64 X0.fNextName]] v (Ans ((DiskD.count X0.fFiles : Int)) v) from icountp p0_0 n0_0 d0_0 X0 v h0 (by have := HA.out; omega))
  obtain ⟨Y0, hY0⟩ : ∃ Y, Y = (DiskD.count X0.fFiles : Int) := ⟨_, rfl⟩
  rw [← hY0] at SP IP
  clear hY0
  have cv2_A0_0 := box_cell V_A0_2.out 0 _ rfl
  have cv2_A0_1 := box_cell V_A0_2.out 1 _ rfl
  go_wp2_with fail
  refine (toD_disk X0 a0_0 n0_0 c0_0 _ (HI0.out.keep B2.out) (by have := HA.out; omega)).mono ?_
  rintro e w3 ⟨g3_0, F3, rfl, m3_0, b3⟩
  have V_A0_3 := Lib.hid ((b3.block _ (lt_of_block V_A0_2.out)).trans V_A0_2.out)
  have B3 := Lib.hid (B2.out.trans (b3.mono B2.out.size))
  have S0_3 := Lib.hid m3_0
  have NE_S0_A0 := Lib.hid (fun y (hy : y ∈ F3) => (show y.b ≠ _ from by have h1 := lt_of_block V_A0_2.out; have h2 := (m3_0.lt y hy).1; intro e; rw [e] at h2; exact absurd h1 (Nat.not_lt.2 h2)))
  clear b3 m3_0
  clear cv2_A0_0 cv2_A0_1
  have cv3_A0_0 := box_cell V_A0_3.out 0 _ rfl
  have cv3_A0_1 := box_cell V_A0_3.out 1 _ rfl
  go_wp2_with fail
  refine (SP.out _ _ _ S0_3.out.inn).mono ?_
  rintro e w4 ⟨rfl, b4⟩
  have S0_4 := Lib.hid (S0_3.out.keep b4)
  have V_A0_4 := Lib.hid ((b4.block _ (lt_of_block V_A0_3.out)).trans V_A0_3.out)
  have B4 := Lib.hid (B3.out.trans (b4.mono B3.out.size))
  clear b4
  clear cv3_A0_0 cv3_A0_1
  have cv4_A0_0 := box_cell V_A0_4.out 0 _ rfl
  have cv4_A0_1 := box_cell V_A0_4.out 1 _ rfl
  go_wp2_with fail
  refine (toD_disk X0 a0_0 n0_0 c0_0 _ (HI0.out.keep B4.out) (by have := HA.out; omega)).mono ?_
  rintro e w5 ⟨g5_0, F5, rfl, m5_0, b5⟩
  have V_A0_5 := Lib.hid ((b5.block _ (lt_of_block V_A0_4.out)).trans V_A0_4.out)
  have B5 := Lib.hid (B4.out.trans (b5.mono B4.out.size))
  have P0_5 := Lib.hid m5_0
  have NE_P0_A0 := Lib.hid (fun y (hy : y ∈ F5) => (show y.b ≠ _ from by have h1 := lt_of_block V_A0_4.out; have h2 := (m5_0.lt y hy).1; intro e; rw [e] at h2; exact absurd h1 (Nat.not_lt.2 h2)))
  clear b5 m5_0
  obtain ⟨w6, hv6⟩ : ∃ v, v = (w5.alloc (.cells #[.slice (some ⟨g5_0, 0, none⟩) n0_0 n0_0, .int .i64 X0.fNextName] 31)) := ⟨_, rfl⟩
  have b6 : Below w5.heap.size w5 w6 := by rw [hv6]; exact (Below.refl _ _).alloc (Nat.le_refl _) _
  have P0_6 := Lib.hid (P0_5.out.keep b6)
  have V_A0_6 := Lib.hid ((b6.block _ (lt_of_block V_A0_5.out)).trans V_A0_5.out)
  have B6 := Lib.hid (B5.out.trans (b6.mono B5.out.size))
  have V_P0_6 : Hid (w6.heap[w5.heap.size]? = some (.cells #[.slice (some ⟨g5_0, 0, none⟩) n0_0 n0_0, .int .i64 X0.fNextName] 31 (0, 0))) := Lib.hid (by rw [hv6]; exact heap_alloc_new _ _)
  have NE_P0_P0 : Hid (∀ y ∈ F5, y.b ≠ w5.heap.size) := Lib.hid (fun y hy => by have := (P0_5.out.lt y hy).2; omega)
  clear b6
  clear cv4_A0_0 cv4_A0_1
  have cv6_A0_0 := box_cell V_A0_6.out 0 _ rfl
  rw [hv6] at cv6_A0_0
  have cv6_A0_1 := box_cell V_A0_6.out 1 _ rfl
  rw [hv6] at cv6_A0_1
  have cv6_P0_0 := box_cell V_P0_6.out 0 _ rfl
  rw [hv6] at cv6_P0_0
  have cv6_P0_1 := box_cell V_P0_6.out 1 _ rfl
  rw [hv6] at cv6_P0_1
  go_wp2_with fail
  rw [← hv6]
  clear hv6 cv6_A0_0 cv6_A0_1 cv6_P0_0 cv6_P0_1
  refine (IP.out _ _ _ P0_6.out.inn).mono ?_
  rintro e w7 ⟨rfl, b7⟩
  have P0_7 := Lib.hid (P0_6.out.keep b7)
  have V_A0_7 := Lib.hid ((b7.block _ (lt_of_block V_A0_6.out)).trans V_A0_6.out)
  have V_P0_7 := Lib.hid ((b7.block _ (lt_of_block V_P0_6.out)).trans V_P0_6.out)
  have B7 := Lib.hid (B6.out.trans (b7.mono B6.out.size))
  clear b7
  go_wp2_with fail
  have hcc : ∀ v', Below w7.heap.size w7 v' → v'.cell? ⟨w.heap.size, 0, none⟩ = some (.slice a0_0 n0_0 c0_0) ∧ v'.cell? ⟨w.heap.size, 1, none⟩ = some (.int .i64 X0.fNextName) ∧ v'.cell? ⟨w5.heap.size, 0, none⟩ = some (.slice (some ⟨g5_0, 0, none⟩) n0_0 n0_0) ∧ v'.cell? ⟨w5.heap.size, 1, none⟩ = some (.int .i64 X0.fNextName) := fun v' hv => ⟨box_cell ((hv.block _ (lt_of_block V_A0_7.out)).trans V_A0_7.out) 0 _ rfl, box_cell ((hv.block _ (lt_of_block V_A0_7.out)).trans V_A0_7.out) 1 _ rfl, box_cell ((hv.block _ (lt_of_block V_P0_7.out)).trans V_P0_7.out) 0 _ rfl, box_cell ((hv.block _ (lt_of_block V_P0_7.out)).trans V_P0_7.out) 1 _ rfl⟩
  have CP := Lib.hid fun v (hv : Below w7.heap.size w7 v) => (toD_disk X0 a0_0 n0_0 c0_0 v (HI0.out.keep (B7.out.trans (hv.mono B7.out.size))) (by have := HA.out; omega)).mono fun e v' (h : ∃ (g0 : Nat) (F : List Reg), e = .returned (.agg #[.slice (some ⟨g0, 0, none⟩) n0_0 n0_0, .int .i64 X0.fNextName]) ∧ diskRep.own v' v.heap.size X0 (((some ⟨g0, 0, none⟩), n0_0, n0_0), ()) F ∧ Below v.heap.size v v') => (show ∃ (g0 : Nat) (F : List Reg), e = .returned (.agg #[.slice (some ⟨g0, 0, none⟩) n0_0 n0_0, .int .i64 X0.fNextName]) ∧ Hid (diskRep.inn v' X0 (((some ⟨g0, 0, none⟩), n0_0, n0_0), ())) ∧ Below w7.heap.size w7 v' ∧ v'.cell? ⟨w.heap.size, 0, none⟩ = some (.slice a0_0 n0_0 c0_0) ∧ v'.cell? ⟨w.heap.size, 1, none⟩ = some (.int .i64 X0.fNextName) ∧ v'.cell? ⟨w5.heap.size, 0, none⟩ = some (.slice (some ⟨g5_0, 0, none⟩) n0_0 n0_0) ∧ v'.cell? ⟨w5.heap.size, 1, none⟩ = some (.int .i64 X0.fNextName) from by
    obtain ⟨g0, F, he, hm, hb⟩ := h
    have hv' := hv.trans (hb.mono hv.size)
    exact ⟨g0, F, he, Lib.hid hm.inn, hv', hcc v' hv'⟩)
  have CE := Lib.hid fun v g0 (hv : Below w7.heap.size w7 v) (hr : Hid (diskRep.inn v X0 (((some ⟨g0, 0, none⟩), n0_0, n0_0), ()))) => (eqD_disk X0 X0 (some ⟨g5_0, 0, none⟩) n0_0 n0_0 (some ⟨g0, 0, none⟩) n0_0 n0_0 v (P0_7.out.inn.keep hv) hr.out).mono fun e v' (h : e = .returned (.bool (decide (X0 = X0))) ∧ Below v.heap.size v v') => (show e = .returned (.bool true) ∧ Below w7.heap.size w7 v' from ⟨by rw [h.1, decide_eq_true rfl], hv.trans (h.2.mono hv.size)⟩)
  go_cut [26] from 22 to 26 (fun sx wx => ∃ v, v = wx ∧ sx = .bool false ∧ Hid (Below w7.heap.size w7 v))
  case first =>
    have hK : Below w7.heap.size w7 w7.drew := (Below.refl _ _).drew
    obtain ⟨c0, c1, c2, c3⟩ := hcc _ (Below.refl _ _)
    clear hcc
    go_region_with (first
      | (go_at_call 14; refine (CP.out _ (by assumption)).mono ?_; rintro e v ⟨g0, F, rfl, hrr, hK, c0, c1, c2, c3⟩)
      | (go_at_call 16; refine (CE.out _ _ (by assumption) (by assumption)).mono ?_; rintro e v ⟨rfl, hK⟩))
    all_goals go_wp2_with fail
    all_goals go_meet
    all_goals exact ⟨_, rfl, rfl, by assumption⟩
  case rest =>
    clear CP CE hcc
    obtain ⟨w8, rfl, rfl, hB8⟩ := hcut
    have b8 := hB8.out
    have P0_8 := Lib.hid (P0_7.out.keep b8)
    have V_A0_8 := Lib.hid ((b8.block _ (lt_of_block V_A0_7.out)).trans V_A0_7.out)
    have V_P0_8 := Lib.hid ((b8.block _ (lt_of_block V_P0_7.out)).trans V_P0_7.out)
    have B8 := Lib.hid (B7.out.trans (b8.mono B7.out.size))
    clear b8 hB8
    have cv8_A0_0 := box_cell V_A0_8.out 0 _ rfl
    have cv8_A0_1 := box_cell V_A0_8.out 1 _ rfl
    have cv8_P0_0 := box_cell V_P0_8.out 0 _ rfl
    have cv8_P0_1 := box_cell V_P0_8.out 1 _ rfl
    go_wp2_with fail
    go_ret
    exact ⟨rfl, B8.out⟩

/-! ### The row's step -/
theorem own : ownKnob Try.prog.godebug = none := by kernel_rfl
theorem laidOut : laidOutB Try.prog = true := by kernel_rfl
set_option maxRecDepth 100000 in
theorem lifted (os : Os) (started : os.Started) (H : Type) (enc : TypeId × Value → H) :
    ReturnsInHanded {} Try.checked os 8 .any (Rows.fnExactCountPagesSpec.pre6 enc Try.prog Try.f8 Rows.fnExactCountPagesRow.domain false) (Rows.fnExactCountPagesSpec.post enc Try.prog Try.f8 false true false false) := by
  refine returnsInHanded_of_change (C := Try.checked) own started (by kernel_rfl) Try.func8
    (ChangeSpec.witness6 (enc := enc) (C := Try.checked) false ⟨#[], #[.agg #[.slice none 0 0, .int .i64 0]], []⟩ 8 (by kernel_rfl) (by kernel_rfl) (by kernel_rfl) (by kernel_rfl)) ?_
  intro W base args ds gs before hval0 hW hcnd hsz
  have hval : ∀ (j : Nat) t v, Try.f8.params[j]? = some t → args[j]? = some v → Value.okWide Try.prog W .any base t v := hval0
  have hW' := hW
  obtain ⟨p, q, hA0, hV, rfl, hfz, hnd⟩ := hW
  have hA : DataW.TrodAll enc Try.prog W 0 (fun _ => true) true Try.f8.params.toList args.toList ds p := hA0
  rw [Try.params8] at hA hval
  obtain ⟨v0, vs0, d0, ds0, p0, q0, hargs, rfl, rfl, h0, r0⟩ := trodAll_cons hA
  obtain ⟨rfl, rfl, rfl⟩ := trodAll_nil r0
  obtain rfl : args = #[v0] := by cases args; simp_all
  obtain ⟨rfl, rfl⟩ := trodVars_none hV
  have k0 := h0
  have lt0 : ∀ x ∈ p0, x.block < W.heap.size := by obtain ⟨m, hm⟩ := k0; exact DataW.trod_lt m _ _ _ hm
  obtain ⟨a0_0, n0_0, c0_0, L0, rfl, w0⟩ := openD_disk (hval 0 26 v0 rfl rfl) h0
  clear hA0 hval0
  refine (walk a0_0 n0_0 c0_0 L0 W w0).mono fun e W' ⟨he, bel⟩ => ?_
  subst he
  exact ⟨_, rfl, _, _, _, [], _, [], hW', trodAll_mk1 (shut_bool Try.underlying4 _), (trodAll_cons_mk (Below.trod laidOut (by kernel_rfl) (of_decide_eq_true (by kernel_rfl)) k0 bel lt0) trodAll_mk0), rfl, bel.frame _, fun h => by cases h⟩
theorem over : Rows.fnExactCountPagesRow.holds Try.pinned (OpenSpec.ofChange Rows.fnExactCountPagesSpec) :=
  OpenClaim.holds_of_wide 8 Try.f8 rfl rfl rfl rfl rfl rfl rfl ⟨rfl, rfl, rfl, rfl, rfl⟩ rfl rfl rfl rfl rfl (by kernel_rfl) Try.func8 (by kernel_rfl)
    (of_decide_eq_true (by kernel_rfl)) (by unfold Func.isWrapper; first | (rw [if_pos (by decide +kernel)]; kernel_rfl) | (rw [if_neg (by decide +kernel)]; exact ⟨rfl, rfl⟩))
    (fun os started H enc _ => lifted os started H enc)
/-- The statement. -/
theorem proved : Rows.FnExactCountPagesSaid := over
#print axioms proved
end Go.Proofs.Ythbifibnnhikjaa.FnExactCountPages
