/- Proved: for every slice of pages the law FnExactUnpackPages returns true: the program's UnpackPages answers as the reference's, leaves its argument alone, and answers in memory of its own that a later call does not touch (the law itself answers true above 2^20 rows and pages together). No condition. -/
import Derived.Test.YtoiobaiiammehaaRows
import Derived.Test.YtoiobaiiammehaaGives
import Derived.Test.YtoiobaiiammehaaUnpackS
import Derived.Test.YtoiobaiiammehaaPacki
import Derived.ProofKit
import Derived.OpenShut
import Derived.ShutString
import Derived.ChangeOld
namespace Go.Proofs.Ytoiobaiiammehaa.FnExactUnpackPages
open Go Go.ChangeShapes Go.WideShapes Go.ChangeAt Go.RowKit
open Go.ChangeMaps (open_string shut_string)
set_option linter.unusedVariables false

set_option maxRecDepth 100000 in
set_option maxHeartbeats 1000000 in
theorem walk (a : Option Addr) (len cap : Nat) (X : List (List R)) (w : World) (h : SeqIn pageRep w a len X) : Calls Try.prog 5 #[.slice a len cap] w fun e w' => e = .returned (.bool true) ∧ Below w.heap.size w w' := by
  have hm := h.2.1
  have HL := Lib.hid h.1
  have HI := Lib.hid h
  clear h
  obtain ⟨N, hN⟩ : ∃ N, N = X.flatten.length := ⟨_, rfl⟩
  have HN := Lib.hid hN
  clear hN
  obtain ⟨z, hzz⟩ : ∃ z, z = szP 1048576 X := ⟨_, rfl⟩
  have HZ := Lib.hid hzz
  clear hzz
  have SZ := Lib.hid (szpages a len cap X 1048576 w (HI.out) (by omega) (by omega))
  rw [← HZ.out] at SZ
  by_cases hz : z < 0
  · go_enter Try.func5, Try.ntmps5
    go_wp2_with fail
    refine SZ.out.mono ?_
    rintro e w1 ⟨rfl, bz⟩
    have BZ := Lib.hid bz
    clear bz
    go_wp2_with fail
    go_ret
    exact ⟨rfl, BZ.out⟩
  have hle := szP_le (by rw [← HZ.out]; exact hz)
  rw [HL.out, ← HN.out] at hle
  clear HZ
  have SP := Lib.hid fun (a1 : Option Addr) (c1 : Nat) (v : World) (h1 : SeqIn pageRep v a1 len X) => (sunpackG a1 len c1 X v h1 (by omega) (by have := HN.out; omega))
  have IP := Lib.hid fun (a1 : Option Addr) (c1 : Nat) (v : World) (h1 : SeqIn pageRep v a1 len X) => iunpack a1 len c1 X v h1 (by omega) (by have := HN.out; omega)
  have hyl : X.flatten.length ≤ 1048576 := by have := HN.out; omega
  obtain ⟨Y, hY⟩ : ∃ Y, Y = X.flatten := ⟨_, rfl⟩
  rw [← hY] at SP IP hyl
  clear hY
  have B0 := Lib.hid (Below.refl w.heap.size w)
  go_enter Try.func5, Try.ntmps5
  go_wp2_with fail
  refine SZ.out.mono ?_
  rintro e w1 ⟨rfl, b1⟩
  have B1 := Lib.hid (B0.out.trans (b1.mono B0.out.size))
  clear b1
  go_wp2_with fail
  refine (topages a len cap X _ (HI.out.keep B1.out) (by omega) (by have := HN.out; omega)).mono ?_
  rintro e w2 ⟨g2, F2, rfl, m2, b2⟩
  have B2 := Lib.hid (B1.out.trans (b2.mono B1.out.size))
  have S_2 := Lib.hid m2
  clear b2 m2
  go_wp2_with fail
  refine (SP.out _ _ _ S_2.out.inn).mono ?_
  rintro e w3 ⟨x3, k3, c3, F3, rfl, m3, b3⟩
  have hk3 : k3 = Y.length := m3.1.symm
  have hkm3 : ¬ ((1 : Int) + 3 * (k3 : Int) < 0) := by omega
  have hkb3 : k3 ≤ 2000000 := by omega
  clear hk3
  have S_3 := Lib.hid (S_2.out.keep b3)
  have B3 := Lib.hid (B2.out.trans (b3.mono B2.out.size))
  have Z_3 := Lib.hid m3
  have ap_S_Z := Lib.hid (apart_new S_2.out m3 (Nat.le_refl _))
  clear b3 m3
  go_wp2_with fail
  refine (topages a len cap X _ (HI.out.keep B3.out) (by omega) (by have := HN.out; omega)).mono ?_
  rintro e w4 ⟨g4, F4, rfl, m4, b4⟩
  have Z_4 := Lib.hid (Z_3.out.keep b4)
  have B4 := Lib.hid (B3.out.trans (b4.mono B3.out.size))
  have X_4 := Lib.hid m4
  have ap_Z_X := Lib.hid (apart_new Z_3.out m4 (Nat.le_refl _))
  clear b4 m4
  go_wp2_with fail
  refine (IP.out _ _ _ X_4.out.inn).mono ?_
  rintro e w5 ⟨x5, k5, c5, F5, rfl, m5, b5⟩
  have hk5 : k5 = Y.length := m5.1.symm
  have hkm5 : ¬ ((1 : Int) + 3 * (k5 : Int) < 0) := by omega
  have hkb5 : k5 ≤ 2000000 := by omega
  clear hk5
  have Z_5 := Lib.hid (Z_4.out.keep b5)
  have X_5 := Lib.hid (X_4.out.keep b5)
  have B5 := Lib.hid (B4.out.trans (b5.mono B4.out.size))
  have G_5 := Lib.hid m5
  have ap_Z_G := Lib.hid (apart_new Z_4.out m5 (Nat.le_refl _))
  have ap_X_G := Lib.hid (apart_new X_4.out m5 (Nat.le_refl _))
  clear b5 m5
  go_wp2_with fail
  refine (eqrows _ _ _ _ _ _ Y Y _ (rows_in G_5.out.inn) (rows_in Z_5.out.inn) (by omega) (by omega)).mono ?_
  rintro e w6 ⟨rfl, b6⟩
  rw [decide_eq_true (rfl : Y = Y)]
  have Z_6 := Lib.hid (Z_5.out.keep b6)
  have X_6 := Lib.hid (X_5.out.keep b6)
  have G_6 := Lib.hid (G_5.out.keep b6)
  have B6 := Lib.hid (B5.out.trans (b6.mono B5.out.size))
  clear b6
  go_wp2_with fail
  refine (topages a len cap X _ (HI.out.keep B6.out) (by omega) (by have := HN.out; omega)).mono ?_
  rintro e w7 ⟨g7, F7, rfl, m7, b7⟩
  have Z_7 := Lib.hid (Z_6.out.keep b7)
  have X_7 := Lib.hid (X_6.out.keep b7)
  have G_7 := Lib.hid (G_6.out.keep b7)
  have B7 := Lib.hid (B6.out.trans (b7.mono B6.out.size))
  have C_7 := Lib.hid m7
  have ap_Z_C := Lib.hid (apart_new Z_6.out m7 (Nat.le_refl _))
  have ap_X_C := Lib.hid (apart_new X_6.out m7 (Nat.le_refl _))
  have ap_G_C := Lib.hid (apart_new G_6.out m7 (Nat.le_refl _))
  clear b7 m7
  go_wp2_with fail
  refine (eqpages _ _ _ _ _ _ X X _ X_7.out.inn C_7.out.inn).mono ?_
  rintro e w8 ⟨rfl, b8⟩
  rw [decide_eq_true (rfl : X = X)]
  have Z_8 := Lib.hid (Z_7.out.keep b8)
  have X_8 := Lib.hid (X_7.out.keep b8)
  have G_8 := Lib.hid (G_7.out.keep b8)
  have C_8 := Lib.hid (C_7.out.keep b8)
  have B8 := Lib.hid (B7.out.trans (b8.mono B7.out.size))
  clear b8
  have hx1 : ¬ ((1 : Int) + 3 * (N : Int) < 0) := by omega
  go_wp2_with fail
  refine (markpages _ _ _ _ X _ 1 _ X_8.out (by omega) (by rw [← HN.out]; omega) (by omega) (by omega)).mono ?_
  rintro e w9 ⟨rfl, m9, o9⟩
  rw [← HN.out]
  have Z_9 := Lib.hid (Z_8.out.far o9 (apart_flip ap_Z_X.out))
  have G_9 := Lib.hid (G_8.out.far o9 ap_X_G.out)
  have B9 := Lib.hid (Below.marked X_8.out o9 B8.out B3.out.size)
  have X_9 := Lib.hid m9
  clear m9 o9
  go_wp2_with fail
  refine (eqrows _ _ _ _ _ _ Y Y _ (rows_in G_9.out.inn) (rows_in Z_9.out.inn) (by omega) (by omega)).mono ?_
  rintro e w10 ⟨rfl, b10⟩
  rw [decide_eq_true (rfl : Y = Y)]
  have Z_10 := Lib.hid (Z_9.out.keep b10)
  have G_10 := Lib.hid (G_9.out.keep b10)
  have B10 := Lib.hid (B9.out.trans (b10.mono B9.out.size))
  clear b10
  go_wp2_with fail
  refine (markrows _ _ _ _ Y _ 1 _ G_10.out (by omega) (by omega) (by omega)).mono ?_
  rintro e w11 ⟨rfl, m11, o11⟩
  have Z_11 := Lib.hid (Z_10.out.far o11 (apart_flip ap_Z_G.out))
  have B11 := Lib.hid (Below.marked G_10.out o11 B10.out B4.out.size)
  have G_11 := Lib.hid m11
  clear m11 o11
  go_wp2_with fail
  refine (heldrows _ _ _ 1 _ (rows_in G_11.out.inn) (by omega) (by omega) (by omega)).mono ?_
  rintro e w12 ⟨rfl, rfl⟩
  have Z_12 := Lib.hid Z_11.out
  have G_12 := Lib.hid G_11.out
  have B12 := Lib.hid B11.out
  go_wp2_with fail
  refine (topages a len cap X _ (HI.out.keep B12.out) (by omega) (by have := HN.out; omega)).mono ?_
  rintro e w13 ⟨g13, F13, rfl, m13, b13⟩
  have Z_13 := Lib.hid (Z_12.out.keep b13)
  have G_13 := Lib.hid (G_12.out.keep b13)
  have B13 := Lib.hid (B12.out.trans (b13.mono B12.out.size))
  have D_13 := Lib.hid m13
  have ap_Z_D := Lib.hid (apart_new Z_12.out m13 (Nat.le_refl _))
  have ap_G_D := Lib.hid (apart_new G_12.out m13 (Nat.le_refl _))
  clear b13 m13
  go_wp2_with fail
  refine (IP.out _ _ _ D_13.out.inn).mono ?_
  rintro e w14 ⟨x14, k14, c14, F14, rfl, m14, b14⟩
  have hk14 : k14 = Y.length := m14.1.symm
  have hkm14 : ¬ ((1 : Int) + 3 * (k14 : Int) < 0) := by omega
  have hkb14 : k14 ≤ 2000000 := by omega
  clear hk14
  have Z_14 := Lib.hid (Z_13.out.keep b14)
  have G_14 := Lib.hid (G_13.out.keep b14)
  have D_14 := Lib.hid (D_13.out.keep b14)
  have B14 := Lib.hid (B13.out.trans (b14.mono B13.out.size))
  have H_14 := Lib.hid m14
  have ap_Z_H := Lib.hid (apart_new Z_13.out m14 (Nat.le_refl _))
  have ap_G_H := Lib.hid (apart_new G_13.out m14 (Nat.le_refl _))
  have ap_D_H := Lib.hid (apart_new D_13.out m14 (Nat.le_refl _))
  clear b14 m14
  go_wp2_with fail
  refine (eqrows _ _ _ _ _ _ Y Y _ (rows_in H_14.out.inn) (rows_in Z_14.out.inn) (by omega) (by omega)).mono ?_
  rintro e w15 ⟨rfl, b15⟩
  rw [decide_eq_true (rfl : Y = Y)]
  have Z_15 := Lib.hid (Z_14.out.keep b15)
  have G_15 := Lib.hid (G_14.out.keep b15)
  have H_15 := Lib.hid (H_14.out.keep b15)
  have B15 := Lib.hid (B14.out.trans (b15.mono B14.out.size))
  clear b15
  go_wp2_with fail
  refine (heldrows _ _ _ 1 _ (rows_in G_15.out.inn) (by omega) (by omega) (by omega)).mono ?_
  rintro e w16 ⟨rfl, rfl⟩
  have Z_16 := Lib.hid Z_15.out
  have G_16 := Lib.hid G_15.out
  have H_16 := Lib.hid H_15.out
  have B16 := Lib.hid B15.out
  go_wp2_with fail
  go_ret
  exact ⟨rfl, B16.out⟩

/-! ### The row's step -/
theorem own : ownKnob Try.prog.godebug = none := by kernel_rfl
theorem laidOut : laidOutB Try.prog = true := by kernel_rfl
set_option maxRecDepth 100000 in
theorem lifted (os : Os) (started : os.Started) (H : Type) (enc : TypeId × Value → H) :
    ReturnsInHanded {} Try.checked os 5 .any (Rows.fnExactUnpackPagesSpec.pre6 enc Try.prog Try.f5 Rows.fnExactUnpackPagesRow.domain false) (Rows.fnExactUnpackPagesSpec.post enc Try.prog Try.f5 false true false false) := by
  refine returnsInHanded_of_change (C := Try.checked) own started (by kernel_rfl) Try.func5
    (ChangeSpec.witness6 (enc := enc) (C := Try.checked) false ⟨#[], #[.slice none 0 0], []⟩ 8 (by kernel_rfl) (by kernel_rfl) (by kernel_rfl) (by kernel_rfl)) ?_
  intro W base args ds gs before hval0 hW hcnd hsz
  have hval : ∀ (j : Nat) t v, Try.f5.params[j]? = some t → args[j]? = some v → Value.okWide Try.prog W .any base t v := hval0
  have hW' := hW
  obtain ⟨p, q, hA0, hV, rfl, hfz, hnd⟩ := hW
  have hA : DataW.TrodAll enc Try.prog W 0 (fun _ => true) true Try.f5.params.toList args.toList ds p := hA0
  rw [Try.params5] at hA hval
  obtain ⟨v0, vs0, d0, ds0, p0, q0, hargs, rfl, rfl, h0, r0⟩ := trodAll_cons hA
  obtain ⟨rfl, rfl, rfl⟩ := trodAll_nil r0
  obtain rfl : args = #[v0] := by cases args; simp_all
  obtain ⟨rfl, rfl⟩ := trodVars_none hV
  obtain ⟨a0, len0, cap0, rfl⟩ := okWide_slice Try.underlying42 (hval 0 42 v0 rfl rfl)
  have k0 := h0
  have lt0 : ∀ x ∈ p0, x.block < W.heap.size := by obtain ⟨m, hm⟩ := k0; exact DataW.trod_lt m _ _ _ hm
  obtain ⟨L0, w0⟩ := Opens.pages.arg h0
  clear hA0 hval0
  refine (walk a0 len0 cap0 L0 W w0).mono fun e W' ⟨he, bel⟩ => ?_
  subst he
  exact ⟨_, rfl, _, _, _, [], _, [], hW', trodAll_mk1 (shut_bool Try.underlying4 _), (trodAll_cons_mk (Below.trod laidOut (by kernel_rfl) (of_decide_eq_true (by kernel_rfl)) k0 bel lt0) trodAll_mk0), rfl, bel.frame _, fun h => by cases h⟩
theorem over : Rows.fnExactUnpackPagesRow.holds Try.pinned (OpenSpec.ofChange Rows.fnExactUnpackPagesSpec) :=
  OpenClaim.holds_of_wide 5 Try.f5 rfl rfl rfl rfl rfl rfl rfl ⟨rfl, rfl, rfl, rfl, rfl⟩ rfl rfl rfl rfl rfl (by kernel_rfl) Try.func5 (by kernel_rfl)
    (of_decide_eq_true (by kernel_rfl)) (by unfold Func.isWrapper; first | (rw [if_pos (by decide +kernel)]; kernel_rfl) | (rw [if_neg (by decide +kernel)]; exact ⟨rfl, rfl⟩))
    (fun os started H enc _ => lifted os started H enc)
/-- The statement. -/
theorem proved : Rows.FnExactUnpackPagesSaid := over
#print axioms proved
end Go.Proofs.Ytoiobaiiammehaa.FnExactUnpackPages
