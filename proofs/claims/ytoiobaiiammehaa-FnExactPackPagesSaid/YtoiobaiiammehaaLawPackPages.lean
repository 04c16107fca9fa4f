/- Proved: for every slice of rows the law FnExactPackPages returns true: the program's PackPages answers as the reference's, leaves its argument alone, and answers in memory of its own that a later call does not touch (the law itself answers true above 2^20 rows and pages together). No condition. -/
import Derived.Test.YtoiobaiiammehaaRows
import Derived.Test.YtoiobaiiammehaaGives
import Derived.Test.YtoiobaiiammehaaPackS
import Derived.Test.YtoiobaiiammehaaPacki
import Derived.ProofKit
import Derived.OpenShut
import Derived.ShutString
import Derived.ChangeOld
namespace Go.Proofs.Ytoiobaiiammehaa.FnExactPackPages
open Go Go.ChangeShapes Go.WideShapes Go.ChangeAt Go.RowKit
open Go.ChangeMaps (open_string shut_string)
set_option linter.unusedVariables false

set_option maxRecDepth 100000 in
set_option maxHeartbeats 1000000 in
theorem walk (a : Option Addr) (len cap : Nat) (X : List R) (w : World) (h : SeqIn rowRep w a len X) : Calls Try.prog 4 #[.slice a len cap] w fun e w' => e = .returned (.bool true) ∧ Below w.heap.size w w' := by
  have hm := h.2.1
  have HL := Lib.hid h.1
  have HI := Lib.hid h
  clear h
  obtain ⟨z, hzz⟩ : ∃ z, z = szR 1048576 len := ⟨_, rfl⟩
  have HZ := Lib.hid hzz
  clear hzz
  have SZ := Lib.hid (szrows a len cap 1048576 w (by omega) (by omega) hm)
  rw [← HZ.out] at SZ
  by_cases hz : z < 0
  · go_enter Try.func4, Try.ntmps4
    go_wp2_with fail
    refine SZ.out.mono ?_
    rintro e w1 ⟨rfl, rfl⟩
    go_wp2_with fail
    go_ret
    exact ⟨rfl, Below.refl _ _⟩
  have hle := (szR_le (by rw [← HZ.out]; exact hz)).1
  clear HZ
  have SP := Lib.hid fun (a1 : Option Addr) (c1 : Nat) (v : World) (h1 : SeqIn rowRep v a1 len X) => (spack a1 len c1 X v (rows_in h1) (by omega) : Calls Try.prog 13 #[.slice a1 len c1] v (Gives pageRep (R.pack X) v))
  have IP := Lib.hid fun (a1 : Option Addr) (c1 : Nat) (v : World) (h1 : SeqIn rowRep v a1 len X) => ipack a1 len c1 X v h1 (by omega)
  have hyl : (R.pack X).length ≤ 1048576 ∧ (R.pack X).flatten.length ≤ 1048576 := by
    have h1 := R.pack_length (L := X)
    have h2 := HL.out
    refine ⟨by omega, ?_⟩
    cases hk : okRows X with
    | true => rw [R.pack_flat hk]; omega
    | false => rw [R.pack_bad hk]; exact Nat.zero_le _
  obtain ⟨Y, hY⟩ : ∃ Y, Y = R.pack X := ⟨_, rfl⟩
  rw [← hY] at SP IP hyl
  obtain ⟨N2, hN2⟩ : ∃ N2, N2 = Y.flatten.length := ⟨_, rfl⟩
  rw [← hN2] at hyl
  have HN2 := Lib.hid hN2
  clear hN2
  clear hY
  have B0 := Lib.hid (Below.refl w.heap.size w)
  go_enter Try.func4, Try.ntmps4
  go_wp2_with fail
  refine SZ.out.mono ?_
  rintro e w0 ⟨rfl, rfl⟩
  go_wp2_with fail
  refine (ownrows a len cap X _ (rows_in (HI.out.keep B0.out)) (by omega)).mono ?_
  rintro e w1 ⟨g1, F1, rfl, m1, b1⟩
  have B1 := Lib.hid (B0.out.trans (b1.mono B0.out.size))
  have S_1 := Lib.hid m1
  clear b1 m1
  go_wp2_with fail
  refine (SP.out _ _ _ S_1.out.inn).mono ?_
  rintro e w2 ⟨x2, k2, c2, F2, rfl, m2, b2⟩
  have hk2 : k2 = Y.length := m2.1.symm
  have hkm2 : ¬ ((1 : Int) + 3 * (k2 : Int) < 0) := by omega
  clear hk2
  have hkb2 : k2 ≤ 2000000 := by have := m2.1; omega
  have S_2 := Lib.hid (S_1.out.keep b2)
  have B2 := Lib.hid (B1.out.trans (b2.mono B1.out.size))
  have Z_2 := Lib.hid m2
  have ap_S_Z := Lib.hid (apart_new S_1.out m2 (Nat.le_refl _))
  clear b2 m2
  go_wp2_with fail
  refine (ownrows a len cap X _ (rows_in (HI.out.keep B2.out)) (by omega)).mono ?_
  rintro e w3 ⟨g3, F3, rfl, m3, b3⟩
  have Z_3 := Lib.hid (Z_2.out.keep b3)
  have B3 := Lib.hid (B2.out.trans (b3.mono B2.out.size))
  have X_3 := Lib.hid m3
  have ap_Z_X := Lib.hid (apart_new Z_2.out m3 (Nat.le_refl _))
  clear b3 m3
  go_wp2_with fail
  refine (IP.out _ _ _ X_3.out.inn).mono ?_
  rintro e w4 ⟨x4, k4, c4, F4, rfl, m4, b4⟩
  have hk4 : k4 = Y.length := m4.1.symm
  have hkm4 : ¬ ((1 : Int) + 3 * (k4 : Int) < 0) := by omega
  clear hk4
  have hkb4 : k4 ≤ 2000000 := by have := m4.1; omega
  have Z_4 := Lib.hid (Z_3.out.keep b4)
  have X_4 := Lib.hid (X_3.out.keep b4)
  have B4 := Lib.hid (B3.out.trans (b4.mono B3.out.size))
  have G_4 := Lib.hid m4
  have ap_Z_G := Lib.hid (apart_new Z_3.out m4 (Nat.le_refl _))
  have ap_X_G := Lib.hid (apart_new X_3.out m4 (Nat.le_refl _))
  clear b4 m4
  go_wp2_with fail
  refine (eqpages _ _ _ _ _ _ Y Y _ G_4.out.inn Z_4.out.inn).mono ?_
  rintro e w5 ⟨rfl, b5⟩
  rw [decide_eq_true (rfl : Y = Y)]
  have Z_5 := Lib.hid (Z_4.out.keep b5)
  have X_5 := Lib.hid (X_4.out.keep b5)
  have G_5 := Lib.hid (G_4.out.keep b5)
  have B5 := Lib.hid (B4.out.trans (b5.mono B4.out.size))
  clear b5
  go_wp2_with fail
  refine (ownrows a len cap X _ (rows_in (HI.out.keep B5.out)) (by omega)).mono ?_
  rintro e w6 ⟨g6, F6, rfl, m6, b6⟩
  have Z_6 := Lib.hid (Z_5.out.keep b6)
  have X_6 := Lib.hid (X_5.out.keep b6)
  have G_6 := Lib.hid (G_5.out.keep b6)
  have B6 := Lib.hid (B5.out.trans (b6.mono B5.out.size))
  have C_6 := Lib.hid m6
  have ap_Z_C := Lib.hid (apart_new Z_5.out m6 (Nat.le_refl _))
  have ap_X_C := Lib.hid (apart_new X_5.out m6 (Nat.le_refl _))
  have ap_G_C := Lib.hid (apart_new G_5.out m6 (Nat.le_refl _))
  clear b6 m6
  go_wp2_with fail
  refine (eqrows _ _ _ _ _ _ X X _ (rows_in X_6.out.inn) (rows_in C_6.out.inn) (by omega) (by omega)).mono ?_
  rintro e w7 ⟨rfl, b7⟩
  rw [decide_eq_true (rfl : X = X)]
  have Z_7 := Lib.hid (Z_6.out.keep b7)
  have X_7 := Lib.hid (X_6.out.keep b7)
  have G_7 := Lib.hid (G_6.out.keep b7)
  have C_7 := Lib.hid (C_6.out.keep b7)
  have B7 := Lib.hid (B6.out.trans (b7.mono B6.out.size))
  clear b7
  have hx1 : ¬ ((1 : Int) + 3 * (len : Int) < 0) := by omega
  have hn1 : ¬ ((1 : Int) + 3 * (N2 : Int) < 0) := by omega
  go_wp2_with fail
  refine (markrows _ _ _ _ X _ 1 _ X_7.out (by omega) (by omega) (by omega)).mono ?_
  rintro e w8 ⟨rfl, m8, o8⟩
  have Z_8 := Lib.hid (Z_7.out.far o8 (apart_flip ap_Z_X.out))
  have G_8 := Lib.hid (G_7.out.far o8 ap_X_G.out)
  have B8 := Lib.hid (Below.marked X_7.out o8 B7.out B2.out.size)
  have X_8 := Lib.hid m8
  clear m8 o8
  go_wp2_with fail
  refine (eqpages _ _ _ _ _ _ Y Y _ G_8.out.inn Z_8.out.inn).mono ?_
  rintro e w9 ⟨rfl, b9⟩
  rw [decide_eq_true (rfl : Y = Y)]
  have Z_9 := Lib.hid (Z_8.out.keep b9)
  have G_9 := Lib.hid (G_8.out.keep b9)
  have B9 := Lib.hid (B8.out.trans (b9.mono B8.out.size))
  clear b9
  go_wp2_with fail
  refine (markpages _ _ _ _ Y _ 1 _ G_9.out (by omega) (by rw [← HN2.out]; omega) (by omega) (by omega)).mono ?_
  rintro e w10 ⟨rfl, m10, o10⟩
  rw [← HN2.out]
  have Z_10 := Lib.hid (Z_9.out.far o10 (apart_flip ap_Z_G.out))
  have B10 := Lib.hid (Below.marked G_9.out o10 B9.out B3.out.size)
  have G_10 := Lib.hid m10
  clear m10 o10
  go_wp2_with fail
  refine (heldpages _ _ _ Y 1 _ G_10.out.inn (by omega) (by rw [← HN2.out]; omega) (by omega) (by omega)).mono ?_
  rintro e w11 ⟨rfl, rfl⟩
  rw [← HN2.out]
  have Z_11 := Lib.hid Z_10.out
  have G_11 := Lib.hid G_10.out
  have B11 := Lib.hid B10.out
  go_wp2_with fail
  refine (ownrows a len cap X _ (rows_in (HI.out.keep B11.out)) (by omega)).mono ?_
  rintro e w12 ⟨g12, F12, rfl, m12, b12⟩
  have Z_12 := Lib.hid (Z_11.out.keep b12)
  have G_12 := Lib.hid (G_11.out.keep b12)
  have B12 := Lib.hid (B11.out.trans (b12.mono B11.out.size))
  have D_12 := Lib.hid m12
  have ap_Z_D := Lib.hid (apart_new Z_11.out m12 (Nat.le_refl _))
  have ap_G_D := Lib.hid (apart_new G_11.out m12 (Nat.le_refl _))
  clear b12 m12
  go_wp2_with fail
  refine (IP.out _ _ _ D_12.out.inn).mono ?_
  rintro e w13 ⟨x13, k13, c13, F13, rfl, m13, b13⟩
  have hk13 : k13 = Y.length := m13.1.symm
  have hkm13 : ¬ ((1 : Int) + 3 * (k13 : Int) < 0) := by omega
  clear hk13
  have hkb13 : k13 ≤ 2000000 := by have := m13.1; omega
  have Z_13 := Lib.hid (Z_12.out.keep b13)
  have G_13 := Lib.hid (G_12.out.keep b13)
  have D_13 := Lib.hid (D_12.out.keep b13)
  have B13 := Lib.hid (B12.out.trans (b13.mono B12.out.size))
  have H_13 := Lib.hid m13
  have ap_Z_H := Lib.hid (apart_new Z_12.out m13 (Nat.le_refl _))
  have ap_G_H := Lib.hid (apart_new G_12.out m13 (Nat.le_refl _))
  have ap_D_H := Lib.hid (apart_new D_12.out m13 (Nat.le_refl _))
  clear b13 m13
  go_wp2_with fail
  refine (eqpages _ _ _ _ _ _ Y Y _ H_13.out.inn Z_13.out.inn).mono ?_
  rintro e w14 ⟨rfl, b14⟩
  rw [decide_eq_true (rfl : Y = Y)]
  have Z_14 := Lib.hid (Z_13.out.keep b14)
  have G_14 := Lib.hid (G_13.out.keep b14)
  have H_14 := Lib.hid (H_13.out.keep b14)
  have B14 := Lib.hid (B13.out.trans (b14.mono B13.out.size))
  clear b14
  go_wp2_with fail
  refine (heldpages _ _ _ Y 1 _ G_14.out.inn (by omega) (by rw [← HN2.out]; omega) (by omega) (by omega)).mono ?_
  rintro e w15 ⟨rfl, rfl⟩
  rw [← HN2.out]
  have Z_15 := Lib.hid Z_14.out
  have G_15 := Lib.hid G_14.out
  have H_15 := Lib.hid H_14.out
  have B15 := Lib.hid B14.out
  go_wp2_with fail
  go_ret
  exact ⟨rfl, B15.out⟩

/-! ### The row's step -/
theorem own : ownKnob Try.prog.godebug = none := by kernel_rfl
theorem laidOut : laidOutB Try.prog = true := by kernel_rfl
set_option maxRecDepth 100000 in
theorem lifted (os : Os) (started : os.Started) (H : Type) (enc : TypeId × Value → H) :
    ReturnsInHanded {} Try.checked os 4 .any (Rows.fnExactPackPagesSpec.pre6 enc Try.prog Try.f4 Rows.fnExactPackPagesRow.domain false) (Rows.fnExactPackPagesSpec.post enc Try.prog Try.f4 false true false false) := by
  refine returnsInHanded_of_change (C := Try.checked) own started (by kernel_rfl) Try.func4
    (ChangeSpec.witness6 (enc := enc) (C := Try.checked) false ⟨#[], #[.slice none 0 0], []⟩ 8 (by kernel_rfl) (by kernel_rfl) (by kernel_rfl) (by kernel_rfl)) ?_
  intro W base args ds gs before hval0 hW hcnd hsz
  have hval : ∀ (j : Nat) t v, Try.f4.params[j]? = some t → args[j]? = some v → Value.okWide Try.prog W .any base t v := hval0
  have hW' := hW
  obtain ⟨p, q, hA0, hV, rfl, hfz, hnd⟩ := hW
  have hA : DataW.TrodAll enc Try.prog W 0 (fun _ => true) true Try.f4.params.toList args.toList ds p := hA0
  rw [Try.params4] at hA hval
  obtain ⟨v0, vs0, d0, ds0, p0, q0, hargs, rfl, rfl, h0, r0⟩ := trodAll_cons hA
  obtain ⟨rfl, rfl, rfl⟩ := trodAll_nil r0
  obtain rfl : args = #[v0] := by cases args; simp_all
  obtain ⟨rfl, rfl⟩ := trodVars_none hV
  obtain ⟨a0, len0, cap0, rfl⟩ := okWide_slice Try.underlying22 (hval 0 22 v0 rfl rfl)
  have k0 := h0
  have lt0 : ∀ x ∈ p0, x.block < W.heap.size := by obtain ⟨m, hm⟩ := k0; exact DataW.trod_lt m _ _ _ hm
  obtain ⟨L0, w0⟩ := Opens.rows.arg h0
  clear hA0 hval0
  refine (walk a0 len0 cap0 L0 W w0).mono fun e W' ⟨he, bel⟩ => ?_
  subst he
  exact ⟨_, rfl, _, _, _, [], _, [], hW', trodAll_mk1 (shut_bool Try.underlying4 _), (trodAll_cons_mk (Below.trod laidOut (by kernel_rfl) (of_decide_eq_true (by kernel_rfl)) k0 bel lt0) trodAll_mk0), rfl, bel.frame _, fun h => by cases h⟩
theorem over : Rows.fnExactPackPagesRow.holds Try.pinned (OpenSpec.ofChange Rows.fnExactPackPagesSpec) :=
  OpenClaim.holds_of_wide 4 Try.f4 rfl rfl rfl rfl rfl rfl rfl ⟨rfl, rfl, rfl, rfl, rfl⟩ rfl rfl rfl rfl rfl (by kernel_rfl) Try.func4 (by kernel_rfl)
    (of_decide_eq_true (by kernel_rfl)) (by unfold Func.isWrapper; first | (rw [if_pos (by decide +kernel)]; kernel_rfl) | (rw [if_neg (by decide +kernel)]; exact ⟨rfl, rfl⟩))
    (fun os started H enc _ => lifted os started H enc)
/-- The statement. -/
theorem proved : Rows.FnExactPackPagesSaid := over
#print axioms proved
end Go.Proofs.Ytoiobaiiammehaa.FnExactPackPages
