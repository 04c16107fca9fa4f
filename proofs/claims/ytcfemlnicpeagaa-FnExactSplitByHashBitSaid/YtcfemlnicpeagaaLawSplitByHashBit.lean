/- Proved: for every slice of rows and every integer the law FnExactSplitByHashBit returns true: the program's SplitByHashBit answers as the reference's, leaves its argument alone, and answers in memory of its own that a later call does not touch (the law itself answers true above 2^20 rows). No condition. -/
import Derived.Test.YtcfemlnicpeagaaRows
import Derived.Test.YtcfemlnicpeagaaSzSRow
import Derived.Test.YtcfemlnicpeagaaToSRow
import Derived.Test.YtcfemlnicpeagaaEqSRow
import Derived.Test.YtcfemlnicpeagaaMkSRow
import Derived.Test.YtcfemlnicpeagaaOpRows
import Derived.Test.YtcfemlnicpeagaaSplits
import Derived.ProofKit
import Derived.OpenShut
import Derived.ShutString
import Derived.ChangeOld
namespace Go.Proofs.Ytcfemlnicpeagaa.FnExactSplitByHashBit
open Go Go.ChangeShapes Go.WideShapes Go.ChangeAt Go.RowKit
open Go.ChangeMaps (open_string shut_string)
set_option linter.unusedVariables false

def Ans (Y0 : List R) (Y1 : List R) (v : World) (e : Ending) (v' : World) : Prop := ∃ (x0 : Option Addr) (k0 c0 : Nat) (F0 : List Reg) (x1 : Option Addr) (k1 c1 : Nat) (F1 : List Reg), e = .returned (.tuple #[.slice x0 k0 c0, .slice x1 k1 c1]) ∧ SeqOwn rowRep v' v.heap.size x0 k0 Y0 F0 ∧ SeqOwn rowRep v' v.heap.size x1 k1 Y1 F1 ∧ (∀ x ∈ F0, ∀ y ∈ F1, Reg.apart x y) ∧ Below v.heap.size v v'
theorem ans {v v' : World} {e : Ending} {l : Int} {L : List R} (hwf : ∀ r ∈ L, r.wf) (hl : L.length ≤ 1048576) (h : ∃ x y, e = .returned (.tuple #[x, y]) ∧ Sides v v.heap.size (R.zs l L) (R.os l L) x y v') : Ans (R.zs l L) (R.os l L) v e v' := by
  obtain ⟨x, y, rfl, hs⟩ := h
  obtain ⟨a, b, c, d, F, G, rfl, rfl, hF, hG, hap⟩ := hs.own (R.zs_wf hwf) (R.os_wf hwf) (by have := R.zs_length l L; unfold maxLen; omega) (by have := R.os_length l L; unfold maxLen; omega)
  exact ⟨a, _, c, F, b, _, d, G, rfl, hF, hG, hap, hs.old⟩
set_option maxRecDepth 100000 in
set_option maxHeartbeats 2000000 in
theorem walk (a0 : Option Addr) (n0 c0 : Nat) (X0 : List R) (w : World) (h0 : SeqIn rowRep w a0 n0 X0) (s1 : Int) (r1 : (Lit.int .i64 s1).wf = true) : Calls Try.prog 5 #[.slice a0 n0 c0, .int .i64 s1] w fun e w' => e = .returned (.bool true) ∧ Below w.heap.size w w' := by
  have HI0 := Lib.hid h0
  clear h0
  obtain ⟨z0, hz0⟩ : ∃ z, z = szR 1048576 (wtRows X0) := ⟨_, rfl⟩
  have HZ0 := Lib.hid hz0
  clear hz0
  have B0 := Lib.hid (Below.refl w.heap.size w)
  go_enter Try.func5, Try.ntmps5
  go_wp2_with fail
  refine (szS_row a0 n0 c0 X0 1048576 _ (HI0.out.keep B0.out) (by omega) (by omega)).mono ?_
  rintro e w1 ⟨rfl, b1⟩
  rw [← HZ0.out]
  have B1 := Lib.hid (B0.out.trans (b1.mono B0.out.size))
  clear b1
  by_cases hz0 : z0 < 0
  · go_wp2_with fail
    go_ret
    exact ⟨rfl, B1.out⟩
  obtain ⟨u0, e0⟩ := sz_step HZ0.out (by omega)
  have HA : Hid (wtRows X0 ≤ 1048576 ∧ rowsMk.cnt X0 ≤ 64 * wtRows X0) := Lib.hid ⟨by omega, cnt_rows X0⟩
  clear u0 e0
  have SP := Lib.hid fun (p0 : Option Addr) (d0 : Nat) (v : World) (h0 : SeqIn rowRep v p0 n0 X0) => (show Calls Try.prog 11 #[.slice p0 n0 d0, .int .i64 s1] v (Ans (R.zs s1 X0) (R.os s1 X0) v) from (ssplit p0 n0 d0 X0 s1 v (rows_in h0) (by have h1 := HA.out; have h2 : X0.length = n0 := h0.1; have h3 : wtRows X0 = X0.length := rfl; omega)).mono fun e v' h => ans (rows_in h0).2.1 (by have h1 := HA.out; have h3 : wtRows X0 = X0.length := rfl; omega) h)
  have IP := Lib.hid fun (p0 : Option Addr) (d0 : Nat) (v : World) (h0 : SeqIn rowRep v p0 n0 X0) => (show Calls Try.prog 10 #[.slice p0 n0 d0, .int .i64 s1] v (Ans (R.zs s1 X0) (R.os s1 X0) v) from (isplit p0 n0 d0 X0 s1 v (rows_in h0) (by have h1 := HA.out; have h2 : X0.length = n0 := h0.1; have h3 : wtRows X0 = X0.length := rfl; omega)).mono fun e v' h => ans (rows_in h0).2.1 (by have h1 := HA.out; have h3 : wtRows X0 = X0.length := rfl; omega) h)
  have hy0 : wtRows (R.zs s1 X0) ≤ 1048576 := by have h1 := HA.out; exact Nat.le_trans (R.zs_length s1 X0) (by have h3 : wtRows X0 = X0.length := rfl; omega)
  have hy1 : wtRows (R.os s1 X0) ≤ 1048576 := by have h1 := HA.out; exact Nat.le_trans (R.os_length s1 X0) (by have h3 : wtRows X0 = X0.length := rfl; omega)
  obtain ⟨Y0, hY0⟩ : ∃ Y, Y = R.zs s1 X0 := ⟨_, rfl⟩
  rw [← hY0] at SP IP hy0
  clear hY0
  obtain ⟨Y1, hY1⟩ : ∃ Y, Y = R.os s1 X0 := ⟨_, rfl⟩
  rw [← hY1] at SP IP hy1
  clear hY1
  have HY : Hid (wtRows Y0 ≤ 1048576 ∧ wtRows Y1 ≤ 1048576 ∧ rowsMk.cnt Y0 ≤ 64 * wtRows Y0 ∧ rowsMk.cnt Y1 ≤ 64 * wtRows Y1) := Lib.hid ⟨hy0, hy1, cnt_rows Y0, cnt_rows Y1⟩
  clear hy0 hy1
  obtain ⟨C0, hC0⟩ : ∃ C, C = rowsMk.cnt X0 := ⟨_, rfl⟩
  have HC0 := Lib.hid hC0
  clear hC0
  obtain ⟨D0, hD0⟩ : ∃ D, D = rowsMk.cnt Y0 := ⟨_, rfl⟩
  have HD0 := Lib.hid hD0
  clear hD0
  obtain ⟨D1, hD1⟩ : ∃ D, D = rowsMk.cnt Y1 := ⟨_, rfl⟩
  have HD1 := Lib.hid hD1
  clear hD1
  go_wp2_with fail
  refine (toS_row a0 n0 c0 X0 _ (HI0.out.keep B1.out) (by have := HA.out; omega)).mono ?_
  rintro e w2 ⟨g2, F2, rfl, m2_0, b2⟩
  have B2 := Lib.hid (B1.out.trans (b2.mono B1.out.size))
  have S0_2 := Lib.hid m2_0
  clear b2 m2_0
  go_wp2_with fail
  refine (SP.out _ _ _ S0_2.out.inn).mono ?_
  rintro e w3 ⟨x3_0, k3_0, c3_0, F3_0, x3_1, k3_1, c3_1, F3_1, rfl, m3_0, m3_1, q3_0_1, b3⟩
  have S0_3 := Lib.hid (S0_2.out.keep b3)
  have B3 := Lib.hid (B2.out.trans (b3.mono B2.out.size))
  have Z0_3 := Lib.hid m3_0
  have ap_S0_Z0 := Lib.hid (apart_new S0_2.out m3_0 (Nat.le_refl _))
  have Z1_3 := Lib.hid m3_1
  have ap_S0_Z1 := Lib.hid (apart_new S0_2.out m3_1 (Nat.le_refl _))
  have ap_Z0_Z1 := Lib.hid q3_0_1
  clear b3 m3_0 m3_1 q3_0_1
  go_wp2_with fail
  refine (toS_row a0 n0 c0 X0 _ (HI0.out.keep B3.out) (by have := HA.out; omega)).mono ?_
  rintro e w4 ⟨g4, F4, rfl, m4_0, b4⟩
  have Z0_4 := Lib.hid (Z0_3.out.keep b4)
  have Z1_4 := Lib.hid (Z1_3.out.keep b4)
  have B4 := Lib.hid (B3.out.trans (b4.mono B3.out.size))
  have P0_4 := Lib.hid m4_0
  have ap_Z0_P0 := Lib.hid (apart_new Z0_3.out m4_0 (Nat.le_refl _))
  have ap_Z1_P0 := Lib.hid (apart_new Z1_3.out m4_0 (Nat.le_refl _))
  clear b4 m4_0
  go_wp2_with fail
  refine (IP.out _ _ _ P0_4.out.inn).mono ?_
  rintro e w5 ⟨x5_0, k5_0, c5_0, F5_0, x5_1, k5_1, c5_1, F5_1, rfl, m5_0, m5_1, q5_0_1, b5⟩
  have Z0_5 := Lib.hid (Z0_4.out.keep b5)
  have Z1_5 := Lib.hid (Z1_4.out.keep b5)
  have P0_5 := Lib.hid (P0_4.out.keep b5)
  have B5 := Lib.hid (B4.out.trans (b5.mono B4.out.size))
  have G0_5 := Lib.hid m5_0
  have ap_Z0_G0 := Lib.hid (apart_new Z0_4.out m5_0 (Nat.le_refl _))
  have ap_Z1_G0 := Lib.hid (apart_new Z1_4.out m5_0 (Nat.le_refl _))
  have ap_P0_G0 := Lib.hid (apart_new P0_4.out m5_0 (Nat.le_refl _))
  have G1_5 := Lib.hid m5_1
  have ap_Z0_G1 := Lib.hid (apart_new Z0_4.out m5_1 (Nat.le_refl _))
  have ap_Z1_G1 := Lib.hid (apart_new Z1_4.out m5_1 (Nat.le_refl _))
  have ap_P0_G1 := Lib.hid (apart_new P0_4.out m5_1 (Nat.le_refl _))
  have ap_G0_G1 := Lib.hid q5_0_1
  clear b5 m5_0 m5_1 q5_0_1
  go_wp2_with fail
  refine (eqS_row _ _ _ _ _ _ Y0 Y0 _ G0_5.out.inn Z0_5.out.inn).mono ?_
  rintro e w6 ⟨rfl, b6⟩
  rw [decide_eq_true (rfl : Y0 = Y0)]
  have Z0_6 := Lib.hid (Z0_5.out.keep b6)
  have Z1_6 := Lib.hid (Z1_5.out.keep b6)
  have P0_6 := Lib.hid (P0_5.out.keep b6)
  have G0_6 := Lib.hid (G0_5.out.keep b6)
  have G1_6 := Lib.hid (G1_5.out.keep b6)
  have B6 := Lib.hid (B5.out.trans (b6.mono B5.out.size))
  clear b6
  go_wp2_with fail
  refine (eqS_row _ _ _ _ _ _ Y1 Y1 _ G1_6.out.inn Z1_6.out.inn).mono ?_
  rintro e w7 ⟨rfl, b7⟩
  rw [decide_eq_true (rfl : Y1 = Y1)]
  have Z0_7 := Lib.hid (Z0_6.out.keep b7)
  have Z1_7 := Lib.hid (Z1_6.out.keep b7)
  have P0_7 := Lib.hid (P0_6.out.keep b7)
  have G0_7 := Lib.hid (G0_6.out.keep b7)
  have G1_7 := Lib.hid (G1_6.out.keep b7)
  have B7 := Lib.hid (B6.out.trans (b7.mono B6.out.size))
  clear b7
  go_wp2_with fail
  refine (toS_row a0 n0 c0 X0 _ (HI0.out.keep B7.out) (by have := HA.out; omega)).mono ?_
  rintro e w8 ⟨g8, F8, rfl, m8_0, b8⟩
  have Z0_8 := Lib.hid (Z0_7.out.keep b8)
  have Z1_8 := Lib.hid (Z1_7.out.keep b8)
  have P0_8 := Lib.hid (P0_7.out.keep b8)
  have G0_8 := Lib.hid (G0_7.out.keep b8)
  have G1_8 := Lib.hid (G1_7.out.keep b8)
  have B8 := Lib.hid (B7.out.trans (b8.mono B7.out.size))
  have T0_8 := Lib.hid m8_0
  have ap_Z0_T0 := Lib.hid (apart_new Z0_7.out m8_0 (Nat.le_refl _))
  have ap_Z1_T0 := Lib.hid (apart_new Z1_7.out m8_0 (Nat.le_refl _))
  have ap_P0_T0 := Lib.hid (apart_new P0_7.out m8_0 (Nat.le_refl _))
  have ap_G0_T0 := Lib.hid (apart_new G0_7.out m8_0 (Nat.le_refl _))
  have ap_G1_T0 := Lib.hid (apart_new G1_7.out m8_0 (Nat.le_refl _))
  clear b8 m8_0
  go_wp2_with fail
  refine (eqS_row _ _ _ _ _ _ X0 X0 _ P0_8.out.inn T0_8.out.inn).mono ?_
  rintro e w9 ⟨rfl, b9⟩
  rw [decide_eq_true (rfl : X0 = X0)]
  have Z0_9 := Lib.hid (Z0_8.out.keep b9)
  have Z1_9 := Lib.hid (Z1_8.out.keep b9)
  have P0_9 := Lib.hid (P0_8.out.keep b9)
  have G0_9 := Lib.hid (G0_8.out.keep b9)
  have G1_9 := Lib.hid (G1_8.out.keep b9)
  have T0_9 := Lib.hid (T0_8.out.keep b9)
  have B9 := Lib.hid (B8.out.trans (b9.mono B8.out.size))
  clear b9
  go_wp2_with fail
  refine (mkS_row _ _ _ _ X0 _ (1 : Int) _ P0_9.out (by omega) (by have := HA.out; have := HY.out; have := HC0.out; omega)).mono ?_
  rintro e w10 ⟨rfl, m10, o10⟩
  rw [← HC0.out]
  have Z0_10 := Lib.hid (Z0_9.out.far o10 (apart_flip ap_Z0_P0.out))
  have Z1_10 := Lib.hid (Z1_9.out.far o10 (apart_flip ap_Z1_P0.out))
  have G0_10 := Lib.hid (G0_9.out.far o10 ap_P0_G0.out)
  have G1_10 := Lib.hid (G1_9.out.far o10 ap_P0_G1.out)
  have B10 := Lib.hid (Below.marked P0_9.out o10 B9.out B3.out.size)
  have P0_10 := Lib.hid m10
  clear m10 o10
  have hk : ¬ (((1 : Int) + (C0 : Int)) < 0) := by omega
  go_wp2_with fail
  refine (eqS_row _ _ _ _ _ _ Y0 Y0 _ G0_10.out.inn Z0_10.out.inn).mono ?_
  rintro e w11 ⟨rfl, b11⟩
  rw [decide_eq_true (rfl : Y0 = Y0)]
  have Z0_11 := Lib.hid (Z0_10.out.keep b11)
  have Z1_11 := Lib.hid (Z1_10.out.keep b11)
  have G0_11 := Lib.hid (G0_10.out.keep b11)
  have G1_11 := Lib.hid (G1_10.out.keep b11)
  have B11 := Lib.hid (B10.out.trans (b11.mono B10.out.size))
  clear b11
  go_wp2_with fail
  refine (eqS_row _ _ _ _ _ _ Y1 Y1 _ G1_11.out.inn Z1_11.out.inn).mono ?_
  rintro e w12 ⟨rfl, b12⟩
  rw [decide_eq_true (rfl : Y1 = Y1)]
  have Z0_12 := Lib.hid (Z0_11.out.keep b12)
  have Z1_12 := Lib.hid (Z1_11.out.keep b12)
  have G0_12 := Lib.hid (G0_11.out.keep b12)
  have G1_12 := Lib.hid (G1_11.out.keep b12)
  have B12 := Lib.hid (B11.out.trans (b12.mono B11.out.size))
  clear b12
  go_wp2_with fail
  refine (mkS_row _ _ _ _ Y0 _ (1 : Int) _ G0_12.out (by omega) (by have := HA.out; have := HY.out; have := HD0.out; omega)).mono ?_
  rintro e w13 ⟨rfl, m13, o13⟩
  rw [← HD0.out]
  have Z0_13 := Lib.hid (Z0_12.out.far o13 (apart_flip ap_Z0_G0.out))
  have Z1_13 := Lib.hid (Z1_12.out.far o13 (apart_flip ap_Z1_G0.out))
  have G1_13 := Lib.hid (G1_12.out.far o13 ap_G0_G1.out)
  have B13 := Lib.hid (Below.marked G0_12.out o13 B12.out B4.out.size)
  have G0_13 := Lib.hid m13
  clear m13 o13
  go_wp2_with fail
  refine (mkS_row _ _ _ _ Y1 _ ((1 : Int) + (D0 : Int)) _ G1_13.out (by omega) (by have := HA.out; have := HY.out; have := HD1.out; have := HD0.out; omega)).mono ?_
  rintro e w14 ⟨rfl, m14, o14⟩
  rw [← HD1.out]
  have Z0_14 := Lib.hid (Z0_13.out.far o14 (apart_flip ap_Z0_G1.out))
  have Z1_14 := Lib.hid (Z1_13.out.far o14 (apart_flip ap_Z1_G1.out))
  have G0_14 := Lib.hid (G0_13.out.far o14 (apart_flip ap_G0_G1.out))
  have B14 := Lib.hid (Below.marked G1_13.out o14 B13.out B4.out.size)
  have G1_14 := Lib.hid m14
  clear m14 o14
  go_wp2_with fail
  refine (hdS_row _ _ _ Y0 (1 : Int) _ G0_14.out.inn (by omega) (by have := HA.out; have := HY.out; have := HD0.out; omega)).mono ?_
  rintro e w15 ⟨rfl, rfl⟩
  rw [← HD0.out]
  have Z0_15 := Lib.hid Z0_14.out
  have Z1_15 := Lib.hid Z1_14.out
  have G0_15 := Lib.hid G0_14.out
  have G1_15 := Lib.hid G1_14.out
  have B15 := Lib.hid B14.out
  have hq0 : ¬ (((1 : Int) + (D0 : Int)) < 0) := by omega
  go_wp2_with fail
  refine (hdS_row _ _ _ Y1 ((1 : Int) + (D0 : Int)) _ G1_15.out.inn (by omega) (by have := HA.out; have := HY.out; have := HD1.out; have := HD0.out; omega)).mono ?_
  rintro e w16 ⟨rfl, rfl⟩
  rw [← HD1.out]
  have Z0_16 := Lib.hid Z0_15.out
  have Z1_16 := Lib.hid Z1_15.out
  have G0_16 := Lib.hid G0_15.out
  have G1_16 := Lib.hid G1_15.out
  have B16 := Lib.hid B15.out
  have hq1 : ¬ (((1 : Int) + (D0 : Int) + (D1 : Int)) < 0) := by omega
  go_wp2_with fail
  refine (toS_row a0 n0 c0 X0 _ (HI0.out.keep B16.out) (by have := HA.out; omega)).mono ?_
  rintro e w17 ⟨g17, F17, rfl, m17_0, b17⟩
  have Z0_17 := Lib.hid (Z0_16.out.keep b17)
  have Z1_17 := Lib.hid (Z1_16.out.keep b17)
  have G0_17 := Lib.hid (G0_16.out.keep b17)
  have G1_17 := Lib.hid (G1_16.out.keep b17)
  have B17 := Lib.hid (B16.out.trans (b17.mono B16.out.size))
  have T0_17 := Lib.hid m17_0
  have ap_Z0_T0 := Lib.hid (apart_new Z0_16.out m17_0 (Nat.le_refl _))
  have ap_Z1_T0 := Lib.hid (apart_new Z1_16.out m17_0 (Nat.le_refl _))
  have ap_G0_T0 := Lib.hid (apart_new G0_16.out m17_0 (Nat.le_refl _))
  have ap_G1_T0 := Lib.hid (apart_new G1_16.out m17_0 (Nat.le_refl _))
  clear b17 m17_0
  go_wp2_with fail
  refine (IP.out _ _ _ T0_17.out.inn).mono ?_
  rintro e w18 ⟨x18_0, k18_0, c18_0, F18_0, x18_1, k18_1, c18_1, F18_1, rfl, m18_0, m18_1, q18_0_1, b18⟩
  have Z0_18 := Lib.hid (Z0_17.out.keep b18)
  have Z1_18 := Lib.hid (Z1_17.out.keep b18)
  have G0_18 := Lib.hid (G0_17.out.keep b18)
  have G1_18 := Lib.hid (G1_17.out.keep b18)
  have T0_18 := Lib.hid (T0_17.out.keep b18)
  have B18 := Lib.hid (B17.out.trans (b18.mono B17.out.size))
  have H0_18 := Lib.hid m18_0
  have ap_Z0_H0 := Lib.hid (apart_new Z0_17.out m18_0 (Nat.le_refl _))
  have ap_Z1_H0 := Lib.hid (apart_new Z1_17.out m18_0 (Nat.le_refl _))
  have ap_G0_H0 := Lib.hid (apart_new G0_17.out m18_0 (Nat.le_refl _))
  have ap_G1_H0 := Lib.hid (apart_new G1_17.out m18_0 (Nat.le_refl _))
  have ap_T0_H0 := Lib.hid (apart_new T0_17.out m18_0 (Nat.le_refl _))
  have H1_18 := Lib.hid m18_1
  have ap_Z0_H1 := Lib.hid (apart_new Z0_17.out m18_1 (Nat.le_refl _))
  have ap_Z1_H1 := Lib.hid (apart_new Z1_17.out m18_1 (Nat.le_refl _))
  have ap_G0_H1 := Lib.hid (apart_new G0_17.out m18_1 (Nat.le_refl _))
  have ap_G1_H1 := Lib.hid (apart_new G1_17.out m18_1 (Nat.le_refl _))
  have ap_T0_H1 := Lib.hid (apart_new T0_17.out m18_1 (Nat.le_refl _))
  have ap_H0_H1 := Lib.hid q18_0_1
  clear b18 m18_0 m18_1 q18_0_1
  go_wp2_with fail
  refine (eqS_row _ _ _ _ _ _ Y0 Y0 _ H0_18.out.inn Z0_18.out.inn).mono ?_
  rintro e w19 ⟨rfl, b19⟩
  rw [decide_eq_true (rfl : Y0 = Y0)]
  have Z0_19 := Lib.hid (Z0_18.out.keep b19)
  have Z1_19 := Lib.hid (Z1_18.out.keep b19)
  have G0_19 := Lib.hid (G0_18.out.keep b19)
  have G1_19 := Lib.hid (G1_18.out.keep b19)
  have H0_19 := Lib.hid (H0_18.out.keep b19)
  have H1_19 := Lib.hid (H1_18.out.keep b19)
  have B19 := Lib.hid (B18.out.trans (b19.mono B18.out.size))
  clear b19
  go_wp2_with fail
  refine (eqS_row _ _ _ _ _ _ Y1 Y1 _ H1_19.out.inn Z1_19.out.inn).mono ?_
  rintro e w20 ⟨rfl, b20⟩
  rw [decide_eq_true (rfl : Y1 = Y1)]
  have Z0_20 := Lib.hid (Z0_19.out.keep b20)
  have Z1_20 := Lib.hid (Z1_19.out.keep b20)
  have G0_20 := Lib.hid (G0_19.out.keep b20)
  have G1_20 := Lib.hid (G1_19.out.keep b20)
  have H0_20 := Lib.hid (H0_19.out.keep b20)
  have H1_20 := Lib.hid (H1_19.out.keep b20)
  have B20 := Lib.hid (B19.out.trans (b20.mono B19.out.size))
  clear b20
  go_wp2_with fail
  refine (hdS_row _ _ _ Y0 (1 : Int) _ G0_20.out.inn (by omega) (by have := HA.out; have := HY.out; have := HD0.out; omega)).mono ?_
  rintro e w21 ⟨rfl, rfl⟩
  rw [← HD0.out]
  have Z0_21 := Lib.hid Z0_20.out
  have Z1_21 := Lib.hid Z1_20.out
  have G0_21 := Lib.hid G0_20.out
  have G1_21 := Lib.hid G1_20.out
  have H0_21 := Lib.hid H0_20.out
  have H1_21 := Lib.hid H1_20.out
  have B21 := Lib.hid B20.out
  go_wp2_with fail
  refine (hdS_row _ _ _ Y1 ((1 : Int) + (D0 : Int)) _ G1_21.out.inn (by omega) (by have := HA.out; have := HY.out; have := HD1.out; have := HD0.out; omega)).mono ?_
  rintro e w22 ⟨rfl, rfl⟩
  rw [← HD1.out]
  have Z0_22 := Lib.hid Z0_21.out
  have Z1_22 := Lib.hid Z1_21.out
  have G0_22 := Lib.hid G0_21.out
  have G1_22 := Lib.hid G1_21.out
  have H0_22 := Lib.hid H0_21.out
  have H1_22 := Lib.hid H1_21.out
  have B22 := Lib.hid B21.out
  go_wp2_with fail
  go_ret
  exact ⟨rfl, B22.out⟩

/-! ### The row's step -/
theorem own : ownKnob Try.prog.godebug = none := by kernel_rfl
theorem laidOut : laidOutB Try.prog = true := by kernel_rfl
set_option maxRecDepth 100000 in
theorem lifted (os : Os) (started : os.Started) (H : Type) (enc : TypeId × Value → H) :
    ReturnsInHanded {} Try.checked os 5 .any (Rows.fnExactSplitByHashBitSpec.pre6 enc Try.prog Try.f5 Rows.fnExactSplitByHashBitRow.domain false) (Rows.fnExactSplitByHashBitSpec.post enc Try.prog Try.f5 false true false false) := by
  refine returnsInHanded_of_change (C := Try.checked) own started (by kernel_rfl) Try.func5
    (ChangeSpec.witness6 (enc := enc) (C := Try.checked) false ⟨#[], #[.slice none 0 0, .int .i64 0], []⟩ 8 (by kernel_rfl) (by kernel_rfl) (by kernel_rfl) (by kernel_rfl)) ?_
  intro W base args ds gs before hval0 hW hcnd hsz
  have hval : ∀ (j : Nat) t v, Try.f5.params[j]? = some t → args[j]? = some v → Value.okWide Try.prog W .any base t v := hval0
  have hW' := hW
  obtain ⟨p, q, hA0, hV, rfl, hfz, hnd⟩ := hW
  have hA : DataW.TrodAll enc Try.prog W 0 (fun _ => true) true Try.f5.params.toList args.toList ds p := hA0
  rw [Try.params5] at hA hval
  obtain ⟨v0, vs0, d0, ds0, p0, q0, hargs, rfl, rfl, h0, r0⟩ := trodAll_cons hA
  obtain ⟨v1, vs1, d1, ds1, p1, q1, rfl, rfl, rfl, h1, r1⟩ := trodAll_cons r0
  obtain ⟨rfl, rfl, rfl⟩ := trodAll_nil r1
  obtain rfl : args = #[v0, v1] := by cases args; simp_all
  obtain ⟨rfl, rfl⟩ := trodVars_none hV
  obtain ⟨a0, len0, cap0, rfl⟩ := okWide_slice Try.underlying39 (hval 0 39 v0 rfl rfl)
  have k0 := h0
  have lt0 : ∀ x ∈ p0, x.block < W.heap.size := by obtain ⟨m, hm⟩ := k0; exact DataW.trod_lt m _ _ _ hm
  obtain ⟨L0, w0⟩ := Opens.rows.arg h0
  obtain ⟨a1, rfl, rfl, rfl, w1⟩ := open_int Try.underlying3 (hval 1 3 v1 rfl rfl) h1
  clear hA0 hval0
  refine (walk a0 len0 cap0 L0 W w0 a1 w1).mono fun e W' ⟨he, bel⟩ => ?_
  subst he
  exact ⟨_, rfl, _, _, _, [], _, [], hW', trodAll_mk1 (shut_bool Try.underlying4 _), (trodAll_cons_mk (Below.trod laidOut (by kernel_rfl) (of_decide_eq_true (by kernel_rfl)) k0 bel lt0) (trodAll_cons_mk (shut_int Try.underlying3 w1) trodAll_mk0)), rfl, bel.frame _, fun h => by cases h⟩
theorem over : Rows.fnExactSplitByHashBitRow.holds Try.pinned (OpenSpec.ofChange Rows.fnExactSplitByHashBitSpec) :=
  OpenClaim.holds_of_wide 5 Try.f5 rfl rfl rfl rfl rfl rfl rfl ⟨rfl, rfl, rfl, rfl, rfl⟩ rfl rfl rfl rfl rfl (by kernel_rfl) Try.func5 (by kernel_rfl)
    (of_decide_eq_true (by kernel_rfl)) (by unfold Func.isWrapper; first | (rw [if_pos (by decide +kernel)]; kernel_rfl) | (rw [if_neg (by decide +kernel)]; exact ⟨rfl, rfl⟩))
    (fun os started H enc _ => lifted os started H enc)
/-- The statement. -/
theorem proved : Rows.FnExactSplitByHashBitSaid := over
#print axioms proved
end Go.Proofs.Ytcfemlnicpeagaa.FnExactSplitByHashBit
