/- The law FnEncodings, walked: the number that is drawn has a varint. -/
import Derived.Test.YtckfagjffpajdaaDoorEnc
namespace Go.Proofs.YtckfagjffpajdaaDoor
open Go Go.RowKit Num Dec

set_option maxHeartbeats 2000000 in
set_option maxRecDepth 100000 in
theorem enc_a1 (a : Option Addr) (len cap : Nat) (zs : List Int) (w : World) (h : Code a len cap zs w) (ht : Tab w ∧ Syn w) (n : Int) (hn : n = (drawN zs len).1) (hnb0 : -9223372036854775808 ≤ n) (hnb1 : n ≤ 9223372036854775807)
    (h0 : 0 ≤ n) (h9 : n ≤ 999999999) :
    Calls Tryd.prog 3 #[.slice a len cap] w fun e w' => e = .returned (.bool true) ∧ Below w.heap.size w w' := by
  have H := Lib.hid h
  have HT := Lib.hid ht
  have HN := Lib.hid hn
  obtain ⟨V, hV⟩ : ∃ V, V = encVar n := ⟨_, rfl⟩
  have hvl : V.length ≤ 7 := by rw [hV]; exact encVar_length n
  have HV := Lib.hid hV
  obtain ⟨T, hT⟩ : ∃ T, T = drawT zs len := ⟨_, rfl⟩
  have htl : T.length ≤ 40 := by have := textS_length zs len 40 (0, newH zs len) (by omega); rw [hT]; unfold drawT; omega
  have HTT := Lib.hid hT
  obtain ⟨F, hF⟩ : ∃ F, F = encFixed n 7 := ⟨_, rfl⟩
  have hfl : F.length ≤ 7 := by rw [hF]; exact encFixed7_length n
  have HF := Lib.hid hF
  obtain ⟨D, hD⟩ : ∃ D, D = drawD zs len := ⟨_, rfl⟩
  have HD := Lib.hid hD
  have hve : V.isEmpty = false := by rw [hV, enc_in n (by omega) (by omega)]; exact isEmpty_of_length (leb_length 6 _).1
  have HR : Hid (∀ r, ((decV (V ++ r)).1 : Int) = n ∧ ((decV (V ++ r)).2 : Int) = V.length) := fun r => by rw [hV, enc_in n (by omega) (by omega), decV_leb _ (small49 n (by omega) (by omega)) r]; exact ⟨by omega, rfl⟩
  have hfe : F.isEmpty = false := by rw [hF]; exact fix7_ne n (by omega) (by omega)
  have hfl7 : F.length = 7 := by rw [hF]; exact fix7_len n (by omega) (by omega)
  have HG : Hid (∀ r, ((decFixed (F ++ r) 7 : Nat) : Int) = n ∧ decFixedOk (F ++ r) 7 = true) := fun r => by rw [hF]; exact fix7_back n (by omega) (by omega) r
  have HP : Hid (parse (Lib.itoa n) = some n) := parse_some rfl (by omega) (by omega)
  obtain ⟨z, j, hzj⟩ : ∃ z j : Int, z = ((decV D.data.toList).1 : Int) ∧ j = ((decV D.data.toList).2 : Int) := ⟨_, _, rfl, rfl⟩
  have hok := decV_ok D.data.toList
  have hjj : j = 0 ∨ (1 ≤ j ∧ j ≤ (D.size : Int)) := by
    rcases hok with hk | ⟨h1, h2, _, _⟩
    · left; omega
    · right; rw [Array.length_toList] at h2; have : D.data.size = D.size := rfl; omega
  have HE : Hid (j ≠ 0 → encVar z = D.data.toList.take j.toNat) := fun hne => by
    rcases hok with hk | ⟨_, _, h3, h4⟩
    · exact absurd (by omega) hne
    · have h5 : (128 : Nat) ^ 7 = 562949953421312 := by decide
      rw [hzj.1, hzj.2, enc_in _ (by omega) (by omega), Int.toNat_natCast, Int.toNat_natCast]; exact h3
  have HJ := Lib.hid hzj
  clear hzj hok
  clear h ht hn hV hT hF hD
  go_enter Tryd.func3, Tryd.ntmps3
  go_wp2_with fail
  refine (big_no a len cap _ H.out.small).mono ?_
  rintro e w0 ⟨rfl, rfl⟩
  go_wp2_with fail
  refine (drawn_num a len cap zs _ H.out).mono ?_
  rintro e w1 ⟨rfl, hb1⟩
  rw [← HN.out]
  have B1 := Lib.hid hb1
  clear hb1
  go_wp2_with fail
  refine (drawn_text a len cap zs _ (H.out.below B1.out)).mono ?_
  rintro e w2 ⟨rfl, hb2⟩
  rw [← HTT.out]
  have B2 := Lib.hid (B1.out.trans (hb2.mono B1.out.size))
  clear hb2
  go_wp2_with fail
  refine (ienc n _).mono ?_
  rintro e w3 ⟨rfl, hb3⟩
  rw [← HV.out]
  have B3 := Lib.hid (B2.out.trans (hb3.mono B2.out.size))
  clear hb3
  go_wp2_with fail
  refine (idec _ _).mono ?_
  rintro e w4 ⟨rfl, rfl⟩
  rw [cat_data, (HR.out T).1, (HR.out T).2]
  go_wp2_with fail
  refine (ifix n 7 _ (WalkArith.wf_i64 ⟨hnb0, hnb1⟩)).mono ?_
  rintro e w4 ⟨rfl, hb4⟩
  rw [← HF.out]
  have B4 := Lib.hid (B3.out.trans (hb4.mono B3.out.size))
  clear hb4
  go_wp2_with fail
  refine (idfix _ 7 _).mono ?_
  rintro e w5 ⟨he, rfl⟩
  unfold FixAns at he
  subst he
  rw [cat_data, (HG.out T).1, (HG.out T).2]
  go_wp2_with fail
  refine (ifmt n _ hnb0 hnb1 (HT.out.1.stay B4.out)).mono ?_
  rintro e w6 ⟨rfl, hb6⟩
  have B6 := Lib.hid (B4.out.trans (hb6.mono B4.out.size))
  clear hb6
  go_wp2_with fail
  refine (iparse _ _ (HT.out.1.stay B6.out) (HT.out.2.stay B6.out)).mono ?_
  rintro e w7 ⟨he, hb7⟩
  unfold ParAns at he
  rw [show (⟨(Lib.itoa n).toArray⟩ : ByteArray).data.toList = Lib.itoa n from rfl, HP.out] at he
  simp only [Option.getD_some, Option.isSome_some] at he
  subst he
  have B7 := Lib.hid (B6.out.trans (hb7.mono B6.out.size))
  clear hb7
  go_wp2_with fail
  refine (ihex _ (by show T.toArray.size ≤ 1048576; simp; omega) _).mono ?_
  rintro e w8 ⟨rfl, hb8⟩
  have B8 := Lib.hid (B7.out.trans (hb8.mono B7.out.size))
  clear hb8
  go_wp2_with fail
  refine (iunhex _ (by show (hex T).toArray.size ≤ 1048576; simp [hex_length]; omega) _).mono ?_
  rintro e w9 ⟨he, hb9⟩
  unfold HexAns at he
  rw [show (⟨(hex (⟨T.toArray⟩ : ByteArray).data.toList).toArray⟩ : ByteArray).data.toList = hex T from rfl, unhex_hex] at he
  simp only [Option.getD_some, Option.isSome_some] at he
  subst he
  have B9 := Lib.hid (B8.out.trans (hb9.mono B8.out.size))
  clear hb9
  go_wp2_with fail
  refine (drawn_dec a len cap zs _ (H.out.below B9.out)).mono ?_
  rintro e w10 ⟨rfl, hb10⟩
  rw [← HD.out]
  have B10 := Lib.hid (B9.out.trans (hb10.mono B9.out.size))
  clear hb10
  go_wp2_with fail
  refine (idec D _).mono ?_
  rintro e w11 ⟨rfl, rfl⟩
  rw [← HJ.out.1, ← HJ.out.2]
  rcases hjj with hj0 | ⟨hj1, hj2⟩
  · have tj : (j == 0) = true := by rw [beq_iff_eq]; exact hj0
    clear hj0
    go_wp2_with fail
    go_ret
    exact ⟨rfl, B10.out⟩
  · have tj : (j == 0) = false := beq_eq_false_iff_ne.2 (by omega)
    go_wp2_with fail
    refine (drawn_dec a len cap zs _ (H.out.below B10.out)).mono ?_
    rintro e w11 ⟨rfl, hb11⟩
    rw [← HD.out]
    have B11 := Lib.hid (B10.out.trans (hb11.mono B10.out.size))
    clear hb11
    go_wp2_with fail
    refine (drawn_dec a len cap zs _ (H.out.below B11.out)).mono ?_
    rintro e w12 ⟨rfl, hb12⟩
    rw [← HD.out]
    have B12 := Lib.hid (B11.out.trans (hb12.mono B11.out.size))
    clear hb12
    go_wp2_with fail
    refine (ienc z _).mono ?_
    rintro e w13 ⟨rfl, hb13⟩
    have B13 := Lib.hid (B12.out.trans (hb13.mono B12.out.size))
    clear hb13
    go_wp2_with fail
    refine (drawn_dec a len cap zs _ (H.out.below B13.out)).mono ?_
    rintro e w14 ⟨rfl, hb14⟩
    rw [← HD.out]
    have B14 := Lib.hid (B13.out.trans (hb14.mono B13.out.size))
    clear hb14
    obtain ⟨J, rfl⟩ : ∃ J : Nat, j = (J : Int) := ⟨j.toNat, by omega⟩
    have hJD : J ≤ D.size := by omega
    have heq := HE.out (by omega)
    go_wp2_with fail
    go_ret
    exact ⟨by rw [ext_take]; simp, B14.out⟩
set_option maxHeartbeats 2000000 in
set_option maxRecDepth 100000 in
theorem enc_a2 (a : Option Addr) (len cap : Nat) (zs : List Int) (w : World) (h : Code a len cap zs w) (ht : Tab w ∧ Syn w) (n : Int) (hn : n = (drawN zs len).1) (hnb0 : -9223372036854775808 ≤ n) (hnb1 : n ≤ 9223372036854775807)
    (h0 : 999999999 < n) (h9 : n ≤ 562949953421311) :
    Calls Tryd.prog 3 #[.slice a len cap] w fun e w' => e = .returned (.bool true) ∧ Below w.heap.size w w' := by
  have H := Lib.hid h
  have HT := Lib.hid ht
  have HN := Lib.hid hn
  obtain ⟨V, hV⟩ : ∃ V, V = encVar n := ⟨_, rfl⟩
  have hvl : V.length ≤ 7 := by rw [hV]; exact encVar_length n
  have HV := Lib.hid hV
  obtain ⟨T, hT⟩ : ∃ T, T = drawT zs len := ⟨_, rfl⟩
  have htl : T.length ≤ 40 := by have := textS_length zs len 40 (0, newH zs len) (by omega); rw [hT]; unfold drawT; omega
  have HTT := Lib.hid hT
  obtain ⟨F, hF⟩ : ∃ F, F = encFixed n 7 := ⟨_, rfl⟩
  have hfl : F.length ≤ 7 := by rw [hF]; exact encFixed7_length n
  have HF := Lib.hid hF
  obtain ⟨D, hD⟩ : ∃ D, D = drawD zs len := ⟨_, rfl⟩
  have HD := Lib.hid hD
  have hve : V.isEmpty = false := by rw [hV, enc_in n (by omega) (by omega)]; exact isEmpty_of_length (leb_length 6 _).1
  have HR : Hid (∀ r, ((decV (V ++ r)).1 : Int) = n ∧ ((decV (V ++ r)).2 : Int) = V.length) := fun r => by rw [hV, enc_in n (by omega) (by omega), decV_leb _ (small49 n (by omega) (by omega)) r]; exact ⟨by omega, rfl⟩
  have hfe : F.isEmpty = false := by rw [hF]; exact fix7_ne n (by omega) (by omega)
  have hfl7 : F.length = 7 := by rw [hF]; exact fix7_len n (by omega) (by omega)
  have HG : Hid (∀ r, ((decFixed (F ++ r) 7 : Nat) : Int) = n ∧ decFixedOk (F ++ r) 7 = true) := fun r => by rw [hF]; exact fix7_back n (by omega) (by omega) r
  have HP : Hid (parse (Lib.itoa n) = none) := parse_none n (by omega)
  obtain ⟨z, j, hzj⟩ : ∃ z j : Int, z = ((decV D.data.toList).1 : Int) ∧ j = ((decV D.data.toList).2 : Int) := ⟨_, _, rfl, rfl⟩
  have hok := decV_ok D.data.toList
  have hjj : j = 0 ∨ (1 ≤ j ∧ j ≤ (D.size : Int)) := by
    rcases hok with hk | ⟨h1, h2, _, _⟩
    · left; omega
    · right; rw [Array.length_toList] at h2; have : D.data.size = D.size := rfl; omega
  have HE : Hid (j ≠ 0 → encVar z = D.data.toList.take j.toNat) := fun hne => by
    rcases hok with hk | ⟨_, _, h3, h4⟩
    · exact absurd (by omega) hne
    · have h5 : (128 : Nat) ^ 7 = 562949953421312 := by decide
      rw [hzj.1, hzj.2, enc_in _ (by omega) (by omega), Int.toNat_natCast, Int.toNat_natCast]; exact h3
  have HJ := Lib.hid hzj
  clear hzj hok
  clear h ht hn hV hT hF hD
  go_enter Tryd.func3, Tryd.ntmps3
  go_wp2_with fail
  refine (big_no a len cap _ H.out.small).mono ?_
  rintro e w0 ⟨rfl, rfl⟩
  go_wp2_with fail
  refine (drawn_num a len cap zs _ H.out).mono ?_
  rintro e w1 ⟨rfl, hb1⟩
  rw [← HN.out]
  have B1 := Lib.hid hb1
  clear hb1
  go_wp2_with fail
  refine (drawn_text a len cap zs _ (H.out.below B1.out)).mono ?_
  rintro e w2 ⟨rfl, hb2⟩
  rw [← HTT.out]
  have B2 := Lib.hid (B1.out.trans (hb2.mono B1.out.size))
  clear hb2
  go_wp2_with fail
  refine (ienc n _).mono ?_
  rintro e w3 ⟨rfl, hb3⟩
  rw [← HV.out]
  have B3 := Lib.hid (B2.out.trans (hb3.mono B2.out.size))
  clear hb3
  go_wp2_with fail
  refine (idec _ _).mono ?_
  rintro e w4 ⟨rfl, rfl⟩
  rw [cat_data, (HR.out T).1, (HR.out T).2]
  go_wp2_with fail
  refine (ifix n 7 _ (WalkArith.wf_i64 ⟨hnb0, hnb1⟩)).mono ?_
  rintro e w4 ⟨rfl, hb4⟩
  rw [← HF.out]
  have B4 := Lib.hid (B3.out.trans (hb4.mono B3.out.size))
  clear hb4
  go_wp2_with fail
  refine (idfix _ 7 _).mono ?_
  rintro e w5 ⟨he, rfl⟩
  unfold FixAns at he
  subst he
  rw [cat_data, (HG.out T).1, (HG.out T).2]
  go_wp2_with fail
  refine (ifmt n _ hnb0 hnb1 (HT.out.1.stay B4.out)).mono ?_
  rintro e w6 ⟨rfl, hb6⟩
  have B6 := Lib.hid (B4.out.trans (hb6.mono B4.out.size))
  clear hb6
  go_wp2_with fail
  refine (iparse _ _ (HT.out.1.stay B6.out) (HT.out.2.stay B6.out)).mono ?_
  rintro e w7 ⟨he, hb7⟩
  unfold ParAns at he
  rw [show (⟨(Lib.itoa n).toArray⟩ : ByteArray).data.toList = Lib.itoa n from rfl, HP.out] at he
  simp only [Option.getD_none, Option.isSome_none] at he
  subst he
  have B7 := Lib.hid (B6.out.trans (hb7.mono B6.out.size))
  clear hb7
  go_wp2_with fail
  refine (ihex _ (by show T.toArray.size ≤ 1048576; simp; omega) _).mono ?_
  rintro e w8 ⟨rfl, hb8⟩
  have B8 := Lib.hid (B7.out.trans (hb8.mono B7.out.size))
  clear hb8
  go_wp2_with fail
  refine (iunhex _ (by show (hex T).toArray.size ≤ 1048576; simp [hex_length]; omega) _).mono ?_
  rintro e w9 ⟨he, hb9⟩
  unfold HexAns at he
  rw [show (⟨(hex (⟨T.toArray⟩ : ByteArray).data.toList).toArray⟩ : ByteArray).data.toList = hex T from rfl, unhex_hex] at he
  simp only [Option.getD_some, Option.isSome_some] at he
  subst he
  have B9 := Lib.hid (B8.out.trans (hb9.mono B8.out.size))
  clear hb9
  go_wp2_with fail
  refine (drawn_dec a len cap zs _ (H.out.below B9.out)).mono ?_
  rintro e w10 ⟨rfl, hb10⟩
  rw [← HD.out]
  have B10 := Lib.hid (B9.out.trans (hb10.mono B9.out.size))
  clear hb10
  go_wp2_with fail
  refine (idec D _).mono ?_
  rintro e w11 ⟨rfl, rfl⟩
  rw [← HJ.out.1, ← HJ.out.2]
  rcases hjj with hj0 | ⟨hj1, hj2⟩
  · have tj : (j == 0) = true := by rw [beq_iff_eq]; exact hj0
    clear hj0
    go_wp2_with fail
    go_ret
    exact ⟨rfl, B10.out⟩
  · have tj : (j == 0) = false := beq_eq_false_iff_ne.2 (by omega)
    go_wp2_with fail
    refine (drawn_dec a len cap zs _ (H.out.below B10.out)).mono ?_
    rintro e w11 ⟨rfl, hb11⟩
    rw [← HD.out]
    have B11 := Lib.hid (B10.out.trans (hb11.mono B10.out.size))
    clear hb11
    go_wp2_with fail
    refine (drawn_dec a len cap zs _ (H.out.below B11.out)).mono ?_
    rintro e w12 ⟨rfl, hb12⟩
    rw [← HD.out]
    have B12 := Lib.hid (B11.out.trans (hb12.mono B11.out.size))
    clear hb12
    go_wp2_with fail
    refine (ienc z _).mono ?_
    rintro e w13 ⟨rfl, hb13⟩
    have B13 := Lib.hid (B12.out.trans (hb13.mono B12.out.size))
    clear hb13
    go_wp2_with fail
    refine (drawn_dec a len cap zs _ (H.out.below B13.out)).mono ?_
    rintro e w14 ⟨rfl, hb14⟩
    rw [← HD.out]
    have B14 := Lib.hid (B13.out.trans (hb14.mono B13.out.size))
    clear hb14
    obtain ⟨J, rfl⟩ : ∃ J : Nat, j = (J : Int) := ⟨j.toNat, by omega⟩
    have hJD : J ≤ D.size := by omega
    have heq := HE.out (by omega)
    go_wp2_with fail
    go_ret
    exact ⟨by rw [ext_take]; simp, B14.out⟩
end Go.Proofs.YtckfagjffpajdaaDoor
