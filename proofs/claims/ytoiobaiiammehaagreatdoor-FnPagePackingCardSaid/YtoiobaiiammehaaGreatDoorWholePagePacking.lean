/- Proved: for every code the law FnPagePacking returns true: at all that the law draws (it answers true above 2^20 bytes), the program packs rows into valid pages of which the next one's first row would overflow each, as many as the reference's, unpacks them to the rows, and writes and reads their format as the reference does; rows that are not valid give no pages. The library's variables are tied to the program's text. No further condition. -/
import Derived.Test.YtoiobaiiammehaaGreatDoorPartPagePackinge
import Derived.Test.YtoiobaiiammehaaGreatDoorRows
import Derived.Test.YtoiobaiiammehaaGreatDoorCards
import Derived.Test.YtoiobaiiammehaaGreatDoorTie
import Derived.Deep.RegionHeld3
import Derived.Deep.CutRange
import Derived.ProofKit
import Derived.OpenShut
import Derived.ShutString
import Derived.ChangeOld
import Derived.LaidMore
import Derived.Lay
import Derived.Stop.Joined
import Derived.SevenTiedAt
namespace Go.Proofs.YtoiobaiiammehaaGreatDoor.FnPagePacking
open Go Go.ChangeShapes Go.WideShapes Go.ChangeAt Go.RowKit
open Go.ChangeMaps (open_string shut_string)
set_option linter.unusedVariables false

theorem of_laid {w : World} (h : laidMetH Tryz.prog Rows.fnPagePackingRow.laid w) : Tab w ∧ Syn w := by
  rw [MakeChecks.laidMetH_plain _ _ _ (by kernel_rfl)] at h
  exact ⟨by (first | exact tab_of h | exact tab_of h.tail | exact tab_of h.tail.tail | exact tab_of h.tail.tail.tail | exact tab_of h.tail.tail.tail.tail | exact tab_of h.tail.tail.tail.tail.tail | exact tab_of h.tail.tail.tail.tail.tail.tail | exact tab_of h.tail.tail.tail.tail.tail.tail.tail), by (first | exact syn_of h | exact syn_of h.tail | exact syn_of h.tail.tail | exact syn_of h.tail.tail.tail | exact syn_of h.tail.tail.tail.tail | exact syn_of h.tail.tail.tail.tail.tail | exact syn_of h.tail.tail.tail.tail.tail.tail | exact syn_of h.tail.tail.tail.tail.tail.tail.tail)⟩
theorem row_old {w : World} {a : Option Addr} {len cap : Nat} {zs : List Int} (h : IsRow .u8 w a len cap zs) : ∀ x, a = some x → 0 < cap → x.block < w.heap.size := by
  intro x hx hp
  rcases h with ⟨_, _, hc, _⟩ | ⟨y, rfl, hlc, hm, hz, hcell, hwz⟩
  · omega
  · obtain rfl := Option.some.inj hx
    have := World.block_lt_of_cell? w _ (hcell 0 (by omega))
    simpa [Addr.add] using this
theorem str_data (l : List UInt8) : (⟨l.toArray⟩ : ByteArray).data.toList = l := by simp
set_option maxRecDepth 100000 in
set_option maxHeartbeats 2000000 in
theorem walk (a : Option Addr) (len cap : Nat) (zs : List Int) (w : World) (hr : IsRow .u8 w a len cap zs) (hL : Tab w ∧ Syn w) (hM : Mx w) : Calls Tryz.prog 3 #[.slice a len cap] w fun e w' => e = .returned (.bool true) ∧ Below w.heap.size w w' := by
  by_cases hbig : len ≤ 1048576
  · have HC : Hid (Code a len cap zs w) := ⟨hr, hbig, row_old hr⟩
    have HL := Lib.hid hL
    have HM := Lib.hid hM
    clear hr hL hM
    go_enter Tryz.func3, Tryz.ntmps3
    go_wp2_with fail
    refine (big_no a len cap _ hbig).mono ?_
    rintro e w0 ⟨rfl, rfl⟩
    go_wp2_with fail
    refine (draw_pack a len cap zs _ HC.out).mono ?_
    rintro e w1 ⟨x, n, m, L, rfl, hn, hr1, b1⟩
    have B1 := Lib.hid b1
    have R1 := Lib.hid hr1
    have hll : L.length = n := hr1.1
    clear b1 hr1
    go_wp2_with fail
    refine (ipack x n m L _ (in_rows R1.out (by unfold maxLen; omega)) (by omega)).mono ?_
    rintro e w2 ⟨xp, np, mp, Fp, rfl, hp, b2⟩
    have B2 := Lib.hid (B1.out.trans (b2.mono B1.out.size))
    have R2 := Lib.hid (R1.out.keep b2)
    have P2 := Lib.hid hp.inn
    have hpl : (R.pack L).length = np := hp.1
    have hnp : np ≤ 15 := by have := R.pack_length (L := L); omega
    clear b2 hp
    go_wp2_with fail
    refine (spack x n m L _ R2.out (by omega)).mono ?_
    rintro e w3 ⟨xq, kq, mq, Fq, rfl, hq, b3⟩
    have hkq : kq = np := hq.1.symm.trans hpl
    subst hkq
    have B3 := Lib.hid (B2.out.trans (b3.mono B2.out.size))
    have R3 := Lib.hid (R2.out.keep b3)
    have P3 := Lib.hid (P2.out.keep b3)
    clear b3 hq
    go_wp2_with fail
    refine (sare x n m L _ R3.out (by omega)).mono ?_
    rintro e w4 ⟨rfl, b4⟩
    have B4 := Lib.hid (B3.out.trans (b4.mono B3.out.size))
    have R4 := Lib.hid (R3.out.keep b4)
    have P4 := Lib.hid (P3.out.keep b4)
    clear b4
    cases hok : okRows L with
    | false =>
      have hp0 : kq = 0 := by rw [R.pack_bad hok] at hpl; exact hpl.symm
      subst hp0
      clear hok
      go_wp2_with fail
      go_ret
      exact ⟨rfl, B4.out⟩
    | true =>
      have HOK := Lib.hid hok
      have HPL := Lib.hid hpl
      have HLL := Lib.hid hll
      obtain ⟨P, hP⟩ : ∃ P, P = R.pack L := ⟨_, rfl⟩
      have HVP := Lib.hid (show ∀ p ∈ P, R.pageOk p = true ∧ p ≠ [] from fun p h => R.pack_ok p (by rw [← hP]; exact h))
      have HNX := Lib.hid (show ∀ t, t + 1 < P.length → 8 < total (P.getD t []) + ((P.getD (t + 1) []).getD 0 R.zero).cost from fun t ht => by rw [hP] at ht ⊢; exact R.pack_next ht)
      have HFP := Lib.hid (show P.flatten = L from by rw [hP]; exact R.pack_flat hok)
      have HAP := Lib.hid (show R.allPages P = true from by rw [hP]; exact R.pack_all L)
      rw [← hP] at P4 HPL
      clear hok hpl hll hP P2 P3 R1 R2 R3
      go_wp2_with fail
      go_loopw [5] (fun i wr => ∃ k : Nat, i = .int .i64 k ∧ k ≤ kq ∧ Hid (Below w.heap.size w wr) ∧ Hid (Below w4.heap.size w4 wr)) (fun i _ => kq - (intOf i).toNat)
      case atStart => exact ⟨0, rfl, Nat.zero_le _, B4, Below.refl _ _⟩
      case round =>
        obtain ⟨k, rfl, hk, hbw, hb4⟩ := hrel
        have hsz : w.heap.size ≤ wr.heap.size := hbw.out.size
        by_cases hlt : k < kq
        · have hkl : k < P.length := by have := HPL.out; omega
          have hPk : P[k]? = some P[k] := by simp [hkl]
          obtain ⟨b, o, d, c1, m1, rfl, hbl, hcell, hin, -⟩ := (P4.out.keep hb4.out).at hPk
          obtain ⟨p, hpk⟩ : ∃ p, p = P[k] := ⟨_, rfl⟩
          have hgk : P.getD k [] = p := by rw [hpk]; simp [List.getD, hkl]
          rw [← hpk] at hin
          have hc1 : c1 ≤ 24 := by
            have h1 := R.sub_length (List.getElem_mem hkl)
            rw [HFP.out, HLL.out, ← hpk, hin.1] at h1
            omega
          have hpv : R.pageOk p = true := (HVP.out p (by rw [hpk]; exact List.getElem_mem hkl)).1
          have IN := Lib.hid hin
          have CI := Lib.hid fun v (hv : Below wr.heap.size wr v) => (ivalidpage d c1 m1 p v (IN.out.keep hv) (by omega)).mono fun e v' (h : e = .returned (.bool (R.pageOk p)) ∧ Below v.heap.size v v') => (⟨by rw [h.1, hpv], hv.trans (h.2.mono hv.size)⟩ : e = .returned (.bool true) ∧ Below wr.heap.size wr v')
          have CS := Lib.hid fun v (hv : Below wr.heap.size wr v) => (svalidpage d c1 m1 p v (IN.out.keep hv) (by omega)).mono fun e v' (h : e = .returned (.bool (R.pageOk p)) ∧ Below v.heap.size v v') => (⟨by rw [h.1, hpv], hv.trans (h.2.mono hv.size)⟩ : e = .returned (.bool true) ∧ Below wr.heap.size wr v')
          have HBL := Lib.hid hbl
          have HC0 := Lib.hid hcell
          have hki0 : (0 : Int) ≤ (k : Int) := by omega
          have hki1 : (k : Int) < (kq : Int) := by omega
          clear hPk hin hpk
          by_cases hnx : k + 1 < kq
          · have hkl2 : k + 1 < P.length := by have := HPL.out; omega
            have hPk2 : P[k + 1]? = some P[k + 1] := by simp [hkl2]
            obtain ⟨b2, o2, d2, c2, m2, e2, -, hcell2, hin2, -⟩ := (P4.out.keep hb4.out).at hPk2
            injection e2 with e2
            injection e2 with e21 e22 _
            subst e21 e22
            have hne2 := (HVP.out _ (List.getElem_mem hkl2)).2
            obtain ⟨p2, hpk2⟩ : ∃ p2, p2 = P[k + 1] := ⟨_, rfl⟩
            have hgk2 : P.getD (k + 1) [] = p2 := by rw [hpk2]; simp [List.getD, hkl2]
            rw [← hpk2] at hin2 hne2
            have hc2 : 0 < c2 := by rw [← hin2.1]; exact List.length_pos_iff.2 hne2
            have hov := HNX.out k hkl2
            rw [hgk, hgk2] at hov
            obtain ⟨r, hrr⟩ : ∃ r, r = p2.getD 0 R.zero := ⟨_, rfl⟩
            have hrw : r.wf := by rw [hrr]; exact (rows_in hin2).wf 0 hc2
            obtain ⟨b3, o3, rfl, hbl3, hat⟩ := (rows_in hin2).at hc2
            rw [← hrr] at hov hat
            have CO := Lib.hid fun v (hv : Below wr.heap.size wr v) => (ioverflow d c1 m1 p r hrw v (IN.out.keep hv) (by omega)).mono fun e v' (h : e = .returned (.bool (decide (8 < total p + r.cost))) ∧ Below v.heap.size v v') => (⟨by rw [h.1, decide_eq_true hov], hv.trans (h.2.mono hv.size)⟩ : e = .returned (.bool true) ∧ Below wr.heap.size wr v')
            have HK := Lib.hid fun v (hv : Below wr.heap.size wr v) => (show v.cell? ⟨b, o + k, none⟩ = some (.slice d c1 m1) ∧ v.cell? ⟨b, o + (k + 1), none⟩ = some (.slice (some ⟨b3, o3, none⟩) c2 m2) ∧ RowAt v b3 o3 r from
              ⟨(hv.cell HBL.out).trans HC0.out, (hv.cell HBL.out).trans hcell2, by have := hat.below hv hbl3; rwa [Nat.zero_mul, Nat.add_zero] at this⟩)
            have hki2 : (k : Int) + 1 < (kq : Int) := by omega
            have hc2i : (0 : Int) < (c2 : Int) := by omega
            have hz1 : ((c2 : Int) == 0) = false := by simp; omega
            have hz2 : (c2 == 0) = false := by simp; omega
            have hz3 : decide ((c2 : Int) = 0) = false := decide_eq_false (by omega)
            have hz4 : decide (c2 = 0) = false := decide_eq_false (by omega)
            clear hPk2 hin2 hpk2 hov hrr hat hne2 hcell2 hgk hgk2 hcell
            go_wp2_with fail
            refine region_class (Below wr.heap.size wr) (by kernel_rfl) (by kernel_rfl) (Below.refl _ _).drew ?_
            repeat (first | go_big_quiet_skip | (go_big_quiet_want; go_big_quiet_op; first | go_big_quiet_on | (apply Exists.intro; refine ⟨fun v hv => ?_, ?_⟩; (focus (first | exact rfl | ((first | (go_at_call 9; exact CI.out v hv) | (go_at_call 10; exact CS.out v hv) | (go_at_call 11; exact CO.out v hv)); done) | ((obtain ⟨x0, x1, x2, x3, x4⟩ := HK.out v hv); go_simp; done) | ((obtain ⟨x0, x1, x2, x3, x4⟩ := HK.out v hv); go_simp; exact rfl) | ((obtain ⟨x0, x1, x2, x3, x4⟩ := HK.out v hv); go_simp; exact ⟨rfl, rfl⟩))); go_big_quiet_on)))
            refine wpQuiet_nil ?_
            intro v hv
            have B5 := Lib.hid (hbw.out.trans (hv.mono hsz))
            have K5 := Lib.hid (hb4.out.trans (hv.mono hb4.out.size))
            clear hz1 hz2 hz3 hz4 hc2i
            go_wp2_with fail
            go_roundw
            case rel => exact ⟨k + 1, by go_num, by omega, B5, K5⟩
            case measure => simp [intOf]; omega
          · have HK := Lib.hid fun v (hv : Below wr.heap.size wr v) => (show v.cell? ⟨b, o + k, none⟩ = some (.slice d c1 m1) from (hv.cell HBL.out).trans HC0.out)
            have hz1 : decide ((k : Int) + 1 < (kq : Int)) = false := decide_eq_false (by omega)
            have hz2 : ¬ ((k : Int) + 1 < (kq : Int)) := by omega
            clear hgk hcell
            go_wp2_with fail
            refine region_class (Below wr.heap.size wr) (by kernel_rfl) (by kernel_rfl) (Below.refl _ _).drew ?_
            repeat (first | go_big_quiet_skip | (go_big_quiet_want; go_big_quiet_op; first | go_big_quiet_on | (apply Exists.intro; refine ⟨fun v hv => ?_, ?_⟩; (focus (first | exact rfl | ((first | (go_at_call 9; exact CI.out v hv) | (go_at_call 10; exact CS.out v hv)); done) | ((have x0 := HK.out v hv); go_simp; done) | ((have x0 := HK.out v hv); go_simp; exact rfl) | ((have x0 := HK.out v hv); go_simp; exact ⟨rfl, rfl⟩))); go_big_quiet_on)))
            refine wpQuiet_nil ?_
            intro v hv
            have B5 := Lib.hid (hbw.out.trans (hv.mono hsz))
            have K5 := Lib.hid (hb4.out.trans (hv.mono hb4.out.size))
            clear hz1 hz2
            go_wp2_with fail
            go_roundw
            case rel => exact ⟨k + 1, by go_num, by omega, B5, K5⟩
            case measure => simp [intOf]; omega
        · have P5 := Lib.hid (P4.out.keep hb4.out)
          have R5 := Lib.hid (R4.out.keep hb4.out)
          have hkk : ¬ ((k : Int) < (kq : Int)) := by omega
          have hkd : decide ((k : Int) < (kq : Int)) = false := decide_eq_false hkk
          go_wp2_with fail
          refine (draw_fpages a len cap zs _ (HC.out.below hbw.out)).mono ?_
          rintro e w5 ⟨xf, nf, mf, Q, rfl, hq5, hnf, hqf, b5⟩
          have B5 := Lib.hid (hbw.out.trans (b5.mono hsz))
          have P6 := Lib.hid (P5.out.keep b5)
          have R6 := Lib.hid (R5.out.keep b5)
          have Q6 := Lib.hid hq5
          clear b5 hq5 hkk hkd
          go_wp2_with fail
          refine (draw_ppages a len cap zs _ (HC.out.below B5.out)).mono ?_
          rintro e w6 ⟨s, rfl, hs, b6⟩
          have B6 := Lib.hid (B5.out.trans (b6.mono B5.out.size))
          have P7 := Lib.hid (P6.out.keep b6)
          have R7 := Lib.hid (R6.out.keep b6)
          have Q7 := Lib.hid (Q6.out.keep b6)
          clear b6
          obtain ⟨I, hI⟩ : ∃ I, I = (R.parsePages s.data.toList).isSome := ⟨_, rfl⟩
          obtain ⟨Y, hY⟩ : ∃ Y, Y = (R.parsePages s.data.toList).getD [] := ⟨_, rfl⟩
          have SP := Lib.hid fun v => sppages s (by omega) v
          have IP := Lib.hid fun v hm hl => ippages s (by omega) v hm hl
          have hyl := R.parsePages_sizes s.data.toList
          rw [show s.data.toList.length = s.size by simp] at hyl
          unfold PagesGive at SP IP
          rw [← hY] at SP IP hyl
          rw [← hI] at SP IP
          have HYS := Lib.hid (show I = true → (⟨(R.fmtPages Y).toArray⟩ : ByteArray) = s from fun h => by
            rw [h] at hI
            cases hq : R.parsePages s.data.toList with
            | none => rw [hq] at hI; cases hI
            | some Y' =>
              rw [hq] at hY
              have e : Y = Y' := hY
              rw [e, (R.parsePages_inv hq).2])
          have hy1 : Y.length ≤ 10000 := by omega
          have hy2 : Y.flatten.length ≤ 240000 := by omega
          have HY1 := Lib.hid hy1
          have HY2 := Lib.hid hy2
          have HNP := Lib.hid hnp
          clear hI hY hyl hs hy1 hy2
          go_wp2_with fail
          refine (IP.out _ (HM.out.stay B6.out) (laid_stay HL.out B6.out)).mono ?_
          rintro e w7 ⟨a7, n7, c7, F7, rfl, m7, b7⟩
          have B7 := Lib.hid (B6.out.trans (b7.mono B6.out.size))
          have P8 := Lib.hid (P7.out.keep b7)
          have R8 := Lib.hid (R7.out.keep b7)
          have Q8 := Lib.hid (Q7.out.keep b7)
          have Y8 := Lib.hid m7.inn
          clear b7 m7
          go_wp2_with fail
          refine (SP.out _).mono ?_
          rintro e w8 ⟨a8, n8, c8, F8, rfl, -, b8⟩
          have B8 := Lib.hid (B7.out.trans (b8.mono B7.out.size))
          have P9 := Lib.hid (P8.out.keep b8)
          have R9 := Lib.hid (R8.out.keep b8)
          have Q9 := Lib.hid (Q8.out.keep b8)
          have Y9 := Lib.hid (Y8.out.keep b8)
          clear b8
          go_wp2_with fail
          refine (ifpages xp kq mp P _ P9.out (by have := HNP.out; omega) (by rw [HFP.out, HLL.out]; omega) (laid_stay HL.out B8.out).1).mono ?_
          rintro e w9 ⟨rfl, b9⟩
          have B9 := Lib.hid (B8.out.trans (b9.mono B8.out.size))
          have P10 := Lib.hid (P9.out.keep b9)
          have R10 := Lib.hid (R9.out.keep b9)
          have Q10 := Lib.hid (Q9.out.keep b9)
          have Y10 := Lib.hid (Y9.out.keep b9)
          obtain ⟨T, hT⟩ : ∃ T : ByteArray, T = ⟨(R.fmtPages P).toArray⟩ := ⟨_, rfl⟩
          have htl : T.size ≤ 3270 := by
            have h1 := R.fmtPages_length P
            have h2 := HPL.out
            have h3 := HNP.out
            rw [hT]; simp [ByteArray.size]; omega
          have htp : R.parsePages T.data.toList = some P := by rw [hT, str_data]; exact R.parsePages_fmt P HAP.out
          have TP := Lib.hid fun v hm hl => ippages T (by omega) v hm hl
          unfold PagesGive at TP
          rw [htp] at TP
          rw [← hT]
          clear b9 hT htl htp
          go_wp2_with fail
          refine (TP.out _ (HM.out.stay B9.out) (laid_stay HL.out B9.out)).mono ?_
          rintro e w10 ⟨a10, n10, c10, F10, rfl, m10, b10⟩
          have B10 := Lib.hid (B9.out.trans (b10.mono B9.out.size))
          have P11 := Lib.hid (P10.out.keep b10)
          have R11 := Lib.hid (R10.out.keep b10)
          have Q11 := Lib.hid (Q10.out.keep b10)
          have Y11 := Lib.hid (Y10.out.keep b10)
          have X11 := Lib.hid (show SeqIn pageRep w10 a10 n10 P from m10.inn)
          clear b10 m10
          go_wp2_with fail
          refine (iunpack xp kq mp P _ P11.out (by have := HNP.out; omega) (by rw [HFP.out, HLL.out]; omega)).mono ?_
          rintro e w11 ⟨u11, k11, c11, G11, rfl, m11, b11⟩
          rw [HFP.out] at m11
          have B11 := Lib.hid (B10.out.trans (b11.mono B10.out.size))
          have R12 := Lib.hid (R11.out.keep b11)
          have Q12 := Lib.hid (Q11.out.keep b11)
          have Y12 := Lib.hid (Y11.out.keep b11)
          have X12 := Lib.hid (X11.out.keep b11)
          have U12 := Lib.hid (rows_in m11.inn)
          clear b11 m11
          go_wp2_with fail
          refine (samerows _ _ _ _ _ _ L _ U12.out R12.out (by have h1 := U12.out.1; have h2 := HLL.out; omega)).mono ?_
          rintro e w12 ⟨rfl, b12⟩
          have B12 := Lib.hid (B11.out.trans (b12.mono B11.out.size))
          have R13 := Lib.hid (R12.out.keep b12)
          have Q13 := Lib.hid (Q12.out.keep b12)
          have Y13 := Lib.hid (Y12.out.keep b12)
          have X13 := Lib.hid (X12.out.keep b12)
          clear b12
          go_wp2_with fail
          refine (ifpages xf nf mf Q _ Q13.out (by omega) (by omega) (laid_stay HL.out B12.out).1).mono ?_
          rintro e w13 ⟨rfl, b13⟩
          have B13 := Lib.hid (B12.out.trans (b13.mono B12.out.size))
          have R14 := Lib.hid (R13.out.keep b13)
          have Q14 := Lib.hid (Q13.out.keep b13)
          have Y14 := Lib.hid (Y13.out.keep b13)
          have X14 := Lib.hid (X13.out.keep b13)
          obtain ⟨Z, hZ⟩ : ∃ Z : ByteArray, Z = ⟨(R.fmtPages Q).toArray⟩ := ⟨_, rfl⟩
          rw [← hZ]
          have HZ := Lib.hid hZ
          clear b13 hZ
          go_wp2_with fail
          refine (sfpages xf nf mf Q _ Q14.out (by omega) (by omega)).mono ?_
          rintro e w14 ⟨rfl, b14⟩
          rw [← HZ.out]
          have B14 := Lib.hid (B13.out.trans (b14.mono B13.out.size))
          have R15 := Lib.hid (R14.out.keep b14)
          have Y15 := Lib.hid (Y14.out.keep b14)
          have X15 := Lib.hid (X14.out.keep b14)
          clear b14
          cases I with
          | true =>
            have e := HYS.out rfl
            go_wp2_with fail
            refine (ifpages a7 n7 c7 Y _ Y15.out (by rw [← Y15.out.1]; have := HY1.out; omega) (by have := HY2.out; omega) (laid_stay HL.out B14.out).1).mono ?_
            rintro e' w15 ⟨rfl, b15⟩
            rw [e]
            have B15 := Lib.hid (B14.out.trans (b15.mono B14.out.size))
            have R16 := Lib.hid (R15.out.keep b15)
            have X16 := Lib.hid (X15.out.keep b15)
            clear b15 e
            go_wp2_with fail
            refine (iunpack a10 n10 c10 P _ X16.out (by have h1 := X16.out.1; have h2 := HPL.out; have h3 := HNP.out; omega) (by rw [HFP.out, HLL.out]; omega)).mono ?_
            rintro e w16 ⟨u16, k16, c16, G16, rfl, m16, b16⟩
            rw [HFP.out] at m16
            have B16 := Lib.hid (B15.out.trans (b16.mono B15.out.size))
            have R17 := Lib.hid (R16.out.keep b16)
            have U17 := Lib.hid (rows_in m16.inn)
            clear b16 m16
            go_wp2_with fail
            refine (samerows _ _ _ _ _ _ L _ U17.out R17.out (by have h1 := U17.out.1; have h2 := HLL.out; omega)).mono ?_
            rintro e w17 ⟨rfl, b17⟩
            have B17 := Lib.hid (B16.out.trans (b17.mono B16.out.size))
            clear b17
            go_wp2_with fail
            go_ret
            exact ⟨rfl, B17.out⟩
          | false =>
            go_wp2_with fail
            refine (iunpack a10 n10 c10 P _ X15.out (by have h1 := X15.out.1; have h2 := HPL.out; have h3 := HNP.out; omega) (by rw [HFP.out, HLL.out]; omega)).mono ?_
            rintro e w16 ⟨u16, k16, c16, G16, rfl, m16, b16⟩
            rw [HFP.out] at m16
            have B16 := Lib.hid (B14.out.trans (b16.mono B14.out.size))
            have R17 := Lib.hid (R15.out.keep b16)
            have U17 := Lib.hid (rows_in m16.inn)
            clear b16 m16
            go_wp2_with fail
            refine (samerows _ _ _ _ _ _ L _ U17.out R17.out (by have h1 := U17.out.1; have h2 := HLL.out; omega)).mono ?_
            rintro e w17 ⟨rfl, b17⟩
            have B17 := Lib.hid (B16.out.trans (b17.mono B16.out.size))
            clear b17
            go_wp2_with fail
            go_ret
            exact ⟨rfl, B17.out⟩
  · clear hr
    go_enter Tryz.func3, Tryz.ntmps3
    go_wp2_with fail
    refine (big_yes a len cap _ (by omega)).mono ?_
    rintro e w0 ⟨rfl, rfl⟩
    go_wp2_with fail
    go_ret
    exact ⟨rfl, Below.refl _ _⟩

/-! ### The row's step -/
theorem own : ownKnob Tryz.prog.godebug = none := by kernel_rfl
theorem laidOut : laidOutB Tryz.prog = true := by kernel_rfl
set_option maxRecDepth 100000 in
theorem door_met (os : Os) (args : Array Value) : laidMetH Tryz.prog Rows.fnPagePackingRow.laid ((World.laidAll Tryz.prog os Rows.fnPagePackingRow.laid).forCall (fun _ _ => 0) ⟨#[], args, []⟩).memory := by
  rw [MakeChecks.laidMetH_plain _ _ _ (by kernel_rfl)]
  exact laidMet_laidAll args (by kernel_rfl) (by kernel_rfl)
set_option maxRecDepth 100000 in
theorem lifted (os : Os) (started : os.Started) (H : Type) (enc : TypeId × Value → H) :
    ReturnsInHanded {} Tryz.checked os 3 .any (fun w args => (Rows.fnPagePackingSpec.pre enc Tryz.prog Tryz.f3 [] false w args ∧ laidMetH Tryz.prog Rows.fnPagePackingRow.laid w) ∧ sizedMet enc Tryz.prog Tryz.f3 (OpenSpec.ofChange Rows.fnPagePackingSpec) false w args)
      (Rows.fnPagePackingSpec.post enc Tryz.prog Tryz.f3 false true false false) := by
  refine wrap_listed (C := Tryz.checked) (X := fun w _ => laidMetH Tryz.prog Rows.fnPagePackingRow.laid w) (fun _ _ _ hh h => h.of_heap hh) own started (by kernel_rfl) Tryz.func3
    (ChangeSpec.witness_shaped (enc := enc) (C := Tryz.checked) (os := os) (X := fun w _ => laidMetH Tryz.prog Rows.fnPagePackingRow.laid w) false (World.laidAll Tryz.prog os Rows.fnPagePackingRow.laid) #[.slice none 0 0] 8 (World.laidAll_os _ _ _) (World.shaped_of_ZipB (by kernel_rfl) (by kernel_rfl)) (by kernel_rfl) (by kernel_rfl) (by kernel_rfl) (door_met os _)) ?_
  intro W base args ds gs before hval0 hW hL hS
  have hval : ∀ (j : Nat) t v, Tryz.f3.params[j]? = some t → args[j]? = some v → Value.okWide Tryz.prog W .any base t v := hval0
  have hW' := hW
  obtain ⟨p, q, hA0, hV, rfl, hfz, hnd⟩ := hW
  have hA : DataW.TrodAll enc Tryz.prog W 0 (fun _ => true) true Tryz.f3.params.toList args.toList ds p := hA0
  rw [Tryz.params3] at hA hval
  obtain ⟨v0, vs0, d0, ds0, p0, q0, hargs, rfl, rfl, h0, r0⟩ := trodAll_cons hA
  obtain ⟨rfl, rfl, rfl⟩ := trodAll_nil r0
  obtain rfl : args = #[v0] := by cases args; simp_all
  obtain ⟨rfl, rfl⟩ := trodVars_none hV
  obtain ⟨a0, len0, cap0, rfl⟩ := okWide_slice Tryz.underlying22 (hval 0 22 v0 rfl rfl)
  have k0 := h0
  have lt0 : ∀ x ∈ p0, x.block < W.heap.size := by obtain ⟨m, hm⟩ := k0; exact DataW.trod_lt m _ _ _ hm
  obtain ⟨z0, w0⟩ : ∃ zs, IsRow .u8 W a0 len0 cap0 zs := by
    obtain ⟨fuel, hf⟩ := h0
    rcases open_ints Tryz.underlying22 Tryz.underlying5 (by kernel_rfl) hf with ⟨hcs, _⟩ | ⟨x, l, c, zs, hcs, _, hl, hm, hz, _, hcell, hwz⟩
    · simp [Value.cells] at hcs
      obtain ⟨rfl, rfl, rfl⟩ := hcs
      exact ⟨[], .inl ⟨rfl, rfl, rfl, rfl⟩⟩
    · simp [Value.cells] at hcs
      obtain ⟨rfl, rfl, rfl⟩ := hcs
      exact ⟨zs, .inr ⟨_, rfl, hl, hm, by simpa using hz, hcell, hwz⟩⟩
  clear hA0 hval0
  refine (walk a0 len0 cap0 z0 W w0 (of_laid hL) (mx_of hS)).mono fun e W' ⟨he, bel⟩ => ?_
  subst he
  exact ⟨_, rfl, _, _, _, [], _, [], hW', trodAll_mk1 (shut_bool Tryz.underlying4 _), (trodAll_cons_mk (Below.trod laidOut (by kernel_rfl) (of_decide_eq_true (by kernel_rfl)) k0 bel lt0) trodAll_mk0), rfl, bel.frame _, fun h => by cases h⟩
theorem over : Rows.fnPagePackingRow.holds Tryz.pinned (OpenSpec.ofChange Rows.fnPagePackingSpec) :=
  OpenClaim.holds_of_wide 3 Tryz.f3 rfl rfl rfl rfl rfl rfl rfl ⟨rfl, rfl, rfl, rfl, rfl⟩ rfl rfl rfl rfl rfl (by kernel_rfl) Tryz.func3 (by kernel_rfl)
    (of_decide_eq_true (by kernel_rfl)) (by unfold Func.isWrapper; first | (rw [if_pos (by decide +kernel)]; kernel_rfl) | (rw [if_neg (by decide +kernel)]; exact ⟨rfl, rfl⟩))
    (fun os started H enc _ => lifted os started H enc)
/-- The statement: the tied card. -/
theorem proved : Rows.FnPagePackingCardSaid :=
  Claim7.holds_tied_plain_at .later [] _ _ _ _ over (fun _ h => by cases h) (by kernel_rfl) (fun _ h => by cases h) fnPagePacking_row_tie rfl ⟨rfl, rfl⟩ (by kernel_rfl) rfl
    (fun f fn hf hfn => by
      obtain rfl : f = 3 := Option.some.inj ((show Tryz.prog.funcNamed "loop.example/g01920/laws.FnPagePacking" = some 3 by kernel_rfl).symm.trans hf) |>.symm
      obtain rfl : fn = Tryz.f3 := (Option.some.inj (Tryz.func3.symm.trans hfn)).symm
      exact ⟨by kernel_rfl, fun j t ht => by
        rw [Tryz.params3] at ht
        have hm : t ∈ [22] := by simpa using Array.mem_of_getElem? ht
        have hall : ([22].all fun u => !Tryz.prog.wantsStandIn u) = true := by kernel_rfl
        exact (show Tryz.prog.wantsStandIn t = false by simpa using List.all_eq_true.1 hall t hm)⟩)
    (by kernel_rfl)
#print axioms proved
end Go.Proofs.YtoiobaiiammehaaGreatDoor.FnPagePacking
