/- Proved: for every code the law FnMultisets returns true: at the two slices of rows that the law draws (it answers true above 2^20 bytes), the program's EqualBags, BagDifference, CountRow and DistinctRows answer as the reference's; the slices are equal as multisets exactly if both differences are empty; each row is among the distinct ones once. No condition. -/
import Derived.Test.YtedfjpfppipfhaaRows
import Derived.Test.YtedfjpfppipfhaaBagi
import Derived.Test.YtedfjpfppipfhaaBags
import Derived.Test.YtedfjpfppipfhaaDisti
import Derived.Test.YtedfjpfppipfhaaCounti
import Derived.Test.YtedfjpfppipfhaaSameRows
import Derived.Test.YtedfjpfppipfhaaClass
import Derived.Test.YtedfjpfppipfhaaDraw3
import Derived.Deep.CutRange
import Derived.ProofKit
import Derived.OpenShut
import Derived.ShutString
import Derived.ChangeOld
namespace Go.Proofs.Ytedfjpfppipfhaa.FnMultisets
open Go Go.ChangeShapes Go.WideShapes Go.ChangeAt Go.RowKit
open Go.ChangeMaps (open_string shut_string)
set_option linter.unusedVariables false

theorem row_old {w : World} {a : Option Addr} {len cap : Nat} {zs : List Int} (h : IsRow .u8 w a len cap zs) : ∀ x, a = some x → 0 < cap → x.block < w.heap.size := by
  intro x hx hp
  rcases h with ⟨_, _, hc, _⟩ | ⟨y, rfl, hlc, hm, hz, hcell, hwz⟩
  · omega
  · obtain rfl := Option.some.inj hx
    have := World.block_lt_of_cell? w _ (hcell 0 (by omega))
    simpa [Addr.add] using this
set_option maxRecDepth 100000 in
theorem draw_two (a : Option Addr) (len cap : Nat) (zs : List Int) (w : World) (h : Code a len cap zs w) : Calls Try.prog 23 #[.slice a len cap] w (TwoRows w) := by
  have H := Lib.hid (two a len cap zs w h)
  clear h
  go_enter Try.func23, Try.ntmps23
  go_wp2_with fail
  refine H.out.mono ?_
  rintro e w1 ⟨x, y, n, m, k, l, L, M, rfl, h1, h2, h3, h4, h5, h6, b1⟩
  have HH : Hid (TwoRows w (.returned (.tuple #[.slice x n m, .slice y k l])) w1) := ⟨x, y, n, m, k, l, L, M, rfl, h1, h2, h3, h4, h5, h6, b1⟩
  clear h1 h2 h3 h4 h5 h6 b1
  go_wp2_with fail
  go_ret2
  exact HH.out
set_option maxRecDepth 100000 in
set_option maxHeartbeats 4000000 in
theorem walk (a : Option Addr) (len cap : Nat) (zs : List Int) (w : World) (hr : IsRow .u8 w a len cap zs) : Calls Try.prog 4 #[.slice a len cap] w fun e w' => e = .returned (.bool true) ∧ Below w.heap.size w w' := by
  by_cases hbig : len ≤ 1048576
  · have HC : Hid (Code a len cap zs w) := ⟨hr, hbig, row_old hr⟩
    clear hr
    go_enter Try.func4, Try.ntmps4
    go_wp2_with fail
    refine (big_no a len cap _ hbig).mono ?_
    rintro e w0 ⟨rfl, rfl⟩
    go_wp2_with fail
    refine (draw_two a len cap zs _ HC.out).mono ?_
    rintro e w1 ⟨x, y, n, m, k, l, L, M, rfl, hn, hk, hLW, hMW, hr1, hq1, b1⟩
    have HLW := Lib.hid hLW
    have HMW := Lib.hid hMW
    have R1 := Lib.hid hr1
    have Q1 := Lib.hid hq1
    have B1 := Lib.hid b1
    have HLL := Lib.hid hr1.1
    have HML := Lib.hid hq1.1
    clear hLW hMW hr1 hq1 b1
    have IE := Lib.hid fun v (h1 : IsRows v x n L) (h2 : IsRows v y k M) => ieqbags x y n m k l L M v h1 h2 (by omega) (by omega)
    have SE := Lib.hid fun v (h1 : IsRows v x n L) (h2 : IsRows v y k M) => seqbags x y n m k l L M v h1 h2 (by omega) (by omega)
    have ID := Lib.hid fun v (h1 : IsRows v x n L) (h2 : IsRows v y k M) => ibagdif x y n m k l L M v h1 h2 (by omega) (by omega)
    have IR := Lib.hid fun v (h1 : IsRows v x n L) (h2 : IsRows v y k M) => ibagdif y x k l n m M L v h2 h1 (by omega) (by omega)
    have SD := Lib.hid fun v (h1 : IsRows v x n L) (h2 : IsRows v y k M) => sbagdif x y n m k l L M v h1 h2 (by omega) (by omega)
    have HEQ := Lib.hid (R.eqBags_dif L M)
    have HBAL := Lib.hid (R.dif_balance L M)
    have HXW := Lib.hid (R.dif_wf (b := M) HLW.out)
    have HEC := Lib.hid (fun (h : R.eqBags L M = true) => R.eqBags_iff.1 h)
    obtain ⟨X, hX⟩ : ∃ X, X = R.dif L M := ⟨_, rfl⟩
    obtain ⟨Y, hY⟩ : ∃ Y, Y = R.dif M L := ⟨_, rfl⟩
    obtain ⟨E, hE⟩ : ∃ E, E = R.eqBags L M := ⟨_, rfl⟩
    rw [← hX] at ID SD HEQ HBAL HXW
    rw [← hY] at IR HEQ HBAL
    rw [← hE] at IE SE HEQ HEC
    have hXl : X.length ≤ 1000 := by rw [hX]; have := R.dif_length L M; have := HLL.out; omega
    have hYl : Y.length ≤ 1000 := by rw [hY]; have := R.dif_length M L; have := HML.out; omega
    rw [HLL.out, HML.out] at HBAL
    clear hX hY hE
    go_wp2_with fail
    refine (IE.out _ R1.out Q1.out).mono ?_
    rintro e w2 ⟨rfl, b2⟩
    have R2 := Lib.hid (R1.out.keep b2)
    have Q2 := Lib.hid (Q1.out.keep b2)
    have B2 := Lib.hid (B1.out.trans (b2.mono B1.out.size))
    clear b2 R1 Q1
    go_wp2_with fail
    refine (ID.out _ R2.out Q2.out).mono ?_
    rintro e w3 ⟨v3, rfl, m3, b3⟩
    obtain ⟨ax, cx, rfl⟩ := m3.slice
    have R3 := Lib.hid (R2.out.keep b3)
    have Q3 := Lib.hid (Q2.out.keep b3)
    have X3 := Lib.hid (m3.rows HXW.out)
    have B3 := Lib.hid (B2.out.trans (b3.mono B2.out.size))
    clear b3 m3 R2 Q2
    go_wp2_with fail
    refine (IR.out _ R3.out Q3.out).mono ?_
    rintro e w4 ⟨v4, rfl, m4, b4⟩
    obtain ⟨ay, cy, rfl⟩ := m4.slice
    have R4 := Lib.hid (R3.out.keep b4)
    have Q4 := Lib.hid (Q3.out.keep b4)
    have X4 := Lib.hid (X3.out.keep b4)
    have B4 := Lib.hid (B3.out.trans (b4.mono B3.out.size))
    clear b4 m4 R3 Q3 X3
    go_wp2_with fail
    refine (SE.out _ R4.out Q4.out).mono ?_
    rintro e w5 ⟨rfl, b5⟩
    have R5 := Lib.hid (R4.out.keep b5)
    have Q5 := Lib.hid (Q4.out.keep b5)
    have X5 := Lib.hid (X4.out.keep b5)
    have B5 := Lib.hid (B4.out.trans (b5.mono B4.out.size))
    clear b5 R4 Q4 X4
    go_wp2_with fail
    refine (SD.out _ R5.out Q5.out).mono ?_
    rintro e w6 ⟨v6, rfl, m6, b6⟩
    obtain ⟨a6, c6, rfl⟩ := m6.slice
    have Y6 := Lib.hid (m6.rows HXW.out)
    have R6 := Lib.hid (R5.out.keep b6)
    have Q6 := Lib.hid (Q5.out.keep b6)
    have X6 := Lib.hid (X5.out.keep b6)
    have B6 := Lib.hid (B5.out.trans (b6.mono B5.out.size))
    clear b6 m6 R5 Q5 X5
    go_wp2_with fail
    refine (samerows ax a6 X.length cx X.length c6 X _ X6.out Y6.out (by omega)).mono ?_
    rintro e w7 ⟨rfl, b7⟩
    have R7 := Lib.hid (R6.out.keep b7)
    have Q7 := Lib.hid (Q6.out.keep b7)
    have B7 := Lib.hid (B6.out.trans (b7.mono B6.out.size))
    clear b7 X6 Y6 R6 Q6
    have HEQ := HEQ.out
    have HBAL := HBAL.out
    have hw1 : IntKind.i64.wrap ((n : Int) - (X.length : Int)) = (n : Int) - (X.length : Int) := by rw [IntKind.wrap_i64]; omega
    have hw2 : IntKind.i64.wrap ((k : Int) - (Y.length : Int)) = (n : Int) - (X.length : Int) := by rw [IntKind.wrap_i64]; omega
    obtain ⟨nx, hnx⟩ : ∃ nx, nx = X.length := ⟨_, rfl⟩
    obtain ⟨ny, hny⟩ : ∃ ny, ny = Y.length := ⟨_, rfl⟩
    rw [← hnx] at HEQ HBAL hw1 hw2 ⊢
    rw [← hny] at HEQ HBAL hw2 ⊢
    have key : (nx = 0 ∧ ny = 0 ∧ E = true) ∨ (nx = 0 ∧ ny ≠ 0 ∧ E = false) ∨ (nx ≠ 0 ∧ ny = ny ∧ E = false) := by
      by_cases h1 : nx = 0
      · by_cases h2 : ny = 0
        · exact .inl ⟨h1, h2, by rw [HEQ, decide_eq_true h1, decide_eq_true h2]; rfl⟩
        · exact .inr (.inl ⟨h1, h2, by rw [HEQ, decide_eq_true h1, decide_eq_false h2]; rfl⟩)
      · exact .inr (.inr ⟨h1, rfl, by rw [HEQ, decide_eq_false h1]; rfl⟩)
    clear HEQ hnx hny
    have hwn : IntKind.i64.wrap (n : Int) = n := by rw [IntKind.wrap_i64]; omega
    rcases key with ⟨h1, h2, rfl⟩ | ⟨h1, h2, rfl⟩ | ⟨h1, h2, rfl⟩
    case' inl => have hb1 : (k : Int) = n := by omega
    case' inr.inl => have hb1 : ((ny : Int) == 0) = false := by simpa using h2
    case' inr.inr => have hb1 : ((nx : Int) == 0) = false := by simpa using h1
    all_goals clear HBAL
    all_goals
      go_wp2_with fail
      go_loopw [8] (fun i wr => ∃ t : Nat, i = .int .i64 t ∧ t ≤ n ∧ Hid (Below w7.heap.size w7 wr)) (fun i _ => n - (intOf i).toNat)
      case atStart => exact ⟨0, rfl, Nat.zero_le _, Below.refl _ _⟩
      case round =>
        obtain ⟨t, rfl, ht, hb⟩ := hrel
        obtain ⟨v0, hv0⟩ : ∃ v0, v0 = wr := ⟨_, rfl⟩
        subst hv0
        have R8 := Lib.hid (R7.out.keep hb.out)
        have Q8 := Lib.hid (Q7.out.keep hb.out)
        by_cases hlt : t < n
        · obtain ⟨b, o, rfl, hbl, hat⟩ := R8.out.at hlt
          obtain ⟨r, hr⟩ : ∃ r, r = L.getD t R.zero := ⟨_, rfl⟩
          rw [← hr] at hat
          have HAT := Lib.hid hat
          have HBL := Lib.hid hbl
          have C1 := Lib.hid fun v (hv : Below v0.heap.size v0 v) => (icount (some ⟨b, o, none⟩) n m L r v (R8.out.keep hv) (by omega)).mono fun e v' (h : e = .returned (.int .i64 (L.count r)) ∧ Below v.heap.size v v') => (⟨h.1, hv.trans (h.2.mono hv.size)⟩ : e = .returned (.int .i64 (L.count r)) ∧ Below v0.heap.size v0 v')
          have C2 := Lib.hid fun v (hv : Below v0.heap.size v0 v) => (scount (some ⟨b, o, none⟩) n m L r v (R8.out.keep hv) (by omega)).mono fun e v' (h : e = .returned (.int .i64 (L.count r)) ∧ Below v.heap.size v v') => (⟨h.1, hv.trans (h.2.mono hv.size)⟩ : e = .returned (.int .i64 (L.count r)) ∧ Below v0.heap.size v0 v')
          have C3 := Lib.hid fun v (hv : Below v0.heap.size v0 v) => (icount y k l M r v (Q8.out.keep hv) (by omega)).mono fun e v' (h : e = .returned (.int .i64 (M.count r)) ∧ Below v.heap.size v v') => (⟨h.1, hv.trans (h.2.mono hv.size)⟩ : e = .returned (.int .i64 (M.count r)) ∧ Below v0.heap.size v0 v')
          have HNN := Lib.hid fun h => HEC.out h r
          obtain ⟨N, hN⟩ : ∃ N, N = L.count r := ⟨_, rfl⟩
          obtain ⟨N', hN'⟩ : ∃ N', N' = M.count r := ⟨_, rfl⟩
          rw [← hN] at C1 C2 HNN
          rw [← hN'] at C3 HNN
          clear hN hN' hr hat hbl
          first | (have hcm := HNN.out True.intro; subst hcm) | skip
          have hi0 : (0 : Int) ≤ (t : Int) := by omega
          have hi1 : (t : Int) < (n : Int) := by omega
          go_wp2_with fail
          refine region_class (Below v0.heap.size v0) (by kernel_rfl) (by kernel_rfl) (Below.refl _ _).drew ?_
          repeat (first | go_big_quiet_skip | (go_big_quiet_want; go_big_quiet_op; first | go_big_quiet_on | (apply Exists.intro; refine ⟨fun v hv => ?_, ?_⟩; (focus (first | exact rfl | ((first | (go_at_call 27; first | with_reducible exact C1.out v hv | with_reducible exact C3.out v hv) | (go_at_call 28; exact C2.out v hv)); done) | ((obtain ⟨c0, c1, c2⟩ := HAT.out.below hv HBL.out); go_simp; done) | ((obtain ⟨c0, c1, c2⟩ := HAT.out.below hv HBL.out); go_simp; exact rfl) | ((obtain ⟨c0, c1, c2⟩ := HAT.out.below hv HBL.out); go_simp; exact ⟨rfl, rfl⟩))); go_big_quiet_on)))
          refine wpQuiet_nil ?_
          intro v hv
          go_wp2_with fail
          go_roundw
          case rel => exact ⟨t + 1, by go_num, by omega, hb.out.trans (hv.mono hb.out.size)⟩
          case measure => simp [intOf]; omega
        · have B8 := Lib.hid (B7.out.trans (hb.out.mono B7.out.size))
          clear hb R7 Q7 B7 Q8
          go_wp2_with fail
          refine (idist x n m L _ R8.out (by omega)).mono ?_
          rintro e w9 ⟨v9, rfl, m9, b9⟩
          obtain ⟨ad, cd, rfl⟩ := m9.slice
          have DW := Lib.hid (R.dist_wf HLW.out)
          have HD1 := Lib.hid fun (r : R) (h : r ∈ R.dist L) => R.dist_once h
          have HD2 := Lib.hid fun (r : R) (h : r ∈ R.dist L) => List.count_pos_iff.2 (R.dist_mem.1 h)
          have hdl : (R.dist L).length ≤ 1000 := by have := R.dist_length L; have := HLL.out; omega
          have SX := Lib.hid fun v (h1 : IsRows v x n L) => sdist x n m L v h1 (by omega)
          obtain ⟨D, hD⟩ : ∃ D, D = R.dist L := ⟨_, rfl⟩
          rw [← hD] at m9 DW HD1 HD2 hdl SX ⊢
          obtain ⟨nd, hnd⟩ : ∃ nd, nd = D.length := ⟨_, rfl⟩
          rw [← hnd] at m9 hdl ⊢
          have D9 := Lib.hid (m9.rows DW.out)
          have R9 := Lib.hid (R8.out.keep b9)
          have B9 := Lib.hid (B8.out.trans (b9.mono B8.out.size))
          have HND := Lib.hid hnd
          clear m9 b9 hD hnd R8 B8
          go_wp2_with fail
          go_loopw [10] (fun i wr => ∃ t : Nat, i = .int .i64 t ∧ t ≤ nd ∧ Hid (Below w9.heap.size w9 wr)) (fun i _ => nd - (intOf i).toNat)
          case atStart => exact ⟨0, rfl, Nat.zero_le _, Below.refl _ _⟩
          case round =>
            obtain ⟨t, rfl, ht, hb⟩ := hrel
            obtain ⟨v0, hv0⟩ : ∃ v0, v0 = wr := ⟨_, rfl⟩
            subst hv0
            have R10 := Lib.hid (R9.out.keep hb.out)
            have D10 := Lib.hid (D9.out.keep hb.out)
            by_cases hlt : t < nd
            · obtain ⟨b, o, rfl, hbl, hat⟩ := D10.out.at hlt
              obtain ⟨r, hr⟩ : ∃ r, r = D.getD t R.zero := ⟨_, rfl⟩
              have hmem : r ∈ D := by rw [hr]; exact R.getD_mem (by rw [← HND.out]; exact hlt)
              rw [← hr] at hat
              have HAT := Lib.hid hat
              have HBL := Lib.hid hbl
              have C1 := Lib.hid (icount (some ⟨b, o, none⟩) nd cd D r v0 D10.out (by omega))
              rw [HD1.out r hmem] at C1
              have C2 := Lib.hid fun v (hv : Below v0.heap.size v0 v) => icount x n m L r v (R10.out.keep hv) (by omega)
              have hN1 := HD2.out r hmem
              obtain ⟨N, hN⟩ : ∃ N, N = L.count r := ⟨_, rfl⟩
              rw [← hN] at C2 hN1
              have hN0 : ((N : Int) == 0) = false := by simp; omega
              obtain ⟨c0, c1, c2⟩ := hat
              clear hN hr hbl hmem
              go_wp2_with fail
              refine C1.out.mono ?_
              rintro e w10 ⟨rfl, b10⟩
              have hb10 := Lib.hid b10
              obtain ⟨d0, d1, d2⟩ := HAT.out.below b10 HBL.out
              clear b10
              go_wp2_with fail
              refine (C2.out _ hb10.out).mono ?_
              rintro e w11 ⟨rfl, b11⟩
              have hb11 := Lib.hid (hb10.out.trans (b11.mono hb10.out.size))
              clear b11
              go_wp2_with fail
              go_roundw
              case rel => exact ⟨t + 1, by go_num, by omega, hb.out.trans (hb11.out.mono hb.out.size)⟩
              case measure => simp [intOf]; omega
            · have B10 := Lib.hid (B9.out.trans (hb.out.mono B9.out.size))
              go_wp2_with fail
              refine (SX.out _ R10.out).mono ?_
              rintro e w12 ⟨v12, rfl, m12, b12⟩
              obtain ⟨ae, ce, rfl⟩ := m12.slice
              have D12 := Lib.hid (D10.out.keep b12)
              have E12 := Lib.hid (m12.rows DW.out)
              have B12 := Lib.hid (B10.out.trans (b12.mono B10.out.size))
              clear m12 b12
              go_wp2_with fail
              refine (samerows ad ae nd cd D.length ce D _ D12.out E12.out (by omega)).mono ?_
              rintro e w13 ⟨rfl, b13⟩
              have B13 := Lib.hid (B12.out.trans (b13.mono B12.out.size))
              clear b13
              go_wp2_with fail
              go_ret
              exact ⟨rfl, B13.out⟩
  · clear hr
    go_enter Try.func4, Try.ntmps4
    go_wp2_with fail
    refine (big_yes a len cap _ (by omega)).mono ?_
    rintro e w0 ⟨rfl, rfl⟩
    go_wp2_with fail
    go_ret
    exact ⟨rfl, Below.refl _ _⟩

/-! ### The row's step -/
theorem own : ownKnob Try.prog.godebug = none := by kernel_rfl
theorem laidOut : laidOutB Try.prog = true := by kernel_rfl
set_option maxRecDepth 100000 in
theorem lifted (os : Os) (started : os.Started) (H : Type) (enc : TypeId × Value → H) :
    ReturnsInHanded {} Try.checked os 4 .any (Rows.fnMultisetsSpec.pre6 enc Try.prog Try.f4 Rows.fnMultisetsRow.domain false) (Rows.fnMultisetsSpec.post enc Try.prog Try.f4 false true false false) := by
  refine returnsInHanded_of_change (C := Try.checked) own started (by kernel_rfl) Try.func4
    (ChangeSpec.witness6 (enc := enc) (C := Try.checked) false ⟨#[], #[.slice none 0 0], []⟩ 8 (by kernel_rfl) (by kernel_rfl) (by kernel_rfl) (by kernel_rfl)) ?_
  intro W base args ds gs before hval0 hW hcnd hsz
  have hval : ∀ (j : Nat) t v, Try.f4.params[j]? = some t → args[j]? = some v → Value.okWide Try.prog W .any base t v := hval0
  have hW' := hW
  obtain ⟨p, q, hA0, hV, rfl, hfz, hnd⟩ := hW
  have hA : DataW.TrodAll enc Try.prog W 0 (fun _ => true) true Try.f4.params.toList args.toList ds p := hA0
  rw [Try.params4] at hA hval
  obtain ⟨v0, vs0, d0, ds0, p0, q0, hargs, rfl, rfl, h0, r0⟩ := trodAll_cons hA
  obtain ⟨rfl, rfl, rfl⟩ := trodAll_nil r0
  obtain rfl : args = #[v0] := by cases args; simp_all
  obtain ⟨rfl, rfl⟩ := trodVars_none hV
  obtain ⟨a0, len0, cap0, rfl⟩ := okWide_slice Try.underlying22 (hval 0 22 v0 rfl rfl)
  have k0 := h0
  have lt0 : ∀ x ∈ p0, x.block < W.heap.size := by obtain ⟨m, hm⟩ := k0; exact DataW.trod_lt m _ _ _ hm
  obtain ⟨z0, w0⟩ : ∃ zs, IsRow .u8 W a0 len0 cap0 zs := by
    obtain ⟨fuel, hf⟩ := h0
    rcases open_ints Try.underlying22 Try.underlying5 (by kernel_rfl) hf with ⟨hcs, _⟩ | ⟨x, l, c, zs, hcs, _, hl, hm, hz, _, hcell, hwz⟩
    · simp [Value.cells] at hcs
      obtain ⟨rfl, rfl, rfl⟩ := hcs
      exact ⟨[], .inl ⟨rfl, rfl, rfl, rfl⟩⟩
    · simp [Value.cells] at hcs
      obtain ⟨rfl, rfl, rfl⟩ := hcs
      exact ⟨zs, .inr ⟨_, rfl, hl, hm, by simpa using hz, hcell, hwz⟩⟩
  clear hA0 hval0
  refine (walk a0 len0 cap0 z0 W w0).mono fun e W' ⟨he, bel⟩ => ?_
  subst he
  exact ⟨_, rfl, _, _, _, [], _, [], hW', trodAll_mk1 (shut_bool Try.underlying4 _), (trodAll_cons_mk (Below.trod laidOut (by kernel_rfl) (of_decide_eq_true (by kernel_rfl)) k0 bel lt0) trodAll_mk0), rfl, bel.frame _, fun h => by cases h⟩
theorem over : Rows.fnMultisetsRow.holds Try.pinned (OpenSpec.ofChange Rows.fnMultisetsSpec) :=
  OpenClaim.holds_of_wide 4 Try.f4 rfl rfl rfl rfl rfl rfl rfl ⟨rfl, rfl, rfl, rfl, rfl⟩ rfl rfl rfl rfl rfl (by kernel_rfl) Try.func4 (by kernel_rfl)
    (of_decide_eq_true (by kernel_rfl)) (by unfold Func.isWrapper; first | (rw [if_pos (by decide +kernel)]; kernel_rfl) | (rw [if_neg (by decide +kernel)]; exact ⟨rfl, rfl⟩))
    (fun os started H enc _ => lifted os started H enc)
/-- The statement. -/
theorem proved : Rows.FnMultisetsSaid := over
#print axioms proved
end Go.Proofs.Ytedfjpfppipfhaa.FnMultisets
