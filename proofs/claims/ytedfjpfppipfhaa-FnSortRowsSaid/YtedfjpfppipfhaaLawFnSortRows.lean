/- Proved: for every code the law FnSortRows returns true: at the rows that the law draws (it answers true above 2^20 bytes), the program's SortRows answers as the reference's, a sorted permutation, and sorted again it is the same; CompareRows answers as the reference's, is antisymmetric, and answers 0 at equal rows alone; IsSorted answers as the reference's. No condition. -/
import Derived.Test.YtedfjpfppipfhaaRows
import Derived.Test.YtedfjpfppipfhaaSorti
import Derived.Test.YtedfjpfppipfhaaBagi
import Derived.Test.YtedfjpfppipfhaaAsc
import Derived.Test.YtedfjpfppipfhaaCmpi
import Derived.Test.YtedfjpfppipfhaaSameRows
import Derived.Test.YtedfjpfppipfhaaDrawC
import Derived.ProofKit
import Derived.OpenShut
import Derived.ShutString
import Derived.ChangeOld
namespace Go.Proofs.Ytedfjpfppipfhaa.FnSortRows
open Go.ChangeShapes Go.WideShapes Go.ChangeAt Go.RowKit
open Go.ChangeMaps (open_string shut_string)
set_option linter.unusedVariables false

theorem row_old {w : World} {a : Option Addr} {len cap : Nat} {zs : List Int} (h : IsRow .u8 w a len cap zs) : ∀ x, a = some x → 0 < cap → x.block < w.heap.size := by
  intro x hx hp
  rcases h with ⟨_, _, hc, _⟩ | ⟨y, rfl, hlc, hm, hz, hcell, hwz⟩
  · omega
  · obtain rfl := Option.some.inj hx
    have := World.block_lt_of_cell? w _ (hcell 0 (by omega))
    simpa [Addr.add] using this
theorem cmp_three (p q : R) : R.cmp p q = -1 ∨ R.cmp p q = 0 ∨ R.cmp p q = 1 := by
  unfold R.cmp
  repeat' split
  all_goals omega
set_option maxRecDepth 100000 in
set_option maxHeartbeats 4000000 in
theorem walk (a : Option Addr) (len cap : Nat) (zs : List Int) (w : World) (hr : IsRow .u8 w a len cap zs) : Calls Try.prog 3 #[.slice a len cap] w fun e w' => e = .returned (.bool true) ∧ Below w.heap.size w w' := by
  by_cases hbig : len ≤ 1048576
  · have HC : Hid (Code a len cap zs w) := ⟨hr, hbig, row_old hr⟩
    clear hr
    go_enter Try.func3, Try.ntmps3
    go_wp2_with fail
    refine (big_no a len cap _ hbig).mono ?_
    rintro e w0 ⟨rfl, rfl⟩
    go_wp2_with fail
    refine (draw_sort a len cap zs _ HC.out).mono ?_
    rintro e w1 ⟨x, n, m, L, rfl, hn, hLW, hr1, b1⟩
    have HLW := Lib.hid hLW
    have R1 := Lib.hid hr1
    have B1 := Lib.hid b1
    have HLL := Lib.hid hr1.1
    clear hLW hr1 b1
    go_wp2_with fail
    refine (isort x n m L _ R1.out (by omega)).mono ?_
    rintro e w2 ⟨v2, rfl, hm2, b2⟩
    obtain ⟨ax, cx, rfl⟩ := hm2.slice
    obtain ⟨Z, hZ⟩ : ∃ Z, Z = R.sort L := ⟨_, rfl⟩
    rw [← hZ] at hm2
    have hZl : Z.length = n := by rw [hZ, R.sort_length]; exact HLL.out
    have hlen : (R.sort L).length = n := by rw [R.sort_length]; exact HLL.out
    rw [hZl] at hm2
    rw [hlen]
    have ZW := Lib.hid (show ∀ r ∈ Z, r.wf from by rw [hZ]; exact R.sort_wf HLW.out)
    have EZ := Lib.hid (show R.sort L = Z from hZ.symm)
    have HZZ := Lib.hid (show R.sort Z = Z from by rw [hZ, R.sort_sort])
    have HZA := Lib.hid (show R.asc Z = true from by rw [hZ, R.asc_sort])
    have HZB := Lib.hid (show R.eqBags Z L = true from by rw [hZ, R.eqBags_sort])
    have R2 := Lib.hid (R1.out.keep b2)
    have M2 := Lib.hid (hm2.rows ZW.out)
    have B2 := Lib.hid (B1.out.trans (b2.mono B1.out.size))
    have C2 := Lib.hid (HC.out.below B2.out)
    have HZL := Lib.hid hZl
    clear hm2 b2 hZ hZl hlen
    go_wp2_with fail
    refine (draw_cmp a len cap zs _ C2.out).mono ?_
    rintro e w3 ⟨p, q, rfl, b3⟩
    have bb : Below w3.heap.size w3 ((w3.alloc (.cells #[.int .i64 p.key, .int .i64 p.value, .int .i64 p.width] 28)).alloc (.cells #[.int .i64 q.key, .int .i64 q.value, .int .i64 q.width] 28)) := ((Below.refl _ _).alloc (Nat.le_refl _) _).alloc (by simp) _
    have hsz : (w3.alloc (.cells #[.int .i64 p.key, .int .i64 p.value, .int .i64 p.width] 28)).heap.size = w3.heap.size + 1 := by simp
    have P3 := Lib.hid ((Var3.made w3 p).alloc (.cells #[.int .i64 q.key, .int .i64 q.value, .int .i64 q.width] 28))
    have Q3 := Lib.hid (Var3.made (w3.alloc (.cells #[.int .i64 p.key, .int .i64 p.value, .int .i64 p.width] 28)) q)
    rw [hsz] at Q3
    have B3 := Lib.hid ((B2.out.trans (b3.mono B2.out.size)).trans (bb.mono (Nat.le_trans B2.out.size b3.size)))
    have R3 := Lib.hid ((R2.out.keep b3).keep bb)
    have M3 := Lib.hid ((M2.out.keep b3).keep bb)
    clear b3 bb hsz
    have IC := Lib.hid fun v => icmp p q v
    have JC := Lib.hid fun v => icmp q p v
    have SC := Lib.hid fun v => scmp p q v
    unfold R.val at IC JC SC
    have hk3 := cmp_three p q
    have hkz := R.cmp_zero p q
    rw [R.cmp_anti p q] at JC
    obtain ⟨k, hk⟩ : ∃ k, k = R.cmp p q := ⟨_, rfl⟩
    rw [← hk] at IC JC SC hk3 hkz
    clear hk
    obtain ⟨g, hg⟩ : ∃ g, g = w3.heap.size := ⟨_, rfl⟩
    go_wp2_with fail
    refine (IC.out _).mono ?_
    rintro e w4 ⟨rfl, b4⟩
    have P4 := Lib.hid (P3.out.keep b4)
    have Q4 := Lib.hid (Q3.out.keep b4)
    have B4 := Lib.hid (B3.out.trans (b4.mono B3.out.size))
    have C4 := Lib.hid (HC.out.below B4.out)
    have R4 := Lib.hid (R3.out.keep b4)
    have M4 := Lib.hid (M3.out.keep b4)
    clear b4 R1 R2 R3 M2 M3
    go_wp2_with fail
    refine (draw_issorted a len cap zs _ C4.out).mono ?_
    rintro e w5 ⟨y, n5, m5, K, rfl, hn5, hKW, hr5, b5⟩
    have P5 := Lib.hid (P4.out.keep b5)
    have Q5 := Lib.hid (Q4.out.keep b5)
    have B5 := Lib.hid (B4.out.trans (b5.mono B4.out.size))
    have R5 := Lib.hid (R4.out.keep b5)
    have M5 := Lib.hid (M4.out.keep b5)
    have K5 := Lib.hid hr5
    clear b5 hr5 hKW R4 M4
    go_wp2_with fail
    refine (ssort x n m L _ R5.out (by omega)).mono ?_
    rintro e w6 ⟨g6, c6, rfl, hm6, b6⟩
    rw [EZ.out] at hm6
    have N6 := Lib.hid (hm6.rows ZW.out)
    have P6 := Lib.hid (P5.out.keep b6)
    have Q6 := Lib.hid (Q5.out.keep b6)
    have B6 := Lib.hid (B5.out.trans (b6.mono B5.out.size))
    have R6 := Lib.hid (R5.out.keep b6)
    have M6 := Lib.hid (M5.out.keep b6)
    have K6 := Lib.hid (K5.out.keep b6)
    clear b6 hm6 R5 M5 K5 P5 Q5
    go_wp2_with fail
    refine (samerows ax _ n cx n c6 Z _ M6.out N6.out (by omega)).mono ?_
    rintro e w7 ⟨rfl, b7⟩
    have P7 := Lib.hid (P6.out.keep b7)
    have Q7 := Lib.hid (Q6.out.keep b7)
    have B7 := Lib.hid (B6.out.trans (b7.mono B6.out.size))
    have R7 := Lib.hid (R6.out.keep b7)
    have M7 := Lib.hid (M6.out.keep b7)
    have K7 := Lib.hid (K6.out.keep b7)
    clear b7 R6 M6 K6 P6 Q6 N6
    have IA := Lib.hid (iasc ax n cx Z _ M7.out (by omega))
    rw [HZA.out] at IA
    go_wp2_with fail
    refine IA.out.mono ?_
    rintro e w8 ⟨rfl, b8⟩
    have P8 := Lib.hid (P7.out.keep b8)
    have Q8 := Lib.hid (Q7.out.keep b8)
    have B8 := Lib.hid (B7.out.trans (b8.mono B7.out.size))
    have R8 := Lib.hid (R7.out.keep b8)
    have M8 := Lib.hid (M7.out.keep b8)
    have K8 := Lib.hid (K7.out.keep b8)
    clear b8 R7 M7 K7 P7 Q7 IA
    have IE := Lib.hid (ieqbags ax x n cx n m Z L _ M8.out R8.out (by omega) (by omega))
    rw [HZB.out] at IE
    go_wp2_with fail
    refine IE.out.mono ?_
    rintro e w9 ⟨rfl, b9⟩
    have P9 := Lib.hid (P8.out.keep b9)
    have Q9 := Lib.hid (Q8.out.keep b9)
    have B9 := Lib.hid (B8.out.trans (b9.mono B8.out.size))
    have M9 := Lib.hid (M8.out.keep b9)
    have K9 := Lib.hid (K8.out.keep b9)
    clear b9 R8 M8 K8 P8 Q8 IE
    go_wp2_with fail
    refine (isort ax n cx Z _ M9.out (by omega)).mono ?_
    rintro e w10 ⟨v10, rfl, hm10, b10⟩
    rw [HZZ.out] at hm10
    obtain ⟨a10, c10, rfl⟩ := hm10.slice
    rw [HZL.out] at hm10 ⊢
    have N10 := Lib.hid (hm10.rows ZW.out)
    have P10 := Lib.hid (P9.out.keep b10)
    have Q10 := Lib.hid (Q9.out.keep b10)
    have B10 := Lib.hid (B9.out.trans (b10.mono B9.out.size))
    have M10 := Lib.hid (M9.out.keep b10)
    have K10 := Lib.hid (K9.out.keep b10)
    clear b10 hm10 M9 K9 P9 Q9
    go_wp2_with fail
    refine (samerows a10 ax n c10 n cx Z _ N10.out M10.out (by omega)).mono ?_
    rintro e w11 ⟨rfl, b11⟩
    have P11 := Lib.hid (P10.out.keep b11)
    have Q11 := Lib.hid (Q10.out.keep b11)
    have B11 := Lib.hid (B10.out.trans (b11.mono B10.out.size))
    have K11 := Lib.hid (K10.out.keep b11)
    clear b11 M10 N10 K10 P10 Q10
    obtain ⟨p0, p1, p2⟩ := P11.out.cells
    obtain ⟨q0, q1, q2⟩ := Q11.out.cells
    go_wp2_with fail
    refine (SC.out _).mono ?_
    rintro e w12 ⟨rfl, b12⟩
    have P12 := Lib.hid (P11.out.keep b12)
    have Q12 := Lib.hid (Q11.out.keep b12)
    have B12 := Lib.hid (B11.out.trans (b12.mono B11.out.size))
    have K12 := Lib.hid (K11.out.keep b12)
    clear b12 K11 P11 Q11 p0 p1 p2 q0 q1 q2
    obtain ⟨p0, p1, p2⟩ := P12.out.cells
    obtain ⟨q0, q1, q2⟩ := Q12.out.cells
    go_wp2_with fail
    refine (JC.out _).mono ?_
    rintro e w13 ⟨rfl, b13⟩
    have P13 := Lib.hid (P12.out.keep b13)
    have Q13 := Lib.hid (Q12.out.keep b13)
    have B13 := Lib.hid (B12.out.trans (b13.mono B12.out.size))
    have K13 := Lib.hid (K12.out.keep b13)
    clear b13 K12 P12 Q12 p0 p1 p2 q0 q1 q2
    obtain ⟨p0, p1, p2⟩ := P13.out.cells
    obtain ⟨q0, q1, q2⟩ := Q13.out.cells
    have hwr : IntKind.i64.wrap (- -k) = k := by rw [Int.neg_neg, IntKind.wrap_i64]; omega
    have HE := row_eql p q
    by_cases hpq : p = q
    · have hk0 : k = 0 := hkz.2 hpq
      subst hk0
      rw [decide_eq_true hpq] at HE
      clear hkz hk3
      go_wp2_with fail
      refine (iasc y n5 m5 K _ K13.out (by omega)).mono ?_
      rintro e w14 ⟨rfl, b14⟩
      have B14 := Lib.hid (B13.out.trans (b14.mono B13.out.size))
      have K14 := Lib.hid (K13.out.keep b14)
      clear b14 K13 P13 Q13 p0 p1 p2 q0 q1 q2
      go_wp2_with fail
      refine (sasc y n5 m5 K _ K14.out (by omega)).mono ?_
      rintro e w15 ⟨rfl, b15⟩
      have B15 := Lib.hid (B14.out.trans (b15.mono B14.out.size))
      clear b15 K14
      go_wp2_with fail
      go_ret
      exact ⟨by simp, B15.out⟩
    · have hk0 : k ≠ 0 := fun e => hpq (hkz.1 e)
      rw [decide_eq_false hpq] at HE
      clear hkz
      go_wp2_with fail
      refine (iasc y n5 m5 K _ K13.out (by omega)).mono ?_
      rintro e w14 ⟨rfl, b14⟩
      have B14 := Lib.hid (B13.out.trans (b14.mono B13.out.size))
      have K14 := Lib.hid (K13.out.keep b14)
      clear b14 K13 P13 Q13 p0 p1 p2 q0 q1 q2
      go_wp2_with fail
      refine (sasc y n5 m5 K _ K14.out (by omega)).mono ?_
      rintro e w15 ⟨rfl, b15⟩
      have B15 := Lib.hid (B14.out.trans (b15.mono B14.out.size))
      clear b15 K14
      go_wp2_with fail
      go_ret
      exact ⟨by simp [hk0], B15.out⟩
  · clear hr
    go_enter Try.func3, Try.ntmps3
    go_wp2_with fail
    refine (big_yes a len cap _ (by omega)).mono ?_
    rintro e w0 ⟨rfl, rfl⟩
    go_wp2_with fail
    go_ret
    exact ⟨rfl, Below.refl _ _⟩

/-! ### The row's step -/
theorem own : ownKnob Try.prog.godebug = none := by kernel_rfl
theorem laidOut : laidOutB Try.prog = true := by kernel_rfl
set_option maxRecDepth 100000 in
theorem lifted (os : Os) (started : os.Started) (H : Type) (enc : TypeId × Value → H) :
    ReturnsInHanded {} Try.checked os 3 .any (Rows.fnSortRowsSpec.pre6 enc Try.prog Try.f3 Rows.fnSortRowsRow.domain false) (Rows.fnSortRowsSpec.post enc Try.prog Try.f3 false true false false) := by
  refine returnsInHanded_of_change (C := Try.checked) own started (by kernel_rfl) Try.func3
    (ChangeSpec.witness6 (enc := enc) (C := Try.checked) false ⟨#[], #[.slice none 0 0], []⟩ 8 (by kernel_rfl) (by kernel_rfl) (by kernel_rfl) (by kernel_rfl)) ?_
  intro W base args ds gs before hval0 hW hcnd hsz
  have hval : ∀ (j : Nat) t v, Try.f3.params[j]? = some t → args[j]? = some v → Value.okWide Try.prog W .any base t v := hval0
  have hW' := hW
  obtain ⟨p, q, hA0, hV, rfl, hfz, hnd⟩ := hW
  have hA : DataW.TrodAll enc Try.prog W 0 (fun _ => true) true Try.f3.params.toList args.toList ds p := hA0
  rw [Try.params3] at hA hval
  obtain ⟨v0, vs0, d0, ds0, p0, q0, hargs, rfl, rfl, h0, r0⟩ := trodAll_cons hA
  obtain ⟨rfl, rfl, rfl⟩ := trodAll_nil r0
  obtain rfl : args = #[v0] := by cases args; simp_all
  obtain ⟨rfl, rfl⟩ := trodVars_none hV
  obtain ⟨a0, len0, cap0, rfl⟩ := okWide_slice Try.underlying22 (hval 0 22 v0 rfl rfl)
  have k0 := h0
  have lt0 : ∀ x ∈ p0, x.block < W.heap.size := by obtain ⟨m, hm⟩ := k0; exact DataW.trod_lt m _ _ _ hm
  obtain ⟨z0, w0⟩ : ∃ zs, IsRow .u8 W a0 len0 cap0 zs := by
    obtain ⟨fuel, hf⟩ := h0
    rcases open_ints Try.underlying22 Try.underlying5 (by kernel_rfl) hf with ⟨hcs, _⟩ | ⟨x, l, c, zs, hcs, _, hl, hm, hz, _, hcell, hwz⟩
    · simp [Value.cells] at hcs
      obtain ⟨rfl, rfl, rfl⟩ := hcs
      exact ⟨[], .inl ⟨rfl, rfl, rfl, rfl⟩⟩
    · simp [Value.cells] at hcs
      obtain ⟨rfl, rfl, rfl⟩ := hcs
      exact ⟨zs, .inr ⟨_, rfl, hl, hm, by simpa using hz, hcell, hwz⟩⟩
  clear hA0 hval0
  refine (walk a0 len0 cap0 z0 W w0).mono fun e W' ⟨he, bel⟩ => ?_
  subst he
  exact ⟨_, rfl, _, _, _, [], _, [], hW', trodAll_mk1 (shut_bool Try.underlying4 _), (trodAll_cons_mk (Below.trod laidOut (by kernel_rfl) (of_decide_eq_true (by kernel_rfl)) k0 bel lt0) trodAll_mk0), rfl, bel.frame _, fun h => by cases h⟩
theorem over : Rows.fnSortRowsRow.holds Try.pinned (OpenSpec.ofChange Rows.fnSortRowsSpec) :=
  OpenClaim.holds_of_wide 3 Try.f3 rfl rfl rfl rfl rfl rfl rfl ⟨rfl, rfl, rfl, rfl, rfl⟩ rfl rfl rfl rfl rfl (by kernel_rfl) Try.func3 (by kernel_rfl)
    (of_decide_eq_true (by kernel_rfl)) (by unfold Func.isWrapper; first | (rw [if_pos (by decide +kernel)]; kernel_rfl) | (rw [if_neg (by decide +kernel)]; exact ⟨rfl, rfl⟩))
    (fun os started H enc _ => lifted os started H enc)
/-- The statement. -/
theorem proved : Rows.FnSortRowsSaid := over
#print axioms proved
end Go.Proofs.Ytedfjpfppipfhaa.FnSortRows
