/- Proved: for every code the law FnHashSplit returns true: at the rows, keys and levels that the law draws (it answers true above 2^20 bytes), the program's SplitByHashBit, HashBit, FirstSplittingLevel and AllSameKey answer as the reference's; a bit is 0 or 1; the two sides together are the rows, and no key is on both; valid rows are split by no level only if they all have one key. No condition. -/
import Derived.Test.YtcfemlnicpeagaaRows
import Derived.Test.YtcfemlnicpeagaaSplits
import Derived.Test.YtcfemlnicpeagaaFsl
import Derived.Test.YtcfemlnicpeagaaSame
import Derived.Test.YtcfemlnicpeagaaEqBagS
import Derived.Test.YtcfemlnicpeagaaSameRows
import Derived.Test.YtcfemlnicpeagaaAres
import Derived.Test.YtcfemlnicpeagaaDraw5
import Derived.ProofKit
import Derived.OpenShut
import Derived.ShutString
import Derived.ChangeOld
namespace Go.Proofs.Ytcfemlnicpeagaa.FnHashSplit
open Go Go.ChangeShapes Go.WideShapes Go.ChangeAt Go.RowKit
open Go.ChangeMaps (open_string shut_string)
set_option linter.unusedVariables false

theorem row_old {w : World} {a : Option Addr} {len cap : Nat} {zs : List Int} (h : IsRow .u8 w a len cap zs) : ∀ x, a = some x → 0 < cap → x.block < w.heap.size := by
  intro x hx hp
  rcases h with ⟨_, _, hc, _⟩ | ⟨y, rfl, hlc, hm, hz, hcell, hwz⟩
  · omega
  · obtain rfl := Option.some.inj hx
    have := World.block_lt_of_cell? w _ (hcell 0 (by omega))
    simpa [Addr.add] using this
/-- An operation under a guard that lets it run. -/
theorem wpList_wanted {P : Program} {ops : Array Oper} {rest : List Oper} {o : Oper} {a : Act} {Q : Exit → Act → World → Prop} {w : World} (hw : Region.wanted o (yielded ops a.tmps) = true) (h : wpList P ops Q ({ o with guard := none } :: rest) a w) : wpList P ops Q (o :: rest) a w := by
  unfold wpList at h ⊢
  rw [if_pos (by simp [Region.wanted])] at h
  rw [if_pos hw]
  exact h
set_option maxRecDepth 100000 in
set_option maxHeartbeats 4000000 in
theorem walk (a : Option Addr) (len cap : Nat) (zs : List Int) (w : World) (hr : IsRow .u8 w a len cap zs) : Calls Try.prog 3 #[.slice a len cap] w fun e w' => e = .returned (.bool true) ∧ Below w.heap.size w w' := by
  by_cases hbig : len ≤ 1048576
  · have HC : Hid (Code a len cap zs w) := ⟨hr, hbig, row_old hr⟩
    clear hr
    go_enter Try.func3, Try.ntmps3
    go_wp2_with fail
    refine (big_no a len cap _ hbig).mono ?_
    rintro e w0 ⟨rfl, rfl⟩
    go_wp2_with fail
    refine (draw_split a len cap zs _ HC.out).mono ?_
    rintro e w1 ⟨x, n, m, L, l, rfl, hn, hLW, hr1, hl0, hl1, b1⟩
    have HLW := Lib.hid hLW
    have HLL := Lib.hid hr1.1
    have R1 := Lib.hid hr1
    have B1 := Lib.hid b1
    have HZW := Lib.hid (R.zs_wf (l := l) hLW)
    have HOW := Lib.hid (R.os_wf (l := l) hLW)
    have hzl := R.zs_length l L
    have hol := R.os_length l L
    rw [hr1.1] at hzl hol
    have HALL := Lib.hid (R.sides_all l L)
    have HAP := Lib.hid (fun i j => R.sides_apart_at (l := l) (L := L) (i := i) (j := j))
    have IS := Lib.hid fun v (h1 : IsRows v x n L) => isplit x n m L l v h1 (by omega)
    have SS := Lib.hid fun v (h1 : IsRows v x n L) => ssplit x n m L l v h1 (by omega)
    obtain ⟨Z, hZ⟩ : ∃ Z, Z = R.zs l L := ⟨_, rfl⟩
    obtain ⟨O, hO⟩ : ∃ O, O = R.os l L := ⟨_, rfl⟩
    rw [← hZ] at HZW hzl HALL HAP IS SS
    rw [← hO] at HOW hol HALL HAP IS SS
    clear hLW hr1 b1 hZ hO
    go_wp2_with fail
    refine (IS.out _ R1.out).mono ?_
    rintro e w2 ⟨v2, u2, rfl, s2⟩
    obtain ⟨ax, cx, rfl⟩ := s2.lft.slice
    obtain ⟨ay, cy, rfl⟩ := s2.rgt.slice
    have R2 := Lib.hid (R1.out.keep s2.old)
    have MX2 := Lib.hid (s2.lft.mono B1.out.size)
    have MY2 := Lib.hid (s2.rgt.mono B1.out.size)
    have B2 := Lib.hid (B1.out.trans (s2.old.mono B1.out.size))
    clear s2 R1
    go_wp2_with fail
    refine (SS.out _ R2.out).mono ?_
    rintro e w3 ⟨v3, u3, rfl, s3⟩
    obtain ⟨bx, dx, rfl⟩ := s3.lft.slice
    obtain ⟨bY, dY, rfl⟩ := s3.rgt.slice
    have R3 := Lib.hid (R2.out.keep s3.old)
    have MX3 := Lib.hid (MX2.out.keep s3.old)
    have MY3 := Lib.hid (MY2.out.keep s3.old)
    have NX3 := Lib.hid (s3.lft.rows HZW.out)
    have NY3 := Lib.hid (s3.rgt.rows HOW.out)
    have B3 := Lib.hid (B2.out.trans (s3.old.mono B2.out.size))
    clear s3 R2 MX2 MY2
    go_wp2_with fail
    refine (draw_hashbit a len cap zs _ (HC.out.below B3.out)).mono ?_
    rintro e w4 ⟨kk, ll, rfl, b4⟩
    have R4 := Lib.hid (R3.out.keep b4)
    have MX4 := Lib.hid (MX3.out.keep b4)
    have MY4 := Lib.hid (MY3.out.keep b4)
    have NX4 := Lib.hid (NX3.out.keep b4)
    have NY4 := Lib.hid (NY3.out.keep b4)
    have B4 := Lib.hid (B3.out.trans (b4.mono B3.out.size))
    clear b4 R3 MX3 MY3 NX3 NY3
    go_wp2_with fail
    refine (samerows ax bx Z.length cx Z.length dx Z _ (MX4.out.rows HZW.out) NX4.out (by omega)).mono ?_
    rintro e w5 ⟨rfl, b5⟩
    have R5 := Lib.hid (R4.out.keep b5)
    have MX5 := Lib.hid (MX4.out.keep b5)
    have MY5 := Lib.hid (MY4.out.keep b5)
    have NY5 := Lib.hid (NY4.out.keep b5)
    have B5 := Lib.hid (B4.out.trans (b5.mono B4.out.size))
    clear b5 R4 MX4 MY4 NX4 NY4
    go_wp2_with fail
    refine (samerows ay bY O.length cy O.length dY O _ (MY5.out.rows HOW.out) NY5.out (by omega)).mono ?_
    rintro e w6 ⟨rfl, b6⟩
    have R6 := Lib.hid (R5.out.keep b6)
    have MX6 := Lib.hid (MX5.out.keep b6)
    have MY6 := Lib.hid (MY5.out.keep b6)
    have B6 := Lib.hid (B5.out.trans (b6.mono B5.out.size))
    clear b6 R5 MX5 MY5 NY5
    have hb01 := R.hb_range kk ll
    have IH := Lib.hid (ihbit kk ll)
    have SH := Lib.hid (shbit kk ll)
    obtain ⟨t, ht⟩ : ∃ t, t = R.hb kk ll := ⟨_, rfl⟩
    rw [← ht] at hb01 IH SH
    clear ht
    obtain ⟨ht0, ht1⟩ := hb01
    go_wp2_with fail
    refine (IH.out _).mono ?_
    rintro e w7 ⟨rfl, rfl⟩
    go_wp2_with fail
    refine (SH.out _).mono ?_
    rintro e w7 ⟨rfl, rfl⟩
    go_wp2_with fail
    refine (IH.out _).mono ?_
    rintro e w7 ⟨rfl, rfl⟩
    go_wp2_with fail
    refine (IH.out _).mono ?_
    rintro e w7 ⟨rfl, rfl⟩
    have HM0 := Lib.hid (mine_zero w6 w6.heap.size (Nat.le_refl _))
    obtain ⟨Wa, hWa⟩ : ∃ Wa, Wa = w6.alloc (.cells #[] 34) := ⟨_, rfl⟩
    have hba : Below w6.heap.size w6 Wa := by rw [hWa]; exact (Below.refl _ _).alloc (Nat.le_refl _) _
    have HBA := Lib.hid hba
    have MXA := Lib.hid (MX6.out.keep hba)
    have HWA := Lib.hid hWa
    rw [← hWa] at HM0
    have hwa : w6.heap.size ≤ (w6.alloc (.cells #[] 34)).heap.size := by rw [← hWa]; exact hba.size
    clear hWa hba
    go_wp2_with (first
      | (at_builtin; refine wpList_wanted (by first | (simp [Region.wanted, yielded]; done) | (simp [Region.wanted, yielded]; omega)) ?_; refine wpList_appendM (B := w6.heap.size) (B' := w.heap.size) (M := []) (L := Z) (v := .slice (some ⟨w6.heap.size, 0, none⟩) 0 0) (y := .slice ax Z.length cx) _ _ rfl rfl rfl rfl (by rw [← HWA.out]; exact HM0.out) (by rw [← HWA.out]; exact MXA.out) hwa (by simp; omega) ?_; intro v7 w7 hm7 hg7; rw [List.nil_append] at hm7; rw [← HWA.out] at hg7; have hb7 : Below w6.heap.size w6 w7 := HBA.out.grown hg7 HBA.out.size (fun k hk => HM0.out.own' k hk); have M7 := Lib.hid hm7; have HB7 := Lib.hid hb7; have MY7 := Lib.hid (MY6.out.keep hb7); have hw7 := hb7.size; clear hm7 hg7 hb7)
      | (at_builtin; refine wpList_wanted (by first | (simp [Region.wanted, yielded]; done) | (simp [Region.wanted, yielded]; omega)) ?_; refine wpList_appendM (B := w6.heap.size) (B' := w.heap.size) (M := Z) (L := O) (v := v7) (y := .slice ay O.length cy) _ _ rfl rfl rfl rfl M7.out MY7.out hw7 (by omega) ?_; intro v8 w8 hm8 hg8; obtain ⟨a8, c8, rfl⟩ := hm8.slice))
    have hb8 : Below w6.heap.size w6 w8 := HB7.out.grown hg8 hw7 (fun k hk => M7.out.own' k hk)
    have I8 := Lib.hid (show IsRows w8 a8 (Z.length + O.length) (Z ++ O) from by
      have := hm8.rows (fun r hr => (List.mem_append.1 hr).elim (HZW.out r) (HOW.out r))
      rwa [List.length_append] at this)
    have R8 := Lib.hid (R6.out.keep hb8)
    have X8 := Lib.hid ((MX6.out.keep hb8).rows HZW.out)
    have Y8 := Lib.hid ((MY6.out.keep hb8).rows HOW.out)
    have B8 := Lib.hid (B6.out.trans (hb8.mono B6.out.size))
    clear hm8 hg8 hb8 R6 MX6 MY6 M7 MY7 HB7
    go_wp2_with fail
    refine (seqbags a8 x (Z.length + O.length) c8 n m (Z ++ O) L _ I8.out R8.out (by omega) (by omega)).mono ?_
    rintro e w9 ⟨rfl, b9⟩
    rw [HALL.out]
    have X9 := Lib.hid (X8.out.keep b9)
    have Y9 := Lib.hid (Y8.out.keep b9)
    have B9 := Lib.hid (B8.out.trans (b9.mono B8.out.size))
    clear b9 I8 R8 X8 Y8
    go_wp2_with fail
    go_loopw [11] (fun i wr => ∃ k : Nat, i = .int .i64 k ∧ k ≤ Z.length ∧ Hid (Below w9.heap.size w9 wr)) (fun i _ => Z.length - (intOf i).toNat)
    case atStart => exact ⟨0, rfl, Nat.zero_le _, Below.refl _ _⟩
    case round =>
      obtain ⟨k, rfl, hk, hb⟩ := hrel
      by_cases hlt : k < Z.length
      · obtain ⟨b, o, rfl, hbl, hc⟩ := X9.out.at hlt
        obtain ⟨r, hr⟩ : ∃ r, r = Z.getD k R.zero := ⟨_, rfl⟩
        rw [← hr] at hc
        have HR := Lib.hid hr
        have HCR := Lib.hid hc
        have HBL := Lib.hid hbl
        clear hr hc hbl
        go_wp2_with fail
        go_loopw [12] (fun i wr => ∃ j : Nat, i = .int .i64 j ∧ j ≤ O.length ∧ Hid (Below w9.heap.size w9 wr)) (fun i _ => O.length - (intOf i).toNat)
        case atStart => exact ⟨0, rfl, Nat.zero_le _, hb.out⟩
        case round =>
          clear hb
          obtain ⟨j, rfl, hj, hb⟩ := hrel
          by_cases hjt : j < O.length
          · obtain ⟨b', o', rfl, hbl', hc'⟩ := Y9.out.at hjt
            obtain ⟨s, hs⟩ : ∃ s, s = O.getD j R.zero := ⟨_, rfl⟩
            rw [← hs] at hc'
            have hne : (r.key == s.key) = false := by
              have := HAP.out k j hlt hjt
              rw [← HR.out, ← hs] at this
              simpa using this
            obtain ⟨c0, -, -⟩ := HCR.out.below hb.out HBL.out
            obtain ⟨d0, -, -⟩ := hc'.below hb.out hbl'
            clear hs hc'
            go_wp2_with fail
            go_region
            all_goals (
              go_wp2_with fail
              go_roundw
              case rel => exact ⟨j + 1, by go_num, by omega, hb.out.drew⟩
              case measure => simp [intOf]; omega)
          · go_wp2_with fail
            go_roundw
            case rel => exact ⟨k + 1, by go_num, by omega, hb.out⟩
            case measure => simp [intOf]; omega
      · have B10 := Lib.hid (B9.out.trans (hb.out.mono B9.out.size))
        clear hb
        go_wp2_with fail
        refine (draw_first a len cap zs _ (HC.out.below B10.out)).mono ?_
        rintro e w11 ⟨y, q, mq, M, rfl, hq, hMW, hr11, b11⟩
        have R11 := Lib.hid hr11
        have B11 := Lib.hid (B10.out.trans (b11.mono B10.out.size))
        have IFS := Lib.hid fun v (h1 : IsRows v y q M) => ifsl y q mq M v h1 (by omega)
        have SFS := Lib.hid fun v (h1 : IsRows v y q M) => sfsl y q mq M v h1 (by omega)
        have ISM := Lib.hid fun v (h1 : IsRows v y q M) => isame y q mq M v h1 (by omega)
        have SSM := Lib.hid fun v (h1 : IsRows v y q M) => ssame y q mq M v h1 (by omega)
        have SAR := Lib.hid fun v (h1 : IsRows v y q M) => sare y q mq M v h1 (by omega)
        have HFS := Lib.hid fun (h : okRows M = true) => R.fsl_same (R.okRows_allOk h)
        obtain ⟨f, hf⟩ : ∃ f, f = R.fsl M := ⟨_, rfl⟩
        obtain ⟨s, hs⟩ : ∃ s, s = R.same M := ⟨_, rfl⟩
        obtain ⟨ok, hok⟩ : ∃ ok, ok = okRows M := ⟨_, rfl⟩
        rw [← hf] at IFS SFS HFS
        rw [← hs] at ISM SSM HFS
        rw [← hok] at SAR HFS
        clear hMW hr11 b11 hf hs hok
        go_wp2_with fail
        refine (IFS.out _ R11.out).mono ?_
        rintro e w12 ⟨rfl, b12⟩
        have R12 := Lib.hid (R11.out.keep b12)
        have B12 := Lib.hid (B11.out.trans (b12.mono B11.out.size))
        clear b12 R11
        go_wp2_with fail
        refine (SFS.out _ R12.out).mono ?_
        rintro e w13 ⟨rfl, b13⟩
        have R13 := Lib.hid (R12.out.keep b13)
        have B13 := Lib.hid (B12.out.trans (b13.mono B12.out.size))
        clear b13 R12
        go_wp2_with fail
        refine (ISM.out _ R13.out).mono ?_
        rintro e w14 ⟨rfl, b14⟩
        have R14 := Lib.hid (R13.out.keep b14)
        have B14 := Lib.hid (B13.out.trans (b14.mono B13.out.size))
        clear b14 R13
        go_wp2_with fail
        refine (SSM.out _ R14.out).mono ?_
        rintro e w15 ⟨rfl, b15⟩
        have R15 := Lib.hid (R14.out.keep b15)
        have B15 := Lib.hid (B14.out.trans (b15.mono B14.out.size))
        clear b15 R14
        go_wp2_with fail
        refine (SAR.out _ R15.out).mono ?_
        rintro e w16 ⟨rfl, b16⟩
        have R16 := Lib.hid (R15.out.keep b16)
        have B16 := Lib.hid (B15.out.trans (b16.mono B15.out.size))
        clear b16 R15
        cases ok with
        | false =>
          go_wp2_with fail
          go_ret
          exact ⟨rfl, B16.out⟩
        | true =>
          have hfs := HFS.out rfl
          by_cases h4 : f = 4
          · rw [decide_eq_true h4] at hfs
            subst hfs h4
            go_wp2_with fail
            refine (ISM.out _ R16.out).mono ?_
            rintro e w17 ⟨rfl, b17⟩
            have B17 := Lib.hid (B16.out.trans (b17.mono B16.out.size))
            clear b17
            go_wp2_with fail
            go_ret
            exact ⟨rfl, B17.out⟩
          · rw [decide_eq_false h4] at hfs
            subst hfs
            have hn4 : ((f : Int) == 4) = false := by simp; omega
            go_wp2_with fail
            refine (ISM.out _ R16.out).mono ?_
            rintro e w17 ⟨rfl, b17⟩
            have B17 := Lib.hid (B16.out.trans (b17.mono B16.out.size))
            clear b17
            go_wp2_with fail
            go_ret
            exact ⟨rfl, B17.out⟩
  · go_enter Try.func3, Try.ntmps3
    go_wp2_with fail
    refine (big_yes a len cap _ (by omega)).mono ?_
    rintro e w0 ⟨rfl, rfl⟩
    go_wp2_with fail
    go_ret
    exact ⟨rfl, Below.refl _ _⟩

/-! ### The row's step -/
theorem own : ownKnob Try.prog.godebug = none := by kernel_rfl
theorem laidOut : laidOutB Try.prog = true := by kernel_rfl
set_option maxRecDepth 100000 in
theorem lifted (os : Os) (started : os.Started) (H : Type) (enc : TypeId × Value → H) :
    ReturnsInHanded {} Try.checked os 3 .any (Rows.fnHashSplitSpec.pre6 enc Try.prog Try.f3 Rows.fnHashSplitRow.domain false) (Rows.fnHashSplitSpec.post enc Try.prog Try.f3 false true false false) := by
  refine returnsInHanded_of_change (C := Try.checked) own started (by kernel_rfl) Try.func3
    (ChangeSpec.witness6 (enc := enc) (C := Try.checked) false ⟨#[], #[.slice none 0 0], []⟩ 8 (by kernel_rfl) (by kernel_rfl) (by kernel_rfl) (by kernel_rfl)) ?_
  intro W base args ds gs before hval0 hW hcnd hsz
  have hval : ∀ (j : Nat) t v, Try.f3.params[j]? = some t → args[j]? = some v → Value.okWide Try.prog W .any base t v := hval0
  have hW' := hW
  obtain ⟨p, q, hA0, hV, rfl, hfz, hnd⟩ := hW
  have hA : DataW.TrodAll enc Try.prog W 0 (fun _ => true) true Try.f3.params.toList args.toList ds p := hA0
  rw [Try.params3] at hA hval
  obtain ⟨v0, vs0, d0, ds0, p0, q0, hargs, rfl, rfl, h0, r0⟩ := trodAll_cons hA
  obtain ⟨rfl, rfl, rfl⟩ := trodAll_nil r0
  obtain rfl : args = #[v0] := by cases args; simp_all
  obtain ⟨rfl, rfl⟩ := trodVars_none hV
  obtain ⟨a0, len0, cap0, rfl⟩ := okWide_slice Try.underlying22 (hval 0 22 v0 rfl rfl)
  have k0 := h0
  have lt0 : ∀ x ∈ p0, x.block < W.heap.size := by obtain ⟨m, hm⟩ := k0; exact DataW.trod_lt m _ _ _ hm
  obtain ⟨z0, w0⟩ : ∃ zs, IsRow .u8 W a0 len0 cap0 zs := by
    obtain ⟨fuel, hf⟩ := h0
    rcases open_ints Try.underlying22 Try.underlying5 (by kernel_rfl) hf with ⟨hcs, _⟩ | ⟨x, l, c, zs, hcs, _, hl, hm, hz, _, hcell, hwz⟩
    · simp [Value.cells] at hcs
      obtain ⟨rfl, rfl, rfl⟩ := hcs
      exact ⟨[], .inl ⟨rfl, rfl, rfl, rfl⟩⟩
    · simp [Value.cells] at hcs
      obtain ⟨rfl, rfl, rfl⟩ := hcs
      exact ⟨zs, .inr ⟨_, rfl, hl, hm, by simpa using hz, hcell, hwz⟩⟩
  clear hA0 hval0
  refine (walk a0 len0 cap0 z0 W w0).mono fun e W' ⟨he, bel⟩ => ?_
  subst he
  exact ⟨_, rfl, _, _, _, [], _, [], hW', trodAll_mk1 (shut_bool Try.underlying4 _), (trodAll_cons_mk (Below.trod laidOut (by kernel_rfl) (of_decide_eq_true (by kernel_rfl)) k0 bel lt0) trodAll_mk0), rfl, bel.frame _, fun h => by cases h⟩
theorem over : Rows.fnHashSplitRow.holds Try.pinned (OpenSpec.ofChange Rows.fnHashSplitSpec) :=
  OpenClaim.holds_of_wide 3 Try.f3 rfl rfl rfl rfl rfl rfl rfl ⟨rfl, rfl, rfl, rfl, rfl⟩ rfl rfl rfl rfl rfl (by kernel_rfl) Try.func3 (by kernel_rfl)
    (of_decide_eq_true (by kernel_rfl)) (by unfold Func.isWrapper; first | (rw [if_pos (by decide +kernel)]; kernel_rfl) | (rw [if_neg (by decide +kernel)]; exact ⟨rfl, rfl⟩))
    (fun os started H enc _ => lifted os started H enc)
/-- The statement. -/
theorem proved : Rows.FnHashSplitSaid := over
#print axioms proved
end Go.Proofs.Ytcfemlnicpeagaa.FnHashSplit
