/- Proved: for every slice of pages the law FnExactFormatPages returns true: the program's FormatPages answers as the reference's and leaves its argument alone (the law itself answers true above 2^20 rows and pages together). The library's variables are tied to the program's text. No condition. -/
import Derived.Test.YtoiobaiiammehaaDoorRows
import Derived.Test.YtoiobaiiammehaaDoorCards
import Derived.Test.YtoiobaiiammehaaDoorTie
import Derived.Test.YtoiobaiiammehaaDoorWrap
import Derived.Test.YtoiobaiiammehaaDoorLaid
import Derived.LaidMore
import Derived.Lay
import Derived.Stop.Joined
import Derived.SevenTiedAt
import Derived.Test.YtoiobaiiammehaaDoorGives
import Derived.Test.YtoiobaiiammehaaDoorFmtPages
import Derived.Test.YtoiobaiiammehaaDoorFmtPagei
import Derived.ProofKit
import Derived.OpenShut
import Derived.ShutString
import Derived.ChangeOld
namespace Go.Proofs.YtoiobaiiammehaaDoor.FnExactFormatPages
open Go Go.ChangeShapes Go.WideShapes Go.ChangeAt Go.RowKit
open Go.ChangeMaps (open_string shut_string)
set_option linter.unusedVariables false

theorem of_laid {w : World} (h : laidMetH Tryd.prog Rows.fnExactFormatPagesRow.laid w) : Tab w := by
  rw [MakeChecks.laidMetH_plain _ _ _ (by kernel_rfl)] at h
  exact by (first | exact tab_of h | exact tab_of h.tail | exact tab_of h.tail.tail | exact tab_of h.tail.tail.tail | exact tab_of h.tail.tail.tail.tail | exact tab_of h.tail.tail.tail.tail.tail | exact tab_of h.tail.tail.tail.tail.tail.tail | exact tab_of h.tail.tail.tail.tail.tail.tail.tail)
set_option maxRecDepth 100000 in
set_option maxHeartbeats 1000000 in
theorem walk (a : Option Addr) (len cap : Nat) (X : List (List R)) (w : World) (h : SeqIn pageRep w a len X) (hT : Tab w) : Calls Tryd.prog 3 #[.slice a len cap] w fun e w' => e = .returned (.bool true) ∧ Below w.heap.size w w' := by
  have hm := h.2.1
  have HL := Lib.hid h.1
  have HI := Lib.hid h
  clear h
  have HT := Lib.hid hT
  clear hT
  obtain ⟨N, hN⟩ : ∃ N, N = X.flatten.length := ⟨_, rfl⟩
  have HN := Lib.hid hN
  clear hN
  obtain ⟨z, hzz⟩ : ∃ z, z = szP 1048576 X := ⟨_, rfl⟩
  have HZ := Lib.hid hzz
  clear hzz
  have SZ := Lib.hid (szpages a len cap X 1048576 w (HI.out) (by omega) (by omega))
  rw [← HZ.out] at SZ
  by_cases hz : z < 0
  · go_enter Tryd.func3, Tryd.ntmps3
    go_wp2_with fail
    refine SZ.out.mono ?_
    rintro e w1 ⟨rfl, bz⟩
    have BZ := Lib.hid bz
    clear bz
    go_wp2_with fail
    go_ret
    exact ⟨rfl, BZ.out⟩
  have hle := szP_le (by rw [← HZ.out]; exact hz)
  rw [HL.out, ← HN.out] at hle
  clear HZ
  have SP := Lib.hid fun (a1 : Option Addr) (c1 : Nat) (v : World) (h1 : SeqIn pageRep v a1 len X) => sfpages a1 len c1 X v h1 (by omega) (by have := HN.out; omega)
  have IP := Lib.hid fun (a1 : Option Addr) (c1 : Nat) (v : World) (h1 : SeqIn pageRep v a1 len X) (t1 : Tab v) => ifpages a1 len c1 X v h1 (by omega) (by have := HN.out; omega) t1
  obtain ⟨Y, hY⟩ : ∃ Y, Y = R.fmtPages X := ⟨_, rfl⟩
  rw [← hY] at SP IP
  clear hY
  have B0 := Lib.hid (Below.refl w.heap.size w)
  go_enter Tryd.func3, Tryd.ntmps3
  go_wp2_with fail
  refine SZ.out.mono ?_
  rintro e w1 ⟨rfl, b1⟩
  have B1 := Lib.hid (B0.out.trans (b1.mono B0.out.size))
  clear b1
  go_wp2_with fail
  refine (topages a len cap X _ (HI.out.keep B1.out) (by omega) (by have := HN.out; omega)).mono ?_
  rintro e w2 ⟨g2, F2, rfl, m2, b2⟩
  have B2 := Lib.hid (B1.out.trans (b2.mono B1.out.size))
  have S_2 := Lib.hid m2
  clear b2 m2
  go_wp2_with fail
  refine (SP.out _ _ _ S_2.out.inn).mono ?_
  rintro e w3 ⟨rfl, b3⟩
  have S_3 := Lib.hid (S_2.out.keep b3)
  have B3 := Lib.hid (B2.out.trans (b3.mono B2.out.size))
  clear b3
  go_wp2_with fail
  refine (topages a len cap X _ (HI.out.keep B3.out) (by omega) (by have := HN.out; omega)).mono ?_
  rintro e w4 ⟨g4, F4, rfl, m4, b4⟩
  have B4 := Lib.hid (B3.out.trans (b4.mono B3.out.size))
  have X_4 := Lib.hid m4
  clear b4 m4
  go_wp2_with fail
  refine (IP.out _ _ _ X_4.out.inn (HT.out.stay B4.out)).mono ?_
  rintro e w5 ⟨rfl, b5⟩
  have X_5 := Lib.hid (X_4.out.keep b5)
  have B5 := Lib.hid (B4.out.trans (b5.mono B4.out.size))
  clear b5
  go_wp2_with fail
  refine (topages a len cap X _ (HI.out.keep B5.out) (by omega) (by have := HN.out; omega)).mono ?_
  rintro e w6 ⟨g6, F6, rfl, m6, b6⟩
  have X_6 := Lib.hid (X_5.out.keep b6)
  have B6 := Lib.hid (B5.out.trans (b6.mono B5.out.size))
  have C_6 := Lib.hid m6
  have ap_X_C := Lib.hid (apart_new X_5.out m6 (Nat.le_refl _))
  clear b6 m6
  go_wp2_with fail
  refine (eqpages _ _ _ _ _ _ X X _ X_6.out.inn C_6.out.inn).mono ?_
  rintro e w7 ⟨rfl, b7⟩
  rw [decide_eq_true (rfl : X = X)]
  have X_7 := Lib.hid (X_6.out.keep b7)
  have C_7 := Lib.hid (C_6.out.keep b7)
  have B7 := Lib.hid (B6.out.trans (b7.mono B6.out.size))
  clear b7
  go_wp2_with fail
  go_ret
  exact ⟨rfl, B7.out⟩

/-! ### The row's step -/
theorem own : ownKnob Tryd.prog.godebug = none := by kernel_rfl
theorem laidOut : laidOutB Tryd.prog = true := by kernel_rfl
set_option maxRecDepth 100000 in
theorem door_met (os : Os) (args : Array Value) : laidMetH Tryd.prog Rows.fnExactFormatPagesRow.laid ((World.laidAll Tryd.prog os Rows.fnExactFormatPagesRow.laid).forCall (fun _ _ => 0) ⟨#[], args, []⟩).memory := by
  rw [MakeChecks.laidMetH_plain _ _ _ (by kernel_rfl)]
  exact laidMet_laidAll args (by kernel_rfl) (by kernel_rfl)
set_option maxRecDepth 100000 in
theorem lifted (os : Os) (started : os.Started) (H : Type) (enc : TypeId × Value → H) :
    ReturnsInHanded {} Tryd.checked os 3 .any (fun w args => (Rows.fnExactFormatPagesSpec.pre enc Tryd.prog Tryd.f3 [] false w args ∧ laidMetH Tryd.prog Rows.fnExactFormatPagesRow.laid w) ∧ sizedMet enc Tryd.prog Tryd.f3 (OpenSpec.ofChange Rows.fnExactFormatPagesSpec) false w args)
      (Rows.fnExactFormatPagesSpec.post enc Tryd.prog Tryd.f3 false true false false) := by
  refine returnsInHanded_of_change_and (C := Tryd.checked) (X := fun w _ => laidMetH Tryd.prog Rows.fnExactFormatPagesRow.laid w) (fun _ _ _ hh h => h.of_heap hh) own started (by kernel_rfl) Tryd.func3
    (ChangeSpec.witness_shaped (enc := enc) (C := Tryd.checked) (os := os) (X := fun w _ => laidMetH Tryd.prog Rows.fnExactFormatPagesRow.laid w) false (World.laidAll Tryd.prog os Rows.fnExactFormatPagesRow.laid) #[.slice none 0 0] 8 (World.laidAll_os _ _ _) (World.shaped_of_ZipB (by kernel_rfl) (by kernel_rfl)) (by kernel_rfl) (by kernel_rfl) (by kernel_rfl) (door_met os _)) ?_
  intro W base args ds gs before hval0 hW hsz0 hsz hL hS
  have hval : ∀ (j : Nat) t v, Tryd.f3.params[j]? = some t → args[j]? = some v → Value.okWide Tryd.prog W .any base t v := hval0
  have hW' := hW
  obtain ⟨p, q, hA0, hV, rfl, hfz, hnd⟩ := hW
  have hA : DataW.TrodAll enc Tryd.prog W 0 (fun _ => true) true Tryd.f3.params.toList args.toList ds p := hA0
  rw [Tryd.params3] at hA hval
  obtain ⟨v0, vs0, d0, ds0, p0, q0, hargs, rfl, rfl, h0, r0⟩ := trodAll_cons hA
  obtain ⟨rfl, rfl, rfl⟩ := trodAll_nil r0
  obtain rfl : args = #[v0] := by cases args; simp_all
  obtain ⟨rfl, rfl⟩ := trodVars_none hV
  obtain ⟨a0, len0, cap0, rfl⟩ := okWide_slice Tryd.underlying22 (hval 0 22 v0 rfl rfl)
  have k0 := h0
  have lt0 : ∀ x ∈ p0, x.block < W.heap.size := by obtain ⟨m, hm⟩ := k0; exact DataW.trod_lt m _ _ _ hm
  obtain ⟨L0, w0⟩ := Opens.pages.arg h0
  clear hA0 hval0
  refine (walk a0 len0 cap0 L0 W w0 (of_laid hL)).mono fun e W' ⟨he, bel⟩ => ?_
  subst he
  exact ⟨_, rfl, _, _, _, [], _, [], hW', trodAll_mk1 (shut_bool Tryd.underlying4 _), (trodAll_cons_mk (Below.trod laidOut (by kernel_rfl) (of_decide_eq_true (by kernel_rfl)) k0 bel lt0) trodAll_mk0), rfl, bel.frame _, fun h => by cases h⟩
theorem over : Rows.fnExactFormatPagesRow.holds Tryd.pinned (OpenSpec.ofChange Rows.fnExactFormatPagesSpec) :=
  OpenClaim.holds_of_wide 3 Tryd.f3 rfl rfl rfl rfl rfl rfl rfl ⟨rfl, rfl, rfl, rfl, rfl⟩ rfl rfl rfl rfl rfl (by kernel_rfl) Tryd.func3 (by kernel_rfl)
    (of_decide_eq_true (by kernel_rfl)) (by unfold Func.isWrapper; first | (rw [if_pos (by decide +kernel)]; kernel_rfl) | (rw [if_neg (by decide +kernel)]; exact ⟨rfl, rfl⟩))
    (fun os started H enc _ => lifted os started H enc)
/-- The statement: the tied card. -/
theorem proved : Rows.FnExactFormatPagesCardSaid :=
  Claim7.holds_tied_plain_at .later [] _ _ _ _ over (fun _ h => by cases h) (by kernel_rfl) (fun _ h => by cases h) fnExactFormatPages_row_tie rfl ⟨rfl, rfl⟩ (by kernel_rfl) rfl
    (fun f fn hf hfn => by
      obtain rfl : f = 3 := Option.some.inj ((show Tryd.prog.funcNamed "loop.example/g01920/laws.FnExactFormatPages" = some 3 by kernel_rfl).symm.trans hf) |>.symm
      obtain rfl : fn = Tryd.f3 := (Option.some.inj (Tryd.func3.symm.trans hfn)).symm
      exact ⟨by kernel_rfl, fun j t ht => by
        rw [Tryd.params3] at ht
        have hm : t ∈ [22] := by simpa using Array.mem_of_getElem? ht
        have hall : ([22].all fun u => !Tryd.prog.wantsStandIn u) = true := by kernel_rfl
        exact (show Tryd.prog.wantsStandIn t = false by simpa using List.all_eq_true.1 hall t hm)⟩)
    (by kernel_rfl)
#print axioms proved
end Go.Proofs.YtoiobaiiammehaaDoor.FnExactFormatPages
