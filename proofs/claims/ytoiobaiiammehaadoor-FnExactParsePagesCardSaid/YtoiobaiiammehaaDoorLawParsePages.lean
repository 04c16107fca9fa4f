/- Proved: for every string the law FnExactParsePages returns true: the program's ParsePages answers as the reference's, in memory of its own that a later call does not touch (the law itself answers true above 2^20 bytes); the library's variables are tied to the program's text. No further condition. -/
import Derived.Test.YtoiobaiiammehaaDoorRows
import Derived.Test.YtoiobaiiammehaaDoorCards
import Derived.Test.YtoiobaiiammehaaDoorTie
import Derived.Test.YtoiobaiiammehaaDoorWrap
import Derived.Test.YtoiobaiiammehaaDoorParsePS
import Derived.Test.YtoiobaiiammehaaDoorParsePi
import Derived.Test.YtoiobaiiammehaaDoorGives
import Derived.ProofKit
import Derived.OpenShut
import Derived.ShutString
import Derived.ChangeOld
import Derived.LaidMore
import Derived.Lay
import Derived.Stop.Joined
import Derived.SevenTiedAt
namespace Go.Proofs.YtoiobaiiammehaaDoor.FnExactParsePages
open Go Go.ChangeShapes Go.WideShapes Go.ChangeAt Go.RowKit
open Go.ChangeMaps (open_string shut_string)
set_option linter.unusedVariables false

theorem of_laid {w : World} (h : laidMetH Tryd.prog Rows.fnExactParsePagesRow.laid w) : Tab w ∧ Syn w := by
  rw [MakeChecks.laidMetH_plain _ _ _ (by kernel_rfl)] at h
  exact ⟨by (first | exact tab_of h | exact tab_of h.tail | exact tab_of h.tail.tail | exact tab_of h.tail.tail.tail | exact tab_of h.tail.tail.tail.tail | exact tab_of h.tail.tail.tail.tail.tail | exact tab_of h.tail.tail.tail.tail.tail.tail | exact tab_of h.tail.tail.tail.tail.tail.tail.tail), by (first | exact syn_of h | exact syn_of h.tail | exact syn_of h.tail.tail | exact syn_of h.tail.tail.tail | exact syn_of h.tail.tail.tail.tail | exact syn_of h.tail.tail.tail.tail.tail | exact syn_of h.tail.tail.tail.tail.tail.tail | exact syn_of h.tail.tail.tail.tail.tail.tail.tail)⟩
set_option maxRecDepth 100000 in
set_option maxHeartbeats 1000000 in
theorem walk (s : ByteArray) (ws : s.size ≤ maxLen) (w : World) (hL : Tab w ∧ Syn w) (hM : Mx w) : Calls Tryd.prog 4 #[.string s] w fun e w' => e = .returned (.bool true) ∧ Below w.heap.size w w' := by
  have hs := ws
  unfold maxLen at hs
  have HL := Lib.hid hL
  have HM := Lib.hid hM
  clear hL hM
  by_cases hbig : (1048576 : Int) < s.size
  · go_enter Tryd.func4, Tryd.ntmps4
    go_wp2
    go_ret
    exact ⟨rfl, Below.refl _ _⟩
  · have SP := Lib.hid fun v => sppages s (by omega) v
    have IP := Lib.hid fun v hm hl => ippages s (by omega) v hm hl
    have hyl := R.parsePages_sizes s.data.toList
    have hsl : s.data.toList.length = s.size := by simp
    rw [hsl] at hyl
    unfold PagesGive at SP IP
    obtain ⟨Y, hY⟩ : ∃ Y, Y = (R.parsePages s.data.toList).getD [] := ⟨_, rfl⟩
    obtain ⟨p, hp⟩ : ∃ p, p = (R.parsePages s.data.toList).isSome := ⟨_, rfl⟩
    rw [← hY] at SP IP hyl
    rw [← hp] at SP IP
    obtain ⟨N2, hN2⟩ : ∃ N2, N2 = Y.flatten.length := ⟨_, rfl⟩
    rw [← hN2] at hyl
    have HN2 := Lib.hid hN2
    clear hY hp hN2 hsl
    have hn1 : ¬ ((1 : Int) + 3 * (N2 : Int) < 0) := by omega
    go_enter Tryd.func4, Tryd.ntmps4
    go_wp2_with fail
    refine (SP.out _).mono ?_
    rintro e w1 ⟨a0, n0, c0, F0, rfl, m1, b1⟩
    have B1 := Lib.hid b1
    have Z1 := Lib.hid m1
    clear b1 m1
    go_wp2_with fail
    refine (IP.out _ (HM.out.stay B1.out) (laid_stay HL.out B1.out)).mono ?_
    rintro e w2 ⟨a1, n1, c1, F1, rfl, m2, b2⟩
    have B2 := Lib.hid (B1.out.trans (b2.mono B1.out.size))
    have Z2 := Lib.hid (Z1.out.keep b2)
    have G2 := Lib.hid m2
    have hnb : n1 ≤ 2000000 := by have := m2.1; omega
    have AZG := Lib.hid (apart_new Z1.out m2 (Nat.le_refl _))
    clear b2 m2
    go_wp2_with fail
    refine (eqpages _ _ _ _ _ _ Y Y _ G2.out.inn Z2.out.inn).mono ?_
    rintro e w3 ⟨rfl, b3⟩
    rw [decide_eq_true (rfl : Y = Y)]
    have B3 := Lib.hid (B2.out.trans (b3.mono B2.out.size))
    have Z3 := Lib.hid (Z2.out.keep b3)
    have G3 := Lib.hid (G2.out.keep b3)
    clear b3
    go_wp2_with fail
    refine (markpages _ _ _ _ Y _ 1 _ G3.out (by omega) (by rw [← HN2.out]; omega) (by omega) (by omega)).mono ?_
    rintro e w4 ⟨rfl, m4, o4⟩
    rw [← HN2.out]
    have Z4 := Lib.hid (Z3.out.far o4 (apart_flip AZG.out))
    have B4 := Lib.hid (Below.marked G3.out o4 B3.out B1.out.size)
    have G4 := Lib.hid m4
    clear m4 o4
    go_wp2_with fail
    refine (heldpages _ _ _ Y 1 _ G4.out.inn (by omega) (by rw [← HN2.out]; omega) (by omega) (by omega)).mono ?_
    rintro e w5 ⟨rfl, rfl⟩
    rw [← HN2.out]
    go_wp2_with fail
    refine (IP.out _ (HM.out.stay B4.out) (laid_stay HL.out B4.out)).mono ?_
    rintro e w6 ⟨a2, n2, c2, F2, rfl, m6, b6⟩
    have B6 := Lib.hid (B4.out.trans (b6.mono B4.out.size))
    have Z6 := Lib.hid (Z4.out.keep b6)
    have G6 := Lib.hid (G4.out.keep b6)
    have H6 := Lib.hid m6
    clear b6 m6
    go_wp2_with fail
    refine (eqpages _ _ _ _ _ _ Y Y _ H6.out.inn Z6.out.inn).mono ?_
    rintro e w7 ⟨rfl, b7⟩
    rw [decide_eq_true (rfl : Y = Y)]
    have B7 := Lib.hid (B6.out.trans (b7.mono B6.out.size))
    have G7 := Lib.hid (G6.out.keep b7)
    clear b7
    go_wp2_with fail
    refine (heldpages _ _ _ Y 1 _ G7.out.inn (by omega) (by rw [← HN2.out]; omega) (by omega) (by omega)).mono ?_
    rintro e w8 ⟨rfl, rfl⟩
    rw [← HN2.out]
    go_wp2_with fail
    go_ret
    exact ⟨rfl, B7.out⟩

/-! ### The row's step -/
theorem own : ownKnob Tryd.prog.godebug = none := by kernel_rfl
set_option maxRecDepth 100000 in
theorem door_met (os : Os) (args : Array Value) : laidMetH Tryd.prog Rows.fnExactParsePagesRow.laid ((World.laidAll Tryd.prog os Rows.fnExactParsePagesRow.laid).forCall (fun _ _ => 0) ⟨#[], args, []⟩).memory := by
  rw [MakeChecks.laidMetH_plain _ _ _ (by kernel_rfl)]
  exact laidMet_laidAll args (by kernel_rfl) (by kernel_rfl)
set_option maxRecDepth 100000 in
theorem lifted (os : Os) (started : os.Started) (H : Type) (enc : TypeId × Value → H) :
    ReturnsInHanded {} Tryd.checked os 4 .any (fun w args => (Rows.fnExactParsePagesSpec.pre enc Tryd.prog Tryd.f4 [] false w args ∧ laidMetH Tryd.prog Rows.fnExactParsePagesRow.laid w) ∧ sizedMet enc Tryd.prog Tryd.f4 (OpenSpec.ofChange Rows.fnExactParsePagesSpec) false w args)
      (Rows.fnExactParsePagesSpec.post enc Tryd.prog Tryd.f4 false true false false) := by
  refine wrap_listed (C := Tryd.checked) (X := fun w _ => laidMetH Tryd.prog Rows.fnExactParsePagesRow.laid w) (fun _ _ _ hh h => h.of_heap hh) own started (by kernel_rfl) Tryd.func4
    (ChangeSpec.witness_shaped (enc := enc) (C := Tryd.checked) (os := os) (X := fun w _ => laidMetH Tryd.prog Rows.fnExactParsePagesRow.laid w) false (World.laidAll Tryd.prog os Rows.fnExactParsePagesRow.laid) #[.string ⟨#[]⟩] 8 (World.laidAll_os _ _ _) (World.shaped_of_ZipB (by kernel_rfl) (by kernel_rfl)) (by kernel_rfl) (by kernel_rfl) (by kernel_rfl) (door_met os _)) ?_
  intro W base args ds gs before hval0 hW hL hS
  have hval : ∀ (j : Nat) t v, Tryd.f4.params[j]? = some t → args[j]? = some v → Value.okWide Tryd.prog W .any base t v := hval0
  have hW' := hW
  obtain ⟨p, q, hA0, hV, rfl, hfz, hnd⟩ := hW
  have hA : DataW.TrodAll enc Tryd.prog W 0 (fun _ => true) true Tryd.f4.params.toList args.toList ds p := hA0
  rw [Tryd.params4] at hA hval
  obtain ⟨v0, vs0, d0, ds0, p0, q0, hargs, rfl, rfl, h0, r0⟩ := trodAll_cons hA
  obtain ⟨rfl, rfl, rfl⟩ := trodAll_nil r0
  obtain rfl : args = #[v0] := by cases args; simp_all
  obtain ⟨rfl, rfl⟩ := trodVars_none hV
  obtain ⟨s0, rfl, rfl, rfl, w0⟩ := open_string Tryd.underlying9 (hval 0 9 v0 rfl rfl) h0
  clear hA0 hval0
  simp only [List.append_nil] at hW'
  refine (walk s0 w0 W (of_laid hL) (mx_of hS)).mono fun e W' ⟨he, bel⟩ => ?_
  subst he
  exact ⟨_, rfl, _, _, _, [], [], [], hW', trodAll_mk1 (shut_bool Tryd.underlying4 _), (trodAll_cons_mk (shut_string Tryd.underlying9 w0) trodAll_mk0), rfl, bel.frame _, fun h => by cases h⟩
theorem over : Rows.fnExactParsePagesRow.holds Tryd.pinned (OpenSpec.ofChange Rows.fnExactParsePagesSpec) :=
  OpenClaim.holds_of_wide 4 Tryd.f4 rfl rfl rfl rfl rfl rfl rfl ⟨rfl, rfl, rfl, rfl, rfl⟩ rfl rfl rfl rfl rfl (by kernel_rfl) Tryd.func4 (by kernel_rfl)
    (of_decide_eq_true (by kernel_rfl)) (by unfold Func.isWrapper; first | (rw [if_pos (by decide +kernel)]; kernel_rfl) | (rw [if_neg (by decide +kernel)]; exact ⟨rfl, rfl⟩))
    (fun os started H enc _ => lifted os started H enc)
/-- The statement: the tied card. -/
theorem proved : Rows.FnExactParsePagesCardSaid :=
  Claim7.holds_tied_plain_at .later [] _ _ _ _ over (fun _ h => by cases h) (by kernel_rfl) (fun _ h => by cases h) fnExactParsePages_row_tie rfl ⟨rfl, rfl⟩ (by kernel_rfl) rfl
    (fun f fn hf hfn => by
      obtain rfl : f = 4 := Option.some.inj ((show Tryd.prog.funcNamed "loop.example/g01920/laws.FnExactParsePages" = some 4 by kernel_rfl).symm.trans hf) |>.symm
      obtain rfl : fn = Tryd.f4 := (Option.some.inj (Tryd.func4.symm.trans hfn)).symm
      exact ⟨by kernel_rfl, fun j t ht => by
        rw [Tryd.params4] at ht
        have hm : t ∈ [9] := by simpa using Array.mem_of_getElem? ht
        have hall : ([9].all fun u => !Tryd.prog.wantsStandIn u) = true := by kernel_rfl
        exact (show Tryd.prog.wantsStandIn t = false by simpa using List.all_eq_true.1 hall t hm)⟩)
    (by kernel_rfl)
#print axioms proved
end Go.Proofs.YtoiobaiiammehaaDoor.FnExactParsePages
