/- Proved: for every string the law FnExactParseRows returns true: the program's ParseRows answers as the reference's, in memory of its own that a later call does not touch (the law itself answers true above 2^20 bytes); the library's variables are tied to the program's text. No further condition. -/
import Derived.Test.YtpgckggmcehmpaaDoorRows
import Derived.Test.YtpgckggmcehmpaaDoorCards
import Derived.Test.YtpgckggmcehmpaaDoorTie
import Derived.Test.YtpgckggmcehmpaaDoorWrap
import Derived.Test.YtpgckggmcehmpaaDoorProwsi
import Derived.Test.YtpgckggmcehmpaaDoorProwss
import Derived.Test.YtpgckggmcehmpaaDoorEqRows
import Derived.ProofKit
import Derived.OpenShut
import Derived.ShutString
import Derived.ChangeOld
import Derived.LaidMore
import Derived.Lay
import Derived.Stop.Joined
import Derived.SevenTiedAt
namespace Go.Proofs.YtpgckggmcehmpaaDoor.FnExactParseRows
open Go Go.ChangeShapes Go.WideShapes Go.ChangeAt Go.RowKit
open Go.ChangeMaps (open_string shut_string)
set_option linter.unusedVariables false

theorem of_laid {w : World} (h : laidMetH Tryd.prog Rows.fnExactParseRowsRow.laid w) : Tab w ∧ Syn w := by
  rw [MakeChecks.laidMetH_plain _ _ _ (by kernel_rfl)] at h
  exact ⟨by (first | exact tab_of h | exact tab_of h.tail | exact tab_of h.tail.tail | exact tab_of h.tail.tail.tail | exact tab_of h.tail.tail.tail.tail | exact tab_of h.tail.tail.tail.tail.tail | exact tab_of h.tail.tail.tail.tail.tail.tail | exact tab_of h.tail.tail.tail.tail.tail.tail.tail), by (first | exact syn_of h | exact syn_of h.tail | exact syn_of h.tail.tail | exact syn_of h.tail.tail.tail | exact syn_of h.tail.tail.tail.tail | exact syn_of h.tail.tail.tail.tail.tail | exact syn_of h.tail.tail.tail.tail.tail.tail | exact syn_of h.tail.tail.tail.tail.tail.tail.tail)⟩
theorem rows_ok (l : List UInt8) : ∀ r ∈ (parseRows l).getD [], r.wf := by
  cases h : parseRows l with
  | none => intro r hr; cases hr
  | some M => exact parseRows_wf h
set_option maxRecDepth 100000 in
theorem walk (s : ByteArray) (ws : s.size ≤ maxLen) (w : World) (hL : Tab w ∧ Syn w) (hM : Mx w) : Calls Tryd.prog 7 #[.string s] w fun e w' => e = .returned (.bool true) ∧ Below w.heap.size w w' := by
  have hs := ws
  unfold maxLen at hs
  have HL := Lib.hid hL
  have HM := Lib.hid hM
  clear hL hM
  by_cases hbig : (1048576 : Int) < s.size
  · go_enter Tryd.func7, Tryd.ntmps7
    go_wp2
    go_ret
    exact ⟨rfl, Below.refl _ _⟩
  · have SP := Lib.hid fun v => sprows s (by omega) v
    have IP := Lib.hid fun v hm hl => iprows s (by omega) v hm hl
    have HWF := Lib.hid (rows_ok s.data.toList)
    unfold RowsAns at SP
    unfold RowsOwn at IP
    obtain ⟨X, hX⟩ : ∃ X, X = (parseRows s.data.toList).getD [] := ⟨_, rfl⟩
    obtain ⟨p, hp⟩ : ∃ p, p = (parseRows s.data.toList).isSome := ⟨_, rfl⟩
    rw [← hX] at SP IP HWF
    rw [← hp] at SP IP
    clear hX hp
    go_enter Tryd.func7, Tryd.ntmps7
    go_wp2_with fail
    refine (SP.out _).mono ?_
    rintro e w1 ⟨⟨a0, len0, cap0, rfl, hl0, hr0⟩, b1⟩
    have B1 := Lib.hid b1
    have Z1 := Lib.hid hr0
    have hlow := Lib.hid (IsRows.old hr0)
    clear b1 hr0
    go_wp2_with fail
    refine (IP.out _ (HM.out.stay B1.out) (laid_stay HL.out B1.out)).mono ?_
    rintro e w2 ⟨⟨a1, len1, cap1, rfl, hl1, ho1⟩, b2⟩
    have B2 := Lib.hid (B1.out.trans (b2.mono B1.out.size))
    have Z2 := Lib.hid (Z1.out.keep b2)
    have O2 := Lib.hid ho1
    have hw12 := b2.size
    clear b2 ho1
    go_wp2_with fail
    refine (eqrows _ _ len1 cap1 len0 cap0 X X _ (O2.out.rows HWF.out) Z2.out (by omega) (by omega)).mono ?_
    rintro e w3 ⟨rfl, b3⟩
    have B3 := Lib.hid (B2.out.trans (b3.mono B2.out.size))
    have Z3 := Lib.hid (Z2.out.keep b3)
    have O3 := Lib.hid (O2.out.keep b3)
    have hw13 := b3.size
    clear b3
    rw [decide_eq_true (rfl : X = X)]
    go_wp2_with fail
    refine (mark_rows w1.heap.size a1 len1 cap1 X 1 _ O3.out (by omega) (by omega) (by omega)).mono ?_
    rintro e w4 ⟨rfl, ho4, b4⟩
    have B4 := Lib.hid (B3.out.trans (b4.mono B1.out.size))
    have Z4 := Lib.hid (Z3.out.low hlow b4)
    have O4 := Lib.hid ho4
    have hw14 := b4.size
    clear ho4 b4
    go_wp2_with fail
    refine (held_rows w1.heap.size a1 len1 cap1 1 _ O4.out (by omega) (by omega) (by omega)).mono ?_
    rintro e w5 ⟨rfl, rfl⟩
    have hq : ¬ (1 + 3 * (len1 : Int) < 0) := by omega
    go_wp2_with fail
    have B5 := Lib.hid B4.out
    refine (IP.out _ (HM.out.stay B5.out) (laid_stay HL.out B5.out)).mono ?_
    rintro e w6 ⟨⟨a2, len2, cap2, rfl, hl2, ho2⟩, b6⟩
    have B6 := Lib.hid (B5.out.trans (b6.mono B5.out.size))
    have Z6 := Lib.hid (Z4.out.keep b6)
    have O6 := Lib.hid (O4.out.keep b6)
    have N6 := Lib.hid ho2
    clear ho2 b6
    go_wp2_with fail
    refine (eqrows _ _ len2 cap2 len0 cap0 X X _ (N6.out.rows HWF.out) Z6.out (by omega) (by omega)).mono ?_
    rintro e w7 ⟨rfl, b7⟩
    have B7 := Lib.hid (B6.out.trans (b7.mono B6.out.size))
    have O7 := Lib.hid (O6.out.keep b7)
    clear b7
    rw [decide_eq_true (rfl : X = X)]
    go_wp2_with fail
    refine (held_rows w1.heap.size a1 len1 cap1 1 _ O7.out (by omega) (by omega) (by omega)).mono ?_
    rintro e w8 ⟨rfl, rfl⟩
    go_wp2_with fail
    go_ret
    exact ⟨rfl, B7.out⟩

/-! ### The row's step -/
theorem own : ownKnob Tryd.prog.godebug = none := by kernel_rfl
set_option maxRecDepth 100000 in
theorem door_met (os : Os) (args : Array Value) : laidMetH Tryd.prog Rows.fnExactParseRowsRow.laid ((World.laidAll Tryd.prog os Rows.fnExactParseRowsRow.laid).forCall (fun _ _ => 0) ⟨#[], args, []⟩).memory := by
  rw [MakeChecks.laidMetH_plain _ _ _ (by kernel_rfl)]
  exact laidMet_laidAll args (by kernel_rfl) (by kernel_rfl)
set_option maxRecDepth 100000 in
theorem lifted (os : Os) (started : os.Started) (H : Type) (enc : TypeId × Value → H) :
    ReturnsInHanded {} Tryd.checked os 7 .any (fun w args => (Rows.fnExactParseRowsSpec.pre enc Tryd.prog Tryd.f7 [] false w args ∧ laidMetH Tryd.prog Rows.fnExactParseRowsRow.laid w) ∧ sizedMet enc Tryd.prog Tryd.f7 (OpenSpec.ofChange Rows.fnExactParseRowsSpec) false w args)
      (Rows.fnExactParseRowsSpec.post enc Tryd.prog Tryd.f7 false true false false) := by
  refine wrap_listed (C := Tryd.checked) (X := fun w _ => laidMetH Tryd.prog Rows.fnExactParseRowsRow.laid w) (fun _ _ _ hh h => h.of_heap hh) own started (by kernel_rfl) Tryd.func7
    (ChangeSpec.witness_shaped (enc := enc) (C := Tryd.checked) (os := os) (X := fun w _ => laidMetH Tryd.prog Rows.fnExactParseRowsRow.laid w) false (World.laidAll Tryd.prog os Rows.fnExactParseRowsRow.laid) #[.string ⟨#[]⟩] 8 (World.laidAll_os _ _ _) (World.shaped_of_ZipB (by kernel_rfl) (by kernel_rfl)) (by kernel_rfl) (by kernel_rfl) (by kernel_rfl) (door_met os _)) ?_
  intro W base args ds gs before hval0 hW hL hS
  have hval : ∀ (j : Nat) t v, Tryd.f7.params[j]? = some t → args[j]? = some v → Value.okWide Tryd.prog W .any base t v := hval0
  have hW' := hW
  obtain ⟨p, q, hA0, hV, rfl, hfz, hnd⟩ := hW
  have hA : DataW.TrodAll enc Tryd.prog W 0 (fun _ => true) true Tryd.f7.params.toList args.toList ds p := hA0
  rw [Tryd.params7] at hA hval
  obtain ⟨v0, vs0, d0, ds0, p0, q0, hargs, rfl, rfl, h0, r0⟩ := trodAll_cons hA
  obtain ⟨rfl, rfl, rfl⟩ := trodAll_nil r0
  obtain rfl : args = #[v0] := by cases args; simp_all
  obtain ⟨rfl, rfl⟩ := trodVars_none hV
  obtain ⟨s0, rfl, rfl, rfl, w0⟩ := open_string Tryd.underlying9 (hval 0 9 v0 rfl rfl) h0
  clear hA0 hval0
  simp only [List.append_nil] at hW'
  refine (walk s0 w0 W (of_laid hL) (mx_of hS)).mono fun e W' ⟨he, bel⟩ => ?_
  subst he
  exact ⟨_, rfl, _, _, _, [], [], [], hW', trodAll_mk1 (shut_bool Tryd.underlying4 _), (trodAll_cons_mk (shut_string Tryd.underlying9 w0) trodAll_mk0), rfl, bel.frame _, fun h => by cases h⟩
theorem over : Rows.fnExactParseRowsRow.holds Tryd.pinned (OpenSpec.ofChange Rows.fnExactParseRowsSpec) :=
  OpenClaim.holds_of_wide 7 Tryd.f7 rfl rfl rfl rfl rfl rfl rfl ⟨rfl, rfl, rfl, rfl, rfl⟩ rfl rfl rfl rfl rfl (by kernel_rfl) Tryd.func7 (by kernel_rfl)
    (of_decide_eq_true (by kernel_rfl)) (by unfold Func.isWrapper; first | (rw [if_pos (by decide +kernel)]; kernel_rfl) | (rw [if_neg (by decide +kernel)]; exact ⟨rfl, rfl⟩))
    (fun os started H enc _ => lifted os started H enc)
/-- The statement: the tied card. -/
theorem proved : Rows.FnExactParseRowsCardSaid :=
  Claim7.holds_tied_plain_at .later [] _ _ _ _ over (fun _ h => by cases h) (by kernel_rfl) (fun _ h => by cases h) fnExactParseRows_row_tie rfl ⟨rfl, rfl⟩ (by kernel_rfl) rfl
    (fun f fn hf hfn => by
      obtain rfl : f = 7 := Option.some.inj ((show Tryd.prog.funcNamed "loop.example/g01920/laws.FnExactParseRows" = some 7 by kernel_rfl).symm.trans hf) |>.symm
      obtain rfl : fn = Tryd.f7 := (Option.some.inj (Tryd.func7.symm.trans hfn)).symm
      exact ⟨by kernel_rfl, fun j t ht => by
        rw [Tryd.params7] at ht
        have hm : t ∈ [9] := by simpa using Array.mem_of_getElem? ht
        have hall : ([9].all fun u => !Tryd.prog.wantsStandIn u) = true := by kernel_rfl
        exact (show Tryd.prog.wantsStandIn t = false by simpa using List.all_eq_true.1 hall t hm)⟩)
    (by kernel_rfl)
#print axioms proved
end Go.Proofs.YtpgckggmcehmpaaDoor.FnExactParseRows
