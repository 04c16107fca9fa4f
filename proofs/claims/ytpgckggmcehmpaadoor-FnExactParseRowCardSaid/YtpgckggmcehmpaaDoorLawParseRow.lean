/- Proved: for every string the law FnExactParseRow returns true: the program's ParseRow answers as the reference's (the law itself answers true above 2^20 bytes); the library's variables are tied to the program's text. No further condition. -/
import Derived.Test.YtpgckggmcehmpaaDoorRows
import Derived.Test.YtpgckggmcehmpaaDoorCards
import Derived.Test.YtpgckggmcehmpaaDoorTie
import Derived.Test.YtpgckggmcehmpaaDoorWrap
import Derived.Test.YtpgckggmcehmpaaDoorProwi
import Derived.Test.YtpgckggmcehmpaaDoorToRow
import Derived.ProofKit
import Derived.OpenShut
import Derived.ShutString
import Derived.ChangeOld
import Derived.LaidMore
import Derived.Lay
import Derived.Stop.Joined
import Derived.SevenTiedAt
namespace Go.Proofs.YtpgckggmcehmpaaDoor.FnExactParseRow
open Go Go.ChangeShapes Go.WideShapes Go.ChangeAt Go.RowKit
open Go.ChangeMaps (open_string shut_string)
set_option linter.unusedVariables false

theorem of_laid {w : World} (h : laidMetH Tryd.prog Rows.fnExactParseRowRow.laid w) : Tab w ∧ Syn w := by
  rw [MakeChecks.laidMetH_plain _ _ _ (by kernel_rfl)] at h
  exact ⟨by (first | exact tab_of h | exact tab_of h.tail | exact tab_of h.tail.tail | exact tab_of h.tail.tail.tail | exact tab_of h.tail.tail.tail.tail | exact tab_of h.tail.tail.tail.tail.tail | exact tab_of h.tail.tail.tail.tail.tail.tail | exact tab_of h.tail.tail.tail.tail.tail.tail.tail), by (first | exact syn_of h | exact syn_of h.tail | exact syn_of h.tail.tail | exact syn_of h.tail.tail.tail | exact syn_of h.tail.tail.tail.tail | exact syn_of h.tail.tail.tail.tail.tail | exact syn_of h.tail.tail.tail.tail.tail.tail | exact syn_of h.tail.tail.tail.tail.tail.tail.tail)⟩
set_option maxRecDepth 100000 in
theorem walk (s : ByteArray) (ws : s.size ≤ maxLen) (w : World) (hL : Tab w ∧ Syn w) (hM : Mx w) : Calls Tryd.prog 5 #[.string s] w fun e w' => e = .returned (.bool true) ∧ Below w.heap.size w w' := by
  have hs := ws
  unfold maxLen at hs
  have HL := Lib.hid hL
  have HM := Lib.hid hM
  clear hL hM
  by_cases hbig : (1048576 : Int) < s.size
  · go_enter Tryd.func5, Tryd.ntmps5
    go_wp2
    go_ret
    exact ⟨rfl, Below.refl _ _⟩
  · go_enter Tryd.func5, Tryd.ntmps5
    go_wp2_with fail
    refine (sprow s (by omega) _).mono ?_
    rintro e w1 ⟨he, b1⟩
    unfold RowAns at he
    subst he
    have H1 := Lib.hid (laid_stay HL.out b1)
    have M1 := Lib.hid (HM.out.stay b1)
    have B1 := Lib.hid b1
    clear b1
    obtain ⟨r, hr⟩ : ∃ r, r = (parseRow s.data.toList).getD R.zero := ⟨_, rfl⟩
    obtain ⟨p, hp⟩ : ∃ p, p = (parseRow s.data.toList).isSome := ⟨_, rfl⟩
    have HI := Lib.hid (iprow s (by omega))
    unfold RowAns at HI
    rw [← hr, ← hp] at HI ⊢
    clear hr hp
    have hba : Below w1.heap.size w1 (w1.alloc (.cells #[.int .i64 r.key, .int .i64 r.value, .int .i64 r.width] 25)) := (Below.refl _ _).alloc (Nat.le_refl _) _
    have H2 := Lib.hid (laid_stay H1.out hba)
    have M2 := Lib.hid (M1.out.stay hba)
    have B2 := Lib.hid (B1.out.trans (hba.mono B1.out.size))
    have V2 := Lib.hid (Var3.made w1 r)
    clear hba
    go_wp2_with fail
    refine (HI.out _ M2.out H2.out).mono ?_
    rintro e w2 ⟨rfl, b3⟩
    have B3 := Lib.hid (B2.out.trans (b3.mono B2.out.size))
    have V3 := (V2.out.keep b3).alloc (.cells #[.int .i64 r.key, .int .i64 r.value, .int .i64 r.width] 25)
    obtain ⟨c0, c1, c2⟩ := V3.cells
    have B4 := Lib.hid (B3.out.alloc B3.out.size (.cells #[.int .i64 r.key, .int .i64 r.value, .int .i64 r.width] 25))
    clear b3 V3
    go_wp2_with fail
    refine (eqrow r r _).mono ?_
    rintro e w3 ⟨rfl, b4⟩
    have B5 := Lib.hid (B4.out.trans (b4.mono B4.out.size))
    clear b4
    rw [decide_eq_true (rfl : r = r)]
    go_wp2_with fail
    go_ret
    exact ⟨rfl, B5.out⟩

/-! ### The row's step -/
theorem own : ownKnob Tryd.prog.godebug = none := by kernel_rfl
set_option maxRecDepth 100000 in
theorem door_met (os : Os) (args : Array Value) : laidMetH Tryd.prog Rows.fnExactParseRowRow.laid ((World.laidAll Tryd.prog os Rows.fnExactParseRowRow.laid).forCall (fun _ _ => 0) ⟨#[], args, []⟩).memory := by
  rw [MakeChecks.laidMetH_plain _ _ _ (by kernel_rfl)]
  exact laidMet_laidAll args (by kernel_rfl) (by kernel_rfl)
set_option maxRecDepth 100000 in
theorem lifted (os : Os) (started : os.Started) (H : Type) (enc : TypeId × Value → H) :
    ReturnsInHanded {} Tryd.checked os 5 .any (fun w args => (Rows.fnExactParseRowSpec.pre enc Tryd.prog Tryd.f5 [] false w args ∧ laidMetH Tryd.prog Rows.fnExactParseRowRow.laid w) ∧ sizedMet enc Tryd.prog Tryd.f5 (OpenSpec.ofChange Rows.fnExactParseRowSpec) false w args)
      (Rows.fnExactParseRowSpec.post enc Tryd.prog Tryd.f5 false true false false) := by
  refine wrap_listed (C := Tryd.checked) (X := fun w _ => laidMetH Tryd.prog Rows.fnExactParseRowRow.laid w) (fun _ _ _ hh h => h.of_heap hh) own started (by kernel_rfl) Tryd.func5
    (ChangeSpec.witness_shaped (enc := enc) (C := Tryd.checked) (os := os) (X := fun w _ => laidMetH Tryd.prog Rows.fnExactParseRowRow.laid w) false (World.laidAll Tryd.prog os Rows.fnExactParseRowRow.laid) #[.string ⟨#[]⟩] 8 (World.laidAll_os _ _ _) (World.shaped_of_ZipB (by kernel_rfl) (by kernel_rfl)) (by kernel_rfl) (by kernel_rfl) (by kernel_rfl) (door_met os _)) ?_
  intro W base args ds gs before hval0 hW hL hS
  have hval : ∀ (j : Nat) t v, Tryd.f5.params[j]? = some t → args[j]? = some v → Value.okWide Tryd.prog W .any base t v := hval0
  have hW' := hW
  obtain ⟨p, q, hA0, hV, rfl, hfz, hnd⟩ := hW
  have hA : DataW.TrodAll enc Tryd.prog W 0 (fun _ => true) true Tryd.f5.params.toList args.toList ds p := hA0
  rw [Tryd.params5] at hA hval
  obtain ⟨v0, vs0, d0, ds0, p0, q0, hargs, rfl, rfl, h0, r0⟩ := trodAll_cons hA
  obtain ⟨rfl, rfl, rfl⟩ := trodAll_nil r0
  obtain rfl : args = #[v0] := by cases args; simp_all
  obtain ⟨rfl, rfl⟩ := trodVars_none hV
  obtain ⟨s0, rfl, rfl, rfl, w0⟩ := open_string Tryd.underlying9 (hval 0 9 v0 rfl rfl) h0
  clear hA0 hval0
  simp only [List.append_nil] at hW'
  refine (walk s0 w0 W (of_laid hL) (mx_of hS)).mono fun e W' ⟨he, bel⟩ => ?_
  subst he
  exact ⟨_, rfl, _, _, _, [], [], [], hW', trodAll_mk1 (shut_bool Tryd.underlying4 _), (trodAll_cons_mk (shut_string Tryd.underlying9 w0) trodAll_mk0), rfl, bel.frame _, fun h => by cases h⟩
theorem over : Rows.fnExactParseRowRow.holds Tryd.pinned (OpenSpec.ofChange Rows.fnExactParseRowSpec) :=
  OpenClaim.holds_of_wide 5 Tryd.f5 rfl rfl rfl rfl rfl rfl rfl ⟨rfl, rfl, rfl, rfl, rfl⟩ rfl rfl rfl rfl rfl (by kernel_rfl) Tryd.func5 (by kernel_rfl)
    (of_decide_eq_true (by kernel_rfl)) (by unfold Func.isWrapper; first | (rw [if_pos (by decide +kernel)]; kernel_rfl) | (rw [if_neg (by decide +kernel)]; exact ⟨rfl, rfl⟩))
    (fun os started H enc _ => lifted os started H enc)
/-- The statement: the tied card. -/
theorem proved : Rows.FnExactParseRowCardSaid :=
  Claim7.holds_tied_plain_at .later [] _ _ _ _ over (fun _ h => by cases h) (by kernel_rfl) (fun _ h => by cases h) fnExactParseRow_row_tie rfl ⟨rfl, rfl⟩ (by kernel_rfl) rfl
    (fun f fn hf hfn => by
      obtain rfl : f = 5 := Option.some.inj ((show Tryd.prog.funcNamed "loop.example/g01920/laws.FnExactParseRow" = some 5 by kernel_rfl).symm.trans hf) |>.symm
      obtain rfl : fn = Tryd.f5 := (Option.some.inj (Tryd.func5.symm.trans hfn)).symm
      exact ⟨by kernel_rfl, fun j t ht => by
        rw [Tryd.params5] at ht
        have hm : t ∈ [9] := by simpa using Array.mem_of_getElem? ht
        have hall : ([9].all fun u => !Tryd.prog.wantsStandIn u) = true := by kernel_rfl
        exact (show Tryd.prog.wantsStandIn t = false by simpa using List.all_eq_true.1 hall t hm)⟩)
    (by kernel_rfl)
#print axioms proved
end Go.Proofs.YtpgckggmcehmpaaDoor.FnExactParseRow
