/- Proved: for all rows a and b the law FnExactCompareRows returns true: the program's CompareRows answers as the reference's. No condition. -/
import Derived.Test.YtpgckggmcehmpaaRows
import Derived.Test.YtpgckggmcehmpaaToRow
import Derived.Test.YtpgckggmcehmpaaCmpi
import Derived.Test.YtpgckggmcehmpaaCmps
import Derived.Test.YtpgckggmcehmpaaOpenRow
import Derived.Deep.RegionWith
import Derived.ProofKit
import Derived.OpenShut
import Derived.ShutString
import Derived.ChangeOld
namespace Go.Proofs.Ytpgckggmcehmpaa.FnExactCompareRows
open Go.ChangeShapes Go.WideShapes Go.ChangeAt Go.RowKit
open Go.ChangeMaps (open_string shut_string)
set_option linter.unusedVariables false

theorem keep {w v : World} {a b : R} {f : FuncId} {args : Array Value} {x : Value} (hb : Hid (Boxes w a b v)) (h : Calls Try.prog f args v fun e v' => e = .returned x ∧ Below v.heap.size v v') : Calls Try.prog f args v fun e v' => e = .returned x ∧ Boxes w a b v' :=
  h.mono fun e v' ⟨he, hv⟩ => ⟨he, hb.out.next hv⟩
set_option maxRecDepth 100000 in
set_option maxHeartbeats 2000000 in
theorem walk (a : R) (ha : a.wf) (b : R) (hb : b.wf) (w : World) : Calls Try.prog 7 #[a.val, b.val] w fun e w' => e = .returned (.bool true) ∧ Below w.heap.size w w' := by
  have TA := Lib.hid (torow a)
  have TB := Lib.hid (torow b)
  have SC := Lib.hid (scmp a b)
  have IC := Lib.hid (icmp a b)
  unfold R.val at TA TB SC IC
  obtain ⟨W, hW, hX⟩ := boxes_start w a b 23 23
  have HX := Lib.hid hX.drew
  obtain ⟨c0, c1, c2, d0, d1, d2, _, _⟩ := hX
  have HW := Lib.hid hW
  clear hW
  unfold R.val
  go_enter Try.func7, Try.ntmps7
  go_wp2_with fail
  rw [← HW.out]
  clear HW
  go_region_with (first | (go_at_call_of 9 a.key; refine (keep (by assumption) (TA.out _)).mono ?_; rintro e w1 ⟨rfl, hz⟩; have HZ := Lib.hid hz; obtain ⟨c0, c1, c2, d0, d1, d2, _, _⟩ := hz) | (go_at_call_of 9 b.key; refine (keep (by assumption) (TB.out _)).mono ?_; rintro e w1 ⟨rfl, hz⟩; have HZ := Lib.hid hz; obtain ⟨c0, c1, c2, d0, d1, d2, _, _⟩ := hz) | (go_at_call 20; refine (keep (by assumption) (SC.out _)).mono ?_; rintro e w1 ⟨rfl, hz⟩; have HZ := Lib.hid hz.drew; obtain ⟨c0, c1, c2, d0, d1, d2, _, _⟩ := hz))
  all_goals go_wp2_with fail
  all_goals go_region_with (first | (go_at_call_of 9 a.key; refine (keep (by assumption) (TA.out _)).mono ?_; rintro e w1 ⟨rfl, hz⟩; have HZ := Lib.hid hz; obtain ⟨c0, c1, c2, d0, d1, d2, _, _⟩ := hz) | (go_at_call_of 9 b.key; refine (keep (by assumption) (TB.out _)).mono ?_; rintro e w1 ⟨rfl, hz⟩; have HZ := Lib.hid hz; obtain ⟨c0, c1, c2, d0, d1, d2, _, _⟩ := hz) | (go_at_call 21; refine (keep (by assumption) (IC.out _)).mono ?_; rintro e w1 ⟨rfl, hz⟩; have HZ := Lib.hid hz.drew; obtain ⟨c0, c1, c2, d0, d1, d2, _, _⟩ := hz))
  all_goals go_wp2_with fail
  all_goals go_ret
  all_goals exact ⟨rfl, by assumption⟩

/-! ### The row's step -/
theorem own : ownKnob Try.prog.godebug = none := by kernel_rfl
set_option maxRecDepth 100000 in
theorem lifted (os : Os) (started : os.Started) (H : Type) (enc : TypeId × Value → H) :
    ReturnsInHanded {} Try.checked os 7 .any (Rows.fnExactCompareRowsSpec.pre6 enc Try.prog Try.f7 Rows.fnExactCompareRowsRow.domain false) (Rows.fnExactCompareRowsSpec.post enc Try.prog Try.f7 false true false false) := by
  refine returnsInHanded_of_change (C := Try.checked) own started (by kernel_rfl) Try.func7
    (ChangeSpec.witness6 (enc := enc) (C := Try.checked) false ⟨#[], #[.agg #[.int .i64 0, .int .i64 0, .int .i64 0], .agg #[.int .i64 0, .int .i64 0, .int .i64 0]], []⟩ 8 (by kernel_rfl) (by kernel_rfl) (by kernel_rfl) (by kernel_rfl)) ?_
  intro W base args ds gs before hval0 hW hcnd hsz
  have hval : ∀ (j : Nat) t v, Try.f7.params[j]? = some t → args[j]? = some v → Value.okWide Try.prog W .any base t v := hval0
  have hW' := hW
  obtain ⟨p, q, hA0, hV, rfl, hfz, hnd⟩ := hW
  have hA : DataW.TrodAll enc Try.prog W 0 (fun _ => true) true Try.f7.params.toList args.toList ds p := hA0
  rw [Try.params7] at hA hval
  obtain ⟨v0, vs0, d0, ds0, p0, q0, hargs, rfl, rfl, h0, r0⟩ := trodAll_cons hA
  obtain ⟨v1, vs1, d1, ds1, p1, q1, rfl, rfl, rfl, h1, r1⟩ := trodAll_cons r0
  obtain ⟨rfl, rfl, rfl⟩ := trodAll_nil r1
  obtain rfl : args = #[v0, v1] := by cases args; simp_all
  obtain ⟨rfl, rfl⟩ := trodVars_none hV
  obtain ⟨x0, rfl, rfl, rfl, w0⟩ := open_row (hval 0 23 v0 rfl rfl) h0
  obtain ⟨x1, rfl, rfl, rfl, w1⟩ := open_row (hval 1 23 v1 rfl rfl) h1
  clear hA0 hval0
  simp only [List.append_nil] at hW'
  refine (walk x0 w0 x1 w1 W).mono fun e W' ⟨he, bel⟩ => ?_
  subst he
  exact ⟨_, rfl, _, _, _, [], [], [], hW', trodAll_mk1 (shut_bool Try.underlying4 _), (trodAll_cons_mk (shut_row x0 w0) (trodAll_cons_mk (shut_row x1 w1) trodAll_mk0)), rfl, bel.frame _, fun h => by cases h⟩
theorem over : Rows.fnExactCompareRowsRow.holds Try.pinned (OpenSpec.ofChange Rows.fnExactCompareRowsSpec) :=
  OpenClaim.holds_of_wide 7 Try.f7 rfl rfl rfl rfl rfl rfl rfl ⟨rfl, rfl, rfl, rfl, rfl⟩ rfl rfl rfl rfl rfl (by kernel_rfl) Try.func7 (by kernel_rfl)
    (of_decide_eq_true (by kernel_rfl)) (by unfold Func.isWrapper; first | (rw [if_pos (by decide +kernel)]; kernel_rfl) | (rw [if_neg (by decide +kernel)]; exact ⟨rfl, rfl⟩))
    (fun os started H enc _ => lifted os started H enc)
/-- The statement. -/
theorem proved : Rows.FnExactCompareRowsSaid := over
#print axioms proved
end Go.Proofs.Ytpgckggmcehmpaa.FnExactCompareRows
