/- Proved: for every slice of rows and row the law FnExactCountRow returns true: the program's CountRow answers as the reference's and leaves its argument alone (the law itself answers true above 2^20 rows). No condition. -/
import Derived.Test.YtedfjpfppipfhaaRows
import Derived.Test.YtedfjpfppipfhaaMark
import Derived.Test.YtedfjpfppipfhaaEqRows
import Derived.Test.YtedfjpfppipfhaaOpenRow
import Derived.Test.YtedfjpfppipfhaaToRow
import Derived.Test.YtedfjpfppipfhaaCounti
import Derived.Deep.RegionWith
import Derived.Deep.CutRange
import Derived.ProofKit
import Derived.OpenShut
import Derived.ShutString
import Derived.ChangeOld
namespace Go.Proofs.Ytedfjpfppipfhaa.FnExactCountRow
open Go.ChangeShapes Go.WideShapes Go.ChangeAt Go.RowKit
open Go.ChangeMaps (open_string shut_string)
set_option linter.unusedVariables false

set_option maxRecDepth 100000 in
set_option maxHeartbeats 1000000 in
theorem walk (a : Option Addr) (len cap : Nat) (L : List R) (hl : len ≤ maxLen) (w : World) (h : IsRows w a len L) (r : R) (hr : r.wf) : Calls Try.prog 8 #[.slice a len cap, r.val] w fun e w' => e = .returned (.bool true) ∧ Below w.heap.size w w' := by
  unfold maxLen at hl
  unfold R.val
  obtain ⟨W, hW⟩ : ∃ W, W = w.alloc (.cells #[.int .i64 r.key, .int .i64 r.value, .int .i64 r.width] 44) := ⟨_, rfl⟩
  have hb0 : Below w.heap.size w W := by rw [hW]; exact (Below.refl _ _).alloc (Nat.le_refl _) _
  have hsz : w.heap.size < W.heap.size := by rw [hW]; simp
  have hbox : RowAt W w.heap.size 0 r := by rw [hW]; refine ⟨?_, ?_, ?_⟩ <;> simp
  have HI := Lib.hid (h.keep hb0)
  have HB0 := Lib.hid hb0
  have HW := Lib.hid h.2.1
  have HL := Lib.hid h.1
  have HX := Lib.hid hbox
  clear hb0 h
  by_cases hbig : 1048576 < len
  · go_enter Try.func8, Try.ntmps8
    go_wp2_with fail
    rw [← hW]
    refine (sz_no a len cap 1048576 _ (by omega) hl (by omega)).mono ?_
    rintro e w1 ⟨rfl, rfl⟩
    go_wp2_with fail
    go_ret
    exact ⟨rfl, by rw [← hW]; exact HB0.out⟩
  obtain ⟨Y, hY⟩ : ∃ Y, Y = L.count r := ⟨_, rfl⟩
  have hyl : Y ≤ 1048576 := by rw [hY]; have := List.count_le_length (a := r) (l := L); have := HL.out; omega
  have C1 := Lib.hid fun v (hv : Below W.heap.size W v) => (copyrows a len cap L v (HI.out.keep hv) (by omega)).mono fun e v' (h : ∃ g, e = .returned (.slice (some ⟨g, 0, none⟩) len len) ∧ Mine v' v.heap.size (.slice (some ⟨g, 0, none⟩) len len) L ∧ Below v.heap.size v v') => (show ∃ g, e = .returned (.slice (some ⟨g, 0, none⟩) len len) ∧ IsRows v' (some ⟨g, 0, none⟩) len L ∧ Below W.heap.size W v' ∧ RowAt v' w.heap.size 0 r by
    obtain ⟨g, he, hm, hb⟩ := h
    have hb' := hv.trans (hb.mono hv.size)
    exact ⟨g, he, hm.rows HW.out, hb', HX.out.below hb' hsz⟩)
  have C2 := Lib.hid fun v (hv : Below W.heap.size W v) => (torow r v).mono fun e v' (h : e = .returned r.val ∧ Below v.heap.size v v') => (show e = .returned r.val ∧ Below v.heap.size v v' ∧ Below W.heap.size W v' ∧ RowAt v' w.heap.size 0 r by
    have hb' := hv.trans (h.2.mono hv.size)
    exact ⟨h.1, h.2, hb', HX.out.below hb' hsz⟩)
  have C3 := Lib.hid fun v g (hv : Below W.heap.size W v) (hr : IsRows v (some ⟨g, 0, none⟩) len L) => (scount (some ⟨g, 0, none⟩) len len L r v hr (by omega)).mono fun e v' (h : e = .returned (.int .i64 (L.count r)) ∧ Below v.heap.size v v') => (show e = .returned (.int .i64 (L.count r)) ∧ Below W.heap.size W v' by
    exact ⟨h.1, hv.trans (h.2.mono hv.size)⟩)
  have IC := Lib.hid fun a1 c1 v (h1 : IsRows v a1 len L) => icount a1 len c1 L r v h1 (by omega)
  rw [← hY] at C3 IC
  unfold R.val at C2
  clear hY
  go_enter Try.func8, Try.ntmps8
  go_wp2_with fail
  rw [← hW]
  clear hW
  refine (sz_ok a len cap 1048576 _ (by omega) (by omega)).mono ?_
  rintro e v0 ⟨rfl, rfl⟩
  have hz : ¬ ((1048576 : Int) - len < 0) := by omega
  go_wp2_with fail
  go_cut [6] from 14 to 18 (fun s6 wx => s6 = .int .i64 Y ∧ Hid (Below W.heap.size W wx))
  case first =>
    have hK : Below W.heap.size W W.drew := (Below.refl _ _).drew
    obtain ⟨d0, d1, d2⟩ := hbox
    go_region_with (first
      | (go_at_call 32; refine (C1.out _ (by assumption)).mono ?_; rintro e v ⟨g, rfl, hrr, hK, d0, d1, d2⟩)
      | (go_at_call 36; refine (C2.out _ (by assumption)).mono ?_; rintro e v ⟨rfl, hb2, hK, d0, d1, d2⟩; first | (have hrr := IsRows.keep hrr hb2) | skip)
      | (go_at_call 28; refine (C3.out _ _ (by assumption) (by assumption)).mono ?_; rintro e v ⟨rfl, hK⟩))
    all_goals go_wp2_with fail
    all_goals go_meet
    all_goals exact ⟨rfl, by assumption⟩
  case rest =>
    obtain ⟨rfl, hB⟩ := hcut
    go_wp2_with fail
    refine (copyrows a len cap L _ (HI.out.keep hB.out) (by omega)).mono ?_
    rintro e w1 ⟨g1, rfl, m1, b1⟩
    have B1 := Lib.hid (hB.out.trans (b1.mono hB.out.size))
    have X1 := Lib.hid m1
    obtain ⟨e0, e1, e2⟩ := HX.out.below B1.out hsz
    clear m1 b1
    go_wp2_with fail
    refine (torow r _).mono ?_
    rintro e w2 ⟨rfl, b2⟩
    have X2 := Lib.hid (X1.out.keep b2)
    have B2 := Lib.hid (B1.out.trans (b2.mono B1.out.size))
    clear b2
    unfold R.val
    go_wp2_with fail
    refine (IC.out _ _ _ (X2.out.rows HW.out)).mono ?_
    rintro e w3 ⟨rfl, b3⟩
    have X3 := Lib.hid (X2.out.keep b3)
    have B3 := Lib.hid (B2.out.trans (b3.mono B2.out.size))
    clear b3
    go_wp2_with fail
    refine (copyrows a len cap L _ (HI.out.keep B3.out) (by omega)).mono ?_
    rintro e w4 ⟨g4, rfl, m4, b4⟩
    have X4 := Lib.hid (X3.out.keep b4)
    have B4 := Lib.hid (B3.out.trans (b4.mono B3.out.size))
    have C4 := Lib.hid m4
    clear b4 m4
    go_wp2_with fail
    refine (eqrows _ _ _ _ _ _ L L _ (X4.out.rows HW.out) (C4.out.rows HW.out) (by omega) (by omega)).mono ?_
    rintro e w5 ⟨rfl, b5⟩
    rw [decide_eq_true (rfl : L = L)]
    have B5 := Lib.hid (B4.out.trans (b5.mono B4.out.size))
    clear b5
    go_wp2_with fail
    go_ret
    exact ⟨rfl, HB0.out.trans (B5.out.mono HB0.out.size)⟩

/-! ### The row's step -/
theorem own : ownKnob Try.prog.godebug = none := by kernel_rfl
theorem laidOut : laidOutB Try.prog = true := by kernel_rfl
set_option maxRecDepth 100000 in
theorem lifted (os : Os) (started : os.Started) (H : Type) (enc : TypeId × Value → H) :
    ReturnsInHanded {} Try.checked os 8 .any (Rows.fnExactCountRowSpec.pre6 enc Try.prog Try.f8 Rows.fnExactCountRowRow.domain false) (Rows.fnExactCountRowSpec.post enc Try.prog Try.f8 false true false false) := by
  refine returnsInHanded_of_change (C := Try.checked) own started (by kernel_rfl) Try.func8
    (ChangeSpec.witness6 (enc := enc) (C := Try.checked) false ⟨#[], #[.slice none 0 0, .agg #[.int .i64 0, .int .i64 0, .int .i64 0]], []⟩ 8 (by kernel_rfl) (by kernel_rfl) (by kernel_rfl) (by kernel_rfl)) ?_
  intro W base args ds gs before hval0 hW hcnd hsz
  have hval : ∀ (j : Nat) t v, Try.f8.params[j]? = some t → args[j]? = some v → Value.okWide Try.prog W .any base t v := hval0
  have hW' := hW
  obtain ⟨p, q, hA0, hV, rfl, hfz, hnd⟩ := hW
  have hA : DataW.TrodAll enc Try.prog W 0 (fun _ => true) true Try.f8.params.toList args.toList ds p := hA0
  rw [Try.params8] at hA hval
  obtain ⟨v0, vs0, d0, ds0, p0, q0, hargs, rfl, rfl, h0, r0⟩ := trodAll_cons hA
  obtain ⟨v1, vs1, d1, ds1, p1, q1, rfl, rfl, rfl, h1, r1⟩ := trodAll_cons r0
  obtain ⟨rfl, rfl, rfl⟩ := trodAll_nil r1
  obtain rfl : args = #[v0, v1] := by cases args; simp_all
  obtain ⟨rfl, rfl⟩ := trodVars_none hV
  obtain ⟨a0, len0, cap0, rfl⟩ := okWide_slice Try.underlying38 (hval 0 38 v0 rfl rfl)
  have k0 := h0
  have lt0 : ∀ x ∈ p0, x.block < W.heap.size := by obtain ⟨m, hm⟩ := k0; exact DataW.trod_lt m _ _ _ hm
  obtain ⟨m0, L0, w0⟩ := open_rows h0
  obtain ⟨x1, rfl, rfl, rfl, w1⟩ := open_row (hval 1 44 v1 rfl rfl) h1
  clear hA0 hval0
  refine (walk a0 len0 cap0 L0 m0 W w0 x1 w1).mono fun e W' ⟨he, bel⟩ => ?_
  subst he
  exact ⟨_, rfl, _, _, _, [], _, [], hW', trodAll_mk1 (shut_bool Try.underlying4 _), (trodAll_cons_mk (Below.trod laidOut (by kernel_rfl) (of_decide_eq_true (by kernel_rfl)) k0 bel lt0) (trodAll_cons_mk (shut_row x1 w1) trodAll_mk0)), rfl, bel.frame _, fun h => by cases h⟩
theorem over : Rows.fnExactCountRowRow.holds Try.pinned (OpenSpec.ofChange Rows.fnExactCountRowSpec) :=
  OpenClaim.holds_of_wide 8 Try.f8 rfl rfl rfl rfl rfl rfl rfl ⟨rfl, rfl, rfl, rfl, rfl⟩ rfl rfl rfl rfl rfl (by kernel_rfl) Try.func8 (by kernel_rfl)
    (of_decide_eq_true (by kernel_rfl)) (by unfold Func.isWrapper; first | (rw [if_pos (by decide +kernel)]; kernel_rfl) | (rw [if_neg (by decide +kernel)]; exact ⟨rfl, rfl⟩))
    (fun os started H enc _ => lifted os started H enc)
/-- The statement. -/
theorem proved : Rows.FnExactCountRowSaid := over
#print axioms proved
end Go.Proofs.Ytedfjpfppipfhaa.FnExactCountRow
