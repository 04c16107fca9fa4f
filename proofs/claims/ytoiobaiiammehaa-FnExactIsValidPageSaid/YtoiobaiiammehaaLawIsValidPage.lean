/- Proved: for every page the law FnExactIsValidPage returns true: the program's IsValidPage answers as the reference's and leaves its argument alone (the law itself answers true above 2^20 rows and pages together). No condition. -/
import Derived.Test.YtoiobaiiammehaaRows
import Derived.Test.YtoiobaiiammehaaGives
import Derived.Test.YtoiobaiiammehaaPagesS
import Derived.Test.YtoiobaiiammehaaPagesi
import Derived.Deep.CutRange
import Derived.Deep.RegionWith
import Derived.ProofKit
import Derived.OpenShut
import Derived.ShutString
import Derived.ChangeOld
namespace Go.Proofs.Ytoiobaiiammehaa.FnExactIsValidPage
open Go Go.ChangeShapes Go.WideShapes Go.ChangeAt Go.RowKit
open Go.ChangeMaps (open_string shut_string)
set_option linter.unusedVariables false

set_option maxRecDepth 100000 in
set_option maxHeartbeats 1000000 in
theorem walk (a : Option Addr) (len cap : Nat) (X : List R) (w : World) (h : SeqIn rowRep w a len X) : Calls Try.prog 3 #[.agg #[.slice a len cap]] w fun e w' => e = .returned (.bool true) ∧ Below w.heap.size w w' := by
  have hm := h.2.1
  have HL := Lib.hid h.1
  have HI := Lib.hid h
  clear h
  obtain ⟨W, hW⟩ : ∃ W, W = w.alloc (.cells #[.slice a len cap] 24) := ⟨_, rfl⟩
  have hb0 : Below w.heap.size w W := by rw [hW]; exact (Below.refl _ _).alloc (Nat.le_refl _) _
  have hk0 : W.heap[w.heap.size]? = some (.cells #[.slice a len cap] 24 (0, 0)) := by rw [hW]; exact heap_alloc_new _ _
  have KB := Lib.hid fun v (hv : Below W.heap.size W v) => (show v.cell? ⟨w.heap.size, 0, none⟩ = some (.slice a len cap) from by
    have hq := (hv.block w.heap.size (lt_of_block hk0)).trans hk0
    simp [World.cell?, hq])
  have HI := Lib.hid (HI.out.keep hb0)
  have HB0 := Lib.hid hb0
  clear hb0 hk0
  obtain ⟨z, hzz⟩ : ∃ z, z = szR 1048576 len := ⟨_, rfl⟩
  have HZ := Lib.hid hzz
  clear hzz
  have SZ := Lib.hid (szpage a len cap 1048576 W (by omega) (by omega) hm)
  rw [← HZ.out] at SZ
  by_cases hz : z < 0
  · go_enter Try.func3, Try.ntmps3
    go_wp2_with fail
    rw [← hW]
    refine SZ.out.mono ?_
    rintro e w1 ⟨rfl, bz⟩
    have BZ := Lib.hid bz
    clear bz
    go_wp2_with fail
    go_ret
    exact ⟨rfl, HB0.out.trans (BZ.out.mono HB0.out.size)⟩
  have hle := (szR_le (by rw [← HZ.out]; exact hz)).1
  clear HZ
  have SP := Lib.hid fun (a1 : Option Addr) (c1 : Nat) (v : World) (h1 : SeqIn rowRep v a1 len X) => svalidpage a1 len c1 X v h1 (by omega)
  have IP := Lib.hid fun (a1 : Option Addr) (c1 : Nat) (v : World) (h1 : SeqIn rowRep v a1 len X) => ivalidpage a1 len c1 X v h1 (by omega)
  obtain ⟨Y, hY⟩ : ∃ Y, Y = R.pageOk X := ⟨_, rfl⟩
  rw [← hY] at SP IP
  clear hY
  have B0 := Lib.hid (Below.refl W.heap.size W)
  go_enter Try.func3, Try.ntmps3
  go_wp2_with fail
  rw [← hW]
  clear hW
  refine SZ.out.mono ?_
  rintro e w1 ⟨rfl, b1⟩
  have B1 := Lib.hid (B0.out.trans (b1.mono B0.out.size))
  clear b1
  have cb1 := KB.out _ B1.out
  go_wp2_with fail
  refine (topage a len cap X _ (HI.out.keep B1.out) (by omega)).mono ?_
  rintro e w2 ⟨g2, F2, rfl, m2, b2⟩
  have B2 := Lib.hid (B1.out.trans (b2.mono B1.out.size))
  have S_2 := Lib.hid m2
  clear b2 m2
  clear cb1
  have cb2 := KB.out _ B2.out
  go_wp2_with fail
  refine (SP.out _ _ _ S_2.out.inn).mono ?_
  rintro e w3 ⟨rfl, b3⟩
  have S_3 := Lib.hid (S_2.out.keep b3)
  have B3 := Lib.hid (B2.out.trans (b3.mono B2.out.size))
  clear b3
  clear cb2
  have cb3 := KB.out _ B3.out
  go_wp2_with fail
  refine (topage a len cap X _ (HI.out.keep B3.out) (by omega)).mono ?_
  rintro e w4 ⟨g4, F4, rfl, m4, b4⟩
  have B4 := Lib.hid (B3.out.trans (b4.mono B3.out.size))
  have X_4 := Lib.hid m4
  clear b4 m4
  obtain ⟨w5, hv5⟩ : ∃ v, v = w4.alloc (.cells #[.slice (some ⟨g4, 0, none⟩) len len] 29) := ⟨_, rfl⟩
  have b5 : Below w4.heap.size w4 w5 := by rw [hv5]; exact (Below.refl _ _).alloc (Nat.le_refl _) _
  have X_5 := Lib.hid (X_4.out.keep b5)
  have B5 := Lib.hid (B4.out.trans (b5.mono B4.out.size))
  have V_X_5 : Hid (w5.heap[w4.heap.size]? = some (.cells #[.slice (some ⟨g4, 0, none⟩) len len] 29 (0, 0))) := Lib.hid (by rw [hv5]; exact heap_alloc_new _ _)
  clear b5
  clear cb3
  have cb5 := KB.out _ B5.out
  go_wp2_with fail
  rw [← hv5]
  clear hv5
  refine (IP.out _ _ _ X_5.out.inn).mono ?_
  rintro e w6 ⟨rfl, b6⟩
  have X_6 := Lib.hid (X_5.out.keep b6)
  have V_X_6 := Lib.hid ((b6.block _ (lt_of_block V_X_5.out)).trans V_X_5.out)
  have B6 := Lib.hid (B5.out.trans (b6.mono B5.out.size))
  clear b6
  obtain ⟨gX, hgX⟩ : ∃ g, g = w4.heap.size := ⟨_, rfl⟩
  rw [← hgX] at V_X_6 ⊢
  clear hgX
  go_wp2_with fail
  have hcc : ∀ v', Below w6.heap.size w6 v' → v'.cell? ⟨w.heap.size, 0, none⟩ = some (.slice a len cap) ∧ v'.cell? ⟨gX, 0, none⟩ = some (.slice (some ⟨g4, 0, none⟩) len len) := fun v' hv => ⟨KB.out v' (B6.out.trans (hv.mono B6.out.size)), var_cell ((hv.block _ (lt_of_block V_X_6.out)).trans V_X_6.out)⟩
  have CP := Lib.hid fun v (hv : Below w6.heap.size w6 v) => (topage a len cap X v (HI.out.keep (B6.out.trans (hv.mono B6.out.size))) (by omega)).mono fun e v' (h : ∃ g F, e = .returned (.agg #[.slice (some ⟨g, 0, none⟩) len len]) ∧ SeqOwn rowRep v' v.heap.size (some ⟨g, 0, none⟩) len X F ∧ Below v.heap.size v v') => (show ∃ g, e = .returned (.agg #[.slice (some ⟨g, 0, none⟩) len len]) ∧ SeqIn rowRep v' (some ⟨g, 0, none⟩) len X ∧ Below w6.heap.size w6 v' ∧ v'.cell? ⟨w.heap.size, 0, none⟩ = some (.slice a len cap) ∧ v'.cell? ⟨gX, 0, none⟩ = some (.slice (some ⟨g4, 0, none⟩) len len) from by
    obtain ⟨g, F, he, hm, hb⟩ := h
    have hv' := hv.trans (hb.mono hv.size)
    exact ⟨g, he, hm.inn, hv', hcc v' hv'⟩)
  have CE := Lib.hid fun v g (hv : Below w6.heap.size w6 v) (hr : SeqIn rowRep v (some ⟨g, 0, none⟩) len X) => (eqpage (some ⟨g4, 0, none⟩) (some ⟨g, 0, none⟩) len len len len X X v (X_6.out.inn.keep hv) hr).mono fun e v' (h : e = .returned (.bool (decide (X = X))) ∧ Below v.heap.size v v') => (show e = .returned (.bool true) ∧ Below w6.heap.size w6 v' from ⟨by rw [h.1, decide_eq_true rfl], hv.trans (h.2.mono hv.size)⟩)
  go_cut [26] from 22 to 26 (fun s26 wx => s26 = .bool false ∧ Hid (Below w6.heap.size w6 wx))
  case first =>
    have hK : Below w6.heap.size w6 w6.drew := (Below.refl _ _).drew
    obtain ⟨c0, c1⟩ := hcc _ (Below.refl _ _)
    clear hcc
    go_region_with (first
      | (go_at_call 9; refine (CP.out _ (by assumption)).mono ?_; rintro e v ⟨g, rfl, hrr, hK, c0, c1⟩)
      | (go_at_call 11; refine (CE.out _ _ (by assumption) (by assumption)).mono ?_; rintro e v ⟨rfl, hK⟩))
    all_goals go_wp2_with fail
    all_goals go_meet
    all_goals exact ⟨rfl, by assumption⟩
  case rest =>
    obtain ⟨rfl, hB⟩ := hcut
    have B7 := Lib.hid (B6.out.trans (hB.out.mono B6.out.size))
    go_wp2_with fail
    go_ret
    exact ⟨rfl, HB0.out.trans (B7.out.mono HB0.out.size)⟩

/-! ### The row's step -/
theorem own : ownKnob Try.prog.godebug = none := by kernel_rfl
theorem laidOut : laidOutB Try.prog = true := by kernel_rfl
set_option maxRecDepth 100000 in
theorem lifted (os : Os) (started : os.Started) (H : Type) (enc : TypeId × Value → H) :
    ReturnsInHanded {} Try.checked os 3 .any (Rows.fnExactIsValidPageSpec.pre6 enc Try.prog Try.f3 Rows.fnExactIsValidPageRow.domain false) (Rows.fnExactIsValidPageSpec.post enc Try.prog Try.f3 false true false false) := by
  refine returnsInHanded_of_change (C := Try.checked) own started (by kernel_rfl) Try.func3
    (ChangeSpec.witness6 (enc := enc) (C := Try.checked) false ⟨#[], #[.agg #[.slice none 0 0]], []⟩ 8 (by kernel_rfl) (by kernel_rfl) (by kernel_rfl) (by kernel_rfl)) ?_
  intro W base args ds gs before hval0 hW hcnd hsz
  have hval : ∀ (j : Nat) t v, Try.f3.params[j]? = some t → args[j]? = some v → Value.okWide Try.prog W .any base t v := hval0
  have hW' := hW
  obtain ⟨p, q, hA0, hV, rfl, hfz, hnd⟩ := hW
  have hA : DataW.TrodAll enc Try.prog W 0 (fun _ => true) true Try.f3.params.toList args.toList ds p := hA0
  rw [Try.params3] at hA hval
  obtain ⟨v0, vs0, d0, ds0, p0, q0, hargs, rfl, rfl, h0, r0⟩ := trodAll_cons hA
  obtain ⟨rfl, rfl, rfl⟩ := trodAll_nil r0
  obtain rfl : args = #[v0] := by cases args; simp_all
  obtain ⟨rfl, rfl⟩ := trodVars_none hV
  have k0 := h0
  have lt0 : ∀ x ∈ p0, x.block < W.heap.size := by obtain ⟨m, hm⟩ := k0; exact DataW.trod_lt m _ _ _ hm
  obtain ⟨a0, len0, cap0, L0, rfl, w0⟩ := open_page (hval 0 24 v0 rfl rfl) h0
  clear hA0 hval0
  refine (walk a0 len0 cap0 L0 W w0).mono fun e W' ⟨he, bel⟩ => ?_
  subst he
  exact ⟨_, rfl, _, _, _, [], _, [], hW', trodAll_mk1 (shut_bool Try.underlying4 _), (trodAll_cons_mk (Below.trod laidOut (by kernel_rfl) (of_decide_eq_true (by kernel_rfl)) k0 bel lt0) trodAll_mk0), rfl, bel.frame _, fun h => by cases h⟩
theorem over : Rows.fnExactIsValidPageRow.holds Try.pinned (OpenSpec.ofChange Rows.fnExactIsValidPageSpec) :=
  OpenClaim.holds_of_wide 3 Try.f3 rfl rfl rfl rfl rfl rfl rfl ⟨rfl, rfl, rfl, rfl, rfl⟩ rfl rfl rfl rfl rfl (by kernel_rfl) Try.func3 (by kernel_rfl)
    (of_decide_eq_true (by kernel_rfl)) (by unfold Func.isWrapper; first | (rw [if_pos (by decide +kernel)]; kernel_rfl) | (rw [if_neg (by decide +kernel)]; exact ⟨rfl, rfl⟩))
    (fun os started H enc _ => lifted os started H enc)
/-- The statement. -/
theorem proved : Rows.FnExactIsValidPageSaid := over
#print axioms proved
end Go.Proofs.Ytoiobaiiammehaa.FnExactIsValidPage
