/- Proved: for every page and row the law FnExactWouldOverflow returns true: the program's WouldOverflow answers as the reference's and leaves its argument alone (the law itself answers true above 2^20 rows). No condition. -/
import Derived.Test.YtoiobaiiammehaaRows
import Derived.Test.YtoiobaiiammehaaGives
import Derived.Test.YtoiobaiiammehaaOverS
import Derived.Test.YtoiobaiiammehaaPagesi
import Derived.Deep.CutRange
import Derived.Deep.RegionWith
import Derived.ProofKit
import Derived.OpenShut
import Derived.ShutString
import Derived.ChangeOld
namespace Go.Proofs.Ytoiobaiiammehaa.FnExactWouldOverflow
open Go.ChangeShapes Go.WideShapes Go.ChangeAt Go.RowKit
open Go.ChangeMaps (open_string shut_string)
set_option linter.unusedVariables false

set_option maxRecDepth 100000 in
set_option maxHeartbeats 2000000 in
theorem walk (a : Option Addr) (len cap : Nat) (X : List R) (w : World) (h : SeqIn rowRep w a len X) (r : R) (hr : r.wf) : Calls Try.prog 6 #[.agg #[.slice a len cap], r.val] w fun e w' => e = .returned (.bool true) ∧ Below w.heap.size w w' := by
  have hm := h.2.1
  unfold R.val
  obtain ⟨W, hW⟩ : ∃ W, W = (w.alloc (.cells #[.slice a len cap] 24)).alloc (.cells #[.int .i64 r.key, .int .i64 r.value, .int .i64 r.width] 48) := ⟨_, rfl⟩
  have hs1 : (w.alloc (.cells #[.slice a len cap] 24)).heap.size = w.heap.size + 1 := by simp
  have hb0 : Below w.heap.size w W := by rw [hW]; exact ((Below.refl _ _).alloc (Nat.le_refl _) _).alloc (by simp) _
  have hk0 : W.heap[w.heap.size]? = some (.cells #[.slice a len cap] 24 (0, 0)) := by rw [hW]; exact (Below.heap_alloc _ _ _ (by simp)).trans (heap_alloc_new _ _)
  have hk1 : W.heap[w.heap.size + 1]? = some (.cells #[.int .i64 r.key, .int .i64 r.value, .int .i64 r.width] 48 (0, 0)) := by rw [hW, ← hs1]; exact heap_alloc_new _ _
  have KB := Lib.hid fun v (hv : Below W.heap.size W v) => (show v.cell? ⟨w.heap.size, 0, none⟩ = some (.slice a len cap) ∧ v.cell? ⟨w.heap.size + 1, 0, none⟩ = some (.int .i64 r.key) ∧ v.cell? ⟨w.heap.size + 1, 1, none⟩ = some (.int .i64 r.value) ∧ v.cell? ⟨w.heap.size + 1, 2, none⟩ = some (.int .i64 r.width) from by
    have q0 := (hv.block w.heap.size (lt_of_block hk0)).trans hk0
    have q1 := (hv.block (w.heap.size + 1) (lt_of_block hk1)).trans hk1
    exact ⟨by simp [World.cell?, q0], by simp [World.cell?, q1], by simp [World.cell?, q1], by simp [World.cell?, q1]⟩)
  have HI := Lib.hid (h.keep hb0)
  have HB0 := Lib.hid hb0
  clear hb0 hk0 hk1 hs1 h
  obtain ⟨z, hzz⟩ : ∃ z, z = szR 1048576 len := ⟨_, rfl⟩
  have HZ := Lib.hid hzz
  clear hzz
  have SZ := Lib.hid (szpage a len cap 1048576 W (by omega) (by omega) hm)
  rw [← HZ.out] at SZ
  by_cases hz : z < 0
  · go_enter Try.func6, Try.ntmps6
    go_wp2_with fail
    rw [← hW]
    refine SZ.out.mono ?_
    rintro e w1 ⟨rfl, bz⟩
    have BZ := Lib.hid bz
    clear bz
    go_wp2_with fail
    go_ret
    exact ⟨rfl, HB0.out.trans (BZ.out.mono HB0.out.size)⟩
  have hle := (szR_le (by rw [← HZ.out]; exact hz)).1
  clear HZ
  obtain ⟨Y, hY⟩ : ∃ Y, Y = decide (8 < total X + r.cost) := ⟨_, rfl⟩
  have SP := Lib.hid fun (a1 : Option Addr) (c1 : Nat) (v : World) (h1 : SeqIn rowRep v a1 len X) => soverflow a1 len c1 X r hr v h1 (by omega)
  have IP := Lib.hid fun (a1 : Option Addr) (c1 : Nat) (v : World) (h1 : SeqIn rowRep v a1 len X) => ioverflow a1 len c1 X r hr v h1 (by omega)
  rw [← hY] at SP IP
  clear hY
  go_enter Try.func6, Try.ntmps6
  go_wp2_with fail
  rw [← hW]
  clear hW
  refine SZ.out.mono ?_
  rintro e w1 ⟨rfl, b1⟩
  have B1 := Lib.hid b1
  have cb1 := KB.out _ B1.out
  clear b1
  obtain ⟨e0, e1, e2, e3⟩ := cb1
  go_wp2_with fail
  -- the copy, the row, the reference's answer
  have C1 := Lib.hid fun v (hv : Below w1.heap.size w1 v) => (topage a len cap X v (HI.out.keep (B1.out.trans (hv.mono B1.out.size))) (by omega)).mono fun e v' (h : ∃ g F, e = .returned (.agg #[.slice (some ⟨g, 0, none⟩) len len]) ∧ SeqOwn rowRep v' v.heap.size (some ⟨g, 0, none⟩) len X F ∧ Below v.heap.size v v') => (show ∃ g, e = .returned (.agg #[.slice (some ⟨g, 0, none⟩) len len]) ∧ SeqIn rowRep v' (some ⟨g, 0, none⟩) len X ∧ Below w1.heap.size w1 v' ∧ v'.cell? ⟨w.heap.size, 0, none⟩ = some (.slice a len cap) ∧ v'.cell? ⟨w.heap.size + 1, 0, none⟩ = some (.int .i64 r.key) ∧ v'.cell? ⟨w.heap.size + 1, 1, none⟩ = some (.int .i64 r.value) ∧ v'.cell? ⟨w.heap.size + 1, 2, none⟩ = some (.int .i64 r.width) from by
    obtain ⟨g, F, he, hm, hb⟩ := h
    have hv' := hv.trans (hb.mono hv.size)
    exact ⟨g, he, hm.inn, hv', KB.out v' (B1.out.trans (hv'.mono B1.out.size))⟩)
  have C2 := Lib.hid fun v (hv : Below w1.heap.size w1 v) => (torow r v).mono fun e v' (h : e = .returned r.val ∧ Below v.heap.size v v') => (show e = .returned r.val ∧ Below v.heap.size v v' ∧ Below w1.heap.size w1 v' ∧ v'.cell? ⟨w.heap.size, 0, none⟩ = some (.slice a len cap) ∧ v'.cell? ⟨w.heap.size + 1, 0, none⟩ = some (.int .i64 r.key) ∧ v'.cell? ⟨w.heap.size + 1, 1, none⟩ = some (.int .i64 r.value) ∧ v'.cell? ⟨w.heap.size + 1, 2, none⟩ = some (.int .i64 r.width) from by
    have hv' := hv.trans (h.2.mono hv.size)
    exact ⟨h.1, h.2, hv', KB.out v' (B1.out.trans (hv'.mono B1.out.size))⟩)
  have C3 := Lib.hid fun v g (hv : Below w1.heap.size w1 v) (hrr : SeqIn rowRep v (some ⟨g, 0, none⟩) len X) => (SP.out (some ⟨g, 0, none⟩) len v hrr).mono fun e v' (h : e = .returned (.bool Y) ∧ Below v.heap.size v v') => (show e = .returned (.bool Y) ∧ Below w1.heap.size w1 v' from ⟨h.1, hv.trans (h.2.mono hv.size)⟩)
  unfold R.val at C2
  go_cut [6] from 14 to 18 (fun s6 wx => s6 = .bool Y ∧ Hid (Below w1.heap.size w1 wx))
  case first =>
    have hK : Below w1.heap.size w1 w1.drew := (Below.refl _ _).drew
    go_region_with (first
      | (go_at_call 9; refine (C1.out _ (by assumption)).mono ?_; rintro e v ⟨g, rfl, hrr, hK, e0, e1, e2, e3⟩)
      | (go_at_call 27; refine (C2.out _ (by assumption)).mono ?_; rintro e v ⟨rfl, hb2, hK, e0, e1, e2, e3⟩; first | (have hrr := SeqIn.keep hrr hb2) | skip)
      | (go_at_call 26; refine (C3.out _ _ (by assumption) (by assumption)).mono ?_; rintro e v ⟨rfl, hK⟩))
    all_goals go_wp2_with fail
    all_goals go_meet
    all_goals exact ⟨rfl, by assumption⟩
  case rest =>
    obtain ⟨rfl, hB⟩ := hcut
    have B2 := Lib.hid (B1.out.trans (hB.out.mono B1.out.size))
    clear C1 C2 C3 e0 e1 e2 e3
    obtain ⟨e0, e1, e2, e3⟩ := KB.out _ B2.out
    go_wp2_with fail
    refine (topage a len cap X _ (HI.out.keep B2.out) (by omega)).mono ?_
    rintro e w3 ⟨g3, F3, rfl, m3, b3⟩
    have B3 := Lib.hid (B2.out.trans (b3.mono B2.out.size))
    obtain ⟨w4, hv4⟩ : ∃ v, v = w3.alloc (.cells #[.slice (some ⟨g3, 0, none⟩) len len] 29) := ⟨_, rfl⟩
    have b4 : Below w3.heap.size w3 w4 := by rw [hv4]; exact (Below.refl _ _).alloc (Nat.le_refl _) _
    have V4 : Hid (w4.heap[w3.heap.size]? = some (.cells #[.slice (some ⟨g3, 0, none⟩) len len] 29 (0, 0))) := Lib.hid (by rw [hv4]; exact heap_alloc_new _ _)
    have X4 := Lib.hid (m3.keep b4).inn
    have B4 := Lib.hid (B3.out.trans (b4.mono B3.out.size))
    clear e0 e1 e2 e3 b3 m3 b4
    go_wp2_with fail
    rw [← hv4]
    clear hv4
    obtain ⟨gX, hgX⟩ : ∃ g, g = w3.heap.size := ⟨_, rfl⟩
    rw [← hgX] at V4 ⊢
    clear hgX
    have hcc : ∀ v', Below w4.heap.size w4 v' → v'.cell? ⟨w.heap.size, 0, none⟩ = some (.slice a len cap) ∧ v'.cell? ⟨w.heap.size + 1, 0, none⟩ = some (.int .i64 r.key) ∧ v'.cell? ⟨w.heap.size + 1, 1, none⟩ = some (.int .i64 r.value) ∧ v'.cell? ⟨w.heap.size + 1, 2, none⟩ = some (.int .i64 r.width) ∧ v'.cell? ⟨gX, 0, none⟩ = some (.slice (some ⟨g3, 0, none⟩) len len) := fun v' hv => by
      have hk := KB.out v' (B4.out.trans (hv.mono B4.out.size))
      exact ⟨hk.1, hk.2.1, hk.2.2.1, hk.2.2.2, var_cell ((hv.block _ (lt_of_block V4.out)).trans V4.out)⟩
    have CP := Lib.hid fun v (hv : Below w4.heap.size w4 v) => (topage a len cap X v (HI.out.keep (B4.out.trans (hv.mono B4.out.size))) (by omega)).mono fun e v' (h : ∃ g F, e = .returned (.agg #[.slice (some ⟨g, 0, none⟩) len len]) ∧ SeqOwn rowRep v' v.heap.size (some ⟨g, 0, none⟩) len X F ∧ Below v.heap.size v v') => (show ∃ g, e = .returned (.agg #[.slice (some ⟨g, 0, none⟩) len len]) ∧ SeqIn rowRep v' (some ⟨g, 0, none⟩) len X ∧ Below w4.heap.size w4 v' ∧ v'.cell? ⟨w.heap.size, 0, none⟩ = some (.slice a len cap) ∧ v'.cell? ⟨w.heap.size + 1, 0, none⟩ = some (.int .i64 r.key) ∧ v'.cell? ⟨w.heap.size + 1, 1, none⟩ = some (.int .i64 r.value) ∧ v'.cell? ⟨w.heap.size + 1, 2, none⟩ = some (.int .i64 r.width) ∧ v'.cell? ⟨gX, 0, none⟩ = some (.slice (some ⟨g3, 0, none⟩) len len) from by
      obtain ⟨g, F, he, hm, hb⟩ := h
      have hv' := hv.trans (hb.mono hv.size)
      exact ⟨g, he, hm.inn, hv', hcc v' hv'⟩)
    have CT := Lib.hid fun v (hv : Below w4.heap.size w4 v) => (torow r v).mono fun e v' (h : e = .returned r.val ∧ Below v.heap.size v v') => (show e = .returned r.val ∧ Below w4.heap.size w4 v' ∧ v'.cell? ⟨w.heap.size, 0, none⟩ = some (.slice a len cap) ∧ v'.cell? ⟨w.heap.size + 1, 0, none⟩ = some (.int .i64 r.key) ∧ v'.cell? ⟨w.heap.size + 1, 1, none⟩ = some (.int .i64 r.value) ∧ v'.cell? ⟨w.heap.size + 1, 2, none⟩ = some (.int .i64 r.width) ∧ v'.cell? ⟨gX, 0, none⟩ = some (.slice (some ⟨g3, 0, none⟩) len len) from by
      have hv' := hv.trans (h.2.mono hv.size)
      exact ⟨h.1, hv', hcc v' hv'⟩)
    have CI := Lib.hid fun v (hv : Below w4.heap.size w4 v) => (IP.out (some ⟨g3, 0, none⟩) len v (X4.out.keep hv)).mono fun e v' (h : e = .returned (.bool Y) ∧ Below v.heap.size v v') => (show e = .returned (.bool Y) ∧ Below w4.heap.size w4 v' from ⟨h.1, hv.trans (h.2.mono hv.size)⟩)
    have CE := Lib.hid fun v g (hv : Below w4.heap.size w4 v) (hr : SeqIn rowRep v (some ⟨g, 0, none⟩) len X) => (eqpage (some ⟨g3, 0, none⟩) (some ⟨g, 0, none⟩) len len len len X X v (X4.out.keep hv) hr).mono fun e v' (h : e = .returned (.bool (decide (X = X))) ∧ Below v.heap.size v v') => (show e = .returned (.bool true) ∧ Below w4.heap.size w4 v' from ⟨by rw [h.1, decide_eq_true rfl], hv.trans (h.2.mono hv.size)⟩)
    unfold R.val at CT
    go_cut [8] from 21 to 24 (fun s8 wx => s8 = .bool Y ∧ ∃ w5, w5 = wx ∧ Hid (Below w4.heap.size w4 w5))
    case first =>
      have hK : Below w4.heap.size w4 w4.drew := (Below.refl _ _).drew
      obtain ⟨e0, e1, e2, e3, e4⟩ := hcc _ (Below.refl _ _)
      clear hcc
      go_region_with (first
        | (go_at_call 27; refine (CT.out _ (by assumption)).mono ?_; rintro e v ⟨rfl, hK, e0, e1, e2, e3, e4⟩)
        | (go_at_call 28; refine (CI.out _ (by assumption)).mono ?_; rintro e v ⟨rfl, hK⟩))
      all_goals go_wp2_with fail
      all_goals go_meet
      all_goals exact ⟨rfl, _, rfl, by assumption⟩
    case rest =>
      obtain ⟨rfl, w5, hw5, hB5⟩ := hcut
      subst hw5
      clear hcc CP CT CI CE
      have B5 := Lib.hid (B4.out.trans (hB5.out.mono B4.out.size))
      have X5 := Lib.hid (X4.out.keep hB5.out)
      have V5 := Lib.hid ((hB5.out.block _ (lt_of_block V4.out)).trans V4.out)
      clear V4 X4 hB5
      have hcc : ∀ v', Below w5.heap.size w5 v' → v'.cell? ⟨w.heap.size, 0, none⟩ = some (.slice a len cap) ∧ v'.cell? ⟨gX, 0, none⟩ = some (.slice (some ⟨g3, 0, none⟩) len len) := fun v' hv => ⟨(KB.out v' (B5.out.trans (hv.mono B5.out.size))).1, var_cell ((hv.block _ (lt_of_block V5.out)).trans V5.out)⟩
      have CP := Lib.hid fun v (hv : Below w5.heap.size w5 v) => (topage a len cap X v (HI.out.keep (B5.out.trans (hv.mono B5.out.size))) (by omega)).mono fun e v' (h : ∃ g F, e = .returned (.agg #[.slice (some ⟨g, 0, none⟩) len len]) ∧ SeqOwn rowRep v' v.heap.size (some ⟨g, 0, none⟩) len X F ∧ Below v.heap.size v v') => (show ∃ g, e = .returned (.agg #[.slice (some ⟨g, 0, none⟩) len len]) ∧ SeqIn rowRep v' (some ⟨g, 0, none⟩) len X ∧ Below w5.heap.size w5 v' ∧ v'.cell? ⟨w.heap.size, 0, none⟩ = some (.slice a len cap) ∧ v'.cell? ⟨gX, 0, none⟩ = some (.slice (some ⟨g3, 0, none⟩) len len) from by
        obtain ⟨g, F, he, hm, hb⟩ := h
        have hv' := hv.trans (hb.mono hv.size)
        exact ⟨g, he, hm.inn, hv', hcc v' hv'⟩)
      have CE := Lib.hid fun v g (hv : Below w5.heap.size w5 v) (hr : SeqIn rowRep v (some ⟨g, 0, none⟩) len X) => (eqpage (some ⟨g3, 0, none⟩) (some ⟨g, 0, none⟩) len len len len X X v (X5.out.keep hv) hr).mono fun e v' (h : e = .returned (.bool (decide (X = X))) ∧ Below v.heap.size v v') => (show e = .returned (.bool true) ∧ Below w5.heap.size w5 v' from ⟨by rw [h.1, decide_eq_true rfl], hv.trans (h.2.mono hv.size)⟩)
      go_wp2_with fail
      go_cut [32] from 28 to 32 (fun s32 wx => s32 = .bool false ∧ Hid (Below w5.heap.size w5 wx))
      case first =>
        have hK : Below w5.heap.size w5 w5.drew := (Below.refl _ _).drew
        obtain ⟨c0, c1⟩ := hcc _ (Below.refl _ _)
        clear hcc
        go_region_with (first
          | (go_at_call 9; refine (CP.out _ (by assumption)).mono ?_; rintro e v ⟨g, rfl, hrr, hK, c0, c1⟩)
          | (go_at_call 11; refine (CE.out _ _ (by assumption) (by assumption)).mono ?_; rintro e v ⟨rfl, hK⟩))
        all_goals go_wp2_with fail
        all_goals go_meet
        all_goals exact ⟨rfl, by assumption⟩
      case rest =>
        obtain ⟨rfl, hB6⟩ := hcut
        have B6 := Lib.hid (B5.out.trans (hB6.out.mono B5.out.size))
        go_wp2_with fail
        go_ret
        exact ⟨rfl, HB0.out.trans (B6.out.mono HB0.out.size)⟩

/-! ### The row's step -/
theorem own : ownKnob Try.prog.godebug = none := by kernel_rfl
theorem laidOut : laidOutB Try.prog = true := by kernel_rfl
set_option maxRecDepth 100000 in
theorem lifted (os : Os) (started : os.Started) (H : Type) (enc : TypeId × Value → H) :
    ReturnsInHanded {} Try.checked os 6 .any (Rows.fnExactWouldOverflowSpec.pre6 enc Try.prog Try.f6 Rows.fnExactWouldOverflowRow.domain false) (Rows.fnExactWouldOverflowSpec.post enc Try.prog Try.f6 false true false false) := by
  refine returnsInHanded_of_change (C := Try.checked) own started (by kernel_rfl) Try.func6
    (ChangeSpec.witness6 (enc := enc) (C := Try.checked) false ⟨#[], #[.agg #[.slice none 0 0], .agg #[.int .i64 0, .int .i64 0, .int .i64 0]], []⟩ 8 (by kernel_rfl) (by kernel_rfl) (by kernel_rfl) (by kernel_rfl)) ?_
  intro W base args ds gs before hval0 hW hcnd hsz
  have hval : ∀ (j : Nat) t v, Try.f6.params[j]? = some t → args[j]? = some v → Value.okWide Try.prog W .any base t v := hval0
  have hW' := hW
  obtain ⟨p, q, hA0, hV, rfl, hfz, hnd⟩ := hW
  have hA : DataW.TrodAll enc Try.prog W 0 (fun _ => true) true Try.f6.params.toList args.toList ds p := hA0
  rw [Try.params6] at hA hval
  obtain ⟨v0, vs0, d0, ds0, p0, q0, hargs, rfl, rfl, h0, r0⟩ := trodAll_cons hA
  obtain ⟨v1, vs1, d1, ds1, p1, q1, rfl, rfl, rfl, h1, r1⟩ := trodAll_cons r0
  obtain ⟨rfl, rfl, rfl⟩ := trodAll_nil r1
  obtain rfl : args = #[v0, v1] := by cases args; simp_all
  obtain ⟨rfl, rfl⟩ := trodVars_none hV
  have k0 := h0
  have lt0 : ∀ x ∈ p0, x.block < W.heap.size := by obtain ⟨m, hm⟩ := k0; exact DataW.trod_lt m _ _ _ hm
  obtain ⟨a0, len0, cap0, L0, rfl, w0⟩ := open_page (hval 0 24 v0 rfl rfl) h0
  obtain ⟨x1, rfl, rfl, rfl, w1⟩ := open_row (hval 1 48 v1 rfl rfl) h1
  clear hA0 hval0
  refine (walk a0 len0 cap0 L0 W w0 x1 w1).mono fun e W' ⟨he, bel⟩ => ?_
  subst he
  exact ⟨_, rfl, _, _, _, [], _, [], hW', trodAll_mk1 (shut_bool Try.underlying4 _), (trodAll_cons_mk (Below.trod laidOut (by kernel_rfl) (of_decide_eq_true (by kernel_rfl)) k0 bel lt0) (trodAll_cons_mk (shut_row x1 w1) trodAll_mk0)), rfl, bel.frame _, fun h => by cases h⟩
theorem over : Rows.fnExactWouldOverflowRow.holds Try.pinned (OpenSpec.ofChange Rows.fnExactWouldOverflowSpec) :=
  OpenClaim.holds_of_wide 6 Try.f6 rfl rfl rfl rfl rfl rfl rfl ⟨rfl, rfl, rfl, rfl, rfl⟩ rfl rfl rfl rfl rfl (by kernel_rfl) Try.func6 (by kernel_rfl)
    (of_decide_eq_true (by kernel_rfl)) (by unfold Func.isWrapper; first | (rw [if_pos (by decide +kernel)]; kernel_rfl) | (rw [if_neg (by decide +kernel)]; exact ⟨rfl, rfl⟩))
    (fun os started H enc _ => lifted os started H enc)
/-- The statement. -/
theorem proved : Rows.FnExactWouldOverflowSaid := over
#print axioms proved
end Go.Proofs.Ytoiobaiiammehaa.FnExactWouldOverflow
