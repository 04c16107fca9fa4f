/- The program's IsValidPage and WouldOverflow, by contract. -/
import Derived.Test.YtoiobaiiammehaaPageRep
import Derived.Test.YtoiobaiiammehaaPageM
import Derived.Test.YtoiobaiiammehaaArei
import Derived.Test.YtoiobaiiammehaaClass
namespace Go.Proofs.Ytoiobaiiammehaa
open Go.RowKit

set_option maxRecDepth 100000 in
theorem ivalidpage (a : Option Addr) (n c : Nat) (p : List R) (w : World) (h : SeqIn rowRep w a n p) (hn : n ≤ 1000000000000) :
    Calls Try.prog 10 #[.agg #[.slice a n c]] w fun e w' => e = .returned (.bool (R.pageOk p)) ∧ Below w.heap.size w w' := by
  have b0 : Below w.heap.size w (w.alloc (.cells #[.slice a n c] 29)) := (Below.refl _ _).alloc (Nat.le_refl _) _
  have R0 := Lib.hid (rows_in (h.keep b0))
  have C0 := heap_alloc_new w (.cells #[.slice a n c] 29)
  have HC := Lib.hid C0
  have B0 := Lib.hid b0
  have hsz : w.heap.size < (w.alloc (.cells #[.slice a n c] 29)).heap.size := by simp
  have HV := Lib.hid (show R.pageOk p = (okRows p && decide (1 ≤ total p ∧ total p ≤ 8)) from rfl)
  clear b0 h C0
  go_enter Try.func10, Try.ntmps10
  go_wp2_with fail
  refine (itotal a n c p _ R0.out (by omega)).mono ?_
  rintro e w1 ⟨rfl, b1⟩
  have q1 := (b1.block _ hsz).trans HC.out
  have d1 : w1.cell? ⟨w.heap.size, 0, none⟩ = some (.slice a n c) := by simp [World.cell?, q1]
  have R1 := Lib.hid (R0.out.keep b1)
  have B1 := Lib.hid (B0.out.trans (b1.mono B0.out.size))
  clear b1 q1
  obtain ⟨T, hT⟩ : ∃ T, T = total p := ⟨_, rfl⟩
  rw [← hT] at HV ⊢
  clear hT
  go_wp2_with fail
  refine (iare a n c p _ R1.out (by omega)).mono ?_
  rintro e w2 ⟨rfl, b2⟩
  have B2 := Lib.hid (B1.out.trans (b2.mono B1.out.size))
  clear b2
  obtain ⟨z, hz⟩ : ∃ z, z = okRows p := ⟨_, rfl⟩
  rw [← hz] at HV ⊢
  clear hz
  cases z with
  | false =>
    have HF := Lib.hid (show R.pageOk p = false by rw [HV.out]; rfl)
    go_wp2_with fail
    go_ret
    exact ⟨by rw [HF.out]; rfl, B2.out⟩
  | true =>
    have HF := Lib.hid (show R.pageOk p = decide (1 ≤ T ∧ T ≤ 8) by rw [HV.out]; rfl)
    by_cases h1 : 1 ≤ T
    · by_cases h8 : T ≤ 8
      · have HZ := Lib.hid (show R.pageOk p = true by rw [HF.out]; exact decide_eq_true ⟨h1, h8⟩)
        go_wp2_with fail
        go_ret
        exact ⟨by rw [HZ.out]; rfl, B2.out⟩
      · have HZ := Lib.hid (show R.pageOk p = false by rw [HF.out]; exact decide_eq_false fun h => h8 h.2)
        have HD := Lib.hid (decide_eq_false h8)
        go_wp2_with fail
        go_ret
        exact ⟨by rw [HZ.out, ← HD.out]; rfl, B2.out⟩
    · have HZ := Lib.hid (show R.pageOk p = false by rw [HF.out]; exact decide_eq_false fun h => h1 h.1)
      go_wp2_with fail
      go_ret
      exact ⟨by rw [HZ.out]; rfl, B2.out⟩
set_option maxRecDepth 100000 in
theorem ioverflow (a : Option Addr) (n c : Nat) (p : List R) (r : R) (hr : r.wf) (w : World) (h : SeqIn rowRep w a n p) (hn : n ≤ 1000000000000) :
    Calls Try.prog 28 #[.agg #[.slice a n c], .agg #[.int .i64 r.key, .int .i64 r.value, .int .i64 r.width]] w fun e w' => e = .returned (.bool (decide (8 < total p + r.cost))) ∧ Below w.heap.size w w' := by
  obtain ⟨W, hW⟩ : ∃ W, W = (w.alloc (.cells #[.slice a n c] 29)).alloc (.cells #[.int .i64 r.key, .int .i64 r.value, .int .i64 r.width] 50) := ⟨_, rfl⟩
  have hs1 : (w.alloc (.cells #[.slice a n c] 29)).heap.size = w.heap.size + 1 := by simp
  have hs2 : W.heap.size = w.heap.size + 2 := by rw [hW]; simp
  have b0 : Below w.heap.size w W := by rw [hW]; exact ((Below.refl _ _).alloc (Nat.le_refl _) _).alloc (by simp) _
  have k0 : W.heap[w.heap.size]? = some (.cells #[.slice a n c] 29 (0, 0)) := by rw [hW]; exact (Below.heap_alloc _ _ _ (by simp)).trans (heap_alloc_new _ _)
  have k1 : W.heap[w.heap.size + 1]? = some (.cells #[.int .i64 r.key, .int .i64 r.value, .int .i64 r.width] 50 (0, 0)) := by rw [hW, ← hs1]; exact heap_alloc_new _ _
  have HI := Lib.hid (rows_in (h.keep b0))
  have B0 := Lib.hid b0
  have HK := Lib.hid fun v (hv : Below W.heap.size W v) => (show v.cell? ⟨w.heap.size, 0, none⟩ = some (.slice a n c) ∧ RowAt v (w.heap.size + 1) 0 r from by
    have q0 := (hv.block w.heap.size (by omega)).trans k0
    have q1 := (hv.block (w.heap.size + 1) (by omega)).trans k1
    exact ⟨by simp [World.cell?, q0], by simp [World.cell?, q1], by simp [World.cell?, q1], by simp [World.cell?, q1]⟩)
  have HT := total_range p
  have HCR := r.cost_range
  have hpl := h.1
  have C1 := Lib.hid fun v (hv : Below W.heap.size W v) => (itotal a n c p v (HI.out.keep hv) (by omega)).mono fun e v' (h : e = .returned (.int .i64 (total p)) ∧ Below v.heap.size v v') => (⟨h.1, hv.trans (h.2.mono hv.size)⟩ : e = .returned (.int .i64 (total p)) ∧ Below W.heap.size W v')
  have C2 := Lib.hid fun v (hv : Below W.heap.size W v) => (icost r hr v).mono fun e v' (h : e = .returned (.int .i64 r.cost) ∧ Below v.heap.size v v') => (⟨h.1, hv.trans (h.2.mono hv.size)⟩ : e = .returned (.int .i64 r.cost) ∧ Below W.heap.size W v')
  obtain ⟨T, hT⟩ : ∃ T, T = total p := ⟨_, rfl⟩
  obtain ⟨K, hK⟩ : ∃ K, K = r.cost := ⟨_, rfl⟩
  unfold R.val at C2
  rw [← hT] at C1 HT ⊢
  rw [← hK] at C2 HCR ⊢
  clear hT hK b0 k0 k1 h hs1 hs2
  go_enter Try.func28, Try.ntmps28
  go_wp2_with fail
  rw [← hW]
  clear hW
  refine region_class (Below W.heap.size W) (by kernel_rfl) (by kernel_rfl) (Below.refl _ _).drew ?_
  repeat (first | go_big_quiet_skip | (go_big_quiet_want; go_big_quiet_op; first | go_big_quiet_on | (apply Exists.intro; refine ⟨fun v hv => ?_, ?_⟩; (focus (first | exact rfl | ((first | (go_at_call 32; exact C1.out v hv) | (go_at_call 38; exact C2.out v hv)); done) | ((obtain ⟨d0, d1, d2, d3⟩ := HK.out v hv); go_simp; done) | ((obtain ⟨d0, d1, d2, d3⟩ := HK.out v hv); go_simp; exact rfl) | ((obtain ⟨d0, d1, d2, d3⟩ := HK.out v hv); go_simp; exact ⟨rfl, rfl⟩))); go_big_quiet_on)))
  refine wpQuiet_nil ?_
  intro v hv
  go_wp2_with fail
  go_ret
  exact ⟨rfl, B0.out.trans (hv.mono B0.out.size)⟩
end Go.Proofs.Ytoiobaiiammehaa
