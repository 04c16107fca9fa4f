/- The reference's WouldOverflow, by contract. -/
import Derived.Test.YtoiobaiiammehaaPagesS
namespace Go.Proofs.Ytoiobaiiammehaa
open Go.RowKit

set_option maxRecDepth 100000 in
theorem soverflow (a : Option Addr) (n c : Nat) (p : List R) (r : R) (hr : r.wf) (w : World) (h : SeqIn rowRep w a n p) (hn : n ≤ 1000000000000) :
    Calls Try.prog 26 #[.agg #[.slice a n c], .agg #[.int .i64 r.key, .int .i64 r.value, .int .i64 r.width]] w fun e w' => e = .returned (.bool (decide (8 < total p + r.cost))) ∧ Below w.heap.size w w' := by
  obtain ⟨W, hW⟩ : ∃ W, W = (w.alloc (.cells #[.slice a n c] 29)).alloc (.cells #[.int .i64 r.key, .int .i64 r.value, .int .i64 r.width] 50) := ⟨_, rfl⟩
  have hs1 : (w.alloc (.cells #[.slice a n c] 29)).heap.size = w.heap.size + 1 := by simp
  have hs2 : W.heap.size = w.heap.size + 2 := by rw [hW]; simp
  have b0 : Below w.heap.size w W := by rw [hW]; exact ((Below.refl _ _).alloc (Nat.le_refl _) _).alloc (by simp) _
  have k0 : W.heap[w.heap.size]? = some (.cells #[.slice a n c] 29 (0, 0)) := by rw [hW]; exact (Below.heap_alloc _ _ _ (by simp)).trans (heap_alloc_new _ _)
  have k1 : W.heap[w.heap.size + 1]? = some (.cells #[.int .i64 r.key, .int .i64 r.value, .int .i64 r.width] 50 (0, 0)) := by rw [hW, ← hs1]; exact heap_alloc_new _ _
  have HI := Lib.hid (rows_in (h.keep b0))
  have B0 := Lib.hid b0
  have HK := Lib.hid fun v (hv : Below W.heap.size W v) => (show v.cell? ⟨w.heap.size, 0, none⟩ = some (.slice a n c) ∧ RowAt v (w.heap.size + 1) 0 r from by
    have q0 := (hv.block w.heap.size (by omega)).trans k0
    have q1 := (hv.block (w.heap.size + 1) (by omega)).trans k1
    exact ⟨by simp [World.cell?, q0], by simp [World.cell?, q1], by simp [World.cell?, q1], by simp [World.cell?, q1]⟩)
  have HT := total_range p
  have HCR := r.cost_range
  have hpl := h.1
  have C1 := Lib.hid fun v (hv : Below W.heap.size W v) => (stotal a n c p v (HI.out.keep hv) (by omega)).mono fun e v' (h : e = .returned (.int .i64 (total p)) ∧ Below v.heap.size v v') => (⟨h.1, hv.trans (h.2.mono hv.size)⟩ : e = .returned (.int .i64 (total p)) ∧ Below W.heap.size W v')
  have C2 := Lib.hid fun v (hv : Below W.heap.size W v) => (scost r hr v).mono fun e v' (h : e = .returned (.int .i64 r.cost) ∧ Below v.heap.size v v') => (⟨h.1, hv.trans (h.2.mono hv.size)⟩ : e = .returned (.int .i64 r.cost) ∧ Below W.heap.size W v')
  obtain ⟨T, hT⟩ : ∃ T, T = total p := ⟨_, rfl⟩
  obtain ⟨K, hK⟩ : ∃ K, K = r.cost := ⟨_, rfl⟩
  unfold R.val at C2
  rw [← hT] at C1 HT ⊢
  rw [← hK] at C2 HCR ⊢
  clear hT hK b0 k0 k1 h hs1 hs2
  go_enter Try.func26, Try.ntmps26
  go_wp2_with fail
  rw [← hW]
  clear hW
  refine region_class (Below W.heap.size W) (by kernel_rfl) (by kernel_rfl) (Below.refl _ _).drew ?_
  repeat (first | go_big_quiet_skip | (go_big_quiet_want; go_big_quiet_op; first | go_big_quiet_on | (apply Exists.intro; refine ⟨fun v hv => ?_, ?_⟩; (focus (first | exact rfl | ((first | (go_at_call 31; exact C1.out v hv) | (go_at_call 37; exact C2.out v hv)); done) | ((obtain ⟨d0, d1, d2, d3⟩ := HK.out v hv); go_simp; done) | ((obtain ⟨d0, d1, d2, d3⟩ := HK.out v hv); go_simp; exact rfl) | ((obtain ⟨d0, d1, d2, d3⟩ := HK.out v hv); go_simp; exact ⟨rfl, rfl⟩))); go_big_quiet_on)))
  refine wpQuiet_nil ?_
  intro v hv
  go_wp2_with fail
  go_ret
  exact ⟨rfl, B0.out.trans (hv.mono B0.out.size)⟩
end Go.Proofs.Ytoiobaiiammehaa
