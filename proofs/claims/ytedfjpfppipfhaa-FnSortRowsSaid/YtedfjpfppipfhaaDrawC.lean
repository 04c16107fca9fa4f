/- DrawCompareRows: two rows. -/
import Derived.Test.YtedfjpfppipfhaaDraw3
namespace Go.Proofs.Ytedfjpfppipfhaa
open Go.RowKit

set_option maxRecDepth 100000 in
set_option maxHeartbeats 2000000 in
theorem draw_cmp (a : Option Addr) (len cap : Nat) (zs : List Int) (w : World) (h : Code a len cap zs w) :
    Calls Try.prog 14 #[.slice a len cap] w fun e w' => ∃ p q : R, e = .returned (.tuple #[.agg #[.int .i64 p.key, .int .i64 p.value, .int .i64 p.width], .agg #[.int .i64 q.key, .int .i64 q.value, .int .i64 q.width]]) ∧ Below w.heap.size w w' := by
  have hb0 : Below w.heap.size w ((w.alloc (.cells #[.int .i64 0, .int .i64 0, .int .i64 0] 28)).alloc (.cells #[.int .i64 0, .int .i64 0, .int .i64 0] 28)) := ((Below.refl _ _).alloc (Nat.le_refl _) _).alloc (by simp) _
  have hs1 : (w.alloc (.cells #[.int .i64 0, .int .i64 0, .int .i64 0] 28)).heap.size = w.heap.size + 1 := by simp
  have hs2 : ((w.alloc (.cells #[.int .i64 0, .int .i64 0, .int .i64 0] 28)).alloc (.cells #[.int .i64 0, .int .i64 0, .int .i64 0] 28)).heap.size = w.heap.size + 2 := by simp
  have R0 : Hid (Var3 ((w.alloc (.cells #[.int .i64 0, .int .i64 0, .int .i64 0] 28)).alloc (.cells #[.int .i64 0, .int .i64 0, .int .i64 0] 28)) w.heap.size R.zero) := (Var3.made w R.zero).alloc _
  have S0 := Lib.hid (Var3.made (w.alloc (.cells #[.int .i64 0, .int .i64 0, .int .i64 0] 28)) R.zero)
  rw [hs1] at S0
  have HC := Lib.hid (h.below (hb0.mono (Nat.le_refl _)))
  have HB := Lib.hid hb0
  have HZ := Lib.hid hs2
  clear h hb0 hs1 hs2
  go_enter Try.func14, Try.ntmps14
  go_wp2_with fail
  refine (new_any a len cap zs _ HC.out.row HC.out.small HC.out.old).mono ?_
  rintro e w1 ⟨c, rfl, hc1, hge, b1⟩
  have H1 := Lib.hid hc1
  have B1 := Lib.hid (HB.out.trans (b1.mono HB.out.size))
  have R1 := Lib.hid (R0.out.keep b1)
  have S1 := Lib.hid (S0.out.keep b1)
  have A1 := Lib.hid fun y hy hp => Nat.lt_of_lt_of_le (HC.out.old y hy hp) b1.size
  have hcw : w.heap.size + 1 < c := by have := HZ.out; omega
  have hc1l : c < w1.heap.size := hc1.lt
  clear hc1 b1 hge R0 S0
  go_wp2_with fail
  refine (row_any a len cap zs _ c _ H1.out A1.out 2 (by omega) (by omega)).mono ?_
  rintro e w2 ⟨r, τ2, -, rfl, hc2, ho2⟩
  have ba : Below w2.heap.size w2 (w2.alloc (.cells #[.int .i64 r.key, .int .i64 r.value, .int .i64 r.width] 28)) := (Below.refl _ _).alloc (Nat.le_refl _) _
  have hs3 : (w2.alloc (.cells #[.int .i64 r.key, .int .i64 r.value, .int .i64 r.width] 28)).heap.size = w2.heap.size + 1 := by simp
  have bb : Below w2.heap.size w2 ((w2.alloc (.cells #[.int .i64 r.key, .int .i64 r.value, .int .i64 r.width] 28)).alloc (.cells #[.int .i64 r.key, .int .i64 r.value, .int .i64 r.width] 28)) := ba.alloc (by simp) _
  have hc2l : c < w2.heap.size := Nat.lt_of_lt_of_le hc1l ho2.size
  have A2 := Lib.hid fun y hy hp => Nat.lt_of_lt_of_le (A1.out y hy hp) ho2.size
  have P3 := Lib.hid ((Var3.made w2 r).alloc (.cells #[.int .i64 r.key, .int .i64 r.value, .int .i64 r.width] 28))
  have Q3 := Lib.hid (Var3.made (w2.alloc (.cells #[.int .i64 r.key, .int .i64 r.value, .int .i64 r.width] 28)) r)
  rw [hs3] at Q3
  have R3 := Lib.hid ((R1.out.only ho2 (by omega)).keep bb)
  have S3 := Lib.hid ((S1.out.only ho2 (by omega)).keep bb)
  have H3 := Lib.hid (hc2.below bb hc2l A2.out)
  have B3 := Lib.hid ((B1.out.trans (ho2.below B1.out.size (by omega))).trans (bb.mono (Nat.le_trans B1.out.size ho2.size)))
  have A3 := Lib.hid fun y hy hp => Nat.lt_of_lt_of_le (A2.out y hy hp) bb.size
  clear hc2 ho2 ba hs3 bb R1 S1 H1 A1 B1
  go_wp2_with fail
  refine (below_any a len cap zs _ c _ H3.out 4 (by omega) (by omega)).mono ?_
  rintro e w5 ⟨q, τ5, hf5, rfl, hc5, ho5⟩
  obtain ⟨hq0, hq1⟩ := belowS_range (by omega) hf5
  have P5 := Lib.hid (P3.out.only ho5 (by omega))
  have Q5 := Lib.hid (Q3.out.only ho5 (by omega))
  have R5 := Lib.hid (R3.out.only ho5 (by omega))
  have S5 := Lib.hid (S3.out.only ho5 (by omega))
  have H5 := Lib.hid hc5
  have B5 := Lib.hid (B3.out.trans (ho5.below B3.out.size (by omega)))
  have A5 := Lib.hid fun y hy hp => Nat.lt_of_lt_of_le (A3.out y hy hp) ho5.size
  clear hf5 hc5 ho5 P3 Q3 R3 S3 H3 A3 B3
  obtain ⟨x, hx⟩ : ∃ x, x = w.heap.size := ⟨_, rfl⟩
  obtain ⟨g, hg⟩ : ∃ g, g = w2.heap.size := ⟨_, rfl⟩
  rw [← hg] at P5 Q5
  rw [← hx] at R5 S5
  have hxl : x + 1 < c := by omega
  have hcg : c < g := by omega
  have HX := Lib.hid hx
  have HG := Lib.hid hg
  rw [← hx, ← hg]
  clear hx hg
  have n1 : ¬ x = g := by omega
  have n2 : ¬ g = x := by omega
  have n3 : ¬ x = g + 1 := by omega
  have n4 : ¬ g + 1 = x := by omega
  have n5 : ¬ x + 1 = g := by omega
  have n6 : ¬ g = x + 1 := by omega
  rcases (by omega : q = 0 ∨ q = 1 ∨ q = 2 ∨ (q ≠ 0 ∧ q ≠ 1 ∧ q ≠ 2)) with rfl | rfl | rfl | ⟨hn0, hn1, hn2⟩
  · go_wp2_with fail
    refine (row_any a len cap zs _ c _ H5.out A5.out 2 (by omega) (by omega)).mono ?_
    rintro e w6 ⟨v, τ6, -, rfl, -, ho6⟩
    have P6 := Lib.hid (P5.out.only ho6 (by omega))
    have Q6 := Lib.hid (Q5.out.only ho6 (by omega))
    have R6 := Lib.hid (R5.out.only ho6 (by omega))
    have S6 := Lib.hid (S5.out.only ho6 (by omega))
    have B6 := Lib.hid (B5.out.trans (ho6.below B5.out.size (by omega)))
    clear ho6 P5 Q5 R5 S5
    obtain ⟨p0, p1, p2⟩ := P6.out.cells
    obtain ⟨q0, q1, q2⟩ := Q6.out.cells
    obtain ⟨e0, e1, e2⟩ := Q6.out.free
    obtain ⟨r0, r1, r2⟩ := R6.out.cells
    obtain ⟨f0, f1, f2⟩ := R6.out.free
    obtain ⟨s0, s1, s2⟩ := S6.out.cells
    obtain ⟨t0, t1, t2⟩ := S6.out.free
    go_wp2_with fail
    go_region_with fail
    all_goals go_wp2_with fail
    all_goals refine bodyPost_ret (v := .tuple #[.agg #[.int .i64 r.key, .int .i64 r.value, .int .i64 r.width], .agg #[.int .i64 (v.key), .int .i64 (v.value), .int .i64 (v.width)]]) (by simp [results, Try.results14, go_sem, *]) rfl ⟨r, ⟨v.key, v.value, v.width⟩, rfl, ?_⟩
    all_goals have hx := HX.out
    all_goals refine Below.drew ?_
    all_goals repeat (refine Below.setCell ?_ (by simp only []; omega) _)
    all_goals exact B6.out
  · skip
    obtain ⟨p0, p1, p2⟩ := P5.out.cells
    obtain ⟨q0, q1, q2⟩ := Q5.out.cells
    obtain ⟨e0, e1, e2⟩ := Q5.out.free
    obtain ⟨r0, r1, r2⟩ := R5.out.cells
    obtain ⟨f0, f1, f2⟩ := R5.out.free
    obtain ⟨s0, s1, s2⟩ := S5.out.cells
    obtain ⟨t0, t1, t2⟩ := S5.out.free
    go_wp2_with fail
    go_region_with fail
    all_goals go_wp2_with fail
    all_goals refine bodyPost_ret (v := .tuple #[.agg #[.int .i64 r.key, .int .i64 r.value, .int .i64 r.width], .agg #[.int .i64 (r.key), .int .i64 (wrap64 (r.value + 1)), .int .i64 (r.width)]]) (by simp [results, Try.results14, go_sem, *]) rfl ⟨r, ⟨r.key, wrap64 (r.value + 1), r.width⟩, rfl, ?_⟩
    all_goals have hx := HX.out
    all_goals refine Below.drew ?_
    all_goals repeat (refine Below.setCell ?_ (by simp only []; omega) _)
    all_goals exact B5.out
  · skip
    obtain ⟨p0, p1, p2⟩ := P5.out.cells
    obtain ⟨q0, q1, q2⟩ := Q5.out.cells
    obtain ⟨e0, e1, e2⟩ := Q5.out.free
    obtain ⟨r0, r1, r2⟩ := R5.out.cells
    obtain ⟨f0, f1, f2⟩ := R5.out.free
    obtain ⟨s0, s1, s2⟩ := S5.out.cells
    obtain ⟨t0, t1, t2⟩ := S5.out.free
    go_wp2_with fail
    go_region_with fail
    all_goals go_wp2_with fail
    all_goals refine bodyPost_ret (v := .tuple #[.agg #[.int .i64 r.key, .int .i64 r.value, .int .i64 r.width], .agg #[.int .i64 (r.key), .int .i64 (r.value), .int .i64 (wrap64 (3 - r.width))]]) (by simp [results, Try.results14, go_sem, *]) rfl ⟨r, ⟨r.key, r.value, wrap64 (3 - r.width)⟩, rfl, ?_⟩
    all_goals have hx := HX.out
    all_goals refine Below.drew ?_
    all_goals repeat (refine Below.setCell ?_ (by simp only []; omega) _)
    all_goals exact B5.out
  · skip
    obtain ⟨p0, p1, p2⟩ := P5.out.cells
    obtain ⟨q0, q1, q2⟩ := Q5.out.cells
    obtain ⟨e0, e1, e2⟩ := Q5.out.free
    obtain ⟨r0, r1, r2⟩ := R5.out.cells
    obtain ⟨f0, f1, f2⟩ := R5.out.free
    obtain ⟨s0, s1, s2⟩ := S5.out.cells
    obtain ⟨t0, t1, t2⟩ := S5.out.free
    go_wp2_with fail
    go_region_with fail
    all_goals go_wp2_with fail
    all_goals refine bodyPost_ret (v := .tuple #[.agg #[.int .i64 r.key, .int .i64 r.value, .int .i64 r.width], .agg #[.int .i64 (r.key), .int .i64 (r.value), .int .i64 (r.width)]]) (by simp [results, Try.results14, go_sem, *]) rfl ⟨r, ⟨r.key, r.value, r.width⟩, rfl, ?_⟩
    all_goals have hx := HX.out
    all_goals refine Below.drew ?_
    all_goals repeat (refine Below.setCell ?_ (by simp only []; omega) _)
    all_goals exact B5.out
end Go.Proofs.Ytedfjpfppipfhaa
