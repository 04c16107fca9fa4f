/- The laws' copy of a row (toRow) and comparison (eqRow), by contract. -/
import Derived.Test.YtmlcdhblofjpbaaMem
import Derived.Lib.SmallJoins
namespace Go.Proofs.Ytmlcdhblofjpbaa
open Go.RowKit

theorem torow (r : R) (w : World) : Calls Try.prog 18 #[r.val] w fun e w' => e = .returned r.val ∧ Below w.heap.size w w' := by
  obtain ⟨k, v, d⟩ := r
  unfold R.val
  go_enter Try.func18, Try.ntmps18
  go_wp2_with fail
  refine bodyPost_ret (v := .agg #[.int .i64 k, .int .i64 v, .int .i64 d]) (by simp [results, Try.results18, go_sem]) rfl ⟨rfl, ?_⟩
  exact Joins.below_alloc3 _ _ _ _
theorem eqrow (a b : R) (w : World) : Calls Try.prog 30 #[a.val, b.val] w fun e w' => e = .returned (.bool (decide (a = b))) ∧ Below w.heap.size w w' := by
  obtain ⟨k, v, d⟩ := a
  obtain ⟨k', v', d'⟩ := b
  have e : decide (R.mk k v d = R.mk k' v' d') = decide (k = k' ∧ v = v' ∧ d = d') := by simp
  rw [e]
  unfold R.val
  go_enter Try.func30, Try.ntmps30
  go_wp2_with fail
  all_goals go_ret
  all_goals refine ⟨?_, Joins.below_alloc2 _ _ _⟩
  all_goals simp_all
end Go.Proofs.Ytmlcdhblofjpbaa
