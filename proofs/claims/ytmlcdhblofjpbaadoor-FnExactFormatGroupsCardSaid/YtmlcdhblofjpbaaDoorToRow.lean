/- The laws' copy of a row (toRow) and comparison (eqRow), by contract. -/
import Derived.Test.YtmlcdhblofjpbaaDoorMem
import Derived.Lib.SmallJoins
namespace Go.Proofs.YtmlcdhblofjpbaaDoor
open Go.RowKit

theorem torow (r : R) (w : World) : Calls Tryd.prog 175 #[r.val] w fun e w' => e = .returned r.val ∧ Below w.heap.size w w' := by
  obtain ⟨k, v, d⟩ := r
  unfold R.val
  go_enter Tryd.func175, Tryd.ntmps175
  go_wp2_with fail
  refine bodyPost_ret (v := .agg #[.int .i64 k, .int .i64 v, .int .i64 d]) (by simp [results, Tryd.results175, go_sem]) rfl ⟨rfl, ?_⟩
  exact Joins.below_alloc3 _ _ _ _
theorem eqrow (a b : R) (w : World) : Calls Tryd.prog 176 #[a.val, b.val] w fun e w' => e = .returned (.bool (decide (a = b))) ∧ Below w.heap.size w w' := by
  obtain ⟨k, v, d⟩ := a
  obtain ⟨k', v', d'⟩ := b
  have e : decide (R.mk k v d = R.mk k' v' d') = decide (k = k' ∧ v = v' ∧ d = d') := by simp
  rw [e]
  unfold R.val
  go_enter Tryd.func176, Tryd.ntmps176
  go_wp2_with fail
  all_goals go_ret
  all_goals refine ⟨?_, Joins.below_alloc2 _ _ _⟩
  all_goals simp_all
end Go.Proofs.YtmlcdhblofjpbaaDoor
