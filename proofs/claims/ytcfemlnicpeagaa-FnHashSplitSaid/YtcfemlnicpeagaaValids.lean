/- The reference's IsValidRow and RowCost, by contract. -/
import Derived.Test.YtcfemlnicpeagaaMem
namespace Go.Proofs.Ytcfemlnicpeagaa
open Go.RowKit

theorem sin (n a b : Int) (w : World) : Calls Try.prog 32 #[.int .i64 n, .int .i64 a, .int .i64 b] w fun e w' => e = .returned (.bool (decide (a ≤ n ∧ n ≤ b))) ∧ w = w' := by
  go_enter Try.func32, Try.ntmps32
  go_wp2
  all_goals go_ret
  all_goals simp_all
  all_goals omega
theorem svalid (r : R) (w : World) : Calls Try.prog 34 #[r.val] w fun e w' => e = .returned (.bool r.ok) ∧ Below w.heap.size w w' := by
  obtain ⟨k, v, d⟩ := r
  unfold R.val
  go_enter Try.func34, Try.ntmps34
  go_wp2_with fail
  refine (sin _ _ _ _).mono ?_
  rintro e w1 ⟨rfl, rfl⟩
  go_wp2_with fail
  case isTrue =>
    refine (sin _ _ _ _).mono ?_
    rintro e w1 ⟨rfl, rfl⟩
    go_wp2_with fail
    case isTrue =>
      refine (sin _ _ _ _).mono ?_
      rintro e w1 ⟨rfl, rfl⟩
      go_wp2_with fail
      all_goals go_ret
      all_goals refine ⟨?_, (Below.refl _ _).alloc (Nat.le_refl _) _⟩
      all_goals simp_all [R.ok]
    all_goals go_ret
    all_goals refine ⟨?_, (Below.refl _ _).alloc (Nat.le_refl _) _⟩
    all_goals simp_all [R.ok]
    all_goals omega
  all_goals go_ret
  all_goals refine ⟨?_, (Below.refl _ _).alloc (Nat.le_refl _) _⟩
  all_goals simp_all [R.ok]
  all_goals omega
end Go.Proofs.Ytcfemlnicpeagaa
