/- The program's isUpTo, by contract. -/
import Derived.Test.YtcfemlnicpeagaaMem
namespace Go.Proofs.Ytcfemlnicpeagaa
open Go.RowKit

theorem iup (n b : Int) (w : World) : Calls Try.prog 31 #[.int .i64 n, .int .i64 b] w fun e w' => e = .returned (.bool (decide (0 ≤ n ∧ n ≤ b))) ∧ w = w' := by
  go_enter Try.func31, Try.ntmps31
  go_wp2
  all_goals go_ret
  all_goals simp_all
  all_goals omega
end Go.Proofs.Ytcfemlnicpeagaa
