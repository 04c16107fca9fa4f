/- The laws' marks on rows of the call's own, and what they leave alone; the sizes that the laws reckon; no function of program or reference is walked here. -/
import Derived.Test.YtjdjceohlcimaaaMem
import Derived.Test.YtjdjceohlcimaaaOnly
import Derived.Test.YtjdjceohlcimaaaToRows
namespace Go.Proofs.Ytjdjceohlcimaaa
open Go.RowKit

theorem apart_symm {v v' : Value} (h : ∀ k, v.ownBlock = some k → v'.ownBlock ≠ some k) : ∀ k, v'.ownBlock = some k → v.ownBlock ≠ some k := fun k hk hk' => h k hk' hk
end Go.Proofs.Ytjdjceohlcimaaa
