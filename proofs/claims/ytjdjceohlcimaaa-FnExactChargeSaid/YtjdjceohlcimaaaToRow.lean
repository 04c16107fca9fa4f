/- The laws' copy of a row (toRow) and comparison (eqRow), by contract. -/
import Derived.Test.YtjdjceohlcimaaaMem
import Derived.Lib.SmallJoins
namespace Go.Proofs.Ytjdjceohlcimaaa
open Go.RowKit

end Go.Proofs.Ytjdjceohlcimaaa
