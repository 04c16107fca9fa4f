/- The laws' copy of a slice of rows (toRowS), by contract. -/
import Derived.Test.YtjdjceohlcimaaaToRow
namespace Go.Proofs.Ytjdjceohlcimaaa
open Go.RowKit

end Go.Proofs.Ytjdjceohlcimaaa
