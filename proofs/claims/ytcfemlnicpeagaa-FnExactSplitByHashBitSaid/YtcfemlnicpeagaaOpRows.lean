/- Slices of rows among the arguments: from the reading to the mathematics; no function of program or reference is walked here. -/
import Derived.Test.YtcfemlnicpeagaaOpens
namespace Go.Proofs.Ytcfemlnicpeagaa
open Go Go.ChangeShapes Go.WideShapes Go.RowKit

set_option maxRecDepth 100000 in
theorem Opens.rows : Opens 39 (seqRep rowRep) := Opens.seq Try.underlying39 lawRowCells (by decide) Opens.row
end Go.Proofs.Ytcfemlnicpeagaa
