/- Rows: the laws' weight of a slice of them; no function of program or reference is walked here. -/
import Derived.Test.YtmlcdhblofjpbaaDoorTBase
namespace Go.Proofs.YtmlcdhblofjpbaaDoor
open Go.RowKit
set_option linter.unusedVariables false

def wtRows (X : List R) : Nat := X.length
theorem cnt_rows (X : List R) : rowsMk.cnt X ≤ 64 * wtRows X := by show 3 * X.length ≤ 64 * X.length; omega
theorem wt_row_len (X : List R) : X.length ≤ wtRows X := Nat.le_refl _
end Go.Proofs.YtmlcdhblofjpbaaDoor
