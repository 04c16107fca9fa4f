/- Rows: the comparison of two slices of them; no function of program or reference is walked here. -/
import Derived.Test.YtcfemlnicpeagaaTRow
import Derived.Test.YtcfemlnicpeagaaEqRows
namespace Go.Proofs.Ytcfemlnicpeagaa
open Go.RowKit
set_option linter.unusedVariables false

theorem eqS_row (a a' : Option Addr) (n c n' c' : Nat) (X Y : List R) (w : World) (h : SeqIn rowRep w a n X) (h' : SeqIn rowRep w a' n' Y) :
    Calls Try.prog 25 #[.slice a n c, .slice a' n' c'] w fun e w' => e = .returned (.bool (decide (X = Y))) ∧ Below w.heap.size w w' :=
  eqrows a a' n c n' c' X Y w (rows_in h) (rows_in h') h.2.1 h'.2.1
end Go.Proofs.Ytcfemlnicpeagaa
