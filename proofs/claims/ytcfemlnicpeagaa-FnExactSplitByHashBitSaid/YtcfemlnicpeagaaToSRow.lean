/- Rows: a copy of a slice of them; no function of program or reference is walked here. -/
import Derived.Test.YtcfemlnicpeagaaTRow
import Derived.Test.YtcfemlnicpeagaaToRows
namespace Go.Proofs.Ytcfemlnicpeagaa
open Go.RowKit
set_option linter.unusedVariables false

theorem toS_row (a : Option Addr) (n c : Nat) (X : List R) (w : World) (h : SeqIn rowRep w a n X) (hw : wtRows X ≤ 1000000000) :
    Calls Try.prog 24 #[.slice a n c] w fun e w' => ∃ g F, e = .returned (.slice (some ⟨g, 0, none⟩) n n) ∧ SeqOwn rowRep w' w.heap.size (some ⟨g, 0, none⟩) n X F ∧ Below w.heap.size w w' :=
  ownrows a n c X w (rows_in h) (by have : X.length ≤ 1000000000 := hw; rw [h.1] at this; omega)
end Go.Proofs.Ytcfemlnicpeagaa
