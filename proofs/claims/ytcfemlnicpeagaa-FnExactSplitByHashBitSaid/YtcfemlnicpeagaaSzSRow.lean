/- Rows: the size of a slice of them; no function of program or reference is walked here. -/
import Derived.Test.YtcfemlnicpeagaaTRow
namespace Go.Proofs.Ytcfemlnicpeagaa
open Go.RowKit
set_option linter.unusedVariables false

theorem szS_row (a : Option Addr) (n c : Nat) (X : List R) (left : Int) (w : World) (h : SeqIn rowRep w a n X) (p0 : 0 ≤ left) (p1 : left ≤ 1048576) :
    Calls Try.prog 23 #[.slice a n c, .int .i64 left] w fun e w' => e = .returned (.int .i64 (szR left (wtRows X))) ∧ Below w.heap.size w w' := by
  have e : wtRows X = n := h.1
  rw [e]
  exact (szrows a n c left w p0 p1 h.2.1).mono fun _ _ ⟨h1, h2⟩ => ⟨h1, by rw [← h2]; exact Below.refl _ _⟩
end Go.Proofs.Ytcfemlnicpeagaa
