/- What a call answers: a slice in memory of its own; pages among the arguments; no function of program or reference is walked here. -/
import Derived.Test.YtoiobaiiammehaaPages
import Derived.Test.YtoiobaiiammehaaOwned
import Derived.Test.YtoiobaiiammehaaOpens
namespace Go.Proofs.Ytoiobaiiammehaa
open Go Go.ChangeShapes Go.WideShapes Go.RowKit

set_option maxRecDepth 100000 in
theorem Opens.rows : Opens 22 (seqRep rowRep) := Opens.seq Try.underlying22 lawRowCells (by decide) Opens.row
set_option maxRecDepth 100000 in
theorem Opens.page : Opens 24 pageRep := Opens.one Try.underlying24 (by kernel_rfl) (by kernel_rfl) (Opens.seq Try.underlying22 lawRowCells (by decide) Opens.row)
theorem lawPageCells : Try.prog.cellsOf 24 = 1 := by kernel_rfl
set_option maxRecDepth 100000 in
theorem Opens.pages : Opens 42 pagesRep := Opens.seq Try.underlying42 lawPageCells (by decide) Opens.page
set_option maxRecDepth 100000 in
theorem open_page {H : Type} {enc : TypeId × Value → H} {w : World} {spare : Nat → Bool} {held : Bool} {q : Reach} {b0 : Nat} {v : Value} {d : DataW H} {p : List MemPlace} (hv : Value.okWide Try.prog w q b0 24 v) (h : DataW.Trod enc Try.prog w 0 spare held 24 v d p) :
    ∃ (a : Option Addr) (n c : Nat) (L : List R), v = .agg #[.slice a n c] ∧ SeqIn rowRep w a n L := by
  obtain ⟨y, ⟨a, n, c⟩, e, hi⟩ := Opens.page.val Try.underlying24 lawPageCells hv h
  exact ⟨a, n, c, y, e, hi.1⟩
end Go.Proofs.Ytoiobaiiammehaa
