/- What a call answers: a slice in memory of its own; pages among the arguments; no function of program or reference is walked here. -/
import Derived.Test.YtoiobaiiammehaaDoorPages
import Derived.Test.YtoiobaiiammehaaDoorPg
import Derived.Test.YtoiobaiiammehaaDoorOpens
namespace Go.Proofs.YtoiobaiiammehaaDoor
open Go Go.ChangeShapes Go.WideShapes Go.RowKit

set_option maxRecDepth 100000 in
theorem Opens.rows : Opens 34 (seqRep rowRep) := Opens.seq Tryd.underlying34 lawRowCells (by decide) Opens.row
set_option maxRecDepth 100000 in
theorem Opens.page : Opens 36 pageRep := Opens.one Tryd.underlying36 (by kernel_rfl) (by kernel_rfl) (Opens.seq Tryd.underlying34 lawRowCells (by decide) Opens.row)
theorem lawPageCells : Tryd.prog.cellsOf 36 = 1 := by kernel_rfl
set_option maxRecDepth 100000 in
theorem Opens.pages : Opens 22 pagesRep := Opens.seq Tryd.underlying22 lawPageCells (by decide) Opens.page
set_option maxRecDepth 100000 in
theorem open_page {H : Type} {enc : TypeId × Value → H} {w : World} {spare : Nat → Bool} {held : Bool} {q : Reach} {b0 : Nat} {v : Value} {d : DataW H} {p : List MemPlace} (hv : Value.okWide Tryd.prog w q b0 36 v) (h : DataW.Trod enc Tryd.prog w 0 spare held 36 v d p) :
    ∃ (a : Option Addr) (n c : Nat) (L : List R), v = .agg #[.slice a n c] ∧ SeqIn rowRep w a n L := by
  obtain ⟨y, ⟨a, n, c⟩, e, hi⟩ := Opens.page.val Tryd.underlying36 lawPageCells hv h
  exact ⟨a, n, c, y, e, hi.1⟩
end Go.Proofs.YtoiobaiiammehaaDoor
