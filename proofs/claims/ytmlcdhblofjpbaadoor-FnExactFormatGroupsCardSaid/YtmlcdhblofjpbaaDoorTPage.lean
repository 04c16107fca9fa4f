/- Page: the datum, its shape, the laws' marks over it, its weight; no function of program or reference is walked here. -/
import Derived.Test.YtmlcdhblofjpbaaDoorTRow
import Derived.Test.YtmlcdhblofjpbaaDoorPg
namespace Go.Proofs.YtmlcdhblofjpbaaDoor
open Go.RowKit
set_option linter.unusedVariables false

theorem pageRep_size : pageRep.size = 1 := rfl
def pageMk : Mk (List R) := ⟨fun q x => rowsMk.mark (q) x, fun x => rowsMk.cnt x, fun q x => by simp [Mk.cnt_mark]⟩
def pagesMk : Mk (List (List R)) := seqMk pageMk
def pageMkV : Mk (List R) := ⟨fun q x => rowsMk.mark (q) x, fun x => rowsMk.cnt x, fun q x => by simp [Mk.cnt_mark]⟩
def wtPage (x : List R) : Nat := wtRows x
def wtPages (X : List (List R)) : Nat := wtAll wtPage X
theorem cnt_page (x : List R) : pageMk.cnt x ≤ 64 * (wtPage x + 1) := by
  have h0 := cnt_rows x
  show rowsMk.cnt x ≤ 64 * (wtRows x + 1)
  omega
theorem cnt_pages (X : List (List R)) : pagesMk.cnt X ≤ 64 * wtPages X := cntAll_le pageMk wtPage cnt_page X
theorem wt_page_at (X : List (List R)) (t : Nat) (ht : t < X.length) : wtPage X[t] ≤ wtPages X := wtAll_at wtPage X t ht
theorem wt_page_len (X : List (List R)) : X.length ≤ wtPages X := wtAll_len wtPage X
end Go.Proofs.YtmlcdhblofjpbaaDoor
