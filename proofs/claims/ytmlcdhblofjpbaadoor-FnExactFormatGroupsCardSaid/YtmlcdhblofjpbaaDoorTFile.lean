/- File: the datum, its shape, the laws' marks over it, its weight; no function of program or reference is walked here. -/
import Derived.Test.YtmlcdhblofjpbaaDoorTPage
namespace Go.Proofs.YtmlcdhblofjpbaaDoor
open Go.RowKit
set_option linter.unusedVariables false

structure FileD where
  fName : Int
  fPages : List (List R)
  fChecksum : Int
  fSealed : Bool
deriving DecidableEq
def fileRep : Rep FileD := viaRep (fun x => (x.fName, x.fPages, x.fChecksum, x.fSealed, ())) (intAnd (seqAnd pageRep (intAnd (boolAnd endRep))))
theorem fileRep_size : fileRep.size = 4 := rfl
def fileMk : Mk FileD := ⟨fun q x => ⟨q, pagesMk.mark (q + 1) x.fPages, q + 1 + (pagesMk.cnt x.fPages : Nat), ((q + 1 + (pagesMk.cnt x.fPages : Nat) + 1) % 3 == 0)⟩, fun x => 1 + pagesMk.cnt x.fPages + 1 + 1, fun q x => by simp [Mk.cnt_mark]⟩
def filesMk : Mk (List FileD) := seqMk fileMk
def wtFile (x : FileD) : Nat := wtPages x.fPages
def wtFiles (X : List FileD) : Nat := wtAll wtFile X
theorem cnt_file (x : FileD) : fileMk.cnt x ≤ 64 * (wtFile x + 1) := by
  have h1 := cnt_pages x.fPages
  show 1 + pagesMk.cnt x.fPages + 1 + 1 ≤ 64 * (wtPages x.fPages + 1)
  omega
theorem cnt_files (X : List FileD) : filesMk.cnt X ≤ 64 * wtFiles X := cntAll_le fileMk wtFile cnt_file X
theorem wt_file_at (X : List FileD) (t : Nat) (ht : t < X.length) : wtFile X[t] ≤ wtFiles X := wtAll_at wtFile X t ht
theorem wt_file_len (X : List FileD) : X.length ≤ wtFiles X := wtAll_len wtFile X
theorem fileInfo : (Tryd.prog.info? 102).map (fun i => (i.zero, i.size, i.bytes)) = some (some (.agg #[.int .i64 0, .slice none 0 0, .int .i64 0, .bool false]), 4, 48) := by kernel_rfl
end Go.Proofs.YtmlcdhblofjpbaaDoor
