/- Disk: the datum, its shape, the laws' marks over it, its weight; no function of program or reference is walked here. -/
import Derived.Test.YtmlcdhblofjpbaaDoorTFile
namespace Go.Proofs.YtmlcdhblofjpbaaDoor
open Go.RowKit
set_option linter.unusedVariables false

structure DiskD where
  fFiles : List FileD
  fNextName : Int
deriving DecidableEq
def diskRep : Rep DiskD := viaRep (fun x => (x.fFiles, x.fNextName, ())) (seqAnd fileRep (intAnd endRep))
theorem diskRep_size : diskRep.size = 2 := rfl
def diskMk : Mk DiskD := ⟨fun q x => ⟨filesMk.mark (q) x.fFiles, q + (filesMk.cnt x.fFiles : Nat)⟩, fun x => filesMk.cnt x.fFiles + 1, fun q x => by simp [Mk.cnt_mark]⟩
def disksMk : Mk (List DiskD) := seqMk diskMk
def diskMkV : Mk DiskD := ⟨fun q x => ⟨filesMk.mark (q) x.fFiles, x.fNextName⟩, fun x => filesMk.cnt x.fFiles, fun q x => by simp [Mk.cnt_mark]⟩
def wtDisk (x : DiskD) : Nat := wtFiles x.fFiles
def wtDisks (X : List DiskD) : Nat := wtAll wtDisk X
theorem cnt_disk (x : DiskD) : diskMk.cnt x ≤ 64 * (wtDisk x + 1) := by
  have h0 := cnt_files x.fFiles
  show filesMk.cnt x.fFiles + 1 ≤ 64 * (wtFiles x.fFiles + 1)
  omega
theorem cnt_disks (X : List DiskD) : disksMk.cnt X ≤ 64 * wtDisks X := cntAll_le diskMk wtDisk cnt_disk X
theorem wt_disk_at (X : List DiskD) (t : Nat) (ht : t < X.length) : wtDisk X[t] ≤ wtDisks X := wtAll_at wtDisk X t ht
theorem wt_disk_len (X : List DiskD) : X.length ≤ wtDisks X := wtAll_len wtDisk X
theorem diskInfo : (Tryd.prog.info? 55).map (fun i => (i.zero, i.size, i.bytes)) = some (some (.agg #[.slice none 0 0, .int .i64 0]), 2, 32) := by kernel_rfl
end Go.Proofs.YtmlcdhblofjpbaaDoor
