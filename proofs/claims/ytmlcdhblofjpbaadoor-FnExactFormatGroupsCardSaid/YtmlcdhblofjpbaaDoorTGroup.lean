/- Group: the datum, its shape, the laws' marks over it, its weight; no function of program or reference is walked here. -/
import Derived.Test.YtmlcdhblofjpbaaDoorTBase
namespace Go.Proofs.YtmlcdhblofjpbaaDoor
open Go.RowKit
set_option linter.unusedVariables false

structure GroupD where
  fKey : Int
  fCount : Int
  fSum : Int
  fMin : Int
  fMax : Int
deriving DecidableEq
def groupRep : Rep GroupD := viaRep (fun x => (x.fKey, x.fCount, x.fSum, x.fMin, x.fMax, ())) (intAnd (intAnd (intAnd (intAnd (intAnd endRep)))))
theorem groupRep_size : groupRep.size = 5 := rfl
def groupMk : Mk GroupD := ⟨fun q x => ⟨q, q + 1, q + 1 + 1, q + 1 + 1 + 1, q + 1 + 1 + 1 + 1⟩, fun x => 1 + 1 + 1 + 1 + 1, fun q x => by first | rfl | simp [Mk.cnt_mark]⟩
def groupsMk : Mk (List GroupD) := seqMk groupMk
def wtGroup (_ : GroupD) : Nat := 0
def wtGroups (X : List GroupD) : Nat := wtAll wtGroup X
theorem cnt_group (x : GroupD) : groupMk.cnt x ≤ 64 * (wtGroup x + 1) := by
  show 1 + 1 + 1 + 1 + 1 ≤ 64 * (0 + 1)
  omega
theorem cnt_groups (X : List GroupD) : groupsMk.cnt X ≤ 64 * wtGroups X := cntAll_le groupMk wtGroup cnt_group X
theorem wt_group_at (X : List GroupD) (t : Nat) (ht : t < X.length) : wtGroup X[t] ≤ wtGroups X := wtAll_at wtGroup X t ht
theorem wt_group_len (X : List GroupD) : X.length ≤ wtGroups X := wtAll_len wtGroup X
theorem groupInfo : (Tryd.prog.info? 33).map (fun i => (i.zero, i.size, i.bytes)) = some (some (.agg #[.int .i64 0, .int .i64 0, .int .i64 0, .int .i64 0, .int .i64 0]), 5, 40) := by kernel_rfl
end Go.Proofs.YtmlcdhblofjpbaaDoor
