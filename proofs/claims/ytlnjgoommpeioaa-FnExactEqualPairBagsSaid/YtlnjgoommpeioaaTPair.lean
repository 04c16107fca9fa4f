/- Pair: the datum, its shape, the laws' marks over it, its weight; no function of program or reference is walked here. -/
import Derived.Test.YtlnjgoommpeioaaTBase
namespace Go.Proofs.Ytlnjgoommpeioaa
open Go.RowKit
set_option linter.unusedVariables false

structure PairD where
  fLeft : R
  fRight : R
  fMatched : Bool
deriving DecidableEq
def pairRep : Rep PairD := viaRep (fun x => (x.fLeft.key, x.fLeft.value, x.fLeft.width, x.fRight.key, x.fRight.value, x.fRight.width, x.fMatched, ())) (intAnd (intAnd (intAnd (intAnd (intAnd (intAnd (boolAnd endRep)))))))
theorem pairRep_size : pairRep.size = 7 := rfl
def pairMk : Mk PairD := ⟨fun q x => ⟨⟨q, q + 1, q + 1 + 1⟩, ⟨q + 1 + 1 + 1, q + 1 + 1 + 1 + 1, q + 1 + 1 + 1 + 1 + 1⟩, ((q + 1 + 1 + 1 + 1 + 1 + 1) % 3 == 0)⟩, fun x => 1 + 1 + 1 + 1 + 1 + 1 + 1, fun q x => by first | rfl | simp [Mk.cnt_mark]⟩
def pairsMk : Mk (List PairD) := seqMk pairMk
def wtPair (_ : PairD) : Nat := 0
def wtPairs (X : List PairD) : Nat := wtAll wtPair X
theorem cnt_pair (x : PairD) : pairMk.cnt x ≤ 64 * (wtPair x + 1) := by
  show 1 + 1 + 1 + 1 + 1 + 1 + 1 ≤ 64 * (0 + 1)
  omega
theorem cnt_pairs (X : List PairD) : pairsMk.cnt X ≤ 64 * wtPairs X := cntAll_le pairMk wtPair cnt_pair X
theorem wt_pair_at (X : List PairD) (t : Nat) (ht : t < X.length) : wtPair X[t] ≤ wtPairs X := wtAll_at wtPair X t ht
theorem wt_pair_len (X : List PairD) : X.length ≤ wtPairs X := wtAll_len wtPair X
theorem pairInfo : (Try.prog.info? 32).map (fun i => (i.zero, i.size, i.bytes)) = some (some (.agg #[.int .i64 0, .int .i64 0, .int .i64 0, .int .i64 0, .int .i64 0, .int .i64 0, .bool false]), 7, 56) := by kernel_rfl
end Go.Proofs.Ytlnjgoommpeioaa
