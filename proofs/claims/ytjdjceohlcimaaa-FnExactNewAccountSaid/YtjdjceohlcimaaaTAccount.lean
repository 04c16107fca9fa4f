/- Account: the datum, its shape, the laws' marks over it, its weight; no function of program or reference is walked here. -/
import Derived.Test.YtjdjceohlcimaaaTBase
namespace Go.Proofs.Ytjdjceohlcimaaa
open Go.RowKit
set_option linter.unusedVariables false

structure AccountD where
  fUsed : Int
  fGrant : Int
  fPeak : Int
  fOvercommits : Int
deriving DecidableEq
def accountRep : Rep AccountD := viaRep (fun x => (x.fUsed, x.fGrant, x.fPeak, x.fOvercommits, ())) (intAnd (intAnd (intAnd (intAnd endRep))))
theorem accountRep_size : accountRep.size = 4 := rfl
def accountMk : Mk AccountD := ⟨fun q x => ⟨q, q + 1, q + 1 + 1, q + 1 + 1 + 1⟩, fun x => 1 + 1 + 1 + 1, fun q x => by first | rfl | simp [Mk.cnt_mark]⟩
def accountsMk : Mk (List AccountD) := seqMk accountMk
def wtAccount (_ : AccountD) : Nat := 0
def wtAccounts (X : List AccountD) : Nat := wtAll wtAccount X
theorem cnt_account (x : AccountD) : accountMk.cnt x ≤ 64 * (wtAccount x + 1) := by
  show 1 + 1 + 1 + 1 ≤ 64 * (0 + 1)
  omega
theorem cnt_accounts (X : List AccountD) : accountsMk.cnt X ≤ 64 * wtAccounts X := cntAll_le accountMk wtAccount cnt_account X
theorem wt_account_at (X : List AccountD) (t : Nat) (ht : t < X.length) : wtAccount X[t] ≤ wtAccounts X := wtAll_at wtAccount X t ht
theorem wt_account_len (X : List AccountD) : X.length ≤ wtAccounts X := wtAll_len wtAccount X
theorem accountInfo : (Try.prog.info? 25).map (fun i => (i.zero, i.size, i.bytes)) = some (some (.agg #[.int .i64 0, .int .i64 0, .int .i64 0, .int .i64 0]), 4, 32) := by kernel_rfl
end Go.Proofs.Ytjdjceohlcimaaa
