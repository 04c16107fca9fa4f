/- Accounts as plain mathematics: valid ones, and what charges, releases and changes of the grant make of them; no function of program or reference is walked here. -/
import Derived.Test.YtjdjceohlcimaaaTAccount
import Derived.Test.YtjdjceohlcimaaaVMk
import Derived.Test.YtjdjceohlcimaaaMath
namespace Go.Proofs.Ytjdjceohlcimaaa
open Go.RowKit
set_option linter.unusedVariables false
namespace AccountD
def ok (a : AccountD) : Bool := decide (8 ≤ a.fGrant ∧ a.fGrant ≤ 60 ∧ 0 ≤ a.fUsed ∧ a.fUsed ≤ a.fPeak ∧ a.fPeak ≤ 60 ∧ 0 ≤ a.fOvercommits ∧ a.fOvercommits ≤ 1000)
def isGrant (g : Int) : Bool := decide (8 ≤ g ∧ g ≤ 60)
def new (g : Int) : AccountD := if isGrant g = true then ⟨0, g, 0, 0⟩ else ⟨0, 0, 0, 0⟩
def canCharge (a : AccountD) (n : Int) : Bool := decide (ok a = true ∧ 0 ≤ n ∧ n ≤ 60 ∧ a.fUsed + n ≤ a.fGrant)
def charge (a : AccountD) (n : Int) : AccountD := if canCharge a n = true then ⟨a.fUsed + n, a.fGrant, max a.fPeak (a.fUsed + n), a.fOvercommits⟩ else a
def canRelease (a : AccountD) (n : Int) : Bool := decide (ok a = true ∧ 0 ≤ n ∧ n ≤ a.fUsed)
def release (a : AccountD) (n : Int) : AccountD := if canRelease a n = true then ⟨a.fUsed - n, a.fGrant, a.fPeak, a.fOvercommits⟩ else a
def canSet (a : AccountD) (g : Int) : Bool := decide (ok a = true ∧ 8 ≤ g ∧ g ≤ 60 ∧ a.fOvercommits ≠ 1000)
def setGrant (a : AccountD) (g : Int) : AccountD := if canSet a g = true then ⟨a.fUsed, g, a.fPeak, if g < a.fUsed then a.fOvercommits + 1 else a.fOvercommits⟩ else a
def excess (a : AccountD) : Int := if ok a = true then max 0 (a.fUsed - a.fGrant) else 0
theorem ok_iff (a : AccountD) : ok a = true ↔ (8 ≤ a.fGrant ∧ a.fGrant ≤ 60 ∧ 0 ≤ a.fUsed ∧ a.fUsed ≤ a.fPeak ∧ a.fPeak ≤ 60 ∧ 0 ≤ a.fOvercommits ∧ a.fOvercommits ≤ 1000) := by unfold ok; exact decide_eq_true_iff
theorem new_yes {n : Int} (h : isGrant n = true) : new n = ⟨0, n, 0, 0⟩ := by unfold new; rw [if_pos h]
theorem new_no {n : Int} (h : isGrant n = false) : new n = ⟨0, 0, 0, 0⟩ := by unfold new; rw [if_neg (by rw [h]; decide)]
theorem charge_yes {a : AccountD} {n : Int} (h : canCharge a n = true) : charge a n = ⟨a.fUsed + n, a.fGrant, max a.fPeak (a.fUsed + n), a.fOvercommits⟩ := by unfold charge; rw [if_pos h]
theorem charge_no {a : AccountD} {n : Int} (h : canCharge a n = false) : charge a n = a := by unfold charge; rw [if_neg (by rw [h]; decide)]
theorem release_yes {a : AccountD} {n : Int} (h : canRelease a n = true) : release a n = ⟨a.fUsed - n, a.fGrant, a.fPeak, a.fOvercommits⟩ := by unfold release; rw [if_pos h]
theorem release_no {a : AccountD} {n : Int} (h : canRelease a n = false) : release a n = a := by unfold release; rw [if_neg (by rw [h]; decide)]
theorem setGrant_up {a : AccountD} {n : Int} (h : canSet a n = true) (hl : n < a.fUsed) : setGrant a n = ⟨a.fUsed, n, a.fPeak, a.fOvercommits + 1⟩ := by unfold setGrant; rw [if_pos h, if_pos hl]
theorem setGrant_keep {a : AccountD} {n : Int} (h : canSet a n = true) (hl : ¬ n < a.fUsed) : setGrant a n = ⟨a.fUsed, n, a.fPeak, a.fOvercommits⟩ := by unfold setGrant; rw [if_pos h, if_neg hl]
theorem setGrant_no {a : AccountD} {n : Int} (h : canSet a n = false) : setGrant a n = a := by unfold setGrant; rw [if_neg (by rw [h]; decide)]
theorem excess_yes {a : AccountD} (h : ok a = true) : excess a = max 0 (a.fUsed - a.fGrant) := by unfold excess; rw [if_pos h]
theorem excess_no {a : AccountD} (h : ok a = false) : excess a = 0 := by unfold excess; rw [if_neg (by rw [h]; decide)]
theorem canCharge_iff (a : AccountD) (n : Int) : canCharge a n = true ↔ (ok a = true ∧ 0 ≤ n ∧ n ≤ 60 ∧ a.fUsed + n ≤ a.fGrant) := by unfold canCharge; exact decide_eq_true_iff
theorem canRelease_iff (a : AccountD) (n : Int) : canRelease a n = true ↔ (ok a = true ∧ 0 ≤ n ∧ n ≤ a.fUsed) := by unfold canRelease; exact decide_eq_true_iff
theorem canSet_iff (a : AccountD) (n : Int) : canSet a n = true ↔ (ok a = true ∧ 8 ≤ n ∧ n ≤ 60 ∧ a.fOvercommits ≠ 1000) := by unfold canSet; exact decide_eq_true_iff
theorem isGrant_iff (n : Int) : isGrant n = true ↔ (8 ≤ n ∧ n ≤ 60) := by unfold isGrant; exact decide_eq_true_iff
end AccountD
end Go.Proofs.Ytjdjceohlcimaaa
