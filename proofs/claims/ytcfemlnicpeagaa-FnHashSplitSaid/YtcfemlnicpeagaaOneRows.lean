/- One slice of rows, as a law's draw gives it. -/
import Derived.Test.YtcfemlnicpeagaaRowsDraw
import Derived.Test.YtcfemlnicpeagaaCode
namespace Go.Proofs.Ytcfemlnicpeagaa
open Go.RowKit

/-- One slice of rows: few, well formed. -/
def OneRows (w : World) (e : Ending) (w' : World) : Prop := ∃ (x : Option Addr) (n m : Nat) (L : List R), e = .returned (.slice x n m) ∧ n ≤ 1000 ∧ (∀ r ∈ L, r.wf) ∧ IsRows w' x n L ∧ Below w.heap.size w w'
theorem bent_few (zs : List Int) (len : Nat) (most : Int) (σ τ : Int × Int) (L : List R) (h0 : 0 ≤ most) (h1 : most ≤ 900) (hf : bentS zs len most σ = (L, τ)) : L.length ≤ 901 ∧ ∀ r ∈ L, r.wf := by
  have h2 := bentS_length zs len most σ h0
  have h3 := bentS_wf zs len most σ
  rw [hf] at h2 h3
  exact ⟨by simp only at h2; omega, h3⟩
end Go.Proofs.Ytcfemlnicpeagaa
