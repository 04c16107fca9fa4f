/- Rows: their marks; no function of program or reference is walked here. -/
import Derived.Test.YtcfemlnicpeagaaTRow
namespace Go.Proofs.Ytcfemlnicpeagaa
open Go.RowKit
set_option linter.unusedVariables false

theorem mkS_row (B n c : Nat) (a : Option Addr) (X : List R) (F : List Reg) (q : Int) (w : World) (h : SeqOwn rowRep w B a n X F) (hq0 : 0 ≤ q) (hq1 : q + 64 * (wtRows X : Int) ≤ 1000000000000) :
    Calls Try.prog 26 #[.slice a n c, .int .i64 q] w fun e w' => e = .returned (.int .i64 (q + (rowsMk.cnt X : Nat))) ∧ SeqOwn rowRep w' B a n (rowsMk.mark q X) F ∧ OnlyAt F w w' := by
  have hl := h.1
  have hx : wtRows X = X.length := rfl
  rw [hx] at hq1
  refine (markrows B n c a X F q w h (by omega) hq0 (by omega)).mono ?_
  rintro e w' ⟨rfl, h1, h2⟩
  refine ⟨?_, ?_, h2⟩
  · have : rowsMk.cnt X = 3 * n := by rw [← hl]; rfl
    rw [this]
    simp
  · have : rowsMk.mark q X = marked n q := by rw [← hl]; rfl
    rw [this]
    exact h1
theorem hdS_row (n c : Nat) (a : Option Addr) (X : List R) (q : Int) (w : World) (h : SeqIn rowRep w a n (rowsMk.mark q X)) (hq0 : 0 ≤ q) (hq1 : q + 64 * (wtRows X : Int) ≤ 1000000000000) :
    Calls Try.prog 27 #[.slice a n c, .int .i64 q] w fun e w' => e = .returned (.int .i64 (q + (rowsMk.cnt X : Nat))) ∧ w = w' := by
  have hl : X.length = n := by rw [← h.1]; exact (marked_length _ _).symm
  have hx : wtRows X = X.length := rfl
  rw [hx] at hq1
  have h' : SeqIn rowRep w a n (marked n q) := by rw [← hl] at h ⊢; exact h
  refine (heldrows a n c q w (rows_in h') (by omega) hq0 (by omega)).mono ?_
  rintro e w' ⟨rfl, h2⟩
  refine ⟨?_, h2⟩
  have : rowsMk.cnt X = 3 * n := by rw [← hl]; rfl
  rw [this]
  simp
end Go.Proofs.Ytcfemlnicpeagaa
