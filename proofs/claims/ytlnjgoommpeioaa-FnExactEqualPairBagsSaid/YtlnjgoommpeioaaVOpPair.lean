/- Pair among the arguments, told by trees; no function of program or reference is walked here. -/
import Derived.Test.YtlnjgoommpeioaaVOp
namespace Go.Proofs.Ytlnjgoommpeioaa
open Go Go.RowKit V
set_option linter.unusedVariables false
def okPair (x : PairD) : Prop := okRow x.fLeft ∧ okRow x.fRight ∧ True
set_option maxRecDepth 100000 in
theorem OpensT.pair : OpensT 44 7 uPair okPair := by
  intro H enc w spare held fuel cs x h hl
  obtain ⟨xs, m, -, -, -, hxl, hf⟩ := DataW.trod_struct Try.underlying44 h
  match cs, hl with
  | [c0, c1, c2, c3, c4, c5, c6], _ =>
    obtain ⟨z0, q0⟩ := field_at hf hxl 0 _ rfl 0 3 rfl (by kernel_rfl)
    have q0 : DataW.trod enc Try.prog w 0 spare held m 42 [c0, c1, c2] = some z0 := q0
    obtain ⟨y0, o0, -, g0⟩ := OpensT.row H enc w spare held m _ _ q0 rfl
    obtain ⟨z1, q1⟩ := field_at hf hxl 1 _ rfl 3 3 rfl (by kernel_rfl)
    have q1 : DataW.trod enc Try.prog w 0 spare held m 42 [c3, c4, c5] = some z1 := q1
    obtain ⟨y1, o1, -, g1⟩ := OpensT.row H enc w spare held m _ _ q1 rfl
    obtain ⟨z2, q2⟩ := field_at hf hxl 2 _ rfl 6 1 rfl (by kernel_rfl)
    have q2 : DataW.trod enc Try.prog w 0 spare held m 4 [c6] = some z2 := q2
    obtain ⟨y2, o2, -, g2⟩ := OpensT.bool H enc w spare held m _ _ q2 rfl
    refine ⟨⟨y0, y1, y2⟩, ⟨o0, o1, o2⟩, rfl, fun j t u h1 h2 => ?_⟩
    match j, h1, h2 with
    | 0, h1, h2 => cases h1; cases h2; exact g0 0 _ _ rfl rfl
    | 1, h1, h2 => cases h1; cases h2; exact g0 1 _ _ rfl rfl
    | 2, h1, h2 => cases h1; cases h2; exact g0 2 _ _ rfl rfl
    | 3, h1, h2 => cases h1; cases h2; exact g1 0 _ _ rfl rfl
    | 4, h1, h2 => cases h1; cases h2; exact g1 1 _ _ rfl rfl
    | 5, h1, h2 => cases h1; cases h2; exact g1 2 _ _ rfl rfl
    | 6, h1, h2 => cases h1; cases h2; exact g2 0 _ _ rfl rfl
set_option maxRecDepth 100000 in
theorem OpensT.pairs : OpensT 48 1 (fun X : List PairD => [.seq 44 (X.map uPair)]) (fun X => (∀ x ∈ X, okPair x) ∧ X.length ≤ maxLen) := OpensT.seq Try.underlying48 (by kernel_rfl) (by decide) (Sz.of (by kernel_rfl)) OpensT.pair
end Go.Proofs.Ytlnjgoommpeioaa
