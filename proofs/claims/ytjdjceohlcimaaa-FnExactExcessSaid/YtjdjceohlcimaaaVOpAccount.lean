/- Account among the arguments, told by trees; no function of program or reference is walked here. -/
import Derived.Test.YtjdjceohlcimaaaVOp
namespace Go.Proofs.Ytjdjceohlcimaaa
open Go Go.RowKit V
set_option linter.unusedVariables false
def okAccount (x : AccountD) : Prop := I64 x.fUsed ∧ I64 x.fGrant ∧ I64 x.fPeak ∧ I64 x.fOvercommits
set_option maxRecDepth 100000 in
theorem OpensT.account : OpensT 36 4 uAccount okAccount := by
  intro H enc w spare held fuel cs x h hl
  obtain ⟨xs, m, -, -, -, hxl, hf⟩ := DataW.trod_struct Try.underlying36 h
  match cs, hl with
  | [c0, c1, c2, c3], _ =>
    obtain ⟨z0, q0⟩ := field_at hf hxl 0 _ rfl 0 1 rfl (by kernel_rfl)
    have q0 : DataW.trod enc Try.prog w 0 spare held m 3 [c0] = some z0 := q0
    obtain ⟨y0, o0, -, g0⟩ := OpensT.int H enc w spare held m _ _ q0 rfl
    obtain ⟨z1, q1⟩ := field_at hf hxl 1 _ rfl 1 1 rfl (by kernel_rfl)
    have q1 : DataW.trod enc Try.prog w 0 spare held m 3 [c1] = some z1 := q1
    obtain ⟨y1, o1, -, g1⟩ := OpensT.int H enc w spare held m _ _ q1 rfl
    obtain ⟨z2, q2⟩ := field_at hf hxl 2 _ rfl 2 1 rfl (by kernel_rfl)
    have q2 : DataW.trod enc Try.prog w 0 spare held m 3 [c2] = some z2 := q2
    obtain ⟨y2, o2, -, g2⟩ := OpensT.int H enc w spare held m _ _ q2 rfl
    obtain ⟨z3, q3⟩ := field_at hf hxl 3 _ rfl 3 1 rfl (by kernel_rfl)
    have q3 : DataW.trod enc Try.prog w 0 spare held m 3 [c3] = some z3 := q3
    obtain ⟨y3, o3, -, g3⟩ := OpensT.int H enc w spare held m _ _ q3 rfl
    refine ⟨⟨y0, y1, y2, y3⟩, ⟨o0, o1, o2, o3⟩, rfl, fun j t u h1 h2 => ?_⟩
    match j, h1, h2 with
    | 0, h1, h2 => cases h1; cases h2; exact g0 0 _ _ rfl rfl
    | 1, h1, h2 => cases h1; cases h2; exact g1 0 _ _ rfl rfl
    | 2, h1, h2 => cases h1; cases h2; exact g2 0 _ _ rfl rfl
    | 3, h1, h2 => cases h1; cases h2; exact g3 0 _ _ rfl rfl
end Go.Proofs.Ytjdjceohlcimaaa
