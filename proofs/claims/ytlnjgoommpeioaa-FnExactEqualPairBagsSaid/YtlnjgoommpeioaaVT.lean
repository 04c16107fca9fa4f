/- States told by trees: how a walk goes. -/
import Derived.Test.YtlnjgoommpeioaaVE
namespace Go.Proofs.Ytlnjgoommpeioaa.V
open Go Go.RowKit
set_option linter.unusedVariables false

section
variable {P : Program} {E : Env} {N : Nat} {σ : VS} {Q : Exit → Act → World → Prop} {K : Act → World → Prop}
theorem SV.seq' {x y : Code} (h : SV E N σ (x.wp P (Exit.then (y.wp P Q) Q))) : SV E N σ ((Code.seq x y).wp P Q) := fun a w G hr => wp_seq (h a w G hr)
theorem SV.tn (h : SV E N σ K) : SV E N σ (Exit.then K Q .normal) := h
theorem SV.te {id : Nat} (h : SV E N σ (Q (.exit id))) : SV E N σ (Exit.then K Q (.exit id)) := h
theorem SV.tr {K : Act → World → Prop} (h : SV E N σ (Q .ret)) : SV E N σ (Exit.then K Q .ret) := h
theorem SV.bn {id : Nat} (h : SV E N σ (Q .normal)) : SV E N σ (Exit.inBlock id Q .normal) := h
theorem SV.br {id : Nat} (h : SV E N σ (Q .ret)) : SV E N σ (Exit.inBlock id Q .ret) := h
theorem SV.bh {id : Nat} (h : SV E N σ (Q .normal)) : SV E N σ (Exit.inBlock id Q (.exit id)) := fun a w G hr => by
  show if id = id then Q .normal a w else Q (.exit id) a w
  rw [if_pos rfl]
  exact h a w G hr
theorem SV.bm {id id' : Nat} (hne : Nat.beq id' id = false) (h : SV E N σ (Q (.exit id'))) : SV E N σ (Exit.inBlock id Q (.exit id')) := fun a w G hr => by
  show if id' = id then Q .normal a w else Q (.exit id') a w
  rw [if_neg fun e => by rw [e, Nat.beq_refl] at hne; cases hne]
  exact h a w G hr
end
end Go.Proofs.Ytlnjgoommpeioaa.V
