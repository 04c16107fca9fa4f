/- A region that draws its order, walked once in the order of its text, for a class of worlds of the prover's own: every operation yields one value in each world of the class and leaves a world of the class (the library's 'wp_region_quiet', met step by step); no function of the program. -/
import Derived.Deep.Quiet
import Derived.Deep.QuietTactic
import Derived.BigQuiet
import Derived.WalkKit
namespace Go.Proofs.YtpgckggmcehmpaaDoor
open Go Go.RowKit

theorem region_class {P : Program} {id : Nat} {Q : Exit → Act → World → Prop} {a : Act} {w : World} {l : List Oper} (C : World → Prop) (hm : P.follows .mixedOrders = true) (hB : Region.lexB .any l.toArray = true) (hC : C w.drew)
    (h : wpQuiet P l.toArray C (fun a' => ∀ w', C w' → Q .normal a' w') l a) : (Code.region id l.toArray true).wp P Q a w :=
  wp_region_quiet (C := C) hm hB hC (by simpa using h)
/-- One operation: 'facts' lays what a world v of the class (hv) holds, 'tac' meets a call. -/
macro "class_step " "(" facts:tactic ")" "(" tac:tactic ")" : tactic => `(tactic|
  first
    | go_big_quiet_skip
    | (go_big_quiet_want
       go_big_quiet_op
       first
         | go_big_quiet_on
         | (apply Exists.intro
            refine ⟨fun $(Lean.mkIdent `v) $(Lean.mkIdent `hv) => ?_, ?_⟩
            focus
              (first
                | exact rfl
                | ($tac:tactic; done)
                | ($facts:tactic; go_simp; done)
                | ($facts:tactic; go_simp; exact rfl)
                | ($facts:tactic; go_simp; exact ⟨rfl, rfl⟩))
            go_big_quiet_on)))
/-- At '(Code.region id ops true).wp P Q a w': behind it one goal, in a world v of the class (hv). -/
macro "go_class " C:term:max " from " hC:term:max " (" facts:tactic ")" " (" tac:tactic ")" : tactic => `(tactic|
  (refine region_class $C (by kernel_rfl) (by kernel_rfl) $hC ?_
   repeat (class_step ($facts:tactic) ($tac:tactic))
   refine wpQuiet_nil ?_
   intro $(Lean.mkIdent `v) $(Lean.mkIdent `hv)))
end Go.Proofs.YtpgckggmcehmpaaDoor
