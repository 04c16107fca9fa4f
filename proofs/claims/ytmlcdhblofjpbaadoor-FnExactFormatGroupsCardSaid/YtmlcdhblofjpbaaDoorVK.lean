/- States told by trees: contracts under the table that the library's variables hold. -/
import Derived.Test.YtmlcdhblofjpbaaDoorVJ
import Derived.Test.YtmlcdhblofjpbaaDoorTab
namespace Go.Proofs.YtmlcdhblofjpbaaDoor.V
open Go Go.RowKit
set_option linter.unusedVariables false
variable {P : Program} {E : Env} {N : Nat} {σ : VS} {o : Oper}
/-- The call answers so, wherever the table lies. -/
def VCD (P : Program) (f : FuncId) (ins : List (Bool × List T)) (tup : Bool) (rs : List (Bool × List T)) : Prop := ∀ (w : World), Tab w → ∀ (vs : List Value), ArgsIn (Env.of w) w ins vs → Calls P f vs.toArray w (Gives (Env.of w) tup rs)
theorem VC.door {f : FuncId} {ins rs : List (Bool × List T)} {tup : Bool} (h : VC P f ins tup rs) : VCD P f ins tup rs := fun w _ => h w
/-- The table lay at the call's beginning, and nothing was lent. -/
def Env.door (E : Env) : Prop := Tab E.w0 ∧ ∀ b, ¬ E.ln b
theorem Env.door.at {w : World} (h : E.door) (hs : Same E E.w0 w) : Tab w := h.1.stay ⟨hs.os, hs.tape, hs.output, hs.size, fun b hb => hs.block b ⟨hb, h.2 b⟩⟩
theorem VCD.enter {f : FuncId} {fn : Func} {c : Go.Code} {n : Nat} {ins rs : List (Bool × List T)} {tup : Bool} (hf : P.funcs[f]? = some fn) (hb : fn.body = some c) (hn : fn.ntmps = n) (hl : ins.length ≤ n)
    (h : ∀ E, E.plain 0 → E.door → SV E n (VS.init (ins.map fun p => V.flat p.1 (p.2.map argLeaf))) (c.wp P (bodyPost P fn (Gives E tup rs)))) : VCD P f ins tup rs := fun w hT vs hv => by
  refine calls_of_wp hf hb ?_
  obtain ⟨G, hG⟩ := init_rel (E := Env.of w) ⟨rfl, rfl⟩ (n := n) hv (by rw [hv.1]; exact hl)
  have := h (Env.of w) ⟨rfl, rfl⟩ ⟨hT, fun b hb => hb.elim⟩ _ _ G hG
  rw [hn]
  have e : (Env.of w).w0 = w := rfl
  rw [e] at this
  simpa using this
theorem ok_callD {d : Nat} {f : FuncId} {xs : List Operand} {ats : Array TypeId} {qs : List (Bool × List T)} {tup : Bool} {rs : List (Bool × List T)} {ls : List (Bool × List Leaf)} (hD : E.door) (hk : ansLs σ.nx rs = ls) (ho : o.op = .call { callee := .value (.func f), args := xs.toArray, argTypes := ats }) (hb : ∃ fn c, P.funcs[f]? = some fn ∧ fn.body = some c ∧ fn.name ≠ "runtime.NumGoroutine")
    (hc : VCD P f qs tup rs) (hx : σ.argss xs qs) (hd : o.dst = some d) (hdN : d < N) : OpMk P E N none σ o ((ansSs σ rs).put d ⟨tup, ls⟩) := ok_callW hk ho hb (fun w hs => hc w (hD.at hs)) hx hd hdN
/-- A call of plain values that answers a plain value and changes nothing. -/
theorem VCD.plain {f : FuncId} {ins : List (Bool × List Value)} {ag : Bool} {rs : List Value} (h1 : ∀ u ∈ rs, u.oneCell' = true) (h : ∀ w, Tab w → Calls P f (ins.map fun p => cval p.1 p.2).toArray w fun e w' => e = .returned (cval ag rs) ∧ Below w.heap.size w w') : VCD P f (ins.map fun p => (p.1, p.2.map T.lit)) false [(ag, rs.map T.lit)] := fun w hT =>
  VC.plainAt h1 (h w hT)
/-- A law's contract, as its last step takes it. -/
theorem VCD.law {f : FuncId} {ins : List (Bool × List T)} (h : VCD P f ins false [(false, [.lit (.bool true)])]) {w : World} (hT : Tab w) {vs : List Value} (hv : ArgsIn (Env.of w) w ins vs) : Calls P f vs.toArray w fun e w' => e = .returned (.bool true) ∧ Below w.heap.size w w' :=
  (h w hT vs hv).mono fun e w' hg => by
    obtain ⟨he, hs⟩ := Gives.lit hg
    exact ⟨he, ⟨hs.os, hs.tape, hs.output, hs.size, fun b hb => hs.block b ⟨hb, fun h => h.elim⟩⟩⟩
end Go.Proofs.YtmlcdhblofjpbaaDoor.V
