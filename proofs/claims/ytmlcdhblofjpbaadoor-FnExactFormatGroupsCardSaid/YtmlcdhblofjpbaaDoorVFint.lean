/- FormatInt: told by trees. -/
import Derived.Test.YtmlcdhblofjpbaaDoorVK
import Derived.Test.YtmlcdhblofjpbaaDoorVTr
import Derived.Test.YtmlcdhblofjpbaaDoorFmt
import Derived.Test.YtmlcdhblofjpbaaDoorTab
namespace Go.Proofs.YtmlcdhblofjpbaaDoor
open Go Go.RowKit V
set_option linter.unusedVariables false
theorem vfint_s (n : Int) (h : -9223372036854775808 ≤ n ∧ n ≤ 9223372036854775807) : VCD Tryd.prog 60 [(false, [.lit (.int .i64 n)])] false [(false, [.lit (.string ⟨(Lib.itoa n).toArray⟩)])] :=
  VCD.plain (ins := [(false, [.int .i64 n])]) (ag := false) (rs := [.string ⟨(Lib.itoa n).toArray⟩]) (fun u hu => by rw [List.mem_singleton.1 hu]; rfl) (fun w _ => sfmt n w h.1 h.2)
theorem vfint_i (n : Int) (h : -9223372036854775808 ≤ n ∧ n ≤ 9223372036854775807) : VCD Tryd.prog 98 [(false, [.lit (.int .i64 n)])] false [(false, [.lit (.string ⟨(Lib.itoa n).toArray⟩)])] :=
  VCD.plain (ins := [(false, [.int .i64 n])]) (ag := false) (rs := [.string ⟨(Lib.itoa n).toArray⟩]) (fun u hu => by rw [List.mem_singleton.1 hu]; rfl) (fun w hT => ifmt n w h.1 h.2 hT)
end Go.Proofs.YtmlcdhblofjpbaaDoor
