/- CompareRows: told by trees. -/
import Derived.Test.YtlnjgoommpeioaaVTr
import Derived.Test.YtlnjgoommpeioaaVJ
import Derived.Test.YtlnjgoommpeioaaCmps
import Derived.Test.YtlnjgoommpeioaaCmpi
namespace Go.Proofs.Ytlnjgoommpeioaa
open Go Go.RowKit V
set_option linter.unusedVariables false
theorem vcmp_s (a b : R) : VC Try.prog 42 [(true, tRow a), (true, tRow b)] false [(false, [.lit (.int .i64 (R.cmp a b))])] :=
  VC.plain (ins := [(true, [.int .i64 a.key, .int .i64 a.value, .int .i64 a.width]), (true, [.int .i64 b.key, .int .i64 b.value, .int .i64 b.width])]) (ag := false) (rs := [.int .i64 (R.cmp a b)]) (fun u hu => by rw [List.mem_singleton.1 hu]; rfl) fun w => scmp a b w
theorem vcmp_i (a b : R) : VC Try.prog 44 [(true, tRow a), (true, tRow b)] false [(false, [.lit (.int .i64 (R.cmp a b))])] :=
  VC.plain (ins := [(true, [.int .i64 a.key, .int .i64 a.value, .int .i64 a.width]), (true, [.int .i64 b.key, .int .i64 b.value, .int .i64 b.width])]) (ag := false) (rs := [.int .i64 (R.cmp a b)]) (fun u hu => by rw [List.mem_singleton.1 hu]; rfl) fun w => icmp a b w
end Go.Proofs.Ytlnjgoommpeioaa
