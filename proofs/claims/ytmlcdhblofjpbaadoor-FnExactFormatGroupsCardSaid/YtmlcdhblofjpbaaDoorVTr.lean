/- States told by trees: the trees of the types; no function of program or reference is walked here. -/
import Derived.Test.YtmlcdhblofjpbaaDoorVMk
import Derived.Test.YtmlcdhblofjpbaaDoorVJ
import Derived.Test.YtmlcdhblofjpbaaDoorTRow
import Derived.Test.YtmlcdhblofjpbaaDoorTGroup
import Derived.Test.YtmlcdhblofjpbaaDoorTPage
import Derived.Test.YtmlcdhblofjpbaaDoorTFile
import Derived.Test.YtmlcdhblofjpbaaDoorTDisk
namespace Go.Proofs.YtmlcdhblofjpbaaDoor
open Go Go.RowKit V
set_option linter.unusedVariables false
def tRow (x : R) : List T := [.lit (.int .i64 x.key), .lit (.int .i64 x.value), .lit (.int .i64 x.width)]
def uRow (x : R) : List T := [.lit (.int .i64 x.key), .lit (.int .i64 x.value), .lit (.int .i64 x.width)]
def zRow : List T := [.lit (.int .i64 0), .lit (.int .i64 0), .lit (.int .i64 0)]
theorem flat_impl_Row (X : List R) : Flat (X.map tRow) := flat_of (fun _ => rfl) X
theorem neq_impl_Row (x y : R) (ρ : Operand → Value) (a b : Operand) (o : Oper) (w : World) (ho : o.op = .binOp .neq 41 a b 41) (h1 : ρ a = .agg #[.int .i64 x.key, .int .i64 x.value, .int .i64 x.width]) (h2 : ρ b = .agg #[.int .i64 y.key, .int .i64 y.value, .int .i64 y.width]) : (execOp ρ o).run Tryd.prog w = .ok (.value (.bool (decide (x ≠ y)))) w := by
  obtain ⟨x0, x1, x2⟩ := x
  obtain ⟨y0, y1, y2⟩ := y
  simp only [execOp, ho, h1, h2]
  go_simp
  try simp only [ne_eq, R.mk.injEq]
  (repeat' split) <;> simp_all
theorem eql_impl_Row (x y : R) (ρ : Operand → Value) (a b : Operand) (o : Oper) (w : World) (ho : o.op = .binOp .eql 41 a b 41) (h1 : ρ a = .agg #[.int .i64 x.key, .int .i64 x.value, .int .i64 x.width]) (h2 : ρ b = .agg #[.int .i64 y.key, .int .i64 y.value, .int .i64 y.width]) : (execOp ρ o).run Tryd.prog w = .ok (.value (.bool (decide (x = y)))) w := by
  obtain ⟨x0, x1, x2⟩ := x
  obtain ⟨y0, y1, y2⟩ := y
  simp only [execOp, ho, h1, h2]
  go_simp
  try simp only [ne_eq, R.mk.injEq]
  (repeat' split) <;> simp_all
def tGroup (x : GroupD) : List T := [.lit (.int .i64 x.fKey), .lit (.int .i64 x.fCount), .lit (.int .i64 x.fSum), .lit (.int .i64 x.fMin), .lit (.int .i64 x.fMax)]
def uGroup (x : GroupD) : List T := [.lit (.int .i64 x.fKey), .lit (.int .i64 x.fCount), .lit (.int .i64 x.fSum), .lit (.int .i64 x.fMin), .lit (.int .i64 x.fMax)]
def zGroup : List T := [.lit (.int .i64 0), .lit (.int .i64 0), .lit (.int .i64 0), .lit (.int .i64 0), .lit (.int .i64 0)]
theorem flat_impl_Group (X : List GroupD) : Flat (X.map tGroup) := flat_of (fun _ => rfl) X
theorem neq_impl_Group (x y : GroupD) (ρ : Operand → Value) (a b : Operand) (o : Oper) (w : World) (ho : o.op = .binOp .neq 33 a b 33) (h1 : ρ a = .agg #[.int .i64 x.fKey, .int .i64 x.fCount, .int .i64 x.fSum, .int .i64 x.fMin, .int .i64 x.fMax]) (h2 : ρ b = .agg #[.int .i64 y.fKey, .int .i64 y.fCount, .int .i64 y.fSum, .int .i64 y.fMin, .int .i64 y.fMax]) : (execOp ρ o).run Tryd.prog w = .ok (.value (.bool (decide (x ≠ y)))) w := by
  obtain ⟨x_0, x_1, x_2, x_3, x_4⟩ := x
  obtain ⟨y_0, y_1, y_2, y_3, y_4⟩ := y
  simp only [execOp, ho, h1, h2]
  go_simp
  try simp only [ne_eq, GroupD.mk.injEq]
  (repeat' split) <;> simp_all
theorem eql_impl_Group (x y : GroupD) (ρ : Operand → Value) (a b : Operand) (o : Oper) (w : World) (ho : o.op = .binOp .eql 33 a b 33) (h1 : ρ a = .agg #[.int .i64 x.fKey, .int .i64 x.fCount, .int .i64 x.fSum, .int .i64 x.fMin, .int .i64 x.fMax]) (h2 : ρ b = .agg #[.int .i64 y.fKey, .int .i64 y.fCount, .int .i64 y.fSum, .int .i64 y.fMin, .int .i64 y.fMax]) : (execOp ρ o).run Tryd.prog w = .ok (.value (.bool (decide (x = y)))) w := by
  obtain ⟨x_0, x_1, x_2, x_3, x_4⟩ := x
  obtain ⟨y_0, y_1, y_2, y_3, y_4⟩ := y
  simp only [execOp, ho, h1, h2]
  go_simp
  try simp only [ne_eq, GroupD.mk.injEq]
  (repeat' split) <;> simp_all
def tPage (x : List R) : List T := [.seq 41 (x.map tRow)]
def uPage (x : List R) : List T := [.seq 202 (x.map uRow)]
def zPage : List T := [.seq 41 []]
def tFile (x : FileD) : List T := [.lit (.int .i64 x.fName), .seq 72 (x.fPages.map tPage), .lit (.int .i64 x.fChecksum), .lit (.bool x.fSealed)]
def uFile (x : FileD) : List T := [.lit (.int .i64 x.fName), .seq 181 (x.fPages.map uPage), .lit (.int .i64 x.fChecksum), .lit (.bool x.fSealed)]
def zFile : List T := [.lit (.int .i64 0), .seq 72 [], .lit (.int .i64 0), .lit (.bool false)]
def tDisk (x : DiskD) : List T := [.seq 102 (x.fFiles.map tFile), .lit (.int .i64 x.fNextName)]
def uDisk (x : DiskD) : List T := [.seq 141 (x.fFiles.map uFile), .lit (.int .i64 x.fNextName)]
def zDisk : List T := [.seq 102 [], .lit (.int .i64 0)]
theorem rows_all (X : List R) (q : Int) : (rowsMk.mark q X).map tRow = (mkAll rowMk q X).map tRow := congrArg _ (marked_eq X q)
end Go.Proofs.YtmlcdhblofjpbaaDoor
