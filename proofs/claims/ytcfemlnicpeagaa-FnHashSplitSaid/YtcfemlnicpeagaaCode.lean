/- The code that a law draws from, as the walks take it. -/
import Derived.Test.YtcfemlnicpeagaaNew
import Derived.Test.YtcfemlnicpeagaaPick
import Derived.Deep.RegionWith
namespace Go.Proofs.Ytcfemlnicpeagaa
open Go.RowKit

/-- The code that came in, as the walks take it. -/
structure Code (a : Option Addr) (len cap : Nat) (zs : List Int) (w : World) : Prop where
  row : IsRow .u8 w a len cap zs
  small : len ≤ 1048576
  old : ∀ x, a = some x → 0 < cap → x.block < w.heap.size
theorem Code.below {a : Option Addr} {len cap : Nat} {zs : List Int} {w w' : World} (h : Code a len cap zs w) (hb : Below w.heap.size w w') : Code a len cap zs w' :=
  ⟨h.row.keep fun x hx hp _ => hb.block x.block (h.old x hx hp), h.small, fun x hx hp => Nat.lt_of_lt_of_le (h.old x hx hp) hb.size⟩

theorem big_no (a : Option Addr) (len cap : Nat) (w : World) (h : len ≤ 1048576) : Calls Try.prog 8 #[.slice a len cap] w fun e w' => e = .returned (.bool false) ∧ w = w' := by
  have hd : decide ((1048576 : Int) < len) = false := by simp; omega
  go_enter Try.func8, Try.ntmps8
  go_wp2
  go_ret
  exact ⟨rfl, rfl⟩
theorem big_yes (a : Option Addr) (len cap : Nat) (w : World) (h : 1048576 < len) : Calls Try.prog 8 #[.slice a len cap] w fun e w' => e = .returned (.bool true) ∧ w = w' := by
  have hd : decide ((1048576 : Int) < len) = true := by simp; omega
  go_enter Try.func8, Try.ntmps8
  go_wp2
  go_ret
  exact ⟨rfl, rfl⟩
end Go.Proofs.Ytcfemlnicpeagaa
