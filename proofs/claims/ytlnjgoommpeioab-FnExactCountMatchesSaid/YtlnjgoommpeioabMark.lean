/- The laws' marks on rows of the call's own, and what they leave alone; the sizes that the laws reckon; no function of program or reference is walked here. -/
import Derived.Test.YtlnjgoommpeioabMem
import Derived.Test.YtlnjgoommpeioabOnly
import Derived.Test.YtlnjgoommpeioabToRows
namespace Go.Proofs.Ytlnjgoommpeioab
open Go.RowKit

theorem sz_ok (a : Option Addr) (len cap : Nat) (left : Int) (w : World) (h : (len : Int) ≤ left) (hl : left ≤ 1048576) : Calls Try.prog 4 #[.slice a len cap, .int .i64 left] w fun e w' => e = .returned (.int .i64 (left - len)) ∧ w = w' := by
  go_enter Try.func4, Try.ntmps4
  go_wp2_with fail
  go_ret
  exact ⟨rfl, rfl⟩
theorem sz_no (a : Option Addr) (len cap : Nat) (left : Int) (w : World) (h : left < len) (h' : len ≤ 9223372036854775807) (h0 : 0 ≤ left) : Calls Try.prog 4 #[.slice a len cap, .int .i64 left] w fun e w' => e = .returned (.int .i64 (-1)) ∧ w = w' := by
  go_enter Try.func4, Try.ntmps4
  go_wp2_with fail
  go_ret
  exact ⟨rfl, rfl⟩
/-- What lies below a bound is not what lies from it on. -/
theorem Mine.apart {w w' : World} {B B' s : Nat} {v v' : Value} {L L' : List R} (h : Mine w B v L) (h' : Mine w' B' v' L') (hs : w.heap.size ≤ s) (hB : s ≤ B') : ∀ k, v.ownBlock = some k → v'.ownBlock ≠ some k := fun k hk hk' => by
  have h1 := (World.ownsRow.lt h k hk).2
  have h2 := (World.ownsRow.lt h' k hk').1
  omega
theorem apart_symm {v v' : Value} (h : ∀ k, v.ownBlock = some k → v'.ownBlock ≠ some k) : ∀ k, v'.ownBlock = some k → v.ownBlock ≠ some k := fun k hk hk' => h k hk' hk
theorem copyrows (a : Option Addr) (len cap : Nat) (L : List R) (w : World) (h : IsRows w a len L) (hlen : len ≤ 1000000000000) :
    Calls Try.prog 7 #[.slice a len cap] w fun e w' => ∃ g, e = .returned (.slice (some ⟨g, 0, none⟩) len len) ∧ Mine w' w.heap.size (.slice (some ⟨g, 0, none⟩) len len) L ∧ Below w.heap.size w w' :=
  (torows a len cap L w h hlen).mono fun _ _ ⟨g, he, hg, hh, hb⟩ => ⟨g, he, mine_of_block hh hg h.1 (by unfold maxLen; omega), hb⟩
end Go.Proofs.Ytlnjgoommpeioab
