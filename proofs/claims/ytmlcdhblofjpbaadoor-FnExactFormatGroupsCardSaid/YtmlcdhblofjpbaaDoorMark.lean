/- The laws' marks on rows of the call's own, and what they leave alone; the sizes that the laws reckon; no function of program or reference is walked here. -/
import Derived.Test.YtmlcdhblofjpbaaDoorMem
import Derived.Test.YtmlcdhblofjpbaaDoorOnly
import Derived.Test.YtmlcdhblofjpbaaDoorToRows
namespace Go.Proofs.YtmlcdhblofjpbaaDoor
open Go.RowKit

set_option maxRecDepth 100000 in
theorem mark (B : Nat) (a : Option Addr) (len cap : Nat) (L : List R) (q : Int) (w : World) (h : Mine w B (.slice a len cap) L) (hlen : len ≤ 1000000000000) (hq0 : 0 ≤ q) (hq1 : q ≤ 10000000000000) :
    Calls Tryd.prog 138 #[.slice a len cap, .int .i64 q] w fun e w' => e = .returned (.int .i64 (q + 3 * len)) ∧ Mine w' B (.slice a len cap) (marked len q) ∧ w.grownBy w' (Value.slice a len cap).ownBlock := by
  have HL := Lib.hid h.len
  have HO := Lib.hid h
  clear h
  go_enter Tryd.func138, Tryd.ntmps138
  go_wp2_with fail
  go_loopw [1, 5] (fun x i wr => ∃ k : Nat, x = .int .i64 (q + 3 * k) ∧ i = .int .i64 k ∧ k ≤ len ∧ Hid (Mine wr B (.slice a len cap) (marked k q ++ L.drop k)) ∧ Hid (w.grownBy wr (Value.slice a len cap).ownBlock)) (fun _ i _ => len - (intOf i).toNat)
  case atStart => exact ⟨0, by go_num, rfl, Nat.zero_le _, (show Mine w B (.slice a len cap) (marked 0 q ++ L.drop 0) from HO.out), World.grownBy.refl _ _⟩
  case round =>
    obtain ⟨k, rfl, rfl, hk, hown, hb⟩ := hrel
    by_cases hlt : k < len
    · obtain ⟨g, rfl, hg, hgl, hat, hfz, hset⟩ := hown.out.at hlt
      obtain ⟨x, hx⟩ : ∃ x, x = (marked k q ++ L.drop k).getD k R.zero := ⟨_, rfl⟩
      rw [← hx] at hat
      obtain ⟨c0, c1, c2⟩ := hat
      have f0 := hfz (k * 3)
      have f1 := hfz (k * 3 + 1)
      have f2 := hfz (k * 3 + 2)
      have HS := Lib.hid (hset ⟨q + 3 * k, q + 3 * k + 1, q + 3 * k + 2⟩)
      rw [marked_set len k q L HL.out hlt] at HS
      have ho : Only g w wr := hb.out
      have HB := Lib.hid ho
      clear hset hx hfz ho
      go_wp2_with fail
      have e2 : q + 3 * (k : Int) + 1 + 1 = q + 3 * (k : Int) + 2 := by omega
      rw [e2]
      clear e2
      go_roundw
      case rel => exact ⟨k + 1, by go_num, by go_num, by omega, HS.out, ((HB.out.setCell _ _).setCell _ _).setCell _ _⟩
      case measure => simp [intOf]; omega
    · have hkl : k = len := by omega
      have hfin : Mine wr B (.slice a len cap) (marked len q) := by
        have := hown.out
        rw [hkl, List.drop_eq_nil_of_le (by rw [HL.out]; exact Nat.le_refl _), List.append_nil] at this
        exact this
      have HF := Lib.hid hfin
      have HK := Lib.hid hkl
      clear hfin hkl
      go_wp2_with fail
      go_ret
      exact ⟨by rw [← HK.out]; rfl, HF.out, hb.out⟩
set_option maxRecDepth 100000 in
theorem mine_held (B : Nat) (a : Option Addr) (len cap : Nat) (q : Int) (w : World) (h : Mine w B (.slice a len cap) (marked len q)) (hlen : len ≤ 1000000000000) (hq0 : 0 ≤ q) (hq1 : q ≤ 10000000000000) :
    Calls Tryd.prog 139 #[.slice a len cap, .int .i64 q] w fun e w' => e = .returned (.int .i64 (q + 3 * len)) ∧ w = w' := by
  have HO := Lib.hid h
  clear h
  go_enter Tryd.func139, Tryd.ntmps139
  go_wp2_with fail
  go_loop [1, 5] (fun x i => ∃ k : Nat, x = .int .i64 (q + 3 * k) ∧ i = .int .i64 k ∧ k ≤ len) (fun _ i => len - (intOf i).toNat)
  case atStart => exact ⟨0, by go_num, rfl, Nat.zero_le _⟩
  case round =>
    obtain ⟨k, rfl, rfl, hk⟩ := hrel
    by_cases hlt : k < len
    · obtain ⟨g, rfl, hg, hgl, ⟨c0, c1, c2⟩, hfz, -⟩ := HO.out.at hlt
      rw [marked_get len q k hlt] at c0 c1 c2
      simp only at c0 c1 c2
      rw [show q + 3 * (k : Int) + 2 = q + 3 * (k : Int) + 1 + 1 by omega] at c2
      clear hfz
      go_wp2_with fail
      go_round
      case rel => exact ⟨k + 1, by go_num, by go_num, by omega⟩
      case measure => simp [intOf]; omega
    · have hkl : k = len := by omega
      have HK := Lib.hid hkl
      clear hkl
      go_wp2_with fail
      go_ret
      exact ⟨by rw [← HK.out]; rfl, rfl⟩
theorem sz_ok (a : Option Addr) (len cap : Nat) (left : Int) (w : World) (h : (len : Int) ≤ left) (hl : left ≤ 1048576) : Calls Tryd.prog 167 #[.slice a len cap, .int .i64 left] w fun e w' => e = .returned (.int .i64 (left - len)) ∧ w = w' := by
  go_enter Tryd.func167, Tryd.ntmps167
  go_wp2_with fail
  go_ret
  exact ⟨rfl, rfl⟩
theorem sz_no (a : Option Addr) (len cap : Nat) (left : Int) (w : World) (h : left < len) (h' : len ≤ 9223372036854775807) (h0 : 0 ≤ left) : Calls Tryd.prog 167 #[.slice a len cap, .int .i64 left] w fun e w' => e = .returned (.int .i64 (-1)) ∧ w = w' := by
  go_enter Tryd.func167, Tryd.ntmps167
  go_wp2_with fail
  go_ret
  exact ⟨rfl, rfl⟩
/-- What lies below a bound is not what lies from it on. -/
theorem Mine.apart {w w' : World} {B B' s : Nat} {v v' : Value} {L L' : List R} (h : Mine w B v L) (h' : Mine w' B' v' L') (hs : w.heap.size ≤ s) (hB : s ≤ B') : ∀ k, v.ownBlock = some k → v'.ownBlock ≠ some k := fun k hk hk' => by
  have h1 := (World.ownsRow.lt h k hk).2
  have h2 := (World.ownsRow.lt h' k hk').1
  omega
theorem apart_symm {v v' : Value} (h : ∀ k, v.ownBlock = some k → v'.ownBlock ≠ some k) : ∀ k, v'.ownBlock = some k → v.ownBlock ≠ some k := fun k hk hk' => h k hk' hk
theorem copyrows (a : Option Addr) (len cap : Nat) (L : List R) (w : World) (h : IsRows w a len L) (hlen : len ≤ 1000000000000) :
    Calls Tryd.prog 168 #[.slice a len cap] w fun e w' => ∃ g, e = .returned (.slice (some ⟨g, 0, none⟩) len len) ∧ Mine w' w.heap.size (.slice (some ⟨g, 0, none⟩) len len) L ∧ Below w.heap.size w w' :=
  (torows a len cap L w h hlen).mono fun _ _ ⟨g, he, hg, hh, hb⟩ => ⟨g, he, mine_of_block hh hg h.1 (by unfold maxLen; omega), hb⟩
end Go.Proofs.YtmlcdhblofjpbaaDoor
