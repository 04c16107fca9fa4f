/- The reference's IsValidRow and RowCost, by contract. -/
import Derived.Test.YtoiobaiiammehaaDoorMem
namespace Go.Proofs.YtoiobaiiammehaaDoor
open Go.RowKit

theorem sin (n a b : Int) (w : World) : Calls Tryd.prog 43 #[.int .i64 n, .int .i64 a, .int .i64 b] w fun e w' => e = .returned (.bool (decide (a ≤ n ∧ n ≤ b))) ∧ w = w' := by
  go_enter Tryd.func43, Tryd.ntmps43
  go_wp2
  all_goals go_ret
  all_goals simp_all
  all_goals omega
theorem svalid (r : R) (w : World) : Calls Tryd.prog 45 #[r.val] w fun e w' => e = .returned (.bool r.ok) ∧ Below w.heap.size w w' := by
  obtain ⟨k, v, d⟩ := r
  unfold R.val
  go_enter Tryd.func45, Tryd.ntmps45
  go_wp2_with fail
  refine (sin _ _ _ _).mono ?_
  rintro e w1 ⟨rfl, rfl⟩
  go_wp2_with fail
  case isTrue =>
    refine (sin _ _ _ _).mono ?_
    rintro e w1 ⟨rfl, rfl⟩
    go_wp2_with fail
    case isTrue =>
      refine (sin _ _ _ _).mono ?_
      rintro e w1 ⟨rfl, rfl⟩
      go_wp2_with fail
      all_goals go_ret
      all_goals refine ⟨?_, (Below.refl _ _).alloc (Nat.le_refl _) _⟩
      all_goals simp_all [R.ok]
    all_goals go_ret
    all_goals refine ⟨?_, (Below.refl _ _).alloc (Nat.le_refl _) _⟩
    all_goals simp_all [R.ok]
    all_goals omega
  all_goals go_ret
  all_goals refine ⟨?_, (Below.refl _ _).alloc (Nat.le_refl _) _⟩
  all_goals simp_all [R.ok]
  all_goals omega
theorem scost (r : R) (hr : r.wf) (w : World) : Calls Tryd.prog 59 #[r.val] w fun e w' => e = .returned (.int .i64 r.cost) ∧ Below w.heap.size w w' := by
  have hw := hr.2.2
  have H := Lib.hid (svalid r)
  cases hok : r.ok with
  | true =>
    have hc : r.cost = 1 + r.width := by unfold R.cost; rw [hok]; rfl
    have hk := R.ok_iff.1 hok
    rw [hc]
    unfold R.val
    go_enter Tryd.func59, Tryd.ntmps59
    go_wp2_with fail
    refine (H.out _).mono ?_
    rintro e w1 ⟨rfl, b1⟩
    obtain ⟨⟨c0, c1, c2⟩, b2⟩ := box_row (r := r) b1
    rw [hok]
    simp only [Nat.zero_add] at c2
    go_wp2_with fail
    go_ret
    exact ⟨rfl, b2⟩
  | false =>
    have hc : r.cost = 0 := by unfold R.cost; rw [hok]; rfl
    rw [hc]
    unfold R.val
    go_enter Tryd.func59, Tryd.ntmps59
    go_wp2_with fail
    refine (H.out _).mono ?_
    rintro e w1 ⟨rfl, b1⟩
    obtain ⟨⟨c0, c1, c2⟩, b2⟩ := box_row (r := r) b1
    rw [hok]
    go_wp2_with fail
    go_ret
    exact ⟨rfl, b2⟩
end Go.Proofs.YtoiobaiiammehaaDoor
