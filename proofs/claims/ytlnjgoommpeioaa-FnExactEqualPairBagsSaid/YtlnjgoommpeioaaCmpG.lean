/- The program's CompareRows again: what it leaves of the world, as an equation (for the library's sort). -/
import Derived.Test.YtlnjgoommpeioaaCmpi
import Derived.Shelf.GgSortFunc.InsertionK
import Derived.Sort.Grow
namespace Go.Proofs.Ytlnjgoommpeioaa
open Go.RowKit Go.Sort

set_option maxRecDepth 100000 in
theorem icmpG (a b : R) (w : World) : Calls Try.prog 44 #[a.val, b.val] w fun e w' => e = .returned (.int .i64 (R.cmp a b)) ∧ ∃ q os', w' = grow (w.drewN q) os' := by
  have HA := Lib.hid (cmp_first a b)
  unfold R.val
  obtain ⟨x, hx⟩ : ∃ x, x = R.one a.key b.key := ⟨_, rfl⟩
  obtain ⟨y, hy⟩ : ∃ y, y = R.one a.value b.value := ⟨_, rfl⟩
  obtain ⟨z, hz⟩ : ∃ z, z = R.one a.width b.width := ⟨_, rfl⟩
  have C1 := Lib.hid (compare a.key b.key)
  have C2 := Lib.hid (compare a.value b.value)
  have C3 := Lib.hid (compare a.width b.width)
  rw [← hx] at C1 HA
  rw [← hy] at C2 HA
  rw [← hz] at C3 HA
  clear hx hy hz
  obtain ⟨W, hW, ⟨c0, c1, c2⟩, ⟨d0, d1, d2⟩, b2, hsz⟩ := box2 w a b 30 30
  simp only [Nat.zero_add] at c1 c2 d1 d2
  have HW := Lib.hid hW
  clear b2
  go_enter Try.func44, Try.ntmps44
  go_wp2_with fail
  rw [← hW]
  clear hW
  refine wp_region_still_tail 15 (by kernel_rfl) (by kernel_rfl) ?_
  simp only [List.take_succ_cons, List.take_zero, List.drop_succ_cons, List.drop_zero]
  repeat still_step
  still_call (C1.out _)
  repeat still_step
  still_call (C2.out _)
  repeat still_step
  still_call (C3.out _)
  repeat still_step
  refine wpStill_nil ?_
  go_wp2_with fail
  refine (cmpor _ 3 3 [x, y, z] _ rfl (by omega) ?cells).mono ?_
  case cells =>
    intro t ht
    match t, ht with
    | 0, _ => simp
    | 1, _ => simp
    | 2, _ => simp
  rintro e w1 ⟨rfl, rfl⟩
  go_wp2_with fail
  go_ret
  refine ⟨by rw [HA.out]; rfl, ?_⟩
  rw [HW.out]
  exact ⟨1, _, by simp only [alloc_eq_grow, grow_grow]; rfl⟩
end Go.Proofs.Ytlnjgoommpeioaa
