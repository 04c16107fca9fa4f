/- The program's CompareRows and the library's cmp.Compare and cmp.Or at int, by contract. -/
import Derived.Test.YtlnjgoommpeioaaMem
import Derived.StillTailTactics
namespace Go.Proofs.Ytlnjgoommpeioaa
open Go.RowKit

theorem compare (x y : Int) (w : World) : Calls Try.prog 55 #[.int .i64 x, .int .i64 y] w fun e w' => e = .returned (.int .i64 (R.one x y)) ∧ w' = w := by
  unfold R.one
  go_enter Try.func55, Try.ntmps55
  go_wp2
  all_goals go_ret
  all_goals simp_all
/-- The first that is not 0. -/
def firstOf : List Int → Int
  | [] => 0
  | x :: l => if x = 0 then firstOf l else x
theorem firstOf_at : ∀ (L : List Int) (k : Nat), k < L.length → (∀ t, t < k → L.getD t 0 = 0) → L.getD k 0 ≠ 0 → firstOf L = L.getD k 0
  | x :: L, 0, _, _, h => by unfold firstOf; exact if_neg h
  | x :: L, k + 1, hk, hz, h => by
    have hx : x = 0 := hz 0 (by omega)
    unfold firstOf
    rw [if_pos hx]
    exact firstOf_at L k (by simpa using hk) (fun t ht => hz (t + 1) (by omega)) h
theorem firstOf_none : ∀ (L : List Int), (∀ t, t < L.length → L.getD t 0 = 0) → firstOf L = 0
  | [], _ => rfl
  | x :: L, h => by
    have hx : x = 0 := h 0 (by simp)
    unfold firstOf
    rw [if_pos hx]
    exact firstOf_none L fun t ht => h (t + 1) (by simpa using ht)
theorem cmpor (g len cap : Nat) (L : List Int) (w : World) (hl : L.length = len) (hlen : len ≤ 1000000000000) (hc : ∀ t, t < len → w.cell? ⟨g, t, none⟩ = some (.int .i64 (L.getD t 0))) :
    Calls Try.prog 43 #[.slice (some ⟨g, 0, none⟩) len cap] w fun e w' => e = .returned (.int .i64 (firstOf L)) ∧ w' = w := by
  have HL := Lib.hid hl
  have HC := Lib.hid hc
  clear hl hc
  go_enter Try.func43, Try.ntmps43
  go_wp2
  go_loop [8] (fun i => ∃ k : Nat, i = .int .i64 k ∧ k ≤ len ∧ Hid (∀ t, t < k → L.getD t 0 = 0)) (fun i => len - (intOf i).toNat)
  case atStart => exact ⟨0, rfl, Nat.zero_le _, fun t ht => absurd ht (Nat.not_lt_zero _)⟩
  case round =>
    obtain ⟨k, rfl, hk, hz⟩ := hrel
    by_cases hlt : k < len
    · have hck := HC.out k hlt
      obtain ⟨x, hx⟩ : ∃ x, x = L.getD k 0 := ⟨_, rfl⟩
      rw [← hx] at hck
      have HX := Lib.hid hx
      clear hx
      by_cases h0 : x = 0
      · subst h0
        go_wp2
        go_round
        case rel =>
          refine ⟨k + 1, by go_num, by omega, fun t ht => ?_⟩
          rcases Nat.lt_or_ge t k with h | h
          · exact hz.out t h
          · obtain rfl : t = k := by omega
            exact HX.out.symm
        case measure => simp [intOf]; omega
      · have ha : firstOf L = x := by rw [HX.out]; exact firstOf_at L k (by rw [HL.out]; exact hlt) hz.out (by rw [← HX.out]; exact h0)
        have HA := Lib.hid ha
        clear ha
        go_wp2
        go_ret
        exact ⟨by rw [HA.out]; rfl, rfl⟩
    · have hkl : k = len := by omega
      have ha : firstOf L = 0 := firstOf_none L (by rw [HL.out, ← hkl]; exact hz.out)
      have HA := Lib.hid ha
      clear ha hkl
      go_wp2
      go_ret
      exact ⟨by rw [HA.out]; rfl, rfl⟩
theorem cmp_first (a b : R) : R.cmp a b = firstOf [R.one a.key b.key, R.one a.value b.value, R.one a.width b.width] := by
  rw [R.cmp_or]
  simp only [firstOf]
  (repeat' split) <;> first | rfl | simp_all | omega
set_option maxRecDepth 100000 in
theorem icmp (a b : R) (w : World) : Calls Try.prog 44 #[a.val, b.val] w fun e w' => e = .returned (.int .i64 (R.cmp a b)) ∧ Below w.heap.size w w' := by
  have HA := Lib.hid (cmp_first a b)
  unfold R.val
  obtain ⟨x, hx⟩ : ∃ x, x = R.one a.key b.key := ⟨_, rfl⟩
  obtain ⟨y, hy⟩ : ∃ y, y = R.one a.value b.value := ⟨_, rfl⟩
  obtain ⟨z, hz⟩ : ∃ z, z = R.one a.width b.width := ⟨_, rfl⟩
  have C1 := Lib.hid (compare a.key b.key)
  have C2 := Lib.hid (compare a.value b.value)
  have C3 := Lib.hid (compare a.width b.width)
  rw [← hx] at C1 HA
  rw [← hy] at C2 HA
  rw [← hz] at C3 HA
  clear hx hy hz
  obtain ⟨W, hW, ⟨c0, c1, c2⟩, ⟨d0, d1, d2⟩, b2, hsz⟩ := box2 w a b 30 30
  simp only [Nat.zero_add] at c1 c2 d1 d2
  have B2 := Lib.hid b2
  clear b2
  go_enter Try.func44, Try.ntmps44
  go_wp2_with fail
  rw [← hW]
  clear hW
  refine wp_region_still_tail 15 (by kernel_rfl) (by kernel_rfl) ?_
  simp only [List.take_succ_cons, List.take_zero, List.drop_succ_cons, List.drop_zero]
  repeat still_step
  still_call (C1.out _)
  repeat still_step
  still_call (C2.out _)
  repeat still_step
  still_call (C3.out _)
  repeat still_step
  refine wpStill_nil ?_
  go_wp2_with fail
  refine (cmpor _ 3 3 [x, y, z] _ rfl (by omega) ?cells).mono ?_
  case cells =>
    intro t ht
    match t, ht with
    | 0, _ => simp
    | 1, _ => simp
    | 2, _ => simp
  rintro e w1 ⟨rfl, rfl⟩
  go_wp2_with fail
  go_ret
  exact ⟨by rw [HA.out]; rfl, (B2.out.alloc (by omega) _).drew⟩
end Go.Proofs.Ytlnjgoommpeioaa
