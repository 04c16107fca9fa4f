/- The reference's CompareRows, by contract. -/
import Derived.Test.YtlnjgoommpeioaaMem
import Derived.Deep.QuietTactic
import Derived.BigQuiet
namespace Go.Proofs.Ytlnjgoommpeioaa
open Go.RowKit

theorem IsRows.at2 {w : World} {a : Option Addr} {len : Nat} {L : List R} (h : IsRows w a len L) {t u : Nat} (ht : t < len) (hu : u < len) : ∃ b o : Nat, a = some ⟨b, o, none⟩ ∧ b < w.heap.size ∧ RowAt w b (o + t * 3) (L.getD t R.zero) ∧ RowAt w b (o + u * 3) (L.getD u R.zero) := by
  obtain ⟨-, -, h0 | ⟨b, o, e, hb, hc⟩⟩ := h
  · omega
  · exact ⟨b, o, e, hb, hc t ht, hc u hu⟩
theorem box4 (w : World) (a b : R) (s t : TypeId) : ∃ W, W = (((w.alloc (.cells #[.int .i64 a.key, .int .i64 a.value, .int .i64 a.width] s)).alloc (.cells #[.int .i64 b.key, .int .i64 b.value, .int .i64 b.width] s)).alloc
      (.cells #[.int .i64 a.key, .int .i64 a.value, .int .i64 a.width] t)).alloc (.cells #[.int .i64 b.key, .int .i64 b.value, .int .i64 b.width] t) ∧
    (∀ k, k < 3 → W.cell? ⟨w.heap.size + 1 + 1, k, none⟩ = some (.int .i64 (a.fld k))) ∧ (∀ k, k < 3 → W.cell? ⟨w.heap.size + 1 + 1 + 1, k, none⟩ = some (.int .i64 (b.fld k))) ∧ Below w.heap.size w W := by
  have hb : Below w.heap.size w ((w.alloc (.cells #[.int .i64 a.key, .int .i64 a.value, .int .i64 a.width] s)).alloc (.cells #[.int .i64 b.key, .int .i64 b.value, .int .i64 b.width] s)) := Joins.below_alloc2 _ _ _
  have hz : ((w.alloc (.cells #[.int .i64 a.key, .int .i64 a.value, .int .i64 a.width] s)).alloc (.cells #[.int .i64 b.key, .int .i64 b.value, .int .i64 b.width] s)).heap.size = w.heap.size + 1 + 1 := by simp
  generalize (w.alloc (.cells #[.int .i64 a.key, .int .i64 a.value, .int .i64 a.width] s)).alloc (.cells #[.int .i64 b.key, .int .i64 b.value, .int .i64 b.width] s) = V at hb hz ⊢
  rw [← hz]
  refine ⟨_, rfl, fun k hk => ?_, fun k hk => ?_, (hb.alloc hb.size _).alloc (by have := hb.size; simp; omega) _⟩
  · match k, hk with
    | 0, _ => simp [R.fld]
    | 1, _ => simp [R.fld]
    | 2, _ => simp [R.fld]
  · match k, hk with
    | 0, _ => simp [R.fld]
    | 1, _ => simp [R.fld]
    | 2, _ => simp [R.fld]
set_option maxRecDepth 100000 in
theorem scmp (a b : R) (w : World) : Calls Try.prog 42 #[a.val, b.val] w fun e w' => e = .returned (.int .i64 (R.cmp a b)) ∧ Below w.heap.size w w' := by
  unfold R.val
  obtain ⟨W, hW, hx, hy, b2⟩ := box4 w a b 30 3
  have HX := Lib.hid hx
  have HY := Lib.hid hy
  have B2 := Lib.hid b2
  have HW := Lib.hid hW
  clear b2 hx hy hW
  go_enter Try.func42, Try.ntmps42
  go_wp2_with fail
  rw [← HW.out]
  clear HW
  go_loopw [7] (fun i wr => ∃ k : Nat, i = .int .i64 k ∧ k ≤ 3 ∧ Hid (∀ t, t < k → a.fld t = b.fld t) ∧ Hid (∀ k, k < 3 → wr.cell? ⟨w.heap.size + 1 + 1, k, none⟩ = some (.int .i64 (a.fld k))) ∧ Hid (∀ k, k < 3 → wr.cell? ⟨w.heap.size + 1 + 1 + 1, k, none⟩ = some (.int .i64 (b.fld k))) ∧ Hid (Below w.heap.size w wr)) (fun i _ => 3 - (intOf i).toNat)
  case atStart => exact ⟨0, rfl, Nat.zero_le _, fun t ht => absurd ht (Nat.not_lt_zero _), HX, HY, B2⟩
  case round =>
    obtain ⟨k, rfl, hk, he, hx, hy, hb⟩ := hrel
    by_cases hlt : k < 3
    · have c := hx.out k hlt
      have d := hy.out k hlt
      obtain ⟨x, hxx⟩ : ∃ x, x = a.fld k := ⟨_, rfl⟩
      obtain ⟨y, hyy⟩ : ∃ y, y = b.fld k := ⟨_, rfl⟩
      rw [← hxx] at c
      rw [← hyy] at d
      have XX := Lib.hid hxx
      have YY := Lib.hid hyy
      clear hxx hyy
      have hki : (k : Int) < 3 := by omega
      by_cases h1 : x < y
      · have hans : R.cmp a b = -1 := R.cmp_less a b k hlt he.out (by rw [← XX.out, ← YY.out]; exact h1)
        have HA := Lib.hid hans
        clear hans
        go_wp2_with fail
        go_quiet (fail)
        go_wp2_with fail
        go_ret
        exact ⟨by rw [HA.out]; rfl, by first | exact hb.out.trans (Joins.below_draws _ _ _) | exact (hb.out.trans (Joins.below_draws _ _ _)).trans (Joins.below_draws _ _ _)⟩
      · by_cases h2 : y < x
        · have hans : R.cmp a b = 1 := R.cmp_more a b k hlt he.out (by rw [← XX.out, ← YY.out]; exact h2)
          have HA := Lib.hid hans
          clear hans
          go_wp2_with fail
          go_quiet (fail)
          go_wp2_with fail
          go_quiet (fail)
          go_wp2_with fail
          go_ret
          exact ⟨by rw [HA.out]; rfl, by first | exact hb.out.trans (Joins.below_draws _ _ _) | exact (hb.out.trans (Joins.below_draws _ _ _)).trans (Joins.below_draws _ _ _)⟩
        · have hxy : x = y := by omega
          have HXY := Lib.hid hxy
          clear hxy
          go_wp2_with fail
          go_quiet (fail)
          go_wp2_with fail
          go_quiet (fail)
          go_wp2_with fail
          go_roundw
          case rel =>
            refine ⟨k + 1, by go_num, by omega, fun t ht => ?_, fun t ht => hx.out t ht, fun t ht => hy.out t ht, by first | exact hb.out.trans (Joins.below_draws _ _ _) | exact (hb.out.trans (Joins.below_draws _ _ _)).trans (Joins.below_draws _ _ _)⟩
            rcases Nat.lt_or_ge t k with h | h
            · exact he.out t h
            · obtain rfl : t = k := by omega
              rw [← XX.out, ← YY.out]; exact HXY.out
          case measure => simp [intOf]; omega
    · have hkl : k = 3 := by omega
      have hans : R.cmp a b = 0 := R.cmp_same a b (by rw [← hkl]; exact he.out)
      have HA := Lib.hid hans
      clear hans hkl
      go_wp2_with fail
      go_ret
      exact ⟨by rw [HA.out]; rfl, hb.out⟩
end Go.Proofs.Ytlnjgoommpeioaa
