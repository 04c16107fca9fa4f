/- CountRow of the program and of the reference, by contract. -/
import Derived.Test.YtedfjpfppipfhaaSameRows
import Derived.Test.YtedfjpfppipfhaaBag
import Derived.Deep.RegionWith
namespace Go.Proofs.Ytedfjpfppipfhaa
open Go.RowKit

theorem row_eql (a b : R) (w : World) : (binOp .eql 28 (.agg #[.int .i64 a.key, .int .i64 a.value, .int .i64 a.width]) (.agg #[.int .i64 b.key, .int .i64 b.value, .int .i64 b.width])).run Try.prog w = .ok (.bool (decide (a = b))) w := by
  have h1 : (Op.equalIn 10000 28 (.agg #[.int .i64 a.key, .int .i64 a.value, .int .i64 a.width]) (.agg #[.int .i64 b.key, .int .i64 b.value, .int .i64 b.width])).run Try.prog w = .ok (decide (a = b)) w := by
    rw [run_equalIn_agg w 9999 28 _ _ (by kernel_rfl) (by kernel_rfl)]
    obtain ⟨k, v, d⟩ := a
    obtain ⟨k', v', d'⟩ := b
    have e : decide (R.mk k v d = R.mk k' v' d') = decide (k = k' ∧ v = v' ∧ d = d') := by simp
    rw [e]
    by_cases hk : k = k' <;> by_cases hv : v = v' <;> by_cases hd : d = d' <;> simp [go_sem, Try.underlying28, Try.underlying3, hk, hv, hd]
  rw [run_eql_struct, h1]
  rfl
/-- A row in memory, as the loads name it. -/
theorem IsRows.at {w : World} {a : Option Addr} {len : Nat} {L : List R} (h : IsRows w a len L) {t : Nat} (ht : t < len) : ∃ b o : Nat, a = some ⟨b, o, none⟩ ∧ b < w.heap.size ∧ RowAt w b (o + t * 3) (L.getD t R.zero) := by
  obtain ⟨-, -, h0 | ⟨b, o, e, hb, hc⟩⟩ := h
  · omega
  · exact ⟨b, o, e, hb, hc t ht⟩
set_option maxRecDepth 100000 in
theorem icount (a : Option Addr) (len cap : Nat) (L : List R) (r : R) (w : World) (h : IsRows w a len L) (hlen : len ≤ 1000000000000) :
    Calls Try.prog 27 #[.slice a len cap, .agg #[.int .i64 r.key, .int .i64 r.value, .int .i64 r.width]] w fun e w' => e = .returned (.int .i64 (L.count r)) ∧ Below w.heap.size w w' := by
  have HL := Lib.hid h.1
  obtain ⟨W, hW⟩ : ∃ W, W = w.alloc (.cells #[.int .i64 r.key, .int .i64 r.value, .int .i64 r.width] 28) := ⟨_, rfl⟩
  have hb0 : Below w.heap.size w W := by rw [hW]; exact (Below.refl _ _).alloc (Nat.le_refl _) _
  have hsz : w.heap.size < W.heap.size := by rw [hW]; simp
  have hbox : RowAt W w.heap.size 0 r := by rw [hW]; refine ⟨?_, ?_, ?_⟩ <;> simp
  have HI := Lib.hid (h.keep hb0)
  have HB := Lib.hid hb0
  have HX := Lib.hid hbox
  clear hb0 hbox h
  go_enter Try.func27, Try.ntmps27
  go_wp2_with fail
  rw [← hW]
  clear hW
  go_loopw [5, 10] (fun x i wr => ∃ k : Nat, x = .int .i64 ((L.take k).count r) ∧ i = .int .i64 k ∧ k ≤ len ∧ Hid (Below W.heap.size W wr)) (fun _ i _ => len - (intOf i).toNat)
  case atStart => exact ⟨0, rfl, rfl, Nat.zero_le _, Below.refl _ _⟩
  case round =>
    obtain ⟨k, rfl, rfl, hk, hb⟩ := hrel
    by_cases hlt : k < len
    · obtain ⟨b, o, rfl, hbl, hat⟩ := (HI.out.keep hb.out).at hlt
      have hct := R.count_take (L := L) (k := k) (by rw [HL.out]; exact hlt) r
      obtain ⟨q, hq⟩ : ∃ q, q = L.getD k R.zero := ⟨_, rfl⟩
      rw [← hq] at hat hct
      obtain ⟨c0, c1, c2⟩ := hat
      obtain ⟨d0, d1, d2⟩ := HX.out.below hb.out hsz
      have hcl : (L.take k).count r ≤ k := by have := List.count_le_length (a := r) (l := L.take k); rw [List.length_take] at this; omega
      obtain ⟨n, hn⟩ : ∃ n, n = (L.take k).count r := ⟨_, rfl⟩
      rw [← hn] at hct hcl ⊢
      have hq' := row_eql q r
      have HC := Lib.hid hct
      clear hq hn hct
      by_cases he : q = r
      · have HE := Lib.hid he
        clear he
        rw [if_pos HE.out] at HC
        rw [decide_eq_true HE.out] at hq'
        have hsl : w.heap.size < wr.heap.size := Nat.lt_of_lt_of_le hsz hb.out.size
        go_wp2_with fail
        go_roundw
        case rel => exact ⟨k + 1, by rw [HC.out]; go_num, by go_num, by omega, hb.out.alloc hb.out.size _⟩
        case measure => simp [intOf]; omega
      · have HE := Lib.hid he
        clear he
        rw [if_neg HE.out] at HC
        rw [decide_eq_false HE.out] at hq'
        have hsl : w.heap.size < wr.heap.size := Nat.lt_of_lt_of_le hsz hb.out.size
        go_wp2_with fail
        go_roundw
        case rel => exact ⟨k + 1, by rw [HC.out]; go_num, by go_num, by omega, hb.out.alloc hb.out.size _⟩
        case measure => simp [intOf]; omega
    · have hkl : k = len := by omega
      have hall : (L.take k).count r = L.count r := by rw [hkl, ← HL.out, List.take_length]
      rw [hall]
      clear hall hkl
      go_wp2_with fail
      go_ret
      exact ⟨rfl, HB.out.trans (hb.out.mono HB.out.size)⟩
set_option maxRecDepth 100000 in
theorem scount (a : Option Addr) (len cap : Nat) (L : List R) (r : R) (w : World) (h : IsRows w a len L) (hlen : len ≤ 1000000000000) :
    Calls Try.prog 28 #[.slice a len cap, .agg #[.int .i64 r.key, .int .i64 r.value, .int .i64 r.width]] w fun e w' => e = .returned (.int .i64 (L.count r)) ∧ Below w.heap.size w w' := by
  have HL := Lib.hid h.1
  obtain ⟨W, hW⟩ : ∃ W, W = w.alloc (.cells #[.int .i64 r.key, .int .i64 r.value, .int .i64 r.width] 28) := ⟨_, rfl⟩
  have hb0 : Below w.heap.size w W := by rw [hW]; exact (Below.refl _ _).alloc (Nat.le_refl _) _
  have hsz : w.heap.size < W.heap.size := by rw [hW]; simp
  have hbox : RowAt W w.heap.size 0 r := by rw [hW]; refine ⟨?_, ?_, ?_⟩ <;> simp
  have HI := Lib.hid (h.keep hb0)
  have HB := Lib.hid hb0
  have HX := Lib.hid hbox
  clear hb0 hbox h
  go_enter Try.func28, Try.ntmps28
  go_wp2_with fail
  rw [← hW]
  clear hW
  go_loopw [5, 6] (fun x i wr => ∃ k : Nat, x = .int .i64 ((L.take k).count r) ∧ i = .int .i64 k ∧ k ≤ len ∧ Hid (Below W.heap.size W wr)) (fun _ i _ => len - (intOf i).toNat)
  case atStart => exact ⟨0, rfl, rfl, Nat.zero_le _, Below.refl _ _⟩
  case round =>
    obtain ⟨k, rfl, rfl, hk, hb⟩ := hrel
    by_cases hlt : k < len
    · obtain ⟨b, o, rfl, hbl, hat⟩ := (HI.out.keep hb.out).at hlt
      have hct := R.count_take (L := L) (k := k) (by rw [HL.out]; exact hlt) r
      obtain ⟨q, hq⟩ : ∃ q, q = L.getD k R.zero := ⟨_, rfl⟩
      rw [← hq] at hat hct
      obtain ⟨c0, c1, c2⟩ := hat
      obtain ⟨d0, d1, d2⟩ := HX.out.below hb.out hsz
      simp only [Nat.zero_add] at d1 d2
      have hcl : (L.take k).count r ≤ k := by have := List.count_le_length (a := r) (l := L.take k); rw [List.length_take] at this; omega
      obtain ⟨n, hn⟩ : ∃ n, n = (L.take k).count r := ⟨_, rfl⟩
      rw [← hn] at hct hcl ⊢
      have hq' := row_eql q r
      have HC := Lib.hid hct
      clear hq hn hct
      by_cases he : q = r
      · have HE := Lib.hid he
        clear he
        rw [if_pos HE.out] at HC
        rw [decide_eq_true HE.out] at hq'
        go_wp2_with fail
        go_still_tail 5, (by kernel_rfl)
        go_wp2_with fail
        go_roundw
        case rel => exact ⟨k + 1, by rw [HC.out]; go_num, by go_num, by omega, hb.out.drew⟩
        case measure => simp [intOf]; omega
      · have HE := Lib.hid he
        clear he
        rw [if_neg HE.out] at HC
        rw [decide_eq_false HE.out] at hq'
        go_wp2_with fail
        go_still_tail 5, (by kernel_rfl)
        go_wp2_with fail
        go_roundw
        case rel => exact ⟨k + 1, by rw [HC.out]; go_num, by go_num, by omega, hb.out.drew⟩
        case measure => simp [intOf]; omega
    · have hkl : k = len := by omega
      have hall : (L.take k).count r = L.count r := by rw [hkl, ← HL.out, List.take_length]
      rw [hall]
      clear hall hkl
      go_wp2_with fail
      go_ret
      exact ⟨rfl, HB.out.trans (hb.out.mono HB.out.size)⟩
end Go.Proofs.Ytedfjpfppipfhaa
