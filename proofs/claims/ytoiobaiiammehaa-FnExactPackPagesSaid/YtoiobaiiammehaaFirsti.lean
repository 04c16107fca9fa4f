/- The program's countFirstPage, by contract. -/
import Derived.Test.YtoiobaiiammehaaPagesi
import Derived.Test.YtoiobaiiammehaaFirst
import Derived.Test.YtoiobaiiammehaaGrow
namespace Go.Proofs.Ytoiobaiiammehaa
open Go.RowKit

set_option maxRecDepth 100000 in
theorem icount (a : Option Addr) (n c : Nat) (L : List R) (w : World) (h : IsRows w a n L) (hn : n ≤ 1000000000) (hc : n ≤ c) (hcm : c ≤ maxLen) :
    Calls Try.prog 35 #[.slice a n c] w fun e w' => ∃ i : Nat, e = .returned (.int .i64 i) ∧ R.First L i ∧ Below w.heap.size w w' := by
  have HL := Lib.hid h.1
  have HI := Lib.hid h
  have hcm' : c ≤ 9223372036854775807 := by unfold maxLen at hcm; omega
  clear h hcm
  go_enter Try.func35, Try.ntmps35
  go_wp2_with fail
  go_loopw [7] (fun i wr => ∃ k : Nat, i = .int .i64 k ∧ k ≤ n ∧ Hid (∀ j, j < k → ¬ 8 < total (L.take j) + (L.getD j R.zero).cost) ∧ Hid (Below w.heap.size w wr)) (fun i _ => n - (intOf i).toNat)
  case atStart => exact ⟨0, rfl, Nat.zero_le _, (fun j hj => absurd hj (Nat.not_lt_zero _)), Below.refl _ _⟩
  case round =>
    obtain ⟨k, rfl, hk, hno, hb⟩ := hrel
    by_cases hlt : k < n
    · obtain ⟨b, o, rfl, hbl, hat⟩ := HI.out.at hlt
      obtain ⟨r, hr⟩ : ∃ r, r = L.getD k R.zero := ⟨_, rfl⟩
      have hrw : r.wf := by rw [hr]; exact HI.out.wf k hlt
      rw [← hr] at hat
      have HR := Lib.hid hr
      have HAT := Lib.hid hat
      obtain ⟨c0, c1, c2⟩ := hat.below hb.out hbl
      have hkl : k ≤ L.length := by have := HL.out; omega
      have hsz : w.heap.size ≤ wr.heap.size := hb.out.size
      obtain ⟨W, hW⟩ : ∃ W, W = wr.alloc (.cells #[.int .i64 r.key, .int .i64 r.value, .int .i64 r.width] 50) := ⟨_, rfl⟩
      have bx : Below wr.heap.size wr W := by rw [hW]; exact (Below.refl _ _).alloc (Nat.le_refl _) _
      have HK := Lib.hid fun v (hv : Below W.heap.size W v) => (show RowAt v wr.heap.size 0 r from by
        rw [hW] at hv; exact (box_row hv).1)
      have BX := Lib.hid (hb.out.trans (bx.mono hsz))
      have HT := Lib.hid (show IsRows W (some ⟨b, o, none⟩) k (L.take k) from by
        have h1 := HI.out.keep BX.out
        obtain ⟨-, hwf, h3⟩ := h1
        refine ⟨by rw [List.length_take]; omega, fun x hx => hwf x (List.mem_of_mem_take hx), ?_⟩
        rcases h3 with h0 | ⟨b', o', e, hl, hx⟩
        · omega
        · refine .inr ⟨b', o', e, hl, fun t ht => ?_⟩
          have := hx t (by omega)
          have e2 : (L.take k).getD t R.zero = L.getD t R.zero := by simp [List.getD, ht]
          rw [e2]; exact this)
      have C1 := Lib.hid fun c' v (hv : Below W.heap.size W v) => (ioverflow (some ⟨b, o, none⟩) k c' (L.take k) r hrw v (in_rows (HT.out.keep hv) (by unfold maxLen; omega)) (by omega)).mono fun e v' (h : e = .returned (.bool (decide (8 < total (L.take k) + r.cost))) ∧ Below v.heap.size v v') => (⟨h.1, hv.trans (h.2.mono hv.size)⟩ : e = .returned (.bool (decide (8 < total (L.take k) + r.cost))) ∧ Below W.heap.size W v')
      obtain ⟨z, hz⟩ : ∃ z, z = decide (8 < total (L.take k) + r.cost) := ⟨_, rfl⟩
      rw [← hz] at C1
      have HZ := Lib.hid hz
      clear hat hr hz bx
      go_wp2_with fail
      rw [← hW]
      clear hW
      refine region_class (Below W.heap.size W) (by kernel_rfl) (by kernel_rfl) (Below.refl _ _).drew ?_
      repeat (first | go_big_quiet_skip | (go_big_quiet_want; go_big_quiet_op; first | go_big_quiet_on | (apply Exists.intro; refine ⟨fun v hv => ?_, ?_⟩; (focus (first | exact rfl | (((go_at_call 28; exact C1.out _ v hv)); done) | ((obtain ⟨d0, d1, d2⟩ := HK.out v hv); go_simp; done) | ((obtain ⟨d0, d1, d2⟩ := HK.out v hv); go_simp; exact rfl) | ((obtain ⟨d0, d1, d2⟩ := HK.out v hv); go_simp; exact ⟨rfl, rfl⟩))); go_big_quiet_on)))
      refine wpQuiet_nil ?_
      intro v hv
      have B2 := Lib.hid (BX.out.trans (hv.mono BX.out.size))
      have hle := HL.out
      cases z with
      | true =>
        have HF := Lib.hid (show R.First L k from ⟨by omega, fun j hj => by have := hno.out j hj; omega, fun _ => by have := of_decide_eq_true HZ.out.symm; rw [← HR.out]; exact this⟩)
        clear hle
        go_wp2_with fail
        go_ret
        exact ⟨k, rfl, HF.out, B2.out⟩
      | false =>
        have HN := Lib.hid (show ∀ j, j < k + 1 → ¬ 8 < total (L.take j) + (L.getD j R.zero).cost from fun j hj => by
          rcases Nat.lt_or_ge j k with h | h
          · have := hno.out j h; omega
          · obtain rfl : j = k := by omega
            rw [← HR.out]
            exact of_decide_eq_false HZ.out.symm)
        clear hle
        go_wp2_with fail
        go_roundw
        case rel => exact ⟨k + 1, by go_num, by omega, HN, B2⟩
        case measure => simp [intOf]; omega
    · have hkl : k = n := by omega
      have hle := HL.out
      have HF := Lib.hid (show R.First L n from ⟨by omega, fun j hj => by have := hno.out j (by omega); omega, fun h => by omega⟩)
      clear hkl hle
      go_wp2_with fail
      go_ret
      exact ⟨n, rfl, HF.out, hb.out⟩
end Go.Proofs.Ytoiobaiiammehaa
