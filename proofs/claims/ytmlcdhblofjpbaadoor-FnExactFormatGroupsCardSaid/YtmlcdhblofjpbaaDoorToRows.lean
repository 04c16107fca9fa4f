/- The laws' copy of a slice of rows (toRowS), by contract. -/
import Derived.Test.YtmlcdhblofjpbaaDoorToRow
namespace Go.Proofs.YtmlcdhblofjpbaaDoor
open Go.RowKit

set_option maxRecDepth 100000 in
theorem torows (a : Option Addr) (len cap : Nat) (L : List R) (w : World) (h : IsRows w a len L) (hlen : len ≤ 1000000000000) :
    Calls Tryd.prog 168 #[.slice a len cap] w fun e w' => ∃ g, e = .returned (.slice (some ⟨g, 0, none⟩) len len) ∧ w.heap.size ≤ g ∧ w'.heap[g]? = some (.cells (cells3 L).toArray 41 (0, 0)) ∧ Below w.heap.size w w' := by
  obtain ⟨hl, -, hc⟩ := h
  have HL := Lib.hid hl
  have HC := Lib.hid hc
  clear hl hc
  have hmk := run_make_rows len hlen
  have hbw : Below w.heap.size w (w.alloc (.cells (cells3 (List.replicate len R.zero)).toArray 41)) := (Below.refl _ _).alloc (Nat.le_refl _) _
  have hgw : (w.alloc (.cells (cells3 (List.replicate len R.zero)).toArray 41)).heap[w.heap.size]? = some (.cells (cells3 (List.replicate len R.zero)).toArray 41 (0, 0)) := heap_alloc_new w _
  have HBW := Lib.hid hbw
  have HGW := Lib.hid hgw
  clear hbw hgw
  go_enter Tryd.func168, Tryd.ntmps168
  go_wp2_with fail
  clear hmk
  go_loopw [4] (fun i wr => ∃ k : Nat, i = .int .i64 k ∧ k ≤ len ∧ Hid (wr.heap[w.heap.size]? = some (.cells (cells3 (L.take k ++ List.replicate (len - k) R.zero)).toArray 41 (0, 0))) ∧ Hid (Below w.heap.size w wr)) (fun i _ => len - (intOf i).toNat)
  case atStart => exact ⟨0, rfl, Nat.zero_le _, HGW, HBW⟩
  case round =>
    obtain ⟨k, rfl, hk, hg, hb⟩ := hrel
    by_cases hlt : k < len
    · obtain ⟨b, o, rfl, hbl, hc⟩ : ∃ b o : Nat, a = some ⟨b, o, none⟩ ∧ b < w.heap.size ∧ ∀ t, t < len → RowAt w b (o + t * 3) (L.getD t R.zero) := by
        rcases HC.out with h0 | h0
        · omega
        · exact h0
      obtain ⟨r, hr⟩ : ∃ r, r = L.getD k R.zero := ⟨_, rfl⟩
      have hat : RowAt wr b (o + k * 3) r := by rw [hr]; exact (hc k hlt).below hb.out hbl
      obtain ⟨c0, c1, c2⟩ := hat
      have HR := Lib.hid hr
      clear hr hc
      go_wp2_with fail
      refine (torow r _).mono ?_
      rintro e w1 ⟨rfl, b1⟩
      unfold R.val
      have hgl : w.heap.size < wr.heap.size := lt_of_block hg.out
      have hg1 : w1.heap[w.heap.size]? = some (.cells (cells3 (L.take k ++ List.replicate (len - k) R.zero)).toArray 41 (0, 0)) := (b1.block _ hgl).trans hg.out
      obtain ⟨x, d0, d1, d2⟩ : ∃ x, RowAt w1 w.heap.size (k * 3) x := ⟨_, rows_cells hg1 k (by simp [HL.out]; omega)⟩
      have f0 := rows_free hg1 (k * 3)
      have f1 := rows_free hg1 (k * 3 + 1)
      have f2 := rows_free hg1 (k * 3 + 2)
      have HG1 := Lib.hid hg1
      have B1 := Lib.hid (hb.out.trans (b1.mono hb.out.size))
      clear hg1 b1 hgl
      go_wp2_with fail
      go_roundw
      case rel =>
        refine ⟨k + 1, by go_num, by omega, ?_, below_set3 B1.out (Nat.le_refl _) _ _ _ _ _ _⟩
        show _ = _
        rw [rows_set HG1.out k (by simp [HL.out]; omega) r, HR.out, set_next L len k HL.out hlt]
      case measure => simp [intOf]; omega
    · have hkl : k = len := by omega
      have hfin : wr.heap[w.heap.size]? = some (.cells (cells3 L).toArray 41 (0, 0)) := by
        rw [hg.out, hkl, ← HL.out, List.take_length, Nat.sub_self]; simp
      have HF := Lib.hid hfin
      clear hfin hkl
      go_wp2_with fail
      go_ret
      exact ⟨_, rfl, Nat.le_refl _, HF.out, hb.out⟩
end Go.Proofs.YtmlcdhblofjpbaaDoor
