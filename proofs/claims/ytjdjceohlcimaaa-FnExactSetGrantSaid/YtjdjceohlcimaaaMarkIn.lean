/- The laws' marks on rows that lie in a stretch of a block; sizes; copies as owned slices; no function of program or reference is walked here. -/
import Derived.Test.YtjdjceohlcimaaaMem
import Derived.Test.YtjdjceohlcimaaaMark
import Derived.Test.YtjdjceohlcimaaaOpens
namespace Go.Proofs.Ytjdjceohlcimaaa
open Go.RowKit

theorem marked_wf (n : Nat) (q : Int) (hn : n ≤ 1000000000000) (h0 : 0 ≤ q) (h1 : q ≤ 10000000000000) : ∀ r ∈ marked n q, r.wf := by
  intro r hr
  obtain ⟨t, ht, rfl⟩ := List.getElem_of_mem hr
  have htn : t < n := by simpa [marked] using ht
  have hg := marked_get n q t htn
  have : (marked n q).getD t R.zero = (marked n q)[t] := by simp [List.getD, ht]
  rw [this] at hg
  rw [hg]
  unfold R.wf
  simp only
  omega
theorem set3_cells {w : World} {b o : Nat} {x y z : Value} (h0 : w.cell? ⟨b, o, none⟩ = some x) (h1 : w.cell? ⟨b, o + 1, none⟩ = some y) (h2 : w.cell? ⟨b, o + 2, none⟩ = some z) (r : R) :
    RowAt (((w.setCell ⟨b, o, none⟩ (.int .i64 r.key)).setCell ⟨b, o + 1, none⟩ (.int .i64 r.value)).setCell ⟨b, o + 2, none⟩ (.int .i64 r.width)) b o r := by
  have n01 : (⟨b, o, none⟩ : Addr) ≠ ⟨b, o + 1, none⟩ := by intro e; injection e with _ e _; omega
  have n02 : (⟨b, o, none⟩ : Addr) ≠ ⟨b, o + 2, none⟩ := by intro e; injection e with _ e _; omega
  have n12 : (⟨b, o + 1, none⟩ : Addr) ≠ ⟨b, o + 2, none⟩ := by intro e; injection e with _ e _; omega
  refine ⟨?_, ?_, ?_⟩
  · rw [World.cell?_setCell_other _ _ _ _ n02.symm, World.cell?_setCell_other _ _ _ _ n01.symm]
    exact World.cell?_setCell_same _ _ _ h0
  · rw [World.cell?_setCell_other _ _ _ _ n12.symm]
    refine World.cell?_setCell_same _ _ _ (u := y) ?_
    rw [World.cell?_setCell_other _ _ _ _ n01]
    exact h1
  · refine World.cell?_setCell_same _ _ _ (u := z) ?_
    rw [World.cell?_setCell_other _ _ _ _ n12, World.cell?_setCell_other _ _ _ _ n02]
    exact h2
/-- One row of them, and what a store into it leaves. -/
theorem SeqOwn.row {w : World} {B n : Nat} {a : Option Addr} {L : List R} {F : List Reg} (h : SeqOwn rowRep w B a n L F) {k : Nat} (hk : k < n) :
    ∃ b o : Nat, a = some ⟨b, o, none⟩ ∧ b < w.heap.size ∧ RowAt w b (o + k * 3) (L.getD k R.zero) ∧ (∀ j, j < 3 → w.frozen? ⟨b, o + k * 3 + j, none⟩ = false) ∧
      ∀ r : R, r.wf → SeqOwn rowRep (((w.setCell ⟨b, o + k * 3, none⟩ (.int .i64 r.key)).setCell ⟨b, o + k * 3 + 1, none⟩ (.int .i64 r.value)).setCell ⟨b, o + k * 3 + 2, none⟩ (.int .i64 r.width)) B a n (L.set k r) F ∧
        ∀ w0, OnlyAt F w0 w → OnlyAt F w0 (((w.setCell ⟨b, o + k * 3, none⟩ (.int .i64 r.key)).setCell ⟨b, o + k * 3 + 1, none⟩ (.int .i64 r.value)).setCell ⟨b, o + k * 3 + 2, none⟩ (.int .i64 r.width)) := by
  obtain ⟨h1, hm, ⟨h0, -⟩ | ⟨b, o, hs, Fs, rfl, hB, hlt, rfl, hp, hf, hx⟩⟩ := h
  · omega
  · have hkl : k < L.length := by omega
    have hg : L.getD k R.zero = L[k] := by simp [List.getD, hkl]
    have hle : k * 3 + 3 ≤ n * 3 := by omega
    obtain ⟨hc, -⟩ := hx k L[k] (by simp [hkl])
    have c0 := hc 0 _ rfl
    have c1 := hc 1 _ rfl
    have c2 := hc 2 _ rfl
    have hhead : (⟨b, o, o + n * rowRep.size⟩ : Reg) ∈ (⟨b, o, o + n * rowRep.size⟩ : Reg) :: (List.range n).flatMap Fs := List.mem_cons_self ..
    refine ⟨b, o, rfl, hlt, by rw [hg]; exact ⟨c0, c1, c2⟩, fun j hj => hf _ (by omega) (by show _ < o + n * 3; omega), fun r hr => ⟨?_, fun w0 h0 => ?_⟩⟩
    · refine ⟨by rw [List.length_set]; exact h1, hm, .inr ⟨b, o, hs, Fs, rfl, hB, by simpa [World.setCell] using hlt, rfl, hp, fun j ha hb => ?_, fun t x ht => ?_⟩⟩
      · rw [World.frozen?_setCell, World.frozen?_setCell, World.frozen?_setCell]
        exact hf j ha hb
      · have htl : t < L.length := by have := idx_lt ht; rwa [List.length_set] at this
        by_cases htk : t = k
        · subst htk
          rw [List.getElem?_set_self htl] at ht
          obtain rfl := Option.some.inj ht
          refine ⟨fun j u hj => ?_, hr, (hx t L[t] (by simp [htl])).2.2⟩
          have e0 : w.cell? ⟨b, o + t * 3, none⟩ = some (.int .i64 (L[t]).key) := c0
          have e1 : w.cell? ⟨b, o + t * 3 + 1, none⟩ = some (.int .i64 (L[t]).value) := c1
          have e2 : w.cell? ⟨b, o + t * 3 + 2, none⟩ = some (.int .i64 (L[t]).width) := c2
          have hq := set3_cells e0 e1 e2 r
          match j, hj with
          | 0, hj => obtain rfl := Option.some.inj hj; exact hq.1
          | 1, hj => obtain rfl := Option.some.inj hj; exact hq.2.1
          | 2, hj => obtain rfl := Option.some.inj hj; exact hq.2.2
        · rw [List.getElem?_set_ne (fun e => htk e.symm)] at ht
          obtain ⟨hc', ho'⟩ := hx t x ht
          refine ⟨fun j u hj => ?_, ho'⟩
          have hj3 : j < 3 := idx_lt hj
          have hcj := hc' j u hj
          have hoff : ∀ i, i < 3 → (⟨b, o + k * 3 + i, none⟩ : Addr) ≠ ⟨b, o + t * rowRep.size + j, none⟩ := by
            intro i hi e
            injection e with _ e _
            have : o + k * 3 + i = o + t * 3 + j := e
            omega
          rw [World.cell?_setCell_other _ _ _ _ (hoff 2 (by omega)), World.cell?_setCell_other _ _ _ _ (hoff 1 (by omega)), World.cell?_setCell_other _ _ _ _ (show (⟨b, o + k * 3, none⟩ : Addr) ≠ _ from hoff 0 (by omega))]
          exact hcj
    · refine (((h0.set hhead rfl ?_ ?_ _).set hhead rfl ?_ ?_ _).set hhead rfl ?_ ?_ _)
      all_goals first | (show o ≤ _; omega) | (show _ < o + n * 3; omega)
/-- The size that is left. -/
def szR (left : Int) (n : Nat) : Int := if left < n then -1 else left - n
theorem szR_le {left : Int} {n : Nat} (h : ¬ szR left n < 0) : (n : Int) ≤ left ∧ szR left n = left - n := by
  unfold szR at h ⊢
  split
  · rename_i hl; rw [if_pos hl] at h; omega
  · exact ⟨by omega, rfl⟩
end Go.Proofs.Ytjdjceohlcimaaa
