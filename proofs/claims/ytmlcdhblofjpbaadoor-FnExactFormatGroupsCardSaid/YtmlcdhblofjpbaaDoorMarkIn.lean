/- The laws' marks on rows that lie in a stretch of a block; sizes; copies as owned slices; no function of program or reference is walked here. -/
import Derived.Test.YtmlcdhblofjpbaaDoorMem
import Derived.Test.YtmlcdhblofjpbaaDoorMark
import Derived.Test.YtmlcdhblofjpbaaDoorOpens
namespace Go.Proofs.YtmlcdhblofjpbaaDoor
open Go.RowKit

theorem marked_wf (n : Nat) (q : Int) (hn : n ≤ 1000000000000) (h0 : 0 ≤ q) (h1 : q ≤ 10000000000000) : ∀ r ∈ marked n q, r.wf := by
  intro r hr
  obtain ⟨t, ht, rfl⟩ := List.getElem_of_mem hr
  have htn : t < n := by simpa [marked] using ht
  have hg := marked_get n q t htn
  have : (marked n q).getD t R.zero = (marked n q)[t] := by simp [List.getD, ht]
  rw [this] at hg
  rw [hg]
  unfold R.wf
  simp only
  omega
theorem set3_cells {w : World} {b o : Nat} {x y z : Value} (h0 : w.cell? ⟨b, o, none⟩ = some x) (h1 : w.cell? ⟨b, o + 1, none⟩ = some y) (h2 : w.cell? ⟨b, o + 2, none⟩ = some z) (r : R) :
    RowAt (((w.setCell ⟨b, o, none⟩ (.int .i64 r.key)).setCell ⟨b, o + 1, none⟩ (.int .i64 r.value)).setCell ⟨b, o + 2, none⟩ (.int .i64 r.width)) b o r := by
  have n01 : (⟨b, o, none⟩ : Addr) ≠ ⟨b, o + 1, none⟩ := by intro e; injection e with _ e _; omega
  have n02 : (⟨b, o, none⟩ : Addr) ≠ ⟨b, o + 2, none⟩ := by intro e; injection e with _ e _; omega
  have n12 : (⟨b, o + 1, none⟩ : Addr) ≠ ⟨b, o + 2, none⟩ := by intro e; injection e with _ e _; omega
  refine ⟨?_, ?_, ?_⟩
  · rw [World.cell?_setCell_other _ _ _ _ n02.symm, World.cell?_setCell_other _ _ _ _ n01.symm]
    exact World.cell?_setCell_same _ _ _ h0
  · rw [World.cell?_setCell_other _ _ _ _ n12.symm]
    refine World.cell?_setCell_same _ _ _ (u := y) ?_
    rw [World.cell?_setCell_other _ _ _ _ n01]
    exact h1
  · refine World.cell?_setCell_same _ _ _ (u := z) ?_
    rw [World.cell?_setCell_other _ _ _ _ n12, World.cell?_setCell_other _ _ _ _ n02]
    exact h2
/-- One row of them, and what a store into it leaves. -/
theorem SeqOwn.row {w : World} {B n : Nat} {a : Option Addr} {L : List R} {F : List Reg} (h : SeqOwn rowRep w B a n L F) {k : Nat} (hk : k < n) :
    ∃ b o : Nat, a = some ⟨b, o, none⟩ ∧ b < w.heap.size ∧ RowAt w b (o + k * 3) (L.getD k R.zero) ∧ (∀ j, j < 3 → w.frozen? ⟨b, o + k * 3 + j, none⟩ = false) ∧
      ∀ r : R, r.wf → SeqOwn rowRep (((w.setCell ⟨b, o + k * 3, none⟩ (.int .i64 r.key)).setCell ⟨b, o + k * 3 + 1, none⟩ (.int .i64 r.value)).setCell ⟨b, o + k * 3 + 2, none⟩ (.int .i64 r.width)) B a n (L.set k r) F ∧
        ∀ w0, OnlyAt F w0 w → OnlyAt F w0 (((w.setCell ⟨b, o + k * 3, none⟩ (.int .i64 r.key)).setCell ⟨b, o + k * 3 + 1, none⟩ (.int .i64 r.value)).setCell ⟨b, o + k * 3 + 2, none⟩ (.int .i64 r.width)) := by
  obtain ⟨h1, hm, ⟨h0, -⟩ | ⟨b, o, hs, Fs, rfl, hB, hlt, rfl, hp, hf, hx⟩⟩ := h
  · omega
  · have hkl : k < L.length := by omega
    have hg : L.getD k R.zero = L[k] := by simp [List.getD, hkl]
    have hle : k * 3 + 3 ≤ n * 3 := by omega
    obtain ⟨hc, -⟩ := hx k L[k] (by simp [hkl])
    have c0 := hc 0 _ rfl
    have c1 := hc 1 _ rfl
    have c2 := hc 2 _ rfl
    have hhead : (⟨b, o, o + n * rowRep.size⟩ : Reg) ∈ (⟨b, o, o + n * rowRep.size⟩ : Reg) :: (List.range n).flatMap Fs := List.mem_cons_self ..
    refine ⟨b, o, rfl, hlt, by rw [hg]; exact ⟨c0, c1, c2⟩, fun j hj => hf _ (by omega) (by show _ < o + n * 3; omega), fun r hr => ⟨?_, fun w0 h0 => ?_⟩⟩
    · refine ⟨by rw [List.length_set]; exact h1, hm, .inr ⟨b, o, hs, Fs, rfl, hB, by simpa [World.setCell] using hlt, rfl, hp, fun j ha hb => ?_, fun t x ht => ?_⟩⟩
      · rw [World.frozen?_setCell, World.frozen?_setCell, World.frozen?_setCell]
        exact hf j ha hb
      · have htl : t < L.length := by have := idx_lt ht; rwa [List.length_set] at this
        by_cases htk : t = k
        · subst htk
          rw [List.getElem?_set_self htl] at ht
          obtain rfl := Option.some.inj ht
          refine ⟨fun j u hj => ?_, hr, (hx t L[t] (by simp [htl])).2.2⟩
          have e0 : w.cell? ⟨b, o + t * 3, none⟩ = some (.int .i64 (L[t]).key) := c0
          have e1 : w.cell? ⟨b, o + t * 3 + 1, none⟩ = some (.int .i64 (L[t]).value) := c1
          have e2 : w.cell? ⟨b, o + t * 3 + 2, none⟩ = some (.int .i64 (L[t]).width) := c2
          have hq := set3_cells e0 e1 e2 r
          match j, hj with
          | 0, hj => obtain rfl := Option.some.inj hj; exact hq.1
          | 1, hj => obtain rfl := Option.some.inj hj; exact hq.2.1
          | 2, hj => obtain rfl := Option.some.inj hj; exact hq.2.2
        · rw [List.getElem?_set_ne (fun e => htk e.symm)] at ht
          obtain ⟨hc', ho'⟩ := hx t x ht
          refine ⟨fun j u hj => ?_, ho'⟩
          have hj3 : j < 3 := idx_lt hj
          have hcj := hc' j u hj
          have hoff : ∀ i, i < 3 → (⟨b, o + k * 3 + i, none⟩ : Addr) ≠ ⟨b, o + t * rowRep.size + j, none⟩ := by
            intro i hi e
            injection e with _ e _
            have : o + k * 3 + i = o + t * 3 + j := e
            omega
          rw [World.cell?_setCell_other _ _ _ _ (hoff 2 (by omega)), World.cell?_setCell_other _ _ _ _ (hoff 1 (by omega)), World.cell?_setCell_other _ _ _ _ (show (⟨b, o + k * 3, none⟩ : Addr) ≠ _ from hoff 0 (by omega))]
          exact hcj
    · refine (((h0.set hhead rfl ?_ ?_ _).set hhead rfl ?_ ?_ _).set hhead rfl ?_ ?_ _)
      all_goals first | (show o ≤ _; omega) | (show _ < o + n * 3; omega)
set_option maxRecDepth 100000 in
theorem markrows (B n c : Nat) (a : Option Addr) (L : List R) (F : List Reg) (q : Int) (w : World) (h : SeqOwn rowRep w B a n L F) (hn : n ≤ 1000000000000) (hq0 : 0 ≤ q) (hq1 : q ≤ 1000000000000) :
    Calls Tryd.prog 138 #[.slice a n c, .int .i64 q] w fun e w' => e = .returned (.int .i64 (q + 3 * n)) ∧ SeqOwn rowRep w' B a n (marked n q) F ∧ OnlyAt F w w' := by
  have HL := Lib.hid h.1
  have HO := Lib.hid h
  clear h
  go_enter Tryd.func138, Tryd.ntmps138
  go_wp2_with fail
  go_loopw [1, 5] (fun x i wr => ∃ k : Nat, x = .int .i64 (q + 3 * k) ∧ i = .int .i64 k ∧ k ≤ n ∧ Hid (SeqOwn rowRep wr B a n (marked k q ++ L.drop k) F) ∧ Hid (OnlyAt F w wr)) (fun _ i _ => n - (intOf i).toNat)
  case atStart => exact ⟨0, by go_num, rfl, Nat.zero_le _, (show SeqOwn rowRep w B a n (marked 0 q ++ L.drop 0) F from HO.out), OnlyAt.refl _ _⟩
  case round =>
    obtain ⟨k, rfl, rfl, hk, hown, hb⟩ := hrel
    by_cases hlt : k < n
    · obtain ⟨b, o, rfl, hbl, hat, hfz, hset⟩ := hown.out.row hlt
      obtain ⟨x, hx⟩ : ∃ x, x = (marked k q ++ L.drop k).getD k R.zero := ⟨_, rfl⟩
      rw [← hx] at hat
      obtain ⟨c0, c1, c2⟩ := hat
      have f0 := hfz 0 (by omega)
      have f1 := hfz 1 (by omega)
      have f2 := hfz 2 (by omega)
      rw [Nat.add_zero] at f0
      obtain ⟨hs1, hs2⟩ := hset ⟨q + 3 * k, q + 3 * k + 1, q + 3 * k + 2⟩ (by unfold R.wf; simp only; omega)
      rw [marked_set n k q L HL.out hlt] at hs1
      have HS1 := Lib.hid hs1
      have HS2 := Lib.hid (hs2 w hb.out)
      clear hset hx hfz hs1 hs2
      go_wp2_with fail
      have e2 : q + 3 * (k : Int) + 1 + 1 = q + 3 * (k : Int) + 2 := by omega
      rw [e2]
      clear e2
      go_roundw
      case rel => exact ⟨k + 1, by go_num, by go_num, by omega, HS1.out, HS2.out⟩
      case measure => simp [intOf]; omega
    · have hkl : k = n := by omega
      have hfin : SeqOwn rowRep wr B a n (marked n q) F := by
        have := hown.out
        rw [hkl, List.drop_eq_nil_of_le (by rw [HL.out]; exact Nat.le_refl _), List.append_nil] at this
        exact this
      have HF := Lib.hid hfin
      have HK := Lib.hid hkl
      clear hfin hkl
      go_wp2_with fail
      go_ret
      exact ⟨by rw [← HK.out]; rfl, HF.out, hb.out⟩
set_option maxRecDepth 100000 in
theorem heldrows (a : Option Addr) (n c : Nat) (q : Int) (w : World) (h : IsRows w a n (marked n q)) (hn : n ≤ 1000000000000) (hq0 : 0 ≤ q) (hq1 : q ≤ 1000000000000) :
    Calls Tryd.prog 139 #[.slice a n c, .int .i64 q] w fun e w' => e = .returned (.int .i64 (q + 3 * n)) ∧ w = w' := by
  have HO := Lib.hid h
  clear h
  go_enter Tryd.func139, Tryd.ntmps139
  go_wp2_with fail
  go_loop [1, 5] (fun x i => ∃ k : Nat, x = .int .i64 (q + 3 * k) ∧ i = .int .i64 k ∧ k ≤ n) (fun _ i => n - (intOf i).toNat)
  case atStart => exact ⟨0, by go_num, rfl, Nat.zero_le _⟩
  case round =>
    obtain ⟨k, rfl, rfl, hk⟩ := hrel
    by_cases hlt : k < n
    · obtain ⟨-, -, h0 | ⟨b, o, rfl, hbl, hat⟩⟩ := HO.out
      · omega
      · obtain ⟨c0, c1, c2⟩ := hat k hlt
        rw [marked_get n q k hlt] at c0 c1 c2
        simp only at c0 c1 c2
        rw [show q + 3 * (k : Int) + 2 = q + 3 * (k : Int) + 1 + 1 by omega] at c2
        clear hat
        go_wp2_with fail
        go_round
        case rel => exact ⟨k + 1, by go_num, by go_num, by omega⟩
        case measure => simp [intOf]; omega
    · have hkl : k = n := by omega
      have HK := Lib.hid hkl
      clear hkl
      go_wp2_with fail
      go_ret
      exact ⟨by rw [← HK.out]; rfl, rfl⟩
/-- The size that is left. -/
def szR (left : Int) (n : Nat) : Int := if left < n then -1 else left - n
theorem szR_le {left : Int} {n : Nat} (h : ¬ szR left n < 0) : (n : Int) ≤ left ∧ szR left n = left - n := by
  unfold szR at h ⊢
  split
  · rename_i hl; rw [if_pos hl] at h; omega
  · exact ⟨by omega, rfl⟩
theorem szrows (a : Option Addr) (n c : Nat) (left : Int) (w : World) (h0 : 0 ≤ left) (h1 : left ≤ 1048576) (hn : n ≤ maxLen) : Calls Tryd.prog 167 #[.slice a n c, .int .i64 left] w fun e w' => e = .returned (.int .i64 (szR left n)) ∧ w = w' := by
  unfold szR
  unfold maxLen at hn
  split
  · rename_i h
    exact sz_no a n c left w h hn h0
  · rename_i h
    exact sz_ok a n c left w (by omega) h1
theorem ownrows (a : Option Addr) (n c : Nat) (L : List R) (w : World) (h : IsRows w a n L) (hn : n ≤ 1000000000000) :
    Calls Tryd.prog 168 #[.slice a n c] w fun e w' => ∃ g F, e = .returned (.slice (some ⟨g, 0, none⟩) n n) ∧ SeqOwn rowRep w' w.heap.size (some ⟨g, 0, none⟩) n L F ∧ Below w.heap.size w w' :=
  (copyrows a n c L w h hn).mono fun _ _ ⟨g, he, hm, hb⟩ => by
    obtain ⟨F, hF, -⟩ := rows_own hm h.2.1 (by unfold maxLen; omega)
    exact ⟨g, F, he, hF, hb⟩
end Go.Proofs.YtmlcdhblofjpbaaDoor
