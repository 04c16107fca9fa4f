/- Texts joined: MarkIn TBase TRow TGroup Pg TPage TFile TDisk VTr VOp VWRow. -/
import Derived.Test.YtmlcdhblofjpbaaDoorPartDeleteUnreadableFilese
/- The laws' marks on rows that lie in a stretch of a block; sizes; copies as owned slices; no function of program or reference is walked here. -/
namespace Go.Proofs.YtmlcdhblofjpbaaDoor
open Go.RowKit

theorem marked_wf (n : Nat) (q : Int) (hn : n ≤ 1000000000000) (h0 : 0 ≤ q) (h1 : q ≤ 10000000000000) : ∀ r ∈ marked n q, r.wf := by
  intro r hr
  obtain ⟨t, ht, rfl⟩ := List.getElem_of_mem hr
  have htn : t < n := by simpa [marked] using ht
  have hg := marked_get n q t htn
  have : (marked n q).getD t R.zero = (marked n q)[t] := by simp [List.getD, ht]
  rw [this] at hg
  rw [hg]
  unfold R.wf
  simp only
  omega
theorem set3_cells {w : World} {b o : Nat} {x y z : Value} (h0 : w.cell? ⟨b, o, none⟩ = some x) (h1 : w.cell? ⟨b, o + 1, none⟩ = some y) (h2 : w.cell? ⟨b, o + 2, none⟩ = some z) (r : R) :
    RowAt (((w.setCell ⟨b, o, none⟩ (.int .i64 r.key)).setCell ⟨b, o + 1, none⟩ (.int .i64 r.value)).setCell ⟨b, o + 2, none⟩ (.int .i64 r.width)) b o r := by
  have n01 : (⟨b, o, none⟩ : Addr) ≠ ⟨b, o + 1, none⟩ := by intro e; injection e with _ e _; omega
  have n02 : (⟨b, o, none⟩ : Addr) ≠ ⟨b, o + 2, none⟩ := by intro e; injection e with _ e _; omega
  have n12 : (⟨b, o + 1, none⟩ : Addr) ≠ ⟨b, o + 2, none⟩ := by intro e; injection e with _ e _; omega
  refine ⟨?_, ?_, ?_⟩
  · rw [World.cell?_setCell_other _ _ _ _ n02.symm, World.cell?_setCell_other _ _ _ _ n01.symm]
    exact World.cell?_setCell_same _ _ _ h0
  · rw [World.cell?_setCell_other _ _ _ _ n12.symm]
    refine World.cell?_setCell_same _ _ _ (u := y) ?_
    rw [World.cell?_setCell_other _ _ _ _ n01]
    exact h1
  · refine World.cell?_setCell_same _ _ _ (u := z) ?_
    rw [World.cell?_setCell_other _ _ _ _ n12, World.cell?_setCell_other _ _ _ _ n02]
    exact h2
/-- One row of them, and what a store into it leaves. -/
theorem SeqOwn.row {w : World} {B n : Nat} {a : Option Addr} {L : List R} {F : List Reg} (h : SeqOwn rowRep w B a n L F) {k : Nat} (hk : k < n) :
    ∃ b o : Nat, a = some ⟨b, o, none⟩ ∧ b < w.heap.size ∧ RowAt w b (o + k * 3) (L.getD k R.zero) ∧ (∀ j, j < 3 → w.frozen? ⟨b, o + k * 3 + j, none⟩ = false) ∧
      ∀ r : R, r.wf → SeqOwn rowRep (((w.setCell ⟨b, o + k * 3, none⟩ (.int .i64 r.key)).setCell ⟨b, o + k * 3 + 1, none⟩ (.int .i64 r.value)).setCell ⟨b, o + k * 3 + 2, none⟩ (.int .i64 r.width)) B a n (L.set k r) F ∧
        ∀ w0, OnlyAt F w0 w → OnlyAt F w0 (((w.setCell ⟨b, o + k * 3, none⟩ (.int .i64 r.key)).setCell ⟨b, o + k * 3 + 1, none⟩ (.int .i64 r.value)).setCell ⟨b, o + k * 3 + 2, none⟩ (.int .i64 r.width)) := by
  obtain ⟨h1, hm, ⟨h0, -⟩ | ⟨b, o, hs, Fs, rfl, hB, hlt, rfl, hp, hf, hx⟩⟩ := h
  · omega
  · have hkl : k < L.length := by omega
    have hg : L.getD k R.zero = L[k] := by simp [List.getD, hkl]
    have hle : k * 3 + 3 ≤ n * 3 := by omega
    obtain ⟨hc, -⟩ := hx k L[k] (by simp [hkl])
    have c0 := hc 0 _ rfl
    have c1 := hc 1 _ rfl
    have c2 := hc 2 _ rfl
    have hhead : (⟨b, o, o + n * rowRep.size⟩ : Reg) ∈ (⟨b, o, o + n * rowRep.size⟩ : Reg) :: (List.range n).flatMap Fs := List.mem_cons_self ..
    refine ⟨b, o, rfl, hlt, by rw [hg]; exact ⟨c0, c1, c2⟩, fun j hj => hf _ (by omega) (by show _ < o + n * 3; omega), fun r hr => ⟨?_, fun w0 h0 => ?_⟩⟩
    · refine ⟨by rw [List.length_set]; exact h1, hm, .inr ⟨b, o, hs, Fs, rfl, hB, by simpa [World.setCell] using hlt, rfl, hp, fun j ha hb => ?_, fun t x ht => ?_⟩⟩
      · rw [World.frozen?_setCell, World.frozen?_setCell, World.frozen?_setCell]
        exact hf j ha hb
      · have htl : t < L.length := by have := idx_lt ht; rwa [List.length_set] at this
        by_cases htk : t = k
        · subst htk
          rw [List.getElem?_set_self htl] at ht
          obtain rfl := Option.some.inj ht
          refine ⟨fun j u hj => ?_, hr, (hx t L[t] (by simp [htl])).2.2⟩
          have e0 : w.cell? ⟨b, o + t * 3, none⟩ = some (.int .i64 (L[t]).key) := c0
          have e1 : w.cell? ⟨b, o + t * 3 + 1, none⟩ = some (.int .i64 (L[t]).value) := c1
          have e2 : w.cell? ⟨b, o + t * 3 + 2, none⟩ = some (.int .i64 (L[t]).width) := c2
          have hq := set3_cells e0 e1 e2 r
          match j, hj with
          | 0, hj => obtain rfl := Option.some.inj hj; exact hq.1
          | 1, hj => obtain rfl := Option.some.inj hj; exact hq.2.1
          | 2, hj => obtain rfl := Option.some.inj hj; exact hq.2.2
        · rw [List.getElem?_set_ne (fun e => htk e.symm)] at ht
          obtain ⟨hc', ho'⟩ := hx t x ht
          refine ⟨fun j u hj => ?_, ho'⟩
          have hj3 : j < 3 := idx_lt hj
          have hcj := hc' j u hj
          have hoff : ∀ i, i < 3 → (⟨b, o + k * 3 + i, none⟩ : Addr) ≠ ⟨b, o + t * rowRep.size + j, none⟩ := by
            intro i hi e
            injection e with _ e _
            have : o + k * 3 + i = o + t * 3 + j := e
            omega
          rw [World.cell?_setCell_other _ _ _ _ (hoff 2 (by omega)), World.cell?_setCell_other _ _ _ _ (hoff 1 (by omega)), World.cell?_setCell_other _ _ _ _ (show (⟨b, o + k * 3, none⟩ : Addr) ≠ _ from hoff 0 (by omega))]
          exact hcj
    · refine (((h0.set hhead rfl ?_ ?_ _).set hhead rfl ?_ ?_ _).set hhead rfl ?_ ?_ _)
      all_goals first | (show o ≤ _; omega) | (show _ < o + n * 3; omega)
set_option maxRecDepth 100000 in
theorem markrows (B n c : Nat) (a : Option Addr) (L : List R) (F : List Reg) (q : Int) (w : World) (h : SeqOwn rowRep w B a n L F) (hn : n ≤ 1000000000000) (hq0 : 0 ≤ q) (hq1 : q ≤ 1000000000000) :
    Calls Tryd.prog 138 #[.slice a n c, .int .i64 q] w fun e w' => e = .returned (.int .i64 (q + 3 * n)) ∧ SeqOwn rowRep w' B a n (marked n q) F ∧ OnlyAt F w w' := by
  have HL := Lib.hid h.1
  have HO := Lib.hid h
  clear h
  go_enter Tryd.func138, Tryd.ntmps138
  go_wp2_with fail
  go_loopw [1, 5] (fun x i wr => ∃ k : Nat, x = .int .i64 (q + 3 * k) ∧ i = .int .i64 k ∧ k ≤ n ∧ Hid (SeqOwn rowRep wr B a n (marked k q ++ L.drop k) F) ∧ Hid (OnlyAt F w wr)) (fun _ i _ => n - (intOf i).toNat)
  case atStart => exact ⟨0, by go_num, rfl, Nat.zero_le _, (show SeqOwn rowRep w B a n (marked 0 q ++ L.drop 0) F from HO.out), OnlyAt.refl _ _⟩
  case round =>
    obtain ⟨k, rfl, rfl, hk, hown, hb⟩ := hrel
    by_cases hlt : k < n
    · obtain ⟨b, o, rfl, hbl, hat, hfz, hset⟩ := hown.out.row hlt
      obtain ⟨x, hx⟩ : ∃ x, x = (marked k q ++ L.drop k).getD k R.zero := ⟨_, rfl⟩
      rw [← hx] at hat
      obtain ⟨c0, c1, c2⟩ := hat
      have f0 := hfz 0 (by omega)
      have f1 := hfz 1 (by omega)
      have f2 := hfz 2 (by omega)
      rw [Nat.add_zero] at f0
      obtain ⟨hs1, hs2⟩ := hset ⟨q + 3 * k, q + 3 * k + 1, q + 3 * k + 2⟩ (by unfold R.wf; simp only; omega)
      rw [marked_set n k q L HL.out hlt] at hs1
      have HS1 := Lib.hid hs1
      have HS2 := Lib.hid (hs2 w hb.out)
      clear hset hx hfz hs1 hs2
      go_wp2_with fail
      have e2 : q + 3 * (k : Int) + 1 + 1 = q + 3 * (k : Int) + 2 := by omega
      rw [e2]
      clear e2
      go_roundw
      case rel => exact ⟨k + 1, by go_num, by go_num, by omega, HS1.out, HS2.out⟩
      case measure => simp [intOf]; omega
    · have hkl : k = n := by omega
      have hfin : SeqOwn rowRep wr B a n (marked n q) F := by
        have := hown.out
        rw [hkl, List.drop_eq_nil_of_le (by rw [HL.out]; exact Nat.le_refl _), List.append_nil] at this
        exact this
      have HF := Lib.hid hfin
      have HK := Lib.hid hkl
      clear hfin hkl
      go_wp2_with fail
      go_ret
      exact ⟨by rw [← HK.out]; rfl, HF.out, hb.out⟩
set_option maxRecDepth 100000 in
theorem heldrows (a : Option Addr) (n c : Nat) (q : Int) (w : World) (h : IsRows w a n (marked n q)) (hn : n ≤ 1000000000000) (hq0 : 0 ≤ q) (hq1 : q ≤ 1000000000000) :
    Calls Tryd.prog 139 #[.slice a n c, .int .i64 q] w fun e w' => e = .returned (.int .i64 (q + 3 * n)) ∧ w = w' := by
  have HO := Lib.hid h
  clear h
  go_enter Tryd.func139, Tryd.ntmps139
  go_wp2_with fail
  go_loop [1, 5] (fun x i => ∃ k : Nat, x = .int .i64 (q + 3 * k) ∧ i = .int .i64 k ∧ k ≤ n) (fun _ i => n - (intOf i).toNat)
  case atStart => exact ⟨0, by go_num, rfl, Nat.zero_le _⟩
  case round =>
    obtain ⟨k, rfl, rfl, hk⟩ := hrel
    by_cases hlt : k < n
    · obtain ⟨-, -, h0 | ⟨b, o, rfl, hbl, hat⟩⟩ := HO.out
      · omega
      · obtain ⟨c0, c1, c2⟩ := hat k hlt
        rw [marked_get n q k hlt] at c0 c1 c2
        simp only at c0 c1 c2
        rw [show q + 3 * (k : Int) + 2 = q + 3 * (k : Int) + 1 + 1 by omega] at c2
        clear hat
        go_wp2_with fail
        go_round
        case rel => exact ⟨k + 1, by go_num, by go_num, by omega⟩
        case measure => simp [intOf]; omega
    · have hkl : k = n := by omega
      have HK := Lib.hid hkl
      clear hkl
      go_wp2_with fail
      go_ret
      exact ⟨by rw [← HK.out]; rfl, rfl⟩
/-- The size that is left. -/
def szR (left : Int) (n : Nat) : Int := if left < n then -1 else left - n
theorem szR_le {left : Int} {n : Nat} (h : ¬ szR left n < 0) : (n : Int) ≤ left ∧ szR left n = left - n := by
  unfold szR at h ⊢
  split
  · rename_i hl; rw [if_pos hl] at h; omega
  · exact ⟨by omega, rfl⟩
theorem szrows (a : Option Addr) (n c : Nat) (left : Int) (w : World) (h0 : 0 ≤ left) (h1 : left ≤ 1048576) (hn : n ≤ maxLen) : Calls Tryd.prog 167 #[.slice a n c, .int .i64 left] w fun e w' => e = .returned (.int .i64 (szR left n)) ∧ w = w' := by
  unfold szR
  unfold maxLen at hn
  split
  · rename_i h
    exact sz_no a n c left w h hn h0
  · rename_i h
    exact sz_ok a n c left w (by omega) h1
theorem ownrows (a : Option Addr) (n c : Nat) (L : List R) (w : World) (h : IsRows w a n L) (hn : n ≤ 1000000000000) :
    Calls Tryd.prog 168 #[.slice a n c] w fun e w' => ∃ g F, e = .returned (.slice (some ⟨g, 0, none⟩) n n) ∧ SeqOwn rowRep w' w.heap.size (some ⟨g, 0, none⟩) n L F ∧ Below w.heap.size w w' :=
  (copyrows a n c L w h hn).mono fun _ _ ⟨g, he, hm, hb⟩ => by
    obtain ⟨F, hF, -⟩ := rows_own hm h.2.1 (by unfold maxLen; omega)
    exact ⟨g, F, he, hF, hb⟩
end Go.Proofs.YtmlcdhblofjpbaaDoor
/- What the texts of the laws' types share; no function of program or reference is walked here. -/
namespace Go.Proofs.YtmlcdhblofjpbaaDoor
open Go.RowKit
set_option linter.unusedVariables false

/-- A size that is left, once it is none, and once it is some. -/
theorem sz_stop {z left : Int} {m : Nat} (h : z = szR left m) (h0 : z < 0) : left < m ∧ z = -1 := by
  unfold szR at h
  split at h <;> omega
theorem sz_step {z left : Int} {m : Nat} (h : z = szR left m) (h0 : 0 ≤ z) : (m : Int) ≤ left ∧ z = left - m := by
  unfold szR at h
  split at h <;> omega
theorem cellsAt_nil {w : World} {b p : Nat} : CellsAt w b p [] := fun j u hj => by simp at hj
theorem cellsAt_cons {w : World} {b p : Nat} {v : Value} {vs : List Value} (h : w.cell? ⟨b, p, none⟩ = some v) (ht : CellsAt w b (p + 1) vs) : CellsAt w b p (v :: vs) := fun j u hj => by
  match j, hj with
  | 0, hj => obtain rfl := Option.some.inj hj; exact h
  | j + 1, hj => have := ht j u (by simpa using hj); rwa [show p + (j + 1) = p + 1 + j by omega]
theorem cell_put {w : World} {b i : Nat} {u v : Value} (h : w.cell? ⟨b, i, none⟩ = some u) : (w.setCell ⟨b, i, none⟩ v).cell? ⟨b, i, none⟩ = some v := World.cell?_setCell_same _ _ _ h
theorem cell_far {w : World} {b i j : Nat} {u v : Value} (h : w.cell? ⟨b, j, none⟩ = some u) (hn : i ≠ j) : (w.setCell ⟨b, i, none⟩ v).cell? ⟨b, j, none⟩ = some u :=
  (World.cell?_setCell_other _ _ _ _ (fun e => by injection e with _ e _; exact hn e)).trans h
/-- A cell of a stretch that what has changed is apart from. -/
theorem cell_only {w w' : World} {F : List Reg} {b lo hi j : Nat} (ho : OnlyAt F w w') (hb : b < w.heap.size) (hap : ∀ y ∈ F, Reg.apart ⟨b, lo, hi⟩ y) (h1 : lo ≤ j) (h2 : j < hi) : w'.cell? ⟨b, j, none⟩ = w.cell? ⟨b, j, none⟩ :=
  ho.cell b j hb fun y hy e => by
    rcases hap y hy with hn | hn | hn
    · exact absurd e.symm hn
    · simp only at hn; left; omega
    · simp only at hn; right; omega
theorem OnlyAt.put {w : World} {b lo hi j : Nat} (w0 : World) (h : OnlyAt [⟨b, lo, hi⟩] w0 w) (h1 : lo ≤ j) (h2 : j < hi) (u : Value) : OnlyAt [⟨b, lo, hi⟩] w0 (w.setCell ⟨b, j, none⟩ u) := h.set (List.mem_singleton.2 rfl) rfl h1 h2 u
theorem apart_one {r : Reg} {F : List Reg} (h : ∀ y ∈ F, r.apart y) : ∀ x ∈ [r], ∀ y ∈ F, Reg.apart x y := fun x hx y hy => by rw [List.mem_singleton.1 hx]; exact h y hy
theorem boxes3 (w W : World) {c0 c1 c2 : Array Value} {t0 t1 t2 : TypeId} (h : W = ((w.alloc (.cells c0 t0)).alloc (.cells c1 t1)).alloc (.cells c2 t2)) :
    W.heap.size = w.heap.size + 3 ∧ Below w.heap.size w W ∧ W.heap[w.heap.size]? = some (.cells c0 t0 (0, 0)) ∧ W.heap[w.heap.size + 1]? = some (.cells c1 t1 (0, 0)) ∧ W.heap[w.heap.size + 2]? = some (.cells c2 t2 (0, 0)) := by
  have hs1 : (w.alloc (.cells c0 t0)).heap.size = w.heap.size + 1 := by simp
  have hs2 : ((w.alloc (.cells c0 t0)).alloc (.cells c1 t1)).heap.size = w.heap.size + 2 := by simp
  refine ⟨by rw [h]; simp, by rw [h]; exact (((Below.refl _ _).alloc (Nat.le_refl _) _).alloc (by simp) _).alloc (by simp; omega) _, ?_, ?_, ?_⟩
  · rw [h]
    exact (Below.heap_alloc _ _ _ (by simp; omega)).trans ((Below.heap_alloc _ _ _ (by simp)).trans (heap_alloc_new _ _))
  · rw [h, ← hs1]
    exact (Below.heap_alloc _ _ _ (by simp)).trans (heap_alloc_new _ _)
  · rw [h, ← hs2]
    exact heap_alloc_new _ _
theorem boxes2 (w W : World) {c0 c1 : Array Value} {t0 t1 : TypeId} (h : W = (w.alloc (.cells c0 t0)).alloc (.cells c1 t1)) :
    Below w.heap.size w W ∧ W.heap[w.heap.size]? = some (.cells c0 t0 (0, 0)) ∧ W.heap[w.heap.size + 1]? = some (.cells c1 t1 (0, 0)) := by
  have hs1 : (w.alloc (.cells c0 t0)).heap.size = w.heap.size + 1 := by simp
  refine ⟨by rw [h]; exact ((Below.refl _ _).alloc (Nat.le_refl _) _).alloc (by simp) _, ?_, ?_⟩
  · rw [h]
    exact (Below.heap_alloc _ _ _ (by simp)).trans (heap_alloc_new _ _)
  · rw [h, ← hs1]
    exact heap_alloc_new _ _
theorem Calls.named {P : Program} {f : FuncId} {a : Array Value} {w : World} {Q : Ending → World → Prop} (h : ∀ V, V = w → Calls P f a V Q) : Calls P f a w Q := h w rfl
theorem blk_put {w : World} {g i : Nat} {cs cs' : Array Value} {t : TypeId} {v : Value} (h : w.heap[g]? = some (.cells cs t (0, 0))) (e : cs.setIfInBounds i v = cs') : (w.setCell ⟨g, i, none⟩ v).heap[g]? = some (.cells cs' t (0, 0)) := by
  rw [← e]; exact Joins.block_setCell h _
theorem blk_far {w : World} {g b i : Nat} {o : Obj} {v : Value} (h : w.heap[b]? = some o) (hne : b ≠ g) : (w.setCell ⟨g, i, none⟩ v).heap[b]? = some o := (Below.heap_setCell w ⟨g, i, none⟩ v b hne).trans h
/-- Cells stored one behind the other. -/
def putCells : World → Nat → Nat → List Value → World
  | w, _, _, [] => w
  | w, g, o, v :: vs => putCells (w.setCell ⟨g, o, none⟩ v) g (o + 1) vs
theorem put_far {g j : Nat} : ∀ (vs : List Value) (w : World) (o : Nat), j < o ∨ o + vs.length ≤ j → (putCells w g o vs).cell? ⟨g, j, none⟩ = w.cell? ⟨g, j, none⟩
  | [], _, _, _ => rfl
  | v :: vs, w, o, h => by
    rw [List.length_cons] at h
    rw [putCells, put_far vs _ (o + 1) (by omega)]
    exact World.cell?_setCell_other _ _ _ _ (fun e => by injection e with _ e _; omega)
theorem put_ex {g j : Nat} : ∀ (vs : List Value) (w : World) (o : Nat), (∃ u, w.cell? ⟨g, j, none⟩ = some u) → ∃ u, (putCells w g o vs).cell? ⟨g, j, none⟩ = some u
  | [], _, _, h => h
  | v :: vs, w, o, ⟨u, h⟩ => by
    rw [putCells]
    refine put_ex vs _ (o + 1) ?_
    by_cases e : o = j
    · subst e; exact ⟨v, cell_put h⟩
    · exact ⟨u, cell_far h e⟩
theorem put_at {g : Nat} : ∀ (vs : List Value) (w : World) (o : Nat), (∀ j, j < vs.length → ∃ u, w.cell? ⟨g, o + j, none⟩ = some u) → ∀ j u, vs[j]? = some u → (putCells w g o vs).cell? ⟨g, o + j, none⟩ = some u
  | [], _, _, _, j, u, hj => by simp at hj
  | v :: vs, w, o, h, j, u, hj => by
    rw [putCells]
    match j, hj with
    | 0, hj =>
      obtain rfl := Option.some.inj hj
      obtain ⟨u0, h0⟩ := h 0 (by simp)
      rw [put_far vs _ (o + 1) (by omega)]
      exact cell_put h0
    | j + 1, hj =>
      have := put_at vs (w.setCell ⟨g, o, none⟩ v) (o + 1) (fun k hk => by
        obtain ⟨u1, h1⟩ := h (k + 1) (by rw [List.length_cons]; omega)
        rw [show o + 1 + k = o + (k + 1) by omega]
        exact ⟨u1, cell_far h1 (by omega)⟩) j u (by simpa using hj)
      rwa [show o + (j + 1) = o + 1 + j by omega]
theorem put_frozen {p : Addr} {g : Nat} : ∀ (vs : List Value) (w : World) (o : Nat), (putCells w g o vs).frozen? p = w.frozen? p
  | [], _, _ => rfl
  | v :: vs, w, o => by rw [putCells, put_frozen vs]; exact World.frozen?_setCell w _ _ _
theorem put_size {g : Nat} : ∀ (vs : List Value) (w : World) (o : Nat), (putCells w g o vs).heap.size = w.heap.size
  | [], _, _ => rfl
  | v :: vs, w, o => by rw [putCells, put_size vs]; simp [World.setCell]
theorem put_below {B g : Nat} (hB : B ≤ g) {w : World} : ∀ (vs : List Value) (w' : World) (o : Nat), Below B w w' → Below B w (putCells w' g o vs)
  | [], _, _, h => h
  | v :: vs, w', o, h => by rw [putCells]; exact put_below hB vs _ (o + 1) (h.setCell (p := ⟨g, o, none⟩) hB v)
theorem put_stay {F : List Reg} {g : Nat} (hne : ∀ y ∈ F, y.b ≠ g) {w : World} : ∀ (vs : List Value) (w' : World) (o : Nat), Stay F w w' → Stay F w (putCells w' g o vs)
  | [], _, _, h => h
  | v :: vs, w', o, h => by rw [putCells]; exact put_stay hne vs _ (o + 1) (h.set v hne)
theorem apart_sub {F G : List Reg} {r : Reg} (h : ∀ y ∈ F, r.apart y) (hs : ∀ y ∈ G, y ∈ F) : ∀ y ∈ G, r.apart y := fun y hy => h y (hs y hy)
end Go.Proofs.YtmlcdhblofjpbaaDoor
/- Rows: the laws' weight of a slice of them; no function of program or reference is walked here. -/
namespace Go.Proofs.YtmlcdhblofjpbaaDoor
open Go.RowKit
set_option linter.unusedVariables false

def wtRows (X : List R) : Nat := X.length
theorem cnt_rows (X : List R) : rowsMk.cnt X ≤ 64 * wtRows X := by show 3 * X.length ≤ 64 * X.length; omega
theorem wt_row_len (X : List R) : X.length ≤ wtRows X := Nat.le_refl _
end Go.Proofs.YtmlcdhblofjpbaaDoor
/- Group: the datum, its shape, the laws' marks over it, its weight; no function of program or reference is walked here. -/
namespace Go.Proofs.YtmlcdhblofjpbaaDoor
open Go.RowKit
set_option linter.unusedVariables false

structure GroupD where
  fKey : Int
  fCount : Int
  fSum : Int
  fMin : Int
  fMax : Int
deriving DecidableEq
def groupRep : Rep GroupD := viaRep (fun x => (x.fKey, x.fCount, x.fSum, x.fMin, x.fMax, ())) (intAnd (intAnd (intAnd (intAnd (intAnd endRep)))))
theorem groupRep_size : groupRep.size = 5 := rfl
def groupMk : Mk GroupD := ⟨fun q x => ⟨q, q + 1, q + 1 + 1, q + 1 + 1 + 1, q + 1 + 1 + 1 + 1⟩, fun x => 1 + 1 + 1 + 1 + 1, fun q x => by first | rfl | simp [Mk.cnt_mark]⟩
def groupsMk : Mk (List GroupD) := seqMk groupMk
def wtGroup (_ : GroupD) : Nat := 0
def wtGroups (X : List GroupD) : Nat := wtAll wtGroup X
theorem cnt_group (x : GroupD) : groupMk.cnt x ≤ 64 * (wtGroup x + 1) := by
  show 1 + 1 + 1 + 1 + 1 ≤ 64 * (0 + 1)
  omega
theorem cnt_groups (X : List GroupD) : groupsMk.cnt X ≤ 64 * wtGroups X := cntAll_le groupMk wtGroup cnt_group X
theorem wt_group_at (X : List GroupD) (t : Nat) (ht : t < X.length) : wtGroup X[t] ≤ wtGroups X := wtAll_at wtGroup X t ht
theorem wt_group_len (X : List GroupD) : X.length ≤ wtGroups X := wtAll_len wtGroup X
theorem groupInfo : (Tryd.prog.info? 33).map (fun i => (i.zero, i.size, i.bytes)) = some (some (.agg #[.int .i64 0, .int .i64 0, .int .i64 0, .int .i64 0, .int .i64 0]), 5, 40) := by kernel_rfl
end Go.Proofs.YtmlcdhblofjpbaaDoor
/- Pages in memory: their shape, what a call gives, their heads; no function of program or reference is walked here. -/
namespace Go.Proofs.YtmlcdhblofjpbaaDoor
open Go.RowKit

abbrev pageRep : Rep (List R) := seqRep rowRep
abbrev pagesRep : Rep (List (List R)) := seqRep pageRep
def mkP : Int → List (List R) → List (List R)
  | _, [] => []
  | q, p :: P => marked p.length q :: mkP (q + 3 * p.length) P
theorem mkP_length : ∀ (q : Int) (P : List (List R)), (mkP q P).length = P.length
  | _, [] => rfl
  | q, p :: P => by rw [mkP, List.length_cons, List.length_cons, mkP_length]
theorem mkP_append : ∀ (q : Int) (P Q : List (List R)), mkP q (P ++ Q) = mkP q P ++ mkP (q + 3 * P.flatten.length) Q
  | q, [], Q => by simp [mkP]
  | q, p :: P, Q => by
    rw [List.cons_append, mkP, mkP, mkP_append, List.cons_append, List.flatten_cons, List.length_append]
    congr 3
    omega
theorem mkP_next (q : Int) (P : List (List R)) (t : Nat) (ht : t < P.length) : (mkP q (P.take t) ++ P.drop t).set t (marked P[t].length (q + 3 * ((P.take t).flatten.length : Int))) = mkP q (P.take (t + 1)) ++ P.drop (t + 1) := by
  have hl : (mkP q (P.take t)).length = t := by rw [mkP_length, List.length_take]; omega
  rw [List.take_succ_eq_append_getElem ht, mkP_append, List.drop_eq_getElem_cons ht, List.set_append_right _ _ (by omega), hl, Nat.sub_self, List.set_cons_zero]
  simp [mkP]
theorem mkP_get (q : Int) (P : List (List R)) (t : Nat) (ht : t < P.length) : (mkP q P)[t]? = some (marked P[t].length (q + 3 * ((P.take t).flatten.length : Int))) := by
  have hl : (mkP q (P.take t)).length = t := by rw [mkP_length, List.length_take]; omega
  have e : P = P.take t ++ P[t] :: P.drop (t + 1) := by rw [← List.drop_eq_getElem_cons ht, List.take_append_drop]
  conv => lhs; rw [e, mkP_append]
  rw [List.getElem?_append_right (by omega), hl, Nat.sub_self, mkP]
  rfl
theorem flat_next (P : List (List R)) (t : Nat) (ht : t < P.length) : (P.take (t + 1)).flatten.length = (P.take t).flatten.length + P[t].length := by
  rw [List.take_succ_eq_append_getElem ht, List.flatten_append, List.length_append, List.flatten_cons, List.flatten_nil, List.append_nil]
theorem flat_take (P : List (List R)) (t : Nat) : (P.take t).flatten.length ≤ P.flatten.length := by
  conv => rhs; rw [← List.take_append_drop t P]
  rw [List.flatten_append, List.length_append]; omega
theorem flat_mem (P : List (List R)) (t : Nat) (ht : t < P.length) : P[t].length ≤ P.flatten.length := by
  have := flat_next P t ht
  have := flat_take P (t + 1)
  omega
theorem pageInfo : (Tryd.prog.info? 72).map (fun i => (i.zero, i.size, i.bytes)) = some (some (.agg #[.slice none 0 0]), 1, 24) := by kernel_rfl
theorem run_make_pages (n : Nat) (hn : n ≤ 1000000000000) (w : World) :
    (Instr.makeSlice 67 (.int .i64 (n : Int)) (.int .i64 (n : Int))).run Tryd.prog w = .ok (.slice (some ⟨w.heap.size, 0, none⟩) n n) (w.alloc (.cells (List.replicate n (Value.slice none 0 0)).toArray 72)) := by
  obtain ⟨i0, hi, hz0, hz1, hz2⟩ := info_parts pageInfo
  have h := run_make (P := Tryd.prog) w 67 72 i0 (.agg #[.slice none 0 0]) Tryd.underlying67 hi hz0 .i64 .i64 (n : Int) (n : Int) (by omega) (by omega) (by rw [hz2]; omega) (by omega)
  rw [h, hz1, Int.toNat_natCast, Nat.mul_one]
  have e : madeCells (Value.agg #[.slice none 0 0]).cells n = (List.replicate n (Value.slice none 0 0)).toArray := by
    apply Array.toList_inj.1
    exact toList_madeCells_one _ _
  rw [e]
end Go.Proofs.YtmlcdhblofjpbaaDoor
namespace Go.Proofs.YtmlcdhblofjpbaaDoor
open Go.RowKit

/-- Pages' heads in a block of the call's own. -/
def Heads (w : World) (B : Nat) (v : Value) (cs : List Value) : Prop := w.ownsRow B 72 1 v cs.length cs
/-- 'out = append(out, p)'. -/
theorem wpList_pushP {ops : Array Oper} {rest : List Oper} {o : Oper} {a : Act} {Q : Exit → Act → World → Prop} {wr : World} {B : Nat} {cs : List Value} {v h : Value} (s x : Operand) (N : Nat) (hN : N = wr.heap.size)
    (hgd : o.guard = none) (ho : o.op = .call { callee := .builtin .append, args := #[s, x], argTypes := #[67, 67] })
    (hs : a.eval s = v) (hx : a.eval x = .slice (some ⟨N, 0, none⟩) 1 1) (hown : Heads wr B v cs) (hB : B ≤ wr.heap.size) (hlen : cs.length + 1 ≤ 1000000000000) (h1 : h.oneCell' = true)
    (h' : ∀ g c w', Heads w' B (.slice (some ⟨g, 0, none⟩) (cs.length + 1) c) (cs ++ [h]) → wr.grownBy w' v.ownBlock → (v.ownBlock = some g ∨ wr.heap.size ≤ g) → wpList Tryd.prog ops Q rest (a.put o.dst (.slice (some ⟨g, 0, none⟩) (cs.length + 1) c)) w') :
    wpList Tryd.prog ops Q (o :: rest) a (wr.alloc (.cells #[h] 72)) := by
  subst hN
  obtain ⟨i0, hi, hz0, hz1, hz2⟩ := info_parts pageInfo
  refine wpList_append_lies _ hgd s x 67 ho B 72 i0 (.agg #[.slice none 0 0]) 1 24 Tryd.underlying67 hi hz0 hz1 hz2 rfl (by decide) v cs.length cs hs (World.ownsRow.alloc hown _)
    ⟨wr.heap.size, 0, none⟩ 1 1 [h] hx rfl ?_ (fun u hu => by rw [List.mem_singleton.1 hu]; exact h1) (by omega) (by unfold maxLen; omega) (by omega) (by simp; omega) _ rfl ?_
  · exact World.news_of_block (heap_alloc_new wr (.cells #[h] 72))
  · intro g c w' hown' hg hat _
    refine h' g c w' ?_ ((World.grownBy_alloc wr _ _).trans hg) ?_
    · unfold Heads
      rw [List.length_append]
      exact hown'
    · rcases hat with hat | hat
      · exact .inl hat
      · refine .inr ?_
        rw [hat]
        simp
theorem heads_zero (w : World) (B : Nat) (hB : B ≤ w.heap.size) : Heads (w.alloc (.cells #[] 72)) B (.slice (some ⟨w.heap.size, 0, none⟩) 0 0) [] :=
  World.ownsRow_made w #[] 0 hB (Nat.zero_le _) (by simp)
theorem Heads.keep {w w' : World} {B : Nat} {v : Value} {cs : List Value} (h : Heads w B v cs) (hb : Below w.heap.size w w') : Heads w' B v cs := by
  obtain ⟨h1, h0 | ⟨g, cap, cur, rfl, hB, hh, h2⟩⟩ := h
  · exact ⟨h1, .inl h0⟩
  · exact ⟨h1, .inr ⟨g, cap, cur, rfl, hB, (hb.block g (lt_of_block hh)).trans hh, h2⟩⟩
theorem Heads.far {w w' : World} {B : Nat} {v : Value} {cs : List Value} (h : Heads w B v cs) (hb : ∀ k, v.ownBlock = some k → k < w.heap.size → w'.heap[k]? = w.heap[k]?) : Heads w' B v cs := by
  obtain ⟨h1, h0 | ⟨g, cap, cur, rfl, hB, hh, h2⟩⟩ := h
  · exact ⟨h1, .inl h0⟩
  · exact ⟨h1, .inr ⟨g, cap, cur, rfl, hB, (hb g rfl (lt_of_block hh)).trans hh, h2⟩⟩
theorem Heads.own {w : World} {B : Nat} {v : Value} {cs : List Value} (h : Heads w B v cs) : ∀ k, v.ownBlock = some k → B ≤ k ∧ k < w.heap.size := fun k hk => World.ownsRow.lt h k hk
theorem Heads.cells {w : World} {B g n c : Nat} {cs : List Value} (h : Heads w B (.slice (some ⟨g, 0, none⟩) n c) cs) : n = cs.length ∧ g < w.heap.size ∧ (∀ j, w.frozen? ⟨g, j, none⟩ = false) ∧ ∀ j u, cs[j]? = some u → w.cell? ⟨g, j, none⟩ = some u := by
  obtain ⟨h1, ⟨h0, -⟩ | ⟨g', cap, cur, hv, hB, hh, hcap, hmax, hsz, htake⟩⟩ := h
  · injection h0 with e1; cases e1
  · injection hv with e1 e2 e3
    injection e1 with e1
    injection e1 with e1 _ _
    subst e1
    refine ⟨e2, lt_of_block hh, fun j => by simp [World.frozen?, hh], fun j u hj => ?_⟩
    have hjl : j < cs.length * 1 := by rw [Nat.mul_one]; exact idx_lt hj
    rw [← htake, List.getElem?_take, if_pos (by omega)] at hj
    simp only [World.cell?, hh]
    simpa using hj
theorem Heads.slice {w : World} {B : Nat} {v : Value} {cs : List Value} (h : Heads w B v cs) : ∃ a c, v = .slice a cs.length c := by
  obtain ⟨h1, ⟨rfl, h0⟩ | ⟨g, cap, cur, rfl, -⟩⟩ := h
  · exact ⟨none, 0, by rw [h0]⟩
  · exact ⟨_, _, rfl⟩
/-- The pages as a slice in memory of the call's own. -/
theorem pages_done {w : World} {B : Nat} {a : Option Addr} {n c : Nat} {es : List (El pageRep)} (hh : Heads w B (.slice a n c) (cellsOf es)) (hall : OwnAll pageRep w B es) (hne : ∀ e ∈ es, ∀ y ∈ e.F, (Value.slice a n c).ownBlock ≠ some y.b) (hm : es.length ≤ maxLen) :
    ∃ F, SeqOwn pageRep w B a n (es.map El.x) F := by
  have hcl : (cellsOf es).length = es.length := by rw [cellsOf_length]; exact Nat.mul_one _
  rcases Nat.eq_zero_or_pos es.length with h0 | h0
  · obtain rfl : es = [] := List.eq_nil_of_length_eq_zero h0
    obtain ⟨a', c', e⟩ := hh.slice
    injection e with _ e2 _
    have hn : n = 0 := e2
    exact ⟨[], by rw [hn]; rfl, by omega, .inl ⟨hn, rfl⟩⟩
  · rcases hh.2 with ⟨e, hz⟩ | ⟨g, cap, cur, e, hB, hb, -⟩
    · have := hcl; omega
    · injection e with e1 e2 e3
      subst e1
      obtain ⟨hn, hgl, hf, hc⟩ := Heads.cells hh
      obtain ⟨F, hF⟩ := hall.done hB hgl hf hc (fun e he y hy e2 => hne e he y hy (by rw [e2]; rfl)) hm
      exact ⟨F, by rw [hn, hcl]; exact hF⟩
end Go.Proofs.YtmlcdhblofjpbaaDoor
/- Page: the datum, its shape, the laws' marks over it, its weight; no function of program or reference is walked here. -/
namespace Go.Proofs.YtmlcdhblofjpbaaDoor
open Go.RowKit
set_option linter.unusedVariables false

theorem pageRep_size : pageRep.size = 1 := rfl
def pageMk : Mk (List R) := ⟨fun q x => rowsMk.mark (q) x, fun x => rowsMk.cnt x, fun q x => by simp [Mk.cnt_mark]⟩
def pagesMk : Mk (List (List R)) := seqMk pageMk
def pageMkV : Mk (List R) := ⟨fun q x => rowsMk.mark (q) x, fun x => rowsMk.cnt x, fun q x => by simp [Mk.cnt_mark]⟩
def wtPage (x : List R) : Nat := wtRows x
def wtPages (X : List (List R)) : Nat := wtAll wtPage X
theorem cnt_page (x : List R) : pageMk.cnt x ≤ 64 * (wtPage x + 1) := by
  have h0 := cnt_rows x
  show rowsMk.cnt x ≤ 64 * (wtRows x + 1)
  omega
theorem cnt_pages (X : List (List R)) : pagesMk.cnt X ≤ 64 * wtPages X := cntAll_le pageMk wtPage cnt_page X
theorem wt_page_at (X : List (List R)) (t : Nat) (ht : t < X.length) : wtPage X[t] ≤ wtPages X := wtAll_at wtPage X t ht
theorem wt_page_len (X : List (List R)) : X.length ≤ wtPages X := wtAll_len wtPage X
end Go.Proofs.YtmlcdhblofjpbaaDoor
/- File: the datum, its shape, the laws' marks over it, its weight; no function of program or reference is walked here. -/
namespace Go.Proofs.YtmlcdhblofjpbaaDoor
open Go.RowKit
set_option linter.unusedVariables false

structure FileD where
  fName : Int
  fPages : List (List R)
  fChecksum : Int
  fSealed : Bool
deriving DecidableEq
def fileRep : Rep FileD := viaRep (fun x => (x.fName, x.fPages, x.fChecksum, x.fSealed, ())) (intAnd (seqAnd pageRep (intAnd (boolAnd endRep))))
theorem fileRep_size : fileRep.size = 4 := rfl
def fileMk : Mk FileD := ⟨fun q x => ⟨q, pagesMk.mark (q + 1) x.fPages, q + 1 + (pagesMk.cnt x.fPages : Nat), ((q + 1 + (pagesMk.cnt x.fPages : Nat) + 1) % 3 == 0)⟩, fun x => 1 + pagesMk.cnt x.fPages + 1 + 1, fun q x => by simp [Mk.cnt_mark]⟩
def filesMk : Mk (List FileD) := seqMk fileMk
def wtFile (x : FileD) : Nat := wtPages x.fPages
def wtFiles (X : List FileD) : Nat := wtAll wtFile X
theorem cnt_file (x : FileD) : fileMk.cnt x ≤ 64 * (wtFile x + 1) := by
  have h1 := cnt_pages x.fPages
  show 1 + pagesMk.cnt x.fPages + 1 + 1 ≤ 64 * (wtPages x.fPages + 1)
  omega
theorem cnt_files (X : List FileD) : filesMk.cnt X ≤ 64 * wtFiles X := cntAll_le fileMk wtFile cnt_file X
theorem wt_file_at (X : List FileD) (t : Nat) (ht : t < X.length) : wtFile X[t] ≤ wtFiles X := wtAll_at wtFile X t ht
theorem wt_file_len (X : List FileD) : X.length ≤ wtFiles X := wtAll_len wtFile X
theorem fileInfo : (Tryd.prog.info? 102).map (fun i => (i.zero, i.size, i.bytes)) = some (some (.agg #[.int .i64 0, .slice none 0 0, .int .i64 0, .bool false]), 4, 48) := by kernel_rfl
end Go.Proofs.YtmlcdhblofjpbaaDoor
/- Disk: the datum, its shape, the laws' marks over it, its weight; no function of program or reference is walked here. -/
namespace Go.Proofs.YtmlcdhblofjpbaaDoor
open Go.RowKit
set_option linter.unusedVariables false

structure DiskD where
  fFiles : List FileD
  fNextName : Int
deriving DecidableEq
def diskRep : Rep DiskD := viaRep (fun x => (x.fFiles, x.fNextName, ())) (seqAnd fileRep (intAnd endRep))
theorem diskRep_size : diskRep.size = 2 := rfl
def diskMk : Mk DiskD := ⟨fun q x => ⟨filesMk.mark (q) x.fFiles, q + (filesMk.cnt x.fFiles : Nat)⟩, fun x => filesMk.cnt x.fFiles + 1, fun q x => by simp [Mk.cnt_mark]⟩
def disksMk : Mk (List DiskD) := seqMk diskMk
def diskMkV : Mk DiskD := ⟨fun q x => ⟨filesMk.mark (q) x.fFiles, x.fNextName⟩, fun x => filesMk.cnt x.fFiles, fun q x => by simp [Mk.cnt_mark]⟩
def wtDisk (x : DiskD) : Nat := wtFiles x.fFiles
def wtDisks (X : List DiskD) : Nat := wtAll wtDisk X
theorem cnt_disk (x : DiskD) : diskMk.cnt x ≤ 64 * (wtDisk x + 1) := by
  have h0 := cnt_files x.fFiles
  show filesMk.cnt x.fFiles + 1 ≤ 64 * (wtFiles x.fFiles + 1)
  omega
theorem cnt_disks (X : List DiskD) : disksMk.cnt X ≤ 64 * wtDisks X := cntAll_le diskMk wtDisk cnt_disk X
theorem wt_disk_at (X : List DiskD) (t : Nat) (ht : t < X.length) : wtDisk X[t] ≤ wtDisks X := wtAll_at wtDisk X t ht
theorem wt_disk_len (X : List DiskD) : X.length ≤ wtDisks X := wtAll_len wtDisk X
theorem diskInfo : (Tryd.prog.info? 55).map (fun i => (i.zero, i.size, i.bytes)) = some (some (.agg #[.slice none 0 0, .int .i64 0]), 2, 32) := by kernel_rfl
end Go.Proofs.YtmlcdhblofjpbaaDoor
/- States told by trees: the trees of the types; no function of program or reference is walked here. -/
namespace Go.Proofs.YtmlcdhblofjpbaaDoor
open Go Go.RowKit V
set_option linter.unusedVariables false
def tRow (x : R) : List T := [.lit (.int .i64 x.key), .lit (.int .i64 x.value), .lit (.int .i64 x.width)]
def uRow (x : R) : List T := [.lit (.int .i64 x.key), .lit (.int .i64 x.value), .lit (.int .i64 x.width)]
def zRow : List T := [.lit (.int .i64 0), .lit (.int .i64 0), .lit (.int .i64 0)]
theorem flat_impl_Row (X : List R) : Flat (X.map tRow) := flat_of (fun _ => rfl) X
theorem neq_impl_Row (x y : R) (ρ : Operand → Value) (a b : Operand) (o : Oper) (w : World) (ho : o.op = .binOp .neq 41 a b 41) (h1 : ρ a = .agg #[.int .i64 x.key, .int .i64 x.value, .int .i64 x.width]) (h2 : ρ b = .agg #[.int .i64 y.key, .int .i64 y.value, .int .i64 y.width]) : (execOp ρ o).run Tryd.prog w = .ok (.value (.bool (decide (x ≠ y)))) w := by
  obtain ⟨x0, x1, x2⟩ := x
  obtain ⟨y0, y1, y2⟩ := y
  simp only [execOp, ho, h1, h2]
  go_simp
  try simp only [ne_eq, R.mk.injEq]
  (repeat' split) <;> simp_all
theorem eql_impl_Row (x y : R) (ρ : Operand → Value) (a b : Operand) (o : Oper) (w : World) (ho : o.op = .binOp .eql 41 a b 41) (h1 : ρ a = .agg #[.int .i64 x.key, .int .i64 x.value, .int .i64 x.width]) (h2 : ρ b = .agg #[.int .i64 y.key, .int .i64 y.value, .int .i64 y.width]) : (execOp ρ o).run Tryd.prog w = .ok (.value (.bool (decide (x = y)))) w := by
  obtain ⟨x0, x1, x2⟩ := x
  obtain ⟨y0, y1, y2⟩ := y
  simp only [execOp, ho, h1, h2]
  go_simp
  try simp only [ne_eq, R.mk.injEq]
  (repeat' split) <;> simp_all
def tGroup (x : GroupD) : List T := [.lit (.int .i64 x.fKey), .lit (.int .i64 x.fCount), .lit (.int .i64 x.fSum), .lit (.int .i64 x.fMin), .lit (.int .i64 x.fMax)]
def uGroup (x : GroupD) : List T := [.lit (.int .i64 x.fKey), .lit (.int .i64 x.fCount), .lit (.int .i64 x.fSum), .lit (.int .i64 x.fMin), .lit (.int .i64 x.fMax)]
def zGroup : List T := [.lit (.int .i64 0), .lit (.int .i64 0), .lit (.int .i64 0), .lit (.int .i64 0), .lit (.int .i64 0)]
theorem flat_impl_Group (X : List GroupD) : Flat (X.map tGroup) := flat_of (fun _ => rfl) X
theorem neq_impl_Group (x y : GroupD) (ρ : Operand → Value) (a b : Operand) (o : Oper) (w : World) (ho : o.op = .binOp .neq 33 a b 33) (h1 : ρ a = .agg #[.int .i64 x.fKey, .int .i64 x.fCount, .int .i64 x.fSum, .int .i64 x.fMin, .int .i64 x.fMax]) (h2 : ρ b = .agg #[.int .i64 y.fKey, .int .i64 y.fCount, .int .i64 y.fSum, .int .i64 y.fMin, .int .i64 y.fMax]) : (execOp ρ o).run Tryd.prog w = .ok (.value (.bool (decide (x ≠ y)))) w := by
  obtain ⟨x_0, x_1, x_2, x_3, x_4⟩ := x
  obtain ⟨y_0, y_1, y_2, y_3, y_4⟩ := y
  simp only [execOp, ho, h1, h2]
  go_simp
  try simp only [ne_eq, GroupD.mk.injEq]
  (repeat' split) <;> simp_all
theorem eql_impl_Group (x y : GroupD) (ρ : Operand → Value) (a b : Operand) (o : Oper) (w : World) (ho : o.op = .binOp .eql 33 a b 33) (h1 : ρ a = .agg #[.int .i64 x.fKey, .int .i64 x.fCount, .int .i64 x.fSum, .int .i64 x.fMin, .int .i64 x.fMax]) (h2 : ρ b = .agg #[.int .i64 y.fKey, .int .i64 y.fCount, .int .i64 y.fSum, .int .i64 y.fMin, .int .i64 y.fMax]) : (execOp ρ o).run Tryd.prog w = .ok (.value (.bool (decide (x = y)))) w := by
  obtain ⟨x_0, x_1, x_2, x_3, x_4⟩ := x
  obtain ⟨y_0, y_1, y_2, y_3, y_4⟩ := y
  simp only [execOp, ho, h1, h2]
  go_simp
  try simp only [ne_eq, GroupD.mk.injEq]
  (repeat' split) <;> simp_all
def tPage (x : List R) : List T := [.seq 41 (x.map tRow)]
def uPage (x : List R) : List T := [.seq 202 (x.map uRow)]
def zPage : List T := [.seq 41 []]
def tFile (x : FileD) : List T := [.lit (.int .i64 x.fName), .seq 72 (x.fPages.map tPage), .lit (.int .i64 x.fChecksum), .lit (.bool x.fSealed)]
def uFile (x : FileD) : List T := [.lit (.int .i64 x.fName), .seq 181 (x.fPages.map uPage), .lit (.int .i64 x.fChecksum), .lit (.bool x.fSealed)]
def zFile : List T := [.lit (.int .i64 0), .seq 72 [], .lit (.int .i64 0), .lit (.bool false)]
def tDisk (x : DiskD) : List T := [.seq 102 (x.fFiles.map tFile), .lit (.int .i64 x.fNextName)]
def uDisk (x : DiskD) : List T := [.seq 141 (x.fFiles.map uFile), .lit (.int .i64 x.fNextName)]
def zDisk : List T := [.seq 102 [], .lit (.int .i64 0)]
theorem rows_all (X : List R) (q : Int) : (rowsMk.mark q X).map tRow = (mkAll rowMk q X).map tRow := congrArg _ (marked_eq X q)
end Go.Proofs.YtmlcdhblofjpbaaDoor
/- States told by trees: arguments, from their reading to their trees; no function of program or reference is walked here. -/
namespace Go.Proofs.YtmlcdhblofjpbaaDoor
open Go Go.ChangeShapes Go.WideShapes Go.RowKit Go.Deep Go.Joins V
set_option linter.unusedVariables false
/-- Whatever reads as a value of the type is such a tree's. -/
def OpensT (A : TypeId) {α : Type} (n : Nat) (tf : α → List T) (ok : α → Prop) : Prop :=
  ∀ (H : Type) (enc : TypeId × Value → H) (w : World) (spare : Nat → Bool) (held : Bool) (fuel : Nat) (cs : List Value) (x : DataW H × List MemPlace), DataW.trod enc Tryd.prog w 0 spare held fuel A cs = some x → cs.length = n → ∃ y : α, ok y ∧ (tf y).length = n ∧ ∀ (j : Nat) (t : T) (u : Value), (tf y)[j]? = some t → cs[j]? = some u → Inn (fun b => b < w.heap.size) w t u
set_option maxRecDepth 100000 in
theorem OpensT.seq {A e : TypeId} {α : Type} {n : Nat} {tf : α → List T} {ok : α → Prop} (ht : Tryd.prog.underlying A = some (.slice e)) (hc : Tryd.prog.cellsOf e = n) (hp : 0 < n) (hz : Sz e n) (hO : OpensT e n tf ok) : OpensT A 1 (fun X : List α => [.seq e (X.map tf)]) (fun X => (∀ x ∈ X, ok x) ∧ X.length ≤ maxLen) := by
  intro H enc w spare held fuel cs x h _
  have emp : ∀ (a : Option Addr) (c : Nat), c ≤ maxLen → (a = none → c = 0) → ∃ y : List α, ((∀ x ∈ y, ok x) ∧ y.length ≤ maxLen) ∧ [T.seq e (y.map tf)].length = 1 ∧ ∀ (j : Nat) (t : T) (u : Value), [T.seq e (y.map tf)][j]? = some t → [Value.slice a 0 c][j]? = some u → Inn (fun b => b < w.heap.size) w t u := fun a c hc0 hn0 =>
    ⟨[], ⟨fun x hx => (by cases hx), Nat.zero_le _⟩, rfl, fun j t u h1 h2 => by
      match j, h1, h2 with
      | 0, h1, h2 =>
        cases h1; cases h2
        exact Inn.seq (es := []) n hp hz (fun e he => by cases he) (Nat.zero_le _) hc0 hn0 0 0 (fun _ => .bool false) (fun _ _ h => absurd rfl h) (fun h => absurd rfl h) (fun k e j t h => by simp at h) fun k e j t h => by simp at h⟩
  rcases open_slice ht h with ⟨rfl, -⟩ | ⟨a, len, cap, m, fu, D, Pl, rfl, -, hl, hm, hmm, -, hi⟩
  · exact emp none 0 (Nat.zero_le _) fun _ => rfl
  · have hlm : len ≤ m := by rw [hmm]; split <;> omega
    rw [hc] at hi
    rcases Nat.eq_zero_or_pos len with h0 | h0
    · subst h0
      exact emp (some a) cap hm fun e => by cases e
    · have hone : ∀ i, i < len → ∃ yc : α × List Value, ok yc.1 ∧ (tf yc.1).length = n ∧ yc.2.length = n ∧ (∀ j u, yc.2[j]? = some u → w.cell? (a.add (i * n + j)) = some u) ∧ ∀ (j : Nat) (t : T) (u : Value), (tf yc.1)[j]? = some t → yc.2[j]? = some u → Inn (fun b => b < w.heap.size) w t u := by
        intro i hil
        obtain ⟨cs', hcs, htr⟩ := hi i (by omega)
        obtain ⟨_, hcl, hat⟩ := World.cells?_some hcs
        obtain ⟨y, h1, h2, h3⟩ := hO H enc w spare held fu cs' _ htr hcl
        refine ⟨(y, cs'), h1, h2, hcl, fun j u hj => ?_, h3⟩
        have hjl : j < n := by rw [← hcl]; exact get_lt hj
        have := hat j hjl
        rw [add_add] at this
        rw [this]
        exact hj
      obtain ⟨y0, -⟩ := hone 0 h0
      obtain ⟨f, hf⟩ := @choose_lt (α × List Value) ⟨y0⟩ len _ hone
      obtain ⟨b, o, spot⟩ := a
      have hl0 : 0 < (f 0).2.length := by rw [(hf 0 h0).2.2.1]; exact hp
      have hcell0 := (hf 0 h0).2.2.2.1 0 (f 0).2[0] (by simp [hl0])
      have hspot : spot = none := by simpa [Addr.add] using World.cell?_spot hcell0
      subst hspot
      have hb : b < w.heap.size := by
        have := World.block_lt_of_cell? w _ hcell0
        simpa [Addr.add] using this
      have hget : ∀ k e', (((List.range len).map fun t => (f t).1).map tf)[k]? = some e' → k < len ∧ e' = tf (f k).1 := fun k e' hk => by
        have hkl : k < len := by have := get_lt hk; simpa using this
        refine ⟨hkl, ?_⟩
        simp [hkl] at hk
        exact hk.symm
      refine ⟨(List.range len).map fun t => (f t).1, ⟨fun x hx => ?_, by simp; omega⟩, rfl, fun j t u h1 h2 => ?_⟩
      · obtain ⟨t, ht, rfl⟩ := List.mem_map.1 hx
        exact (hf t (List.mem_range.1 ht)).1
      · match j, h1, h2 with
        | 0, h1, h2 =>
          cases h1; cases h2
          have hlen : (((List.range len).map fun t => (f t).1).map tf).length = len := by simp
          have key : ∀ k e' j t', (((List.range len).map fun t => (f t).1).map tf)[k]? = some e' → e'[j]? = some t' → ∃ u, (f k).2[j]? = some u ∧ w.cell? ⟨b, o + (k * n + j), none⟩ = some u ∧ Inn (fun b => b < w.heap.size) w t' u := fun k e' j t' hk hj => by
            obtain ⟨hkl, rfl⟩ := hget k e' hk
            obtain ⟨-, h3, h4, h5, h6⟩ := hf k hkl
            have hjl : j < (f k).2.length := by rw [h4, ← h3]; exact get_lt hj
            have h7 := h5 j _ (List.getElem?_eq_getElem hjl)
            rw [Addr.add_lit] at h7
            exact ⟨_, List.getElem?_eq_getElem hjl, h7, h6 j t' _ hj (List.getElem?_eq_getElem hjl)⟩
          have hsl : Value.slice (some ⟨b, o, none⟩) len cap = Value.slice (some ⟨b, o, none⟩) (((List.range len).map fun t => (f t).1).map tf).length cap := by rw [hlen]
          rw [hsl]
          exact Inn.seq n hp hz (fun e' he => by
            obtain ⟨k, hk, rfl⟩ := List.getElem_of_mem he
            obtain ⟨hkl, e1⟩ := hget k _ (List.getElem?_eq_getElem hk)
            rw [e1]; exact (hf k hkl).2.1) (by rw [hlen]; exact hl) hm (fun e => by cases e) b o (fun i => (w.cell? ⟨b, o + i, none⟩).getD (.bool false)) (fun ad h _ => (Option.some.inj h).symm) (fun _ => ⟨hb, hb⟩) (fun k e' j t' hk hj => by
              obtain ⟨u, -, h3, -⟩ := key k e' j t' hk hj
              rw [h3]; rfl) fun k e' j t' hk hj => by
              obtain ⟨u, -, h3, h4⟩ := key k e' j t' hk hj
              rw [h3]; exact h4
theorem OpensT.int : OpensT 3 1 (fun x : Int => [.lit (.int .i64 x)]) I64 := by
  intro H enc w spare held fuel cs x h hl
  match cs, hl with
  | [c0], _ =>
    obtain ⟨k0, e0, -, w0⟩ := DataW.trod_int Tryd.underlying3 h
    simp at e0
    subst e0
    refine ⟨k0, bounds_i64 w0, rfl, fun j t u h1 h2 => ?_⟩
    match j, h1, h2 with
    | 0, h1, h2 => cases h1; cases h2; exact .lit rfl
theorem OpensT.bool : OpensT 4 1 (fun x : Bool => [.lit (.bool x)]) (fun _ => True) := by
  intro H enc w spare held fuel cs x h hl
  match cs, hl with
  | [c0], _ =>
    obtain ⟨k0, e0, -⟩ := DataW.trod_bool Tryd.underlying4 h
    simp at e0
    subst e0
    refine ⟨k0, trivial, rfl, fun j t u h1 h2 => ?_⟩
    match j, h1, h2 with
    | 0, h1, h2 => cases h1; cases h2; exact .lit rfl
set_option maxRecDepth 100000 in
theorem OpensT.row : OpensT 202 3 uRow R.wf := by
  intro H enc w spare held fuel cs x h hl
  obtain ⟨y0, y1, y2, k, _, _, h0, h1, h2⟩ := trod_struct3 Tryd.underlying202 h
  match cs, hl with
  | [c0, c1, c2], _ =>
    obtain ⟨k0, e0, rfl, w0⟩ := DataW.trod_int Tryd.underlying3 h0
    obtain ⟨k1, e1, rfl, w1⟩ := DataW.trod_int Tryd.underlying3 h1
    obtain ⟨k2, e2, rfl, w2⟩ := DataW.trod_int Tryd.underlying3 h2
    simp [intCells] at e0 e1 e2
    subst e0 e1 e2
    refine ⟨⟨k0, k1, k2⟩, ⟨bounds_i64 w0, bounds_i64 w1, bounds_i64 w2⟩, rfl, fun j t u h1 h2 => ?_⟩
    match j, h1, h2 with
    | 0, h1, h2 => cases h1; cases h2; exact .lit rfl
    | 1, h1, h2 => cases h1; cases h2; exact .lit rfl
    | 2, h1, h2 => cases h1; cases h2; exact .lit rfl
set_option maxRecDepth 100000 in
theorem OpensT.rows : OpensT 179 1 (fun X : List R => [.seq 202 (X.map uRow)]) (fun X => (∀ x ∈ X, x.wf) ∧ X.length ≤ maxLen) := OpensT.seq Tryd.underlying179 (by kernel_rfl) (by decide) (Sz.of (by kernel_rfl)) OpensT.row
def okRow (r : R) : Prop := r.wf
/-- One argument: what may be read of its cells. -/
def ArgT (w : World) (ag : Bool) (ts : List T) (v : Value) : Prop := ∃ us : List Value, v = cval ag us ∧ us.length = ts.length ∧ ∀ (j : Nat) (t : T) (u : Value), ts[j]? = some t → us[j]? = some u → Inn (fun b => b < w.heap.size) w t u
theorem ArgT.lit {w : World} {v : Value} (h : v.oneCell' = true) : ArgT w false [.lit v] v := ⟨[v], rfl, rfl, fun j t u h1 h2 => by
  match j, h1, h2 with
  | 0, h1, h2 => cases h1; cases h2; exact .lit h⟩
set_option maxRecDepth 100000 in
theorem OpensT.val {A : TypeId} {fs : Array Field} {α : Type} {n : Nat} {tf : α → List T} {ok : α → Prop} (hO : OpensT A n tf ok) (hs : Tryd.prog.underlying A = some (.struct fs)) (hc : Tryd.prog.cellsOf A = n)
    {H : Type} {enc : TypeId × Value → H} {w : World} {spare : Nat → Bool} {held : Bool} {q : Reach} {b0 : Nat} {v : Value} {d : DataW H} {p : List MemPlace} (hv : Value.okWide Tryd.prog w q b0 A v) (h : DataW.Trod enc Tryd.prog w 0 spare held A v d p) :
    ∃ y : α, ok y ∧ ArgT w true (tf y) v := by
  obtain ⟨cs, rfl, hsz⟩ := okWide_struct hs hv
  obtain ⟨fuel, hf⟩ := h
  have hl : (Value.cells (.agg cs)).toList.length = n := by simpa [Value.cells] using hsz.trans hc
  obtain ⟨y, h1, h2, h3⟩ := hO H enc w spare held fuel _ _ hf hl
  exact ⟨y, h1, cs.toList, by simp [cval], hl.trans h2.symm, h3⟩
theorem OpensT.arg {A : TypeId} {α : Type} {tf : α → List T} {ok : α → Prop} (hO : OpensT A 1 tf ok) {H : Type} {enc : TypeId × Value → H} {w : World} {spare : Nat → Bool} {held : Bool} {a : Option Addr} {len cap : Nat} {d : DataW H} {p : List MemPlace}
    (h : DataW.Trod enc Tryd.prog w 0 spare held A (.slice a len cap) d p) : ∃ y : α, ok y ∧ ArgT w false (tf y) (.slice a len cap) := by
  obtain ⟨fuel, hf⟩ := h
  obtain ⟨y, h1, h2, h3⟩ := hO H enc w spare held fuel _ _ hf (by simp [Value.cells])
  exact ⟨y, h1, [.slice a len cap], rfl, h2.symm, h3⟩
theorem argsIn_nil {w : World} : ArgsIn (Env.of w) w [] [] := ⟨rfl, fun c ag ts v h => by simp at h⟩
theorem argsIn_cons {w : World} {ag : Bool} {ts : List T} {v : Value} {ins : List (Bool × List T)} {vs : List Value} (h : ArgT w ag ts v) (k : ArgsIn (Env.of w) w ins vs) : ArgsIn (Env.of w) w ((ag, ts) :: ins) (v :: vs) := by
  refine ⟨by simp [k.1], fun c ag' ts' v' h1 h2 => ?_⟩
  cases c with
  | zero =>
    cases h1; cases h2
    obtain ⟨us, h3, h4, h5⟩ := h
    exact ⟨us, h3, h4, fun j t u h6 h7 => (h5 j t u h6 h7).frame (Nat.le_refl _) fun b hb _ => ⟨Env.of_old.2 hb, rfl⟩⟩
  | succ c => exact k.2 c ag' ts' v' (by simpa using h1) (by simpa using h2)
/-- A law's contract, as its last step takes it. -/
theorem VC.law {f : FuncId} {ins : List (Bool × List T)} (h : VC Tryd.prog f ins false [(false, [.lit (.bool true)])]) {w : World} {vs : List Value} (hv : ArgsIn (Env.of w) w ins vs) : Calls Tryd.prog f vs.toArray w fun e w' => e = .returned (.bool true) ∧ Below w.heap.size w w' :=
  (h w vs hv).mono fun e w' hg => by
    obtain ⟨h1, h2⟩ := hg.lit
    exact ⟨h1, h2.os, h2.tape, h2.output, h2.size, fun k hk => h2.block k (Env.of_old.2 hk)⟩
end Go.Proofs.YtmlcdhblofjpbaaDoor
/- Row: the laws' own functions over it, told by trees: each by its contract. -/
namespace Go.Proofs.YtmlcdhblofjpbaaDoor
open Go Go.RowKit V
set_option linter.unusedVariables false
set_option maxRecDepth 100000 in
set_option maxHeartbeats 2000000 in
theorem vsz_rows (X : List R) (left : Int) (h0 : 0 ≤ left) (h1 : left ≤ 1048576) : VC Tryd.prog 167 [(false, [.seq 202 (X.map uRow)]), (false, [.lit (.int .i64 left)])] false [(false, [.lit (.int .i64 (szR left (wtRows X)))])] := by
  refine VC.enter Tryd.func167 rfl Tryd.ntmps167 (Nat.le_of_ble_eq_true rfl) fun E hE => ?_
  refine SV.lenle (s := 0) rfl rfl fun hml => ?_
  have hml2 : X.length ≤ 9223372036854775807 := by rw [← List.length_map (f := uRow)]; exact hml
  have hl2 : (X.map uRow).length = X.length := List.length_map _
  have hlen := wt_row_len X
  have hwX : wtRows X = X.length := rfl
  refine SV.seq' ?_
  refine SV.region ?_
  refine SV.op (OpL.ok (nb := 0) (ok_move (v := V.one (.sc _)) (.inr rfl) rfl) rfl (Nat.le_of_ble_eq_true rfl)) rfl ?_
  refine SV.nil ?_
  refine SV.tn ?_
  refine SV.seq' ?_
  refine SV.region ?_
  refine SV.op (OpL.ok (nb := 0) (ok_move (v := V.one (.sc _)) (.inl rfl) rfl) rfl (Nat.le_of_ble_eq_true rfl)) rfl ?_
  refine SV.op (OpL.ok (nb := 0) (ok_move (v := V.one (.ro _)) (.inl rfl) rfl) rfl (Nat.le_of_ble_eq_true rfl)) rfl ?_
  refine SV.op (OpL.ok (nb := 0) (ok_len (lf := .ro _) rfl elt_laws_Row.und rfl rfl) rfl (Nat.le_of_ble_eq_true rfl)) rfl ?_
  refine SV.op (OpL.ok (nb := 0) (ok_s2 (x := .tmp 5) (x' := .tmp 7) (VScal.one rfl) (VScal.one rfl) (fun ρ h1 h2 w => by go_simp; (try go_bits); with_reducible rfl) rfl) rfl (Nat.le_of_ble_eq_true rfl)) rfl ?_
  refine SV.op (OpL.ok (nb := 0) (ok_move (v := V.one (.sc _)) (.inr rfl) rfl) rfl (Nat.le_of_ble_eq_true rfl)) rfl ?_
  refine SV.nil ?_
  refine SV.tn ?_
  refine SV.seq' ?_
  refine SV.seq' ?_
  refine SV.region ?_
  refine SV.op (OpL.ok (nb := 0) (ok_move (v := V.one (.sc _)) (.inl rfl) rfl) rfl (Nat.le_of_ble_eq_true rfl)) rfl ?_
  refine SV.op (OpL.ok (nb := 0) (ok_s2 (x := .tmp 9) (x' := .const ((Value.int IntKind.i64 0))) (VScal.one rfl) (VScal.one rfl) (fun ρ h1 h2 w => by go_simp; (try go_bits); with_reducible rfl) rfl) rfl (Nat.le_of_ble_eq_true rfl)) rfl ?_
  refine SV.nil ?_
  refine SV.tn ?_
  refine SV.cond rfl (fun hc0 => ?_) (fun hc0 => ?_)
  · skip   -- c0.T
    have hb : left - (X.length : Nat) < 0 := by simpa using hc0
    refine SV.seq' ?_
    refine SV.region ?_
    refine SV.op (OpL.ok (nb := 0) (ok_move (v := V.one (.sc _)) (.inr rfl) rfl) rfl (Nat.le_of_ble_eq_true rfl)) rfl ?_
    refine SV.nil ?_
    refine SV.tn ?_
    refine SV.ret ?_
    refine SV.tr ?_
    apply SV.done (hf := Tryd.results167) (ht := rfl) (he := .inl rfl)
    case hr => exact (ResAll.cons (ResOk.tmp (ag := false) (xs := [.sc _]) rfl) ResAll.nil')
    case h2 => simp [two]
    refine ⟨rfl, ⟨?_, trivial⟩, trivial⟩ <;> (show some (T.lit (Value.int .i64 _)) = some (T.lit (Value.int .i64 _)); refine congrArg (fun z => some (T.lit (Value.int .i64 z))) ?_; unfold szR; split <;> omega)
  · skip   -- c0.F
    have hb : ¬ left - (X.length : Nat) < 0 := by simpa using hc0
    refine SV.skip ?_
    refine SV.tn ?_
    refine SV.seq' ?_
    refine SV.region ?_
    refine SV.op (OpL.ok (nb := 0) (ok_move (v := V.one (.sc _)) (.inl rfl) rfl) rfl (Nat.le_of_ble_eq_true rfl)) rfl ?_
    refine SV.op (OpL.ok (nb := 0) (ok_move (v := V.one (.sc _)) (.inr rfl) rfl) rfl (Nat.le_of_ble_eq_true rfl)) rfl ?_
    refine SV.nil ?_
    refine SV.tn ?_
    refine SV.ret ?_
    apply SV.done (hf := Tryd.results167) (ht := rfl) (he := .inl rfl)
    case hr => exact (ResAll.cons (ResOk.tmp (ag := false) (xs := [.sc _]) rfl) ResAll.nil')
    case h2 => simp [two]
    refine ⟨rfl, ⟨?_, trivial⟩, trivial⟩ <;> (show some (T.lit (Value.int .i64 _)) = some (T.lit (Value.int .i64 _)); refine congrArg (fun z => some (T.lit (Value.int .i64 z))) ?_; unfold szR; split <;> omega)
set_option maxRecDepth 100000 in
set_option maxHeartbeats 2000000 in
theorem vmk_rows' (X : List R) (q : Int) (hq0 : 0 ≤ q) (hq1 : q + 3 * X.length ≤ 100000000000000) : VM Tryd.prog 138 [(false, [.ln 0]), (false, [.rd (.lit (.int .i64 q))])] [.seq 41 (X.map tRow)] [.seq 41 ((mkAll rowMk q X).map tRow)] (.int .i64 (q + (cntAll rowMk X : Nat))) := by
  refine VM.enter (m := 1) rfl Tryd.func138 rfl Tryd.ntmps138 (Nat.le_of_ble_eq_true rfl) fun E hE => ?_
  have hC := rows_cnt X
  refine SV.seq' ?_
  refine SV.region ?_
  refine SV.op (OpL.ok (nb := 0) (ok_move (v := V.one (.sc _)) (.inr rfl) rfl) rfl (Nat.le_of_ble_eq_true rfl)) rfl ?_
  refine SV.nil ?_
  refine SV.tn ?_
  refine SV.seq' ?_
  refine SV.seq' ?_
  refine SV.region ?_
  refine SV.op (OpL.ok (nb := 0) (ok_move (v := V.one (.sc _)) (.inr rfl) rfl) rfl (Nat.le_of_ble_eq_true rfl)) rfl ?_
  refine SV.nil ?_
  refine SV.tn ?_
  refine SV.block ?_
  refine SV.loop (X := Nat) (fun t => ((((VS.nil.new (.seq 41 (mkL rowMk tRow q X t))).put 0 (V.one (.hd 0))).put 1 (V.one (.sc (.int .i64 (q + (cntAll rowMk (X.take t) : Nat)))))).put 5 (V.one (.sc (.int .i64 (t : Int)))))) (fun t => t ≤ X.length) (fun t => X.length - t) ?_ ?_
  · skip
    refine SV.again (fun i => [0].getD i 0) 0 (Nat.zero_le _) (pins hE rfl rfl) (VS.le.mk' (le_put (le_put (le_put (le_new le_nil) (V.le.one rfl ⟨rfl, (Nat.le_of_ble_eq_true rfl), (Nat.le_of_ble_eq_true rfl)⟩)) (V.le.one rfl (by first | rfl | (show Leaf.sc _ = Leaf.sc _; refine congrArg Leaf.sc ?_; first | rfl | go_num | (simp [cntAll]; done)) | (simp [cntAll]; done) | (simp; omega)))) (V.le.one rfl (by first | rfl | (show Leaf.sc _ = Leaf.sc _; refine congrArg Leaf.sc ?_; first | rfl | go_num | (simp [cntAll]; done)) | (simp [cntAll]; done) | (simp; omega)))) trivial ⟨.inr ⟨_, _, rfl, ?ob1_0, (Nat.le_of_ble_eq_true rfl)⟩, trivial⟩ (new_ob nil_ob) (fun i j hi hj e => inj_list (l := [0]) (by decide) i j hi hj e))
    case ob1_0 =>
      show some (T.seq _ _) = some (T.seq _ _)
      rw [mkL_zero]
  · rintro t ht
    refine SV.seq' ?_
    refine SV.seq' ?_
    refine SV.region ?_
    refine SV.op (OpL.ok (nb := 0) (ok_move (v := V.one (.sc _)) (.inl rfl) rfl) rfl (Nat.le_of_ble_eq_true rfl)) rfl ?_
    refine SV.op (OpL.ok (nb := 0) (ok_move (v := V.one (.hd 0)) (.inl rfl) rfl) rfl (Nat.le_of_ble_eq_true rfl)) rfl ?_
    refine SV.op (OpL.ok (nb := 0) (ok_len (lf := .hd 0) rfl elt_impl_Row.und rfl rfl) rfl (Nat.le_of_ble_eq_true rfl)) rfl ?_
    refine SV.op (OpL.ok (nb := 0) (ok_s2 (x := .tmp 6) (x' := .tmp 8) (VScal.one rfl) (VScal.one rfl) (fun ρ h1 h2 w => by go_simp; (try go_bits); with_reducible rfl) rfl) rfl (Nat.le_of_ble_eq_true rfl)) rfl ?_
    refine SV.nil ?_
    refine SV.tn ?_
    refine SV.cond rfl (fun hc0 => ?_) (fun hc0 => ?_)
    · skip   -- c0.T
      have htl : t < X.length := by have := mkL_len (m := rowMk) (f := tRow) (q := q) ht; rw [show (mkL rowMk tRow q X t).length = X.length from this] at hc0; simpa using hc0
      have hcn := cntAll_next rowMk X t htl
      have hct := cntAll_take rowMk X (t + 1)
      have hc3 : rowMk.cnt X[t] = 3 := rfl
      refine SV.skip ?_
      refine SV.tn ?_
      refine SV.seq' ?_
      refine SV.block ?_
      refine SV.seq' ?_
      refine SV.region ?_
      refine SV.op (OpL.ok (nb := 0) (ok_move (v := V.one (.hd 0)) (.inl rfl) rfl) rfl (Nat.le_of_ble_eq_true rfl)) rfl ?_
      refine SV.op (OpL.ok (nb := 0) (ok_move (v := V.one (.sc _)) (.inl rfl) rfl) rfl (Nat.le_of_ble_eq_true rfl)) rfl ?_
      refine SV.op (OpL.ok (nb := 0) (ok_move (v := V.one (.sc _)) (.inl rfl) rfl) rfl (Nat.le_of_ble_eq_true rfl)) rfl ?_
      refine SV.op (OpL.ok (nb := 0) (ok_index (n := 3) (lf := .hd 0) rfl elt_impl_Row.und sz_impl_Row rfl rfl rfl (mkL_at htl)) rfl (Nat.le_of_ble_eq_true rfl)) rfl ?_
      refine SV.op (OpL.ok (nb := 0) (ok_field_el (p := .ep 0 _ _ _) (off := 0) rfl rfl (cells_ep rfl (mkL_at htl) rfl rfl) fld_impl_Row_0) rfl (Nat.le_of_ble_eq_true rfl)) rfl ?_
      refine SV.op (ok_store_ep (i := 0) (n := 3) (m := 1) (ag := false) (zs := [.sc _]) rfl rfl rfl rfl (mkL_at htl) sz_int (fun _ => rfl) rfl sz_impl_Row (Nat.le_of_ble_eq_true rfl) (outs_c rfl outs_n) (by simp [two]) rfl rfl rfl) rfl ?_
      refine SV.nil ?_
      refine SV.tn ?_
      refine SV.seq' ?_
      refine SV.region ?_
      refine SV.op (OpL.ok (nb := 0) (ok_move (v := V.one (.sc _)) (.inl rfl) rfl) rfl (Nat.le_of_ble_eq_true rfl)) rfl ?_
      refine SV.op (OpL.ok (nb := 0) (ok_s2 (v := .int .i64 (q + (cntAll rowMk (X.take t) : Nat) + 1)) (x := .tmp 17) (x' := .const ((Value.int IntKind.i64 1))) (VScal.one rfl) (VScal.one rfl) (fun ρ h1 h2 w => by go_simp; all_goals ((try go_bits); first | with_reducible rfl | go_num | (simp; done) | (simp; omega))) rfl) rfl (Nat.le_of_ble_eq_true rfl)) rfl ?_
      refine SV.op (OpL.ok (nb := 0) (ok_move (v := V.one (.sc _)) (.inr rfl) rfl) rfl (Nat.le_of_ble_eq_true rfl)) rfl ?_
      refine SV.nil ?_
      refine SV.tn ?_
      refine SV.seq' ?_
      refine SV.region ?_
      refine SV.op (OpL.ok (nb := 0) (ok_move (v := V.one (.hd 0)) (.inl rfl) rfl) rfl (Nat.le_of_ble_eq_true rfl)) rfl ?_
      refine SV.op (OpL.ok (nb := 0) (ok_move (v := V.one (.sc _)) (.inl rfl) rfl) rfl (Nat.le_of_ble_eq_true rfl)) rfl ?_
      refine SV.op (OpL.ok (nb := 0) (ok_move (v := V.one (.sc _)) (.inl rfl) rfl) rfl (Nat.le_of_ble_eq_true rfl)) rfl ?_
      refine SV.op (OpL.ok (nb := 0) (ok_index (n := 3) (lf := .hd 0) rfl elt_impl_Row.und sz_impl_Row rfl rfl rfl (set_self (mkL_lt htl))) rfl (Nat.le_of_ble_eq_true rfl)) rfl ?_
      refine SV.op (OpL.ok (nb := 0) (ok_field_el (p := .ep 0 _ _ _) (off := 1) rfl rfl (cells_ep rfl (set_self (mkL_lt htl)) rfl rfl) fld_impl_Row_1) rfl (Nat.le_of_ble_eq_true rfl)) rfl ?_
      refine SV.op (ok_store_ep (i := 0) (n := 3) (m := 1) (ag := false) (zs := [.sc _]) rfl rfl rfl rfl (set_self (mkL_lt htl)) sz_int (fun _ => rfl) rfl sz_impl_Row (Nat.le_of_ble_eq_true rfl) (outs_c rfl outs_n) (by simp [two]) rfl (set_twice (by rfl)) rfl) rfl ?_
      refine SV.nil ?_
      refine SV.tn ?_
      refine SV.seq' ?_
      refine SV.region ?_
      refine SV.op (OpL.ok (nb := 0) (ok_move (v := V.one (.sc _)) (.inl rfl) rfl) rfl (Nat.le_of_ble_eq_true rfl)) rfl ?_
      refine SV.op (OpL.ok (nb := 0) (ok_s2 (v := .int .i64 (q + (cntAll rowMk (X.take t) : Nat) + 1 + 1)) (x := .tmp 24) (x' := .const ((Value.int IntKind.i64 1))) (VScal.one rfl) (VScal.one rfl) (fun ρ h1 h2 w => by go_simp; all_goals ((try go_bits); first | with_reducible rfl | go_num | (simp; done) | (simp; omega))) rfl) rfl (Nat.le_of_ble_eq_true rfl)) rfl ?_
      refine SV.op (OpL.ok (nb := 0) (ok_move (v := V.one (.sc _)) (.inr rfl) rfl) rfl (Nat.le_of_ble_eq_true rfl)) rfl ?_
      refine SV.nil ?_
      refine SV.tn ?_
      refine SV.seq' ?_
      refine SV.region ?_
      refine SV.op (OpL.ok (nb := 0) (ok_move (v := V.one (.hd 0)) (.inl rfl) rfl) rfl (Nat.le_of_ble_eq_true rfl)) rfl ?_
      refine SV.op (OpL.ok (nb := 0) (ok_move (v := V.one (.sc _)) (.inl rfl) rfl) rfl (Nat.le_of_ble_eq_true rfl)) rfl ?_
      refine SV.op (OpL.ok (nb := 0) (ok_move (v := V.one (.sc _)) (.inl rfl) rfl) rfl (Nat.le_of_ble_eq_true rfl)) rfl ?_
      refine SV.op (OpL.ok (nb := 0) (ok_index (n := 3) (lf := .hd 0) rfl elt_impl_Row.und sz_impl_Row rfl rfl rfl (set_self (mkL_lt htl))) rfl (Nat.le_of_ble_eq_true rfl)) rfl ?_
      refine SV.op (OpL.ok (nb := 0) (ok_field_el (p := .ep 0 _ _ _) (off := 2) rfl rfl (cells_ep rfl (set_self (mkL_lt htl)) rfl rfl) fld_impl_Row_2) rfl (Nat.le_of_ble_eq_true rfl)) rfl ?_
      refine SV.op (ok_store_ep (i := 0) (n := 3) (m := 1) (ag := false) (zs := [.sc _]) rfl rfl rfl rfl (set_self (mkL_lt htl)) sz_int (fun _ => rfl) rfl sz_impl_Row (Nat.le_of_ble_eq_true rfl) (outs_c rfl outs_n) (by simp [two]) rfl (set_twice (by rfl)) rfl) rfl ?_
      refine SV.nil ?_
      refine SV.tn ?_
      refine SV.region ?_
      refine SV.op (OpL.ok (nb := 0) (ok_move (v := V.one (.sc _)) (.inl rfl) rfl) rfl (Nat.le_of_ble_eq_true rfl)) rfl ?_
      refine SV.op (OpL.ok (nb := 0) (ok_s2 (v := .int .i64 (q + (cntAll rowMk (X.take t) : Nat) + 1 + 1 + 1)) (x := .tmp 31) (x' := .const ((Value.int IntKind.i64 1))) (VScal.one rfl) (VScal.one rfl) (fun ρ h1 h2 w => by go_simp; all_goals ((try go_bits); first | with_reducible rfl | go_num | (simp; done) | (simp; omega))) rfl) rfl (Nat.le_of_ble_eq_true rfl)) rfl ?_
      refine SV.op (OpL.ok (nb := 0) (ok_move (v := V.one (.sc _)) (.inr rfl) rfl) rfl (Nat.le_of_ble_eq_true rfl)) rfl ?_
      refine SV.nil ?_
      refine SV.bn ?_
      refine SV.tn ?_
      refine SV.region ?_
      refine SV.op (OpL.ok (nb := 0) (ok_move (v := V.one (.sc _)) (.inl rfl) rfl) rfl (Nat.le_of_ble_eq_true rfl)) rfl ?_
      refine SV.op (OpL.ok (nb := 0) (ok_s2 (x := .tmp 10) (x' := .const ((Value.int IntKind.i64 1))) (VScal.one rfl) (VScal.one rfl) (fun ρ h1 h2 w => by go_simp; (try go_bits); with_reducible rfl) rfl) rfl (Nat.le_of_ble_eq_true rfl)) rfl ?_
      refine SV.op (OpL.ok (nb := 0) (ok_move (v := V.one (.sc _)) (.inr rfl) rfl) rfl (Nat.le_of_ble_eq_true rfl)) rfl ?_
      refine SV.nil ?_
      refine SV.tn ?_
      refine SV.again (fun i => [0].getD i 0) (t + 1) (⟨by omega, by omega⟩) (pins hE rfl rfl) (VS.le.mk' (le_put (le_put (le_put (le_new le_nil) (V.le.one rfl ⟨rfl, (Nat.le_of_ble_eq_true rfl), (Nat.le_of_ble_eq_true rfl)⟩)) (V.le.one rfl (by first | rfl | (show Leaf.sc _ = Leaf.sc _; refine congrArg Leaf.sc ?_; first | rfl | go_num | (simp [cntAll]; done)) | (simp [cntAll]; done) | (simp; omega)))) (V.le.one rfl (by first | rfl | (show Leaf.sc _ = Leaf.sc _; refine congrArg Leaf.sc ?_; first | rfl | go_num | (simp [cntAll]; done)) | (simp [cntAll]; done) | (simp; omega)))) trivial ⟨.inr ⟨_, _, rfl, ?ob2_0, (Nat.le_of_ble_eq_true rfl)⟩, trivial⟩ (new_ob nil_ob) (fun i j hi hj e => inj_list (l := [0]) (by decide) i j hi hj e))
      case ob2_0 =>
        show some (T.seq _ _) = some (T.seq _ _)
        rw [← mkL_next htl]
        rfl
    · skip   -- c0.F
      have hte : ¬ t < X.length := by have := mkL_len (m := rowMk) (f := tRow) (q := q) ht; rw [show (mkL rowMk tRow q X t).length = X.length from this] at hc0; simpa using hc0
      refine SV.exit ?_
      refine SV.te ?_
      refine SV.te ?_
      refine SV.bh ?_
      refine SV.tn ?_
      refine SV.seq' ?_
      refine SV.region ?_
      refine SV.op (OpL.ok (nb := 0) (ok_move (v := V.one (.sc _)) (.inl rfl) rfl) rfl (Nat.le_of_ble_eq_true rfl)) rfl ?_
      refine SV.op (OpL.ok (nb := 0) (ok_move (v := V.one (.sc _)) (.inr rfl) rfl) rfl (Nat.le_of_ble_eq_true rfl)) rfl ?_
      refine SV.nil ?_
      refine SV.tn ?_
      refine SV.ret ?_
      refine SV.doneM hE rfl ⟨?_, trivial⟩ (.inl rfl) ?_
      · exact congrArg some (congrArg (T.seq _) (mkL_all hte))
      apply SV.done (hf := Tryd.results138) (ht := rfl) (he := .inl rfl)
      case hr => exact (ResAll.cons (ResOk.tmp (ag := false) (xs := [.sc _]) rfl) ResAll.nil')
      case h2 => simp [two]
      refine ⟨rfl, ⟨?_, trivial⟩, trivial⟩ <;> (show some (T.lit (Value.int .i64 _)) = some (T.lit (Value.int .i64 _)); rw [List.take_of_length_le (by omega)])
theorem vmk_rows (X : List R) (q : Int) (hq0 : 0 ≤ q) (hq1 : q + 64 * wtRows X ≤ 100000000000000) : VM Tryd.prog 138 [(false, [.ln 0]), (false, [.rd (.lit (.int .i64 q))])] [.seq 41 (X.map tRow)] [.seq 41 ((rowsMk.mark q X).map tRow)] (.int .i64 (q + (rowsMk.cnt X : Nat))) := by
  have h := vmk_rows' X q hq0 (by have h1 : wtRows X = X.length := rfl; omega)
  rw [rows_all, rows_cnt']
  exact h
set_option maxRecDepth 100000 in
set_option maxHeartbeats 2000000 in
theorem vhd_rows' (X : List R) (q : Int) (hq0 : 0 ≤ q) (hq1 : q + 3 * X.length ≤ 100000000000000) : VC Tryd.prog 139 [(false, [.seq 41 ((mkAll rowMk q X).map tRow)]), (false, [.lit (.int .i64 q)])] false [(false, [.lit (.int .i64 (q + (cntAll rowMk X : Nat)))])] := by
  refine VC.enter Tryd.func139 rfl Tryd.ntmps139 (Nat.le_of_ble_eq_true rfl) fun E hE => ?_
  have hC := rows_cnt X
  refine SV.seq' ?_
  refine SV.region ?_
  refine SV.op (OpL.ok (nb := 0) (ok_move (v := V.one (.sc _)) (.inr rfl) rfl) rfl (Nat.le_of_ble_eq_true rfl)) rfl ?_
  refine SV.nil ?_
  refine SV.tn ?_
  refine SV.seq' ?_
  refine SV.seq' ?_
  refine SV.region ?_
  refine SV.op (OpL.ok (nb := 0) (ok_move (v := V.one (.sc _)) (.inr rfl) rfl) rfl (Nat.le_of_ble_eq_true rfl)) rfl ?_
  refine SV.nil ?_
  refine SV.tn ?_
  refine SV.block ?_
  refine SV.loop (X := Nat) (fun t => (((VS.nil.put 0 (V.one (.ro (.seq 41 ((mkAll rowMk q X).map tRow))))).put 1 (V.one (.sc (.int .i64 (q + (cntAll rowMk (X.take t) : Nat)))))).put 5 (V.one (.sc (.int .i64 (t : Int)))))) (fun t => t ≤ X.length) (fun t => X.length - t) ?_ ?_
  · skip
    refine SV.again (fun i => [].getD i 0) 0 (Nat.zero_le _) (pins hE rfl rfl) (VS.le.mk' (le_put (le_put (le_put le_nil (V.le.one rfl (by first | rfl | (show Leaf.sc _ = Leaf.sc _; refine congrArg Leaf.sc ?_; first | rfl | go_num | (simp [cntAll]; done)) | (simp [cntAll]; done) | (simp; omega)))) (V.le.one rfl (by first | rfl | (show Leaf.sc _ = Leaf.sc _; refine congrArg Leaf.sc ?_; first | rfl | go_num | (simp [cntAll]; done)) | (simp [cntAll]; done) | (simp; omega)))) (V.le.one rfl (by first | rfl | (show Leaf.sc _ = Leaf.sc _; refine congrArg Leaf.sc ?_; first | rfl | go_num | (simp [cntAll]; done)) | (simp [cntAll]; done) | (simp; omega)))) trivial trivial nil_ob (fun i j hi hj e => absurd hi (Nat.not_lt_zero i)))
  · rintro t ht
    refine SV.seq' ?_
    refine SV.seq' ?_
    refine SV.region ?_
    refine SV.op (OpL.ok (nb := 0) (ok_move (v := V.one (.sc _)) (.inl rfl) rfl) rfl (Nat.le_of_ble_eq_true rfl)) rfl ?_
    refine SV.op (OpL.ok (nb := 0) (ok_move (v := V.one (.ro _)) (.inl rfl) rfl) rfl (Nat.le_of_ble_eq_true rfl)) rfl ?_
    refine SV.op (OpL.ok (nb := 0) (ok_len (lf := .ro _) rfl elt_impl_Row.und rfl rfl) rfl (Nat.le_of_ble_eq_true rfl)) rfl ?_
    refine SV.op (OpL.ok (nb := 0) (ok_s2 (x := .tmp 6) (x' := .tmp 8) (VScal.one rfl) (VScal.one rfl) (fun ρ h1 h2 w => by go_simp; (try go_bits); with_reducible rfl) rfl) rfl (Nat.le_of_ble_eq_true rfl)) rfl ?_
    refine SV.nil ?_
    refine SV.tn ?_
    refine SV.cond rfl (fun hc0 => ?_) (fun hc0 => ?_)
    · skip   -- c0.T
      have htl : t < X.length := by simpa [mkAll_length] using hc0
      have hx := mkAll_get rowMk q X t htl
      have hcn := cntAll_next rowMk X t htl
      have hct := cntAll_take rowMk X (t + 1)
      have hc3 : rowMk.cnt X[t] = 3 := rfl
      refine SV.skip ?_
      refine SV.tn ?_
      refine SV.seq' ?_
      refine SV.block ?_
      refine SV.seq' ?_
      refine SV.seq' ?_
      refine SV.region ?_
      refine SV.op (OpL.ok (nb := 0) (ok_move (v := V.one (.ro _)) (.inl rfl) rfl) rfl (Nat.le_of_ble_eq_true rfl)) rfl ?_
      refine SV.op (OpL.ok (nb := 0) (ok_move (v := V.one (.sc _)) (.inl rfl) rfl) rfl (Nat.le_of_ble_eq_true rfl)) rfl ?_
      refine SV.op (OpL.ok (nb := 0) (ok_index (n := 3) (lf := .ro _) rfl elt_impl_Row.und sz_impl_Row rfl rfl rfl (map_at (by assumption))) rfl (Nat.le_of_ble_eq_true rfl)) rfl ?_
      refine SV.op (OpL.ok (nb := 0) (ok_field_el (p := .rp _) (off := 0) rfl rfl rfl fld_impl_Row_0) rfl (Nat.le_of_ble_eq_true rfl)) rfl ?_
      refine SV.op (OpL.ok (nb := 0) (ok_load_rp (ag := false) (m := 1) (ys := [.sc _]) rfl rfl agg_int sz_int (fun _ => rfl) (Nat.le_of_ble_eq_true rfl) rfl) rfl (Nat.le_of_ble_eq_true rfl)) rfl ?_
      refine SV.op (OpL.ok (nb := 0) (ok_move (v := V.one (.sc _)) (.inl rfl) rfl) rfl (Nat.le_of_ble_eq_true rfl)) rfl ?_
      refine SV.op (OpL.ok (nb := 0) (ok_s2 (x := .tmp 16) (x' := .tmp 17) (VScal.one rfl) (VScal.one rfl) (fun ρ h1 h2 w => by go_simp; (try go_bits); with_reducible rfl) rfl) rfl (Nat.le_of_ble_eq_true rfl)) rfl ?_
      refine SV.nil ?_
      refine SV.tn ?_
      refine SV.cond rfl (fun hc1 => ?_) (fun hc1 => ?_)
      · skip   -- c1.T
        (exfalso; first | (simp at hc1; omega) | (simp [rowMk] at hc1; done) | (simp [rowMk] at hc1; omega))
      · skip   -- c1.F
        refine SV.skip ?_
        refine SV.tn ?_
        refine SV.seq' ?_
        refine SV.region ?_
        refine SV.op (OpL.ok (nb := 0) (ok_move (v := V.one (.sc _)) (.inl rfl) rfl) rfl (Nat.le_of_ble_eq_true rfl)) rfl ?_
        refine SV.op (OpL.ok (nb := 0) (ok_s2 (v := .int .i64 (q + (cntAll rowMk (X.take t) : Nat) + 1)) (x := .tmp 19) (x' := .const ((Value.int IntKind.i64 1))) (VScal.one rfl) (VScal.one rfl) (fun ρ h1 h2 w => by go_simp; all_goals ((try go_bits); first | with_reducible rfl | go_num | (simp; done) | (simp; omega))) rfl) rfl (Nat.le_of_ble_eq_true rfl)) rfl ?_
        refine SV.op (OpL.ok (nb := 0) (ok_move (v := V.one (.sc _)) (.inr rfl) rfl) rfl (Nat.le_of_ble_eq_true rfl)) rfl ?_
        refine SV.nil ?_
        refine SV.tn ?_
        refine SV.seq' ?_
        refine SV.seq' ?_
        refine SV.region ?_
        refine SV.op (OpL.ok (nb := 0) (ok_move (v := V.one (.ro _)) (.inl rfl) rfl) rfl (Nat.le_of_ble_eq_true rfl)) rfl ?_
        refine SV.op (OpL.ok (nb := 0) (ok_move (v := V.one (.sc _)) (.inl rfl) rfl) rfl (Nat.le_of_ble_eq_true rfl)) rfl ?_
        refine SV.op (OpL.ok (nb := 0) (ok_index (n := 3) (lf := .ro _) rfl elt_impl_Row.und sz_impl_Row rfl rfl rfl (map_at (by assumption))) rfl (Nat.le_of_ble_eq_true rfl)) rfl ?_
        refine SV.op (OpL.ok (nb := 0) (ok_field_el (p := .rp _) (off := 1) rfl rfl rfl fld_impl_Row_1) rfl (Nat.le_of_ble_eq_true rfl)) rfl ?_
        refine SV.op (OpL.ok (nb := 0) (ok_load_rp (ag := false) (m := 1) (ys := [.sc _]) rfl rfl agg_int sz_int (fun _ => rfl) (Nat.le_of_ble_eq_true rfl) rfl) rfl (Nat.le_of_ble_eq_true rfl)) rfl ?_
        refine SV.op (OpL.ok (nb := 0) (ok_move (v := V.one (.sc _)) (.inl rfl) rfl) rfl (Nat.le_of_ble_eq_true rfl)) rfl ?_
        refine SV.op (OpL.ok (nb := 0) (ok_s2 (x := .tmp 25) (x' := .tmp 26) (VScal.one rfl) (VScal.one rfl) (fun ρ h1 h2 w => by go_simp; (try go_bits); with_reducible rfl) rfl) rfl (Nat.le_of_ble_eq_true rfl)) rfl ?_
        refine SV.nil ?_
        refine SV.tn ?_
        refine SV.cond rfl (fun hc2 => ?_) (fun hc2 => ?_)
        · skip   -- c2.T
          (exfalso; first | (simp at hc2; omega) | (simp [rowMk] at hc2; done) | (simp [rowMk] at hc2; omega))
        · skip   -- c2.F
          refine SV.skip ?_
          refine SV.tn ?_
          refine SV.seq' ?_
          refine SV.region ?_
          refine SV.op (OpL.ok (nb := 0) (ok_move (v := V.one (.sc _)) (.inl rfl) rfl) rfl (Nat.le_of_ble_eq_true rfl)) rfl ?_
          refine SV.op (OpL.ok (nb := 0) (ok_s2 (v := .int .i64 (q + (cntAll rowMk (X.take t) : Nat) + 1 + 1)) (x := .tmp 28) (x' := .const ((Value.int IntKind.i64 1))) (VScal.one rfl) (VScal.one rfl) (fun ρ h1 h2 w => by go_simp; all_goals ((try go_bits); first | with_reducible rfl | go_num | (simp; done) | (simp; omega))) rfl) rfl (Nat.le_of_ble_eq_true rfl)) rfl ?_
          refine SV.op (OpL.ok (nb := 0) (ok_move (v := V.one (.sc _)) (.inr rfl) rfl) rfl (Nat.le_of_ble_eq_true rfl)) rfl ?_
          refine SV.nil ?_
          refine SV.tn ?_
          refine SV.seq' ?_
          refine SV.seq' ?_
          refine SV.region ?_
          refine SV.op (OpL.ok (nb := 0) (ok_move (v := V.one (.ro _)) (.inl rfl) rfl) rfl (Nat.le_of_ble_eq_true rfl)) rfl ?_
          refine SV.op (OpL.ok (nb := 0) (ok_move (v := V.one (.sc _)) (.inl rfl) rfl) rfl (Nat.le_of_ble_eq_true rfl)) rfl ?_
          refine SV.op (OpL.ok (nb := 0) (ok_index (n := 3) (lf := .ro _) rfl elt_impl_Row.und sz_impl_Row rfl rfl rfl (map_at (by assumption))) rfl (Nat.le_of_ble_eq_true rfl)) rfl ?_
          refine SV.op (OpL.ok (nb := 0) (ok_field_el (p := .rp _) (off := 2) rfl rfl rfl fld_impl_Row_2) rfl (Nat.le_of_ble_eq_true rfl)) rfl ?_
          refine SV.op (OpL.ok (nb := 0) (ok_load_rp (ag := false) (m := 1) (ys := [.sc _]) rfl rfl agg_int sz_int (fun _ => rfl) (Nat.le_of_ble_eq_true rfl) rfl) rfl (Nat.le_of_ble_eq_true rfl)) rfl ?_
          refine SV.op (OpL.ok (nb := 0) (ok_move (v := V.one (.sc _)) (.inl rfl) rfl) rfl (Nat.le_of_ble_eq_true rfl)) rfl ?_
          refine SV.op (OpL.ok (nb := 0) (ok_s2 (x := .tmp 34) (x' := .tmp 35) (VScal.one rfl) (VScal.one rfl) (fun ρ h1 h2 w => by go_simp; (try go_bits); with_reducible rfl) rfl) rfl (Nat.le_of_ble_eq_true rfl)) rfl ?_
          refine SV.nil ?_
          refine SV.tn ?_
          refine SV.cond rfl (fun hc3 => ?_) (fun hc3 => ?_)
          · skip   -- c3.T
            (exfalso; first | (simp at hc3; omega) | (simp [rowMk] at hc3; done) | (simp [rowMk] at hc3; omega))
          · skip   -- c3.F
            refine SV.skip ?_
            refine SV.tn ?_
            refine SV.region ?_
            refine SV.op (OpL.ok (nb := 0) (ok_move (v := V.one (.sc _)) (.inl rfl) rfl) rfl (Nat.le_of_ble_eq_true rfl)) rfl ?_
            refine SV.op (OpL.ok (nb := 0) (ok_s2 (v := .int .i64 (q + (cntAll rowMk (X.take t) : Nat) + 1 + 1 + 1)) (x := .tmp 37) (x' := .const ((Value.int IntKind.i64 1))) (VScal.one rfl) (VScal.one rfl) (fun ρ h1 h2 w => by go_simp; all_goals ((try go_bits); first | with_reducible rfl | go_num | (simp; done) | (simp; omega))) rfl) rfl (Nat.le_of_ble_eq_true rfl)) rfl ?_
            refine SV.op (OpL.ok (nb := 0) (ok_move (v := V.one (.sc _)) (.inr rfl) rfl) rfl (Nat.le_of_ble_eq_true rfl)) rfl ?_
            refine SV.nil ?_
            refine SV.bn ?_
            refine SV.tn ?_
            refine SV.region ?_
            refine SV.op (OpL.ok (nb := 0) (ok_move (v := V.one (.sc _)) (.inl rfl) rfl) rfl (Nat.le_of_ble_eq_true rfl)) rfl ?_
            refine SV.op (OpL.ok (nb := 0) (ok_s2 (x := .tmp 10) (x' := .const ((Value.int IntKind.i64 1))) (VScal.one rfl) (VScal.one rfl) (fun ρ h1 h2 w => by go_simp; (try go_bits); with_reducible rfl) rfl) rfl (Nat.le_of_ble_eq_true rfl)) rfl ?_
            refine SV.op (OpL.ok (nb := 0) (ok_move (v := V.one (.sc _)) (.inr rfl) rfl) rfl (Nat.le_of_ble_eq_true rfl)) rfl ?_
            refine SV.nil ?_
            refine SV.tn ?_
            refine SV.again (fun i => [].getD i 0) (t + 1) (⟨by omega, by omega⟩) (pins hE rfl rfl) (VS.le.mk' (le_put (le_put (le_put le_nil (V.le.one rfl (by first | rfl | (show Leaf.sc _ = Leaf.sc _; refine congrArg Leaf.sc ?_; first | rfl | go_num | (simp [cntAll]; done)) | (simp [cntAll]; done) | (simp; omega)))) (V.le.one rfl (by first | rfl | (show Leaf.sc _ = Leaf.sc _; refine congrArg Leaf.sc ?_; first | rfl | go_num | (simp [cntAll]; done)) | (simp [cntAll]; done) | (simp; omega)))) (V.le.one rfl (by first | rfl | (show Leaf.sc _ = Leaf.sc _; refine congrArg Leaf.sc ?_; first | rfl | go_num | (simp [cntAll]; done)) | (simp [cntAll]; done) | (simp; omega)))) trivial trivial nil_ob (fun i j hi hj e => absurd hi (Nat.not_lt_zero i)))
    · skip   -- c0.F
      have hte : ¬ t < X.length := by simpa [mkAll_length] using hc0
      refine SV.exit ?_
      refine SV.te ?_
      refine SV.te ?_
      refine SV.bh ?_
      refine SV.tn ?_
      refine SV.seq' ?_
      refine SV.region ?_
      refine SV.op (OpL.ok (nb := 0) (ok_move (v := V.one (.sc _)) (.inl rfl) rfl) rfl (Nat.le_of_ble_eq_true rfl)) rfl ?_
      refine SV.op (OpL.ok (nb := 0) (ok_move (v := V.one (.sc _)) (.inr rfl) rfl) rfl (Nat.le_of_ble_eq_true rfl)) rfl ?_
      refine SV.nil ?_
      refine SV.tn ?_
      refine SV.ret ?_
      apply SV.done (hf := Tryd.results139) (ht := rfl) (he := .inl rfl)
      case hr => exact (ResAll.cons (ResOk.tmp (ag := false) (xs := [.sc _]) rfl) ResAll.nil')
      case h2 => simp [two]
      refine ⟨rfl, ⟨?_, trivial⟩, trivial⟩ <;> (show some (T.lit (Value.int .i64 _)) = some (T.lit (Value.int .i64 _)); rw [List.take_of_length_le (by omega)])
theorem vhd_rows (X : List R) (q : Int) (hq0 : 0 ≤ q) (hq1 : q + 64 * wtRows X ≤ 100000000000000) : VC Tryd.prog 139 [(false, [.seq 41 ((rowsMk.mark q X).map tRow)]), (false, [.lit (.int .i64 q)])] false [(false, [.lit (.int .i64 (q + (rowsMk.cnt X : Nat)))])] := by
  have h := vhd_rows' X q hq0 (by have h1 : wtRows X = X.length := rfl; omega)
  rw [rows_all, rows_cnt']
  exact h
set_option maxRecDepth 100000 in
set_option maxHeartbeats 2000000 in
theorem veq_row (x : R) : VC Tryd.prog 176 [(true, tRow x), (true, tRow x)] false [(false, [.lit (.bool true)])] := by
  refine VC.enter Tryd.func176 rfl Tryd.ntmps176 (Nat.le_of_ble_eq_true rfl) fun E hE => ?_
  refine SV.seq' ?_
  refine SV.region ?_
  refine SV.op (OpMk.ok (ok_box (kk := 0) (ag := true) (xs := [.sc _, .sc _, .sc _]) rfl rfl rfl (fun h => by cases h) rfl rfl (Nat.le_of_ble_eq_true rfl))) rfl ?_
  refine SV.op (OpMk.ok (ok_box (kk := 1) (ag := true) (xs := [.sc _, .sc _, .sc _]) rfl rfl rfl (fun h => by cases h) rfl rfl (Nat.le_of_ble_eq_true rfl))) rfl ?_
  refine SV.op (OpL.ok (nb := 2) (ok_move (v := V.one (.sc _)) (.inr rfl) rfl) rfl (Nat.le_of_ble_eq_true rfl)) rfl ?_
  refine SV.nil ?_
  refine SV.tn ?_
  refine SV.seq' ?_
  refine SV.seq' ?_
  refine SV.region ?_
  refine SV.op (OpL.ok (nb := 2) (ok_field_bp (b := 0) (o' := 0) (off := 0) rfl rfl fld_impl_Row_0) rfl (Nat.le_of_ble_eq_true rfl)) rfl ?_
  refine SV.op (OpL.ok (nb := 2) (ok_load_bp (b := 0) (i := 0) (ag := false) (m := 1) (ys := [.sc _]) rfl rfl rfl agg_int sz_int (fun _ => rfl) rfl rfl (Nat.le_of_ble_eq_true rfl)) rfl (Nat.le_of_ble_eq_true rfl)) rfl ?_
  refine SV.op (OpL.ok (nb := 2) (ok_field_bp (b := 1) (o' := 0) (off := 0) rfl rfl fld_impl_Row_0) rfl (Nat.le_of_ble_eq_true rfl)) rfl ?_
  refine SV.op (OpL.ok (nb := 2) (ok_load_bp (b := 1) (i := 0) (ag := false) (m := 1) (ys := [.sc _]) rfl rfl rfl agg_int sz_int (fun _ => rfl) rfl rfl (Nat.le_of_ble_eq_true rfl)) rfl (Nat.le_of_ble_eq_true rfl)) rfl ?_
  refine SV.op (OpL.ok (nb := 2) (ok_s2 (x := .tmp 6) (x' := .tmp 8) (VScal.one rfl) (VScal.one rfl) (fun ρ h1 h2 w => by go_simp; (try go_bits); with_reducible rfl) rfl) rfl (Nat.le_of_ble_eq_true rfl)) rfl ?_
  refine SV.nil ?_
  refine SV.tn ?_
  refine SV.cond rfl (fun hc0 => ?_) (fun hc0 => ?_)
  · skip   -- c0.T
    simp at hc0
  · skip   -- c0.F
    refine SV.skip ?_
    refine SV.tn ?_
    refine SV.seq' ?_
    refine SV.seq' ?_
    refine SV.region ?_
    refine SV.op (OpL.ok (nb := 2) (ok_field_bp (b := 0) (o' := 0) (off := 1) rfl rfl fld_impl_Row_1) rfl (Nat.le_of_ble_eq_true rfl)) rfl ?_
    refine SV.op (OpL.ok (nb := 2) (ok_load_bp (b := 0) (i := 1) (ag := false) (m := 1) (ys := [.sc _]) rfl rfl rfl agg_int sz_int (fun _ => rfl) rfl rfl (Nat.le_of_ble_eq_true rfl)) rfl (Nat.le_of_ble_eq_true rfl)) rfl ?_
    refine SV.op (OpL.ok (nb := 2) (ok_field_bp (b := 1) (o' := 0) (off := 1) rfl rfl fld_impl_Row_1) rfl (Nat.le_of_ble_eq_true rfl)) rfl ?_
    refine SV.op (OpL.ok (nb := 2) (ok_load_bp (b := 1) (i := 1) (ag := false) (m := 1) (ys := [.sc _]) rfl rfl rfl agg_int sz_int (fun _ => rfl) rfl rfl (Nat.le_of_ble_eq_true rfl)) rfl (Nat.le_of_ble_eq_true rfl)) rfl ?_
    refine SV.op (OpL.ok (nb := 2) (ok_s2 (x := .tmp 11) (x' := .tmp 13) (VScal.one rfl) (VScal.one rfl) (fun ρ h1 h2 w => by go_simp; (try go_bits); with_reducible rfl) rfl) rfl (Nat.le_of_ble_eq_true rfl)) rfl ?_
    refine SV.nil ?_
    refine SV.tn ?_
    refine SV.cond rfl (fun hc1 => ?_) (fun hc1 => ?_)
    · skip   -- c1.T
      simp at hc1
    · skip   -- c1.F
      refine SV.skip ?_
      refine SV.tn ?_
      refine SV.seq' ?_
      refine SV.seq' ?_
      refine SV.region ?_
      refine SV.op (OpL.ok (nb := 2) (ok_field_bp (b := 0) (o' := 0) (off := 2) rfl rfl fld_impl_Row_2) rfl (Nat.le_of_ble_eq_true rfl)) rfl ?_
      refine SV.op (OpL.ok (nb := 2) (ok_load_bp (b := 0) (i := 2) (ag := false) (m := 1) (ys := [.sc _]) rfl rfl rfl agg_int sz_int (fun _ => rfl) rfl rfl (Nat.le_of_ble_eq_true rfl)) rfl (Nat.le_of_ble_eq_true rfl)) rfl ?_
      refine SV.op (OpL.ok (nb := 2) (ok_field_bp (b := 1) (o' := 0) (off := 2) rfl rfl fld_impl_Row_2) rfl (Nat.le_of_ble_eq_true rfl)) rfl ?_
      refine SV.op (OpL.ok (nb := 2) (ok_load_bp (b := 1) (i := 2) (ag := false) (m := 1) (ys := [.sc _]) rfl rfl rfl agg_int sz_int (fun _ => rfl) rfl rfl (Nat.le_of_ble_eq_true rfl)) rfl (Nat.le_of_ble_eq_true rfl)) rfl ?_
      refine SV.op (OpL.ok (nb := 2) (ok_s2 (x := .tmp 16) (x' := .tmp 18) (VScal.one rfl) (VScal.one rfl) (fun ρ h1 h2 w => by go_simp; (try go_bits); with_reducible rfl) rfl) rfl (Nat.le_of_ble_eq_true rfl)) rfl ?_
      refine SV.nil ?_
      refine SV.tn ?_
      refine SV.cond rfl (fun hc2 => ?_) (fun hc2 => ?_)
      · skip   -- c2.T
        simp at hc2
      · skip   -- c2.F
        refine SV.skip ?_
        refine SV.tn ?_
        refine SV.seq' ?_
        refine SV.region ?_
        refine SV.op (OpL.ok (nb := 2) (ok_move (v := V.one (.sc _)) (.inr rfl) rfl) rfl (Nat.le_of_ble_eq_true rfl)) rfl ?_
        refine SV.nil ?_
        refine SV.tn ?_
        refine SV.ret ?_
        apply SV.done (hf := Tryd.results176) (ht := rfl) (he := .inl rfl)
        case hr => exact (ResAll.cons (ResOk.tmp (ag := false) (xs := [.sc _]) rfl) ResAll.nil')
        case h2 => simp [two]
        refine ⟨rfl, ⟨?_, trivial⟩, trivial⟩ <;> rfl
set_option maxRecDepth 100000 in
set_option maxHeartbeats 2000000 in
theorem veq_rows (X : List R) (hL : wtRows X ≤ 300000000000) : VC Tryd.prog 169 [(false, [.seq 41 (X.map tRow)]), (false, [.seq 41 (X.map tRow)])] false [(false, [.lit (.bool true)])] := by
  refine VC.enter Tryd.func169 rfl Tryd.ntmps169 (Nat.le_of_ble_eq_true rfl) fun E hE => ?_
  have hlen := wt_row_len X
  refine SV.seq' ?_
  refine SV.region ?_
  refine SV.op (OpL.ok (nb := 0) (ok_move (v := V.one (.sc _)) (.inr rfl) rfl) rfl (Nat.le_of_ble_eq_true rfl)) rfl ?_
  refine SV.nil ?_
  refine SV.tn ?_
  refine SV.seq' ?_
  refine SV.seq' ?_
  refine SV.region ?_
  refine SV.op (OpL.ok (nb := 0) (ok_move (v := V.one (.ro _)) (.inl rfl) rfl) rfl (Nat.le_of_ble_eq_true rfl)) rfl ?_
  refine SV.op (OpL.ok (nb := 0) (ok_len (lf := .ro _) rfl elt_impl_Row.und rfl rfl) rfl (Nat.le_of_ble_eq_true rfl)) rfl ?_
  refine SV.op (OpL.ok (nb := 0) (ok_move (v := V.one (.ro _)) (.inl rfl) rfl) rfl (Nat.le_of_ble_eq_true rfl)) rfl ?_
  refine SV.op (OpL.ok (nb := 0) (ok_len (lf := .ro _) rfl elt_impl_Row.und rfl rfl) rfl (Nat.le_of_ble_eq_true rfl)) rfl ?_
  refine SV.op (OpL.ok (nb := 0) (ok_s2 (x := .tmp 7) (x' := .tmp 9) (VScal.one rfl) (VScal.one rfl) (fun ρ h1 h2 w => by go_simp; (try go_bits); with_reducible rfl) rfl) rfl (Nat.le_of_ble_eq_true rfl)) rfl ?_
  refine SV.nil ?_
  refine SV.tn ?_
  refine SV.cond rfl (fun hc0 => ?_) (fun hc0 => ?_)
  · skip   -- c0.T
    simp at hc0
  · skip   -- c0.F
    refine SV.skip ?_
    refine SV.tn ?_
    refine SV.seq' ?_
    refine SV.seq' ?_
    refine SV.region ?_
    refine SV.op (OpL.ok (nb := 0) (ok_move (v := V.one (.sc _)) (.inr rfl) rfl) rfl (Nat.le_of_ble_eq_true rfl)) rfl ?_
    refine SV.nil ?_
    refine SV.tn ?_
    refine SV.block ?_
    refine SV.loop (X := Nat) (fun t => (((VS.nil.put 0 (V.one (.ro (.seq 41 (X.map tRow))))).put 1 (V.one (.ro (.seq 41 (X.map tRow))))).put 5 (V.one (.sc (.int .i64 (t : Int)))))) (fun t => t ≤ X.length) (fun t => X.length - t) ?_ ?_
    · skip
      refine SV.again (fun i => [].getD i 0) 0 (Nat.zero_le _) (pins hE rfl rfl) (VS.le.mk' (le_put (le_put (le_put le_nil (V.le.one rfl (by first | rfl | (show Leaf.sc _ = Leaf.sc _; refine congrArg Leaf.sc ?_; first | rfl | go_num | (simp [cntAll]; done)) | (simp [cntAll]; done) | (simp; omega)))) (V.le.one rfl (by first | rfl | (show Leaf.sc _ = Leaf.sc _; refine congrArg Leaf.sc ?_; first | rfl | go_num | (simp [cntAll]; done)) | (simp [cntAll]; done) | (simp; omega)))) (V.le.one rfl (by first | rfl | (show Leaf.sc _ = Leaf.sc _; refine congrArg Leaf.sc ?_; first | rfl | go_num | (simp [cntAll]; done)) | (simp [cntAll]; done) | (simp; omega)))) trivial trivial nil_ob (fun i j hi hj e => absurd hi (Nat.not_lt_zero i)))
    · rintro t ht
      refine SV.seq' ?_
      refine SV.seq' ?_
      refine SV.region ?_
      refine SV.op (OpL.ok (nb := 0) (ok_move (v := V.one (.sc _)) (.inl rfl) rfl) rfl (Nat.le_of_ble_eq_true rfl)) rfl ?_
      refine SV.op (OpL.ok (nb := 0) (ok_move (v := V.one (.ro _)) (.inl rfl) rfl) rfl (Nat.le_of_ble_eq_true rfl)) rfl ?_
      refine SV.op (OpL.ok (nb := 0) (ok_len (lf := .ro _) rfl elt_impl_Row.und rfl rfl) rfl (Nat.le_of_ble_eq_true rfl)) rfl ?_
      refine SV.op (OpL.ok (nb := 0) (ok_s2 (x := .tmp 11) (x' := .tmp 13) (VScal.one rfl) (VScal.one rfl) (fun ρ h1 h2 w => by go_simp; (try go_bits); with_reducible rfl) rfl) rfl (Nat.le_of_ble_eq_true rfl)) rfl ?_
      refine SV.nil ?_
      refine SV.tn ?_
      refine SV.cond rfl (fun hc1 => ?_) (fun hc1 => ?_)
      · skip   -- c1.T
        have htl : t < X.length := by simpa using hc1
        have hx : X[t]? = some X[t] := by simp [htl]
        refine SV.skip ?_
        refine SV.tn ?_
        refine SV.seq' ?_
        refine SV.block ?_
        refine SV.seq' ?_
        refine SV.draw [.q 0, .q 1, .q 2, .q 3, .q 4, .q 5, .q 6, .q 7, .m 8, .q 9] [] (by kernel_rfl) (by kernel_rfl) ?_
        refine DW.q rfl (ok_move (v := V.one (.ro _)) (.inl rfl) rfl) rfl rfl (Nat.le_of_ble_eq_true rfl) (fun _ _ _ _ h => h) ?_
        refine DW.q rfl (ok_move (v := V.one (.sc _)) (.inl rfl) rfl) rfl rfl (Nat.le_of_ble_eq_true rfl) (fun _ _ _ _ h => h) ?_
        refine DW.q rfl (ok_index (n := 3) (lf := .ro _) rfl elt_impl_Row.und sz_impl_Row rfl rfl rfl (map_at (by assumption))) rfl rfl (Nat.le_of_ble_eq_true rfl) (fun _ _ _ _ h => h) ?_
        refine DW.q rfl (ok_load_rp (ag := true) (m := 3) (ys := [.sc _, .sc _, .sc _]) rfl rfl agg_impl_Row sz_impl_Row (fun h => by cases h) (Nat.le_of_ble_eq_true rfl) rfl) rfl rfl (Nat.le_of_ble_eq_true rfl) (fun _ _ _ _ h => h) ?_
        refine DW.q rfl (ok_move (v := V.one (.ro _)) (.inl rfl) rfl) rfl rfl (Nat.le_of_ble_eq_true rfl) (fun _ _ _ _ h => h) ?_
        refine DW.q rfl (ok_move (v := V.one (.sc _)) (.inl rfl) rfl) rfl rfl (Nat.le_of_ble_eq_true rfl) (fun _ _ _ _ h => h) ?_
        refine DW.q rfl (ok_index (n := 3) (lf := .ro _) rfl elt_impl_Row.und sz_impl_Row rfl rfl rfl (map_at (by assumption))) rfl rfl (Nat.le_of_ble_eq_true rfl) (fun _ _ _ _ h => h) ?_
        refine DW.q rfl (ok_load_rp (ag := true) (m := 3) (ys := [.sc _, .sc _, .sc _]) rfl rfl agg_impl_Row sz_impl_Row (fun h => by cases h) (Nat.le_of_ble_eq_true rfl) rfl) rfl rfl (Nat.le_of_ble_eq_true rfl) (fun _ _ _ _ h => h) ?_
        refine DW.m [] rfl (ok_call (ls := [(false, [.sc _])]) rfl rfl ⟨_, _, Tryd.func176, rfl, by decide⟩ (veq_row X[t]) ⟨⟨[.sc _, .sc _, .sc _], rfl, ⟨rfl, rfl, rfl, trivial⟩⟩, ⟨[.sc _, .sc _, .sc _], rfl, ⟨rfl, rfl, rfl, trivial⟩⟩, trivial⟩ rfl (Nat.le_of_ble_eq_true rfl)) rfl (Nat.le_of_ble_eq_true rfl) (Nat.le_of_ble_eq_true rfl) (.inl rfl) (fun j hj => by cases hj) ?_
        refine DW.q rfl (ok_s1 (x := .tmp 25) (VScal.one rfl) (fun ρ h1 w => by go_simp; (try go_bits); with_reducible rfl) rfl) rfl rfl (Nat.le_of_ble_eq_true rfl) (fun _ _ _ _ h => h) ?_
        refine DW.stores ?_
        refine SV.zend ?_
        refine SV.tn ?_
        refine SV.cond rfl (fun hc2 => ?_) (fun hc2 => ?_)
        · skip   -- c2.T
          simp at hc2
        · skip   -- c2.F
          refine SV.skip ?_
          refine SV.bn ?_
          refine SV.tn ?_
          refine SV.region ?_
          refine SV.op (OpL.ok (nb := 0) (ok_move (v := V.one (.sc _)) (.inl rfl) rfl) rfl (Nat.le_of_ble_eq_true rfl)) rfl ?_
          refine SV.op (OpL.ok (nb := 0) (ok_s2 (x := .tmp 15) (x' := .const ((Value.int IntKind.i64 1))) (VScal.one rfl) (VScal.one rfl) (fun ρ h1 h2 w => by go_simp; (try go_bits); with_reducible rfl) rfl) rfl (Nat.le_of_ble_eq_true rfl)) rfl ?_
          refine SV.op (OpL.ok (nb := 0) (ok_move (v := V.one (.sc _)) (.inr rfl) rfl) rfl (Nat.le_of_ble_eq_true rfl)) rfl ?_
          refine SV.nil ?_
          refine SV.tn ?_
          refine SV.again (fun i => [].getD i 0) (t + 1) (⟨by omega, by omega⟩) (pins hE rfl rfl) (VS.le.mk' (le_put (le_put (le_put le_nil (V.le.one rfl (by first | rfl | (show Leaf.sc _ = Leaf.sc _; refine congrArg Leaf.sc ?_; first | rfl | go_num | (simp [cntAll]; done)) | (simp [cntAll]; done) | (simp; omega)))) (V.le.one rfl (by first | rfl | (show Leaf.sc _ = Leaf.sc _; refine congrArg Leaf.sc ?_; first | rfl | go_num | (simp [cntAll]; done)) | (simp [cntAll]; done) | (simp; omega)))) (V.le.one rfl (by first | rfl | (show Leaf.sc _ = Leaf.sc _; refine congrArg Leaf.sc ?_; first | rfl | go_num | (simp [cntAll]; done)) | (simp [cntAll]; done) | (simp; omega)))) trivial trivial nil_ob (fun i j hi hj e => absurd hi (Nat.not_lt_zero i)))
      · skip   -- c1.F
        refine SV.exit ?_
        refine SV.te ?_
        refine SV.te ?_
        refine SV.bh ?_
        refine SV.tn ?_
        refine SV.seq' ?_
        refine SV.region ?_
        refine SV.op (OpL.ok (nb := 0) (ok_move (v := V.one (.sc _)) (.inr rfl) rfl) rfl (Nat.le_of_ble_eq_true rfl)) rfl ?_
        refine SV.nil ?_
        refine SV.tn ?_
        refine SV.ret ?_
        apply SV.done (hf := Tryd.results169) (ht := rfl) (he := .inl rfl)
        case hr => exact (ResAll.cons (ResOk.tmp (ag := false) (xs := [.sc _]) rfl) ResAll.nil')
        case h2 => simp [two]
        refine ⟨rfl, ⟨?_, trivial⟩, trivial⟩ <;> rfl
set_option maxRecDepth 100000 in
set_option maxHeartbeats 2000000 in
theorem vto_row (x : R) : VC Tryd.prog 175 [(true, uRow x)] false [(true, tRow x)] := by
  refine VC.enter Tryd.func175 rfl Tryd.ntmps175 (Nat.le_of_ble_eq_true rfl) fun E hE => ?_
  refine SV.seq' ?_
  refine SV.region ?_
  refine SV.op (OpMk.ok (ok_box (kk := 0) (ag := true) (xs := [.sc _, .sc _, .sc _]) rfl rfl rfl (fun h => by cases h) rfl rfl (Nat.le_of_ble_eq_true rfl))) rfl ?_
  refine SV.op (OpMk.ok (ok_alloc (kk := 1) (xs := [.sc _, .sc _, .sc _]) rfl rfl zero_impl_Row ⟨rfl, rfl, rfl, rfl, rfl, rfl, trivial⟩ rfl (Nat.le_of_ble_eq_true rfl))) rfl ?_
  refine SV.nil ?_
  refine SV.tn ?_
  refine SV.seq' ?_
  refine SV.region ?_
  refine SV.op (OpMk.ok (ok_alloc (kk := 2) (xs := [.sc _, .sc _, .sc _]) rfl rfl zero_impl_Row ⟨rfl, rfl, rfl, rfl, rfl, rfl, trivial⟩ rfl (Nat.le_of_ble_eq_true rfl))) rfl ?_
  refine SV.nil ?_
  refine SV.tn ?_
  refine SV.seq' ?_
  refine SV.region ?_
  refine SV.op (OpL.ok (nb := 3) (ok_field_bp (b := 0) (o' := 0) (off := 0) rfl rfl fld_laws_Row_0) rfl (Nat.le_of_ble_eq_true rfl)) rfl ?_
  refine SV.op (OpL.ok (nb := 3) (ok_load_bp (b := 0) (i := 0) (ag := false) (m := 1) (ys := [.sc _]) rfl rfl rfl agg_int sz_int (fun _ => rfl) rfl rfl (Nat.le_of_ble_eq_true rfl)) rfl (Nat.le_of_ble_eq_true rfl)) rfl ?_
  refine SV.op (OpL.ok (nb := 3) (ok_field_bp (b := 2) (o' := 0) (off := 0) rfl rfl fld_impl_Row_0) rfl (Nat.le_of_ble_eq_true rfl)) rfl ?_
  refine SV.op (ok_store_bp (b := 2) (i := 0) (m := 1) (ag := false) (zs := [.sc _]) (ys := [.sc _, .sc _, .sc _]) rfl rfl rfl rfl sz_int (fun _ => rfl) rfl (Nat.le_of_ble_eq_true rfl) rfl rfl rfl) rfl ?_
  refine SV.nil ?_
  refine SV.tn ?_
  refine SV.seq' ?_
  refine SV.region ?_
  refine SV.op (OpL.ok (nb := 3) (ok_field_bp (b := 0) (o' := 0) (off := 1) rfl rfl fld_laws_Row_1) rfl (Nat.le_of_ble_eq_true rfl)) rfl ?_
  refine SV.op (OpL.ok (nb := 3) (ok_load_bp (b := 0) (i := 1) (ag := false) (m := 1) (ys := [.sc _]) rfl rfl rfl agg_int sz_int (fun _ => rfl) rfl rfl (Nat.le_of_ble_eq_true rfl)) rfl (Nat.le_of_ble_eq_true rfl)) rfl ?_
  refine SV.op (OpL.ok (nb := 3) (ok_field_bp (b := 2) (o' := 0) (off := 1) rfl rfl fld_impl_Row_1) rfl (Nat.le_of_ble_eq_true rfl)) rfl ?_
  refine SV.op (ok_store_bp (b := 2) (i := 1) (m := 1) (ag := false) (zs := [.sc _]) (ys := [.sc _, .sc _, .sc _]) rfl rfl rfl rfl sz_int (fun _ => rfl) rfl (Nat.le_of_ble_eq_true rfl) rfl rfl rfl) rfl ?_
  refine SV.nil ?_
  refine SV.tn ?_
  refine SV.seq' ?_
  refine SV.region ?_
  refine SV.op (OpL.ok (nb := 3) (ok_field_bp (b := 0) (o' := 0) (off := 2) rfl rfl fld_laws_Row_2) rfl (Nat.le_of_ble_eq_true rfl)) rfl ?_
  refine SV.op (OpL.ok (nb := 3) (ok_load_bp (b := 0) (i := 2) (ag := false) (m := 1) (ys := [.sc _]) rfl rfl rfl agg_int sz_int (fun _ => rfl) rfl rfl (Nat.le_of_ble_eq_true rfl)) rfl (Nat.le_of_ble_eq_true rfl)) rfl ?_
  refine SV.op (OpL.ok (nb := 3) (ok_field_bp (b := 2) (o' := 0) (off := 2) rfl rfl fld_impl_Row_2) rfl (Nat.le_of_ble_eq_true rfl)) rfl ?_
  refine SV.op (ok_store_bp (b := 2) (i := 2) (m := 1) (ag := false) (zs := [.sc _]) (ys := [.sc _, .sc _, .sc _]) rfl rfl rfl rfl sz_int (fun _ => rfl) rfl (Nat.le_of_ble_eq_true rfl) rfl rfl rfl) rfl ?_
  refine SV.nil ?_
  refine SV.tn ?_
  refine SV.seq' ?_
  refine SV.region ?_
  refine SV.op (OpL.ok (nb := 3) (ok_load_bp (b := 2) (i := 0) (ag := true) (m := 3) (ys := [.sc _, .sc _, .sc _]) rfl rfl rfl agg_impl_Row sz_impl_Row (fun h => by cases h) rfl rfl (Nat.le_of_ble_eq_true rfl)) rfl (Nat.le_of_ble_eq_true rfl)) rfl ?_
  refine SV.op (ok_store_bp (b := 1) (i := 0) (m := 3) (ag := true) (zs := [.sc _, .sc _, .sc _]) (ys := [.sc _, .sc _, .sc _]) rfl rfl rfl rfl sz_impl_Row (fun h => by cases h) rfl (Nat.le_of_ble_eq_true rfl) rfl rfl rfl) rfl ?_
  refine SV.nil ?_
  refine SV.tn ?_
  refine SV.ret ?_
  apply SV.done (hf := Tryd.results175) (ht := rfl) (he := .inl rfl)
  case hr => exact (ResAll.cons (ResOk.cell (b := 1) (ag := true) (xs := [.sc _, .sc _, .sc _]) rfl rfl agg_impl_Row sz_impl_Row (fun h => by cases h)) ResAll.nil')
  case h2 => simp [two]
  refine ⟨rfl, ⟨?_, ?_, ?_, trivial⟩, trivial⟩ <;> rfl
set_option maxRecDepth 100000 in
set_option maxHeartbeats 2000000 in
theorem vto_rows (X : List R) (hL : wtRows X ≤ 300000000000) : VC Tryd.prog 168 [(false, [.seq 202 (X.map uRow)])] false [(false, [.seq 41 (X.map tRow)])] := by
  refine VC.enter Tryd.func168 rfl Tryd.ntmps168 (Nat.le_of_ble_eq_true rfl) fun E hE => ?_
  have hlen := wt_row_len X
  refine SV.seq' ?_
  refine SV.region ?_
  refine SV.op (OpL.ok (nb := 0) (ok_move (v := V.one (.sc _)) (.inr rfl) rfl) rfl (Nat.le_of_ble_eq_true rfl)) rfl ?_
  refine SV.nil ?_
  refine SV.tn ?_
  refine SV.seq' ?_
  refine SV.region ?_
  refine SV.op (OpL.ok (nb := 0) (ok_move (v := V.one (.ro _)) (.inl rfl) rfl) rfl (Nat.le_of_ble_eq_true rfl)) rfl ?_
  refine SV.op (OpL.ok (nb := 0) (ok_len (lf := .ro _) rfl elt_laws_Row.und rfl rfl) rfl (Nat.le_of_ble_eq_true rfl)) rfl ?_
  refine SV.op (OpMk.ok (ok_make (kk := 0) (zs := [.sc _, .sc _, .sc _]) elt_impl_Row rfl rfl rfl rfl ⟨rfl, rfl, rfl, rfl, rfl, rfl, trivial⟩ rfl (by rw [List.length_map]; omega) rfl (Nat.le_of_ble_eq_true rfl))) rfl ?_
  refine SV.op (OpL.ok (nb := 0) (ok_move (v := V.one (.hd 0)) (.inr rfl) rfl) rfl (Nat.le_of_ble_eq_true rfl)) rfl ?_
  refine SV.nil ?_
  refine SV.tn ?_
  refine SV.seq' ?_
  refine SV.seq' ?_
  refine SV.region ?_
  refine SV.op (OpL.ok (nb := 0) (ok_move (v := V.one (.sc _)) (.inr rfl) rfl) rfl (Nat.le_of_ble_eq_true rfl)) rfl ?_
  refine SV.nil ?_
  refine SV.tn ?_
  refine SV.block ?_
  refine SV.loop (X := Nat) (fun t => ((((VS.nil.new (.seq 41 (toL tRow zRow X t))).put 0 (V.one (.ro (.seq 202 (X.map uRow))))).put 3 (V.one (.hd 0))).put 4 (V.one (.sc (.int .i64 (t : Int)))))) (fun t => t ≤ X.length) (fun t => X.length - t) ?_ ?_
  · skip
    refine SV.again (fun i => [0].getD i 0) 0 (Nat.zero_le _) (pins hE rfl rfl) (VS.le.mk' (le_put (le_put (le_put (le_new le_nil) (V.le.one rfl (by first | rfl | (show Leaf.sc _ = Leaf.sc _; refine congrArg Leaf.sc ?_; first | rfl | go_num | (simp [cntAll]; done)) | (simp [cntAll]; done) | (simp; omega)))) (V.le.one rfl ⟨rfl, (Nat.le_of_ble_eq_true rfl), (Nat.le_of_ble_eq_true rfl)⟩)) (V.le.one rfl (by first | rfl | (show Leaf.sc _ = Leaf.sc _; refine congrArg Leaf.sc ?_; first | rfl | go_num | (simp [cntAll]; done)) | (simp [cntAll]; done) | (simp; omega)))) trivial ⟨.inr ⟨_, _, rfl, ?ob1_0, (Nat.le_of_ble_eq_true rfl)⟩, trivial⟩ (new_ob nil_ob) (fun i j hi hj e => inj_list (l := [0]) (by decide) i j hi hj e))
    case ob1_0 =>
      show some (T.seq _ _) = some (T.seq _ _)
      rw [toL_zero, List.length_map]
      rfl
  · rintro t ht
    refine SV.seq' ?_
    refine SV.seq' ?_
    refine SV.region ?_
    refine SV.op (OpL.ok (nb := 0) (ok_move (v := V.one (.sc _)) (.inl rfl) rfl) rfl (Nat.le_of_ble_eq_true rfl)) rfl ?_
    refine SV.op (OpL.ok (nb := 0) (ok_move (v := V.one (.ro _)) (.inl rfl) rfl) rfl (Nat.le_of_ble_eq_true rfl)) rfl ?_
    refine SV.op (OpL.ok (nb := 0) (ok_len (lf := .ro _) rfl elt_laws_Row.und rfl rfl) rfl (Nat.le_of_ble_eq_true rfl)) rfl ?_
    refine SV.op (OpL.ok (nb := 0) (ok_s2 (x := .tmp 8) (x' := .tmp 10) (VScal.one rfl) (VScal.one rfl) (fun ρ h1 h2 w => by go_simp; (try go_bits); with_reducible rfl) rfl) rfl (Nat.le_of_ble_eq_true rfl)) rfl ?_
    refine SV.nil ?_
    refine SV.tn ?_
    refine SV.cond rfl (fun hc0 => ?_) (fun hc0 => ?_)
    · skip   -- c0.T
      have htl : t < X.length := by simpa using hc0
      have hx : X[t]? = some X[t] := by simp [htl]
      refine SV.skip ?_
      refine SV.tn ?_
      refine SV.seq' ?_
      refine SV.block ?_
      refine SV.region ?_
      refine SV.op (OpL.ok (nb := 0) (ok_move (v := V.one (.hd 0)) (.inl rfl) rfl) rfl (Nat.le_of_ble_eq_true rfl)) rfl ?_
      refine SV.op (OpL.ok (nb := 0) (ok_move (v := V.one (.sc _)) (.inl rfl) rfl) rfl (Nat.le_of_ble_eq_true rfl)) rfl ?_
      refine SV.op (OpL.ok (nb := 0) (ok_move (v := V.one (.ro _)) (.inl rfl) rfl) rfl (Nat.le_of_ble_eq_true rfl)) rfl ?_
      refine SV.op (OpL.ok (nb := 0) (ok_move (v := V.one (.sc _)) (.inl rfl) rfl) rfl (Nat.le_of_ble_eq_true rfl)) rfl ?_
      refine SV.op (OpL.ok (nb := 0) (ok_index (n := 3) (lf := .ro _) rfl elt_laws_Row.und sz_laws_Row rfl rfl rfl (map_at (by assumption))) rfl (Nat.le_of_ble_eq_true rfl)) rfl ?_
      refine SV.op (OpL.ok (nb := 0) (ok_load_rp (ag := true) (m := 3) (ys := [.sc _, .sc _, .sc _]) rfl rfl agg_laws_Row sz_laws_Row (fun h => by cases h) (Nat.le_of_ble_eq_true rfl) rfl) rfl (Nat.le_of_ble_eq_true rfl)) rfl ?_
      refine SV.op (OpMk.ok (ok_call (ls := [(true, [.sc _, .sc _, .sc _])]) rfl rfl ⟨_, _, Tryd.func175, rfl, by decide⟩ (vto_row X[t]) ⟨⟨[.sc _, .sc _, .sc _], rfl, ⟨rfl, rfl, rfl, trivial⟩⟩, trivial⟩ rfl (Nat.le_of_ble_eq_true rfl))) rfl ?_
      refine SV.op (OpL.ok (nb := 0) (ok_index (n := 3) (lf := .hd 0) rfl elt_impl_Row.und sz_impl_Row rfl rfl rfl (toL_at htl)) rfl (Nat.le_of_ble_eq_true rfl)) rfl ?_
      refine SV.op (ok_store_ep (i := 0) (n := 3) (m := 3) (ag := true) (zs := [.sc _, .sc _, .sc _]) rfl rfl rfl rfl (toL_at htl) sz_impl_Row (fun h => by cases h) rfl sz_impl_Row (Nat.le_of_ble_eq_true rfl) (outs_c rfl (outs_c rfl (outs_c rfl outs_n))) (by simp [two]) rfl rfl rfl) rfl ?_
      refine SV.nil ?_
      refine SV.bn ?_
      refine SV.tn ?_
      refine SV.region ?_
      refine SV.op (OpL.ok (nb := 0) (ok_move (v := V.one (.sc _)) (.inl rfl) rfl) rfl (Nat.le_of_ble_eq_true rfl)) rfl ?_
      refine SV.op (OpL.ok (nb := 0) (ok_s2 (x := .tmp 12) (x' := .const ((Value.int IntKind.i64 1))) (VScal.one rfl) (VScal.one rfl) (fun ρ h1 h2 w => by go_simp; (try go_bits); with_reducible rfl) rfl) rfl (Nat.le_of_ble_eq_true rfl)) rfl ?_
      refine SV.op (OpL.ok (nb := 0) (ok_move (v := V.one (.sc _)) (.inr rfl) rfl) rfl (Nat.le_of_ble_eq_true rfl)) rfl ?_
      refine SV.nil ?_
      refine SV.tn ?_
      refine SV.again (fun i => [0].getD i 0) (t + 1) (⟨by omega, by omega⟩) (pins hE rfl rfl) (VS.le.mk' (le_put (le_put (le_put (le_new le_nil) (V.le.one rfl (by first | rfl | (show Leaf.sc _ = Leaf.sc _; refine congrArg Leaf.sc ?_; first | rfl | go_num | (simp [cntAll]; done)) | (simp [cntAll]; done) | (simp; omega)))) (V.le.one rfl ⟨rfl, (Nat.le_of_ble_eq_true rfl), (Nat.le_of_ble_eq_true rfl)⟩)) (V.le.one rfl (by first | rfl | (show Leaf.sc _ = Leaf.sc _; refine congrArg Leaf.sc ?_; first | rfl | go_num | (simp [cntAll]; done)) | (simp [cntAll]; done) | (simp; omega)))) trivial ⟨.inr ⟨_, _, rfl, ?ob2_0, (Nat.le_of_ble_eq_true rfl)⟩, trivial⟩ (new_ob nil_ob) (fun i j hi hj e => inj_list (l := [0]) (by decide) i j hi hj e))
      case ob2_0 =>
        show some (T.seq _ _) = some (T.seq _ _)
        rw [← toL_next htl]
        rfl
    · skip   -- c0.F
      have hte : ¬ t < X.length := by simpa using hc0
      refine SV.exit ?_
      refine SV.te ?_
      refine SV.te ?_
      refine SV.bh ?_
      refine SV.tn ?_
      refine SV.seq' ?_
      refine SV.region ?_
      refine SV.op (OpL.ok (nb := 0) (ok_move (v := V.one (.hd 0)) (.inl rfl) rfl) rfl (Nat.le_of_ble_eq_true rfl)) rfl ?_
      refine SV.op (OpL.ok (nb := 0) (ok_move (v := V.one (.hd 0)) (.inr rfl) rfl) rfl (Nat.le_of_ble_eq_true rfl)) rfl ?_
      refine SV.nil ?_
      refine SV.tn ?_
      refine SV.ret ?_
      apply SV.done (hf := Tryd.results168) (ht := rfl) (he := .inl rfl)
      case hr => exact (ResAll.cons (ResOk.tmp (ag := false) (xs := [.hd 0]) rfl) ResAll.nil')
      case h2 => simp [two]
      refine ⟨rfl, ⟨?_, trivial⟩, trivial⟩ <;> (show some (T.seq _ _) = some (T.seq _ _); rw [toL_all hte])
end Go.Proofs.YtmlcdhblofjpbaaDoor
