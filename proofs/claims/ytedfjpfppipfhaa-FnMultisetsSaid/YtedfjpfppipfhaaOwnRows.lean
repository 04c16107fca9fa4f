/- Rows of rows that a call made itself: what one append adds; what the laws' marks leave; no function of program or reference is walked here. -/
import Derived.Test.YtedfjpfppipfhaaRowMem
import Derived.Test.YtedfjpfppipfhaaToRows
namespace Go.Proofs.Ytedfjpfppipfhaa
open Go.RowKit

/-- 'out = append(out, r)'. -/
theorem wpList_pushR {ops : Array Oper} {rest : List Oper} {o : Oper} {a : Act} {Q : Exit → Act → World → Prop} {wr : World} {B : Nat} {M : List R} {v : Value} (s x : Operand) (r : R) (N : Nat) (hN : N = wr.heap.size)
    (hgd : o.guard = none) (ho : o.op = .call { callee := .builtin .append, args := #[s, x], argTypes := #[24, 24] })
    (hs : a.eval s = v) (hx : a.eval x = .slice (some ⟨N, 0, none⟩) 1 1) (hown : wr.ownsRow B 28 3 v M.length (cells3 M)) (hB : B ≤ wr.heap.size)
    (hlen : (M.length + 1) * 24 ≤ 140737488355328)
    (h : ∀ v' w', w'.ownsRow B 28 3 v' (M ++ [r]).length (cells3 (M ++ [r])) → Below B wr w' → (∀ i, i < wr.heap.size → v.ownBlock ≠ some i → w'.heap[i]? = wr.heap[i]?) → wpList Try.prog ops Q rest (a.put o.dst v') w') :
    wpList Try.prog ops Q (o :: rest) a (wr.alloc (.cells #[.int .i64 r.key, .int .i64 r.value, .int .i64 r.width] 28)) := by
  subst hN
  obtain ⟨i0, hi, hz0, hz1, hz2⟩ := info_parts rowInfo
  refine wpList_append_own _ hgd s x 24 ho B 28 i0 R.zero.val 3 24 Try.underlying24 hi hz0 hz1 hz2 rfl (by decide) v M.length (cells3 M) hs (hown.alloc _)
    ⟨wr.heap.size, 0, none⟩ 1 1 [.int .i64 r.key, .int .i64 r.value, .int .i64 r.width] hx rfl ?_ (by intro u hu; simp at hu; rcases hu with rfl | rfl | rfl <;> rfl) (by unfold maxLen; omega) (by omega) (by simp; omega) ?_
  · intro j u hj
    match j, hj with
    | 0, hj => simp at hj; subst hj; simp [Addr.add]
    | 1, hj => simp at hj; subst hj; simp [Addr.add]
    | 2, hj => simp at hj; subst hj; simp [Addr.add]
  · intro v' w' hown' hg _
    have e : cells3 M ++ [.int .i64 r.key, .int .i64 r.value, .int .i64 r.width] = cells3 (M ++ [r]) := by rw [← cells3_append]; rfl
    rw [e] at hown'
    exact h v' w' (by simpa using hown') (((Below.refl B wr).alloc hB _).grown hg (by simp; omega) fun k hk => (hown.lt k hk).1)
      fun i hi hne => (hg.block i (by simp; omega) (fun e => hne e.symm)).trans (Below.heap_alloc _ _ i hi)
theorem own_below {w w' : World} {B : Nat} {v : Value} {n : Nat} {xs : List Value} (h : w.ownsRow B 28 3 v n xs) (hb : Below w.heap.size w w') : w'.ownsRow B 28 3 v n xs := by
  obtain ⟨h1, h0 | ⟨g, cap, cur, rfl, hB, hh, h2⟩⟩ := h
  · exact ⟨h1, .inl h0⟩
  · exact ⟨h1, .inr ⟨g, cap, cur, rfl, hB, (hb.block g (lt_of_block hh)).trans hh, h2⟩⟩
theorem own_apart {w : World} {B g : Nat} {v : Value} {n : Nat} {xs : List Value} {cs : Array Value} {fz : Nat × Nat} (h : w.ownsRow B 28 3 v n xs) (hg : w.heap[g]? = some (.cells cs 9 fz)) : v.ownBlock ≠ some g := by
  intro e
  rcases h.2 with ⟨rfl, _⟩ | ⟨g', cap, cur, rfl, hB, hh, h2⟩
  · simp [Value.ownBlock] at e
  · simp [Value.ownBlock] at e
    subst e
    rw [hh] at hg
    simp at hg
/-- What was appended, as a slice of rows. -/
theorem rows_of_own {w : World} {B : Nat} {v : Value} {M : List R} (h : w.ownsRow B 28 3 v M.length (cells3 M)) (hwf : ∀ r ∈ M, r.wf) : ∃ a cap, v = .slice a M.length cap ∧ IsRows w a M.length M := by
  rcases h.2 with ⟨rfl, h0⟩ | ⟨g, cap, cur, rfl, hB, hh, hcap, hmax, hsz, htake⟩
  · refine ⟨none, 0, by rw [h0], rfl, hwf, .inl h0⟩
  · refine ⟨_, cap, rfl, rfl, hwf, .inr ⟨g, 0, rfl, lt_of_block hh, fun t ht => ?_⟩⟩
    obtain ⟨e0, e1, e2⟩ := cells3_get M t ht
    have hc : ∀ (j : Nat) (u : Value), (cells3 M)[j]? = some u → w.cell? ⟨g, j, none⟩ = some u := by
      intro j u hu
      have hjl : j < M.length * 3 := by have := (List.getElem?_eq_some_iff.1 hu).1; rwa [cells3_length] at this
      rw [← htake, List.getElem?_take, if_pos hjl] at hu
      simp only [World.cell?, hh]
      simpa using hu
    rw [Nat.zero_add]
    exact ⟨hc _ _ e0, hc _ _ e1, hc _ _ e2⟩
/-- A slice of rows over a block of its own from base on, or an empty one. -/
def OwnRows (w : World) (base : Nat) (a : Option Addr) (len : Nat) (L : List R) : Prop :=
  L.length = len ∧ (len = 0 ∨ ∃ g, a = some ⟨g, 0, none⟩ ∧ base ≤ g ∧ w.heap[g]? = some (.cells (cells3 L).toArray 28 (0, 0)))
theorem OwnRows.rows {w : World} {base : Nat} {a : Option Addr} {len : Nat} {L : List R} (h : OwnRows w base a len L) (hwf : ∀ r ∈ L, r.wf) : IsRows w a len L := by
  obtain ⟨hl, h0 | ⟨g, rfl, hg, hb⟩⟩ := h
  · exact ⟨hl, hwf, .inl h0⟩
  · exact rows_of hb hl hwf
theorem OwnRows.keep {w w' : World} {base : Nat} {a : Option Addr} {len : Nat} {L : List R} (h : OwnRows w base a len L) (hb : Below w.heap.size w w') : OwnRows w' base a len L := by
  obtain ⟨hl, h0 | ⟨g, rfl, hg, hh⟩⟩ := h
  · exact ⟨hl, .inl h0⟩
  · exact ⟨hl, .inr ⟨g, rfl, hg, (hb.block g (lt_of_block hh)).trans hh⟩⟩
/-- The rows as the laws mark them. -/
def marked (n : Nat) (k : Int) : List R := (List.range n).map fun (t : Nat) => ⟨k + 3 * (t : Int), k + 3 * (t : Int) + 1, k + 3 * (t : Int) + 2⟩
theorem marked_length (n : Nat) (k : Int) : (marked n k).length = n := by simp [marked]
theorem marked_get (n : Nat) (k : Int) (t : Nat) (ht : t < n) : (marked n k).getD t R.zero = ⟨k + 3 * t, k + 3 * t + 1, k + 3 * t + 2⟩ := by simp [marked, List.getD, ht]
theorem marked_snoc (n : Nat) (k : Int) : marked (n + 1) k = marked n k ++ [⟨k + 3 * n, k + 3 * n + 1, k + 3 * n + 2⟩] := by simp [marked, List.range_succ]
theorem marked_set (n k : Nat) (q : Int) (L : List R) (hl : L.length = n) (hk : k < n) : (marked k q ++ L.drop k).set k ⟨q + 3 * k, q + 3 * k + 1, q + 3 * k + 2⟩ = marked (k + 1) q ++ L.drop (k + 1) := by
  rw [List.set_append_right _ _ (by rw [marked_length]; exact Nat.le_refl _), marked_length, Nat.sub_self, marked_snoc, List.append_assoc]
  congr 1
  rw [List.drop_eq_getElem_cons (by omega)]
  rfl
set_option maxRecDepth 100000 in
theorem mark_rows (base : Nat) (a : Option Addr) (len cap : Nat) (L : List R) (q : Int) (w : World) (h : OwnRows w base a len L) (hlen : len ≤ 1000000000000) (hq0 : 0 ≤ q) (hq1 : q ≤ 1000000000000) :
    Calls Try.prog 34 #[.slice a len cap, .int .i64 q] w fun e w' => e = .returned (.int .i64 (q + 3 * len)) ∧ OwnRows w' base a len (marked len q) ∧ Below base w w' := by
  obtain ⟨hl, h0⟩ := h
  have HL := Lib.hid hl
  have HO := Lib.hid h0
  clear hl h0
  go_enter Try.func34, Try.ntmps34
  go_wp2_with fail
  go_loopw [1, 5] (fun x i wr => ∃ k : Nat, x = .int .i64 (q + 3 * k) ∧ i = .int .i64 k ∧ k ≤ len ∧ Hid (OwnRows wr base a len (marked k q ++ L.drop k)) ∧ Hid (Below base w wr)) (fun _ i _ => len - (intOf i).toNat)
  case atStart => exact ⟨0, by go_num, rfl, Nat.zero_le _, (show OwnRows w base a len (marked 0 q ++ L.drop 0) from ⟨HL.out, HO.out⟩), Below.refl _ _⟩
  case round =>
    obtain ⟨k, rfl, rfl, hk, hown, hb⟩ := hrel
    by_cases hlt : k < len
    · obtain ⟨g, rfl, hg, hh⟩ : ∃ g, a = some ⟨g, 0, none⟩ ∧ base ≤ g ∧ wr.heap[g]? = some (.cells (cells3 (marked k q ++ L.drop k)).toArray 28 (0, 0)) := by
        rcases hown.out.2 with h | h
        · omega
        · exact h
      have hml : k < (marked k q ++ L.drop k).length := by rw [List.length_append, marked_length, List.length_drop, HL.out]; omega
      obtain ⟨x, c0, c1, c2⟩ : ∃ x, RowAt wr g (k * 3) x := ⟨_, rows_cells hh k hml⟩
      have f0 := rows_free hh (k * 3)
      have f1 := rows_free hh (k * 3 + 1)
      have f2 := rows_free hh (k * 3 + 2)
      have HH := Lib.hid (rows_set hh k hml ⟨q + 3 * k, q + 3 * k + 1, q + 3 * k + 2⟩)
      rw [marked_set len k q L HL.out hlt] at HH
      clear hh hml
      go_wp2_with fail
      have e2 : q + 3 * (k : Int) + 1 + 1 = q + 3 * (k : Int) + 2 := by omega
      rw [e2]
      clear e2
      go_roundw
      case rel =>
        refine ⟨k + 1, by go_num, by go_num, by omega, ⟨?_, .inr ⟨g, rfl, hg, HH.out⟩⟩, below_set3 hb.out hg _ _ _ _ _ _⟩
        rw [List.length_append, marked_length, List.length_drop, HL.out]; omega
      case measure => simp [intOf]; omega
    · have hkl : k = len := by omega
      have hfin : OwnRows wr base a len (marked len q) := by
        have := hown.out
        rw [hkl, List.drop_eq_nil_of_le (by rw [HL.out]; exact Nat.le_refl _), List.append_nil] at this
        exact this
      have HF := Lib.hid hfin
      have HK := Lib.hid hkl
      clear hfin hkl
      go_wp2_with fail
      go_ret
      exact ⟨by rw [← HK.out]; rfl, HF.out, hb.out⟩
set_option maxRecDepth 100000 in
theorem held_rows (base : Nat) (a : Option Addr) (len cap : Nat) (q : Int) (w : World) (h : OwnRows w base a len (marked len q)) (hlen : len ≤ 1000000000000) (hq0 : 0 ≤ q) (hq1 : q ≤ 1000000000000) :
    Calls Try.prog 35 #[.slice a len cap, .int .i64 q] w fun e w' => e = .returned (.int .i64 (q + 3 * len)) ∧ w = w' := by
  obtain ⟨-, h0⟩ := h
  have HO := Lib.hid h0
  clear h0
  go_enter Try.func35, Try.ntmps35
  go_wp2_with fail
  go_loop [1, 5] (fun x i => ∃ k : Nat, x = .int .i64 (q + 3 * k) ∧ i = .int .i64 k ∧ k ≤ len) (fun _ i => len - (intOf i).toNat)
  case atStart => exact ⟨0, by go_num, rfl, Nat.zero_le _⟩
  case round =>
    obtain ⟨k, rfl, rfl, hk⟩ := hrel
    by_cases hlt : k < len
    · obtain ⟨g, rfl, hg, hh⟩ : ∃ g, a = some ⟨g, 0, none⟩ ∧ base ≤ g ∧ w.heap[g]? = some (.cells (cells3 (marked len q)).toArray 28 (0, 0)) := by
        rcases HO.out with h | h
        · omega
        · exact h
      obtain ⟨c0, c1, c2⟩ := rows_cells hh k (by rw [marked_length]; exact hlt)
      rw [marked_get len q k hlt] at c0 c1 c2
      simp only at c0 c1 c2
      rw [show q + 3 * (k : Int) + 2 = q + 3 * (k : Int) + 1 + 1 by omega] at c2
      clear hh
      go_wp2_with fail
      go_round
      case rel => exact ⟨k + 1, by go_num, by go_num, by omega⟩
      case measure => simp [intOf]; omega
    · have hkl : k = len := by omega
      have HK := Lib.hid hkl
      clear hkl
      go_wp2_with fail
      go_ret
      exact ⟨by rw [← HK.out]; rfl, rfl⟩
end Go.Proofs.Ytedfjpfppipfhaa
