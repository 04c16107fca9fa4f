/- Rows in a block of the call's own: what appends add, what slices of them hold; no function of program or reference is walked here. -/
import Derived.Test.YtoiobaiiammehaaDoorMine
import Derived.Test.YtoiobaiiammehaaDoorBag
import Derived.Deep.RegionLaw
import Derived.Deep.RegionLawGrows
import Derived.Deep.AppendLies
import Derived.Lib.SliceRun
namespace Go.Proofs.YtoiobaiiammehaaDoor
open Go.RowKit

theorem Mine.grown {w w' : World} {B : Nat} {v : Value} {L : List R} {row : Option Nat} (h : Mine w B v L) (hg : w.grownBy w' row) (hne : ∀ k, v.ownBlock = some k → row ≠ some k) : Mine w' B v L := by
  obtain ⟨h1, h0 | ⟨g, cap, cur, rfl, hB, hh, h2⟩⟩ := h
  · exact ⟨h1, .inl h0⟩
  · exact ⟨h1, .inr ⟨g, cap, cur, rfl, hB, (hg.block g (lt_of_block hh) (fun e => hne g rfl e.symm)).trans hh, h2⟩⟩
theorem Mine.addr {w : World} {B : Nat} {v : Value} {L : List R} (h : Mine w B v L) (hne : v ≠ .slice none 0 0) : ∃ g c, v = .slice (some ⟨g, 0, none⟩) L.length c ∧ B ≤ g ∧ g < w.heap.size := by
  obtain ⟨h1, h0 | ⟨g, cap, cur, rfl, hB, hh, h2⟩⟩ := h
  · exact absurd h0.1 hne
  · exact ⟨g, cap, rfl, hB, lt_of_block hh⟩
theorem Mine.own' {w : World} {B : Nat} {v : Value} {L : List R} (h : Mine w B v L) : ∀ k, v.ownBlock = some k → B ≤ k := fun k hk => (World.ownsRow.lt h k hk).1
theorem Mine.drew {w : World} {B : Nat} {v : Value} {L : List R} (h : Mine w B v L) : Mine w.drew B v L := h
theorem Mine.cap {w : World} {B g len cap : Nat} {L : List R} (h : Mine w B (.slice (some ⟨g, 0, none⟩) len cap) L) : len ≤ cap := by
  have hl := h.len
  rcases h.2 with ⟨h0, h2⟩ | ⟨g', cap', cur, hv, hB, hh, hc, -⟩
  · injection h0 with e1 e2 e3; cases e1
  · injection hv with e1 e2 e3; omega
theorem Mine.lt {w : World} {B g len cap : Nat} {L : List R} (h : Mine w B (.slice (some ⟨g, 0, none⟩) len cap) L) : g < w.heap.size := (World.ownsRow.lt h g rfl).2
/-- The cells of what lies in a slice from k on, where the slice that is cut there begins. -/
theorem Mine.from {w : World} {B : Nat} {g len cap : Nat} {L : List R} (h : Mine w B (.slice (some ⟨g, 0, none⟩) len cap) L) {k : Nat} (hk : k ≤ len) :
    ∃ A : Addr, (if cap = k then some (⟨g, 0, none⟩ : Addr) else some ⟨g, k * 3, none⟩) = some A ∧ (L.drop k).length = len - k ∧ ∀ j u, (cells3 (L.drop k))[j]? = some u → w.cell? (A.add j) = some u := by
  have hl := h.len
  have hcap : len ≤ cap := by
    rcases h.2 with ⟨h0, h2⟩ | ⟨g', cap', cur, hv, hB, hh, hc, -⟩
    · injection h0 with e1 e2 e3; cases e1
    · injection hv with e1 e2 e3; omega
  have hld : (L.drop k).length = len - k := by rw [List.length_drop, hl]
  by_cases hc : cap = k
  · refine ⟨_, by rw [if_pos hc], hld, fun j u hj => ?_⟩
    have : L.drop k = [] := List.drop_eq_nil_of_le (by omega)
    rw [this] at hj
    simp [cells3] at hj
  · refine ⟨_, by rw [if_neg hc], hld, fun j u hj => ?_⟩
    have hjl : j < (len - k) * 3 := by have := (List.getElem?_eq_some_iff.1 hj).1; rwa [cells3_length, hld] at this
    obtain ⟨g', e, hB, hg, -, -, -⟩ := h.at (k := k) (by omega)
    have hat : RowAt w g ((k + j / 3) * 3) (L.getD (k + j / 3) R.zero) := by
      obtain ⟨g2, e2, -, -, hat, -⟩ := h.at (k := k + j / 3) (by omega)
      injection e2 with e2; injection e2 with e2 _ _
      rw [e2]; exact hat
    have hd : (L.drop k).getD (j / 3) R.zero = L.getD (k + j / 3) R.zero := by simp [List.getD, List.getElem?_drop]
    obtain ⟨e0, e1, e2⟩ := cells3_get (L.drop k) (j / 3) (by omega)
    rw [hd] at e0 e1 e2
    obtain ⟨c0, c1, c2⟩ := hat
    rw [Addr.add_lit]
    have h3 : j = j / 3 * 3 ∨ j = j / 3 * 3 + 1 ∨ j = j / 3 * 3 + 2 := by omega
    rcases h3 with h | h | h
    · rw [h] at hj ⊢; rw [e0] at hj; rw [← hj, ← c0]; congr 2; omega
    · rw [h] at hj ⊢; rw [e1] at hj; rw [← hj, ← c1]; congr 2; omega
    · rw [h] at hj ⊢; rw [e2] at hj; rw [← hj, ← c2]; congr 2; omega
theorem Mine.cells {w : World} {B : Nat} {g len cap : Nat} {L : List R} (h : Mine w B (.slice (some ⟨g, 0, none⟩) len cap) L) : ∀ j u, (cells3 L)[j]? = some u → w.cell? ((⟨g, 0, none⟩ : Addr).add j) = some u := by
  intro j u hj
  have hjl : j < L.length * 3 := by have := (List.getElem?_eq_some_iff.1 hj).1; rwa [cells3_length] at this
  rcases h.2 with ⟨h0, h2⟩ | ⟨g', cap', cur, hv, hB, hh, hc, hm, hs, htake⟩
  · injection h0 with e1 e2 e3; cases e1
  · injection hv with e1 e2 e3
    injection e1 with e1
    injection e1 with e1 _ _
    subst e1
    rw [← htake, List.getElem?_take, if_pos hjl] at hj
    rw [Addr.add_lit, Nat.zero_add]
    simp only [World.cell?, hh]
    simpa using hj
/-- 'append(x, y...)' as a step of a region that draws its order. -/
theorem step_appendR {ops : Array Oper} {o : Oper} {a : Act} {K : Act → World → Prop} {Q : Exit → Act → World → Prop} {E : Prop} {w : World} {B : Nat} {M L : List R} {v : Value} (s x : Operand) (ad : Addr) (m c : Nat)
    (hgd : o.guard = none) (ho : o.op = .call { callee := .builtin .append, args := #[s, x], argTypes := #[39, 39] })
    (hs : a.eval s = v) (hx : a.eval x = .slice (some ad) m c) (hown : Mine w B v M) (hl : L.length = m) (hc : ∀ j u, (cells3 L)[j]? = some u → w.cell? (ad.add j) = some u) (hB : B ≤ w.heap.size)
    (hlen : M.length + m ≤ 1000000000000)
    (h : ∀ v' w', Mine w' B v' (M ++ L) → w.grownBy w' v.ownBlock → (v' = .slice none 0 0 ↔ v = .slice none 0 0 ∧ m = 0) → K (a.put o.dst v') w') :
    if Region.wanted o (yielded ops a.tmps) = true then Oper.wp Tryd.prog o a w K Q else E := by
  have hw : Region.wanted o (yielded ops a.tmps) = true := by simp [Region.wanted, hgd]
  rw [if_pos hw]
  obtain ⟨i0, hi, hz0, hz1, hz2⟩ := info_parts rowInfo
  refine wp_append_own _ s x 39 ho B 65 i0 R.zero.val 3 24 Tryd.underlying39 hi hz0 hz1 hz2 rfl (by decide) v M.length (cells3 M) hs hown
    ad m c (cells3 L) hx (by rw [cells3_length, hl]) hc (one_cells L) (by unfold maxLen; omega) (by omega) hB ?_
  intro v' w' hown' hg hn
  rw [cells3_append] at hown'
  exact h v' w' (by unfold Mine; rw [List.length_append, hl]; exact hown') hg hn
/-- One row in a block of its own, as a literal lays it. -/
theorem mine_one (w : World) (B : Nat) (hB : B ≤ w.heap.size) (r : R) : Mine (w.alloc (.cells #[.int .i64 r.key, .int .i64 r.value, .int .i64 r.width] 65)) B (.slice (some ⟨w.heap.size, 0, none⟩) 1 1) [r] :=
  ⟨rfl, .inr ⟨w.heap.size, 1, _, rfl, hB, heap_alloc_new w _, Nat.le_refl _, by unfold maxLen; simp, rfl, rfl⟩⟩
theorem mine_zero (w : World) (B : Nat) (hB : B ≤ w.heap.size) : Mine (w.alloc (.cells #[] 65)) B (.slice (some ⟨w.heap.size, 0, none⟩) 0 0) [] :=
  World.ownsRow_made w #[] 0 hB (Nat.zero_le _) (by simp)
theorem getD_ext {A B : List R} (h : A.length = B.length) (he : ∀ t, t < A.length → A.getD t R.zero = B.getD t R.zero) : A = B := by
  apply List.ext_getElem h
  intro t h1 h2
  have := he t h1
  simpa [List.getD, h1, h2] using this
/-- 'out = append(out, r)', and where the new slice lies. -/
theorem wpList_pushM {ops : Array Oper} {rest : List Oper} {o : Oper} {a : Act} {Q : Exit → Act → World → Prop} {wr : World} {B : Nat} {M : List R} {v : Value} (s x : Operand) (r : R) (N : Nat) (hN : N = wr.heap.size)
    (hgd : o.guard = none) (ho : o.op = .call { callee := .builtin .append, args := #[s, x], argTypes := #[39, 39] })
    (hs : a.eval s = v) (hx : a.eval x = .slice (some ⟨N, 0, none⟩) 1 1) (hown : Mine wr B v M) (hB : B ≤ wr.heap.size) (hlen : M.length + 1 ≤ 1000000000000)
    (h : ∀ g c w', Mine w' B (.slice (some ⟨g, 0, none⟩) (M.length + 1) c) (M ++ [r]) → wr.grownBy w' v.ownBlock → (v.ownBlock = some g ∨ wr.heap.size ≤ g) → wpList Tryd.prog ops Q rest (a.put o.dst (.slice (some ⟨g, 0, none⟩) (M.length + 1) c)) w') :
    wpList Tryd.prog ops Q (o :: rest) a (wr.alloc (.cells #[.int .i64 r.key, .int .i64 r.value, .int .i64 r.width] 65)) := by
  subst hN
  obtain ⟨i0, hi, hz0, hz1, hz2⟩ := info_parts rowInfo
  refine wpList_append_lies _ hgd s x 39 ho B 65 i0 R.zero.val 3 24 Tryd.underlying39 hi hz0 hz1 hz2 rfl (by decide) v M.length (cells3 M) hs (World.ownsRow.alloc hown _)
    ⟨wr.heap.size, 0, none⟩ 1 1 [.int .i64 r.key, .int .i64 r.value, .int .i64 r.width] hx rfl ?_ (one_row r) (by omega) (by unfold maxLen; omega) (by omega) (by simp; omega) _ rfl ?_
  · exact World.news_of_block (heap_alloc_new wr (.cells #[.int .i64 r.key, .int .i64 r.value, .int .i64 r.width] 65))
  · intro g c w' hown' hg hat _
    have e : cells3 M ++ [.int .i64 r.key, .int .i64 r.value, .int .i64 r.width] = cells3 (M ++ [r]) := by rw [← cells3_append]; rfl
    rw [e] at hown'
    refine h g c w' ?_ ((World.grownBy_alloc wr _ _).trans hg) ?_
    · unfold Mine
      rw [List.length_append]
      exact hown'
    · rcases hat with hat | hat
      · exact .inl hat
      · refine .inr ?_
        rw [hat]
        simp
theorem row_ifs {α : Type} (q p : R) (h : q ≠ p) (X Y : α) : (if q.key = p.key then if q.value = p.value then if q.width = p.width then X else Y else Y else Y) = Y := by
  obtain ⟨a, b, c⟩ := q
  obtain ⟨a', b', c'⟩ := p
  (repeat' split) <;> first | rfl | (exfalso; simp_all)
/-- 'append(x, y...)', y the call's own. -/
theorem wpList_appendM {ops : Array Oper} {rest : List Oper} {o : Oper} {a : Act} {Q : Exit → Act → World → Prop} {w : World} {B B' : Nat} {M L : List R} {v y : Value} (s x : Operand)
    (hgd : o.guard = none) (ho : o.op = .call { callee := .builtin .append, args := #[s, x], argTypes := #[39, 39] })
    (hs : a.eval s = v) (hx : a.eval x = y) (hown : Mine w B v M) (hy : Mine w B' y L) (hB : B ≤ w.heap.size) (hlen : M.length + L.length ≤ 1000000000000)
    (h : ∀ v' w', Mine w' B v' (M ++ L) → w.grownBy w' v.ownBlock → wpList Tryd.prog ops Q rest (a.put o.dst v') w') :
    wpList Tryd.prog ops Q (o :: rest) a w := by
  by_cases hn : y = .slice none 0 0
  · subst hn
    have hl : L = [] := List.eq_nil_of_length_eq_zero hy.len
    subst hl
    obtain ⟨i0, hi, hz0, hz1, hz2⟩ := info_parts rowInfo
    refine wpList_append_own_none hgd s x 39 ho B 65 i0 3 Tryd.underlying39 hi v M.length (cells3 M) hs hown hx ?_
    exact h v w (by rw [List.append_nil]; exact hown) (World.grownBy.refl _ _)
  · obtain ⟨g, c, rfl, -, -⟩ := hy.addr hn
    exact wpList_appendR s x ⟨g, 0, none⟩ L.length c hgd ho hs hx hown rfl hy.cells hB hlen fun v' w' h1 h2 _ => h v' w' h1 h2
theorem getD_wf {L : List R} {i : Nat} (h : ∀ r ∈ L, r.wf) (hi : i < L.length) : (L.getD i R.zero).wf := h _ (R.getD_mem hi)
theorem set_wf {L : List R} {i : Nat} {r : R} (h : ∀ r ∈ L, r.wf) (hr : r.wf) : ∀ x ∈ L.set i r, x.wf := fun x hx => (List.mem_or_eq_of_mem_set hx).elim (h x) (fun e => e ▸ hr)
theorem snoc_wf {L : List R} {r : R} (h : ∀ r ∈ L, r.wf) (hr : r.wf) : ∀ x ∈ L ++ [r], x.wf := fun x hx => (List.mem_append.1 hx).elim (h x) (fun e => List.mem_singleton.1 e ▸ hr)
theorem drop_wf {L : List R} {k : Nat} (h : ∀ r ∈ L, r.wf) : ∀ x ∈ L.drop k, x.wf := fun x hx => h x (List.mem_of_mem_drop hx)
theorem take_set3 {α : Type} (cur : List α) (m : Nat) (a b c : α) (h : m + 3 ≤ cur.length) : (((cur.set m a).set (m + 1) b).set (m + 2) c).take (m + 3) = cur.take m ++ [a, b, c] := by
  apply List.ext_getElem
  · simp; omega
  · intro i h1 h2
    simp only [List.getElem_take, List.getElem_set, List.getElem_append, List.length_take]
    have hm : min m cur.length = m := by omega
    simp only [hm]
    by_cases h3 : i < m
    · rw [if_neg (by omega), if_neg (by omega), if_neg (by omega), dif_pos h3]
    · rw [dif_neg h3]
      simp at h1
      have h4 : i = m ∨ i = m + 1 ∨ i = m + 2 := by omega
      rcases h4 with rfl | rfl | rfl
      · rw [if_neg (by omega), if_neg (by omega), if_pos rfl]; simp
      · rw [if_neg (by omega), if_pos rfl]; simp
      · rw [if_pos rfl]; simp
/-- One row more, where there is room. -/
theorem Mine.push {w : World} {B g n cap : Nat} {X : List R} (h : Mine w B (.slice (some ⟨g, 0, none⟩) n cap) X) (hr : n < cap) (s : R) :
    (∀ j, j < 3 → (w.cell? ⟨g, n * 3 + j, none⟩).isSome = true ∧ w.frozen? ⟨g, n * 3 + j, none⟩ = false) ∧
    Mine (((w.setCell ⟨g, n * 3, none⟩ (.int .i64 s.key)).setCell ⟨g, n * 3 + 1, none⟩ (.int .i64 s.value)).setCell ⟨g, n * 3 + 2, none⟩ (.int .i64 s.width)) B (.slice (some ⟨g, 0, none⟩) (n + 1) cap) (X ++ [s]) := by
  have hl := h.len
  obtain ⟨h1, ⟨h0, h2⟩ | ⟨g', cap', cur, hv, hB, hh, hcap, hmax, hsz, htake⟩⟩ := h
  · injection h0 with e1; cases e1
  · injection hv with e1 e2 e3
    injection e1 with e1
    injection e1 with e1 _ _
    subst e1 e3
    have hcs : n * 3 + 3 ≤ cur.size := by omega
    refine ⟨fun j hj => ⟨?_, by simp [World.frozen?, hh]⟩, ?_⟩
    · simp only [World.cell?, hh]
      have : n * 3 + j < cur.size := by omega
      simp [this]
    · have s1 := Joins.block_setCell hh (i := n * 3) (.int .i64 s.key)
      have s2 := Joins.block_setCell s1 (i := n * 3 + 1) (.int .i64 s.value)
      have s3 := Joins.block_setCell s2 (i := n * 3 + 2) (.int .i64 s.width)
      have hln : (X ++ [s]).length = n + 1 := by rw [List.length_append, hl]; rfl
      refine ⟨cells3_length _, .inr ⟨g, cap, _, by rw [hln], hB, s3, by omega, hmax, by simpa using hsz, ?_⟩⟩
      rw [hln, show (n + 1) * 3 = n * 3 + 3 by omega]
      rw [← cells3_append, ← htake, hl]
      simp only [Array.toList_setIfInBounds]
      rw [take_set3 _ _ _ _ _ (by simpa using hcs)]
      rfl
theorem mine_of_grow {w : World} {B m : Nat} {v : Value} {X : List R} {s : R} (h : w.ownsRow B 65 3 v (m + 1) (cells3 X ++ [.int .i64 s.key, .int .i64 s.value, .int .i64 s.width])) (hl : X.length = m) : Mine w B v (X ++ [s]) := by
  have e : cells3 X ++ [Value.int .i64 s.key, .int .i64 s.value, .int .i64 s.width] = cells3 (X ++ [s]) := by rw [← cells3_append]; rfl
  unfold Mine
  rw [← e, List.length_append, hl]
  exact h
theorem IsRows.tail {w : World} {g o n : Nat} {x : R} {Y : List R} (h : IsRows w (some ⟨g, o, none⟩) (n + 1) (x :: Y)) (hn : 0 < n) : IsRows w (some ⟨g, o + 3, none⟩) n Y := by
  obtain ⟨h1, h2, h0 | ⟨b, o', e, hlt, hc⟩⟩ := h
  · omega
  · injection e with e
    injection e with e1 e2 _
    subst e1 e2
    refine ⟨by simpa using h1, fun r hr => h2 r (List.mem_cons_of_mem _ hr), .inr ⟨g, o + 3, rfl, hlt, fun t ht => ?_⟩⟩
    have := hc (t + 1) (by omega)
    rw [show o + (t + 1) * 3 = o + 3 + t * 3 by omega] at this
    simpa using this
/-- A row of a slice. -/
theorem IsRows.at {w : World} {a : Option Addr} {len : Nat} {L : List R} (h : IsRows w a len L) {t : Nat} (ht : t < len) : ∃ b o : Nat, a = some ⟨b, o, none⟩ ∧ b < w.heap.size ∧ RowAt w b (o + t * 3) (L.getD t R.zero) := by
  obtain ⟨-, -, h0 | ⟨b, o, e, hb, hc⟩⟩ := h
  · omega
  · exact ⟨b, o, e, hb, hc t ht⟩
/-- 'out = append(out, r)' as a step of a region that draws its order, and where the new slice lies. -/
theorem step_pushM {ops : Array Oper} {o : Oper} {a : Act} {K : Act → World → Prop} {Q : Exit → Act → World → Prop} {E : Prop} {w : World} {B : Nat} {M : List R} {v : Value} (s x : Operand) (ad : Addr) (r : R)
    (hgd : o.guard = none) (ho : o.op = .call { callee := .builtin .append, args := #[s, x], argTypes := #[39, 39] })
    (hs : a.eval s = v) (hx : a.eval x = .slice (some ad) 1 1) (hown : Mine w B v M) (hc : ∀ j u, [Value.int .i64 r.key, .int .i64 r.value, .int .i64 r.width][j]? = some u → w.cell? (ad.add j) = some u) (hB : B ≤ w.heap.size)
    (hlen : M.length + 1 ≤ 1000000000000)
    (h : ∀ g c w', Mine w' B (.slice (some ⟨g, 0, none⟩) (M.length + 1) c) (M ++ [r]) → w.grownBy w' v.ownBlock → (v.ownBlock = some g ∨ w.heap.size ≤ g) → K (a.put o.dst (.slice (some ⟨g, 0, none⟩) (M.length + 1) c)) w') :
    if Region.wanted o (yielded ops a.tmps) = true then Oper.wp Tryd.prog o a w K Q else E := by
  obtain ⟨i0, hi, hz0, hz1, hz2⟩ := info_parts rowInfo
  refine step_append_lies _ hgd s x 39 ho B 65 i0 R.zero.val 3 24 Tryd.underlying39 hi hz0 hz1 hz2 rfl (by decide) v M.length (cells3 M) hs hown
    ad 1 1 [.int .i64 r.key, .int .i64 r.value, .int .i64 r.width] hx rfl hc (one_row r) (by omega) (by unfold maxLen; omega) (by omega) hB _ rfl ?_
  intro g c w' hown' hg hat _
  refine h g c w' (mine_of_grow hown' rfl) hg ?_
  rcases hat with hat | hat
  · exact .inl hat
  · exact .inr (by rw [hat]; exact Nat.le_refl _)
end Go.Proofs.YtoiobaiiammehaaDoor
