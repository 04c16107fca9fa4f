/- l3Two, DrawSortRows, DrawIsSorted, DrawEqualBags: what they give: rows, well formed, few. -/
import Derived.Test.YtedfjpfppipfhaaRowsDraw
import Derived.Test.YtedfjpfppipfhaaCode
import Derived.Test.YtedfjpfppipfhaaSorts
import Derived.Test.YtedfjpfppipfhaaBags
import Derived.Test.YtedfjpfppipfhaaMark
import Derived.Deep.CutRange
import Derived.Deep.RegionLaw
import Derived.Deep.RegionLawGrows
namespace Go.Proofs.Ytedfjpfppipfhaa
open Go.RowKit

/-- One slice of rows: few, well formed. -/
def OneRows (w : World) (e : Ending) (w' : World) : Prop := ∃ (x : Option Addr) (n m : Nat) (L : List R), e = .returned (.slice x n m) ∧ n ≤ 1000 ∧ (∀ r ∈ L, r.wf) ∧ IsRows w' x n L ∧ Below w.heap.size w w'
/-- Two of them. -/
def TwoRows (w : World) (e : Ending) (w' : World) : Prop := ∃ (x y : Option Addr) (n m k l : Nat) (L M : List R), e = .returned (.tuple #[.slice x n m, .slice y k l]) ∧ n ≤ 1000 ∧ k ≤ 1000 ∧ (∀ r ∈ L, r.wf) ∧ (∀ r ∈ M, r.wf) ∧ IsRows w' x n L ∧ IsRows w' y k M ∧ Below w.heap.size w w'
theorem bent_few (zs : List Int) (len : Nat) (most : Int) (σ τ : Int × Int) (L : List R) (h0 : 0 ≤ most) (h1 : most ≤ 900) (hf : bentS zs len most σ = (L, τ)) : L.length ≤ 901 ∧ ∀ r ∈ L, r.wf := by
  have h2 := bentS_length zs len most σ h0
  have h3 := bentS_wf zs len most σ
  rw [hf] at h2 h3
  exact ⟨by simp only at h2; omega, h3⟩
set_option maxRecDepth 100000 in
theorem draw_sort (a : Option Addr) (len cap : Nat) (zs : List Int) (w : World) (h : Code a len cap zs w) : Calls Try.prog 12 #[.slice a len cap] w (OneRows w) := by
  have HC := Lib.hid h
  clear h
  go_enter Try.func12, Try.ntmps12
  go_wp2_with fail
  refine (new_any a len cap zs _ HC.out.row HC.out.small HC.out.old).mono ?_
  rintro e w1 ⟨c, rfl, hc1, hge, b1⟩
  have H1 := Lib.hid hc1
  have B1 := Lib.hid b1
  have A1 := Lib.hid fun y hy hp => Nat.lt_of_lt_of_le (HC.out.old y hy hp) b1.size
  clear hc1 b1
  go_wp2_with fail
  refine (bent_any a len cap zs _ c _ H1.out A1.out 10 (by omega) (by omega)).mono ?_
  rintro e w2 ⟨v, L, τ, hf, rfl, hw2, hc2, ho2⟩
  obtain ⟨hl, hwf⟩ := bent_few zs len 10 _ _ L (by omega) (by omega) hf
  obtain ⟨x, m, rfl, hr⟩ := rows_of_own hw2 hwf
  have HR := Lib.hid hr
  have HW := Lib.hid hwf
  have B2 := Lib.hid (B1.out.trans (ho2.below B1.out.size hge))
  clear hf hc2 ho2 hw2 hr hwf
  go_wp2_with fail
  go_ret
  exact ⟨x, L.length, m, L, rfl, by omega, HW.out, HR.out, B2.out⟩
set_option maxRecDepth 100000 in
theorem draw_issorted (a : Option Addr) (len cap : Nat) (zs : List Int) (w : World) (h : Code a len cap zs w) : Calls Try.prog 16 #[.slice a len cap] w (OneRows w) := by
  have HC := Lib.hid h
  clear h
  go_enter Try.func16, Try.ntmps16
  go_wp2_with fail
  refine (new_any a len cap zs _ HC.out.row HC.out.small HC.out.old).mono ?_
  rintro e w1 ⟨c, rfl, hc1, hge, b1⟩
  have H1 := Lib.hid hc1
  have hcl := hc1.lt
  have B1 := Lib.hid b1
  have A1 := Lib.hid fun y hy hp => Nat.lt_of_lt_of_le (HC.out.old y hy hp) b1.size
  clear hc1 b1
  go_wp2_with fail
  refine (bent_any a len cap zs _ c _ H1.out A1.out 6 (by omega) (by omega)).mono ?_
  rintro e w2 ⟨v, L, τ, hf, rfl, hw2, hc2, ho2⟩
  obtain ⟨hl, hwf⟩ := bent_few zs len 6 _ _ L (by omega) (by omega) hf
  have HW := Lib.hid hwf
  have O2 := Lib.hid hw2
  have H2 := Lib.hid hc2
  have B2 := Lib.hid (B1.out.trans (ho2.below B1.out.size hge))
  clear hf hc2 ho2 hw2 hwf
  go_wp2_with fail
  refine (once_any a len cap zs _ c _ H2.out 2 (by omega) (by omega)).mono ?_
  rintro e w3 ⟨q, τ3, -, rfl, -, ho3⟩
  obtain ⟨x, m, rfl, hr⟩ := rows_of_own (own_onlyR O2.out ho3 hcl) HW.out
  have HR := Lib.hid hr
  have B3 := Lib.hid (B2.out.trans (ho3.below B2.out.size hge))
  clear ho3 hr
  by_cases hq : q = 0
  · subst hq
    go_wp2_with fail
    refine (ssort x L.length m L _ HR.out (by omega)).mono ?_
    rintro e w4 ⟨g, c4, rfl, hm4, hb4⟩
    have H4 := Lib.hid (hm4.rows (R.sort_wf HW.out))
    have B4 := Lib.hid (B3.out.trans (hb4.mono B3.out.size))
    have W4 := Lib.hid (R.sort_wf HW.out)
    clear hm4 hb4
    go_wp2_with fail
    go_ret
    exact ⟨_, _, _, _, rfl, by omega, W4.out, H4.out, B4.out⟩
  · have hqb : (q == 0) = false := by simpa using hq
    go_wp2_with fail
    go_ret
    exact ⟨x, L.length, m, L, rfl, by omega, HW.out, HR.out, B3.out⟩
/-- 'append(x, y...)', y the call's own. -/
theorem wpList_appendM {ops : Array Oper} {rest : List Oper} {o : Oper} {a : Act} {Q : Exit → Act → World → Prop} {w : World} {B B' : Nat} {M L : List R} {v y : Value} (s x : Operand)
    (hgd : o.guard = none) (ho : o.op = .call { callee := .builtin .append, args := #[s, x], argTypes := #[24, 24] })
    (hs : a.eval s = v) (hx : a.eval x = y) (hown : Mine w B v M) (hy : Mine w B' y L) (hB : B ≤ w.heap.size) (hlen : M.length + L.length ≤ 1000000000000)
    (h : ∀ v' w', Mine w' B v' (M ++ L) → w.grownBy w' v.ownBlock → wpList Try.prog ops Q rest (a.put o.dst v') w') :
    wpList Try.prog ops Q (o :: rest) a w := by
  by_cases hn : y = .slice none 0 0
  · subst hn
    have hl : L = [] := List.eq_nil_of_length_eq_zero hy.len
    subst hl
    obtain ⟨i0, hi, hz0, hz1, hz2⟩ := info_parts rowInfo
    refine wpList_append_own_none hgd s x 24 ho B 28 i0 3 Try.underlying24 hi v M.length (cells3 M) hs hown hx ?_
    exact h v w (by rw [List.append_nil]; exact hown) (World.grownBy.refl _ _)
  · obtain ⟨g, c, rfl, -, -⟩ := hy.addr hn
    exact wpList_appendR s x ⟨g, 0, none⟩ L.length c hgd ho hs hx hown rfl hy.cells hB hlen fun v' w' h1 h2 _ => h v' w' h1 h2
theorem getD_wf {L : List R} {i : Nat} (h : ∀ r ∈ L, r.wf) (hi : i < L.length) : (L.getD i R.zero).wf := h _ (R.getD_mem hi)
theorem set_wf {L : List R} {i : Nat} {r : R} (h : ∀ r ∈ L, r.wf) (hr : r.wf) : ∀ x ∈ L.set i r, x.wf := fun x hx => (List.mem_or_eq_of_mem_set hx).elim (h x) (fun e => e ▸ hr)
theorem snoc_wf {L : List R} {r : R} (h : ∀ r ∈ L, r.wf) (hr : r.wf) : ∀ x ∈ L ++ [r], x.wf := fun x hx => (List.mem_append.1 hx).elim (h x) (fun e => List.mem_singleton.1 e ▸ hr)
theorem drop_wf {L : List R} {k : Nat} (h : ∀ r ∈ L, r.wf) : ∀ x ∈ L.drop k, x.wf := fun x hx => h x (List.mem_of_mem_drop hx)
theorem take_set3 {α : Type} (cur : List α) (m : Nat) (a b c : α) (h : m + 3 ≤ cur.length) : (((cur.set m a).set (m + 1) b).set (m + 2) c).take (m + 3) = cur.take m ++ [a, b, c] := by
  apply List.ext_getElem
  · simp; omega
  · intro i h1 h2
    simp only [List.getElem_take, List.getElem_set, List.getElem_append, List.length_take]
    have hm : min m cur.length = m := by omega
    simp only [hm]
    by_cases h3 : i < m
    · rw [if_neg (by omega), if_neg (by omega), if_neg (by omega), dif_pos h3]
    · rw [dif_neg h3]
      simp at h1
      have h4 : i = m ∨ i = m + 1 ∨ i = m + 2 := by omega
      rcases h4 with rfl | rfl | rfl
      · rw [if_neg (by omega), if_neg (by omega), if_pos rfl]; simp
      · rw [if_neg (by omega), if_pos rfl]; simp
      · rw [if_pos rfl]; simp
/-- One row more, where there is room. -/
theorem Mine.push {w : World} {B g n cap : Nat} {X : List R} (h : Mine w B (.slice (some ⟨g, 0, none⟩) n cap) X) (hr : n < cap) (s : R) :
    (∀ j, j < 3 → (w.cell? ⟨g, n * 3 + j, none⟩).isSome = true ∧ w.frozen? ⟨g, n * 3 + j, none⟩ = false) ∧
    Mine (((w.setCell ⟨g, n * 3, none⟩ (.int .i64 s.key)).setCell ⟨g, n * 3 + 1, none⟩ (.int .i64 s.value)).setCell ⟨g, n * 3 + 2, none⟩ (.int .i64 s.width)) B (.slice (some ⟨g, 0, none⟩) (n + 1) cap) (X ++ [s]) := by
  have hl := h.len
  obtain ⟨h1, ⟨h0, h2⟩ | ⟨g', cap', cur, hv, hB, hh, hcap, hmax, hsz, htake⟩⟩ := h
  · injection h0 with e1; cases e1
  · injection hv with e1 e2 e3
    injection e1 with e1
    injection e1 with e1 _ _
    subst e1 e3
    have hcs : n * 3 + 3 ≤ cur.size := by omega
    refine ⟨fun j hj => ⟨?_, by simp [World.frozen?, hh]⟩, ?_⟩
    · simp only [World.cell?, hh]
      have : n * 3 + j < cur.size := by omega
      simp [this]
    · have s1 := Joins.block_setCell hh (i := n * 3) (.int .i64 s.key)
      have s2 := Joins.block_setCell s1 (i := n * 3 + 1) (.int .i64 s.value)
      have s3 := Joins.block_setCell s2 (i := n * 3 + 2) (.int .i64 s.width)
      have hln : (X ++ [s]).length = n + 1 := by rw [List.length_append, hl]; rfl
      refine ⟨cells3_length _, .inr ⟨g, cap, _, by rw [hln], hB, s3, by omega, hmax, by simpa using hsz, ?_⟩⟩
      rw [hln, show (n + 1) * 3 = n * 3 + 3 by omega]
      rw [← cells3_append, ← htake, hl]
      simp only [Array.toList_setIfInBounds]
      rw [take_set3 _ _ _ _ _ (by simpa using hcs)]
      rfl
theorem mine_of_grow {w : World} {B m : Nat} {v : Value} {X : List R} {s : R} (h : w.ownsRow B 28 3 v (m + 1) (cells3 X ++ [.int .i64 s.key, .int .i64 s.value, .int .i64 s.width])) (hl : X.length = m) : Mine w B v (X ++ [s]) := by
  have e : cells3 X ++ [Value.int .i64 s.key, .int .i64 s.value, .int .i64 s.width] = cells3 (X ++ [s]) := by rw [← cells3_append]; rfl
  unfold Mine
  rw [← e, List.length_append, hl]
  exact h
theorem IsRows.tail {w : World} {g o n : Nat} {x : R} {Y : List R} (h : IsRows w (some ⟨g, o, none⟩) (n + 1) (x :: Y)) (hn : 0 < n) : IsRows w (some ⟨g, o + 3, none⟩) n Y := by
  obtain ⟨h1, h2, h0 | ⟨b, o', e, hlt, hc⟩⟩ := h
  · omega
  · injection e with e
    injection e with e1 e2 _
    subst e1 e2
    refine ⟨by simpa using h1, fun r hr => h2 r (List.mem_cons_of_mem _ hr), .inr ⟨g, o + 3, rfl, hlt, fun t ht => ?_⟩⟩
    have := hc (t + 1) (by omega)
    rw [show o + (t + 1) * 3 = o + 3 + t * 3 by omega] at this
    simpa using this
/-- 'append(b[1:], x)' where b has room. -/
theorem room_rows {w : World} {B g m cb : Nat} {X : List R} {s : R} (h : Mine w B (.slice (some ⟨g, 0, none⟩) (m + 1) cb) X) (hr : m + 1 < cb) (hX : ∀ r ∈ X, r.wf) (hs : s.wf) :
    IsRows (w.drew.setCells g (3 + m * 3) [.int .i64 s.key, .int .i64 s.value, .int .i64 s.width]) (some ⟨g, 3, none⟩) (m + 1) (X.drop 1 ++ [s]) ∧
    ∀ B0 a, Below B0 a w → B0 ≤ g → Below B0 a (w.drew.setCells g (3 + m * 3) [.int .i64 s.key, .int .i64 s.value, .int .i64 s.width]) := by
  have hl := h.len
  obtain ⟨-, h2⟩ := h.push hr s
  have h3 := h2.rows (snoc_wf hX hs)
  obtain ⟨x, Y, rfl⟩ : ∃ x Y, X = x :: Y := by cases X with | nil => simp at hl | cons x Y => exact ⟨x, Y, rfl⟩
  have h4 := IsRows.tail (x := x) (Y := Y ++ [s]) h3 (by omega)
  rw [show 3 + m * 3 = (m + 1) * 3 by omega]
  exact ⟨h4.keep (Below.refl _ _).drew, fun B0 a hb hg => below_set3 hb.drew hg _ _ _ _ _ _⟩
set_option maxRecDepth 100000 in
set_option maxHeartbeats 2000000 in
theorem two (a : Option Addr) (len cap : Nat) (zs : List Int) (w : World) (h : Code a len cap zs w) : Calls Try.prog 49 #[.slice a len cap] w (TwoRows w) := by
  have HC := Lib.hid h
  clear h
  go_enter Try.func49, Try.ntmps49
  go_wp2_with fail
  refine (new_any a len cap zs _ HC.out.row HC.out.small HC.out.old).mono ?_
  rintro e w1 ⟨c, rfl, hc1, hge, b1⟩
  have H1 := Lib.hid hc1
  have hcl := hc1.lt
  have B1 := Lib.hid b1
  have A1 := Lib.hid fun y hy hp => Nat.lt_of_lt_of_le (HC.out.old y hy hp) b1.size
  clear hc1 b1
  go_wp2_with fail
  refine (bent_any a len cap zs _ c _ H1.out A1.out 7 (by omega) (by omega)).mono ?_
  rintro e w2 ⟨v, L, τ, hf, rfl, hw2, hc2, ho2⟩
  obtain ⟨hl, hwf⟩ := bent_few zs len 7 _ _ L (by omega) (by omega) hf
  obtain ⟨av, cv, rfl⟩ := Mine.slice (w := w2) (B := w1.heap.size) (v := v) hw2
  have hcl2 : c < w2.heap.size := Nat.lt_of_lt_of_le hcl ho2.size
  have A2 := Lib.hid fun y hy hp => Nat.lt_of_lt_of_le (A1.out y hy hp) ho2.size
  have HW := Lib.hid hwf
  have M2 : Hid (Mine w2 w1.heap.size (.slice av L.length cv) L) := hw2
  have B2 := Lib.hid (B1.out.trans (ho2.below B1.out.size hge))
  have be := (Below.refl w2.heap.size w2).alloc (Nat.le_refl _) (.cells #[] 28)
  have M0 := Lib.hid (mine_zero w2 w2.heap.size (Nat.le_refl _))
  have M3 := Lib.hid (M2.out.keep be)
  have H3 := Lib.hid (hc2.below be hcl2 A2.out)
  have BE := Lib.hid be
  have hs3 : w2.heap.size ≤ (w2.alloc (.cells #[] 28)).heap.size := by simp
  clear hf hc2 ho2 hw2 hwf be
  go_wp2_with (at_builtin; refine wpList_appendM (.tmp 14) (.tmp 15) rfl rfl rfl rfl M0.out M3.out hs3 (by simp; omega) ?_; intro v4 w4 hm4 hg4; obtain ⟨ab, cb, rfl⟩ := Mine.slice (show Mine w4 w2.heap.size v4 L from hm4))
  have b4 : Below w2.heap.size (w2.alloc (.cells #[] 28)) w4 := (Below.refl _ _).grown hg4 hs3 M0.out.own'
  have M4 : Hid (Mine w4 w2.heap.size (.slice ab L.length cb) L) := hm4
  have H4 := Lib.hid (H3.out.below b4 hcl2 A2.out)
  have O4 := Lib.hid (Only.of_below (c := c) (BE.out.trans b4))
  obtain ⟨n, hn⟩ : ∃ n, n = L.length := ⟨_, rfl⟩
  rw [← hn] at M4
  have hnn := Lib.hid hn
  have hn9 : n ≤ 901 := by omega
  clear hm4 hg4 b4 M3 H3 BE M0 hs3
  rw [← hn]
  clear hn
  go_loopw [7] (fun i wr => ∃ (k : Int) (X : List R) (σ : Int × Int), i = .int .i64 k ∧ -1 ≤ k ∧ k < n ∧ Hid (∀ r ∈ X, r.wf) ∧ Hid (Mine wr w2.heap.size (.slice ab n cb) X) ∧ Hid (Cur a len cap zs σ wr c) ∧ Hid (Only c w2 wr)) (fun i _ => (intOf i).toNat)
  case atStart => exact ⟨(n : Int) - 1, L, τ, by go_num, by omega, by omega, HW, M4, H4, O4⟩
  case round =>
    obtain ⟨k, X, σ, rfl, hk0, hkn, hXW, hown, hcur, honly⟩ := hrel
    obtain ⟨v0, hv0⟩ : ∃ v0, v0 = wr := ⟨_, rfl⟩
    subst hv0
    have A3 := Lib.hid fun y hy hp => Nat.lt_of_lt_of_le (A2.out y hy hp) honly.out.size
    by_cases hk : 0 < k
    · obtain ⟨i, rfl⟩ : ∃ i : Nat, k = (i : Int) := ⟨k.toNat, by omega⟩
      have hin : i < n := by omega
      go_wp2_with fail
      refine (below_any a len cap zs _ c _ hcur.out ((i : Int) + 1) (by omega) (by omega)).mono ?_
      rintro e w3 ⟨q, τ3, hf3, rfl, hc3, ho3⟩
      obtain ⟨hq0, hq1⟩ := belowS_range (by omega) hf3
      obtain ⟨j, rfl⟩ : ∃ j : Nat, q = (j : Int) := ⟨q.toNat, by omega⟩
      have hjn : j < n := by omega
      have hl3 : w2.heap.size ≤ w3.heap.size := Nat.le_trans honly.out.size ho3.size
      have own3 : Mine w3 w2.heap.size (.slice ab n cb) X := own_onlyR hown.out ho3 hcl2
      have hXn : X.length = n := own3.len
      obtain ⟨g, rfl, hg, hgl, ⟨c0, c1, c2⟩, hfz, hset⟩ := own3.at hin
      obtain ⟨p, hp⟩ : ∃ p, p = X.getD i R.zero := ⟨_, rfl⟩
      have hpw : p.wf := by rw [hp]; exact getD_wf hXW.out (by omega)
      rw [← hp] at c0 c1 c2
      obtain ⟨g', e', -, -, ⟨d0, d1, d2⟩, -, -⟩ := own3.at hjn
      obtain rfl : g = g' := by injection e' with e'; injection e'
      obtain ⟨s, hs⟩ : ∃ s, s = X.getD j R.zero := ⟨_, rfl⟩
      have hsw : s.wf := by rw [hs]; exact getD_wf hXW.out (by omega)
      rw [← hs] at d0 d1 d2
      have own4 := hset s
      obtain ⟨g', e2', -, -, -, -, hset5⟩ := own4.at hjn
      obtain rfl : g = g' := by injection e2' with e'; injection e'
      have OWN := Lib.hid (hset5 p)
      have f0 := hfz (i * 3)
      have f1 := hfz (i * 3 + 1)
      have f2 := hfz (i * 3 + 2)
      have k0 := hfz (j * 3)
      have k1 := hfz (j * 3 + 1)
      have k2 := hfz (j * 3 + 2)
      have hne : ¬ g = w3.heap.size := by omega
      have hne' : ¬ w3.heap.size = g := by omega
      have XW := Lib.hid (set_wf (i := j) (set_wf (i := i) hXW.out hsw) hpw)
      have H5 := Lib.hid hc3
      have O5 := Lib.hid (honly.out.trans ho3)
      have hps : i = j → s = p := fun e => by rw [hs, hp, e]
      clear hf3 hc3 ho3 own3 own4 hset hset5 hfz e' e2' hp hs hpw hsw hXn
      by_cases hij : i = j
      · obtain rfl := hps hij
        subst hij
        clear hps
        go_wp2_with fail
        go_roundw
        case rel =>
          have bb := ((below_set3 (below_set3 (Below.refl w2.heap.size w3) hg (i * 3) (i * 3 + 1) (i * 3 + 2) (.int .i64 s.key) (.int .i64 s.value) (.int .i64 s.width)) hg (i * 3) (i * 3 + 1) (i * 3 + 2) (.int .i64 s.key) (.int .i64 s.value) (.int .i64 s.width))).alloc (by simpa using hl3) (.cells #[.int .i64 s.key, .int .i64 s.value, .int .i64 s.width] 28)
          exact ⟨(i : Int) - 1, _, τ3, by go_num, by omega, by omega, XW, OWN.out.keep ((Below.refl _ _).alloc (Nat.le_refl _) _), H5.out.below bb hcl2 A2.out, O5.out.step bb⟩
        case measure => simp [intOf]; omega
      · clear hps
        go_wp2_with fail
        go_roundw
        case rel =>
          have bb := ((below_set3 (below_set3 (Below.refl w2.heap.size w3) hg (i * 3) (i * 3 + 1) (i * 3 + 2) (.int .i64 s.key) (.int .i64 s.value) (.int .i64 s.width)) hg (j * 3) (j * 3 + 1) (j * 3 + 2) (.int .i64 p.key) (.int .i64 p.value) (.int .i64 p.width))).alloc (by simpa using hl3) (.cells #[.int .i64 p.key, .int .i64 p.value, .int .i64 p.width] 28)
          exact ⟨(i : Int) - 1, _, τ3, by go_num, by omega, by omega, XW, OWN.out.keep ((Below.refl _ _).alloc (Nat.le_refl _) _), H5.out.below bb hcl2 A2.out, O5.out.step bb⟩
        case measure => simp [intOf]; omega
    · have HF := Lib.hid fun (wz : World) (y : Option Addr) (k l : Nat) (M : List R) (ho : Only c w2 wz) (hr : IsRows wz y k M) (hk : k ≤ 1000) => (show TwoRows w (.returned (.tuple #[.slice av n cv, .slice y k l])) wz from by
        rw [hnn.out]
        exact ⟨av, y, L.length, cv, k, l, L, M, rfl, by omega, hk, HW.out, hr.2.1, Mine.rows (own_onlyR M2.out ho hcl) HW.out, hr, B2.out.trans (ho.below B2.out.size hge)⟩)
      go_wp2_with fail
      refine (below_any a len cap zs _ c _ hcur.out 4 (by omega) (by omega)).mono ?_
      rintro e w5 ⟨q, τ5, hf5, rfl, hc5, ho5⟩
      obtain ⟨hq0, hq1⟩ := belowS_range (by omega) hf5
      have M5 : Hid (Mine w5 w2.heap.size (.slice ab n cb) X) := own_onlyR hown.out ho5 hcl2
      have O5 := Lib.hid (honly.out.trans ho5)
      have A5 := Lib.hid fun y hy hp => Nat.lt_of_lt_of_le (A3.out y hy hp) ho5.size
      have H5 := Lib.hid hc5
      have hl5 : w2.heap.size ≤ w5.heap.size := O5.out.size
      have hX := Lib.hid M5.out.len
      clear hf5 hc5 ho5 hown hcur honly A3
      rcases (by omega : q = 0 ∨ q = 1 ∨ (q ≠ 0 ∧ q ≠ 1)) with rfl | rfl | ⟨hn0, hn1⟩
      · go_wp2_with fail
        refine (row_any a len cap zs _ c _ H5.out A5.out 2 (by omega) (by omega)).mono ?_
        rintro e w6 ⟨r, τ6, hf6, rfl, hc6, ho6⟩
        have hrw := rowS_wf zs len 2 τ5 (by omega) (by omega)
        rw [hf6] at hrw
        have M6 : Hid (Mine w6 w2.heap.size (.slice ab n cb) X) := own_onlyR M5.out ho6 hcl2
        have O6 := Lib.hid (O5.out.trans ho6)
        have XW := Lib.hid (snoc_wf hXW.out hrw)
        have hl6 : w2.heap.size ≤ w6.heap.size := O6.out.size
        have hXl := hX.out
        clear hf6 hc6 ho6 hrw
        go_wp2_with (at_builtin; refine wpList_pushM (.tmp 47) (.tmp 50) r w6.heap.size rfl rfl rfl rfl rfl M6.out hl6 (by omega) ?_; intro g7 c7 w7 hm7 hg7 hat7)
        have b7 : Below w2.heap.size w6 w7 := (Below.refl _ _).grown hg7 hl6 M6.out.own'
        have R7 := Lib.hid (show IsRows w7 (some ⟨g7, 0, none⟩) (n + 1) (X ++ [r]) by rw [← hX.out]; exact hm7.rows XW.out)
        have O7 := Lib.hid (O6.out.step b7)
        have hXl := hX.out
        clear hm7 hg7 hat7 b7
        go_wp2_with fail
        go_ret2
        exact HF.out _ _ _ _ _ O7.out R7.out (by omega)
      · rcases Nat.eq_zero_or_pos n with h0 | h0
        · subst h0
          have R7 := Lib.hid (M5.out.rows hXW.out)
          go_wp2_with fail
          go_ret2
          exact HF.out _ _ _ _ _ O5.out R7.out (by omega)
        · obtain ⟨m, rfl⟩ : ∃ m, n = m + 1 := ⟨n - 1, by omega⟩
          obtain ⟨g, rfl, hg, hgl, ⟨c0, c1, c2⟩, -, -⟩ := M5.out.at (Nat.lt_succ_self m)
          obtain ⟨s, hs⟩ : ∃ s, s = X.getD m R.zero := ⟨_, rfl⟩
          have hXl := hX.out
          have hsw : s.wf := by rw [hs]; exact getD_wf hXW.out (by omega)
          rw [← hs] at c0 c1 c2
          have hcap := M5.out.cap
          have hba : Below w5.heap.size w5 (w5.alloc (.cells #[.int .i64 s.key, .int .i64 s.value, .int .i64 s.width] 28)) := (Below.refl _ _).alloc (Nat.le_refl _) _
          have M6 := Lib.hid (M5.out.keep hba)
          have BA := Lib.hid (hba.mono hl5)
          have XW := Lib.hid (snoc_wf (drop_wf (k := 1) hXW.out) hsw)
          have h1c : 1 ≤ cb := by omega
          have hcbi : ((cb : Int) - 1).toNat = cb - 1 := by omega
          have hm1 : ((m : Int) + 1 - 1).toNat = m := by omega
          have HSW := Lib.hid hsw
          clear hba hsw
          have HSN : ∀ j u, ([Value.int .i64 s.key, .int .i64 s.value, .int .i64 s.width])[j]? = some u → (w5.alloc (.cells #[.int .i64 s.key, .int .i64 s.value, .int .i64 s.width] 28)).cell? ((⟨w5.heap.size, 0, none⟩ : Addr).add j) = some u := World.news_of_block (heap_alloc_new w5 (.cells #[.int .i64 s.key, .int .i64 s.value, .int .i64 s.width] 28))
          have HS := Lib.hid HSN
          have hle : (1 : Int) ≤ (m : Int) + 1 := by omega
          have hwr : IntKind.i64.wrap (m : Int) = m := by rw [IntKind.wrap_i64]; omega
          have hlt1 : (m : Int) < (m : Int) + 1 := by omega
          obtain ⟨i0, hi, hz0, hz1, hz2⟩ := info_parts rowInfo
          have HLN := Lib.hid (show (X.drop 1 ++ [s]).length = m + 1 by rw [List.length_append, List.length_drop, hXl]; rfl)
          clear HSN hs
          by_cases hfull : cb = m + 1
          · subst hfull
            obtain ⟨A, hA, hAl, hAc⟩ := M6.out.from (k := 1) (by omega)
            have hA' : (if m = 0 then some (⟨g, 0, none⟩ : Addr) else some ⟨g, 3, none⟩) = some A := by simpa using hA
            have HAC := Lib.hid hAc
            have HAL := Lib.hid hAl
            clear hAc hA hAl
            go_wp2_with fail
            go_region_law (refine step_append_grows rfl (.tmp 58) (.tmp 65) 24 rfl 28 i0 R.zero.val 3 24 Try.underlying24 hi hz0 hz1 hz2 rfl (by decide) (some A) m m (cells3 (X.drop 1)) rfl (fun h => by cases h) (by rw [cells3_length, HAL.out]; omega) (fun b hb => by cases hb; exact HAC.out) ⟨w5.heap.size, 0, none⟩ 1 1 [.int .i64 s.key, .int .i64 s.value, .int .i64 s.width] rfl rfl HS.out (one_row s) (by omega) (by unfold maxLen; omega) (by omega) ?_; intro v7 w7 hm7 hg7; obtain ⟨a7, c7, rfl⟩ : ∃ a c, v7 = .slice a (m + 1) c := (by have := (mine_of_grow (m := m) hm7 (by rw [HAL.out]; omega)).slice; rwa [HLN.out] at this))
            all_goals
              have R7 := Lib.hid (show IsRows w7 a7 (m + 1) (X.drop 1 ++ [s]) from (mine_of_grow (m := m) hm7 (by rw [HAL.out]; omega)).rows XW.out)
              have O7 := Lib.hid ((O5.out.step BA.out).step (((Below.refl _ _).drew.grown hg7 (by simp; omega) (fun k hk => by cases hk) : Below w2.heap.size (w5.alloc (.cells #[.int .i64 s.key, .int .i64 s.value, .int .i64 s.width] 28)) w7)))
              clear hm7 hg7
              go_wp2_with fail
              go_ret2
              exact HF.out _ _ _ _ _ O7.out R7.out (by omega)
          · have hroom : m + 1 < cb := by omega
            obtain ⟨hsp, -⟩ := M6.out.push hroom s
            have RR := Lib.hid (room_rows (s := s) M6.out hroom hXW.out HSW.out)
            have hm0 : (if cb = 1 then some (⟨g, 0, none⟩ : Addr) else some ⟨g, 3, none⟩) = some ⟨g, 3, none⟩ := if_neg (by omega)
            have HSP := Lib.hid hsp
            clear hsp
            go_wp2_with fail
            go_region_law (refine step_append_room rfl (.tmp 58) (.tmp 65) 24 rfl 28 i0 3 Try.underlying24 hi hz1 g 3 m (cb - 1) rfl ⟨w5.heap.size, 0, none⟩ 1 1 [.int .i64 s.key, .int .i64 s.value, .int .i64 s.width] rfl rfl HS.out (one_row s) (by omega) (fun j hj => by rw [show 3 + m * 3 + j = (m + 1) * 3 + j by omega]; exact HSP.out j hj) ?_)
            all_goals go_wp2_with fail
            all_goals go_ret2
            all_goals exact HF.out _ _ _ _ _ (O5.out.step (RR.out.2 _ _ BA.out hg)) RR.out.1 (by omega)
      · go_wp2_with fail
        go_ret2
        exact HF.out _ _ _ _ _ O5.out (M5.out.rows hXW.out) (by omega)
end Go.Proofs.Ytedfjpfppipfhaa
