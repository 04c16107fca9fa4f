/- Texts joined: Mem Shape VMk VJ Apart Only ToRow ToRows Mark OpenRow Opens MarkIn TBase TRow Pg TPage TFile TDisk VTr Kit Bits Draw Byte Below New Pick Code Block. -/
import Derived.Test.YtjdjceohlcimaaaGreatDoorPartDiskOperationsb
import Derived.Test.YtjdjceohlcimaaaGreatDoorProg
import Derived.WalkKit
import Derived.Below
import Derived.Lib.Hide
import Derived.OwnWalk
import Derived.IntWalk
import Derived.Laws.OwnMore
import Derived.OpenShut
import Derived.Lib.SmallJoins
import Derived.Laws.AppendOwnNone
import Derived.Deep.RegionLaw
import Derived.Deep.RegionLawGrows
import Derived.Deep.AppendLies
import Derived.Lib.SliceRun
import Derived.BigQuiet
import Derived.Deep.Slices
import Derived.Deep.Strs
import Derived.Laws.IdiomStrings
import Derived.Laws.BitsAllLaws
import Derived.Laws.BitsLemmas
import Derived.Deep.QuietTactic
import Derived.Deep.RegionWith
/- Rows in memory, slices over shapes, slices built element by element, appends; no function of program or reference is walked here. -/
namespace Go.Proofs.YtjdjceohlcimaaaGreatDoor
open Go.RowKit
def R.val (r : R) : Value := .agg #[.int .i64 r.key, .int .i64 r.value, .int .i64 r.width]
def RowAt (w : World) (b o : Nat) (r : R) : Prop := w.cell? ⟨b, o, none⟩ = some (.int .i64 r.key) ∧ w.cell? ⟨b, o + 1, none⟩ = some (.int .i64 r.value) ∧ w.cell? ⟨b, o + 2, none⟩ = some (.int .i64 r.width)
theorem RowAt.below {w w' : World} {B b o : Nat} {r : R} (h : RowAt w b o r) (hb : Below B w w') (hlt : b < B) : RowAt w' b o r :=
  ⟨(hb.cell hlt).trans h.1, (hb.cell hlt).trans h.2.1, (hb.cell hlt).trans h.2.2⟩
theorem box_row {w w' : World} {r : R} {t : TypeId} (hb : Below (w.alloc (.cells #[.int .i64 r.key, .int .i64 r.value, .int .i64 r.width] t)).heap.size (w.alloc (.cells #[.int .i64 r.key, .int .i64 r.value, .int .i64 r.width] t)) w') :
    RowAt w' w.heap.size 0 r ∧ Below w.heap.size w w' := by
  have hs : w.heap.size < (w.alloc (.cells #[.int .i64 r.key, .int .i64 r.value, .int .i64 r.width] t)).heap.size := by simp
  refine ⟨RowAt.below ⟨?_, ?_, ?_⟩ hb hs, ?_⟩
  · simp
  · simp
  · simp
  · exact ((Below.refl _ _).alloc (Nat.le_refl _) _).trans (hb.mono (by simp))
theorem box_lt {w w' : World} {cs : Array Value} {t : TypeId} {fr : Nat × Nat} (hb : Below (w.alloc (.cells cs t fr)).heap.size (w.alloc (.cells cs t fr)) w') : w.heap.size < w'.heap.size := Nat.lt_of_lt_of_le (by simp) hb.size
structure Boxes (w : World) (a b : R) (v : World) : Prop where
  a0 : v.cell? ⟨w.heap.size, 0, none⟩ = some (.int .i64 a.key)
  a1 : v.cell? ⟨w.heap.size, 1, none⟩ = some (.int .i64 a.value)
  a2 : v.cell? ⟨w.heap.size, 2, none⟩ = some (.int .i64 a.width)
  b0 : v.cell? ⟨w.heap.size + 1, 0, none⟩ = some (.int .i64 b.key)
  b1 : v.cell? ⟨w.heap.size + 1, 1, none⟩ = some (.int .i64 b.value)
  b2 : v.cell? ⟨w.heap.size + 1, 2, none⟩ = some (.int .i64 b.width)
  old : Below w.heap.size w v
  big : w.heap.size + 1 < v.heap.size
theorem Boxes.drew {w v : World} {a b : R} (h : Boxes w a b v) : Boxes w a b v.drew := ⟨h.a0, h.a1, h.a2, h.b0, h.b1, h.b2, h.old.drew, h.big⟩
theorem Boxes.next {w v v' : World} {a b : R} (h : Boxes w a b v) (hb : Below v.heap.size v v') : Boxes w a b v' := by
  have h1 : w.heap.size < v.heap.size := by have := h.big; omega
  exact ⟨(hb.cell h1).trans h.a0, (hb.cell h1).trans h.a1, (hb.cell h1).trans h.a2, (hb.cell h.big).trans h.b0, (hb.cell h.big).trans h.b1, (hb.cell h.big).trans h.b2, h.old.trans (hb.mono (Nat.le_of_lt h1)), Nat.lt_of_lt_of_le h.big hb.size⟩
def IsRows (w : World) (a : Option Addr) (len : Nat) (L : List R) : Prop :=
  L.length = len ∧ (∀ r ∈ L, r.wf) ∧ (len = 0 ∨ ∃ b o : Nat, a = some ⟨b, o, none⟩ ∧ b < w.heap.size ∧ ∀ t, t < len → RowAt w b (o + t * 3) (L.getD t R.zero))
theorem IsRows.below {w w' : World} {a : Option Addr} {len B : Nat} {L : List R} (h : IsRows w a len L) (hb : Below B w w') (ha : ∀ x, a = some x → 0 < len → x.block < B) : IsRows w' a len L := by
  obtain ⟨h1, h2, h3⟩ := h
  refine ⟨h1, h2, ?_⟩
  rcases h3 with h3 | ⟨b, o, rfl, hlt, h3⟩
  · exact .inl h3
  · rcases Nat.eq_zero_or_pos len with h0 | h0
    · exact .inl h0
    · exact .inr ⟨b, o, rfl, Nat.lt_of_lt_of_le hlt hb.size, fun t ht => (h3 t ht).below hb (ha _ rfl h0)⟩
theorem IsRows.keep {w w' : World} {a : Option Addr} {len : Nat} {L : List R} (h : IsRows w a len L) (hb : Below w.heap.size w w') : IsRows w' a len L := by
  obtain ⟨h1, h2, h3⟩ := h
  refine ⟨h1, h2, ?_⟩
  rcases h3 with h3 | ⟨b, o, rfl, hlt, h3⟩
  · exact .inl h3
  · exact .inr ⟨b, o, rfl, Nat.lt_of_lt_of_le hlt hb.size, fun t ht => (h3 t ht).below hb hlt⟩
def RowsLow (a : Option Addr) (len B : Nat) : Prop := ∀ x, a = some x → 0 < len → x.block < B
theorem IsRows.old {w : World} {a : Option Addr} {len : Nat} {L : List R} (h : IsRows w a len L) : RowsLow a len w.heap.size := by
  intro x hx hp
  obtain ⟨-, -, h0 | ⟨b, o, rfl, hlt, -⟩⟩ := h
  · omega
  · cases hx; exact hlt
theorem IsRows.low {w w' : World} {a : Option Addr} {len B : Nat} {L : List R} (h : IsRows w a len L) (hl : Hid (RowsLow a len B)) (hb : Below B w w') : IsRows w' a len L := h.below hb hl.out
theorem IsRows.wf {w : World} {a : Option Addr} {len : Nat} {L : List R} (h : IsRows w a len L) (t : Nat) (ht : t < len) : (L.getD t R.zero).wf := by
  have hl : t < L.length := by rw [h.1]; exact ht
  have : L.getD t R.zero = L[t] := by simp [List.getD, hl]
  rw [this]
  exact h.2.1 _ (List.getElem_mem hl)
def cells3 (L : List R) : List Value := L.flatMap fun r => [.int .i64 r.key, .int .i64 r.value, .int .i64 r.width]
theorem cells3_length (L : List R) : (cells3 L).length = L.length * 3 := by
  induction L with
  | nil => rfl
  | cons r L ih => unfold cells3 at ih ⊢; rw [List.flatMap_cons, List.length_append, ih]; simp; omega
theorem cells3_get (L : List R) : ∀ (t : Nat), t < L.length → (cells3 L)[t * 3]? = some (.int .i64 (L.getD t R.zero).key) ∧ (cells3 L)[t * 3 + 1]? = some (.int .i64 (L.getD t R.zero).value) ∧ (cells3 L)[t * 3 + 2]? = some (.int .i64 (L.getD t R.zero).width) := by
  induction L with
  | nil => intro t ht; simp at ht
  | cons r L ih =>
    intro t ht
    cases t with
    | zero => exact ⟨rfl, rfl, rfl⟩
    | succ t =>
      have := ih t (by simpa using ht)
      have e : cells3 (r :: L) = .int .i64 r.key :: .int .i64 r.value :: .int .i64 r.width :: cells3 L := rfl
      rw [e, show (t + 1) * 3 = t * 3 + 3 by omega]
      simpa using this
theorem cells3_set (L : List R) : ∀ (t : Nat) (r : R), t < L.length → (((cells3 L).set (t * 3) (.int .i64 r.key)).set (t * 3 + 1) (.int .i64 r.value)).set (t * 3 + 2) (.int .i64 r.width) = cells3 (L.set t r) := by
  induction L with
  | nil => intro t r ht; simp at ht
  | cons q L ih =>
    intro t r ht
    cases t with
    | zero => rfl
    | succ t =>
      have := ih t r (by simpa using ht)
      have e : cells3 (q :: L) = .int .i64 q.key :: .int .i64 q.value :: .int .i64 q.width :: cells3 L := rfl
      have e' : cells3 ((q :: L).set (t + 1) r) = .int .i64 q.key :: .int .i64 q.value :: .int .i64 q.width :: cells3 (L.set t r) := rfl
      rw [e, e', show (t + 1) * 3 = t * 3 + 3 by omega, ← this]
      simp [List.set]
theorem cells3_append (L M : List R) : cells3 L ++ cells3 M = cells3 (L ++ M) := by simp [cells3]
theorem rowInfo : (Tryz.prog.info? 72).map (fun i => (i.zero, i.size, i.bytes)) = some (some R.zero.val, 3, 24) := by kernel_rfl
theorem rows_cells {w : World} {g : Nat} {M : List R} {t : TypeId} (h : w.heap[g]? = some (.cells (cells3 M).toArray t (0, 0))) (k : Nat) (hk : k < M.length) : RowAt w g (k * 3) (M.getD k R.zero) := by
  obtain ⟨e0, e1, e2⟩ := cells3_get M k hk
  refine ⟨?_, ?_, ?_⟩ <;> simp only [World.cell?, h] <;> simpa
theorem below_set3 {B : Nat} {w w' : World} {g : Nat} (h : Below B w w') (hg : B ≤ g) (i j k : Nat) (x y z : Value) : Below B w (((w'.setCell ⟨g, i, none⟩ x).setCell ⟨g, j, none⟩ y).setCell ⟨g, k, none⟩ z) :=
  ((h.setCell hg x).setCell hg y).setCell hg z
theorem rows_of {w : World} {g len : Nat} {L : List R} {t : TypeId} (h : w.heap[g]? = some (.cells (cells3 L).toArray t (0, 0))) (hl : L.length = len) (hwf : ∀ r ∈ L, r.wf) : IsRows w (some ⟨g, 0, none⟩) len L :=
  ⟨hl, hwf, .inr ⟨g, 0, rfl, lt_of_block h, fun t ht => by rw [Nat.zero_add]; exact rows_cells h t (by omega)⟩⟩
end Go.Proofs.YtjdjceohlcimaaaGreatDoor
namespace Go.Proofs.YtjdjceohlcimaaaGreatDoor
open Go.RowKit
theorem wpList_pushR {ops : Array Oper} {rest : List Oper} {o : Oper} {a : Act} {Q : Exit → Act → World → Prop} {wr : World} {B : Nat} {M : List R} {v : Value} (s x : Operand) (r : R) (N : Nat) (hN : N = wr.heap.size)
    (hgd : o.guard = none) (ho : o.op = .call { callee := .builtin .append, args := #[s, x], argTypes := #[27, 27] })
    (hs : a.eval s = v) (hx : a.eval x = .slice (some ⟨N, 0, none⟩) 1 1) (hown : wr.ownsRow B 72 3 v M.length (cells3 M)) (hB : B ≤ wr.heap.size)
    (hlen : (M.length + 1) * 24 ≤ 140737488355328)
    (h : ∀ v' w', w'.ownsRow B 72 3 v' (M ++ [r]).length (cells3 (M ++ [r])) → Below B wr w' → (∀ i, i < wr.heap.size → v.ownBlock ≠ some i → w'.heap[i]? = wr.heap[i]?) → wpList Tryz.prog ops Q rest (a.put o.dst v') w') :
    wpList Tryz.prog ops Q (o :: rest) a (wr.alloc (.cells #[.int .i64 r.key, .int .i64 r.value, .int .i64 r.width] 72)) := by
  subst hN
  obtain ⟨i0, hi, hz0, hz1, hz2⟩ := info_parts rowInfo
  refine wpList_append_own _ hgd s x 27 ho B 72 i0 R.zero.val 3 24 Tryz.underlying27 hi hz0 hz1 hz2 rfl (by decide) v M.length (cells3 M) hs (hown.alloc _)
    ⟨wr.heap.size, 0, none⟩ 1 1 [.int .i64 r.key, .int .i64 r.value, .int .i64 r.width] hx rfl ?_ (by intro u hu; simp at hu; rcases hu with rfl | rfl | rfl <;> rfl) (by unfold maxLen; omega) (by omega) (by simp; omega) ?_
  · intro j u hj
    match j, hj with
    | 0, hj => simp at hj; subst hj; simp [Addr.add]
    | 1, hj => simp at hj; subst hj; simp [Addr.add]
    | 2, hj => simp at hj; subst hj; simp [Addr.add]
  · intro v' w' hown' hg _
    have e : cells3 M ++ [.int .i64 r.key, .int .i64 r.value, .int .i64 r.width] = cells3 (M ++ [r]) := by rw [← cells3_append]; rfl
    rw [e] at hown'
    exact h v' w' (by simpa using hown') (((Below.refl B wr).alloc hB _).grown hg (by simp; omega) fun k hk => (hown.lt k hk).1)
      fun i hi hne => (hg.block i (by simp; omega) (fun e => hne e.symm)).trans (Below.heap_alloc _ _ i hi)
theorem own_below {w w' : World} {B : Nat} {v : Value} {n : Nat} {xs : List Value} (h : w.ownsRow B 72 3 v n xs) (hb : Below w.heap.size w w') : w'.ownsRow B 72 3 v n xs := by
  obtain ⟨h1, h0 | ⟨g, cap, cur, rfl, hB, hh, h2⟩⟩ := h
  · exact ⟨h1, .inl h0⟩
  · exact ⟨h1, .inr ⟨g, cap, cur, rfl, hB, (hb.block g (lt_of_block hh)).trans hh, h2⟩⟩
theorem own_apart {w : World} {B g : Nat} {v : Value} {n : Nat} {xs : List Value} {cs : Array Value} {fz : Nat × Nat} (h : w.ownsRow B 72 3 v n xs) (hg : w.heap[g]? = some (.cells cs 9 fz)) : v.ownBlock ≠ some g := by
  intro e
  rcases h.2 with ⟨rfl, _⟩ | ⟨g', cap, cur, rfl, hB, hh, h2⟩
  · simp [Value.ownBlock] at e
  · simp [Value.ownBlock] at e
    subst e
    rw [hh] at hg
    simp at hg
theorem rows_of_own {w : World} {B : Nat} {v : Value} {M : List R} (h : w.ownsRow B 72 3 v M.length (cells3 M)) (hwf : ∀ r ∈ M, r.wf) : ∃ a cap, v = .slice a M.length cap ∧ IsRows w a M.length M := by
  rcases h.2 with ⟨rfl, h0⟩ | ⟨g, cap, cur, rfl, hB, hh, hcap, hmax, hsz, htake⟩
  · refine ⟨none, 0, by rw [h0], rfl, hwf, .inl h0⟩
  · refine ⟨_, cap, rfl, rfl, hwf, .inr ⟨g, 0, rfl, lt_of_block hh, fun t ht => ?_⟩⟩
    obtain ⟨e0, e1, e2⟩ := cells3_get M t ht
    have hc : ∀ (j : Nat) (u : Value), (cells3 M)[j]? = some u → w.cell? ⟨g, j, none⟩ = some u := by
      intro j u hu
      have hjl : j < M.length * 3 := by have := (List.getElem?_eq_some_iff.1 hu).1; rwa [cells3_length] at this
      rw [← htake, List.getElem?_take, if_pos hjl] at hu
      simp only [World.cell?, hh]
      simpa using hu
    rw [Nat.zero_add]
    exact ⟨hc _ _ e0, hc _ _ e1, hc _ _ e2⟩
def OwnRows (w : World) (base : Nat) (a : Option Addr) (len : Nat) (L : List R) : Prop :=
  L.length = len ∧ (len = 0 ∨ ∃ g, a = some ⟨g, 0, none⟩ ∧ base ≤ g ∧ w.heap[g]? = some (.cells (cells3 L).toArray 72 (0, 0)))
theorem OwnRows.rows {w : World} {base : Nat} {a : Option Addr} {len : Nat} {L : List R} (h : OwnRows w base a len L) (hwf : ∀ r ∈ L, r.wf) : IsRows w a len L := by
  obtain ⟨hl, h0 | ⟨g, rfl, hg, hb⟩⟩ := h
  · exact ⟨hl, hwf, .inl h0⟩
  · exact rows_of hb hl hwf
theorem OwnRows.keep {w w' : World} {base : Nat} {a : Option Addr} {len : Nat} {L : List R} (h : OwnRows w base a len L) (hb : Below w.heap.size w w') : OwnRows w' base a len L := by
  obtain ⟨hl, h0 | ⟨g, rfl, hg, hh⟩⟩ := h
  · exact ⟨hl, .inl h0⟩
  · exact ⟨hl, .inr ⟨g, rfl, hg, (hb.block g (lt_of_block hh)).trans hh⟩⟩
def marked (n : Nat) (k : Int) : List R := (List.range n).map fun (t : Nat) => ⟨k + 3 * (t : Int), k + 3 * (t : Int) + 1, k + 3 * (t : Int) + 2⟩
theorem marked_length (n : Nat) (k : Int) : (marked n k).length = n := by simp [marked]
end Go.Proofs.YtjdjceohlcimaaaGreatDoor
namespace Go.Proofs.YtjdjceohlcimaaaGreatDoor
open Go.RowKit
def Mine (w : World) (B : Nat) (v : Value) (L : List R) : Prop := w.ownsRow B 72 3 v L.length (cells3 L)
theorem Mine.keep {w w' : World} {B : Nat} {v : Value} {L : List R} (h : Mine w B v L) (hb : Below w.heap.size w w') : Mine w' B v L := own_below h hb
theorem Mine.mono {w : World} {B B' : Nat} {v : Value} {L : List R} (h : Mine w B v L) (hb : B' ≤ B) : Mine w B' v L := by
  obtain ⟨h1, h0 | ⟨g, cap, cur, hv, hB, h2⟩⟩ := h
  · exact ⟨h1, .inl h0⟩
  · exact ⟨h1, .inr ⟨g, cap, cur, hv, Nat.le_trans hb hB, h2⟩⟩
theorem Mine.slice {w : World} {B : Nat} {v : Value} {L : List R} (h : Mine w B v L) : ∃ a cap, v = .slice a L.length cap := by
  rcases h.2 with ⟨rfl, h0⟩ | ⟨g, cap, cur, rfl, -⟩
  · exact ⟨none, 0, by rw [h0]⟩
  · exact ⟨_, _, rfl⟩
theorem Mine.len {w : World} {B : Nat} {a : Option Addr} {len cap : Nat} {L : List R} (h : Mine w B (.slice a len cap) L) : L.length = len := by
  obtain ⟨a', cap', e⟩ := h.slice
  injection e with _ e2 _
  exact e2.symm
theorem Mine.rows {w : World} {B : Nat} {a : Option Addr} {len cap : Nat} {L : List R} (h : Mine w B (.slice a len cap) L) (hwf : ∀ r ∈ L, r.wf) : IsRows w a len L := by
  obtain ⟨a', cap', e, hr⟩ := rows_of_own h hwf
  injection e with e1 e2 e3
  subst e1 e2
  exact hr
theorem Mine.at {w : World} {B : Nat} {a : Option Addr} {len cap : Nat} {L : List R} (h : Mine w B (.slice a len cap) L) {k : Nat} (hk : k < len) :
    ∃ g, a = some ⟨g, 0, none⟩ ∧ B ≤ g ∧ g < w.heap.size ∧ RowAt w g (k * 3) (L.getD k R.zero) ∧ (∀ i, w.frozen? ⟨g, i, none⟩ = false) ∧
      ∀ r : R, Mine (((w.setCell ⟨g, k * 3, none⟩ (.int .i64 r.key)).setCell ⟨g, k * 3 + 1, none⟩ (.int .i64 r.value)).setCell ⟨g, k * 3 + 2, none⟩ (.int .i64 r.width)) B (.slice (some ⟨g, 0, none⟩) len cap) (L.set k r) := by
  have hl := h.len
  obtain ⟨h1, ⟨h0, h2⟩ | ⟨g, cap', cur, hv, hB, hh, hcap, hmax, hsz, htake⟩⟩ := h
  · omega
  · injection hv with e1 e2 e3
    subst e1 e3
    refine ⟨g, rfl, hB, lt_of_block hh, ?_, fun i => by simp [World.frozen?, hh], fun r => ?_⟩
    · obtain ⟨e0, e1, e2⟩ := cells3_get L k (by omega)
      have hc : ∀ (j : Nat) (u : Value), (cells3 L)[j]? = some u → w.cell? ⟨g, j, none⟩ = some u := by
        intro j u hu
        have hjl : j < L.length * 3 := by have := (List.getElem?_eq_some_iff.1 hu).1; rwa [cells3_length] at this
        rw [← htake, List.getElem?_take, if_pos hjl] at hu
        simp only [World.cell?, hh]
        simpa using hu
      exact ⟨hc _ _ e0, hc _ _ e1, hc _ _ e2⟩
    · have s1 := Joins.block_setCell hh (i := k * 3) (.int .i64 r.key)
      have s2 := Joins.block_setCell s1 (i := k * 3 + 1) (.int .i64 r.value)
      have s3 := Joins.block_setCell s2 (i := k * 3 + 2) (.int .i64 r.width)
      refine ⟨by rw [cells3_length], .inr ⟨g, cap, _, by rw [List.length_set, hl], hB, s3, by rw [List.length_set]; exact hcap, hmax, by simpa using hsz, ?_⟩⟩
      rw [← cells3_set L k r (by omega), ← htake]
      simp [List.take_set]
theorem mine_none (w : World) (B : Nat) : Mine w B (.slice none 0 0) [] := ⟨rfl, .inl ⟨rfl, rfl⟩⟩
theorem Mine.take {w : World} {B : Nat} {a : Option Addr} {len cap : Nat} {L : List R} (h : Mine w B (.slice a len cap) L) {k : Nat} (hk : k ≤ len) : Mine w B (.slice a k cap) (L.take k) := by
  have hl := h.len
  have hlen : (L.take k).length = k := by rw [List.length_take]; omega
  obtain ⟨h1, ⟨h0, h2⟩ | ⟨g, cap', cur, hv, hB, hh, hcap, hmax, hsz, htake⟩⟩ := h
  · injection h0 with e1 e2 e3
    subst e1 e2 e3
    obtain rfl : k = 0 := by omega
    exact mine_none w B
  · injection hv with e1 e2 e3
    subst e1 e3
    refine ⟨cells3_length _, .inr ⟨g, cap, cur, by rw [hlen], hB, hh, by omega, hmax, hsz, ?_⟩⟩
    have e : cells3 L = cells3 (L.take k) ++ cells3 (L.drop k) := by rw [cells3_append, List.take_append_drop]
    have e2 : (cells3 (L.take k)).length = (L.take k).length * 3 := cells3_length _
    rw [← e2]
    have e3 : cur.toList.take ((cells3 (L.take k)).length) = (cur.toList.take (L.length * 3)).take ((cells3 (L.take k)).length) := by
      rw [List.take_take]
      congr 1
      rw [e2, hlen]
      omega
    rw [e3, htake, e, List.take_left]
theorem one_row (r : R) : ∀ u ∈ [Value.int .i64 r.key, .int .i64 r.value, .int .i64 r.width], u.oneCell' = true := by
  intro u hu; simp at hu; rcases hu with rfl | rfl | rfl <;> rfl
theorem one_cells (L : List R) : ∀ u ∈ cells3 L, u.oneCell' = true := by
  intro u hu
  obtain ⟨r, -, hr⟩ := List.mem_flatMap.1 hu
  exact one_row r u hr
theorem IsRows.cell {w : World} {a : Option Addr} {len : Nat} {L : List R} (h : IsRows w a len L) : ∃ ad : Addr, (0 < len → a = some ad) ∧ ∀ j u, (cells3 L)[j]? = some u → w.cell? (ad.add j) = some u := by
  obtain ⟨h1, h2, h0 | ⟨b, o, rfl, hlt, hc⟩⟩ := h
  · refine ⟨⟨0, 0, none⟩, fun h => by omega, fun j u hj => ?_⟩
    have : L = [] := List.eq_nil_of_length_eq_zero (by omega)
    subst this
    simp [cells3] at hj
  · refine ⟨⟨b, o, none⟩, fun _ => rfl, fun j u hj => ?_⟩
    have hjl : j < L.length * 3 := by have := (List.getElem?_eq_some_iff.1 hj).1; rwa [cells3_length] at this
    obtain ⟨c0, c1, c2⟩ := hc (j / 3) (by omega)
    obtain ⟨e0, e1, e2⟩ := cells3_get L (j / 3) (by omega)
    rw [Addr.add_lit]
    have h3 : j = j / 3 * 3 ∨ j = j / 3 * 3 + 1 ∨ j = j / 3 * 3 + 2 := by omega
    rcases h3 with h | h | h
    · rw [h] at hj ⊢; rw [e0] at hj; rw [c0]; exact hj
    · rw [h] at hj ⊢; rw [e1] at hj; rw [← Nat.add_assoc, c1]; exact hj
    · rw [h] at hj ⊢; rw [e2] at hj; rw [← Nat.add_assoc, c2]; exact hj
theorem wpList_appendR {ops : Array Oper} {rest : List Oper} {o : Oper} {a : Act} {Q : Exit → Act → World → Prop} {w : World} {B : Nat} {M L : List R} {v : Value} (s x : Operand) (ad : Addr) (m c : Nat)
    (hgd : o.guard = none) (ho : o.op = .call { callee := .builtin .append, args := #[s, x], argTypes := #[27, 27] })
    (hs : a.eval s = v) (hx : a.eval x = .slice (some ad) m c) (hown : Mine w B v M) (hl : L.length = m) (hc : ∀ j u, (cells3 L)[j]? = some u → w.cell? (ad.add j) = some u) (hB : B ≤ w.heap.size)
    (hlen : M.length + m ≤ 1000000000000)
    (h : ∀ v' w', Mine w' B v' (M ++ L) → w.grownBy w' v.ownBlock → (v' = .slice none 0 0 ↔ v = .slice none 0 0 ∧ m = 0) → wpList Tryz.prog ops Q rest (a.put o.dst v') w') :
    wpList Tryz.prog ops Q (o :: rest) a w := by
  obtain ⟨i0, hi, hz0, hz1, hz2⟩ := info_parts rowInfo
  refine wpList_append_own _ hgd s x 27 ho B 72 i0 R.zero.val 3 24 Tryz.underlying27 hi hz0 hz1 hz2 rfl (by decide) v M.length (cells3 M) hs hown
    ad m c (cells3 L) hx (by rw [cells3_length, hl]) hc (one_cells L) (by unfold maxLen; omega) (by omega) hB ?_
  intro v' w' hown' hg hn
  rw [cells3_append] at hown'
  exact h v' w' (by unfold Mine; rw [List.length_append, hl]; exact hown') hg hn
end Go.Proofs.YtjdjceohlcimaaaGreatDoor
namespace Go.Proofs.YtjdjceohlcimaaaGreatDoor
open Go.RowKit
structure Reg where
  b : Nat
  lo : Nat
  hi : Nat
def Reg.apart (x y : Reg) : Prop := x.b ≠ y.b ∨ x.hi ≤ y.lo ∨ y.hi ≤ x.lo
theorem Reg.apart_symm {x y : Reg} (h : x.apart y) : y.apart x := by
  rcases h with h | h | h
  · exact .inl fun e => h e.symm
  · exact .inr (.inr h)
  · exact .inr (.inl h)
structure Stay (F : List Reg) (w w' : World) : Prop where
  size : w.heap.size ≤ w'.heap.size
  cell : ∀ r ∈ F, ∀ j, r.lo ≤ j → j < r.hi → w'.cell? ⟨r.b, j, none⟩ = w.cell? ⟨r.b, j, none⟩ ∧ w'.frozen? ⟨r.b, j, none⟩ = w.frozen? ⟨r.b, j, none⟩
structure OnlyAt (F : List Reg) (w w' : World) : Prop where
  os : w'.os = w.os
  tape : w'.tape = w.tape
  output : w'.output = w.output
  size : w.heap.size ≤ w'.heap.size
  block : ∀ b, b < w.heap.size → (∀ r ∈ F, r.b ≠ b) → w'.heap[b]? = w.heap[b]?
  cell : ∀ b j, b < w.heap.size → (∀ r ∈ F, r.b = b → j < r.lo ∨ r.hi ≤ j) → w'.cell? ⟨b, j, none⟩ = w.cell? ⟨b, j, none⟩
  frozen : ∀ b j, b < w.heap.size → w'.frozen? ⟨b, j, none⟩ = w.frozen? ⟨b, j, none⟩
theorem OnlyAt.refl (F : List Reg) (w : World) : OnlyAt F w w := ⟨rfl, rfl, rfl, Nat.le_refl _, fun _ _ _ => rfl, fun _ _ _ _ => rfl, fun _ _ _ => rfl⟩
theorem OnlyAt.trans {F : List Reg} {a b c : World} (h : OnlyAt F a b) (k : OnlyAt F b c) : OnlyAt F a c :=
  ⟨k.os.trans h.os, k.tape.trans h.tape, k.output.trans h.output, Nat.le_trans h.size k.size, fun i hi hne => (k.block i (Nat.lt_of_lt_of_le hi h.size) hne).trans (h.block i hi hne),
    fun i j hi hne => (k.cell i j (Nat.lt_of_lt_of_le hi h.size) hne).trans (h.cell i j hi hne), fun i j hi => (k.frozen i j (Nat.lt_of_lt_of_le hi h.size)).trans (h.frozen i j hi)⟩
theorem OnlyAt.mono {F G : List Reg} {a b : World} (h : OnlyAt F a b) (hs : ∀ r ∈ F, r ∈ G) : OnlyAt G a b :=
  ⟨h.os, h.tape, h.output, h.size, fun i hi hne => h.block i hi fun r hr => hne r (hs r hr), fun i j hi hne => h.cell i j hi fun r hr => hne r (hs r hr), h.frozen⟩
theorem OnlyAt.below {F : List Reg} {B : Nat} {a b : World} (h : OnlyAt F a b) (hB : B ≤ a.heap.size) (hF : ∀ r ∈ F, B ≤ r.b) : Below B a b :=
  ⟨h.os, h.tape, h.output, h.size, fun i hi => h.block i (Nat.lt_of_lt_of_le hi hB) fun r hr e => by have := hF r hr; omega⟩
theorem OnlyAt.of_below {F : List Reg} {a b : World} (h : Below a.heap.size a b) : OnlyAt F a b :=
  ⟨h.os, h.tape, h.output, h.size, fun i hi _ => h.block i hi, fun i _ hi _ => World.cell?_of_block (h.block i hi), fun i _ hi => World.frozen?_of_block (h.block i hi)⟩
theorem OnlyAt.set {F : List Reg} {a w : World} (h : OnlyAt F a w) {r : Reg} (hr : r ∈ F) {b j : Nat} (hb : r.b = b) (h1 : r.lo ≤ j) (h2 : j < r.hi) (u : Value) : OnlyAt F a (w.setCell ⟨b, j, none⟩ u) := by
  refine ⟨h.os, h.tape, h.output, by simpa [World.setCell] using h.size, fun i hi hne => ?_, fun i k hi hne => ?_, fun i k hi => ?_⟩
  · exact (Below.heap_setCell w ⟨b, j, none⟩ u i (fun e => hne r hr (by rw [hb, e]))).trans (h.block i hi hne)
  · refine (World.cell?_setCell_other _ _ _ _ (fun e => ?_)).trans (h.cell i k hi hne)
    simp only [Addr.mk.injEq] at e
    have := hne r hr (hb.trans (by have := e.1; omega))
    have := e.2.1
    omega
  · exact (World.frozen?_setCell w _ _ _).trans (h.frozen i k hi)
theorem Stay.of_only {F G : List Reg} {w w' : World} (h : OnlyAt F w w') (hap : ∀ x ∈ F, ∀ y ∈ G, x.apart y) (hlt : ∀ y ∈ G, y.b < w.heap.size) : Stay G w w' :=
  ⟨h.size, fun y hy j h1 h2 => ⟨h.cell y.b j (hlt y hy) fun x hx e => by
    rcases hap x hx y hy with hn | hn | hn
    · exact absurd e hn
    · right; omega
    · left; omega, h.frozen y.b j (hlt y hy)⟩⟩
theorem Stay.of_below {G : List Reg} {w w' : World} {B : Nat} (h : Below B w w') (hlt : ∀ y ∈ G, y.b < B) : Stay G w w' :=
  ⟨h.size, fun y hy _ _ _ => ⟨World.cell?_of_block (h.block y.b (hlt y hy)), World.frozen?_of_block (h.block y.b (hlt y hy))⟩⟩
theorem Stay.sub {F G : List Reg} {w w' : World} (h : Stay G w w') (hs : ∀ r ∈ F, r ∈ G) : Stay F w w' := ⟨h.size, fun r hr => h.cell r (hs r hr)⟩
def CellsAt (w : World) (b o : Nat) (cs : List Value) : Prop := ∀ (j : Nat) (u : Value), cs[j]? = some u → w.cell? ⟨b, o + j, none⟩ = some u
theorem CellsAt.below {w w' : World} {B b o : Nat} {cs : List Value} (h : CellsAt w b o cs) (hb : Below B w w') (hlt : b < B) : CellsAt w' b o cs := fun j u hj => (hb.cell hlt).trans (h j u hj)
theorem CellsAt.lt {w : World} {b o : Nat} {cs : List Value} (h : CellsAt w b o cs) (hl : 0 < cs.length) : b < w.heap.size := World.block_lt_of_cell? w _ (h 0 cs[0] (by simp [hl]))
structure Rep (α : Type) where
  H : Type
  size : Nat
  cells : α → H → List Value
  inn : World → α → H → Prop
  own : World → Nat → α → H → List Reg → Prop
  len : ∀ x h, (cells x h).length = size
  inn_keep : ∀ {w w' x h}, inn w x h → Below w.heap.size w w' → inn w' x h
  own_inn : ∀ {w B x h F}, own w B x h F → inn w x h
  own_lt : ∀ {w B x h F}, own w B x h F → ∀ r ∈ F, B ≤ r.b ∧ r.b < w.heap.size
  own_stay : ∀ {w w' B x h F}, own w B x h F → Stay F w w' → own w' B x h F
  own_apart : ∀ {w B x h F}, own w B x h F → F.Pairwise Reg.apart
  own_mono : ∀ {w B B' x h F}, own w B x h F → B' ≤ B → own w B' x h F
def SeqIn {α : Type} (r : Rep α) (w : World) (a : Option Addr) (n : Nat) (xs : List α) : Prop :=
  xs.length = n ∧ n ≤ maxLen ∧ (n = 0 ∨ ∃ b o : Nat, a = some ⟨b, o, none⟩ ∧ b < w.heap.size ∧ ∃ hs : Nat → r.H, ∀ t x, xs[t]? = some x → CellsAt w b (o + t * r.size) (r.cells x (hs t)) ∧ r.inn w x (hs t))
def SeqOwn {α : Type} (r : Rep α) (w : World) (B : Nat) (a : Option Addr) (n : Nat) (xs : List α) (F : List Reg) : Prop :=
  xs.length = n ∧ n ≤ maxLen ∧ ((n = 0 ∧ F = []) ∨ ∃ (b o : Nat) (hs : Nat → r.H) (Fs : Nat → List Reg), a = some ⟨b, o, none⟩ ∧ B ≤ b ∧ b < w.heap.size ∧ F = ⟨b, o, o + n * r.size⟩ :: (List.range n).flatMap Fs ∧ F.Pairwise Reg.apart ∧
    (∀ j, o ≤ j → j < o + n * r.size → w.frozen? ⟨b, j, none⟩ = false) ∧ ∀ t x, xs[t]? = some x → CellsAt w b (o + t * r.size) (r.cells x (hs t)) ∧ r.own w B x (hs t) (Fs t))
theorem idx_lt {α : Type} {xs : List α} {t : Nat} {x : α} (h : xs[t]? = some x) : t < xs.length := (List.getElem?_eq_some_iff.1 h).1
theorem at_le {t n s : Nat} (h : t < n) : t * s + s ≤ n * s := by
  have := Nat.mul_le_mul_right s (show t + 1 ≤ n from h)
  rwa [Nat.add_mul, Nat.one_mul] at this
theorem SeqIn.keep {α : Type} {r : Rep α} {w w' : World} {a : Option Addr} {n : Nat} {xs : List α} (h : SeqIn r w a n xs) (hb : Below w.heap.size w w') : SeqIn r w' a n xs := by
  obtain ⟨h1, hm, h2⟩ := h
  refine ⟨h1, hm, h2.imp_right ?_⟩
  rintro ⟨b, o, rfl, hlt, hs, hx⟩
  exact ⟨b, o, rfl, Nat.lt_of_lt_of_le hlt hb.size, hs, fun t x ht => ⟨(hx t x ht).1.below hb hlt, r.inn_keep (hx t x ht).2 hb⟩⟩
theorem SeqOwn.lt {α : Type} {r : Rep α} {w : World} {B : Nat} {a : Option Addr} {n : Nat} {xs : List α} {F : List Reg} (h : SeqOwn r w B a n xs F) : ∀ y ∈ F, B ≤ y.b ∧ y.b < w.heap.size := by
  obtain ⟨h1, -, ⟨-, rfl⟩ | ⟨b, o, hs, Fs, rfl, hB, hlt, rfl, -, -, hx⟩⟩ := h
  · intro y hy; cases hy
  · intro y hy
    rcases List.mem_cons.1 hy with rfl | hy
    · exact ⟨hB, hlt⟩
    · obtain ⟨t, ht, hy⟩ := List.mem_flatMap.1 hy
      have htl : t < xs.length := by rw [h1]; exact List.mem_range.1 ht
      exact r.own_lt (hx t xs[t] (by simp [htl])).2 y hy
theorem SeqOwn.stay {α : Type} {r : Rep α} {w w' : World} {B : Nat} {a : Option Addr} {n : Nat} {xs : List α} {F : List Reg} (h : SeqOwn r w B a n xs F) (hs : Stay F w w') : SeqOwn r w' B a n xs F := by
  obtain ⟨h1, hm, h2⟩ := h
  refine ⟨h1, hm, h2.imp_right ?_⟩
  rintro ⟨b, o, hh, Fs, rfl, hB, hlt, rfl, hp, hf, hx⟩
  have hc := hs.cell ⟨b, o, o + n * r.size⟩ (List.mem_cons_self ..)
  refine ⟨b, o, hh, Fs, rfl, hB, Nat.lt_of_lt_of_le hlt hs.size, rfl, hp, fun j ha hb => ((hc j ha hb).2).trans (hf j ha hb), fun t x ht => ?_⟩
  have htn : t < n := by rw [← h1]; exact idx_lt ht
  refine ⟨fun j u hj => ?_, r.own_stay (hx t x ht).2 (hs.sub fun y hy => List.mem_cons_of_mem _ (List.mem_flatMap.2 ⟨t, List.mem_range.2 htn, hy⟩))⟩
  have hjl : j < r.size := by rw [← r.len x (hh t)]; exact idx_lt hj
  have hle := at_le (s := r.size) htn
  exact ((hc (o + t * r.size + j) (by simp only; omega) (by simp only; omega)).1).trans ((hx t x ht).1 j u hj)
theorem SeqOwn.inn {α : Type} {r : Rep α} {w : World} {B : Nat} {a : Option Addr} {n : Nat} {xs : List α} {F : List Reg} (h : SeqOwn r w B a n xs F) : SeqIn r w a n xs := by
  obtain ⟨h1, hm, ⟨h0, -⟩ | ⟨b, o, hs, Fs, rfl, -, hlt, -, -, -, hx⟩⟩ := h
  · exact ⟨h1, hm, .inl h0⟩
  · exact ⟨h1, hm, .inr ⟨b, o, rfl, hlt, hs, fun t x ht => ⟨(hx t x ht).1, r.own_inn (hx t x ht).2⟩⟩⟩
theorem SeqOwn.apart {α : Type} {r : Rep α} {w : World} {B : Nat} {a : Option Addr} {n : Nat} {xs : List α} {F : List Reg} (h : SeqOwn r w B a n xs F) : F.Pairwise Reg.apart := by
  obtain ⟨h1, -, ⟨-, rfl⟩ | ⟨b, o, hs, Fs, rfl, -, hlt, -, hp, -⟩⟩ := h
  · exact List.Pairwise.nil
  · exact hp
theorem SeqOwn.mono {α : Type} {r : Rep α} {w : World} {B B' : Nat} {a : Option Addr} {n : Nat} {xs : List α} {F : List Reg} (h : SeqOwn r w B a n xs F) (hb : B' ≤ B) : SeqOwn r w B' a n xs F := by
  obtain ⟨h1, hm, h2⟩ := h
  refine ⟨h1, hm, h2.imp_right ?_⟩
  rintro ⟨b, o, hs, Fs, rfl, hB, hlt, hF, hp, hf, hx⟩
  exact ⟨b, o, hs, Fs, rfl, Nat.le_trans hb hB, hlt, hF, hp, hf, fun t x ht => ⟨(hx t x ht).1, r.own_mono (hx t x ht).2 hb⟩⟩
theorem SeqOwn.keep {α : Type} {r : Rep α} {w w' : World} {B : Nat} {a : Option Addr} {n : Nat} {xs : List α} {F : List Reg} (h : SeqOwn r w B a n xs F) (hb : Below w.heap.size w w') : SeqOwn r w' B a n xs F :=
  h.stay (Stay.of_below hb fun y hy => (h.lt y hy).2)
def rowRep : Rep R where
  H := Unit
  size := 3
  cells := fun r _ => [.int .i64 r.key, .int .i64 r.value, .int .i64 r.width]
  inn := fun _ r _ => r.wf
  own := fun _ _ r _ F => r.wf ∧ F = []
  len := fun _ _ => rfl
  inn_keep := fun h _ => h
  own_inn := fun h => h.1
  own_lt := fun h y hy => by rw [h.2] at hy; cases hy
  own_stay := fun h _ => h
  own_apart := fun h => by rw [h.2]; exact List.Pairwise.nil
  own_mono := fun h _ => h
def seqRep {α : Type} (r : Rep α) : Rep (List α) where
  H := Option Addr × Nat × Nat
  size := 1
  cells := fun _ h => [.slice h.1 h.2.1 h.2.2]
  inn := fun w xs h => SeqIn r w h.1 h.2.1 xs ∧ (h.1 = none → h.2.2 = 0)
  own := fun w B xs h F => SeqOwn r w B h.1 h.2.1 xs F ∧ (h.1 = none → h.2.2 = 0)
  len := fun _ _ => rfl
  inn_keep := fun h hb => ⟨h.1.keep hb, h.2⟩
  own_inn := fun h => ⟨h.1.inn, h.2⟩
  own_lt := fun h => h.1.lt
  own_stay := fun h hs => ⟨h.1.stay hs, h.2⟩
  own_apart := fun h => h.1.apart
  own_mono := fun h hb => ⟨h.1.mono hb, h.2⟩
theorem SeqOwn.at {α : Type} {r : Rep α} {w : World} {B : Nat} {a : Option Addr} {n : Nat} {xs : List α} {F : List Reg} (h : SeqOwn r w B a n xs F) {t : Nat} {x : α} (ht : xs[t]? = some x) :
    ∃ (b o : Nat) (hd : r.H) (G : List Reg), a = some ⟨b, o, none⟩ ∧ b < w.heap.size ∧ CellsAt w b (o + t * r.size) (r.cells x hd) ∧ (∀ j, j < r.size → w.frozen? ⟨b, o + t * r.size + j, none⟩ = false) ∧ r.own w B x hd G ∧ (∀ y ∈ G, y ∈ F) ∧
      ∀ w' x', OnlyAt G w w' → r.own w' B x' hd G → r.cells x' hd = r.cells x hd → SeqOwn r w' B a n (xs.set t x') F := by
  have htl := idx_lt ht
  obtain ⟨h1, hm, ⟨h0, -⟩ | ⟨b, o, hs, Fs, rfl, hB, hlt, rfl, hp, hf, hx⟩⟩ := h
  · omega
  · have htn : t < n := by omega
    have hle := at_le (s := r.size) htn
    have hsub : ∀ y ∈ Fs t, y ∈ (⟨b, o, o + n * r.size⟩ : Reg) :: (List.range n).flatMap Fs := fun y hy => List.mem_cons_of_mem _ (List.mem_flatMap.2 ⟨t, List.mem_range.2 htn, hy⟩)
    refine ⟨b, o, hs t, Fs t, rfl, hlt, (hx t x ht).1, fun j hj => hf _ (by omega) (by omega), (hx t x ht).2, hsub, fun w' x' ho hown hce => ?_⟩
    have hhead : ∀ y ∈ Fs t, (⟨b, o, o + n * r.size⟩ : Reg).apart y := fun y hy => (List.pairwise_cons.1 hp).1 y (List.mem_flatMap.2 ⟨t, List.mem_range.2 htn, hy⟩)
    have hst : Stay [⟨b, o, o + n * r.size⟩] w w' := Stay.of_only ho (fun y hy z hz => by rw [List.mem_singleton.1 hz]; exact Reg.apart_symm (hhead y hy)) (fun z hz => by rw [List.mem_singleton.1 hz]; exact hlt)
    have hc := hst.cell ⟨b, o, o + n * r.size⟩ (List.mem_singleton.2 rfl)
    refine ⟨by rw [List.length_set]; exact h1, hm, .inr ⟨b, o, hs, Fs, rfl, hB, Nat.lt_of_lt_of_le hlt ho.size, rfl, hp, fun j ha hb => ((hc j ha hb).2).trans (hf j ha hb), fun s y hy => ?_⟩⟩
    have hsn : s < n := by have := idx_lt hy; rw [List.length_set] at this; omega
    have hles := at_le (s := r.size) hsn
    have hcell : ∀ z, xs[s]? = some z → CellsAt w' b (o + s * r.size) (r.cells z (hs s)) := fun z hz j u hj => by
      have hjl : j < r.size := by rw [← r.len z (hs s)]; exact idx_lt hj
      exact ((hc (o + s * r.size + j) (by simp only; omega) (by simp only; omega)).1).trans ((hx s z hz).1 j u hj)
    by_cases hst' : s = t
    · subst hst'
      rw [List.getElem?_set_self htl] at hy
      obtain rfl := Option.some.inj hy
      exact ⟨by rw [hce]; exact hcell x ht, hown⟩
    · rw [List.getElem?_set_ne (fun e => hst' e.symm)] at hy
      refine ⟨hcell y hy, r.own_stay (hx s y hy).2 (Stay.of_only ho (fun p hp' q hq => ?_) fun q hq => (r.own_lt (hx s y hy).2 q hq).2)⟩
      have hpw := (List.pairwise_cons.1 hp).2
      rw [List.pairwise_flatMap] at hpw
      have hr := hpw.2
      rcases Nat.lt_or_gt_of_ne hst' with h2 | h2
      · exact Reg.apart_symm ((List.pairwise_iff_getElem.1 hr) s t (by simpa using hsn) (by simpa using htn) h2 q (by simpa using hq) p (by simpa using hp'))
      · exact (List.pairwise_iff_getElem.1 hr) t s (by simpa using htn) (by simpa using hsn) h2 p (by simpa using hp') q (by simpa using hq)
end Go.Proofs.YtjdjceohlcimaaaGreatDoor
namespace Go.Proofs.YtjdjceohlcimaaaGreatDoor
open Go.RowKit
structure El {α : Type} (r : Rep α) where
  x : α
  h : r.H
  F : List Reg
def OwnAll {α : Type} (r : Rep α) (w : World) (B : Nat) (es : List (El r)) : Prop :=
  (∀ e ∈ es, r.own w B e.x e.h e.F) ∧ es.Pairwise fun e f => ∀ x ∈ e.F, ∀ y ∈ f.F, x.apart y
def InAll {α : Type} (r : Rep α) (w : World) (es : List (El r)) : Prop := ∀ e ∈ es, r.inn w e.x e.h
def cellsOf {α : Type} {r : Rep α} (es : List (El r)) : List Value := es.flatMap fun e => r.cells e.x e.h
theorem cellsOf_get {α : Type} {r : Rep α} : ∀ (es : List (El r)) (t : Nat) (e : El r), es[t]? = some e → ∀ j u, (r.cells e.x e.h)[j]? = some u → (cellsOf es)[t * r.size + j]? = some u
  | [], t, e, ht, j, u, hj => by simp at ht
  | e0 :: es, 0, e, ht, j, u, hj => by
    obtain rfl : e0 = e := by simpa using ht
    have hjl := idx_lt hj
    rw [Nat.zero_mul, Nat.zero_add]
    show (r.cells e0.x e0.h ++ cellsOf es)[j]? = _
    rw [List.getElem?_append_left hjl]
    exact hj
  | e0 :: es, t + 1, e, ht, j, u, hj => by
    have ht' : es[t]? = some e := by simpa using ht
    have := cellsOf_get es t e ht' j u hj
    show (r.cells e0.x e0.h ++ cellsOf es)[(t + 1) * r.size + j]? = _
    have hl := r.len e0.x e0.h
    have e1 : (t + 1) * r.size = t * r.size + r.size := by rw [Nat.add_mul, Nat.one_mul]
    rw [List.getElem?_append_right (by omega), hl, show (t + 1) * r.size + j - r.size = t * r.size + j by omega]
    exact this
theorem OwnAll.nil {α : Type} (r : Rep α) (w : World) (B : Nat) : OwnAll r w B [] := ⟨fun e he => (by cases he), List.Pairwise.nil⟩
theorem InAll.nil {α : Type} (r : Rep α) (w : World) : InAll r w [] := fun e he => (by cases he)
theorem OwnAll.inn {α : Type} {r : Rep α} {w : World} {B : Nat} {es : List (El r)} (h : OwnAll r w B es) : InAll r w es := fun e he => r.own_inn (h.1 e he)
theorem OwnAll.stay {α : Type} {r : Rep α} {w w' : World} {B : Nat} {es : List (El r)} (h : OwnAll r w B es) (hs : ∀ e ∈ es, Stay e.F w w') : OwnAll r w' B es := ⟨fun e he => r.own_stay (h.1 e he) (hs e he), h.2⟩
theorem OwnAll.keep {α : Type} {r : Rep α} {w w' : World} {B : Nat} {es : List (El r)} (h : OwnAll r w B es) (hb : Below w.heap.size w w') : OwnAll r w' B es :=
  h.stay fun e he => Stay.of_below hb fun y hy => (r.own_lt (h.1 e he) y hy).2
theorem InAll.keep {α : Type} {r : Rep α} {w w' : World} {es : List (El r)} (h : InAll r w es) (hb : Below w.heap.size w w') : InAll r w' es := fun e he => r.inn_keep (h e he) hb
theorem OwnAll.only {α : Type} {r : Rep α} {w w' : World} {B : Nat} {es : List (El r)} {G : List Reg} (h : OwnAll r w B es) (ho : OnlyAt G w w') (hne : ∀ e ∈ es, ∀ y ∈ e.F, ∀ x ∈ G, x.b ≠ y.b) : OwnAll r w' B es :=
  h.stay fun e he => Stay.of_only ho (fun x hx y hy => .inl (hne e he y hy x hx)) fun y hy => (r.own_lt (h.1 e he) y hy).2
theorem OwnAll.push {α : Type} {r : Rep α} {w w' : World} {B B' : Nat} {es : List (El r)} (h : OwnAll r w B es) (hb : Below w.heap.size w w') {e : El r} (he : r.own w' B' e.x e.h e.F) (hB : B ≤ B') (hn : w.heap.size ≤ B') : OwnAll r w' B (es ++ [e]) := by
  have hk := h.keep hb
  refine ⟨fun f hf => ?_, ?_⟩
  · rcases List.mem_append.1 hf with hf | hf
    · exact hk.1 f hf
    · rw [List.mem_singleton.1 hf]; exact r.own_mono he hB
  · rw [List.pairwise_append]
    refine ⟨hk.2, List.pairwise_singleton _ _, fun f hf g hg => ?_⟩
    rw [List.mem_singleton.1 hg]
    intro x hx y hy
    have h1 := (r.own_lt (h.1 f hf) x hx).2
    have h2 := (r.own_lt he y hy).1
    exact .inl (by omega)
theorem InAll.push {α : Type} {r : Rep α} {w : World} {es : List (El r)} (h : InAll r w es) {e : El r} (he : r.inn w e.x e.h) : InAll r w (es ++ [e]) := fun f hf => by
  rcases List.mem_append.1 hf with hf | hf
  · exact h f hf
  · rw [List.mem_singleton.1 hf]; exact he
theorem OwnAll.mono {α : Type} {r : Rep α} {w : World} {B B' : Nat} {es : List (El r)} (h : OwnAll r w B es) (hb : B' ≤ B) : OwnAll r w B' es := ⟨fun e he => r.own_mono (h.1 e he) hb, h.2⟩
theorem OwnAll.done {α : Type} {r : Rep α} {w : World} {B g : Nat} {es : List (El r)} (h : OwnAll r w B es) (hg : B ≤ g) (hl : g < w.heap.size) (hf : ∀ j, w.frozen? ⟨g, j, none⟩ = false) (hc : ∀ j u, (cellsOf es)[j]? = some u → w.cell? ⟨g, j, none⟩ = some u)
    (hne : ∀ e ∈ es, ∀ y ∈ e.F, y.b ≠ g) (hm : es.length ≤ maxLen) : ∃ F, SeqOwn r w B (some ⟨g, 0, none⟩) es.length (es.map El.x) F := by
  rcases Nat.eq_zero_or_pos es.length with h0 | h0
  · exact ⟨[], by simp, hm, .inl ⟨h0, rfl⟩⟩
  · obtain ⟨e0, -⟩ : ∃ e0, es[0]? = some e0 := ⟨es[0], by simp [h0]⟩
    refine ⟨_, by simp, hm, .inr ⟨g, 0, fun t => (es.getD t e0).h, fun t => (es.getD t e0).F, rfl, hg, hl, rfl, ?_, fun j _ _ => hf j, fun t x ht => ?_⟩⟩
    · rw [List.pairwise_cons]
      refine ⟨fun y hy => ?_, ?_⟩
      · obtain ⟨t, ht, hy⟩ := List.mem_flatMap.1 hy
        have htl : t < es.length := List.mem_range.1 ht
        have hgd : es.getD t e0 = es[t] := by simp [List.getD, htl]
        rw [hgd] at hy
        exact .inl fun e => hne es[t] (List.getElem_mem htl) y hy e.symm
      · rw [List.pairwise_flatMap]
        refine ⟨fun t ht => ?_, ?_⟩
        · have htl : t < es.length := List.mem_range.1 ht
          have hgd : es.getD t e0 = es[t] := by simp [List.getD, htl]
          rw [hgd]
          exact r.own_apart (h.1 es[t] (List.getElem_mem htl))
        · rw [List.pairwise_iff_getElem]
          intro i j hi hj hij x hx y hy
          simp only [List.getElem_range] at hx hy
          have hil : i < es.length := by simpa using hi
          have hjl : j < es.length := by simpa using hj
          have h1 : es.getD i e0 = es[i] := by simp [List.getD, hil]
          have h2 : es.getD j e0 = es[j] := by simp [List.getD, hjl]
          rw [h1] at hx
          rw [h2] at hy
          exact (List.pairwise_iff_getElem.1 h.2) i j hil hjl hij x hx y hy
    · have htl : t < es.length := by have := idx_lt ht; simpa using this
      have hgd : es.getD t e0 = es[t] := by simp [List.getD, htl]
      obtain rfl : es[t].x = x := by simpa [htl] using ht
      simp only []
      rw [hgd]
      refine ⟨fun j u hj => ?_, h.1 es[t] (List.getElem_mem htl)⟩
      rw [Nat.zero_add]
      exact hc _ _ (cellsOf_get es t es[t] (by simp [htl]) j u hj)
theorem InAll.done {α : Type} {r : Rep α} {w : World} {g o : Nat} {es : List (El r)} (h : InAll r w es) (hl : g < w.heap.size) (hc : ∀ j u, (cellsOf es)[j]? = some u → w.cell? ⟨g, o + j, none⟩ = some u) (hm : es.length ≤ maxLen) :
    SeqIn r w (some ⟨g, o, none⟩) es.length (es.map El.x) := by
  rcases Nat.eq_zero_or_pos es.length with h0 | h0
  · exact ⟨by simp, hm, .inl h0⟩
  · obtain ⟨e0, -⟩ : ∃ e0, es[0]? = some e0 := ⟨es[0], by simp [h0]⟩
    refine ⟨by simp, hm, .inr ⟨g, o, rfl, hl, fun t => (es.getD t e0).h, fun t x ht => ?_⟩⟩
    have htl : t < es.length := by have := idx_lt ht; simpa using this
    have hgd : es.getD t e0 = es[t] := by simp [List.getD, htl]
    obtain rfl : es[t].x = x := by simpa [htl] using ht
    simp only []
    rw [hgd]
    refine ⟨fun j u hj => ?_, h es[t] (List.getElem_mem htl)⟩
    rw [Nat.add_assoc]
    exact hc _ _ (cellsOf_get es t es[t] (by simp [htl]) j u hj)
theorem SeqIn.at {α : Type} {r : Rep α} {w : World} {a : Option Addr} {n : Nat} {xs : List (List α)} (h : SeqIn (seqRep r) w a n xs) {t : Nat} {x : List α} (ht : xs[t]? = some x) :
    ∃ (b o : Nat) (c : Option Addr) (k m : Nat), a = some ⟨b, o, none⟩ ∧ b < w.heap.size ∧ w.cell? ⟨b, o + t, none⟩ = some (.slice c k m) ∧ SeqIn r w c k x ∧ (c = none → m = 0) := by
  have htl := idx_lt ht
  obtain ⟨h1, -, h0 | ⟨b, o, rfl, hlt, hs, hx⟩⟩ := h
  · omega
  · obtain ⟨hc, hi⟩ := hx t x ht
    have := hc 0 _ rfl
    simp only [seqRep, Nat.mul_one, Nat.add_zero] at this
    exact ⟨b, o, _, _, _, rfl, hlt, this, hi.1, hi.2⟩
theorem rows_in {w : World} {a : Option Addr} {len : Nat} {L : List R} (h : SeqIn rowRep w a len L) : IsRows w a len L := by
  obtain ⟨h1, hm, h2⟩ := h
  have hwf : ∀ r ∈ L, r.wf := by
    intro r hr
    obtain ⟨t, ht, rfl⟩ := List.getElem_of_mem hr
    rcases h2 with h2 | ⟨b, o, -, -, hs, hx⟩
    · omega
    · exact (hx t L[t] (by simp [ht])).2
  refine ⟨h1, hwf, h2.imp_right ?_⟩
  rintro ⟨b, o, rfl, hlt, hs, hx⟩
  refine ⟨b, o, rfl, hlt, fun t ht => ?_⟩
  have htl : t < L.length := by omega
  have hg : L.getD t R.zero = L[t] := by simp [List.getD, htl]
  obtain ⟨hc, -⟩ := hx t L[t] (by simp [htl])
  rw [hg]
  exact ⟨hc 0 _ rfl, hc 1 _ rfl, hc 2 _ rfl⟩
end Go.Proofs.YtjdjceohlcimaaaGreatDoor
namespace Go.Proofs.YtjdjceohlcimaaaGreatDoor
open Go.RowKit
theorem Mine.grown {w w' : World} {B : Nat} {v : Value} {L : List R} {row : Option Nat} (h : Mine w B v L) (hg : w.grownBy w' row) (hne : ∀ k, v.ownBlock = some k → row ≠ some k) : Mine w' B v L := by
  obtain ⟨h1, h0 | ⟨g, cap, cur, rfl, hB, hh, h2⟩⟩ := h
  · exact ⟨h1, .inl h0⟩
  · exact ⟨h1, .inr ⟨g, cap, cur, rfl, hB, (hg.block g (lt_of_block hh) (fun e => hne g rfl e.symm)).trans hh, h2⟩⟩
theorem Mine.addr {w : World} {B : Nat} {v : Value} {L : List R} (h : Mine w B v L) (hne : v ≠ .slice none 0 0) : ∃ g c, v = .slice (some ⟨g, 0, none⟩) L.length c ∧ B ≤ g ∧ g < w.heap.size := by
  obtain ⟨h1, h0 | ⟨g, cap, cur, rfl, hB, hh, h2⟩⟩ := h
  · exact absurd h0.1 hne
  · exact ⟨g, cap, rfl, hB, lt_of_block hh⟩
theorem Mine.own' {w : World} {B : Nat} {v : Value} {L : List R} (h : Mine w B v L) : ∀ k, v.ownBlock = some k → B ≤ k := fun k hk => (World.ownsRow.lt h k hk).1
theorem Mine.drew {w : World} {B : Nat} {v : Value} {L : List R} (h : Mine w B v L) : Mine w.drew B v L := h
theorem Mine.cap {w : World} {B g len cap : Nat} {L : List R} (h : Mine w B (.slice (some ⟨g, 0, none⟩) len cap) L) : len ≤ cap := by
  have hl := h.len
  rcases h.2 with ⟨h0, h2⟩ | ⟨g', cap', cur, hv, hB, hh, hc, -⟩
  · injection h0 with e1 e2 e3; cases e1
  · injection hv with e1 e2 e3; omega
theorem Mine.lt {w : World} {B g len cap : Nat} {L : List R} (h : Mine w B (.slice (some ⟨g, 0, none⟩) len cap) L) : g < w.heap.size := (World.ownsRow.lt h g rfl).2
theorem Mine.from {w : World} {B : Nat} {g len cap : Nat} {L : List R} (h : Mine w B (.slice (some ⟨g, 0, none⟩) len cap) L) {k : Nat} (hk : k ≤ len) :
    ∃ A : Addr, (if cap = k then some (⟨g, 0, none⟩ : Addr) else some ⟨g, k * 3, none⟩) = some A ∧ (L.drop k).length = len - k ∧ ∀ j u, (cells3 (L.drop k))[j]? = some u → w.cell? (A.add j) = some u := by
  have hl := h.len
  have hcap : len ≤ cap := by
    rcases h.2 with ⟨h0, h2⟩ | ⟨g', cap', cur, hv, hB, hh, hc, -⟩
    · injection h0 with e1 e2 e3; cases e1
    · injection hv with e1 e2 e3; omega
  have hld : (L.drop k).length = len - k := by rw [List.length_drop, hl]
  by_cases hc : cap = k
  · refine ⟨_, by rw [if_pos hc], hld, fun j u hj => ?_⟩
    have : L.drop k = [] := List.drop_eq_nil_of_le (by omega)
    rw [this] at hj
    simp [cells3] at hj
  · refine ⟨_, by rw [if_neg hc], hld, fun j u hj => ?_⟩
    have hjl : j < (len - k) * 3 := by have := (List.getElem?_eq_some_iff.1 hj).1; rwa [cells3_length, hld] at this
    obtain ⟨g', e, hB, hg, -, -, -⟩ := h.at (k := k) (by omega)
    have hat : RowAt w g ((k + j / 3) * 3) (L.getD (k + j / 3) R.zero) := by
      obtain ⟨g2, e2, -, -, hat, -⟩ := h.at (k := k + j / 3) (by omega)
      injection e2 with e2; injection e2 with e2 _ _
      rw [e2]; exact hat
    have hd : (L.drop k).getD (j / 3) R.zero = L.getD (k + j / 3) R.zero := by simp [List.getD, List.getElem?_drop]
    obtain ⟨e0, e1, e2⟩ := cells3_get (L.drop k) (j / 3) (by omega)
    rw [hd] at e0 e1 e2
    obtain ⟨c0, c1, c2⟩ := hat
    rw [Addr.add_lit]
    have h3 : j = j / 3 * 3 ∨ j = j / 3 * 3 + 1 ∨ j = j / 3 * 3 + 2 := by omega
    rcases h3 with h | h | h
    · rw [h] at hj ⊢; rw [e0] at hj; rw [← hj, ← c0]; congr 2; omega
    · rw [h] at hj ⊢; rw [e1] at hj; rw [← hj, ← c1]; congr 2; omega
    · rw [h] at hj ⊢; rw [e2] at hj; rw [← hj, ← c2]; congr 2; omega
theorem Mine.cells {w : World} {B : Nat} {g len cap : Nat} {L : List R} (h : Mine w B (.slice (some ⟨g, 0, none⟩) len cap) L) : ∀ j u, (cells3 L)[j]? = some u → w.cell? ((⟨g, 0, none⟩ : Addr).add j) = some u := by
  intro j u hj
  have hjl : j < L.length * 3 := by have := (List.getElem?_eq_some_iff.1 hj).1; rwa [cells3_length] at this
  rcases h.2 with ⟨h0, h2⟩ | ⟨g', cap', cur, hv, hB, hh, hc, hm, hs, htake⟩
  · injection h0 with e1 e2 e3; cases e1
  · injection hv with e1 e2 e3
    injection e1 with e1
    injection e1 with e1 _ _
    subst e1
    rw [← htake, List.getElem?_take, if_pos hjl] at hj
    rw [Addr.add_lit, Nat.zero_add]
    simp only [World.cell?, hh]
    simpa using hj
theorem step_appendR {ops : Array Oper} {o : Oper} {a : Act} {K : Act → World → Prop} {Q : Exit → Act → World → Prop} {E : Prop} {w : World} {B : Nat} {M L : List R} {v : Value} (s x : Operand) (ad : Addr) (m c : Nat)
    (hgd : o.guard = none) (ho : o.op = .call { callee := .builtin .append, args := #[s, x], argTypes := #[27, 27] })
    (hs : a.eval s = v) (hx : a.eval x = .slice (some ad) m c) (hown : Mine w B v M) (hl : L.length = m) (hc : ∀ j u, (cells3 L)[j]? = some u → w.cell? (ad.add j) = some u) (hB : B ≤ w.heap.size)
    (hlen : M.length + m ≤ 1000000000000)
    (h : ∀ v' w', Mine w' B v' (M ++ L) → w.grownBy w' v.ownBlock → (v' = .slice none 0 0 ↔ v = .slice none 0 0 ∧ m = 0) → K (a.put o.dst v') w') :
    if Region.wanted o (yielded ops a.tmps) = true then Oper.wp Tryz.prog o a w K Q else E := by
  have hw : Region.wanted o (yielded ops a.tmps) = true := by simp [Region.wanted, hgd]
  rw [if_pos hw]
  obtain ⟨i0, hi, hz0, hz1, hz2⟩ := info_parts rowInfo
  refine wp_append_own _ s x 27 ho B 72 i0 R.zero.val 3 24 Tryz.underlying27 hi hz0 hz1 hz2 rfl (by decide) v M.length (cells3 M) hs hown
    ad m c (cells3 L) hx (by rw [cells3_length, hl]) hc (one_cells L) (by unfold maxLen; omega) (by omega) hB ?_
  intro v' w' hown' hg hn
  rw [cells3_append] at hown'
  exact h v' w' (by unfold Mine; rw [List.length_append, hl]; exact hown') hg hn
theorem mine_zero (w : World) (B : Nat) (hB : B ≤ w.heap.size) : Mine (w.alloc (.cells #[] 72)) B (.slice (some ⟨w.heap.size, 0, none⟩) 0 0) [] :=
  World.ownsRow_made w #[] 0 hB (Nat.zero_le _) (by simp)
theorem getD_ext {A B : List R} (h : A.length = B.length) (he : ∀ t, t < A.length → A.getD t R.zero = B.getD t R.zero) : A = B := by
  apply List.ext_getElem h
  intro t h1 h2
  have := he t h1
  simpa [List.getD, h1, h2] using this
theorem take_set3 {α : Type} (cur : List α) (m : Nat) (a b c : α) (h : m + 3 ≤ cur.length) : (((cur.set m a).set (m + 1) b).set (m + 2) c).take (m + 3) = cur.take m ++ [a, b, c] := by
  apply List.ext_getElem
  · simp; omega
  · intro i h1 h2
    simp only [List.getElem_take, List.getElem_set, List.getElem_append, List.length_take]
    have hm : min m cur.length = m := by omega
    simp only [hm]
    by_cases h3 : i < m
    · rw [if_neg (by omega), if_neg (by omega), if_neg (by omega), dif_pos h3]
    · rw [dif_neg h3]
      simp at h1
      have h4 : i = m ∨ i = m + 1 ∨ i = m + 2 := by omega
      rcases h4 with rfl | rfl | rfl
      · rw [if_neg (by omega), if_neg (by omega), if_pos rfl]; simp
      · rw [if_neg (by omega), if_pos rfl]; simp
      · rw [if_pos rfl]; simp
theorem Mine.push {w : World} {B g n cap : Nat} {X : List R} (h : Mine w B (.slice (some ⟨g, 0, none⟩) n cap) X) (hr : n < cap) (s : R) :
    (∀ j, j < 3 → (w.cell? ⟨g, n * 3 + j, none⟩).isSome = true ∧ w.frozen? ⟨g, n * 3 + j, none⟩ = false) ∧
    Mine (((w.setCell ⟨g, n * 3, none⟩ (.int .i64 s.key)).setCell ⟨g, n * 3 + 1, none⟩ (.int .i64 s.value)).setCell ⟨g, n * 3 + 2, none⟩ (.int .i64 s.width)) B (.slice (some ⟨g, 0, none⟩) (n + 1) cap) (X ++ [s]) := by
  have hl := h.len
  obtain ⟨h1, ⟨h0, h2⟩ | ⟨g', cap', cur, hv, hB, hh, hcap, hmax, hsz, htake⟩⟩ := h
  · injection h0 with e1; cases e1
  · injection hv with e1 e2 e3
    injection e1 with e1
    injection e1 with e1 _ _
    subst e1 e3
    have hcs : n * 3 + 3 ≤ cur.size := by omega
    refine ⟨fun j hj => ⟨?_, by simp [World.frozen?, hh]⟩, ?_⟩
    · simp only [World.cell?, hh]
      have : n * 3 + j < cur.size := by omega
      simp [this]
    · have s1 := Joins.block_setCell hh (i := n * 3) (.int .i64 s.key)
      have s2 := Joins.block_setCell s1 (i := n * 3 + 1) (.int .i64 s.value)
      have s3 := Joins.block_setCell s2 (i := n * 3 + 2) (.int .i64 s.width)
      have hln : (X ++ [s]).length = n + 1 := by rw [List.length_append, hl]; rfl
      refine ⟨cells3_length _, .inr ⟨g, cap, _, by rw [hln], hB, s3, by omega, hmax, by simpa using hsz, ?_⟩⟩
      rw [hln, show (n + 1) * 3 = n * 3 + 3 by omega]
      rw [← cells3_append, ← htake, hl]
      simp only [Array.toList_setIfInBounds]
      rw [take_set3 _ _ _ _ _ (by simpa using hcs)]
      rfl
theorem IsRows.tail {w : World} {g o n : Nat} {x : R} {Y : List R} (h : IsRows w (some ⟨g, o, none⟩) (n + 1) (x :: Y)) (hn : 0 < n) : IsRows w (some ⟨g, o + 3, none⟩) n Y := by
  obtain ⟨h1, h2, h0 | ⟨b, o', e, hlt, hc⟩⟩ := h
  · omega
  · injection e with e
    injection e with e1 e2 _
    subst e1 e2
    refine ⟨by simpa using h1, fun r hr => h2 r (List.mem_cons_of_mem _ hr), .inr ⟨g, o + 3, rfl, hlt, fun t ht => ?_⟩⟩
    have := hc (t + 1) (by omega)
    rw [show o + (t + 1) * 3 = o + 3 + t * 3 by omega] at this
    simpa using this
theorem IsRows.at {w : World} {a : Option Addr} {len : Nat} {L : List R} (h : IsRows w a len L) {t : Nat} (ht : t < len) : ∃ b o : Nat, a = some ⟨b, o, none⟩ ∧ b < w.heap.size ∧ RowAt w b (o + t * 3) (L.getD t R.zero) := by
  obtain ⟨-, -, h0 | ⟨b, o, e, hb, hc⟩⟩ := h
  · omega
  · exact ⟨b, o, e, hb, hc t ht⟩
end Go.Proofs.YtjdjceohlcimaaaGreatDoor
/- Shapes of records: their leaves one behind the other (numbers, truth values, slices); an element of a slice, and what a change of it leaves; no function of program or reference is walked here. -/
namespace Go.Proofs.YtjdjceohlcimaaaGreatDoor
open Go.RowKit
def I64 (x : Int) : Prop := -9223372036854775808 ≤ x ∧ x ≤ 9223372036854775807
def endRep : Rep Unit where
  H := Unit
  size := 0
  cells := fun _ _ => []
  inn := fun _ _ _ => True
  own := fun _ _ _ _ F => F = []
  len := fun _ _ => rfl
  inn_keep := fun h _ => h
  own_inn := fun _ => trivial
  own_lt := fun h y hy => by rw [h] at hy; cases hy
  own_stay := fun h _ => h
  own_apart := fun h => by rw [h]; exact List.Pairwise.nil
  own_mono := fun h _ => h
def intAnd {β : Type} (s : Rep β) : Rep (Int × β) where
  H := s.H
  size := s.size + 1
  cells := fun x h => .int .i64 x.1 :: s.cells x.2 h
  inn := fun w x h => I64 x.1 ∧ s.inn w x.2 h
  own := fun w B x h F => I64 x.1 ∧ s.own w B x.2 h F
  len := fun x h => by rw [List.length_cons, s.len]
  inn_keep := fun h hb => ⟨h.1, s.inn_keep h.2 hb⟩
  own_inn := fun h => ⟨h.1, s.own_inn h.2⟩
  own_lt := fun h => s.own_lt h.2
  own_stay := fun h hs => ⟨h.1, s.own_stay h.2 hs⟩
  own_apart := fun h => s.own_apart h.2
  own_mono := fun h hb => ⟨h.1, s.own_mono h.2 hb⟩
def boolAnd {β : Type} (s : Rep β) : Rep (Bool × β) where
  H := s.H
  size := s.size + 1
  cells := fun x h => .bool x.1 :: s.cells x.2 h
  inn := fun w x h => s.inn w x.2 h
  own := fun w B x h F => s.own w B x.2 h F
  len := fun x h => by rw [List.length_cons, s.len]
  inn_keep := fun h hb => s.inn_keep h hb
  own_inn := fun h => s.own_inn h
  own_lt := fun h => s.own_lt h
  own_stay := fun h hs => s.own_stay h hs
  own_apart := fun h => s.own_apart h
  own_mono := fun h hb => s.own_mono h hb
def seqAnd {α β : Type} (r : Rep α) (s : Rep β) : Rep (List α × β) where
  H := (Option Addr × Nat × Nat) × s.H
  size := s.size + 1
  cells := fun x h => .slice h.1.1 h.1.2.1 h.1.2.2 :: s.cells x.2 h.2
  inn := fun w x h => (seqRep r).inn w x.1 h.1 ∧ s.inn w x.2 h.2
  own := fun w B x h F => ∃ F1 F2, F = F1 ++ F2 ∧ (seqRep r).own w B x.1 h.1 F1 ∧ s.own w B x.2 h.2 F2 ∧ ∀ a ∈ F1, ∀ b ∈ F2, a.apart b
  len := fun x h => by rw [List.length_cons, s.len]
  inn_keep := fun h hb => ⟨(seqRep r).inn_keep h.1 hb, s.inn_keep h.2 hb⟩
  own_inn := fun ⟨_, _, _, h1, h2, _⟩ => ⟨(seqRep r).own_inn h1, s.own_inn h2⟩
  own_lt := fun ⟨_, _, e, h1, h2, _⟩ y hy => by
    rw [e] at hy
    exact (List.mem_append.1 hy).elim ((seqRep r).own_lt h1 y) (s.own_lt h2 y)
  own_stay := fun ⟨F1, F2, e, h1, h2, h3⟩ hs => by
    subst e
    exact ⟨F1, F2, rfl, (seqRep r).own_stay h1 (hs.sub fun y hy => List.mem_append_left _ hy), s.own_stay h2 (hs.sub fun y hy => List.mem_append_right _ hy), h3⟩
  own_apart := fun ⟨F1, F2, e, h1, h2, h3⟩ => by
    subst e
    exact List.pairwise_append.2 ⟨(seqRep r).own_apart h1, s.own_apart h2, h3⟩
  own_mono := fun ⟨F1, F2, e, h1, h2, h3⟩ hb => ⟨F1, F2, e, (seqRep r).own_mono h1 hb, s.own_mono h2 hb, h3⟩
def viaRep {α β : Type} (f : α → β) (r : Rep β) : Rep α where
  H := r.H
  size := r.size
  cells := fun x h => r.cells (f x) h
  inn := fun w x h => r.inn w (f x) h
  own := fun w B x h F => r.own w B (f x) h F
  len := fun x h => r.len (f x) h
  inn_keep := fun h hb => r.inn_keep h hb
  own_inn := fun h => r.own_inn h
  own_lt := fun h => r.own_lt h
  own_stay := fun h hs => r.own_stay h hs
  own_apart := fun h => r.own_apart h
  own_mono := fun h hb => r.own_mono h hb
theorem OnlyAt.within {F G : List Reg} {a b : World} (h : OnlyAt F a b) (hs : ∀ r ∈ F, ∃ s ∈ G, s.b = r.b ∧ s.lo ≤ r.lo ∧ r.hi ≤ s.hi) : OnlyAt G a b :=
  ⟨h.os, h.tape, h.output, h.size,
    fun i hi hne => h.block i hi fun r hr e => by obtain ⟨s, hs, e1, -, -⟩ := hs r hr; exact hne s hs (e1.trans e),
    fun i j hi hne => h.cell i j hi fun r hr e => by
      obtain ⟨s, hs, e1, h1, h2⟩ := hs r hr
      rcases hne s hs (e1.trans e) with h3 | h3
      · left; omega
      · right; omega,
    h.frozen⟩
theorem Reg.apart_within {x y z : Reg} (h : x.apart y) (hb : z.b = x.b) (h1 : x.lo ≤ z.lo) (h2 : z.hi ≤ x.hi) : z.apart y := by
  rcases h with h | h | h
  · exact .inl fun e => h (hb.symm.trans e)
  · exact .inr (.inl (by omega))
  · exact .inr (.inr (by omega))
theorem SeqOwn.el {α : Type} {r : Rep α} {w : World} {B : Nat} {a : Option Addr} {n : Nat} {xs : List α} {F : List Reg} (h : SeqOwn r w B a n xs F) {t : Nat} {x : α} (ht : xs[t]? = some x) :
    ∃ (b o : Nat) (hd : r.H) (G : List Reg), a = some ⟨b, o, none⟩ ∧ B ≤ b ∧ b < w.heap.size ∧ CellsAt w b (o + t * r.size) (r.cells x hd) ∧ (∀ j, j < r.size → w.frozen? ⟨b, o + t * r.size + j, none⟩ = false) ∧ r.own w B x hd G ∧
      (∀ y ∈ G, Reg.apart ⟨b, o + t * r.size, o + t * r.size + r.size⟩ y) ∧
      ∀ w' x', OnlyAt (⟨b, o + t * r.size, o + t * r.size + r.size⟩ :: G) w w' → CellsAt w' b (o + t * r.size) (r.cells x' hd) → r.own w' B x' hd G → SeqOwn r w' B a n (xs.set t x') F ∧ ∀ w0, OnlyAt F w0 w → OnlyAt F w0 w' := by
  have htl := idx_lt ht
  obtain ⟨h1, hm, ⟨h0, -⟩ | ⟨b, o, hs, Fs, rfl, hB, hlt, rfl, hp, hf, hx⟩⟩ := h
  · omega
  · have htn : t < n := by omega
    have hle := at_le (s := r.size) htn
    have hsub : ∀ y ∈ Fs t, y ∈ (⟨b, o, o + n * r.size⟩ : Reg) :: (List.range n).flatMap Fs := fun y hy => List.mem_cons_of_mem _ (List.mem_flatMap.2 ⟨t, List.mem_range.2 htn, hy⟩)
    have hhead : ∀ s, s < n → ∀ y ∈ Fs s, (⟨b, o, o + n * r.size⟩ : Reg).apart y := fun s hs y hy => (List.pairwise_cons.1 hp).1 y (List.mem_flatMap.2 ⟨s, List.mem_range.2 hs, hy⟩)
    refine ⟨b, o, hs t, Fs t, rfl, hB, hlt, (hx t x ht).1, fun j hj => hf _ (by omega) (by omega), (hx t x ht).2, fun y hy => Reg.apart_within (hhead t htn y hy) rfl (by simp only; omega) (by simp only; omega), fun w' x' ho hce hown => ⟨?_, fun w0 h0 => h0.trans (ho.within ?_)⟩⟩
    · refine ⟨by rw [List.length_set]; exact h1, hm, .inr ⟨b, o, hs, Fs, rfl, hB, Nat.lt_of_lt_of_le hlt ho.size, rfl, hp, fun j ha hb => (ho.frozen b j hlt).trans (hf j ha hb), fun s y hy => ?_⟩⟩
      have hsn : s < n := by have := idx_lt hy; rw [List.length_set] at this; omega
      have hles := at_le (s := r.size) hsn
      by_cases hst' : s = t
      · subst hst'
        rw [List.getElem?_set_self htl] at hy
        obtain rfl := Option.some.inj hy
        exact ⟨hce, hown⟩
      · rw [List.getElem?_set_ne (fun e => hst' e.symm)] at hy
        have hord : s * r.size + r.size ≤ t * r.size ∨ t * r.size + r.size ≤ s * r.size := by
          rcases Nat.lt_or_gt_of_ne hst' with h2 | h2
          · exact .inl (at_le h2)
          · exact .inr (at_le h2)
        refine ⟨fun j u hj => ?_, r.own_stay (hx s y hy).2 (Stay.of_only ho (fun p hp' q hq => ?_) fun q hq => (r.own_lt (hx s y hy).2 q hq).2)⟩
        · have hjl : j < r.size := by rw [← r.len y (hs s)]; exact idx_lt hj
          refine (ho.cell b (o + s * r.size + j) hlt fun z hz e => ?_).trans ((hx s y hy).1 j u hj)
          rcases List.mem_cons.1 hz with rfl | hz
          · simp only
            omega
          · have hap := hhead t htn z hz
            rcases hap with hn | hn | hn
            · exact absurd e.symm hn
            · simp only at hn; left; omega
            · simp only at hn; right; omega
        · rcases List.mem_cons.1 hp' with rfl | hp'
          · exact Reg.apart_within (hhead s hsn q hq) rfl (by simp only; omega) (by simp only; omega)
          · have hpw := (List.pairwise_cons.1 hp).2
            rw [List.pairwise_flatMap] at hpw
            have hr := hpw.2
            rcases Nat.lt_or_gt_of_ne hst' with h2 | h2
            · exact Reg.apart_symm ((List.pairwise_iff_getElem.1 hr) s t (by simpa using hsn) (by simpa using htn) h2 q (by simpa using hq) p (by simpa using hp'))
            · exact (List.pairwise_iff_getElem.1 hr) t s (by simpa using htn) (by simpa using hsn) h2 p (by simpa using hp') q (by simpa using hq)
    · intro z hz
      rcases List.mem_cons.1 hz with rfl | hz
      · exact ⟨_, List.mem_cons_self .., rfl, by simp only; omega, by simp only; omega⟩
      · exact ⟨z, hsub z hz, rfl, Nat.le_refl _, Nat.le_refl _⟩
theorem SeqIn.el {α : Type} {r : Rep α} {w : World} {a : Option Addr} {n : Nat} {xs : List α} (h : SeqIn r w a n xs) {t : Nat} {x : α} (ht : xs[t]? = some x) :
    ∃ (b o : Nat) (hd : r.H), a = some ⟨b, o, none⟩ ∧ b < w.heap.size ∧ CellsAt w b (o + t * r.size) (r.cells x hd) ∧ r.inn w x hd := by
  have htl := idx_lt ht
  obtain ⟨h1, -, h0 | ⟨b, o, rfl, hlt, hs, hx⟩⟩ := h
  · omega
  · exact ⟨b, o, hs t, rfl, hlt, (hx t x ht).1, (hx t x ht).2⟩
/-! ### The laws' counters and sizes -/
structure Mk (α : Type) where
  mark : Int → α → α
  cnt : α → Nat
  cnt_mark : ∀ q x, cnt (mark q x) = cnt x
def mkAll {α : Type} (m : Mk α) : Int → List α → List α
  | _, [] => []
  | q, x :: xs => m.mark q x :: mkAll m (q + m.cnt x) xs
def cntAll {α : Type} (m : Mk α) (xs : List α) : Nat := (xs.map m.cnt).sum
theorem cntAll_cons {α : Type} (m : Mk α) (x : α) (xs : List α) : cntAll m (x :: xs) = m.cnt x + cntAll m xs := rfl
theorem cnt_mkAll {α : Type} (m : Mk α) : ∀ (q : Int) (xs : List α), cntAll m (mkAll m q xs) = cntAll m xs
  | _, [] => rfl
  | q, x :: xs => by rw [mkAll, cntAll_cons, cntAll_cons, m.cnt_mark, cnt_mkAll m _ xs]
def seqMk {α : Type} (m : Mk α) : Mk (List α) := ⟨mkAll m, cntAll m, cnt_mkAll m⟩
def rowsMk : Mk (List R) := ⟨fun q L => marked L.length q, fun L => 3 * L.length, fun q L => by rw [marked_length]⟩
def wtAll {α : Type} (f : α → Nat) (xs : List α) : Nat := xs.length + (xs.map f).sum
theorem sum_take {α : Type} (f : α → Nat) (xs : List α) (t : Nat) : ((xs.take t).map f).sum ≤ (xs.map f).sum := by
  have := congrArg (fun l => (l.map f).sum) (List.take_append_drop t xs)
  simp only [List.map_append, List.sum_append] at this
  omega
theorem sum_next {α : Type} (f : α → Nat) (xs : List α) (t : Nat) (ht : t < xs.length) : ((xs.take (t + 1)).map f).sum = ((xs.take t).map f).sum + f xs[t] := by
  rw [List.take_succ_eq_append_getElem ht, List.map_append, List.sum_append]; simp
theorem wtAll_at {α : Type} (f : α → Nat) (xs : List α) (t : Nat) (ht : t < xs.length) : f xs[t] ≤ wtAll f xs := by
  have h1 := sum_next f xs t ht
  have h2 := sum_take f xs (t + 1)
  unfold wtAll
  omega
theorem wtAll_len {α : Type} (f : α → Nat) (xs : List α) : xs.length ≤ wtAll f xs := Nat.le_add_right _ _
end Go.Proofs.YtjdjceohlcimaaaGreatDoor
/- States told by trees: the laws' marks, element by element; no function of program or reference is walked here. -/
namespace Go.Proofs.YtjdjceohlcimaaaGreatDoor
open Go Go.RowKit V
set_option linter.unusedVariables false
def mkL {α β : Type} (m : Mk α) (f : α → β) (q : Int) (X : List α) (t : Nat) : List β := (mkAll m q (X.take t) ++ X.drop t).map f
variable {α β : Type} {m : Mk α} {f : α → β} {q : Int} {X : List α} {t : Nat}
theorem set_self {γ : Type} {l : List γ} {k : Nat} {x : γ} (h : k < l.length) : (l.set k x)[k]? = some x := List.getElem?_set_self h
theorem set_twice {γ : Type} {l : List γ} {k : Nat} {x y z : γ} (h : y = z) : (l.set k x).set k y = l.set k z := by rw [List.set_set, h]
def rowMk : Mk R := ⟨fun q _ => ⟨q, q + 1, q + 1 + 1⟩, fun _ => 3, fun _ _ => rfl⟩
def toL {α β : Type} (f : α → β) (z : β) (X : List α) (t : Nat) : List β := (X.take t).map f ++ List.replicate (X.length - t) z
section
variable {α β : Type} {f : α → β} {z : β} {X : List α} {t : Nat}
end
end Go.Proofs.YtjdjceohlcimaaaGreatDoor
/- States told by trees: loops whose states are told by what changes (the rest stands as at the loop's beginning); calls by contracts of plain values. -/
namespace Go.Proofs.YtjdjceohlcimaaaGreatDoor.V
open Go Go.RowKit
set_option linter.unusedVariables false
variable {P : Program} {E : Env} {N nb : Nat} {σ σ' τ : VS} {o : Oper} {a : Act} {w : World} {G : Ghost} {Q : Exit → Act → World → Prop} {K : Act → World → Prop}
def VS.tree (σ : VS) (i : Nat) : T := match σ.ob i with
  | some p => p.2
  | none => .any
def VS.lf (σ : VS) (d j : Nat) : Leaf := match (σ.tm d).cs with
  | p :: _ => p.2.getD j .dead
  | [] => .dead
def VS.bl (σ : VS) (b j : Nat) : Leaf := match σ.bs[b]? with
  | some p => p.2.getD j .dead
  | none => .dead
theorem SV.loopF {c : Go.Code} {X : Type} (I : VS → X → VS) (Inv : X → Prop) (μ : X → Nat) (h0 : SV E N σ fun a w => ∃ x, Inv x ∧ ∃ G, Rel E N (I σ x) a w G)
    (round : ∀ x, Inv x → SV E N (I σ x) (c.wp P (Exit.then (fun a w => ∃ x', (Inv x' ∧ μ x' < μ x) ∧ ∃ G, Rel E N (I σ x') a w G) Q))) : SV E N σ ((Code.loop c).wp P Q) := SV.loop (I σ) Inv μ h0 round
theorem V.le.keep {ρ : Nat → Nat} {ag : Bool} {xs ys : List Leaf} {v v' : V} (h : v = V.flat ag xs) (h' : v' = V.flat ag ys) (l : leafs σ τ ρ xs ys) : V.le σ τ ρ v v' := .inr ⟨ag, xs, ys, h, h', l⟩
theorem SV.sub {ρ : Nat → Nat} (hp : E.nl ≤ τ.nx ∧ (∀ i, i < E.nl → ρ i = i) ∧ ∀ c, E.pin = some c → 0 < τ.bs.length) (l : VS.le σ τ ρ) (k : SV E N τ K) : SV E N σ K := fun a w G h => by
  obtain ⟨G', h'⟩ := h.weaken hp l
  exact k a w G' h'
theorem SV.nlsc {s kk n : Nat} {ty : TypeId} (hk : σ.nx = kk) (hs : σ.tm s = V.one (.sc (.slice none 0 0))) (hp : 0 < n) (hz : Sz ty n) (hN : s < N) (k : SV E N ((σ.new (.seq ty [])).put s (V.one (.hd kk))) K) : SV E N σ K := fun a w G h => by
  subst hk
  have h1 := h.tmps s
  rw [hs, vone] at h1
  have h2 : a.tmps.getD s undef = .slice none 0 0 := h1.1
  obtain ⟨G', k1, k2, -, -⟩ := h.newnil hp hz
  have k3 := k1.put (d := s) (v := V.one (.hd σ.nx)) (u := a.tmps.getD s undef) hN (vone.2 ⟨⟨Nat.lt_succ_self _, by rw [h2, k2]⟩, .inr (by rw [h2]; rfl)⟩)
  have e : a.put (some s) (a.tmps.getD s undef) = a := by
    have hs' : s < a.tmps.size := by rw [h.nsz]; exact hN
    cases a with
    | mk tmps defers =>
      have : tmps.setIfInBounds s (tmps.getD s undef) = tmps := by
        apply Array.ext_getElem?
        intro i
        rw [Array.getElem?_setIfInBounds]
        split
        · rename_i hi; subst hi
          simp at hs'
          simp [hs']
        · rfl
      show Act.mk _ _ = _
      rw [this]
  rw [e] at k3
  exact k a w G' k3
def isLit : T → Bool
  | .lit _ => true
  | _ => false
theorem flat_of {α : Type} {f : α → List T} (h : ∀ x, (f x).all isLit = true) (X : List α) : Flat (X.map f) := fun k e j t h1 h2 => by
  rw [List.getElem?_map] at h1
  obtain ⟨x, -, rfl⟩ := Option.map_eq_some_iff.1 h1
  have := List.all_eq_true.1 (h x) t (get_mem h2)
  cases t with
  | lit u => exact ⟨u, rfl⟩
  | any => cases this
  | seq ty es => cases this
/-! ### A literal of scalars -/
def VS.scs (σ : VS) : List Operand → List Value → Prop
  | [], [] => True
  | x :: xs, u :: us => σ.ev x = V.one (.sc u) ∧ σ.scs xs us
  | _, _ => False
theorem Rel.scs (h : Rel E N σ a w G) : ∀ {xs : List Operand} {us : List Value}, σ.scs xs us → xs.map a.eval = us ∧ ∀ u ∈ us, u.oneCell' = true
  | [], [], _ => ⟨rfl, fun u hu => by cases hu⟩
  | x :: xs, u :: us, hx => by
    obtain ⟨h1, h2⟩ := h.scs hx.2
    have h3 := h.ev x
    rw [hx.1, vone] at h3
    have h4 : a.eval x = u := h3.1
    refine ⟨by rw [List.map_cons, h1, h4], fun v hv => ?_⟩
    rcases List.mem_cons.1 hv with rfl | hv
    · rcases h3.2 with h5 | h5
      · cases h5
      · rwa [h4] at h5
    · exact h2 v hv
/-! ### Contracts of plain values -/
theorem inn_lit {ok : Nat → Prop} {u v : Value} (h : Inn ok w (.lit u) v) : v = u := by
  cases h
  rfl
theorem args_plain {w : World} {ins : List (Bool × List Value)} {vs : List Value} (hv : ArgsIn (Env.of w) w (ins.map fun p => (p.1, p.2.map T.lit)) vs) : vs = ins.map fun p => cval p.1 p.2 := by
  obtain ⟨hl, ha⟩ := hv
  rw [List.length_map] at hl
  apply List.ext_getElem?
  intro c
  rcases Nat.lt_or_ge c ins.length with hc | hc
  · have hcv : vs[c]? = some vs[c] := List.getElem?_eq_getElem (by omega)
    obtain ⟨us, h2, h3, h4⟩ := ha c ins[c].1 (ins[c].2.map T.lit) vs[c] (by rw [List.getElem?_map, List.getElem?_eq_getElem hc]; rfl) hcv
    have h5 : us = ins[c].2 := by
      rw [List.length_map] at h3
      apply List.ext_getElem?
      intro j
      rcases Nat.lt_or_ge j us.length with hj | hj
      · have := h4 j (T.lit ins[c].2[j]) us[j] (by rw [List.getElem?_map, List.getElem?_eq_getElem (by omega)]; rfl) (List.getElem?_eq_getElem hj)
        rw [List.getElem?_eq_getElem hj, List.getElem?_eq_getElem (by omega), inn_lit this]
      · rw [List.getElem?_eq_none hj, List.getElem?_eq_none (by omega)]
    rw [hcv, List.getElem?_map, List.getElem?_eq_getElem hc, h2, h5]; rfl
  · rw [List.getElem?_eq_none (by omega), List.getElem?_eq_none (by simpa using hc)]
theorem gives_plain {w w' : World} {e : Ending} {ag : Bool} {rs : List Value} (h1 : ∀ u ∈ rs, u.oneCell' = true) (he : e = .returned (cval ag rs)) (hb : Below w.heap.size w w') : Gives (Env.of w) false [(ag, rs.map T.lit)] e w' := by
  refine ⟨[rs], fun _ _ _ => False, rfl, by rw [he]; rfl, fun c ag' ts us hc hu => ?_, fun c j c' j' b hb => hb.elim, fun c j b hb => hb.elim, .of_below hb⟩
  cases c with
  | zero =>
    cases hc; cases hu
    refine ⟨by simp, fun j t u hj hu => ?_⟩
    rw [List.getElem?_map, hu] at hj
    cases hj
    exact .lit (h1 u (get_mem hu))
  | succ c => simp at hc
theorem VC.plainAt {f : FuncId} {ins : List (Bool × List Value)} {ag : Bool} {rs : List Value} (h1 : ∀ u ∈ rs, u.oneCell' = true) {w : World} (h : Calls P f (ins.map fun p => cval p.1 p.2).toArray w fun e w' => e = .returned (cval ag rs) ∧ Below w.heap.size w w') (vs : List Value) (hv : ArgsIn (Env.of w) w (ins.map fun p => (p.1, p.2.map T.lit)) vs) : Calls P f vs.toArray w (Gives (Env.of w) false [(ag, rs.map T.lit)]) := by
  rw [args_plain hv]
  exact h.mono fun e w' ⟨he, hb⟩ => gives_plain h1 he hb
theorem VC.plain {f : FuncId} {ins : List (Bool × List Value)} {ag : Bool} {rs : List Value} (h1 : ∀ u ∈ rs, u.oneCell' = true) (h : ∀ w, Calls P f (ins.map fun p => cval p.1 p.2).toArray w fun e w' => e = .returned (cval ag rs) ∧ Below w.heap.size w w') : VC P f (ins.map fun p => (p.1, p.2.map T.lit)) false [(ag, rs.map T.lit)] := fun w => VC.plainAt h1 (h w)
/-! ### Contracts in worlds of a class -/
def VCP (Φ : World → Prop) (P : Program) (f : FuncId) (ins : List (Bool × List T)) (tup : Bool) (rs : List (Bool × List T)) : Prop := ∀ (w : World), Φ w → ∀ (vs : List Value), ArgsIn (Env.of w) w ins vs → Calls P f vs.toArray w (Gives (Env.of w) tup rs)
def Env.keeps (E : Env) (Φ : World → Prop) : Prop := Φ E.w0 ∧ (∀ b, ¬ E.ln b) ∧ ∀ w', Below E.B E.w0 w' → Φ w'
theorem Env.keeps.at {Φ : World → Prop} (h : E.keeps Φ) (hs : Same E E.w0 w) : Φ w := h.2.2 w ⟨hs.os, hs.tape, hs.output, hs.size, fun b hb => hs.block b ⟨hb, h.2.1 b⟩⟩
theorem VCP.enter {Φ : World → Prop} (hΦ : ∀ w w', Φ w → Below w.heap.size w w' → Φ w') {f : FuncId} {fn : Func} {c : Go.Code} {n : Nat} {ins rs : List (Bool × List T)} {tup : Bool} (hf : P.funcs[f]? = some fn) (hb : fn.body = some c) (hn : fn.ntmps = n) (hl : ins.length ≤ n)
    (h : ∀ E, E.plain 0 → E.keeps Φ → SV E n (VS.init (ins.map fun p => V.flat p.1 (p.2.map argLeaf))) (c.wp P (bodyPost P fn (Gives E tup rs)))) : VCP Φ P f ins tup rs := fun w hT vs hv => by
  refine calls_of_wp hf hb ?_
  obtain ⟨G, hG⟩ := init_rel (E := Env.of w) ⟨rfl, rfl⟩ (n := n) hv (by rw [hv.1]; exact hl)
  have := h (Env.of w) ⟨rfl, rfl⟩ ⟨hT, fun b hb => hb.elim, fun w' hb => hΦ w w' hT hb⟩ _ _ G hG
  rw [hn]
  have e : (Env.of w).w0 = w := rfl
  rw [e] at this
  simpa using this
theorem ok_callP {Φ : World → Prop} {d : Nat} {f : FuncId} {xs : List Operand} {ats : Array TypeId} {qs : List (Bool × List T)} {tup : Bool} {rs : List (Bool × List T)} {ls : List (Bool × List Leaf)} (hD : E.keeps Φ) (hk : ansLs σ.nx rs = ls) (ho : o.op = .call { callee := .value (.func f), args := xs.toArray, argTypes := ats }) (hb : ∃ fn c, P.funcs[f]? = some fn ∧ fn.body = some c ∧ fn.name ≠ "runtime.NumGoroutine")
    (hc : VCP Φ P f qs tup rs) (hx : σ.argss xs qs) (hd : o.dst = some d) (hdN : d < N) : OpMk P E N none σ o ((ansSs σ rs).put d ⟨tup, ls⟩) := ok_callW hk ho hb (fun w hs => hc w (hD.at hs)) hx hd hdN
theorem VCP.law {Φ : World → Prop} {f : FuncId} {ins : List (Bool × List T)} (h : VCP Φ P f ins false [(false, [.lit (.bool true)])]) {w : World} (hT : Φ w) {vs : List Value} (hv : ArgsIn (Env.of w) w ins vs) : Calls P f vs.toArray w fun e w' => e = .returned (.bool true) ∧ Below w.heap.size w w' :=
  (h w hT vs hv).mono fun e w' hg => by
    obtain ⟨he, hs⟩ := Gives.lit hg
    exact ⟨he, ⟨hs.os, hs.tape, hs.output, hs.size, fun b hb => hs.block b ⟨hb, fun h => h.elim⟩⟩⟩
end Go.Proofs.YtjdjceohlcimaaaGreatDoor.V
/- What a call gives: a slice in memory of its own; stretches that are apart; no function of program or reference is walked here. -/
namespace Go.Proofs.YtjdjceohlcimaaaGreatDoor
open Go.RowKit
theorem Stay.set {F : List Reg} {w w' : World} (h : Stay F w w') {g i : Nat} (u : Value) (hne : ∀ y ∈ F, y.b ≠ g) : Stay F w (w'.setCell ⟨g, i, none⟩ u) :=
  ⟨by simpa [World.setCell] using h.size, fun y hy j h1 h2 => ⟨(World.cell?_setCell_other _ _ _ _ (fun e => by injection e with e _ _; exact hne y hy e.symm)).trans (h.cell y hy j h1 h2).1, (World.frozen?_setCell w' _ _ _).trans (h.cell y hy j h1 h2).2⟩⟩
theorem Stay.refl (F : List Reg) (w : World) : Stay F w w := ⟨Nat.le_refl _, fun _ _ _ _ _ => ⟨rfl, rfl⟩⟩
def Gives {α : Type} (r : Rep α) (xs : List α) (w : World) (e : Ending) (w' : World) : Prop :=
  ∃ (x : Option Addr) (k m : Nat) (F : List Reg), e = .returned (.slice x k m) ∧ SeqOwn r w' w.heap.size x k xs F ∧ Below w.heap.size w w'
theorem Below.marked {α : Type} {r : Rep α} {w0 w w' : World} {B n : Nat} {a : Option Addr} {xs : List α} {F : List Reg} (h : SeqOwn r w B a n xs F) (ho : OnlyAt F w w') (hb : Below w0.heap.size w0 w) (hB : w0.heap.size ≤ B) : Below w0.heap.size w0 w' :=
  hb.trans (ho.below hb.size fun y hy => Nat.le_trans hB (h.lt y hy).1)
theorem frozen_grown {w w' : World} {row : Option Nat} (h : w.grownBy w' row) {b j : Nat} (hb : b < w.heap.size) (hne : row ≠ some b) : w'.cell? ⟨b, j, none⟩ = w.cell? ⟨b, j, none⟩ ∧ w'.frozen? ⟨b, j, none⟩ = w.frozen? ⟨b, j, none⟩ :=
  have := h.block b hb (fun e => hne e.symm)
  ⟨World.cell?_of_block this, World.frozen?_of_block this⟩
theorem Stay.of_grown {F : List Reg} {w w' : World} {row : Option Nat} (h : w.grownBy w' row) (hlt : ∀ y ∈ F, y.b < w.heap.size) (hne : ∀ y ∈ F, row ≠ some y.b) : Stay F w w' :=
  ⟨h.size, fun y hy _ _ _ => frozen_grown h (hlt y hy) (hne y hy)⟩
/-! ### What is the call's own, whatever its shape -/
theorem Rep.own.lt {α : Type} {r : Rep α} {w : World} {B : Nat} {x : α} {h : r.H} {F : List Reg} (ho : r.own w B x h F) : ∀ y ∈ F, B ≤ y.b ∧ y.b < w.heap.size := r.own_lt ho
theorem Rep.own.inn {α : Type} {r : Rep α} {w : World} {B : Nat} {x : α} {h : r.H} {F : List Reg} (ho : r.own w B x h F) : r.inn w x h := r.own_inn ho
theorem Rep.own.keep {α : Type} {r : Rep α} {w w' : World} {B : Nat} {x : α} {h : r.H} {F : List Reg} (ho : r.own w B x h F) (hb : Below w.heap.size w w') : r.own w' B x h F := r.own_stay ho (Stay.of_below hb fun y hy => (r.own_lt ho y hy).2)
theorem Rep.inn.keep {α : Type} {r : Rep α} {w w' : World} {x : α} {h : r.H} (hi : r.inn w x h) (hb : Below w.heap.size w w') : r.inn w' x h := r.inn_keep hi hb
theorem box_cell {w : World} {g : Nat} {cs : Array Value} {t : TypeId} {fr : Nat × Nat} (h : w.heap[g]? = some (.cells cs t fr)) (j : Nat) (u : Value) (hu : cs[j]? = some u) : w.cell? ⟨g, j, none⟩ = some u := by simp [World.cell?, h, hu]
end Go.Proofs.YtjdjceohlcimaaaGreatDoor
/- What changes one block alone; no function of program or reference is walked here. -/
namespace Go.Proofs.YtjdjceohlcimaaaGreatDoor
open Go.RowKit
def Only (c : Nat) (w w' : World) : Prop := w.grownBy w' (some c)
theorem Only.refl (c : Nat) (w : World) : Only c w w := World.grownBy.refl w _
theorem Only.trans {c : Nat} {a b d : World} (h : Only c a b) (k : Only c b d) : Only c a d :=
  ⟨k.os.trans h.os, k.tape.trans h.tape, k.output.trans h.output, Nat.le_trans h.size k.size, fun i hi hne => (k.block i (Nat.lt_of_lt_of_le hi h.size) hne).trans (h.block i hi hne)⟩
theorem Only.drew {c : Nat} {a w : World} (h : Only c a w) : Only c a w.drew := ⟨h.os, h.tape, h.output, h.size, h.block⟩
theorem Only.drewN {c : Nat} {a w : World} (h : Only c a w) (n : Nat) : Only c a (w.drewN n) := ⟨h.os, h.tape, h.output, h.size, h.block⟩
theorem Only.alloc {c : Nat} {a w : World} (h : Only c a w) (o : Obj) : Only c a (w.alloc o) :=
  ⟨h.os, h.tape, h.output, Nat.le_trans h.size (by simp), fun i hi hne => (Below.heap_alloc w o i (Nat.lt_of_lt_of_le hi h.size)).trans (h.block i hi hne)⟩
theorem Only.setCell {c : Nat} {a w : World} (h : Only c a w) (i : Nat) (u : Value) : Only c a (w.setCell ⟨c, i, none⟩ u) :=
  ⟨h.os, h.tape, h.output, by simpa [World.setCell] using h.size, fun k hk hne => (Below.heap_setCell w ⟨c, i, none⟩ u k (fun e => hne (by rw [e]))).trans (h.block k hk hne)⟩
theorem Only.of_below {c : Nat} {a w : World} (h : Below a.heap.size a w) : Only c a w := ⟨h.os, h.tape, h.output, h.size, fun i hi _ => h.block i hi⟩
theorem Only.step {c : Nat} {a b d : World} (h : Only c a b) (k : Below a.heap.size b d) : Only c a d :=
  ⟨k.os.trans h.os, k.tape.trans h.tape, k.output.trans h.output, Nat.le_trans h.size k.size, fun i hi hne => (k.block i hi).trans (h.block i hi hne)⟩
theorem Only.below {c B : Nat} {a b : World} (h : Only c a b) (hB : B ≤ a.heap.size) (hc : B ≤ c) : Below B a b :=
  ⟨h.os, h.tape, h.output, h.size, fun i hi => h.block i (Nat.lt_of_lt_of_le hi hB) (fun e => by injection e with e; omega)⟩
end Go.Proofs.YtjdjceohlcimaaaGreatDoor
/- The laws' copy of a row (toRow) and comparison (eqRow), by contract. -/
namespace Go.Proofs.YtjdjceohlcimaaaGreatDoor
open Go.RowKit
end Go.Proofs.YtjdjceohlcimaaaGreatDoor
/- The laws' copy of a slice of rows (toRowS), by contract. -/
namespace Go.Proofs.YtjdjceohlcimaaaGreatDoor
open Go.RowKit
end Go.Proofs.YtjdjceohlcimaaaGreatDoor
/- The laws' marks on rows of the call's own, and what they leave alone; the sizes that the laws reckon; no function of program or reference is walked here. -/
namespace Go.Proofs.YtjdjceohlcimaaaGreatDoor
open Go.RowKit
theorem Mine.apart {w w' : World} {B B' s : Nat} {v v' : Value} {L L' : List R} (h : Mine w B v L) (h' : Mine w' B' v' L') (hs : w.heap.size ≤ s) (hB : s ≤ B') : ∀ k, v.ownBlock = some k → v'.ownBlock ≠ some k := fun k hk hk' => by
  have h1 := (World.ownsRow.lt h k hk).2
  have h2 := (World.ownsRow.lt h' k hk').1
  omega
theorem apart_symm {v v' : Value} (h : ∀ k, v.ownBlock = some k → v'.ownBlock ≠ some k) : ∀ k, v'.ownBlock = some k → v.ownBlock ≠ some k := fun k hk hk' => h k hk' hk
end Go.Proofs.YtjdjceohlcimaaaGreatDoor
/- Rows among the arguments of a law: a struct by value, and a slice of them: from the reading to the mathematics and back. -/
namespace Go.Proofs.YtjdjceohlcimaaaGreatDoor
open Go Go.ChangeShapes Go.WideShapes Go.RowKit Go.Deep Go.Joins
def R.dat {H : Type} (r : R) : DataW H := .agg [.lit (.int .i64 r.key), .lit (.int .i64 r.value), .lit (.int .i64 r.width)]
section
variable {H : Type} {enc : TypeId × Value → H} {w : World} {base : Nat} {spare : Nat → Bool} {held : Bool}
end
end Go.Proofs.YtjdjceohlcimaaaGreatDoor
/- Arguments of whatever shape: from the reading to the mathematics, by the type; no function of program or reference is walked here. -/
namespace Go.Proofs.YtjdjceohlcimaaaGreatDoor
open Go Go.ChangeShapes Go.WideShapes Go.RowKit Go.Deep Go.Joins
def Opens (T : TypeId) {α : Type} (r : Rep α) : Prop :=
  ∀ (H : Type) (enc : TypeId × Value → H) (w : World) (spare : Nat → Bool) (held : Bool) (fuel : Nat) (cs : List Value) (x : DataW H × List MemPlace), DataW.trod enc Tryz.prog w 0 spare held fuel T cs = some x → cs.length = r.size → ∃ (y : α) (h : r.H), cs = r.cells y h ∧ r.inn w y h
set_option maxRecDepth 100000 in
theorem Opens.seq {T e : TypeId} {α : Type} {r : Rep α} (ht : Tryz.prog.underlying T = some (.slice e)) (hc : Tryz.prog.cellsOf e = r.size) (hp : 0 < r.size) (hO : Opens e r) : Opens T (seqRep r) := by
  intro H enc w spare held fuel cs x h _
  rcases open_slice ht h with ⟨rfl, -⟩ | ⟨a, len, cap, m, n, D, Pl, rfl, -, hl, hm, hmm, -, hi⟩
  · exact ⟨[], (none, 0, 0), rfl, ⟨rfl, Nat.zero_le _, .inl rfl⟩, fun _ => rfl⟩
  · have hlm : len ≤ m := by rw [hmm]; split <;> omega
    rw [hc] at hi
    rcases Nat.eq_zero_or_pos len with h0 | h0
    · subst h0
      exact ⟨[], (some a, 0, cap), rfl, ⟨rfl, Nat.zero_le _, .inl rfl⟩, fun e => by cases e⟩
    · have hone : ∀ i, i < len → ∃ (yh : α × r.H), (∀ j u, (r.cells yh.1 yh.2)[j]? = some u → w.cell? (a.add (i * r.size + j)) = some u) ∧ r.inn w yh.1 yh.2 := by
        intro i hil
        obtain ⟨cs', hcs, htr⟩ := hi i (by omega)
        obtain ⟨_, hcl, hat⟩ := World.cells?_some hcs
        obtain ⟨y, hd, rfl, hin⟩ := hO H enc w spare held n cs' _ htr hcl
        refine ⟨(y, hd), fun j u hj => ?_, hin⟩
        have hjl : j < r.size := by rw [← hcl]; exact idx_lt hj
        have := hat j hjl
        rw [add_add] at this
        rw [this]
        exact hj
      obtain ⟨yh0, -⟩ := hone 0 h0
      obtain ⟨f, hf⟩ := @choose_lt (α × r.H) ⟨yh0⟩ len _ hone
      obtain ⟨b, o, spot⟩ := a
      have hl0 : 0 < (r.cells (f 0).1 (f 0).2).length := by rw [r.len]; exact hp
      have hcell0 := (hf 0 h0).1 0 ((r.cells (f 0).1 (f 0).2)[0]) (by simp [hl0])
      have hspot : spot = none := by simpa [Addr.add] using World.cell?_spot hcell0
      subst hspot
      have hb : b < w.heap.size := by
        have := World.block_lt_of_cell? w _ hcell0
        simpa [Addr.add] using this
      refine ⟨(List.range len).map fun t => (f t).1, (some ⟨b, o, none⟩, len, cap), rfl, ⟨by simp, by show len ≤ maxLen; omega, .inr ⟨b, o, rfl, hb, fun t => (f t).2, fun t x hx => ?_⟩⟩, fun e => by cases e⟩
      have htl : t < len := by simpa using idx_lt hx
      obtain rfl : (f t).1 = x := by simpa [htl] using hx
      refine ⟨fun j u hj => ?_, (hf t htl).2⟩
      have := (hf t htl).1 j u hj
      rw [Addr.add_lit] at this
      rw [Nat.add_assoc]
      exact this
set_option maxRecDepth 100000 in
theorem Opens.one {T : TypeId} {f0 : Field} {α : Type} {r : Rep α} (hs : Tryz.prog.underlying T = some (.struct #[f0])) (ho : f0.offset = 0) (hc : Tryz.prog.cellsOf f0.type = r.size) (hO : Opens f0.type r) : Opens T r := by
  intro H enc w spare held fuel cs x h hl
  obtain ⟨y0, n, -, -, h0⟩ := trod_struct1 hs h
  rw [ho, hc, List.drop_zero, List.take_of_length_le (by omega)] at h0
  exact hO H enc w spare held n cs _ h0 hl
set_option maxRecDepth 100000 in
theorem Opens.val {T : TypeId} {fs : Array Field} {α : Type} {r : Rep α} (hO : Opens T r) (hs : Tryz.prog.underlying T = some (.struct fs)) (hc : Tryz.prog.cellsOf T = r.size)
    {H : Type} {enc : TypeId × Value → H} {w : World} {spare : Nat → Bool} {held : Bool} {q : Reach} {b0 : Nat} {v : Value} {d : DataW H} {p : List MemPlace} (hv : Value.okWide Tryz.prog w q b0 T v) (h : DataW.Trod enc Tryz.prog w 0 spare held T v d p) :
    ∃ (y : α) (hd : r.H), v = .agg (r.cells y hd).toArray ∧ r.inn w y hd := by
  obtain ⟨cs, rfl, hsz⟩ := okWide_struct hs hv
  obtain ⟨fuel, hf⟩ := h
  obtain ⟨y, hd, e, hi⟩ := hO H enc w spare held fuel _ _ hf (by simpa [Value.cells] using hsz.trans hc)
  refine ⟨y, hd, ?_, hi⟩
  simp only [Value.cells] at e
  rw [← e]
set_option maxRecDepth 100000 in
theorem Opens.arg {T : TypeId} {α : Type} {r : Rep α} (hO : Opens T (seqRep r)) {H : Type} {enc : TypeId × Value → H} {w : World} {spare : Nat → Bool} {held : Bool} {a : Option Addr} {len cap : Nat} {d : DataW H} {p : List MemPlace}
    (h : DataW.Trod enc Tryz.prog w 0 spare held T (.slice a len cap) d p) : ∃ xs : List α, SeqIn r w a len xs := by
  obtain ⟨fuel, hf⟩ := h
  obtain ⟨y, ⟨a', n', c'⟩, e, hi⟩ := hO H enc w spare held fuel _ _ hf (by simp [Value.cells, seqRep])
  simp [Value.cells, seqRep] at e
  obtain ⟨rfl, rfl, rfl⟩ := e
  exact ⟨y, hi.1⟩
end Go.Proofs.YtjdjceohlcimaaaGreatDoor
/- The laws' marks on rows that lie in a stretch of a block; sizes; copies as owned slices; no function of program or reference is walked here. -/
namespace Go.Proofs.YtjdjceohlcimaaaGreatDoor
open Go.RowKit
theorem set3_cells {w : World} {b o : Nat} {x y z : Value} (h0 : w.cell? ⟨b, o, none⟩ = some x) (h1 : w.cell? ⟨b, o + 1, none⟩ = some y) (h2 : w.cell? ⟨b, o + 2, none⟩ = some z) (r : R) :
    RowAt (((w.setCell ⟨b, o, none⟩ (.int .i64 r.key)).setCell ⟨b, o + 1, none⟩ (.int .i64 r.value)).setCell ⟨b, o + 2, none⟩ (.int .i64 r.width)) b o r := by
  have n01 : (⟨b, o, none⟩ : Addr) ≠ ⟨b, o + 1, none⟩ := by intro e; injection e with _ e _; omega
  have n02 : (⟨b, o, none⟩ : Addr) ≠ ⟨b, o + 2, none⟩ := by intro e; injection e with _ e _; omega
  have n12 : (⟨b, o + 1, none⟩ : Addr) ≠ ⟨b, o + 2, none⟩ := by intro e; injection e with _ e _; omega
  refine ⟨?_, ?_, ?_⟩
  · rw [World.cell?_setCell_other _ _ _ _ n02.symm, World.cell?_setCell_other _ _ _ _ n01.symm]
    exact World.cell?_setCell_same _ _ _ h0
  · rw [World.cell?_setCell_other _ _ _ _ n12.symm]
    refine World.cell?_setCell_same _ _ _ (u := y) ?_
    rw [World.cell?_setCell_other _ _ _ _ n01]
    exact h1
  · refine World.cell?_setCell_same _ _ _ (u := z) ?_
    rw [World.cell?_setCell_other _ _ _ _ n12, World.cell?_setCell_other _ _ _ _ n02]
    exact h2
theorem SeqOwn.row {w : World} {B n : Nat} {a : Option Addr} {L : List R} {F : List Reg} (h : SeqOwn rowRep w B a n L F) {k : Nat} (hk : k < n) :
    ∃ b o : Nat, a = some ⟨b, o, none⟩ ∧ b < w.heap.size ∧ RowAt w b (o + k * 3) (L.getD k R.zero) ∧ (∀ j, j < 3 → w.frozen? ⟨b, o + k * 3 + j, none⟩ = false) ∧
      ∀ r : R, r.wf → SeqOwn rowRep (((w.setCell ⟨b, o + k * 3, none⟩ (.int .i64 r.key)).setCell ⟨b, o + k * 3 + 1, none⟩ (.int .i64 r.value)).setCell ⟨b, o + k * 3 + 2, none⟩ (.int .i64 r.width)) B a n (L.set k r) F ∧
        ∀ w0, OnlyAt F w0 w → OnlyAt F w0 (((w.setCell ⟨b, o + k * 3, none⟩ (.int .i64 r.key)).setCell ⟨b, o + k * 3 + 1, none⟩ (.int .i64 r.value)).setCell ⟨b, o + k * 3 + 2, none⟩ (.int .i64 r.width)) := by
  obtain ⟨h1, hm, ⟨h0, -⟩ | ⟨b, o, hs, Fs, rfl, hB, hlt, rfl, hp, hf, hx⟩⟩ := h
  · omega
  · have hkl : k < L.length := by omega
    have hg : L.getD k R.zero = L[k] := by simp [List.getD, hkl]
    have hle : k * 3 + 3 ≤ n * 3 := by omega
    obtain ⟨hc, -⟩ := hx k L[k] (by simp [hkl])
    have c0 := hc 0 _ rfl
    have c1 := hc 1 _ rfl
    have c2 := hc 2 _ rfl
    have hhead : (⟨b, o, o + n * rowRep.size⟩ : Reg) ∈ (⟨b, o, o + n * rowRep.size⟩ : Reg) :: (List.range n).flatMap Fs := List.mem_cons_self ..
    refine ⟨b, o, rfl, hlt, by rw [hg]; exact ⟨c0, c1, c2⟩, fun j hj => hf _ (by omega) (by show _ < o + n * 3; omega), fun r hr => ⟨?_, fun w0 h0 => ?_⟩⟩
    · refine ⟨by rw [List.length_set]; exact h1, hm, .inr ⟨b, o, hs, Fs, rfl, hB, by simpa [World.setCell] using hlt, rfl, hp, fun j ha hb => ?_, fun t x ht => ?_⟩⟩
      · rw [World.frozen?_setCell, World.frozen?_setCell, World.frozen?_setCell]
        exact hf j ha hb
      · have htl : t < L.length := by have := idx_lt ht; rwa [List.length_set] at this
        by_cases htk : t = k
        · subst htk
          rw [List.getElem?_set_self htl] at ht
          obtain rfl := Option.some.inj ht
          refine ⟨fun j u hj => ?_, hr, (hx t L[t] (by simp [htl])).2.2⟩
          have e0 : w.cell? ⟨b, o + t * 3, none⟩ = some (.int .i64 (L[t]).key) := c0
          have e1 : w.cell? ⟨b, o + t * 3 + 1, none⟩ = some (.int .i64 (L[t]).value) := c1
          have e2 : w.cell? ⟨b, o + t * 3 + 2, none⟩ = some (.int .i64 (L[t]).width) := c2
          have hq := set3_cells e0 e1 e2 r
          match j, hj with
          | 0, hj => obtain rfl := Option.some.inj hj; exact hq.1
          | 1, hj => obtain rfl := Option.some.inj hj; exact hq.2.1
          | 2, hj => obtain rfl := Option.some.inj hj; exact hq.2.2
        · rw [List.getElem?_set_ne (fun e => htk e.symm)] at ht
          obtain ⟨hc', ho'⟩ := hx t x ht
          refine ⟨fun j u hj => ?_, ho'⟩
          have hj3 : j < 3 := idx_lt hj
          have hcj := hc' j u hj
          have hoff : ∀ i, i < 3 → (⟨b, o + k * 3 + i, none⟩ : Addr) ≠ ⟨b, o + t * rowRep.size + j, none⟩ := by
            intro i hi e
            injection e with _ e _
            have : o + k * 3 + i = o + t * 3 + j := e
            omega
          rw [World.cell?_setCell_other _ _ _ _ (hoff 2 (by omega)), World.cell?_setCell_other _ _ _ _ (hoff 1 (by omega)), World.cell?_setCell_other _ _ _ _ (show (⟨b, o + k * 3, none⟩ : Addr) ≠ _ from hoff 0 (by omega))]
          exact hcj
    · refine (((h0.set hhead rfl ?_ ?_ _).set hhead rfl ?_ ?_ _).set hhead rfl ?_ ?_ _)
      all_goals first | (show o ≤ _; omega) | (show _ < o + n * 3; omega)
def szR (left : Int) (n : Nat) : Int := if left < n then -1 else left - n
end Go.Proofs.YtjdjceohlcimaaaGreatDoor
/- What the texts of the laws' types share; no function of program or reference is walked here. -/
namespace Go.Proofs.YtjdjceohlcimaaaGreatDoor
open Go.RowKit
set_option linter.unusedVariables false
theorem OnlyAt.put {w : World} {b lo hi j : Nat} (w0 : World) (h : OnlyAt [⟨b, lo, hi⟩] w0 w) (h1 : lo ≤ j) (h2 : j < hi) (u : Value) : OnlyAt [⟨b, lo, hi⟩] w0 (w.setCell ⟨b, j, none⟩ u) := h.set (List.mem_singleton.2 rfl) rfl h1 h2 u
theorem boxes3 (w W : World) {c0 c1 c2 : Array Value} {t0 t1 t2 : TypeId} (h : W = ((w.alloc (.cells c0 t0)).alloc (.cells c1 t1)).alloc (.cells c2 t2)) :
    W.heap.size = w.heap.size + 3 ∧ Below w.heap.size w W ∧ W.heap[w.heap.size]? = some (.cells c0 t0 (0, 0)) ∧ W.heap[w.heap.size + 1]? = some (.cells c1 t1 (0, 0)) ∧ W.heap[w.heap.size + 2]? = some (.cells c2 t2 (0, 0)) := by
  have hs1 : (w.alloc (.cells c0 t0)).heap.size = w.heap.size + 1 := by simp
  have hs2 : ((w.alloc (.cells c0 t0)).alloc (.cells c1 t1)).heap.size = w.heap.size + 2 := by simp
  refine ⟨by rw [h]; simp, by rw [h]; exact (((Below.refl _ _).alloc (Nat.le_refl _) _).alloc (by simp) _).alloc (by simp; omega) _, ?_, ?_, ?_⟩
  · rw [h]
    exact (Below.heap_alloc _ _ _ (by simp; omega)).trans ((Below.heap_alloc _ _ _ (by simp)).trans (heap_alloc_new _ _))
  · rw [h, ← hs1]
    exact (Below.heap_alloc _ _ _ (by simp)).trans (heap_alloc_new _ _)
  · rw [h, ← hs2]
    exact heap_alloc_new _ _
theorem boxes2 (w W : World) {c0 c1 : Array Value} {t0 t1 : TypeId} (h : W = (w.alloc (.cells c0 t0)).alloc (.cells c1 t1)) :
    Below w.heap.size w W ∧ W.heap[w.heap.size]? = some (.cells c0 t0 (0, 0)) ∧ W.heap[w.heap.size + 1]? = some (.cells c1 t1 (0, 0)) := by
  have hs1 : (w.alloc (.cells c0 t0)).heap.size = w.heap.size + 1 := by simp
  refine ⟨by rw [h]; exact ((Below.refl _ _).alloc (Nat.le_refl _) _).alloc (by simp) _, ?_, ?_⟩
  · rw [h]
    exact (Below.heap_alloc _ _ _ (by simp)).trans (heap_alloc_new _ _)
  · rw [h, ← hs1]
    exact heap_alloc_new _ _
theorem Calls.named {P : Program} {f : FuncId} {a : Array Value} {w : World} {Q : Ending → World → Prop} (h : ∀ V, V = w → Calls P f a V Q) : Calls P f a w Q := h w rfl
theorem blk_put {w : World} {g i : Nat} {cs cs' : Array Value} {t : TypeId} {v : Value} (h : w.heap[g]? = some (.cells cs t (0, 0))) (e : cs.setIfInBounds i v = cs') : (w.setCell ⟨g, i, none⟩ v).heap[g]? = some (.cells cs' t (0, 0)) := by
  rw [← e]; exact Joins.block_setCell h _
theorem blk_far {w : World} {g b i : Nat} {o : Obj} {v : Value} (h : w.heap[b]? = some o) (hne : b ≠ g) : (w.setCell ⟨g, i, none⟩ v).heap[b]? = some o := (Below.heap_setCell w ⟨g, i, none⟩ v b hne).trans h
def putCells : World → Nat → Nat → List Value → World
  | w, _, _, [] => w
  | w, g, o, v :: vs => putCells (w.setCell ⟨g, o, none⟩ v) g (o + 1) vs
end Go.Proofs.YtjdjceohlcimaaaGreatDoor
/- Rows: the laws' weight of a slice of them; no function of program or reference is walked here. -/
namespace Go.Proofs.YtjdjceohlcimaaaGreatDoor
open Go.RowKit
set_option linter.unusedVariables false
def wtRows (X : List R) : Nat := X.length
end Go.Proofs.YtjdjceohlcimaaaGreatDoor
/- Pages in memory: their shape, what a call gives, their heads; no function of program or reference is walked here. -/
namespace Go.Proofs.YtjdjceohlcimaaaGreatDoor
open Go.RowKit
abbrev pageRep : Rep (List R) := seqRep rowRep
abbrev pagesRep : Rep (List (List R)) := seqRep pageRep
def mkP : Int → List (List R) → List (List R)
  | _, [] => []
  | q, p :: P => marked p.length q :: mkP (q + 3 * p.length) P
theorem flat_next (P : List (List R)) (t : Nat) (ht : t < P.length) : (P.take (t + 1)).flatten.length = (P.take t).flatten.length + P[t].length := by
  rw [List.take_succ_eq_append_getElem ht, List.flatten_append, List.length_append, List.flatten_cons, List.flatten_nil, List.append_nil]
theorem flat_take (P : List (List R)) (t : Nat) : (P.take t).flatten.length ≤ P.flatten.length := by
  conv => rhs; rw [← List.take_append_drop t P]
  rw [List.flatten_append, List.length_append]; omega
theorem flat_mem (P : List (List R)) (t : Nat) (ht : t < P.length) : P[t].length ≤ P.flatten.length := by
  have := flat_next P t ht
  have := flat_take P (t + 1)
  omega
theorem pageInfo : (Tryz.prog.info? 29).map (fun i => (i.zero, i.size, i.bytes)) = some (some (.agg #[.slice none 0 0]), 1, 24) := by kernel_rfl
end Go.Proofs.YtjdjceohlcimaaaGreatDoor
namespace Go.Proofs.YtjdjceohlcimaaaGreatDoor
open Go.RowKit
def Heads (w : World) (B : Nat) (v : Value) (cs : List Value) : Prop := w.ownsRow B 29 1 v cs.length cs
theorem Heads.keep {w w' : World} {B : Nat} {v : Value} {cs : List Value} (h : Heads w B v cs) (hb : Below w.heap.size w w') : Heads w' B v cs := by
  obtain ⟨h1, h0 | ⟨g, cap, cur, rfl, hB, hh, h2⟩⟩ := h
  · exact ⟨h1, .inl h0⟩
  · exact ⟨h1, .inr ⟨g, cap, cur, rfl, hB, (hb.block g (lt_of_block hh)).trans hh, h2⟩⟩
theorem Heads.own {w : World} {B : Nat} {v : Value} {cs : List Value} (h : Heads w B v cs) : ∀ k, v.ownBlock = some k → B ≤ k ∧ k < w.heap.size := fun k hk => World.ownsRow.lt h k hk
theorem Heads.cells {w : World} {B g n c : Nat} {cs : List Value} (h : Heads w B (.slice (some ⟨g, 0, none⟩) n c) cs) : n = cs.length ∧ g < w.heap.size ∧ (∀ j, w.frozen? ⟨g, j, none⟩ = false) ∧ ∀ j u, cs[j]? = some u → w.cell? ⟨g, j, none⟩ = some u := by
  obtain ⟨h1, ⟨h0, -⟩ | ⟨g', cap, cur, hv, hB, hh, hcap, hmax, hsz, htake⟩⟩ := h
  · injection h0 with e1; cases e1
  · injection hv with e1 e2 e3
    injection e1 with e1
    injection e1 with e1 _ _
    subst e1
    refine ⟨e2, lt_of_block hh, fun j => by simp [World.frozen?, hh], fun j u hj => ?_⟩
    have hjl : j < cs.length * 1 := by rw [Nat.mul_one]; exact idx_lt hj
    rw [← htake, List.getElem?_take, if_pos (by omega)] at hj
    simp only [World.cell?, hh]
    simpa using hj
theorem Heads.slice {w : World} {B : Nat} {v : Value} {cs : List Value} (h : Heads w B v cs) : ∃ a c, v = .slice a cs.length c := by
  obtain ⟨h1, ⟨rfl, h0⟩ | ⟨g, cap, cur, rfl, -⟩⟩ := h
  · exact ⟨none, 0, by rw [h0]⟩
  · exact ⟨_, _, rfl⟩
end Go.Proofs.YtjdjceohlcimaaaGreatDoor
/- Page: the datum, its shape, the laws' marks over it, its weight; no function of program or reference is walked here. -/
namespace Go.Proofs.YtjdjceohlcimaaaGreatDoor
open Go.RowKit
set_option linter.unusedVariables false
def pageMk : Mk (List R) := ⟨fun q x => rowsMk.mark (q) x, fun x => rowsMk.cnt x, fun q x => by simp [Mk.cnt_mark]⟩
def pagesMk : Mk (List (List R)) := seqMk pageMk
def pageMkV : Mk (List R) := ⟨fun q x => rowsMk.mark (q) x, fun x => rowsMk.cnt x, fun q x => by simp [Mk.cnt_mark]⟩
def wtPage (x : List R) : Nat := wtRows x
def wtPages (X : List (List R)) : Nat := wtAll wtPage X
theorem wt_page_at (X : List (List R)) (t : Nat) (ht : t < X.length) : wtPage X[t] ≤ wtPages X := wtAll_at wtPage X t ht
theorem wt_page_len (X : List (List R)) : X.length ≤ wtPages X := wtAll_len wtPage X
end Go.Proofs.YtjdjceohlcimaaaGreatDoor
/- File: the datum, its shape, the laws' marks over it, its weight; no function of program or reference is walked here. -/
namespace Go.Proofs.YtjdjceohlcimaaaGreatDoor
open Go.RowKit
set_option linter.unusedVariables false
structure FileD where
  fName : Int
  fPages : List (List R)
  fChecksum : Int
  fSealed : Bool
deriving DecidableEq
def fileRep : Rep FileD := viaRep (fun x => (x.fName, x.fPages, x.fChecksum, x.fSealed, ())) (intAnd (seqAnd pageRep (intAnd (boolAnd endRep))))
def fileMk : Mk FileD := ⟨fun q x => ⟨q, pagesMk.mark (q + 1) x.fPages, q + 1 + (pagesMk.cnt x.fPages : Nat), ((q + 1 + (pagesMk.cnt x.fPages : Nat) + 1) % 3 == 0)⟩, fun x => 1 + pagesMk.cnt x.fPages + 1 + 1, fun q x => by simp [Mk.cnt_mark]⟩
def filesMk : Mk (List FileD) := seqMk fileMk
def wtFile (x : FileD) : Nat := wtPages x.fPages
def wtFiles (X : List FileD) : Nat := wtAll wtFile X
theorem wt_file_at (X : List FileD) (t : Nat) (ht : t < X.length) : wtFile X[t] ≤ wtFiles X := wtAll_at wtFile X t ht
theorem wt_file_len (X : List FileD) : X.length ≤ wtFiles X := wtAll_len wtFile X
theorem fileInfo : (Tryz.prog.info? 58).map (fun i => (i.zero, i.size, i.bytes)) = some (some (.agg #[.int .i64 0, .slice none 0 0, .int .i64 0, .bool false]), 4, 48) := by kernel_rfl
end Go.Proofs.YtjdjceohlcimaaaGreatDoor
/- Disk: the datum, its shape, the laws' marks over it, its weight; no function of program or reference is walked here. -/
namespace Go.Proofs.YtjdjceohlcimaaaGreatDoor
open Go.RowKit
set_option linter.unusedVariables false
structure DiskD where
  fFiles : List FileD
  fNextName : Int
deriving DecidableEq
def diskRep : Rep DiskD := viaRep (fun x => (x.fFiles, x.fNextName, ())) (seqAnd fileRep (intAnd endRep))
def diskMk : Mk DiskD := ⟨fun q x => ⟨filesMk.mark (q) x.fFiles, q + (filesMk.cnt x.fFiles : Nat)⟩, fun x => filesMk.cnt x.fFiles + 1, fun q x => by simp [Mk.cnt_mark]⟩
def disksMk : Mk (List DiskD) := seqMk diskMk
def diskMkV : Mk DiskD := ⟨fun q x => ⟨filesMk.mark (q) x.fFiles, x.fNextName⟩, fun x => filesMk.cnt x.fFiles, fun q x => by simp [Mk.cnt_mark]⟩
def wtDisk (x : DiskD) : Nat := wtFiles x.fFiles
def wtDisks (X : List DiskD) : Nat := wtAll wtDisk X
end Go.Proofs.YtjdjceohlcimaaaGreatDoor
/- States told by trees: the trees of the types; no function of program or reference is walked here. -/
namespace Go.Proofs.YtjdjceohlcimaaaGreatDoor
open Go Go.RowKit V
set_option linter.unusedVariables false
def tRow (x : R) : List T := [.lit (.int .i64 x.key), .lit (.int .i64 x.value), .lit (.int .i64 x.width)]
def uRow (x : R) : List T := [.lit (.int .i64 x.key), .lit (.int .i64 x.value), .lit (.int .i64 x.width)]
def zRow : List T := [.lit (.int .i64 0), .lit (.int .i64 0), .lit (.int .i64 0)]
theorem flat_impl_Row (X : List R) : Flat (X.map tRow) := flat_of (fun _ => rfl) X
def tPage (x : List R) : List T := [.seq 72 (x.map tRow)]
def zPage : List T := [.seq 72 []]
def tFile (x : FileD) : List T := [.lit (.int .i64 x.fName), .seq 29 (x.fPages.map tPage), .lit (.int .i64 x.fChecksum), .lit (.bool x.fSealed)]
def zFile : List T := [.lit (.int .i64 0), .seq 29 [], .lit (.int .i64 0), .lit (.bool false)]
def tDisk (x : DiskD) : List T := [.seq 58 (x.fFiles.map tFile), .lit (.int .i64 x.fNextName)]
def zDisk : List T := [.seq 58 [], .lit (.int .i64 0)]
end Go.Proofs.YtjdjceohlcimaaaGreatDoor
/- Small lemmas about rows of bytes that a call made itself: what is appended, what string(b) reads; no function of the program is walked here. -/
namespace Go.Proofs.YtjdjceohlcimaaaGreatDoor
open Go.RowKit
def b8 (l : List UInt8) : List Value := l.map fun b => Value.int .u8 (b.toNat : Int)
theorem b8_length (l : List UInt8) : (b8 l).length = l.length := by simp [b8]
theorem b8_snoc (l : List UInt8) (b : UInt8) (n : Int) (h : n = (b.toNat : Int)) : b8 l ++ [Value.int .u8 n] = b8 (l ++ [b]) := by subst h; simp [b8]
theorem b8_get (l : List UInt8) (j : Nat) (hj : j < l.length) : (b8 l)[j]? = some (Value.int .u8 (l[j].toNat : Int)) := by simp [b8, hj]
theorem byte_info : (Tryz.prog.info? 5).map (fun i => (i.zero, i.size, i.bytes)) = some (some (.int .u8 0), 1, 1) := by kernel_rfl
theorem run_own_string {w : World} {base : Nat} {v : Value} {n : Nat} {l : List UInt8} (h : w.ownsRow base 5 1 v n (b8 l)) :
    (convert 22 9 v).run Tryz.prog w = .ok (.string ⟨l.toArray⟩) w := by
  have hn : l.length = n := by have := h.1; rw [b8_length] at this; omega
  rcases h.2 with ⟨rfl, h0⟩ | ⟨g, cap, cur, rfl, _, _, _, _, _, _⟩
  · subst h0
    have hl : l = [] := List.eq_nil_of_length_eq_zero hn
    subst hl
    rw [run_convert_bytes_string w _ _ _ none 0 0 Tryz.underlying22 Tryz.underlying5 Tryz.underlying9]
    rfl
  · have := hn
    subst this
    exact run_convert_bytes_back w _ _ _ ⟨g, 0, none⟩ cap l Tryz.underlying22 Tryz.underlying5 Tryz.underlying9 fun j hj => h.cells (g := g) rfl j _ (b8_get l j hj)
theorem cell_new1 (w : World) (u : Value) (t : TypeId) : ∀ (j : Nat) (x : Value), [u][j]? = some x → (w.alloc (.cells #[u] t)).cell? ((⟨w.heap.size, 0, none⟩ : Addr).add j) = some x := by
  intro j x hj
  match j, hj with
  | 0, hj => simp at hj; subst hj; simp [Addr.add]
theorem one_string (wr : World) (x : Int) (b : UInt8) (hx : x = (b.toNat : Int)) :
    (convert 22 9 (.slice (some ⟨wr.heap.size, 0, none⟩) 1 1)).run Tryz.prog (wr.alloc (.cells #[.int .u8 x] 5)) = .ok (.string ⟨[b].toArray⟩) (wr.alloc (.cells #[.int .u8 x] 5)) := by
  subst hx
  exact run_convert_bytes_back _ _ _ _ ⟨wr.heap.size, 0, none⟩ 1 [b] Tryz.underlying22 Tryz.underlying5 Tryz.underlying9 fun j hj => cell_new1 wr _ _ j _ (by simp at hj; subst hj; rfl)
end Go.Proofs.YtjdjceohlcimaaaGreatDoor
/- What '&', '|' and '<<' of the program's integers are on numbers that are not below zero; no function of the program. -/
namespace Go.Proofs.YtjdjceohlcimaaaGreatDoor
open Go.RowKit
theorem toNat_bv (a : Nat) (ha : a < 9223372036854775808) : (BitVec.ofInt 64 (a : Int)).toNat = a := by
  rw [BitVec.ofInt_natCast, BitVec.toNat_ofNat]; omega
theorem and64 (a b : Nat) (ha : a < 9223372036854775808) (hb : b < 9223372036854775808) : bits .and .i64 (a : Int) (b : Int) = ((a &&& b : Nat) : Int) := by
  have hx : a &&& b < 2 ^ 63 := Nat.and_lt_two_pow _ (by omega)
  show IntKind.i64.wrap ((BitVec.ofInt 64 (a : Int) &&& BitVec.ofInt 64 (b : Int)).toNat : Int) = _
  rw [BitVec.toNat_and, toNat_bv a ha, toNat_bv b hb, IntKind.wrap_i64]; omega
end Go.Proofs.YtjdjceohlcimaaaGreatDoor
/- The reader of the drawn code (l1New, l1Byte, l1Below): what it answers and what it leaves alone. -/
namespace Go.Proofs.YtjdjceohlcimaaaGreatDoor
open Go.RowKit
def IsRow (k : IntKind) (w : World) (a : Option Addr) (len cap : Nat) (zs : List Int) : Prop :=
  (a = none ∧ len = 0 ∧ cap = 0 ∧ zs = []) ∨
  ∃ x, a = some x ∧ len ≤ cap ∧ cap ≤ maxLen ∧ zs.length = cap ∧ (∀ i, i < zs.length → w.cell? (x.add i) = some (.int k (zs.getD i 0))) ∧ ∀ n ∈ zs, (Lit.int k n).wf = true
structure Cur (a : Option Addr) (len cap : Nat) (zs : List Int) (σ : Int × Int) (w : World) (c : Nat) : Prop where
  row : IsRow .u8 w a len cap zs
  apart : ∀ x, a = some x → 0 < cap → x.block ≠ c
  low : 0 ≤ σ.1
  high : σ.1 ≤ len
  cell : w.heap[c]? = some (.cells #[.slice a len cap, .int .i64 σ.1, .int .i64 σ.2] 75 (0, 0))
theorem IsRow.keep {k : IntKind} {w w' : World} {a : Option Addr} {len cap : Nat} {zs : List Int} (h : IsRow k w a len cap zs) (hk : ∀ x, a = some x → 0 < cap → x.block < w.heap.size → w'.heap[x.block]? = w.heap[x.block]?) : IsRow k w' a len cap zs := by
  rcases h with h | ⟨x, rfl, h1, h2, h3, h4, h5⟩
  · exact .inl h
  · refine .inr ⟨x, rfl, h1, h2, h3, fun i hi => ?_, h5⟩
    have hc := h4 i hi
    have hb : (x.add i).block = x.block := by by_cases h0 : i = 0 <;> simp [Addr.add, h0]
    rw [← hc]
    have hlt : x.block < w.heap.size := by rw [← hb]; exact World.block_lt_of_cell? w _ hc
    exact World.cell?_of_block (by rw [hb]; exact hk x rfl (by omega) hlt)
theorem Cur.lt {a : Option Addr} {len cap : Nat} {zs : List Int} {σ : Int × Int} {w : World} {c : Nat} (h : Cur a len cap zs σ w c) : c < w.heap.size := by
  have hb := h.cell
  rcases Nat.lt_or_ge c w.heap.size with hlt | hge
  · exact hlt
  · rw [Array.getElem?_eq_none hge] at hb; cases hb
theorem Cur.below {a : Option Addr} {len cap : Nat} {zs : List Int} {σ : Int × Int} {w w' : World} {c B : Nat} (h : Cur a len cap zs σ w c) (hb : Below B w w') (hc : c < B) (ha : ∀ x, a = some x → 0 < cap → x.block < B) : Cur a len cap zs σ w' c :=
  ⟨h.row.keep fun x hx hp _ => hb.block x.block (ha x hx hp), h.apart, h.low, h.high, (hb.block c hc).trans h.cell⟩
theorem Cur.same {a : Option Addr} {len cap : Nat} {zs : List Int} {σ : Int × Int} {w w' : World} {c : Nat} (h : Cur a len cap zs σ w c) (hh : w'.heap = w.heap) : Cur a len cap zs σ w' c :=
  ⟨h.row.keep fun x _ _ _ => by rw [hh], h.apart, h.low, h.high, by rw [hh]; exact h.cell⟩
theorem Cur.alloc {a : Option Addr} {len cap : Nat} {zs : List Int} {σ : Int × Int} {w : World} {c : Nat} (h : Cur a len cap zs σ w c) (o : Obj) : Cur a len cap zs σ (w.alloc o) c :=
  ⟨h.row.keep fun x _ _ hlt => Below.heap_alloc w o x.block hlt, h.apart, h.low, h.high, (Below.heap_alloc w o c h.lt).trans h.cell⟩
theorem Cur.only {a : Option Addr} {len cap : Nat} {zs : List Int} {σ : Int × Int} {w w' : World} {c : Nat} (h : Cur a len cap zs σ w c) (ho : Only c w w') (τ : Int × Int) (h1 : 0 ≤ τ.1) (h2 : τ.1 ≤ len)
    (hb : w'.heap[c]? = some (.cells #[.slice a len cap, .int .i64 τ.1, .int .i64 τ.2] 75 (0, 0))) : Cur a len cap zs τ w' c :=
  ⟨h.row.keep fun x hx hp hlt => ho.block x.block hlt (fun e => h.apart x hx hp (by injection e)), h.apart, h1, h2, hb⟩
theorem and255 (y : Int) : 0 ≤ bits .and .i64 y 255 ∧ bits .and .i64 y 255 ≤ 255 := by
  show 0 ≤ IntKind.i64.wrap ((BitVec.ofInt 64 y &&& BitVec.ofInt 64 255).toNat : Int) ∧ IntKind.i64.wrap ((BitVec.ofInt 64 y &&& BitVec.ofInt 64 255).toNat : Int) ≤ 255
  have h : (BitVec.ofInt 64 y &&& BitVec.ofInt 64 255).toNat ≤ 255 := by
    rw [BitVec.toNat_and]
    exact Nat.le_trans Nat.and_le_right (by decide)
  rw [IntKind.wrap_i64]
  omega
end Go.Proofs.YtjdjceohlcimaaaGreatDoor
/- l1Byte: a number from 0 to 255; the cursor is moved on; nothing else changes. -/
namespace Go.Proofs.YtjdjceohlcimaaaGreatDoor
open Go.RowKit
def nextH (h : Int) : Int := wrap64 (wrap64 (h * 6364136223846793005) + 1442695040888963407)
def mixed (q : Int) : Int := bits BinOp.and IntKind.i64 (bits BinOp.xor IntKind.i64 (q / 8589934592) (q / 35184372088832)) 255
def byteS (zs : List Int) (len : Nat) (σ : Int × Int) : Int × (Int × Int) :=
  if σ.1 < len then (bits BinOp.and IntKind.i64 (wrap64 (mixed (nextH σ.2) + zs.getD σ.1.toNat 0)) 255, (σ.1 + 1, nextH σ.2)) else (mixed (nextH σ.2), (σ.1, nextH σ.2))
theorem byteS_range {zs : List Int} {len : Nat} {σ τ : Int × Int} {x : Int} (h : byteS zs len σ = (x, τ)) : 0 ≤ x ∧ x ≤ 255 := by
  have hx : x = (byteS zs len σ).1 := by rw [h]
  rw [hx]; unfold byteS mixed
  split <;> exact and255 _
def Drawn (F : Int × Int → Int × (Int × Int)) (a : Option Addr) (len cap : Nat) (zs : List Int) (σ : Int × Int) (c : Nat) (w : World) (e : Ending) (w' : World) : Prop :=
  ∃ (x : Int) (τ : Int × Int), F σ = (x, τ) ∧ e = .returned (.int .i64 x) ∧ Cur a len cap zs τ w' c ∧ Only c w w'
set_option maxRecDepth 100000 in
theorem byte_end (a : Option Addr) (len cap : Nat) (zs : List Int) (c : Nat) (w : World) (i h : Int) (hc : Cur a len cap zs (i, h) w c) (hi0 : 0 ≤ i) (hlast : ¬ i < len) (hil : i ≤ len)
    (hb : w.heap[c]? = some (.cells #[.slice a len cap, .int .i64 i, .int .i64 h] 75 (0, 0))) :
    Calls Tryz.prog 55 #[.pointer (some ⟨c, 0, none⟩)] w (Drawn (byteS zs len) a len cap zs (i, h) c w) := by
  have c0 : w.cell? ⟨c, 0, none⟩ = some (.slice a len cap) := by simp [World.cell?, hb]
  have c1 : w.cell? ⟨c, 1, none⟩ = some (.int .i64 i) := by simp [World.cell?, hb]
  have c2 : w.cell? ⟨c, 2, none⟩ = some (.int .i64 h) := by simp [World.cell?, hb]
  have f2 : w.frozen? ⟨c, 2, none⟩ = false := by simp [World.frozen?, hb]
  have HB := Lib.hid hb
  have HC := Lib.hid hc
  clear hb hc
  go_enter Tryz.func55, Tryz.ntmps55
  go_wp2_with fail
  obtain ⟨q, hq⟩ : ∃ q, q = wrap64 (wrap64 (h * 6364136223846793005) + 1442695040888963407) := ⟨_, rfl⟩
  rw [← hq]
  have HQ : Hid (q = nextH h) := hq
  clear hq
  go_quiet (fail)
  go_wp2_with fail
  go_quiet (fail)
  go_wp2_with fail
  go_ret
  have ho : Only c w ((w.setCell ⟨c, 2, none⟩ (.int .i64 q)).drewN 0) := ((Only.refl c w).setCell 2 _).drewN _
  have hheap := heap_setCell_same w c 2 _ _ (.int .i64 q) HB.out
  refine ⟨_, (i, q), ?_, rfl, HC.out.only ?_ (i, q) hi0 hil ?_, ?_⟩
  · unfold byteS
    rw [if_neg (by exact Int.not_lt.2 hlast), HQ.out]
    rfl
  · exact ⟨ho.os, ho.tape, ho.output, ho.size, ho.block⟩
  · exact hheap.trans (by simp)
  · exact ⟨ho.os, ho.tape, ho.output, ho.size, ho.block⟩
set_option maxRecDepth 100000 in
theorem byte_more (b off : Nat) (len cap : Nat) (zs : List Int) (c : Nat) (w : World) (t : Nat) (h : Int) (hc : Cur (some ⟨b, off, none⟩) len cap zs ((t : Int), h) w c) (hlt : t < len) (hl63 : len ≤ 9223372036854775807) (z : Int) (hzz : z = zs.getD t 0) (hz0 : 0 ≤ z) (hz1 : z ≤ 255)
    (hcell : w.cell? ⟨b, off + t, none⟩ = some (.int .u8 z)) (hbc : ¬ b = c)
    (hb : w.heap[c]? = some (.cells #[.slice (some ⟨b, off, none⟩) len cap, .int .i64 (t : Int), .int .i64 h] 75 (0, 0))) :
    Calls Tryz.prog 55 #[.pointer (some ⟨c, 0, none⟩)] w (Drawn (byteS zs len) (some ⟨b, off, none⟩) len cap zs ((t : Int), h) c w) := by
  have HZ := Lib.hid hzz
  clear hzz
  have c0 : w.cell? ⟨c, 0, none⟩ = some (.slice (some ⟨b, off, none⟩) len cap) := by simp [World.cell?, hb]
  have c1 : w.cell? ⟨c, 1, none⟩ = some (.int .i64 (t : Int)) := by simp [World.cell?, hb]
  have c2 : w.cell? ⟨c, 2, none⟩ = some (.int .i64 h) := by simp [World.cell?, hb]
  have f2 : w.frozen? ⟨c, 2, none⟩ = false := by simp [World.frozen?, hb]
  have f1 : w.frozen? ⟨c, 1, none⟩ = false := by simp [World.frozen?, hb]
  have hti : (t : Int) < len := by omega
  have ht0 : (0 : Int) ≤ t := by omega
  have HB := Lib.hid hb
  have HC := Lib.hid hc
  clear hb hc
  go_enter Tryz.func55, Tryz.ntmps55
  go_wp2_with fail
  obtain ⟨q, hq⟩ : ∃ q, q = wrap64 (wrap64 (h * 6364136223846793005) + 1442695040888963407) := ⟨_, rfl⟩
  rw [← hq]
  have HQ : Hid (q = nextH h) := hq
  clear hq
  go_quiet (fail)
  go_wp2_with fail
  obtain ⟨y, hy⟩ : ∃ y, y = bits BinOp.and IntKind.i64 (bits BinOp.xor IntKind.i64 (q / 8589934592) (q / 35184372088832)) 255 := ⟨_, rfl⟩
  rw [← hy]
  have HY : Hid (y = mixed q) := hy
  clear hy
  go_quiet (fail)
  go_wp2_with fail
  go_quiet (fail)
  go_wp2_with fail
  go_ret
  have hheap := heap_setCell_same w c 2 _ _ (.int .i64 q) HB.out
  refine ⟨_, ((t : Int) + 1, q), ?_, rfl, ?_, (((Only.refl c w).setCell 2 _).drewN _).setCell 1 _⟩
  · unfold byteS
    rw [if_pos hti, ← HQ.out, ← HY.out, Int.toNat_natCast, ← HZ.out]
  refine HC.out.only ((((Only.refl c w).setCell 2 _).drewN _).setCell 1 _) ((t : Int) + 1, q) (by show 0 ≤ (t : Int) + 1; omega) (by show (t : Int) + 1 ≤ len; omega) ?_
  exact (heap_setCell_same _ c 1 _ _ (.int .i64 ((t : Int) + 1)) (by simpa using hheap)).trans (by simp)
theorem byte_any (a : Option Addr) (len cap : Nat) (zs : List Int) (σ : Int × Int) (c : Nat) (w : World) (hc : Cur a len cap zs σ w c) :
    Calls Tryz.prog 55 #[.pointer (some ⟨c, 0, none⟩)] w (Drawn (byteS zs len) a len cap zs σ c w) := by
  obtain ⟨i, h⟩ := σ
  have hi0 : 0 ≤ i := hc.low
  have hil : i ≤ len := hc.high
  have hb := hc.cell
  by_cases hlt : i < len
  · rcases hc.row with ⟨rfl, rfl, rfl, rfl⟩ | ⟨x, rfl, hlc, hm, hz, hcell, hwz⟩
    · omega
    · obtain ⟨t, rfl⟩ : ∃ t : Nat, i = (t : Int) := ⟨i.toNat, by omega⟩
      have hct := hcell t (by omega)
      obtain ⟨b, off, spot⟩ := x
      have hspot : spot = none := by simpa [Addr.add] using World.cell?_spot (hcell 0 (by omega))
      subst hspot
      have hct' : w.cell? ⟨b, off + t, none⟩ = some (.int .u8 (zs.getD t 0)) := by
        by_cases h0 : t = 0
        · subst h0; simpa [Addr.add] using hct
        · simpa [Addr.add, h0] using hct
      have hbd := bounds_u8 (hwz (zs.getD t 0) (by
        rw [List.getD_eq_getElem?_getD, List.getElem?_eq_getElem (by omega)]
        exact List.getElem_mem _))
      unfold maxLen at hm
      exact byte_more b off len cap zs c w t h hc (by omega) (by omega) _ rfl hbd.1 hbd.2 hct' (hc.apart _ rfl (by omega)) hb
  · exact byte_end a len cap zs c w i h hc hi0 hlt hil hb
end Go.Proofs.YtjdjceohlcimaaaGreatDoor
/- l1Below, l1Once, l1New: numbers below a bound; a new cursor over the code that came in. -/
namespace Go.Proofs.YtjdjceohlcimaaaGreatDoor
open Go.RowKit
theorem emod_small (x n : Int) (hn : 0 < n) : 0 ≤ x % n ∧ x % n < n := ⟨Int.emod_nonneg _ (by omega), Int.emod_lt_of_pos _ hn⟩
def belowS (zs : List Int) (len : Nat) (n : Int) (σ : Int × Int) : Int × (Int × Int) :=
  if n ≤ 256 then ((byteS zs len σ).1 % n, (byteS zs len σ).2)
  else
    (((byteS zs len σ).1 * 16777216 + (byteS zs len (byteS zs len σ).2).1 * 65536 + (byteS zs len (byteS zs len (byteS zs len σ).2).2).1 * 256 + (byteS zs len (byteS zs len (byteS zs len (byteS zs len σ).2).2).2).1) % n,
      (byteS zs len (byteS zs len (byteS zs len (byteS zs len σ).2).2).2).2)
theorem belowS_range {zs : List Int} {len : Nat} {n : Int} {σ τ : Int × Int} {x : Int} (hn : 1 ≤ n) (h : belowS zs len n σ = (x, τ)) : 0 ≤ x ∧ x < n := by
  have hx : x = (belowS zs len n σ).1 := by rw [h]
  rw [hx]; unfold belowS
  split <;> exact emod_small _ n (by omega)
set_option maxRecDepth 100000 in
theorem below_small (a : Option Addr) (len cap : Nat) (zs : List Int) (σ : Int × Int) (c : Nat) (w : World) (hc : Cur a len cap zs σ w c) (n : Int) (h1 : 1 ≤ n) (h2 : n ≤ 256) :
    Calls Tryz.prog 27 #[.pointer (some ⟨c, 0, none⟩), .int .i64 n] w (Drawn (belowS zs len n) a len cap zs σ c w) := by
  have HC := Lib.hid hc
  clear hc
  go_enter Tryz.func27, Tryz.ntmps27
  go_wp2_with fail
  refine (byte_any a len cap zs _ c _ HC.out).mono ?_
  rintro e w1 ⟨x, τ, hx, rfl, hc1, ho1⟩
  obtain ⟨hx0, hx1⟩ := byteS_range hx
  have H1 := Lib.hid hc1
  have HO := Lib.hid ho1
  have HX := Lib.hid hx
  clear hc1 ho1 hx
  go_wp2_with fail
  go_ret
  exact ⟨_, τ, by unfold belowS; rw [if_pos h2, HX.out], rfl, H1.out, HO.out⟩
set_option maxRecDepth 100000 in
theorem below_big (a : Option Addr) (len cap : Nat) (zs : List Int) (σ : Int × Int) (c : Nat) (w : World) (hc : Cur a len cap zs σ w c) (n : Int) (h1 : 256 < n) (h2 : n ≤ 1000000000) :
    Calls Tryz.prog 27 #[.pointer (some ⟨c, 0, none⟩), .int .i64 n] w (Drawn (belowS zs len n) a len cap zs σ c w) := by
  have HC := Lib.hid hc
  clear hc
  go_enter Tryz.func27, Tryz.ntmps27
  go_wp2_with fail
  refine (byte_any a len cap zs _ c _ HC.out).mono ?_
  rintro e w1 ⟨x1, τ1, hf1, rfl, hc1, ho1⟩
  obtain ⟨hx0, hx1⟩ := byteS_range hf1
  have F1 := Lib.hid hf1
  clear hf1
  have H1 := Lib.hid hc1
  have O1 := Lib.hid ho1
  clear hc1 ho1
  go_wp2_with fail
  refine (byte_any a len cap zs _ c _ H1.out).mono ?_
  rintro e w2 ⟨x2, τ2, hf2, rfl, hc2, ho2⟩
  obtain ⟨hy0, hy1⟩ := byteS_range hf2
  have F2 := Lib.hid hf2
  clear hf2
  have H2 := Lib.hid hc2
  have O2 := Lib.hid (O1.out.trans ho2)
  clear hc2 ho2
  go_wp2_with fail
  refine (byte_any a len cap zs _ c _ H2.out).mono ?_
  rintro e w3 ⟨x3, τ3, hf3, rfl, hc3, ho3⟩
  obtain ⟨hz0, hz1⟩ := byteS_range hf3
  have F3 := Lib.hid hf3
  clear hf3
  have H3 := Lib.hid hc3
  have O3 := Lib.hid (O2.out.trans ho3)
  clear hc3 ho3
  go_wp2_with fail
  refine (byte_any a len cap zs _ c _ H3.out).mono ?_
  rintro e w4 ⟨x4, τ4, hf4, rfl, hc4, ho4⟩
  obtain ⟨hv0, hv1⟩ := byteS_range hf4
  have F4 := Lib.hid hf4
  clear hf4
  have H4 := Lib.hid hc4
  have O4 := Lib.hid (O3.out.trans ho4)
  clear hc4 ho4
  go_wp2_with fail
  go_ret
  exact ⟨_, τ4, by unfold belowS; rw [if_neg (by omega), F1.out]; simp only []; rw [F2.out]; simp only []; rw [F3.out]; simp only []; rw [F4.out], rfl, H4.out, O4.out⟩
theorem below_any (a : Option Addr) (len cap : Nat) (zs : List Int) (σ : Int × Int) (c : Nat) (w : World) (hc : Cur a len cap zs σ w c) (n : Int) (h1 : 1 ≤ n) (h2 : n ≤ 1000000000) :
    Calls Tryz.prog 27 #[.pointer (some ⟨c, 0, none⟩), .int .i64 n] w (Drawn (belowS zs len n) a len cap zs σ c w) := by
  by_cases h : n ≤ 256
  · exact below_small a len cap zs σ c w hc n h1 h
  · exact below_big a len cap zs σ c w hc n (by omega) h2
theorem once_any (a : Option Addr) (len cap : Nat) (zs : List Int) (σ : Int × Int) (c : Nat) (w : World) (hc : Cur a len cap zs σ w c) (n : Int) (h1 : 1 ≤ n) (h2 : n ≤ 1000000000) :
    Calls Tryz.prog 42 #[.pointer (some ⟨c, 0, none⟩), .int .i64 n] w fun e w' => ∃ (x : Int) (τ : Int × Int), belowS zs len n σ = (x, τ) ∧ e = .returned (.bool (x == 0)) ∧ Cur a len cap zs τ w' c ∧ Only c w w' := by
  have HC := Lib.hid hc
  clear hc
  go_enter Tryz.func42, Tryz.ntmps42
  go_wp2_with fail
  refine (below_any a len cap zs _ c _ HC.out n h1 h2).mono ?_
  rintro e w1 ⟨x, τ, hx, rfl, hc1, ho1⟩
  have H1 := Lib.hid hc1
  have O1 := Lib.hid ho1
  have HX := Lib.hid hx
  clear hc1 ho1 hx
  go_wp2_with fail
  go_ret
  exact ⟨x, τ, HX.out, rfl, H1.out, O1.out⟩
end Go.Proofs.YtjdjceohlcimaaaGreatDoor
/- l1New: a new cursor over the code that came in. -/
namespace Go.Proofs.YtjdjceohlcimaaaGreatDoor
open Go.RowKit
theorem low30 (m : Int) (h0 : 0 ≤ m) (h1 : m < 9223372036854775808) : bits .and .i64 m 1073741823 = m % 1073741824 := by
  obtain ⟨n, rfl⟩ : ∃ n : Nat, m = (n : Int) := ⟨m.toNat, by omega⟩
  have := and64 n 1073741823 (by omega) (by omega)
  rw [show ((1073741823 : Nat) : Int) = 1073741823 from rfl] at this
  rw [this, show (1073741823 : Nat) = 2 ^ 30 - 1 from rfl, Nat.and_two_pow_sub_one_eq_mod]
  omega
def mixH (zs : List Int) (len : Nat) : Nat → Int
  | 0 => 10101 + len
  | t + 1 => (mixH zs len t * 131 + zs.getD t 0 + 7) % 1073741824
def newH (zs : List Int) (len : Nat) : Int := mixH zs len (min len 4000)
def Fresh (a : Option Addr) (len cap : Nat) (zs : List Int) (w : World) (e : Ending) (w' : World) : Prop :=
  ∃ c : Nat, e = .returned (.pointer (some ⟨c, 0, none⟩)) ∧ Cur a len cap zs (0, newH zs len) w' c ∧ w.heap.size ≤ c ∧ Below w.heap.size w w'
theorem IsRow.cells {w : World} {a : Option Addr} {len cap : Nat} {zs : List Int} (h : IsRow .u8 w a len cap zs) : len = 0 ∨ ∃ b off : Nat, a = some ⟨b, off, none⟩ ∧ ∀ t, t < len → w.cell? ⟨b, off + t, none⟩ = some (.int .u8 (zs.getD t 0)) ∧ 0 ≤ zs.getD t 0 ∧ zs.getD t 0 ≤ 255 := by
  by_cases h0 : len = 0
  · exact .inl h0
  · rcases h with ⟨_, hl, _, _⟩ | ⟨x, rfl, hlc, hm, hz, hcell, hwz⟩
    · exact absurd hl h0
    · obtain ⟨b, off, spot⟩ := x
      have hspot : spot = none := by simpa [Addr.add] using World.cell?_spot (hcell 0 (by omega))
      subst hspot
      refine .inr ⟨b, off, rfl, fun t ht => ?_⟩
      have hct := hcell t (by omega)
      have hbd := bounds_u8 (hwz (zs.getD t 0) (by
        rw [List.getD_eq_getElem?_getD, List.getElem?_eq_getElem (by omega)]
        exact List.getElem_mem _))
      refine ⟨?_, hbd⟩
      by_cases h1 : t = 0
      · subst h1; simpa [Addr.add] using hct
      · simpa [Addr.add, h1] using hct
theorem IsRow.lt {w : World} {a : Option Addr} {len cap : Nat} {zs : List Int} (h : IsRow .u8 w a len cap zs) (hp : 0 < len) : ∀ x, a = some x → x.block < w.heap.size := by
  intro x hx
  rcases h with ⟨_, hl, _, _⟩ | ⟨y, rfl, hlc, hm, hz, hcell, hwz⟩
  · omega
  · obtain rfl := Option.some.inj hx
    have := World.block_lt_of_cell? w _ (hcell 0 (by omega))
    simpa [Addr.add] using this
theorem fresh_of {a : Option Addr} {len cap : Nat} {zs : List Int} {w : World} (hr : IsRow .u8 w a len cap zs) (ha : ∀ x, a = some x → 0 < cap → x.block < w.heap.size) (q : Int) (hq : q = newH zs len) :
    Fresh a len cap zs w (.returned (.pointer (some ⟨w.heap.size, 0, none⟩))) (w.alloc (.cells #[.slice a len cap, .int .i64 0, .int .i64 q] 75)) := by
  have hb : Below w.heap.size w (w.alloc (.cells #[.slice a len cap, .int .i64 0, .int .i64 q] 75)) := (Below.refl _ _).alloc (Nat.le_refl _) _
  exact ⟨w.heap.size, rfl, ⟨hr.keep fun x hx hp _ => hb.block x.block (ha x hx hp), fun x hx hp e => absurd (ha x hx hp) (by rw [e]; exact Nat.lt_irrefl _), Int.le_refl 0, by show (0 : Int) ≤ len; omega, by rw [← hq]; exact heap_alloc_new w _⟩, Nat.le_refl _, hb⟩
set_option maxRecDepth 100000 in
theorem new_any (a : Option Addr) (len cap : Nat) (zs : List Int) (w : World) (hr : IsRow .u8 w a len cap zs) (hl : len ≤ 1048576) (halt : ∀ x, a = some x → 0 < cap → x.block < w.heap.size) :
    Calls Tryz.prog 25 #[.slice a len cap] w (Fresh a len cap zs w) := by
  have HR := Lib.hid hr
  have HA := Lib.hid halt
  have hcs := Lib.hid hr.cells
  clear hr halt
  go_enter Tryz.func25, Tryz.ntmps25
  go_wp2_with fail
  go_loop [3, 4] (fun h i => ∃ (q : Int) (t : Nat), h = .int .i64 q ∧ i = .int .i64 t ∧ 0 ≤ q ∧ q < 2147483648 ∧ t ≤ len ∧ t ≤ 4000 ∧ Hid (q = mixH zs len t)) (fun _ i => len - (intOf i).toNat)
  case atStart => exact ⟨_, 0, rfl, rfl, by omega, by omega, by omega, by omega, rfl⟩
  case round =>
    obtain ⟨q, t, rfl, rfl, hq0, hq1, ht, ht4, hQ⟩ := hrel
    by_cases hlt : t < len
    · by_cases h4 : (t : Int) < 4000
      · rcases hcs.out with h0 | ⟨b, off, ha, hcell⟩
        · exfalso; omega
        · obtain ⟨hct, hz0, hz1⟩ := hcell t hlt
          clear hcell
          obtain ⟨z, hz⟩ : ∃ z, z = zs.getD t 0 := ⟨_, rfl⟩
          rw [← hz] at hct hz0 hz1
          have HZ := Lib.hid hz
          clear hz
          subst ha
          have hm := low30 (q * 131 + z + 7) (by omega) (by omega)
          go_wp2_with fail
          go_round
          case rel => exact ⟨_, t + 1, rfl, by go_num, by omega, by omega, by omega, by omega, by show _ = _; rw [mixH, ← hQ.out, ← HZ.out]⟩
          case measure => simp [intOf]; omega
      · have h4' : decide ((t : Int) < 4000) = false := by simpa using h4
        go_wp2_with fail
        go_ret
        exact fresh_of HR.out HA.out q (by unfold newH; rw [show min len 4000 = t by omega]; exact hQ.out)
    · go_wp2_with fail
      go_ret
      exact fresh_of HR.out HA.out q (by unfold newH; rw [show min len 4000 = t by omega]; exact hQ.out)
end Go.Proofs.YtjdjceohlcimaaaGreatDoor
/- l1PickInt: one of a row of integers, as a function of the cursor's state. -/
namespace Go.Proofs.YtjdjceohlcimaaaGreatDoor
open Go.RowKit
theorem belowS_fst (zs : List Int) (len : Nat) (n : Int) (σ : Int × Int) (hn : 1 ≤ n) : 0 ≤ (belowS zs len n σ).1 ∧ (belowS zs len n σ).1 < n :=
  belowS_range (x := (belowS zs len n σ).1) (τ := (belowS zs len n σ).2) hn rfl
def AnInt (x : Int) : Prop := (Lit.int .i64 x).wf = true
def Ints (w : World) (g : Nat) (L : List Int) : Prop := ∀ t, t < L.length → w.cell? ⟨g, t, none⟩ = some (.int .i64 (L.getD t 0))
def pickS (zs : List Int) (len : Nat) (L : List Int) (σ : Int × Int) : Int × (Int × Int) := (L.getD (belowS zs len (L.length : Nat) σ).1.toNat 0, (belowS zs len (L.length : Nat) σ).2)
set_option maxRecDepth 100000 in
theorem pick_any (a : Option Addr) (len cap : Nat) (zs : List Int) (σ : Int × Int) (c : Nat) (w : World) (hc : Cur a len cap zs σ w c) (g n m : Nat) (L : List Int) (hg : Ints w g L) (hgc : ¬ g = c) (hn : n = L.length) (h1 : 1 ≤ n) (h2 : n ≤ 1000000000) :
    Calls Tryz.prog 71 #[.pointer (some ⟨c, 0, none⟩), .slice (some ⟨g, 0, none⟩) n m] w (Drawn (pickS zs len L) a len cap zs σ c w) := by
  have HC := Lib.hid hc
  have HG := Lib.hid hg
  have HN := Lib.hid hn
  clear hc hg hn
  go_enter Tryz.func71, Tryz.ntmps71
  go_wp2_with fail
  refine (below_any a len cap zs _ c _ HC.out (n : Int) (by omega) (by omega)).mono ?_
  rintro e w1 ⟨x, τ, hf1, rfl, hc1, ho1⟩
  obtain ⟨hx0, hx1⟩ := belowS_range (by omega) hf1
  have F1 := Lib.hid hf1
  clear hf1
  obtain ⟨t, rfl⟩ : ∃ t : Nat, x = (t : Int) := ⟨x.toNat, by omega⟩
  have htn : t < n := by omega
  have hcell := HG.out t (by have := HN.out; omega)
  have hlt : g < w.heap.size := World.block_lt_of_cell? w _ hcell
  have hcell1 : w1.cell? ⟨g, t, none⟩ = some (.int .i64 (L.getD t 0)) := (World.cell?_of_block (ho1.block g hlt (fun e => hgc (by injection e)))).trans hcell
  clear hcell
  obtain ⟨z, hz⟩ : ∃ z, z = L.getD t 0 := ⟨_, rfl⟩
  rw [← hz] at hcell1
  have HZ := Lib.hid hz
  clear hz
  have H1 := Lib.hid hc1
  have O1 := Lib.hid ho1
  clear hc1 ho1
  go_wp2_with fail
  go_ret
  refine ⟨_, τ, ?_, rfl, H1.out, O1.out⟩
  unfold pickS
  have hn := HN.out
  rw [← hn, F1.out, HZ.out, Int.toNat_natCast]
end Go.Proofs.YtjdjceohlcimaaaGreatDoor
/- The code that a law draws from, as the walks take it. -/
namespace Go.Proofs.YtjdjceohlcimaaaGreatDoor
open Go.RowKit
structure Code (a : Option Addr) (len cap : Nat) (zs : List Int) (w : World) : Prop where
  row : IsRow .u8 w a len cap zs
  small : len ≤ 1048576
  old : ∀ x, a = some x → 0 < cap → x.block < w.heap.size
theorem Code.below {a : Option Addr} {len cap : Nat} {zs : List Int} {w w' : World} (h : Code a len cap zs w) (hb : Below w.heap.size w w') : Code a len cap zs w' :=
  ⟨h.row.keep fun x hx hp _ => hb.block x.block (h.old x hx hp), h.small, fun x hx hp => Nat.lt_of_lt_of_le (h.old x hx hp) hb.size⟩
theorem big_no (a : Option Addr) (len cap : Nat) (w : World) (h : len ≤ 1048576) : Calls Tryz.prog 4 #[.slice a len cap] w fun e w' => e = .returned (.bool false) ∧ w = w' := by
  have hd : decide ((1048576 : Int) < len) = false := by simp; omega
  go_enter Tryz.func4, Tryz.ntmps4
  go_wp2
  go_ret
  exact ⟨rfl, rfl⟩
theorem big_yes (a : Option Addr) (len cap : Nat) (w : World) (h : 1048576 < len) : Calls Tryz.prog 4 #[.slice a len cap] w fun e w' => e = .returned (.bool true) ∧ w = w' := by
  have hd : decide ((1048576 : Int) < len) = true := by simp; omega
  go_enter Tryz.func4, Tryz.ntmps4
  go_wp2
  go_ret
  exact ⟨rfl, rfl⟩
end Go.Proofs.YtjdjceohlcimaaaGreatDoor
/- A variable of three numbers in a block of its own, behind calls and stores; no function of the program. -/
namespace Go.Proofs.YtjdjceohlcimaaaGreatDoor
open Go.RowKit
def Var3 (w : World) (g : Nat) (r : R) : Prop := w.heap[g]? = some (.cells #[.int .i64 r.key, .int .i64 r.value, .int .i64 r.width] 72 (0, 0))
theorem Var3.lt {w : World} {g : Nat} {r : R} (h : Var3 w g r) : g < w.heap.size := lt_of_block h
theorem Var3.below {w w' : World} {g B : Nat} {r : R} (h : Var3 w g r) (hb : Below B w w') (hg : g < B) : Var3 w' g r := (hb.block g hg).trans h
theorem Var3.keep {w w' : World} {g : Nat} {r : R} (h : Var3 w g r) (hb : Below w.heap.size w w') : Var3 w' g r := h.below hb h.lt
theorem Var3.cells {w : World} {g : Nat} {r : R} (h : Var3 w g r) : w.cell? ⟨g, 0, none⟩ = some (.int .i64 r.key) ∧ w.cell? ⟨g, 1, none⟩ = some (.int .i64 r.value) ∧ w.cell? ⟨g, 2, none⟩ = some (.int .i64 r.width) := by
  unfold Var3 at h
  refine ⟨?_, ?_, ?_⟩ <;> simp [World.cell?, h]
theorem Var3.free {w : World} {g : Nat} {r : R} (h : Var3 w g r) : w.frozen? ⟨g, 0, none⟩ = false ∧ w.frozen? ⟨g, 1, none⟩ = false ∧ w.frozen? ⟨g, 2, none⟩ = false := by
  unfold Var3 at h
  refine ⟨?_, ?_, ?_⟩ <;> simp [World.frozen?, h]
theorem Var3.made (w : World) (r : R) : Var3 (w.alloc (.cells #[.int .i64 r.key, .int .i64 r.value, .int .i64 r.width] 72)) w.heap.size r := heap_alloc_new w _
theorem Var3.alloc {w : World} {g : Nat} {r : R} (h : Var3 w g r) (o : Obj) : Var3 (w.alloc o) g r := h.keep ((Below.refl _ _).alloc (Nat.le_refl _) _)
theorem Var3.drew {w : World} {g : Nat} {r : R} (h : Var3 w g r) : Var3 w.drew g r := h
theorem Var3.other {w : World} {g g' i : Nat} {r : R} (h : Var3 w g r) (hne : g ≠ g') (u : Value) : Var3 (w.setCell ⟨g', i, none⟩ u) g r := by
  unfold Var3 at h ⊢
  rw [Below.heap_setCell _ _ _ _ (fun e => hne e)]
  exact h
end Go.Proofs.YtjdjceohlcimaaaGreatDoor
