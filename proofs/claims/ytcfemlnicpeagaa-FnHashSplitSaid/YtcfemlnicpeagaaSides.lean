/- Two slices of rows, each in a block of the call's own, as they grow; no function of program or reference is walked here. -/
import Derived.Test.YtcfemlnicpeagaaApart
namespace Go.Proofs.Ytcfemlnicpeagaa
open Go.RowKit

theorem mine_own_at {w : World} {B n c : Nat} {a : Option Addr} {L : List R} (h : Mine w B (.slice a n c) L) (hwf : ∀ r ∈ L, r.wf) (hm : n ≤ maxLen) : ∃ F, SeqOwn rowRep w B a n L F ∧ ∀ y ∈ F, (Value.slice a n c).ownBlock = some y.b := by
  by_cases hn : Value.slice a n c = .slice none 0 0
  · injection hn with e1 e2 e3
    subst e1 e2 e3
    exact ⟨[], ⟨h.len, Nat.zero_le _, .inl ⟨rfl, rfl⟩⟩, fun y hy => by cases hy⟩
  · obtain ⟨g, c', e, -, -⟩ := h.addr hn
    injection e with e1 e2 e3
    subst e1
    obtain ⟨F, hF, hf⟩ := rows_own h hwf hm
    exact ⟨F, hF, fun y hy => by rw [hf y hy]; rfl⟩
/-- v holds L, u holds M, each in a block of its own from block B on; what lay below B in w is as it was. -/
structure Sides (w : World) (B : Nat) (L M : List R) (v u : Value) (wr : World) : Prop where
  old : Below B w wr
  lft : Mine wr B v L
  rgt : Mine wr B u M
  ne : ∀ k, v.ownBlock = some k → u.ownBlock ≠ some k
theorem Sides.flip {w wr : World} {B : Nat} {L M : List R} {v u : Value} (h : Sides w B L M v u wr) : Sides w B M L u v wr := ⟨h.old, h.rgt, h.lft, fun k hk e => h.ne k e hk⟩
theorem Sides.keep {w wr wr' : World} {B : Nat} {L M : List R} {v u : Value} (h : Sides w B L M v u wr) (hb : Below wr.heap.size wr wr') (hB : B ≤ wr.heap.size) : Sides w B L M v u wr' :=
  ⟨h.old.trans (hb.mono hB), h.lft.keep hb, h.rgt.keep hb, h.ne⟩
/-- The first of them has grown. -/
theorem Sides.push {w wr w' : World} {B g n c : Nat} {L L' M : List R} {v u : Value} (h : Sides w B L M v u wr) (hB : B ≤ wr.heap.size) (hm : Mine w' B (.slice (some ⟨g, 0, none⟩) n c) L') (hg : wr.grownBy w' v.ownBlock) (hat : v.ownBlock = some g ∨ wr.heap.size ≤ g) :
    Sides w B L' M (.slice (some ⟨g, 0, none⟩) n c) u w' := by
  refine ⟨h.old.grown hg hB fun k hk => h.lft.own' k hk, hm, h.rgt.grown hg fun k hk e => h.ne k e hk, fun k hk e => ?_⟩
  have hk' : some g = some k := hk
  obtain rfl := Option.some.inj hk'
  rcases hat with hat | hat
  · exact h.ne g hat e
  · have := (World.ownsRow.lt h.rgt g e).2
    omega
theorem Sides.start (w : World) : Sides w w.heap.size [] [] (.slice none 0 0) (.slice none 0 0) w := ⟨Below.refl _ _, mine_none _ _, mine_none _ _, fun k hk => by simp [Value.ownBlock] at hk⟩
/-- Two blocks without rows. -/
theorem Sides.empty (w : World) : Sides w w.heap.size [] [] (.slice (some ⟨w.heap.size, 0, none⟩) 0 0) (.slice (some ⟨w.heap.size + 1, 0, none⟩) 0 0) ((w.alloc (.cells #[] 34)).alloc (.cells #[] 34)) := by
  have hs : (w.alloc (.cells #[] 34)).heap.size = w.heap.size + 1 := by simp
  have h2 := mine_zero (w.alloc (.cells #[] 34)) w.heap.size (by omega)
  rw [hs] at h2
  refine ⟨Joins.below_alloc2 _ _ _, (mine_zero w w.heap.size (Nat.le_refl _)).keep ((Below.refl _ _).alloc (Nat.le_refl _) _), h2, fun k hk e => ?_⟩
  have hk' : some w.heap.size = some k := hk
  have e' : some (w.heap.size + 1) = some k := e
  simp only [Option.some.injEq] at hk' e'
  omega
/-- Each of them as a slice of the call's own, the two apart. -/
theorem Sides.own {w wr : World} {B : Nat} {L M : List R} {v u : Value} (h : Sides w B L M v u wr) (hL : ∀ r ∈ L, r.wf) (hM : ∀ r ∈ M, r.wf) (nL : L.length ≤ maxLen) (nM : M.length ≤ maxLen) :
    ∃ (a b : Option Addr) (c d : Nat) (F G : List Reg), v = .slice a L.length c ∧ u = .slice b M.length d ∧ SeqOwn rowRep wr B a L.length L F ∧ SeqOwn rowRep wr B b M.length M G ∧ ∀ x ∈ F, ∀ y ∈ G, x.apart y := by
  obtain ⟨a, c, rfl⟩ := h.lft.slice
  obtain ⟨b, d, rfl⟩ := h.rgt.slice
  obtain ⟨F, hF, hf⟩ := mine_own_at h.lft hL nL
  obtain ⟨G, hG, hg⟩ := mine_own_at h.rgt hM nM
  exact ⟨a, b, c, d, F, G, rfl, rfl, hF, hG, fun x hx y hy => .inl fun e => h.ne x.b (hf x hx) (by rw [e]; exact hg y hy)⟩
end Go.Proofs.Ytcfemlnicpeagaa
