/- What slices hold, and slices of slices: readings, and memory of a call's own told by its stretches of cells; no function of program or reference is walked here. -/
import Derived.Test.YtoiobaiiammehaaDoorMine
namespace Go.Proofs.YtoiobaiiammehaaDoor
open Go.RowKit

/-- A stretch of a block: the block, its first cell, the cell behind its last. -/
structure Reg where
  b : Nat
  lo : Nat
  hi : Nat
def Reg.apart (x y : Reg) : Prop := x.b ≠ y.b ∨ x.hi ≤ y.lo ∨ y.hi ≤ x.lo
theorem Reg.apart_symm {x y : Reg} (h : x.apart y) : y.apart x := by
  rcases h with h | h | h
  · exact .inl fun e => h e.symm
  · exact .inr (.inr h)
  · exact .inr (.inl h)
/-- The stretches' cells are as they were. -/
structure Stay (F : List Reg) (w w' : World) : Prop where
  size : w.heap.size ≤ w'.heap.size
  cell : ∀ r ∈ F, ∀ j, r.lo ≤ j → j < r.hi → w'.cell? ⟨r.b, j, none⟩ = w.cell? ⟨r.b, j, none⟩ ∧ w'.frozen? ⟨r.b, j, none⟩ = w.frozen? ⟨r.b, j, none⟩
/-- Only the stretches' cells have changed, and what is new. -/
structure OnlyAt (F : List Reg) (w w' : World) : Prop where
  os : w'.os = w.os
  tape : w'.tape = w.tape
  output : w'.output = w.output
  size : w.heap.size ≤ w'.heap.size
  block : ∀ b, b < w.heap.size → (∀ r ∈ F, r.b ≠ b) → w'.heap[b]? = w.heap[b]?
  cell : ∀ b j, b < w.heap.size → (∀ r ∈ F, r.b = b → j < r.lo ∨ r.hi ≤ j) → w'.cell? ⟨b, j, none⟩ = w.cell? ⟨b, j, none⟩
  frozen : ∀ b j, b < w.heap.size → w'.frozen? ⟨b, j, none⟩ = w.frozen? ⟨b, j, none⟩
theorem OnlyAt.refl (F : List Reg) (w : World) : OnlyAt F w w := ⟨rfl, rfl, rfl, Nat.le_refl _, fun _ _ _ => rfl, fun _ _ _ _ => rfl, fun _ _ _ => rfl⟩
theorem OnlyAt.trans {F : List Reg} {a b c : World} (h : OnlyAt F a b) (k : OnlyAt F b c) : OnlyAt F a c :=
  ⟨k.os.trans h.os, k.tape.trans h.tape, k.output.trans h.output, Nat.le_trans h.size k.size, fun i hi hne => (k.block i (Nat.lt_of_lt_of_le hi h.size) hne).trans (h.block i hi hne),
    fun i j hi hne => (k.cell i j (Nat.lt_of_lt_of_le hi h.size) hne).trans (h.cell i j hi hne), fun i j hi => (k.frozen i j (Nat.lt_of_lt_of_le hi h.size)).trans (h.frozen i j hi)⟩
theorem OnlyAt.mono {F G : List Reg} {a b : World} (h : OnlyAt F a b) (hs : ∀ r ∈ F, r ∈ G) : OnlyAt G a b :=
  ⟨h.os, h.tape, h.output, h.size, fun i hi hne => h.block i hi fun r hr => hne r (hs r hr), fun i j hi hne => h.cell i j hi fun r hr => hne r (hs r hr), h.frozen⟩
theorem OnlyAt.below {F : List Reg} {B : Nat} {a b : World} (h : OnlyAt F a b) (hB : B ≤ a.heap.size) (hF : ∀ r ∈ F, B ≤ r.b) : Below B a b :=
  ⟨h.os, h.tape, h.output, h.size, fun i hi => h.block i (Nat.lt_of_lt_of_le hi hB) fun r hr e => by have := hF r hr; omega⟩
theorem OnlyAt.of_below {F : List Reg} {a b : World} (h : Below a.heap.size a b) : OnlyAt F a b :=
  ⟨h.os, h.tape, h.output, h.size, fun i hi _ => h.block i hi, fun i _ hi _ => World.cell?_of_block (h.block i hi), fun i _ hi => World.frozen?_of_block (h.block i hi)⟩
theorem OnlyAt.set {F : List Reg} {a w : World} (h : OnlyAt F a w) {r : Reg} (hr : r ∈ F) {b j : Nat} (hb : r.b = b) (h1 : r.lo ≤ j) (h2 : j < r.hi) (u : Value) : OnlyAt F a (w.setCell ⟨b, j, none⟩ u) := by
  refine ⟨h.os, h.tape, h.output, by simpa [World.setCell] using h.size, fun i hi hne => ?_, fun i k hi hne => ?_, fun i k hi => ?_⟩
  · exact (Below.heap_setCell w ⟨b, j, none⟩ u i (fun e => hne r hr (by rw [hb, e]))).trans (h.block i hi hne)
  · refine (World.cell?_setCell_other _ _ _ _ (fun e => ?_)).trans (h.cell i k hi hne)
    simp only [Addr.mk.injEq] at e
    have := hne r hr (hb.trans (by have := e.1; omega))
    have := e.2.1
    omega
  · exact (World.frozen?_setCell w _ _ _).trans (h.frozen i k hi)
theorem Stay.of_only {F G : List Reg} {w w' : World} (h : OnlyAt F w w') (hap : ∀ x ∈ F, ∀ y ∈ G, x.apart y) (hlt : ∀ y ∈ G, y.b < w.heap.size) : Stay G w w' :=
  ⟨h.size, fun y hy j h1 h2 => ⟨h.cell y.b j (hlt y hy) fun x hx e => by
    rcases hap x hx y hy with hn | hn | hn
    · exact absurd e hn
    · right; omega
    · left; omega, h.frozen y.b j (hlt y hy)⟩⟩
theorem Stay.of_below {G : List Reg} {w w' : World} {B : Nat} (h : Below B w w') (hlt : ∀ y ∈ G, y.b < B) : Stay G w w' :=
  ⟨h.size, fun y hy _ _ _ => ⟨World.cell?_of_block (h.block y.b (hlt y hy)), World.frozen?_of_block (h.block y.b (hlt y hy))⟩⟩
theorem Stay.sub {F G : List Reg} {w w' : World} (h : Stay G w w') (hs : ∀ r ∈ F, r ∈ G) : Stay F w w' := ⟨h.size, fun r hr => h.cell r (hs r hr)⟩
/-- The cells from a place on. -/
def CellsAt (w : World) (b o : Nat) (cs : List Value) : Prop := ∀ (j : Nat) (u : Value), cs[j]? = some u → w.cell? ⟨b, o + j, none⟩ = some u
theorem CellsAt.below {w w' : World} {B b o : Nat} {cs : List Value} (h : CellsAt w b o cs) (hb : Below B w w') (hlt : b < B) : CellsAt w' b o cs := fun j u hj => (hb.cell hlt).trans (h j u hj)
theorem CellsAt.lt {w : World} {b o : Nat} {cs : List Value} (h : CellsAt w b o cs) (hl : 0 < cs.length) : b < w.heap.size := World.block_lt_of_cell? w _ (h 0 cs[0] (by simp [hl]))

/-- How values of a type lie in memory: 'H': what the cells say beside the datum (the slices' heads); 'inn': what lies behind those heads; 'own': the same, in memory of the call's own, whose stretches are listed. -/
structure Rep (α : Type) where
  H : Type
  size : Nat
  cells : α → H → List Value
  inn : World → α → H → Prop
  own : World → Nat → α → H → List Reg → Prop
  len : ∀ x h, (cells x h).length = size
  inn_keep : ∀ {w w' x h}, inn w x h → Below w.heap.size w w' → inn w' x h
  own_inn : ∀ {w B x h F}, own w B x h F → inn w x h
  own_lt : ∀ {w B x h F}, own w B x h F → ∀ r ∈ F, B ≤ r.b ∧ r.b < w.heap.size
  own_stay : ∀ {w w' B x h F}, own w B x h F → Stay F w w' → own w' B x h F
  own_apart : ∀ {w B x h F}, own w B x h F → F.Pairwise Reg.apart
  own_mono : ∀ {w B B' x h F}, own w B x h F → B' ≤ B → own w B' x h F

/-- A slice: what it holds. -/
def SeqIn {α : Type} (r : Rep α) (w : World) (a : Option Addr) (n : Nat) (xs : List α) : Prop :=
  xs.length = n ∧ n ≤ maxLen ∧ (n = 0 ∨ ∃ b o : Nat, a = some ⟨b, o, none⟩ ∧ b < w.heap.size ∧ ∃ hs : Nat → r.H, ∀ t x, xs[t]? = some x → CellsAt w b (o + t * r.size) (r.cells x (hs t)) ∧ r.inn w x (hs t))
/-- A slice in memory of the call's own. -/
def SeqOwn {α : Type} (r : Rep α) (w : World) (B : Nat) (a : Option Addr) (n : Nat) (xs : List α) (F : List Reg) : Prop :=
  xs.length = n ∧ n ≤ maxLen ∧ ((n = 0 ∧ F = []) ∨ ∃ (b o : Nat) (hs : Nat → r.H) (Fs : Nat → List Reg), a = some ⟨b, o, none⟩ ∧ B ≤ b ∧ b < w.heap.size ∧ F = ⟨b, o, o + n * r.size⟩ :: (List.range n).flatMap Fs ∧ F.Pairwise Reg.apart ∧
    (∀ j, o ≤ j → j < o + n * r.size → w.frozen? ⟨b, j, none⟩ = false) ∧ ∀ t x, xs[t]? = some x → CellsAt w b (o + t * r.size) (r.cells x (hs t)) ∧ r.own w B x (hs t) (Fs t))
theorem idx_lt {α : Type} {xs : List α} {t : Nat} {x : α} (h : xs[t]? = some x) : t < xs.length := (List.getElem?_eq_some_iff.1 h).1
theorem at_le {t n s : Nat} (h : t < n) : t * s + s ≤ n * s := by
  have := Nat.mul_le_mul_right s (show t + 1 ≤ n from h)
  rwa [Nat.add_mul, Nat.one_mul] at this
theorem SeqIn.keep {α : Type} {r : Rep α} {w w' : World} {a : Option Addr} {n : Nat} {xs : List α} (h : SeqIn r w a n xs) (hb : Below w.heap.size w w') : SeqIn r w' a n xs := by
  obtain ⟨h1, hm, h2⟩ := h
  refine ⟨h1, hm, h2.imp_right ?_⟩
  rintro ⟨b, o, rfl, hlt, hs, hx⟩
  exact ⟨b, o, rfl, Nat.lt_of_lt_of_le hlt hb.size, hs, fun t x ht => ⟨(hx t x ht).1.below hb hlt, r.inn_keep (hx t x ht).2 hb⟩⟩
theorem SeqOwn.lt {α : Type} {r : Rep α} {w : World} {B : Nat} {a : Option Addr} {n : Nat} {xs : List α} {F : List Reg} (h : SeqOwn r w B a n xs F) : ∀ y ∈ F, B ≤ y.b ∧ y.b < w.heap.size := by
  obtain ⟨h1, -, ⟨-, rfl⟩ | ⟨b, o, hs, Fs, rfl, hB, hlt, rfl, -, -, hx⟩⟩ := h
  · intro y hy; cases hy
  · intro y hy
    rcases List.mem_cons.1 hy with rfl | hy
    · exact ⟨hB, hlt⟩
    · obtain ⟨t, ht, hy⟩ := List.mem_flatMap.1 hy
      have htl : t < xs.length := by rw [h1]; exact List.mem_range.1 ht
      exact r.own_lt (hx t xs[t] (by simp [htl])).2 y hy
theorem SeqOwn.stay {α : Type} {r : Rep α} {w w' : World} {B : Nat} {a : Option Addr} {n : Nat} {xs : List α} {F : List Reg} (h : SeqOwn r w B a n xs F) (hs : Stay F w w') : SeqOwn r w' B a n xs F := by
  obtain ⟨h1, hm, h2⟩ := h
  refine ⟨h1, hm, h2.imp_right ?_⟩
  rintro ⟨b, o, hh, Fs, rfl, hB, hlt, rfl, hp, hf, hx⟩
  have hc := hs.cell ⟨b, o, o + n * r.size⟩ (List.mem_cons_self ..)
  refine ⟨b, o, hh, Fs, rfl, hB, Nat.lt_of_lt_of_le hlt hs.size, rfl, hp, fun j ha hb => ((hc j ha hb).2).trans (hf j ha hb), fun t x ht => ?_⟩
  have htn : t < n := by rw [← h1]; exact idx_lt ht
  refine ⟨fun j u hj => ?_, r.own_stay (hx t x ht).2 (hs.sub fun y hy => List.mem_cons_of_mem _ (List.mem_flatMap.2 ⟨t, List.mem_range.2 htn, hy⟩))⟩
  have hjl : j < r.size := by rw [← r.len x (hh t)]; exact idx_lt hj
  have hle := at_le (s := r.size) htn
  exact ((hc (o + t * r.size + j) (by simp only; omega) (by simp only; omega)).1).trans ((hx t x ht).1 j u hj)
theorem SeqOwn.inn {α : Type} {r : Rep α} {w : World} {B : Nat} {a : Option Addr} {n : Nat} {xs : List α} {F : List Reg} (h : SeqOwn r w B a n xs F) : SeqIn r w a n xs := by
  obtain ⟨h1, hm, ⟨h0, -⟩ | ⟨b, o, hs, Fs, rfl, -, hlt, -, -, -, hx⟩⟩ := h
  · exact ⟨h1, hm, .inl h0⟩
  · exact ⟨h1, hm, .inr ⟨b, o, rfl, hlt, hs, fun t x ht => ⟨(hx t x ht).1, r.own_inn (hx t x ht).2⟩⟩⟩
theorem SeqOwn.apart {α : Type} {r : Rep α} {w : World} {B : Nat} {a : Option Addr} {n : Nat} {xs : List α} {F : List Reg} (h : SeqOwn r w B a n xs F) : F.Pairwise Reg.apart := by
  obtain ⟨h1, -, ⟨-, rfl⟩ | ⟨b, o, hs, Fs, rfl, -, hlt, -, hp, -⟩⟩ := h
  · exact List.Pairwise.nil
  · exact hp
theorem SeqOwn.mono {α : Type} {r : Rep α} {w : World} {B B' : Nat} {a : Option Addr} {n : Nat} {xs : List α} {F : List Reg} (h : SeqOwn r w B a n xs F) (hb : B' ≤ B) : SeqOwn r w B' a n xs F := by
  obtain ⟨h1, hm, h2⟩ := h
  refine ⟨h1, hm, h2.imp_right ?_⟩
  rintro ⟨b, o, hs, Fs, rfl, hB, hlt, hF, hp, hf, hx⟩
  exact ⟨b, o, hs, Fs, rfl, Nat.le_trans hb hB, hlt, hF, hp, hf, fun t x ht => ⟨(hx t x ht).1, r.own_mono (hx t x ht).2 hb⟩⟩
theorem SeqOwn.keep {α : Type} {r : Rep α} {w w' : World} {B : Nat} {a : Option Addr} {n : Nat} {xs : List α} {F : List Reg} (h : SeqOwn r w B a n xs F) (hb : Below w.heap.size w w') : SeqOwn r w' B a n xs F :=
  h.stay (Stay.of_below hb fun y hy => (h.lt y hy).2)
/-- What changes other stretches alone. -/
theorem SeqOwn.far {α : Type} {r : Rep α} {w w' : World} {B : Nat} {a : Option Addr} {n : Nat} {xs : List α} {F G : List Reg} (h : SeqOwn r w B a n xs F) (ho : OnlyAt G w w') (hap : ∀ x ∈ G, ∀ y ∈ F, x.apart y) : SeqOwn r w' B a n xs F :=
  h.stay (Stay.of_only ho hap fun y hy => (h.lt y hy).2)
/-- A row: three numbers. -/
def rowRep : Rep R where
  H := Unit
  size := 3
  cells := fun r _ => [.int .i64 r.key, .int .i64 r.value, .int .i64 r.width]
  inn := fun _ r _ => r.wf
  own := fun _ _ r _ F => r.wf ∧ F = []
  len := fun _ _ => rfl
  inn_keep := fun h _ => h
  own_inn := fun h => h.1
  own_lt := fun h y hy => by rw [h.2] at hy; cases hy
  own_stay := fun h _ => h
  own_apart := fun h => by rw [h.2]; exact List.Pairwise.nil
  own_mono := fun h _ => h
/-- A slice of them. -/
def seqRep {α : Type} (r : Rep α) : Rep (List α) where
  H := Option Addr × Nat × Nat
  size := 1
  cells := fun _ h => [.slice h.1 h.2.1 h.2.2]
  inn := fun w xs h => SeqIn r w h.1 h.2.1 xs ∧ (h.1 = none → h.2.2 = 0)
  own := fun w B xs h F => SeqOwn r w B h.1 h.2.1 xs F ∧ (h.1 = none → h.2.2 = 0)
  len := fun _ _ => rfl
  inn_keep := fun h hb => ⟨h.1.keep hb, h.2⟩
  own_inn := fun h => ⟨h.1.inn, h.2⟩
  own_lt := fun h => h.1.lt
  own_stay := fun h hs => ⟨h.1.stay hs, h.2⟩
  own_apart := fun h => h.1.apart
  own_mono := fun h hb => ⟨h.1.mono hb, h.2⟩
/-- One element, and what a change of it leaves. -/
theorem SeqOwn.at {α : Type} {r : Rep α} {w : World} {B : Nat} {a : Option Addr} {n : Nat} {xs : List α} {F : List Reg} (h : SeqOwn r w B a n xs F) {t : Nat} {x : α} (ht : xs[t]? = some x) :
    ∃ (b o : Nat) (hd : r.H) (G : List Reg), a = some ⟨b, o, none⟩ ∧ b < w.heap.size ∧ CellsAt w b (o + t * r.size) (r.cells x hd) ∧ (∀ j, j < r.size → w.frozen? ⟨b, o + t * r.size + j, none⟩ = false) ∧ r.own w B x hd G ∧ (∀ y ∈ G, y ∈ F) ∧
      ∀ w' x', OnlyAt G w w' → r.own w' B x' hd G → r.cells x' hd = r.cells x hd → SeqOwn r w' B a n (xs.set t x') F := by
  have htl := idx_lt ht
  obtain ⟨h1, hm, ⟨h0, -⟩ | ⟨b, o, hs, Fs, rfl, hB, hlt, rfl, hp, hf, hx⟩⟩ := h
  · omega
  · have htn : t < n := by omega
    have hle := at_le (s := r.size) htn
    have hsub : ∀ y ∈ Fs t, y ∈ (⟨b, o, o + n * r.size⟩ : Reg) :: (List.range n).flatMap Fs := fun y hy => List.mem_cons_of_mem _ (List.mem_flatMap.2 ⟨t, List.mem_range.2 htn, hy⟩)
    refine ⟨b, o, hs t, Fs t, rfl, hlt, (hx t x ht).1, fun j hj => hf _ (by omega) (by omega), (hx t x ht).2, hsub, fun w' x' ho hown hce => ?_⟩
    have hhead : ∀ y ∈ Fs t, (⟨b, o, o + n * r.size⟩ : Reg).apart y := fun y hy => (List.pairwise_cons.1 hp).1 y (List.mem_flatMap.2 ⟨t, List.mem_range.2 htn, hy⟩)
    have hst : Stay [⟨b, o, o + n * r.size⟩] w w' := Stay.of_only ho (fun y hy z hz => by rw [List.mem_singleton.1 hz]; exact Reg.apart_symm (hhead y hy)) (fun z hz => by rw [List.mem_singleton.1 hz]; exact hlt)
    have hc := hst.cell ⟨b, o, o + n * r.size⟩ (List.mem_singleton.2 rfl)
    refine ⟨by rw [List.length_set]; exact h1, hm, .inr ⟨b, o, hs, Fs, rfl, hB, Nat.lt_of_lt_of_le hlt ho.size, rfl, hp, fun j ha hb => ((hc j ha hb).2).trans (hf j ha hb), fun s y hy => ?_⟩⟩
    have hsn : s < n := by have := idx_lt hy; rw [List.length_set] at this; omega
    have hles := at_le (s := r.size) hsn
    have hcell : ∀ z, xs[s]? = some z → CellsAt w' b (o + s * r.size) (r.cells z (hs s)) := fun z hz j u hj => by
      have hjl : j < r.size := by rw [← r.len z (hs s)]; exact idx_lt hj
      exact ((hc (o + s * r.size + j) (by simp only; omega) (by simp only; omega)).1).trans ((hx s z hz).1 j u hj)
    by_cases hst' : s = t
    · subst hst'
      rw [List.getElem?_set_self htl] at hy
      obtain rfl := Option.some.inj hy
      exact ⟨by rw [hce]; exact hcell x ht, hown⟩
    · rw [List.getElem?_set_ne (fun e => hst' e.symm)] at hy
      refine ⟨hcell y hy, r.own_stay (hx s y hy).2 (Stay.of_only ho (fun p hp' q hq => ?_) fun q hq => (r.own_lt (hx s y hy).2 q hq).2)⟩
      have hpw := (List.pairwise_cons.1 hp).2
      rw [List.pairwise_flatMap] at hpw
      have hr := hpw.2
      rcases Nat.lt_or_gt_of_ne hst' with h2 | h2
      · exact Reg.apart_symm ((List.pairwise_iff_getElem.1 hr) s t (by simpa using hsn) (by simpa using htn) h2 q (by simpa using hq) p (by simpa using hp'))
      · exact (List.pairwise_iff_getElem.1 hr) t s (by simpa using htn) (by simpa using hsn) h2 p (by simpa using hp') q (by simpa using hq)
end Go.Proofs.YtoiobaiiammehaaDoor
