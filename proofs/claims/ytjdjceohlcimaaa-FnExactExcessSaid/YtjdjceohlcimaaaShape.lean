/- Shapes of records: their leaves one behind the other (numbers, truth values, slices); an element of a slice, and what a change of it leaves; no function of program or reference is walked here. -/
import Derived.Test.YtjdjceohlcimaaaMem
namespace Go.Proofs.Ytjdjceohlcimaaa
open Go.RowKit

def I64 (x : Int) : Prop := -9223372036854775808 ≤ x ∧ x ≤ 9223372036854775807
/-- No leaf. -/
def endRep : Rep Unit where
  H := Unit
  size := 0
  cells := fun _ _ => []
  inn := fun _ _ _ => True
  own := fun _ _ _ _ F => F = []
  len := fun _ _ => rfl
  inn_keep := fun h _ => h
  own_inn := fun _ => trivial
  own_lt := fun h y hy => by rw [h] at hy; cases hy
  own_stay := fun h _ => h
  own_apart := fun h => by rw [h]; exact List.Pairwise.nil
  own_mono := fun h _ => h
/-- A number, then the rest. -/
def intAnd {β : Type} (s : Rep β) : Rep (Int × β) where
  H := s.H
  size := s.size + 1
  cells := fun x h => .int .i64 x.1 :: s.cells x.2 h
  inn := fun w x h => I64 x.1 ∧ s.inn w x.2 h
  own := fun w B x h F => I64 x.1 ∧ s.own w B x.2 h F
  len := fun x h => by rw [List.length_cons, s.len]
  inn_keep := fun h hb => ⟨h.1, s.inn_keep h.2 hb⟩
  own_inn := fun h => ⟨h.1, s.own_inn h.2⟩
  own_lt := fun h => s.own_lt h.2
  own_stay := fun h hs => ⟨h.1, s.own_stay h.2 hs⟩
  own_apart := fun h => s.own_apart h.2
  own_mono := fun h hb => ⟨h.1, s.own_mono h.2 hb⟩
/-- A truth value, then the rest. -/
def boolAnd {β : Type} (s : Rep β) : Rep (Bool × β) where
  H := s.H
  size := s.size + 1
  cells := fun x h => .bool x.1 :: s.cells x.2 h
  inn := fun w x h => s.inn w x.2 h
  own := fun w B x h F => s.own w B x.2 h F
  len := fun x h => by rw [List.length_cons, s.len]
  inn_keep := fun h hb => s.inn_keep h hb
  own_inn := fun h => s.own_inn h
  own_lt := fun h => s.own_lt h
  own_stay := fun h hs => s.own_stay h hs
  own_apart := fun h => s.own_apart h
  own_mono := fun h hb => s.own_mono h hb
/-- A slice, then the rest. -/
def seqAnd {α β : Type} (r : Rep α) (s : Rep β) : Rep (List α × β) where
  H := (Option Addr × Nat × Nat) × s.H
  size := s.size + 1
  cells := fun x h => .slice h.1.1 h.1.2.1 h.1.2.2 :: s.cells x.2 h.2
  inn := fun w x h => (seqRep r).inn w x.1 h.1 ∧ s.inn w x.2 h.2
  own := fun w B x h F => ∃ F1 F2, F = F1 ++ F2 ∧ (seqRep r).own w B x.1 h.1 F1 ∧ s.own w B x.2 h.2 F2 ∧ ∀ a ∈ F1, ∀ b ∈ F2, a.apart b
  len := fun x h => by rw [List.length_cons, s.len]
  inn_keep := fun h hb => ⟨(seqRep r).inn_keep h.1 hb, s.inn_keep h.2 hb⟩
  own_inn := fun ⟨_, _, _, h1, h2, _⟩ => ⟨(seqRep r).own_inn h1, s.own_inn h2⟩
  own_lt := fun ⟨_, _, e, h1, h2, _⟩ y hy => by
    rw [e] at hy
    exact (List.mem_append.1 hy).elim ((seqRep r).own_lt h1 y) (s.own_lt h2 y)
  own_stay := fun ⟨F1, F2, e, h1, h2, h3⟩ hs => by
    subst e
    exact ⟨F1, F2, rfl, (seqRep r).own_stay h1 (hs.sub fun y hy => List.mem_append_left _ hy), s.own_stay h2 (hs.sub fun y hy => List.mem_append_right _ hy), h3⟩
  own_apart := fun ⟨F1, F2, e, h1, h2, h3⟩ => by
    subst e
    exact List.pairwise_append.2 ⟨(seqRep r).own_apart h1, s.own_apart h2, h3⟩
  own_mono := fun ⟨F1, F2, e, h1, h2, h3⟩ hb => ⟨F1, F2, e, (seqRep r).own_mono h1 hb, s.own_mono h2 hb, h3⟩
/-- The same, of a datum that tells the leaves. -/
def viaRep {α β : Type} (f : α → β) (r : Rep β) : Rep α where
  H := r.H
  size := r.size
  cells := fun x h => r.cells (f x) h
  inn := fun w x h => r.inn w (f x) h
  own := fun w B x h F => r.own w B (f x) h F
  len := fun x h => r.len (f x) h
  inn_keep := fun h hb => r.inn_keep h hb
  own_inn := fun h => r.own_inn h
  own_lt := fun h => r.own_lt h
  own_stay := fun h hs => r.own_stay h hs
  own_apart := fun h => r.own_apart h
  own_mono := fun h hb => r.own_mono h hb
/-- Stretches that lie within others. -/
theorem OnlyAt.within {F G : List Reg} {a b : World} (h : OnlyAt F a b) (hs : ∀ r ∈ F, ∃ s ∈ G, s.b = r.b ∧ s.lo ≤ r.lo ∧ r.hi ≤ s.hi) : OnlyAt G a b :=
  ⟨h.os, h.tape, h.output, h.size,
    fun i hi hne => h.block i hi fun r hr e => by obtain ⟨s, hs, e1, -, -⟩ := hs r hr; exact hne s hs (e1.trans e),
    fun i j hi hne => h.cell i j hi fun r hr e => by
      obtain ⟨s, hs, e1, h1, h2⟩ := hs r hr
      rcases hne s hs (e1.trans e) with h3 | h3
      · left; omega
      · right; omega,
    h.frozen⟩
theorem Reg.apart_within {x y z : Reg} (h : x.apart y) (hb : z.b = x.b) (h1 : x.lo ≤ z.lo) (h2 : z.hi ≤ x.hi) : z.apart y := by
  rcases h with h | h | h
  · exact .inl fun e => h (hb.symm.trans e)
  · exact .inr (.inl (by omega))
  · exact .inr (.inr (by omega))
/-- One element, its own cells with it, and what a change of it leaves. -/
theorem SeqOwn.el {α : Type} {r : Rep α} {w : World} {B : Nat} {a : Option Addr} {n : Nat} {xs : List α} {F : List Reg} (h : SeqOwn r w B a n xs F) {t : Nat} {x : α} (ht : xs[t]? = some x) :
    ∃ (b o : Nat) (hd : r.H) (G : List Reg), a = some ⟨b, o, none⟩ ∧ B ≤ b ∧ b < w.heap.size ∧ CellsAt w b (o + t * r.size) (r.cells x hd) ∧ (∀ j, j < r.size → w.frozen? ⟨b, o + t * r.size + j, none⟩ = false) ∧ r.own w B x hd G ∧
      (∀ y ∈ G, Reg.apart ⟨b, o + t * r.size, o + t * r.size + r.size⟩ y) ∧
      ∀ w' x', OnlyAt (⟨b, o + t * r.size, o + t * r.size + r.size⟩ :: G) w w' → CellsAt w' b (o + t * r.size) (r.cells x' hd) → r.own w' B x' hd G → SeqOwn r w' B a n (xs.set t x') F ∧ ∀ w0, OnlyAt F w0 w → OnlyAt F w0 w' := by
  have htl := idx_lt ht
  obtain ⟨h1, hm, ⟨h0, -⟩ | ⟨b, o, hs, Fs, rfl, hB, hlt, rfl, hp, hf, hx⟩⟩ := h
  · omega
  · have htn : t < n := by omega
    have hle := at_le (s := r.size) htn
    have hsub : ∀ y ∈ Fs t, y ∈ (⟨b, o, o + n * r.size⟩ : Reg) :: (List.range n).flatMap Fs := fun y hy => List.mem_cons_of_mem _ (List.mem_flatMap.2 ⟨t, List.mem_range.2 htn, hy⟩)
    have hhead : ∀ s, s < n → ∀ y ∈ Fs s, (⟨b, o, o + n * r.size⟩ : Reg).apart y := fun s hs y hy => (List.pairwise_cons.1 hp).1 y (List.mem_flatMap.2 ⟨s, List.mem_range.2 hs, hy⟩)
    refine ⟨b, o, hs t, Fs t, rfl, hB, hlt, (hx t x ht).1, fun j hj => hf _ (by omega) (by omega), (hx t x ht).2, fun y hy => Reg.apart_within (hhead t htn y hy) rfl (by simp only; omega) (by simp only; omega), fun w' x' ho hce hown => ⟨?_, fun w0 h0 => h0.trans (ho.within ?_)⟩⟩
    · refine ⟨by rw [List.length_set]; exact h1, hm, .inr ⟨b, o, hs, Fs, rfl, hB, Nat.lt_of_lt_of_le hlt ho.size, rfl, hp, fun j ha hb => (ho.frozen b j hlt).trans (hf j ha hb), fun s y hy => ?_⟩⟩
      have hsn : s < n := by have := idx_lt hy; rw [List.length_set] at this; omega
      have hles := at_le (s := r.size) hsn
      by_cases hst' : s = t
      · subst hst'
        rw [List.getElem?_set_self htl] at hy
        obtain rfl := Option.some.inj hy
        exact ⟨hce, hown⟩
      · rw [List.getElem?_set_ne (fun e => hst' e.symm)] at hy
        have hord : s * r.size + r.size ≤ t * r.size ∨ t * r.size + r.size ≤ s * r.size := by
          rcases Nat.lt_or_gt_of_ne hst' with h2 | h2
          · exact .inl (at_le h2)
          · exact .inr (at_le h2)
        refine ⟨fun j u hj => ?_, r.own_stay (hx s y hy).2 (Stay.of_only ho (fun p hp' q hq => ?_) fun q hq => (r.own_lt (hx s y hy).2 q hq).2)⟩
        · have hjl : j < r.size := by rw [← r.len y (hs s)]; exact idx_lt hj
          refine (ho.cell b (o + s * r.size + j) hlt fun z hz e => ?_).trans ((hx s y hy).1 j u hj)
          rcases List.mem_cons.1 hz with rfl | hz
          · simp only
            omega
          · have hap := hhead t htn z hz
            rcases hap with hn | hn | hn
            · exact absurd e.symm hn
            · simp only at hn; left; omega
            · simp only at hn; right; omega
        · rcases List.mem_cons.1 hp' with rfl | hp'
          · exact Reg.apart_within (hhead s hsn q hq) rfl (by simp only; omega) (by simp only; omega)
          · have hpw := (List.pairwise_cons.1 hp).2
            rw [List.pairwise_flatMap] at hpw
            have hr := hpw.2
            rcases Nat.lt_or_gt_of_ne hst' with h2 | h2
            · exact Reg.apart_symm ((List.pairwise_iff_getElem.1 hr) s t (by simpa using hsn) (by simpa using htn) h2 q (by simpa using hq) p (by simpa using hp'))
            · exact (List.pairwise_iff_getElem.1 hr) t s (by simpa using htn) (by simpa using hsn) h2 p (by simpa using hp') q (by simpa using hq)
    · intro z hz
      rcases List.mem_cons.1 hz with rfl | hz
      · exact ⟨_, List.mem_cons_self .., rfl, by simp only; omega, by simp only; omega⟩
      · exact ⟨z, hsub z hz, rfl, Nat.le_refl _, Nat.le_refl _⟩
/-- One element of a slice that is read. -/
theorem SeqIn.el {α : Type} {r : Rep α} {w : World} {a : Option Addr} {n : Nat} {xs : List α} (h : SeqIn r w a n xs) {t : Nat} {x : α} (ht : xs[t]? = some x) :
    ∃ (b o : Nat) (hd : r.H), a = some ⟨b, o, none⟩ ∧ b < w.heap.size ∧ CellsAt w b (o + t * r.size) (r.cells x hd) ∧ r.inn w x hd := by
  have htl := idx_lt ht
  obtain ⟨h1, -, h0 | ⟨b, o, rfl, hlt, hs, hx⟩⟩ := h
  · omega
  · exact ⟨b, o, hs t, rfl, hlt, (hx t x ht).1, (hx t x ht).2⟩

/-! ### The laws' counters and sizes -/
/-- How the laws mark a datum from a counter on, and how many counters that takes. -/
structure Mk (α : Type) where
  mark : Int → α → α
  cnt : α → Nat
  cnt_mark : ∀ q x, cnt (mark q x) = cnt x
def mkAll {α : Type} (m : Mk α) : Int → List α → List α
  | _, [] => []
  | q, x :: xs => m.mark q x :: mkAll m (q + m.cnt x) xs
def cntAll {α : Type} (m : Mk α) (xs : List α) : Nat := (xs.map m.cnt).sum
theorem cntAll_cons {α : Type} (m : Mk α) (x : α) (xs : List α) : cntAll m (x :: xs) = m.cnt x + cntAll m xs := rfl
theorem cntAll_append {α : Type} (m : Mk α) (xs ys : List α) : cntAll m (xs ++ ys) = cntAll m xs + cntAll m ys := by simp [cntAll]
theorem mkAll_length {α : Type} (m : Mk α) : ∀ (q : Int) (xs : List α), (mkAll m q xs).length = xs.length
  | _, [] => rfl
  | q, x :: xs => by rw [mkAll, List.length_cons, mkAll_length m _ xs, List.length_cons]
theorem cnt_mkAll {α : Type} (m : Mk α) : ∀ (q : Int) (xs : List α), cntAll m (mkAll m q xs) = cntAll m xs
  | _, [] => rfl
  | q, x :: xs => by rw [mkAll, cntAll_cons, cntAll_cons, m.cnt_mark, cnt_mkAll m _ xs]
theorem mkAll_append {α : Type} (m : Mk α) : ∀ (q : Int) (xs ys : List α), mkAll m q (xs ++ ys) = mkAll m q xs ++ mkAll m (q + cntAll m xs) ys
  | q, [], ys => by simp [mkAll, cntAll]
  | q, x :: xs, ys => by
    rw [List.cons_append, mkAll, mkAll_append m _ xs ys, mkAll, List.cons_append, cntAll_cons]
    congr 3
    push_cast
    omega
theorem cntAll_next {α : Type} (m : Mk α) (xs : List α) (t : Nat) (ht : t < xs.length) : cntAll m (xs.take (t + 1)) = cntAll m (xs.take t) + m.cnt xs[t] := by
  rw [List.take_succ_eq_append_getElem ht, cntAll_append]; rfl
theorem cntAll_take {α : Type} (m : Mk α) (xs : List α) (t : Nat) : cntAll m (xs.take t) ≤ cntAll m xs := by
  have := congrArg (cntAll m) (List.take_append_drop t xs)
  rw [cntAll_append] at this
  omega
theorem mkAll_next {α : Type} (m : Mk α) (q : Int) (xs : List α) (t : Nat) (ht : t < xs.length) : (mkAll m q (xs.take t) ++ xs.drop t).set t (m.mark (q + cntAll m (xs.take t)) xs[t]) = mkAll m q (xs.take (t + 1)) ++ xs.drop (t + 1) := by
  have hl : (mkAll m q (xs.take t)).length = t := by rw [mkAll_length, List.length_take]; omega
  rw [List.take_succ_eq_append_getElem ht, mkAll_append, List.set_append_right _ _ (by omega), hl, Nat.sub_self, List.drop_eq_getElem_cons ht, List.set_cons_zero]
  simp [mkAll]
theorem mkAll_get {α : Type} (m : Mk α) (q : Int) (xs : List α) (t : Nat) (ht : t < xs.length) : (mkAll m q xs)[t]? = some (m.mark (q + cntAll m (xs.take t)) xs[t]) := by
  have e : xs = xs.take t ++ xs[t] :: xs.drop (t + 1) := by rw [← List.drop_eq_getElem_cons ht, List.take_append_drop]
  have hl : (mkAll m q (xs.take t)).length = t := by rw [mkAll_length, List.length_take]; omega
  rw [show mkAll m q xs = mkAll m q (xs.take t ++ xs[t] :: xs.drop (t + 1)) from congrArg _ e, mkAll_append, List.getElem?_append_right (by omega), hl, Nat.sub_self]
  rfl
theorem mkAll_at {α : Type} (m : Mk α) (q : Int) (xs : List α) (t : Nat) (ht : t < xs.length) : (mkAll m q (xs.take t) ++ xs.drop t)[t]? = some xs[t] := by
  have hl : (mkAll m q (xs.take t)).length = t := by rw [mkAll_length, List.length_take]; omega
  rw [List.getElem?_append_right (by omega), hl, Nat.sub_self, List.drop_eq_getElem_cons ht]
  rfl
def seqMk {α : Type} (m : Mk α) : Mk (List α) := ⟨mkAll m, cntAll m, cnt_mkAll m⟩
/-- The rows' marks. -/
def rowsMk : Mk (List R) := ⟨fun q L => marked L.length q, fun L => 3 * L.length, fun q L => by rw [marked_length]⟩

/-- How many elements its slices hold together, each with what it holds. -/
def wtAll {α : Type} (f : α → Nat) (xs : List α) : Nat := xs.length + (xs.map f).sum
theorem wtAll_cons {α : Type} (f : α → Nat) (x : α) (xs : List α) : wtAll f (x :: xs) = 1 + f x + wtAll f xs := by
  unfold wtAll
  rw [List.length_cons, List.map_cons, List.sum_cons]
  omega
theorem sum_take {α : Type} (f : α → Nat) (xs : List α) (t : Nat) : ((xs.take t).map f).sum ≤ (xs.map f).sum := by
  have := congrArg (fun l => (l.map f).sum) (List.take_append_drop t xs)
  simp only [List.map_append, List.sum_append] at this
  omega
theorem sum_next {α : Type} (f : α → Nat) (xs : List α) (t : Nat) (ht : t < xs.length) : ((xs.take (t + 1)).map f).sum = ((xs.take t).map f).sum + f xs[t] := by
  rw [List.take_succ_eq_append_getElem ht, List.map_append, List.sum_append]; simp
theorem wtAll_at {α : Type} (f : α → Nat) (xs : List α) (t : Nat) (ht : t < xs.length) : f xs[t] ≤ wtAll f xs := by
  have h1 := sum_next f xs t ht
  have h2 := sum_take f xs (t + 1)
  unfold wtAll
  omega
theorem wtAll_len {α : Type} (f : α → Nat) (xs : List α) : xs.length ≤ wtAll f xs := Nat.le_add_right _ _
theorem cntAll_le {α : Type} (m : Mk α) (f : α → Nat) (h : ∀ x, m.cnt x ≤ 64 * (f x + 1)) (xs : List α) : cntAll m xs ≤ 64 * wtAll f xs := by
  induction xs with
  | nil => exact Nat.zero_le _
  | cons x xs ih =>
    have := h x
    rw [cntAll_cons, wtAll_cons]
    omega
theorem mk_room {α : Type} (m : Mk α) (f : α → Nat) (h : ∀ x, m.cnt x ≤ 64 * (f x + 1)) (xs : List α) (t : Nat) (ht : t < xs.length) : cntAll m (xs.take t) + 64 * (f xs[t] + 1) ≤ 64 * wtAll f xs := by
  have h1 := cntAll_le m f h (xs.take t)
  have h2 := sum_next f xs t ht
  have h3 := sum_take f xs (t + 1)
  have h4 : (xs.take t).length = t := by rw [List.length_take]; omega
  unfold wtAll at h1 ⊢
  omega
end Go.Proofs.Ytjdjceohlcimaaa
