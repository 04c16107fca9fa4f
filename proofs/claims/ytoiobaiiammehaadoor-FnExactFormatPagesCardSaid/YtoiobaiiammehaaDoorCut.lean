/- Plain mathematics of cutting a row of bytes at a sign: what a loop gathers, what strings.SplitN leaves, what Join puts together; no program. -/
import Derived.Lib.Split
import Derived.Lib.Join
import Derived.Lib.IndexMore
namespace Go.Proofs.YtoiobaiiammehaaDoor.Cut
open Go.Lib

/-- All pieces between the signs. -/
def cut (b : UInt8) : List UInt8 → List (List UInt8)
  | [] => [[]]
  | x :: l => if x = b then [] :: cut b l else match cut b l with | h :: t => (x :: h) :: t | [] => [[x]]
theorem cut_ne (b : UInt8) (l : List UInt8) : cut b l ≠ [] := by
  cases l with
  | nil => simp [cut]
  | cons x l =>
    unfold cut
    split
    · simp
    · split <;> simp
theorem cut_none (b : UInt8) : ∀ l : List UInt8, b ∉ l → cut b l = [l]
  | [], _ => rfl
  | x :: l, h => by
    have hx : ¬ x = b := fun e => h (by simp [e])
    have hl : b ∉ l := fun e => h (by simp [e])
    unfold cut
    rw [if_neg hx, cut_none b l hl]
theorem cut_app (b : UInt8) (q : List UInt8) : ∀ p : List UInt8, b ∉ p → cut b (p ++ b :: q) = p :: cut b q
  | [], _ => by simp [cut]
  | x :: p, h => by
    have hx : ¬ x = b := fun e => h (by simp [e])
    have hl : b ∉ p := fun e => h (by simp [e])
    have ih := cut_app b q p hl
    show cut b (x :: (p ++ b :: q)) = _
    generalize cut b q = r at ih ⊢
    unfold cut
    rw [if_neg hx, ih]
theorem cut_mem (b : UInt8) : ∀ (l p : List UInt8), p ∈ cut b l → b ∉ p
  | [], p, h => by simp [cut] at h; simp [h]
  | x :: l, p, h => by
    unfold cut at h
    split at h
    · rcases List.mem_cons.1 h with rfl | h
      · simp
      · exact cut_mem b l p h
    · rename_i hx
      split at h
      · rename_i h0 t e
        rcases List.mem_cons.1 h with rfl | h
        · have := cut_mem b l h0 (by rw [e]; simp)
          intro hc
          rcases List.mem_cons.1 hc with h1 | h1
          · exact hx h1.symm
          · exact this h1
        · exact cut_mem b l p (by rw [e]; simp [h])
      · rename_i e
        exact absurd e (cut_ne b l)
theorem join_two (x y : List UInt8) (r : List (List UInt8)) (sep : List UInt8) : join (x :: y :: r) sep = x ++ sep ++ join (y :: r) sep := by
  rw [join_cons, join_cons]; simp [joinTail]
theorem join_cut (b : UInt8) : ∀ l : List UInt8, join (cut b l) [b] = l
  | [] => by simp [cut, join_one]
  | x :: l => by
    have ih := join_cut b l
    unfold cut
    split
    · rename_i hx
      subst hx
      obtain ⟨y, r, e⟩ : ∃ y r, cut x l = y :: r := by
        cases h : cut x l with
        | nil => exact absurd h (cut_ne x l)
        | cons y r => exact ⟨y, r, rfl⟩
      rw [e] at ih ⊢
      rw [join_two, ih]; simp
    · split
      · rename_i h0 t e
        rw [e] at ih
        rw [join_cons] at ih ⊢
        simp [ih]
      · rename_i e
        exact absurd e (cut_ne b l)
theorem cut_join (b : UInt8) : ∀ (ps : List (List UInt8)), ps ≠ [] → (∀ p ∈ ps, b ∉ p) → cut b (join ps [b]) = ps
  | [], h, _ => absurd rfl h
  | [x], _, h => by rw [join_one, cut_none b x (h x (by simp))]
  | x :: y :: r, _, h => by
    rw [join_two, List.append_assoc]
    show cut b (x ++ b :: join (y :: r) [b]) = _
    rw [cut_app b _ x (h x (by simp)), cut_join b (y :: r) (by simp) (fun p hp => h p (by simp [hp]))]
theorem join_mem_length (ps : List (List UInt8)) (sep p : List UInt8) (h : p ∈ ps) : p.length ≤ (join ps sep).length := by
  induction ps with
  | nil => cases h
  | cons x r ih =>
    cases r with
    | nil =>
      rw [join_one]
      rcases List.mem_cons.1 h with rfl | h
      · exact Nat.le_refl _
      · cases h
    | cons y r =>
      rw [join_two, List.length_append, List.length_append]
      rcases List.mem_cons.1 h with rfl | h
      · omega
      · have := ih h
        omega
theorem cut_length (b : UInt8) : ∀ l : List UInt8, (cut b l).length ≤ l.length + 1
  | [] => by simp [cut]
  | x :: l => by
    have ih := cut_length b l
    unfold cut
    split
    · simp; omega
    · split
      · rename_i h0 t e; rw [e] at ih; simp at ih ⊢; omega
      · simp

/-- What a loop from the left has gathered: the pieces that are closed, and the one that is open. -/
def scan (b : UInt8) (l : List UInt8) : List (List UInt8) × List UInt8 := l.foldl (fun p x => if x = b then (p.1 ++ [p.2], []) else (p.1, p.2 ++ [x])) ([], [])
theorem scan_nil (b : UInt8) : scan b [] = ([], []) := rfl
theorem scan_snoc (b : UInt8) (l : List UInt8) (x : UInt8) : scan b (l ++ [x]) = if x = b then ((scan b l).1 ++ [(scan b l).2], []) else ((scan b l).1, (scan b l).2 ++ [x]) := by
  simp [scan]
theorem cut_snoc (b : UInt8) (x : UInt8) : ∀ (l : List UInt8) (d : List (List UInt8)) (c : List UInt8), cut b l = d ++ [c] → cut b (l ++ [x]) = if x = b then d ++ [c] ++ [[]] else d ++ [c ++ [x]]
  | [], d, c, h => by
    simp only [cut] at h
    have hd : d = [] := by
      cases d with
      | nil => rfl
      | cons a t => simp at h
    subst hd
    simp only [List.nil_append, List.cons.injEq, and_true] at h
    subst h
    by_cases hx : x = b <;> simp [cut, hx]
  | y :: l, d, c, h => by
    show cut b (y :: (l ++ [x])) = _
    unfold cut at h ⊢
    by_cases hy : y = b
    · rw [if_pos hy] at h ⊢
      cases d with
      | nil =>
        simp only [List.nil_append, List.cons.injEq] at h
        exact absurd h.2 (cut_ne b l)
      | cons a t =>
        simp only [List.cons_append, List.cons.injEq] at h
        rw [cut_snoc b x l t c h.2, ← h.1]
        split <;> simp
    · rw [if_neg hy] at h ⊢
      obtain ⟨p, r, e⟩ : ∃ p r, cut b l = p :: r := by
        cases h : cut b l with
        | nil => exact absurd h (cut_ne b l)
        | cons y r => exact ⟨y, r, rfl⟩
      rw [e] at h
      simp only at h
      cases d with
      | nil =>
        simp only [List.nil_append, List.cons.injEq] at h
        obtain ⟨h1, h2⟩ := h
        subst h2
        rw [cut_snoc b x l [] p (by rw [e]; rfl)]
        subst h1
        by_cases hx : x = b <;> simp [hx]
      | cons a t =>
        simp only [List.cons_append, List.cons.injEq] at h
        obtain ⟨h1, h2⟩ := h
        rw [cut_snoc b x l (p :: t) c (by rw [e, h2]; rfl)]
        subst h1
        by_cases hx : x = b <;> simp [hx]
theorem cut_scan (b : UInt8) (l : List UInt8) : cut b l = (scan b l).1 ++ [(scan b l).2] := by
  suffices h : ∀ (n : Nat) (l : List UInt8), l.length = n → cut b l = (scan b l).1 ++ [(scan b l).2] from h _ l rfl
  intro n
  induction n with
  | zero => intro l h; obtain rfl := List.eq_nil_of_length_eq_zero h; rfl
  | succ n ih =>
    intro l h
    obtain ⟨l', x, rfl⟩ : ∃ l' x, l = l' ++ [x] := ⟨l.dropLast, l.getLast (by intro e; simp [e] at h), (List.dropLast_concat_getLast _).symm⟩
    have hl : l'.length = n := by simpa using h
    rw [cut_snoc b x l' _ _ (ih l' hl), scan_snoc]
    split <;> simp
theorem scan_suffix (b : UInt8) (l : List UInt8) : ∃ p, l = p ++ (scan b l).2 := by
  suffices h : ∀ (n : Nat) (l : List UInt8), l.length = n → ∃ p, l = p ++ (scan b l).2 from h _ l rfl
  intro n
  induction n with
  | zero => intro l h; obtain rfl := List.eq_nil_of_length_eq_zero h; exact ⟨[], rfl⟩
  | succ n ih =>
    intro l h
    obtain ⟨l', x, rfl⟩ : ∃ l' x, l = l' ++ [x] := ⟨l.dropLast, l.getLast (by intro e; simp [e] at h), (List.dropLast_concat_getLast _).symm⟩
    obtain ⟨p, hp⟩ := ih l' (by simpa using h)
    rw [scan_snoc]
    split
    · exact ⟨l' ++ [x], by simp⟩
    · refine ⟨p, ?_⟩
      show l' ++ [x] = p ++ ((scan b l').2 ++ [x])
      rw [← List.append_assoc, ← hp]
/-- Where the open piece begins, after t signs. -/
def mark (b : UInt8) (l : List UInt8) (t : Nat) : Nat := t - (scan b (l.take t)).2.length
theorem scan_take (b : UInt8) (l : List UInt8) (t : Nat) (ht : t ≤ l.length) : (scan b (l.take t)).2 = (l.take t).drop (mark b l t) ∧ mark b l t ≤ t := by
  obtain ⟨p, hp⟩ := scan_suffix b (l.take t)
  have hl : (l.take t).length = t := by simp [ht]
  have hs : p.length + (scan b (l.take t)).2.length = t := by
    have := congrArg List.length hp
    rw [List.length_append, hl] at this; omega
  refine ⟨?_, by unfold mark; omega⟩
  have hm : mark b l t = p.length := by unfold mark; omega
  rw [hm]
  conv => rhs; rw [hp]
  simp
theorem scan_next (b : UInt8) (l : List UInt8) (t : Nat) (ht : t < l.length) : scan b (l.take (t + 1)) = if l[t] = b then ((scan b (l.take t)).1 ++ [(l.take t).drop (mark b l t)], []) else ((scan b (l.take t)).1, (scan b (l.take t)).2 ++ [l[t]]) := by
  rw [List.take_succ_eq_append_getElem ht, scan_snoc, (scan_take b l t (by omega)).1]
theorem mark_hit (b : UInt8) (l : List UInt8) (t : Nat) (ht : t < l.length) (h : l[t] = b) : mark b l (t + 1) = t + 1 := by
  unfold mark; rw [scan_next b l t ht, if_pos h]; simp
theorem mark_miss (b : UInt8) (l : List UInt8) (t : Nat) (ht : t < l.length) (h : ¬ l[t] = b) : mark b l (t + 1) = mark b l t := by
  have := (scan_take b l t (by omega)).2
  unfold mark at this ⊢; rw [scan_next b l t ht, if_neg h]
  simp
theorem mark_zero (b : UInt8) (l : List UInt8) : mark b l 0 = 0 := by simp [mark]
theorem scan_length (b : UInt8) (l : List UInt8) : (scan b l).1.length ≤ l.length := by
  have h := cut_length b l
  rw [cut_scan] at h
  simpa using h

/-- strings.SplitN at a sign. -/
theorem index_sign (b : UInt8) (l : List UInt8) : (index l [b] = -1 ∧ b ∉ l) ∨ ∃ i : Nat, index l [b] = i ∧ i < l.length ∧ b ∉ l.take i ∧ l = l.take i ++ b :: l.drop (i + 1) := by
  have hocc : ∀ j, occAt l [b] j = true ↔ l[j]? = some b := by
    intro j
    constructor
    · exact occAt_head rfl
    · intro h
      unfold occAt
      have hj : j < l.length := (List.getElem?_eq_some_iff.1 h).1
      rw [List.drop_eq_getElem_cons hj]
      have : l[j] = b := (List.getElem?_eq_some_iff.1 h).2
      simp [this]
  rcases index_spec l [b] with ⟨h, hn⟩ | ⟨i, h, hi, ho, hno⟩
  · refine .inl ⟨h, fun hm => ?_⟩
    obtain ⟨j, hj, e⟩ := List.getElem_of_mem hm
    have := hn j (by omega)
    rw [(hocc j).2 (by rw [List.getElem?_eq_getElem hj, e])] at this
    cases this
  · right
    have hb := (hocc i).1 ho
    have hlt : i < l.length := (List.getElem?_eq_some_iff.1 hb).1
    refine ⟨i, h, hlt, fun hm => ?_, ?_⟩
    · obtain ⟨j, hj, e⟩ := List.getElem_of_mem hm
      simp at hj e
      have := hno j (by omega)
      rw [(hocc j).2 (by rw [List.getElem?_eq_getElem (by omega), e])] at this
      cases this
    · conv => lhs; rw [← List.take_append_drop i l, List.drop_eq_getElem_cons hlt]
      rw [(List.getElem?_eq_some_iff.1 hb).2]
theorem splitK_sign (b : UInt8) : ∀ (k : Nat) (l : List UInt8), splitK [b] 0 k l = cut b l ∧ (cut b l).length ≤ k + 1 ∨ (splitK [b] 0 k l).length = k + 1 ∧ k + 1 < (cut b l).length
  | 0, l => by
    by_cases h : b ∈ l
    · right
      refine ⟨rfl, ?_⟩
      rcases index_sign b l with ⟨_, hn⟩ | ⟨i, _, hlt, hn, e⟩
      · exact absurd h hn
      · rw [e, cut_app b _ _ hn]
        have := List.length_pos_iff.2 (cut_ne b (l.drop (i + 1)))
        simp only [List.length_cons]; omega
    · left
      rw [cut_none b l h]
      exact ⟨rfl, by simp⟩
  | k + 1, l => by
    rcases index_sign b l with ⟨h, hn⟩ | ⟨i, h, hlt, hn, e⟩
    · left
      unfold splitK
      rw [h, cut_none b l hn]
      simp
    · have hs : splitK [b] 0 (k + 1) l = l.take i :: splitK [b] 0 k (l.drop (i + 1)) := by
        rw [splitK, h]
        have : ((i : Int) == -1) = false := by rw [beq_eq_false_iff_ne]; omega
        rw [this]; simp
      have hc : cut b l = l.take i :: cut b (l.drop (i + 1)) := by
        conv => lhs; rw [e]
        exact cut_app b _ _ hn
      rw [hs, hc]
      rcases splitK_sign b k (l.drop (i + 1)) with ⟨h1, h2⟩ | ⟨h1, h2⟩
      · exact .inl ⟨by rw [h1], by simp; omega⟩
      · exact .inr ⟨by simp [h1], by simp; omega⟩
/-- At most n pieces: all of them, or n and there are more. -/
theorem splitN_sign (b : UInt8) (n : Nat) (hn : 1 ≤ n) (l : List UInt8) : splitK [b] 0 (min n (l.length + 1) - 1) l = cut b l ∧ (cut b l).length ≤ n ∨ (splitK [b] 0 (min n (l.length + 1) - 1) l).length = n ∧ n < (cut b l).length := by
  have hc := cut_length b l
  rcases splitK_sign b (min n (l.length + 1) - 1) l with ⟨h1, h2⟩ | ⟨h1, h2⟩
  · exact .inl ⟨h1, by omega⟩
  · refine .inr ⟨by omega, by omega⟩
end Go.Proofs.YtoiobaiiammehaaDoor.Cut
