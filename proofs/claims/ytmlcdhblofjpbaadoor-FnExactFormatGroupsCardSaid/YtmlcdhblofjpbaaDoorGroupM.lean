/- Groups of rows as plain mathematics: their combination, their merge, the order of keys; no function of program or reference is walked here. -/
import Derived.Test.YtmlcdhblofjpbaaDoorTGroup
import Derived.Test.YtmlcdhblofjpbaaDoorTRow
import Derived.Test.YtmlcdhblofjpbaaDoorVMk
import Derived.Test.YtmlcdhblofjpbaaDoorMath
import Derived.Test.YtmlcdhblofjpbaaDoorOrd
namespace Go.Proofs.YtmlcdhblofjpbaaDoor
open Go.RowKit
set_option linter.unusedVariables false
namespace GroupD
def ofRow (r : R) : GroupD := ⟨r.key, 1, r.value, r.value, r.value⟩
def comb (a b : GroupD) : GroupD := if a.fKey = b.fKey then ⟨a.fKey, wrap64 (a.fCount + b.fCount), wrap64 (a.fSum + b.fSum), min a.fMin b.fMin, max a.fMax b.fMax⟩ else a
theorem comb_key (a b : GroupD) : (comb a b).fKey = a.fKey := by unfold comb; split <;> rfl
theorem wrap_wrap (a b c : Int) : wrap64 (wrap64 (a + b) + c) = wrap64 (a + wrap64 (b + c)) := by unfold wrap64; omega
theorem comb_assoc (a b c : GroupD) (h1 : a.fKey = b.fKey) (h2 : b.fKey = c.fKey) : comb (comb a b) c = comb a (comb b c) := by
  unfold comb
  simp only [h1, h2, if_true, GroupD.mk.injEq, true_and]
  exact ⟨wrap_wrap _ _ _, wrap_wrap _ _ _, Int.min_assoc _ _ _, Int.max_assoc _ _ _⟩
/-- One more group, at its key's place. -/
def add : List GroupD → GroupD → List GroupD
  | [], g => [g]
  | h :: t, g => if h.fKey < g.fKey then h :: add t g else if h.fKey = g.fKey then comb h g :: t else g :: h :: t
def merge (L : List GroupD) : List GroupD := L.foldl add []
theorem merge_nil : merge [] = [] := rfl
theorem merge_next (L : List GroupD) (t : Nat) (h : t < L.length) : merge (L.take (t + 1)) = add (merge (L.take t)) L[t] := by
  unfold merge
  rw [List.take_succ_eq_append_getElem h, List.foldl_append]; rfl
/-- Strictly ascending keys. -/
def Asc (M : List GroupD) : Prop := M.Pairwise fun a b => a.fKey < b.fKey
/-- What a list has for a key: its groups of this key, combined in order. -/
def opt : Option GroupD → GroupD → Option GroupD
  | none, g => some g
  | some h, g => some (comb h g)
def get (k : Int) (L : List GroupD) : Option GroupD := (L.filter fun g => g.fKey == k).foldl opt none
theorem get_nil (k : Int) : get k [] = none := rfl
theorem get_snoc (k : Int) (L : List GroupD) (g : GroupD) : get k (L ++ [g]) = if g.fKey = k then opt (get k L) g else get k L := by
  unfold get
  rw [List.filter_append, List.foldl_append]
  by_cases h : g.fKey = k
  · simp [h]
  · simp [h]
theorem get_next (k : Int) (L : List GroupD) (t : Nat) (h : t < L.length) : get k (L.take (t + 1)) = if L[t].fKey = k then opt (get k (L.take t)) L[t] else get k (L.take t) := by
  rw [List.take_succ_eq_append_getElem h, get_snoc]
theorem fold_opt (f : GroupD) : ∀ (L : List GroupD) (o : Option GroupD), (o = none ∨ ∃ h, o = some h) → True := fun _ _ _ => trivial
theorem get_key {k : Int} {L : List GroupD} {g : GroupD} (h : get k L = some g) : g.fKey = k := by
  unfold get at h
  have key : ∀ (M : List GroupD) (o : Option GroupD), (∀ x ∈ M, x.fKey = k) → (∀ x, o = some x → x.fKey = k) → ∀ x, M.foldl opt o = some x → x.fKey = k := by
    intro M
    induction M with
    | nil => intro o _ ho x hx; exact ho x hx
    | cons m M ih =>
      intro o hM ho x hx
      refine ih (opt o m) (fun y hy => hM y (List.mem_cons_of_mem _ hy)) (fun y hy => ?_) x hx
      cases o with
      | none => cases hy; exact hM m (List.mem_cons_self ..)
      | some z => cases hy; rw [comb_key]; exact ho z rfl
  exact key _ none (fun x hx => by simpa using (List.mem_filter.1 hx).2) (fun x hx => by cases hx) g h
theorem add_mem {M : List GroupD} {g x : GroupD} (h : x ∈ add M g) : x.fKey = g.fKey ∨ x ∈ M := by
  induction M with
  | nil => simp [add] at h; exact .inl (by rw [h])
  | cons m M ih =>
    unfold add at h
    split at h
    · rcases List.mem_cons.1 h with rfl | h
      · exact .inr (List.mem_cons_self ..)
      · exact (ih h).imp id (List.mem_cons_of_mem _)
    · split at h
      · rename_i e
        rcases List.mem_cons.1 h with rfl | h
        · exact .inl (by rw [comb_key]; exact e)
        · exact .inr (List.mem_cons_of_mem _ h)
      · rcases List.mem_cons.1 h with rfl | h
        · exact .inl rfl
        · exact .inr h
theorem add_asc {M : List GroupD} (h : Asc M) (g : GroupD) : Asc (add M g) := by
  induction M with
  | nil => simp [add, Asc]
  | cons m M ih =>
    obtain ⟨h1, h2⟩ := List.pairwise_cons.1 h
    unfold add
    split
    · rename_i hlt
      refine List.pairwise_cons.2 ⟨fun x hx => ?_, ih h2⟩
      rcases add_mem hx with e | hx
      · rw [e]; exact hlt
      · exact h1 x hx
    · split
      · exact List.pairwise_cons.2 ⟨fun x hx => by rw [comb_key]; exact h1 x hx, h2⟩
      · refine List.pairwise_cons.2 ⟨fun x hx => ?_, h⟩
        rcases List.mem_cons.1 hx with rfl | hx
        · omega
        · have := h1 x hx; omega
theorem foldl_asc (L : List GroupD) : ∀ (M : List GroupD), Asc M → Asc (L.foldl add M) := by
  induction L with
  | nil => intro M h; exact h
  | cons l L ih => intro M h; exact ih _ (add_asc h l)
theorem merge_asc (L : List GroupD) : Asc (merge L) := foldl_asc L [] List.Pairwise.nil
/-- An ascending list's group of a key. -/
def at? (k : Int) (M : List GroupD) : Option GroupD := M.find? fun g => g.fKey == k
theorem at_none {M : List GroupD} {k : Int} (h : ∀ x ∈ M, k < x.fKey) : at? k M = none := by
  unfold at?
  rw [List.find?_eq_none]
  intro x hx
  have := h x hx
  simp; omega
theorem at_add {M : List GroupD} (h : Asc M) (g : GroupD) (k : Int) : at? k (add M g) = if g.fKey = k then opt (at? k M) g else at? k M := by
  induction M with
  | nil =>
    unfold add at?
    by_cases e : g.fKey = k
    · simp [e, opt]
    · simp [e]
  | cons m M ih =>
    obtain ⟨h1, h2⟩ := List.pairwise_cons.1 h
    have ih := ih h2
    unfold add
    split
    · rename_i hlt
      by_cases e : m.fKey = k
      · have e2 : g.fKey ≠ k := by omega
        rw [if_neg e2]
        simp [at?, e]
      · have c1 : at? k (m :: add M g) = at? k (add M g) := by simp [at?, e]
        have c2 : at? k (m :: M) = at? k M := by simp [at?, e]
        rw [c1, c2, ih]
    · split
      · rename_i e0
        by_cases e : g.fKey = k
        · have e2 : m.fKey = k := by omega
          rw [if_pos e]
          simp [at?, e2, comb_key, opt]
        · have e2 : m.fKey ≠ k := by omega
          rw [if_neg e]
          simp [at?, e2, comb_key]
      · by_cases e : g.fKey = k
        · rw [if_pos e]
          have : at? k (m :: M) = none := at_none fun x hx => by
            rcases List.mem_cons.1 hx with rfl | hx
            · omega
            · have := h1 x hx; omega
          rw [this]
          simp [at?, e, opt]
        · rw [if_neg e]
          simp [at?, e]
theorem at_merge (L : List GroupD) (k : Int) : at? k (merge L) = get k L := by
  have key : ∀ t, t ≤ L.length → at? k (merge (L.take t)) = get k (L.take t) := by
    intro t
    induction t with
    | zero => intro _; rfl
    | succ t ih =>
      intro ht
      rw [merge_next L t (by omega), at_add (merge_asc _), get_next k L t (by omega), ih (by omega)]
  have := key L.length (Nat.le_refl _)
  rwa [List.take_length] at this
/-- Ascending lists that have the same for each key are equal. -/
theorem asc_mem {M : List GroupD} (h : Asc M) {g : GroupD} : g ∈ M ↔ at? g.fKey M = some g := by
  constructor
  · intro hg
    induction M with
    | nil => cases hg
    | cons m M ih =>
      obtain ⟨h1, h2⟩ := List.pairwise_cons.1 h
      rcases List.mem_cons.1 hg with rfl | hg
      · simp [at?]
      · have := h1 g hg
        have e : ¬ m.fKey = g.fKey := by omega
        have := ih h2 hg
        simp only [at?] at this ⊢
        rw [List.find?_cons_of_neg (by simpa using e)]
        exact this
  · intro hg
    exact List.mem_of_find?_eq_some hg
theorem asc_nodup {M : List GroupD} (h : Asc M) : M.Nodup := List.Pairwise.imp (fun {a b} hab e => by subst e; omega) h
theorem asc_perm {M L : List GroupD} (hM : Asc M) (hL : Asc L) (h : M.Perm L) : M = L :=
  List.Perm.eq_of_pairwise (le := fun (a b : GroupD) => a.fKey < b.fKey) (fun a b _ _ h1 h2 => by omega) hM hL h
theorem asc_ext {M L : List GroupD} (hM : Asc M) (hL : Asc L) (h : ∀ k, at? k M = at? k L) : M = L := by
  refine asc_perm hM hL ((List.perm_ext_iff_of_nodup (asc_nodup hM) (asc_nodup hL)).2 fun g => ?_)
  rw [asc_mem hM, asc_mem hL, h]
def plus : Option GroupD → Option GroupD → Option GroupD
  | none, b => b
  | some a, none => some a
  | some a, some b => some (comb a b)
theorem get_append (k : Int) (A B : List GroupD) : get k (A ++ B) = plus (get k A) (get k B) := by
  have key : ∀ t, t ≤ B.length → get k (A ++ B.take t) = plus (get k A) (get k (B.take t)) := by
    intro t
    induction t with
    | zero =>
      intro _
      simp only [List.take_zero, List.append_nil]
      show get k A = plus (get k A) none
      cases get k A <;> rfl
    | succ t ih =>
      intro ht
      rw [List.take_succ_eq_append_getElem (by omega), ← List.append_assoc, get_snoc, get_snoc, ih (by omega)]
      split
      · rename_i e
        cases h1 : get k A with
        | none => rfl
        | some a =>
          cases h2 : get k (B.take t) with
          | none => rfl
          | some b =>
            show some (comb (comb a b) _) = some (comb a (comb b _))
            rw [comb_assoc a b _ ((get_key h1).trans (get_key h2).symm) ((get_key h2).trans e.symm)]
      · rfl
  have := key B.length (Nat.le_refl _)
  rwa [List.take_length] at this
theorem asc_get {M : List GroupD} (h : Asc M) (k : Int) : get k M = at? k M := by
  induction M with
  | nil => rfl
  | cons m M ih =>
    obtain ⟨h1, h2⟩ := List.pairwise_cons.1 h
    have e : get k (m :: M) = plus (get k [m]) (get k M) := get_append k [m] M
    rw [e, ih h2]
    by_cases hk : m.fKey = k
    · have : at? k M = none := at_none fun x hx => by have := h1 x hx; omega
      rw [this]
      simp [get, hk, at?, plus, opt]
    · simp [get, hk, at?, plus]
theorem merge_parts (A B : List GroupD) : merge (merge A ++ merge B) = merge (A ++ B) := by
  refine asc_ext (merge_asc _) (merge_asc _) fun k => ?_
  rw [at_merge, at_merge, get_append, get_append, asc_get (merge_asc A), asc_get (merge_asc B), at_merge, at_merge]
theorem merge_merge (A : List GroupD) : merge (merge A) = merge A := by
  have := merge_parts A []
  simpa [merge_nil] using this
theorem add_length (M : List GroupD) (g : GroupD) : (add M g).length ≤ M.length + 1 := by
  induction M with
  | nil => simp [add]
  | cons m M ih =>
    unfold add
    split
    · simp; omega
    · split <;> simp
theorem merge_length (L : List GroupD) : (merge L).length ≤ L.length := by
  have key : ∀ t, t ≤ L.length → (merge (L.take t)).length ≤ t := by
    intro t
    induction t with
    | zero => intro _; simp [merge_nil]
    | succ t ih =>
      intro ht
      rw [merge_next L t (by omega)]
      have := add_length (merge (L.take t)) L[t]
      have := ih (by omega)
      omega
  have := key L.length (Nat.le_refl _)
  rwa [List.take_length] at this
/-- The place of a key in an ascending list: the reference's walk. -/
theorem add_place {M : List GroupD} {g : GroupD} {q : Nat} (hq : q ≤ M.length) (hlow : ∀ u x, u < q → M[u]? = some x → x.fKey < g.fKey) :
    (∀ x, M[q]? = some x → ¬ x.fKey < g.fKey) → add M g = match M[q]? with
      | some x => if x.fKey = g.fKey then M.set q (comb x g) else M.take q ++ (g :: M.drop q)
      | none => M.take q ++ (g :: M.drop q) := by
  induction M generalizing q with
  | nil =>
    intro _
    simp [add]
  | cons m M ih =>
    intro hup
    cases q with
    | zero =>
      have h0 := hup m rfl
      unfold add
      rw [if_neg h0]
      simp only [List.getElem?_cons_zero, List.take_zero, List.drop_zero, List.nil_append, List.set_cons_zero]
    | succ q =>
      have h0 := hlow 0 m (by omega) rfl
      unfold add
      rw [if_pos h0, ih (q := q) (by simp at hq; omega) (fun u x hu hx => hlow (u + 1) x (by omega) (by simpa using hx)) (fun x hx => hup x (by simpa using hx))]
      simp only [List.getElem?_cons_succ, List.take_succ_cons, List.drop_succ_cons, List.set_cons_succ, List.cons_append]
      cases M[q]? with
      | none => rfl
      | some x => simp only; split <;> rfl
theorem merge_key {L : List GroupD} {g : GroupD} (h : g ∈ merge L) : ∃ l ∈ L, l.fKey = g.fKey := by
  have key : ∀ (L M : List GroupD), g ∈ L.foldl add M → (∃ l ∈ L, l.fKey = g.fKey) ∨ ∃ l ∈ M, l.fKey = g.fKey := by
    intro L
    induction L with
    | nil => intro M h; exact .inr ⟨g, h, rfl⟩
    | cons x L ih =>
      intro M h
      rcases ih (add M x) h with ⟨l, hl, e⟩ | ⟨l, hl, e⟩
      · exact .inl ⟨l, List.mem_cons_of_mem _ hl, e⟩
      · rcases add_mem hl with e2 | hl
        · exact .inl ⟨x, List.mem_cons_self .., by omega⟩
        · exact .inr ⟨l, hl, e⟩
  rcases key L [] h with h | ⟨l, hl, -⟩
  · exact h
  · cases hl
theorem wt_len (X : List GroupD) : wtGroups X = X.length := wtAll_zero wtGroup (fun _ => rfl) X
/-- A valid group. -/
def okG (g : GroupD) : Bool := decide (0 ≤ g.fKey ∧ g.fKey ≤ 9 ∧ 1 ≤ g.fCount ∧ g.fCount ≤ 24 ∧ 0 ≤ g.fMin ∧ g.fMin ≤ g.fMax ∧ g.fMax ≤ 99 ∧ g.fCount * g.fMin ≤ g.fSum ∧ g.fSum ≤ g.fCount * g.fMax)
theorem mul_in {x y : Int} (h0 : 0 ≤ x) (h1 : x ≤ 99) (h2 : 0 ≤ y) (h3 : y ≤ 24) : -9223372036854775808 ≤ x * y ∧ x * y ≤ 9223372036854775807 := by
  have a := Int.mul_nonneg h0 h2
  have b := Int.mul_le_mul h1 h3 h2 (by omega)
  omega
end GroupD
end Go.Proofs.YtmlcdhblofjpbaaDoor
