/- Rows of strings that a call made itself: what one append adds, and what lies there; no function of the program. -/
import Derived.Test.YtoiobaiiammehaaDoorKit
import Derived.Lib.SmallJoins
import Derived.Deep.OwnRows
namespace Go.Proofs.YtoiobaiiammehaaDoor
open Go.RowKit

/-- A row of strings as cells. -/
def strs (l : List (List UInt8)) : List Value := l.map fun p => Value.string ⟨p.toArray⟩
theorem strs_length (l : List (List UInt8)) : (strs l).length = l.length := by simp [strs]
theorem strs_snoc (l : List (List UInt8)) (p : List UInt8) (s : ByteArray) (h : s = ⟨p.toArray⟩) : strs l ++ [Value.string s] = strs (l ++ [p]) := by subst h; simp [strs]
theorem strs_get (l : List (List UInt8)) (j : Nat) (hj : j < l.length) : (strs l)[j]? = some (Value.string ⟨l[j].toArray⟩) := by simp [strs, hj]
theorem str_info : (Tryd.prog.info? 9).map (fun i => (i.zero, i.size, i.bytes)) = some (some (.string ByteArray.empty), 1, 16) := by kernel_rfl
/-- A piece of a string. -/
theorem piece (s : ByteArray) (a b : Nat) : s.extract a b = ⟨((s.data.toList.take b).drop a).toArray⟩ := by
  apply ByteArray.ext
  apply Array.toList_inj.1
  simp [List.drop_take]
/-- 'out = append(out, s)'. -/
theorem wpList_pushS {ops : Array Oper} {rest : List Oper} {o : Oper} {a : Act} {Q : Exit → Act → World → Prop} {wr : World} {B : Nat} {out : List (List UInt8)} {v : Value} (s x : Operand) (p : List UInt8) (b : ByteArray)
    (hgd : o.guard = none) (ho : o.op = .call { callee := .builtin .append, args := #[s, x], argTypes := #[54, 54] })
    (hs : a.eval s = v) (hx : a.eval x = .slice (some ⟨wr.heap.size, 0, none⟩) 1 1) (hown : wr.ownsRow B 9 1 v out.length (strs out)) (hB : B ≤ wr.heap.size)
    (hlen : (out.length + 1) * 16 ≤ 140737488355328) (hb : b = ⟨p.toArray⟩)
    (h : ∀ v' w', w'.ownsRow B 9 1 v' (out ++ [p]).length (strs (out ++ [p])) → Below B wr w' → wpList Tryd.prog ops Q rest (a.put o.dst v') w') :
    wpList Tryd.prog ops Q (o :: rest) a (wr.alloc (.cells #[.string b] 9)) := by
  obtain ⟨i0, hi, hz0, hz1, hz2⟩ := info_parts str_info
  refine wpList_append_own _ hgd s x 54 ho B 9 i0 (.string ByteArray.empty) 1 16 Tryd.underlying54 hi hz0 hz1 hz2 rfl (by decide) v out.length (strs out) hs (hown.alloc _)
    ⟨wr.heap.size, 0, none⟩ 1 1 [.string b] hx rfl (cell_new1 _ _ _) (by intro u hu; simp at hu; subst hu; rfl) (by unfold maxLen; omega) (by omega) (by simp; omega) ?_
  intro v' w' hown' hg _
  rw [strs_snoc out p b hb] at hown'
  exact h v' w' (by simpa using hown') (((Below.refl B wr).alloc hB _).grown hg (by simp; omega) fun k hk => (hown.lt k hk).1)
/-- A slice of strings: its cells hold them. -/
def IsStrs (w : World) (g : Nat) (l : List (List UInt8)) : Prop := (∃ cs fz, w.heap[g]? = some (.cells cs 9 fz)) ∧ ∀ t (h : t < l.length), w.cell? ⟨g, t, none⟩ = some (.string ⟨l[t].toArray⟩)
theorem IsStrs.lt {w : World} {g : Nat} {l : List (List UInt8)} (h : IsStrs w g l) : g < w.heap.size := by
  obtain ⟨⟨cs, fz, h⟩, -⟩ := h
  exact lt_of_block h
theorem IsStrs.same {w w' : World} {g : Nat} {l : List (List UInt8)} (h : IsStrs w g l) (hb : w'.heap[g]? = w.heap[g]?) : IsStrs w' g l :=
  ⟨by obtain ⟨⟨cs, fz, h⟩, -⟩ := h; exact ⟨cs, fz, hb.trans h⟩, fun t ht => (World.cell?_of_block hb).trans (h.2 t ht)⟩
theorem IsStrs.below {w w' : World} {g B : Nat} {l : List (List UInt8)} (h : IsStrs w g l) (hb : Below B w w') (hg : g < B) : IsStrs w' g l := h.same (hb.block g hg)
theorem IsStrs.keep {w w' : World} {g : Nat} {l : List (List UInt8)} (h : IsStrs w g l) (hb : Below w.heap.size w w') : IsStrs w' g l := h.below hb h.lt
theorem IsStrs.other {w : World} {g g' i : Nat} {l : List (List UInt8)} (h : IsStrs w g l) (hne : g ≠ g') (u : Value) : IsStrs (w.setCell ⟨g', i, none⟩ u) g l := h.same (Below.heap_setCell _ _ _ _ (fun e => hne e))
theorem strs_of_own {w : World} {B : Nat} {v : Value} {l : List (List UInt8)} (h : w.ownsRow B 9 1 v l.length (strs l)) (hl : 0 < l.length) : ∃ g cap, v = .slice (some ⟨g, 0, none⟩) l.length cap ∧ B ≤ g ∧ IsStrs w g l := by
  have h' := h
  obtain ⟨g, cap, rfl⟩ := Joins.ownsRow_form h hl
  have hc : ∀ t (ht : t < l.length), w.cell? ⟨g, t, none⟩ = some (.string ⟨l[t].toArray⟩) := fun t ht => by
    have := h.cells (g := g) rfl t _ (strs_get l t ht)
    by_cases h0 : t = 0
    · subst h0; simpa [Addr.add] using this
    · simpa [Addr.add, h0] using this
  refine ⟨g, cap, rfl, ?_, ?_, hc⟩
  · exact (h.lt g rfl).1
  · rcases h'.2 with ⟨h0, _⟩ | ⟨g', cap', cur, h0, _, hh, _⟩
    · cases h0
    · cases h0
      exact ⟨cur, _, hh⟩
/-- 'make([]string, n)'. -/
theorem run_make_strs (n : Nat) (hn : n ≤ 1000000000000) (w : World) :
    (Instr.makeSlice 54 (.int .i64 (n : Int)) (.int .i64 (n : Int))).run Tryd.prog w = .ok (.slice (some ⟨w.heap.size, 0, none⟩) n n) (w.alloc (.cells (strs (List.replicate n [])).toArray 9)) := by
  have h := run_make_row' (P := Tryd.prog) 54 9 (.string ByteArray.empty) 16 Tryd.underlying54 str_info rfl .i64 .i64 n (by omega) (by omega) w
  rw [h]
  have e : madeCells #[Value.string ByteArray.empty] n = (strs (List.replicate n [])).toArray := by
    apply Array.toList_inj.1
    rw [toList_madeCells_one]
    simp only [strs, List.map_replicate]
    rfl
  rw [e]
theorem strs_block {w : World} {g : Nat} {M : List (List UInt8)} {t : TypeId} (h : w.heap[g]? = some (.cells (strs M).toArray t (0, 0))) (k : Nat) (hk : k < M.length) : w.cell? ⟨g, k, none⟩ = some (.string ⟨M[k].toArray⟩) ∧ w.frozen? ⟨g, k, none⟩ = false := by
  refine ⟨?_, by simp [World.frozen?, h]⟩
  simp only [World.cell?, h]
  rw [List.getElem?_toArray]
  exact strs_get M k hk
theorem strs_set {w : World} {g : Nat} {M : List (List UInt8)} {t : TypeId} (h : w.heap[g]? = some (.cells (strs M).toArray t (0, 0))) (k : Nat) (x : List UInt8) : (w.setCell ⟨g, k, none⟩ (.string ⟨x.toArray⟩)).heap[g]? = some (.cells (strs (M.set k x)).toArray t (0, 0)) := by
  rw [Joins.block_setCell h (i := k)]
  congr 2
  simp [strs, List.map_set]
theorem set_next' {α : Type} (F : List α) (z : α) (n k : Nat) (x : α) (hk : k < n) (hF : F.length = k) : (F ++ List.replicate (n - k) z).set k x = (F ++ [x]) ++ List.replicate (n - (k + 1)) z := by
  have e : n - k = (n - (k + 1)) + 1 := by omega
  rw [List.set_append_right _ _ (by omega), hF, Nat.sub_self, e, List.replicate_succ, List.set_cons_zero, List.append_assoc]
  rfl
end Go.Proofs.YtoiobaiiammehaaDoor
