/- Pages in memory: their shape, what a call gives, their heads; no function of program or reference is walked here. -/
import Derived.Test.YtmlcdhblofjpbaaDoorApart
namespace Go.Proofs.YtmlcdhblofjpbaaDoor
open Go.RowKit

abbrev pageRep : Rep (List R) := seqRep rowRep
abbrev pagesRep : Rep (List (List R)) := seqRep pageRep
def mkP : Int → List (List R) → List (List R)
  | _, [] => []
  | q, p :: P => marked p.length q :: mkP (q + 3 * p.length) P
theorem mkP_length : ∀ (q : Int) (P : List (List R)), (mkP q P).length = P.length
  | _, [] => rfl
  | q, p :: P => by rw [mkP, List.length_cons, List.length_cons, mkP_length]
theorem mkP_append : ∀ (q : Int) (P Q : List (List R)), mkP q (P ++ Q) = mkP q P ++ mkP (q + 3 * P.flatten.length) Q
  | q, [], Q => by simp [mkP]
  | q, p :: P, Q => by
    rw [List.cons_append, mkP, mkP, mkP_append, List.cons_append, List.flatten_cons, List.length_append]
    congr 3
    omega
theorem mkP_next (q : Int) (P : List (List R)) (t : Nat) (ht : t < P.length) : (mkP q (P.take t) ++ P.drop t).set t (marked P[t].length (q + 3 * ((P.take t).flatten.length : Int))) = mkP q (P.take (t + 1)) ++ P.drop (t + 1) := by
  have hl : (mkP q (P.take t)).length = t := by rw [mkP_length, List.length_take]; omega
  rw [List.take_succ_eq_append_getElem ht, mkP_append, List.drop_eq_getElem_cons ht, List.set_append_right _ _ (by omega), hl, Nat.sub_self, List.set_cons_zero]
  simp [mkP]
theorem mkP_get (q : Int) (P : List (List R)) (t : Nat) (ht : t < P.length) : (mkP q P)[t]? = some (marked P[t].length (q + 3 * ((P.take t).flatten.length : Int))) := by
  have hl : (mkP q (P.take t)).length = t := by rw [mkP_length, List.length_take]; omega
  have e : P = P.take t ++ P[t] :: P.drop (t + 1) := by rw [← List.drop_eq_getElem_cons ht, List.take_append_drop]
  conv => lhs; rw [e, mkP_append]
  rw [List.getElem?_append_right (by omega), hl, Nat.sub_self, mkP]
  rfl
theorem flat_next (P : List (List R)) (t : Nat) (ht : t < P.length) : (P.take (t + 1)).flatten.length = (P.take t).flatten.length + P[t].length := by
  rw [List.take_succ_eq_append_getElem ht, List.flatten_append, List.length_append, List.flatten_cons, List.flatten_nil, List.append_nil]
theorem flat_take (P : List (List R)) (t : Nat) : (P.take t).flatten.length ≤ P.flatten.length := by
  conv => rhs; rw [← List.take_append_drop t P]
  rw [List.flatten_append, List.length_append]; omega
theorem flat_mem (P : List (List R)) (t : Nat) (ht : t < P.length) : P[t].length ≤ P.flatten.length := by
  have := flat_next P t ht
  have := flat_take P (t + 1)
  omega
theorem pageInfo : (Tryd.prog.info? 72).map (fun i => (i.zero, i.size, i.bytes)) = some (some (.agg #[.slice none 0 0]), 1, 24) := by kernel_rfl
theorem run_make_pages (n : Nat) (hn : n ≤ 1000000000000) (w : World) :
    (Instr.makeSlice 67 (.int .i64 (n : Int)) (.int .i64 (n : Int))).run Tryd.prog w = .ok (.slice (some ⟨w.heap.size, 0, none⟩) n n) (w.alloc (.cells (List.replicate n (Value.slice none 0 0)).toArray 72)) := by
  obtain ⟨i0, hi, hz0, hz1, hz2⟩ := info_parts pageInfo
  have h := run_make (P := Tryd.prog) w 67 72 i0 (.agg #[.slice none 0 0]) Tryd.underlying67 hi hz0 .i64 .i64 (n : Int) (n : Int) (by omega) (by omega) (by rw [hz2]; omega) (by omega)
  rw [h, hz1, Int.toNat_natCast, Nat.mul_one]
  have e : madeCells (Value.agg #[.slice none 0 0]).cells n = (List.replicate n (Value.slice none 0 0)).toArray := by
    apply Array.toList_inj.1
    exact toList_madeCells_one _ _
  rw [e]
end Go.Proofs.YtmlcdhblofjpbaaDoor
namespace Go.Proofs.YtmlcdhblofjpbaaDoor
open Go.RowKit

/-- Pages' heads in a block of the call's own. -/
def Heads (w : World) (B : Nat) (v : Value) (cs : List Value) : Prop := w.ownsRow B 72 1 v cs.length cs
/-- 'out = append(out, p)'. -/
theorem wpList_pushP {ops : Array Oper} {rest : List Oper} {o : Oper} {a : Act} {Q : Exit → Act → World → Prop} {wr : World} {B : Nat} {cs : List Value} {v h : Value} (s x : Operand) (N : Nat) (hN : N = wr.heap.size)
    (hgd : o.guard = none) (ho : o.op = .call { callee := .builtin .append, args := #[s, x], argTypes := #[67, 67] })
    (hs : a.eval s = v) (hx : a.eval x = .slice (some ⟨N, 0, none⟩) 1 1) (hown : Heads wr B v cs) (hB : B ≤ wr.heap.size) (hlen : cs.length + 1 ≤ 1000000000000) (h1 : h.oneCell' = true)
    (h' : ∀ g c w', Heads w' B (.slice (some ⟨g, 0, none⟩) (cs.length + 1) c) (cs ++ [h]) → wr.grownBy w' v.ownBlock → (v.ownBlock = some g ∨ wr.heap.size ≤ g) → wpList Tryd.prog ops Q rest (a.put o.dst (.slice (some ⟨g, 0, none⟩) (cs.length + 1) c)) w') :
    wpList Tryd.prog ops Q (o :: rest) a (wr.alloc (.cells #[h] 72)) := by
  subst hN
  obtain ⟨i0, hi, hz0, hz1, hz2⟩ := info_parts pageInfo
  refine wpList_append_lies _ hgd s x 67 ho B 72 i0 (.agg #[.slice none 0 0]) 1 24 Tryd.underlying67 hi hz0 hz1 hz2 rfl (by decide) v cs.length cs hs (World.ownsRow.alloc hown _)
    ⟨wr.heap.size, 0, none⟩ 1 1 [h] hx rfl ?_ (fun u hu => by rw [List.mem_singleton.1 hu]; exact h1) (by omega) (by unfold maxLen; omega) (by omega) (by simp; omega) _ rfl ?_
  · exact World.news_of_block (heap_alloc_new wr (.cells #[h] 72))
  · intro g c w' hown' hg hat _
    refine h' g c w' ?_ ((World.grownBy_alloc wr _ _).trans hg) ?_
    · unfold Heads
      rw [List.length_append]
      exact hown'
    · rcases hat with hat | hat
      · exact .inl hat
      · refine .inr ?_
        rw [hat]
        simp
theorem heads_zero (w : World) (B : Nat) (hB : B ≤ w.heap.size) : Heads (w.alloc (.cells #[] 72)) B (.slice (some ⟨w.heap.size, 0, none⟩) 0 0) [] :=
  World.ownsRow_made w #[] 0 hB (Nat.zero_le _) (by simp)
theorem Heads.keep {w w' : World} {B : Nat} {v : Value} {cs : List Value} (h : Heads w B v cs) (hb : Below w.heap.size w w') : Heads w' B v cs := by
  obtain ⟨h1, h0 | ⟨g, cap, cur, rfl, hB, hh, h2⟩⟩ := h
  · exact ⟨h1, .inl h0⟩
  · exact ⟨h1, .inr ⟨g, cap, cur, rfl, hB, (hb.block g (lt_of_block hh)).trans hh, h2⟩⟩
theorem Heads.far {w w' : World} {B : Nat} {v : Value} {cs : List Value} (h : Heads w B v cs) (hb : ∀ k, v.ownBlock = some k → k < w.heap.size → w'.heap[k]? = w.heap[k]?) : Heads w' B v cs := by
  obtain ⟨h1, h0 | ⟨g, cap, cur, rfl, hB, hh, h2⟩⟩ := h
  · exact ⟨h1, .inl h0⟩
  · exact ⟨h1, .inr ⟨g, cap, cur, rfl, hB, (hb g rfl (lt_of_block hh)).trans hh, h2⟩⟩
theorem Heads.own {w : World} {B : Nat} {v : Value} {cs : List Value} (h : Heads w B v cs) : ∀ k, v.ownBlock = some k → B ≤ k ∧ k < w.heap.size := fun k hk => World.ownsRow.lt h k hk
theorem Heads.cells {w : World} {B g n c : Nat} {cs : List Value} (h : Heads w B (.slice (some ⟨g, 0, none⟩) n c) cs) : n = cs.length ∧ g < w.heap.size ∧ (∀ j, w.frozen? ⟨g, j, none⟩ = false) ∧ ∀ j u, cs[j]? = some u → w.cell? ⟨g, j, none⟩ = some u := by
  obtain ⟨h1, ⟨h0, -⟩ | ⟨g', cap, cur, hv, hB, hh, hcap, hmax, hsz, htake⟩⟩ := h
  · injection h0 with e1; cases e1
  · injection hv with e1 e2 e3
    injection e1 with e1
    injection e1 with e1 _ _
    subst e1
    refine ⟨e2, lt_of_block hh, fun j => by simp [World.frozen?, hh], fun j u hj => ?_⟩
    have hjl : j < cs.length * 1 := by rw [Nat.mul_one]; exact idx_lt hj
    rw [← htake, List.getElem?_take, if_pos (by omega)] at hj
    simp only [World.cell?, hh]
    simpa using hj
theorem Heads.slice {w : World} {B : Nat} {v : Value} {cs : List Value} (h : Heads w B v cs) : ∃ a c, v = .slice a cs.length c := by
  obtain ⟨h1, ⟨rfl, h0⟩ | ⟨g, cap, cur, rfl, -⟩⟩ := h
  · exact ⟨none, 0, by rw [h0]⟩
  · exact ⟨_, _, rfl⟩
/-- The pages as a slice in memory of the call's own. -/
theorem pages_done {w : World} {B : Nat} {a : Option Addr} {n c : Nat} {es : List (El pageRep)} (hh : Heads w B (.slice a n c) (cellsOf es)) (hall : OwnAll pageRep w B es) (hne : ∀ e ∈ es, ∀ y ∈ e.F, (Value.slice a n c).ownBlock ≠ some y.b) (hm : es.length ≤ maxLen) :
    ∃ F, SeqOwn pageRep w B a n (es.map El.x) F := by
  have hcl : (cellsOf es).length = es.length := by rw [cellsOf_length]; exact Nat.mul_one _
  rcases Nat.eq_zero_or_pos es.length with h0 | h0
  · obtain rfl : es = [] := List.eq_nil_of_length_eq_zero h0
    obtain ⟨a', c', e⟩ := hh.slice
    injection e with _ e2 _
    have hn : n = 0 := e2
    exact ⟨[], by rw [hn]; rfl, by omega, .inl ⟨hn, rfl⟩⟩
  · rcases hh.2 with ⟨e, hz⟩ | ⟨g, cap, cur, e, hB, hb, -⟩
    · have := hcl; omega
    · injection e with e1 e2 e3
      subst e1
      obtain ⟨hn, hgl, hf, hc⟩ := Heads.cells hh
      obtain ⟨F, hF⟩ := hall.done hB hgl hf hc (fun e he y hy e2 => hne e he y hy (by rw [e2]; rfl)) hm
      exact ⟨F, by rw [hn, hcl]; exact hF⟩
end Go.Proofs.YtmlcdhblofjpbaaDoor
