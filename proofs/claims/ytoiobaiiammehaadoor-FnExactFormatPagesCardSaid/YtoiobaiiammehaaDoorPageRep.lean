/- Pages in memory; the marks' mathematics; no function of program or reference is walked here. -/
import Derived.Test.YtoiobaiiammehaaDoorBuilt
namespace Go.Proofs.YtoiobaiiammehaaDoor
open Go.RowKit

abbrev pageRep : Rep (List R) := seqRep rowRep
abbrev pagesRep : Rep (List (List R)) := seqRep pageRep
def mkP : Int → List (List R) → List (List R)
  | _, [] => []
  | q, p :: P => marked p.length q :: mkP (q + 3 * p.length) P
theorem mkP_length : ∀ (q : Int) (P : List (List R)), (mkP q P).length = P.length
  | _, [] => rfl
  | q, p :: P => by rw [mkP, List.length_cons, List.length_cons, mkP_length]
theorem mkP_append : ∀ (q : Int) (P Q : List (List R)), mkP q (P ++ Q) = mkP q P ++ mkP (q + 3 * P.flatten.length) Q
  | q, [], Q => by simp [mkP]
  | q, p :: P, Q => by
    rw [List.cons_append, mkP, mkP, mkP_append, List.cons_append, List.flatten_cons, List.length_append]
    congr 3
    omega
theorem mkP_next (q : Int) (P : List (List R)) (t : Nat) (ht : t < P.length) : (mkP q (P.take t) ++ P.drop t).set t (marked P[t].length (q + 3 * ((P.take t).flatten.length : Int))) = mkP q (P.take (t + 1)) ++ P.drop (t + 1) := by
  have hl : (mkP q (P.take t)).length = t := by rw [mkP_length, List.length_take]; omega
  rw [List.take_succ_eq_append_getElem ht, mkP_append, List.drop_eq_getElem_cons ht, List.set_append_right _ _ (by omega), hl, Nat.sub_self, List.set_cons_zero]
  simp [mkP]
theorem mkP_get (q : Int) (P : List (List R)) (t : Nat) (ht : t < P.length) : (mkP q P)[t]? = some (marked P[t].length (q + 3 * ((P.take t).flatten.length : Int))) := by
  have hl : (mkP q (P.take t)).length = t := by rw [mkP_length, List.length_take]; omega
  have e : P = P.take t ++ P[t] :: P.drop (t + 1) := by rw [← List.drop_eq_getElem_cons ht, List.take_append_drop]
  conv => lhs; rw [e, mkP_append]
  rw [List.getElem?_append_right (by omega), hl, Nat.sub_self, mkP]
  rfl
theorem flat_next (P : List (List R)) (t : Nat) (ht : t < P.length) : (P.take (t + 1)).flatten.length = (P.take t).flatten.length + P[t].length := by
  rw [List.take_succ_eq_append_getElem ht, List.flatten_append, List.length_append, List.flatten_cons, List.flatten_nil, List.append_nil]
theorem flat_take (P : List (List R)) (t : Nat) : (P.take t).flatten.length ≤ P.flatten.length := by
  conv => rhs; rw [← List.take_append_drop t P]
  rw [List.flatten_append, List.length_append]; omega
theorem flat_mem (P : List (List R)) (t : Nat) (ht : t < P.length) : P[t].length ≤ P.flatten.length := by
  have := flat_next P t ht
  have := flat_take P (t + 1)
  omega
theorem Stay.set {F : List Reg} {w w' : World} (h : Stay F w w') {g i : Nat} (u : Value) (hne : ∀ y ∈ F, y.b ≠ g) : Stay F w (w'.setCell ⟨g, i, none⟩ u) :=
  ⟨by simpa [World.setCell] using h.size, fun y hy j h1 h2 => ⟨(World.cell?_setCell_other _ _ _ _ (fun e => by injection e with e _ _; exact hne y hy e.symm)).trans (h.cell y hy j h1 h2).1, (World.frozen?_setCell w' _ _ _).trans (h.cell y hy j h1 h2).2⟩⟩
theorem Stay.refl (F : List Reg) (w : World) : Stay F w w := ⟨Nat.le_refl _, fun _ _ _ _ _ => ⟨rfl, rfl⟩⟩
theorem pageInfo : (Tryd.prog.info? 41).map (fun i => (i.zero, i.size, i.bytes)) = some (some (.agg #[.slice none 0 0]), 1, 24) := by kernel_rfl
theorem run_make_pages (n : Nat) (hn : n ≤ 1000000000000) (w : World) :
    (Instr.makeSlice 25 (.int .i64 (n : Int)) (.int .i64 (n : Int))).run Tryd.prog w = .ok (.slice (some ⟨w.heap.size, 0, none⟩) n n) (w.alloc (.cells (List.replicate n (Value.slice none 0 0)).toArray 41)) := by
  obtain ⟨i0, hi, hz0, hz1, hz2⟩ := info_parts pageInfo
  have h := run_make (P := Tryd.prog) w 25 41 i0 (.agg #[.slice none 0 0]) Tryd.underlying25 hi hz0 .i64 .i64 (n : Int) (n : Int) (by omega) (by omega) (by rw [hz2]; omega) (by omega)
  rw [h, hz1, Int.toNat_natCast, Nat.mul_one]
  have e : madeCells (Value.agg #[.slice none 0 0]).cells n = (List.replicate n (Value.slice none 0 0)).toArray := by
    apply Array.toList_inj.1
    exact toList_madeCells_one _ _
  rw [e]
end Go.Proofs.YtoiobaiiammehaaDoor
