/- Rows among the arguments of a law: a struct by value, and a slice of them: from the reading to the mathematics and back. -/
import Derived.Test.YtmlcdhblofjpbaaDoorMem
import Derived.Deep.Slices
import Derived.Deep.Strs
import Derived.Lib.SmallJoins
import Derived.OpenShut
namespace Go.Proofs.YtmlcdhblofjpbaaDoor
open Go Go.ChangeShapes Go.WideShapes Go.RowKit Go.Deep Go.Joins

/-- A row as a datum. -/
def R.dat {H : Type} (r : R) : DataW H := .agg [.lit (.int .i64 r.key), .lit (.int .i64 r.value), .lit (.int .i64 r.width)]
theorem intCells : Tryd.prog.cellsOf 3 = 1 := by kernel_rfl
theorem lawRowCells : Tryd.prog.cellsOf 202 = 3 := by kernel_rfl
section
variable {H : Type} {enc : TypeId × Value → H} {w : World} {base : Nat} {spare : Nat → Bool} {held : Bool}
set_option maxRecDepth 100000 in
theorem open_row {r : Reach} {b0 : Nat} {v : Value} {d : DataW H} {p : List MemPlace} (hv : Value.okWide Tryd.prog w r b0 202 v) (h : DataW.Trod enc Tryd.prog w base spare held 202 v d p) :
    ∃ q : R, v = q.val ∧ d = q.dat ∧ p = [] ∧ q.wf := by
  obtain ⟨c0, c1, c2, y0, y1, y2, m, rfl, rfl, rfl, h0, h1, h2⟩ := open_agg3 Tryd.underlying202 (by kernel_rfl) lawRowCells hv h
  obtain ⟨k0, e0, rfl, w0⟩ := DataW.trod_int Tryd.underlying3 h0
  obtain ⟨k1, e1, rfl, w1⟩ := DataW.trod_int Tryd.underlying3 h1
  obtain ⟨k2, e2, rfl, w2⟩ := DataW.trod_int Tryd.underlying3 h2
  simp only [List.cons.injEq, and_true] at e0 e1 e2
  subst e0 e1 e2
  exact ⟨⟨k0, k1, k2⟩, rfl, rfl, rfl, bounds_i64 w0, bounds_i64 w1, bounds_i64 w2⟩
theorem lit_wf {n : Int} (h : -9223372036854775808 ≤ n ∧ n ≤ 9223372036854775807) : (Lit.int .i64 n).wf = true := by
  have e0 : IntKind.i64.min = -9223372036854775808 := by decide
  have e1 : IntKind.i64.max = 9223372036854775807 := by decide
  simp [Lit.wf, e0, e1, h.1, h.2]
set_option maxRecDepth 100000 in
theorem shut_row (q : R) (hq : q.wf) : DataW.Trod enc Tryd.prog w base spare held 202 q.val q.dat [] :=
  shut_agg3 (y0 := (.lit (.int .i64 q.key), [])) (y1 := (.lit (.int .i64 q.value), [])) (y2 := (.lit (.int .i64 q.width), [])) Tryd.underlying202 (by kernel_rfl) lawRowCells
    ⟨1, by simp [DataW.trod, Tryd.underlying3, lit_wf hq.1]⟩ ⟨1, by simp [DataW.trod, Tryd.underlying3, lit_wf hq.2.1]⟩ ⟨1, by simp [DataW.trod, Tryd.underlying3, lit_wf hq.2.2]⟩

set_option maxRecDepth 100000 in
theorem open_rows {a : Option Addr} {len cap : Nat} {d : DataW H} {p : List MemPlace} (h : DataW.Trod enc Tryd.prog w 0 spare held 179 (.slice a len cap) d p) : len ≤ maxLen ∧ ∃ L : List R, IsRows w a len L := by
  obtain ⟨fuel, hf⟩ := h
  rcases open_slice Tryd.underlying179 hf with ⟨hcs, _⟩ | ⟨x, l, c, m, n, D, Pl, hcs, _, hl, hm, hmm, _, hi⟩
  · simp [Value.cells] at hcs
    obtain ⟨rfl, rfl, rfl⟩ := hcs
    exact ⟨Nat.zero_le _, [], rfl, (fun r hr => by cases hr), .inl rfl⟩
  · simp [Value.cells] at hcs
    obtain ⟨rfl, rfl, rfl⟩ := hcs
    have hlm : len ≤ m := by rw [hmm]; split <;> omega
    refine ⟨Nat.le_trans hl hm, ?_⟩
    rw [lawRowCells] at hi
    have hone : ∀ i, i < len → ∃ r : R, r.wf ∧ w.cell? (x.add (i * 3)) = some (.int .i64 r.key) ∧ w.cell? (x.add (i * 3 + 1)) = some (.int .i64 r.value) ∧ w.cell? (x.add (i * 3 + 2)) = some (.int .i64 r.width) := by
      intro i hil
      obtain ⟨cs', hc, ht⟩ := hi i (by omega)
      obtain ⟨_, hcl, hat⟩ := World.cells?_some hc
      obtain ⟨y0, y1, y2, k, _, _, h0, h1, h2⟩ := trod_struct3 Tryd.underlying202 ht
      match cs', hcl with
      | [c0, c1, c2], _ =>
        obtain ⟨k0, e0, rfl, w0⟩ := DataW.trod_int Tryd.underlying3 h0
        obtain ⟨k1, e1, rfl, w1⟩ := DataW.trod_int Tryd.underlying3 h1
        obtain ⟨k2, e2, rfl, w2⟩ := DataW.trod_int Tryd.underlying3 h2
        simp [intCells] at e0 e1 e2
        subst e0 e1 e2
        have q0 := hat 0 (by omega)
        have q1 := hat 1 (by omega)
        have q2 := hat 2 (by omega)
        rw [add_add] at q0 q1 q2
        exact ⟨⟨k0, k1, k2⟩, ⟨bounds_i64 w0, bounds_i64 w1, bounds_i64 w2⟩, q0, q1, q2⟩
    obtain ⟨f, hf'⟩ := choose_lt hone
    refine ⟨(List.range len).map f, by simp, fun r hr => ?_, ?_⟩
    · obtain ⟨i, hil, rfl⟩ := List.mem_map.1 hr
      exact (hf' i (List.mem_range.1 hil)).1
    · by_cases h0 : len = 0
      · exact .inl h0
      · right
        obtain ⟨b, o, spot⟩ := x
        have hspot : spot = none := by simpa [Addr.add] using World.cell?_spot (hf' 0 (by omega)).2.1
        subst hspot
        have hb : b < w.heap.size := by
          have := World.block_lt_of_cell? w _ (hf' 0 (by omega)).2.1
          simpa [Addr.add] using this
        refine ⟨b, o, rfl, hb, fun t ht => ?_⟩
        have hg : ((List.range len).map f).getD t R.zero = f t := by simp [List.getD, ht]
        rw [hg]
        obtain ⟨_, q0, q1, q2⟩ := hf' t ht
        have ha : ∀ j, (⟨b, o, none⟩ : Addr).add j = ⟨b, o + j, none⟩ := by
          intro j
          by_cases hj : j = 0
          · subst hj; simp [Addr.add]
          · simp [Addr.add, hj]
        rw [ha] at q0 q1 q2
        exact ⟨q0, q1, q2⟩
end
end Go.Proofs.YtmlcdhblofjpbaaDoor
