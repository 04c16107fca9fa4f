/- Arguments of whatever shape: from the reading to the mathematics, by the type; no function of program or reference is walked here. -/
import Derived.Test.YtjdjceohlcimaaaMem
import Derived.Test.YtjdjceohlcimaaaOpenRow
namespace Go.Proofs.Ytjdjceohlcimaaa
open Go Go.ChangeShapes Go.WideShapes Go.RowKit Go.Deep Go.Joins

/-- Whatever reads as a value of the type is of this shape. -/
def Opens (T : TypeId) {α : Type} (r : Rep α) : Prop :=
  ∀ (H : Type) (enc : TypeId × Value → H) (w : World) (spare : Nat → Bool) (held : Bool) (fuel : Nat) (cs : List Value) (x : DataW H × List MemPlace), DataW.trod enc Try.prog w 0 spare held fuel T cs = some x → cs.length = r.size → ∃ (y : α) (h : r.H), cs = r.cells y h ∧ r.inn w y h
set_option maxRecDepth 100000 in
theorem Opens.seq {T e : TypeId} {α : Type} {r : Rep α} (ht : Try.prog.underlying T = some (.slice e)) (hc : Try.prog.cellsOf e = r.size) (hp : 0 < r.size) (hO : Opens e r) : Opens T (seqRep r) := by
  intro H enc w spare held fuel cs x h _
  rcases open_slice ht h with ⟨rfl, -⟩ | ⟨a, len, cap, m, n, D, Pl, rfl, -, hl, hm, hmm, -, hi⟩
  · exact ⟨[], (none, 0, 0), rfl, ⟨rfl, Nat.zero_le _, .inl rfl⟩, fun _ => rfl⟩
  · have hlm : len ≤ m := by rw [hmm]; split <;> omega
    rw [hc] at hi
    rcases Nat.eq_zero_or_pos len with h0 | h0
    · subst h0
      exact ⟨[], (some a, 0, cap), rfl, ⟨rfl, Nat.zero_le _, .inl rfl⟩, fun e => by cases e⟩
    · have hone : ∀ i, i < len → ∃ (yh : α × r.H), (∀ j u, (r.cells yh.1 yh.2)[j]? = some u → w.cell? (a.add (i * r.size + j)) = some u) ∧ r.inn w yh.1 yh.2 := by
        intro i hil
        obtain ⟨cs', hcs, htr⟩ := hi i (by omega)
        obtain ⟨_, hcl, hat⟩ := World.cells?_some hcs
        obtain ⟨y, hd, rfl, hin⟩ := hO H enc w spare held n cs' _ htr hcl
        refine ⟨(y, hd), fun j u hj => ?_, hin⟩
        have hjl : j < r.size := by rw [← hcl]; exact idx_lt hj
        have := hat j hjl
        rw [add_add] at this
        rw [this]
        exact hj
      obtain ⟨yh0, -⟩ := hone 0 h0
      obtain ⟨f, hf⟩ := @choose_lt (α × r.H) ⟨yh0⟩ len _ hone
      obtain ⟨b, o, spot⟩ := a
      have hl0 : 0 < (r.cells (f 0).1 (f 0).2).length := by rw [r.len]; exact hp
      have hcell0 := (hf 0 h0).1 0 ((r.cells (f 0).1 (f 0).2)[0]) (by simp [hl0])
      have hspot : spot = none := by simpa [Addr.add] using World.cell?_spot hcell0
      subst hspot
      have hb : b < w.heap.size := by
        have := World.block_lt_of_cell? w _ hcell0
        simpa [Addr.add] using this
      refine ⟨(List.range len).map fun t => (f t).1, (some ⟨b, o, none⟩, len, cap), rfl, ⟨by simp, by show len ≤ maxLen; omega, .inr ⟨b, o, rfl, hb, fun t => (f t).2, fun t x hx => ?_⟩⟩, fun e => by cases e⟩
      have htl : t < len := by simpa using idx_lt hx
      obtain rfl : (f t).1 = x := by simpa [htl] using hx
      refine ⟨fun j u hj => ?_, (hf t htl).2⟩
      have := (hf t htl).1 j u hj
      rw [Addr.add_lit] at this
      rw [Nat.add_assoc]
      exact this
/-- A field of a struct that is read. -/
theorem field_at {H : Type} {enc : TypeId × Value → H} {w : World} {spare : Nat → Bool} {held : Bool} {m : Nat} {fs : Array Field} {xs : List (DataW H × List MemPlace)} {cs : List Value}
    (hf : ∀ (i : Nat) (f : Field), fs[i]? = some f → DataW.trod enc Try.prog w 0 spare held m f.type ((cs.drop f.offset).take (Try.prog.cellsOf f.type)) = xs[i]?) (hl : xs.length = fs.size) (i : Nat) (f : Field) (e : fs[i]? = some f) (o k : Nat) (ho : f.offset = o) (hk : Try.prog.cellsOf f.type = k) :
    ∃ x, DataW.trod enc Try.prog w 0 spare held m f.type ((cs.drop o).take k) = some x := by
  have hi : i < xs.length := by rw [hl]; exact (Array.getElem?_eq_some_iff.1 e).1
  have := hf i f e
  rw [List.getElem?_eq_getElem hi, ho, hk] at this
  exact ⟨_, this⟩
set_option maxRecDepth 100000 in
theorem Opens.one {T : TypeId} {f0 : Field} {α : Type} {r : Rep α} (hs : Try.prog.underlying T = some (.struct #[f0])) (ho : f0.offset = 0) (hc : Try.prog.cellsOf f0.type = r.size) (hO : Opens f0.type r) : Opens T r := by
  intro H enc w spare held fuel cs x h hl
  obtain ⟨y0, n, -, -, h0⟩ := trod_struct1 hs h
  rw [ho, hc, List.drop_zero, List.take_of_length_le (by omega)] at h0
  exact hO H enc w spare held n cs _ h0 hl

set_option maxRecDepth 100000 in
theorem Opens.val {T : TypeId} {fs : Array Field} {α : Type} {r : Rep α} (hO : Opens T r) (hs : Try.prog.underlying T = some (.struct fs)) (hc : Try.prog.cellsOf T = r.size)
    {H : Type} {enc : TypeId × Value → H} {w : World} {spare : Nat → Bool} {held : Bool} {q : Reach} {b0 : Nat} {v : Value} {d : DataW H} {p : List MemPlace} (hv : Value.okWide Try.prog w q b0 T v) (h : DataW.Trod enc Try.prog w 0 spare held T v d p) :
    ∃ (y : α) (hd : r.H), v = .agg (r.cells y hd).toArray ∧ r.inn w y hd := by
  obtain ⟨cs, rfl, hsz⟩ := okWide_struct hs hv
  obtain ⟨fuel, hf⟩ := h
  obtain ⟨y, hd, e, hi⟩ := hO H enc w spare held fuel _ _ hf (by simpa [Value.cells] using hsz.trans hc)
  refine ⟨y, hd, ?_, hi⟩
  simp only [Value.cells] at e
  rw [← e]

set_option maxRecDepth 100000 in
theorem Opens.arg {T : TypeId} {α : Type} {r : Rep α} (hO : Opens T (seqRep r)) {H : Type} {enc : TypeId × Value → H} {w : World} {spare : Nat → Bool} {held : Bool} {a : Option Addr} {len cap : Nat} {d : DataW H} {p : List MemPlace}
    (h : DataW.Trod enc Try.prog w 0 spare held T (.slice a len cap) d p) : ∃ xs : List α, SeqIn r w a len xs := by
  obtain ⟨fuel, hf⟩ := h
  obtain ⟨y, ⟨a', n', c'⟩, e, hi⟩ := hO H enc w spare held fuel _ _ hf (by simp [Value.cells, seqRep])
  simp [Value.cells, seqRep] at e
  obtain ⟨rfl, rfl, rfl⟩ := e
  exact ⟨y, hi.1⟩
end Go.Proofs.Ytjdjceohlcimaaa
