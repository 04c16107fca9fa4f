/- The reader of the drawn code (l1New, l1Byte, l1Below): what it answers and what it leaves alone. -/
import Derived.Test.YtedfjpfppipfhaaKit
import Derived.Test.YtedfjpfppipfhaaBits
import Derived.Deep.QuietTactic
import Derived.BigQuiet
import Derived.OpenShut
namespace Go.Proofs.Ytedfjpfppipfhaa
open Go.RowKit

/-- What the walk is told of a slice of integers that came in: nil, or a row of cells. -/
def IsRow (k : IntKind) (w : World) (a : Option Addr) (len cap : Nat) (zs : List Int) : Prop :=
  (a = none ∧ len = 0 ∧ cap = 0 ∧ zs = []) ∨
  ∃ x, a = some x ∧ len ≤ cap ∧ cap ≤ maxLen ∧ zs.length = cap ∧ (∀ i, i < zs.length → w.cell? (x.add i) = some (.int k (zs.getD i 0))) ∧ ∀ n ∈ zs, (Lit.int k n).wf = true

/-- Only block c has changed, and what is new. -/
def Only (c : Nat) (w w' : World) : Prop := w.grownBy w' (some c)
theorem Only.refl (c : Nat) (w : World) : Only c w w := World.grownBy.refl w _
theorem Only.trans {c : Nat} {a b d : World} (h : Only c a b) (k : Only c b d) : Only c a d :=
  ⟨k.os.trans h.os, k.tape.trans h.tape, k.output.trans h.output, Nat.le_trans h.size k.size, fun i hi hne => (k.block i (Nat.lt_of_lt_of_le hi h.size) hne).trans (h.block i hi hne)⟩
theorem Only.drew {c : Nat} {a w : World} (h : Only c a w) : Only c a w.drew := ⟨h.os, h.tape, h.output, h.size, h.block⟩
theorem Only.drewN {c : Nat} {a w : World} (h : Only c a w) (n : Nat) : Only c a (w.drewN n) := ⟨h.os, h.tape, h.output, h.size, h.block⟩
theorem Only.alloc {c : Nat} {a w : World} (h : Only c a w) (o : Obj) : Only c a (w.alloc o) :=
  ⟨h.os, h.tape, h.output, Nat.le_trans h.size (by simp), fun i hi hne => (Below.heap_alloc w o i (Nat.lt_of_lt_of_le hi h.size)).trans (h.block i hi hne)⟩
theorem Only.setCell {c : Nat} {a w : World} (h : Only c a w) (i : Nat) (u : Value) : Only c a (w.setCell ⟨c, i, none⟩ u) :=
  ⟨h.os, h.tape, h.output, by simpa [World.setCell] using h.size, fun k hk hne => (Below.heap_setCell w ⟨c, i, none⟩ u k (fun e => hne (by rw [e]))).trans (h.block k hk hne)⟩
theorem Only.of_below {c : Nat} {a w : World} (h : Below a.heap.size a w) : Only c a w := ⟨h.os, h.tape, h.output, h.size, fun i hi _ => h.block i hi⟩
/-- A step that keeps all that was there at a's time. -/
theorem Only.step {c : Nat} {a b d : World} (h : Only c a b) (k : Below a.heap.size b d) : Only c a d :=
  ⟨k.os.trans h.os, k.tape.trans h.tape, k.output.trans h.output, Nat.le_trans h.size k.size, fun i hi hne => (k.block i hi).trans (h.block i hi hne)⟩
theorem Only.below {c B : Nat} {a b : World} (h : Only c a b) (hB : B ≤ a.heap.size) (hc : B ≤ c) : Below B a b :=
  ⟨h.os, h.tape, h.output, h.size, fun i hi => h.block i (Nat.lt_of_lt_of_le hi hB) (fun e => by injection e with e; omega)⟩

/-- The cursor at block c over the code (a, len, cap, zs): σ.1 bytes are read, σ.2 is what it has mixed. -/
structure Cur (a : Option Addr) (len cap : Nat) (zs : List Int) (σ : Int × Int) (w : World) (c : Nat) : Prop where
  row : IsRow .u8 w a len cap zs
  apart : ∀ x, a = some x → 0 < cap → x.block ≠ c
  low : 0 ≤ σ.1
  high : σ.1 ≤ len
  cell : w.heap[c]? = some (.cells #[.slice a len cap, .int .i64 σ.1, .int .i64 σ.2] 64 (0, 0))
theorem IsRow.keep {k : IntKind} {w w' : World} {a : Option Addr} {len cap : Nat} {zs : List Int} (h : IsRow k w a len cap zs) (hk : ∀ x, a = some x → 0 < cap → x.block < w.heap.size → w'.heap[x.block]? = w.heap[x.block]?) : IsRow k w' a len cap zs := by
  rcases h with h | ⟨x, rfl, h1, h2, h3, h4, h5⟩
  · exact .inl h
  · refine .inr ⟨x, rfl, h1, h2, h3, fun i hi => ?_, h5⟩
    have hc := h4 i hi
    have hb : (x.add i).block = x.block := by by_cases h0 : i = 0 <;> simp [Addr.add, h0]
    rw [← hc]
    have hlt : x.block < w.heap.size := by rw [← hb]; exact World.block_lt_of_cell? w _ hc
    exact World.cell?_of_block (by rw [hb]; exact hk x rfl (by omega) hlt)
theorem Cur.lt {a : Option Addr} {len cap : Nat} {zs : List Int} {σ : Int × Int} {w : World} {c : Nat} (h : Cur a len cap zs σ w c) : c < w.heap.size := by
  have hb := h.cell
  rcases Nat.lt_or_ge c w.heap.size with hlt | hge
  · exact hlt
  · rw [Array.getElem?_eq_none hge] at hb; cases hb
/-- Whatever keeps all that was there keeps the cursor. -/
theorem Cur.below {a : Option Addr} {len cap : Nat} {zs : List Int} {σ : Int × Int} {w w' : World} {c B : Nat} (h : Cur a len cap zs σ w c) (hb : Below B w w') (hc : c < B) (ha : ∀ x, a = some x → 0 < cap → x.block < B) : Cur a len cap zs σ w' c :=
  ⟨h.row.keep fun x hx hp _ => hb.block x.block (ha x hx hp), h.apart, h.low, h.high, (hb.block c hc).trans h.cell⟩
theorem Cur.same {a : Option Addr} {len cap : Nat} {zs : List Int} {σ : Int × Int} {w w' : World} {c : Nat} (h : Cur a len cap zs σ w c) (hh : w'.heap = w.heap) : Cur a len cap zs σ w' c :=
  ⟨h.row.keep fun x _ _ _ => by rw [hh], h.apart, h.low, h.high, by rw [hh]; exact h.cell⟩
theorem Cur.alloc {a : Option Addr} {len cap : Nat} {zs : List Int} {σ : Int × Int} {w : World} {c : Nat} (h : Cur a len cap zs σ w c) (o : Obj) : Cur a len cap zs σ (w.alloc o) c :=
  ⟨h.row.keep fun x _ _ hlt => Below.heap_alloc w o x.block hlt, h.apart, h.low, h.high, (Below.heap_alloc w o c h.lt).trans h.cell⟩
/-- The cursor itself is moved on. -/
theorem Cur.only {a : Option Addr} {len cap : Nat} {zs : List Int} {σ : Int × Int} {w w' : World} {c : Nat} (h : Cur a len cap zs σ w c) (ho : Only c w w') (τ : Int × Int) (h1 : 0 ≤ τ.1) (h2 : τ.1 ≤ len)
    (hb : w'.heap[c]? = some (.cells #[.slice a len cap, .int .i64 τ.1, .int .i64 τ.2] 64 (0, 0))) : Cur a len cap zs τ w' c :=
  ⟨h.row.keep fun x hx hp hlt => ho.block x.block hlt (fun e => h.apart x hx hp (by injection e)), h.apart, h1, h2, hb⟩

theorem and255 (y : Int) : 0 ≤ bits .and .i64 y 255 ∧ bits .and .i64 y 255 ≤ 255 := by
  show 0 ≤ IntKind.i64.wrap ((BitVec.ofInt 64 y &&& BitVec.ofInt 64 255).toNat : Int) ∧ IntKind.i64.wrap ((BitVec.ofInt 64 y &&& BitVec.ofInt 64 255).toNat : Int) ≤ 255
  have h : (BitVec.ofInt 64 y &&& BitVec.ofInt 64 255).toNat ≤ 255 := by
    rw [BitVec.toNat_and]
    exact Nat.le_trans Nat.and_le_right (by decide)
  rw [IntKind.wrap_i64]
  omega
end Go.Proofs.Ytedfjpfppipfhaa
