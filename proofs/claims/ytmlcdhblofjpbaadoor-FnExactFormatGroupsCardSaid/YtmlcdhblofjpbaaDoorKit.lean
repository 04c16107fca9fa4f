/- Small lemmas about rows of bytes that a call made itself: what is appended, what string(b) reads; no function of the program is walked here. -/
import Derived.Test.YtmlcdhblofjpbaaDoorProg
import Derived.WalkKit
import Derived.Below
import Derived.Lib.Hide
import Derived.OwnWalk
import Derived.Laws.IdiomStrings
import Derived.IntWalk
import Derived.Laws.OwnMore
namespace Go.Proofs.YtmlcdhblofjpbaaDoor
open Go.RowKit

/-- A row of bytes as cells. -/
def b8 (l : List UInt8) : List Value := l.map fun b => Value.int .u8 (b.toNat : Int)
theorem b8_nil : b8 [] = [] := rfl
theorem b8_length (l : List UInt8) : (b8 l).length = l.length := by simp [b8]
theorem b8_snoc (l : List UInt8) (b : UInt8) (n : Int) (h : n = (b.toNat : Int)) : b8 l ++ [Value.int .u8 n] = b8 (l ++ [b]) := by subst h; simp [b8]
theorem b8_get (l : List UInt8) (j : Nat) (hj : j < l.length) : (b8 l)[j]? = some (Value.int .u8 (l[j].toNat : Int)) := by simp [b8, hj]
theorem b8_one (l : List UInt8) : ∀ u ∈ b8 l, u.oneCell' = true := by
  intro u hu
  simp only [b8, List.mem_map] at hu
  obtain ⟨b, _, rfl⟩ := hu
  rfl
theorem b8_set (l : List UInt8) (j : Nat) (b : UInt8) (n : Int) (h : n = (b.toNat : Int)) : (b8 l).set j (Value.int .u8 n) = b8 (l.set j b) := by subst h; simp [b8, List.map_set]
theorem b8_made (n : Nat) : (madeCells (Value.int .u8 0).cells (n * 1)).toList = b8 (List.replicate n 0) := by
  rw [Nat.mul_one, show (Value.int .u8 0).cells = #[Value.int .u8 0] from rfl, toList_madeCells_one]; simp [b8]
theorem byte_info : (Tryd.prog.info? 5).map (fun i => (i.zero, i.size, i.bytes)) = some (some (.int .u8 0), 1, 1) := by kernel_rfl
/-- 'string(b)' of a row of the call's own. -/
theorem run_own_string {w : World} {base : Nat} {v : Value} {n : Nat} {l : List UInt8} (h : w.ownsRow base 5 1 v n (b8 l)) :
    (convert 22 9 v).run Tryd.prog w = .ok (.string ⟨l.toArray⟩) w := by
  have hn : l.length = n := by have := h.1; rw [b8_length] at this; omega
  rcases h.2 with ⟨rfl, h0⟩ | ⟨g, cap, cur, rfl, _, _, _, _, _, _⟩
  · subst h0
    have hl : l = [] := List.eq_nil_of_length_eq_zero hn
    subst hl
    rw [run_convert_bytes_string w _ _ _ none 0 0 Tryd.underlying22 Tryd.underlying5 Tryd.underlying9]
    rfl
  · have := hn
    subst this
    exact run_convert_bytes_back w _ _ _ ⟨g, 0, none⟩ cap l Tryd.underlying22 Tryd.underlying5 Tryd.underlying9 fun j hj => h.cells (g := g) rfl j _ (b8_get l j hj)
theorem cell_new1 (w : World) (u : Value) (t : TypeId) : ∀ (j : Nat) (x : Value), [u][j]? = some x → (w.alloc (.cells #[u] t)).cell? ((⟨w.heap.size, 0, none⟩ : Addr).add j) = some x := by
  intro j x hj
  match j, hj with
  | 0, hj => simp at hj; subst hj; simp [Addr.add]
/-- 'out = append(out, b)': one byte more on a row of the call's own, the byte in a block of its own. -/
theorem wpList_push {ops : Array Oper} {rest : List Oper} {o : Oper} {a : Act} {Q : Exit → Act → World → Prop} {W wr : World} {out : List UInt8} {n : Int} {v : Value} (s x : Operand) (b : UInt8)
    (hgd : o.guard = none) (ho : o.op = .call { callee := .builtin .append, args := #[s, x], argTypes := #[22, 22] })
    (hs : a.eval s = v) (hx : a.eval x = .slice (some ⟨wr.heap.size, 0, none⟩) 1 1) (hown : wr.ownsRow W.heap.size 5 1 v out.length (b8 out)) (hb : Below W.heap.size W wr)
    (hlen : out.length + 1 ≤ 140737488355328) (hn : n = (b.toNat : Int))
    (h : ∀ v' w', w'.ownsRow W.heap.size 5 1 v' (out ++ [b]).length (b8 (out ++ [b])) → Below W.heap.size W w' → wpList Tryd.prog ops Q rest (a.put o.dst v') w') :
    wpList Tryd.prog ops Q (o :: rest) a (wr.alloc (.cells #[.int .u8 n] 5)) := by
  obtain ⟨i0, hi, hz0, hz1, hz2⟩ := info_parts byte_info
  have hsz := hb.size
  refine wpList_append_own _ hgd s x 22 ho W.heap.size 5 i0 (.int .u8 0) 1 1 Tryd.underlying22 hi hz0 hz1 hz2 rfl (by decide) v out.length (b8 out) hs (hown.alloc _)
    ⟨wr.heap.size, 0, none⟩ 1 1 [.int .u8 n] hx rfl (cell_new1 _ _ _) (by intro u hu; simp at hu; subst hu; rfl) (by unfold maxLen; omega) (by omega) (by simp; omega) ?_
  intro v' w' hown' hg _
  rw [b8_snoc out b n hn] at hown'
  refine h v' w' (by simpa using hown') ((hb.alloc hsz _).grown hg (by simp; omega) fun k hk => (hown.lt k hk).1)
theorem b8_snoc2 (l : List UInt8) (b c : UInt8) (m n : Int) (h : m = (b.toNat : Int)) (h' : n = (c.toNat : Int)) : b8 l ++ [Value.int .u8 m, Value.int .u8 n] = b8 (l ++ [b, c]) := by subst h; subst h'; simp [b8]
theorem cell_new2 (w : World) (u v : Value) (t : TypeId) : ∀ (j : Nat) (x : Value), [u, v][j]? = some x → (w.alloc (.cells #[u, v] t)).cell? ((⟨w.heap.size, 0, none⟩ : Addr).add j) = some x := by
  intro j x hj
  match j, hj with
  | 0, hj => simp at hj; subst hj; simp [Addr.add]
  | 1, hj => simp at hj; subst hj; simp [Addr.add]
/-- 'out = append(out, b, c)'. -/
theorem wpList_push2 {ops : Array Oper} {rest : List Oper} {o : Oper} {a : Act} {Q : Exit → Act → World → Prop} {W wr : World} {out : List UInt8} {m n : Int} {v : Value} (s x : Operand) (b c : UInt8)
    (hgd : o.guard = none) (ho : o.op = .call { callee := .builtin .append, args := #[s, x], argTypes := #[22, 22] })
    (hs : a.eval s = v) (hx : a.eval x = .slice (some ⟨wr.heap.size, 0, none⟩) 2 2) (hown : wr.ownsRow W.heap.size 5 1 v out.length (b8 out)) (hb : Below W.heap.size W wr)
    (hlen : out.length + 2 ≤ 140737488355328) (hm : m = (b.toNat : Int)) (hn : n = (c.toNat : Int))
    (h : ∀ v' w', w'.ownsRow W.heap.size 5 1 v' (out ++ [b, c]).length (b8 (out ++ [b, c])) → Below W.heap.size W w' → wpList Tryd.prog ops Q rest (a.put o.dst v') w') :
    wpList Tryd.prog ops Q (o :: rest) a (wr.alloc (.cells #[.int .u8 m, .int .u8 n] 5)) := by
  obtain ⟨i0, hi, hz0, hz1, hz2⟩ := info_parts byte_info
  have hsz := hb.size
  refine wpList_append_own _ hgd s x 22 ho W.heap.size 5 i0 (.int .u8 0) 1 1 Tryd.underlying22 hi hz0 hz1 hz2 rfl (by decide) v out.length (b8 out) hs (hown.alloc _)
    ⟨wr.heap.size, 0, none⟩ 2 2 [.int .u8 m, .int .u8 n] hx rfl (cell_new2 _ _ _ _) (by intro u hu; simp at hu; rcases hu with rfl | rfl <;> rfl) (by unfold maxLen; omega) (by omega) (by simp; omega) ?_
  intro v' w' hown' hg _
  rw [b8_snoc2 out b c m n hm hn] at hown'
  refine h v' w' (by simpa using hown') ((hb.alloc hsz _).grown hg (by simp; omega) fun k hk => (hown.lt k hk).1)
/-- 'string([]byte{b})'. -/
theorem one_string (wr : World) (x : Int) (b : UInt8) (hx : x = (b.toNat : Int)) :
    (convert 22 9 (.slice (some ⟨wr.heap.size, 0, none⟩) 1 1)).run Tryd.prog (wr.alloc (.cells #[.int .u8 x] 5)) = .ok (.string ⟨[b].toArray⟩) (wr.alloc (.cells #[.int .u8 x] 5)) := by
  subst hx
  exact run_convert_bytes_back _ _ _ _ ⟨wr.heap.size, 0, none⟩ 1 [b] Tryd.underlying22 Tryd.underlying5 Tryd.underlying9 fun j hj => cell_new1 wr _ _ j _ (by simp at hj; subst hj; rfl)
theorem ext_take (s : ByteArray) (k : Nat) : (s.extract 0 k).toList = s.data.toList.take k := by
  rw [ByteArray.toList_eq]
  simp
end Go.Proofs.YtmlcdhblofjpbaaDoor
