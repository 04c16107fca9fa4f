/- One append of two bytes as a step of a statement whose order is open; no function of the program. -/
import Derived.Test.YtckfagjffpajdaaDoorKit
import Derived.Deep.RegionLaw
namespace Go.Proofs.YtckfagjffpajdaaDoor
open Go.RowKit

theorem cells_two {w : World} {g : Nat} {u v : Value} (h0 : w.cell? ⟨g, 0, none⟩ = some u) (h1 : w.cell? ⟨g, 1, none⟩ = some v) : ∀ (j : Nat) (x : Value), [u, v][j]? = some x → w.cell? ((⟨g, 0, none⟩ : Addr).add j) = some x := by
  intro j x hj
  match j, hj with
  | 0, hj => simp at hj; subst hj; simpa [Addr.add] using h0
  | 1, hj => simp at hj; subst hj; simpa [Addr.add] using h1
theorem cell_two_0 (w : World) (u v : Value) (t : TypeId) : (w.alloc (.cells #[u, v] t)).cell? ⟨w.heap.size, 0, none⟩ = some u := by simp
theorem cell_two_1 (w : World) (u v : Value) (t : TypeId) : (w.alloc (.cells #[u, v] t)).cell? ⟨w.heap.size, 1, none⟩ = some v := by simp
theorem step_push2 {ops : Array Oper} {o : Oper} {a : Act} {K : Act → World → Prop} {Q : Exit → Act → World → Prop} {E : Prop} {W w : World} {out : List UInt8} {v : Value} (s x : Operand) (b c : UInt8) (g : Nat)
    (hgd : o.guard = none) (ho : o.op = .call { callee := .builtin .append, args := #[s, x], argTypes := #[22, 22] })
    (hs : a.eval s = v) (hx : a.eval x = .slice (some ⟨g, 0, none⟩) 2 2) (hown : w.ownsRow W.heap.size 5 1 v out.length (b8 out)) (hb : Below W.heap.size W w)
    (h0 : ∃ m : Int, w.cell? ⟨g, 0, none⟩ = some (.int .u8 m) ∧ m = (b.toNat : Int)) (h1 : ∃ n : Int, w.cell? ⟨g, 1, none⟩ = some (.int .u8 n) ∧ n = (c.toNat : Int))
    (hlen : out.length + 2 ≤ 140737488355328)
    (h : ∀ v' w', w'.ownsRow W.heap.size 5 1 v' (out ++ [b, c]).length (b8 (out ++ [b, c])) → Below W.heap.size W w' → K (a.put o.dst v') w') :
    if Region.wanted o (yielded ops a.tmps) = true then Oper.wp Tryd.prog o a w K Q else E := by
  have hw : Region.wanted o (yielded ops a.tmps) = true := by simp [Region.wanted, hgd]
  rw [if_pos hw]
  obtain ⟨m, h0, hm⟩ := h0
  obtain ⟨n, h1, hn⟩ := h1
  obtain ⟨i0, hi, hz0, hz1, hz2⟩ := info_parts byte_info
  refine wp_append_own w s x 22 ho W.heap.size 5 i0 (.int .u8 0) 1 1 Tryd.underlying22 hi hz0 hz1 hz2 rfl (by decide) v out.length (b8 out) hs hown
    ⟨g, 0, none⟩ 2 2 [.int .u8 m, .int .u8 n] hx rfl (cells_two h0 h1) (by intro u hu; simp at hu; rcases hu with rfl | rfl <;> rfl) (by unfold maxLen; omega) (by omega) hb.size ?_
  intro v' w' hown' hg _
  rw [b8_snoc2 out b c m n hm hn] at hown'
  exact h v' w' (by simpa using hown') (hb.grown hg hb.size fun k hk => (hown.lt k hk).1)
end Go.Proofs.YtckfagjffpajdaaDoor
