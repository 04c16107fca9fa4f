/- States told by trees: arguments, from their reading to their trees; no function of program or reference is walked here. -/
import Derived.Test.YtjdjceohlcimaaaVTr
import Derived.Test.YtjdjceohlcimaaaOpens
namespace Go.Proofs.Ytjdjceohlcimaaa
open Go Go.ChangeShapes Go.WideShapes Go.RowKit Go.Deep Go.Joins V
set_option linter.unusedVariables false
/-- Whatever reads as a value of the type is such a tree's. -/
def OpensT (A : TypeId) {α : Type} (n : Nat) (tf : α → List T) (ok : α → Prop) : Prop :=
  ∀ (H : Type) (enc : TypeId × Value → H) (w : World) (spare : Nat → Bool) (held : Bool) (fuel : Nat) (cs : List Value) (x : DataW H × List MemPlace), DataW.trod enc Try.prog w 0 spare held fuel A cs = some x → cs.length = n → ∃ y : α, ok y ∧ (tf y).length = n ∧ ∀ (j : Nat) (t : T) (u : Value), (tf y)[j]? = some t → cs[j]? = some u → Inn (fun b => b < w.heap.size) w t u
set_option maxRecDepth 100000 in
theorem OpensT.seq {A e : TypeId} {α : Type} {n : Nat} {tf : α → List T} {ok : α → Prop} (ht : Try.prog.underlying A = some (.slice e)) (hc : Try.prog.cellsOf e = n) (hp : 0 < n) (hz : Sz e n) (hO : OpensT e n tf ok) : OpensT A 1 (fun X : List α => [.seq e (X.map tf)]) (fun X => (∀ x ∈ X, ok x) ∧ X.length ≤ maxLen) := by
  intro H enc w spare held fuel cs x h _
  have emp : ∀ (a : Option Addr) (c : Nat), c ≤ maxLen → (a = none → c = 0) → ∃ y : List α, ((∀ x ∈ y, ok x) ∧ y.length ≤ maxLen) ∧ [T.seq e (y.map tf)].length = 1 ∧ ∀ (j : Nat) (t : T) (u : Value), [T.seq e (y.map tf)][j]? = some t → [Value.slice a 0 c][j]? = some u → Inn (fun b => b < w.heap.size) w t u := fun a c hc0 hn0 =>
    ⟨[], ⟨fun x hx => (by cases hx), Nat.zero_le _⟩, rfl, fun j t u h1 h2 => by
      match j, h1, h2 with
      | 0, h1, h2 =>
        cases h1; cases h2
        exact Inn.seq (es := []) n hp hz (fun e he => by cases he) (Nat.zero_le _) hc0 hn0 0 0 (fun _ => .bool false) (fun _ _ h => absurd rfl h) (fun h => absurd rfl h) (fun k e j t h => by simp at h) fun k e j t h => by simp at h⟩
  rcases open_slice ht h with ⟨rfl, -⟩ | ⟨a, len, cap, m, fu, D, Pl, rfl, -, hl, hm, hmm, -, hi⟩
  · exact emp none 0 (Nat.zero_le _) fun _ => rfl
  · have hlm : len ≤ m := by rw [hmm]; split <;> omega
    rw [hc] at hi
    rcases Nat.eq_zero_or_pos len with h0 | h0
    · subst h0
      exact emp (some a) cap hm fun e => by cases e
    · have hone : ∀ i, i < len → ∃ yc : α × List Value, ok yc.1 ∧ (tf yc.1).length = n ∧ yc.2.length = n ∧ (∀ j u, yc.2[j]? = some u → w.cell? (a.add (i * n + j)) = some u) ∧ ∀ (j : Nat) (t : T) (u : Value), (tf yc.1)[j]? = some t → yc.2[j]? = some u → Inn (fun b => b < w.heap.size) w t u := by
        intro i hil
        obtain ⟨cs', hcs, htr⟩ := hi i (by omega)
        obtain ⟨_, hcl, hat⟩ := World.cells?_some hcs
        obtain ⟨y, h1, h2, h3⟩ := hO H enc w spare held fu cs' _ htr hcl
        refine ⟨(y, cs'), h1, h2, hcl, fun j u hj => ?_, h3⟩
        have hjl : j < n := by rw [← hcl]; exact get_lt hj
        have := hat j hjl
        rw [add_add] at this
        rw [this]
        exact hj
      obtain ⟨y0, -⟩ := hone 0 h0
      obtain ⟨f, hf⟩ := @choose_lt (α × List Value) ⟨y0⟩ len _ hone
      obtain ⟨b, o, spot⟩ := a
      have hl0 : 0 < (f 0).2.length := by rw [(hf 0 h0).2.2.1]; exact hp
      have hcell0 := (hf 0 h0).2.2.2.1 0 (f 0).2[0] (by simp [hl0])
      have hspot : spot = none := by simpa [Addr.add] using World.cell?_spot hcell0
      subst hspot
      have hb : b < w.heap.size := by
        have := World.block_lt_of_cell? w _ hcell0
        simpa [Addr.add] using this
      have hget : ∀ k e', (((List.range len).map fun t => (f t).1).map tf)[k]? = some e' → k < len ∧ e' = tf (f k).1 := fun k e' hk => by
        have hkl : k < len := by have := get_lt hk; simpa using this
        refine ⟨hkl, ?_⟩
        simp [hkl] at hk
        exact hk.symm
      refine ⟨(List.range len).map fun t => (f t).1, ⟨fun x hx => ?_, by simp; omega⟩, rfl, fun j t u h1 h2 => ?_⟩
      · obtain ⟨t, ht, rfl⟩ := List.mem_map.1 hx
        exact (hf t (List.mem_range.1 ht)).1
      · match j, h1, h2 with
        | 0, h1, h2 =>
          cases h1; cases h2
          have hlen : (((List.range len).map fun t => (f t).1).map tf).length = len := by simp
          have key : ∀ k e' j t', (((List.range len).map fun t => (f t).1).map tf)[k]? = some e' → e'[j]? = some t' → ∃ u, (f k).2[j]? = some u ∧ w.cell? ⟨b, o + (k * n + j), none⟩ = some u ∧ Inn (fun b => b < w.heap.size) w t' u := fun k e' j t' hk hj => by
            obtain ⟨hkl, rfl⟩ := hget k e' hk
            obtain ⟨-, h3, h4, h5, h6⟩ := hf k hkl
            have hjl : j < (f k).2.length := by rw [h4, ← h3]; exact get_lt hj
            have h7 := h5 j _ (List.getElem?_eq_getElem hjl)
            rw [Addr.add_lit] at h7
            exact ⟨_, List.getElem?_eq_getElem hjl, h7, h6 j t' _ hj (List.getElem?_eq_getElem hjl)⟩
          have hsl : Value.slice (some ⟨b, o, none⟩) len cap = Value.slice (some ⟨b, o, none⟩) (((List.range len).map fun t => (f t).1).map tf).length cap := by rw [hlen]
          rw [hsl]
          exact Inn.seq n hp hz (fun e' he => by
            obtain ⟨k, hk, rfl⟩ := List.getElem_of_mem he
            obtain ⟨hkl, e1⟩ := hget k _ (List.getElem?_eq_getElem hk)
            rw [e1]; exact (hf k hkl).2.1) (by rw [hlen]; exact hl) hm (fun e => by cases e) b o (fun i => (w.cell? ⟨b, o + i, none⟩).getD (.bool false)) (fun ad h _ => (Option.some.inj h).symm) (fun _ => ⟨hb, hb⟩) (fun k e' j t' hk hj => by
              obtain ⟨u, -, h3, -⟩ := key k e' j t' hk hj
              rw [h3]; rfl) fun k e' j t' hk hj => by
              obtain ⟨u, -, h3, h4⟩ := key k e' j t' hk hj
              rw [h3]; exact h4
theorem OpensT.int : OpensT 3 1 (fun x : Int => [.lit (.int .i64 x)]) I64 := by
  intro H enc w spare held fuel cs x h hl
  match cs, hl with
  | [c0], _ =>
    obtain ⟨k0, e0, -, w0⟩ := DataW.trod_int Try.underlying3 h
    simp at e0
    subst e0
    refine ⟨k0, bounds_i64 w0, rfl, fun j t u h1 h2 => ?_⟩
    match j, h1, h2 with
    | 0, h1, h2 => cases h1; cases h2; exact .lit rfl
theorem OpensT.bool : OpensT 4 1 (fun x : Bool => [.lit (.bool x)]) (fun _ => True) := by
  intro H enc w spare held fuel cs x h hl
  match cs, hl with
  | [c0], _ =>
    obtain ⟨k0, e0, -⟩ := DataW.trod_bool Try.underlying4 h
    simp at e0
    subst e0
    refine ⟨k0, trivial, rfl, fun j t u h1 h2 => ?_⟩
    match j, h1, h2 with
    | 0, h1, h2 => cases h1; cases h2; exact .lit rfl
def okRow (r : R) : Prop := r.wf
/-- One argument: what may be read of its cells. -/
def ArgT (w : World) (ag : Bool) (ts : List T) (v : Value) : Prop := ∃ us : List Value, v = cval ag us ∧ us.length = ts.length ∧ ∀ (j : Nat) (t : T) (u : Value), ts[j]? = some t → us[j]? = some u → Inn (fun b => b < w.heap.size) w t u
theorem ArgT.lit {w : World} {v : Value} (h : v.oneCell' = true) : ArgT w false [.lit v] v := ⟨[v], rfl, rfl, fun j t u h1 h2 => by
  match j, h1, h2 with
  | 0, h1, h2 => cases h1; cases h2; exact .lit h⟩
set_option maxRecDepth 100000 in
theorem OpensT.val {A : TypeId} {fs : Array Field} {α : Type} {n : Nat} {tf : α → List T} {ok : α → Prop} (hO : OpensT A n tf ok) (hs : Try.prog.underlying A = some (.struct fs)) (hc : Try.prog.cellsOf A = n)
    {H : Type} {enc : TypeId × Value → H} {w : World} {spare : Nat → Bool} {held : Bool} {q : Reach} {b0 : Nat} {v : Value} {d : DataW H} {p : List MemPlace} (hv : Value.okWide Try.prog w q b0 A v) (h : DataW.Trod enc Try.prog w 0 spare held A v d p) :
    ∃ y : α, ok y ∧ ArgT w true (tf y) v := by
  obtain ⟨cs, rfl, hsz⟩ := okWide_struct hs hv
  obtain ⟨fuel, hf⟩ := h
  have hl : (Value.cells (.agg cs)).toList.length = n := by simpa [Value.cells] using hsz.trans hc
  obtain ⟨y, h1, h2, h3⟩ := hO H enc w spare held fuel _ _ hf hl
  exact ⟨y, h1, cs.toList, by simp [cval], hl.trans h2.symm, h3⟩
theorem OpensT.arg {A : TypeId} {α : Type} {tf : α → List T} {ok : α → Prop} (hO : OpensT A 1 tf ok) {H : Type} {enc : TypeId × Value → H} {w : World} {spare : Nat → Bool} {held : Bool} {a : Option Addr} {len cap : Nat} {d : DataW H} {p : List MemPlace}
    (h : DataW.Trod enc Try.prog w 0 spare held A (.slice a len cap) d p) : ∃ y : α, ok y ∧ ArgT w false (tf y) (.slice a len cap) := by
  obtain ⟨fuel, hf⟩ := h
  obtain ⟨y, h1, h2, h3⟩ := hO H enc w spare held fuel _ _ hf (by simp [Value.cells])
  exact ⟨y, h1, [.slice a len cap], rfl, h2.symm, h3⟩
theorem argsIn_nil {w : World} : ArgsIn (Env.of w) w [] [] := ⟨rfl, fun c ag ts v h => by simp at h⟩
theorem argsIn_cons {w : World} {ag : Bool} {ts : List T} {v : Value} {ins : List (Bool × List T)} {vs : List Value} (h : ArgT w ag ts v) (k : ArgsIn (Env.of w) w ins vs) : ArgsIn (Env.of w) w ((ag, ts) :: ins) (v :: vs) := by
  refine ⟨by simp [k.1], fun c ag' ts' v' h1 h2 => ?_⟩
  cases c with
  | zero =>
    cases h1; cases h2
    obtain ⟨us, h3, h4, h5⟩ := h
    exact ⟨us, h3, h4, fun j t u h6 h7 => (h5 j t u h6 h7).frame (Nat.le_refl _) fun b hb _ => ⟨Env.of_old.2 hb, rfl⟩⟩
  | succ c => exact k.2 c ag' ts' v' (by simpa using h1) (by simpa using h2)
/-- A law's contract, as its last step takes it. -/
theorem VC.law {f : FuncId} {ins : List (Bool × List T)} (h : VC Try.prog f ins false [(false, [.lit (.bool true)])]) {w : World} {vs : List Value} (hv : ArgsIn (Env.of w) w ins vs) : Calls Try.prog f vs.toArray w fun e w' => e = .returned (.bool true) ∧ Below w.heap.size w w' :=
  (h w vs hv).mono fun e w' hg => by
    obtain ⟨h1, h2⟩ := hg.lit
    exact ⟨h1, h2.os, h2.tape, h2.output, h2.size, fun k hk => h2.block k (Env.of_old.2 hk)⟩
end Go.Proofs.Ytjdjceohlcimaaa
