/- States told by trees: contracts of functions that are handed a slice to keep (it is appended to, and comes back in the answer), and their calls. -/
import Derived.Test.YtlnjgoommpeioaaVN
namespace Go.Proofs.Ytlnjgoommpeioaa.V
open Go Go.RowKit
set_option linter.unusedVariables false
/-- The call answers so, whatever the memory; the lent objects are used up. -/
def VX (P : Program) (f : FuncId) (ins : List (Bool × List AC)) (ls : List T) (tup : Bool) (rs : List (Bool × List T)) : Prop :=
  ∀ (w : World) (lv : Nat → Value) (F : Nat → Nat → Prop) (hF : ∀ i b, i < ls.length → F i b → b < w.heap.size) (vs : List Value), (∀ i t, ls[i]? = some t → Own w 0 t (lv i) (F i) ∧ ∃ ty es, t = .seq ty es) → (∀ i j b, i < ls.length → j < ls.length → i ≠ j → F i b → ¬ F j b) → ArgsM (Env.lend w lv F ls.length hF) ins vs →
    Calls P f vs.toArray w (Gives (Env.lend w lv F ls.length hF) tup rs)
def Env.free (E : Env) : Env := { E with nl := 0 }
variable {P : Program} {E : Env} {N : Nat} {σ σ' : VS} {o : Oper} {a : Act} {w : World} {G : Ghost}
theorem Rel.free (h : Rel E N σ a w G) : Rel E.free N σ a w G :=
  ⟨⟨h.below.os, h.below.tape, h.below.output, h.below.size, fun k hk => h.below.block k hk⟩, h.dfr, h.nsz, h.tmps, h.boxes, h.inj, h.boxft, h.objs, h.disj, h.ftlt, ⟨Nat.zero_le _, fun i hi => absurd hi (Nat.not_lt_zero i)⟩⟩
theorem VX.enter {f : FuncId} {fn : Func} {c : Code} {n : Nat} {ins : List (Bool × List AC)} {ls : List T} {tup : Bool} {rs : List (Bool × List T)} (hf : P.funcs[f]? = some fn) (hb : fn.body = some c) (hn : fn.ntmps = n) (hl : ins.length ≤ n)
    (h : ∀ E, E.nl = 0 → SV E n (VS.initM (ins.map fun p => V.flat p.1 (p.2.map AC.leaf)) ls) (c.wp P (bodyPost P fn (Gives E tup rs)))) : VX P f ins ls tup rs := fun w lv F hF vs h1 h2 hv => by
  refine calls_of_wp hf hb ?_
  obtain ⟨G, hG⟩ := init_relM (E := Env.lend w lv F ls.length hF) (F := F) rfl h1 h2 (fun i b hi hb => ⟨.inr ⟨i, hi, hb⟩, hF i b hi hb⟩) hv (n := n) (by rw [hv.1]; exact hl)
  have h3 := h (Env.lend w lv F ls.length hF).free rfl _ _ G hG.free
  have hg : ∀ e w', Gives (Env.lend w lv F ls.length hF).free tup rs e w' → Gives (Env.lend w lv F ls.length hF) tup rs e w' := fun e w' ⟨uss, F', k1, k2, k3, k4, k5, k6⟩ => ⟨uss, F', k1, k2, k3, k4, k5, ⟨k6.os, k6.tape, k6.output, k6.size, fun k hk => k6.block k hk⟩⟩
  rw [hn]
  have h4 := wp_mono h3 (Q' := bodyPost P fn (Gives (Env.lend w lv F ls.length hF) tup rs)) fun e a w' hq => by
    cases e with
    | normal => obtain ⟨k1, v, k2, k3⟩ := hq; exact ⟨k1, v, k2, hg _ _ k3⟩
    | ret => obtain ⟨k1, v, k2, k3⟩ := hq; exact ⟨k1, v, k2, hg _ _ k3⟩
    | exit id => exact hq
    | goto l => exact hq
    | panic ch => first | exact hq | exact hg _ _ hq | exact ⟨hq.1, hg _ _ hq.2⟩
    | outgrown => first | exact hq | exact hg _ _ hq
  have e : (Env.lend w lv F ls.length hF).w0 = w := rfl
  rw [e] at h4
  simpa using h4
/-- Arguments' cells: scalars, slices that are read, and the object that goes over. -/
def VS.argX (p : Leaf) : List Leaf → List AC → Prop
  | [], [] => True
  | x :: xs, .rd t :: ts => ((∃ u, t = .lit u ∧ x = .sc u) ∨ x = .ro t) ∧ VS.argX p xs ts
  | x :: xs, .ln i :: ts => (i = 0 ∧ x = p) ∧ VS.argX p xs ts
  | _, _ => False
theorem argX_get {p : Leaf} : ∀ {xs : List Leaf} {ts : List AC}, VS.argX p xs ts → xs.length = ts.length ∧ ∀ (j : Nat) (t : AC), ts[j]? = some t → ∃ x, xs[j]? = some x ∧ match t with
    | .rd t => (∃ u, t = .lit u ∧ x = .sc u) ∨ x = .ro t
    | .ln i => i = 0 ∧ x = p
  | [], [], _ => ⟨rfl, fun j t h => by simp at h⟩
  | x :: xs, .rd t :: ts, h => by
    obtain ⟨h1, h2⟩ := argX_get h.2
    refine ⟨by simp [h1], fun j s hj => ?_⟩
    cases j with
    | zero => cases hj; exact ⟨x, rfl, h.1⟩
    | succ j => exact h2 j s (by simpa using hj)
  | x :: xs, .ln i :: ts, h => by
    obtain ⟨h1, h2⟩ := argX_get h.2
    refine ⟨by simp [h1], fun j s hj => ?_⟩
    cases j with
    | zero => cases hj; exact ⟨x, rfl, h.1⟩
    | succ j => exact h2 j s (by simpa using hj)
def VS.argsX (σ : VS) (p : Leaf) : List Operand → List (Bool × List AC) → Prop
  | [], [] => True
  | x :: xs, q :: qs => (∃ ls, σ.ev x = V.flat q.1 ls ∧ VS.argX p ls q.2) ∧ σ.argsX p xs qs
  | _, _ => False
theorem Rel.argsX (h : Rel E N σ a w G) {i : Nat} {E' : Env} (hw : E'.w0 = w) (hold : ∀ b, E.old b → E'.old b) (hn : 0 < E'.nl) (hv : E'.lv 0 = G.vl i) : ∀ {xs : List Operand} {qs : List (Bool × List AC)}, σ.argsX (.hd i) xs qs → ArgsM E' qs (xs.map a.eval)
  | [], [], _ => ⟨rfl, fun c ag ts v hc => by simp at hc⟩
  | x :: xs, q :: qs, hq => by
    obtain ⟨⟨ls, h1, h2⟩, h3⟩ := hq
    obtain ⟨h4, h5⟩ := h.argsX hw hold hn hv h3
    refine ⟨by simpa using h4, fun c ag ts v hc hv' => ?_⟩
    cases c with
    | zero =>
      cases hc
      cases hv'
      have h6 := h.ev x
      rw [h1, vflat] at h6
      obtain ⟨us, h7, h8, h9⟩ := h6
      obtain ⟨h10, h11⟩ := argX_get h2
      refine ⟨us, h7, h8.trans h10, fun j t u hj hu => ?_⟩
      obtain ⟨y, h12, h13⟩ := h11 j t hj
      have h14 := h9 j y u h12 hu
      cases t with
      | ln k =>
        obtain ⟨rfl, rfl⟩ := h13
        exact ⟨hn, h14.1.2.trans hv.symm⟩
      | rd t =>
        rcases h13 with ⟨z, rfl, rfl⟩ | rfl
        · rcases h14.2 with h15 | h15
          · cases h15
          · have h16 : u = z := h14.1
            rw [h16] at h15 ⊢
            exact .lit h15
        · have h16 : Inn E.old w t u := h14.1
          show Inn E'.old E'.w0 t u
          rw [hw]
          exact h16.frame (Nat.le_refl _) fun b hb _ => ⟨hold b hb, rfl⟩
    | succ c => exact h5 c ag ts v (by simpa using hc) (by simpa using hv')
/-- A call that is handed an object to keep. -/
theorem ok_callX {d : Nat} {f : FuncId} {xs : List Operand} {ats : Array TypeId} {ins : List (Bool × List AC)} {t0 : T} {ty : TypeId} {es : List (List T)} {i kk : Nat} (hk : σ.nx = kk) (ho : o.op = .call { callee := .value (.func f), args := xs.toArray, argTypes := ats }) (hb : ∃ fn c, P.funcs[f]? = some fn ∧ fn.body = some c ∧ fn.name ≠ "runtime.NumGoroutine")
    (hc : VX P f ins [t0] false [(false, [.seq ty es])]) (hx : σ.argsX (.hd i) xs ins) (hi : (σ.ob i).map (·.2) = some t0) (hd : o.dst = some d) (hdN : d < N) : OpOk P E N σ o (((σ.kills [.hd i]).new (.seq ty es)).put d (V.one (.hd kk))) :=
  fun a w G K Q h k => by
    subst hk
    obtain ⟨fn, c, h1, h2, h2'⟩ := hb
    obtain ⟨⟨ver, t1⟩, hob, rfl⟩ := Option.map_eq_some_iff.1 hi
    have hlive : σ.ob i ≠ none := by rw [hob]; simp
    have hft : ∀ b, G.ft i b → (E.B ≤ b ∨ E.ln b) ∧ b < w.heap.size := fun b hb => h.ftlt i b hlive hb
    have hF : ∀ (q b : Nat), q < [t1].length → G.ft i b → b < w.heap.size := fun q b _ hb => (hft b hb).2
    have hnot : ∀ b, E.old b → ¬ G.ft i b := fun b hb hf => (hft b hf).1.elim (fun h1 => by have := hb.1; omega) hb.2
    have hcall := hc w (fun _ => G.vl i) (fun _ => G.ft i) hF (xs.map a.eval) (fun q t hq => by
      obtain ⟨-, e5, e6⟩ := h.objs i ver t1 hob
      have hq0 := get_lt hq
      have : q = 0 := by simpa using hq0
      subst this
      cases hq
      exact ⟨e5, e6⟩) (fun q q' b hq hq' hne _ => absurd (show q = q' by simp at hq hq'; omega) hne) (h.argsX (i := i) (E' := Env.lend w (fun _ => G.vl i) (fun _ => G.ft i) 1 hF) rfl (fun b hb => ⟨Nat.lt_of_lt_of_le hb.1 h.low, fun ⟨q, hq, hqb⟩ => hnot b hb hqb⟩) Nat.one_pos rfl hx)
    have hrun : (execOp a.eval o).run P w = .ok (.enter f (xs.map a.eval).toArray) w := by
      simp [execOp, ho, resolve, Act.eval, Deferred.ofValue, invoke, callFunc, h1, h2, h2', Result.andThen]
    unfold Oper.wp
    rw [hrun]
    refine hcall.mono fun e w' ⟨uss, F', g1, g2, g3, g4, g5, g6⟩ => ?_
    match uss, g1 with
    | [us], _ =>
      obtain ⟨g7, g8⟩ := g3 0 false [.seq ty es] us rfl rfl
      match us, g7 with
      | [u], _ =>
        have hown := g8 0 (.seq ty es) u rfl rfl
        have hsm : Same E w w' := ⟨g6.os, g6.tape, g6.output, g6.size, fun b hb => g6.block b ⟨Nat.lt_of_lt_of_le hb.1 h.low, fun ⟨q, hq, hqb⟩ => hnot b hb hqb⟩⟩
        obtain ⟨G', hG', ⟨hvl, -, -⟩, -, -⟩ := h.renew [.hd i] (fun x hx => by rw [List.mem_singleton.1 hx]; exact ⟨t1, by show (σ.ob i).map (·.2) = _; rw [hob]; rfl⟩) (w' := w') (t := .seq ty es) (v := u) (F := F' 0 0) (G.ft i) hsm (fun k hk hnD => g6.block k ⟨hk, fun ⟨q, hq, hqb⟩ => hnD hqb⟩) (fun b hb => ⟨.hd i, List.mem_singleton_self _, hb⟩) hown ⟨_, _, rfl⟩ fun b hb => by
          obtain ⟨m1, m2⟩ := g5 0 0 b hb
          rcases m1 with m1 | ⟨q, m1, m3⟩
          · exact ⟨⟨.inl (Nat.le_trans h.low m1), m2⟩, .inl (h.fresh m1)⟩
          · exact ⟨⟨(hft b m3).1, m2⟩, .inr ⟨.hd i, List.mem_singleton_self _, m3⟩⟩
        subst g2
        rw [hd]
        exact k _ _ _ (hG'.put hdN (vone.2 ⟨⟨Nat.lt_succ_self _, hvl.symm⟩, .inr hown.one⟩))
end Go.Proofs.Ytlnjgoommpeioaa.V
