/- States told by trees: loops whose states are told by what changes (the rest stands as at the loop's beginning); calls by contracts of plain values. -/
import Derived.Test.YtjdjceohlcimaaaVN
import Derived.Test.YtjdjceohlcimaaaVG
namespace Go.Proofs.Ytjdjceohlcimaaa.V
open Go Go.RowKit
set_option linter.unusedVariables false
variable {P : Program} {E : Env} {N nb : Nat} {σ σ' τ : VS} {o : Oper} {a : Act} {w : World} {G : Ghost} {Q : Exit → Act → World → Prop} {K : Act → World → Prop}
/-- An object's tree. -/
def VS.tree (σ : VS) (i : Nat) : T := match σ.ob i with
  | some p => p.2
  | none => .any
/-- A leaf of a slot, of a box. -/
def VS.lf (σ : VS) (d j : Nat) : Leaf := match (σ.tm d).cs with
  | p :: _ => p.2.getD j .dead
  | [] => .dead
def VS.bl (σ : VS) (b j : Nat) : Leaf := match σ.bs[b]? with
  | some p => p.2.getD j .dead
  | none => .dead
theorem SV.loopF {c : Go.Code} {X : Type} (I : VS → X → VS) (Inv : X → Prop) (μ : X → Nat) (h0 : SV E N σ fun a w => ∃ x, Inv x ∧ ∃ G, Rel E N (I σ x) a w G)
    (round : ∀ x, Inv x → SV E N (I σ x) (c.wp P (Exit.then (fun a w => ∃ x', (Inv x' ∧ μ x' < μ x) ∧ ∃ G, Rel E N (I σ x') a w G) Q))) : SV E N σ ((Code.loop c).wp P Q) := SV.loop (I σ) Inv μ h0 round
theorem V.le.keep {ρ : Nat → Nat} {ag : Bool} {xs ys : List Leaf} {v v' : V} (h : v = V.flat ag xs) (h' : v' = V.flat ag ys) (l : leafs σ τ ρ xs ys) : V.le σ τ ρ v v' := .inr ⟨ag, xs, ys, h, h', l⟩
/-- Where a region begins, a state may be told otherwise. -/
theorem SV.joinF {id : Nat} {l : List Oper} (I : VS → VS) (h : SV E N (I σ) (Q .normal)) (k : SV E N (I σ) (Q .normal) → SV E N σ ((Code.region id l.toArray true).wp P Q)) : SV E N σ ((Code.region id l.toArray true).wp P Q) := k h
theorem SV.sub {ρ : Nat → Nat} (hp : E.nl ≤ τ.nx ∧ (∀ i, i < E.nl → ρ i = i) ∧ ∀ c, E.pin = some c → 0 < τ.bs.length) (l : VS.le σ τ ρ) (k : SV E N τ K) : SV E N σ K := fun a w G h => by
  obtain ⟨G', h'⟩ := h.weaken hp l
  exact k a w G' h'
/-- An empty slice that a constant gave is an object. -/
theorem SV.nlsc {s kk n : Nat} {ty : TypeId} (hk : σ.nx = kk) (hs : σ.tm s = V.one (.sc (.slice none 0 0))) (hp : 0 < n) (hz : Sz ty n) (hN : s < N) (k : SV E N ((σ.new (.seq ty [])).put s (V.one (.hd kk))) K) : SV E N σ K := fun a w G h => by
  subst hk
  have h1 := h.tmps s
  rw [hs, vone] at h1
  have h2 : a.tmps.getD s undef = .slice none 0 0 := h1.1
  obtain ⟨G', k1, k2, -, -⟩ := h.newnil hp hz
  have k3 := k1.put (d := s) (v := V.one (.hd σ.nx)) (u := a.tmps.getD s undef) hN (vone.2 ⟨⟨Nat.lt_succ_self _, by rw [h2, k2]⟩, .inr (by rw [h2]; rfl)⟩)
  have e : a.put (some s) (a.tmps.getD s undef) = a := by
    have hs' : s < a.tmps.size := by rw [h.nsz]; exact hN
    cases a with
    | mk tmps defers =>
      have : tmps.setIfInBounds s (tmps.getD s undef) = tmps := by
        apply Array.ext_getElem?
        intro i
        rw [Array.getElem?_setIfInBounds]
        split
        · rename_i hi; subst hi
          simp at hs'
          simp [hs']
        · rfl
      show Act.mk _ _ = _
      rw [this]
  rw [e] at k3
  exact k a w G' k3
def isLit : T → Bool
  | .lit _ => true
  | _ => false
theorem flat_of {α : Type} {f : α → List T} (h : ∀ x, (f x).all isLit = true) (X : List α) : Flat (X.map f) := fun k e j t h1 h2 => by
  rw [List.getElem?_map] at h1
  obtain ⟨x, -, rfl⟩ := Option.map_eq_some_iff.1 h1
  have := List.all_eq_true.1 (h x) t (get_mem h2)
  cases t with
  | lit u => exact ⟨u, rfl⟩
  | any => cases this
  | seq ty es => cases this
/-! ### A literal of scalars -/
def VS.scs (σ : VS) : List Operand → List Value → Prop
  | [], [] => True
  | x :: xs, u :: us => σ.ev x = V.one (.sc u) ∧ σ.scs xs us
  | _, _ => False
theorem Rel.scs (h : Rel E N σ a w G) : ∀ {xs : List Operand} {us : List Value}, σ.scs xs us → xs.map a.eval = us ∧ ∀ u ∈ us, u.oneCell' = true
  | [], [], _ => ⟨rfl, fun u hu => by cases hu⟩
  | x :: xs, u :: us, hx => by
    obtain ⟨h1, h2⟩ := h.scs hx.2
    have h3 := h.ev x
    rw [hx.1, vone] at h3
    have h4 : a.eval x = u := h3.1
    refine ⟨by rw [List.map_cons, h1, h4], fun v hv => ?_⟩
    rcases List.mem_cons.1 hv with rfl | hv
    · rcases h3.2 with h5 | h5
      · cases h5
      · rwa [h4] at h5
    · exact h2 v hv
theorem parts_eval {xs : List Operand} : ∀ (i : Nat), ((xs.zipIdx i).map fun x => (x.2, x.1)).map (fun (i, x) => (i, a.eval x)) = ((xs.map a.eval).zipIdx i).map fun x => (x.2, x.1) := by
  induction xs with
  | nil => intro i; rfl
  | cons x xs ih => intro i; simp only [List.zipIdx_cons, List.map_cons, ih]
theorem ok_litS {d m : Nat} {t ty : TypeId} {bytes : Nat} {z : Value} {xs : List Operand} {us : List Value} {ps : Array (Nat × Operand)} (I : ElT t ty 1 z bytes) {kk : Nat} (hk : σ.nx = kk) (ho : o.op = .buildSlice t m ps) (hps : ps = ((xs.zipIdx 0).map fun x => (x.2, x.1)).toArray) (hm : us.length = m) (hm0 : 0 < m) (hm1 : m ≤ 1000) (hx : σ.scs xs us) (hd : o.dst = some d) (hdN : d < N) : OpMk Try.prog E N none σ o ((σ.new (.seq ty (us.map fun u => [T.lit u]))).put d (V.one (.hd kk))) :=
  fun a w G K Q h k => by
    subst hk
    obtain ⟨i0, hi, hz0, hz1, hz2⟩ := info_parts I.inf
    obtain ⟨hev, hone⟩ := h.scs hx
    have hc1 : ∀ u ∈ us, u.cells = #[u] := fun u hu => cval_cells (ag := false) (us := [u]) fun _ => ⟨rfl, fun v hv => by rw [List.mem_singleton.1 hv]; exact hone u hu⟩
    have hmap : ps.map (fun (i, x) => (i, a.eval x)) = ((us.zipIdx 0).map fun x => (x.2, x.1)).toArray := by
      rw [hps, List.map_toArray, parts_eval, hev]
    have hrun : (Instr.buildSlice t m (((us.zipIdx 0).map fun x => (x.2, x.1)).toArray)).run Try.prog w = .ok (.slice (some ⟨w.heap.size, 0, none⟩) m m) (w.alloc (.cells us.toArray ty)) := by
      refine run_buildSlice w t ty m _ us.toArray i0 z I.und hi hz0 ?_ ?_ ?_
      · rw [hz1]; omega
      · rw [hz1]; omega
      · obtain ⟨r, hr1, hr2, hr3⟩ := Great.fill_dense (s := i0.size) (by omega) us 0 ((Array.range (m * i0.size)).map (z.cells[· % z.cells.size]!)) (fun v hv => by rw [hc1 v hv, hz1]; rfl) (by simp [hm])
        have e : r = us.toArray := by
          apply Array.ext_getElem?
          intro q
          rw [hr3 q]
          rcases Nat.lt_or_ge q us.length with hq | hq
          · rw [if_pos ⟨by omega, by rw [hz1]; omega⟩]
            rw [hz1]
            simp only [Nat.div_one, Nat.sub_zero, Nat.mod_one]
            rw [List.getElem?_eq_getElem hq]
            simp only [Option.bind_some, hc1 us[q] (List.getElem_mem hq)]
            simp [hq]
          · rw [if_neg (by rw [hz1]; omega)]
            have h8 : us.toArray[q]? = none := by simp; omega
            rw [h8, Array.getElem?_eq_none (by simp [hz1]; omega)]
        rw [← e]
        simpa using hr1
    obtain ⟨G', hG', ⟨hvl, hvls, hβs⟩, -, -⟩ := h.renew [] (fun x hx => by cases hx) (w' := w.alloc (.cells us.toArray ty)) (t := .seq ty (us.map fun u => [T.lit u])) (v := .slice (some ⟨w.heap.size, 0, none⟩) m m) (F := fun b => b = w.heap.size) (fun _ => False) (.of_below ((Below.refl _ _).alloc h.low _)) (fun k hk _ => Below.heap_alloc _ _ _ hk) (fun b hb => hb.elim)
      (.seq 1 (by omega) I.sz (fun e he => by obtain ⟨u, -, rfl⟩ := List.mem_map.1 he; rfl) us ⟨by simp, .inr ⟨w.heap.size, m, us.toArray, by rw [List.length_map, hm], Nat.zero_le _, heap_alloc_new _ _, by rw [List.length_map, hm]; exact Nat.le_refl _, by unfold maxLen; omega, by simp [hm], by rw [List.length_map, Nat.mul_one]; exact List.take_of_length_le (by simp)⟩⟩ (fun _ _ => False) (fun k e j t' u hk' hj hu => by
          rw [List.getElem?_map] at hk'
          obtain ⟨u', hu', rfl⟩ := Option.map_eq_some_iff.1 hk'
          have hj0 : j = 0 := by have := get_lt hj; simpa using this
          subst hj0
          cases hj
          rw [Nat.mul_one, Nat.add_zero, hu'] at hu
          rw [← Option.some.inj hu]
          exact .lit (hone u' (get_mem hu'))) hone (fun b hb => (Option.some.inj hb).symm) (fun q b hb => hb.elim) (fun q b hb => hb.elim) fun q q' b hb => hb.elim)
      ⟨_, _, rfl⟩ fun b hb => ⟨by subst hb; exact ⟨.inl h.low, by simp⟩, .inl (h.fresh (by rw [hb]; exact Nat.le_refl _))⟩
    refine wp_value (v := .slice (some ⟨w.heap.size, 0, none⟩) m m) (w' := w.alloc (.cells us.toArray ty)) ?_ (by rw [hd]; exact k _ _ _ (hG'.put hdN (vone.2 ⟨⟨Nat.lt_succ_self _, hvl.symm⟩, .inr rfl⟩)) ⟨by simp, .of_below ((Below.refl _ _).alloc h.low _), hvls, fun b _ => by rw [hβs], fun b hb => .inl (Below.heap_alloc _ _ _ hb), fun i e1 e2 b e3 => .inl (by
      have hi : i = σ.nx := Nat.le_antisymm (Nat.le_of_lt_succ e2) e1
      rw [hi, hvl] at e3
      rw [← Option.some.inj e3]; exact Nat.le_refl _)⟩)
    simp only [execOp, ho, hmap]
    simp [hrun, Result.andThen]
/-- Two strings, one behind the other. -/
theorem cat_run {ρ : Operand → Value} {x y : Operand} {t1 t2 : TypeId} {a b : List UInt8} (ho : o.op = .binOp .add t1 x y t2) (h1 : ρ x = .string ⟨a.toArray⟩) (h2 : ρ y = .string ⟨b.toArray⟩) (hl : a.length + b.length ≤ 9223372036854775807) : (execOp ρ o).run P w = .ok (.value (.string ⟨(a ++ b).toArray⟩)) w := by
  simp only [execOp, ho, h1, h2]
  go_simp
  rw [if_neg (by omega)]
  rw [ByteArray.mk_append_mk]
/-! ### Contracts of plain values -/
theorem inn_lit {ok : Nat → Prop} {u v : Value} (h : Inn ok w (.lit u) v) : v = u := by
  cases h
  rfl
theorem args_plain {w : World} {ins : List (Bool × List Value)} {vs : List Value} (hv : ArgsIn (Env.of w) w (ins.map fun p => (p.1, p.2.map T.lit)) vs) : vs = ins.map fun p => cval p.1 p.2 := by
  obtain ⟨hl, ha⟩ := hv
  rw [List.length_map] at hl
  apply List.ext_getElem?
  intro c
  rcases Nat.lt_or_ge c ins.length with hc | hc
  · have hcv : vs[c]? = some vs[c] := List.getElem?_eq_getElem (by omega)
    obtain ⟨us, h2, h3, h4⟩ := ha c ins[c].1 (ins[c].2.map T.lit) vs[c] (by rw [List.getElem?_map, List.getElem?_eq_getElem hc]; rfl) hcv
    have h5 : us = ins[c].2 := by
      rw [List.length_map] at h3
      apply List.ext_getElem?
      intro j
      rcases Nat.lt_or_ge j us.length with hj | hj
      · have := h4 j (T.lit ins[c].2[j]) us[j] (by rw [List.getElem?_map, List.getElem?_eq_getElem (by omega)]; rfl) (List.getElem?_eq_getElem hj)
        rw [List.getElem?_eq_getElem hj, List.getElem?_eq_getElem (by omega), inn_lit this]
      · rw [List.getElem?_eq_none hj, List.getElem?_eq_none (by omega)]
    rw [hcv, List.getElem?_map, List.getElem?_eq_getElem hc, h2, h5]; rfl
  · rw [List.getElem?_eq_none (by omega), List.getElem?_eq_none (by simpa using hc)]
theorem gives_plain {w w' : World} {e : Ending} {ag : Bool} {rs : List Value} (h1 : ∀ u ∈ rs, u.oneCell' = true) (he : e = .returned (cval ag rs)) (hb : Below w.heap.size w w') : Gives (Env.of w) false [(ag, rs.map T.lit)] e w' := by
  refine ⟨[rs], fun _ _ _ => False, rfl, by rw [he]; rfl, fun c ag' ts us hc hu => ?_, fun c j c' j' b hb => hb.elim, fun c j b hb => hb.elim, .of_below hb⟩
  cases c with
  | zero =>
    cases hc; cases hu
    refine ⟨by simp, fun j t u hj hu => ?_⟩
    rw [List.getElem?_map, hu] at hj
    cases hj
    exact .lit (h1 u (get_mem hu))
  | succ c => simp at hc
theorem VC.plainAt {f : FuncId} {ins : List (Bool × List Value)} {ag : Bool} {rs : List Value} (h1 : ∀ u ∈ rs, u.oneCell' = true) {w : World} (h : Calls P f (ins.map fun p => cval p.1 p.2).toArray w fun e w' => e = .returned (cval ag rs) ∧ Below w.heap.size w w') (vs : List Value) (hv : ArgsIn (Env.of w) w (ins.map fun p => (p.1, p.2.map T.lit)) vs) : Calls P f vs.toArray w (Gives (Env.of w) false [(ag, rs.map T.lit)]) := by
  rw [args_plain hv]
  exact h.mono fun e w' ⟨he, hb⟩ => gives_plain h1 he hb
/-- A call of plain values that answers a plain value and changes nothing. -/
theorem VC.plain {f : FuncId} {ins : List (Bool × List Value)} {ag : Bool} {rs : List Value} (h1 : ∀ u ∈ rs, u.oneCell' = true) (h : ∀ w, Calls P f (ins.map fun p => cval p.1 p.2).toArray w fun e w' => e = .returned (cval ag rs) ∧ Below w.heap.size w w') : VC P f (ins.map fun p => (p.1, p.2.map T.lit)) false [(ag, rs.map T.lit)] := fun w => VC.plainAt h1 (h w)
/-! ### Contracts in worlds of a class -/
/-- The call answers so in every world of the class. -/
def VCP (Φ : World → Prop) (P : Program) (f : FuncId) (ins : List (Bool × List T)) (tup : Bool) (rs : List (Bool × List T)) : Prop := ∀ (w : World), Φ w → ∀ (vs : List Value), ArgsIn (Env.of w) w ins vs → Calls P f vs.toArray w (Gives (Env.of w) tup rs)
/-- The class held at the call's beginning, nothing was lent, and what comes behind is of the class. -/
def Env.keeps (E : Env) (Φ : World → Prop) : Prop := Φ E.w0 ∧ (∀ b, ¬ E.ln b) ∧ ∀ w', Below E.B E.w0 w' → Φ w'
theorem Env.keeps.at {Φ : World → Prop} (h : E.keeps Φ) (hs : Same E E.w0 w) : Φ w := h.2.2 w ⟨hs.os, hs.tape, hs.output, hs.size, fun b hb => hs.block b ⟨hb, h.2.1 b⟩⟩
theorem VCP.enter {Φ : World → Prop} (hΦ : ∀ w w', Φ w → Below w.heap.size w w' → Φ w') {f : FuncId} {fn : Func} {c : Go.Code} {n : Nat} {ins rs : List (Bool × List T)} {tup : Bool} (hf : P.funcs[f]? = some fn) (hb : fn.body = some c) (hn : fn.ntmps = n) (hl : ins.length ≤ n)
    (h : ∀ E, E.plain 0 → E.keeps Φ → SV E n (VS.init (ins.map fun p => V.flat p.1 (p.2.map argLeaf))) (c.wp P (bodyPost P fn (Gives E tup rs)))) : VCP Φ P f ins tup rs := fun w hT vs hv => by
  refine calls_of_wp hf hb ?_
  obtain ⟨G, hG⟩ := init_rel (E := Env.of w) ⟨rfl, rfl⟩ (n := n) hv (by rw [hv.1]; exact hl)
  have := h (Env.of w) ⟨rfl, rfl⟩ ⟨hT, fun b hb => hb.elim, fun w' hb => hΦ w w' hT hb⟩ _ _ G hG
  rw [hn]
  have e : (Env.of w).w0 = w := rfl
  rw [e] at this
  simpa using this
theorem ok_callP {Φ : World → Prop} {d : Nat} {f : FuncId} {xs : List Operand} {ats : Array TypeId} {qs : List (Bool × List T)} {tup : Bool} {rs : List (Bool × List T)} {ls : List (Bool × List Leaf)} (hD : E.keeps Φ) (hk : ansLs σ.nx rs = ls) (ho : o.op = .call { callee := .value (.func f), args := xs.toArray, argTypes := ats }) (hb : ∃ fn c, P.funcs[f]? = some fn ∧ fn.body = some c ∧ fn.name ≠ "runtime.NumGoroutine")
    (hc : VCP Φ P f qs tup rs) (hx : σ.argss xs qs) (hd : o.dst = some d) (hdN : d < N) : OpMk P E N none σ o ((ansSs σ rs).put d ⟨tup, ls⟩) := ok_callW hk ho hb (fun w hs => hc w (hD.at hs)) hx hd hdN
/-- A law's contract, as its last step takes it. -/
theorem VCP.law {Φ : World → Prop} {f : FuncId} {ins : List (Bool × List T)} (h : VCP Φ P f ins false [(false, [.lit (.bool true)])]) {w : World} (hT : Φ w) {vs : List Value} (hv : ArgsIn (Env.of w) w ins vs) : Calls P f vs.toArray w fun e w' => e = .returned (.bool true) ∧ Below w.heap.size w w' :=
  (h w hT vs hv).mono fun e w' hg => by
    obtain ⟨he, hs⟩ := Gives.lit hg
    exact ⟨he, ⟨hs.os, hs.tape, hs.output, hs.size, fun b hb => hs.block b ⟨hb, fun h => h.elim⟩⟩⟩
end Go.Proofs.Ytjdjceohlcimaaa.V
