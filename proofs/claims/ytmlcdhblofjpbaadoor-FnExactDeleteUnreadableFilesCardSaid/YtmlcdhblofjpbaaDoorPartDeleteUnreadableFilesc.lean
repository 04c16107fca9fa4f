/- Texts joined: VJ Kit Tab VK VTy. -/
import Derived.Test.YtmlcdhblofjpbaaDoorPartDeleteUnreadableFilesb
import Derived.Test.YtmlcdhblofjpbaaDoorProg
import Derived.WalkKit
import Derived.Below
import Derived.Lib.Hide
import Derived.OwnWalk
import Derived.Laws.IdiomStrings
import Derived.IntWalk
import Derived.Laws.OwnMore
import Derived.Test.YtmlcdhblofjpbaaDoorRows
import Derived.Test.YtmlcdhblofjpbaaDoorShelf
import Derived.Stop.LaidErr
import Derived.Stop.Joined
import Derived.LaidMore
import Derived.Lib.LaidTab
import Derived.Lib.SmallJoins
import Derived.Lib.ItoaNum
/- States told by trees: loops whose states are told by what changes (the rest stands as at the loop's beginning); calls by contracts of plain values. -/
namespace Go.Proofs.YtmlcdhblofjpbaaDoor.V
open Go Go.RowKit
set_option linter.unusedVariables false
variable {P : Program} {E : Env} {N nb : Nat} {σ σ' τ : VS} {o : Oper} {a : Act} {w : World} {G : Ghost} {Q : Exit → Act → World → Prop} {K : Act → World → Prop}
/-- An object's tree. -/
def VS.tree (σ : VS) (i : Nat) : T := match σ.ob i with
  | some p => p.2
  | none => .any
/-- A leaf of a slot, of a box. -/
def VS.lf (σ : VS) (d j : Nat) : Leaf := match (σ.tm d).cs with
  | p :: _ => p.2.getD j .dead
  | [] => .dead
def VS.bl (σ : VS) (b j : Nat) : Leaf := match σ.bs[b]? with
  | some p => p.2.getD j .dead
  | none => .dead
theorem SV.loopF {c : Go.Code} {X : Type} (I : VS → X → VS) (Inv : X → Prop) (μ : X → Nat) (h0 : SV E N σ fun a w => ∃ x, Inv x ∧ ∃ G, Rel E N (I σ x) a w G)
    (round : ∀ x, Inv x → SV E N (I σ x) (c.wp P (Exit.then (fun a w => ∃ x', (Inv x' ∧ μ x' < μ x) ∧ ∃ G, Rel E N (I σ x') a w G) Q))) : SV E N σ ((Code.loop c).wp P Q) := SV.loop (I σ) Inv μ h0 round
theorem V.le.keep {ρ : Nat → Nat} {ag : Bool} {xs ys : List Leaf} {v v' : V} (h : v = V.flat ag xs) (h' : v' = V.flat ag ys) (l : leafs σ τ ρ xs ys) : V.le σ τ ρ v v' := .inr ⟨ag, xs, ys, h, h', l⟩
/-- Where a region begins, a state may be told otherwise. -/
theorem SV.joinF {id : Nat} {l : List Oper} (I : VS → VS) (h : SV E N (I σ) (Q .normal)) (k : SV E N (I σ) (Q .normal) → SV E N σ ((Code.region id l.toArray true).wp P Q)) : SV E N σ ((Code.region id l.toArray true).wp P Q) := k h
theorem SV.sub {ρ : Nat → Nat} (hp : E.nl ≤ τ.nx ∧ (∀ i, i < E.nl → ρ i = i) ∧ ∀ c, E.pin = some c → 0 < τ.bs.length) (l : VS.le σ τ ρ) (k : SV E N τ K) : SV E N σ K := fun a w G h => by
  obtain ⟨G', h'⟩ := h.weaken hp l
  exact k a w G' h'
/-- An empty slice that a constant gave is an object. -/
theorem SV.nlsc {s kk n : Nat} {ty : TypeId} (hk : σ.nx = kk) (hs : σ.tm s = V.one (.sc (.slice none 0 0))) (hp : 0 < n) (hz : Sz ty n) (hN : s < N) (k : SV E N ((σ.new (.seq ty [])).put s (V.one (.hd kk))) K) : SV E N σ K := fun a w G h => by
  subst hk
  have h1 := h.tmps s
  rw [hs, vone] at h1
  have h2 : a.tmps.getD s undef = .slice none 0 0 := h1.1
  obtain ⟨G', k1, k2, -, -⟩ := h.newnil hp hz
  have k3 := k1.put (d := s) (v := V.one (.hd σ.nx)) (u := a.tmps.getD s undef) hN (vone.2 ⟨⟨Nat.lt_succ_self _, by rw [h2, k2]⟩, .inr (by rw [h2]; rfl)⟩)
  have e : a.put (some s) (a.tmps.getD s undef) = a := by
    have hs' : s < a.tmps.size := by rw [h.nsz]; exact hN
    cases a with
    | mk tmps defers =>
      have : tmps.setIfInBounds s (tmps.getD s undef) = tmps := by
        apply Array.ext_getElem?
        intro i
        rw [Array.getElem?_setIfInBounds]
        split
        · rename_i hi; subst hi
          simp at hs'
          simp [hs']
        · rfl
      show Act.mk _ _ = _
      rw [this]
  rw [e] at k3
  exact k a w G' k3
def isLit : T → Bool
  | .lit _ => true
  | _ => false
theorem flat_of {α : Type} {f : α → List T} (h : ∀ x, (f x).all isLit = true) (X : List α) : Flat (X.map f) := fun k e j t h1 h2 => by
  rw [List.getElem?_map] at h1
  obtain ⟨x, -, rfl⟩ := Option.map_eq_some_iff.1 h1
  have := List.all_eq_true.1 (h x) t (get_mem h2)
  cases t with
  | lit u => exact ⟨u, rfl⟩
  | any => cases this
  | seq ty es => cases this
/-! ### A literal of scalars -/
def VS.scs (σ : VS) : List Operand → List Value → Prop
  | [], [] => True
  | x :: xs, u :: us => σ.ev x = V.one (.sc u) ∧ σ.scs xs us
  | _, _ => False
theorem Rel.scs (h : Rel E N σ a w G) : ∀ {xs : List Operand} {us : List Value}, σ.scs xs us → xs.map a.eval = us ∧ ∀ u ∈ us, u.oneCell' = true
  | [], [], _ => ⟨rfl, fun u hu => by cases hu⟩
  | x :: xs, u :: us, hx => by
    obtain ⟨h1, h2⟩ := h.scs hx.2
    have h3 := h.ev x
    rw [hx.1, vone] at h3
    have h4 : a.eval x = u := h3.1
    refine ⟨by rw [List.map_cons, h1, h4], fun v hv => ?_⟩
    rcases List.mem_cons.1 hv with rfl | hv
    · rcases h3.2 with h5 | h5
      · cases h5
      · rwa [h4] at h5
    · exact h2 v hv
theorem parts_eval {xs : List Operand} : ∀ (i : Nat), ((xs.zipIdx i).map fun x => (x.2, x.1)).map (fun (i, x) => (i, a.eval x)) = ((xs.map a.eval).zipIdx i).map fun x => (x.2, x.1) := by
  induction xs with
  | nil => intro i; rfl
  | cons x xs ih => intro i; simp only [List.zipIdx_cons, List.map_cons, ih]
theorem ok_litS {d m : Nat} {t ty : TypeId} {bytes : Nat} {z : Value} {xs : List Operand} {us : List Value} {ps : Array (Nat × Operand)} (I : ElT t ty 1 z bytes) {kk : Nat} (hk : σ.nx = kk) (ho : o.op = .buildSlice t m ps) (hps : ps = ((xs.zipIdx 0).map fun x => (x.2, x.1)).toArray) (hm : us.length = m) (hm0 : 0 < m) (hm1 : m ≤ 1000) (hx : σ.scs xs us) (hd : o.dst = some d) (hdN : d < N) : OpMk Tryd.prog E N none σ o ((σ.new (.seq ty (us.map fun u => [T.lit u]))).put d (V.one (.hd kk))) :=
  fun a w G K Q h k => by
    subst hk
    obtain ⟨i0, hi, hz0, hz1, hz2⟩ := info_parts I.inf
    obtain ⟨hev, hone⟩ := h.scs hx
    have hc1 : ∀ u ∈ us, u.cells = #[u] := fun u hu => cval_cells (ag := false) (us := [u]) fun _ => ⟨rfl, fun v hv => by rw [List.mem_singleton.1 hv]; exact hone u hu⟩
    have hmap : ps.map (fun (i, x) => (i, a.eval x)) = ((us.zipIdx 0).map fun x => (x.2, x.1)).toArray := by
      rw [hps, List.map_toArray, parts_eval, hev]
    have hrun : (Instr.buildSlice t m (((us.zipIdx 0).map fun x => (x.2, x.1)).toArray)).run Tryd.prog w = .ok (.slice (some ⟨w.heap.size, 0, none⟩) m m) (w.alloc (.cells us.toArray ty)) := by
      refine run_buildSlice w t ty m _ us.toArray i0 z I.und hi hz0 ?_ ?_ ?_
      · rw [hz1]; omega
      · rw [hz1]; omega
      · obtain ⟨r, hr1, hr2, hr3⟩ := Great.fill_dense (s := i0.size) (by omega) us 0 ((Array.range (m * i0.size)).map (z.cells[· % z.cells.size]!)) (fun v hv => by rw [hc1 v hv, hz1]; rfl) (by simp [hm])
        have e : r = us.toArray := by
          apply Array.ext_getElem?
          intro q
          rw [hr3 q]
          rcases Nat.lt_or_ge q us.length with hq | hq
          · rw [if_pos ⟨by omega, by rw [hz1]; omega⟩]
            rw [hz1]
            simp only [Nat.div_one, Nat.sub_zero, Nat.mod_one]
            rw [List.getElem?_eq_getElem hq]
            simp only [Option.bind_some, hc1 us[q] (List.getElem_mem hq)]
            simp [hq]
          · rw [if_neg (by rw [hz1]; omega)]
            have h8 : us.toArray[q]? = none := by simp; omega
            rw [h8, Array.getElem?_eq_none (by simp [hz1]; omega)]
        rw [← e]
        simpa using hr1
    obtain ⟨G', hG', ⟨hvl, hvls, hβs⟩, -, -⟩ := h.renew [] (fun x hx => by cases hx) (w' := w.alloc (.cells us.toArray ty)) (t := .seq ty (us.map fun u => [T.lit u])) (v := .slice (some ⟨w.heap.size, 0, none⟩) m m) (F := fun b => b = w.heap.size) (fun _ => False) (.of_below ((Below.refl _ _).alloc h.low _)) (fun k hk _ => Below.heap_alloc _ _ _ hk) (fun b hb => hb.elim)
      (.seq 1 (by omega) I.sz (fun e he => by obtain ⟨u, -, rfl⟩ := List.mem_map.1 he; rfl) us ⟨by simp, .inr ⟨w.heap.size, m, us.toArray, by rw [List.length_map, hm], Nat.zero_le _, heap_alloc_new _ _, by rw [List.length_map, hm]; exact Nat.le_refl _, by unfold maxLen; omega, by simp [hm], by rw [List.length_map, Nat.mul_one]; exact List.take_of_length_le (by simp)⟩⟩ (fun _ _ => False) (fun k e j t' u hk' hj hu => by
          rw [List.getElem?_map] at hk'
          obtain ⟨u', hu', rfl⟩ := Option.map_eq_some_iff.1 hk'
          have hj0 : j = 0 := by have := get_lt hj; simpa using this
          subst hj0
          cases hj
          rw [Nat.mul_one, Nat.add_zero, hu'] at hu
          rw [← Option.some.inj hu]
          exact .lit (hone u' (get_mem hu'))) hone (fun b hb => (Option.some.inj hb).symm) (fun q b hb => hb.elim) (fun q b hb => hb.elim) fun q q' b hb => hb.elim)
      ⟨_, _, rfl⟩ fun b hb => ⟨by subst hb; exact ⟨.inl h.low, by simp⟩, .inl (h.fresh (by rw [hb]; exact Nat.le_refl _))⟩
    refine wp_value (v := .slice (some ⟨w.heap.size, 0, none⟩) m m) (w' := w.alloc (.cells us.toArray ty)) ?_ (by rw [hd]; exact k _ _ _ (hG'.put hdN (vone.2 ⟨⟨Nat.lt_succ_self _, hvl.symm⟩, .inr rfl⟩)) ⟨by simp, .of_below ((Below.refl _ _).alloc h.low _), hvls, fun b _ => by rw [hβs], fun b hb => .inl (Below.heap_alloc _ _ _ hb), fun i e1 e2 b e3 => .inl (by
      have hi : i = σ.nx := Nat.le_antisymm (Nat.le_of_lt_succ e2) e1
      rw [hi, hvl] at e3
      rw [← Option.some.inj e3]; exact Nat.le_refl _)⟩)
    simp only [execOp, ho, hmap]
    simp [hrun, Result.andThen]
/-- Two strings, one behind the other. -/
theorem cat_run {ρ : Operand → Value} {x y : Operand} {t1 t2 : TypeId} {a b : List UInt8} (ho : o.op = .binOp .add t1 x y t2) (h1 : ρ x = .string ⟨a.toArray⟩) (h2 : ρ y = .string ⟨b.toArray⟩) (hl : a.length + b.length ≤ 9223372036854775807) : (execOp ρ o).run P w = .ok (.value (.string ⟨(a ++ b).toArray⟩)) w := by
  simp only [execOp, ho, h1, h2]
  go_simp
  rw [if_neg (by omega)]
  rw [ByteArray.mk_append_mk]
/-! ### Contracts of plain values -/
theorem inn_lit {ok : Nat → Prop} {u v : Value} (h : Inn ok w (.lit u) v) : v = u := by
  cases h
  rfl
theorem args_plain {w : World} {ins : List (Bool × List Value)} {vs : List Value} (hv : ArgsIn (Env.of w) w (ins.map fun p => (p.1, p.2.map T.lit)) vs) : vs = ins.map fun p => cval p.1 p.2 := by
  obtain ⟨hl, ha⟩ := hv
  rw [List.length_map] at hl
  apply List.ext_getElem?
  intro c
  rcases Nat.lt_or_ge c ins.length with hc | hc
  · have hcv : vs[c]? = some vs[c] := List.getElem?_eq_getElem (by omega)
    obtain ⟨us, h2, h3, h4⟩ := ha c ins[c].1 (ins[c].2.map T.lit) vs[c] (by rw [List.getElem?_map, List.getElem?_eq_getElem hc]; rfl) hcv
    have h5 : us = ins[c].2 := by
      rw [List.length_map] at h3
      apply List.ext_getElem?
      intro j
      rcases Nat.lt_or_ge j us.length with hj | hj
      · have := h4 j (T.lit ins[c].2[j]) us[j] (by rw [List.getElem?_map, List.getElem?_eq_getElem (by omega)]; rfl) (List.getElem?_eq_getElem hj)
        rw [List.getElem?_eq_getElem hj, List.getElem?_eq_getElem (by omega), inn_lit this]
      · rw [List.getElem?_eq_none hj, List.getElem?_eq_none (by omega)]
    rw [hcv, List.getElem?_map, List.getElem?_eq_getElem hc, h2, h5]; rfl
  · rw [List.getElem?_eq_none (by omega), List.getElem?_eq_none (by simpa using hc)]
theorem gives_plain {w w' : World} {e : Ending} {ag : Bool} {rs : List Value} (h1 : ∀ u ∈ rs, u.oneCell' = true) (he : e = .returned (cval ag rs)) (hb : Below w.heap.size w w') : Gives (Env.of w) false [(ag, rs.map T.lit)] e w' := by
  refine ⟨[rs], fun _ _ _ => False, rfl, by rw [he]; rfl, fun c ag' ts us hc hu => ?_, fun c j c' j' b hb => hb.elim, fun c j b hb => hb.elim, .of_below hb⟩
  cases c with
  | zero =>
    cases hc; cases hu
    refine ⟨by simp, fun j t u hj hu => ?_⟩
    rw [List.getElem?_map, hu] at hj
    cases hj
    exact .lit (h1 u (get_mem hu))
  | succ c => simp at hc
theorem VC.plainAt {f : FuncId} {ins : List (Bool × List Value)} {ag : Bool} {rs : List Value} (h1 : ∀ u ∈ rs, u.oneCell' = true) {w : World} (h : Calls P f (ins.map fun p => cval p.1 p.2).toArray w fun e w' => e = .returned (cval ag rs) ∧ Below w.heap.size w w') (vs : List Value) (hv : ArgsIn (Env.of w) w (ins.map fun p => (p.1, p.2.map T.lit)) vs) : Calls P f vs.toArray w (Gives (Env.of w) false [(ag, rs.map T.lit)]) := by
  rw [args_plain hv]
  exact h.mono fun e w' ⟨he, hb⟩ => gives_plain h1 he hb
/-- A call of plain values that answers a plain value and changes nothing. -/
theorem VC.plain {f : FuncId} {ins : List (Bool × List Value)} {ag : Bool} {rs : List Value} (h1 : ∀ u ∈ rs, u.oneCell' = true) (h : ∀ w, Calls P f (ins.map fun p => cval p.1 p.2).toArray w fun e w' => e = .returned (cval ag rs) ∧ Below w.heap.size w w') : VC P f (ins.map fun p => (p.1, p.2.map T.lit)) false [(ag, rs.map T.lit)] := fun w => VC.plainAt h1 (h w)
/-! ### Contracts in worlds of a class -/
/-- The call answers so in every world of the class. -/
def VCP (Φ : World → Prop) (P : Program) (f : FuncId) (ins : List (Bool × List T)) (tup : Bool) (rs : List (Bool × List T)) : Prop := ∀ (w : World), Φ w → ∀ (vs : List Value), ArgsIn (Env.of w) w ins vs → Calls P f vs.toArray w (Gives (Env.of w) tup rs)
/-- The class held at the call's beginning, nothing was lent, and what comes behind is of the class. -/
def Env.keeps (E : Env) (Φ : World → Prop) : Prop := Φ E.w0 ∧ (∀ b, ¬ E.ln b) ∧ ∀ w', Below E.B E.w0 w' → Φ w'
theorem Env.keeps.at {Φ : World → Prop} (h : E.keeps Φ) (hs : Same E E.w0 w) : Φ w := h.2.2 w ⟨hs.os, hs.tape, hs.output, hs.size, fun b hb => hs.block b ⟨hb, h.2.1 b⟩⟩
theorem VCP.enter {Φ : World → Prop} (hΦ : ∀ w w', Φ w → Below w.heap.size w w' → Φ w') {f : FuncId} {fn : Func} {c : Go.Code} {n : Nat} {ins rs : List (Bool × List T)} {tup : Bool} (hf : P.funcs[f]? = some fn) (hb : fn.body = some c) (hn : fn.ntmps = n) (hl : ins.length ≤ n)
    (h : ∀ E, E.plain 0 → E.keeps Φ → SV E n (VS.init (ins.map fun p => V.flat p.1 (p.2.map argLeaf))) (c.wp P (bodyPost P fn (Gives E tup rs)))) : VCP Φ P f ins tup rs := fun w hT vs hv => by
  refine calls_of_wp hf hb ?_
  obtain ⟨G, hG⟩ := init_rel (E := Env.of w) ⟨rfl, rfl⟩ (n := n) hv (by rw [hv.1]; exact hl)
  have := h (Env.of w) ⟨rfl, rfl⟩ ⟨hT, fun b hb => hb.elim, fun w' hb => hΦ w w' hT hb⟩ _ _ G hG
  rw [hn]
  have e : (Env.of w).w0 = w := rfl
  rw [e] at this
  simpa using this
theorem ok_callP {Φ : World → Prop} {d : Nat} {f : FuncId} {xs : List Operand} {ats : Array TypeId} {qs : List (Bool × List T)} {tup : Bool} {rs : List (Bool × List T)} {ls : List (Bool × List Leaf)} (hD : E.keeps Φ) (hk : ansLs σ.nx rs = ls) (ho : o.op = .call { callee := .value (.func f), args := xs.toArray, argTypes := ats }) (hb : ∃ fn c, P.funcs[f]? = some fn ∧ fn.body = some c ∧ fn.name ≠ "runtime.NumGoroutine")
    (hc : VCP Φ P f qs tup rs) (hx : σ.argss xs qs) (hd : o.dst = some d) (hdN : d < N) : OpMk P E N none σ o ((ansSs σ rs).put d ⟨tup, ls⟩) := ok_callW hk ho hb (fun w hs => hc w (hD.at hs)) hx hd hdN
/-- A law's contract, as its last step takes it. -/
theorem VCP.law {Φ : World → Prop} {f : FuncId} {ins : List (Bool × List T)} (h : VCP Φ P f ins false [(false, [.lit (.bool true)])]) {w : World} (hT : Φ w) {vs : List Value} (hv : ArgsIn (Env.of w) w ins vs) : Calls P f vs.toArray w fun e w' => e = .returned (.bool true) ∧ Below w.heap.size w w' :=
  (h w hT vs hv).mono fun e w' hg => by
    obtain ⟨he, hs⟩ := Gives.lit hg
    exact ⟨he, ⟨hs.os, hs.tape, hs.output, hs.size, fun b hb => hs.block b ⟨hb, fun h => h.elim⟩⟩⟩
end Go.Proofs.YtmlcdhblofjpbaaDoor.V
/- Small lemmas about rows of bytes that a call made itself: what is appended, what string(b) reads; no function of the program is walked here. -/
namespace Go.Proofs.YtmlcdhblofjpbaaDoor
open Go.RowKit

/-- A row of bytes as cells. -/
def b8 (l : List UInt8) : List Value := l.map fun b => Value.int .u8 (b.toNat : Int)
theorem b8_nil : b8 [] = [] := rfl
theorem b8_length (l : List UInt8) : (b8 l).length = l.length := by simp [b8]
theorem b8_snoc (l : List UInt8) (b : UInt8) (n : Int) (h : n = (b.toNat : Int)) : b8 l ++ [Value.int .u8 n] = b8 (l ++ [b]) := by subst h; simp [b8]
theorem b8_get (l : List UInt8) (j : Nat) (hj : j < l.length) : (b8 l)[j]? = some (Value.int .u8 (l[j].toNat : Int)) := by simp [b8, hj]
theorem b8_one (l : List UInt8) : ∀ u ∈ b8 l, u.oneCell' = true := by
  intro u hu
  simp only [b8, List.mem_map] at hu
  obtain ⟨b, _, rfl⟩ := hu
  rfl
theorem b8_set (l : List UInt8) (j : Nat) (b : UInt8) (n : Int) (h : n = (b.toNat : Int)) : (b8 l).set j (Value.int .u8 n) = b8 (l.set j b) := by subst h; simp [b8, List.map_set]
theorem b8_made (n : Nat) : (madeCells (Value.int .u8 0).cells (n * 1)).toList = b8 (List.replicate n 0) := by
  rw [Nat.mul_one, show (Value.int .u8 0).cells = #[Value.int .u8 0] from rfl, toList_madeCells_one]; simp [b8]
theorem byte_info : (Tryd.prog.info? 5).map (fun i => (i.zero, i.size, i.bytes)) = some (some (.int .u8 0), 1, 1) := by kernel_rfl
/-- 'string(b)' of a row of the call's own. -/
theorem run_own_string {w : World} {base : Nat} {v : Value} {n : Nat} {l : List UInt8} (h : w.ownsRow base 5 1 v n (b8 l)) :
    (convert 22 9 v).run Tryd.prog w = .ok (.string ⟨l.toArray⟩) w := by
  have hn : l.length = n := by have := h.1; rw [b8_length] at this; omega
  rcases h.2 with ⟨rfl, h0⟩ | ⟨g, cap, cur, rfl, _, _, _, _, _, _⟩
  · subst h0
    have hl : l = [] := List.eq_nil_of_length_eq_zero hn
    subst hl
    rw [run_convert_bytes_string w _ _ _ none 0 0 Tryd.underlying22 Tryd.underlying5 Tryd.underlying9]
    rfl
  · have := hn
    subst this
    exact run_convert_bytes_back w _ _ _ ⟨g, 0, none⟩ cap l Tryd.underlying22 Tryd.underlying5 Tryd.underlying9 fun j hj => h.cells (g := g) rfl j _ (b8_get l j hj)
theorem cell_new1 (w : World) (u : Value) (t : TypeId) : ∀ (j : Nat) (x : Value), [u][j]? = some x → (w.alloc (.cells #[u] t)).cell? ((⟨w.heap.size, 0, none⟩ : Addr).add j) = some x := by
  intro j x hj
  match j, hj with
  | 0, hj => simp at hj; subst hj; simp [Addr.add]
/-- 'out = append(out, b)': one byte more on a row of the call's own, the byte in a block of its own. -/
theorem wpList_push {ops : Array Oper} {rest : List Oper} {o : Oper} {a : Act} {Q : Exit → Act → World → Prop} {W wr : World} {out : List UInt8} {n : Int} {v : Value} (s x : Operand) (b : UInt8)
    (hgd : o.guard = none) (ho : o.op = .call { callee := .builtin .append, args := #[s, x], argTypes := #[22, 22] })
    (hs : a.eval s = v) (hx : a.eval x = .slice (some ⟨wr.heap.size, 0, none⟩) 1 1) (hown : wr.ownsRow W.heap.size 5 1 v out.length (b8 out)) (hb : Below W.heap.size W wr)
    (hlen : out.length + 1 ≤ 140737488355328) (hn : n = (b.toNat : Int))
    (h : ∀ v' w', w'.ownsRow W.heap.size 5 1 v' (out ++ [b]).length (b8 (out ++ [b])) → Below W.heap.size W w' → wpList Tryd.prog ops Q rest (a.put o.dst v') w') :
    wpList Tryd.prog ops Q (o :: rest) a (wr.alloc (.cells #[.int .u8 n] 5)) := by
  obtain ⟨i0, hi, hz0, hz1, hz2⟩ := info_parts byte_info
  have hsz := hb.size
  refine wpList_append_own _ hgd s x 22 ho W.heap.size 5 i0 (.int .u8 0) 1 1 Tryd.underlying22 hi hz0 hz1 hz2 rfl (by decide) v out.length (b8 out) hs (hown.alloc _)
    ⟨wr.heap.size, 0, none⟩ 1 1 [.int .u8 n] hx rfl (cell_new1 _ _ _) (by intro u hu; simp at hu; subst hu; rfl) (by unfold maxLen; omega) (by omega) (by simp; omega) ?_
  intro v' w' hown' hg _
  rw [b8_snoc out b n hn] at hown'
  refine h v' w' (by simpa using hown') ((hb.alloc hsz _).grown hg (by simp; omega) fun k hk => (hown.lt k hk).1)
theorem b8_snoc2 (l : List UInt8) (b c : UInt8) (m n : Int) (h : m = (b.toNat : Int)) (h' : n = (c.toNat : Int)) : b8 l ++ [Value.int .u8 m, Value.int .u8 n] = b8 (l ++ [b, c]) := by subst h; subst h'; simp [b8]
theorem cell_new2 (w : World) (u v : Value) (t : TypeId) : ∀ (j : Nat) (x : Value), [u, v][j]? = some x → (w.alloc (.cells #[u, v] t)).cell? ((⟨w.heap.size, 0, none⟩ : Addr).add j) = some x := by
  intro j x hj
  match j, hj with
  | 0, hj => simp at hj; subst hj; simp [Addr.add]
  | 1, hj => simp at hj; subst hj; simp [Addr.add]
/-- 'out = append(out, b, c)'. -/
theorem wpList_push2 {ops : Array Oper} {rest : List Oper} {o : Oper} {a : Act} {Q : Exit → Act → World → Prop} {W wr : World} {out : List UInt8} {m n : Int} {v : Value} (s x : Operand) (b c : UInt8)
    (hgd : o.guard = none) (ho : o.op = .call { callee := .builtin .append, args := #[s, x], argTypes := #[22, 22] })
    (hs : a.eval s = v) (hx : a.eval x = .slice (some ⟨wr.heap.size, 0, none⟩) 2 2) (hown : wr.ownsRow W.heap.size 5 1 v out.length (b8 out)) (hb : Below W.heap.size W wr)
    (hlen : out.length + 2 ≤ 140737488355328) (hm : m = (b.toNat : Int)) (hn : n = (c.toNat : Int))
    (h : ∀ v' w', w'.ownsRow W.heap.size 5 1 v' (out ++ [b, c]).length (b8 (out ++ [b, c])) → Below W.heap.size W w' → wpList Tryd.prog ops Q rest (a.put o.dst v') w') :
    wpList Tryd.prog ops Q (o :: rest) a (wr.alloc (.cells #[.int .u8 m, .int .u8 n] 5)) := by
  obtain ⟨i0, hi, hz0, hz1, hz2⟩ := info_parts byte_info
  have hsz := hb.size
  refine wpList_append_own _ hgd s x 22 ho W.heap.size 5 i0 (.int .u8 0) 1 1 Tryd.underlying22 hi hz0 hz1 hz2 rfl (by decide) v out.length (b8 out) hs (hown.alloc _)
    ⟨wr.heap.size, 0, none⟩ 2 2 [.int .u8 m, .int .u8 n] hx rfl (cell_new2 _ _ _ _) (by intro u hu; simp at hu; rcases hu with rfl | rfl <;> rfl) (by unfold maxLen; omega) (by omega) (by simp; omega) ?_
  intro v' w' hown' hg _
  rw [b8_snoc2 out b c m n hm hn] at hown'
  refine h v' w' (by simpa using hown') ((hb.alloc hsz _).grown hg (by simp; omega) fun k hk => (hown.lt k hk).1)
/-- 'string([]byte{b})'. -/
theorem one_string (wr : World) (x : Int) (b : UInt8) (hx : x = (b.toNat : Int)) :
    (convert 22 9 (.slice (some ⟨wr.heap.size, 0, none⟩) 1 1)).run Tryd.prog (wr.alloc (.cells #[.int .u8 x] 5)) = .ok (.string ⟨[b].toArray⟩) (wr.alloc (.cells #[.int .u8 x] 5)) := by
  subst hx
  exact run_convert_bytes_back _ _ _ _ ⟨wr.heap.size, 0, none⟩ 1 [b] Tryd.underlying22 Tryd.underlying5 Tryd.underlying9 fun j hj => cell_new1 wr _ _ j _ (by simp at hj; subst hj; rfl)
theorem ext_take (s : ByteArray) (k : Nat) : (s.extract 0 k).toList = s.data.toList.take k := by
  rw [ByteArray.toList_eq]
  simp
end Go.Proofs.YtmlcdhblofjpbaaDoor
/- What the rows' listed variables give the walks: the table of powers of ten; and how it is kept. -/
namespace Go.Proofs.YtmlcdhblofjpbaaDoor
open Go Go.RowKit Go.Shelf

theorem gTab : Tryd.prog.globalNamed "internal/strconv.uint64pow10" = some 1 := by kernel_rfl
theorem tTab : (Tryd.prog.globals[1]?).map (·.type) = some 206 := by kernel_rfl
theorem tabDatum : (Rows.laid_internal_strconv_uint64pow10 : DataW Unit) = Lib.tabData .u64 Lib.pow10Tab := by kernel_rfl

/-- The table of powers of ten lies as the library lays it. -/
def Tab (w : World) : Prop := Lib.TabIs Tryd.prog w "internal/strconv.uint64pow10" .u64 Lib.pow10Tab
theorem Tab.stay {w w' : World} (h : Tab w) (hb : Below w.heap.size w w') : Tab w' := Joins.tab_stays gTab h hb (Nat.le_refl _)
theorem tab_of {r : List (String × DataW Unit)} {w : World} (h : laidMet Tryd.prog (("internal/strconv.uint64pow10", Rows.laid_internal_strconv_uint64pow10) :: r) w) : Tab w := by
  rw [tabDatum] at h
  exact Lib.tabIs_of_head gTab tTab Tryd.underlying206 Tryd.underlying174 (by kernel_rfl) (by kernel_rfl) h
/-- FormatInt of the program. -/
theorem below_grow (w : World) (k : Nat) (os : Array Obj) : Below w.heap.size w (Sort.grow (w.drewN k) os) :=
  ⟨rfl, rfl, rfl, by simp [Sort.grow], fun i hi => Sort.heap_grow_old (w.drewN k) os hi⟩
theorem itoa_any (n : Int) (w : World) (h0 : -9223372036854775808 ≤ n) (h1 : n ≤ 9223372036854775807) (ht : Tab w) :
    Calls Tryd.prog 130 #[.int .i64 n] w fun e w' => e = .returned (.string ⟨(Lib.itoa n).toArray⟩) ∧ Below w.heap.size w w' := by
  refine (Tryd.strconv_Itoa n h0 h1 w ht).mono fun e w' ⟨he, hw⟩ => ⟨he, ?_⟩
  obtain ⟨k, os, rfl⟩ := hw
  exact below_grow w k os
theorem ifmt (n : Int) (w : World) (h0 : -9223372036854775808 ≤ n) (h1 : n ≤ 9223372036854775807) (ht : Tab w) :
    Calls Tryd.prog 98 #[.int .i64 n] w fun e w' => e = .returned (.string ⟨(Lib.itoa n).toArray⟩) ∧ Below w.heap.size w w' := by
  have HT := Lib.hid ht
  clear ht
  go_enter Tryd.func98, Tryd.ntmps98
  go_wp2_with fail
  refine (itoa_any n _ h0 h1 HT.out).mono ?_
  rintro e w1 ⟨rfl, b1⟩
  go_wp2_with fail
  go_ret
  exact ⟨rfl, b1⟩
end Go.Proofs.YtmlcdhblofjpbaaDoor
/- States told by trees: contracts under the table that the library's variables hold. -/
namespace Go.Proofs.YtmlcdhblofjpbaaDoor.V
open Go Go.RowKit
set_option linter.unusedVariables false
variable {P : Program} {E : Env} {N : Nat} {σ : VS} {o : Oper}
/-- The call answers so, wherever the table lies. -/
def VCD (P : Program) (f : FuncId) (ins : List (Bool × List T)) (tup : Bool) (rs : List (Bool × List T)) : Prop := ∀ (w : World), Tab w → ∀ (vs : List Value), ArgsIn (Env.of w) w ins vs → Calls P f vs.toArray w (Gives (Env.of w) tup rs)
theorem VC.door {f : FuncId} {ins rs : List (Bool × List T)} {tup : Bool} (h : VC P f ins tup rs) : VCD P f ins tup rs := fun w _ => h w
/-- The table lay at the call's beginning, and nothing was lent. -/
def Env.door (E : Env) : Prop := Tab E.w0 ∧ ∀ b, ¬ E.ln b
theorem Env.door.at {w : World} (h : E.door) (hs : Same E E.w0 w) : Tab w := h.1.stay ⟨hs.os, hs.tape, hs.output, hs.size, fun b hb => hs.block b ⟨hb, h.2 b⟩⟩
theorem VCD.enter {f : FuncId} {fn : Func} {c : Go.Code} {n : Nat} {ins rs : List (Bool × List T)} {tup : Bool} (hf : P.funcs[f]? = some fn) (hb : fn.body = some c) (hn : fn.ntmps = n) (hl : ins.length ≤ n)
    (h : ∀ E, E.plain 0 → E.door → SV E n (VS.init (ins.map fun p => V.flat p.1 (p.2.map argLeaf))) (c.wp P (bodyPost P fn (Gives E tup rs)))) : VCD P f ins tup rs := fun w hT vs hv => by
  refine calls_of_wp hf hb ?_
  obtain ⟨G, hG⟩ := init_rel (E := Env.of w) ⟨rfl, rfl⟩ (n := n) hv (by rw [hv.1]; exact hl)
  have := h (Env.of w) ⟨rfl, rfl⟩ ⟨hT, fun b hb => hb.elim⟩ _ _ G hG
  rw [hn]
  have e : (Env.of w).w0 = w := rfl
  rw [e] at this
  simpa using this
theorem ok_callD {d : Nat} {f : FuncId} {xs : List Operand} {ats : Array TypeId} {qs : List (Bool × List T)} {tup : Bool} {rs : List (Bool × List T)} {ls : List (Bool × List Leaf)} (hD : E.door) (hk : ansLs σ.nx rs = ls) (ho : o.op = .call { callee := .value (.func f), args := xs.toArray, argTypes := ats }) (hb : ∃ fn c, P.funcs[f]? = some fn ∧ fn.body = some c ∧ fn.name ≠ "runtime.NumGoroutine")
    (hc : VCD P f qs tup rs) (hx : σ.argss xs qs) (hd : o.dst = some d) (hdN : d < N) : OpMk P E N none σ o ((ansSs σ rs).put d ⟨tup, ls⟩) := ok_callW hk ho hb (fun w hs => hc w (hD.at hs)) hx hd hdN
/-- A call of plain values that answers a plain value and changes nothing. -/
theorem VCD.plain {f : FuncId} {ins : List (Bool × List Value)} {ag : Bool} {rs : List Value} (h1 : ∀ u ∈ rs, u.oneCell' = true) (h : ∀ w, Tab w → Calls P f (ins.map fun p => cval p.1 p.2).toArray w fun e w' => e = .returned (cval ag rs) ∧ Below w.heap.size w w') : VCD P f (ins.map fun p => (p.1, p.2.map T.lit)) false [(ag, rs.map T.lit)] := fun w hT =>
  VC.plainAt h1 (h w hT)
/-- A law's contract, as its last step takes it. -/
theorem VCD.law {f : FuncId} {ins : List (Bool × List T)} (h : VCD P f ins false [(false, [.lit (.bool true)])]) {w : World} (hT : Tab w) {vs : List Value} (hv : ArgsIn (Env.of w) w ins vs) : Calls P f vs.toArray w fun e w' => e = .returned (.bool true) ∧ Below w.heap.size w w' :=
  (h w hT vs hv).mono fun e w' hg => by
    obtain ⟨he, hs⟩ := Gives.lit hg
    exact ⟨he, ⟨hs.os, hs.tape, hs.output, hs.size, fun b hb => hs.block b ⟨hb, fun h => h.elim⟩⟩⟩
end Go.Proofs.YtmlcdhblofjpbaaDoor.V
/- What the programs' types are to the model: sizes, zeros, fields, elements; no function of program or reference. -/
namespace Go.Proofs.YtmlcdhblofjpbaaDoor.V
open Go Go.RowKit
set_option linter.unusedVariables false
set_option maxRecDepth 10000
theorem sz_bool : Sz 4 1 := Sz.of (by kernel_rfl)
theorem agg_bool (w : World) : (isAgg 4).run Tryd.prog w = .ok false w := by go_simp <;> rfl
theorem zero_bool (w : World) : (zeroValue 4).run Tryd.prog w = .ok (.bool false) w := by go_simp <;> rfl
theorem sz_impl_Disk : Sz 55 2 := Sz.of (by kernel_rfl)
theorem agg_impl_Disk (w : World) : (isAgg 55).run Tryd.prog w = .ok true w := by go_simp <;> rfl
theorem zero_impl_Disk (w : World) : (zeroValue 55).run Tryd.prog w = .ok (.agg #[.slice none 0 0, .int .i64 0]) w := by go_simp <;> rfl
theorem fld_impl_Disk_0 (ad : Addr) (w : World) (h : ad.spot = none) : (Instr.fieldAt 55 (.pointer (some ad)) 0).run Tryd.prog w = .ok (.pointer (some ⟨ad.block, ad.off + 0, none⟩)) w := by
  obtain ⟨b, o, s⟩ := ad
  subst h
  go_simp
theorem fld_impl_Disk_1 (ad : Addr) (w : World) (h : ad.spot = none) : (Instr.fieldAt 55 (.pointer (some ad)) 1).run Tryd.prog w = .ok (.pointer (some ⟨ad.block, ad.off + 1, none⟩)) w := by
  obtain ⟨b, o, s⟩ := ad
  subst h
  go_simp
theorem bld_impl_Disk (vs : Array (Nat × Value)) (r : Array Value) (w : World) (h : Instr.fill (fun i => ([(0, 1), (1, 1)] : List (Nat × Nat))[i]?) (Value.cells (.agg #[.slice none 0 0, .int .i64 0])) vs.toList = some r) : (Instr.build 55 vs).run Tryd.prog w = .ok (.agg r) w := by
  have h2 := h
  simp only [Value.cells] at h2
  unfold Instr.build
  simp only [Sem.run_bind, zero_impl_Disk, Result.andThen_ok]
  go_simp
theorem sz_impl_File : Sz 102 4 := Sz.of (by kernel_rfl)
theorem agg_impl_File (w : World) : (isAgg 102).run Tryd.prog w = .ok true w := by go_simp <;> rfl
theorem zero_impl_File (w : World) : (zeroValue 102).run Tryd.prog w = .ok (.agg #[.int .i64 0, .slice none 0 0, .int .i64 0, .bool false]) w := by go_simp <;> rfl
theorem fld_impl_File_0 (ad : Addr) (w : World) (h : ad.spot = none) : (Instr.fieldAt 102 (.pointer (some ad)) 0).run Tryd.prog w = .ok (.pointer (some ⟨ad.block, ad.off + 0, none⟩)) w := by
  obtain ⟨b, o, s⟩ := ad
  subst h
  go_simp
theorem fld_impl_File_1 (ad : Addr) (w : World) (h : ad.spot = none) : (Instr.fieldAt 102 (.pointer (some ad)) 1).run Tryd.prog w = .ok (.pointer (some ⟨ad.block, ad.off + 1, none⟩)) w := by
  obtain ⟨b, o, s⟩ := ad
  subst h
  go_simp
theorem fld_impl_File_2 (ad : Addr) (w : World) (h : ad.spot = none) : (Instr.fieldAt 102 (.pointer (some ad)) 2).run Tryd.prog w = .ok (.pointer (some ⟨ad.block, ad.off + 2, none⟩)) w := by
  obtain ⟨b, o, s⟩ := ad
  subst h
  go_simp
theorem fld_impl_File_3 (ad : Addr) (w : World) (h : ad.spot = none) : (Instr.fieldAt 102 (.pointer (some ad)) 3).run Tryd.prog w = .ok (.pointer (some ⟨ad.block, ad.off + 3, none⟩)) w := by
  obtain ⟨b, o, s⟩ := ad
  subst h
  go_simp
theorem bld_impl_File (vs : Array (Nat × Value)) (r : Array Value) (w : World) (h : Instr.fill (fun i => ([(0, 1), (1, 1), (2, 1), (3, 1)] : List (Nat × Nat))[i]?) (Value.cells (.agg #[.int .i64 0, .slice none 0 0, .int .i64 0, .bool false])) vs.toList = some r) : (Instr.build 102 vs).run Tryd.prog w = .ok (.agg r) w := by
  have h2 := h
  simp only [Value.cells] at h2
  unfold Instr.build
  simp only [Sem.run_bind, zero_impl_File, Result.andThen_ok]
  go_simp
theorem sz_impl_Group : Sz 33 5 := Sz.of (by kernel_rfl)
theorem agg_impl_Group (w : World) : (isAgg 33).run Tryd.prog w = .ok true w := by go_simp <;> rfl
theorem zero_impl_Group (w : World) : (zeroValue 33).run Tryd.prog w = .ok (.agg #[.int .i64 0, .int .i64 0, .int .i64 0, .int .i64 0, .int .i64 0]) w := by go_simp <;> rfl
theorem fld_impl_Group_0 (ad : Addr) (w : World) (h : ad.spot = none) : (Instr.fieldAt 33 (.pointer (some ad)) 0).run Tryd.prog w = .ok (.pointer (some ⟨ad.block, ad.off + 0, none⟩)) w := by
  obtain ⟨b, o, s⟩ := ad
  subst h
  go_simp
theorem fld_impl_Group_1 (ad : Addr) (w : World) (h : ad.spot = none) : (Instr.fieldAt 33 (.pointer (some ad)) 1).run Tryd.prog w = .ok (.pointer (some ⟨ad.block, ad.off + 1, none⟩)) w := by
  obtain ⟨b, o, s⟩ := ad
  subst h
  go_simp
theorem fld_impl_Group_2 (ad : Addr) (w : World) (h : ad.spot = none) : (Instr.fieldAt 33 (.pointer (some ad)) 2).run Tryd.prog w = .ok (.pointer (some ⟨ad.block, ad.off + 2, none⟩)) w := by
  obtain ⟨b, o, s⟩ := ad
  subst h
  go_simp
theorem fld_impl_Group_3 (ad : Addr) (w : World) (h : ad.spot = none) : (Instr.fieldAt 33 (.pointer (some ad)) 3).run Tryd.prog w = .ok (.pointer (some ⟨ad.block, ad.off + 3, none⟩)) w := by
  obtain ⟨b, o, s⟩ := ad
  subst h
  go_simp
theorem fld_impl_Group_4 (ad : Addr) (w : World) (h : ad.spot = none) : (Instr.fieldAt 33 (.pointer (some ad)) 4).run Tryd.prog w = .ok (.pointer (some ⟨ad.block, ad.off + 4, none⟩)) w := by
  obtain ⟨b, o, s⟩ := ad
  subst h
  go_simp
theorem bld_impl_Group (vs : Array (Nat × Value)) (r : Array Value) (w : World) (h : Instr.fill (fun i => ([(0, 1), (1, 1), (2, 1), (3, 1), (4, 1)] : List (Nat × Nat))[i]?) (Value.cells (.agg #[.int .i64 0, .int .i64 0, .int .i64 0, .int .i64 0, .int .i64 0])) vs.toList = some r) : (Instr.build 33 vs).run Tryd.prog w = .ok (.agg r) w := by
  have h2 := h
  simp only [Value.cells] at h2
  unfold Instr.build
  simp only [Sem.run_bind, zero_impl_Group, Result.andThen_ok]
  go_simp
theorem sz_impl_Page : Sz 72 1 := Sz.of (by kernel_rfl)
theorem agg_impl_Page (w : World) : (isAgg 72).run Tryd.prog w = .ok true w := by go_simp <;> rfl
theorem zero_impl_Page (w : World) : (zeroValue 72).run Tryd.prog w = .ok (.agg #[.slice none 0 0]) w := by go_simp <;> rfl
theorem fld_impl_Page_0 (ad : Addr) (w : World) (h : ad.spot = none) : (Instr.fieldAt 72 (.pointer (some ad)) 0).run Tryd.prog w = .ok (.pointer (some ⟨ad.block, ad.off + 0, none⟩)) w := by
  obtain ⟨b, o, s⟩ := ad
  subst h
  go_simp
theorem bld_impl_Page (vs : Array (Nat × Value)) (r : Array Value) (w : World) (h : Instr.fill (fun i => ([(0, 1)] : List (Nat × Nat))[i]?) (Value.cells (.agg #[.slice none 0 0])) vs.toList = some r) : (Instr.build 72 vs).run Tryd.prog w = .ok (.agg r) w := by
  have h2 := h
  simp only [Value.cells] at h2
  unfold Instr.build
  simp only [Sem.run_bind, zero_impl_Page, Result.andThen_ok]
  go_simp
theorem sz_impl_Row : Sz 41 3 := Sz.of (by kernel_rfl)
theorem agg_impl_Row (w : World) : (isAgg 41).run Tryd.prog w = .ok true w := by go_simp <;> rfl
theorem zero_impl_Row (w : World) : (zeroValue 41).run Tryd.prog w = .ok (.agg #[.int .i64 0, .int .i64 0, .int .i64 0]) w := by go_simp <;> rfl
theorem fld_impl_Row_0 (ad : Addr) (w : World) (h : ad.spot = none) : (Instr.fieldAt 41 (.pointer (some ad)) 0).run Tryd.prog w = .ok (.pointer (some ⟨ad.block, ad.off + 0, none⟩)) w := by
  obtain ⟨b, o, s⟩ := ad
  subst h
  go_simp
theorem fld_impl_Row_1 (ad : Addr) (w : World) (h : ad.spot = none) : (Instr.fieldAt 41 (.pointer (some ad)) 1).run Tryd.prog w = .ok (.pointer (some ⟨ad.block, ad.off + 1, none⟩)) w := by
  obtain ⟨b, o, s⟩ := ad
  subst h
  go_simp
theorem fld_impl_Row_2 (ad : Addr) (w : World) (h : ad.spot = none) : (Instr.fieldAt 41 (.pointer (some ad)) 2).run Tryd.prog w = .ok (.pointer (some ⟨ad.block, ad.off + 2, none⟩)) w := by
  obtain ⟨b, o, s⟩ := ad
  subst h
  go_simp
theorem bld_impl_Row (vs : Array (Nat × Value)) (r : Array Value) (w : World) (h : Instr.fill (fun i => ([(0, 1), (1, 1), (2, 1)] : List (Nat × Nat))[i]?) (Value.cells (.agg #[.int .i64 0, .int .i64 0, .int .i64 0])) vs.toList = some r) : (Instr.build 41 vs).run Tryd.prog w = .ok (.agg r) w := by
  have h2 := h
  simp only [Value.cells] at h2
  unfold Instr.build
  simp only [Sem.run_bind, zero_impl_Row, Result.andThen_ok]
  go_simp
theorem sz_int : Sz 3 1 := Sz.of (by kernel_rfl)
theorem agg_int (w : World) : (isAgg 3).run Tryd.prog w = .ok false w := by go_simp <;> rfl
theorem zero_int (w : World) : (zeroValue 3).run Tryd.prog w = .ok (.int .i64 0) w := by go_simp <;> rfl
theorem sz_int64 : Sz 2 1 := Sz.of (by kernel_rfl)
theorem agg_int64 (w : World) : (isAgg 2).run Tryd.prog w = .ok false w := by go_simp <;> rfl
theorem zero_int64 (w : World) : (zeroValue 2).run Tryd.prog w = .ok (.int .i64 0) w := by go_simp <;> rfl
theorem sz_laws_Disk : Sz 51 2 := Sz.of (by kernel_rfl)
theorem agg_laws_Disk (w : World) : (isAgg 51).run Tryd.prog w = .ok true w := by go_simp <;> rfl
theorem zero_laws_Disk (w : World) : (zeroValue 51).run Tryd.prog w = .ok (.agg #[.slice none 0 0, .int .i64 0]) w := by go_simp <;> rfl
theorem fld_laws_Disk_0 (ad : Addr) (w : World) (h : ad.spot = none) : (Instr.fieldAt 51 (.pointer (some ad)) 0).run Tryd.prog w = .ok (.pointer (some ⟨ad.block, ad.off + 0, none⟩)) w := by
  obtain ⟨b, o, s⟩ := ad
  subst h
  go_simp
theorem fld_laws_Disk_1 (ad : Addr) (w : World) (h : ad.spot = none) : (Instr.fieldAt 51 (.pointer (some ad)) 1).run Tryd.prog w = .ok (.pointer (some ⟨ad.block, ad.off + 1, none⟩)) w := by
  obtain ⟨b, o, s⟩ := ad
  subst h
  go_simp
theorem bld_laws_Disk (vs : Array (Nat × Value)) (r : Array Value) (w : World) (h : Instr.fill (fun i => ([(0, 1), (1, 1)] : List (Nat × Nat))[i]?) (Value.cells (.agg #[.slice none 0 0, .int .i64 0])) vs.toList = some r) : (Instr.build 51 vs).run Tryd.prog w = .ok (.agg r) w := by
  have h2 := h
  simp only [Value.cells] at h2
  unfold Instr.build
  simp only [Sem.run_bind, zero_laws_Disk, Result.andThen_ok]
  go_simp
theorem sz_laws_File : Sz 141 4 := Sz.of (by kernel_rfl)
theorem agg_laws_File (w : World) : (isAgg 141).run Tryd.prog w = .ok true w := by go_simp <;> rfl
theorem zero_laws_File (w : World) : (zeroValue 141).run Tryd.prog w = .ok (.agg #[.int .i64 0, .slice none 0 0, .int .i64 0, .bool false]) w := by go_simp <;> rfl
theorem fld_laws_File_0 (ad : Addr) (w : World) (h : ad.spot = none) : (Instr.fieldAt 141 (.pointer (some ad)) 0).run Tryd.prog w = .ok (.pointer (some ⟨ad.block, ad.off + 0, none⟩)) w := by
  obtain ⟨b, o, s⟩ := ad
  subst h
  go_simp
theorem fld_laws_File_1 (ad : Addr) (w : World) (h : ad.spot = none) : (Instr.fieldAt 141 (.pointer (some ad)) 1).run Tryd.prog w = .ok (.pointer (some ⟨ad.block, ad.off + 1, none⟩)) w := by
  obtain ⟨b, o, s⟩ := ad
  subst h
  go_simp
theorem fld_laws_File_2 (ad : Addr) (w : World) (h : ad.spot = none) : (Instr.fieldAt 141 (.pointer (some ad)) 2).run Tryd.prog w = .ok (.pointer (some ⟨ad.block, ad.off + 2, none⟩)) w := by
  obtain ⟨b, o, s⟩ := ad
  subst h
  go_simp
theorem fld_laws_File_3 (ad : Addr) (w : World) (h : ad.spot = none) : (Instr.fieldAt 141 (.pointer (some ad)) 3).run Tryd.prog w = .ok (.pointer (some ⟨ad.block, ad.off + 3, none⟩)) w := by
  obtain ⟨b, o, s⟩ := ad
  subst h
  go_simp
theorem bld_laws_File (vs : Array (Nat × Value)) (r : Array Value) (w : World) (h : Instr.fill (fun i => ([(0, 1), (1, 1), (2, 1), (3, 1)] : List (Nat × Nat))[i]?) (Value.cells (.agg #[.int .i64 0, .slice none 0 0, .int .i64 0, .bool false])) vs.toList = some r) : (Instr.build 141 vs).run Tryd.prog w = .ok (.agg r) w := by
  have h2 := h
  simp only [Value.cells] at h2
  unfold Instr.build
  simp only [Sem.run_bind, zero_laws_File, Result.andThen_ok]
  go_simp
theorem sz_laws_Group : Sz 98 5 := Sz.of (by kernel_rfl)
theorem agg_laws_Group (w : World) : (isAgg 98).run Tryd.prog w = .ok true w := by go_simp <;> rfl
theorem zero_laws_Group (w : World) : (zeroValue 98).run Tryd.prog w = .ok (.agg #[.int .i64 0, .int .i64 0, .int .i64 0, .int .i64 0, .int .i64 0]) w := by go_simp <;> rfl
theorem fld_laws_Group_0 (ad : Addr) (w : World) (h : ad.spot = none) : (Instr.fieldAt 98 (.pointer (some ad)) 0).run Tryd.prog w = .ok (.pointer (some ⟨ad.block, ad.off + 0, none⟩)) w := by
  obtain ⟨b, o, s⟩ := ad
  subst h
  go_simp
theorem fld_laws_Group_1 (ad : Addr) (w : World) (h : ad.spot = none) : (Instr.fieldAt 98 (.pointer (some ad)) 1).run Tryd.prog w = .ok (.pointer (some ⟨ad.block, ad.off + 1, none⟩)) w := by
  obtain ⟨b, o, s⟩ := ad
  subst h
  go_simp
theorem fld_laws_Group_2 (ad : Addr) (w : World) (h : ad.spot = none) : (Instr.fieldAt 98 (.pointer (some ad)) 2).run Tryd.prog w = .ok (.pointer (some ⟨ad.block, ad.off + 2, none⟩)) w := by
  obtain ⟨b, o, s⟩ := ad
  subst h
  go_simp
theorem fld_laws_Group_3 (ad : Addr) (w : World) (h : ad.spot = none) : (Instr.fieldAt 98 (.pointer (some ad)) 3).run Tryd.prog w = .ok (.pointer (some ⟨ad.block, ad.off + 3, none⟩)) w := by
  obtain ⟨b, o, s⟩ := ad
  subst h
  go_simp
theorem fld_laws_Group_4 (ad : Addr) (w : World) (h : ad.spot = none) : (Instr.fieldAt 98 (.pointer (some ad)) 4).run Tryd.prog w = .ok (.pointer (some ⟨ad.block, ad.off + 4, none⟩)) w := by
  obtain ⟨b, o, s⟩ := ad
  subst h
  go_simp
theorem bld_laws_Group (vs : Array (Nat × Value)) (r : Array Value) (w : World) (h : Instr.fill (fun i => ([(0, 1), (1, 1), (2, 1), (3, 1), (4, 1)] : List (Nat × Nat))[i]?) (Value.cells (.agg #[.int .i64 0, .int .i64 0, .int .i64 0, .int .i64 0, .int .i64 0])) vs.toList = some r) : (Instr.build 98 vs).run Tryd.prog w = .ok (.agg r) w := by
  have h2 := h
  simp only [Value.cells] at h2
  unfold Instr.build
  simp only [Sem.run_bind, zero_laws_Group, Result.andThen_ok]
  go_simp
theorem sz_laws_Page : Sz 181 1 := Sz.of (by kernel_rfl)
theorem agg_laws_Page (w : World) : (isAgg 181).run Tryd.prog w = .ok true w := by go_simp <;> rfl
theorem zero_laws_Page (w : World) : (zeroValue 181).run Tryd.prog w = .ok (.agg #[.slice none 0 0]) w := by go_simp <;> rfl
theorem fld_laws_Page_0 (ad : Addr) (w : World) (h : ad.spot = none) : (Instr.fieldAt 181 (.pointer (some ad)) 0).run Tryd.prog w = .ok (.pointer (some ⟨ad.block, ad.off + 0, none⟩)) w := by
  obtain ⟨b, o, s⟩ := ad
  subst h
  go_simp
theorem bld_laws_Page (vs : Array (Nat × Value)) (r : Array Value) (w : World) (h : Instr.fill (fun i => ([(0, 1)] : List (Nat × Nat))[i]?) (Value.cells (.agg #[.slice none 0 0])) vs.toList = some r) : (Instr.build 181 vs).run Tryd.prog w = .ok (.agg r) w := by
  have h2 := h
  simp only [Value.cells] at h2
  unfold Instr.build
  simp only [Sem.run_bind, zero_laws_Page, Result.andThen_ok]
  go_simp
theorem sz_laws_Row : Sz 202 3 := Sz.of (by kernel_rfl)
theorem agg_laws_Row (w : World) : (isAgg 202).run Tryd.prog w = .ok true w := by go_simp <;> rfl
theorem zero_laws_Row (w : World) : (zeroValue 202).run Tryd.prog w = .ok (.agg #[.int .i64 0, .int .i64 0, .int .i64 0]) w := by go_simp <;> rfl
theorem fld_laws_Row_0 (ad : Addr) (w : World) (h : ad.spot = none) : (Instr.fieldAt 202 (.pointer (some ad)) 0).run Tryd.prog w = .ok (.pointer (some ⟨ad.block, ad.off + 0, none⟩)) w := by
  obtain ⟨b, o, s⟩ := ad
  subst h
  go_simp
theorem fld_laws_Row_1 (ad : Addr) (w : World) (h : ad.spot = none) : (Instr.fieldAt 202 (.pointer (some ad)) 1).run Tryd.prog w = .ok (.pointer (some ⟨ad.block, ad.off + 1, none⟩)) w := by
  obtain ⟨b, o, s⟩ := ad
  subst h
  go_simp
theorem fld_laws_Row_2 (ad : Addr) (w : World) (h : ad.spot = none) : (Instr.fieldAt 202 (.pointer (some ad)) 2).run Tryd.prog w = .ok (.pointer (some ⟨ad.block, ad.off + 2, none⟩)) w := by
  obtain ⟨b, o, s⟩ := ad
  subst h
  go_simp
theorem bld_laws_Row (vs : Array (Nat × Value)) (r : Array Value) (w : World) (h : Instr.fill (fun i => ([(0, 1), (1, 1), (2, 1)] : List (Nat × Nat))[i]?) (Value.cells (.agg #[.int .i64 0, .int .i64 0, .int .i64 0])) vs.toList = some r) : (Instr.build 202 vs).run Tryd.prog w = .ok (.agg r) w := by
  have h2 := h
  simp only [Value.cells] at h2
  unfold Instr.build
  simp only [Sem.run_bind, zero_laws_Row, Result.andThen_ok]
  go_simp
theorem sz_spec_l1Cur : Sz 121 3 := Sz.of (by kernel_rfl)
theorem agg_spec_l1Cur (w : World) : (isAgg 121).run Tryd.prog w = .ok true w := by go_simp <;> rfl
theorem zero_spec_l1Cur (w : World) : (zeroValue 121).run Tryd.prog w = .ok (.agg #[.slice none 0 0, .int .i64 0, .int .i64 0]) w := by go_simp <;> rfl
theorem fld_spec_l1Cur_0 (ad : Addr) (w : World) (h : ad.spot = none) : (Instr.fieldAt 121 (.pointer (some ad)) 0).run Tryd.prog w = .ok (.pointer (some ⟨ad.block, ad.off + 0, none⟩)) w := by
  obtain ⟨b, o, s⟩ := ad
  subst h
  go_simp
theorem fld_spec_l1Cur_1 (ad : Addr) (w : World) (h : ad.spot = none) : (Instr.fieldAt 121 (.pointer (some ad)) 1).run Tryd.prog w = .ok (.pointer (some ⟨ad.block, ad.off + 1, none⟩)) w := by
  obtain ⟨b, o, s⟩ := ad
  subst h
  go_simp
theorem fld_spec_l1Cur_2 (ad : Addr) (w : World) (h : ad.spot = none) : (Instr.fieldAt 121 (.pointer (some ad)) 2).run Tryd.prog w = .ok (.pointer (some ⟨ad.block, ad.off + 2, none⟩)) w := by
  obtain ⟨b, o, s⟩ := ad
  subst h
  go_simp
theorem bld_spec_l1Cur (vs : Array (Nat × Value)) (r : Array Value) (w : World) (h : Instr.fill (fun i => ([(0, 1), (1, 1), (2, 1)] : List (Nat × Nat))[i]?) (Value.cells (.agg #[.slice none 0 0, .int .i64 0, .int .i64 0])) vs.toList = some r) : (Instr.build 121 vs).run Tryd.prog w = .ok (.agg r) w := by
  have h2 := h
  simp only [Value.cells] at h2
  unfold Instr.build
  simp only [Sem.run_bind, zero_spec_l1Cur, Result.andThen_ok]
  go_simp
theorem sz_string : Sz 9 1 := Sz.of (by kernel_rfl)
theorem agg_string (w : World) : (isAgg 9).run Tryd.prog w = .ok false w := by go_simp <;> rfl
theorem zero_string (w : World) : (zeroValue 9).run Tryd.prog w = .ok (.string ByteArray.empty) w := by go_simp <;> rfl
theorem sz_uint8 : Sz 5 1 := Sz.of (by kernel_rfl)
theorem agg_uint8 (w : World) : (isAgg 5).run Tryd.prog w = .ok false w := by go_simp <;> rfl
theorem zero_uint8 (w : World) : (zeroValue 5).run Tryd.prog w = .ok (.int .u8 0) w := by go_simp <;> rfl
theorem sz_s_impl_File : Sz 53 1 := Sz.of (by kernel_rfl)
theorem agg_s_impl_File (w : World) : (isAgg 53).run Tryd.prog w = .ok false w := by go_simp <;> rfl
theorem zero_s_impl_File (w : World) : (zeroValue 53).run Tryd.prog w = .ok (.slice none 0 0) w := by go_simp <;> rfl
theorem sz_s_impl_Group : Sz 26 1 := Sz.of (by kernel_rfl)
theorem agg_s_impl_Group (w : World) : (isAgg 26).run Tryd.prog w = .ok false w := by go_simp <;> rfl
theorem zero_s_impl_Group (w : World) : (zeroValue 26).run Tryd.prog w = .ok (.slice none 0 0) w := by go_simp <;> rfl
theorem sz_s_impl_Page : Sz 67 1 := Sz.of (by kernel_rfl)
theorem agg_s_impl_Page (w : World) : (isAgg 67).run Tryd.prog w = .ok false w := by go_simp <;> rfl
theorem zero_s_impl_Page (w : World) : (zeroValue 67).run Tryd.prog w = .ok (.slice none 0 0) w := by go_simp <;> rfl
theorem sz_s_impl_Row : Sz 24 1 := Sz.of (by kernel_rfl)
theorem agg_s_impl_Row (w : World) : (isAgg 24).run Tryd.prog w = .ok false w := by go_simp <;> rfl
theorem zero_s_impl_Row (w : World) : (zeroValue 24).run Tryd.prog w = .ok (.slice none 0 0) w := by go_simp <;> rfl
theorem sz_s_int : Sz 137 1 := Sz.of (by kernel_rfl)
theorem agg_s_int (w : World) : (isAgg 137).run Tryd.prog w = .ok false w := by go_simp <;> rfl
theorem zero_s_int (w : World) : (zeroValue 137).run Tryd.prog w = .ok (.slice none 0 0) w := by go_simp <;> rfl
theorem sz_s_laws_File : Sz 49 1 := Sz.of (by kernel_rfl)
theorem agg_s_laws_File (w : World) : (isAgg 49).run Tryd.prog w = .ok false w := by go_simp <;> rfl
theorem zero_s_laws_File (w : World) : (zeroValue 49).run Tryd.prog w = .ok (.slice none 0 0) w := by go_simp <;> rfl
theorem sz_s_laws_Group : Sz 45 1 := Sz.of (by kernel_rfl)
theorem agg_s_laws_Group (w : World) : (isAgg 45).run Tryd.prog w = .ok false w := by go_simp <;> rfl
theorem zero_s_laws_Group (w : World) : (zeroValue 45).run Tryd.prog w = .ok (.slice none 0 0) w := by go_simp <;> rfl
theorem sz_s_laws_Page : Sz 139 1 := Sz.of (by kernel_rfl)
theorem agg_s_laws_Page (w : World) : (isAgg 139).run Tryd.prog w = .ok false w := by go_simp <;> rfl
theorem zero_s_laws_Page (w : World) : (zeroValue 139).run Tryd.prog w = .ok (.slice none 0 0) w := by go_simp <;> rfl
theorem sz_s_laws_Row : Sz 179 1 := Sz.of (by kernel_rfl)
theorem agg_s_laws_Row (w : World) : (isAgg 179).run Tryd.prog w = .ok false w := by go_simp <;> rfl
theorem zero_s_laws_Row (w : World) : (zeroValue 179).run Tryd.prog w = .ok (.slice none 0 0) w := by go_simp <;> rfl
theorem sz_s_string : Sz 87 1 := Sz.of (by kernel_rfl)
theorem agg_s_string (w : World) : (isAgg 87).run Tryd.prog w = .ok false w := by go_simp <;> rfl
theorem zero_s_string (w : World) : (zeroValue 87).run Tryd.prog w = .ok (.slice none 0 0) w := by go_simp <;> rfl
theorem sz_s_uint8 : Sz 22 1 := Sz.of (by kernel_rfl)
theorem agg_s_uint8 (w : World) : (isAgg 22).run Tryd.prog w = .ok false w := by go_simp <;> rfl
theorem zero_s_uint8 (w : World) : (zeroValue 22).run Tryd.prog w = .ok (.slice none 0 0) w := by go_simp <;> rfl
theorem elt_impl_File : ElT 53 102 4 (.agg #[.int .i64 0, .slice none 0 0, .int .i64 0, .bool false]) 48 := ⟨Tryd.underlying53, by kernel_rfl, rfl, by decide, by decide, by decide⟩
theorem elt_impl_Group : ElT 26 33 5 (.agg #[.int .i64 0, .int .i64 0, .int .i64 0, .int .i64 0, .int .i64 0]) 40 := ⟨Tryd.underlying26, by kernel_rfl, rfl, by decide, by decide, by decide⟩
theorem elt_impl_Page : ElT 67 72 1 (.agg #[.slice none 0 0]) 24 := ⟨Tryd.underlying67, by kernel_rfl, rfl, by decide, by decide, by decide⟩
theorem elt_impl_Row : ElT 24 41 3 (.agg #[.int .i64 0, .int .i64 0, .int .i64 0]) 24 := ⟨Tryd.underlying24, by kernel_rfl, rfl, by decide, by decide, by decide⟩
theorem elt_int : ElT 137 3 1 (.int .i64 0) 8 := ⟨Tryd.underlying137, by kernel_rfl, rfl, by decide, by decide, by decide⟩
theorem elt_laws_File : ElT 49 141 4 (.agg #[.int .i64 0, .slice none 0 0, .int .i64 0, .bool false]) 48 := ⟨Tryd.underlying49, by kernel_rfl, rfl, by decide, by decide, by decide⟩
theorem elt_laws_Group : ElT 45 98 5 (.agg #[.int .i64 0, .int .i64 0, .int .i64 0, .int .i64 0, .int .i64 0]) 40 := ⟨Tryd.underlying45, by kernel_rfl, rfl, by decide, by decide, by decide⟩
theorem elt_laws_Page : ElT 139 181 1 (.agg #[.slice none 0 0]) 24 := ⟨Tryd.underlying139, by kernel_rfl, rfl, by decide, by decide, by decide⟩
theorem elt_laws_Row : ElT 179 202 3 (.agg #[.int .i64 0, .int .i64 0, .int .i64 0]) 24 := ⟨Tryd.underlying179, by kernel_rfl, rfl, by decide, by decide, by decide⟩
theorem elt_string : ElT 87 9 1 (.string ByteArray.empty) 16 := ⟨Tryd.underlying87, by kernel_rfl, rfl, by decide, by decide, by decide⟩
theorem elt_uint8 : ElT 22 5 1 (.int .u8 0) 1 := ⟨Tryd.underlying22, by kernel_rfl, rfl, by decide, by decide, by decide⟩
end Go.Proofs.YtmlcdhblofjpbaaDoor.V
