/- Texts joined: VM VN Math Mem Shape VMk VJ Apart Only ToRow ToRows Mark OpenRow Opens MarkIn TBase TRow TRun TSorter VTr VOp VWRow VWRun. -/
import Derived.Test.YtpnbnbhifpcelaaPartCa
import Derived.Lib.ItoaNum
import Derived.Lib.ItoaLen
import Derived.Lib.Atoi
import Derived.Lib.Strings
import Derived.Lib.Split
import Derived.Lib.Join
import Derived.Lib.IndexMore
import Derived.Test.YtpnbnbhifpcelaaProg
import Derived.WalkKit
import Derived.Below
import Derived.Lib.Hide
import Derived.OwnWalk
import Derived.IntWalk
import Derived.Laws.OwnMore
import Derived.OpenShut
import Derived.Lib.SmallJoins
import Derived.Laws.AppendOwnNone
import Derived.Deep.RegionLaw
import Derived.Deep.RegionLawGrows
import Derived.Deep.AppendLies
import Derived.Lib.SliceRun
import Derived.BigQuiet
import Derived.Deep.Slices
import Derived.Deep.Strs
set_option linter.unusedSimpArgs false
set_option linter.unusedVariables false
/- States told by trees: contracts of functions that write into what they are handed, and their calls. -/
namespace Go.Proofs.Ytpnbnbhifpcelaa.V
open Go Go.RowKit
set_option linter.unusedVariables false
inductive AC where
 | rd (t : T)
 | ln (i : Nat)
def AC.leaf : AC → Leaf
 | .rd t => argLeaf t
 | .ln i => .hd i
def Env.lend (w : World) (lv : Nat → Value) (F : Nat → Nat → Prop) (n : Nat) (hF : ∀ i b, i < n → F i b → b < w.heap.size) : Env := ⟨w, fun b => ∃ i, i < n ∧ F i b, fun b ⟨i, h1, h2⟩ => hF i b h1 h2, lv, n, none⟩
def ArgsM (E : Env) (ins : List (Bool × List AC)) (vs : List Value) : Prop :=
 vs.length = ins.length ∧ ∀ (c : Nat) (ag : Bool) (ts : List AC) (v : Value), ins[c]? = some (ag, ts) → vs[c]? = some v → ∃ us : List Value, v = cval ag us ∧ us.length = ts.length ∧ ∀ (j : Nat) (x : AC) (u : Value), ts[j]? = some x → us[j]? = some u → match x with
  | .rd t => Inn E.old E.w0 t u
  | .ln i => i < E.nl ∧ u = E.lv i
def Lents (E : Env) (ls : List T) (w' : World) : Prop :=
 ∃ F : Nat → Nat → Prop, (∀ i t, ls[i]? = some t → Own w' 0 t (E.lv i) (F i)) ∧ (∀ i j b, i < ls.length → j < ls.length → i ≠ j → F i b → ¬ F j b) ∧ ∀ i b, i < ls.length → F i b → (E.B ≤ b ∨ E.ln b) ∧ b < w'.heap.size
def VM (P : Program) (f : FuncId) (ins : List (Bool × List AC)) (ls ls' : List T) (v : Value) : Prop :=
 ∀ (w : World) (lv : Nat → Value) (F : Nat → Nat → Prop) (hF : ∀ i b, i < ls.length → F i b → b < w.heap.size) (vs : List Value), (∀ i t, ls[i]? = some t → Own w 0 t (lv i) (F i) ∧ ∃ ty es, t = .seq ty es) → (∀ i j b, i < ls.length → j < ls.length → i ≠ j → F i b → ¬ F j b) → ArgsM (Env.lend w lv F ls.length hF) ins vs →
  Calls P f vs.toArray w fun e w' => Gives (Env.lend w lv F ls.length hF) false [(false, [.lit v])] e w' ∧ Lents (Env.lend w lv F ls.length hF) ls' w'
def VS.initM (vs : List V) (ls : List T) : VS := ⟨fun s => vs.getD s (V.one .dead), [], fun i => (ls[i]?).map fun t => (0, t), ls.length⟩
theorem init_relM {E : Env} {ins : List (Bool × List AC)} {ls : List T} {F : Nat → Nat → Prop} {vs : List Value} {n : Nat} (hE : E.plain ls.length) (hl : ∀ i t, ls[i]? = some t → Own E.w0 0 t (E.lv i) (F i) ∧ ∃ ty es, t = .seq ty es) (hd : ∀ i j b, i < ls.length → j < ls.length → i ≠ j → F i b → ¬ F j b)
  (hF : ∀ i b, i < ls.length → F i b → (E.B ≤ b ∨ E.ln b) ∧ b < E.w0.heap.size) (h : ArgsM E ins vs) (hn : vs.length ≤ n) : ∃ G, Rel E n (VS.initM (ins.map fun p => V.flat p.1 (p.2.map AC.leaf)) ls) { tmps := vs.toArray ++ Array.replicate (n - vs.length) undef, defers := [] } E.w0 G := by
 have hob : ∀ i ver t, (VS.initM (ins.map fun p => V.flat p.1 (p.2.map AC.leaf)) ls).ob i = some (ver, t) → ls[i]? = some t := fun i ver t hi => by
  obtain ⟨s, h1, h2⟩ := Option.map_eq_some_iff.1 hi
  cases h2
  exact h1
 have hlt : ∀ i, (VS.initM (ins.map fun p => V.flat p.1 (p.2.map AC.leaf)) ls).ob i ≠ none → i < ls.length := fun i hi => by
  obtain ⟨⟨v, t⟩, hv⟩ := Option.ne_none_iff_exists'.1 hi
  exact get_lt (hob i v t hv)
 refine ⟨⟨fun _ => 0, E.lv, F⟩, Same.refl _ _, rfl, by simp; omega, fun s => ?_, fun b ty xs hb => by simp [VS.initM] at hb, fun b b' hb => by simp [VS.initM] at hb, fun b i hb => by simp [VS.initM] at hb, fun i v t hi => ⟨get_lt (hob i v t hi), hl i t (hob i v t hi)⟩, fun i j b hi hj hij => hd i j b (hlt i hi) (hlt j hj) hij, fun i b hi hb => hF i b (hlt i hi) hb, ⟨by rw [hE.1]; exact Nat.le_refl _, fun i hi => rfl, fun c hc => by rw [hE.2] at hc; cases hc⟩⟩
 show VHolds _ _ _ E.w0 ((ins.map fun p => V.flat p.1 (p.2.map AC.leaf)).getD s (V.one .dead)) _
 rcases Nat.lt_or_ge s ins.length with hs | hs
 ·obtain ⟨p, hp⟩ : ∃ p, ins[s]? = some p := ⟨ins[s], List.getElem?_eq_getElem hs⟩
  obtain ⟨ag, ts⟩ := p
  have hsv : s < vs.length := by rw [h.1]; exact hs
  obtain ⟨us, h1, h2, h3⟩ := h.2 s ag ts vs[s] hp (List.getElem?_eq_getElem hsv)
  have e1 : (ins.map fun p => V.flat p.1 (p.2.map AC.leaf)).getD s (V.one .dead) = V.flat ag (ts.map AC.leaf) := by simp [List.getD, hp]
  have e2 : (vs.toArray ++ Array.replicate (n - vs.length) undef).getD s undef = vs[s] := by
   simp only [Array.getD_eq_getD_getElem?]
   rw [Array.getElem?_append_left (by simpa using hsv)]
   simp [hsv]
  rw [e1]
  show VHolds _ _ _ E.w0 _ ((vs.toArray ++ Array.replicate (n - vs.length) undef).getD s undef)
  rw [e2, vflat]
  refine ⟨us, h1, by simp [h2], fun j x u hj hu => ?_⟩
  have hjt : j < ts.length := by have := get_lt hj; simpa using this
  have hx : x = AC.leaf ts[j] := by
   rw [List.getElem?_map, List.getElem?_eq_getElem hjt] at hj
   exact (Option.some.inj hj).symm
  have hin := h3 j ts[j] u (List.getElem?_eq_getElem hjt) hu
  rw [hx]
  cases hc : ts[j] with
  | ln i =>
   rw [hc] at hin
   obtain ⟨h4, h5⟩ := hin
   have h4' : i < ls.length := by rw [← hE.1]; exact h4
   exact ⟨⟨h4', h5⟩, .inr (by rw [h5]; exact (hl i ls[i] (List.getElem?_eq_getElem h4')).1.one)⟩
  | rd t =>
   rw [hc] at hin
   cases t with
   | any => exact ⟨trivial, .inl rfl⟩
   | lit v =>
    replace hin : Inn E.old E.w0 (.lit v) u := hin
    cases hin with
    | lit hv => exact ⟨rfl, .inr hv⟩
   | seq ty es => exact ⟨hin, .inr (Inn.one hin)⟩
 ·have e1 : (ins.map fun p => V.flat p.1 (p.2.map AC.leaf)).getD s (V.one .dead) = V.one .dead := by simp [List.getD, hs]
  rw [e1, vone]
  exact ⟨trivial, .inl rfl⟩
theorem VM.enter {P : Program} {f : FuncId} {fn : Func} {c : Go.Code} {n : Nat} {ins : List (Bool × List AC)} {ls ls' : List T} {v : Value} {m : Nat} (hm : ls.length = m) (hf : P.funcs[f]? = some fn) (hb : fn.body = some c) (hn : fn.ntmps = n) (hl : ins.length ≤ n)
  (h : ∀ E, E.plain m → SV E n (VS.initM (ins.map fun p => V.flat p.1 (p.2.map AC.leaf)) ls) (c.wp P (bodyPost P fn fun e w' => Gives E false [(false, [.lit v])] e w' ∧ Lents E ls' w'))) : VM P f ins ls ls' v := fun w lv F hF vs h1 h2 hv => by
 refine calls_of_wp hf hb ?_
 obtain ⟨G, hG⟩ := init_relM (E := Env.lend w lv F ls.length hF) (F := F) ⟨rfl, rfl⟩ h1 h2 (fun i b hi hb => ⟨.inr ⟨i, hi, hb⟩, hF i b hi hb⟩) hv (n := n) (by rw [hv.1]; exact hl)
 have := h (Env.lend w lv F ls.length hF) ⟨hm, rfl⟩ _ _ G hG
 rw [hn]
 have e : (Env.lend w lv F ls.length hF).w0 = w := rfl
 rw [e] at this
 simpa using this
variable {P : Program} {E : Env} {N : Nat} {σ σ' : VS} {o : Oper} {a : Act} {w : World} {G : Ghost}
def VS.lentOk (σ : VS) : Nat → List T → Prop
 | _, [] => True
 | i, t :: ts => (σ.ob i).map (·.2) = some t ∧ σ.lentOk (i + 1) ts
theorem VS.lentOk.get : ∀ {ts : List T} {i : Nat}, σ.lentOk i ts → ∀ k t, ts[k]? = some t → ∃ v, σ.ob (i + k) = some (v, t)
 | t :: ts, i, h, 0, s, hk => by
  cases hk
  obtain ⟨⟨v, t'⟩, h1, h2⟩ := Option.map_eq_some_iff.1 h.1
  exact ⟨v, by rw [Nat.add_zero, h1]; exact congrArg (fun x => some (v, x)) h2⟩
 | t :: ts, i, h, k + 1, s, hk => by
  have := VS.lentOk.get h.2 k s (by simpa using hk)
  rwa [Nat.add_assoc, Nat.add_comm 1 k] at this
theorem Rel.lents (h : Rel E N σ a w G) {ls : List T} (hE : E.nl = ls.length) (hl : σ.lentOk 0 ls) : Lents E ls w := by
 have hg : ∀ i t, ls[i]? = some t → ∃ v, σ.ob i = some (v, t) := fun i t hi => by
  have := hl.get i t hi
  rwa [Nat.zero_add] at this
 have hne : ∀ i, i < ls.length → σ.ob i ≠ none := fun i hi => by
  obtain ⟨v, h1⟩ := hg i ls[i] (List.getElem?_eq_getElem hi)
  rw [h1]; simp
 refine ⟨G.ft, fun i t hi => ?_, fun i j b hi hj hij => h.disj i j b (hne i hi) (hne j hj) hij, fun i b hi hb => h.ftlt i b (hne i hi) hb⟩
 obtain ⟨v, h1⟩ := hg i t hi
 rw [← h.lent.2.1 i (by rw [hE]; exact get_lt hi)]
 exact (h.objs i v t h1).2.1
theorem SV.doneM {fn : Func} {ls : List T} {e : Exit} {R : Ending → World → Prop} {m : Nat} (hE : E.plain m) (hm : ls.length = m) (hl : σ.lentOk 0 ls) (he : e = .ret ∨ e = .normal) (h : SV E N σ (bodyPost P fn R e)) : SV E N σ (bodyPost P fn (fun e w' => R e w' ∧ Lents E ls w') e) := fun a w G hr => by
 have h1 := h a w G hr
 have h2 := hr.lents (hE.1.trans hm.symm) hl
 rcases he with rfl | rfl
 all_goals
  obtain ⟨h3, v, h4, h5⟩ := h1
  exact ⟨h3, v, h4, h5, h2⟩
/-! ### Calls -/
def VS.argM (ps : List Leaf) : List Leaf → List AC → Prop
 | [], [] => True
 | x :: xs, .rd t :: ts => (∃ u, t = .lit u ∧ x = .sc u) ∧ VS.argM ps xs ts
 | x :: xs, .ln i :: ts => ps[i]? = some x ∧ VS.argM ps xs ts
 | _, _ => False
theorem argM_get {ps : List Leaf} : ∀ {xs : List Leaf} {ts : List AC}, VS.argM ps xs ts → xs.length = ts.length ∧ ∀ (j : Nat) (t : AC), ts[j]? = some t → ∃ x, xs[j]? = some x ∧ match t with
  | .rd t => ∃ u, t = .lit u ∧ x = .sc u
  | .ln i => ps[i]? = some x
 | [], [], _ => ⟨rfl, fun j t h => by simp at h⟩
 | x :: xs, .rd t :: ts, h => by
  obtain ⟨h1, h2⟩ := argM_get h.2
  refine ⟨by simp [h1], fun j s hj => ?_⟩
  cases j with
  | zero => cases hj; exact ⟨x, rfl, h.1⟩
  | succ j => exact h2 j s (by simpa using hj)
 | x :: xs, .ln i :: ts, h => by
  obtain ⟨h1, h2⟩ := argM_get h.2
  refine ⟨by simp [h1], fun j s hj => ?_⟩
  cases j with
  | zero => cases hj; exact ⟨x, rfl, h.1⟩
  | succ j => exact h2 j s (by simpa using hj)
def VS.argsM (σ : VS) (ps : List Leaf) : List Operand → List (Bool × List AC) → Prop
 | [], [] => True
 | x :: xs, q :: qs => (∃ ls, σ.ev x = V.flat q.1 ls ∧ VS.argM ps ls q.2) ∧ σ.argsM ps xs qs
 | _, _ => False
theorem Rel.argsM (h : Rel E N σ a w G) {ps : List Leaf} {E' : Env} (hps : ∀ i x u, ps[i]? = some x → Holds G σ E w x u → i < E'.nl ∧ u = E'.lv i) : ∀ {xs : List Operand} {qs : List (Bool × List AC)}, σ.argsM ps xs qs → ArgsM E' qs (xs.map a.eval)
 | [], [], _ => ⟨rfl, fun c ag ts v hc => by simp at hc⟩
 | x :: xs, q :: qs, hq => by
  obtain ⟨⟨ls, h1, h2⟩, h3⟩ := hq
  obtain ⟨h4, h5⟩ := h.argsM hps h3
  refine ⟨by simpa using h4, fun c ag ts v hc hv => ?_⟩
  cases c with
  | zero =>
   cases hc
   cases hv
   have h6 := h.ev x
   rw [h1, vflat] at h6
   obtain ⟨us, h7, h8, h9⟩ := h6
   obtain ⟨h10, h11⟩ := argM_get h2
   refine ⟨us, h7, h8.trans h10, fun j t u hj hu => ?_⟩
   obtain ⟨y, h12, h13⟩ := h11 j t hj
   have h14 := h9 j y u h12 hu
   cases t with
   | ln i => exact hps i y u h13 h14
   | rd t =>
    obtain ⟨z, rfl, rfl⟩ := h13
    rcases h14.2 with h15 | h15
    ·cases h15
    ·have h16 : u = z := h14.1
     rw [h16] at h15 ⊢
     exact .lit h15
  | succ c => exact h5 c ag ts v (by simpa using hc) (by simpa using hv)
theorem Gives.lit {v : Value} {e : Ending} {w' : World} (h : Gives E false [(false, [.lit v])] e w') : e = .returned v ∧ Same E E.w0 w' := by
 obtain ⟨uss, F, h1, h2, h3, -, -, h4⟩ := h
 match uss, h1 with
 | [us], _ =>
  obtain ⟨h5, h6⟩ := h3 0 false [.lit v] us rfl rfl
  match us, h5 with
  | [u], _ =>
   have h7 := h6 0 (.lit v) u rfl rfl
   cases h7 with
   | lit h8 => exact ⟨h2, h4⟩
def VS.setob (σ : VS) (i : Nat) (t : T) : VS := { σ with ob := fun k => bif Nat.beq k i then (σ.ob i).map (fun p => (p.1 + 1, t)) else σ.ob k }
def VS.setobs (σ : VS) : List Nat → List T → VS
 | i :: is, t :: ts => (σ.setob i t).setobs is ts
 | _, _ => σ
theorem setob_self {i : Nat} {t : T} : (σ.setob i t).ob i = (σ.ob i).map fun p => (p.1 + 1, t) := by show (bif Nat.beq i i then _ else _) = _; rw [Nat.beq_refl]; rfl
theorem setob_ne {i k : Nat} {t : T} (h : k ≠ i) : (σ.setob i t).ob k = σ.ob k := by show (bif Nat.beq k i then _ else _) = _; rw [nbne h]; rfl
theorem setobs_same : ∀ {is : List Nat} {ts : List T} {σ : VS}, (σ.setobs is ts).tm = σ.tm ∧ (σ.setobs is ts).bs = σ.bs ∧ (σ.setobs is ts).nx = σ.nx
 | [], _, _ => ⟨rfl, rfl, rfl⟩
 | _ :: _, [], _ => ⟨rfl, rfl, rfl⟩
 | i :: is, t :: ts, σ => setobs_same (is := is) (ts := ts) (σ := σ.setob i t)
theorem setobs_far : ∀ {is : List Nat} {ts : List T} {σ : VS} {k : Nat}, k ∉ is → (σ.setobs is ts).ob k = σ.ob k
 | [], _, _, _, _ => rfl
 | _ :: _, [], _, _, _ => rfl
 | i :: is, t :: ts, σ, k, h => by
  rw [show σ.setobs (i :: is) (t :: ts) = (σ.setob i t).setobs is ts from rfl, setobs_far (fun hk => h (List.mem_cons_of_mem _ hk)), setob_ne fun e => h (by rw [e]; exact List.mem_cons_self ..)]
theorem setobs_at : ∀ {is : List Nat} {ts : List T} {σ : VS} {q k : Nat} {t : T}, is.Nodup → is[q]? = some k → ts[q]? = some t → (σ.setobs is ts).ob k = (σ.ob k).map fun p => (p.1 + 1, t)
 | i :: is, s :: ts, σ, 0, k, t, hn, hk, ht => by
  cases hk
  cases ht
  rw [show σ.setobs (i :: is) (s :: ts) = (σ.setob i s).setobs is ts from rfl, setobs_far (List.nodup_cons.1 hn).1, setob_self]
 | i :: is, s :: ts, σ, q + 1, k, t, hn, hk, ht => by
  have hk' : is[q]? = some k := by simpa using hk
  have hne : k ≠ i := fun e => (List.nodup_cons.1 hn).1 (by rw [← e]; exact get_mem hk')
  rw [show σ.setobs (i :: is) (s :: ts) = (σ.setob i s).setobs is ts from rfl, setobs_at (List.nodup_cons.1 hn).2 hk' (by simpa using ht), setob_ne hne]
def VS.lentIs (σ : VS) : List Nat → List T → List T → Prop
 | [], [], [] => True
 | i :: is, t :: ts, t' :: ts' => ((∃ v, σ.ob i = some (v, t)) ∧ (∃ ty es, t' = .seq ty es)) ∧ σ.lentIs is ts ts'
 | _, _, _ => False
theorem lentIs_get : ∀ {is : List Nat} {ts ts' : List T}, σ.lentIs is ts ts' → is.length = ts.length ∧ ts'.length = ts.length ∧ ∀ (q : Nat) (t : T), ts[q]? = some t → ∃ (i v : Nat) (t' : T), is[q]? = some i ∧ ts'[q]? = some t' ∧ σ.ob i = some (v, t) ∧ ∃ ty es, t' = .seq ty es
 | [], [], [], _ => ⟨rfl, rfl, fun q t h => by simp at h⟩
 | i :: is, t :: ts, t' :: ts', h => by
  obtain ⟨⟨⟨v, h1⟩, h2⟩, h3⟩ := h
  obtain ⟨h4, h5, h6⟩ := lentIs_get h3
  refine ⟨by simp [h4], by simp [h5], fun q s hq => ?_⟩
  cases q with
  | zero => cases hq; exact ⟨i, v, t', rfl, rfl, h1, h2⟩
  | succ q => exact h6 q s (by simpa using hq)
theorem ok_callM {d : Nat} {f : FuncId} {xs : List Operand} {ats : Array TypeId} {ins : List (Bool × List AC)} {ls ls' : List T} {v : Value} {is : List Nat} (ho : o.op = .call { callee := .value (.func f), args := xs.toArray, argTypes := ats }) (hb : ∃ fn c, P.funcs[f]? = some fn ∧ fn.body = some c ∧ fn.name ≠ "runtime.NumGoroutine")
  (hc : VM P f ins ls ls' v) (hx : σ.argsM (is.map .hd) xs ins) (hi : σ.lentIs is ls ls') (hnd : is.Nodup) (hv : v.oneCell' = true) (hd : o.dst = some d) (hdN : d < N) : OpOk P E N σ o ((σ.setobs is ls').put d (V.one (.sc v))) :=
 fun a w G K Q h k => by
  obtain ⟨fn, c, h1, h2, h2'⟩ := hb
  obtain ⟨l1, l2, l3⟩ := lentIs_get hi
  obtain ⟨F, hFd⟩ : ∃ F : Nat → Nat → Prop, F = fun q => G.ft (is.getD q 0) := ⟨_, rfl⟩
  obtain ⟨lv, hlv⟩ : ∃ lv : Nat → Value, lv = fun q => G.vl (is.getD q 0) := ⟨_, rfl⟩
  have hat : ∀ q i, is[q]? = some i → F q = G.ft i ∧ lv q = G.vl i := fun q i hq => by rw [hFd, hlv]; simp [List.getD, hq]
  have hin : ∀ q, q < ls.length → ∃ i ver t t', is[q]? = some i ∧ ls[q]? = some t ∧ ls'[q]? = some t' ∧ σ.ob i = some (ver, t) ∧ (∃ ty es, t' = .seq ty es) ∧ F q = G.ft i ∧ lv q = G.vl i := fun q hq => by
   obtain ⟨i, ver, t', e1, e2, e3, e4⟩ := l3 q ls[q] (List.getElem?_eq_getElem hq)
   exact ⟨i, ver, ls[q], t', e1, List.getElem?_eq_getElem hq, e2, e3, e4, hat q i e1⟩
  have hF : ∀ q b, q < ls.length → F q b → (E.B ≤ b ∨ E.ln b) ∧ b < w.heap.size := fun q b hq hb => by
   obtain ⟨i, ver, t, t', e1, e2, e3, e4, e5, e6, e7⟩ := hin q hq
   rw [e6] at hb
   exact h.ftlt i b (by rw [e4]; simp) hb
  have hinj : ∀ q q' i, is[q]? = some i → is[q']? = some i → q = q' := fun q q' i h1 h2 => by
   rcases Nat.lt_trichotomy q q' with hlt | he | hgt
   ·exact absurd rfl (by
     have := (List.pairwise_iff_getElem.1 hnd) q q' (get_lt h1) (get_lt h2) hlt
     rw [List.getElem?_eq_getElem (get_lt h1)] at h1
     rw [List.getElem?_eq_getElem (get_lt h2)] at h2
     rw [Option.some.inj h1, Option.some.inj h2] at this
     exact this)
   ·exact he
   ·exact absurd rfl (by
     have := (List.pairwise_iff_getElem.1 hnd) q' q (get_lt h2) (get_lt h1) hgt
     rw [List.getElem?_eq_getElem (get_lt h1)] at h1
     rw [List.getElem?_eq_getElem (get_lt h2)] at h2
     rw [Option.some.inj h1, Option.some.inj h2] at this
     exact this)
  have hcall := hc w lv F (fun q b hq hb => (hF q b hq hb).2) (xs.map a.eval) (fun q t hq => by
   obtain ⟨i, ver, t', e1, e2, e3, e4⟩ := l3 q t hq
   obtain ⟨-, e5, e6⟩ := h.objs i ver t e3
   rw [(hat q i e1).1, (hat q i e1).2]
   exact ⟨e5, e6⟩) (fun q q' b hq hq' hne hb => by
   obtain ⟨i, ver, t, t', e1, e2, e3, e4, e5, e6, e7⟩ := hin q hq
   obtain ⟨i', ver', s, s', f1, f2, f3, f4, f5, f6, f7⟩ := hin q' hq'
   rw [e6] at hb
   rw [f6]
   refine h.disj i i' b (by rw [e4]; simp) (by rw [f4]; simp) (fun e => hne ?_) hb
   subst e
   exact hinj q q' i e1 f1) (h.argsM (fun q x u hq hu => by
   rw [List.getElem?_map] at hq
   obtain ⟨i, e1, e2⟩ := Option.map_eq_some_iff.1 hq
   subst e2
   exact ⟨by show q < ls.length; rw [← l1]; exact get_lt e1, by rw [hu.1.2]; exact (hat q i e1).2.symm⟩) hx)
  have hrun : (execOp a.eval o).run P w = .ok (.enter f (xs.map a.eval).toArray) w := by
   simp [execOp, ho, resolve, Act.eval, Deferred.ofValue, invoke, callFunc, h1, h2, h2', Result.andThen]
  unfold Oper.wp
  rw [hrun]
  refine hcall.mono fun e w' ⟨hg, F', o', d', l'⟩ => ?_
  obtain ⟨he, hsame⟩ := hg.lit
  subst he
  have hsm : Same E w w' := ⟨hsame.os, hsame.tape, hsame.output, hsame.size, fun b hb => hsame.block b ⟨Nat.lt_of_lt_of_le hb.1 h.low, fun ⟨q, hq, hqb⟩ => (hF q b hq hqb).1.elim (fun h1 => by have := hb.1; omega) hb.2⟩⟩
  obtain ⟨s1, s2, s3⟩ := setobs_same (is := is) (ts := ls') (σ := σ)
  have hmem : ∀ i, i ∈ is → ∃ q t t' ver, is[q]? = some i ∧ ls[q]? = some t ∧ ls'[q]? = some t' ∧ σ.ob i = some (ver, t) ∧ (∃ ty es, t' = .seq ty es) ∧ (σ.setobs is ls').ob i = some (ver + 1, t') := fun i hi => by
   obtain ⟨q, hq, rfl⟩ := List.getElem_of_mem hi
   obtain ⟨i', ver, t, t', e1, e2, e3, e4, e5, -⟩ := hin q (by omega)
   have : is[q] = i' := by rw [List.getElem?_eq_getElem hq] at e1; exact Option.some.inj e1
   subst this
   exact ⟨q, t, t', ver, e1, e2, e3, e4, e5, by rw [setobs_at hnd e1 e3, e4]; rfl⟩
  have hturn := h.turn (σ' := σ.setobs is ls') (w' := w') (G' := ⟨G.β, G.vl, fun i b => (i ∉ is ∧ G.ft i b) ∨ ∃ q, is[q]? = some i ∧ F' q b⟩) (fun b => ∃ q, q < ls.length ∧ F q b) s1 s2 rfl hsm (fun b hb hnD => hsame.block b ⟨hb, hnD⟩) (fun b hb ⟨q, hq, hqb⟩ => by
   obtain ⟨i, ver, t, t', e1, e2, e3, e4, e5, e6, e7⟩ := hin q hq
   rw [e6] at hqb
   exact h.boxft b i hb (by rw [e4]; simp) hqb) (Nat.le_of_eq s3.symm) (fun i hi => rfl) (fun i v' t' hv' => ?_) (fun i j b hi hj hij hbi hbj => ?_)
  ·rw [hd]
   exact k _ _ _ (hturn.1.put hdN (vone.2 ⟨rfl, .inr hv⟩))
  ·by_cases him : i ∈ is
   ·obtain ⟨q, t, t2, ver, e1, e2, e3, e4, e5, e6⟩ := hmem i him
    rw [e6] at hv'
    cases hv'
    have hq := get_lt e3
    have hqi : ∀ b, ((i ∉ is ∧ G.ft i b) ∨ ∃ q, is[q]? = some i ∧ F' q b) → F' q b := fun b hb => by
     rcases hb with ⟨hb, -⟩ | ⟨q', f1, f2⟩
     ·exact absurd him hb
     ·rw [hinj q q' i e1 f1]; exact f2
    refine .inr ⟨by rw [s3]; exact (h.objs i ver t e4).1, fun _ => ⟨ver, t, e4, Nat.lt_succ_self _⟩, ?_, e5, fun b hb => ?_, fun b hb c hc e => ?_⟩
    ·have := o' q t' e3
     rw [show (Env.lend w lv F ls.length _).lv q = G.vl i from (hat q i e1).2] at this
     exact this.mono fun b hb => .inr ⟨q, e1, hb⟩
    ·obtain ⟨m1, m2⟩ := l' q b hq (hqi b hb)
     refine ⟨?_, m2⟩
     rcases m1 with m1 | ⟨q', m1, m3⟩
     ·exact .inl (Nat.le_trans h.low m1)
     ·exact (hF q' b m1 m3).1
    ·obtain ⟨m1, m2⟩ := l' q b hq (hqi b hb)
     rcases m1 with m1 | ⟨q', m1, m3⟩
     ·exact (h.fresh m1).2 c hc e
     ·obtain ⟨i', ver', s, s', f1, f2, f3, f4, f5, f6, f7⟩ := hin q' m1
      rw [f6, ← e] at m3
      exact h.boxft c i' hc (by rw [f4]; simp) m3
   ·rw [setobs_far him] at hv'
    refine .inl ⟨hv', fun b => ⟨fun hb => ?_, fun hb => .inl ⟨him, hb⟩⟩, fun b hb ⟨q, hq, hqb⟩ => ?_⟩
    ·rcases hb with hb | ⟨q, f1, -⟩
     ·exact hb.2
     ·exact absurd (get_mem f1) him
    ·obtain ⟨i', ver', s, s', f1, f2, f3, f4, f5, f6, f7⟩ := hin q hq
     rw [f6] at hqb
     exact h.disj i i' b (by rw [hv']; simp) (by rw [f4]; simp) (fun e => him (by rw [e]; exact get_mem f1)) hb hqb
  ·have key : ∀ i q b, is[q]? = some i → F' q b → ∀ j, j ∉ is → σ.ob j ≠ none → ¬ G.ft j b := fun i q b e1 e2 j hj1 hj2 hjb => by
    have hq : q < ls'.length := by have := get_lt e1; omega
    obtain ⟨m1, m2⟩ := l' q b hq e2
    rcases m1 with m1 | ⟨q', m1, m3⟩
    ·have := (h.ftlt j b hj2 hjb).2
     have m1' : w.heap.size ≤ b := m1
     omega
    ·obtain ⟨i', ver', s, s', f1, f2, f3, f4, f5, f6, f7⟩ := hin q' m1
     rw [f6] at m3
     exact h.disj j i' b hj2 (by rw [f4]; simp) (fun e => hj1 (by rw [e]; exact get_mem f1)) hjb m3
   rcases hbi with ⟨hi1, hi2⟩ | ⟨q, hi1, hi2⟩ <;> rcases hbj with ⟨hj1, hj2⟩ | ⟨q', hj1, hj2⟩
   ·rw [setobs_far hi1] at hi
    rw [setobs_far hj1] at hj
    exact h.disj i j b hi hj hij hi2 hj2
   ·rw [setobs_far hi1] at hi
    exact key j q' b hj1 hj2 i hi1 hi hi2
   ·rw [setobs_far hj1] at hj
    exact key i q b hi1 hi2 j hj1 hj hj2
   ·have hq : q < ls'.length := by have := get_lt hi1; omega
    have hq' : q' < ls'.length := by have := get_lt hj1; omega
    exact d' q q' b hq hq' (fun e => hij (by subst e; rw [hi1] at hj1; exact Option.some.inj hj1)) hi2 hj2
end Go.Proofs.Ytpnbnbhifpcelaa.V
/- States told by trees: what lies in an object's element is lent; an element's cells are written. -/
namespace Go.Proofs.Ytpnbnbhifpcelaa.V
open Go Go.RowKit
set_option linter.unusedVariables false
variable {P : Program} {E : Env} {N : Nat} {σ σ' : VS} {o : Oper} {a : Act} {w : World} {G : Ghost}
theorem at_inj {n k k' j j' : Nat} (hj : j < n) (hj' : j' < n) (h : k * n + j = k' * n + j') : k = k' ∧ j = j' := by
 rcases Nat.lt_trichotomy k k' with h1 | h1 | h1
 ·have h2 : (k + 1) * n ≤ k' * n := Nat.mul_le_mul_right n h1
  rw [Nat.add_mul, Nat.one_mul] at h2
  omega
 ·subst h1
  exact ⟨rfl, by omega⟩
 ·have h2 : (k' + 1) * n ≤ k * n := Nat.mul_le_mul_right n h1
  rw [Nat.add_mul, Nat.one_mul] at h2
  omega
theorem set_get {α : Type} {l : List α} {k q : Nat} {x y : α} (h : (l.set k y)[q]? = some x) : (q = k ∧ x = y) ∨ (q ≠ k ∧ l[q]? = some x) := by
 by_cases hq : q = k
 ·subst hq
  have hl : q < l.length := by have := get_lt h; simpa using this
  rw [List.getElem?_set_self hl] at h
  exact .inl ⟨rfl, (Option.some.inj h).symm⟩
 ·rw [List.getElem?_set_ne (fun e => hq e.symm)] at h
  exact .inr ⟨hq, h⟩
theorem ok_callM_nd {d : Nat} {f : FuncId} {xs : List Operand} {ats : Array TypeId} {ins : List (Bool × List AC)} {v : Value} {i ver kk oo : Nat} {ty ty1 ty2 : TypeId} {es es' : List (List T)} {e : List T} {es1 es2 : List (List T)} (ho : o.op = .call { callee := .value (.func f), args := xs.toArray, argTypes := ats }) (hb : ∃ fn c, P.funcs[f]? = some fn ∧ fn.body = some c ∧ fn.name ≠ "runtime.NumGoroutine")
  (hc : VM P f ins [.seq ty1 es1] [.seq ty2 es2] v) (hx : σ.argsM [.nd i ver (.seq ty1 es1) (some (kk, oo))] xs ins) (hi : σ.ob i = some (ver, .seq ty es)) (he : es[kk]? = some e) (hoo : e[oo]? = some (.seq ty1 es1)) (hes : es.set kk (e.set oo (.seq ty2 es2)) = es') (hv : v.oneCell' = true) (hd : o.dst = some d) (hdN : d < N) : OpOk P E N σ o ((σ.setob i (.seq ty es')).put d (V.one (.sc v))) :=
 fun a w G K Q h k => by
  subst hes
  obtain ⟨fn, c, h1, h2, h2'⟩ := hb
  obtain ⟨hlt, hown0, -⟩ := h.objs i ver _ hi
  -- where the place lies
  have place : ∀ u, Holds G σ E w (.nd i ver (.seq ty1 es1) (some (kk, oo))) u → ∃ (g q M c : Nat), G.vl i = .slice (some ⟨g, q, none⟩) M c ∧ w.cell? ⟨g, q + (kk * e.length + oo), none⟩ = some u := fun u hu => by
   obtain ⟨-, h5⟩ := hu.1.2.2 ⟨_, hi⟩
   obtain ⟨g, q, M, c, n, ty', fs, e', e1, e2, e3, e4, e5, e6⟩ := h5 kk oo rfl
   rw [hi] at e1
   cases e1
   rw [he] at e3
   cases e3
   subst e4
   exact ⟨g, q, M, c, e2, by rw [← Nat.add_assoc]; exact e6⟩
  generalize hV : G.vl i = V0 at hown0
  cases hown0 with
  | seq n hp hz hn xs0 hown Gs hr hone hFr hG hne hdd =>
  have hen : e.length = n := hn e (get_mem he)
  have hol : oo < n := by rw [← hen]; exact get_lt hoo
  have hql := at_lt (get_lt he) hol
  have hxl := hown.1
  obtain ⟨u0, hu0⟩ : ∃ u0, xs0[kk * n + oo]? = some u0 := ⟨_, List.getElem?_eq_getElem (by omega)⟩
  have hval : ∀ u, Holds G σ E w (.nd i ver (.seq ty1 es1) (some (kk, oo))) u → u = u0 := fun u hu => by
   obtain ⟨g, q, M, c, e1, e2⟩ := place u hu
   obtain ⟨a2, c2, e3, -, -, -, e4⟩ := own_slice hown
   obtain ⟨g2, q2, e5, -, -, e6, -⟩ := e4 (by have := get_lt he; omega)
   rw [hV, e3] at e1
   injection e1 with e1 _ _
   rw [e5] at e1
   injection e1 with e1
   injection e1 with e1 e1'
   subst e1 e1'
   have := e6 _ _ hu0
   rw [hen, this] at e2
   exact (Option.some.inj e2).symm
  have hownu := hr kk e oo _ u0 he hoo hu0
  have hftG : ∀ q b, Gs q b → (E.B ≤ b ∨ E.ln b) ∧ b < w.heap.size := fun q b hb => h.ftlt i b (by rw [hi]; simp) (hG q b hb)
  have hcall := hc w (fun _ => u0) (fun _ => Gs (kk * n + oo)) (fun q b _ hb => (hftG _ b hb).2) (xs.map a.eval) (fun q t hq => by
   cases q with
   | zero => cases hq; exact ⟨hownu, _, _, rfl⟩
   | succ q => simp at hq) (fun q q' b hq hq' hne' => by simp at hq hq'; omega) (h.argsM (fun q x u hq hu => by
   cases q with
   | zero => cases hq; exact ⟨Nat.zero_lt_one, hval u hu⟩
   | succ q => simp at hq) hx)
  have hrun : (execOp a.eval o).run P w = .ok (.enter f (xs.map a.eval).toArray) w := by
   simp [execOp, ho, resolve, Act.eval, Deferred.ofValue, invoke, callFunc, h1, h2, h2', Result.andThen]
  unfold Oper.wp
  rw [hrun]
  refine hcall.mono fun ee w' ⟨hg, F', o', d', l'⟩ => ?_
  obtain ⟨hee, hsame⟩ := hg.lit
  subst hee
  have hblk : ∀ b, b < w.heap.size → ¬ Gs (kk * n + oo) b → w'.heap[b]? = w.heap[b]? := fun b hb hn => hsame.block b ⟨hb, fun ⟨q, _, hq⟩ => hn hq⟩
  have hsm : Same E w w' := ⟨hsame.os, hsame.tape, hsame.output, hsame.size, fun b hb => hblk b (Nat.lt_of_lt_of_le hb.1 h.low) fun hq => (hftG _ b hq).1.elim (fun h1 => by have := hb.1; omega) hb.2⟩
  have hown' : Own w' 0 (.seq ty2 es2) u0 (F' 0) := o' 0 _ rfl
  have hF' : ∀ b, F' 0 b → (w.heap.size ≤ b ∨ Gs (kk * n + oo) b) ∧ b < w'.heap.size := fun b hb => by
   obtain ⟨m1, m2⟩ := l' 0 b Nat.zero_lt_one hb
   exact ⟨m1.elim .inl fun ⟨q, _, hq⟩ => .inr hq, m2⟩
  have hF2 : ∀ b, F' 0 b → b < w.heap.size → Gs (kk * n + oo) b := fun b hb hlt => (hF' b hb).1.elim (fun h1 => absurd hlt (Nat.not_lt.2 h1)) id
  have hroot : ∀ b, V0.ownBlock = some b → b < w.heap.size := fun b hb => (Row.lt hown b hb).2
  have hnew : Own w' 0 (.seq ty (es.set kk (e.set oo (.seq ty2 es2)))) V0 (fun b => G.ft i b ∨ F' 0 b) := by
   have hlen' : (es.set kk (e.set oo (.seq ty2 es2))).length = es.length := List.length_set
   refine .seq n hp hz (fun e' he' => ?_) xs0 (by rw [hlen']; exact row_heap hown fun b hb => hblk b (hroot b hb) fun hq => hne _ b hq hb) (fun q b => if q = kk * n + oo then F' 0 b else Gs q b) (fun k2 e2 j t u hk2 hj hu => ?_) hone (fun b hb => .inl (hFr b hb)) (fun q b hb => ?_) (fun q b hb hvb => ?_) fun q q' b hb hb' => ?_
   ·rcases List.mem_or_eq_of_mem_set he' with h3 | h3
    ·exact hn e' h3
    ·rw [h3, List.length_set]; exact hen
   ·have hfar : k2 * n + j ≠ kk * n + oo → Own w 0 t u (Gs (k2 * n + j)) → Own w' 0 t u (fun b => if k2 * n + j = kk * n + oo then F' 0 b else Gs (k2 * n + j) b) := fun hneq hw => by
     refine (hw.frame fun b hb => hblk b (hftG _ b hb).2 fun hq => hneq (hdd _ _ b hb hq)).mono fun b hb => ?_
     rw [if_neg hneq]; exact hb
    rcases set_get hk2 with ⟨rfl, rfl⟩ | ⟨hk2n, hk2⟩
    ·rcases set_get hj with ⟨rfl, rfl⟩ | ⟨hjn, hj⟩
     ·rw [hu0] at hu
      cases hu
      exact hown'.mono fun b hb => by rw [if_pos rfl]; exact hb
     ·have hjl : j < n := by rw [← hen]; exact get_lt hj
      exact hfar (fun e3 => hjn (at_inj hjl hol e3).2) (hr k2 e j t u he hj hu)
    ·have hjl : j < n := by rw [← hn e2 (get_mem hk2)]; exact get_lt hj
     exact hfar (fun e3 => hk2n (at_inj hjl hol e3).1) (hr k2 e2 j t u hk2 hj hu)
   ·replace hb : if q = kk * n + oo then F' 0 b else Gs q b := hb
    split at hb
    ·exact .inr hb
    ·exact .inl (hG q b hb)
   ·replace hb : if q = kk * n + oo then F' 0 b else Gs q b := hb
    split at hb
    ·exact hne _ b (hF2 b hb (hroot b hvb)) hvb
    ·exact hne _ b hb hvb
   ·replace hb : if q = kk * n + oo then F' 0 b else Gs q b := hb
    replace hb' : if q' = kk * n + oo then F' 0 b else Gs q' b := hb'
    split at hb <;> split at hb'
    ·omega
    ·have := hdd _ _ b (hF2 b hb (hftG _ b hb').2) hb'
     omega
    ·have := hdd _ _ b (hF2 b hb' (hftG _ b hb).2) hb
     omega
    ·exact hdd _ _ b hb hb'
  have hself : (σ.setob i (.seq ty (es.set kk (e.set oo (.seq ty2 es2))))).ob i = some (ver + 1, .seq ty (es.set kk (e.set oo (.seq ty2 es2)))) := by rw [setob_self, hi]; rfl
  have hft : ∀ j, j ≠ i → ∀ b, (if j = i then G.ft i b ∨ F' 0 b else G.ft j b) ↔ G.ft j b := fun j hj b => by rw [if_neg hj]
  have hturn := h.turn (σ' := σ.setob i (.seq ty (es.set kk (e.set oo (.seq ty2 es2))))) (w' := w') (G' := ⟨G.β, G.vl, fun j b => if j = i then G.ft i b ∨ F' 0 b else G.ft j b⟩) (Gs (kk * n + oo)) rfl rfl rfl hsm hblk (fun b hb hq => h.boxft b i hb (by rw [hi]; simp) (hG _ _ hq)) (Nat.le_refl _) (fun j hj => rfl) (fun j v' t' hv' => ?_) (fun j j' b hj hj' hjj hbj hbj' => ?_)
  ·rw [hd]
   exact k _ _ _ (hturn.1.put hdN (vone.2 ⟨rfl, .inr hv⟩))
  ·by_cases hji : j = i
   ·subst hji
    rw [hself] at hv'
    cases hv'
    refine .inr ⟨hlt, fun _ => ⟨ver, _, hi, Nat.lt_succ_self _⟩, ?_, ⟨_, _, rfl⟩, fun b hb => ?_, fun b hb c hc e3 => ?_⟩
    ·rw [show (⟨G.β, G.vl, fun j' b => if j' = j then G.ft j b ∨ F' 0 b else G.ft j' b⟩ : Ghost).vl j = V0 from hV]
     exact hnew.mono fun b hb => by show if j = j then _ else _; rw [if_pos rfl]; exact hb
    ·replace hb : if j = j then G.ft j b ∨ F' 0 b else G.ft j b := hb
     rw [if_pos rfl] at hb
     rcases hb with hb | hb
     ·have := h.ftlt j b (by rw [hi]; simp) hb
      exact ⟨this.1, Nat.lt_of_lt_of_le this.2 hsm.size⟩
     ·obtain ⟨m1, m2⟩ := hF' b hb
      exact ⟨m1.elim (fun m1 => .inl (Nat.le_trans h.low m1)) fun m1 => (hftG _ b m1).1, m2⟩
    ·replace hb : if j = j then G.ft j b ∨ F' 0 b else G.ft j b := hb
     rw [if_pos rfl] at hb
     rcases hb with hb | hb
     ·exact h.boxft c j hc (by rw [hi]; simp) (by rw [e3]; exact hb)
     ·rcases (hF' b hb).1 with m1 | m1
      ·exact (h.fresh m1).2 c hc e3
      ·exact h.boxft c j hc (by rw [hi]; simp) (by rw [e3]; exact hG _ b m1)
   ·rw [setob_ne hji] at hv'
    exact .inl ⟨hv', hft j hji, fun b hb hq => h.disj j i b (by rw [hv']; simp) (by rw [hi]; simp) hji hb (hG _ b hq)⟩
  ·have key : ∀ j b, j ≠ i → σ.ob j ≠ none → G.ft j b → (G.ft i b ∨ F' 0 b) → False := fun j b hj hjo hjb hb => by
    rcases hb with hb | hb
    ·exact h.disj j i b hjo (by rw [hi]; simp) hj hjb hb
    ·rcases (hF' b hb).1 with m1 | m1
     ·have := (h.ftlt j b hjo hjb).2; omega
     ·exact h.disj j i b hjo (by rw [hi]; simp) hj hjb (hG _ b m1)
   replace hbj : if j = i then G.ft i b ∨ F' 0 b else G.ft j b := hbj
   replace hbj' : if j' = i then G.ft i b ∨ F' 0 b else G.ft j' b := hbj'
   split at hbj <;> split at hbj'
   ·omega
   ·rename_i e1 e2
    rw [setob_ne e2] at hj'
    exact key j' b e2 hj' hbj' hbj
   ·rename_i e1 e2
    rw [setob_ne e1] at hj
    exact key j b e1 hj hbj hbj'
   ·rename_i e1 e2
    rw [setob_ne e1] at hj
    rw [setob_ne e2] at hj'
    exact h.disj j j' b hj hj' hjj hbj hbj'
theorem splice_get {α : Type} {l vs : List α} {i j : Nat} (h : i + vs.length ≤ l.length) : (l.take i ++ vs ++ l.drop (i + vs.length))[j]? = if i ≤ j ∧ j < i + vs.length then vs[j - i]? else l[j]? := by
 have hl : (l.take i).length = i := by rw [List.length_take]; omega
 rw [List.append_assoc]
 rcases Nat.lt_or_ge j i with hj | hj
 ·rw [List.getElem?_append_left (by omega), List.getElem?_take, if_pos hj, if_neg (by omega)]
 ·rw [List.getElem?_append_right (by omega), hl]
  rcases Nat.lt_or_ge (j - i) vs.length with hk | hk
  ·rw [List.getElem?_append_left hk, if_pos ⟨hj, by omega⟩]
  ·rw [List.getElem?_append_right hk, List.getElem?_drop, if_neg (by omega)]
   congr 1
   omega
theorem splice_len {α : Type} {l vs : List α} {i : Nat} (h : i + vs.length ≤ l.length) : (l.take i ++ vs ++ l.drop (i + vs.length)).length = l.length := by
 simp only [List.length_append, List.length_take, List.length_drop]
 omega
theorem kills_ob {cs : List Leaf} {j : Nat} (h : cs.any (isHd j) = false) : (σ.kills cs).ob j = σ.ob j := by show (bif cs.any (isHd j) then none else σ.ob j) = _; rw [h]; rfl
theorem kills_none {cs : List Leaf} {j : Nat} (h : cs.any (isHd j) = true) : (σ.kills cs).ob j = none := by show (bif cs.any (isHd j) then none else σ.ob j) = _; rw [h]; rfl
theorem ok_store_ep {i ver kk oo n m : Nat} {ty ty0 : TypeId} {x y : Operand} {ag : Bool} {zs : List Leaf} {ts : List T} {es es' : List (List T)} {e : List T} (ho : o.op = .store ty0 x y) (hx : σ.ev x = V.one (.ep i kk n oo)) (hy : σ.ev y = V.flat ag zs) (hi : σ.ob i = some (ver, .seq ty es)) (he : es[kk]? = some e) (hm : Sz ty0 m) (h1 : ag = false → m = 1)
  (hzl : zs.length = m) (hsn : Sz ty n) (hlen : oo + m ≤ n) (ht : σ.outs zs ts) (h2 : zs.Pairwise two) (hself : zs.any (isHd i) = false) (hes : es.set kk (e.take oo ++ ts ++ e.drop (oo + ts.length)) = es') (hd : o.dst = none) : OpOk Try.prog E N σ o ((σ.kills zs).setob i (.seq ty es')) :=
 fun a w G K Q h k => by
  subst hes
  have hxv := h.ev x
  rw [hx, vone] at hxv
  obtain ⟨⟨hlt, g, q0, M, c, hvl, hptr⟩, -⟩ := hxv
  have hyv := h.ev y
  rw [hy, vflat] at hyv
  obtain ⟨us, hu1, hu2, hu3⟩ := hyv
  obtain ⟨o1, o2⟩ := outs_get ht
  have hzo : ∀ z ∈ zs, ∃ t, σ.out z = some t := fun z hz => by
   obtain ⟨j, hj, rfl⟩ := List.getElem_of_mem hz
   obtain ⟨z', e1, e2⟩ := o2 j ts[j] (List.getElem?_eq_getElem (by omega))
   rw [List.getElem?_eq_getElem hj] at e1
   exact ⟨_, by rw [Option.some.inj e1]; exact e2⟩
  have hown1 : ∀ (j : Nat) (t : T) (u : Value), ts[j]? = some t → us[j]? = some u → ∃ z, zs[j]? = some z ∧ Own w 0 t u (z.foot G) := fun j t u hj hu => by
   obtain ⟨z, e1, e2⟩ := o2 j t hj
   exact ⟨z, e1, h.out (hu3 j z u e1 hu) e2⟩
  -- whose blocks they are
  have hfoot : ∀ z ∈ zs, ∀ b, z.foot G b → ∃ j, z = .hd j ∧ σ.ob j ≠ none ∧ j ≠ i ∧ G.ft j b := fun z hz b hb => by
   cases z with
   | hd j =>
    obtain ⟨t, e1⟩ := hzo _ hz
    obtain ⟨p, e2, -⟩ := Option.map_eq_some_iff.1 e1
    refine ⟨j, rfl, by rw [e2]; simp, fun e3 => ?_, hb⟩
    subst e3
    have := List.any_eq_false.1 hself _ hz
    exact this (Nat.beq_refl j)
   | _ => exact hb.elim
  have hfd : ∀ (q q' : Nat) (z z' : Leaf) (b : Nat), zs[q]? = some z → zs[q']? = some z' → z.foot G b → z'.foot G b → q = q' := fun q q' z z' b e1 e2 hb hb' => by
   obtain ⟨j, rfl, f1, f2, f3⟩ := hfoot z (get_mem e1) b hb
   obtain ⟨j', rfl, f4, f5, f6⟩ := hfoot z' (get_mem e2) b hb'
   have hjj : j = j' := by
    rcases Nat.decEq j j' with hne | hne
    ·exact absurd f6 (h.disj j j' b f1 f4 hne f3)
    ·exact hne
   subst hjj
   have g1 := get_lt e1
   have g2 := get_lt e2
   rw [List.getElem?_eq_getElem g1] at e1
   rw [List.getElem?_eq_getElem g2] at e2
   rcases Nat.lt_trichotomy q q' with hlt2 | he2 | hgt
   ·have := (List.pairwise_iff_getElem.1 h2) q q' g1 g2 hlt2
    rw [Option.some.inj e1, Option.some.inj e2] at this
    exact absurd rfl (this j rfl)
   ·exact he2
   ·have := (List.pairwise_iff_getElem.1 h2) q' q g2 g1 hgt
    rw [Option.some.inj e1, Option.some.inj e2] at this
    exact absurd rfl (this j rfl)
  have hone1 : ∀ u ∈ us, u.oneCell' = true := fun u hu => by
   obtain ⟨j, hj, rfl⟩ := List.getElem_of_mem hu
   obtain ⟨z, -, e2⟩ := hown1 j ts[j] us[j] (List.getElem?_eq_getElem (by omega)) (List.getElem?_eq_getElem hj)
   exact e2.one
  obtain ⟨hlt2, hown0, -⟩ := h.objs i ver _ hi
  rw [hvl] at hown0
  cases hown0 with
  | seq n' hp hz hn xs0 hown Gs hr hone hFr hG hne hdd =>
  have hnn := hz.eq hsn
  subst hnn
  have hen : e.length = n' := hn e (get_mem he)
  have hkl := get_lt he
  have hwn := hown
  obtain ⟨hxl, ⟨e0, -⟩ | ⟨g2, q2, cap, cur, e0, hB, hh, hcap, hcm, hcs, htk⟩⟩ := hown
  ·cases e0
  injection e0 with e0 e0' e0''
  injection e0 with e0
  injection e0 with e0 e1'
  subst e0 e1'
  have hq : kk * n' + oo + us.length ≤ es.length * n' := by
   have : (kk + 1) * n' ≤ es.length * n' := Nat.mul_le_mul_right n' hkl
   rw [Nat.add_mul, Nat.one_mul] at this
   omega
  have hcl : q0 + es.length * n' ≤ cur.toList.length := by
   have h3 := Nat.mul_le_mul_right n' hcap
   have h4 : cur.toList.length = cur.size := Array.length_toList
   omega
  have hh' : w.heap[g]? = some (.cells cur.toList.toArray ty (0, 0)) := by simpa using hh
  have hnew := setCells_heap g us (q0 + kk * n' + oo) w cur.toList ty hh' (by omega)
  obtain ⟨w', hw'⟩ : ∃ w', w' = w.setCells g (q0 + kk * n' + oo) us := ⟨_, rfl⟩
  rw [← hw'] at hnew
  have hfar : ∀ b, b ≠ g → w'.heap[b]? = w.heap[b]? := fun b hb => by rw [hw']; exact setCells_far g us _ w b hb
  have hbel : Below 0 w w' := by rw [hw']; exact setCells_below g 0 us _ w (Nat.zero_le _)
  have hgft : G.ft i g := hFr g rfl
  have hgl := h.ftlt i g (by rw [hi]; simp) hgft
  have hsm : Same E w w' := ⟨hbel.os, hbel.tape, hbel.output, hbel.size, fun b hb => hfar b fun e1 => by
   subst e1
   exact hgl.1.elim (fun h1 => by have := hb.1; omega) hb.2⟩
  have hrun := store_run (P := Try.prog) (w := w) (b := g) (i := q0 + kk * n' + oo) (us := us) (ag := ag) hm h1 (hu2.trans hzl) hone1 (fun q hq' => by
   rw [cell_of_row w _ _ _ _ _ hh]
   simp [show q0 + kk * n' + oo + q < cur.size by rw [← Array.length_toList]; omega]) fun q hq' => by simp [World.frozen?, hh]
  have hul : us.length = ts.length := by omega
  have htl : oo + ts.length ≤ e.length := by omega
  have hnewown : Own w' 0 (.seq ty (es.set kk (e.take oo ++ ts ++ e.drop (oo + ts.length)))) (.slice (some ⟨g, q0, none⟩) es.length cap) (fun b => G.ft i b ∨ ∃ z ∈ zs, z.foot G b) := by
   have hl' : (es.set kk (e.take oo ++ ts ++ e.drop (oo + ts.length))).length = es.length := List.length_set
   have hxs : ∀ q, (xs0.take (kk * n' + oo) ++ us ++ xs0.drop (kk * n' + oo + us.length))[q]? = if kk * n' + oo ≤ q ∧ q < kk * n' + oo + us.length then us[q - (kk * n' + oo)]? else xs0[q]? := fun q => splice_get (by omega)
   have hgn : ∀ z ∈ zs, ∀ b, z.foot G b → b ≠ g := fun z hz b hb e1 => by
    obtain ⟨j, -, f1, f2, f3⟩ := hfoot z hz b hb
    subst e1
    exact h.disj j i _ f1 (by rw [hi]; simp) f2 f3 hgft
   have hGz : ∀ z ∈ zs, ∀ q b, Gs q b → z.foot G b → False := fun z hz q b hb hb' => by
    obtain ⟨j, -, f1, f2, f3⟩ := hfoot z hz b hb'
    exact h.disj j i b f1 (by rw [hi]; simp) f2 f3 (hG q b hb)
   have hown2 : Row w' 0 ty n' (.slice (some ⟨g, q0, none⟩) es.length cap) es.length (xs0.take (kk * n' + oo) ++ us ++ xs0.drop (kk * n' + oo + us.length)) := by
    refine ⟨by rw [splice_len (by omega)]; exact hxl, .inr ⟨g, q0, cap, _, rfl, Nat.zero_le _, hnew, hcap, hcm, ?_, ?_⟩⟩
    ·simp only [List.size_toArray]
     rw [splice_len (by omega), Array.length_toList]
     exact hcs
    ·apply List.ext_getElem?
     intro q
     rw [hxs q, List.getElem?_take, List.getElem?_drop]
     simp only []
     rw [splice_get (by omega)]
     have hx0 : xs0[q]? = if q < es.length * n' then cur.toList[q0 + q]? else none := by rw [← htk, List.getElem?_take, List.getElem?_drop]
     rw [hx0]
     by_cases f1 : kk * n' + oo ≤ q ∧ q < kk * n' + oo + us.length
     ·rw [if_pos f1, if_pos (by omega), if_pos (by omega), show q0 + q - (q0 + kk * n' + oo) = q - (kk * n' + oo) by omega]
     ·rw [if_neg f1, if_neg (show ¬ (q0 + kk * n' + oo ≤ q0 + q ∧ q0 + q < q0 + kk * n' + oo + us.length) by omega)]
   refine .seq n' hp hz (fun e' he' => ?_) (xs0.take (kk * n' + oo) ++ us ++ xs0.drop (kk * n' + oo + us.length)) (by rw [hl']; exact hown2) (fun q b => if kk * n' + oo ≤ q ∧ q < kk * n' + oo + us.length then ∃ z, zs[q - (kk * n' + oo)]? = some z ∧ z.foot G b else Gs q b) (fun k2 e2 j t u hk2 hj hu => ?_) (fun u hu => ?_) (fun b hb => .inl (hFr b hb)) (fun q b hb => ?_) (fun q b hb hvb => ?_) fun q q' b hb hb' => ?_
   ·rcases List.mem_or_eq_of_mem_set he' with h3 | h3
    ·exact hn e' h3
    ·rw [h3, splice_len htl]; exact hen
   ·rw [hxs] at hu
    have hold : ∀ j, ¬ (kk * n' + oo ≤ k2 * n' + j ∧ k2 * n' + j < kk * n' + oo + us.length) → Own w 0 t u (Gs (k2 * n' + j)) → Own w' 0 t u (fun b => if kk * n' + oo ≤ k2 * n' + j ∧ k2 * n' + j < kk * n' + oo + us.length then ∃ z, zs[k2 * n' + j - (kk * n' + oo)]? = some z ∧ z.foot G b else Gs (k2 * n' + j) b) := fun j hneq hw => by
     refine (hw.frame fun b hb => hfar b fun e1 => hne _ b hb (by rw [e1]; rfl)).mono fun b hb => ?_
     rw [if_neg hneq]; exact hb
    rcases set_get hk2 with ⟨rfl, rfl⟩ | ⟨hk2n, hk2⟩
    ·rw [splice_get htl] at hj
     by_cases hjr : oo ≤ j ∧ j < oo + ts.length
     ·rw [if_pos hjr] at hj
      rw [if_pos (by omega), show k2 * n' + j - (k2 * n' + oo) = j - oo by omega] at hu
      obtain ⟨z, f1, f2⟩ := hown1 _ t u hj hu
      refine (f2.frame fun b hb => hfar b (hgn z (get_mem f1) b hb)).mono fun b hb => ?_
      rw [if_pos (by omega), show k2 * n' + j - (k2 * n' + oo) = j - oo by omega]
      exact ⟨z, f1, hb⟩
     ·rw [if_neg hjr] at hj
      rw [if_neg (by omega)] at hu
      exact hold j (by omega) (hr k2 e j t u he hj hu)
    ·have hjl : j < n' := by rw [← hn e2 (get_mem hk2)]; exact get_lt hj
     have hout : ¬ (kk * n' + oo ≤ k2 * n' + j ∧ k2 * n' + j < kk * n' + oo + us.length) := fun ⟨f1, f2⟩ => by
      have := at_inj (k := k2) (k' := kk) (j := j) (j' := k2 * n' + j - kk * n') hjl (by omega) (by omega)
      exact hk2n this.1
     rw [if_neg hout] at hu
     exact hold j hout (hr k2 e2 j t u hk2 hj hu)
   ·rcases List.mem_append.1 hu with hu | hu
    ·rcases List.mem_append.1 hu with hu | hu
     ·exact hone u (List.mem_of_mem_take hu)
     ·exact hone1 u hu
    ·exact hone u (List.mem_of_mem_drop hu)
   ·split at hb
    ·obtain ⟨z, f1, f2⟩ := hb
     exact .inr ⟨z, get_mem f1, f2⟩
    ·exact .inl (hG q b hb)
   ·split at hb
    ·obtain ⟨z, f1, f2⟩ := hb
     exact hgn z (get_mem f1) b f2 (Option.some.inj hvb).symm
    ·exact hne q b hb hvb
   ·split at hb <;> split at hb'
    ·obtain ⟨z, f1, f2⟩ := hb
     obtain ⟨z', f3, f4⟩ := hb'
     have := hfd _ _ z z' b f1 f3 f2 f4
     omega
    ·obtain ⟨z, f1, f2⟩ := hb
     exact (hGz z (get_mem f1) _ b hb' f2).elim
    ·obtain ⟨z, f1, f2⟩ := hb'
     exact (hGz z (get_mem f1) _ b hb f2).elim
    ·exact hdd _ _ b hb hb'
  have hki : (σ.kills zs).ob i = some (ver, .seq ty es) := by rw [kills_ob hself]; exact hi
  have hkj : ∀ j v, j ≠ i → ((σ.kills zs).setob i (.seq ty (es.set kk (e.take oo ++ ts ++ e.drop (oo + ts.length))))).ob j = some v → σ.ob j = some v ∧ zs.any (isHd j) = false := fun j v hj hv => by
   rw [setob_ne hj] at hv
   cases hc : zs.any (isHd j) with
   | true => rw [kills_none hc] at hv; cases hv
   | false => rw [kills_ob hc] at hv; exact ⟨hv, rfl⟩
  have hapart : ∀ j b, σ.ob j ≠ none → zs.any (isHd j) = false → j ≠ i → G.ft j b → (G.ft i b ∨ ∃ z ∈ zs, z.foot G b) → False := fun j b f1 f2 f3 f4 f5 => by
   rcases f5 with f5 | ⟨z, f5, f6⟩
   ·exact h.disj j i b f1 (by rw [hi]; simp) f3 f4 f5
   ·obtain ⟨j', rfl, f7, f8, f9⟩ := hfoot z f5 b f6
    refine h.disj j j' b f1 f7 (fun e1 => ?_) f4 f9
    subst e1
    exact List.any_eq_false.1 f2 _ f5 (Nat.beq_refl j)
  have hturn := h.turn (σ' := (σ.kills zs).setob i (.seq ty (es.set kk (e.take oo ++ ts ++ e.drop (oo + ts.length))))) (w' := w') (G' := ⟨G.β, G.vl, fun j b => if j = i then G.ft i b ∨ ∃ z ∈ zs, z.foot G b else G.ft j b⟩) (fun b => b = g) rfl rfl rfl hsm (fun b _ hb => hfar b hb) (fun b hb e1 => h.boxft b i hb (by rw [hi]; simp) (by rw [e1]; exact hgft)) (Nat.le_refl _) (fun j hj => rfl) (fun j v' t' hv' => ?_) (fun j j' b hj hj' hjj hbj hbj' => ?_)
  ·refine wp_skipped (w' := w') ?_ (by rw [hd]; exact k _ _ _ hturn.1)
   rw [hw']
   simp [execOp, ho, hptr, hu1, Instr.storeAt, Instr.sureAddr, hrun, Result.andThen]
  ·by_cases hji : j = i
   ·subst hji
    rw [setob_self, hki] at hv'
    cases hv'
    refine .inr ⟨hlt2, fun _ => ⟨ver, _, hi, Nat.lt_succ_self _⟩, ?_, ⟨_, _, rfl⟩, fun b hb => ?_, fun b hb c' hc' e3 => ?_⟩
    ·rw [show (⟨G.β, G.vl, fun j' b => if j' = j then G.ft j b ∨ ∃ z ∈ zs, z.foot G b else G.ft j' b⟩ : Ghost).vl j = .slice (some ⟨g, q0, none⟩) es.length cap by rw [← e0', ← e0'']; exact hvl]
     exact hnewown.mono fun b hb => by show if j = j then _ else _; rw [if_pos rfl]; exact hb
    ·replace hb : if j = j then G.ft j b ∨ ∃ z ∈ zs, z.foot G b else G.ft j b := hb
     rw [if_pos rfl] at hb
     have : (E.B ≤ b ∨ E.ln b) ∧ b < w.heap.size := by
      rcases hb with hb | ⟨z, f1, f2⟩
      ·exact h.ftlt j b (by rw [hi]; simp) hb
      ·obtain ⟨j', -, f3, f4, f5⟩ := hfoot z f1 b f2
       exact h.ftlt j' b f3 f5
     exact ⟨this.1, Nat.lt_of_lt_of_le this.2 hsm.size⟩
    ·replace hb : if j = j then G.ft j b ∨ ∃ z ∈ zs, z.foot G b else G.ft j b := hb
     rw [if_pos rfl] at hb
     subst e3
     rcases hb with hb | ⟨z, f1, f2⟩
     ·exact h.boxft c' j hc' (by rw [hi]; simp) hb
     ·obtain ⟨j', -, f3, f4, f5⟩ := hfoot z f1 _ f2
      exact h.boxft c' j' hc' f3 f5
   ·obtain ⟨f1, f2⟩ := hkj j _ hji hv'
    refine .inl ⟨f1, fun b => by show (if j = i then _ else _) ↔ _; rw [if_neg hji], fun b hb e1 => ?_⟩
    subst e1
    exact h.disj j i _ (by rw [f1]; simp) (by rw [hi]; simp) hji hb hgft
  ·replace hbj : if j = i then G.ft i b ∨ ∃ z ∈ zs, z.foot G b else G.ft j b := hbj
   replace hbj' : if j' = i then G.ft i b ∨ ∃ z ∈ zs, z.foot G b else G.ft j' b := hbj'
   split at hbj <;> split at hbj'
   ·omega
   ·rename_i e1 e2
    obtain ⟨vj, hvj⟩ := Option.ne_none_iff_exists'.1 hj'
    obtain ⟨f1, f2⟩ := hkj j' vj e2 hvj
    exact hapart j' b (by rw [f1]; simp) f2 e2 hbj' hbj
   ·rename_i e1 e2
    obtain ⟨vj, hvj⟩ := Option.ne_none_iff_exists'.1 hj
    obtain ⟨f1, f2⟩ := hkj j vj e1 hvj
    exact hapart j b (by rw [f1]; simp) f2 e1 hbj hbj'
   ·rename_i e1 e2
    obtain ⟨vj, hvj⟩ := Option.ne_none_iff_exists'.1 hj
    obtain ⟨f1, -⟩ := hkj j vj e1 hvj
    obtain ⟨vj', hvj'⟩ := Option.ne_none_iff_exists'.1 hj'
    obtain ⟨f2, -⟩ := hkj j' vj' e2 hvj'
    exact h.disj j j' b (by rw [f1]; simp) (by rw [f2]; simp) hjj hbj hbj'
theorem cells_ep {i ver k n o' : Nat} {ty : TypeId} {es : List (List T)} {e ds : List T} (hi : σ.ob i = some (ver, .seq ty es)) (he : es[k]? = some e) (hn : e.length = n) (hd : e.drop o' = ds) : σ.cells (.ep i k n o') = some ds := by
 show (σ.ob i).bind _ = _
 rw [hi]
 show es[k]?.bind _ = _
 rw [he]
 show (bif Nat.beq e.length n then some (e.drop o') else none) = _
 rw [hn, Nat.beq_refl, ← hd]; rfl
theorem SV.lenle {s : Nat} {lf : Leaf} {ty : TypeId} {es : List (List T)} {K : Act → World → Prop} (hx : σ.tm s = V.one lf) (ht : σ.tr lf = some (.seq ty es)) (k : es.length ≤ maxLen → SV E N σ K) : SV E N σ K := fun a w G h => by
 obtain ⟨ad, c, n, h1, h2, h3, -⟩ := inn_seq (h.head (x := .tmp s) hx ht)
 exact k (Nat.le_trans h2 h3) a w G h
/-! ### 'make' -/
def zeroT : Leaf → T
 | .sc u => .lit u
 | .nl ty => .seq ty []
 | _ => .any
theorem zl_own {w : World} : ∀ {xs : List Leaf} {us : List Value}, ZL xs us → ∀ (j : Nat) (x : Leaf) (u : Value), xs[j]? = some x → us[j]? = some u → Own w 0 (zeroT x) u (fun _ => False)
 | [], [], _, j, x, u, h1, _ => by simp at h1
 | .sc v :: xs, u :: us, h, j, x, y, h1, h2 => by
  cases j with
  | zero => cases h1; cases h2; rw [h.1]; exact .lit (by rw [← h.1]; exact h.2.1)
  | succ j => exact zl_own h.2.2 j x y (by simpa using h1) (by simpa using h2)
 | .nl _ :: xs, u :: us, h, j, x, y, h1, h2 => by
  cases j with
  | zero =>
   cases h1; cases h2
   obtain ⟨n, hn, hz⟩ := h.2.1
   rw [h.1]
   exact Own.seq (es := []) n hn hz (fun e he => by cases he) [] (Row.of (World.ownsRow_nil _ _ _ _)) (fun _ _ => False) (fun k e j t u h => by simp at h) (fun u hu => by cases hu) (fun b hb => by cases hb) (fun i b hb => hb.elim) (fun i b hb => hb.elim) fun i j b hb => hb.elim
  | succ j => exact zl_own h.2.2 j x y (by simpa using h1) (by simpa using h2)
theorem made_get {z : Array Value} {m q : Nat} {u : Value} (hz : 0 < z.size) (h : (madeCells z m).toList[q]? = some u) : z.toList[q % z.size]? = some u := by
 have hq : q < m := by have := get_lt h; simpa [madeCells] using this
 have hm : q % z.size < z.size := Nat.mod_lt _ hz
 simp [madeCells, hq] at h
 rw [← h]
 simp [hm]
theorem ok_make {d : Nat} {t ty : TypeId} {n bytes : Nat} {z : Value} {x y : Operand} {zs : List Leaf} {zt : List T} {k0 : Nat} {kl kc : IntKind} (I : ElT t ty n z bytes) {kk : Nat} (hk : σ.nx = kk) (ho : o.op = .makeSlice t x y) (hx : σ.ev x = V.one (.sc (.int kl (k0 : Nat)))) (hy : σ.ev y = V.one (.sc (.int kc (k0 : Nat)))) (hz : ZL zs z.cells.toList) (hzt : zs.map zeroT = zt) (hl : k0 ≤ 350000000000)
  (hd : o.dst = some d) (hdN : d < N) : OpMk Try.prog E N none σ o ((σ.new (.seq ty (List.replicate k0 zt))).put d (V.one (.hd kk))) :=
 fun a w G K Q h k => by
  subst hk hzt
  obtain ⟨i0, hi, hz0, hz1, hz2⟩ := info_parts I.inf
  have hby : i0.bytes * k0 ≤ 281474976710656 := by
   have h1 : i0.bytes * k0 ≤ 400 * 350000000000 := Nat.mul_le_mul (by rw [hz2]; exact I.small) hl
   omega
  have hrun := run_make (P := Try.prog) w t ty i0 z I.und hi hz0 kl kc k0 k0 (by omega) (Int.le_refl _) (by
   have h1 : ((i0.bytes * k0 : Nat) : Int) ≤ 281474976710656 := by omega
   rwa [Int.natCast_mul] at h1) (by omega)
  simp only [Int.toNat_natCast, hz1] at hrun
  have hzn : zs.length = n := by
   have := hz.len
   rw [← this, Array.length_toList]
   exact I.zs
  have hown := World.ownsRow_lit (base := 0) (w := w) (e := ty) (size := n) (madeCells z.cells (k0 * n)) k0 (Nat.zero_le _) (by unfold maxLen; omega) (size_madeCells _ _)
  obtain ⟨w', hw'⟩ : ∃ w', w' = w.alloc (.cells (madeCells z.cells (k0 * n)) ty) := ⟨_, rfl⟩
  have hget : ∀ (q : Nat) (u : Value), (madeCells z.cells (k0 * n)).toList[q]? = some u → z.cells.toList[q % n]? = some u := fun q u hu => by
   have := made_get (by rw [I.zs]; exact I.pos) hu
   rwa [I.zs] at this
  obtain ⟨G', hG', ⟨hvl, hvls, hβs⟩, -, -⟩ := h.renew [] (fun x hx => by cases hx) (w' := w.alloc (.cells (madeCells z.cells (k0 * n)) ty)) (t := .seq ty (List.replicate k0 (zs.map zeroT))) (v := .slice (some ⟨w.heap.size, 0, none⟩) k0 k0) (F := fun b => b = w.heap.size) (fun _ => False) (.of_below ((Below.refl _ _).alloc h.low _)) (fun k hk _ => Below.heap_alloc _ _ _ hk) (fun b hb => hb.elim)
   (.seq n I.pos I.sz (fun e he => by rw [List.eq_of_mem_replicate he, List.length_map]; exact hzn) (madeCells z.cells (k0 * n)).toList (by rw [List.length_replicate]; exact Row.of hown) (fun _ _ => False) (fun k e j t u he hj hu => by
     have he' : e = zs.map zeroT := List.eq_of_mem_replicate (get_mem he)
     subst he'
     rw [List.getElem?_map] at hj
     obtain ⟨lf, e1, e2⟩ := Option.map_eq_some_iff.1 hj
     have hjn : j < n := by rw [← hzn]; exact get_lt e1
     have := hget _ u hu
     rw [Nat.add_comm, Nat.add_mul_mod_self_right, Nat.mod_eq_of_lt hjn] at this
     rw [← e2]
     exact zl_own hz j lf u e1 this)
    (fun u hu => by
     obtain ⟨q, hq, rfl⟩ := List.getElem_of_mem hu
     have h1 := hget q _ (List.getElem?_eq_getElem hq)
     have h2 : q % n < zs.length := by rw [hzn]; exact Nat.mod_lt _ I.pos
     exact (zl_own (w := w) hz (q % n) zs[q % n] _ (List.getElem?_eq_getElem h2) h1).one) (fun b hb => by cases hb; rfl) (fun q b hb => hb.elim) (fun q b hb => hb.elim) fun q q' b hb => hb.elim)
   ⟨_, _, rfl⟩ fun b hb => ⟨by subst hb; exact ⟨.inl h.low, by simp⟩, .inl (h.fresh (by rw [hb]; exact Nat.le_refl _))⟩
  refine wp_value (v := .slice (some ⟨w.heap.size, 0, none⟩) k0 k0) (w' := w.alloc (.cells (madeCells z.cells (k0 * n)) ty)) ?_ (by rw [hd]; exact k _ _ _ (hG'.put hdN (vone.2 ⟨⟨Nat.lt_succ_self _, hvl.symm⟩, .inr rfl⟩)) ⟨by simp, .of_below ((Below.refl _ _).alloc h.low _), hvls, fun b _ => by rw [hβs], fun b hb => .inl (Below.heap_alloc _ _ _ hb), fun i e1 e2 b e3 => .inl (by
   have hi : i = σ.nx := Nat.le_antisymm (Nat.le_of_lt_succ e2) e1
   rw [hi, hvl] at e3
   rw [← Option.some.inj e3]; exact Nat.le_refl _)⟩)
  have hxv := h.sc hx
  have hyv := h.sc hy
  simp [execOp, ho, hxv, hyv, hrun, Result.andThen]
end Go.Proofs.Ytpnbnbhifpcelaa.V
/- Plain mathematics: decimals, cuts, numbers, rows, bags, pages, the first page of a text. -/
namespace Go.Proofs.Ytpnbnbhifpcelaa.Dec
open Go.Lib
def dd (u : Nat) : List UInt8 := if u = 0 then [] else decDigits u
/-! ### Reading a numeral -/
def parse (l : List UInt8) : Option Int := (atoi l).bind fun n => if itoa n = l ∧ -999999999 ≤ n ∧ n ≤ 999999999 then some n else none
def dscan : List UInt8 → Nat × Nat := List.foldl (fun p b => if 48 ≤ b.toNat ∧ b.toNat ≤ 57 then (p.1 * 10 + (b.toNat - 48), p.2 + 1) else p) (0, 0)
def signed (l : List UInt8) (n : Int) : Int := if l.head? = some 45 then -n else n
end Go.Proofs.Ytpnbnbhifpcelaa.Dec
namespace Go.Proofs.Ytpnbnbhifpcelaa.Cut
open Go.Lib
def cut (b : UInt8) : List UInt8 → List (List UInt8)
 | [] => [[]]
 | x :: l => if x = b then [] :: cut b l else match cut b l with | h :: t => (x :: h) :: t | [] => [[x]]
def scan (b : UInt8) (l : List UInt8) : List (List UInt8) × List UInt8 := l.foldl (fun p x => if x = b then (p.1 ++ [p.2], []) else (p.1, p.2 ++ [x])) ([], [])
def mark (b : UInt8) (l : List UInt8) (t : Nat) : Nat := t - (scan b (l.take t)).2.length
end Go.Proofs.Ytpnbnbhifpcelaa.Cut
namespace Go.Proofs.Ytpnbnbhifpcelaa.Num
/-! ### Fixed width -/
def be : Nat → Nat → List UInt8
 | 0, _ => []
 | w + 1, n => UInt8.ofNat (n / 256 ^ w) :: be w n
def bval : List UInt8 → Nat := List.foldl (fun a b => a * 256 + b.toNat) 0
def fx (w n k : Nat) : List UInt8 := (be w n).take k ++ List.replicate (w - k) 0
def encFixed (n width : Int) : List UInt8 := if 1 ≤ width ∧ width ≤ 7 ∧ 0 ≤ n ∧ n.toNat < 256 ^ width.toNat then be width.toNat n.toNat else []
def decFixedOk (l : List UInt8) (width : Int) : Bool := decide (1 ≤ width ∧ width ≤ 7 ∧ width ≤ l.length)
def decFixed (l : List UInt8) (width : Int) : Nat := if decFixedOk l width then bval (l.take width.toNat) else 0
/-! ### Varints -/
def leb : Nat → Nat → List UInt8
 | 0, n => [UInt8.ofNat n]
 | f + 1, n => if n < 128 then [UInt8.ofNat n] else UInt8.ofNat (128 + n % 128) :: leb f (n / 128)
def encVar (n : Int) : List UInt8 := if 0 ≤ n ∧ n ≤ 562949953421311 then leb 6 n.toNat else []
def v7 : List UInt8 → Nat
 | [] => 0
 | b :: l => b.toNat % 128 + 128 * v7 l
def canon : List UInt8 → Prop
 | [] => False
 | [b] => b.toNat < 128
 | b :: c :: l => 128 ≤ b.toNat ∧ v7 (c :: l) ≠ 0 ∧ canon (c :: l)
def dv (l : List UInt8) : Nat → Nat → Nat × Nat
 | 0, _ => (0, 0)
 | f + 1, k => match l[k]? with
  | none => (0, 0)
  | some b => if 128 ≤ b.toNat then dv l f (k + 1) else if b.toNat = 0 ∧ 0 < k then (0, 0) else (v7 (l.take (k + 1)), k + 1)
def decV (l : List UInt8) : Nat × Nat := dv l 7 0
def sv (l : List UInt8) : Nat → Nat → Nat × Nat
 | 0, _ => (0, 0)
 | f + 1, k => if k ≤ l.length then if leb 6 (v7 (l.take k)) = l.take k then (v7 (l.take k), k) else sv l f (k + 1) else (0, 0)
/-! ### Hexadecimal digits -/
def hexD (k : Nat) : UInt8 := UInt8.ofNat (if k < 10 then 48 + k else 87 + k)
def hexTab : ByteArray := ⟨#[48, 49, 50, 51, 52, 53, 54, 55, 56, 57, 97, 98, 99, 100, 101, 102]⟩
def hex : List UInt8 → List UInt8
 | [] => []
 | b :: l => hexD (b.toNat / 16) :: hexD (b.toNat % 16) :: hex l
def nib (b : UInt8) : Int := if 48 ≤ b.toNat ∧ b.toNat ≤ 57 then (b.toNat : Int) - 48 else if 97 ≤ b.toNat ∧ b.toNat ≤ 102 then (b.toNat : Int) - 87 else -1
def unhex : List UInt8 → Option (List UInt8)
 | [] => some []
 | [_] => none
 | a :: b :: l => if nib a < 0 ∨ nib b < 0 then none else (unhex l).map (UInt8.ofNat (16 * nib a + nib b).toNat :: ·)
end Go.Proofs.Ytpnbnbhifpcelaa.Num
namespace Go.Proofs.Ytpnbnbhifpcelaa
open Go.Lib
structure R where
 key : Int
 value : Int
 width : Int
deriving DecidableEq, Inhabited
namespace R
def ok (r : R) : Bool := decide (0 ≤ r.key ∧ r.key ≤ 9 ∧ 0 ≤ r.value ∧ r.value ≤ 99 ∧ 0 ≤ r.width ∧ r.width ≤ 3)
theorem ok_iff {r : R} : r.ok = true ↔ 0 ≤ r.key ∧ r.key ≤ 9 ∧ 0 ≤ r.value ∧ r.value ≤ 99 ∧ 0 ≤ r.width ∧ r.width ≤ 3 := by simp [ok]
def wf (r : R) : Prop := (-9223372036854775808 ≤ r.key ∧ r.key ≤ 9223372036854775807) ∧ (-9223372036854775808 ≤ r.value ∧ r.value ≤ 9223372036854775807) ∧ (-9223372036854775808 ≤ r.width ∧ r.width ≤ 9223372036854775807)
def zero : R := ⟨0, 0, 0⟩
def cost (r : R) : Int := if r.ok then 1 + r.width else 0
theorem cost_range (r : R) : 0 ≤ r.cost ∧ r.cost ≤ 4 := by
 unfold cost
 split
 ·rename_i h; rw [ok_iff] at h; omega
 ·omega
def cmp (a b : R) : Int :=
 if a.key < b.key then -1 else if b.key < a.key then 1 else if a.value < b.value then -1 else if b.value < a.value then 1 else if a.width < b.width then -1 else if b.width < a.width then 1 else 0
def fld (r : R) (k : Nat) : Int := if k = 0 then r.key else if k = 1 then r.value else r.width
theorem cmp_less (a b : R) (k : Nat) (hk : k < 3) (he : ∀ t, t < k → a.fld t = b.fld t) (h : a.fld k < b.fld k) : cmp a b = -1 := by
 have e0 : 0 < k → a.key = b.key := fun h0 => he 0 h0
 have e1 : 1 < k → a.value = b.value := fun h0 => he 1 h0
 unfold fld at h
 unfold cmp
 split at h
 ·rw [if_pos h]
 ·have := e0 (by omega)
  rw [if_neg (by omega), if_neg (by omega)]
  split at h
  ·rw [if_pos h]
  ·have := e1 (by omega)
   rw [if_neg (by omega), if_neg (by omega), if_pos h]
theorem cmp_more (a b : R) (k : Nat) (hk : k < 3) (he : ∀ t, t < k → a.fld t = b.fld t) (h : b.fld k < a.fld k) : cmp a b = 1 := by
 have e0 : 0 < k → a.key = b.key := fun h0 => he 0 h0
 have e1 : 1 < k → a.value = b.value := fun h0 => he 1 h0
 unfold fld at h
 unfold cmp
 split at h
 ·rw [if_neg (by omega), if_pos h]
 ·have := e0 (by omega)
  rw [if_neg (by omega), if_neg (by omega)]
  split at h
  ·rw [if_neg (by omega), if_pos h]
  ·have := e1 (by omega)
   rw [if_neg (by omega), if_neg (by omega), if_neg (by omega), if_pos h]
theorem cmp_same (a b : R) (he : ∀ t, t < 3 → a.fld t = b.fld t) : cmp a b = 0 := by
 have e0 : a.key = b.key := he 0 (by omega)
 have e1 : a.value = b.value := he 1 (by omega)
 have e2 : a.width = b.width := he 2 (by omega)
 unfold cmp
 rw [if_neg (by omega), if_neg (by omega), if_neg (by omega), if_neg (by omega), if_neg (by omega), if_neg (by omega)]
def one (x y : Int) : Int := if x < y then -1 else if y < x then 1 else 0
theorem cmp_or (a b : R) : cmp a b = if one a.key b.key ≠ 0 then one a.key b.key else if one a.value b.value ≠ 0 then one a.value b.value else one a.width b.width := by
 unfold cmp one
 (repeat' split) <;> first | rfl | omega
def fmt (r : R) : List UInt8 := if r.ok then itoa r.key ++ 46 :: (itoa r.value ++ 46 :: itoa r.width) else []
end R
def total (L : List R) : Int := (L.map R.cost).sum
theorem total_snoc (L : List R) (r : R) : total (L ++ [r]) = total L + r.cost := by simp [total]
theorem total_range (L : List R) : 0 ≤ total L ∧ total L ≤ 4 * L.length := by
 induction L with
 | nil => simp [total]
 | cons r L ih =>
  have := r.cost_range
  have e : total (r :: L) = r.cost + total L := by simp [total]
  rw [e]; simp only [List.length_cons]; omega
theorem total_take (L : List R) (k : Nat) (hk : k < L.length) : total (L.take (k + 1)) = total (L.take k) + (L.getD k R.zero).cost := by
 rw [List.take_succ_eq_append_getElem hk, total_snoc]
 simp [List.getD, hk]
def allOk (L : List R) : Bool := L.all R.ok
def okRows (L : List R) : Bool := decide (L.length ≤ 24) && allOk L
theorem allOk_take (L : List R) (k : Nat) (hk : k < L.length) : allOk (L.take (k + 1)) = (allOk (L.take k) && (L.getD k R.zero).ok) := by
 have e : L.getD k R.zero = L[k] := by simp [List.getD, hk]
 unfold allOk
 rw [e, List.take_succ_eq_append_getElem hk, List.all_append]
 simp only [List.all_cons, List.all_nil, Bool.and_true]
theorem allOk_bad (L : List R) (k : Nat) (hk : k < L.length) (h : (L.getD k R.zero).ok = false) : allOk L = false := by
 unfold allOk
 rw [List.all_eq_false]
 exact ⟨L[k], List.getElem_mem hk, by simpa [List.getD, hk] using h⟩
/-! ### The format -/
def parseRow (l : List UInt8) : Option R :=
 match Cut.cut 46 l with
 | [a, b, c] => match Dec.parse a, Dec.parse b, Dec.parse c with
  | some k, some v, some w => if (R.mk k v w).ok then some ⟨k, v, w⟩ else none
  | _, _, _ => none
 | _ => none
def threeRow (l : List UInt8) : R :=
 ⟨(Dec.parse ((Cut.cut 46 l).getD 0 [])).getD 0, (Dec.parse ((Cut.cut 46 l).getD 1 [])).getD 0, (Dec.parse ((Cut.cut 46 l).getD 2 [])).getD 0⟩
/-! ### Several rows -/
def fmtRows (L : List R) : List UInt8 := if okRows L then join (L.map R.fmt) [32] else []
def readAll : List (List UInt8) → Option (List R)
 | [] => some []
 | p :: ps => match parseRow p, readAll ps with
  | some r, some L => some (r :: L)
  | _, _ => none
def parseRows (l : List UInt8) : Option (List R) := if l = [] then some [] else if (Cut.cut 32 l).length ≤ 24 then readAll (Cut.cut 32 l) else none
end Go.Proofs.Ytpnbnbhifpcelaa
namespace Go.Proofs.Ytpnbnbhifpcelaa
open Go.Lib
namespace R
theorem cmp_le (a b : R) : cmp a b ≤ 0 ↔ a.key < b.key ∨ a.key = b.key ∧ (a.value < b.value ∨ a.value = b.value ∧ a.width ≤ b.width) := by
 unfold cmp
 (repeat' split) <;> omega
theorem cmp_anti (a b : R) : cmp b a = - cmp a b := by
 unfold cmp
 (repeat' split) <;> first | rfl | omega
theorem cmp_zero (a b : R) : cmp a b = 0 ↔ a = b := by
 constructor
 ·intro h
  have h1 := (cmp_le a b).1 (by omega)
  have h2 := (cmp_le b a).1 (by have := cmp_anti a b; omega)
  have e1 : a.key = b.key := by omega
  have e2 : a.value = b.value := by omega
  have e3 : a.width = b.width := by omega
  obtain ⟨a1, a2, a3⟩ := a
  obtain ⟨b1, b2, b3⟩ := b
  simp only at e1 e2 e3
  subst e1 e2 e3
  rfl
 ·rintro rfl
  unfold cmp
  simp
theorem cmp_trans {a b c : R} (h : cmp a b ≤ 0) (h' : cmp b c ≤ 0) : cmp a c ≤ 0 := by
 rw [cmp_le] at *
 omega
theorem cmp_total (a b : R) : cmp a b ≤ 0 ∨ cmp b a ≤ 0 := by
 have := cmp_anti a b
 omega
def leb (a b : R) : Bool := decide (cmp a b ≤ 0)
theorem leb_iff {a b : R} : leb a b = true ↔ cmp a b ≤ 0 := by simp [leb]
def sort (L : List R) : List R := L.mergeSort leb
theorem sort_perm (L : List R) : (sort L).Perm L := List.mergeSort_perm L _
theorem sort_asc (L : List R) : (sort L).Pairwise fun a b => leb a b = true :=
 List.pairwise_mergeSort (le := leb) (fun a b c h h' => leb_iff.2 (cmp_trans (leb_iff.1 h) (leb_iff.1 h'))) (fun a b => by
  rcases cmp_total a b with h | h
  ·simp [leb_iff.2 h]
  ·simp [leb_iff.2 h]) L
theorem sort_unique {M L : List R} (hp : M.Perm L) (hs : M.Pairwise fun a b => leb a b = true) : M = sort L :=
 List.Perm.eq_of_pairwise (fun a b _ _ h h' => (cmp_zero a b).1 (by have h1 := leb_iff.1 h; have h2 := leb_iff.1 h'; have := cmp_anti a b; omega)) hs (sort_asc L) (hp.trans (sort_perm L).symm)
theorem sort_eq {M L : List R} (hp : M.Perm L) : sort M = sort L := sort_unique ((sort_perm M).trans hp) (sort_asc M)
theorem sort_length (L : List R) : (sort L).length = L.length := (sort_perm L).length_eq
theorem sort_nil : sort [] = [] := List.eq_nil_of_length_eq_zero (sort_length [])
theorem sort_wf {L : List R} (h : ∀ r ∈ L, r.wf) : ∀ r ∈ sort L, r.wf := fun r hr => h r ((sort_perm L).mem_iff.1 hr)
theorem sort_insert {L : List R} {i k : Nat} (hi : i < L.length) (hk : k ≤ i) (hlow : k = 0 ∨ cmp ((sort (L.take i)).getD (k - 1) zero) (L.getD i zero) ≤ 0) (hup : ∀ t, k ≤ t → t < i → 0 < cmp ((sort (L.take i)).getD t zero) (L.getD i zero)) :
  (sort (L.take i)).take k ++ (L.getD i zero :: (sort (L.take i)).drop k) = sort (L.take (i + 1)) := by
 have hlen : (sort (L.take i)).length = i := by rw [sort_length, List.length_take]; omega
 have hsnoc : L.take (i + 1) = L.take i ++ [L.getD i zero] := by
  rw [List.take_succ_eq_append_getElem hi]
  simp [List.getD, hi]
 apply sort_unique
 ·rw [hsnoc]
  refine List.perm_middle.trans ?_
  rw [List.take_append_drop]
  exact ((List.Perm.cons _ (sort_perm _))).trans (List.perm_append_singleton _ _).symm
 ·have hs := sort_asc (L.take i)
  have hd : ∀ x ∈ (sort (L.take i)).drop k, 0 < cmp x (L.getD i zero) := by
   intro x hx
   obtain ⟨t, ht, rfl⟩ := List.mem_iff_getElem.1 hx
   rw [List.length_drop, hlen] at ht
   have := hup (k + t) (by omega) (by omega)
   rw [List.getElem_drop]
   rwa [List.getD, List.getElem?_eq_getElem (by omega)] at this
  have htk : ∀ x ∈ (sort (L.take i)).take k, cmp x (L.getD i zero) ≤ 0 := by
   rcases hlow with rfl | hlow
   ·intro x hx; simp at hx
   ·intro x hx
    obtain ⟨t, ht, rfl⟩ := List.mem_iff_getElem.1 hx
    rw [List.length_take, hlen] at ht
    rw [List.getElem_take]
    rw [List.getD, List.getElem?_eq_getElem (by omega)] at hlow
    rcases Nat.lt_or_ge t (k - 1) with h | h
    ·exact cmp_trans (leb_iff.1 (List.pairwise_iff_getElem.1 hs t (k - 1) (by omega) (by omega) h)) hlow
    ·have : t = k - 1 := by omega
     subst this
     exact hlow
  rw [List.pairwise_append, List.pairwise_cons]
  refine ⟨hs.sublist (List.take_sublist _ _), ⟨fun x hx => leb_iff.2 ?_, hs.sublist (List.drop_sublist _ _)⟩, fun a ha b hb => leb_iff.2 ?_⟩
  ·have := hd x hx
   have := cmp_anti x (L.getD i zero)
   omega
  ·rcases List.mem_cons.1 hb with rfl | hb
   ·exact htk a ha
   ·refine cmp_trans (htk a ha) ?_
    have := hd b hb
    have := cmp_anti b (L.getD i zero)
    omega
def asc : List R → Bool
 | a :: b :: l => leb a b && asc (b :: l)
 | _ => true
theorem asc_iff : ∀ {L : List R}, asc L = true ↔ ∀ t, t + 1 < L.length → cmp (L.getD t zero) (L.getD (t + 1) zero) ≤ 0
 | [] => by simp [asc]
 | [a] => by simp [asc]
 | a :: b :: l => by
  rw [asc, Bool.and_eq_true, asc_iff, leb_iff]
  constructor
  ·rintro ⟨h, h'⟩ t ht
   cases t with
   | zero => exact h
   | succ t => exact h' t (by simpa using ht)
  ·intro h
   exact ⟨h 0 (by simp), fun t ht => h (t + 1) (by simpa using ht)⟩
theorem asc_bad {L : List R} (t : Nat) (ht : t + 1 < L.length) (h : 0 < cmp (L.getD t zero) (L.getD (t + 1) zero)) : asc L = false := by
 cases ha : asc L with
 | false => rfl
 | true => have := asc_iff.1 ha t ht; omega
theorem asc_pairwise : ∀ {L : List R}, asc L = true ↔ L.Pairwise fun a b => leb a b = true
 | [] => by simp [asc]
 | [a] => by simp [asc]
 | a :: b :: l => by
  rw [asc, Bool.and_eq_true, asc_pairwise, List.pairwise_cons (a := a)]
  constructor
  ·rintro ⟨h, h'⟩
   refine ⟨fun x hx => ?_, h'⟩
   rcases List.mem_cons.1 hx with rfl | hx
   ·exact h
   ·exact leb_iff.2 (cmp_trans (leb_iff.1 h) (leb_iff.1 ((List.pairwise_cons.1 h').1 x hx)))
  ·rintro ⟨h, h'⟩
   exact ⟨h b (by simp), h'⟩
def eqBags (a b : List R) : Bool := decide (sort a = sort b)
theorem eqBags_iff {a b : List R} : eqBags a b = true ↔ ∀ r, a.count r = b.count r := by
 unfold eqBags
 rw [decide_eq_true_iff, ← List.perm_iff_count]
 exact ⟨fun h => (sort_perm a).symm.trans (h ▸ sort_perm b), sort_eq⟩
theorem take_succ {L : List R} {k : Nat} (hk : k < L.length) : L.take (k + 1) = L.take k ++ [L.getD k zero] := by
 rw [List.take_succ_eq_append_getElem hk]
 simp [List.getD, hk]
theorem count_take {L : List R} {k : Nat} (hk : k < L.length) (r : R) : (L.take (k + 1)).count r = (L.take k).count r + if L.getD k zero = r then 1 else 0 := by
 rw [take_succ hk, List.count_append, List.count_singleton]
 simp
theorem count_le_length (L : List R) (r : R) : L.count r ≤ L.length := List.count_le_length
def difTo (x b : List R) : Nat → List R
 | 0 => []
 | k + 1 => if b.count (x.getD k zero) < (x.take (k + 1)).count (x.getD k zero) then difTo x b k ++ [x.getD k zero] else difTo x b k
def dif (a b : List R) : List R := difTo (sort a) b (sort a).length
def distTo (x : List R) : Nat → List R
 | 0 => []
 | k + 1 => if k = 0 ∨ x.getD k zero ≠ x.getD (k - 1) zero then distTo x k ++ [x.getD k zero] else distTo x k
def dist (L : List R) : List R := distTo (sort L) (sort L).length
end R
end Go.Proofs.Ytpnbnbhifpcelaa
namespace Go.Proofs.Ytpnbnbhifpcelaa.R
open Go.Lib
def pageOk (p : List R) : Bool := okRows p && decide (1 ≤ total p ∧ total p ≤ 8)
def packStep (s : List (List R) × List R) (r : R) : List (List R) × List R := if 8 < total s.2 + r.cost then (s.1 ++ [s.2], [r]) else (s.1, s.2 ++ [r])
def packSt (L : List R) : List (List R) × List R := L.foldl packStep ([], [])
def packEnd (s : List (List R) × List R) : List (List R) := if s.2 = [] then s.1 else s.1 ++ [s.2]
def pack (L : List R) : List (List R) := if okRows L then packEnd (packSt L) else []
theorem packSt_snoc (L : List R) (r : R) : packSt (L ++ [r]) = packStep (packSt L) r := by simp [packSt]
theorem packSt_next (L : List R) (k : Nat) (hk : k < L.length) : packSt (L.take (k + 1)) = packStep (packSt (L.take k)) (L.getD k R.zero) := by
 have e : L.getD k R.zero = L[k] := by simp [List.getD, hk]
 rw [e, List.take_succ_eq_append_getElem hk, packSt_snoc]
structure Packing (L : List R) (s : List (List R) × List R) : Prop where
 flat : s.1.flatten ++ s.2 = L
 full : ∀ p ∈ s.1, p ≠ [] ∧ total p ≤ 8
 fit : total s.2 ≤ 8
 none : s.2 = [] → L = []
 next : ∀ t, t + 1 < s.1.length → 8 < total (s.1.getD t []) + ((s.1.getD (t + 1) []).getD 0 R.zero).cost
 last : ∀ t, t + 1 = s.1.length → 8 < total (s.1.getD t []) + (s.2.getD 0 R.zero).cost
/-! ### The string format -/
def allPages (P : List (List R)) : Bool := P.all pageOk
def pageTxt (p : List R) : List UInt8 := 91 :: (fmtRows p ++ [93])
def fmtPages (P : List (List R)) : List UInt8 := if allPages P then P.flatMap pageTxt else []
def readPage : List UInt8 → Option (List R)
 | 91 :: q => parseRows q
 | _ => none
def readPages : List (List UInt8) → Option (List (List R))
 | [] => some []
 | p :: ps => match readPage p, readPages ps with
  | some r, some L => some (r :: L)
  | _, _ => none
def parsePages (l : List UInt8) : Option (List (List R)) :=
 match readPages (Cut.cut 93 l).dropLast with
 | some P => if allPages P && decide (fmtPages P = l) then some P else none
 | none => none
end Go.Proofs.Ytpnbnbhifpcelaa.R
namespace Go.Proofs.Ytpnbnbhifpcelaa
namespace R
structure First (L : List R) (i : Nat) : Prop where
 le : i ≤ L.length
 fits : ∀ j, j < i → ¬ 8 < total (L.take j) + (L.getD j zero).cost
 over : i < L.length → 8 < total (L.take i) + (L.getD i zero).cost
theorem First.pos {L : List R} {i : Nat} (h : First L i) (hL : 0 < L.length) : 1 ≤ i := by
 rcases Nat.eq_zero_or_pos i with h0 | h0
 ·subst h0
  have h1 := h.over hL
  have h2 := (L.getD 0 zero).cost_range
  have h3 : total (L.take 0) = 0 := rfl
  omega
 ·exact h0
theorem fold_pre (A : List (List R)) (s : List (List R) × List R) (L : List R) : L.foldl packStep (A ++ s.1, s.2) = (A ++ (L.foldl packStep s).1, (L.foldl packStep s).2) := by
 induction L generalizing s with
 | nil => rfl
 | cons r L ih =>
  rw [List.foldl_cons, List.foldl_cons, ← ih]
  congr 1
  unfold packStep
  by_cases h : 8 < total s.2 + r.cost
  ·rw [if_pos h, if_pos h]; simp
  ·rw [if_neg h, if_neg h]
theorem First.st {L : List R} {i : Nat} (h : First L i) : ∀ j, j ≤ i → packSt (L.take j) = ([], L.take j) := by
 intro j
 induction j with
 | zero => intro _; rfl
 | succ j ih =>
  intro hj
  have hl := h.le
  rw [packSt_next L j (by omega), ih (by omega)]
  unfold packStep
  rw [if_neg (h.fits j (by omega)), List.take_succ_eq_append_getElem (by omega : j < L.length)]
  simp [List.getD, (by omega : j < L.length)]
theorem First.pack {L : List R} {i : Nat} (h : First L i) (hL : 0 < L.length) : packEnd (packSt L) = L.take i :: packEnd (packSt (L.drop i)) := by
 have hp := h.pos hL
 have hle := h.le
 have hs := h.st i (Nat.le_refl _)
 rcases Nat.lt_or_ge i L.length with hi | hi
 ·have h1 : packSt L = (L.drop i).foldl packStep ([], L.take i) := by
   conv => lhs; rw [← List.take_append_drop i L]
   unfold packSt at hs ⊢
   rw [List.foldl_append, hs]
  have hov := h.over hi
  have hg : L.getD i zero = L[i] := by simp [List.getD, hi]
  rw [hg] at hov
  have hc := L[i].cost_range
  have e1 : packStep ([], L.take i) L[i] = ([L.take i] ++ ([] : List (List R)), [L[i]]) := by
   unfold packStep
   rw [if_pos hov]
   simp
  have e2 : packStep ([], []) L[i] = ([], [L[i]]) := by
   unfold packStep
   rw [if_neg (by show ¬ 8 < total [] + _; have : total [] = 0 := rfl; omega)]
   rfl
  have h2 : packSt (L.drop i) = (L.drop (i + 1)).foldl packStep ([], [L[i]]) := by
   unfold packSt
   rw [List.drop_eq_getElem_cons hi, List.foldl_cons, e2]
  rw [h1, List.drop_eq_getElem_cons hi, List.foldl_cons, e1, fold_pre [L.take i] ([], [L[i]]), ← List.drop_eq_getElem_cons hi, h2]
  unfold packEnd
  by_cases hn : ((L.drop (i + 1)).foldl packStep ([], [L[i]])).2 = []
  ·rw [if_pos hn, if_pos hn]; rfl
  ·rw [if_neg hn, if_neg hn]; simp
 ·have he : i = L.length := by omega
  subst he
  rw [List.take_length, List.drop_length]
  rw [List.take_length] at hs
  rw [hs]
  unfold packEnd
  rw [if_neg (by simpa using List.ne_nil_of_length_pos hL)]
  rfl
end R
end Go.Proofs.Ytpnbnbhifpcelaa
namespace Go.Proofs.Ytpnbnbhifpcelaa
namespace R
end R
end Go.Proofs.Ytpnbnbhifpcelaa
/- Rows in memory, slices over shapes, slices built element by element, appends; no function of program or reference is walked here. -/
namespace Go.Proofs.Ytpnbnbhifpcelaa
open Go.RowKit
def R.val (r : R) : Value := .agg #[.int .i64 r.key, .int .i64 r.value, .int .i64 r.width]
def RowAt (w : World) (b o : Nat) (r : R) : Prop := w.cell? ⟨b, o, none⟩ = some (.int .i64 r.key) ∧ w.cell? ⟨b, o + 1, none⟩ = some (.int .i64 r.value) ∧ w.cell? ⟨b, o + 2, none⟩ = some (.int .i64 r.width)
theorem RowAt.below {w w' : World} {B b o : Nat} {r : R} (h : RowAt w b o r) (hb : Below B w w') (hlt : b < B) : RowAt w' b o r :=
 ⟨(hb.cell hlt).trans h.1, (hb.cell hlt).trans h.2.1, (hb.cell hlt).trans h.2.2⟩
theorem box_row {w w' : World} {r : R} {t : TypeId} (hb : Below (w.alloc (.cells #[.int .i64 r.key, .int .i64 r.value, .int .i64 r.width] t)).heap.size (w.alloc (.cells #[.int .i64 r.key, .int .i64 r.value, .int .i64 r.width] t)) w') :
  RowAt w' w.heap.size 0 r ∧ Below w.heap.size w w' := by
 have hs : w.heap.size < (w.alloc (.cells #[.int .i64 r.key, .int .i64 r.value, .int .i64 r.width] t)).heap.size := by simp
 refine ⟨RowAt.below ⟨?_, ?_, ?_⟩ hb hs, ?_⟩
 ·simp
 ·simp
 ·simp
 ·exact ((Below.refl _ _).alloc (Nat.le_refl _) _).trans (hb.mono (by simp))
theorem box2 (w : World) (a b : R) (s t : TypeId) : ∃ W, W = (w.alloc (.cells #[.int .i64 a.key, .int .i64 a.value, .int .i64 a.width] s)).alloc (.cells #[.int .i64 b.key, .int .i64 b.value, .int .i64 b.width] t) ∧
  RowAt W w.heap.size 0 a ∧ RowAt W (w.heap.size + 1) 0 b ∧ Below w.heap.size w W ∧ w.heap.size + 1 < W.heap.size := by
 refine ⟨_, rfl, ⟨?_, ?_, ?_⟩, ⟨?_, ?_, ?_⟩, Joins.below_alloc2 _ _ _, by simp⟩ <;> simp
structure Boxes (w : World) (a b : R) (v : World) : Prop where
 a0 : v.cell? ⟨w.heap.size, 0, none⟩ = some (.int .i64 a.key)
 a1 : v.cell? ⟨w.heap.size, 1, none⟩ = some (.int .i64 a.value)
 a2 : v.cell? ⟨w.heap.size, 2, none⟩ = some (.int .i64 a.width)
 b0 : v.cell? ⟨w.heap.size + 1, 0, none⟩ = some (.int .i64 b.key)
 b1 : v.cell? ⟨w.heap.size + 1, 1, none⟩ = some (.int .i64 b.value)
 b2 : v.cell? ⟨w.heap.size + 1, 2, none⟩ = some (.int .i64 b.width)
 old : Below w.heap.size w v
 big : w.heap.size + 1 < v.heap.size
theorem Boxes.drew {w v : World} {a b : R} (h : Boxes w a b v) : Boxes w a b v.drew := ⟨h.a0, h.a1, h.a2, h.b0, h.b1, h.b2, h.old.drew, h.big⟩
theorem Boxes.next {w v v' : World} {a b : R} (h : Boxes w a b v) (hb : Below v.heap.size v v') : Boxes w a b v' := by
 have h1 : w.heap.size < v.heap.size := by have := h.big; omega
 exact ⟨(hb.cell h1).trans h.a0, (hb.cell h1).trans h.a1, (hb.cell h1).trans h.a2, (hb.cell h.big).trans h.b0, (hb.cell h.big).trans h.b1, (hb.cell h.big).trans h.b2, h.old.trans (hb.mono (Nat.le_of_lt h1)), Nat.lt_of_lt_of_le h.big hb.size⟩
def IsRows (w : World) (a : Option Addr) (len : Nat) (L : List R) : Prop :=
 L.length = len ∧ (∀ r ∈ L, r.wf) ∧ (len = 0 ∨ ∃ b o : Nat, a = some ⟨b, o, none⟩ ∧ b < w.heap.size ∧ ∀ t, t < len → RowAt w b (o + t * 3) (L.getD t R.zero))
theorem IsRows.below {w w' : World} {a : Option Addr} {len B : Nat} {L : List R} (h : IsRows w a len L) (hb : Below B w w') (ha : ∀ x, a = some x → 0 < len → x.block < B) : IsRows w' a len L := by
 obtain ⟨h1, h2, h3⟩ := h
 refine ⟨h1, h2, ?_⟩
 rcases h3 with h3 | ⟨b, o, rfl, hlt, h3⟩
 ·exact .inl h3
 ·rcases Nat.eq_zero_or_pos len with h0 | h0
  ·exact .inl h0
  ·exact .inr ⟨b, o, rfl, Nat.lt_of_lt_of_le hlt hb.size, fun t ht => (h3 t ht).below hb (ha _ rfl h0)⟩
theorem IsRows.keep {w w' : World} {a : Option Addr} {len : Nat} {L : List R} (h : IsRows w a len L) (hb : Below w.heap.size w w') : IsRows w' a len L := by
 obtain ⟨h1, h2, h3⟩ := h
 refine ⟨h1, h2, ?_⟩
 rcases h3 with h3 | ⟨b, o, rfl, hlt, h3⟩
 ·exact .inl h3
 ·exact .inr ⟨b, o, rfl, Nat.lt_of_lt_of_le hlt hb.size, fun t ht => (h3 t ht).below hb hlt⟩
def RowsLow (a : Option Addr) (len B : Nat) : Prop := ∀ x, a = some x → 0 < len → x.block < B
theorem IsRows.old {w : World} {a : Option Addr} {len : Nat} {L : List R} (h : IsRows w a len L) : RowsLow a len w.heap.size := by
 intro x hx hp
 obtain ⟨-, -, h0 | ⟨b, o, rfl, hlt, -⟩⟩ := h
 ·omega
 ·cases hx; exact hlt
theorem IsRows.low {w w' : World} {a : Option Addr} {len B : Nat} {L : List R} (h : IsRows w a len L) (hl : Hid (RowsLow a len B)) (hb : Below B w w') : IsRows w' a len L := h.below hb hl.out
theorem IsRows.wf {w : World} {a : Option Addr} {len : Nat} {L : List R} (h : IsRows w a len L) (t : Nat) (ht : t < len) : (L.getD t R.zero).wf := by
 have hl : t < L.length := by rw [h.1]; exact ht
 have : L.getD t R.zero = L[t] := by simp [List.getD, hl]
 rw [this]
 exact h.2.1 _ (List.getElem_mem hl)
def cells3 (L : List R) : List Value := L.flatMap fun r => [.int .i64 r.key, .int .i64 r.value, .int .i64 r.width]
theorem cells3_length (L : List R) : (cells3 L).length = L.length * 3 := by
 induction L with
 | nil => rfl
 | cons r L ih => unfold cells3 at ih ⊢; rw [List.flatMap_cons, List.length_append, ih]; simp; omega
theorem cells3_get (L : List R) : ∀ (t : Nat), t < L.length → (cells3 L)[t * 3]? = some (.int .i64 (L.getD t R.zero).key) ∧ (cells3 L)[t * 3 + 1]? = some (.int .i64 (L.getD t R.zero).value) ∧ (cells3 L)[t * 3 + 2]? = some (.int .i64 (L.getD t R.zero).width) := by
 induction L with
 | nil => intro t ht; simp at ht
 | cons r L ih =>
  intro t ht
  cases t with
  | zero => exact ⟨rfl, rfl, rfl⟩
  | succ t =>
   have := ih t (by simpa using ht)
   have e : cells3 (r :: L) = .int .i64 r.key :: .int .i64 r.value :: .int .i64 r.width :: cells3 L := rfl
   rw [e, show (t + 1) * 3 = t * 3 + 3 by omega]
   simpa using this
theorem cells3_set (L : List R) : ∀ (t : Nat) (r : R), t < L.length → (((cells3 L).set (t * 3) (.int .i64 r.key)).set (t * 3 + 1) (.int .i64 r.value)).set (t * 3 + 2) (.int .i64 r.width) = cells3 (L.set t r) := by
 induction L with
 | nil => intro t r ht; simp at ht
 | cons q L ih =>
  intro t r ht
  cases t with
  | zero => rfl
  | succ t =>
   have := ih t r (by simpa using ht)
   have e : cells3 (q :: L) = .int .i64 q.key :: .int .i64 q.value :: .int .i64 q.width :: cells3 L := rfl
   have e' : cells3 ((q :: L).set (t + 1) r) = .int .i64 q.key :: .int .i64 q.value :: .int .i64 q.width :: cells3 (L.set t r) := rfl
   rw [e, e', show (t + 1) * 3 = t * 3 + 3 by omega, ← this]
   simp [List.set]
theorem cells3_append (L M : List R) : cells3 L ++ cells3 M = cells3 (L ++ M) := by simp [cells3]
theorem rowInfo : (Try.prog.info? 72).map (fun i => (i.zero, i.size, i.bytes)) = some (some R.zero.val, 3, 24) := by kernel_rfl
theorem rows_cells {w : World} {g : Nat} {M : List R} {t : TypeId} (h : w.heap[g]? = some (.cells (cells3 M).toArray t (0, 0))) (k : Nat) (hk : k < M.length) : RowAt w g (k * 3) (M.getD k R.zero) := by
 obtain ⟨e0, e1, e2⟩ := cells3_get M k hk
 refine ⟨?_, ?_, ?_⟩ <;> simp only [World.cell?, h] <;> simpa
theorem rows_of {w : World} {g len : Nat} {L : List R} {t : TypeId} (h : w.heap[g]? = some (.cells (cells3 L).toArray t (0, 0))) (hl : L.length = len) (hwf : ∀ r ∈ L, r.wf) : IsRows w (some ⟨g, 0, none⟩) len L :=
 ⟨hl, hwf, .inr ⟨g, 0, rfl, lt_of_block h, fun t ht => by rw [Nat.zero_add]; exact rows_cells h t (by omega)⟩⟩
end Go.Proofs.Ytpnbnbhifpcelaa
namespace Go.Proofs.Ytpnbnbhifpcelaa
open Go.RowKit
theorem own_below {w w' : World} {B : Nat} {v : Value} {n : Nat} {xs : List Value} (h : w.ownsRow B 72 3 v n xs) (hb : Below w.heap.size w w') : w'.ownsRow B 72 3 v n xs := by
 obtain ⟨h1, h0 | ⟨g, cap, cur, rfl, hB, hh, h2⟩⟩ := h
 ·exact ⟨h1, .inl h0⟩
 ·exact ⟨h1, .inr ⟨g, cap, cur, rfl, hB, (hb.block g (lt_of_block hh)).trans hh, h2⟩⟩
theorem own_apart {w : World} {B g : Nat} {v : Value} {n : Nat} {xs : List Value} {cs : Array Value} {fz : Nat × Nat} (h : w.ownsRow B 72 3 v n xs) (hg : w.heap[g]? = some (.cells cs 9 fz)) : v.ownBlock ≠ some g := by
 intro e
 rcases h.2 with ⟨rfl, _⟩ | ⟨g', cap, cur, rfl, hB, hh, h2⟩
 ·simp [Value.ownBlock] at e
 ·simp [Value.ownBlock] at e
  subst e
  rw [hh] at hg
  simp at hg
theorem rows_of_own {w : World} {B : Nat} {v : Value} {M : List R} (h : w.ownsRow B 72 3 v M.length (cells3 M)) (hwf : ∀ r ∈ M, r.wf) : ∃ a cap, v = .slice a M.length cap ∧ IsRows w a M.length M := by
 rcases h.2 with ⟨rfl, h0⟩ | ⟨g, cap, cur, rfl, hB, hh, hcap, hmax, hsz, htake⟩
 ·refine ⟨none, 0, by rw [h0], rfl, hwf, .inl h0⟩
 ·refine ⟨_, cap, rfl, rfl, hwf, .inr ⟨g, 0, rfl, lt_of_block hh, fun t ht => ?_⟩⟩
  obtain ⟨e0, e1, e2⟩ := cells3_get M t ht
  have hc : ∀ (j : Nat) (u : Value), (cells3 M)[j]? = some u → w.cell? ⟨g, j, none⟩ = some u := by
   intro j u hu
   have hjl : j < M.length * 3 := by have := (List.getElem?_eq_some_iff.1 hu).1; rwa [cells3_length] at this
   rw [← htake, List.getElem?_take, if_pos hjl] at hu
   simp only [World.cell?, hh]
   simpa using hu
  rw [Nat.zero_add]
  exact ⟨hc _ _ e0, hc _ _ e1, hc _ _ e2⟩
def OwnRows (w : World) (base : Nat) (a : Option Addr) (len : Nat) (L : List R) : Prop :=
 L.length = len ∧ (len = 0 ∨ ∃ g, a = some ⟨g, 0, none⟩ ∧ base ≤ g ∧ w.heap[g]? = some (.cells (cells3 L).toArray 72 (0, 0)))
theorem OwnRows.rows {w : World} {base : Nat} {a : Option Addr} {len : Nat} {L : List R} (h : OwnRows w base a len L) (hwf : ∀ r ∈ L, r.wf) : IsRows w a len L := by
 obtain ⟨hl, h0 | ⟨g, rfl, hg, hb⟩⟩ := h
 ·exact ⟨hl, hwf, .inl h0⟩
 ·exact rows_of hb hl hwf
theorem OwnRows.keep {w w' : World} {base : Nat} {a : Option Addr} {len : Nat} {L : List R} (h : OwnRows w base a len L) (hb : Below w.heap.size w w') : OwnRows w' base a len L := by
 obtain ⟨hl, h0 | ⟨g, rfl, hg, hh⟩⟩ := h
 ·exact ⟨hl, .inl h0⟩
 ·exact ⟨hl, .inr ⟨g, rfl, hg, (hb.block g (lt_of_block hh)).trans hh⟩⟩
def marked (n : Nat) (k : Int) : List R := (List.range n).map fun (t : Nat) => ⟨k + 3 * (t : Int), k + 3 * (t : Int) + 1, k + 3 * (t : Int) + 2⟩
theorem marked_length (n : Nat) (k : Int) : (marked n k).length = n := by simp [marked]
theorem marked_snoc (n : Nat) (k : Int) : marked (n + 1) k = marked n k ++ [⟨k + 3 * n, k + 3 * n + 1, k + 3 * n + 2⟩] := by simp [marked, List.range_succ]
theorem marked_set (n k : Nat) (q : Int) (L : List R) (hl : L.length = n) (hk : k < n) : (marked k q ++ L.drop k).set k ⟨q + 3 * k, q + 3 * k + 1, q + 3 * k + 2⟩ = marked (k + 1) q ++ L.drop (k + 1) := by
 rw [List.set_append_right _ _ (by rw [marked_length]; exact Nat.le_refl _), marked_length, Nat.sub_self, marked_snoc, List.append_assoc]
 congr 1
 rw [List.drop_eq_getElem_cons (by omega)]
 rfl
end Go.Proofs.Ytpnbnbhifpcelaa
namespace Go.Proofs.Ytpnbnbhifpcelaa
open Go.RowKit
def Mine (w : World) (B : Nat) (v : Value) (L : List R) : Prop := w.ownsRow B 72 3 v L.length (cells3 L)
theorem Mine.keep {w w' : World} {B : Nat} {v : Value} {L : List R} (h : Mine w B v L) (hb : Below w.heap.size w w') : Mine w' B v L := own_below h hb
theorem Mine.mono {w : World} {B B' : Nat} {v : Value} {L : List R} (h : Mine w B v L) (hb : B' ≤ B) : Mine w B' v L := by
 obtain ⟨h1, h0 | ⟨g, cap, cur, hv, hB, h2⟩⟩ := h
 ·exact ⟨h1, .inl h0⟩
 ·exact ⟨h1, .inr ⟨g, cap, cur, hv, Nat.le_trans hb hB, h2⟩⟩
theorem Mine.slice {w : World} {B : Nat} {v : Value} {L : List R} (h : Mine w B v L) : ∃ a cap, v = .slice a L.length cap := by
 rcases h.2 with ⟨rfl, h0⟩ | ⟨g, cap, cur, rfl, -⟩
 ·exact ⟨none, 0, by rw [h0]⟩
 ·exact ⟨_, _, rfl⟩
theorem Mine.len {w : World} {B : Nat} {a : Option Addr} {len cap : Nat} {L : List R} (h : Mine w B (.slice a len cap) L) : L.length = len := by
 obtain ⟨a', cap', e⟩ := h.slice
 injection e with _ e2 _
 exact e2.symm
theorem Mine.rows {w : World} {B : Nat} {a : Option Addr} {len cap : Nat} {L : List R} (h : Mine w B (.slice a len cap) L) (hwf : ∀ r ∈ L, r.wf) : IsRows w a len L := by
 obtain ⟨a', cap', e, hr⟩ := rows_of_own h hwf
 injection e with e1 e2 e3
 subst e1 e2
 exact hr
theorem Mine.at {w : World} {B : Nat} {a : Option Addr} {len cap : Nat} {L : List R} (h : Mine w B (.slice a len cap) L) {k : Nat} (hk : k < len) :
  ∃ g, a = some ⟨g, 0, none⟩ ∧ B ≤ g ∧ g < w.heap.size ∧ RowAt w g (k * 3) (L.getD k R.zero) ∧ (∀ i, w.frozen? ⟨g, i, none⟩ = false) ∧
   ∀ r : R, Mine (((w.setCell ⟨g, k * 3, none⟩ (.int .i64 r.key)).setCell ⟨g, k * 3 + 1, none⟩ (.int .i64 r.value)).setCell ⟨g, k * 3 + 2, none⟩ (.int .i64 r.width)) B (.slice (some ⟨g, 0, none⟩) len cap) (L.set k r) := by
 have hl := h.len
 obtain ⟨h1, ⟨h0, h2⟩ | ⟨g, cap', cur, hv, hB, hh, hcap, hmax, hsz, htake⟩⟩ := h
 ·omega
 ·injection hv with e1 e2 e3
  subst e1 e3
  refine ⟨g, rfl, hB, lt_of_block hh, ?_, fun i => by simp [World.frozen?, hh], fun r => ?_⟩
  ·obtain ⟨e0, e1, e2⟩ := cells3_get L k (by omega)
   have hc : ∀ (j : Nat) (u : Value), (cells3 L)[j]? = some u → w.cell? ⟨g, j, none⟩ = some u := by
    intro j u hu
    have hjl : j < L.length * 3 := by have := (List.getElem?_eq_some_iff.1 hu).1; rwa [cells3_length] at this
    rw [← htake, List.getElem?_take, if_pos hjl] at hu
    simp only [World.cell?, hh]
    simpa using hu
   exact ⟨hc _ _ e0, hc _ _ e1, hc _ _ e2⟩
  ·have s1 := Joins.block_setCell hh (i := k * 3) (.int .i64 r.key)
   have s2 := Joins.block_setCell s1 (i := k * 3 + 1) (.int .i64 r.value)
   have s3 := Joins.block_setCell s2 (i := k * 3 + 2) (.int .i64 r.width)
   refine ⟨by rw [cells3_length], .inr ⟨g, cap, _, by rw [List.length_set, hl], hB, s3, by rw [List.length_set]; exact hcap, hmax, by simpa using hsz, ?_⟩⟩
   rw [← cells3_set L k r (by omega), ← htake]
   simp [List.take_set]
theorem mine_none (w : World) (B : Nat) : Mine w B (.slice none 0 0) [] := ⟨rfl, .inl ⟨rfl, rfl⟩⟩
theorem Mine.take {w : World} {B : Nat} {a : Option Addr} {len cap : Nat} {L : List R} (h : Mine w B (.slice a len cap) L) {k : Nat} (hk : k ≤ len) : Mine w B (.slice a k cap) (L.take k) := by
 have hl := h.len
 have hlen : (L.take k).length = k := by rw [List.length_take]; omega
 obtain ⟨h1, ⟨h0, h2⟩ | ⟨g, cap', cur, hv, hB, hh, hcap, hmax, hsz, htake⟩⟩ := h
 ·injection h0 with e1 e2 e3
  subst e1 e2 e3
  obtain rfl : k = 0 := by omega
  exact mine_none w B
 ·injection hv with e1 e2 e3
  subst e1 e3
  refine ⟨cells3_length _, .inr ⟨g, cap, cur, by rw [hlen], hB, hh, by omega, hmax, hsz, ?_⟩⟩
  have e : cells3 L = cells3 (L.take k) ++ cells3 (L.drop k) := by rw [cells3_append, List.take_append_drop]
  have e2 : (cells3 (L.take k)).length = (L.take k).length * 3 := cells3_length _
  rw [← e2]
  have e3 : cur.toList.take ((cells3 (L.take k)).length) = (cur.toList.take (L.length * 3)).take ((cells3 (L.take k)).length) := by
   rw [List.take_take]
   congr 1
   rw [e2, hlen]
   omega
  rw [e3, htake, e, List.take_left]
theorem one_row (r : R) : ∀ u ∈ [Value.int .i64 r.key, .int .i64 r.value, .int .i64 r.width], u.oneCell' = true := by
 intro u hu; simp at hu; rcases hu with rfl | rfl | rfl <;> rfl
theorem one_cells (L : List R) : ∀ u ∈ cells3 L, u.oneCell' = true := by
 intro u hu
 obtain ⟨r, -, hr⟩ := List.mem_flatMap.1 hu
 exact one_row r u hr
theorem IsRows.cell {w : World} {a : Option Addr} {len : Nat} {L : List R} (h : IsRows w a len L) : ∃ ad : Addr, (0 < len → a = some ad) ∧ ∀ j u, (cells3 L)[j]? = some u → w.cell? (ad.add j) = some u := by
 obtain ⟨h1, h2, h0 | ⟨b, o, rfl, hlt, hc⟩⟩ := h
 ·refine ⟨⟨0, 0, none⟩, fun h => by omega, fun j u hj => ?_⟩
  have : L = [] := List.eq_nil_of_length_eq_zero (by omega)
  subst this
  simp [cells3] at hj
 ·refine ⟨⟨b, o, none⟩, fun _ => rfl, fun j u hj => ?_⟩
  have hjl : j < L.length * 3 := by have := (List.getElem?_eq_some_iff.1 hj).1; rwa [cells3_length] at this
  obtain ⟨c0, c1, c2⟩ := hc (j / 3) (by omega)
  obtain ⟨e0, e1, e2⟩ := cells3_get L (j / 3) (by omega)
  rw [Addr.add_lit]
  have h3 : j = j / 3 * 3 ∨ j = j / 3 * 3 + 1 ∨ j = j / 3 * 3 + 2 := by omega
  rcases h3 with h | h | h
  ·rw [h] at hj ⊢; rw [e0] at hj; rw [c0]; exact hj
  ·rw [h] at hj ⊢; rw [e1] at hj; rw [← Nat.add_assoc, c1]; exact hj
  ·rw [h] at hj ⊢; rw [e2] at hj; rw [← Nat.add_assoc, c2]; exact hj
theorem wpList_appendR {ops : Array Oper} {rest : List Oper} {o : Oper} {a : Act} {Q : Exit → Act → World → Prop} {w : World} {B : Nat} {M L : List R} {v : Value} (s x : Operand) (ad : Addr) (m c : Nat)
  (hgd : o.guard = none) (ho : o.op = .call { callee := .builtin .append, args := #[s, x], argTypes := #[24, 24] })
  (hs : a.eval s = v) (hx : a.eval x = .slice (some ad) m c) (hown : Mine w B v M) (hl : L.length = m) (hc : ∀ j u, (cells3 L)[j]? = some u → w.cell? (ad.add j) = some u) (hB : B ≤ w.heap.size)
  (hlen : M.length + m ≤ 1000000000000)
  (h : ∀ v' w', Mine w' B v' (M ++ L) → w.grownBy w' v.ownBlock → (v' = .slice none 0 0 ↔ v = .slice none 0 0 ∧ m = 0) → wpList Try.prog ops Q rest (a.put o.dst v') w') :
  wpList Try.prog ops Q (o :: rest) a w := by
 obtain ⟨i0, hi, hz0, hz1, hz2⟩ := info_parts rowInfo
 refine wpList_append_own _ hgd s x 24 ho B 72 i0 R.zero.val 3 24 Try.underlying24 hi hz0 hz1 hz2 rfl (by decide) v M.length (cells3 M) hs hown
  ad m c (cells3 L) hx (by rw [cells3_length, hl]) hc (one_cells L) (by unfold maxLen; omega) (by omega) hB ?_
 intro v' w' hown' hg hn
 rw [cells3_append] at hown'
 exact h v' w' (by unfold Mine; rw [List.length_append, hl]; exact hown') hg hn
end Go.Proofs.Ytpnbnbhifpcelaa
namespace Go.Proofs.Ytpnbnbhifpcelaa
open Go.RowKit
structure Reg where
 b : Nat
 lo : Nat
 hi : Nat
def Reg.apart (x y : Reg) : Prop := x.b ≠ y.b ∨ x.hi ≤ y.lo ∨ y.hi ≤ x.lo
theorem Reg.apart_symm {x y : Reg} (h : x.apart y) : y.apart x := by
 rcases h with h | h | h
 ·exact .inl fun e => h e.symm
 ·exact .inr (.inr h)
 ·exact .inr (.inl h)
structure Stay (F : List Reg) (w w' : World) : Prop where
 size : w.heap.size ≤ w'.heap.size
 cell : ∀ r ∈ F, ∀ j, r.lo ≤ j → j < r.hi → w'.cell? ⟨r.b, j, none⟩ = w.cell? ⟨r.b, j, none⟩ ∧ w'.frozen? ⟨r.b, j, none⟩ = w.frozen? ⟨r.b, j, none⟩
structure OnlyAt (F : List Reg) (w w' : World) : Prop where
 os : w'.os = w.os
 tape : w'.tape = w.tape
 output : w'.output = w.output
 size : w.heap.size ≤ w'.heap.size
 block : ∀ b, b < w.heap.size → (∀ r ∈ F, r.b ≠ b) → w'.heap[b]? = w.heap[b]?
 cell : ∀ b j, b < w.heap.size → (∀ r ∈ F, r.b = b → j < r.lo ∨ r.hi ≤ j) → w'.cell? ⟨b, j, none⟩ = w.cell? ⟨b, j, none⟩
 frozen : ∀ b j, b < w.heap.size → w'.frozen? ⟨b, j, none⟩ = w.frozen? ⟨b, j, none⟩
theorem OnlyAt.refl (F : List Reg) (w : World) : OnlyAt F w w := ⟨rfl, rfl, rfl, Nat.le_refl _, fun _ _ _ => rfl, fun _ _ _ _ => rfl, fun _ _ _ => rfl⟩
theorem OnlyAt.trans {F : List Reg} {a b c : World} (h : OnlyAt F a b) (k : OnlyAt F b c) : OnlyAt F a c :=
 ⟨k.os.trans h.os, k.tape.trans h.tape, k.output.trans h.output, Nat.le_trans h.size k.size, fun i hi hne => (k.block i (Nat.lt_of_lt_of_le hi h.size) hne).trans (h.block i hi hne),
  fun i j hi hne => (k.cell i j (Nat.lt_of_lt_of_le hi h.size) hne).trans (h.cell i j hi hne), fun i j hi => (k.frozen i j (Nat.lt_of_lt_of_le hi h.size)).trans (h.frozen i j hi)⟩
theorem OnlyAt.mono {F G : List Reg} {a b : World} (h : OnlyAt F a b) (hs : ∀ r ∈ F, r ∈ G) : OnlyAt G a b :=
 ⟨h.os, h.tape, h.output, h.size, fun i hi hne => h.block i hi fun r hr => hne r (hs r hr), fun i j hi hne => h.cell i j hi fun r hr => hne r (hs r hr), h.frozen⟩
theorem OnlyAt.below {F : List Reg} {B : Nat} {a b : World} (h : OnlyAt F a b) (hB : B ≤ a.heap.size) (hF : ∀ r ∈ F, B ≤ r.b) : Below B a b :=
 ⟨h.os, h.tape, h.output, h.size, fun i hi => h.block i (Nat.lt_of_lt_of_le hi hB) fun r hr e => by have := hF r hr; omega⟩
theorem OnlyAt.of_below {F : List Reg} {a b : World} (h : Below a.heap.size a b) : OnlyAt F a b :=
 ⟨h.os, h.tape, h.output, h.size, fun i hi _ => h.block i hi, fun i _ hi _ => World.cell?_of_block (h.block i hi), fun i _ hi => World.frozen?_of_block (h.block i hi)⟩
theorem OnlyAt.set {F : List Reg} {a w : World} (h : OnlyAt F a w) {r : Reg} (hr : r ∈ F) {b j : Nat} (hb : r.b = b) (h1 : r.lo ≤ j) (h2 : j < r.hi) (u : Value) : OnlyAt F a (w.setCell ⟨b, j, none⟩ u) := by
 refine ⟨h.os, h.tape, h.output, by simpa [World.setCell] using h.size, fun i hi hne => ?_, fun i k hi hne => ?_, fun i k hi => ?_⟩
 ·exact (Below.heap_setCell w ⟨b, j, none⟩ u i (fun e => hne r hr (by rw [hb, e]))).trans (h.block i hi hne)
 ·refine (World.cell?_setCell_other _ _ _ _ (fun e => ?_)).trans (h.cell i k hi hne)
  simp only [Addr.mk.injEq] at e
  have := hne r hr (hb.trans (by have := e.1; omega))
  have := e.2.1
  omega
 ·exact (World.frozen?_setCell w _ _ _).trans (h.frozen i k hi)
theorem Stay.of_only {F G : List Reg} {w w' : World} (h : OnlyAt F w w') (hap : ∀ x ∈ F, ∀ y ∈ G, x.apart y) (hlt : ∀ y ∈ G, y.b < w.heap.size) : Stay G w w' :=
 ⟨h.size, fun y hy j h1 h2 => ⟨h.cell y.b j (hlt y hy) fun x hx e => by
  rcases hap x hx y hy with hn | hn | hn
  ·exact absurd e hn
  ·right; omega
  ·left; omega, h.frozen y.b j (hlt y hy)⟩⟩
theorem Stay.of_below {G : List Reg} {w w' : World} {B : Nat} (h : Below B w w') (hlt : ∀ y ∈ G, y.b < B) : Stay G w w' :=
 ⟨h.size, fun y hy _ _ _ => ⟨World.cell?_of_block (h.block y.b (hlt y hy)), World.frozen?_of_block (h.block y.b (hlt y hy))⟩⟩
theorem Stay.sub {F G : List Reg} {w w' : World} (h : Stay G w w') (hs : ∀ r ∈ F, r ∈ G) : Stay F w w' := ⟨h.size, fun r hr => h.cell r (hs r hr)⟩
def CellsAt (w : World) (b o : Nat) (cs : List Value) : Prop := ∀ (j : Nat) (u : Value), cs[j]? = some u → w.cell? ⟨b, o + j, none⟩ = some u
theorem CellsAt.below {w w' : World} {B b o : Nat} {cs : List Value} (h : CellsAt w b o cs) (hb : Below B w w') (hlt : b < B) : CellsAt w' b o cs := fun j u hj => (hb.cell hlt).trans (h j u hj)
theorem CellsAt.lt {w : World} {b o : Nat} {cs : List Value} (h : CellsAt w b o cs) (hl : 0 < cs.length) : b < w.heap.size := World.block_lt_of_cell? w _ (h 0 cs[0] (by simp [hl]))
structure Rep (α : Type) where
 H : Type
 size : Nat
 cells : α → H → List Value
 inn : World → α → H → Prop
 own : World → Nat → α → H → List Reg → Prop
 len : ∀ x h, (cells x h).length = size
 inn_keep : ∀ {w w' x h}, inn w x h → Below w.heap.size w w' → inn w' x h
 own_inn : ∀ {w B x h F}, own w B x h F → inn w x h
 own_lt : ∀ {w B x h F}, own w B x h F → ∀ r ∈ F, B ≤ r.b ∧ r.b < w.heap.size
 own_stay : ∀ {w w' B x h F}, own w B x h F → Stay F w w' → own w' B x h F
 own_apart : ∀ {w B x h F}, own w B x h F → F.Pairwise Reg.apart
 own_mono : ∀ {w B B' x h F}, own w B x h F → B' ≤ B → own w B' x h F
def SeqIn {α : Type} (r : Rep α) (w : World) (a : Option Addr) (n : Nat) (xs : List α) : Prop :=
 xs.length = n ∧ n ≤ maxLen ∧ (n = 0 ∨ ∃ b o : Nat, a = some ⟨b, o, none⟩ ∧ b < w.heap.size ∧ ∃ hs : Nat → r.H, ∀ t x, xs[t]? = some x → CellsAt w b (o + t * r.size) (r.cells x (hs t)) ∧ r.inn w x (hs t))
def SeqOwn {α : Type} (r : Rep α) (w : World) (B : Nat) (a : Option Addr) (n : Nat) (xs : List α) (F : List Reg) : Prop :=
 xs.length = n ∧ n ≤ maxLen ∧ ((n = 0 ∧ F = []) ∨ ∃ (b o : Nat) (hs : Nat → r.H) (Fs : Nat → List Reg), a = some ⟨b, o, none⟩ ∧ B ≤ b ∧ b < w.heap.size ∧ F = ⟨b, o, o + n * r.size⟩ :: (List.range n).flatMap Fs ∧ F.Pairwise Reg.apart ∧
  (∀ j, o ≤ j → j < o + n * r.size → w.frozen? ⟨b, j, none⟩ = false) ∧ ∀ t x, xs[t]? = some x → CellsAt w b (o + t * r.size) (r.cells x (hs t)) ∧ r.own w B x (hs t) (Fs t))
theorem idx_lt {α : Type} {xs : List α} {t : Nat} {x : α} (h : xs[t]? = some x) : t < xs.length := (List.getElem?_eq_some_iff.1 h).1
theorem at_le {t n s : Nat} (h : t < n) : t * s + s ≤ n * s := by
 have := Nat.mul_le_mul_right s (show t + 1 ≤ n from h)
 rwa [Nat.add_mul, Nat.one_mul] at this
theorem SeqIn.keep {α : Type} {r : Rep α} {w w' : World} {a : Option Addr} {n : Nat} {xs : List α} (h : SeqIn r w a n xs) (hb : Below w.heap.size w w') : SeqIn r w' a n xs := by
 obtain ⟨h1, hm, h2⟩ := h
 refine ⟨h1, hm, h2.imp_right ?_⟩
 rintro ⟨b, o, rfl, hlt, hs, hx⟩
 exact ⟨b, o, rfl, Nat.lt_of_lt_of_le hlt hb.size, hs, fun t x ht => ⟨(hx t x ht).1.below hb hlt, r.inn_keep (hx t x ht).2 hb⟩⟩
theorem SeqOwn.lt {α : Type} {r : Rep α} {w : World} {B : Nat} {a : Option Addr} {n : Nat} {xs : List α} {F : List Reg} (h : SeqOwn r w B a n xs F) : ∀ y ∈ F, B ≤ y.b ∧ y.b < w.heap.size := by
 obtain ⟨h1, -, ⟨-, rfl⟩ | ⟨b, o, hs, Fs, rfl, hB, hlt, rfl, -, -, hx⟩⟩ := h
 ·intro y hy; cases hy
 ·intro y hy
  rcases List.mem_cons.1 hy with rfl | hy
  ·exact ⟨hB, hlt⟩
  ·obtain ⟨t, ht, hy⟩ := List.mem_flatMap.1 hy
   have htl : t < xs.length := by rw [h1]; exact List.mem_range.1 ht
   exact r.own_lt (hx t xs[t] (by simp [htl])).2 y hy
theorem SeqOwn.stay {α : Type} {r : Rep α} {w w' : World} {B : Nat} {a : Option Addr} {n : Nat} {xs : List α} {F : List Reg} (h : SeqOwn r w B a n xs F) (hs : Stay F w w') : SeqOwn r w' B a n xs F := by
 obtain ⟨h1, hm, h2⟩ := h
 refine ⟨h1, hm, h2.imp_right ?_⟩
 rintro ⟨b, o, hh, Fs, rfl, hB, hlt, rfl, hp, hf, hx⟩
 have hc := hs.cell ⟨b, o, o + n * r.size⟩ (List.mem_cons_self ..)
 refine ⟨b, o, hh, Fs, rfl, hB, Nat.lt_of_lt_of_le hlt hs.size, rfl, hp, fun j ha hb => ((hc j ha hb).2).trans (hf j ha hb), fun t x ht => ?_⟩
 have htn : t < n := by rw [← h1]; exact idx_lt ht
 refine ⟨fun j u hj => ?_, r.own_stay (hx t x ht).2 (hs.sub fun y hy => List.mem_cons_of_mem _ (List.mem_flatMap.2 ⟨t, List.mem_range.2 htn, hy⟩))⟩
 have hjl : j < r.size := by rw [← r.len x (hh t)]; exact idx_lt hj
 have hle := at_le (s := r.size) htn
 exact ((hc (o + t * r.size + j) (by simp only; omega) (by simp only; omega)).1).trans ((hx t x ht).1 j u hj)
theorem SeqOwn.inn {α : Type} {r : Rep α} {w : World} {B : Nat} {a : Option Addr} {n : Nat} {xs : List α} {F : List Reg} (h : SeqOwn r w B a n xs F) : SeqIn r w a n xs := by
 obtain ⟨h1, hm, ⟨h0, -⟩ | ⟨b, o, hs, Fs, rfl, -, hlt, -, -, -, hx⟩⟩ := h
 ·exact ⟨h1, hm, .inl h0⟩
 ·exact ⟨h1, hm, .inr ⟨b, o, rfl, hlt, hs, fun t x ht => ⟨(hx t x ht).1, r.own_inn (hx t x ht).2⟩⟩⟩
theorem SeqOwn.apart {α : Type} {r : Rep α} {w : World} {B : Nat} {a : Option Addr} {n : Nat} {xs : List α} {F : List Reg} (h : SeqOwn r w B a n xs F) : F.Pairwise Reg.apart := by
 obtain ⟨h1, -, ⟨-, rfl⟩ | ⟨b, o, hs, Fs, rfl, -, hlt, -, hp, -⟩⟩ := h
 ·exact List.Pairwise.nil
 ·exact hp
theorem SeqOwn.mono {α : Type} {r : Rep α} {w : World} {B B' : Nat} {a : Option Addr} {n : Nat} {xs : List α} {F : List Reg} (h : SeqOwn r w B a n xs F) (hb : B' ≤ B) : SeqOwn r w B' a n xs F := by
 obtain ⟨h1, hm, h2⟩ := h
 refine ⟨h1, hm, h2.imp_right ?_⟩
 rintro ⟨b, o, hs, Fs, rfl, hB, hlt, hF, hp, hf, hx⟩
 exact ⟨b, o, hs, Fs, rfl, Nat.le_trans hb hB, hlt, hF, hp, hf, fun t x ht => ⟨(hx t x ht).1, r.own_mono (hx t x ht).2 hb⟩⟩
theorem SeqOwn.keep {α : Type} {r : Rep α} {w w' : World} {B : Nat} {a : Option Addr} {n : Nat} {xs : List α} {F : List Reg} (h : SeqOwn r w B a n xs F) (hb : Below w.heap.size w w') : SeqOwn r w' B a n xs F :=
 h.stay (Stay.of_below hb fun y hy => (h.lt y hy).2)
def rowRep : Rep R where
 H := Unit
 size := 3
 cells := fun r _ => [.int .i64 r.key, .int .i64 r.value, .int .i64 r.width]
 inn := fun _ r _ => r.wf
 own := fun _ _ r _ F => r.wf ∧ F = []
 len := fun _ _ => rfl
 inn_keep := fun h _ => h
 own_inn := fun h => h.1
 own_lt := fun h y hy => by rw [h.2] at hy; cases hy
 own_stay := fun h _ => h
 own_apart := fun h => by rw [h.2]; exact List.Pairwise.nil
 own_mono := fun h _ => h
def seqRep {α : Type} (r : Rep α) : Rep (List α) where
 H := Option Addr × Nat × Nat
 size := 1
 cells := fun _ h => [.slice h.1 h.2.1 h.2.2]
 inn := fun w xs h => SeqIn r w h.1 h.2.1 xs ∧ (h.1 = none → h.2.2 = 0)
 own := fun w B xs h F => SeqOwn r w B h.1 h.2.1 xs F ∧ (h.1 = none → h.2.2 = 0)
 len := fun _ _ => rfl
 inn_keep := fun h hb => ⟨h.1.keep hb, h.2⟩
 own_inn := fun h => ⟨h.1.inn, h.2⟩
 own_lt := fun h => h.1.lt
 own_stay := fun h hs => ⟨h.1.stay hs, h.2⟩
 own_apart := fun h => h.1.apart
 own_mono := fun h hb => ⟨h.1.mono hb, h.2⟩
theorem SeqOwn.at {α : Type} {r : Rep α} {w : World} {B : Nat} {a : Option Addr} {n : Nat} {xs : List α} {F : List Reg} (h : SeqOwn r w B a n xs F) {t : Nat} {x : α} (ht : xs[t]? = some x) :
  ∃ (b o : Nat) (hd : r.H) (G : List Reg), a = some ⟨b, o, none⟩ ∧ b < w.heap.size ∧ CellsAt w b (o + t * r.size) (r.cells x hd) ∧ (∀ j, j < r.size → w.frozen? ⟨b, o + t * r.size + j, none⟩ = false) ∧ r.own w B x hd G ∧ (∀ y ∈ G, y ∈ F) ∧
   ∀ w' x', OnlyAt G w w' → r.own w' B x' hd G → r.cells x' hd = r.cells x hd → SeqOwn r w' B a n (xs.set t x') F := by
 have htl := idx_lt ht
 obtain ⟨h1, hm, ⟨h0, -⟩ | ⟨b, o, hs, Fs, rfl, hB, hlt, rfl, hp, hf, hx⟩⟩ := h
 ·omega
 ·have htn : t < n := by omega
  have hle := at_le (s := r.size) htn
  have hsub : ∀ y ∈ Fs t, y ∈ (⟨b, o, o + n * r.size⟩ : Reg) :: (List.range n).flatMap Fs := fun y hy => List.mem_cons_of_mem _ (List.mem_flatMap.2 ⟨t, List.mem_range.2 htn, hy⟩)
  refine ⟨b, o, hs t, Fs t, rfl, hlt, (hx t x ht).1, fun j hj => hf _ (by omega) (by omega), (hx t x ht).2, hsub, fun w' x' ho hown hce => ?_⟩
  have hhead : ∀ y ∈ Fs t, (⟨b, o, o + n * r.size⟩ : Reg).apart y := fun y hy => (List.pairwise_cons.1 hp).1 y (List.mem_flatMap.2 ⟨t, List.mem_range.2 htn, hy⟩)
  have hst : Stay [⟨b, o, o + n * r.size⟩] w w' := Stay.of_only ho (fun y hy z hz => by rw [List.mem_singleton.1 hz]; exact Reg.apart_symm (hhead y hy)) (fun z hz => by rw [List.mem_singleton.1 hz]; exact hlt)
  have hc := hst.cell ⟨b, o, o + n * r.size⟩ (List.mem_singleton.2 rfl)
  refine ⟨by rw [List.length_set]; exact h1, hm, .inr ⟨b, o, hs, Fs, rfl, hB, Nat.lt_of_lt_of_le hlt ho.size, rfl, hp, fun j ha hb => ((hc j ha hb).2).trans (hf j ha hb), fun s y hy => ?_⟩⟩
  have hsn : s < n := by have := idx_lt hy; rw [List.length_set] at this; omega
  have hles := at_le (s := r.size) hsn
  have hcell : ∀ z, xs[s]? = some z → CellsAt w' b (o + s * r.size) (r.cells z (hs s)) := fun z hz j u hj => by
   have hjl : j < r.size := by rw [← r.len z (hs s)]; exact idx_lt hj
   exact ((hc (o + s * r.size + j) (by simp only; omega) (by simp only; omega)).1).trans ((hx s z hz).1 j u hj)
  by_cases hst' : s = t
  ·subst hst'
   rw [List.getElem?_set_self htl] at hy
   obtain rfl := Option.some.inj hy
   exact ⟨by rw [hce]; exact hcell x ht, hown⟩
  ·rw [List.getElem?_set_ne (fun e => hst' e.symm)] at hy
   refine ⟨hcell y hy, r.own_stay (hx s y hy).2 (Stay.of_only ho (fun p hp' q hq => ?_) fun q hq => (r.own_lt (hx s y hy).2 q hq).2)⟩
   have hpw := (List.pairwise_cons.1 hp).2
   rw [List.pairwise_flatMap] at hpw
   have hr := hpw.2
   rcases Nat.lt_or_gt_of_ne hst' with h2 | h2
   ·exact Reg.apart_symm ((List.pairwise_iff_getElem.1 hr) s t (by simpa using hsn) (by simpa using htn) h2 q (by simpa using hq) p (by simpa using hp'))
   ·exact (List.pairwise_iff_getElem.1 hr) t s (by simpa using htn) (by simpa using hsn) h2 p (by simpa using hp') q (by simpa using hq)
end Go.Proofs.Ytpnbnbhifpcelaa
namespace Go.Proofs.Ytpnbnbhifpcelaa
open Go.RowKit
structure El {α : Type} (r : Rep α) where
 x : α
 h : r.H
 F : List Reg
def OwnAll {α : Type} (r : Rep α) (w : World) (B : Nat) (es : List (El r)) : Prop :=
 (∀ e ∈ es, r.own w B e.x e.h e.F) ∧ es.Pairwise fun e f => ∀ x ∈ e.F, ∀ y ∈ f.F, x.apart y
def InAll {α : Type} (r : Rep α) (w : World) (es : List (El r)) : Prop := ∀ e ∈ es, r.inn w e.x e.h
def cellsOf {α : Type} {r : Rep α} (es : List (El r)) : List Value := es.flatMap fun e => r.cells e.x e.h
theorem cellsOf_get {α : Type} {r : Rep α} : ∀ (es : List (El r)) (t : Nat) (e : El r), es[t]? = some e → ∀ j u, (r.cells e.x e.h)[j]? = some u → (cellsOf es)[t * r.size + j]? = some u
 | [], t, e, ht, j, u, hj => by simp at ht
 | e0 :: es, 0, e, ht, j, u, hj => by
  obtain rfl : e0 = e := by simpa using ht
  have hjl := idx_lt hj
  rw [Nat.zero_mul, Nat.zero_add]
  show (r.cells e0.x e0.h ++ cellsOf es)[j]? = _
  rw [List.getElem?_append_left hjl]
  exact hj
 | e0 :: es, t + 1, e, ht, j, u, hj => by
  have ht' : es[t]? = some e := by simpa using ht
  have := cellsOf_get es t e ht' j u hj
  show (r.cells e0.x e0.h ++ cellsOf es)[(t + 1) * r.size + j]? = _
  have hl := r.len e0.x e0.h
  have e1 : (t + 1) * r.size = t * r.size + r.size := by rw [Nat.add_mul, Nat.one_mul]
  rw [List.getElem?_append_right (by omega), hl, show (t + 1) * r.size + j - r.size = t * r.size + j by omega]
  exact this
theorem OwnAll.nil {α : Type} (r : Rep α) (w : World) (B : Nat) : OwnAll r w B [] := ⟨fun e he => (by cases he), List.Pairwise.nil⟩
theorem InAll.nil {α : Type} (r : Rep α) (w : World) : InAll r w [] := fun e he => (by cases he)
theorem OwnAll.inn {α : Type} {r : Rep α} {w : World} {B : Nat} {es : List (El r)} (h : OwnAll r w B es) : InAll r w es := fun e he => r.own_inn (h.1 e he)
theorem OwnAll.stay {α : Type} {r : Rep α} {w w' : World} {B : Nat} {es : List (El r)} (h : OwnAll r w B es) (hs : ∀ e ∈ es, Stay e.F w w') : OwnAll r w' B es := ⟨fun e he => r.own_stay (h.1 e he) (hs e he), h.2⟩
theorem OwnAll.keep {α : Type} {r : Rep α} {w w' : World} {B : Nat} {es : List (El r)} (h : OwnAll r w B es) (hb : Below w.heap.size w w') : OwnAll r w' B es :=
 h.stay fun e he => Stay.of_below hb fun y hy => (r.own_lt (h.1 e he) y hy).2
theorem InAll.keep {α : Type} {r : Rep α} {w w' : World} {es : List (El r)} (h : InAll r w es) (hb : Below w.heap.size w w') : InAll r w' es := fun e he => r.inn_keep (h e he) hb
theorem OwnAll.only {α : Type} {r : Rep α} {w w' : World} {B : Nat} {es : List (El r)} {G : List Reg} (h : OwnAll r w B es) (ho : OnlyAt G w w') (hne : ∀ e ∈ es, ∀ y ∈ e.F, ∀ x ∈ G, x.b ≠ y.b) : OwnAll r w' B es :=
 h.stay fun e he => Stay.of_only ho (fun x hx y hy => .inl (hne e he y hy x hx)) fun y hy => (r.own_lt (h.1 e he) y hy).2
theorem OwnAll.push {α : Type} {r : Rep α} {w w' : World} {B B' : Nat} {es : List (El r)} (h : OwnAll r w B es) (hb : Below w.heap.size w w') {e : El r} (he : r.own w' B' e.x e.h e.F) (hB : B ≤ B') (hn : w.heap.size ≤ B') : OwnAll r w' B (es ++ [e]) := by
 have hk := h.keep hb
 refine ⟨fun f hf => ?_, ?_⟩
 ·rcases List.mem_append.1 hf with hf | hf
  ·exact hk.1 f hf
  ·rw [List.mem_singleton.1 hf]; exact r.own_mono he hB
 ·rw [List.pairwise_append]
  refine ⟨hk.2, List.pairwise_singleton _ _, fun f hf g hg => ?_⟩
  rw [List.mem_singleton.1 hg]
  intro x hx y hy
  have h1 := (r.own_lt (h.1 f hf) x hx).2
  have h2 := (r.own_lt he y hy).1
  exact .inl (by omega)
theorem InAll.push {α : Type} {r : Rep α} {w : World} {es : List (El r)} (h : InAll r w es) {e : El r} (he : r.inn w e.x e.h) : InAll r w (es ++ [e]) := fun f hf => by
 rcases List.mem_append.1 hf with hf | hf
 ·exact h f hf
 ·rw [List.mem_singleton.1 hf]; exact he
theorem OwnAll.mono {α : Type} {r : Rep α} {w : World} {B B' : Nat} {es : List (El r)} (h : OwnAll r w B es) (hb : B' ≤ B) : OwnAll r w B' es := ⟨fun e he => r.own_mono (h.1 e he) hb, h.2⟩
theorem OwnAll.done {α : Type} {r : Rep α} {w : World} {B g : Nat} {es : List (El r)} (h : OwnAll r w B es) (hg : B ≤ g) (hl : g < w.heap.size) (hf : ∀ j, w.frozen? ⟨g, j, none⟩ = false) (hc : ∀ j u, (cellsOf es)[j]? = some u → w.cell? ⟨g, j, none⟩ = some u)
  (hne : ∀ e ∈ es, ∀ y ∈ e.F, y.b ≠ g) (hm : es.length ≤ maxLen) : ∃ F, SeqOwn r w B (some ⟨g, 0, none⟩) es.length (es.map El.x) F := by
 rcases Nat.eq_zero_or_pos es.length with h0 | h0
 ·exact ⟨[], by simp, hm, .inl ⟨h0, rfl⟩⟩
 ·obtain ⟨e0, -⟩ : ∃ e0, es[0]? = some e0 := ⟨es[0], by simp [h0]⟩
  refine ⟨_, by simp, hm, .inr ⟨g, 0, fun t => (es.getD t e0).h, fun t => (es.getD t e0).F, rfl, hg, hl, rfl, ?_, fun j _ _ => hf j, fun t x ht => ?_⟩⟩
  ·rw [List.pairwise_cons]
   refine ⟨fun y hy => ?_, ?_⟩
   ·obtain ⟨t, ht, hy⟩ := List.mem_flatMap.1 hy
    have htl : t < es.length := List.mem_range.1 ht
    have hgd : es.getD t e0 = es[t] := by simp [List.getD, htl]
    rw [hgd] at hy
    exact .inl fun e => hne es[t] (List.getElem_mem htl) y hy e.symm
   ·rw [List.pairwise_flatMap]
    refine ⟨fun t ht => ?_, ?_⟩
    ·have htl : t < es.length := List.mem_range.1 ht
     have hgd : es.getD t e0 = es[t] := by simp [List.getD, htl]
     rw [hgd]
     exact r.own_apart (h.1 es[t] (List.getElem_mem htl))
    ·rw [List.pairwise_iff_getElem]
     intro i j hi hj hij x hx y hy
     simp only [List.getElem_range] at hx hy
     have hil : i < es.length := by simpa using hi
     have hjl : j < es.length := by simpa using hj
     have h1 : es.getD i e0 = es[i] := by simp [List.getD, hil]
     have h2 : es.getD j e0 = es[j] := by simp [List.getD, hjl]
     rw [h1] at hx
     rw [h2] at hy
     exact (List.pairwise_iff_getElem.1 h.2) i j hil hjl hij x hx y hy
  ·have htl : t < es.length := by have := idx_lt ht; simpa using this
   have hgd : es.getD t e0 = es[t] := by simp [List.getD, htl]
   obtain rfl : es[t].x = x := by simpa [htl] using ht
   simp only []
   rw [hgd]
   refine ⟨fun j u hj => ?_, h.1 es[t] (List.getElem_mem htl)⟩
   rw [Nat.zero_add]
   exact hc _ _ (cellsOf_get es t es[t] (by simp [htl]) j u hj)
theorem InAll.done {α : Type} {r : Rep α} {w : World} {g o : Nat} {es : List (El r)} (h : InAll r w es) (hl : g < w.heap.size) (hc : ∀ j u, (cellsOf es)[j]? = some u → w.cell? ⟨g, o + j, none⟩ = some u) (hm : es.length ≤ maxLen) :
  SeqIn r w (some ⟨g, o, none⟩) es.length (es.map El.x) := by
 rcases Nat.eq_zero_or_pos es.length with h0 | h0
 ·exact ⟨by simp, hm, .inl h0⟩
 ·obtain ⟨e0, -⟩ : ∃ e0, es[0]? = some e0 := ⟨es[0], by simp [h0]⟩
  refine ⟨by simp, hm, .inr ⟨g, o, rfl, hl, fun t => (es.getD t e0).h, fun t x ht => ?_⟩⟩
  have htl : t < es.length := by have := idx_lt ht; simpa using this
  have hgd : es.getD t e0 = es[t] := by simp [List.getD, htl]
  obtain rfl : es[t].x = x := by simpa [htl] using ht
  simp only []
  rw [hgd]
  refine ⟨fun j u hj => ?_, h es[t] (List.getElem_mem htl)⟩
  rw [Nat.add_assoc]
  exact hc _ _ (cellsOf_get es t es[t] (by simp [htl]) j u hj)
theorem SeqIn.at {α : Type} {r : Rep α} {w : World} {a : Option Addr} {n : Nat} {xs : List (List α)} (h : SeqIn (seqRep r) w a n xs) {t : Nat} {x : List α} (ht : xs[t]? = some x) :
  ∃ (b o : Nat) (c : Option Addr) (k m : Nat), a = some ⟨b, o, none⟩ ∧ b < w.heap.size ∧ w.cell? ⟨b, o + t, none⟩ = some (.slice c k m) ∧ SeqIn r w c k x ∧ (c = none → m = 0) := by
 have htl := idx_lt ht
 obtain ⟨h1, -, h0 | ⟨b, o, rfl, hlt, hs, hx⟩⟩ := h
 ·omega
 ·obtain ⟨hc, hi⟩ := hx t x ht
  have := hc 0 _ rfl
  simp only [seqRep, Nat.mul_one, Nat.add_zero] at this
  exact ⟨b, o, _, _, _, rfl, hlt, this, hi.1, hi.2⟩
theorem rows_in {w : World} {a : Option Addr} {len : Nat} {L : List R} (h : SeqIn rowRep w a len L) : IsRows w a len L := by
 obtain ⟨h1, hm, h2⟩ := h
 have hwf : ∀ r ∈ L, r.wf := by
  intro r hr
  obtain ⟨t, ht, rfl⟩ := List.getElem_of_mem hr
  rcases h2 with h2 | ⟨b, o, -, -, hs, hx⟩
  ·omega
  ·exact (hx t L[t] (by simp [ht])).2
 refine ⟨h1, hwf, h2.imp_right ?_⟩
 rintro ⟨b, o, rfl, hlt, hs, hx⟩
 refine ⟨b, o, rfl, hlt, fun t ht => ?_⟩
 have htl : t < L.length := by omega
 have hg : L.getD t R.zero = L[t] := by simp [List.getD, htl]
 obtain ⟨hc, -⟩ := hx t L[t] (by simp [htl])
 rw [hg]
 exact ⟨hc 0 _ rfl, hc 1 _ rfl, hc 2 _ rfl⟩
end Go.Proofs.Ytpnbnbhifpcelaa
namespace Go.Proofs.Ytpnbnbhifpcelaa
open Go.RowKit
theorem Mine.grown {w w' : World} {B : Nat} {v : Value} {L : List R} {row : Option Nat} (h : Mine w B v L) (hg : w.grownBy w' row) (hne : ∀ k, v.ownBlock = some k → row ≠ some k) : Mine w' B v L := by
 obtain ⟨h1, h0 | ⟨g, cap, cur, rfl, hB, hh, h2⟩⟩ := h
 ·exact ⟨h1, .inl h0⟩
 ·exact ⟨h1, .inr ⟨g, cap, cur, rfl, hB, (hg.block g (lt_of_block hh) (fun e => hne g rfl e.symm)).trans hh, h2⟩⟩
theorem Mine.addr {w : World} {B : Nat} {v : Value} {L : List R} (h : Mine w B v L) (hne : v ≠ .slice none 0 0) : ∃ g c, v = .slice (some ⟨g, 0, none⟩) L.length c ∧ B ≤ g ∧ g < w.heap.size := by
 obtain ⟨h1, h0 | ⟨g, cap, cur, rfl, hB, hh, h2⟩⟩ := h
 ·exact absurd h0.1 hne
 ·exact ⟨g, cap, rfl, hB, lt_of_block hh⟩
theorem Mine.own' {w : World} {B : Nat} {v : Value} {L : List R} (h : Mine w B v L) : ∀ k, v.ownBlock = some k → B ≤ k := fun k hk => (World.ownsRow.lt h k hk).1
theorem Mine.drew {w : World} {B : Nat} {v : Value} {L : List R} (h : Mine w B v L) : Mine w.drew B v L := h
theorem Mine.cap {w : World} {B g len cap : Nat} {L : List R} (h : Mine w B (.slice (some ⟨g, 0, none⟩) len cap) L) : len ≤ cap := by
 have hl := h.len
 rcases h.2 with ⟨h0, h2⟩ | ⟨g', cap', cur, hv, hB, hh, hc, -⟩
 ·injection h0 with e1 e2 e3; cases e1
 ·injection hv with e1 e2 e3; omega
theorem Mine.lt {w : World} {B g len cap : Nat} {L : List R} (h : Mine w B (.slice (some ⟨g, 0, none⟩) len cap) L) : g < w.heap.size := (World.ownsRow.lt h g rfl).2
theorem Mine.from {w : World} {B : Nat} {g len cap : Nat} {L : List R} (h : Mine w B (.slice (some ⟨g, 0, none⟩) len cap) L) {k : Nat} (hk : k ≤ len) :
  ∃ A : Addr, (if cap = k then some (⟨g, 0, none⟩ : Addr) else some ⟨g, k * 3, none⟩) = some A ∧ (L.drop k).length = len - k ∧ ∀ j u, (cells3 (L.drop k))[j]? = some u → w.cell? (A.add j) = some u := by
 have hl := h.len
 have hcap : len ≤ cap := by
  rcases h.2 with ⟨h0, h2⟩ | ⟨g', cap', cur, hv, hB, hh, hc, -⟩
  ·injection h0 with e1 e2 e3; cases e1
  ·injection hv with e1 e2 e3; omega
 have hld : (L.drop k).length = len - k := by rw [List.length_drop, hl]
 by_cases hc : cap = k
 ·refine ⟨_, by rw [if_pos hc], hld, fun j u hj => ?_⟩
  have : L.drop k = [] := List.drop_eq_nil_of_le (by omega)
  rw [this] at hj
  simp [cells3] at hj
 ·refine ⟨_, by rw [if_neg hc], hld, fun j u hj => ?_⟩
  have hjl : j < (len - k) * 3 := by have := (List.getElem?_eq_some_iff.1 hj).1; rwa [cells3_length, hld] at this
  obtain ⟨g', e, hB, hg, -, -, -⟩ := h.at (k := k) (by omega)
  have hat : RowAt w g ((k + j / 3) * 3) (L.getD (k + j / 3) R.zero) := by
   obtain ⟨g2, e2, -, -, hat, -⟩ := h.at (k := k + j / 3) (by omega)
   injection e2 with e2; injection e2 with e2 _ _
   rw [e2]; exact hat
  have hd : (L.drop k).getD (j / 3) R.zero = L.getD (k + j / 3) R.zero := by simp [List.getD, List.getElem?_drop]
  obtain ⟨e0, e1, e2⟩ := cells3_get (L.drop k) (j / 3) (by omega)
  rw [hd] at e0 e1 e2
  obtain ⟨c0, c1, c2⟩ := hat
  rw [Addr.add_lit]
  have h3 : j = j / 3 * 3 ∨ j = j / 3 * 3 + 1 ∨ j = j / 3 * 3 + 2 := by omega
  rcases h3 with h | h | h
  ·rw [h] at hj ⊢; rw [e0] at hj; rw [← hj, ← c0]; congr 2; omega
  ·rw [h] at hj ⊢; rw [e1] at hj; rw [← hj, ← c1]; congr 2; omega
  ·rw [h] at hj ⊢; rw [e2] at hj; rw [← hj, ← c2]; congr 2; omega
theorem Mine.cells {w : World} {B : Nat} {g len cap : Nat} {L : List R} (h : Mine w B (.slice (some ⟨g, 0, none⟩) len cap) L) : ∀ j u, (cells3 L)[j]? = some u → w.cell? ((⟨g, 0, none⟩ : Addr).add j) = some u := by
 intro j u hj
 have hjl : j < L.length * 3 := by have := (List.getElem?_eq_some_iff.1 hj).1; rwa [cells3_length] at this
 rcases h.2 with ⟨h0, h2⟩ | ⟨g', cap', cur, hv, hB, hh, hc, hm, hs, htake⟩
 ·injection h0 with e1 e2 e3; cases e1
 ·injection hv with e1 e2 e3
  injection e1 with e1
  injection e1 with e1 _ _
  subst e1
  rw [← htake, List.getElem?_take, if_pos hjl] at hj
  rw [Addr.add_lit, Nat.zero_add]
  simp only [World.cell?, hh]
  simpa using hj
theorem step_appendR {ops : Array Oper} {o : Oper} {a : Act} {K : Act → World → Prop} {Q : Exit → Act → World → Prop} {E : Prop} {w : World} {B : Nat} {M L : List R} {v : Value} (s x : Operand) (ad : Addr) (m c : Nat)
  (hgd : o.guard = none) (ho : o.op = .call { callee := .builtin .append, args := #[s, x], argTypes := #[24, 24] })
  (hs : a.eval s = v) (hx : a.eval x = .slice (some ad) m c) (hown : Mine w B v M) (hl : L.length = m) (hc : ∀ j u, (cells3 L)[j]? = some u → w.cell? (ad.add j) = some u) (hB : B ≤ w.heap.size)
  (hlen : M.length + m ≤ 1000000000000)
  (h : ∀ v' w', Mine w' B v' (M ++ L) → w.grownBy w' v.ownBlock → (v' = .slice none 0 0 ↔ v = .slice none 0 0 ∧ m = 0) → K (a.put o.dst v') w') :
  if Region.wanted o (yielded ops a.tmps) = true then Oper.wp Try.prog o a w K Q else E := by
 have hw : Region.wanted o (yielded ops a.tmps) = true := by simp [Region.wanted, hgd]
 rw [if_pos hw]
 obtain ⟨i0, hi, hz0, hz1, hz2⟩ := info_parts rowInfo
 refine wp_append_own _ s x 24 ho B 72 i0 R.zero.val 3 24 Try.underlying24 hi hz0 hz1 hz2 rfl (by decide) v M.length (cells3 M) hs hown
  ad m c (cells3 L) hx (by rw [cells3_length, hl]) hc (one_cells L) (by unfold maxLen; omega) (by omega) hB ?_
 intro v' w' hown' hg hn
 rw [cells3_append] at hown'
 exact h v' w' (by unfold Mine; rw [List.length_append, hl]; exact hown') hg hn
theorem mine_one (w : World) (B : Nat) (hB : B ≤ w.heap.size) (r : R) : Mine (w.alloc (.cells #[.int .i64 r.key, .int .i64 r.value, .int .i64 r.width] 72)) B (.slice (some ⟨w.heap.size, 0, none⟩) 1 1) [r] :=
 ⟨rfl, .inr ⟨w.heap.size, 1, _, rfl, hB, heap_alloc_new w _, Nat.le_refl _, by unfold maxLen; simp, rfl, rfl⟩⟩
theorem mine_zero (w : World) (B : Nat) (hB : B ≤ w.heap.size) : Mine (w.alloc (.cells #[] 72)) B (.slice (some ⟨w.heap.size, 0, none⟩) 0 0) [] :=
 World.ownsRow_made w #[] 0 hB (Nat.zero_le _) (by simp)
theorem getD_ext {A B : List R} (h : A.length = B.length) (he : ∀ t, t < A.length → A.getD t R.zero = B.getD t R.zero) : A = B := by
 apply List.ext_getElem h
 intro t h1 h2
 have := he t h1
 simpa [List.getD, h1, h2] using this
theorem take_set3 {α : Type} (cur : List α) (m : Nat) (a b c : α) (h : m + 3 ≤ cur.length) : (((cur.set m a).set (m + 1) b).set (m + 2) c).take (m + 3) = cur.take m ++ [a, b, c] := by
 apply List.ext_getElem
 ·simp; omega
 ·intro i h1 h2
  simp only [List.getElem_take, List.getElem_set, List.getElem_append, List.length_take]
  have hm : min m cur.length = m := by omega
  simp only [hm]
  by_cases h3 : i < m
  ·rw [if_neg (by omega), if_neg (by omega), if_neg (by omega), dif_pos h3]
  ·rw [dif_neg h3]
   simp at h1
   have h4 : i = m ∨ i = m + 1 ∨ i = m + 2 := by omega
   rcases h4 with rfl | rfl | rfl
   ·rw [if_neg (by omega), if_neg (by omega), if_pos rfl]; simp
   ·rw [if_neg (by omega), if_pos rfl]; simp
   ·rw [if_pos rfl]; simp
theorem Mine.push {w : World} {B g n cap : Nat} {X : List R} (h : Mine w B (.slice (some ⟨g, 0, none⟩) n cap) X) (hr : n < cap) (s : R) :
  (∀ j, j < 3 → (w.cell? ⟨g, n * 3 + j, none⟩).isSome = true ∧ w.frozen? ⟨g, n * 3 + j, none⟩ = false) ∧
  Mine (((w.setCell ⟨g, n * 3, none⟩ (.int .i64 s.key)).setCell ⟨g, n * 3 + 1, none⟩ (.int .i64 s.value)).setCell ⟨g, n * 3 + 2, none⟩ (.int .i64 s.width)) B (.slice (some ⟨g, 0, none⟩) (n + 1) cap) (X ++ [s]) := by
 have hl := h.len
 obtain ⟨h1, ⟨h0, h2⟩ | ⟨g', cap', cur, hv, hB, hh, hcap, hmax, hsz, htake⟩⟩ := h
 ·injection h0 with e1; cases e1
 ·injection hv with e1 e2 e3
  injection e1 with e1
  injection e1 with e1 _ _
  subst e1 e3
  have hcs : n * 3 + 3 ≤ cur.size := by omega
  refine ⟨fun j hj => ⟨?_, by simp [World.frozen?, hh]⟩, ?_⟩
  ·simp only [World.cell?, hh]
   have : n * 3 + j < cur.size := by omega
   simp [this]
  ·have s1 := Joins.block_setCell hh (i := n * 3) (.int .i64 s.key)
   have s2 := Joins.block_setCell s1 (i := n * 3 + 1) (.int .i64 s.value)
   have s3 := Joins.block_setCell s2 (i := n * 3 + 2) (.int .i64 s.width)
   have hln : (X ++ [s]).length = n + 1 := by rw [List.length_append, hl]; rfl
   refine ⟨cells3_length _, .inr ⟨g, cap, _, by rw [hln], hB, s3, by omega, hmax, by simpa using hsz, ?_⟩⟩
   rw [hln, show (n + 1) * 3 = n * 3 + 3 by omega]
   rw [← cells3_append, ← htake, hl]
   simp only [Array.toList_setIfInBounds]
   rw [take_set3 _ _ _ _ _ (by simpa using hcs)]
   rfl
theorem IsRows.tail {w : World} {g o n : Nat} {x : R} {Y : List R} (h : IsRows w (some ⟨g, o, none⟩) (n + 1) (x :: Y)) (hn : 0 < n) : IsRows w (some ⟨g, o + 3, none⟩) n Y := by
 obtain ⟨h1, h2, h0 | ⟨b, o', e, hlt, hc⟩⟩ := h
 ·omega
 ·injection e with e
  injection e with e1 e2 _
  subst e1 e2
  refine ⟨by simpa using h1, fun r hr => h2 r (List.mem_cons_of_mem _ hr), .inr ⟨g, o + 3, rfl, hlt, fun t ht => ?_⟩⟩
  have := hc (t + 1) (by omega)
  rw [show o + (t + 1) * 3 = o + 3 + t * 3 by omega] at this
  simpa using this
theorem IsRows.at {w : World} {a : Option Addr} {len : Nat} {L : List R} (h : IsRows w a len L) {t : Nat} (ht : t < len) : ∃ b o : Nat, a = some ⟨b, o, none⟩ ∧ b < w.heap.size ∧ RowAt w b (o + t * 3) (L.getD t R.zero) := by
 obtain ⟨-, -, h0 | ⟨b, o, e, hb, hc⟩⟩ := h
 ·omega
 ·exact ⟨b, o, e, hb, hc t ht⟩
end Go.Proofs.Ytpnbnbhifpcelaa
/- Shapes of records: their leaves one behind the other (numbers, truth values, slices); an element of a slice, and what a change of it leaves; no function of program or reference is walked here. -/
namespace Go.Proofs.Ytpnbnbhifpcelaa
open Go.RowKit
def I64 (x : Int) : Prop := -9223372036854775808 ≤ x ∧ x ≤ 9223372036854775807
def endRep : Rep Unit where
 H := Unit
 size := 0
 cells := fun _ _ => []
 inn := fun _ _ _ => True
 own := fun _ _ _ _ F => F = []
 len := fun _ _ => rfl
 inn_keep := fun h _ => h
 own_inn := fun _ => trivial
 own_lt := fun h y hy => by rw [h] at hy; cases hy
 own_stay := fun h _ => h
 own_apart := fun h => by rw [h]; exact List.Pairwise.nil
 own_mono := fun h _ => h
def intAnd {β : Type} (s : Rep β) : Rep (Int × β) where
 H := s.H
 size := s.size + 1
 cells := fun x h => .int .i64 x.1 :: s.cells x.2 h
 inn := fun w x h => I64 x.1 ∧ s.inn w x.2 h
 own := fun w B x h F => I64 x.1 ∧ s.own w B x.2 h F
 len := fun x h => by rw [List.length_cons, s.len]
 inn_keep := fun h hb => ⟨h.1, s.inn_keep h.2 hb⟩
 own_inn := fun h => ⟨h.1, s.own_inn h.2⟩
 own_lt := fun h => s.own_lt h.2
 own_stay := fun h hs => ⟨h.1, s.own_stay h.2 hs⟩
 own_apart := fun h => s.own_apart h.2
 own_mono := fun h hb => ⟨h.1, s.own_mono h.2 hb⟩
def boolAnd {β : Type} (s : Rep β) : Rep (Bool × β) where
 H := s.H
 size := s.size + 1
 cells := fun x h => .bool x.1 :: s.cells x.2 h
 inn := fun w x h => s.inn w x.2 h
 own := fun w B x h F => s.own w B x.2 h F
 len := fun x h => by rw [List.length_cons, s.len]
 inn_keep := fun h hb => s.inn_keep h hb
 own_inn := fun h => s.own_inn h
 own_lt := fun h => s.own_lt h
 own_stay := fun h hs => s.own_stay h hs
 own_apart := fun h => s.own_apart h
 own_mono := fun h hb => s.own_mono h hb
def seqAnd {α β : Type} (r : Rep α) (s : Rep β) : Rep (List α × β) where
 H := (Option Addr × Nat × Nat) × s.H
 size := s.size + 1
 cells := fun x h => .slice h.1.1 h.1.2.1 h.1.2.2 :: s.cells x.2 h.2
 inn := fun w x h => (seqRep r).inn w x.1 h.1 ∧ s.inn w x.2 h.2
 own := fun w B x h F => ∃ F1 F2, F = F1 ++ F2 ∧ (seqRep r).own w B x.1 h.1 F1 ∧ s.own w B x.2 h.2 F2 ∧ ∀ a ∈ F1, ∀ b ∈ F2, a.apart b
 len := fun x h => by rw [List.length_cons, s.len]
 inn_keep := fun h hb => ⟨(seqRep r).inn_keep h.1 hb, s.inn_keep h.2 hb⟩
 own_inn := fun ⟨_, _, _, h1, h2, _⟩ => ⟨(seqRep r).own_inn h1, s.own_inn h2⟩
 own_lt := fun ⟨_, _, e, h1, h2, _⟩ y hy => by
  rw [e] at hy
  exact (List.mem_append.1 hy).elim ((seqRep r).own_lt h1 y) (s.own_lt h2 y)
 own_stay := fun ⟨F1, F2, e, h1, h2, h3⟩ hs => by
  subst e
  exact ⟨F1, F2, rfl, (seqRep r).own_stay h1 (hs.sub fun y hy => List.mem_append_left _ hy), s.own_stay h2 (hs.sub fun y hy => List.mem_append_right _ hy), h3⟩
 own_apart := fun ⟨F1, F2, e, h1, h2, h3⟩ => by
  subst e
  exact List.pairwise_append.2 ⟨(seqRep r).own_apart h1, s.own_apart h2, h3⟩
 own_mono := fun ⟨F1, F2, e, h1, h2, h3⟩ hb => ⟨F1, F2, e, (seqRep r).own_mono h1 hb, s.own_mono h2 hb, h3⟩
def viaRep {α β : Type} (f : α → β) (r : Rep β) : Rep α where
 H := r.H
 size := r.size
 cells := fun x h => r.cells (f x) h
 inn := fun w x h => r.inn w (f x) h
 own := fun w B x h F => r.own w B (f x) h F
 len := fun x h => r.len (f x) h
 inn_keep := fun h hb => r.inn_keep h hb
 own_inn := fun h => r.own_inn h
 own_lt := fun h => r.own_lt h
 own_stay := fun h hs => r.own_stay h hs
 own_apart := fun h => r.own_apart h
 own_mono := fun h hb => r.own_mono h hb
theorem OnlyAt.within {F G : List Reg} {a b : World} (h : OnlyAt F a b) (hs : ∀ r ∈ F, ∃ s ∈ G, s.b = r.b ∧ s.lo ≤ r.lo ∧ r.hi ≤ s.hi) : OnlyAt G a b :=
 ⟨h.os, h.tape, h.output, h.size,
  fun i hi hne => h.block i hi fun r hr e => by obtain ⟨s, hs, e1, -, -⟩ := hs r hr; exact hne s hs (e1.trans e),
  fun i j hi hne => h.cell i j hi fun r hr e => by
   obtain ⟨s, hs, e1, h1, h2⟩ := hs r hr
   rcases hne s hs (e1.trans e) with h3 | h3
   ·left; omega
   ·right; omega,
  h.frozen⟩
theorem Reg.apart_within {x y z : Reg} (h : x.apart y) (hb : z.b = x.b) (h1 : x.lo ≤ z.lo) (h2 : z.hi ≤ x.hi) : z.apart y := by
 rcases h with h | h | h
 ·exact .inl fun e => h (hb.symm.trans e)
 ·exact .inr (.inl (by omega))
 ·exact .inr (.inr (by omega))
theorem SeqOwn.el {α : Type} {r : Rep α} {w : World} {B : Nat} {a : Option Addr} {n : Nat} {xs : List α} {F : List Reg} (h : SeqOwn r w B a n xs F) {t : Nat} {x : α} (ht : xs[t]? = some x) :
  ∃ (b o : Nat) (hd : r.H) (G : List Reg), a = some ⟨b, o, none⟩ ∧ B ≤ b ∧ b < w.heap.size ∧ CellsAt w b (o + t * r.size) (r.cells x hd) ∧ (∀ j, j < r.size → w.frozen? ⟨b, o + t * r.size + j, none⟩ = false) ∧ r.own w B x hd G ∧
   (∀ y ∈ G, Reg.apart ⟨b, o + t * r.size, o + t * r.size + r.size⟩ y) ∧
   ∀ w' x', OnlyAt (⟨b, o + t * r.size, o + t * r.size + r.size⟩ :: G) w w' → CellsAt w' b (o + t * r.size) (r.cells x' hd) → r.own w' B x' hd G → SeqOwn r w' B a n (xs.set t x') F ∧ ∀ w0, OnlyAt F w0 w → OnlyAt F w0 w' := by
 have htl := idx_lt ht
 obtain ⟨h1, hm, ⟨h0, -⟩ | ⟨b, o, hs, Fs, rfl, hB, hlt, rfl, hp, hf, hx⟩⟩ := h
 ·omega
 ·have htn : t < n := by omega
  have hle := at_le (s := r.size) htn
  have hsub : ∀ y ∈ Fs t, y ∈ (⟨b, o, o + n * r.size⟩ : Reg) :: (List.range n).flatMap Fs := fun y hy => List.mem_cons_of_mem _ (List.mem_flatMap.2 ⟨t, List.mem_range.2 htn, hy⟩)
  have hhead : ∀ s, s < n → ∀ y ∈ Fs s, (⟨b, o, o + n * r.size⟩ : Reg).apart y := fun s hs y hy => (List.pairwise_cons.1 hp).1 y (List.mem_flatMap.2 ⟨s, List.mem_range.2 hs, hy⟩)
  refine ⟨b, o, hs t, Fs t, rfl, hB, hlt, (hx t x ht).1, fun j hj => hf _ (by omega) (by omega), (hx t x ht).2, fun y hy => Reg.apart_within (hhead t htn y hy) rfl (by simp only; omega) (by simp only; omega), fun w' x' ho hce hown => ⟨?_, fun w0 h0 => h0.trans (ho.within ?_)⟩⟩
  ·refine ⟨by rw [List.length_set]; exact h1, hm, .inr ⟨b, o, hs, Fs, rfl, hB, Nat.lt_of_lt_of_le hlt ho.size, rfl, hp, fun j ha hb => (ho.frozen b j hlt).trans (hf j ha hb), fun s y hy => ?_⟩⟩
   have hsn : s < n := by have := idx_lt hy; rw [List.length_set] at this; omega
   have hles := at_le (s := r.size) hsn
   by_cases hst' : s = t
   ·subst hst'
    rw [List.getElem?_set_self htl] at hy
    obtain rfl := Option.some.inj hy
    exact ⟨hce, hown⟩
   ·rw [List.getElem?_set_ne (fun e => hst' e.symm)] at hy
    have hord : s * r.size + r.size ≤ t * r.size ∨ t * r.size + r.size ≤ s * r.size := by
     rcases Nat.lt_or_gt_of_ne hst' with h2 | h2
     ·exact .inl (at_le h2)
     ·exact .inr (at_le h2)
    refine ⟨fun j u hj => ?_, r.own_stay (hx s y hy).2 (Stay.of_only ho (fun p hp' q hq => ?_) fun q hq => (r.own_lt (hx s y hy).2 q hq).2)⟩
    ·have hjl : j < r.size := by rw [← r.len y (hs s)]; exact idx_lt hj
     refine (ho.cell b (o + s * r.size + j) hlt fun z hz e => ?_).trans ((hx s y hy).1 j u hj)
     rcases List.mem_cons.1 hz with rfl | hz
     ·simp only
      omega
     ·have hap := hhead t htn z hz
      rcases hap with hn | hn | hn
      ·exact absurd e.symm hn
      ·simp only at hn; left; omega
      ·simp only at hn; right; omega
    ·rcases List.mem_cons.1 hp' with rfl | hp'
     ·exact Reg.apart_within (hhead s hsn q hq) rfl (by simp only; omega) (by simp only; omega)
     ·have hpw := (List.pairwise_cons.1 hp).2
      rw [List.pairwise_flatMap] at hpw
      have hr := hpw.2
      rcases Nat.lt_or_gt_of_ne hst' with h2 | h2
      ·exact Reg.apart_symm ((List.pairwise_iff_getElem.1 hr) s t (by simpa using hsn) (by simpa using htn) h2 q (by simpa using hq) p (by simpa using hp'))
      ·exact (List.pairwise_iff_getElem.1 hr) t s (by simpa using htn) (by simpa using hsn) h2 p (by simpa using hp') q (by simpa using hq)
  ·intro z hz
   rcases List.mem_cons.1 hz with rfl | hz
   ·exact ⟨_, List.mem_cons_self .., rfl, by simp only; omega, by simp only; omega⟩
   ·exact ⟨z, hsub z hz, rfl, Nat.le_refl _, Nat.le_refl _⟩
theorem SeqIn.el {α : Type} {r : Rep α} {w : World} {a : Option Addr} {n : Nat} {xs : List α} (h : SeqIn r w a n xs) {t : Nat} {x : α} (ht : xs[t]? = some x) :
  ∃ (b o : Nat) (hd : r.H), a = some ⟨b, o, none⟩ ∧ b < w.heap.size ∧ CellsAt w b (o + t * r.size) (r.cells x hd) ∧ r.inn w x hd := by
 have htl := idx_lt ht
 obtain ⟨h1, -, h0 | ⟨b, o, rfl, hlt, hs, hx⟩⟩ := h
 ·omega
 ·exact ⟨b, o, hs t, rfl, hlt, (hx t x ht).1, (hx t x ht).2⟩
/-! ### The laws' counters and sizes -/
structure Mk (α : Type) where
 mark : Int → α → α
 cnt : α → Nat
 cnt_mark : ∀ q x, cnt (mark q x) = cnt x
def mkAll {α : Type} (m : Mk α) : Int → List α → List α
 | _, [] => []
 | q, x :: xs => m.mark q x :: mkAll m (q + m.cnt x) xs
def cntAll {α : Type} (m : Mk α) (xs : List α) : Nat := (xs.map m.cnt).sum
theorem cntAll_cons {α : Type} (m : Mk α) (x : α) (xs : List α) : cntAll m (x :: xs) = m.cnt x + cntAll m xs := rfl
theorem cntAll_append {α : Type} (m : Mk α) (xs ys : List α) : cntAll m (xs ++ ys) = cntAll m xs + cntAll m ys := by simp [cntAll]
theorem mkAll_length {α : Type} (m : Mk α) : ∀ (q : Int) (xs : List α), (mkAll m q xs).length = xs.length
 | _, [] => rfl
 | q, x :: xs => by rw [mkAll, List.length_cons, mkAll_length m _ xs, List.length_cons]
theorem cnt_mkAll {α : Type} (m : Mk α) : ∀ (q : Int) (xs : List α), cntAll m (mkAll m q xs) = cntAll m xs
 | _, [] => rfl
 | q, x :: xs => by rw [mkAll, cntAll_cons, cntAll_cons, m.cnt_mark, cnt_mkAll m _ xs]
theorem mkAll_append {α : Type} (m : Mk α) : ∀ (q : Int) (xs ys : List α), mkAll m q (xs ++ ys) = mkAll m q xs ++ mkAll m (q + cntAll m xs) ys
 | q, [], ys => by simp [mkAll, cntAll]
 | q, x :: xs, ys => by
  rw [List.cons_append, mkAll, mkAll_append m _ xs ys, mkAll, List.cons_append, cntAll_cons]
  congr 3
  push_cast
  omega
theorem cntAll_next {α : Type} (m : Mk α) (xs : List α) (t : Nat) (ht : t < xs.length) : cntAll m (xs.take (t + 1)) = cntAll m (xs.take t) + m.cnt xs[t] := by
 rw [List.take_succ_eq_append_getElem ht, cntAll_append]; rfl
theorem cntAll_take {α : Type} (m : Mk α) (xs : List α) (t : Nat) : cntAll m (xs.take t) ≤ cntAll m xs := by
 have := congrArg (cntAll m) (List.take_append_drop t xs)
 rw [cntAll_append] at this
 omega
theorem mkAll_next {α : Type} (m : Mk α) (q : Int) (xs : List α) (t : Nat) (ht : t < xs.length) : (mkAll m q (xs.take t) ++ xs.drop t).set t (m.mark (q + cntAll m (xs.take t)) xs[t]) = mkAll m q (xs.take (t + 1)) ++ xs.drop (t + 1) := by
 have hl : (mkAll m q (xs.take t)).length = t := by rw [mkAll_length, List.length_take]; omega
 rw [List.take_succ_eq_append_getElem ht, mkAll_append, List.set_append_right _ _ (by omega), hl, Nat.sub_self, List.drop_eq_getElem_cons ht, List.set_cons_zero]
 simp [mkAll]
theorem mkAll_get {α : Type} (m : Mk α) (q : Int) (xs : List α) (t : Nat) (ht : t < xs.length) : (mkAll m q xs)[t]? = some (m.mark (q + cntAll m (xs.take t)) xs[t]) := by
 have e : xs = xs.take t ++ xs[t] :: xs.drop (t + 1) := by rw [← List.drop_eq_getElem_cons ht, List.take_append_drop]
 have hl : (mkAll m q (xs.take t)).length = t := by rw [mkAll_length, List.length_take]; omega
 rw [show mkAll m q xs = mkAll m q (xs.take t ++ xs[t] :: xs.drop (t + 1)) from congrArg _ e, mkAll_append, List.getElem?_append_right (by omega), hl, Nat.sub_self]
 rfl
theorem mkAll_at {α : Type} (m : Mk α) (q : Int) (xs : List α) (t : Nat) (ht : t < xs.length) : (mkAll m q (xs.take t) ++ xs.drop t)[t]? = some xs[t] := by
 have hl : (mkAll m q (xs.take t)).length = t := by rw [mkAll_length, List.length_take]; omega
 rw [List.getElem?_append_right (by omega), hl, Nat.sub_self, List.drop_eq_getElem_cons ht]
 rfl
def seqMk {α : Type} (m : Mk α) : Mk (List α) := ⟨mkAll m, cntAll m, cnt_mkAll m⟩
def rowsMk : Mk (List R) := ⟨fun q L => marked L.length q, fun L => 3 * L.length, fun q L => by rw [marked_length]⟩
def wtAll {α : Type} (f : α → Nat) (xs : List α) : Nat := xs.length + (xs.map f).sum
theorem wtAll_cons {α : Type} (f : α → Nat) (x : α) (xs : List α) : wtAll f (x :: xs) = 1 + f x + wtAll f xs := by
 unfold wtAll
 rw [List.length_cons, List.map_cons, List.sum_cons]
 omega
theorem sum_take {α : Type} (f : α → Nat) (xs : List α) (t : Nat) : ((xs.take t).map f).sum ≤ (xs.map f).sum := by
 have := congrArg (fun l => (l.map f).sum) (List.take_append_drop t xs)
 simp only [List.map_append, List.sum_append] at this
 omega
theorem sum_next {α : Type} (f : α → Nat) (xs : List α) (t : Nat) (ht : t < xs.length) : ((xs.take (t + 1)).map f).sum = ((xs.take t).map f).sum + f xs[t] := by
 rw [List.take_succ_eq_append_getElem ht, List.map_append, List.sum_append]; simp
theorem wtAll_at {α : Type} (f : α → Nat) (xs : List α) (t : Nat) (ht : t < xs.length) : f xs[t] ≤ wtAll f xs := by
 have h1 := sum_next f xs t ht
 have h2 := sum_take f xs (t + 1)
 unfold wtAll
 omega
theorem wtAll_len {α : Type} (f : α → Nat) (xs : List α) : xs.length ≤ wtAll f xs := Nat.le_add_right _ _
theorem cntAll_le {α : Type} (m : Mk α) (f : α → Nat) (h : ∀ x, m.cnt x ≤ 64 * (f x + 1)) (xs : List α) : cntAll m xs ≤ 64 * wtAll f xs := by
 induction xs with
 | nil => exact Nat.zero_le _
 | cons x xs ih =>
  have := h x
  rw [cntAll_cons, wtAll_cons]
  omega
theorem mk_room {α : Type} (m : Mk α) (f : α → Nat) (h : ∀ x, m.cnt x ≤ 64 * (f x + 1)) (xs : List α) (t : Nat) (ht : t < xs.length) : cntAll m (xs.take t) + 64 * (f xs[t] + 1) ≤ 64 * wtAll f xs := by
 have h1 := cntAll_le m f h (xs.take t)
 have h2 := sum_next f xs t ht
 have h3 := sum_take f xs (t + 1)
 have h4 : (xs.take t).length = t := by rw [List.length_take]; omega
 unfold wtAll at h1 ⊢
 omega
end Go.Proofs.Ytpnbnbhifpcelaa
/- States told by trees: the laws' marks, element by element; no function of program or reference is walked here. -/
namespace Go.Proofs.Ytpnbnbhifpcelaa
open Go Go.RowKit V
set_option linter.unusedVariables false
def mkL {α β : Type} (m : Mk α) (f : α → β) (q : Int) (X : List α) (t : Nat) : List β := (mkAll m q (X.take t) ++ X.drop t).map f
variable {α β : Type} {m : Mk α} {f : α → β} {q : Int} {X : List α} {t : Nat}
theorem mkL_zero : mkL m f q X 0 = X.map f := by simp [mkL, mkAll]
theorem mkL_all (h : ¬ t < X.length) : mkL m f q X t = (mkAll m q X).map f := by
 rw [mkL, List.take_of_length_le (by omega), List.drop_eq_nil_of_le (by omega), List.append_nil]
theorem mkL_len (h : t ≤ X.length) : (mkL m f q X t).length = X.length := by
 rw [mkL, List.length_map, List.length_append, mkAll_length, List.length_take, List.length_drop]; omega
theorem mkL_at (h : t < X.length) : (mkL m f q X t)[t]? = some (f X[t]) := by
 rw [mkL, List.getElem?_map, mkAll_at m q X t h]; rfl
theorem mkL_lt (h : t < X.length) : t < (mkL m f q X t).length := by rw [mkL_len (Nat.le_of_lt h)]; exact h
theorem mkL_next (h : t < X.length) : (mkL m f q X t).set t (f (m.mark (q + cntAll m (X.take t)) X[t])) = mkL m f q X (t + 1) := by
 rw [mkL, mkL, ← List.map_set, mkAll_next m q X t h]
theorem set_self {γ : Type} {l : List γ} {k : Nat} {x : γ} (h : k < l.length) : (l.set k x)[k]? = some x := List.getElem?_set_self h
theorem set_twice {γ : Type} {l : List γ} {k : Nat} {x y z : γ} (h : y = z) : (l.set k x).set k y = l.set k z := by rw [List.set_set, h]
def rowMk : Mk R := ⟨fun q _ => ⟨q, q + 1, q + 1 + 1⟩, fun _ => 3, fun _ _ => rfl⟩
theorem rows_cnt (X : List R) : cntAll rowMk X = 3 * X.length := by
 induction X with
 | nil => rfl
 | cons x xs ih => rw [cntAll_cons, ih, List.length_cons]; show 3 + _ = _; omega
def toL {α β : Type} (f : α → β) (z : β) (X : List α) (t : Nat) : List β := (X.take t).map f ++ List.replicate (X.length - t) z
section
variable {α β : Type} {f : α → β} {z : β} {X : List α} {t : Nat}
theorem toL_zero : toL f z X 0 = List.replicate X.length z := by simp [toL]
theorem toL_all (h : ¬ t < X.length) : toL f z X t = X.map f := by
 rw [toL, List.take_of_length_le (by omega), show X.length - t = 0 by omega]; simp
theorem toL_at (h : t < X.length) : (toL f z X t)[t]? = some z := by
 rw [toL, List.getElem?_append_right (by simp; omega)]
 simp [List.getElem?_replicate, List.length_take]
 omega
theorem toL_next (h : t < X.length) : (toL f z X t).set t (f X[t]) = toL f z X (t + 1) := by
 have hl : ((X.take t).map f).length = t := by rw [List.length_map, List.length_take]; omega
 rw [toL, List.set_append_right _ _ (by omega), hl, Nat.sub_self, toL, List.take_succ_eq_append_getElem h, List.map_append, List.append_assoc]
 rw [show X.length - t = (X.length - (t + 1)) + 1 by omega, List.replicate_succ, List.set_cons_zero]
 rfl
end
theorem marked_eq (X : List R) (q : Int) : rowsMk.mark q X = mkAll rowMk q X := by
 show marked X.length q = _
 induction X generalizing q with
 | nil => rfl
 | cons x xs ih =>
  have h := ih (q + 3)
  rw [mkAll, show q + ((rowMk.cnt x : Nat) : Int) = q + 3 from rfl, ← h]
  simp only [marked, List.length_cons, List.range_succ_eq_map, List.map_cons, List.map_map]
  refine List.cons_eq_cons.2 ⟨?_, List.map_congr_left fun t _ => ?_⟩
  ·show (⟨_, _, _⟩ : R) = ⟨_, _, _⟩
   congr 1 <;> first | (simp; done) | (simp; omega)
  ·show (⟨_, _, _⟩ : R) = ⟨_, _, _⟩
   congr 1 <;> (push_cast; omega)
theorem rows_cnt' (X : List R) : rowsMk.cnt X = cntAll rowMk X := (rows_cnt X).symm
end Go.Proofs.Ytpnbnbhifpcelaa
/- States told by trees: loops whose states are told by what changes (the rest stands as at the loop's beginning); calls by contracts of plain values. -/
namespace Go.Proofs.Ytpnbnbhifpcelaa.V
open Go Go.RowKit
set_option linter.unusedVariables false
variable {P : Program} {E : Env} {N nb : Nat} {σ σ' τ : VS} {o : Oper} {a : Act} {w : World} {G : Ghost} {Q : Exit → Act → World → Prop} {K : Act → World → Prop}
def VS.tree (σ : VS) (i : Nat) : T := match σ.ob i with
 | some p => p.2
 | none => .any
def VS.lf (σ : VS) (d j : Nat) : Leaf := match (σ.tm d).cs with
 | p :: _ => p.2.getD j .dead
 | [] => .dead
def VS.bl (σ : VS) (b j : Nat) : Leaf := match σ.bs[b]? with
 | some p => p.2.getD j .dead
 | none => .dead
theorem SV.loopF {c : Go.Code} {X : Type} (I : VS → X → VS) (Inv : X → Prop) (μ : X → Nat) (h0 : SV E N σ fun a w => ∃ x, Inv x ∧ ∃ G, Rel E N (I σ x) a w G)
  (round : ∀ x, Inv x → SV E N (I σ x) (c.wp P (Exit.then (fun a w => ∃ x', (Inv x' ∧ μ x' < μ x) ∧ ∃ G, Rel E N (I σ x') a w G) Q))) : SV E N σ ((Code.loop c).wp P Q) := SV.loop (I σ) Inv μ h0 round
theorem V.le.keep {ρ : Nat → Nat} {ag : Bool} {xs ys : List Leaf} {v v' : V} (h : v = V.flat ag xs) (h' : v' = V.flat ag ys) (l : leafs σ τ ρ xs ys) : V.le σ τ ρ v v' := .inr ⟨ag, xs, ys, h, h', l⟩
theorem SV.sub {ρ : Nat → Nat} (hp : E.nl ≤ τ.nx ∧ (∀ i, i < E.nl → ρ i = i) ∧ ∀ c, E.pin = some c → 0 < τ.bs.length) (l : VS.le σ τ ρ) (k : SV E N τ K) : SV E N σ K := fun a w G h => by
 obtain ⟨G', h'⟩ := h.weaken hp l
 exact k a w G' h'
theorem SV.nlsc {s kk n : Nat} {ty : TypeId} (hk : σ.nx = kk) (hs : σ.tm s = V.one (.sc (.slice none 0 0))) (hp : 0 < n) (hz : Sz ty n) (hN : s < N) (k : SV E N ((σ.new (.seq ty [])).put s (V.one (.hd kk))) K) : SV E N σ K := fun a w G h => by
 subst hk
 have h1 := h.tmps s
 rw [hs, vone] at h1
 have h2 : a.tmps.getD s undef = .slice none 0 0 := h1.1
 obtain ⟨G', k1, k2, -, -⟩ := h.newnil hp hz
 have k3 := k1.put (d := s) (v := V.one (.hd σ.nx)) (u := a.tmps.getD s undef) hN (vone.2 ⟨⟨Nat.lt_succ_self _, by rw [h2, k2]⟩, .inr (by rw [h2]; rfl)⟩)
 have e : a.put (some s) (a.tmps.getD s undef) = a := by
  have hs' : s < a.tmps.size := by rw [h.nsz]; exact hN
  cases a with
  | mk tmps defers =>
   have : tmps.setIfInBounds s (tmps.getD s undef) = tmps := by
    apply Array.ext_getElem?
    intro i
    rw [Array.getElem?_setIfInBounds]
    split
    ·rename_i hi; subst hi
     simp at hs'
     simp [hs']
    ·rfl
   show Act.mk _ _ = _
   rw [this]
 rw [e] at k3
 exact k a w G' k3
def isLit : T → Bool
 | .lit _ => true
 | _ => false
theorem flat_of {α : Type} {f : α → List T} (h : ∀ x, (f x).all isLit = true) (X : List α) : Flat (X.map f) := fun k e j t h1 h2 => by
 rw [List.getElem?_map] at h1
 obtain ⟨x, -, rfl⟩ := Option.map_eq_some_iff.1 h1
 have := List.all_eq_true.1 (h x) t (get_mem h2)
 cases t with
 | lit u => exact ⟨u, rfl⟩
 | any => cases this
 | seq ty es => cases this
/-! ### A literal of scalars -/
def VS.scs (σ : VS) : List Operand → List Value → Prop
 | [], [] => True
 | x :: xs, u :: us => σ.ev x = V.one (.sc u) ∧ σ.scs xs us
 | _, _ => False
theorem Rel.scs (h : Rel E N σ a w G) : ∀ {xs : List Operand} {us : List Value}, σ.scs xs us → xs.map a.eval = us ∧ ∀ u ∈ us, u.oneCell' = true
 | [], [], _ => ⟨rfl, fun u hu => by cases hu⟩
 | x :: xs, u :: us, hx => by
  obtain ⟨h1, h2⟩ := h.scs hx.2
  have h3 := h.ev x
  rw [hx.1, vone] at h3
  have h4 : a.eval x = u := h3.1
  refine ⟨by rw [List.map_cons, h1, h4], fun v hv => ?_⟩
  rcases List.mem_cons.1 hv with rfl | hv
  ·rcases h3.2 with h5 | h5
   ·cases h5
   ·rwa [h4] at h5
  ·exact h2 v hv
theorem parts_eval {xs : List Operand} : ∀ (i : Nat), ((xs.zipIdx i).map fun x => (x.2, x.1)).map (fun (i, x) => (i, a.eval x)) = ((xs.map a.eval).zipIdx i).map fun x => (x.2, x.1) := by
 induction xs with
 | nil => intro i; rfl
 | cons x xs ih => intro i; simp only [List.zipIdx_cons, List.map_cons, ih]
/-! ### Contracts of plain values -/
theorem inn_lit {ok : Nat → Prop} {u v : Value} (h : Inn ok w (.lit u) v) : v = u := by
 cases h
 rfl
theorem args_plain {w : World} {ins : List (Bool × List Value)} {vs : List Value} (hv : ArgsIn (Env.of w) w (ins.map fun p => (p.1, p.2.map T.lit)) vs) : vs = ins.map fun p => cval p.1 p.2 := by
 obtain ⟨hl, ha⟩ := hv
 rw [List.length_map] at hl
 apply List.ext_getElem?
 intro c
 rcases Nat.lt_or_ge c ins.length with hc | hc
 ·have hcv : vs[c]? = some vs[c] := List.getElem?_eq_getElem (by omega)
  obtain ⟨us, h2, h3, h4⟩ := ha c ins[c].1 (ins[c].2.map T.lit) vs[c] (by rw [List.getElem?_map, List.getElem?_eq_getElem hc]; rfl) hcv
  have h5 : us = ins[c].2 := by
   rw [List.length_map] at h3
   apply List.ext_getElem?
   intro j
   rcases Nat.lt_or_ge j us.length with hj | hj
   ·have := h4 j (T.lit ins[c].2[j]) us[j] (by rw [List.getElem?_map, List.getElem?_eq_getElem (by omega)]; rfl) (List.getElem?_eq_getElem hj)
    rw [List.getElem?_eq_getElem hj, List.getElem?_eq_getElem (by omega), inn_lit this]
   ·rw [List.getElem?_eq_none hj, List.getElem?_eq_none (by omega)]
  rw [hcv, List.getElem?_map, List.getElem?_eq_getElem hc, h2, h5]; rfl
 ·rw [List.getElem?_eq_none (by omega), List.getElem?_eq_none (by simpa using hc)]
theorem gives_plain {w w' : World} {e : Ending} {ag : Bool} {rs : List Value} (h1 : ∀ u ∈ rs, u.oneCell' = true) (he : e = .returned (cval ag rs)) (hb : Below w.heap.size w w') : Gives (Env.of w) false [(ag, rs.map T.lit)] e w' := by
 refine ⟨[rs], fun _ _ _ => False, rfl, by rw [he]; rfl, fun c ag' ts us hc hu => ?_, fun c j c' j' b hb => hb.elim, fun c j b hb => hb.elim, .of_below hb⟩
 cases c with
 | zero =>
  cases hc; cases hu
  refine ⟨by simp, fun j t u hj hu => ?_⟩
  rw [List.getElem?_map, hu] at hj
  cases hj
  exact .lit (h1 u (get_mem hu))
 | succ c => simp at hc
theorem VC.plainAt {f : FuncId} {ins : List (Bool × List Value)} {ag : Bool} {rs : List Value} (h1 : ∀ u ∈ rs, u.oneCell' = true) {w : World} (h : Calls P f (ins.map fun p => cval p.1 p.2).toArray w fun e w' => e = .returned (cval ag rs) ∧ Below w.heap.size w w') (vs : List Value) (hv : ArgsIn (Env.of w) w (ins.map fun p => (p.1, p.2.map T.lit)) vs) : Calls P f vs.toArray w (Gives (Env.of w) false [(ag, rs.map T.lit)]) := by
 rw [args_plain hv]
 exact h.mono fun e w' ⟨he, hb⟩ => gives_plain h1 he hb
theorem VC.plain {f : FuncId} {ins : List (Bool × List Value)} {ag : Bool} {rs : List Value} (h1 : ∀ u ∈ rs, u.oneCell' = true) (h : ∀ w, Calls P f (ins.map fun p => cval p.1 p.2).toArray w fun e w' => e = .returned (cval ag rs) ∧ Below w.heap.size w w') : VC P f (ins.map fun p => (p.1, p.2.map T.lit)) false [(ag, rs.map T.lit)] := fun w => VC.plainAt h1 (h w)
/-! ### Contracts in worlds of a class -/
def VCP (Φ : World → Prop) (P : Program) (f : FuncId) (ins : List (Bool × List T)) (tup : Bool) (rs : List (Bool × List T)) : Prop := ∀ (w : World), Φ w → ∀ (vs : List Value), ArgsIn (Env.of w) w ins vs → Calls P f vs.toArray w (Gives (Env.of w) tup rs)
def Env.keeps (E : Env) (Φ : World → Prop) : Prop := Φ E.w0 ∧ (∀ b, ¬ E.ln b) ∧ ∀ w', Below E.B E.w0 w' → Φ w'
theorem Env.keeps.at {Φ : World → Prop} (h : E.keeps Φ) (hs : Same E E.w0 w) : Φ w := h.2.2 w ⟨hs.os, hs.tape, hs.output, hs.size, fun b hb => hs.block b ⟨hb, h.2.1 b⟩⟩
theorem VCP.enter {Φ : World → Prop} (hΦ : ∀ w w', Φ w → Below w.heap.size w w' → Φ w') {f : FuncId} {fn : Func} {c : Go.Code} {n : Nat} {ins rs : List (Bool × List T)} {tup : Bool} (hf : P.funcs[f]? = some fn) (hb : fn.body = some c) (hn : fn.ntmps = n) (hl : ins.length ≤ n)
  (h : ∀ E, E.plain 0 → E.keeps Φ → SV E n (VS.init (ins.map fun p => V.flat p.1 (p.2.map argLeaf))) (c.wp P (bodyPost P fn (Gives E tup rs)))) : VCP Φ P f ins tup rs := fun w hT vs hv => by
 refine calls_of_wp hf hb ?_
 obtain ⟨G, hG⟩ := init_rel (E := Env.of w) ⟨rfl, rfl⟩ (n := n) hv (by rw [hv.1]; exact hl)
 have := h (Env.of w) ⟨rfl, rfl⟩ ⟨hT, fun b hb => hb.elim, fun w' hb => hΦ w w' hT hb⟩ _ _ G hG
 rw [hn]
 have e : (Env.of w).w0 = w := rfl
 rw [e] at this
 simpa using this
theorem VCP.law {Φ : World → Prop} {f : FuncId} {ins : List (Bool × List T)} (h : VCP Φ P f ins false [(false, [.lit (.bool true)])]) {w : World} (hT : Φ w) {vs : List Value} (hv : ArgsIn (Env.of w) w ins vs) : Calls P f vs.toArray w fun e w' => e = .returned (.bool true) ∧ Below w.heap.size w w' :=
 (h w hT vs hv).mono fun e w' hg => by
  obtain ⟨he, hs⟩ := Gives.lit hg
  exact ⟨he, ⟨hs.os, hs.tape, hs.output, hs.size, fun b hb => hs.block b ⟨hb, fun h => h.elim⟩⟩⟩
end Go.Proofs.Ytpnbnbhifpcelaa.V
/- What a call gives: a slice in memory of its own; stretches that are apart; no function of program or reference is walked here. -/
namespace Go.Proofs.Ytpnbnbhifpcelaa
open Go.RowKit
theorem Stay.set {F : List Reg} {w w' : World} (h : Stay F w w') {g i : Nat} (u : Value) (hne : ∀ y ∈ F, y.b ≠ g) : Stay F w (w'.setCell ⟨g, i, none⟩ u) :=
 ⟨by simpa [World.setCell] using h.size, fun y hy j h1 h2 => ⟨(World.cell?_setCell_other _ _ _ _ (fun e => by injection e with e _ _; exact hne y hy e.symm)).trans (h.cell y hy j h1 h2).1, (World.frozen?_setCell w' _ _ _).trans (h.cell y hy j h1 h2).2⟩⟩
theorem Stay.refl (F : List Reg) (w : World) : Stay F w w := ⟨Nat.le_refl _, fun _ _ _ _ _ => ⟨rfl, rfl⟩⟩
def Gives {α : Type} (r : Rep α) (xs : List α) (w : World) (e : Ending) (w' : World) : Prop :=
 ∃ (x : Option Addr) (k m : Nat) (F : List Reg), e = .returned (.slice x k m) ∧ SeqOwn r w' w.heap.size x k xs F ∧ Below w.heap.size w w'
theorem Below.marked {α : Type} {r : Rep α} {w0 w w' : World} {B n : Nat} {a : Option Addr} {xs : List α} {F : List Reg} (h : SeqOwn r w B a n xs F) (ho : OnlyAt F w w') (hb : Below w0.heap.size w0 w) (hB : w0.heap.size ≤ B) : Below w0.heap.size w0 w' :=
 hb.trans (ho.below hb.size fun y hy => Nat.le_trans hB (h.lt y hy).1)
/-! ### What is the call's own, whatever its shape -/
theorem Rep.own.lt {α : Type} {r : Rep α} {w : World} {B : Nat} {x : α} {h : r.H} {F : List Reg} (ho : r.own w B x h F) : ∀ y ∈ F, B ≤ y.b ∧ y.b < w.heap.size := r.own_lt ho
theorem Rep.own.inn {α : Type} {r : Rep α} {w : World} {B : Nat} {x : α} {h : r.H} {F : List Reg} (ho : r.own w B x h F) : r.inn w x h := r.own_inn ho
theorem Rep.own.keep {α : Type} {r : Rep α} {w w' : World} {B : Nat} {x : α} {h : r.H} {F : List Reg} (ho : r.own w B x h F) (hb : Below w.heap.size w w') : r.own w' B x h F := r.own_stay ho (Stay.of_below hb fun y hy => (r.own_lt ho y hy).2)
theorem Rep.inn.keep {α : Type} {r : Rep α} {w w' : World} {x : α} {h : r.H} (hi : r.inn w x h) (hb : Below w.heap.size w w') : r.inn w' x h := r.inn_keep hi hb
end Go.Proofs.Ytpnbnbhifpcelaa
/- What changes one block alone; no function of program or reference is walked here. -/
namespace Go.Proofs.Ytpnbnbhifpcelaa
open Go.RowKit
def Only (c : Nat) (w w' : World) : Prop := w.grownBy w' (some c)
theorem Only.refl (c : Nat) (w : World) : Only c w w := World.grownBy.refl w _
theorem Only.trans {c : Nat} {a b d : World} (h : Only c a b) (k : Only c b d) : Only c a d :=
 ⟨k.os.trans h.os, k.tape.trans h.tape, k.output.trans h.output, Nat.le_trans h.size k.size, fun i hi hne => (k.block i (Nat.lt_of_lt_of_le hi h.size) hne).trans (h.block i hi hne)⟩
theorem Only.drew {c : Nat} {a w : World} (h : Only c a w) : Only c a w.drew := ⟨h.os, h.tape, h.output, h.size, h.block⟩
theorem Only.alloc {c : Nat} {a w : World} (h : Only c a w) (o : Obj) : Only c a (w.alloc o) :=
 ⟨h.os, h.tape, h.output, Nat.le_trans h.size (by simp), fun i hi hne => (Below.heap_alloc w o i (Nat.lt_of_lt_of_le hi h.size)).trans (h.block i hi hne)⟩
theorem Only.setCell {c : Nat} {a w : World} (h : Only c a w) (i : Nat) (u : Value) : Only c a (w.setCell ⟨c, i, none⟩ u) :=
 ⟨h.os, h.tape, h.output, by simpa [World.setCell] using h.size, fun k hk hne => (Below.heap_setCell w ⟨c, i, none⟩ u k (fun e => hne (by rw [e]))).trans (h.block k hk hne)⟩
theorem Only.of_below {c : Nat} {a w : World} (h : Below a.heap.size a w) : Only c a w := ⟨h.os, h.tape, h.output, h.size, fun i hi _ => h.block i hi⟩
theorem Only.step {c : Nat} {a b d : World} (h : Only c a b) (k : Below a.heap.size b d) : Only c a d :=
 ⟨k.os.trans h.os, k.tape.trans h.tape, k.output.trans h.output, Nat.le_trans h.size k.size, fun i hi hne => (k.block i hi).trans (h.block i hi hne)⟩
theorem Only.below {c B : Nat} {a b : World} (h : Only c a b) (hB : B ≤ a.heap.size) (hc : B ≤ c) : Below B a b :=
 ⟨h.os, h.tape, h.output, h.size, fun i hi => h.block i (Nat.lt_of_lt_of_le hi hB) (fun e => by injection e with e; omega)⟩
end Go.Proofs.Ytpnbnbhifpcelaa
/- The laws' copy of a row (toRow) and comparison (eqRow), by contract. -/
namespace Go.Proofs.Ytpnbnbhifpcelaa
open Go.RowKit
end Go.Proofs.Ytpnbnbhifpcelaa
/- The laws' copy of a slice of rows (toRowS), by contract. -/
namespace Go.Proofs.Ytpnbnbhifpcelaa
open Go.RowKit
end Go.Proofs.Ytpnbnbhifpcelaa
/- The laws' marks on rows of the call's own, and what they leave alone; the sizes that the laws reckon; no function of program or reference is walked here. -/
namespace Go.Proofs.Ytpnbnbhifpcelaa
open Go.RowKit
set_option maxRecDepth 100000 in
theorem mark (B : Nat) (a : Option Addr) (len cap : Nat) (L : List R) (q : Int) (w : World) (h : Mine w B (.slice a len cap) L) (hlen : len ≤ 1000000000000) (hq0 : 0 ≤ q) (hq1 : q ≤ 10000000000000) :
  Calls Try.prog 20 #[.slice a len cap, .int .i64 q] w fun e w' => e = .returned (.int .i64 (q + 3 * len)) ∧ Mine w' B (.slice a len cap) (marked len q) ∧ w.grownBy w' (Value.slice a len cap).ownBlock := by
 have HL := Lib.hid h.len
 have HO := Lib.hid h
 clear h
 go_enter Try.func20, Try.ntmps20
 go_wp2_with fail
 go_loopw [1, 5] (fun x i wr => ∃ k : Nat, x = .int .i64 (q + 3 * k) ∧ i = .int .i64 k ∧ k ≤ len ∧ Hid (Mine wr B (.slice a len cap) (marked k q ++ L.drop k)) ∧ Hid (w.grownBy wr (Value.slice a len cap).ownBlock)) (fun _ i _ => len - (intOf i).toNat)
 case atStart => exact ⟨0, by go_num, rfl, Nat.zero_le _, (show Mine w B (.slice a len cap) (marked 0 q ++ L.drop 0) from HO.out), World.grownBy.refl _ _⟩
 case round =>
  obtain ⟨k, rfl, rfl, hk, hown, hb⟩ := hrel
  by_cases hlt : k < len
  ·obtain ⟨g, rfl, hg, hgl, hat, hfz, hset⟩ := hown.out.at hlt
   obtain ⟨x, hx⟩ : ∃ x, x = (marked k q ++ L.drop k).getD k R.zero := ⟨_, rfl⟩
   rw [← hx] at hat
   obtain ⟨c0, c1, c2⟩ := hat
   have f0 := hfz (k * 3)
   have f1 := hfz (k * 3 + 1)
   have f2 := hfz (k * 3 + 2)
   have HS := Lib.hid (hset ⟨q + 3 * k, q + 3 * k + 1, q + 3 * k + 2⟩)
   rw [marked_set len k q L HL.out hlt] at HS
   have ho : Only g w wr := hb.out
   have HB := Lib.hid ho
   clear hset hx hfz ho
   go_wp2_with fail
   have e2 : q + 3 * (k : Int) + 1 + 1 = q + 3 * (k : Int) + 2 := by omega
   rw [e2]
   clear e2
   go_roundw
   case rel => exact ⟨k + 1, by go_num, by go_num, by omega, HS.out, ((HB.out.setCell _ _).setCell _ _).setCell _ _⟩
   case measure => simp [intOf]; omega
  ·have hkl : k = len := by omega
   have hfin : Mine wr B (.slice a len cap) (marked len q) := by
    have := hown.out
    rw [hkl, List.drop_eq_nil_of_le (by rw [HL.out]; exact Nat.le_refl _), List.append_nil] at this
    exact this
   have HF := Lib.hid hfin
   have HK := Lib.hid hkl
   clear hfin hkl
   go_wp2_with fail
   go_ret
   exact ⟨by rw [← HK.out]; rfl, HF.out, hb.out⟩
theorem Mine.apart {w w' : World} {B B' s : Nat} {v v' : Value} {L L' : List R} (h : Mine w B v L) (h' : Mine w' B' v' L') (hs : w.heap.size ≤ s) (hB : s ≤ B') : ∀ k, v.ownBlock = some k → v'.ownBlock ≠ some k := fun k hk hk' => by
 have h1 := (World.ownsRow.lt h k hk).2
 have h2 := (World.ownsRow.lt h' k hk').1
 omega
theorem apart_symm {v v' : Value} (h : ∀ k, v.ownBlock = some k → v'.ownBlock ≠ some k) : ∀ k, v'.ownBlock = some k → v.ownBlock ≠ some k := fun k hk hk' => h k hk' hk
end Go.Proofs.Ytpnbnbhifpcelaa
/- Rows among the arguments of a law: a struct by value, and a slice of them: from the reading to the mathematics and back. -/
namespace Go.Proofs.Ytpnbnbhifpcelaa
open Go Go.ChangeShapes Go.WideShapes Go.RowKit Go.Deep Go.Joins
def R.dat {H : Type} (r : R) : DataW H := .agg [.lit (.int .i64 r.key), .lit (.int .i64 r.value), .lit (.int .i64 r.width)]
theorem intCells : Try.prog.cellsOf 3 = 1 := by kernel_rfl
section
variable {H : Type} {enc : TypeId × Value → H} {w : World} {base : Nat} {spare : Nat → Bool} {held : Bool}
theorem lit_wf {n : Int} (h : -9223372036854775808 ≤ n ∧ n ≤ 9223372036854775807) : (Lit.int .i64 n).wf = true := by
 have e0 : IntKind.i64.min = -9223372036854775808 := by decide
 have e1 : IntKind.i64.max = 9223372036854775807 := by decide
 simp [Lit.wf, e0, e1, h.1, h.2]
end
end Go.Proofs.Ytpnbnbhifpcelaa
/- Arguments of whatever shape: from the reading to the mathematics, by the type; no function of program or reference is walked here. -/
namespace Go.Proofs.Ytpnbnbhifpcelaa
open Go Go.ChangeShapes Go.WideShapes Go.RowKit Go.Deep Go.Joins
def Opens (T : TypeId) {α : Type} (r : Rep α) : Prop :=
 ∀ (H : Type) (enc : TypeId × Value → H) (w : World) (spare : Nat → Bool) (held : Bool) (fuel : Nat) (cs : List Value) (x : DataW H × List MemPlace), DataW.trod enc Try.prog w 0 spare held fuel T cs = some x → cs.length = r.size → ∃ (y : α) (h : r.H), cs = r.cells y h ∧ r.inn w y h
set_option maxRecDepth 100000 in
theorem Opens.seq {T e : TypeId} {α : Type} {r : Rep α} (ht : Try.prog.underlying T = some (.slice e)) (hc : Try.prog.cellsOf e = r.size) (hp : 0 < r.size) (hO : Opens e r) : Opens T (seqRep r) := by
 intro H enc w spare held fuel cs x h _
 rcases open_slice ht h with ⟨rfl, -⟩ | ⟨a, len, cap, m, n, D, Pl, rfl, -, hl, hm, hmm, -, hi⟩
 ·exact ⟨[], (none, 0, 0), rfl, ⟨rfl, Nat.zero_le _, .inl rfl⟩, fun _ => rfl⟩
 ·have hlm : len ≤ m := by rw [hmm]; split <;> omega
  rw [hc] at hi
  rcases Nat.eq_zero_or_pos len with h0 | h0
  ·subst h0
   exact ⟨[], (some a, 0, cap), rfl, ⟨rfl, Nat.zero_le _, .inl rfl⟩, fun e => by cases e⟩
  ·have hone : ∀ i, i < len → ∃ (yh : α × r.H), (∀ j u, (r.cells yh.1 yh.2)[j]? = some u → w.cell? (a.add (i * r.size + j)) = some u) ∧ r.inn w yh.1 yh.2 := by
    intro i hil
    obtain ⟨cs', hcs, htr⟩ := hi i (by omega)
    obtain ⟨_, hcl, hat⟩ := World.cells?_some hcs
    obtain ⟨y, hd, rfl, hin⟩ := hO H enc w spare held n cs' _ htr hcl
    refine ⟨(y, hd), fun j u hj => ?_, hin⟩
    have hjl : j < r.size := by rw [← hcl]; exact idx_lt hj
    have := hat j hjl
    rw [add_add] at this
    rw [this]
    exact hj
   obtain ⟨yh0, -⟩ := hone 0 h0
   obtain ⟨f, hf⟩ := @choose_lt (α × r.H) ⟨yh0⟩ len _ hone
   obtain ⟨b, o, spot⟩ := a
   have hl0 : 0 < (r.cells (f 0).1 (f 0).2).length := by rw [r.len]; exact hp
   have hcell0 := (hf 0 h0).1 0 ((r.cells (f 0).1 (f 0).2)[0]) (by simp [hl0])
   have hspot : spot = none := by simpa [Addr.add] using World.cell?_spot hcell0
   subst hspot
   have hb : b < w.heap.size := by
    have := World.block_lt_of_cell? w _ hcell0
    simpa [Addr.add] using this
   refine ⟨(List.range len).map fun t => (f t).1, (some ⟨b, o, none⟩, len, cap), rfl, ⟨by simp, by show len ≤ maxLen; omega, .inr ⟨b, o, rfl, hb, fun t => (f t).2, fun t x hx => ?_⟩⟩, fun e => by cases e⟩
   have htl : t < len := by simpa using idx_lt hx
   obtain rfl : (f t).1 = x := by simpa [htl] using hx
   refine ⟨fun j u hj => ?_, (hf t htl).2⟩
   have := (hf t htl).1 j u hj
   rw [Addr.add_lit] at this
   rw [Nat.add_assoc]
   exact this
set_option maxRecDepth 100000 in
theorem Opens.row : Opens 74 rowRep := by
 intro H enc w spare held fuel cs x h hl
 obtain ⟨y0, y1, y2, k, _, _, h0, h1, h2⟩ := trod_struct3 Try.underlying74 h
 match cs, hl with
 | [c0, c1, c2], _ =>
  obtain ⟨k0, e0, rfl, w0⟩ := DataW.trod_int Try.underlying3 h0
  obtain ⟨k1, e1, rfl, w1⟩ := DataW.trod_int Try.underlying3 h1
  obtain ⟨k2, e2, rfl, w2⟩ := DataW.trod_int Try.underlying3 h2
  simp [intCells] at e0 e1 e2
  subst e0 e1 e2
  exact ⟨⟨k0, k1, k2⟩, (), rfl, bounds_i64 w0, bounds_i64 w1, bounds_i64 w2⟩
theorem field_at {H : Type} {enc : TypeId × Value → H} {w : World} {spare : Nat → Bool} {held : Bool} {m : Nat} {fs : Array Field} {xs : List (DataW H × List MemPlace)} {cs : List Value}
  (hf : ∀ (i : Nat) (f : Field), fs[i]? = some f → DataW.trod enc Try.prog w 0 spare held m f.type ((cs.drop f.offset).take (Try.prog.cellsOf f.type)) = xs[i]?) (hl : xs.length = fs.size) (i : Nat) (f : Field) (e : fs[i]? = some f) (o k : Nat) (ho : f.offset = o) (hk : Try.prog.cellsOf f.type = k) :
  ∃ x, DataW.trod enc Try.prog w 0 spare held m f.type ((cs.drop o).take k) = some x := by
 have hi : i < xs.length := by rw [hl]; exact (Array.getElem?_eq_some_iff.1 e).1
 have := hf i f e
 rw [List.getElem?_eq_getElem hi, ho, hk] at this
 exact ⟨_, this⟩
set_option maxRecDepth 100000 in
theorem Opens.one {T : TypeId} {f0 : Field} {α : Type} {r : Rep α} (hs : Try.prog.underlying T = some (.struct #[f0])) (ho : f0.offset = 0) (hc : Try.prog.cellsOf f0.type = r.size) (hO : Opens f0.type r) : Opens T r := by
 intro H enc w spare held fuel cs x h hl
 obtain ⟨y0, n, -, -, h0⟩ := trod_struct1 hs h
 rw [ho, hc, List.drop_zero, List.take_of_length_le (by omega)] at h0
 exact hO H enc w spare held n cs _ h0 hl
set_option maxRecDepth 100000 in
theorem Opens.val {T : TypeId} {fs : Array Field} {α : Type} {r : Rep α} (hO : Opens T r) (hs : Try.prog.underlying T = some (.struct fs)) (hc : Try.prog.cellsOf T = r.size)
  {H : Type} {enc : TypeId × Value → H} {w : World} {spare : Nat → Bool} {held : Bool} {q : Reach} {b0 : Nat} {v : Value} {d : DataW H} {p : List MemPlace} (hv : Value.okWide Try.prog w q b0 T v) (h : DataW.Trod enc Try.prog w 0 spare held T v d p) :
  ∃ (y : α) (hd : r.H), v = .agg (r.cells y hd).toArray ∧ r.inn w y hd := by
 obtain ⟨cs, rfl, hsz⟩ := okWide_struct hs hv
 obtain ⟨fuel, hf⟩ := h
 obtain ⟨y, hd, e, hi⟩ := hO H enc w spare held fuel _ _ hf (by simpa [Value.cells] using hsz.trans hc)
 refine ⟨y, hd, ?_, hi⟩
 simp only [Value.cells] at e
 rw [← e]
set_option maxRecDepth 100000 in
theorem Opens.arg {T : TypeId} {α : Type} {r : Rep α} (hO : Opens T (seqRep r)) {H : Type} {enc : TypeId × Value → H} {w : World} {spare : Nat → Bool} {held : Bool} {a : Option Addr} {len cap : Nat} {d : DataW H} {p : List MemPlace}
  (h : DataW.Trod enc Try.prog w 0 spare held T (.slice a len cap) d p) : ∃ xs : List α, SeqIn r w a len xs := by
 obtain ⟨fuel, hf⟩ := h
 obtain ⟨y, ⟨a', n', c'⟩, e, hi⟩ := hO H enc w spare held fuel _ _ hf (by simp [Value.cells, seqRep])
 simp [Value.cells, seqRep] at e
 obtain ⟨rfl, rfl, rfl⟩ := e
 exact ⟨y, hi.1⟩
end Go.Proofs.Ytpnbnbhifpcelaa
/- The laws' marks on rows that lie in a stretch of a block; sizes; copies as owned slices; no function of program or reference is walked here. -/
namespace Go.Proofs.Ytpnbnbhifpcelaa
open Go.RowKit
theorem set3_cells {w : World} {b o : Nat} {x y z : Value} (h0 : w.cell? ⟨b, o, none⟩ = some x) (h1 : w.cell? ⟨b, o + 1, none⟩ = some y) (h2 : w.cell? ⟨b, o + 2, none⟩ = some z) (r : R) :
  RowAt (((w.setCell ⟨b, o, none⟩ (.int .i64 r.key)).setCell ⟨b, o + 1, none⟩ (.int .i64 r.value)).setCell ⟨b, o + 2, none⟩ (.int .i64 r.width)) b o r := by
 have n01 : (⟨b, o, none⟩ : Addr) ≠ ⟨b, o + 1, none⟩ := by intro e; injection e with _ e _; omega
 have n02 : (⟨b, o, none⟩ : Addr) ≠ ⟨b, o + 2, none⟩ := by intro e; injection e with _ e _; omega
 have n12 : (⟨b, o + 1, none⟩ : Addr) ≠ ⟨b, o + 2, none⟩ := by intro e; injection e with _ e _; omega
 refine ⟨?_, ?_, ?_⟩
 ·rw [World.cell?_setCell_other _ _ _ _ n02.symm, World.cell?_setCell_other _ _ _ _ n01.symm]
  exact World.cell?_setCell_same _ _ _ h0
 ·rw [World.cell?_setCell_other _ _ _ _ n12.symm]
  refine World.cell?_setCell_same _ _ _ (u := y) ?_
  rw [World.cell?_setCell_other _ _ _ _ n01]
  exact h1
 ·refine World.cell?_setCell_same _ _ _ (u := z) ?_
  rw [World.cell?_setCell_other _ _ _ _ n12, World.cell?_setCell_other _ _ _ _ n02]
  exact h2
theorem SeqOwn.row {w : World} {B n : Nat} {a : Option Addr} {L : List R} {F : List Reg} (h : SeqOwn rowRep w B a n L F) {k : Nat} (hk : k < n) :
  ∃ b o : Nat, a = some ⟨b, o, none⟩ ∧ b < w.heap.size ∧ RowAt w b (o + k * 3) (L.getD k R.zero) ∧ (∀ j, j < 3 → w.frozen? ⟨b, o + k * 3 + j, none⟩ = false) ∧
   ∀ r : R, r.wf → SeqOwn rowRep (((w.setCell ⟨b, o + k * 3, none⟩ (.int .i64 r.key)).setCell ⟨b, o + k * 3 + 1, none⟩ (.int .i64 r.value)).setCell ⟨b, o + k * 3 + 2, none⟩ (.int .i64 r.width)) B a n (L.set k r) F ∧
    ∀ w0, OnlyAt F w0 w → OnlyAt F w0 (((w.setCell ⟨b, o + k * 3, none⟩ (.int .i64 r.key)).setCell ⟨b, o + k * 3 + 1, none⟩ (.int .i64 r.value)).setCell ⟨b, o + k * 3 + 2, none⟩ (.int .i64 r.width)) := by
 obtain ⟨h1, hm, ⟨h0, -⟩ | ⟨b, o, hs, Fs, rfl, hB, hlt, rfl, hp, hf, hx⟩⟩ := h
 ·omega
 ·have hkl : k < L.length := by omega
  have hg : L.getD k R.zero = L[k] := by simp [List.getD, hkl]
  have hle : k * 3 + 3 ≤ n * 3 := by omega
  obtain ⟨hc, -⟩ := hx k L[k] (by simp [hkl])
  have c0 := hc 0 _ rfl
  have c1 := hc 1 _ rfl
  have c2 := hc 2 _ rfl
  have hhead : (⟨b, o, o + n * rowRep.size⟩ : Reg) ∈ (⟨b, o, o + n * rowRep.size⟩ : Reg) :: (List.range n).flatMap Fs := List.mem_cons_self ..
  refine ⟨b, o, rfl, hlt, by rw [hg]; exact ⟨c0, c1, c2⟩, fun j hj => hf _ (by omega) (by show _ < o + n * 3; omega), fun r hr => ⟨?_, fun w0 h0 => ?_⟩⟩
  ·refine ⟨by rw [List.length_set]; exact h1, hm, .inr ⟨b, o, hs, Fs, rfl, hB, by simpa [World.setCell] using hlt, rfl, hp, fun j ha hb => ?_, fun t x ht => ?_⟩⟩
   ·rw [World.frozen?_setCell, World.frozen?_setCell, World.frozen?_setCell]
    exact hf j ha hb
   ·have htl : t < L.length := by have := idx_lt ht; rwa [List.length_set] at this
    by_cases htk : t = k
    ·subst htk
     rw [List.getElem?_set_self htl] at ht
     obtain rfl := Option.some.inj ht
     refine ⟨fun j u hj => ?_, hr, (hx t L[t] (by simp [htl])).2.2⟩
     have e0 : w.cell? ⟨b, o + t * 3, none⟩ = some (.int .i64 (L[t]).key) := c0
     have e1 : w.cell? ⟨b, o + t * 3 + 1, none⟩ = some (.int .i64 (L[t]).value) := c1
     have e2 : w.cell? ⟨b, o + t * 3 + 2, none⟩ = some (.int .i64 (L[t]).width) := c2
     have hq := set3_cells e0 e1 e2 r
     match j, hj with
     | 0, hj => obtain rfl := Option.some.inj hj; exact hq.1
     | 1, hj => obtain rfl := Option.some.inj hj; exact hq.2.1
     | 2, hj => obtain rfl := Option.some.inj hj; exact hq.2.2
    ·rw [List.getElem?_set_ne (fun e => htk e.symm)] at ht
     obtain ⟨hc', ho'⟩ := hx t x ht
     refine ⟨fun j u hj => ?_, ho'⟩
     have hj3 : j < 3 := idx_lt hj
     have hcj := hc' j u hj
     have hoff : ∀ i, i < 3 → (⟨b, o + k * 3 + i, none⟩ : Addr) ≠ ⟨b, o + t * rowRep.size + j, none⟩ := by
      intro i hi e
      injection e with _ e _
      have : o + k * 3 + i = o + t * 3 + j := e
      omega
     rw [World.cell?_setCell_other _ _ _ _ (hoff 2 (by omega)), World.cell?_setCell_other _ _ _ _ (hoff 1 (by omega)), World.cell?_setCell_other _ _ _ _ (show (⟨b, o + k * 3, none⟩ : Addr) ≠ _ from hoff 0 (by omega))]
     exact hcj
  ·refine (((h0.set hhead rfl ?_ ?_ _).set hhead rfl ?_ ?_ _).set hhead rfl ?_ ?_ _)
   all_goals first | (show o ≤ _; omega) | (show _ < o + n * 3; omega)
def szR (left : Int) (n : Nat) : Int := if left < n then -1 else left - n
end Go.Proofs.Ytpnbnbhifpcelaa
/- What the texts of the laws' types share; no function of program or reference is walked here. -/
namespace Go.Proofs.Ytpnbnbhifpcelaa
open Go.RowKit
set_option linter.unusedVariables false
theorem sz_stop {z left : Int} {m : Nat} (h : z = szR left m) (h0 : z < 0) : left < m ∧ z = -1 := by
 unfold szR at h
 split at h <;> omega
theorem sz_step {z left : Int} {m : Nat} (h : z = szR left m) (h0 : 0 ≤ z) : (m : Int) ≤ left ∧ z = left - m := by
 unfold szR at h
 split at h <;> omega
theorem OnlyAt.put {w : World} {b lo hi j : Nat} (w0 : World) (h : OnlyAt [⟨b, lo, hi⟩] w0 w) (h1 : lo ≤ j) (h2 : j < hi) (u : Value) : OnlyAt [⟨b, lo, hi⟩] w0 (w.setCell ⟨b, j, none⟩ u) := h.set (List.mem_singleton.2 rfl) rfl h1 h2 u
theorem Calls.named {P : Program} {f : FuncId} {a : Array Value} {w : World} {Q : Ending → World → Prop} (h : ∀ V, V = w → Calls P f a V Q) : Calls P f a w Q := h w rfl
def putCells : World → Nat → Nat → List Value → World
 | w, _, _, [] => w
 | w, g, o, v :: vs => putCells (w.setCell ⟨g, o, none⟩ v) g (o + 1) vs
end Go.Proofs.Ytpnbnbhifpcelaa
/- Rows: the laws' weight of a slice of them; no function of program or reference is walked here. -/
namespace Go.Proofs.Ytpnbnbhifpcelaa
open Go.RowKit
set_option linter.unusedVariables false
def wtRows (X : List R) : Nat := X.length
theorem cnt_rows (X : List R) : rowsMk.cnt X ≤ 64 * wtRows X := by show 3 * X.length ≤ 64 * X.length; omega
theorem wt_row_len (X : List R) : X.length ≤ wtRows X := Nat.le_refl _
end Go.Proofs.Ytpnbnbhifpcelaa
/- Run: the datum, its shape, the laws' marks over it, its weight; no function of program or reference is walked here. -/
namespace Go.Proofs.Ytpnbnbhifpcelaa
open Go.RowKit
set_option linter.unusedVariables false
abbrev runRep : Rep (List R) := seqRep rowRep
def runMk : Mk (List R) := ⟨fun q x => rowsMk.mark (q) x, fun x => rowsMk.cnt x, fun q x => by first | rfl | simp [Mk.cnt_mark]⟩
def runsMk : Mk (List (List R)) := seqMk runMk
def wtRun (x : List R) : Nat := wtRows x
def wtRuns (X : List (List R)) : Nat := wtAll wtRun X
theorem cnt_run (x : List R) : runMk.cnt x ≤ 64 * (wtRun x + 1) := by
 have h0 := cnt_rows x
 show rowsMk.cnt x ≤ 64 * (wtRows x + 1)
 omega
theorem cnt_runs (X : List (List R)) : runsMk.cnt X ≤ 64 * wtRuns X := cntAll_le runMk wtRun cnt_run X
theorem wt_run_at (X : List (List R)) (t : Nat) (ht : t < X.length) : wtRun X[t] ≤ wtRuns X := wtAll_at wtRun X t ht
theorem wt_run_len (X : List (List R)) : X.length ≤ wtRuns X := wtAll_len wtRun X
end Go.Proofs.Ytpnbnbhifpcelaa
/- Sorter: the datum, its shape, the laws' marks over it, its weight; no function of program or reference is walked here. -/
namespace Go.Proofs.Ytpnbnbhifpcelaa
open Go.RowKit
set_option linter.unusedVariables false
structure SorterD where
 fInput : List R
 fPos : Int
 fHeap : List R
 fDeferred : List R
 fOutput : List R
 fRuns : List (List R)
 fLeftPos : Int
 fRightPos : Int
 fPhase : Int
 fWritten : Int
deriving DecidableEq
def sorterRep : Rep SorterD := viaRep (fun x => (x.fInput, x.fPos, x.fHeap, x.fDeferred, x.fOutput, x.fRuns, x.fLeftPos, x.fRightPos, x.fPhase, x.fWritten, ())) (seqAnd rowRep (intAnd (seqAnd rowRep (seqAnd rowRep (seqAnd rowRep (seqAnd runRep (intAnd (intAnd (intAnd (intAnd endRep))))))))))
def sorterMk : Mk SorterD := ⟨fun q x => ⟨rowsMk.mark (q) x.fInput, q + (rowsMk.cnt x.fInput : Nat), rowsMk.mark (q + (rowsMk.cnt x.fInput : Nat) + 1) x.fHeap, rowsMk.mark (q + (rowsMk.cnt x.fInput : Nat) + 1 + (rowsMk.cnt x.fHeap : Nat)) x.fDeferred, rowsMk.mark (q + (rowsMk.cnt x.fInput : Nat) + 1 + (rowsMk.cnt x.fHeap : Nat) + (rowsMk.cnt x.fDeferred : Nat)) x.fOutput, runsMk.mark (q + (rowsMk.cnt x.fInput : Nat) + 1 + (rowsMk.cnt x.fHeap : Nat) + (rowsMk.cnt x.fDeferred : Nat) + (rowsMk.cnt x.fOutput : Nat)) x.fRuns, q + (rowsMk.cnt x.fInput : Nat) + 1 + (rowsMk.cnt x.fHeap : Nat) + (rowsMk.cnt x.fDeferred : Nat) + (rowsMk.cnt x.fOutput : Nat) + (runsMk.cnt x.fRuns : Nat), q + (rowsMk.cnt x.fInput : Nat) + 1 + (rowsMk.cnt x.fHeap : Nat) + (rowsMk.cnt x.fDeferred : Nat) + (rowsMk.cnt x.fOutput : Nat) + (runsMk.cnt x.fRuns : Nat) + 1, q + (rowsMk.cnt x.fInput : Nat) + 1 + (rowsMk.cnt x.fHeap : Nat) + (rowsMk.cnt x.fDeferred : Nat) + (rowsMk.cnt x.fOutput : Nat) + (runsMk.cnt x.fRuns : Nat) + 1 + 1, q + (rowsMk.cnt x.fInput : Nat) + 1 + (rowsMk.cnt x.fHeap : Nat) + (rowsMk.cnt x.fDeferred : Nat) + (rowsMk.cnt x.fOutput : Nat) + (runsMk.cnt x.fRuns : Nat) + 1 + 1 + 1⟩, fun x => rowsMk.cnt x.fInput + 1 + rowsMk.cnt x.fHeap + rowsMk.cnt x.fDeferred + rowsMk.cnt x.fOutput + runsMk.cnt x.fRuns + 1 + 1 + 1 + 1, fun q x => by first | rfl | simp [Mk.cnt_mark]⟩
def sortersMk : Mk (List SorterD) := seqMk sorterMk
def sorterMkV : Mk SorterD := ⟨fun q x => ⟨rowsMk.mark (q) x.fInput, x.fPos, rowsMk.mark (q + (rowsMk.cnt x.fInput : Nat)) x.fHeap, rowsMk.mark (q + (rowsMk.cnt x.fInput : Nat) + (rowsMk.cnt x.fHeap : Nat)) x.fDeferred, rowsMk.mark (q + (rowsMk.cnt x.fInput : Nat) + (rowsMk.cnt x.fHeap : Nat) + (rowsMk.cnt x.fDeferred : Nat)) x.fOutput, runsMk.mark (q + (rowsMk.cnt x.fInput : Nat) + (rowsMk.cnt x.fHeap : Nat) + (rowsMk.cnt x.fDeferred : Nat) + (rowsMk.cnt x.fOutput : Nat)) x.fRuns, x.fLeftPos, x.fRightPos, x.fPhase, x.fWritten⟩, fun x => rowsMk.cnt x.fInput + rowsMk.cnt x.fHeap + rowsMk.cnt x.fDeferred + rowsMk.cnt x.fOutput + runsMk.cnt x.fRuns, fun q x => by first | rfl | simp [Mk.cnt_mark]⟩
def wtSorter (x : SorterD) : Nat := wtRows x.fInput + wtRows x.fHeap + wtRows x.fDeferred + wtRows x.fOutput + wtRuns x.fRuns
def wtSorters (X : List SorterD) : Nat := wtAll wtSorter X
end Go.Proofs.Ytpnbnbhifpcelaa
/- States told by trees: the trees of the types; no function of program or reference is walked here. -/
namespace Go.Proofs.Ytpnbnbhifpcelaa
open Go Go.RowKit V
set_option linter.unusedVariables false
def tRow (x : R) : List T := [.lit (.int .i64 x.key), .lit (.int .i64 x.value), .lit (.int .i64 x.width)]
def uRow (x : R) : List T := [.lit (.int .i64 x.key), .lit (.int .i64 x.value), .lit (.int .i64 x.width)]
def zRow : List T := [.lit (.int .i64 0), .lit (.int .i64 0), .lit (.int .i64 0)]
theorem flat_impl_Row (X : List R) : Flat (X.map tRow) := flat_of (fun _ => rfl) X
def tRun (x : List R) : List T := [.seq 72 (x.map tRow)]
def uRun (x : List R) : List T := [.seq 74 (x.map uRow)]
def zRun : List T := [.seq 72 []]
def tSorter (x : SorterD) : List T := [.seq 72 (x.fInput.map tRow), .lit (.int .i64 x.fPos), .seq 72 (x.fHeap.map tRow), .seq 72 (x.fDeferred.map tRow), .seq 72 (x.fOutput.map tRow), .seq 84 (x.fRuns.map tRun), .lit (.int .i64 x.fLeftPos), .lit (.int .i64 x.fRightPos), .lit (.int .i64 x.fPhase), .lit (.int .i64 x.fWritten)]
def uSorter (x : SorterD) : List T := [.seq 74 (x.fInput.map uRow), .lit (.int .i64 x.fPos), .seq 74 (x.fHeap.map uRow), .seq 74 (x.fDeferred.map uRow), .seq 74 (x.fOutput.map uRow), .seq 102 (x.fRuns.map uRun), .lit (.int .i64 x.fLeftPos), .lit (.int .i64 x.fRightPos), .lit (.int .i64 x.fPhase), .lit (.int .i64 x.fWritten)]
def zSorter : List T := [.seq 72 [], .lit (.int .i64 0), .seq 72 [], .seq 72 [], .seq 72 [], .seq 84 [], .lit (.int .i64 0), .lit (.int .i64 0), .lit (.int .i64 0), .lit (.int .i64 0)]
theorem rows_all (X : List R) (q : Int) : (rowsMk.mark q X).map tRow = (mkAll rowMk q X).map tRow := congrArg _ (marked_eq X q)
end Go.Proofs.Ytpnbnbhifpcelaa
/- States told by trees: arguments, from their reading to their trees; no function of program or reference is walked here. -/
namespace Go.Proofs.Ytpnbnbhifpcelaa
open Go Go.ChangeShapes Go.WideShapes Go.RowKit Go.Deep Go.Joins V
set_option linter.unusedVariables false
def OpensT (A : TypeId) {α : Type} (n : Nat) (tf : α → List T) (ok : α → Prop) : Prop :=
 ∀ (H : Type) (enc : TypeId × Value → H) (w : World) (spare : Nat → Bool) (held : Bool) (fuel : Nat) (cs : List Value) (x : DataW H × List MemPlace), DataW.trod enc Try.prog w 0 spare held fuel A cs = some x → cs.length = n → ∃ y : α, ok y ∧ (tf y).length = n ∧ ∀ (j : Nat) (t : T) (u : Value), (tf y)[j]? = some t → cs[j]? = some u → Inn (fun b => b < w.heap.size) w t u
set_option maxRecDepth 100000 in
theorem OpensT.seq {A e : TypeId} {α : Type} {n : Nat} {tf : α → List T} {ok : α → Prop} (ht : Try.prog.underlying A = some (.slice e)) (hc : Try.prog.cellsOf e = n) (hp : 0 < n) (hz : Sz e n) (hO : OpensT e n tf ok) : OpensT A 1 (fun X : List α => [.seq e (X.map tf)]) (fun X => (∀ x ∈ X, ok x) ∧ X.length ≤ maxLen) := by
 intro H enc w spare held fuel cs x h _
 have emp : ∀ (a : Option Addr) (c : Nat), c ≤ maxLen → (a = none → c = 0) → ∃ y : List α, ((∀ x ∈ y, ok x) ∧ y.length ≤ maxLen) ∧ [T.seq e (y.map tf)].length = 1 ∧ ∀ (j : Nat) (t : T) (u : Value), [T.seq e (y.map tf)][j]? = some t → [Value.slice a 0 c][j]? = some u → Inn (fun b => b < w.heap.size) w t u := fun a c hc0 hn0 =>
  ⟨[], ⟨fun x hx => (by cases hx), Nat.zero_le _⟩, rfl, fun j t u h1 h2 => by
   match j, h1, h2 with
   | 0, h1, h2 =>
    cases h1; cases h2
    exact Inn.seq (es := []) n hp hz (fun e he => by cases he) (Nat.zero_le _) hc0 hn0 0 0 (fun _ => .bool false) (fun _ _ h => absurd rfl h) (fun h => absurd rfl h) (fun k e j t h => by simp at h) fun k e j t h => by simp at h⟩
 rcases open_slice ht h with ⟨rfl, -⟩ | ⟨a, len, cap, m, fu, D, Pl, rfl, -, hl, hm, hmm, -, hi⟩
 ·exact emp none 0 (Nat.zero_le _) fun _ => rfl
 ·have hlm : len ≤ m := by rw [hmm]; split <;> omega
  rw [hc] at hi
  rcases Nat.eq_zero_or_pos len with h0 | h0
  ·subst h0
   exact emp (some a) cap hm fun e => by cases e
  ·have hone : ∀ i, i < len → ∃ yc : α × List Value, ok yc.1 ∧ (tf yc.1).length = n ∧ yc.2.length = n ∧ (∀ j u, yc.2[j]? = some u → w.cell? (a.add (i * n + j)) = some u) ∧ ∀ (j : Nat) (t : T) (u : Value), (tf yc.1)[j]? = some t → yc.2[j]? = some u → Inn (fun b => b < w.heap.size) w t u := by
    intro i hil
    obtain ⟨cs', hcs, htr⟩ := hi i (by omega)
    obtain ⟨_, hcl, hat⟩ := World.cells?_some hcs
    obtain ⟨y, h1, h2, h3⟩ := hO H enc w spare held fu cs' _ htr hcl
    refine ⟨(y, cs'), h1, h2, hcl, fun j u hj => ?_, h3⟩
    have hjl : j < n := by rw [← hcl]; exact get_lt hj
    have := hat j hjl
    rw [add_add] at this
    rw [this]
    exact hj
   obtain ⟨y0, -⟩ := hone 0 h0
   obtain ⟨f, hf⟩ := @choose_lt (α × List Value) ⟨y0⟩ len _ hone
   obtain ⟨b, o, spot⟩ := a
   have hl0 : 0 < (f 0).2.length := by rw [(hf 0 h0).2.2.1]; exact hp
   have hcell0 := (hf 0 h0).2.2.2.1 0 (f 0).2[0] (by simp [hl0])
   have hspot : spot = none := by simpa [Addr.add] using World.cell?_spot hcell0
   subst hspot
   have hb : b < w.heap.size := by
    have := World.block_lt_of_cell? w _ hcell0
    simpa [Addr.add] using this
   have hget : ∀ k e', (((List.range len).map fun t => (f t).1).map tf)[k]? = some e' → k < len ∧ e' = tf (f k).1 := fun k e' hk => by
    have hkl : k < len := by have := get_lt hk; simpa using this
    refine ⟨hkl, ?_⟩
    simp [hkl] at hk
    exact hk.symm
   refine ⟨(List.range len).map fun t => (f t).1, ⟨fun x hx => ?_, by simp; omega⟩, rfl, fun j t u h1 h2 => ?_⟩
   ·obtain ⟨t, ht, rfl⟩ := List.mem_map.1 hx
    exact (hf t (List.mem_range.1 ht)).1
   ·match j, h1, h2 with
    | 0, h1, h2 =>
     cases h1; cases h2
     have hlen : (((List.range len).map fun t => (f t).1).map tf).length = len := by simp
     have key : ∀ k e' j t', (((List.range len).map fun t => (f t).1).map tf)[k]? = some e' → e'[j]? = some t' → ∃ u, (f k).2[j]? = some u ∧ w.cell? ⟨b, o + (k * n + j), none⟩ = some u ∧ Inn (fun b => b < w.heap.size) w t' u := fun k e' j t' hk hj => by
      obtain ⟨hkl, rfl⟩ := hget k e' hk
      obtain ⟨-, h3, h4, h5, h6⟩ := hf k hkl
      have hjl : j < (f k).2.length := by rw [h4, ← h3]; exact get_lt hj
      have h7 := h5 j _ (List.getElem?_eq_getElem hjl)
      rw [Addr.add_lit] at h7
      exact ⟨_, List.getElem?_eq_getElem hjl, h7, h6 j t' _ hj (List.getElem?_eq_getElem hjl)⟩
     have hsl : Value.slice (some ⟨b, o, none⟩) len cap = Value.slice (some ⟨b, o, none⟩) (((List.range len).map fun t => (f t).1).map tf).length cap := by rw [hlen]
     rw [hsl]
     exact Inn.seq n hp hz (fun e' he => by
      obtain ⟨k, hk, rfl⟩ := List.getElem_of_mem he
      obtain ⟨hkl, e1⟩ := hget k _ (List.getElem?_eq_getElem hk)
      rw [e1]; exact (hf k hkl).2.1) (by rw [hlen]; exact hl) hm (fun e => by cases e) b o (fun i => (w.cell? ⟨b, o + i, none⟩).getD (.bool false)) (fun ad h _ => (Option.some.inj h).symm) (fun _ => ⟨hb, hb⟩) (fun k e' j t' hk hj => by
       obtain ⟨u, -, h3, -⟩ := key k e' j t' hk hj
       rw [h3]; rfl) fun k e' j t' hk hj => by
       obtain ⟨u, -, h3, h4⟩ := key k e' j t' hk hj
       rw [h3]; exact h4
theorem OpensT.int : OpensT 3 1 (fun x : Int => [.lit (.int .i64 x)]) I64 := by
 intro H enc w spare held fuel cs x h hl
 match cs, hl with
 | [c0], _ =>
  obtain ⟨k0, e0, -, w0⟩ := DataW.trod_int Try.underlying3 h
  simp at e0
  subst e0
  refine ⟨k0, bounds_i64 w0, rfl, fun j t u h1 h2 => ?_⟩
  match j, h1, h2 with
  | 0, h1, h2 => cases h1; cases h2; exact .lit rfl
theorem OpensT.bool : OpensT 4 1 (fun x : Bool => [.lit (.bool x)]) (fun _ => True) := by
 intro H enc w spare held fuel cs x h hl
 match cs, hl with
 | [c0], _ =>
  obtain ⟨k0, e0, -⟩ := DataW.trod_bool Try.underlying4 h
  simp at e0
  subst e0
  refine ⟨k0, trivial, rfl, fun j t u h1 h2 => ?_⟩
  match j, h1, h2 with
  | 0, h1, h2 => cases h1; cases h2; exact .lit rfl
set_option maxRecDepth 100000 in
theorem OpensT.row : OpensT 74 3 uRow R.wf := by
 intro H enc w spare held fuel cs x h hl
 obtain ⟨y0, y1, y2, k, _, _, h0, h1, h2⟩ := trod_struct3 Try.underlying74 h
 match cs, hl with
 | [c0, c1, c2], _ =>
  obtain ⟨k0, e0, rfl, w0⟩ := DataW.trod_int Try.underlying3 h0
  obtain ⟨k1, e1, rfl, w1⟩ := DataW.trod_int Try.underlying3 h1
  obtain ⟨k2, e2, rfl, w2⟩ := DataW.trod_int Try.underlying3 h2
  simp [intCells] at e0 e1 e2
  subst e0 e1 e2
  refine ⟨⟨k0, k1, k2⟩, ⟨bounds_i64 w0, bounds_i64 w1, bounds_i64 w2⟩, rfl, fun j t u h1 h2 => ?_⟩
  match j, h1, h2 with
  | 0, h1, h2 => cases h1; cases h2; exact .lit rfl
  | 1, h1, h2 => cases h1; cases h2; exact .lit rfl
  | 2, h1, h2 => cases h1; cases h2; exact .lit rfl
set_option maxRecDepth 100000 in
theorem OpensT.rows : OpensT 22 1 (fun X : List R => [.seq 74 (X.map uRow)]) (fun X => (∀ x ∈ X, x.wf) ∧ X.length ≤ maxLen) := OpensT.seq Try.underlying22 (by kernel_rfl) (by decide) (Sz.of (by kernel_rfl)) OpensT.row
def okRow (r : R) : Prop := r.wf
def ArgT (w : World) (ag : Bool) (ts : List T) (v : Value) : Prop := ∃ us : List Value, v = cval ag us ∧ us.length = ts.length ∧ ∀ (j : Nat) (t : T) (u : Value), ts[j]? = some t → us[j]? = some u → Inn (fun b => b < w.heap.size) w t u
theorem ArgT.lit {w : World} {v : Value} (h : v.oneCell' = true) : ArgT w false [.lit v] v := ⟨[v], rfl, rfl, fun j t u h1 h2 => by
 match j, h1, h2 with
 | 0, h1, h2 => cases h1; cases h2; exact .lit h⟩
set_option maxRecDepth 100000 in
theorem OpensT.val {A : TypeId} {fs : Array Field} {α : Type} {n : Nat} {tf : α → List T} {ok : α → Prop} (hO : OpensT A n tf ok) (hs : Try.prog.underlying A = some (.struct fs)) (hc : Try.prog.cellsOf A = n)
  {H : Type} {enc : TypeId × Value → H} {w : World} {spare : Nat → Bool} {held : Bool} {q : Reach} {b0 : Nat} {v : Value} {d : DataW H} {p : List MemPlace} (hv : Value.okWide Try.prog w q b0 A v) (h : DataW.Trod enc Try.prog w 0 spare held A v d p) :
  ∃ y : α, ok y ∧ ArgT w true (tf y) v := by
 obtain ⟨cs, rfl, hsz⟩ := okWide_struct hs hv
 obtain ⟨fuel, hf⟩ := h
 have hl : (Value.cells (.agg cs)).toList.length = n := by simpa [Value.cells] using hsz.trans hc
 obtain ⟨y, h1, h2, h3⟩ := hO H enc w spare held fuel _ _ hf hl
 exact ⟨y, h1, cs.toList, by simp [cval], hl.trans h2.symm, h3⟩
theorem OpensT.arg {A : TypeId} {α : Type} {tf : α → List T} {ok : α → Prop} (hO : OpensT A 1 tf ok) {H : Type} {enc : TypeId × Value → H} {w : World} {spare : Nat → Bool} {held : Bool} {a : Option Addr} {len cap : Nat} {d : DataW H} {p : List MemPlace}
  (h : DataW.Trod enc Try.prog w 0 spare held A (.slice a len cap) d p) : ∃ y : α, ok y ∧ ArgT w false (tf y) (.slice a len cap) := by
 obtain ⟨fuel, hf⟩ := h
 obtain ⟨y, h1, h2, h3⟩ := hO H enc w spare held fuel _ _ hf (by simp [Value.cells])
 exact ⟨y, h1, [.slice a len cap], rfl, h2.symm, h3⟩
theorem argsIn_nil {w : World} : ArgsIn (Env.of w) w [] [] := ⟨rfl, fun c ag ts v h => by simp at h⟩
theorem argsIn_cons {w : World} {ag : Bool} {ts : List T} {v : Value} {ins : List (Bool × List T)} {vs : List Value} (h : ArgT w ag ts v) (k : ArgsIn (Env.of w) w ins vs) : ArgsIn (Env.of w) w ((ag, ts) :: ins) (v :: vs) := by
 refine ⟨by simp [k.1], fun c ag' ts' v' h1 h2 => ?_⟩
 cases c with
 | zero =>
  cases h1; cases h2
  obtain ⟨us, h3, h4, h5⟩ := h
  exact ⟨us, h3, h4, fun j t u h6 h7 => (h5 j t u h6 h7).frame (Nat.le_refl _) fun b hb _ => ⟨Env.of_old.2 hb, rfl⟩⟩
 | succ c => exact k.2 c ag' ts' v' (by simpa using h1) (by simpa using h2)
theorem VC.law {f : FuncId} {ins : List (Bool × List T)} (h : VC Try.prog f ins false [(false, [.lit (.bool true)])]) {w : World} {vs : List Value} (hv : ArgsIn (Env.of w) w ins vs) : Calls Try.prog f vs.toArray w fun e w' => e = .returned (.bool true) ∧ Below w.heap.size w w' :=
 (h w vs hv).mono fun e w' hg => by
  obtain ⟨h1, h2⟩ := hg.lit
  exact ⟨h1, h2.os, h2.tape, h2.output, h2.size, fun k hk => h2.block k (Env.of_old.2 hk)⟩
end Go.Proofs.Ytpnbnbhifpcelaa
/- Row: the laws' own functions over it, told by trees: each by its contract. -/
namespace Go.Proofs.Ytpnbnbhifpcelaa
open Go Go.RowKit V
set_option linter.unusedVariables false
set_option maxRecDepth 100000 in
set_option maxHeartbeats 2000000 in
theorem vsz_rows (X : List R) (left : Int) (h0 : 0 ≤ left) (h1 : left ≤ 1048576) : VC Try.prog 14 [(false, [.seq 74 (X.map uRow)]), (false, [.lit (.int .i64 left)])] false [(false, [.lit (.int .i64 (szR left (wtRows X)))])] := by
 refine VC.enter Try.func14 rfl Try.ntmps14 (gle rfl) fun E hE => ?_
 refine SV.lenle (s := 0) rfl rfl fun hml => ?_
 have hml2 : X.length ≤ 9223372036854775807 := by rw [← List.length_map (f := uRow)]; exact hml
 have hl2 : (X.map uRow).length = X.length := List.length_map _
 have hlen := wt_row_len X
 have hwX : wtRows X = X.length := rfl
 refine SV.seq' (SV.region ?_)
 refine sl 0 ms ?_
 refine SV.nil (SV.tn (SV.seq' (SV.region ?_)))
 refine sl 0 ms ?_
 refine sl 0 (mv (V.one (.ro _))) ?_
 refine sl 0 (ok_len (lf := .ro _) rfl elt_laws_Row.und rfl rfl) ?_
 refine sl 0 (s2 (.tmp 5) (.tmp 7)) ?_
 refine sl 0 ms ?_
 refine SV.nil (SV.tn (SV.seq' (SV.seq' (SV.region ?_))))
 refine sl 0 ms ?_
 refine sl 0 (s2 (.tmp 9) (.const ((Value.int IntKind.i64 0)))) ?_
 refine SV.nil (SV.tn ?_)
 refine SV.cond rfl (fun hc0 => ?_) (fun hc0 => ?_)
 ·skip   -- c0.T
  have hb : left - (X.length : Nat) < 0 := by simpa using hc0
  refine SV.seq' (SV.region ?_)
  refine sl 0 ms ?_
  refine SV.nil (SV.tn (SV.ret (SV.tr ?_)))
  refine d1 (.sc _) Try.results14 ?_ <;> (refine liq ?_; unfold szR; split <;> omega)
 ·skip   -- c0.F
  have hb : ¬ left - (X.length : Nat) < 0 := by simpa using hc0
  refine SV.skip (SV.tn (SV.seq' (SV.region ?_)))
  refine sl 0 ms ?_
  refine sl 0 ms ?_
  refine SV.nil (SV.tn (SV.ret ?_))
  refine d1 (.sc _) Try.results14 ?_ <;> (refine liq ?_; unfold szR; split <;> omega)
set_option maxRecDepth 100000 in
set_option maxHeartbeats 2000000 in
theorem vmk_rows' (X : List R) (q : Int) (hq0 : 0 ≤ q) (hq1 : q + 3 * X.length ≤ 100000000000000) : VM Try.prog 20 [(false, [.ln 0]), (false, [.rd (.lit (.int .i64 q))])] [.seq 72 (X.map tRow)] [.seq 72 ((mkAll rowMk q X).map tRow)] (.int .i64 (q + (cntAll rowMk X : Nat))) := by
 refine VM.enter (m := 1) rfl Try.func20 rfl Try.ntmps20 (gle rfl) fun E hE => ?_
 have hC := rows_cnt X
 refine SV.seq' (SV.region ?_)
 refine sl 0 ms ?_
 refine SV.nil (SV.tn (SV.seq' (SV.seq' (SV.region ?_))))
 refine sl 0 ms ?_
 refine SV.nil (SV.tn (SV.block ?_))
 refine SV.loop (X := Nat) (fun t => ((((VS.nil.new (.seq 72 (mkL rowMk tRow q X t))).put 0 (V.one (.hd 0))).put 1 (V.one (.sc (.int .i64 (q + (cntAll rowMk (X.take t) : Nat)))))).put 5 (V.one (.sc (.int .i64 (t : Int)))))) (fun t => t ≤ X.length) (fun t => X.length - t) ?_ ?_
 ·skip
  refine SV.again (fun i => [0].getD i 0) 0 (Nat.zero_le _) (pins hE rfl rfl) (VS.le.mk' (le_put (le_put (le_put (le_new le_nil) (V.le.one rfl ⟨rfl, (gle rfl), (gle rfl)⟩)) lo) lo) trivial ⟨.inr ⟨_, _, rfl, ?ob1_0, (gle rfl)⟩, trivial⟩ (new_ob nil_ob) (fun i j hi hj e => inj_list (l := [0]) (by decide) i j hi hj e))
  case ob1_0 =>
   show some (T.seq _ _) = some (T.seq _ _)
   rw [mkL_zero]
 ·rintro t ht
  refine SV.seq' (SV.seq' (SV.region ?_))
  refine sl 0 ms ?_
  refine sl 0 (mv (V.one (.hd 0))) ?_
  refine sl 0 (ok_len (lf := .hd 0) rfl elt_impl_Row.und rfl rfl) ?_
  refine sl 0 (s2 (.tmp 6) (.tmp 8)) ?_
  refine SV.nil (SV.tn ?_)
  refine SV.cond rfl (fun hc0 => ?_) (fun hc0 => ?_)
  ·skip   -- c0.T
   have htl : t < X.length := by have := mkL_len (m := rowMk) (f := tRow) (q := q) ht; rw [show (mkL rowMk tRow q X t).length = X.length from this] at hc0; simpa using hc0
   have hcn := cntAll_next rowMk X t htl
   have hct := cntAll_take rowMk X (t + 1)
   have hc3 : rowMk.cnt X[t] = 3 := rfl
   refine SV.skip (SV.tn (SV.seq' (SV.block (SV.seq' (SV.region ?_)))))
   refine sl 0 (mv (V.one (.hd 0))) ?_
   refine sl 0 ms ?_
   refine sl 0 ms ?_
   refine sl 0 (ok_index (n := 3) (lf := .hd 0) rfl elt_impl_Row.und sz_impl_Row rfl rfl rfl (mkL_at htl)) ?_
   refine sl 0 (ok_field_el (p := .ep 0 _ _ _) (off := 0) rfl rfl (cells_ep rfl (mkL_at htl) rfl rfl) fld_impl_Row_0) ?_
   refine SV.op (ok_store_ep (i := 0) (n := 3) (m := 1) (ag := false) (zs := [.sc _]) rfl rfl rfl rfl (mkL_at htl) sz_int (fun _ => rfl) rfl sz_impl_Row (gle rfl) (outs_c rfl outs_n) (by simp [two]) rfl rfl rfl) rfl ?_
   refine SV.nil (SV.tn (SV.seq' (SV.region ?_)))
   refine sl 0 ms ?_
   refine sl 0 (ok_s2 (v := .int .i64 (q + (cntAll rowMk (X.take t) : Nat) + 1)) (x := .tmp 17) (x' := .const ((Value.int IntKind.i64 1))) (VScal.one rfl) (VScal.one rfl) (fun ρ h1 h2 w => by go_simp; all_goals ((try go_bits); first | with_reducible rfl | go_num | (simp; done) | (simp; omega))) rfl) ?_
   refine sl 0 ms ?_
   refine SV.nil (SV.tn (SV.seq' (SV.region ?_)))
   refine sl 0 (mv (V.one (.hd 0))) ?_
   refine sl 0 ms ?_
   refine sl 0 ms ?_
   refine sl 0 (ok_index (n := 3) (lf := .hd 0) rfl elt_impl_Row.und sz_impl_Row rfl rfl rfl (set_self (mkL_lt htl))) ?_
   refine sl 0 (ok_field_el (p := .ep 0 _ _ _) (off := 1) rfl rfl (cells_ep rfl (set_self (mkL_lt htl)) rfl rfl) fld_impl_Row_1) ?_
   refine SV.op (ok_store_ep (i := 0) (n := 3) (m := 1) (ag := false) (zs := [.sc _]) rfl rfl rfl rfl (set_self (mkL_lt htl)) sz_int (fun _ => rfl) rfl sz_impl_Row (gle rfl) (outs_c rfl outs_n) (by simp [two]) rfl (set_twice (by rfl)) rfl) rfl ?_
   refine SV.nil (SV.tn (SV.seq' (SV.region ?_)))
   refine sl 0 ms ?_
   refine sl 0 (ok_s2 (v := .int .i64 (q + (cntAll rowMk (X.take t) : Nat) + 1 + 1)) (x := .tmp 24) (x' := .const ((Value.int IntKind.i64 1))) (VScal.one rfl) (VScal.one rfl) (fun ρ h1 h2 w => by go_simp; all_goals ((try go_bits); first | with_reducible rfl | go_num | (simp; done) | (simp; omega))) rfl) ?_
   refine sl 0 ms ?_
   refine SV.nil (SV.tn (SV.seq' (SV.region ?_)))
   refine sl 0 (mv (V.one (.hd 0))) ?_
   refine sl 0 ms ?_
   refine sl 0 ms ?_
   refine sl 0 (ok_index (n := 3) (lf := .hd 0) rfl elt_impl_Row.und sz_impl_Row rfl rfl rfl (set_self (mkL_lt htl))) ?_
   refine sl 0 (ok_field_el (p := .ep 0 _ _ _) (off := 2) rfl rfl (cells_ep rfl (set_self (mkL_lt htl)) rfl rfl) fld_impl_Row_2) ?_
   refine SV.op (ok_store_ep (i := 0) (n := 3) (m := 1) (ag := false) (zs := [.sc _]) rfl rfl rfl rfl (set_self (mkL_lt htl)) sz_int (fun _ => rfl) rfl sz_impl_Row (gle rfl) (outs_c rfl outs_n) (by simp [two]) rfl (set_twice (by rfl)) rfl) rfl ?_
   refine SV.nil (SV.tn (SV.region ?_))
   refine sl 0 ms ?_
   refine sl 0 (ok_s2 (v := .int .i64 (q + (cntAll rowMk (X.take t) : Nat) + 1 + 1 + 1)) (x := .tmp 31) (x' := .const ((Value.int IntKind.i64 1))) (VScal.one rfl) (VScal.one rfl) (fun ρ h1 h2 w => by go_simp; all_goals ((try go_bits); first | with_reducible rfl | go_num | (simp; done) | (simp; omega))) rfl) ?_
   refine sl 0 ms ?_
   refine SV.nil (SV.bn (SV.tn (SV.region ?_)))
   refine sl 0 ms ?_
   refine sl 0 (s2 (.tmp 10) (.const ((Value.int IntKind.i64 1)))) ?_
   refine sl 0 ms ?_
   refine SV.nil (SV.tn ?_)
   refine SV.again (fun i => [0].getD i 0) (t + 1) (⟨by omega, by omega⟩) (pins hE rfl rfl) (VS.le.mk' (le_put (le_put (le_put (le_new le_nil) (V.le.one rfl ⟨rfl, (gle rfl), (gle rfl)⟩)) lo) lo) trivial ⟨.inr ⟨_, _, rfl, ?ob2_0, (gle rfl)⟩, trivial⟩ (new_ob nil_ob) (fun i j hi hj e => inj_list (l := [0]) (by decide) i j hi hj e))
   case ob2_0 =>
    show some (T.seq _ _) = some (T.seq _ _)
    rw [← mkL_next htl]
    rfl
  ·skip   -- c0.F
   have hte : ¬ t < X.length := by have := mkL_len (m := rowMk) (f := tRow) (q := q) ht; rw [show (mkL rowMk tRow q X t).length = X.length from this] at hc0; simpa using hc0
   refine SV.exit (SV.te (SV.te (SV.bh (SV.tn (SV.seq' (SV.region ?_))))))
   refine sl 0 ms ?_
   refine sl 0 ms ?_
   refine SV.nil (SV.tn (SV.ret ?_))
   refine SV.doneM hE rfl ⟨?_, trivial⟩ (.inl rfl) ?_
   ·exact congrArg some (congrArg (T.seq _) (mkL_all hte))
   refine d1 (.sc _) Try.results20 ?_ <;> (show some (T.lit (Value.int .i64 _)) = some (T.lit (Value.int .i64 _)); rw [List.take_of_length_le (by omega)])
theorem vmk_rows (X : List R) (q : Int) (hq0 : 0 ≤ q) (hq1 : q + 64 * wtRows X ≤ 100000000000000) : VM Try.prog 20 [(false, [.ln 0]), (false, [.rd (.lit (.int .i64 q))])] [.seq 72 (X.map tRow)] [.seq 72 ((rowsMk.mark q X).map tRow)] (.int .i64 (q + (rowsMk.cnt X : Nat))) := by
 have h := vmk_rows' X q hq0 (by have h1 : wtRows X = X.length := rfl; omega)
 rw [rows_all, rows_cnt']
 exact h
set_option maxRecDepth 100000 in
set_option maxHeartbeats 2000000 in
theorem vhd_rows' (X : List R) (q : Int) (hq0 : 0 ≤ q) (hq1 : q + 3 * X.length ≤ 100000000000000) : VC Try.prog 31 [(false, [.seq 72 ((mkAll rowMk q X).map tRow)]), (false, [.lit (.int .i64 q)])] false [(false, [.lit (.int .i64 (q + (cntAll rowMk X : Nat)))])] := by
 refine VC.enter Try.func31 rfl Try.ntmps31 (gle rfl) fun E hE => ?_
 have hC := rows_cnt X
 refine SV.seq' (SV.region ?_)
 refine sl 0 ms ?_
 refine SV.nil (SV.tn (SV.seq' (SV.seq' (SV.region ?_))))
 refine sl 0 ms ?_
 refine SV.nil (SV.tn (SV.block ?_))
 refine SV.loop (X := Nat) (fun t => (((VS.nil.put 0 (V.one (.ro (.seq 72 ((mkAll rowMk q X).map tRow))))).put 1 (V.one (.sc (.int .i64 (q + (cntAll rowMk (X.take t) : Nat)))))).put 5 (V.one (.sc (.int .i64 (t : Int)))))) (fun t => t ≤ X.length) (fun t => X.length - t) ?_ ?_
 ·skip
  refine SV.again (fun i => [].getD i 0) 0 (Nat.zero_le _) (pins hE rfl rfl) (VS.le.mk' (le_put (le_put (le_put le_nil lo) lo) lo) trivial trivial nil_ob (fun i j hi hj e => absurd hi (Nat.not_lt_zero i)))
 ·rintro t ht
  refine SV.seq' (SV.seq' (SV.region ?_))
  refine sl 0 ms ?_
  refine sl 0 (mv (V.one (.ro _))) ?_
  refine sl 0 (ok_len (lf := .ro _) rfl elt_impl_Row.und rfl rfl) ?_
  refine sl 0 (s2 (.tmp 6) (.tmp 8)) ?_
  refine SV.nil (SV.tn ?_)
  refine SV.cond rfl (fun hc0 => ?_) (fun hc0 => ?_)
  ·skip   -- c0.T
   have htl : t < X.length := by simpa [mkAll_length] using hc0
   have hx := mkAll_get rowMk q X t htl
   have hcn := cntAll_next rowMk X t htl
   have hct := cntAll_take rowMk X (t + 1)
   have hc3 : rowMk.cnt X[t] = 3 := rfl
   refine SV.skip (SV.tn (SV.seq' (SV.block (SV.seq' (SV.seq' (SV.region ?_))))))
   refine sl 0 (mv (V.one (.ro _))) ?_
   refine sl 0 ms ?_
   refine sl 0 (ok_index (n := 3) (lf := .ro _) rfl elt_impl_Row.und sz_impl_Row rfl rfl rfl (map_at (by assumption))) ?_
   refine sl 0 (ok_field_el (p := .rp _) (off := 0) rfl rfl rfl fld_impl_Row_0) ?_
   refine sl 0 (ok_load_rp (ag := false) (m := 1) (ys := [.sc _]) rfl rfl agg_int sz_int (fun _ => rfl) (gle rfl) rfl) ?_
   refine sl 0 ms ?_
   refine sl 0 (s2 (.tmp 16) (.tmp 17)) ?_
   refine SV.nil (SV.tn ?_)
   refine SV.cond rfl (fun hc1 => ?_) (fun hc1 => ?_)
   ·skip   -- c1.T
    (exfalso; first | (simp at hc1; omega) | (simp [rowMk] at hc1; done) | (simp [rowMk] at hc1; omega))
   ·skip   -- c1.F
    refine SV.skip (SV.tn (SV.seq' (SV.region ?_)))
    refine sl 0 ms ?_
    refine sl 0 (ok_s2 (v := .int .i64 (q + (cntAll rowMk (X.take t) : Nat) + 1)) (x := .tmp 19) (x' := .const ((Value.int IntKind.i64 1))) (VScal.one rfl) (VScal.one rfl) (fun ρ h1 h2 w => by go_simp; all_goals ((try go_bits); first | with_reducible rfl | go_num | (simp; done) | (simp; omega))) rfl) ?_
    refine sl 0 ms ?_
    refine SV.nil (SV.tn (SV.seq' (SV.seq' (SV.region ?_))))
    refine sl 0 (mv (V.one (.ro _))) ?_
    refine sl 0 ms ?_
    refine sl 0 (ok_index (n := 3) (lf := .ro _) rfl elt_impl_Row.und sz_impl_Row rfl rfl rfl (map_at (by assumption))) ?_
    refine sl 0 (ok_field_el (p := .rp _) (off := 1) rfl rfl rfl fld_impl_Row_1) ?_
    refine sl 0 (ok_load_rp (ag := false) (m := 1) (ys := [.sc _]) rfl rfl agg_int sz_int (fun _ => rfl) (gle rfl) rfl) ?_
    refine sl 0 ms ?_
    refine sl 0 (s2 (.tmp 25) (.tmp 26)) ?_
    refine SV.nil (SV.tn ?_)
    refine SV.cond rfl (fun hc2 => ?_) (fun hc2 => ?_)
    ·skip   -- c2.T
     (exfalso; first | (simp at hc2; omega) | (simp [rowMk] at hc2; done) | (simp [rowMk] at hc2; omega))
    ·skip   -- c2.F
     refine SV.skip (SV.tn (SV.seq' (SV.region ?_)))
     refine sl 0 ms ?_
     refine sl 0 (ok_s2 (v := .int .i64 (q + (cntAll rowMk (X.take t) : Nat) + 1 + 1)) (x := .tmp 28) (x' := .const ((Value.int IntKind.i64 1))) (VScal.one rfl) (VScal.one rfl) (fun ρ h1 h2 w => by go_simp; all_goals ((try go_bits); first | with_reducible rfl | go_num | (simp; done) | (simp; omega))) rfl) ?_
     refine sl 0 ms ?_
     refine SV.nil (SV.tn (SV.seq' (SV.seq' (SV.region ?_))))
     refine sl 0 (mv (V.one (.ro _))) ?_
     refine sl 0 ms ?_
     refine sl 0 (ok_index (n := 3) (lf := .ro _) rfl elt_impl_Row.und sz_impl_Row rfl rfl rfl (map_at (by assumption))) ?_
     refine sl 0 (ok_field_el (p := .rp _) (off := 2) rfl rfl rfl fld_impl_Row_2) ?_
     refine sl 0 (ok_load_rp (ag := false) (m := 1) (ys := [.sc _]) rfl rfl agg_int sz_int (fun _ => rfl) (gle rfl) rfl) ?_
     refine sl 0 ms ?_
     refine sl 0 (s2 (.tmp 34) (.tmp 35)) ?_
     refine SV.nil (SV.tn ?_)
     refine SV.cond rfl (fun hc3 => ?_) (fun hc3 => ?_)
     ·skip   -- c3.T
      (exfalso; first | (simp at hc3; omega) | (simp [rowMk] at hc3; done) | (simp [rowMk] at hc3; omega))
     ·skip   -- c3.F
      refine SV.skip (SV.tn (SV.region ?_))
      refine sl 0 ms ?_
      refine sl 0 (ok_s2 (v := .int .i64 (q + (cntAll rowMk (X.take t) : Nat) + 1 + 1 + 1)) (x := .tmp 37) (x' := .const ((Value.int IntKind.i64 1))) (VScal.one rfl) (VScal.one rfl) (fun ρ h1 h2 w => by go_simp; all_goals ((try go_bits); first | with_reducible rfl | go_num | (simp; done) | (simp; omega))) rfl) ?_
      refine sl 0 ms ?_
      refine SV.nil (SV.bn (SV.tn (SV.region ?_)))
      refine sl 0 ms ?_
      refine sl 0 (s2 (.tmp 10) (.const ((Value.int IntKind.i64 1)))) ?_
      refine sl 0 ms ?_
      refine SV.nil (SV.tn ?_)
      refine SV.again (fun i => [].getD i 0) (t + 1) (⟨by omega, by omega⟩) (pins hE rfl rfl) (VS.le.mk' (le_put (le_put (le_put le_nil lo) lo) lo) trivial trivial nil_ob (fun i j hi hj e => absurd hi (Nat.not_lt_zero i)))
  ·skip   -- c0.F
   have hte : ¬ t < X.length := by simpa [mkAll_length] using hc0
   refine SV.exit (SV.te (SV.te (SV.bh (SV.tn (SV.seq' (SV.region ?_))))))
   refine sl 0 ms ?_
   refine sl 0 ms ?_
   refine SV.nil (SV.tn (SV.ret ?_))
   refine d1 (.sc _) Try.results31 ?_ <;> (show some (T.lit (Value.int .i64 _)) = some (T.lit (Value.int .i64 _)); rw [List.take_of_length_le (by omega)])
theorem vhd_rows (X : List R) (q : Int) (hq0 : 0 ≤ q) (hq1 : q + 64 * wtRows X ≤ 100000000000000) : VC Try.prog 31 [(false, [.seq 72 ((rowsMk.mark q X).map tRow)]), (false, [.lit (.int .i64 q)])] false [(false, [.lit (.int .i64 (q + (rowsMk.cnt X : Nat)))])] := by
 have h := vhd_rows' X q hq0 (by have h1 : wtRows X = X.length := rfl; omega)
 rw [rows_all, rows_cnt']
 exact h
set_option maxRecDepth 100000 in
set_option maxHeartbeats 2000000 in
theorem veq_row (x : R) : VC Try.prog 66 [(true, tRow x), (true, tRow x)] false [(false, [.lit (.bool true)])] := by
 refine VC.enter Try.func66 rfl Try.ntmps66 (gle rfl) fun E hE => ?_
 refine SV.seq' (SV.region ?_)
 refine sm (ok_box (kk := 0) (ag := true) (xs := [.sc _, .sc _, .sc _]) rfl rfl rfl (fun h => by cases h) rfl rfl (gle rfl)) ?_
 refine sm (ok_box (kk := 1) (ag := true) (xs := [.sc _, .sc _, .sc _]) rfl rfl rfl (fun h => by cases h) rfl rfl (gle rfl)) ?_
 refine sl 2 ms ?_
 refine SV.nil (SV.tn (SV.seq' (SV.seq' (SV.region ?_))))
 refine sl 2 (fb fld_impl_Row_0) ?_
 refine sl 2 (lb 0 0 [.sc _] agg_int sz_int (fun _ => rfl)) ?_
 refine sl 2 (fb fld_impl_Row_0) ?_
 refine sl 2 (lb 1 0 [.sc _] agg_int sz_int (fun _ => rfl)) ?_
 refine sl 2 (s2 (.tmp 6) (.tmp 8)) ?_
 refine SV.nil (SV.tn ?_)
 refine SV.cond rfl (fun hc0 => ?_) (fun hc0 => ?_)
 ·skip   -- c0.T
  simp at hc0
 ·skip   -- c0.F
  refine SV.skip (SV.tn (SV.seq' (SV.seq' (SV.region ?_))))
  refine sl 2 (fb fld_impl_Row_1) ?_
  refine sl 2 (lb 0 1 [.sc _] agg_int sz_int (fun _ => rfl)) ?_
  refine sl 2 (fb fld_impl_Row_1) ?_
  refine sl 2 (lb 1 1 [.sc _] agg_int sz_int (fun _ => rfl)) ?_
  refine sl 2 (s2 (.tmp 11) (.tmp 13)) ?_
  refine SV.nil (SV.tn ?_)
  refine SV.cond rfl (fun hc1 => ?_) (fun hc1 => ?_)
  ·skip   -- c1.T
   simp at hc1
  ·skip   -- c1.F
   refine SV.skip (SV.tn (SV.seq' (SV.seq' (SV.region ?_))))
   refine sl 2 (fb fld_impl_Row_2) ?_
   refine sl 2 (lb 0 2 [.sc _] agg_int sz_int (fun _ => rfl)) ?_
   refine sl 2 (fb fld_impl_Row_2) ?_
   refine sl 2 (lb 1 2 [.sc _] agg_int sz_int (fun _ => rfl)) ?_
   refine sl 2 (s2 (.tmp 16) (.tmp 18)) ?_
   refine SV.nil (SV.tn ?_)
   refine SV.cond rfl (fun hc2 => ?_) (fun hc2 => ?_)
   ·skip   -- c2.T
    simp at hc2
   ·skip   -- c2.F
    refine SV.skip (SV.tn (SV.seq' (SV.region ?_)))
    refine sl 2 ms ?_
    refine SV.nil (SV.tn (SV.ret ?_))
    refine d1 (.sc _) Try.results66 ?_ <;> rfl
set_option maxRecDepth 100000 in
set_option maxHeartbeats 2000000 in
theorem veq_rows (X : List R) (hL : wtRows X ≤ 300000000000) : VC Try.prog 19 [(false, [.seq 72 (X.map tRow)]), (false, [.seq 72 (X.map tRow)])] false [(false, [.lit (.bool true)])] := by
 refine VC.enter Try.func19 rfl Try.ntmps19 (gle rfl) fun E hE => ?_
 have hlen := wt_row_len X
 refine SV.seq' (SV.region ?_)
 refine sl 0 ms ?_
 refine SV.nil (SV.tn (SV.seq' (SV.seq' (SV.region ?_))))
 refine sl 0 (mv (V.one (.ro _))) ?_
 refine sl 0 (ok_len (lf := .ro _) rfl elt_impl_Row.und rfl rfl) ?_
 refine sl 0 (mv (V.one (.ro _))) ?_
 refine sl 0 (ok_len (lf := .ro _) rfl elt_impl_Row.und rfl rfl) ?_
 refine sl 0 (s2 (.tmp 7) (.tmp 9)) ?_
 refine SV.nil (SV.tn ?_)
 refine SV.cond rfl (fun hc0 => ?_) (fun hc0 => ?_)
 ·skip   -- c0.T
  simp at hc0
 ·skip   -- c0.F
  refine SV.skip (SV.tn (SV.seq' (SV.seq' (SV.region ?_))))
  refine sl 0 ms ?_
  refine SV.nil (SV.tn (SV.block ?_))
  refine SV.loop (X := Nat) (fun t => (((VS.nil.put 0 (V.one (.ro (.seq 72 (X.map tRow))))).put 1 (V.one (.ro (.seq 72 (X.map tRow))))).put 5 (V.one (.sc (.int .i64 (t : Int)))))) (fun t => t ≤ X.length) (fun t => X.length - t) ?_ ?_
  ·skip
   refine SV.again (fun i => [].getD i 0) 0 (Nat.zero_le _) (pins hE rfl rfl) (VS.le.mk' (le_put (le_put (le_put le_nil lo) lo) lo) trivial trivial nil_ob (fun i j hi hj e => absurd hi (Nat.not_lt_zero i)))
  ·rintro t ht
   refine SV.seq' (SV.seq' (SV.region ?_))
   refine sl 0 ms ?_
   refine sl 0 (mv (V.one (.ro _))) ?_
   refine sl 0 (ok_len (lf := .ro _) rfl elt_impl_Row.und rfl rfl) ?_
   refine sl 0 (s2 (.tmp 11) (.tmp 13)) ?_
   refine SV.nil (SV.tn ?_)
   refine SV.cond rfl (fun hc1 => ?_) (fun hc1 => ?_)
   ·skip   -- c1.T
    have htl : t < X.length := by simpa using hc1
    have hx : X[t]? = some X[t] := by simp [htl]
    refine SV.skip (SV.tn (SV.seq' (SV.block (SV.seq' ?_))))
    refine SV.draw [.q 0, .q 1, .q 2, .q 3, .q 4, .q 5, .q 6, .q 7, .m 8, .q 9] [] (by kernel_rfl) (by kernel_rfl) ?_
    refine dq rfl (mv (V.one (.ro _))) ?_
    refine dq rfl ms ?_
    refine dq rfl (ok_index (n := 3) (lf := .ro _) rfl elt_impl_Row.und sz_impl_Row rfl rfl rfl (map_at (by assumption))) ?_
    refine dq rfl (ok_load_rp (ag := true) (m := 3) (ys := [.sc _, .sc _, .sc _]) rfl rfl agg_impl_Row sz_impl_Row (fun h => by cases h) (gle rfl) rfl) ?_
    refine dq rfl (mv (V.one (.ro _))) ?_
    refine dq rfl ms ?_
    refine dq rfl (ok_index (n := 3) (lf := .ro _) rfl elt_impl_Row.und sz_impl_Row rfl rfl rfl (map_at (by assumption))) ?_
    refine dq rfl (ok_load_rp (ag := true) (m := 3) (ys := [.sc _, .sc _, .sc _]) rfl rfl agg_impl_Row sz_impl_Row (fun h => by cases h) (gle rfl) rfl) ?_
    refine DW.m [] rfl (cl [(false, [.sc _])] rfl Try.func66 (veq_row X[t]) ⟨⟨[.sc _, .sc _, .sc _], rfl, ⟨rfl, rfl, rfl, trivial⟩⟩, ⟨[.sc _, .sc _, .sc _], rfl, ⟨rfl, rfl, rfl, trivial⟩⟩, trivial⟩) rfl (gle rfl) (gle rfl) (.inl rfl) (fun j hj => by cases hj) ?_
    refine dq rfl (s1 (.tmp 25)) ?_
    refine DW.stores ?_
    refine SV.zend ?_
    refine SV.tn ?_
    refine SV.cond rfl (fun hc2 => ?_) (fun hc2 => ?_)
    ·skip   -- c2.T
     simp at hc2
    ·skip   -- c2.F
     refine SV.skip (SV.bn (SV.tn (SV.region ?_)))
     refine sl 0 ms ?_
     refine sl 0 (s2 (.tmp 15) (.const ((Value.int IntKind.i64 1)))) ?_
     refine sl 0 ms ?_
     refine SV.nil (SV.tn ?_)
     refine SV.again (fun i => [].getD i 0) (t + 1) (⟨by omega, by omega⟩) (pins hE rfl rfl) (VS.le.mk' (le_put (le_put (le_put le_nil lo) lo) lo) trivial trivial nil_ob (fun i j hi hj e => absurd hi (Nat.not_lt_zero i)))
   ·skip   -- c1.F
    refine SV.exit (SV.te (SV.te (SV.bh (SV.tn (SV.seq' (SV.region ?_))))))
    refine sl 0 ms ?_
    refine SV.nil (SV.tn (SV.ret ?_))
    refine d1 (.sc _) Try.results19 ?_ <;> rfl
set_option maxRecDepth 100000 in
set_option maxHeartbeats 2000000 in
theorem vto_row (x : R) : VC Try.prog 63 [(true, uRow x)] false [(true, tRow x)] := by
 refine VC.enter Try.func63 rfl Try.ntmps63 (gle rfl) fun E hE => ?_
 refine SV.seq' (SV.region ?_)
 refine sm (ok_box (kk := 0) (ag := true) (xs := [.sc _, .sc _, .sc _]) rfl rfl rfl (fun h => by cases h) rfl rfl (gle rfl)) ?_
 refine sm (ok_alloc (kk := 1) (xs := [.sc _, .sc _, .sc _]) rfl rfl zero_impl_Row ⟨rfl, rfl, rfl, rfl, rfl, rfl, trivial⟩ rfl (gle rfl)) ?_
 refine SV.nil (SV.tn (SV.seq' (SV.region ?_)))
 refine sm (ok_alloc (kk := 2) (xs := [.sc _, .sc _, .sc _]) rfl rfl zero_impl_Row ⟨rfl, rfl, rfl, rfl, rfl, rfl, trivial⟩ rfl (gle rfl)) ?_
 refine SV.nil (SV.tn (SV.seq' (SV.region ?_)))
 refine sl 3 (fb fld_laws_Row_0) ?_
 refine sl 3 (lb 0 0 [.sc _] agg_int sz_int (fun _ => rfl)) ?_
 refine sl 3 (fb fld_impl_Row_0) ?_
 refine so (st (ag := false) [.sc _] [.sc _, .sc _, .sc _] sz_int (fun _ => rfl)) ?_
 refine SV.nil (SV.tn (SV.seq' (SV.region ?_)))
 refine sl 3 (fb fld_laws_Row_1) ?_
 refine sl 3 (lb 0 1 [.sc _] agg_int sz_int (fun _ => rfl)) ?_
 refine sl 3 (fb fld_impl_Row_1) ?_
 refine so (st (ag := false) [.sc _] [.sc _, .sc _, .sc _] sz_int (fun _ => rfl)) ?_
 refine SV.nil (SV.tn (SV.seq' (SV.region ?_)))
 refine sl 3 (fb fld_laws_Row_2) ?_
 refine sl 3 (lb 0 2 [.sc _] agg_int sz_int (fun _ => rfl)) ?_
 refine sl 3 (fb fld_impl_Row_2) ?_
 refine so (st (ag := false) [.sc _] [.sc _, .sc _, .sc _] sz_int (fun _ => rfl)) ?_
 refine SV.nil (SV.tn (SV.seq' (SV.region ?_)))
 refine sl 3 (lb 2 0 [.sc _, .sc _, .sc _] agg_impl_Row sz_impl_Row (fun h => by cases h)) ?_
 refine so (st (ag := true) [.sc _, .sc _, .sc _] [.sc _, .sc _, .sc _] sz_impl_Row (fun h => by cases h)) ?_
 refine SV.nil (SV.tn (SV.ret ?_))
 apply SV.done (hf := Try.results63) (ht := rfl) (he := .inl rfl)
 case hr => exact (ResAll.cons (ResOk.cell (b := 1) (ag := true) (xs := [.sc _, .sc _, .sc _]) rfl rfl agg_impl_Row sz_impl_Row (fun h => by cases h)) ResAll.nil')
 case h2 => simp [two]
 refine ⟨rfl, ⟨?_, ?_, ?_, trivial⟩, trivial⟩ <;> rfl
set_option maxRecDepth 100000 in
set_option maxHeartbeats 2000000 in
theorem vto_rows (X : List R) (hL : wtRows X ≤ 300000000000) : VC Try.prog 16 [(false, [.seq 74 (X.map uRow)])] false [(false, [.seq 72 (X.map tRow)])] := by
 refine VC.enter Try.func16 rfl Try.ntmps16 (gle rfl) fun E hE => ?_
 have hlen := wt_row_len X
 refine SV.seq' (SV.region ?_)
 refine sl 0 ms ?_
 refine SV.nil (SV.tn (SV.seq' (SV.region ?_)))
 refine sl 0 (mv (V.one (.ro _))) ?_
 refine sl 0 (ok_len (lf := .ro _) rfl elt_laws_Row.und rfl rfl) ?_
 refine sm (ok_make (kk := 0) (zs := [.sc _, .sc _, .sc _]) elt_impl_Row rfl rfl rfl rfl ⟨rfl, rfl, rfl, rfl, rfl, rfl, trivial⟩ rfl (by rw [List.length_map]; omega) rfl (gle rfl)) ?_
 refine sl 0 (mv (V.one (.hd 0))) ?_
 refine SV.nil (SV.tn (SV.seq' (SV.seq' (SV.region ?_))))
 refine sl 0 ms ?_
 refine SV.nil (SV.tn (SV.block ?_))
 refine SV.loop (X := Nat) (fun t => ((((VS.nil.new (.seq 72 (toL tRow zRow X t))).put 0 (V.one (.ro (.seq 74 (X.map uRow))))).put 3 (V.one (.hd 0))).put 4 (V.one (.sc (.int .i64 (t : Int)))))) (fun t => t ≤ X.length) (fun t => X.length - t) ?_ ?_
 ·skip
  refine SV.again (fun i => [0].getD i 0) 0 (Nat.zero_le _) (pins hE rfl rfl) (VS.le.mk' (le_put (le_put (le_put (le_new le_nil) lo) (V.le.one rfl ⟨rfl, (gle rfl), (gle rfl)⟩)) lo) trivial ⟨.inr ⟨_, _, rfl, ?ob1_0, (gle rfl)⟩, trivial⟩ (new_ob nil_ob) (fun i j hi hj e => inj_list (l := [0]) (by decide) i j hi hj e))
  case ob1_0 =>
   show some (T.seq _ _) = some (T.seq _ _)
   rw [toL_zero, List.length_map]
   rfl
 ·rintro t ht
  refine SV.seq' (SV.seq' (SV.region ?_))
  refine sl 0 ms ?_
  refine sl 0 (mv (V.one (.ro _))) ?_
  refine sl 0 (ok_len (lf := .ro _) rfl elt_laws_Row.und rfl rfl) ?_
  refine sl 0 (s2 (.tmp 8) (.tmp 10)) ?_
  refine SV.nil (SV.tn ?_)
  refine SV.cond rfl (fun hc0 => ?_) (fun hc0 => ?_)
  ·skip   -- c0.T
   have htl : t < X.length := by simpa using hc0
   have hx : X[t]? = some X[t] := by simp [htl]
   refine SV.skip (SV.tn (SV.seq' (SV.block (SV.region ?_))))
   refine sl 0 (mv (V.one (.hd 0))) ?_
   refine sl 0 ms ?_
   refine sl 0 (mv (V.one (.ro _))) ?_
   refine sl 0 ms ?_
   refine sl 0 (ok_index (n := 3) (lf := .ro _) rfl elt_laws_Row.und sz_laws_Row rfl rfl rfl (map_at (by assumption))) ?_
   refine sl 0 (ok_load_rp (ag := true) (m := 3) (ys := [.sc _, .sc _, .sc _]) rfl rfl agg_laws_Row sz_laws_Row (fun h => by cases h) (gle rfl) rfl) ?_
   refine sm (cl [(true, [.sc _, .sc _, .sc _])] rfl Try.func63 (vto_row X[t]) ⟨⟨[.sc _, .sc _, .sc _], rfl, ⟨rfl, rfl, rfl, trivial⟩⟩, trivial⟩) ?_
   refine sl 0 (ok_index (n := 3) (lf := .hd 0) rfl elt_impl_Row.und sz_impl_Row rfl rfl rfl (toL_at htl)) ?_
   refine SV.op (ok_store_ep (i := 0) (n := 3) (m := 3) (ag := true) (zs := [.sc _, .sc _, .sc _]) rfl rfl rfl rfl (toL_at htl) sz_impl_Row (fun h => by cases h) rfl sz_impl_Row (gle rfl) (outs_c rfl (outs_c rfl (outs_c rfl outs_n))) (by simp [two]) rfl rfl rfl) rfl ?_
   refine SV.nil (SV.bn (SV.tn (SV.region ?_)))
   refine sl 0 ms ?_
   refine sl 0 (s2 (.tmp 12) (.const ((Value.int IntKind.i64 1)))) ?_
   refine sl 0 ms ?_
   refine SV.nil (SV.tn ?_)
   refine SV.again (fun i => [0].getD i 0) (t + 1) (⟨by omega, by omega⟩) (pins hE rfl rfl) (VS.le.mk' (le_put (le_put (le_put (le_new le_nil) lo) (V.le.one rfl ⟨rfl, (gle rfl), (gle rfl)⟩)) lo) trivial ⟨.inr ⟨_, _, rfl, ?ob2_0, (gle rfl)⟩, trivial⟩ (new_ob nil_ob) (fun i j hi hj e => inj_list (l := [0]) (by decide) i j hi hj e))
   case ob2_0 =>
    show some (T.seq _ _) = some (T.seq _ _)
    rw [← toL_next htl]
    rfl
  ·skip   -- c0.F
   have hte : ¬ t < X.length := by simpa using hc0
   refine SV.exit (SV.te (SV.te (SV.bh (SV.tn (SV.seq' (SV.region ?_))))))
   refine sl 0 (mv (V.one (.hd 0))) ?_
   refine sl 0 (mv (V.one (.hd 0))) ?_
   refine SV.nil (SV.tn (SV.ret ?_))
   refine d1 (.hd 0) Try.results16 ?_ <;> (show some (T.seq _ _) = some (T.seq _ _); rw [toL_all hte])
end Go.Proofs.Ytpnbnbhifpcelaa
/- Run: the laws' own functions over it, told by trees: each by its contract. -/
namespace Go.Proofs.Ytpnbnbhifpcelaa
open Go Go.RowKit V
set_option linter.unusedVariables false
set_option maxRecDepth 100000 in
set_option maxHeartbeats 2000000 in
theorem vsz_run (x : (List R)) (left : Int) (h0 : 0 ≤ left) (h1 : left ≤ 1048576) : VC Try.prog 98 [(true, uRun x), (false, [.lit (.int .i64 left)])] false [(false, [.lit (.int .i64 (szR left (wtRun x)))])] := by
 refine VC.enter Try.func98 rfl Try.ntmps98 (gle rfl) fun E hE => ?_
 have hW : wtRun x = wtRows x := rfl
 refine SV.seq' (SV.region ?_)
 refine sm (ok_box (kk := 0) (ag := true) (xs := [.ro _]) rfl rfl rfl (fun h => by cases h) rfl rfl (gle rfl)) ?_
 refine sl 1 ms ?_
 refine SV.nil (SV.tn (SV.seq' (SV.region ?_)))
 refine sl 1 (fb fld_laws_Run_0) ?_
 refine sl 1 (lb 0 0 [.ro _] agg_s_laws_Row sz_s_laws_Row (fun _ => rfl)) ?_
 refine sl 1 ms ?_
 refine sm (cl [(false, [.sc _])] rfl Try.func14 (vsz_rows x (left) (by omega) (by omega)) ⟨⟨[.ro _], rfl, ⟨rfl, trivial⟩⟩, ⟨[.sc _], rfl, ⟨rfl, trivial⟩⟩, trivial⟩) ?_
 refine sl 1 ms ?_
 refine SV.nil (SV.tn (SV.seq' (SV.seq' (SV.region ?_))))
 refine sl 1 ms ?_
 refine sl 1 (s2 (.tmp 9) (.const ((Value.int IntKind.i64 0)))) ?_
 refine SV.nil (SV.tn ?_)
 refine SV.cond rfl (fun hc0 => ?_) (fun hc0 => ?_)
 ·skip   -- c0.T
  have hs0 := sz_stop rfl (show szR (left) (wtRows x) < 0 by first | exact of_decide_eq_true hc0 | simpa using hc0 | simpa [szR] using hc0)
  refine SV.seq' (SV.region ?_)
  refine sl 1 ms ?_
  refine SV.nil (SV.tn (SV.ret (SV.tr ?_)))
  refine d1 (.sc _) Try.results98 ?_ <;> (refine liq ?_; first | rfl | (unfold szR; split <;> omega) | (rw [hs0.2]; unfold szR; split <;> omega))
 ·skip   -- c0.F
  have hs0 := sz_step rfl (show 0 ≤ szR (left) (wtRows x) by first | exact Int.not_lt.1 (of_decide_eq_false hc0) | simpa using hc0 | simpa [szR] using hc0)
  refine SV.skip (SV.tn (SV.seq' (SV.region ?_)))
  refine sl 1 ms ?_
  refine sl 1 ms ?_
  refine SV.nil (SV.tn (SV.ret ?_))
  refine d1 (.sc _) Try.results98 ?_ <;> (refine liq ?_; first | rfl | (unfold szR; split <;> omega) | (rw [hs0.2]; unfold szR; split <;> omega))
set_option maxRecDepth 100000 in
set_option maxHeartbeats 2000000 in
theorem vsz_runs (X : List (List R)) (left : Int) (h0 : 0 ≤ left) (h1 : left ≤ 1048576) : VC Try.prog 41 [(false, [.seq 102 (X.map uRun)]), (false, [.lit (.int .i64 left)])] false [(false, [.lit (.int .i64 (szR left (wtRuns X)))])] := by
 refine VC.enter Try.func41 rfl Try.ntmps41 (gle rfl) fun E hE => ?_
 refine SV.lenle (s := 0) rfl rfl fun hml => ?_
 have hml2 : X.length ≤ 9223372036854775807 := by rw [← List.length_map (f := uRun)]; exact hml
 have hl2 : (X.map uRun).length = X.length := List.length_map _
 have hlen := wt_run_len X
 have hwX : wtRuns X = X.length + (X.map wtRun).sum := rfl
 refine SV.seq' (SV.region ?_)
 refine sl 0 ms ?_
 refine SV.nil (SV.tn (SV.seq' (SV.region ?_)))
 refine sl 0 ms ?_
 refine sl 0 (mv (V.one (.ro _))) ?_
 refine sl 0 (ok_len (lf := .ro _) rfl elt_laws_Run.und rfl rfl) ?_
 refine sl 0 (ok_s2 (v := .int .i64 (left - (X.length : Nat))) (x := .tmp 6) (x' := .tmp 8) (VScal.one rfl) (VScal.one rfl) (fun ρ h1 h2 w => by go_simp; all_goals ((try go_bits); first | with_reducible rfl | go_num | (simp; done) | (simp; omega))) rfl) ?_
 refine sl 0 ms ?_
 refine SV.nil (SV.tn (SV.seq' (SV.seq' (SV.region ?_))))
 refine sl 0 ms ?_
 refine sl 0 (s2 (.tmp 10) (.const ((Value.int IntKind.i64 0)))) ?_
 refine SV.nil (SV.tn ?_)
 refine SV.cond rfl (fun hc0 => ?_) (fun hc0 => ?_)
 ·skip   -- c0.T
  have hb0 : left - (X.length : Nat) < 0 := by simpa using hc0
  refine SV.seq' (SV.region ?_)
  refine sl 0 ms ?_
  refine SV.nil (SV.tn (SV.ret (SV.tr ?_)))
  refine d1 (.sc _) Try.results41 ?_ <;> (refine liq ?_; unfold szR; split <;> omega)
 ·skip   -- c0.F
  have hb0 : ¬ left - (X.length : Nat) < 0 := by simpa using hc0
  refine SV.skip (SV.tn (SV.seq' (SV.seq' (SV.region ?_))))
  refine sl 0 ms ?_
  refine SV.nil (SV.tn (SV.block ?_))
  refine SV.loop (X := Nat) (fun t => (((VS.nil.put 0 (V.one (.ro (.seq 102 (X.map uRun))))).put 1 (V.one (.sc (.int .i64 (left - ((X.length + ((X.take t).map wtRun).sum) : Nat)))))).put 5 (V.one (.sc (.int .i64 (t : Int)))))) (fun t => t ≤ X.length ∧ (((X.length + ((X.take t).map wtRun).sum) : Nat) : Int) ≤ left) (fun t => X.length - t) ?_ ?_
  ·skip
   refine SV.again (fun i => [].getD i 0) 0 (⟨Nat.zero_le _, by simp; omega⟩) (pins hE rfl rfl) (VS.le.mk' (le_put (le_put (le_put le_nil lo) lo) lo) trivial trivial nil_ob (fun i j hi hj e => absurd hi (Nat.not_lt_zero i)))
  ·rintro t ⟨ht, hb⟩
   refine SV.seq' (SV.seq' (SV.region ?_))
   refine sl 0 ms ?_
   refine sl 0 (mv (V.one (.ro _))) ?_
   refine sl 0 (ok_len (lf := .ro _) rfl elt_laws_Run.und rfl rfl) ?_
   refine sl 0 (s2 (.tmp 12) (.tmp 14)) ?_
   refine SV.nil (SV.tn ?_)
   refine SV.cond rfl (fun hc1 => ?_) (fun hc1 => ?_)
   ·skip   -- c1.T
    have htl : t < X.length := by simpa using hc1
    have hx : X[t]? = some X[t] := by simp [htl]
    have hsn := sum_next wtRun X t htl
    have hst := sum_take wtRun X (t + 1)
    refine SV.skip (SV.tn (SV.seq' (SV.block (SV.seq' (SV.region ?_)))))
    refine sl 0 (mv (V.one (.ro _))) ?_
    refine sl 0 ms ?_
    refine sl 0 (ok_index (n := 1) (lf := .ro _) rfl elt_laws_Run.und sz_laws_Run rfl rfl rfl (map_at (by assumption))) ?_
    refine sl 0 (ok_load_rp (ag := true) (m := 1) (ys := [.ro _]) rfl rfl agg_laws_Run sz_laws_Run (fun h => by cases h) (gle rfl) rfl) ?_
    refine sl 0 ms ?_
    refine sm (cl [(false, [.sc _])] rfl Try.func98 (vsz_run X[t] (left - ((X.length + ((X.take t).map wtRun).sum) : Nat)) (by omega) (by omega)) ⟨⟨[.ro _], rfl, ⟨rfl, trivial⟩⟩, ⟨[.sc _], rfl, ⟨rfl, trivial⟩⟩, trivial⟩) ?_
    refine sl 0 ms ?_
    refine SV.nil (SV.tn (SV.seq' (SV.region ?_)))
    refine sl 0 ms ?_
    refine sl 0 (s2 (.tmp 24) (.const ((Value.int IntKind.i64 0)))) ?_
    refine SV.nil (SV.tn ?_)
    refine SV.cond rfl (fun hc2 => ?_) (fun hc2 => ?_)
    ·skip   -- c2.T
     have hs := sz_stop rfl (show szR (left - ((X.length + ((X.take t).map wtRun).sum) : Nat)) (wtRun X[t]) < 0 by simpa using hc2)
     refine SV.seq' (SV.region ?_)
     refine sl 0 ms ?_
     refine SV.nil (SV.tn (SV.ret (SV.br (SV.tr (SV.tr (SV.br (SV.tr ?_)))))))
     refine d1 (.sc _) Try.results41 ?_ <;> (refine liq ?_; unfold szR; split <;> omega)
    ·skip   -- c2.F
     have hs := sz_step rfl (show 0 ≤ szR (left - ((X.length + ((X.take t).map wtRun).sum) : Nat)) (wtRun X[t]) by simpa using hc2)
     refine SV.skip (SV.bn (SV.tn (SV.region ?_)))
     refine sl 0 ms ?_
     refine sl 0 (s2 (.tmp 16) (.const ((Value.int IntKind.i64 1)))) ?_
     refine sl 0 ms ?_
     refine SV.nil (SV.tn ?_)
     refine SV.again (fun i => [].getD i 0) (t + 1) (⟨⟨by omega, by omega⟩, by omega⟩) (pins hE rfl rfl) (VS.le.mk' (le_put (le_put (le_put le_nil lo) lo) lo) trivial trivial nil_ob (fun i j hi hj e => absurd hi (Nat.not_lt_zero i)))
   ·skip   -- c1.F
    have hte : ¬ t < X.length := by simpa using hc1
    have htk : X.take t = X := List.take_of_length_le (by omega)
    have hsm : ((X.take t).map wtRun).sum = (X.map wtRun).sum := by rw [htk]
    refine SV.exit (SV.te (SV.te (SV.bh (SV.tn (SV.seq' (SV.region ?_))))))
    refine sl 0 ms ?_
    refine sl 0 ms ?_
    refine SV.nil (SV.tn (SV.ret ?_))
    refine d1 (.sc _) Try.results41 ?_ <;> (refine liq ?_; unfold szR; split <;> omega)
set_option maxRecDepth 100000 in
set_option maxHeartbeats 2000000 in
theorem vmk_runs (X : List (List R)) (q : Int) (hq0 : 0 ≤ q) (hq1 : q + 64 * wtRuns X ≤ 100000000000000) : VM Try.prog 37 [(false, [.ln 0]), (false, [.rd (.lit (.int .i64 q))])] [.seq 84 (X.map tRun)] [.seq 84 ((runsMk.mark q X).map tRun)] (.int .i64 (q + (runsMk.cnt X : Nat))) := by
 refine VM.enter (m := 1) rfl Try.func37 rfl Try.ntmps37 (gle rfl) fun E hE => ?_
 have hC := cnt_runs X
 have hlen := wt_run_len X
 have hCs : runsMk.cnt X = cntAll runMk X := rfl
 refine SV.seq' (SV.region ?_)
 refine sl 0 ms ?_
 refine SV.nil (SV.tn (SV.seq' (SV.seq' (SV.region ?_))))
 refine sl 0 ms ?_
 refine SV.nil (SV.tn (SV.block ?_))
 refine SV.loop (X := Nat) (fun t => ((((VS.nil.new (.seq 84 (mkL runMk tRun q X t))).put 0 (V.one (.hd 0))).put 1 (V.one (.sc (.int .i64 (q + (cntAll runMk (X.take t) : Nat)))))).put 5 (V.one (.sc (.int .i64 (t : Int)))))) (fun t => t ≤ X.length) (fun t => X.length - t) ?_ ?_
 ·skip
  refine SV.again (fun i => [0].getD i 0) 0 (Nat.zero_le _) (pins hE rfl rfl) (VS.le.mk' (le_put (le_put (le_put (le_new le_nil) (V.le.one rfl ⟨rfl, (gle rfl), (gle rfl)⟩)) lo) lo) trivial ⟨.inr ⟨_, _, rfl, ?ob1_0, (gle rfl)⟩, trivial⟩ (new_ob nil_ob) (fun i j hi hj e => inj_list (l := [0]) (by decide) i j hi hj e))
  case ob1_0 =>
   show some (T.seq _ _) = some (T.seq _ _)
   rw [mkL_zero]
 ·rintro t ht
  refine SV.seq' (SV.seq' (SV.region ?_))
  refine sl 0 ms ?_
  refine sl 0 (mv (V.one (.hd 0))) ?_
  refine sl 0 (ok_len (lf := .hd 0) rfl elt_impl_Run.und rfl rfl) ?_
  refine sl 0 (s2 (.tmp 6) (.tmp 8)) ?_
  refine SV.nil (SV.tn ?_)
  refine SV.cond rfl (fun hc0 => ?_) (fun hc0 => ?_)
  ·skip   -- c0.T
   have htl : t < X.length := by have := mkL_len (m := runMk) (f := tRun) (q := q) ht; rw [show (mkL runMk tRun q X t).length = X.length from this] at hc0; simpa using hc0
   have hcn := cntAll_next runMk X t htl
   have hct := cntAll_take runMk X (t + 1)
   have hc3 : runMk.cnt X[t] = rowsMk.cnt X[t] := rfl
   have hroom := mk_room runMk wtRun cnt_run X t htl
   have hwf : wtRuns X = wtAll wtRun X := rfl
   have hww : wtRun X[t] = wtRows X[t] := rfl
   refine SV.skip (SV.tn (SV.seq' (SV.block (SV.region ?_))))
   refine sl 0 (mv (V.one (.hd 0))) ?_
   refine sl 0 ms ?_
   refine sl 0 (ok_index (n := 1) (lf := .hd 0) rfl elt_impl_Run.und sz_impl_Run rfl rfl rfl (mkL_at htl)) ?_
   refine sl 0 (ok_field_el (p := .ep 0 _ _ _) (off := 0) rfl rfl (cells_ep rfl (mkL_at htl) rfl rfl) fld_impl_Run_0) ?_
   refine so (ok_load_el (p := .ep 0 _ _ _) (ag := false) (m := 1) (ys := [.nd 0 _ _ (some _)]) rfl rfl (cells_ep rfl (mkL_at htl) rfl rfl) agg_s_impl_Row sz_s_impl_Row (fun _ => rfl) (gle rfl) rfl rfl (gle rfl)) ?_
   refine sl 0 ms ?_
   refine so (ok_callM_nd (i := 0) rfl ⟨_, _, Try.func20, rfl, by decide⟩ (vmk_rows X[t] (q + (cntAll runMk (X.take t) : Nat)) (by omega) (by omega)) ⟨⟨[.nd 0 _ _ (some _)], rfl, ⟨rfl, trivial⟩⟩, ⟨[.sc _], rfl, ⟨⟨_, rfl, rfl⟩, trivial⟩⟩, trivial⟩ rfl (mkL_at htl) rfl rfl rfl rfl (gle rfl)) ?_
   refine sl 0 ms ?_
   refine SV.nil (SV.bn (SV.tn (SV.region ?_)))
   refine sl 0 ms ?_
   refine sl 0 (s2 (.tmp 10) (.const ((Value.int IntKind.i64 1)))) ?_
   refine sl 0 ms ?_
   refine SV.nil (SV.tn ?_)
   refine SV.again (fun i => [0].getD i 0) (t + 1) (⟨by omega, by omega⟩) (pins hE rfl rfl) (VS.le.mk' (le_put (le_put (le_put (le_new le_nil) (V.le.one rfl ⟨rfl, (gle rfl), (gle rfl)⟩)) lo) lo) trivial ⟨.inr ⟨_, _, rfl, ?ob2_0, (gle rfl)⟩, trivial⟩ (new_ob nil_ob) (fun i j hi hj e => inj_list (l := [0]) (by decide) i j hi hj e))
   case ob2_0 =>
    show some (T.seq _ _) = some (T.seq _ _)
    rw [← mkL_next htl]
    rfl
  ·skip   -- c0.F
   have hte : ¬ t < X.length := by have := mkL_len (m := runMk) (f := tRun) (q := q) ht; rw [show (mkL runMk tRun q X t).length = X.length from this] at hc0; simpa using hc0
   refine SV.exit (SV.te (SV.te (SV.bh (SV.tn (SV.seq' (SV.region ?_))))))
   refine sl 0 ms ?_
   refine sl 0 ms ?_
   refine SV.nil (SV.tn (SV.ret ?_))
   refine SV.doneM hE rfl ⟨?_, trivial⟩ (.inl rfl) ?_
   ·exact congrArg some (congrArg (T.seq _) (mkL_all hte))
   refine d1 (.sc _) Try.results37 ?_ <;> (show some (T.lit (Value.int .i64 _)) = some (T.lit (Value.int .i64 _)); rw [List.take_of_length_le (by omega)]; rfl)
set_option maxRecDepth 100000 in
set_option maxHeartbeats 2000000 in
theorem vhd_runs (X : List (List R)) (q : Int) (hq0 : 0 ≤ q) (hq1 : q + 64 * wtRuns X ≤ 100000000000000) : VC Try.prog 38 [(false, [.seq 84 ((runsMk.mark q X).map tRun)]), (false, [.lit (.int .i64 q)])] false [(false, [.lit (.int .i64 (q + (runsMk.cnt X : Nat)))])] := by
 refine VC.enter Try.func38 rfl Try.ntmps38 (gle rfl) fun E hE => ?_
 have hC := cnt_runs X
 have hlen := wt_run_len X
 have hCs : runsMk.cnt X = cntAll runMk X := rfl
 refine SV.seq' (SV.region ?_)
 refine sl 0 ms ?_
 refine SV.nil (SV.tn (SV.seq' (SV.seq' (SV.region ?_))))
 refine sl 0 ms ?_
 refine SV.nil (SV.tn (SV.block ?_))
 refine SV.loop (X := Nat) (fun t => (((VS.nil.put 0 (V.one (.ro (.seq 84 ((mkAll runMk q X).map tRun))))).put 1 (V.one (.sc (.int .i64 (q + (cntAll runMk (X.take t) : Nat)))))).put 5 (V.one (.sc (.int .i64 (t : Int)))))) (fun t => t ≤ X.length) (fun t => X.length - t) ?_ ?_
 ·skip
  refine SV.again (fun i => [].getD i 0) 0 (Nat.zero_le _) (pins hE rfl rfl) (VS.le.mk' (le_put (le_put (le_put le_nil lo) lo) lo) trivial trivial nil_ob (fun i j hi hj e => absurd hi (Nat.not_lt_zero i)))
 ·rintro t ht
  refine SV.seq' (SV.seq' (SV.region ?_))
  refine sl 0 ms ?_
  refine sl 0 (mv (V.one (.ro _))) ?_
  refine sl 0 (ok_len (lf := .ro _) rfl elt_impl_Run.und rfl rfl) ?_
  refine sl 0 (s2 (.tmp 6) (.tmp 8)) ?_
  refine SV.nil (SV.tn ?_)
  refine SV.cond rfl (fun hc0 => ?_) (fun hc0 => ?_)
  ·skip   -- c0.T
   have htl : t < X.length := by simpa [mkAll_length] using hc0
   have hx := mkAll_get runMk q X t htl
   have hcn := cntAll_next runMk X t htl
   have hct := cntAll_take runMk X (t + 1)
   have hc3 : runMk.cnt X[t] = rowsMk.cnt X[t] := rfl
   have hroom := mk_room runMk wtRun cnt_run X t htl
   have hwf : wtRuns X = wtAll wtRun X := rfl
   have hww : wtRun X[t] = wtRows X[t] := rfl
   refine SV.skip (SV.tn (SV.seq' (SV.block (SV.seq' (SV.region ?_)))))
   refine sl 0 (mv (V.one (.ro _))) ?_
   refine sl 0 ms ?_
   refine sl 0 (ok_index (n := 1) (lf := .ro _) rfl elt_impl_Run.und sz_impl_Run rfl rfl rfl (map_at (by assumption))) ?_
   refine sl 0 (ok_field_el (p := .rp _) (off := 0) rfl rfl rfl fld_impl_Run_0) ?_
   refine sl 0 (ok_load_rp (ag := false) (m := 1) (ys := [.ro _]) rfl rfl agg_s_impl_Row sz_s_impl_Row (fun _ => rfl) (gle rfl) rfl) ?_
   refine sl 0 ms ?_
   refine sm (cl [(false, [.sc _])] rfl Try.func31 (vhd_rows X[t] (q + (cntAll runMk (X.take t) : Nat)) (by omega) (by omega)) ⟨⟨[.ro _], rfl, ⟨rfl, trivial⟩⟩, ⟨[.sc _], rfl, ⟨rfl, trivial⟩⟩, trivial⟩) ?_
   refine sl 0 ms ?_
   refine SV.nil (SV.tn (SV.seq' (SV.region ?_)))
   refine sl 0 ms ?_
   refine sl 0 (s2 (.tmp 19) (.const ((Value.int IntKind.i64 0)))) ?_
   refine SV.nil (SV.tn ?_)
   refine SV.cond rfl (fun hc1 => ?_) (fun hc1 => ?_)
   ·skip   -- c1.T
    (exfalso; first | (simp at hc1; omega) | (simp [runMk] at hc1; done) | (simp [runMk] at hc1; omega))
   ·skip   -- c1.F
    refine SV.skip (SV.bn (SV.tn (SV.region ?_)))
    refine sl 0 ms ?_
    refine sl 0 (s2 (.tmp 10) (.const ((Value.int IntKind.i64 1)))) ?_
    refine sl 0 ms ?_
    refine SV.nil (SV.tn ?_)
    refine SV.again (fun i => [].getD i 0) (t + 1) (⟨by omega, by omega⟩) (pins hE rfl rfl) (VS.le.mk' (le_put (le_put (le_put le_nil lo) lo) lo) trivial trivial nil_ob (fun i j hi hj e => absurd hi (Nat.not_lt_zero i)))
  ·skip   -- c0.F
   have hte : ¬ t < X.length := by simpa [mkAll_length] using hc0
   refine SV.exit (SV.te (SV.te (SV.bh (SV.tn (SV.seq' (SV.region ?_))))))
   refine sl 0 ms ?_
   refine sl 0 ms ?_
   refine SV.nil (SV.tn (SV.ret ?_))
   refine d1 (.sc _) Try.results38 ?_ <;> (show some (T.lit (Value.int .i64 _)) = some (T.lit (Value.int .i64 _)); rw [List.take_of_length_le (by omega)]; rfl)
set_option maxRecDepth 100000 in
set_option maxHeartbeats 2000000 in
theorem veq_run (x : (List R)) (hL : wtRun x ≤ 300000000000) : VC Try.prog 96 [(true, tRun x), (true, tRun x)] false [(false, [.lit (.bool true)])] := by
 refine VC.enter Try.func96 rfl Try.ntmps96 (gle rfl) fun E hE => ?_
 have hW : wtRun x = wtRows x := rfl
 refine SV.seq' (SV.region ?_)
 refine sm (ok_box (kk := 0) (ag := true) (xs := [.ro _]) rfl rfl rfl (fun h => by cases h) rfl rfl (gle rfl)) ?_
 refine sm (ok_box (kk := 1) (ag := true) (xs := [.ro _]) rfl rfl rfl (fun h => by cases h) rfl rfl (gle rfl)) ?_
 refine sl 2 ms ?_
 refine SV.nil (SV.tn (SV.seq' (SV.seq' (SV.region ?_))))
 refine sl 2 (fb fld_impl_Run_0) ?_
 refine sl 2 (lb 0 0 [.ro _] agg_s_impl_Row sz_s_impl_Row (fun _ => rfl)) ?_
 refine sl 2 (fb fld_impl_Run_0) ?_
 refine sl 2 (lb 1 0 [.ro _] agg_s_impl_Row sz_s_impl_Row (fun _ => rfl)) ?_
 refine sm (cl [(false, [.sc _])] rfl Try.func19 (veq_rows x (by omega)) ⟨⟨[.ro _], rfl, ⟨rfl, trivial⟩⟩, ⟨[.ro _], rfl, ⟨rfl, trivial⟩⟩, trivial⟩) ?_
 refine sl 2 (s1 (.tmp 9)) ?_
 refine SV.nil (SV.tn ?_)
 refine SV.cond rfl (fun hc0 => ?_) (fun hc0 => ?_)
 ·skip   -- c0.T
  simp at hc0
 ·skip   -- c0.F
  refine SV.skip (SV.tn (SV.seq' (SV.region ?_)))
  refine sl 2 ms ?_
  refine SV.nil (SV.tn (SV.ret ?_))
  refine d1 (.sc _) Try.results96 ?_ <;> rfl
set_option maxRecDepth 100000 in
set_option maxHeartbeats 2000000 in
theorem veq_runs (X : List (List R)) (hL : wtRuns X ≤ 300000000000) : VC Try.prog 36 [(false, [.seq 84 (X.map tRun)]), (false, [.seq 84 (X.map tRun)])] false [(false, [.lit (.bool true)])] := by
 refine VC.enter Try.func36 rfl Try.ntmps36 (gle rfl) fun E hE => ?_
 have hlen := wt_run_len X
 refine SV.seq' (SV.region ?_)
 refine sl 0 ms ?_
 refine SV.nil (SV.tn (SV.seq' (SV.seq' (SV.region ?_))))
 refine sl 0 (mv (V.one (.ro _))) ?_
 refine sl 0 (ok_len (lf := .ro _) rfl elt_impl_Run.und rfl rfl) ?_
 refine sl 0 (mv (V.one (.ro _))) ?_
 refine sl 0 (ok_len (lf := .ro _) rfl elt_impl_Run.und rfl rfl) ?_
 refine sl 0 (s2 (.tmp 7) (.tmp 9)) ?_
 refine SV.nil (SV.tn ?_)
 refine SV.cond rfl (fun hc0 => ?_) (fun hc0 => ?_)
 ·skip   -- c0.T
  simp at hc0
 ·skip   -- c0.F
  refine SV.skip (SV.tn (SV.seq' (SV.seq' (SV.region ?_))))
  refine sl 0 ms ?_
  refine SV.nil (SV.tn (SV.block ?_))
  refine SV.loop (X := Nat) (fun t => (((VS.nil.put 0 (V.one (.ro (.seq 84 (X.map tRun))))).put 1 (V.one (.ro (.seq 84 (X.map tRun))))).put 5 (V.one (.sc (.int .i64 (t : Int)))))) (fun t => t ≤ X.length) (fun t => X.length - t) ?_ ?_
  ·skip
   refine SV.again (fun i => [].getD i 0) 0 (Nat.zero_le _) (pins hE rfl rfl) (VS.le.mk' (le_put (le_put (le_put le_nil lo) lo) lo) trivial trivial nil_ob (fun i j hi hj e => absurd hi (Nat.not_lt_zero i)))
  ·rintro t ht
   refine SV.seq' (SV.seq' (SV.region ?_))
   refine sl 0 ms ?_
   refine sl 0 (mv (V.one (.ro _))) ?_
   refine sl 0 (ok_len (lf := .ro _) rfl elt_impl_Run.und rfl rfl) ?_
   refine sl 0 (s2 (.tmp 11) (.tmp 13)) ?_
   refine SV.nil (SV.tn ?_)
   refine SV.cond rfl (fun hc1 => ?_) (fun hc1 => ?_)
   ·skip   -- c1.T
    have htl : t < X.length := by simpa using hc1
    have hx : X[t]? = some X[t] := by simp [htl]
    have hw := wt_run_at X t htl
    refine SV.skip (SV.tn (SV.seq' (SV.block (SV.seq' ?_))))
    refine SV.draw [.q 0, .q 1, .q 2, .q 3, .q 4, .q 5, .q 6, .q 7, .m 8, .q 9] [] (by kernel_rfl) (by kernel_rfl) ?_
    refine dq rfl (mv (V.one (.ro _))) ?_
    refine dq rfl ms ?_
    refine dq rfl (ok_index (n := 1) (lf := .ro _) rfl elt_impl_Run.und sz_impl_Run rfl rfl rfl (map_at (by assumption))) ?_
    refine dq rfl (ok_load_rp (ag := true) (m := 1) (ys := [.ro _]) rfl rfl agg_impl_Run sz_impl_Run (fun h => by cases h) (gle rfl) rfl) ?_
    refine dq rfl (mv (V.one (.ro _))) ?_
    refine dq rfl ms ?_
    refine dq rfl (ok_index (n := 1) (lf := .ro _) rfl elt_impl_Run.und sz_impl_Run rfl rfl rfl (map_at (by assumption))) ?_
    refine dq rfl (ok_load_rp (ag := true) (m := 1) (ys := [.ro _]) rfl rfl agg_impl_Run sz_impl_Run (fun h => by cases h) (gle rfl) rfl) ?_
    refine DW.m [] rfl (cl [(false, [.sc _])] rfl Try.func96 (veq_run X[t] (by omega)) ⟨⟨[.ro _], rfl, ⟨rfl, trivial⟩⟩, ⟨[.ro _], rfl, ⟨rfl, trivial⟩⟩, trivial⟩) rfl (gle rfl) (gle rfl) (.inl rfl) (fun j hj => by cases hj) ?_
    refine dq rfl (s1 (.tmp 25)) ?_
    refine DW.stores ?_
    refine SV.zend ?_
    refine SV.tn ?_
    refine SV.cond rfl (fun hc2 => ?_) (fun hc2 => ?_)
    ·skip   -- c2.T
     simp at hc2
    ·skip   -- c2.F
     refine SV.skip (SV.bn (SV.tn (SV.region ?_)))
     refine sl 0 ms ?_
     refine sl 0 (s2 (.tmp 15) (.const ((Value.int IntKind.i64 1)))) ?_
     refine sl 0 ms ?_
     refine SV.nil (SV.tn ?_)
     refine SV.again (fun i => [].getD i 0) (t + 1) (⟨by omega, by omega⟩) (pins hE rfl rfl) (VS.le.mk' (le_put (le_put (le_put le_nil lo) lo) lo) trivial trivial nil_ob (fun i j hi hj e => absurd hi (Nat.not_lt_zero i)))
   ·skip   -- c1.F
    refine SV.exit (SV.te (SV.te (SV.bh (SV.tn (SV.seq' (SV.region ?_))))))
    refine sl 0 ms ?_
    refine SV.nil (SV.tn (SV.ret ?_))
    refine d1 (.sc _) Try.results36 ?_ <;> rfl
set_option maxRecDepth 100000 in
set_option maxHeartbeats 2000000 in
theorem vto_run (x : (List R)) (hL : wtRun x ≤ 300000000000) : VC Try.prog 99 [(true, uRun x)] false [(true, tRun x)] := by
 refine VC.enter Try.func99 rfl Try.ntmps99 (gle rfl) fun E hE => ?_
 have hW : wtRun x = wtRows x := rfl
 refine SV.seq' (SV.region ?_)
 refine sm (ok_box (kk := 0) (ag := true) (xs := [.ro _]) rfl rfl rfl (fun h => by cases h) rfl rfl (gle rfl)) ?_
 refine sm (ok_alloc (kk := 1) (xs := [.nl _]) rfl rfl zero_impl_Run ⟨rfl, ⟨3, by decide, sz_impl_Row⟩, trivial⟩ rfl (gle rfl)) ?_
 refine SV.nil (SV.tn (SV.seq' (SV.region ?_)))
 refine sm (ok_alloc (kk := 2) (xs := [.nl _]) rfl rfl zero_impl_Run ⟨rfl, ⟨3, by decide, sz_impl_Row⟩, trivial⟩ rfl (gle rfl)) ?_
 refine SV.nil (SV.tn (SV.seq' (SV.region ?_)))
 refine sl 3 (fb fld_laws_Run_0) ?_
 refine sl 3 (lb 0 0 [.ro _] agg_s_laws_Row sz_s_laws_Row (fun _ => rfl)) ?_
 refine sm (cl [(false, [.hd 0])] rfl Try.func16 (vto_rows x (by omega)) ⟨⟨[.ro _], rfl, ⟨rfl, trivial⟩⟩, trivial⟩) ?_
 refine sl 3 (fb fld_impl_Run_0) ?_
 refine so (st (ag := false) [.hd 0] [.hd 0] sz_s_impl_Row (fun _ => rfl)) ?_
 refine SV.nil (SV.tn (SV.seq' (SV.region ?_)))
 refine sl 3 (lb 2 0 [.hd 0] agg_impl_Run sz_impl_Run (fun h => by cases h)) ?_
 refine so (st (ag := true) [.hd 0] [.hd 0] sz_impl_Run (fun h => by cases h)) ?_
 refine SV.nil (SV.tn (SV.ret ?_))
 apply SV.done (hf := Try.results99) (ht := rfl) (he := .inl rfl)
 case hr => exact (ResAll.cons (ResOk.cell (b := 1) (ag := true) (xs := [.hd 0]) rfl rfl agg_impl_Run sz_impl_Run (fun h => by cases h)) ResAll.nil')
 case h2 => simp [two]
 refine ⟨rfl, ⟨?_, trivial⟩, trivial⟩ <;> rfl
set_option maxRecDepth 100000 in
set_option maxHeartbeats 2000000 in
theorem vto_runs (X : List (List R)) (hL : wtRuns X ≤ 300000000000) : VC Try.prog 43 [(false, [.seq 102 (X.map uRun)])] false [(false, [.seq 84 (X.map tRun)])] := by
 refine VC.enter Try.func43 rfl Try.ntmps43 (gle rfl) fun E hE => ?_
 have hlen := wt_run_len X
 refine SV.seq' (SV.region ?_)
 refine sl 0 ms ?_
 refine SV.nil (SV.tn (SV.seq' (SV.region ?_)))
 refine sl 0 (mv (V.one (.ro _))) ?_
 refine sl 0 (ok_len (lf := .ro _) rfl elt_laws_Run.und rfl rfl) ?_
 refine sm (ok_make (kk := 0) (zs := [.nl _]) elt_impl_Run rfl rfl rfl rfl ⟨rfl, ⟨3, by decide, sz_impl_Row⟩, trivial⟩ rfl (by rw [List.length_map]; omega) rfl (gle rfl)) ?_
 refine sl 0 (mv (V.one (.hd 0))) ?_
 refine SV.nil (SV.tn (SV.seq' (SV.seq' (SV.region ?_))))
 refine sl 0 ms ?_
 refine SV.nil (SV.tn (SV.block ?_))
 refine SV.loop (X := Nat) (fun t => ((((VS.nil.new (.seq 84 (toL tRun zRun X t))).put 0 (V.one (.ro (.seq 102 (X.map uRun))))).put 3 (V.one (.hd 0))).put 4 (V.one (.sc (.int .i64 (t : Int)))))) (fun t => t ≤ X.length) (fun t => X.length - t) ?_ ?_
 ·skip
  refine SV.again (fun i => [0].getD i 0) 0 (Nat.zero_le _) (pins hE rfl rfl) (VS.le.mk' (le_put (le_put (le_put (le_new le_nil) lo) (V.le.one rfl ⟨rfl, (gle rfl), (gle rfl)⟩)) lo) trivial ⟨.inr ⟨_, _, rfl, ?ob1_0, (gle rfl)⟩, trivial⟩ (new_ob nil_ob) (fun i j hi hj e => inj_list (l := [0]) (by decide) i j hi hj e))
  case ob1_0 =>
   show some (T.seq _ _) = some (T.seq _ _)
   rw [toL_zero, List.length_map]
   rfl
 ·rintro t ht
  refine SV.seq' (SV.seq' (SV.region ?_))
  refine sl 0 ms ?_
  refine sl 0 (mv (V.one (.ro _))) ?_
  refine sl 0 (ok_len (lf := .ro _) rfl elt_laws_Run.und rfl rfl) ?_
  refine sl 0 (s2 (.tmp 8) (.tmp 10)) ?_
  refine SV.nil (SV.tn ?_)
  refine SV.cond rfl (fun hc0 => ?_) (fun hc0 => ?_)
  ·skip   -- c0.T
   have htl : t < X.length := by simpa using hc0
   have hx : X[t]? = some X[t] := by simp [htl]
   have hw := wt_run_at X t htl
   refine SV.skip (SV.tn (SV.seq' (SV.block (SV.region ?_))))
   refine sl 0 (mv (V.one (.hd 0))) ?_
   refine sl 0 ms ?_
   refine sl 0 (mv (V.one (.ro _))) ?_
   refine sl 0 ms ?_
   refine sl 0 (ok_index (n := 1) (lf := .ro _) rfl elt_laws_Run.und sz_laws_Run rfl rfl rfl (map_at (by assumption))) ?_
   refine sl 0 (ok_load_rp (ag := true) (m := 1) (ys := [.ro _]) rfl rfl agg_laws_Run sz_laws_Run (fun h => by cases h) (gle rfl) rfl) ?_
   refine sm (cl [(true, [.hd 1])] rfl Try.func99 (vto_run X[t] (by omega)) ⟨⟨[.ro _], rfl, ⟨rfl, trivial⟩⟩, trivial⟩) ?_
   refine sl 0 (ok_index (n := 1) (lf := .hd 0) rfl elt_impl_Run.und sz_impl_Run rfl rfl rfl (toL_at htl)) ?_
   refine SV.op (ok_store_ep (i := 0) (n := 1) (m := 1) (ag := true) (zs := [.hd 1]) rfl rfl rfl rfl (toL_at htl) sz_impl_Run (fun h => by cases h) rfl sz_impl_Run (gle rfl) (outs_c rfl outs_n) (by simp [two]) rfl rfl rfl) rfl ?_
   refine SV.nil (SV.bn (SV.tn (SV.region ?_)))
   refine sl 0 ms ?_
   refine sl 0 (s2 (.tmp 12) (.const ((Value.int IntKind.i64 1)))) ?_
   refine sl 0 ms ?_
   refine SV.nil (SV.tn ?_)
   refine SV.again (fun i => [0].getD i 0) (t + 1) (⟨by omega, by omega⟩) (pins hE rfl rfl) (VS.le.mk' (le_put (le_put (le_put (le_new le_nil) lo) (V.le.one rfl ⟨rfl, (gle rfl), (gle rfl)⟩)) lo) trivial ⟨.inr ⟨_, _, rfl, ?ob2_0, (gle rfl)⟩, trivial⟩ (new_ob nil_ob) (fun i j hi hj e => inj_list (l := [0]) (by decide) i j hi hj e))
   case ob2_0 =>
    show some (T.seq _ _) = some (T.seq _ _)
    rw [← toL_next htl]
    rfl
  ·skip   -- c0.F
   have hte : ¬ t < X.length := by simpa using hc0
   refine SV.exit (SV.te (SV.te (SV.bh (SV.tn (SV.seq' (SV.region ?_))))))
   refine sl 0 (mv (V.one (.hd 0))) ?_
   refine sl 0 (mv (V.one (.hd 0))) ?_
   refine SV.nil (SV.tn (SV.ret ?_))
   refine d1 (.hd 0) Try.results43 ?_ <;> (show some (T.seq _ _) = some (T.seq _ _); rw [toL_all hte])
end Go.Proofs.Ytpnbnbhifpcelaa
