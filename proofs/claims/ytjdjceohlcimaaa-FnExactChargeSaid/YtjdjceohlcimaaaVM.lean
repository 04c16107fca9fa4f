/- States told by trees: contracts of functions that write into what they are handed, and their calls. -/
import Derived.Test.YtjdjceohlcimaaaVB
namespace Go.Proofs.Ytjdjceohlcimaaa.V
open Go Go.RowKit
set_option linter.unusedVariables false
/-- An argument's cell: it may be read; or it is a lent object. -/
inductive AC where
  | rd (t : T)
  | ln (i : Nat)
def AC.leaf : AC → Leaf
  | .rd t => argLeaf t
  | .ln i => .hd i
def Env.lend (w : World) (lv : Nat → Value) (F : Nat → Nat → Prop) (n : Nat) (hF : ∀ i b, i < n → F i b → b < w.heap.size) : Env := ⟨w, fun b => ∃ i, i < n ∧ F i b, fun b ⟨i, h1, h2⟩ => hF i b h1 h2, lv, n, none⟩
def ArgsM (E : Env) (ins : List (Bool × List AC)) (vs : List Value) : Prop :=
  vs.length = ins.length ∧ ∀ (c : Nat) (ag : Bool) (ts : List AC) (v : Value), ins[c]? = some (ag, ts) → vs[c]? = some v → ∃ us : List Value, v = cval ag us ∧ us.length = ts.length ∧ ∀ (j : Nat) (x : AC) (u : Value), ts[j]? = some x → us[j]? = some u → match x with
    | .rd t => Inn E.old E.w0 t u
    | .ln i => i < E.nl ∧ u = E.lv i
/-- The lent objects are these trees, apart from each other. -/
def Lents (E : Env) (ls : List T) (w' : World) : Prop :=
  ∃ F : Nat → Nat → Prop, (∀ i t, ls[i]? = some t → Own w' 0 t (E.lv i) (F i)) ∧ (∀ i j b, i < ls.length → j < ls.length → i ≠ j → F i b → ¬ F j b) ∧ ∀ i b, i < ls.length → F i b → (E.B ≤ b ∨ E.ln b) ∧ b < w'.heap.size
/-- The call yields v, and turns the lent objects from ls into ls', whatever the memory. -/
def VM (P : Program) (f : FuncId) (ins : List (Bool × List AC)) (ls ls' : List T) (v : Value) : Prop :=
  ∀ (w : World) (lv : Nat → Value) (F : Nat → Nat → Prop) (hF : ∀ i b, i < ls.length → F i b → b < w.heap.size) (vs : List Value), (∀ i t, ls[i]? = some t → Own w 0 t (lv i) (F i) ∧ ∃ ty es, t = .seq ty es) → (∀ i j b, i < ls.length → j < ls.length → i ≠ j → F i b → ¬ F j b) → ArgsM (Env.lend w lv F ls.length hF) ins vs →
    Calls P f vs.toArray w fun e w' => Gives (Env.lend w lv F ls.length hF) false [(false, [.lit v])] e w' ∧ Lents (Env.lend w lv F ls.length hF) ls' w'
def VS.initM (vs : List V) (ls : List T) : VS := ⟨fun s => vs.getD s (V.one .dead), [], fun i => (ls[i]?).map fun t => (0, t), ls.length⟩
theorem init_relM {E : Env} {ins : List (Bool × List AC)} {ls : List T} {F : Nat → Nat → Prop} {vs : List Value} {n : Nat} (hE : E.plain ls.length) (hl : ∀ i t, ls[i]? = some t → Own E.w0 0 t (E.lv i) (F i) ∧ ∃ ty es, t = .seq ty es) (hd : ∀ i j b, i < ls.length → j < ls.length → i ≠ j → F i b → ¬ F j b)
    (hF : ∀ i b, i < ls.length → F i b → (E.B ≤ b ∨ E.ln b) ∧ b < E.w0.heap.size) (h : ArgsM E ins vs) (hn : vs.length ≤ n) : ∃ G, Rel E n (VS.initM (ins.map fun p => V.flat p.1 (p.2.map AC.leaf)) ls) { tmps := vs.toArray ++ Array.replicate (n - vs.length) undef, defers := [] } E.w0 G := by
  have hob : ∀ i ver t, (VS.initM (ins.map fun p => V.flat p.1 (p.2.map AC.leaf)) ls).ob i = some (ver, t) → ls[i]? = some t := fun i ver t hi => by
    obtain ⟨s, h1, h2⟩ := Option.map_eq_some_iff.1 hi
    cases h2
    exact h1
  have hlt : ∀ i, (VS.initM (ins.map fun p => V.flat p.1 (p.2.map AC.leaf)) ls).ob i ≠ none → i < ls.length := fun i hi => by
    obtain ⟨⟨v, t⟩, hv⟩ := Option.ne_none_iff_exists'.1 hi
    exact get_lt (hob i v t hv)
  refine ⟨⟨fun _ => 0, E.lv, F⟩, Same.refl _ _, rfl, by simp; omega, fun s => ?_, fun b ty xs hb => by simp [VS.initM] at hb, fun b b' hb => by simp [VS.initM] at hb, fun b i hb => by simp [VS.initM] at hb, fun i v t hi => ⟨get_lt (hob i v t hi), hl i t (hob i v t hi)⟩, fun i j b hi hj hij => hd i j b (hlt i hi) (hlt j hj) hij, fun i b hi hb => hF i b (hlt i hi) hb, ⟨by rw [hE.1]; exact Nat.le_refl _, fun i hi => rfl, fun c hc => by rw [hE.2] at hc; cases hc⟩⟩
  show VHolds _ _ _ E.w0 ((ins.map fun p => V.flat p.1 (p.2.map AC.leaf)).getD s (V.one .dead)) _
  rcases Nat.lt_or_ge s ins.length with hs | hs
  · obtain ⟨p, hp⟩ : ∃ p, ins[s]? = some p := ⟨ins[s], List.getElem?_eq_getElem hs⟩
    obtain ⟨ag, ts⟩ := p
    have hsv : s < vs.length := by rw [h.1]; exact hs
    obtain ⟨us, h1, h2, h3⟩ := h.2 s ag ts vs[s] hp (List.getElem?_eq_getElem hsv)
    have e1 : (ins.map fun p => V.flat p.1 (p.2.map AC.leaf)).getD s (V.one .dead) = V.flat ag (ts.map AC.leaf) := by simp [List.getD, hp]
    have e2 : (vs.toArray ++ Array.replicate (n - vs.length) undef).getD s undef = vs[s] := by
      simp only [Array.getD_eq_getD_getElem?]
      rw [Array.getElem?_append_left (by simpa using hsv)]
      simp [hsv]
    rw [e1]
    show VHolds _ _ _ E.w0 _ ((vs.toArray ++ Array.replicate (n - vs.length) undef).getD s undef)
    rw [e2, vflat]
    refine ⟨us, h1, by simp [h2], fun j x u hj hu => ?_⟩
    have hjt : j < ts.length := by have := get_lt hj; simpa using this
    have hx : x = AC.leaf ts[j] := by
      rw [List.getElem?_map, List.getElem?_eq_getElem hjt] at hj
      exact (Option.some.inj hj).symm
    have hin := h3 j ts[j] u (List.getElem?_eq_getElem hjt) hu
    rw [hx]
    cases hc : ts[j] with
    | ln i =>
      rw [hc] at hin
      obtain ⟨h4, h5⟩ := hin
      have h4' : i < ls.length := by rw [← hE.1]; exact h4
      exact ⟨⟨h4', h5⟩, .inr (by rw [h5]; exact (hl i ls[i] (List.getElem?_eq_getElem h4')).1.one)⟩
    | rd t =>
      rw [hc] at hin
      cases t with
      | any => exact ⟨trivial, .inl rfl⟩
      | lit v =>
        replace hin : Inn E.old E.w0 (.lit v) u := hin
        cases hin with
        | lit hv => exact ⟨rfl, .inr hv⟩
      | seq ty es => exact ⟨hin, .inr (Inn.one hin)⟩
  · have e1 : (ins.map fun p => V.flat p.1 (p.2.map AC.leaf)).getD s (V.one .dead) = V.one .dead := by simp [List.getD, hs]
    rw [e1, vone]
    exact ⟨trivial, .inl rfl⟩
theorem VM.enter {P : Program} {f : FuncId} {fn : Func} {c : Go.Code} {n : Nat} {ins : List (Bool × List AC)} {ls ls' : List T} {v : Value} {m : Nat} (hm : ls.length = m) (hf : P.funcs[f]? = some fn) (hb : fn.body = some c) (hn : fn.ntmps = n) (hl : ins.length ≤ n)
    (h : ∀ E, E.plain m → SV E n (VS.initM (ins.map fun p => V.flat p.1 (p.2.map AC.leaf)) ls) (c.wp P (bodyPost P fn fun e w' => Gives E false [(false, [.lit v])] e w' ∧ Lents E ls' w'))) : VM P f ins ls ls' v := fun w lv F hF vs h1 h2 hv => by
  refine calls_of_wp hf hb ?_
  obtain ⟨G, hG⟩ := init_relM (E := Env.lend w lv F ls.length hF) (F := F) ⟨rfl, rfl⟩ h1 h2 (fun i b hi hb => ⟨.inr ⟨i, hi, hb⟩, hF i b hi hb⟩) hv (n := n) (by rw [hv.1]; exact hl)
  have := h (Env.lend w lv F ls.length hF) ⟨hm, rfl⟩ _ _ G hG
  rw [hn]
  have e : (Env.lend w lv F ls.length hF).w0 = w := rfl
  rw [e] at this
  simpa using this
variable {P : Program} {E : Env} {N : Nat} {σ σ' : VS} {o : Oper} {a : Act} {w : World} {G : Ghost}
/-- The lent objects' trees, in their order. -/
def VS.lentOk (σ : VS) : Nat → List T → Prop
  | _, [] => True
  | i, t :: ts => (σ.ob i).map (·.2) = some t ∧ σ.lentOk (i + 1) ts
theorem VS.lentOk.get : ∀ {ts : List T} {i : Nat}, σ.lentOk i ts → ∀ k t, ts[k]? = some t → ∃ v, σ.ob (i + k) = some (v, t)
  | t :: ts, i, h, 0, s, hk => by
    cases hk
    obtain ⟨⟨v, t'⟩, h1, h2⟩ := Option.map_eq_some_iff.1 h.1
    exact ⟨v, by rw [Nat.add_zero, h1]; exact congrArg (fun x => some (v, x)) h2⟩
  | t :: ts, i, h, k + 1, s, hk => by
    have := VS.lentOk.get h.2 k s (by simpa using hk)
    rwa [Nat.add_assoc, Nat.add_comm 1 k] at this
theorem Rel.lents (h : Rel E N σ a w G) {ls : List T} (hE : E.nl = ls.length) (hl : σ.lentOk 0 ls) : Lents E ls w := by
  have hg : ∀ i t, ls[i]? = some t → ∃ v, σ.ob i = some (v, t) := fun i t hi => by
    have := hl.get i t hi
    rwa [Nat.zero_add] at this
  have hne : ∀ i, i < ls.length → σ.ob i ≠ none := fun i hi => by
    obtain ⟨v, h1⟩ := hg i ls[i] (List.getElem?_eq_getElem hi)
    rw [h1]; simp
  refine ⟨G.ft, fun i t hi => ?_, fun i j b hi hj hij => h.disj i j b (hne i hi) (hne j hj) hij, fun i b hi hb => h.ftlt i b (hne i hi) hb⟩
  obtain ⟨v, h1⟩ := hg i t hi
  rw [← h.lent.2.1 i (by rw [hE]; exact get_lt hi)]
  exact (h.objs i v t h1).2.1
theorem SV.doneM {fn : Func} {ls : List T} {e : Exit} {R : Ending → World → Prop} {m : Nat} (hE : E.plain m) (hm : ls.length = m) (hl : σ.lentOk 0 ls) (he : e = .ret ∨ e = .normal) (h : SV E N σ (bodyPost P fn R e)) : SV E N σ (bodyPost P fn (fun e w' => R e w' ∧ Lents E ls w') e) := fun a w G hr => by
  have h1 := h a w G hr
  have h2 := hr.lents (hE.1.trans hm.symm) hl
  rcases he with rfl | rfl
  all_goals
    obtain ⟨h3, v, h4, h5⟩ := h1
    exact ⟨h3, v, h4, h5, h2⟩
/-! ### Calls -/
/-- Arguments' cells: scalars, and places that are lent. -/
def VS.argM (ps : List Leaf) : List Leaf → List AC → Prop
  | [], [] => True
  | x :: xs, .rd t :: ts => (∃ u, t = .lit u ∧ x = .sc u) ∧ VS.argM ps xs ts
  | x :: xs, .ln i :: ts => ps[i]? = some x ∧ VS.argM ps xs ts
  | _, _ => False
theorem argM_get {ps : List Leaf} : ∀ {xs : List Leaf} {ts : List AC}, VS.argM ps xs ts → xs.length = ts.length ∧ ∀ (j : Nat) (t : AC), ts[j]? = some t → ∃ x, xs[j]? = some x ∧ match t with
    | .rd t => ∃ u, t = .lit u ∧ x = .sc u
    | .ln i => ps[i]? = some x
  | [], [], _ => ⟨rfl, fun j t h => by simp at h⟩
  | x :: xs, .rd t :: ts, h => by
    obtain ⟨h1, h2⟩ := argM_get h.2
    refine ⟨by simp [h1], fun j s hj => ?_⟩
    cases j with
    | zero => cases hj; exact ⟨x, rfl, h.1⟩
    | succ j => exact h2 j s (by simpa using hj)
  | x :: xs, .ln i :: ts, h => by
    obtain ⟨h1, h2⟩ := argM_get h.2
    refine ⟨by simp [h1], fun j s hj => ?_⟩
    cases j with
    | zero => cases hj; exact ⟨x, rfl, h.1⟩
    | succ j => exact h2 j s (by simpa using hj)
def VS.argsM (σ : VS) (ps : List Leaf) : List Operand → List (Bool × List AC) → Prop
  | [], [] => True
  | x :: xs, q :: qs => (∃ ls, σ.ev x = V.flat q.1 ls ∧ VS.argM ps ls q.2) ∧ σ.argsM ps xs qs
  | _, _ => False
theorem Rel.argsM (h : Rel E N σ a w G) {ps : List Leaf} {E' : Env} (hps : ∀ i x u, ps[i]? = some x → Holds G σ E w x u → i < E'.nl ∧ u = E'.lv i) : ∀ {xs : List Operand} {qs : List (Bool × List AC)}, σ.argsM ps xs qs → ArgsM E' qs (xs.map a.eval)
  | [], [], _ => ⟨rfl, fun c ag ts v hc => by simp at hc⟩
  | x :: xs, q :: qs, hq => by
    obtain ⟨⟨ls, h1, h2⟩, h3⟩ := hq
    obtain ⟨h4, h5⟩ := h.argsM hps h3
    refine ⟨by simpa using h4, fun c ag ts v hc hv => ?_⟩
    cases c with
    | zero =>
      cases hc
      cases hv
      have h6 := h.ev x
      rw [h1, vflat] at h6
      obtain ⟨us, h7, h8, h9⟩ := h6
      obtain ⟨h10, h11⟩ := argM_get h2
      refine ⟨us, h7, h8.trans h10, fun j t u hj hu => ?_⟩
      obtain ⟨y, h12, h13⟩ := h11 j t hj
      have h14 := h9 j y u h12 hu
      cases t with
      | ln i => exact hps i y u h13 h14
      | rd t =>
        obtain ⟨z, rfl, rfl⟩ := h13
        rcases h14.2 with h15 | h15
        · cases h15
        · have h16 : u = z := h14.1
          rw [h16] at h15 ⊢
          exact .lit h15
    | succ c => exact h5 c ag ts v (by simpa using hc) (by simpa using hv)
theorem Gives.lit {v : Value} {e : Ending} {w' : World} (h : Gives E false [(false, [.lit v])] e w') : e = .returned v ∧ Same E E.w0 w' := by
  obtain ⟨uss, F, h1, h2, h3, -, -, h4⟩ := h
  match uss, h1 with
  | [us], _ =>
    obtain ⟨h5, h6⟩ := h3 0 false [.lit v] us rfl rfl
    match us, h5 with
    | [u], _ =>
      have h7 := h6 0 (.lit v) u rfl rfl
      cases h7 with
      | lit h8 => exact ⟨h2, h4⟩
/-- An object's tree is another one. -/
def VS.setob (σ : VS) (i : Nat) (t : T) : VS := { σ with ob := fun k => bif Nat.beq k i then (σ.ob i).map (fun p => (p.1 + 1, t)) else σ.ob k }
def VS.setobs (σ : VS) : List Nat → List T → VS
  | i :: is, t :: ts => (σ.setob i t).setobs is ts
  | _, _ => σ
theorem setob_self {i : Nat} {t : T} : (σ.setob i t).ob i = (σ.ob i).map fun p => (p.1 + 1, t) := by show (bif Nat.beq i i then _ else _) = _; rw [Nat.beq_refl]; rfl
theorem setob_ne {i k : Nat} {t : T} (h : k ≠ i) : (σ.setob i t).ob k = σ.ob k := by show (bif Nat.beq k i then _ else _) = _; rw [nbne h]; rfl
theorem setobs_same : ∀ {is : List Nat} {ts : List T} {σ : VS}, (σ.setobs is ts).tm = σ.tm ∧ (σ.setobs is ts).bs = σ.bs ∧ (σ.setobs is ts).nx = σ.nx
  | [], _, _ => ⟨rfl, rfl, rfl⟩
  | _ :: _, [], _ => ⟨rfl, rfl, rfl⟩
  | i :: is, t :: ts, σ => setobs_same (is := is) (ts := ts) (σ := σ.setob i t)
theorem setobs_far : ∀ {is : List Nat} {ts : List T} {σ : VS} {k : Nat}, k ∉ is → (σ.setobs is ts).ob k = σ.ob k
  | [], _, _, _, _ => rfl
  | _ :: _, [], _, _, _ => rfl
  | i :: is, t :: ts, σ, k, h => by
    rw [show σ.setobs (i :: is) (t :: ts) = (σ.setob i t).setobs is ts from rfl, setobs_far (fun hk => h (List.mem_cons_of_mem _ hk)), setob_ne fun e => h (by rw [e]; exact List.mem_cons_self ..)]
theorem setobs_at : ∀ {is : List Nat} {ts : List T} {σ : VS} {q k : Nat} {t : T}, is.Nodup → is[q]? = some k → ts[q]? = some t → (σ.setobs is ts).ob k = (σ.ob k).map fun p => (p.1 + 1, t)
  | i :: is, s :: ts, σ, 0, k, t, hn, hk, ht => by
    cases hk
    cases ht
    rw [show σ.setobs (i :: is) (s :: ts) = (σ.setob i s).setobs is ts from rfl, setobs_far (List.nodup_cons.1 hn).1, setob_self]
  | i :: is, s :: ts, σ, q + 1, k, t, hn, hk, ht => by
    have hk' : is[q]? = some k := by simpa using hk
    have hne : k ≠ i := fun e => (List.nodup_cons.1 hn).1 (by rw [← e]; exact get_mem hk')
    rw [show σ.setobs (i :: is) (s :: ts) = (σ.setob i s).setobs is ts from rfl, setobs_at (List.nodup_cons.1 hn).2 hk' (by simpa using ht), setob_ne hne]
/-- What an object may be lent as. -/
def VS.lentIs (σ : VS) : List Nat → List T → List T → Prop
  | [], [], [] => True
  | i :: is, t :: ts, t' :: ts' => ((∃ v, σ.ob i = some (v, t)) ∧ (∃ ty es, t' = .seq ty es)) ∧ σ.lentIs is ts ts'
  | _, _, _ => False
theorem lentIs_get : ∀ {is : List Nat} {ts ts' : List T}, σ.lentIs is ts ts' → is.length = ts.length ∧ ts'.length = ts.length ∧ ∀ (q : Nat) (t : T), ts[q]? = some t → ∃ (i v : Nat) (t' : T), is[q]? = some i ∧ ts'[q]? = some t' ∧ σ.ob i = some (v, t) ∧ ∃ ty es, t' = .seq ty es
  | [], [], [], _ => ⟨rfl, rfl, fun q t h => by simp at h⟩
  | i :: is, t :: ts, t' :: ts', h => by
    obtain ⟨⟨⟨v, h1⟩, h2⟩, h3⟩ := h
    obtain ⟨h4, h5, h6⟩ := lentIs_get h3
    refine ⟨by simp [h4], by simp [h5], fun q s hq => ?_⟩
    cases q with
    | zero => cases hq; exact ⟨i, v, t', rfl, rfl, h1, h2⟩
    | succ q => exact h6 q s (by simpa using hq)
/-- A call that writes into objects of the caller's. -/
theorem ok_callM {d : Nat} {f : FuncId} {xs : List Operand} {ats : Array TypeId} {ins : List (Bool × List AC)} {ls ls' : List T} {v : Value} {is : List Nat} (ho : o.op = .call { callee := .value (.func f), args := xs.toArray, argTypes := ats }) (hb : ∃ fn c, P.funcs[f]? = some fn ∧ fn.body = some c ∧ fn.name ≠ "runtime.NumGoroutine")
    (hc : VM P f ins ls ls' v) (hx : σ.argsM (is.map .hd) xs ins) (hi : σ.lentIs is ls ls') (hnd : is.Nodup) (hv : v.oneCell' = true) (hd : o.dst = some d) (hdN : d < N) : OpOk P E N σ o ((σ.setobs is ls').put d (V.one (.sc v))) :=
  fun a w G K Q h k => by
    obtain ⟨fn, c, h1, h2, h2'⟩ := hb
    obtain ⟨l1, l2, l3⟩ := lentIs_get hi
    obtain ⟨F, hFd⟩ : ∃ F : Nat → Nat → Prop, F = fun q => G.ft (is.getD q 0) := ⟨_, rfl⟩
    obtain ⟨lv, hlv⟩ : ∃ lv : Nat → Value, lv = fun q => G.vl (is.getD q 0) := ⟨_, rfl⟩
    have hat : ∀ q i, is[q]? = some i → F q = G.ft i ∧ lv q = G.vl i := fun q i hq => by rw [hFd, hlv]; simp [List.getD, hq]
    have hin : ∀ q, q < ls.length → ∃ i ver t t', is[q]? = some i ∧ ls[q]? = some t ∧ ls'[q]? = some t' ∧ σ.ob i = some (ver, t) ∧ (∃ ty es, t' = .seq ty es) ∧ F q = G.ft i ∧ lv q = G.vl i := fun q hq => by
      obtain ⟨i, ver, t', e1, e2, e3, e4⟩ := l3 q ls[q] (List.getElem?_eq_getElem hq)
      exact ⟨i, ver, ls[q], t', e1, List.getElem?_eq_getElem hq, e2, e3, e4, hat q i e1⟩
    have hF : ∀ q b, q < ls.length → F q b → (E.B ≤ b ∨ E.ln b) ∧ b < w.heap.size := fun q b hq hb => by
      obtain ⟨i, ver, t, t', e1, e2, e3, e4, e5, e6, e7⟩ := hin q hq
      rw [e6] at hb
      exact h.ftlt i b (by rw [e4]; simp) hb
    have hinj : ∀ q q' i, is[q]? = some i → is[q']? = some i → q = q' := fun q q' i h1 h2 => by
      rcases Nat.lt_trichotomy q q' with hlt | he | hgt
      · exact absurd rfl (by
          have := (List.pairwise_iff_getElem.1 hnd) q q' (get_lt h1) (get_lt h2) hlt
          rw [List.getElem?_eq_getElem (get_lt h1)] at h1
          rw [List.getElem?_eq_getElem (get_lt h2)] at h2
          rw [Option.some.inj h1, Option.some.inj h2] at this
          exact this)
      · exact he
      · exact absurd rfl (by
          have := (List.pairwise_iff_getElem.1 hnd) q' q (get_lt h2) (get_lt h1) hgt
          rw [List.getElem?_eq_getElem (get_lt h1)] at h1
          rw [List.getElem?_eq_getElem (get_lt h2)] at h2
          rw [Option.some.inj h1, Option.some.inj h2] at this
          exact this)
    have hcall := hc w lv F (fun q b hq hb => (hF q b hq hb).2) (xs.map a.eval) (fun q t hq => by
      obtain ⟨i, ver, t', e1, e2, e3, e4⟩ := l3 q t hq
      obtain ⟨-, e5, e6⟩ := h.objs i ver t e3
      rw [(hat q i e1).1, (hat q i e1).2]
      exact ⟨e5, e6⟩) (fun q q' b hq hq' hne hb => by
      obtain ⟨i, ver, t, t', e1, e2, e3, e4, e5, e6, e7⟩ := hin q hq
      obtain ⟨i', ver', s, s', f1, f2, f3, f4, f5, f6, f7⟩ := hin q' hq'
      rw [e6] at hb
      rw [f6]
      refine h.disj i i' b (by rw [e4]; simp) (by rw [f4]; simp) (fun e => hne ?_) hb
      subst e
      exact hinj q q' i e1 f1) (h.argsM (fun q x u hq hu => by
      rw [List.getElem?_map] at hq
      obtain ⟨i, e1, e2⟩ := Option.map_eq_some_iff.1 hq
      subst e2
      exact ⟨by show q < ls.length; rw [← l1]; exact get_lt e1, by rw [hu.1.2]; exact (hat q i e1).2.symm⟩) hx)
    have hrun : (execOp a.eval o).run P w = .ok (.enter f (xs.map a.eval).toArray) w := by
      simp [execOp, ho, resolve, Act.eval, Deferred.ofValue, invoke, callFunc, h1, h2, h2', Result.andThen]
    unfold Oper.wp
    rw [hrun]
    refine hcall.mono fun e w' ⟨hg, F', o', d', l'⟩ => ?_
    obtain ⟨he, hsame⟩ := hg.lit
    subst he
    have hsm : Same E w w' := ⟨hsame.os, hsame.tape, hsame.output, hsame.size, fun b hb => hsame.block b ⟨Nat.lt_of_lt_of_le hb.1 h.low, fun ⟨q, hq, hqb⟩ => (hF q b hq hqb).1.elim (fun h1 => by have := hb.1; omega) hb.2⟩⟩
    obtain ⟨s1, s2, s3⟩ := setobs_same (is := is) (ts := ls') (σ := σ)
    have hmem : ∀ i, i ∈ is → ∃ q t t' ver, is[q]? = some i ∧ ls[q]? = some t ∧ ls'[q]? = some t' ∧ σ.ob i = some (ver, t) ∧ (∃ ty es, t' = .seq ty es) ∧ (σ.setobs is ls').ob i = some (ver + 1, t') := fun i hi => by
      obtain ⟨q, hq, rfl⟩ := List.getElem_of_mem hi
      obtain ⟨i', ver, t, t', e1, e2, e3, e4, e5, -⟩ := hin q (by omega)
      have : is[q] = i' := by rw [List.getElem?_eq_getElem hq] at e1; exact Option.some.inj e1
      subst this
      exact ⟨q, t, t', ver, e1, e2, e3, e4, e5, by rw [setobs_at hnd e1 e3, e4]; rfl⟩
    have hturn := h.turn (σ' := σ.setobs is ls') (w' := w') (G' := ⟨G.β, G.vl, fun i b => (i ∉ is ∧ G.ft i b) ∨ ∃ q, is[q]? = some i ∧ F' q b⟩) (fun b => ∃ q, q < ls.length ∧ F q b) s1 s2 rfl hsm (fun b hb hnD => hsame.block b ⟨hb, hnD⟩) (fun b hb ⟨q, hq, hqb⟩ => by
      obtain ⟨i, ver, t, t', e1, e2, e3, e4, e5, e6, e7⟩ := hin q hq
      rw [e6] at hqb
      exact h.boxft b i hb (by rw [e4]; simp) hqb) (Nat.le_of_eq s3.symm) (fun i hi => rfl) (fun i v' t' hv' => ?_) (fun i j b hi hj hij hbi hbj => ?_)
    · rw [hd]
      exact k _ _ _ (hturn.1.put hdN (vone.2 ⟨rfl, .inr hv⟩))
    · by_cases him : i ∈ is
      · obtain ⟨q, t, t2, ver, e1, e2, e3, e4, e5, e6⟩ := hmem i him
        rw [e6] at hv'
        cases hv'
        have hq := get_lt e3
        have hqi : ∀ b, ((i ∉ is ∧ G.ft i b) ∨ ∃ q, is[q]? = some i ∧ F' q b) → F' q b := fun b hb => by
          rcases hb with ⟨hb, -⟩ | ⟨q', f1, f2⟩
          · exact absurd him hb
          · rw [hinj q q' i e1 f1]; exact f2
        refine .inr ⟨by rw [s3]; exact (h.objs i ver t e4).1, fun _ => ⟨ver, t, e4, Nat.lt_succ_self _⟩, ?_, e5, fun b hb => ?_, fun b hb c hc e => ?_⟩
        · have := o' q t' e3
          rw [show (Env.lend w lv F ls.length _).lv q = G.vl i from (hat q i e1).2] at this
          exact this.mono fun b hb => .inr ⟨q, e1, hb⟩
        · obtain ⟨m1, m2⟩ := l' q b hq (hqi b hb)
          refine ⟨?_, m2⟩
          rcases m1 with m1 | ⟨q', m1, m3⟩
          · exact .inl (Nat.le_trans h.low m1)
          · exact (hF q' b m1 m3).1
        · obtain ⟨m1, m2⟩ := l' q b hq (hqi b hb)
          rcases m1 with m1 | ⟨q', m1, m3⟩
          · exact (h.fresh m1).2 c hc e
          · obtain ⟨i', ver', s, s', f1, f2, f3, f4, f5, f6, f7⟩ := hin q' m1
            rw [f6, ← e] at m3
            exact h.boxft c i' hc (by rw [f4]; simp) m3
      · rw [setobs_far him] at hv'
        refine .inl ⟨hv', fun b => ⟨fun hb => ?_, fun hb => .inl ⟨him, hb⟩⟩, fun b hb ⟨q, hq, hqb⟩ => ?_⟩
        · rcases hb with hb | ⟨q, f1, -⟩
          · exact hb.2
          · exact absurd (get_mem f1) him
        · obtain ⟨i', ver', s, s', f1, f2, f3, f4, f5, f6, f7⟩ := hin q hq
          rw [f6] at hqb
          exact h.disj i i' b (by rw [hv']; simp) (by rw [f4]; simp) (fun e => him (by rw [e]; exact get_mem f1)) hb hqb
    · have key : ∀ i q b, is[q]? = some i → F' q b → ∀ j, j ∉ is → σ.ob j ≠ none → ¬ G.ft j b := fun i q b e1 e2 j hj1 hj2 hjb => by
        have hq : q < ls'.length := by have := get_lt e1; omega
        obtain ⟨m1, m2⟩ := l' q b hq e2
        rcases m1 with m1 | ⟨q', m1, m3⟩
        · have := (h.ftlt j b hj2 hjb).2
          have m1' : w.heap.size ≤ b := m1
          omega
        · obtain ⟨i', ver', s, s', f1, f2, f3, f4, f5, f6, f7⟩ := hin q' m1
          rw [f6] at m3
          exact h.disj j i' b hj2 (by rw [f4]; simp) (fun e => hj1 (by rw [e]; exact get_mem f1)) hjb m3
      rcases hbi with ⟨hi1, hi2⟩ | ⟨q, hi1, hi2⟩ <;> rcases hbj with ⟨hj1, hj2⟩ | ⟨q', hj1, hj2⟩
      · rw [setobs_far hi1] at hi
        rw [setobs_far hj1] at hj
        exact h.disj i j b hi hj hij hi2 hj2
      · rw [setobs_far hi1] at hi
        exact key j q' b hj1 hj2 i hi1 hi hi2
      · rw [setobs_far hj1] at hj
        exact key i q b hi1 hi2 j hj1 hj hj2
      · have hq : q < ls'.length := by have := get_lt hi1; omega
        have hq' : q' < ls'.length := by have := get_lt hj1; omega
        exact d' q q' b hq hq' (fun e => hij (by subst e; rw [hi1] at hj1; exact Option.some.inj hj1)) hi2 hj2
end Go.Proofs.Ytjdjceohlcimaaa.V
