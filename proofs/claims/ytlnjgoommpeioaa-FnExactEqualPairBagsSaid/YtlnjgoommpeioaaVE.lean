/- States told by trees: how a call answers. -/
import Derived.Test.YtlnjgoommpeioaaVC
namespace Go.Proofs.Ytlnjgoommpeioaa.V
open Go Go.RowKit
set_option linter.unusedVariables false

/-- The datum that a leaf hands over. -/
def VS.out (σ : VS) : Leaf → Option T
  | .sc u => some (.lit u)
  | .nl ty => some (.seq ty [])
  | .hd i => (σ.ob i).map (·.2)
  | _ => none
def VS.outs (σ : VS) : List Leaf → List T → Prop
  | [], [] => True
  | x :: xs, t :: ts => σ.out x = some t ∧ σ.outs xs ts
  | _, _ => False
def VS.outss (σ : VS) : List (Bool × List Leaf) → List (Bool × List T) → Prop
  | [], [] => True
  | p :: ps, q :: qs => p.1 = q.1 ∧ σ.outs p.2 q.2 ∧ σ.outss ps qs
  | _, _ => False
theorem outs_get {σ : VS} : ∀ {xs : List Leaf} {ts : List T}, σ.outs xs ts → xs.length = ts.length ∧ ∀ (j : Nat) (t : T), ts[j]? = some t → ∃ x, xs[j]? = some x ∧ σ.out x = some t
  | [], [], _ => ⟨rfl, fun j t h => by simp at h⟩
  | x :: xs, t :: ts, h => by
    obtain ⟨h1, h2⟩ := outs_get h.2
    refine ⟨by simp [h1], fun j y hj => ?_⟩
    cases j with
    | zero => cases hj; exact ⟨x, rfl, h.1⟩
    | succ j => exact h2 j y (by simpa using hj)
theorem outss_get {σ : VS} : ∀ {ps : List (Bool × List Leaf)} {qs : List (Bool × List T)}, σ.outss ps qs → ps.length = qs.length ∧ ∀ (c : Nat) (ag : Bool) (ts : List T), qs[c]? = some (ag, ts) → ∃ xs, ps[c]? = some (ag, xs) ∧ σ.outs xs ts
  | [], [], _ => ⟨rfl, fun j a t h => by simp at h⟩
  | p :: ps, q :: qs, h => by
    obtain ⟨h1, h2⟩ := outss_get h.2.2
    refine ⟨by simp [h1], fun c ag ts hc => ?_⟩
    cases c with
    | zero =>
      cases hc
      obtain ⟨ag', xs⟩ := p
      have : ag' = ag := h.1
      subst this
      exact ⟨xs, rfl, h.2.1⟩
    | succ c => exact h2 c ag ts (by simpa using hc)
theorem outs_c {σ : VS} {x : Leaf} {xs : List Leaf} {t : T} {ts : List T} (h : σ.out x = some t) (k : σ.outs xs ts) : σ.outs (x :: xs) (t :: ts) := ⟨h, k⟩
theorem outs_n {σ : VS} : σ.outs [] [] := trivial
/-- Two leaves do not hand over the same object. -/
def two (x y : Leaf) : Prop := ∀ i, x = .hd i → y ≠ .hd i
def Leaf.foot (G : Ghost) : Leaf → Nat → Prop
  | .hd i => G.ft i
  | _ => fun _ => False
variable {P : Program} {E : Env} {N : Nat} {σ : VS} {a : Act} {w : World} {G : Ghost}
theorem Rel.out (h : Rel E N σ a w G) {x : Leaf} {u : Value} {t : T} (hx : Holds G σ E w x u) (ht : σ.out x = some t) : Own w 0 t u (x.foot G) := by
  cases x with
  | sc v =>
    cases ht
    rcases hx.2 with h2 | h2
    · cases h2
    · rw [show u = v from hx.1] at h2 ⊢
      exact .lit h2
  | nl ty =>
    cases ht
    obtain ⟨⟨h1, n, h2, h3⟩, -⟩ := hx
    rw [h1]
    exact Own.seq (es := []) n h2 h3 (fun e he => by cases he) [] (World.ownsRow_nil _ _ _ _) (fun _ _ => False) (fun k e j t u h => by simp at h) (fun u hu => by cases hu) (fun b hb => by cases hb) (fun i b hb => hb.elim) (fun i b hb => hb.elim) fun i j b hb => hb.elim
  | hd i =>
    obtain ⟨⟨ver, s⟩, h1, h2⟩ := Option.map_eq_some_iff.1 ht
    obtain ⟨-, h3, -⟩ := h.objs i ver s h1
    have h2' : s = t := h2
    subst h2'
    rw [hx.1.2]
    exact h3
  | dead => cases ht
  | ro t => cases ht
  | rp es => cases ht
  | nd i v t l => cases ht
  | np i v es => cases ht
  | ep i k n o => cases ht
  | bp b o => cases ht
/-- What a result's place holds. -/
def ResOk (P : Program) (σ : VS) (rv : ResultVar) (ag : Bool) (xs : List Leaf) : Prop := match rv with
  | .tmp t => σ.tm t = V.flat ag xs
  | .cell p ty => ∃ b ty', σ.tm p = V.one (.bp b 0) ∧ σ.bs[b]? = some (ty', xs) ∧ (∀ w, (isAgg ty).run P w = .ok ag w) ∧ (∃ inf, P.info? ty = some inf ∧ inf.size = xs.length) ∧ (ag = false → xs.length = 1)
def rvRun (tmps : Array Value) : ResultVar → Sem Value
  | .tmp t => pure (tmps.getD t undef)
  | .cell p t => do loadVar t (← asAddr (tmps.getD p undef))
theorem Rel.res (h : Rel E N σ a w G) {rv : ResultVar} {ag : Bool} {xs : List Leaf} (hr : ResOk P σ rv ag xs) : ∃ us : List Value, (rvRun a.tmps rv).run P w = .ok (cval ag us) w ∧ us.length = xs.length ∧ ∀ (j : Nat) (x : Leaf) (u : Value), xs[j]? = some x → us[j]? = some u → Holds G σ E w x u := by
  cases rv with
  | tmp t =>
    have h1 := h.tmps t
    rw [show σ.tm t = V.flat ag xs from hr, vflat] at h1
    obtain ⟨us, h2, h3, h4⟩ := h1
    exact ⟨us, by simp only [rvRun, Sem.run_pure, h2], h3, h4⟩
  | cell p ty =>
    obtain ⟨b, ty', h1, h2, h3, h4, h5⟩ := hr
    have h6 := h.tmps p
    rw [h1, vone] at h6
    obtain ⟨⟨-, h7⟩, -⟩ := h6
    obtain ⟨-, us, h8, h9, h10⟩ := h.boxes b ty' xs h2
    have hrun := load_run (P := P) (w := w) (b := G.β b) (i := 0) (us := us) h3 h4 h5 h9 fun j u hj => by
      rw [cell_of_row w _ _ _ _ _ h8, Nat.zero_add]
      simpa using hj
    refine ⟨us, ?_, h9, fun j x u hx hu => (h10 j x u hx hu).1⟩
    simp only [rvRun, h7, Sem.run_bind, asAddr, Sem.run_pure, Result.andThen_ok, hrun]
def ResAll (P : Program) (σ : VS) : List ResultVar → List (Bool × List Leaf) → Prop
  | [], [] => True
  | r :: rs, p :: ps => ResOk P σ r p.1 p.2 ∧ ResAll P σ rs ps
  | _, _ => False
theorem ResAll.cons {r : ResultVar} {rs : List ResultVar} {ag : Bool} {xs : List Leaf} {ps : List (Bool × List Leaf)} (h : ResOk P σ r ag xs) (k : ResAll P σ rs ps) : ResAll P σ (r :: rs) ((ag, xs) :: ps) := ⟨h, k⟩
theorem ResAll.nil' : ResAll P σ [] [] := trivial
theorem ResOk.tmp {t : Nat} {ag : Bool} {xs : List Leaf} (h : σ.tm t = V.flat ag xs) : ResOk P σ (.tmp t) ag xs := h
theorem ResOk.cell {p b : Nat} {ty ty' : TypeId} {ag : Bool} {xs : List Leaf} (h1 : σ.tm p = V.one (.bp b 0)) (h2 : σ.bs[b]? = some (ty', xs)) (h3 : ∀ w, (isAgg ty).run P w = .ok ag w) (h4 : ∃ inf, P.info? ty = some inf ∧ inf.size = xs.length) (h5 : ag = false → xs.length = 1) : ResOk P σ (.cell p ty) ag xs := ⟨b, ty', h1, h2, h3, h4, h5⟩
theorem Rel.resAll (h : Rel E N σ a w G) : ∀ {rs : List ResultVar} {ps : List (Bool × List Leaf)}, ResAll P σ rs ps → ∃ uss : List (List Value), uss.length = ps.length ∧ (rs.mapM (rvRun a.tmps)).run P w = .ok (List.zipWith (fun p us => cval p.1 us) ps uss) w ∧
    ∀ (c : Nat) (ag : Bool) (xs : List Leaf) (us : List Value), ps[c]? = some (ag, xs) → uss[c]? = some us → us.length = xs.length ∧ ∀ (j : Nat) (x : Leaf) (u : Value), xs[j]? = some x → us[j]? = some u → Holds G σ E w x u
  | [], [], _ => ⟨[], rfl, by simp, fun c ag xs us hc => by simp at hc⟩
  | r :: rs, p :: ps, hr => by
    obtain ⟨us, h1, h2, h3⟩ := h.res hr.1
    obtain ⟨uss, h4, h5, h6⟩ := h.resAll hr.2
    refine ⟨us :: uss, by simp [h4], by simp [h1, h5, Result.andThen], fun c ag xs vs hc hv => ?_⟩
    cases c with
    | zero => cases hc; cases hv; exact ⟨h2, h3⟩
    | succ c => exact h6 c ag xs vs (by simpa using hc) (by simpa using hv)
theorem results_run {fn : Func} {rs : List ResultVar} {tmps : Array Value} {vs : List Value} (h : fn.results = rs.toArray) (hr : (rs.mapM (rvRun tmps)).run P w = .ok vs w) : (results fn tmps).run P w = .ok (vval (!(Nat.beq vs.length 1)) vs) w := by
  have e : (rs.toArray.mapM (rvRun tmps)).run P w = .ok vs.toArray w := by
    rw [List.mapM_toArray]
    simp [hr, Result.andThen]
  have e2 : (results fn tmps).run P w = ((rs.toArray.mapM (rvRun tmps)) >>= fun vs => pure (if h : vs.size = 1 then vs[0] else .tuple vs)).run P w := by
    unfold results
    rw [h]
    rfl
  rw [e2, Sem.run_bind, e, Result.andThen_ok, Sem.run_pure]
  match vs with
  | [] => rfl
  | [v] => rfl
  | v :: v' :: vs => simp [vval]
/-- The call answers. -/
theorem SV.done {fn : Func} {rs : List ResultVar} {ps : List (Bool × List Leaf)} {tup : Bool} {qs : List (Bool × List T)} (hf : fn.results = rs.toArray) (hr : ResAll P σ rs ps) (ho : σ.outss ps qs) (ht : (!(Nat.beq qs.length 1)) = tup) (h2 : (ps.flatMap (·.2)).Pairwise two) {e : Exit} (he : e = .ret ∨ e = .normal) : SV E N σ (bodyPost P fn (Gives E tup qs) e) := fun a w G h => by
  obtain ⟨uss, h3, h4, h5⟩ := h.resAll hr
  obtain ⟨h6, h7⟩ := outss_get ho
  have hrun := results_run hf h4
  have hlen : (List.zipWith (fun (p : Bool × List Leaf) us => cval p.1 us) ps uss).length = qs.length := by simp [h3, h6]
  have hag : ∀ c ag ts, qs[c]? = some (ag, ts) → ∃ xs, ps[c]? = some (ag, xs) ∧ σ.outs xs ts := h7
  have hzip : List.zipWith (fun (p : Bool × List Leaf) us => cval p.1 us) ps uss = List.zipWith (fun (q : Bool × List T) us => cval q.1 us) qs uss := by
    apply List.ext_getElem?
    intro c
    rw [List.getElem?_zipWith, List.getElem?_zipWith]
    cases hq : qs[c]? with
    | none =>
      have : ps[c]? = none := by rw [List.getElem?_eq_none_iff] at hq ⊢; omega
      rw [this]
    | some q =>
      obtain ⟨ag, ts⟩ := q
      obtain ⟨xs, hp, -⟩ := hag c ag ts hq
      rw [hp]
      cases uss[c]? <;> rfl
  rw [hlen, ht, hzip] at hrun
  have hpost : a.defers = [] ∧ ∃ v, (results fn a.tmps).run P w = .ok v w ∧ Gives E tup qs (.returned v) w := by
    refine ⟨h.dfr, _, hrun, uss, (fun c j b => ∃ ag xs x, ps[c]? = some (ag, xs) ∧ xs[j]? = some x ∧ x.foot G b), h3.trans h6, rfl, fun c ag ts us hq hu => ?_, ?_, ?_, h.below⟩
    · obtain ⟨xs, hp, hx⟩ := hag c ag ts hq
      obtain ⟨h8, h9⟩ := outs_get hx
      obtain ⟨h10, h11⟩ := h5 c ag xs us hp hu
      refine ⟨h10.trans h8, fun j t u hj hu' => ?_⟩
      obtain ⟨x, hx1, hx2⟩ := h9 j t hj
      exact (h.out (h11 j x u hx1 hu') hx2).mono fun b hb => ⟨ag, xs, x, hp, hx1, hb⟩
    · rintro c j c' j' b ⟨ag, xs, x, h8, h9, h10⟩ ⟨ag', xs', x', h8', h9', h10'⟩
      have key : ∀ {x x' : Leaf}, x.foot G b → x'.foot G b → (∃ t, σ.out x = some t) → (∃ t, σ.out x' = some t) → ¬ two x x' := fun {x x'} k1 k2 k3 k4 k5 => by
        cases x with
        | hd i =>
          cases x' with
          | hd i' =>
            by_cases hii : i = i'
            · exact k5 i rfl (by rw [hii])
            · obtain ⟨t, k3⟩ := k3
              obtain ⟨t', k4⟩ := k4
              obtain ⟨p, e1, -⟩ := Option.map_eq_some_iff.1 k3
              obtain ⟨p', e2, -⟩ := Option.map_eq_some_iff.1 k4
              exact h.disj i i' b (by rw [e1]; simp) (by rw [e2]; simp) hii k1 k2
          | _ => exact k2
        | _ => exact k1
      have hout : ∀ {c j ag xs x}, ps[c]? = some (ag, xs) → xs[j]? = some x → ∃ t, σ.out x = some t := fun {c j ag xs x} k1 k2 => by
        have hc : c < qs.length := by rw [← h6]; exact get_lt k1
        obtain ⟨xs', k3, k4⟩ := hag c qs[c].1 qs[c].2 (by rw [List.getElem?_eq_getElem hc])
        rw [k1] at k3
        cases k3
        obtain ⟨k5, k6⟩ := outs_get k4
        have hj : j < qs[c].2.length := by rw [← k5]; exact get_lt k2
        obtain ⟨y, k7, k8⟩ := k6 j qs[c].2[j] (List.getElem?_eq_getElem hj)
        rw [k2] at k7
        cases k7
        exact ⟨_, k8⟩
      rw [List.pairwise_flatMap] at h2
      have o1 := hout h8 h9
      have o2 := hout h8' h9'
      have hc1 := get_lt h8
      have hc2 := get_lt h8'
      have g1 : ps[c] = (ag, xs) := by rw [List.getElem?_eq_getElem hc1] at h8; exact Option.some.inj h8
      have g2 : ps[c'] = (ag', xs') := by rw [List.getElem?_eq_getElem hc2] at h8'; exact Option.some.inj h8'
      have m1 := get_mem h9
      have m2 := get_mem h9'
      rcases Nat.lt_trichotomy c c' with hcc | hcc | hcc
      · have := (List.pairwise_iff_getElem.1 h2.2) c c' hc1 hc2 hcc x (by rw [g1]; exact m1) x' (by rw [g2]; exact m2)
        exact absurd this (key h10 h10' o1 o2)
      · subst hcc
        rw [h8] at h8'
        cases h8'
        refine ⟨rfl, ?_⟩
        have hp := h2.1 _ (get_mem h8)
        have hj1 := get_lt h9
        have hj2 := get_lt h9'
        have x1 : xs[j] = x := by rw [List.getElem?_eq_getElem hj1] at h9; exact Option.some.inj h9
        have x2 : xs[j'] = x' := by rw [List.getElem?_eq_getElem hj2] at h9'; exact Option.some.inj h9'
        rcases Nat.lt_trichotomy j j' with hjj | hjj | hjj
        · have := (List.pairwise_iff_getElem.1 hp) j j' hj1 hj2 hjj
          rw [x1, x2] at this
          exact absurd this (key h10 h10' o1 o2)
        · exact hjj
        · have := (List.pairwise_iff_getElem.1 hp) j' j hj2 hj1 hjj
          rw [x1, x2] at this
          exact absurd this (key h10' h10 o2 o1)
      · have := (List.pairwise_iff_getElem.1 h2.2) c' c hc2 hc1 hcc x' (by rw [g2]; exact m2) x (by rw [g1]; exact m1)
        exact absurd this (key h10' h10 o2 o1)
    · rintro c j b ⟨ag, xs, x, h8, h9, h10⟩
      have hc : c < qs.length := by rw [← h6]; exact get_lt h8
      obtain ⟨xs', k3, k4⟩ := hag c qs[c].1 qs[c].2 (by rw [List.getElem?_eq_getElem hc])
      rw [h8] at k3
      cases k3
      obtain ⟨k5, k6⟩ := outs_get k4
      have hj : j < qs[c].2.length := by rw [← k5]; exact get_lt h9
      obtain ⟨y, k7, k8⟩ := k6 j qs[c].2[j] (List.getElem?_eq_getElem hj)
      rw [h9] at k7
      cases k7
      cases x with
      | hd i =>
        obtain ⟨p, e1, -⟩ := Option.map_eq_some_iff.1 k8
        exact h.ftlt i b (by rw [e1]; simp) h10
      | _ => exact h10.elim
  rcases he with rfl | rfl <;> exact hpost
end Go.Proofs.Ytlnjgoommpeioaa.V
