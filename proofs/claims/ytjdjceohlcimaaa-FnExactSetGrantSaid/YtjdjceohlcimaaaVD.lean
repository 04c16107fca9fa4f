/- States told by trees: a region that draws its order, walked along a plan. -/
import Derived.Test.YtjdjceohlcimaaaVB
import Derived.Test.YtjdjceohlcimaaaPlan
namespace Go.Proofs.Ytjdjceohlcimaaa.V
open Go Go.RowKit
set_option linter.unusedVariables false
variable {P : Program} {E : Env} {N : Nat} {σ σ' τ : VS} {o : Oper} {a : Act} {w ws : World} {G Gs : Ghost} {Q : Exit → Act → World → Prop}
/-- Memory is as it was, but for what lies behind the objects' last cells. -/
structure SameT (E : Env) (τ : VS) (G : Ghost) (ws v : World) : Prop where
  below : Same E ws v
  block : ∀ b, b < ws.heap.size → v.heap[b]? = ws.heap[b]? ∨ ∃ (i ver : Nat) (ty : TypeId) (es : List (List T)) (n : Nat) (cs cs' : Array Value), τ.ob i = some (ver, .seq ty es) ∧ (G.vl i).ownBlock = some b ∧ Sz ty n ∧ ws.heap[b]? = some (.cells cs ty (0, 0)) ∧ v.heap[b]? = some (.cells cs' ty (0, 0)) ∧ cs'.size = cs.size ∧ cs'.toList.take (es.length * n) = cs.toList.take (es.length * n)
theorem SameT.refl (E : Env) (τ : VS) (G : Ghost) (w : World) : SameT E τ G w w := ⟨Same.refl _ _, fun _ _ => .inl rfl⟩
theorem root_ft (h : Rel E N τ a ws Gs) {i ver b : Nat} {ty : TypeId} {es : List (List T)} (hi : τ.ob i = some (ver, .seq ty es)) (hb : (Gs.vl i).ownBlock = some b) : Gs.ft i b := by
  obtain ⟨-, ho, -⟩ := h.objs i ver _ hi
  cases ho with
  | seq n hp hz hn xs hown Gs hr hone hF hG hne hd => exact hF b hb
theorem SameT.box (h : Rel E N τ a ws Gs) {v : World} (s : SameT E τ Gs ws v) {c : Nat} (hc : c < τ.bs.length) : v.heap[Gs.β c]? = ws.heap[Gs.β c]? := by
  obtain ⟨-, us, h2, -⟩ := h.boxes c _ _ (List.getElem?_eq_getElem hc)
  rcases s.block (Gs.β c) (lt_of_block h2) with h1 | ⟨i, ver, ty, es, n, cs, cs', e1, e2, -⟩
  · exact h1
  · exact absurd (root_ft h e1 e2) (h.boxft c i hc (by rw [e1]; simp))
/-- How the call stands in a region whose order is drawn: since its beginning (ws, at the state τ). -/
structure Link (E : Env) (N : Nat) (τ : VS) (ws : World) (Gs : Ghost) (fr : List Nat) (cl : Bool) (σ : VS) (w : World) (G : Ghost) : Prop where
  start : ∃ a, Rel E N τ a ws Gs
  same : SameT E τ Gs ws w
  vl : ∀ i, i < τ.nx → G.vl i = Gs.vl i
  β : ∀ b, b < τ.bs.length → G.β b = Gs.β b
  nx : τ.nx ≤ σ.nx
  bs : τ.bs.length ≤ σ.bs.length
  fresh : ∀ i ∈ fr, i < σ.nx ∧ ∀ b, (G.vl i).ownBlock = some b → ws.heap.size ≤ b
  clean : cl = true → w = ws ∧ G = Gs ∧ σ.ob = τ.ob
def DW (E : Env) (N : Nat) (τ : VS) (fr : List Nat) (cl : Bool) (σ : VS) (Ψ : World → Ghost → Act → World → Prop) : Prop := ∀ ws Gs a w G, Rel E N σ a w G → Link E N τ ws Gs fr cl σ w G → Ψ ws Gs a w
abbrev SW (E : Env) (τ : VS) (ws : World) (Gs : Ghost) : World → Prop := fun v => SameT E τ Gs ws v
theorem SV.draw {id : Nat} {l : List Oper} (ps : List PStep) (zs : List Nat) (hm : P.follows .mixedOrders = true) (hB : planB .any l.toArray (Pl.of ps) zs = true) (h : DW E N τ [] true τ fun ws Gs a w => wpPi P l.toArray Q (SW E τ ws Gs) zs (Pl.of ps) a w) : SV E N τ ((Code.region id l.toArray true).wp P Q) :=
  fun a w G hr => region_plan (SW E τ w.drew G) (Pl.of ps) zs hm hB (SameT.refl _ _ _ _) fun _ => h w.drew G a w.drew G hr.drew ⟨⟨a, hr.drew⟩, SameT.refl _ _ _ _, fun _ _ => rfl, fun _ _ => rfl, Nat.le_refl _, Nat.le_refl _, fun i hi => (by cases hi), fun _ => ⟨rfl, rfl, rfl⟩⟩
theorem SV.drawT {id : Nat} {l : List Oper} (ps : Pl) (zs : List Nat) (hm : P.follows .mixedOrders = true) (hB : planB .any l.toArray ps zs = true) (h : DW E N τ [] true τ fun ws Gs a w => wpPi P l.toArray Q (SW E τ ws Gs) zs ps a w) : SV E N τ ((Code.region id l.toArray true).wp P Q) :=
  fun a w G hr => region_plan (SW E τ w.drew G) ps zs hm hB (SameT.refl _ _ _ _) fun _ => h w.drew G a w.drew G hr.drew ⟨⟨a, hr.drew⟩, SameT.refl _ _ _ _, fun _ _ => rfl, fun _ _ => rfl, Nat.le_refl _, Nat.le_refl _, fun i hi => (by cases hi), fun _ => ⟨rfl, rfl, rfl⟩⟩
variable {l : List Oper} {zs : List Nat} {ps : Pl} {i d : Nat} {fr : List Nat} {cl : Bool}
theorem Link.put (h : Link E N τ ws Gs fr cl σ w G) {v : V} : Link E N τ ws Gs fr cl (σ.put d v) w G := ⟨h.start, h.same, h.vl, h.β, h.nx, h.bs, h.fresh, h.clean⟩
theorem Link.lite (h : Link E N τ ws Gs fr cl σ w G) {v : World} (s : SameT E τ Gs ws v) : Lite E τ.bs.length G w v := by
  obtain ⟨a, hr⟩ := h.start
  refine ⟨fun b hb => (s.below.block b hb).trans (h.same.below.block b hb).symm, fun c hc => ?_⟩
  rw [h.β c hc]
  exact (SameT.box hr s hc).trans (SameT.box hr h.same hc).symm
/-- An operation that yields one value wherever it comes up. -/
theorem DW.q {V' : V} (ho : nthO l i = some o) (h : OpL P E N τ.bs.length σ o V') (hg : o.guard = none) (hd : o.dst = some d) (hdN : d < N) (hQ : ∀ c (a : Act) v w, Q (.panic c) (a.put o.dst v) w → Q (.panic c) a w) (k : DW E N τ fr cl (σ.put d V') fun ws Gs a w => wpPi P l.toArray Q (SW E τ ws Gs) zs ps a w) :
    DW E N τ fr cl σ fun ws Gs a w => wpPi P l.toArray Q (SW E τ ws Gs) zs (.q i ps) a w := fun ws Gs a w G hr hl => by
  obtain ⟨u, h1, h2⟩ := h a w G hr
  refine pi_take (v := u) ho (fun c a w => hQ c a u w) (by simp [Region.wanted, hg]) (fun v hv => h1 v (hl.lite hv)) ?_
  rw [hd]
  exact k ws Gs _ w G (hr.put hdN h2) hl.put
/-- A cell of an object is read, ahead of all that makes memory. -/
theorem DW.el' {m : Nat} {ty : TypeId} {x : Operand} {j k' n o' : Nat} {ag : Bool} {es : List T} {ys : List Leaf} (hn : nthO l i = some o) (ho : o.op = .load ty x) (hx : σ.ev x = V.one (.ep j k' n o')) (hc : σ.cells (.ep j k' n o') = some es) (hag : ∀ w, (isAgg ty).run Try.prog w = .ok ag w) (hm : Sz ty m) (h1 : ag = false → m = 1) (hml : m ≤ es.length)
    (hy : (List.range m).map (fun q => match es[q]? with | some t => σ.cellLeaf (.ep j k' n o') q t | none => .dead) = ys) (hw : ∀ {a w G}, Rel E N σ a w G → Region.wanted o (yielded l.toArray a.tmps) = true) (hd : o.dst = some d) (hdN : d < N) (hQ : ∀ c (a : Act) v w, Q (.panic c) (a.put o.dst v) w → Q (.panic c) a w) (k : DW E N τ fr true (σ.put d (V.flat ag ys)) fun ws Gs a w => wpPi Try.prog l.toArray Q (SW E τ ws Gs) zs ps a w) :
    DW E N τ fr true σ fun ws Gs a w => wpPi Try.prog l.toArray Q (SW E τ ws Gs) zs (.q i ps) a w := fun ws Gs a w G hr hl => by
  obtain ⟨rfl, rfl, hob⟩ := hl.clean rfl
  obtain ⟨u, b, q, h2, h3, h4⟩ := load_el ho hx hc hag hm h1 hml hy hr
  refine pi_take (v := u) hn (fun c a w => hQ c a u w) (hw hr) (fun v hv => h3 v fun p y hp hcell => ?_) ?_
  · -- the cell lies among the object's
    have h5 := hr.ev x
    rw [hx, vone] at h5
    obtain ⟨⟨-, g, M, c, h6, h7⟩, -⟩ := h5
    rw [h2] at h7
    injection h7 with h7
    injection h7 with h7
    injection h7 with h7 h8
    subst h7 h8
    obtain ⟨⟨ver, s⟩, e1, e2⟩ := Option.bind_eq_some_iff.1 hc
    obtain ⟨-, hown, ty', fs, hs⟩ := hr.objs j ver s e1
    have hs' : s = .seq ty' fs := hs
    subst hs'
    obtain ⟨e, he, e3⟩ := Option.bind_eq_some_iff.1 e2
    have hen : e.length = n := by
      cases hb : Nat.beq e.length n with
      | true => exact Nat.eq_of_beq_eq_true hb
      | false => simp only [hb] at e3; cases e3
    have hed : e.drop o' = es := by
      have hb : Nat.beq e.length n = true := by rw [hen]; exact Nat.beq_refl n
      simpa [hb] using e3
    have hlen : o' + p < n := by
      have : (e.drop o').length = es.length := by rw [hed]
      rw [List.length_drop, hen] at this
      omega
    rcases hv.block b (lt_blk hcell) with h9 | ⟨i2, v2, ty2, es2, n2, cs, cs', f1, f2, f3, f4, f5, f6, f7⟩
    · exact (World.cell?_of_block h9).trans hcell
    · have hji : j = i2 := by
        rcases Nat.decEq j i2 with hne | hne
        · exfalso
          obtain ⟨ar, hrs⟩ := hl.start
          exact hrs.disj j i2 b (by rw [← hob, e1]; simp) (by rw [f1]; simp) hne (root_ft hrs (by rw [← hob]; exact e1) (by rw [h6]; rfl)) (root_ft hrs f1 f2)
        · exact hne
      subst hji
      rw [← hob, e1] at f1
      cases f1
      cases hown with
      | seq n3 hp3 hz3 hn3 xs hown3 Gs3 hr3 hone3 hF3 hG3 hne3 hd3 =>
        have hnn : n2 = n := (f3.eq hz3).trans ((hn3 e (get_mem he)).symm.trans hen)
        subst hnn
        have hlt : k' * n2 + o' + p < fs.length * n2 := by
          have := at_lt (get_lt he) hlen
          rw [Nat.add_assoc]; exact this
        rw [cell_of_row _ _ _ _ _ _ f4] at hcell
        rw [cell_of_row _ _ _ _ _ _ f5]
        have g1 : (cs'.toList.take (fs.length * n2))[k' * n2 + o' + p]? = (cs.toList.take (fs.length * n2))[k' * n2 + o' + p]? := by rw [f7]
        rw [List.getElem?_take, List.getElem?_take, if_pos hlt, if_pos hlt] at g1
        simpa using g1.trans (by simpa using hcell)
  · rw [hd]
    exact k _ _ _ _ _ (hr.put hdN h4) hl.put
theorem DW.el {m : Nat} {ty : TypeId} {x : Operand} {j k' n o' : Nat} {ag : Bool} {es : List T} {ys : List Leaf} (hn : nthO l i = some o) (ho : o.op = .load ty x) (hx : σ.ev x = V.one (.ep j k' n o')) (hc : σ.cells (.ep j k' n o') = some es) (hag : ∀ w, (isAgg ty).run Try.prog w = .ok ag w) (hm : Sz ty m) (h1 : ag = false → m = 1) (hml : m ≤ es.length)
    (hy : (List.range m).map (fun q => match es[q]? with | some t => σ.cellLeaf (.ep j k' n o') q t | none => .dead) = ys) (hg : o.guard = none) (hd : o.dst = some d) (hdN : d < N) (hQ : ∀ c (a : Act) v w, Q (.panic c) (a.put o.dst v) w → Q (.panic c) a w) (k : DW E N τ fr true (σ.put d (V.flat ag ys)) fun ws Gs a w => wpPi Try.prog l.toArray Q (SW E τ ws Gs) zs ps a w) :
    DW E N τ fr true σ fun ws Gs a w => wpPi Try.prog l.toArray Q (SW E τ ws Gs) zs (.q i ps) a w :=
  DW.el' hn ho hx hc hag hm h1 hml hy (fun _ => by simp [Region.wanted, hg]) hd hdN hQ k
/-- An operation that makes memory. -/
theorem DW.m' {c : Option Nat} (fr' : List Nat) (ho : nthO l i = some o) (h : OpMk P E N c σ o σ') (hw : ∀ {a w G}, Rel E N σ a w G → Region.wanted o (yielded l.toArray a.tmps) = true) (hbs : σ.bs.length ≤ σ'.bs.length) (hnx : σ.nx ≤ σ'.nx) (hc : c = none ∨ ∃ j, c = some j ∧ (j ∈ fr ∨ (j < τ.nx ∧ σ.ob j = τ.ob j))) (hfr : ∀ j ∈ fr', (j ∈ fr) ∨ (σ.nx ≤ j ∧ j < σ'.nx ∧ (c = none ∨ ∃ q, c = some q ∧ q ∈ fr)))
    (k : DW E N τ fr' false σ' fun ws Gs a w => wpPi P l.toArray Q (SW E τ ws Gs) zs ps a w) : DW E N τ fr cl σ fun ws Gs a w => wpPi P l.toArray Q (SW E τ ws Gs) zs (.m i ps) a w := fun ws Gs a w G hr hl => by
  refine pi_step ho fun K hK => ?_
  rw [if_pos (hw hr)]
  refine h a w G K Q hr fun a' w' G' hr' hm => ?_
  have hsame : SameT E τ Gs ws w' := by
    refine ⟨hl.same.below.trans hm.below, fun b hb => ?_⟩
    have hbw : b < w.heap.size := Nat.lt_of_lt_of_le hb hl.same.below.size
    rcases hm.block b hbw with h1 | ⟨j, v, ty, es, n, cs, cs', e1, e2, e3, e4, e5, e6, e7, e8⟩
    · rcases hl.same.block b hb with h2 | ⟨i2, v2, ty2, es2, n2, ds, ds', f1, f2, f3, f4, f5, f6, f7⟩
      · exact .inl (h1.trans h2)
      · exact .inr ⟨i2, v2, ty2, es2, n2, ds, ds', f1, f2, f3, f4, h1.trans f5, f6, f7⟩
    · rcases hc with hc | ⟨qq, hq, hc⟩
      · rw [hc] at e1; cases e1
      · have hqj : qq = j := Option.some.inj (hq.symm.trans e1)
        subst hqj
        rcases hc with hc | ⟨hc1, hc2⟩
        · have := (hl.fresh qq hc).2 b e3
          omega
        · have e2' : τ.ob qq = some (v, .seq ty es) := by rw [← hc2]; exact e2
          have e3' : (Gs.vl qq).ownBlock = some b := by rw [← hl.vl qq hc1]; exact e3
          rcases hl.same.block b hb with h2 | ⟨i2, v2, ty2, es2, n2, ds, ds', f1, f2, f3, f4, f5, f6, f7⟩
          · exact .inr ⟨qq, v, ty, es, n, cs, cs', e2', e3', e4, h2.symm.trans e5, e6, e7, e8⟩
          · have hqi : qq = i2 := by
              rcases Nat.decEq qq i2 with hne | hne
              · exfalso
                obtain ⟨ar, hrs⟩ := hl.start
                exact hrs.disj qq i2 b (by rw [e2']; simp) (by rw [f1]; simp) hne (root_ft hrs e2' e3') (root_ft hrs f1 f2)
              · exact hne
            subst hqi
            rw [e2'] at f1
            cases f1
            have hnn := e4.eq f3
            subst hnn
            rw [f5] at e5
            cases e5
            exact .inr ⟨qq, v, ty, es, n, ds, cs', e2', e3', e4, f4, e6, e7.trans f6, e8.trans f7⟩
  refine hK.out a' w' hsame fun _ => k ws Gs a' w' G' hr' ⟨hl.start, hsame, fun j hj => (hm.vl j (Nat.lt_of_lt_of_le hj hl.nx)).trans (hl.vl j hj), fun b hb => (hm.β b (Nat.lt_of_lt_of_le hb hl.bs)).trans (hl.β b hb), Nat.le_trans hl.nx hnx, Nat.le_trans hl.bs hbs, fun j hj => ?_, fun e => by cases e⟩
  rcases hfr j hj with h1 | ⟨h1, h2, h3⟩
  · refine ⟨Nat.lt_of_lt_of_le (hl.fresh j h1).1 hnx, fun b hb => (hl.fresh j h1).2 b ?_⟩
    rw [← hm.vl j (hl.fresh j h1).1]; exact hb
  · refine ⟨h2, fun b hb => ?_⟩
    rcases hm.root j h1 h2 b hb with h4 | ⟨qq, h4, h5⟩
    · exact Nat.le_trans hl.same.below.size h4
    · rcases h3 with h3 | ⟨q2, h3, h6⟩
      · rw [h3] at h4; cases h4
      · have hqq : q2 = qq := Option.some.inj (h3.symm.trans h4)
        subst hqq
        have h7 := (hl.fresh _ h6)
        exact h7.2 b h5
theorem DW.m {c : Option Nat} (fr' : List Nat) (ho : nthO l i = some o) (h : OpMk P E N c σ o σ') (hg : o.guard = none) (hbs : σ.bs.length ≤ σ'.bs.length) (hnx : σ.nx ≤ σ'.nx) (hc : c = none ∨ ∃ j, c = some j ∧ (j ∈ fr ∨ (j < τ.nx ∧ σ.ob j = τ.ob j))) (hfr : ∀ j ∈ fr', (j ∈ fr) ∨ (σ.nx ≤ j ∧ j < σ'.nx ∧ (c = none ∨ ∃ q, c = some q ∧ q ∈ fr)))
    (k : DW E N τ fr' false σ' fun ws Gs a w => wpPi P l.toArray Q (SW E τ ws Gs) zs ps a w) : DW E N τ fr cl σ fun ws Gs a w => wpPi P l.toArray Q (SW E τ ws Gs) zs (.m i ps) a w :=
  DW.m' fr' ho h (fun _ => by simp [Region.wanted, hg]) hbs hnx hc hfr k
/-- Either of two operations comes up first. -/
theorem DW.alt {ps1 ps2 : Pl} {j : Nat} (h1 : DW E N τ fr cl σ fun ws Gs a w => wpPi P l.toArray Q (SW E τ ws Gs) zs (.m i ps1) a w) (h2 : DW E N τ fr cl σ fun ws Gs a w => wpPi P l.toArray Q (SW E τ ws Gs) zs (.m j ps2) a w) :
    DW E N τ fr cl σ fun ws Gs a w => wpPi P l.toArray Q (SW E τ ws Gs) zs (.alt i ps1 j ps2) a w := fun ws Gs a w G hr hl => ⟨h1 ws Gs a w G hr hl, h2 ws Gs a w G hr hl⟩
/-- What follows is told once, for all orders. -/
theorem SV.shared {K R : Act → World → Prop} (h : SV E N σ' K) (k : SV E N σ' K → SV E N τ R) : SV E N τ R := k h
theorem SV.eqv {K : Act → World → Prop} (k : SV E N σ K) (h1 : ∀ s, σ'.tm s = σ.tm s) (h2 : σ'.bs = σ.bs) (h3 : σ'.ob = σ.ob) (h4 : σ'.nx = σ.nx) : SV E N σ' K := by
  obtain ⟨t, b, o, n⟩ := σ
  obtain ⟨t', b', o', n'⟩ := σ'
  obtain rfl : t' = t := funext h1
  subst h2 h3 h4
  exact k
theorem ansS_tm : ∀ (ts : List T) (σ : VS) (s : Nat), (ansS σ ts).tm s = σ.tm s
  | [], _, _ => rfl
  | .seq ty es :: ts, σ, s => ansS_tm ts (σ.new (.seq ty es)) s
  | .any :: ts, σ, s => ansS_tm ts σ s
  | .lit _ :: ts, σ, s => ansS_tm ts σ s
theorem ansSs_tm : ∀ (qs : List (Bool × List T)) (σ : VS) (s : Nat), (ansSs σ qs).tm s = σ.tm s
  | [], _, _ => rfl
  | (_, ts) :: qs, σ, s => (ansSs_tm qs (ansS σ ts) s).trans (ansS_tm ts σ s)
/-- The stores at the end. -/
theorem DW.stores (h : SV E N σ (wpZ P l.toArray Q zs)) : DW E N τ fr cl σ fun ws Gs a w => wpPi P l.toArray Q (SW E τ ws Gs) zs .nil a w := fun ws Gs a w G hr hl => pi_end (h a w G hr)
theorem SV.z (ho : nthO l i = some o) (h : OpOk P E N σ o σ') (hg : o.guard = none) (k : SV E N σ' (wpZ P l.toArray Q zs)) : SV E N σ (wpZ P l.toArray Q (i :: zs)) := fun a w G hr => by
  refine z_step ho fun K hK => ?_
  rw [if_pos (by simp [Region.wanted, hg])]
  exact h a w G K Q hr fun a' w' G' hr' => hK.out a' w' (k a' w' G' hr')
theorem SV.zend (h : SV E N σ (Q .normal)) : SV E N σ (wpZ P l.toArray Q []) := fun a w G hr => z_end (h a w G hr)
end Go.Proofs.Ytjdjceohlcimaaa.V
