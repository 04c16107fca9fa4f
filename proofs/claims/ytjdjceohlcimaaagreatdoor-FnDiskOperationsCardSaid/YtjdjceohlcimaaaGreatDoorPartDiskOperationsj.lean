/- Texts joined: VDc DrawK VDi Text VNo DrawF2 DiskN UnpackS. -/
import Derived.Test.YtjdjceohlcimaaaGreatDoorPartDiskOperationsi
/- States told by trees: a region that draws its order, with calls that are handed a cursor. -/
namespace Go.Proofs.YtjdjceohlcimaaaGreatDoor.V
open Go Go.RowKit
set_option linter.unusedVariables false
variable {P : Program} {E : Env} {N : Nat} {σ σ' τ : VS} {o : Oper} {a : Act} {w ws : World} {G Gs : Ghost} {Q : Exit → Act → World → Prop} {ad : Option Addr} {len cap : Nat} {zs0 : List Int}
structure SameC (E : Env) (τ : VS) (wl : List Nat) (G : Ghost) (ws v : World) : Prop where
  below : Same E ws v
  block : ∀ b, b < ws.heap.size → v.heap[b]? = ws.heap[b]? ∨ (∃ c, c ∈ wl ∧ c < τ.bs.length ∧ b = G.β c) ∨ ∃ (i ver : Nat) (ty : TypeId) (es : List (List T)) (n : Nat) (cs cs' : Array Value), τ.ob i = some (ver, .seq ty es) ∧ (G.vl i).ownBlock = some b ∧ Sz ty n ∧ ws.heap[b]? = some (.cells cs ty (0, 0)) ∧ v.heap[b]? = some (.cells cs' ty (0, 0)) ∧ cs'.size = cs.size ∧ cs'.toList.take (es.length * n) = cs.toList.take (es.length * n)
theorem SameC.refl (E : Env) (τ : VS) (wl : List Nat) (G : Ghost) (w : World) : SameC E τ wl G w w := ⟨Same.refl _ _, fun _ _ => .inl rfl⟩
structure LinkC (E : Env) (N : Nat) (τ : VS) (wl : List Nat) (ws : World) (Gs : Ghost) (fr : List Nat) (σ : VS) (w : World) (G : Ghost) : Prop where
  start : ∃ a, Rel E N τ a ws Gs
  same : SameC E τ wl Gs ws w
  vl : ∀ i, i < τ.nx → G.vl i = Gs.vl i
  β : ∀ b, b < τ.bs.length → G.β b = Gs.β b
  nx : τ.nx ≤ σ.nx
  bs : τ.bs.length ≤ σ.bs.length
  fresh : ∀ i ∈ fr, i < σ.nx ∧ ∀ b, (G.vl i).ownBlock = some b → ws.heap.size ≤ b
  nb : ∀ b, τ.bs.length ≤ b → b < σ.bs.length → ws.heap.size ≤ G.β b
def DC (E : Env) (N : Nat) (τ : VS) (wl : List Nat) (fr : List Nat) (σ : VS) (Ψ : World → Ghost → Act → World → Prop) : Prop := ∀ ws Gs a w G, Rel E N σ a w G → LinkC E N τ wl ws Gs fr σ w G → Ψ ws Gs a w
abbrev SC (E : Env) (τ : VS) (wl : List Nat) (ws : World) (Gs : Ghost) : World → Prop := fun v => SameC E τ wl Gs ws v
theorem SV.drawC {id : Nat} {l : List Oper} (wl : List Nat) (ps : List PStep) (zs : List Nat) (hm : P.follows .mixedOrders = true) (hB : planB .any l.toArray (Pl.of ps) zs = true) (h : DC E N τ wl [] τ fun ws Gs a w => wpPi P l.toArray Q (SC E τ wl ws Gs) zs (Pl.of ps) a w) : SV E N τ ((Code.region id l.toArray true).wp P Q) :=
  fun a w G hr => region_plan (SC E τ wl w.drew G) (Pl.of ps) zs hm hB (SameC.refl _ _ _ _ _) fun _ => h w.drew G a w.drew G hr.drew ⟨⟨a, hr.drew⟩, SameC.refl _ _ _ _ _, fun _ _ => rfl, fun _ _ => rfl, Nat.le_refl _, Nat.le_refl _, fun i hi => (by cases hi), fun b h1 h2 => absurd h2 (Nat.not_lt.2 h1)⟩
variable {l : List Oper} {zs : List Nat} {ps : Pl} {i d : Nat} {fr wl : List Nat}
theorem LinkC.put (h : LinkC E N τ wl ws Gs fr σ w G) {v : V} : LinkC E N τ wl ws Gs fr (σ.put d v) w G := ⟨h.start, h.same, h.vl, h.β, h.nx, h.bs, h.fresh, h.nb⟩
theorem LinkC.lite (h : LinkC E N τ wl ws Gs fr σ w G) {v : World} (s : SameC E τ wl Gs ws v) : Lite E 0 G w v :=
  ⟨fun b hb => (s.below.block b hb).trans (h.same.below.block b hb).symm, fun c hc => absurd hc (Nat.not_lt_zero c)⟩
theorem DC.q {V' : V} (ho : nthO l i = some o) (h : OpL P E N 0 σ o V') (hg : o.guard = none) (hd : o.dst = some d) (hdN : d < N) (hQ : ∀ c (a : Act) v w, Q (.panic c) (a.put o.dst v) w → Q (.panic c) a w) (k : DC E N τ wl fr (σ.put d V') fun ws Gs a w => wpPi P l.toArray Q (SC E τ wl ws Gs) zs ps a w) :
    DC E N τ wl fr σ fun ws Gs a w => wpPi P l.toArray Q (SC E τ wl ws Gs) zs (.q i ps) a w := fun ws Gs a w G hr hl => by
  obtain ⟨u, h1, h2⟩ := h a w G hr
  refine pi_take (v := u) ho (fun c a w => hQ c a u w) (by simp [Region.wanted, hg]) (fun v hv => h1 v (hl.lite hv)) ?_
  rw [hd]
  exact k ws Gs _ w G (hr.put hdN h2) hl.put
theorem SameC.cell (h : Rel E N τ a ws Gs) {v : World} (s : SameC E τ wl Gs ws v) {j ver g k' n p : Nat} {ty : TypeId} {fs : List (List T)} {N' c : Nat} {e : List T} {u : Value} (hj : τ.ob j = some (ver, .seq ty fs)) (hv : Gs.vl j = .slice (some ⟨g, 0, none⟩) N' c) (he : fs[k']? = some e) (hen : e.length = n) (hp : p < n) (hcell : ws.cell? ⟨g, k' * n + p, none⟩ = some u) : v.cell? ⟨g, k' * n + p, none⟩ = some u := by
  have hroot : (Gs.vl j).ownBlock = some g := by rw [hv]; rfl
  have hft := root_ft h hj hroot
  rcases s.block g (lt_blk hcell) with h9 | ⟨c', -, hc', h9⟩ | ⟨i2, v2, ty2, es2, n2, cs, cs', f1, f2, f3, f4, f5, f6, f7⟩
  · exact (World.cell?_of_block h9).trans hcell
  · rw [h9] at hft
    exact absurd hft (h.boxft c' j hc' (by rw [hj]; simp))
  · have hji : j = i2 := by
      rcases Nat.decEq j i2 with hne | hne
      · exact absurd (root_ft h f1 f2) (h.disj j i2 g (by rw [hj]; simp) (by rw [f1]; simp) hne hft)
      · exact hne
    subst hji
    rw [hj] at f1
    cases f1
    obtain ⟨-, hown, -⟩ := h.objs j ver _ hj
    cases hown with
    | seq n3 hp3 hz3 hn3 xs hown3 Gs3 hr3 hone3 hF3 hG3 hne3 hd3 =>
      have hnn : n2 = n := (f3.eq hz3).trans ((hn3 e (get_mem he)).symm.trans hen)
      subst hnn
      have hlt : k' * n2 + p < fs.length * n2 := at_lt (get_lt he) hp
      rw [cell_of_row _ _ _ _ _ _ f4] at hcell
      rw [cell_of_row _ _ _ _ _ _ f5]
      have g1 : (cs'.toList.take (fs.length * n2))[k' * n2 + p]? = (cs.toList.take (fs.length * n2))[k' * n2 + p]? := by rw [f7]
      rw [List.getElem?_take, List.getElem?_take, if_pos hlt, if_pos hlt] at g1
      simpa using g1.trans (by simpa using hcell)
theorem SameC.cellB (h : Rel E N τ a ws Gs) {v : World} (s : SameC E τ wl Gs ws v) {j ver g k' n p : Nat} {ty : TypeId} {fs : List (List T)} {N' c : Nat} {e : List T} {u : Value} (hj : τ.ob j = some (ver, .seq ty fs)) (hv : Gs.vl j = .slice (some ⟨g, 0, none⟩) N' c) (he : fs[k']? = some e) (hen : e.length = n) (hp : p < n) (hcell : v.cell? ⟨g, k' * n + p, none⟩ = some u) : ws.cell? ⟨g, k' * n + p, none⟩ = some u := by
  obtain ⟨-, hown, -⟩ := h.objs j ver _ hj
  cases hown with
  | seq n3 hp3 hz3 hn3 xs hown3 Gs3 hr3 hone3 hF3 hG3 hne3 hd3 =>
    obtain ⟨a', c', e1, -, -, -, e5⟩ := own_slice hown3
    rw [hv] at e1
    injection e1 with e1 e2 e3
    obtain ⟨g', f1, f2, f3, f4, f5⟩ := e5 (Nat.lt_of_le_of_lt (Nat.zero_le _) (get_lt he))
    rw [f1] at e1
    injection e1 with e1
    injection e1 with e1
    have hn' : n3 = n := (hn3 e (get_mem he)).symm.trans hen
    subst hn' e1
    have hxl : xs.length = fs.length * n3 := hown3.1
    have hlt : k' * n3 + p < xs.length := by rw [hxl]; exact at_lt (get_lt he) hp
    have h6 := f4 (k' * n3 + p) xs[k' * n3 + p] (List.getElem?_eq_getElem hlt)
    have h7 := s.cell h hj hv he hen hp h6
    rw [hcell] at h7
    rw [h6, h7]
theorem DC.el {m : Nat} {ty : TypeId} {x : Operand} {j k' n o' : Nat} {ag : Bool} {es : List T} {ys : List Leaf} (hn : nthO l i = some o) (ho : o.op = .load ty x) (hx : σ.ev x = V.one (.ep j k' n o')) (hob : j < τ.nx ∧ σ.ob j = τ.ob j) (hc : σ.cells (.ep j k' n o') = some es) (hag : ∀ w, (isAgg ty).run Tryz.prog w = .ok ag w) (hm : Sz ty m) (h1 : ag = false → m = 1) (hml : m ≤ es.length)
    (hy : (List.range m).map (fun q => match es[q]? with | some t => σ.cellLeaf (.ep j k' n o') q t | none => .dead) = ys) (hg : o.guard = none) (hd : o.dst = some d) (hdN : d < N) (hQ : ∀ c (a : Act) v w, Q (.panic c) (a.put o.dst v) w → Q (.panic c) a w) (k : DC E N τ wl fr (σ.put d (V.flat ag ys)) fun ws Gs a w => wpPi Tryz.prog l.toArray Q (SC E τ wl ws Gs) zs ps a w) :
    DC E N τ wl fr σ fun ws Gs a w => wpPi Tryz.prog l.toArray Q (SC E τ wl ws Gs) zs (.q i ps) a w := fun ws Gs a w G hr hl => by
  obtain ⟨u, b, q, h2, h3, h4⟩ := load_el ho hx hc hag hm h1 hml hy hr
  refine pi_take (v := u) hn (fun c a w => hQ c a u w) (by simp [Region.wanted, hg]) (fun v hv => h3 v fun p y hp hcell => ?_) ?_
  · have h5 := hr.ev x
    rw [hx, vone] at h5
    obtain ⟨⟨-, g, M, c, h6, h7⟩, -⟩ := h5
    rw [h2] at h7
    injection h7 with h7
    injection h7 with h7
    injection h7 with h7 h8
    subst h7 h8
    obtain ⟨⟨ver, s⟩, e1, e2⟩ := Option.bind_eq_some_iff.1 hc
    obtain ⟨-, hown, ty', fs, hs⟩ := hr.objs j ver s e1
    have hs' : s = .seq ty' fs := hs
    subst hs'
    obtain ⟨e, he, e3⟩ := Option.bind_eq_some_iff.1 e2
    have hen : e.length = n := by
      cases hb : Nat.beq e.length n with
      | true => exact Nat.eq_of_beq_eq_true hb
      | false => simp only [hb] at e3; cases e3
    have hed : e.drop o' = es := by
      have hb : Nat.beq e.length n = true := by rw [hen]; exact Nat.beq_refl n
      simpa [hb] using e3
    have hlen : o' + p < n := by
      have : (e.drop o').length = es.length := by rw [hed]
      rw [List.length_drop, hen] at this
      omega
    obtain ⟨ar, hrs⟩ := hl.start
    have hj : τ.ob j = some (ver, .seq ty' fs) := by rw [← hob.2]; exact e1
    have hv0 : Gs.vl j = .slice (some ⟨b, 0, none⟩) M c := by rw [← hl.vl j hob.1]; exact h6
    have hcell' : w.cell? ⟨b, k' * n + (o' + p), none⟩ = some y := by rw [← Nat.add_assoc]; exact hcell
    have := hv.cell hrs hj hv0 he hen hlen (hl.same.cellB hrs hj hv0 he hen hlen hcell')
    rwa [← Nat.add_assoc] at this
  · rw [hd]
    exact k _ _ _ _ _ (hr.put hdN h4) hl.put
theorem ansS_bs : ∀ (ts : List T) (σ : VS), (ansS σ ts).bs = σ.bs
  | [], _ => rfl
  | .seq ty es :: ts, σ => ansS_bs ts (σ.new (.seq ty es))
  | .any :: ts, σ => ansS_bs ts σ
  | .lit u :: ts, σ => ansS_bs ts σ
theorem ansSs_bs : ∀ (qs : List (Bool × List T)) (σ : VS), (ansSs σ qs).bs = σ.bs
  | [], _ => rfl
  | (ag, ts) :: qs, σ => (ansSs_bs qs (ansS σ ts)).trans (ansS_bs ts σ)
theorem DC.mK {Y : Type} {Pr : Y → Prop} (hC : E.code ad len cap zs0) {b : Nat} {f : FuncId} {x0 : Operand} {xs : List Operand} {us : List Value} {ats : Array TypeId} {tup : Bool} {rs : Y → List (Bool × List T)} {p h0 : Int} (hn : nthO l i = some o) (ho : o.op = .call { callee := .value (.func f), args := (x0 :: xs).toArray, argTypes := ats }) (hb : ∃ fn c, P.funcs[f]? = some fn ∧ fn.body = some c ∧ fn.name ≠ "runtime.NumGoroutine")
    (hc : VK ad len cap zs0 Pr P f us tup rs) (hx0 : σ.ev x0 = V.one (.bp b 0)) (hx : σ.scs xs us) (hbx : σ.bs[b]? = some (75, curL ad len cap p h0)) (hbw : b ∈ wl) (hbt : b < τ.bs.length) (hp : 0 ≤ p ∧ p ≤ len) (hd : o.dst = some d) (hdN : d < N) (hg : o.guard = none)
    (k : ∀ (y : Y) (p' h' : Int), Pr y → 0 ≤ p' ∧ p' ≤ len → DC E N τ wl fr ((ansSs (σ.setb b 75 (curL ad len cap p' h')) (rs y)).put d ⟨tup, ansLs σ.nx (rs y)⟩) fun ws Gs a w => wpPi P l.toArray Q (SC E τ wl ws Gs) zs ps a w) : DC E N τ wl fr σ fun ws Gs a w => wpPi P l.toArray Q (SC E τ wl ws Gs) zs (.m i ps) a w := fun ws Gs a w G hr hl => by
  refine pi_step hn fun K hK => ?_
  rw [if_pos (by simp [Region.wanted, hg])]
  refine callK_core hC ho hb hc hx0 hx hbx hp hd hdN hr fun y p' h' a' w' G' hy hp' hr' hon hvl hβ hnx => ?_
  have hsame : SameC E τ wl Gs ws w' := by
    refine ⟨⟨hon.os.trans hl.same.below.os, hon.tape.trans hl.same.below.tape, hon.output.trans hl.same.below.output, Nat.le_trans hl.same.below.size hon.size, fun q hq => ?_⟩, fun q hq => ?_⟩
    · obtain ⟨ar, hrs⟩ := hl.start
      have hqw : q < ws.heap.size := Nat.lt_of_lt_of_le hq.1 hrs.low
      refine (hon.block q (Nat.lt_of_lt_of_le hqw hl.same.below.size) fun e => ?_).trans (hl.same.below.block q hq)
      have e' := Option.some.inj e
      obtain ⟨hB, -⟩ := hr.boxes b _ _ hbx
      rw [← e'] at hB
      exact hB.elim (fun h => Nat.lt_irrefl _ (Nat.lt_of_lt_of_le hq.1 h)) hq.2
    · by_cases hqb : q = G.β b
      · exact .inr (.inl ⟨b, hbw, hbt, hqb.trans (hl.β b hbt)⟩)
      · have h1 := hon.block q (Nat.lt_of_lt_of_le hq hl.same.below.size) fun e => hqb (Option.some.inj e)
        rcases hl.same.block q hq with h2 | h2 | ⟨i2, v2, ty2, es2, n2, ds, ds', f1, f2, f3, f4, f5, f6, f7⟩
        · exact .inl (h1.trans h2)
        · exact .inr (.inl h2)
        · exact .inr (.inr ⟨i2, v2, ty2, es2, n2, ds, ds', f1, f2, f3, f4, h1.trans f5, f6, f7⟩)
  refine hK.out a' w' hsame fun _ => k y p' h' hy hp' ws Gs a' w' G' hr' ⟨hl.start, hsame, fun j hj => (hvl j (Nat.lt_of_lt_of_le hj hl.nx)).trans (hl.vl j hj), fun c hc => by rw [hβ]; exact hl.β c hc, Nat.le_trans hl.nx hnx, ?_, fun j hj => ⟨Nat.lt_of_lt_of_le (hl.fresh j hj).1 hnx, fun c hc => (hl.fresh j hj).2 c (by rw [← hvl j (hl.fresh j hj).1]; exact hc)⟩, fun c h1 h2 => by
    rw [hβ]
    have h3 : c < (ansSs _ _).bs.length := h2
    rw [ansSs_bs] at h3
    exact hl.nb c h1 (by simpa [VS.setb] using h3)⟩
  show τ.bs.length ≤ (ansSs _ _).bs.length
  rw [ansSs_bs]
  simpa [VS.setb] using hl.bs
theorem DC.m (ho : nthO l i = some o) (h : OpMk P E N none σ o σ') (hg : o.guard = none) (hbs : σ'.bs.length = σ.bs.length) (hnx : σ.nx ≤ σ'.nx)
    (k : DC E N τ wl fr σ' fun ws Gs a w => wpPi P l.toArray Q (SC E τ wl ws Gs) zs ps a w) : DC E N τ wl fr σ fun ws Gs a w => wpPi P l.toArray Q (SC E τ wl ws Gs) zs (.m i ps) a w := fun ws Gs a w G hr hl => by
  refine pi_step ho fun K hK => ?_
  rw [if_pos (by simp [Region.wanted, hg])]
  refine h a w G K Q hr fun a' w' G' hr' hm => ?_
  have hblk : ∀ b, b < w.heap.size → w'.heap[b]? = w.heap[b]? := fun b hb => by
    rcases hm.block b hb with h1 | ⟨j, v, ty, es, n, cs, cs', e1, -⟩
    · exact h1
    · cases e1
  have hsame : SameC E τ wl Gs ws w' := by
    refine ⟨hl.same.below.trans hm.below, fun b hb => ?_⟩
    have h1 := hblk b (Nat.lt_of_lt_of_le hb hl.same.below.size)
    rcases hl.same.block b hb with h2 | h2 | ⟨i2, v2, ty2, es2, n2, ds, ds', f1, f2, f3, f4, f5, f6, f7⟩
    · exact .inl (h1.trans h2)
    · exact .inr (.inl h2)
    · exact .inr (.inr ⟨i2, v2, ty2, es2, n2, ds, ds', f1, f2, f3, f4, h1.trans f5, f6, f7⟩)
  exact hK.out a' w' hsame fun _ => k ws Gs a' w' G' hr' ⟨hl.start, hsame, fun j hj => (hm.vl j (Nat.lt_of_lt_of_le hj hl.nx)).trans (hl.vl j hj), fun b hb => (hm.β b (Nat.lt_of_lt_of_le hb hl.bs)).trans (hl.β b hb), Nat.le_trans hl.nx hnx, by rw [hbs]; exact hl.bs, fun j hj => ⟨Nat.lt_of_lt_of_le (hl.fresh j hj).1 hnx, fun b hb => (hl.fresh j hj).2 b (by rw [← hm.vl j (hl.fresh j hj).1]; exact hb)⟩, fun b h1 h2 => by rw [hbs] at h2; rw [hm.β b h2]; exact hl.nb b h1 h2⟩
theorem LinkC.box (h : LinkC E N τ wl ws Gs fr σ w G) {v : World} (s : SameC E τ wl Gs ws v) {c : Nat} (hc : c < τ.bs.length) (hw : c ∉ wl) : v.heap[G.β c]? = w.heap[G.β c]? := by
  obtain ⟨ar, hrs⟩ := h.start
  have key : ∀ {u : World}, SameC E τ wl Gs ws u → u.heap[Gs.β c]? = ws.heap[Gs.β c]? := fun {u} t => by
    obtain ⟨-, us, h2, -⟩ := hrs.boxes c _ _ (List.getElem?_eq_getElem hc)
    rcases t.block (Gs.β c) (lt_of_block h2) with h1 | ⟨c', hc1, hc2, h1⟩ | ⟨i, ver, ty, es, n, cs, cs', e1, e2, -⟩
    · exact h1
    · exact absurd (hrs.inj c c' hc hc2 h1) (fun e => hw (e ▸ hc1))
    · exact absurd (root_ft hrs e1 e2) (hrs.boxft c i hc (by rw [e1]; simp))
  rw [h.β c hc]
  exact (key s).trans (key h.same).symm
theorem DC.lb {b i' m : Nat} {ty ty' : TypeId} {x : Operand} {ag : Bool} {xs ys : List Leaf} (ho : nthO l i = some o) (hop : o.op = .load ty x) (hx : σ.ev x = V.one (.bp b i')) (hb : σ.bs[b]? = some (ty', xs)) (hag : ∀ w, (isAgg ty).run P w = .ok ag w) (hm : ∃ inf, P.info? ty = some inf ∧ inf.size = m) (h1 : ag = false → m = 1)
    (hy : (xs.drop i').take m = ys) (hyl : ys.length = m) (hbt : b < τ.bs.length) (hw : b ∉ wl) (hg : o.guard = none) (hd : o.dst = some d) (hdN : d < N) (hQ : ∀ c (a : Act) v w, Q (.panic c) (a.put o.dst v) w → Q (.panic c) a w)
    (k : DC E N τ wl fr (σ.put d (V.flat ag ys)) fun ws Gs a w => wpPi P l.toArray Q (SC E τ wl ws Gs) zs ps a w) : DC E N τ wl fr σ fun ws Gs a w => wpPi P l.toArray Q (SC E τ wl ws Gs) zs (.q i ps) a w := fun ws Gs a w G h hl => by
  have h2 := h.ev x
  rw [hx, vone] at h2
  obtain ⟨⟨-, h3⟩, -⟩ := h2
  obtain ⟨-, us, h4, h5, h6⟩ := h.boxes b ty' xs hb
  have h7 : ((us.drop i').take m).length = m := by
    have : ((xs.drop i').take m).length = m := by rw [hy]; exact hyl
    simp only [List.length_take, List.length_drop] at this ⊢
    omega
  refine pi_take (v := cval ag ((us.drop i').take m)) ho (fun c a w => hQ c a _ w) (by simp [Region.wanted, hg]) (fun v hv => ?_) ?_
  · have hr := load_run (P := P) (w := v) (b := G.β b) (i := i') (us := (us.drop i').take m) hag hm h1 h7 fun j u hj => by
      rw [cell_of_row v _ _ _ _ _ ((hl.box hv hbt hw).trans h4)]
      simpa using cut_get hj
    simp [execOp, hop, h3, Instr.loadAt, Instr.sureAddr, hr, Result.andThen]
  · rw [hd]
    exact k ws Gs _ w G (h.put hdN (vflat.2 ⟨_, rfl, by rw [h7, hyl], fun j y u hj hu => (h6 (i' + j) y u (cut_get (by rw [hy]; exact hj)) (cut_get hu)).1⟩)) hl.put
theorem DC.store {b i' m : Nat} {ty ty' : TypeId} {x y : Operand} {ag : Bool} {xs zs1 : List Leaf} (ho : o.op = .store ty x y) (hx : σ.ev x = V.one (.bp b i')) (hy : σ.ev y = V.flat ag zs1) (hb : σ.bs[b]? = some (ty', xs)) (hm : ∃ inf, P.info? ty = some inf ∧ inf.size = m) (h1 : ag = false → m = 1)
    (hzl : zs1.length = m) (hi : i' + m ≤ xs.length) (hlv' : zs1.all Leaf.live = true) (hd : o.dst = none) {ys : List Leaf} (hk : xs.take i' ++ zs1 ++ xs.drop (i' + zs1.length) = ys) (hn : nthO l i = some o) (hbw : b ∈ wl) (hbt : b < τ.bs.length) (hg : o.guard = none) (k : DC E N τ wl fr (σ.setb b ty' ys) fun ws Gs a w => wpPi P l.toArray Q (SC E τ wl ws Gs) zs ps a w) : DC E N τ wl fr σ fun ws Gs a w => wpPi P l.toArray Q (SC E τ wl ws Gs) zs (.m i ps) a w := fun ws Gs a w G h hl => by
  refine pi_step hn fun K hK => ?_
  rw [if_pos (by simp [Region.wanted, hg])]
  subst hk
  have h2 := h.ev x
  rw [hx, vone] at h2
  obtain ⟨⟨-, h3⟩, -⟩ := h2
  have hlv : ∀ x ∈ zs1, x.live = true := List.all_eq_true.1 hlv'
  have h4 := h.ev y
  rw [hy, vflat] at h4
  obtain ⟨vs, h5, h6, h7⟩ := h4
  obtain ⟨hB, us, h8, h9, h10⟩ := h.boxes b ty' xs hb
  have hone : ∀ (j : Nat) (x : Leaf) (u : Value), zs1[j]? = some x → vs[j]? = some u → Holds G σ E w x u ∧ u.oneCell' = true := fun j x u hj hu => ⟨h7 j x u hj hu, (h7 j x u hj hu).one (hlv x (get_mem hj))⟩
  have hr := store_run (P := P) (w := w) (b := G.β b) (i := i') (us := vs) (ag := ag) hm h1 (h6.trans hzl) (fun u hu => by
    obtain ⟨j, hj, rfl⟩ := List.getElem_of_mem hu
    exact (hone j zs1[j] vs[j] (by simp [show j < zs1.length by omega]) (by simp [hj])).2) (fun k hk => by
    rw [cell_of_row w _ _ _ _ _ h8]
    simp [show i' + k < us.length by omega]) fun k hk => by simp [World.frozen?, h8]
  have hsm : SameC E τ wl Gs ws (w.setCells (G.β b) i' vs) := by
    refine ⟨⟨(setCells_below _ _ _ _ _ (Nat.le_refl (G.β b))).os.trans hl.same.below.os, (setCells_below _ _ _ _ _ (Nat.le_refl (G.β b))).tape.trans hl.same.below.tape, (setCells_below _ _ _ _ _ (Nat.le_refl (G.β b))).output.trans hl.same.below.output, Nat.le_trans hl.same.below.size (setCells_below _ _ _ _ _ (Nat.le_refl (G.β b))).size, fun q hq => (setCells_far _ _ _ _ q fun e => by subst e; exact hB.elim (fun h1 => Nat.lt_irrefl _ (Nat.lt_of_lt_of_le hq.1 h1)) hq.2).trans (hl.same.below.block q hq)⟩, fun q hq => ?_⟩
    by_cases hqb : q = G.β b
    · exact .inr (.inl ⟨b, hbw, hbt, hqb.trans (hl.β b hbt)⟩)
    · have h1 := setCells_far (G.β b) vs i' w q hqb
      rcases hl.same.block q hq with h2 | h2 | ⟨i2, v2, ty2, es2, n2, ds, ds', f1, f2, f3, f4, f5, f6, f7⟩
      · exact .inl (h1.trans h2)
      · exact .inr (.inl h2)
      · exact .inr (.inr ⟨i2, v2, ty2, es2, n2, ds, ds', f1, f2, f3, f4, h1.trans f5, f6, f7⟩)
  have hrel := h.setbox hb ⟨(setCells_below _ _ _ _ _ (Nat.le_refl (G.β b))).os, (setCells_below _ _ _ _ _ (Nat.le_refl (G.β b))).tape, (setCells_below _ _ _ _ _ (Nat.le_refl (G.β b))).output, (setCells_below _ _ _ _ _ (Nat.le_refl (G.β b))).size, fun k hk => setCells_far (G.β b) vs i' w k fun e => by subst e; exact hB.elim (fun h1 => Nat.lt_irrefl _ (Nat.lt_of_lt_of_le hk.1 h1)) hk.2⟩ (fun k hk => setCells_far (G.β b) vs i' w k hk) (setCells_heap _ _ _ _ us ty' h8 (by omega)) (by simp; omega)
        (cat_get (R := fun x u => Holds G σ E w x u ∧ u.oneCell' = true) h9 h6 (by omega) h10 hone)
  refine wp_skipped (w' := w.setCells (G.β b) i' vs) ?_ (by
    rw [hd]
    exact hK.out _ _ hsm fun _ => k ws Gs _ _ G hrel ⟨hl.start, hsm, hl.vl, hl.β, hl.nx, by simpa [VS.setb] using hl.bs, hl.fresh, fun c h1 h2 => hl.nb c h1 (by simpa [VS.setb] using h2)⟩)
  simp [execOp, ho, h3, h5, Instr.storeAt, Instr.sureAddr, hr, Result.andThen]
theorem DC.alloc {ty : TypeId} {z : Value} {xs : List Leaf} {kk : Nat} (hn : nthO l i = some o) (hk : σ.bs.length = kk) (ho : o.op = .alloc ty) (hz : ∀ w, (zeroValue ty).run P w = .ok z w) (hxs : ZL xs z.cells.toList) (hd : o.dst = some d) (hdN : d < N) (hg : o.guard = none)
    (k : DC E N τ wl fr ((σ.box ty xs).put d (V.one (.bp kk 0))) fun ws Gs a w => wpPi P l.toArray Q (SC E τ wl ws Gs) zs ps a w) : DC E N τ wl fr σ fun ws Gs a w => wpPi P l.toArray Q (SC E τ wl ws Gs) zs (.m i ps) a w := fun ws Gs a w G hr hl => by
  refine pi_step hn fun K hK => ?_
  rw [if_pos (by simp [Region.wanted, hg])]
  subst hk
  obtain ⟨G', h1, h2, h3, h4⟩ := hr.alloc (ty := ty) hxs.len hxs.holds
  have hb : Below w.heap.size w (w.alloc (.cells z.cells.toList.toArray ty)) := (Below.refl _ _).alloc (Nat.le_refl _) _
  have hsame : SameC E τ wl Gs ws (w.alloc (.cells z.cells.toList.toArray ty)) := by
    refine ⟨hl.same.below.trans (.of_below (hb.mono hr.low)), fun b hb' => ?_⟩
    have h5 := hb.block b (Nat.lt_of_lt_of_le hb' hl.same.below.size)
    rcases hl.same.block b hb' with e2 | e2 | ⟨i2, v2, ty2, es2, n2, ds, ds', f1, f2, f3, f4, f5, f6, f7⟩
    · exact .inl (h5.trans e2)
    · exact .inr (.inl e2)
    · exact .inr (.inr ⟨i2, v2, ty2, es2, n2, ds, ds', f1, f2, f3, f4, h5.trans f5, f6, f7⟩)
  refine wp_value (v := .pointer (some ⟨w.heap.size, 0, none⟩)) (w' := w.alloc (.cells z.cells.toList.toArray ty)) ?_ ?_
  · simp [execOp, ho, Instr.alloc, hz, newVar, newRow, Result.andThen]
  rw [hd]
  refine hK.out _ _ hsame fun _ => k ws Gs _ _ G' (h1.put hdN (vone.2 ⟨⟨by simp, by rw [h2]⟩, .inr rfl⟩)) ⟨hl.start, hsame, fun j hj => by rw [h3]; exact hl.vl j hj, fun b hb' => (h4 b (Nat.lt_of_lt_of_le hb' hl.bs)).trans (hl.β b hb'), hl.nx, ?_, fun j hj => ⟨(hl.fresh j hj).1, fun b hb' => (hl.fresh j hj).2 b (by rw [← h3]; exact hb')⟩, fun b h5 h6 => ?_⟩
  · show τ.bs.length ≤ (σ.bs ++ [(ty, xs)]).length
    rw [List.length_append]
    have := hl.bs
    omega
  · have h6' : b < (σ.bs ++ [(ty, xs)]).length := h6
    rw [List.length_append, List.length_singleton] at h6'
    rcases Nat.lt_or_ge b σ.bs.length with h7 | h7
    · rw [h4 b h7]; exact hl.nb b h5 h7
    · rw [show b = σ.bs.length by omega, h2]
      exact hl.same.below.size
theorem DC.alt {ps1 ps2 : Pl} {j : Nat} (h1 : DC E N τ wl fr σ fun ws Gs a w => wpPi P l.toArray Q (SC E τ wl ws Gs) zs (.m i ps1) a w) (h2 : DC E N τ wl fr σ fun ws Gs a w => wpPi P l.toArray Q (SC E τ wl ws Gs) zs (.m j ps2) a w) :
    DC E N τ wl fr σ fun ws Gs a w => wpPi P l.toArray Q (SC E τ wl ws Gs) zs (.alt i ps1 j ps2) a w := fun ws Gs a w G hr hl => ⟨h1 ws Gs a w G hr hl, h2 ws Gs a w G hr hl⟩
theorem DC.stores (h : SV E N σ (wpZ P l.toArray Q zs)) : DC E N τ wl fr σ fun ws Gs a w => wpPi P l.toArray Q (SC E τ wl ws Gs) zs .nil a w := fun ws Gs a w G hr hl => pi_end (h a w G hr)
end Go.Proofs.YtjdjceohlcimaaaGreatDoor.V
/- A disk that is drawn: told by trees. -/
namespace Go.Proofs.YtjdjceohlcimaaaGreatDoor
open Go Go.RowKit V
set_option linter.unusedVariables false
theorem good_nil : goodDisk ⟨[], 0⟩ := ⟨fun f hf => (by cases hf), i64_of (Int.le_refl _) (by show (0:Int) ≤ 1000000000; decide), trivial⟩
theorem wt_nil : wtDisk ⟨[], 0⟩ ≤ 1048576 := by decide
theorem i64_wrap (x : Int) : I64 (wrap64 x) := by unfold I64 wrap64; omega
theorem wt_set_le {F : List FileD} {k : Nat} {f g : FileD} (hk : F[k]? = some f) (h : wtFile g ≤ wtFile f) : wtAll wtFile (F.set k g) ≤ wtAll wtFile F := by
  have hkl := V.get_lt hk
  have he : F[k] = f := by rw [List.getElem?_eq_getElem hkl] at hk; exact Option.some.inj hk
  unfold wtAll
  have e1 : F = F.take k ++ F[k] :: F.drop (k + 1) := by rw [← List.drop_eq_getElem_cons hkl, List.take_append_drop]
  have e2 : F.set k g = F.take k ++ g :: F.drop (k + 1) := by rw [List.set_eq_take_append_cons_drop, if_pos hkl]
  rw [List.length_set]
  have c1 : (F.map wtFile).sum = ((F.take k).map wtFile).sum + (wtFile f + ((F.drop (k + 1)).map wtFile).sum) := by conv => lhs; rw [e1, he, List.map_append, List.sum_append, List.map_cons, List.sum_cons]
  have c2 : ((F.set k g).map wtFile).sum = ((F.take k).map wtFile).sum + (wtFile g + ((F.drop (k + 1)).map wtFile).sum) := by rw [e2, List.map_append, List.sum_append, List.map_cons, List.sum_cons]
  omega
theorem wt_drop1 (P : List (List R)) : wtPages (P.drop 1) ≤ wtPages P := by
  unfold wtPages wtAll
  cases P with
  | nil => exact Nat.le_refl _
  | cons p P => simp only [List.drop_one, List.tail_cons, List.map_cons, List.sum_cons, List.length_cons]; omega
theorem wt_snoc_file {F : List FileD} {j : Nat} (hj : j < F.length) : wtAll wtFile (F ++ [F[j]]) ≤ 2 * wtAll wtFile F := by
  have e1 : F = F.take j ++ F[j] :: F.drop (j + 1) := by rw [← List.drop_eq_getElem_cons hj, List.take_append_drop]
  have c1 : (F.map wtFile).sum = ((F.take j).map wtFile).sum + (wtFile F[j] + ((F.drop (j + 1)).map wtFile).sum) := by conv => lhs; rw [e1, List.map_append, List.sum_append, List.map_cons, List.sum_cons]
  unfold wtAll
  simp only [List.map_append, List.sum_append, List.length_append, List.map_cons, List.map_nil, List.sum_cons, List.sum_nil, List.length_cons, List.length_nil]
  omega
theorem cell_cases {f : FileD} {u : Value} {i : Nat} {t t2 : T} (h3 : ((tFile f).set 1 (.lit u))[i]? = some t) (h4 : (tFile f)[i]? = some t2) : t2 = t ∨ (t = .lit u ∧ t2 = .seq 29 (f.fPages.map tPage)) := by
  by_cases hi : i = 1
  · subst hi
    cases h3
    cases h4
    exact .inr ⟨rfl, rfl⟩
  · rw [List.getElem?_set_ne (fun q => hi q.symm)] at h3
    rw [h3] at h4
    cases h4
    exact .inl rfl
theorem freeze_dup {F : List FileD} {j : Nat} {f : FileD} (hx : F[j]? = some f) {u : Value} : ∀ (k : Nat) (e e2 : List T) (i : Nat) (t t2 : T), ((F.map tFile).set j ((tFile f).set 1 (.lit u)) ++ [(tFile f).set 1 (.lit u)])[k]? = some e → ((F ++ [f]).map tFile)[k]? = some e2 → e[i]? = some t → e2[i]? = some t2 → t2 = t ∨ (t = .lit u ∧ t2 = .seq 29 (f.fPages.map tPage)) := by
  intro k e e2 i t t2 h1 h2 h3 h4
  have hjl := V.get_lt hx
  rw [List.map_append] at h2
  by_cases hk : k < F.length
  · rw [List.getElem?_append_left (by rw [List.length_set, List.length_map]; exact hk)] at h1
    rw [List.getElem?_append_left (by rw [List.length_map]; exact hk)] at h2
    by_cases hkj : k = j
    · subst hkj
      rw [List.getElem?_set_self (by rw [List.length_map]; exact hk)] at h1
      cases h1
      rw [List.getElem?_map, hx] at h2
      cases h2
      exact cell_cases h3 h4
    · rw [List.getElem?_set_ne (fun q => hkj q.symm), h2] at h1
      cases h1
      rw [h3] at h4
      cases h4
      exact .inl rfl
  · rw [List.getElem?_append_right (by rw [List.length_set, List.length_map]; omega), List.length_set, List.length_map] at h1
    rw [List.getElem?_append_right (by rw [List.length_map]; omega), List.length_map] at h2
    have hz : k - F.length = 0 := by have := V.get_lt h1; simp at this; omega
    rw [hz] at h1 h2
    cases h1
    cases h2
    exact cell_cases h3 h4
theorem freeze_tail {F : List FileD} {j : Nat} {f : FileD} (hx : F[j]? = some f) {u : Value} : ∀ (k : Nat) (e e2 : List T) (i : Nat) (t t2 : T), ((F.map tFile).set j ((tFile f).set 1 (.lit u)))[k]? = some e → ((F.set j { f with fPages := f.fPages.drop 1 }).map tFile)[k]? = some e2 → e[i]? = some t → e2[i]? = some t2 → t2 = t ∨ (t = .lit u ∧ t2 = .seq 29 ((f.fPages.map tPage).drop 1)) := by
  intro k e e2 i t t2 h1 h2 h3 h4
  have hjl := V.get_lt hx
  rw [List.map_set] at h2
  by_cases hkj : k = j
  · subst hkj
    rw [List.getElem?_set_self (by rw [List.length_map]; exact hjl)] at h1 h2
    cases h1
    cases h2
    by_cases hi : i = 1
    · subst hi
      cases h3
      cases h4
      exact .inr ⟨rfl, by rw [List.map_drop]⟩
    · rw [List.getElem?_set_ne (fun q => hi q.symm)] at h3
      match i, hi, h3, h4 with
      | 0, _, h3, h4 => cases h3; cases h4; exact .inl rfl
      | 2, _, h3, h4 => cases h3; cases h4; exact .inl rfl
      | 3, _, h3, h4 => cases h3; cases h4; exact .inl rfl
  · rw [List.getElem?_set_ne (fun q => hkj q.symm)] at h1 h2
    rw [h1] at h2
    cases h2
    rw [h3] at h4
    cases h4
    exact .inl rfl
theorem all4 {es : List (List T)} (h : ∀ e ∈ es, e.length = 4) {k : Nat} {e : List T} (hk : es[k]? = some e) : e.length = 4 := h e (V.get_mem hk)
theorem all4_map (F : List FileD) : ∀ e ∈ F.map tFile, e.length = 4 := fun e he => by obtain ⟨x, -, rfl⟩ := List.mem_map.1 he; rfl
theorem all4_set (F : List FileD) (j : Nat) (f : FileD) (u : T) : ∀ e ∈ (F.map tFile).set j ((tFile f).set 1 u), e.length = 4 := fun e he => by
  rcases List.mem_or_eq_of_mem_set he with h | h
  · exact all4_map F e h
  · rw [h]; rfl
theorem all4_dup (F : List FileD) (j : Nat) (f : FileD) (u : T) : ∀ e ∈ (F.map tFile).set j ((tFile f).set 1 u) ++ [(tFile f).set 1 u], e.length = 4 := fun e he => by
  rcases List.mem_append.1 he with h | h
  · exact all4_set F j f u e h
  · rw [List.mem_singleton.1 h]; rfl
theorem pack_good {L : List R} (hL : ∀ r ∈ L, r.wf) {p : List R} (hp : p ∈ R.pack L) : goodPage p := fun r hr => by
  cases ho : okRows L with
  | false => rw [R.pack_bad ho] at hp; cases hp
  | true => exact hL r (by rw [← R.pack_flat ho]; exact List.mem_flatten.2 ⟨p, hp, hr⟩)
set_option maxRecDepth 100000 in
set_option maxHeartbeats 2000000 in
theorem vk_disk {ad : Option Addr} {len cap : Nat} {zs : List Int}  : VKI ad len cap zs (fun X : DiskD => goodDisk X ∧ wtDisk X ≤ 3000000) Tryz.prog 26 [] false (fun X => [(true, tDisk X)]) := by
  refine VKI.enter Tryz.func26 rfl Tryz.ntmps26 (gle rfl) (by simp) fun E c p h0 hE hC hpin hp => ?_
  refine SV.seq' ?_
  refine SV.region ?_
  refine SV.op (OpMk.ok (ok_alloc (kk := 1) (xs := [.nl _, .sc _]) rfl rfl zero_impl_Disk ⟨rfl, ⟨4, by decide, sz_impl_File⟩, rfl, rfl, trivial⟩ rfl (gle rfl))) rfl ?_
  refine SV.nil ?_
  refine SV.tn ?_
  refine SV.seq' ?_
  refine SV.region ?_
  refine SV.op (OpL.ok (nb := 2) (ok_build (zs := [.nl _, .sc _]) (ys := [.nl _, .sc _]) (qs := []) (pl := fun i => ([(0, 1), (1, 1)] : List (Nat × Nat))[i]?) rfl zero_impl_Disk ⟨rfl, ⟨4, by decide, sz_impl_File⟩, rfl, rfl, trivial⟩ trivial bld_impl_Disk rfl) rfl (gle rfl)) rfl ?_
  refine SV.op (OpMk.ok (ok_alloc (kk := 2) (xs := [.nl _, .sc _]) rfl rfl zero_impl_Disk ⟨rfl, ⟨4, by decide, sz_impl_File⟩, rfl, rfl, trivial⟩ rfl (gle rfl))) rfl ?_
  refine SV.op (ok_store_bp (b := 2) (i := 0) (m := 2) (ag := true) (zs := [.nl _, .sc _]) (ys := [.nl _, .sc _]) rfl rfl rfl rfl sz_impl_Disk (fun h => by cases h) rfl (gle rfl) rfl rfl rfl) rfl ?_
  refine SV.nil ?_
  refine SV.tn ?_
  refine SV.seq' ?_
  refine SV.seq' ?_
  refine SV.region ?_
  refine SV.op (OpL.ok (nb := 3) (ok_move (v := V.one (.bp 0 0)) (.inl rfl) rfl) rfl (gle rfl)) rfl ?_
  refine SV.callK (b := 0) hC rfl ⟨_, _, Tryz.func27, rfl, by decide⟩ (vk_below 5 (by decide) (by decide)) rfl ⟨rfl, trivial⟩ rfl hp rfl (gle rfl) (fun _ => wanted0 rfl) ?_
  rintro k0 p1 h1 ⟨hk0, hk1⟩ hp1
  refine SV.op (OpL.ok (nb := 3) (ok_move (v := V.one (.sc _)) (.inr rfl) rfl) rfl (gle rfl)) rfl ?_
  refine SV.nil ?_
  refine SV.tn ?_
  refine SV.block ?_
  refine SV.nlbox (b := 2) (j := 0) (kk := 0) rfl rfl rfl (ys := [.hd 0, .sc _]) rfl ?_
  refine SV.loopF (X := Int × Int × Int × DiskD) (fun (σ : VS) z => ((((((((VS.nil.new (.seq 58 ((z.2.2.2).fFiles.map tFile))).box 75 [σ.bl 0 0, .sc (.int .i64 (z.1)), .sc (.int .i64 (z.2.1))]).box 26 [σ.bl 1 0, σ.bl 1 1]).box 26 [.hd 0, .sc (.int .i64 (z.2.2.2.fNextName))]).put 0 (V.flat false [.bp 0 0])).put 2 (V.flat false [.bp 1 0])).put 3 (V.flat false [.bp 2 0])).put 4 (V.flat false [.sc (.int .i64 (z.2.2.1))]))) (fun z => (0 ≤ z.1 ∧ z.1 ≤ len) ∧ (0 ≤ z.2.2.1 ∧ z.2.2.1 ≤ 5) ∧ goodDisk z.2.2.2 ∧ wtDisk z.2.2.2 ≤ 1048576) (fun z => z.2.2.1.toNat) ?_ ?_
  · skip
    refine SV.again (fun i => [0].getD i 0) (p1, h1, k0, (⟨[], 0⟩ : DiskD)) (⟨hp1, ⟨hk0, by show k0 ≤ 5; omega⟩, good_nil, wt_nil⟩) (pinsC hE rfl) (VS.le.mk' (le_put (le_put (le_put (le_put (le_box (le_box (le_box (le_new le_nil)))) (V.le.keep (ag := false) (xs := [.bp 0 0]) (ys := [.bp 0 0]) rfl rfl ⟨⟨rfl, (gle rfl)⟩, trivial⟩)) (V.le.keep (ag := false) (xs := [.bp 1 0]) (ys := [.bp 1 0]) rfl rfl ⟨⟨rfl, (gle rfl)⟩, trivial⟩)) (V.le.keep (ag := false) (xs := [.bp 2 0]) (ys := [.bp 2 0]) rfl rfl ⟨⟨rfl, (gle rfl)⟩, trivial⟩)) (V.le.keep (ag := false) (xs := [.sc _]) (ys := [.sc _]) rfl rfl ⟨(by first | rfl | (show Leaf.sc _ = Leaf.sc _; refine congrArg Leaf.sc ?_; first | rfl | go_num | (simp [cntAll]; done)) | (simp [cntAll]; done) | (simp; omega)), trivial⟩)) ⟨⟨rfl, ⟨rfl, (by first | rfl | (show Leaf.sc _ = Leaf.sc _; refine congrArg Leaf.sc ?_; first | rfl | go_num | (simp [cntAll]; done)) | (simp [cntAll]; done) | (simp; omega)), (by first | rfl | (show Leaf.sc _ = Leaf.sc _; refine congrArg Leaf.sc ?_; first | rfl | go_num | (simp [cntAll]; done)) | (simp [cntAll]; done) | (simp; omega)), trivial⟩⟩, ⟨⟨rfl, ⟨rfl, rfl, trivial⟩⟩, ⟨⟨rfl, ⟨⟨rfl, (gle rfl), (gle rfl)⟩, (by first | rfl | (show Leaf.sc _ = Leaf.sc _; refine congrArg Leaf.sc ?_; first | rfl | go_num | (simp [cntAll]; done)) | (simp [cntAll]; done) | (simp; omega)), trivial⟩⟩, trivial⟩⟩⟩ ⟨.inr ⟨_, _, rfl, ?ob1_0, (gle rfl)⟩, trivial⟩ (new_ob nil_ob) (fun i j hi hj e => inj_list (l := [0]) (by decide) i j hi hj e))
    case ob1_0 =>
      show some (T.seq _ _) = some (T.seq _ _)
      first | rfl | exact congrArg some (congrArg (T.seq _) (by simp))
  · rintro ⟨p, h, n, D⟩ ⟨hq, hn0, hX, hw⟩
    dsimp only at hq hn0 hX hw
    refine SV.seq' ?_
    refine SV.seq' ?_
    refine SV.region ?_
    refine SV.op (OpL.ok (nb := 3) (ok_move (v := V.one (.sc _)) (.inl rfl) rfl) rfl (gle rfl)) rfl ?_
    refine SV.op (OpL.ok (nb := 3) (ok_s2 (x := .tmp 14) (x' := .const ((Value.int IntKind.i64 0))) (VScal.one rfl) (VScal.one rfl) (fun ρ h1 h2 w => by go_simp; (try go_bits); with_reducible rfl) rfl) rfl (gle rfl)) rfl ?_
    refine SV.nil ?_
    refine SV.tn ?_
    refine SV.cond rfl (fun hc0 => ?_) (fun hc0 => ?_)
    · skip   -- c0.T
      have hn2 : 0 < n := by simpa using hc0
      refine SV.skip ?_
      refine SV.tn ?_
      refine SV.seq' ?_
      refine SV.block ?_
      refine SV.seq' ?_
      refine SV.region ?_
      refine SV.op (OpL.ok (nb := 3) (ok_load_bp (b := 2) (i := 0) (ag := true) (m := 2) (ys := [.hd 0, .sc _]) rfl rfl rfl agg_impl_Disk sz_impl_Disk (fun h => by cases h) rfl rfl (gle rfl)) rfl (gle rfl)) rfl ?_
      refine SV.op (OpMk.ok (ok_call (ls := [(true, [.hd 1, .sc _]), (false, [.sc _]), (false, [.sc _])]) rfl rfl ⟨_, _, Tryz.func52, rfl, by decide⟩ (vcreate_s D hX (by omega)) ⟨⟨[.hd 0, .sc _], rfl, ⟨rfl, rfl, trivial⟩⟩, trivial⟩ rfl (gle rfl))) rfl ?_
      refine SV.op (OpL.ok (nb := 3) (ok_move (v := ⟨true, [(true, [.hd 1, .sc _]), (false, [.sc _]), (false, [.sc _])]⟩) (.inl rfl) rfl) rfl (gle rfl)) rfl ?_
      refine SV.op (OpL.ok (nb := 3) (ok_extract (ag := true) (xs := [.hd 1, .sc _]) rfl rfl rfl) rfl (gle rfl)) rfl ?_
      refine SV.op (OpL.ok (nb := 3) (ok_extract (ag := false) (xs := [.sc _]) rfl rfl rfl) rfl (gle rfl)) rfl ?_
      refine SV.op (OpL.ok (nb := 3) (ok_extract (ag := false) (xs := [.sc _]) rfl rfl rfl) rfl (gle rfl)) rfl ?_
      refine SV.op (OpMk.ok (ok_alloc (kk := 3) (xs := [.nl _, .sc _]) rfl rfl zero_impl_Disk ⟨rfl, ⟨4, by decide, sz_impl_File⟩, rfl, rfl, trivial⟩ rfl (gle rfl))) rfl ?_
      refine SV.op (ok_store_bp (b := 3) (i := 0) (m := 2) (ag := true) (zs := [.hd 1, .sc _]) (ys := [.hd 1, .sc _]) rfl rfl rfl rfl sz_impl_Disk (fun h => by cases h) rfl (gle rfl) rfl rfl rfl) rfl ?_
      refine SV.op (OpL.ok (nb := 4) (ok_move (v := V.one (.sc _)) (.inr rfl) rfl) rfl (gle rfl)) rfl ?_
      refine SV.op (OpL.ok (nb := 4) (ok_move (v := V.one (.sc _)) (.inr rfl) rfl) rfl (gle rfl)) rfl ?_
      refine SV.nil ?_
      refine SV.tn ?_
      refine SV.seq' ?_
      refine SV.region ?_
      refine SV.op (OpL.ok (nb := 4) (ok_load_bp (b := 3) (i := 0) (ag := true) (m := 2) (ys := [.hd 1, .sc _]) rfl rfl rfl agg_impl_Disk sz_impl_Disk (fun h => by cases h) rfl rfl (gle rfl)) rfl (gle rfl)) rfl ?_
      refine SV.op (ok_store_bp (b := 2) (i := 0) (m := 2) (ag := true) (zs := [.hd 1, .sc _]) (ys := [.hd 1, .sc _]) rfl rfl rfl rfl sz_impl_Disk (fun h => by cases h) rfl (gle rfl) rfl rfl rfl) rfl ?_
      refine SV.nil ?_
      refine SV.tn ?_
      refine SV.seq' ?_
      refine SV.region ?_
      refine SV.op (OpL.ok (nb := 4) (ok_move (v := V.one (.bp 0 0)) (.inl rfl) rfl) rfl (gle rfl)) rfl ?_
      refine SV.callK (b := 0) hC rfl ⟨_, _, Tryz.func54, rfl, by decide⟩ (vk_rows 6 (by decide) (by decide)) rfl ⟨rfl, trivial⟩ rfl hq rfl (gle rfl) (fun _ => wanted0 rfl) ?_
      rintro A p2 h2 ⟨hA, hwA⟩ hp2
      have hpl := R.pack_length (L := A)
      have hpk := R.pack_ok (L := A)
      refine SV.op (OpMk.ok (ok_call (ls := [(false, [.hd 3])]) rfl rfl ⟨_, _, Tryz.func53, rfl, by decide⟩ (vpack_s A hwA (by omega)) ⟨⟨[.hd 2], rfl, ⟨rfl, trivial⟩⟩, trivial⟩ rfl (gle rfl))) rfl ?_
      refine SV.op (OpL.ok (nb := 4) (ok_move (v := V.one (.hd 3)) (.inr rfl) rfl) rfl (gle rfl)) rfl ?_
      refine SV.nil ?_
      refine SV.tn ?_
      refine SV.seq' ?_
      refine SV.seq' ?_
      refine SV.region ?_
      refine SV.op (OpL.ok (nb := 4) (ok_move (v := V.one (.sc _)) (.inr rfl) rfl) rfl (gle rfl)) rfl ?_
      refine SV.nil ?_
      refine SV.tn ?_
      refine SV.block ?_
      refine SV.loopF (X := DiskD × Nat) (fun (σ : VS) y => (((((((((((((VS.nil.new (σ.tree 3)).new (.seq 58 ((y.1).fFiles.map tFile))).box 75 [σ.bl 0 0, σ.bl 0 1, σ.bl 0 2]).box 26 [σ.bl 1 0, σ.bl 1 1]).box 26 [.hd 1, .sc (.int .i64 (y.1.fNextName))]).box 26 [.dead, .dead]).put 0 (V.flat false [.bp 0 0])).put 2 (V.flat false [.bp 1 0])).put 3 (V.flat false [.bp 2 0])).put 4 (σ.tm 4)).put 6 (σ.tm 6)).put 8 (V.flat false [.hd 0])).put 9 (V.flat false [.sc (.int .i64 ((y.2 : Int)))]))) (fun y => y.2 ≤ (R.pack A).length ∧ goodDisk y.1 ∧ wtDisk y.1 ≤ 1048576) (fun y => (R.pack A).length - y.2) ?_ ?_
      · skip
        refine SV.again (fun i => [3, 1].getD i 0) ((DiskD.create D).getD D, 0) (⟨Nat.zero_le _, good_create hX, DiskD.wt_create hw⟩) (pinsC hE rfl) (VS.le.mk' (le_put (le_put (le_put (le_put (le_put (le_put (le_put (le_box (le_box (le_box (le_box (le_new (le_new le_nil)))))) (V.le.keep (ag := false) (xs := [.bp 0 0]) (ys := [.bp 0 0]) rfl rfl ⟨⟨rfl, (gle rfl)⟩, trivial⟩)) (V.le.keep (ag := false) (xs := [.bp 1 0]) (ys := [.bp 1 0]) rfl rfl ⟨⟨rfl, (gle rfl)⟩, trivial⟩)) (V.le.keep (ag := false) (xs := [.bp 2 0]) (ys := [.bp 2 0]) rfl rfl ⟨⟨rfl, (gle rfl)⟩, trivial⟩)) (V.le.keep (ag := false) (xs := [.sc _]) (ys := [.sc _]) rfl rfl ⟨rfl, trivial⟩)) (V.le.keep (ag := false) (xs := [.sc _]) (ys := [.sc _]) rfl rfl ⟨rfl, trivial⟩)) (V.le.keep (ag := false) (xs := [.hd 3]) (ys := [.hd 0]) rfl rfl ⟨⟨rfl, (gle rfl), (gle rfl)⟩, trivial⟩)) (V.le.keep (ag := false) (xs := [.sc _]) (ys := [.sc _]) rfl rfl ⟨(by first | rfl | (show Leaf.sc _ = Leaf.sc _; refine congrArg Leaf.sc ?_; first | rfl | go_num | (simp [cntAll]; done)) | (simp [cntAll]; done) | (simp; omega)), trivial⟩)) ⟨⟨rfl, ⟨rfl, rfl, rfl, trivial⟩⟩, ⟨⟨rfl, ⟨rfl, rfl, trivial⟩⟩, ⟨⟨rfl, ⟨⟨rfl, (gle rfl), (gle rfl)⟩, (by first | rfl | (show Leaf.sc _ = Leaf.sc _; refine congrArg Leaf.sc ?_; first | rfl | go_num | (simp [cntAll]; done)) | (simp [cntAll]; done) | (simp; omega)), trivial⟩⟩, ⟨⟨rfl, ⟨trivial, trivial, trivial⟩⟩, trivial⟩⟩⟩⟩ ⟨.inr ⟨_, _, rfl, ?ob2_1, (gle rfl)⟩, ⟨.inr ⟨_, _, rfl, rfl, (gle rfl)⟩, trivial⟩⟩ (new_ob (new_ob nil_ob)) (fun i j hi hj e => inj_list (l := [3, 1]) (by decide) i j hi hj e))
        case ob2_1 =>
          show some (T.seq _ _) = some (T.seq _ _)
          first | rfl | exact congrArg some (congrArg (T.seq _) (by simp))
      · rintro ⟨Y, t⟩ ⟨ht, hY, hwY⟩
        dsimp only at ht hY hwY
        refine SV.seq' ?_
        refine SV.seq' ?_
        refine SV.region ?_
        refine SV.op (OpL.ok (nb := 4) (ok_move (v := V.one (.sc _)) (.inl rfl) rfl) rfl (gle rfl)) rfl ?_
        refine SV.op (OpL.ok (nb := 4) (ok_move (v := V.one (.hd 0)) (.inl rfl) rfl) rfl (gle rfl)) rfl ?_
        refine SV.op (OpL.ok (nb := 4) (ok_len (lf := .hd 0) rfl elt_impl_Page.und rfl rfl) rfl (gle rfl)) rfl ?_
        refine SV.op (OpL.ok (nb := 4) (ok_s2 (x := .tmp 28) (x' := .tmp 30) (VScal.one rfl) (VScal.one rfl) (fun ρ h1 h2 w => by go_simp; (try go_bits); with_reducible rfl) rfl) rfl (gle rfl)) rfl ?_
        refine SV.nil ?_
        refine SV.tn ?_
        refine SV.cond rfl (fun hc1 => ?_) (fun hc1 => ?_)
        · skip   -- c1.T
          have htl : t < (R.pack A).length := by simpa using hc1
          have hx : (R.pack A)[t]? = some (R.pack A)[t] := by simp [htl]
          have hgp : goodPage (R.pack A)[t] := pack_good hwA (get_mem hx)
          have hwp : wtPage (R.pack A)[t] ≤ 1000000000 := by have h1 := DiskD.ok_page_len (hpk _ (get_mem hx)).1; show (R.pack A)[t].length ≤ _; omega
          refine SV.skip ?_
          refine SV.tn ?_
          refine SV.seq' ?_
          refine SV.block ?_
          refine SV.drawC [2] [.q 1, .q 2, .q 3, .q 4, .q 5, .m 0, .m 6, .q 7, .q 8, .q 9, .m 10] [] (by kernel_rfl) (by kernel_rfl) ?_
          refine DC.q rfl (ok_move (v := V.one (.sc _)) (.inl rfl) rfl) rfl rfl (gle rfl) (fun _ _ _ _ h => h) ?_
          refine DC.q rfl (ok_move (v := V.one (.hd 0)) (.inl rfl) rfl) rfl rfl (gle rfl) (fun _ _ _ _ h => h) ?_
          refine DC.q rfl (ok_move (v := V.one (.sc _)) (.inl rfl) rfl) rfl rfl (gle rfl) (fun _ _ _ _ h => h) ?_
          refine DC.q rfl (ok_index (n := 1) (lf := .hd 0) rfl elt_impl_Page.und sz_impl_Page rfl rfl rfl (map_at hx)) rfl rfl (gle rfl) (fun _ _ _ _ h => h) ?_
          refine DC.el (ag := true) (m := 1) (ys := [.nd 0 _ _ (some _)]) rfl rfl rfl ⟨(gle rfl), rfl⟩ (cells_ep rfl (map_at hx) rfl rfl) agg_impl_Page sz_impl_Page (fun h => by cases h) (gle rfl) rfl rfl rfl (gle rfl) (fun _ _ _ _ h => h) ?_
          refine DC.m rfl (OpL.mk (nb := 4) (ok_load_bp (b := 2) (i := 0) (ag := true) (m := 2) (ys := [.hd 1, .sc _]) rfl rfl rfl agg_impl_Disk sz_impl_Disk (fun h => by cases h) rfl rfl (gle rfl)) rfl (gle rfl)) rfl rfl (gle rfl) ?_
          refine DC.m rfl (ok_call (ls := [(true, [.hd 2, .sc _]), (false, [.sc _])]) rfl rfl ⟨_, _, Tryz.func7, rfl, by decide⟩ (vappend_s Y (if (DiskD.create D).isSome then D.fNextName else 0) (R.pack A)[t] hY hgp (by omega) hwp) ⟨⟨[.hd 1, .sc _], rfl, ⟨rfl, rfl, trivial⟩⟩, ⟨[.sc _], rfl, ⟨rfl, trivial⟩⟩, ⟨[.nd 0 _ _ (some _)], rfl, ⟨rfl, trivial⟩⟩, trivial⟩ rfl (gle rfl)) rfl rfl (gle rfl) ?_
          refine DC.q rfl (ok_move (v := ⟨true, [(true, [.hd 2, .sc _]), (false, [.sc _])]⟩) (.inl rfl) rfl) rfl rfl (gle rfl) (fun _ _ _ _ h => h) ?_
          refine DC.q rfl (ok_extract (ag := true) (xs := [.hd 2, .sc _]) rfl rfl rfl) rfl rfl (gle rfl) (fun _ _ _ _ h => h) ?_
          refine DC.q rfl (ok_extract (ag := false) (xs := [.sc _]) rfl rfl rfl) rfl rfl (gle rfl) (fun _ _ _ _ h => h) ?_
          refine DC.store (b := 2) (i' := 0) (m := 2) (ag := true) (zs1 := [.hd 2, .sc _]) (ys := [.hd 2, .sc _]) rfl rfl rfl rfl sz_impl_Disk (fun h => by cases h) rfl (gle rfl) rfl rfl rfl rfl (by decide) (gle rfl) rfl ?_
          refine DC.stores ?_
          refine SV.zend ?_
          refine SV.bn ?_
          refine SV.tn ?_
          refine SV.region ?_
          refine SV.op (OpL.ok (nb := 4) (ok_move (v := V.one (.sc _)) (.inl rfl) rfl) rfl (gle rfl)) rfl ?_
          refine SV.op (OpL.ok (nb := 4) (ok_s2 (x := .tmp 32) (x' := .const ((Value.int IntKind.i64 1))) (VScal.one rfl) (VScal.one rfl) (fun ρ h1 h2 w => by go_simp; (try go_bits); with_reducible rfl) rfl) rfl (gle rfl)) rfl ?_
          refine SV.op (OpL.ok (nb := 4) (ok_move (v := V.one (.sc _)) (.inr rfl) rfl) rfl (gle rfl)) rfl ?_
          refine SV.nil ?_
          refine SV.tn ?_
          refine SV.again (fun i => [0, 2].getD i 0) (((DiskD.appendTo Y (if (DiskD.create D).isSome then D.fNextName else 0) (R.pack A)[t]).getD Y, t + 1)) (⟨⟨(by show t + 1 ≤ (R.pack A).length; omega), good_append hY hgp, DiskD.wt_appendTo hwY⟩, (by show (R.pack A).length - (t + 1) < (R.pack A).length - t; omega)⟩) (pinsC hE rfl) (VS.le.mk' (le_put (le_put (le_put (le_put (le_put (le_put (le_put (le_box (le_box (le_box (le_box (le_new (le_new le_nil)))))) (V.le.keep (ag := false) (xs := [.bp 0 0]) (ys := [.bp 0 0]) rfl rfl ⟨⟨rfl, (gle rfl)⟩, trivial⟩)) (V.le.keep (ag := false) (xs := [.bp 1 0]) (ys := [.bp 1 0]) rfl rfl ⟨⟨rfl, (gle rfl)⟩, trivial⟩)) (V.le.keep (ag := false) (xs := [.bp 2 0]) (ys := [.bp 2 0]) rfl rfl ⟨⟨rfl, (gle rfl)⟩, trivial⟩)) (V.le.keep (ag := false) (xs := [.sc _]) (ys := [.sc _]) rfl rfl ⟨rfl, trivial⟩)) (V.le.keep (ag := false) (xs := [.sc _]) (ys := [.sc _]) rfl rfl ⟨rfl, trivial⟩)) (V.le.keep (ag := false) (xs := [.hd 0]) (ys := [.hd 0]) rfl rfl ⟨⟨rfl, (gle rfl), (gle rfl)⟩, trivial⟩)) (V.le.keep (ag := false) (xs := [.sc _]) (ys := [.sc _]) rfl rfl ⟨(by first | rfl | (show Leaf.sc _ = Leaf.sc _; refine congrArg Leaf.sc ?_; first | rfl | go_num | (simp [cntAll]; done)) | (simp [cntAll]; done) | (simp; omega)), trivial⟩)) ⟨⟨rfl, ⟨rfl, rfl, rfl, trivial⟩⟩, ⟨⟨rfl, ⟨rfl, rfl, trivial⟩⟩, ⟨⟨rfl, ⟨⟨rfl, (gle rfl), (gle rfl)⟩, (by first | rfl | (show Leaf.sc _ = Leaf.sc _; refine congrArg Leaf.sc ?_; first | rfl | go_num | (simp [cntAll]; done)) | (simp [cntAll]; done) | (simp; omega)), trivial⟩⟩, ⟨⟨rfl, ⟨trivial, trivial, trivial⟩⟩, trivial⟩⟩⟩⟩ ⟨.inr ⟨_, _, rfl, ?ob3_1, (gle rfl)⟩, ⟨.inr ⟨_, _, rfl, rfl, (gle rfl)⟩, trivial⟩⟩ (new_ob (new_ob nil_ob)) (fun i j hi hj e => inj_list (l := [0, 2]) (by decide) i j hi hj e))
          case ob3_1 =>
            show some (T.seq _ _) = some (T.seq _ _)
            rfl
        · skip   -- c1.F
          refine SV.exit ?_
          refine SV.te ?_
          refine SV.te ?_
          refine SV.bh ?_
          refine SV.tn ?_
          refine SV.seq' ?_
          refine SV.seq' ?_
          refine SV.region ?_
          refine SV.op (OpL.ok (nb := 4) (ok_move (v := V.one (.bp 0 0)) (.inl rfl) rfl) rfl (gle rfl)) rfl ?_
          refine SV.callK (b := 0) hC rfl ⟨_, _, Tryz.func42, rfl, by decide⟩ (vk_once 4 (by decide) (by decide)) rfl ⟨rfl, trivial⟩ rfl hp2 rfl (gle rfl) (fun _ => wanted0 rfl) ?_
          rintro o45 p3 h3 - hp3
          refine SV.op (OpL.ok (nb := 4) (ok_s1 (x := .tmp 45) (VScal.one rfl) (fun ρ h1 w => by go_simp; (try go_bits); with_reducible rfl) rfl) rfl (gle rfl)) rfl ?_
          refine SV.nil ?_
          refine SV.tn ?_
          refine SV.cond rfl (fun hc2 => ?_) (fun hc2 => ?_)
          · skip   -- c2.T
            refine SV.region ?_
            refine SV.op (OpL.ok (nb := 4) (ok_load_bp (b := 2) (i := 0) (ag := true) (m := 2) (ys := [.hd 1, .sc _]) rfl rfl rfl agg_impl_Disk sz_impl_Disk (fun h => by cases h) rfl rfl (gle rfl)) rfl (gle rfl)) rfl ?_
            refine SV.op (OpL.ok (nb := 4) (ok_move (v := V.one (.sc _)) (.inl rfl) rfl) rfl (gle rfl)) rfl ?_
            refine SV.op (OpMk.ok (ok_call (ls := [(true, [.hd 2, .sc _]), (false, [.sc _])]) rfl rfl ⟨_, _, Tryz.func10, rfl, by decide⟩ (vseal_s Y (if (DiskD.create D).isSome then D.fNextName else 0) hY (by omega)) ⟨⟨[.hd 1, .sc _], rfl, ⟨rfl, rfl, trivial⟩⟩, ⟨[.sc _], rfl, ⟨rfl, trivial⟩⟩, trivial⟩ rfl (gle rfl))) rfl ?_
            refine SV.op (OpL.ok (nb := 4) (ok_move (v := ⟨true, [(true, [.hd 2, .sc _]), (false, [.sc _])]⟩) (.inl rfl) rfl) rfl (gle rfl)) rfl ?_
            refine SV.op (OpL.ok (nb := 4) (ok_extract (ag := true) (xs := [.hd 2, .sc _]) rfl rfl rfl) rfl (gle rfl)) rfl ?_
            refine SV.op (OpL.ok (nb := 4) (ok_extract (ag := false) (xs := [.sc _]) rfl rfl rfl) rfl (gle rfl)) rfl ?_
            refine SV.op (ok_store_bp (b := 2) (i := 0) (m := 2) (ag := true) (zs := [.hd 2, .sc _]) (ys := [.hd 2, .sc _]) rfl rfl rfl rfl sz_impl_Disk (fun h => by cases h) rfl (gle rfl) rfl rfl rfl) rfl ?_
            refine SV.nil ?_
            refine SV.tn ?_
            refine SV.seq' ?_
            refine SV.region ?_
            refine SV.op (OpL.ok (nb := 4) (ok_move (v := V.one (.bp 0 0)) (.inl rfl) rfl) rfl (gle rfl)) rfl ?_
            refine SV.callK (b := 0) hC rfl ⟨_, _, Tryz.func42, rfl, by decide⟩ (vk_once 6 (by decide) (by decide)) rfl ⟨rfl, trivial⟩ rfl hp3 rfl (gle rfl) (fun _ => wanted0 rfl) ?_
            rintro o54 p4 h4 - hp4
            refine SV.nil ?_
            refine SV.tn ?_
            refine SV.cond rfl (fun hc3 => ?_) (fun hc3 => ?_)
            · skip   -- c3.T
              refine SV.region ?_
              refine SV.op (OpL.ok (nb := 4) (ok_load_bp (b := 2) (i := 0) (ag := true) (m := 2) (ys := [.hd 2, .sc _]) rfl rfl rfl agg_impl_Disk sz_impl_Disk (fun h => by cases h) rfl rfl (gle rfl)) rfl (gle rfl)) rfl ?_
              refine SV.op (OpL.ok (nb := 4) (ok_move (v := V.one (.sc _)) (.inl rfl) rfl) rfl (gle rfl)) rfl ?_
              refine SV.op (OpMk.ok (ok_call (ls := [(true, [.hd 3, .sc _]), (false, [.sc _])]) rfl rfl ⟨_, _, Tryz.func13, rfl, by decide⟩ (vdelete_s ((DiskD.sealF Y (if (DiskD.create D).isSome then D.fNextName else 0)).getD Y) (if (DiskD.create D).isSome then D.fNextName else 0) (good_seal hY) (Nat.le_trans (DiskD.wt_sealF hwY) (by decide))) ⟨⟨[.hd 2, .sc _], rfl, ⟨rfl, rfl, trivial⟩⟩, ⟨[.sc _], rfl, ⟨rfl, trivial⟩⟩, trivial⟩ rfl (gle rfl))) rfl ?_
              refine SV.op (OpL.ok (nb := 4) (ok_move (v := ⟨true, [(true, [.hd 3, .sc _]), (false, [.sc _])]⟩) (.inl rfl) rfl) rfl (gle rfl)) rfl ?_
              refine SV.op (OpL.ok (nb := 4) (ok_extract (ag := true) (xs := [.hd 3, .sc _]) rfl rfl rfl) rfl (gle rfl)) rfl ?_
              refine SV.op (OpL.ok (nb := 4) (ok_extract (ag := false) (xs := [.sc _]) rfl rfl rfl) rfl (gle rfl)) rfl ?_
              refine SV.op (ok_store_bp (b := 2) (i := 0) (m := 2) (ag := true) (zs := [.hd 3, .sc _]) (ys := [.hd 3, .sc _]) rfl rfl rfl rfl sz_impl_Disk (fun h => by cases h) rfl (gle rfl) rfl rfl rfl) rfl ?_
              refine SV.nil ?_
              refine SV.bn ?_
              refine SV.tn ?_
              refine SV.region ?_
              refine SV.op (OpL.ok (nb := 4) (ok_move (v := V.one (.sc _)) (.inl rfl) rfl) rfl (gle rfl)) rfl ?_
              refine SV.op (OpL.ok (nb := 4) (ok_s2 (x := .tmp 16) (x' := .const ((Value.int IntKind.i64 1))) (VScal.one rfl) (VScal.one rfl) (fun ρ h1 h2 w => by go_simp; (try go_bits); with_reducible rfl) rfl) rfl (gle rfl)) rfl ?_
              refine SV.op (OpL.ok (nb := 4) (ok_move (v := V.one (.sc _)) (.inr rfl) rfl) rfl (gle rfl)) rfl ?_
              refine SV.nil ?_
              refine SV.tn ?_
              refine SV.again (fun i => [3].getD i 0) ((p4, h4, n - 1, ((DiskD.delete ((DiskD.sealF Y (if (DiskD.create D).isSome then D.fNextName else 0)).getD Y) (if (DiskD.create D).isSome then D.fNextName else 0)).getD ((DiskD.sealF Y (if (DiskD.create D).isSome then D.fNextName else 0)).getD Y)))) (⟨⟨hp4, ⟨(by show (0 : Int) ≤ n - 1; omega), (by show n - 1 ≤ 5; omega)⟩, (good_delete (good_seal hY)), (DiskD.wt_delete (DiskD.wt_sealF hwY))⟩, (by show (n - 1).toNat < n.toNat; omega)⟩) (pinsC hE rfl) (VS.le.mk' (le_put (le_put (le_put (le_put (le_box (le_box (le_box (le_new le_nil)))) (V.le.keep (ag := false) (xs := [.bp 0 0]) (ys := [.bp 0 0]) rfl rfl ⟨⟨rfl, (gle rfl)⟩, trivial⟩)) (V.le.keep (ag := false) (xs := [.bp 1 0]) (ys := [.bp 1 0]) rfl rfl ⟨⟨rfl, (gle rfl)⟩, trivial⟩)) (V.le.keep (ag := false) (xs := [.bp 2 0]) (ys := [.bp 2 0]) rfl rfl ⟨⟨rfl, (gle rfl)⟩, trivial⟩)) (V.le.keep (ag := false) (xs := [.sc _]) (ys := [.sc _]) rfl rfl ⟨(by first | rfl | (show Leaf.sc _ = Leaf.sc _; refine congrArg Leaf.sc ?_; first | rfl | go_num | (simp [cntAll]; done)) | (simp [cntAll]; done) | (simp; omega)), trivial⟩)) ⟨⟨rfl, ⟨rfl, (by first | rfl | (show Leaf.sc _ = Leaf.sc _; refine congrArg Leaf.sc ?_; first | rfl | go_num | (simp [cntAll]; done)) | (simp [cntAll]; done) | (simp; omega)), (by first | rfl | (show Leaf.sc _ = Leaf.sc _; refine congrArg Leaf.sc ?_; first | rfl | go_num | (simp [cntAll]; done)) | (simp [cntAll]; done) | (simp; omega)), trivial⟩⟩, ⟨⟨rfl, ⟨rfl, rfl, trivial⟩⟩, ⟨⟨rfl, ⟨⟨rfl, (gle rfl), (gle rfl)⟩, (by first | rfl | (show Leaf.sc _ = Leaf.sc _; refine congrArg Leaf.sc ?_; first | rfl | go_num | (simp [cntAll]; done)) | (simp [cntAll]; done) | (simp; omega)), trivial⟩⟩, trivial⟩⟩⟩ ⟨.inr ⟨_, _, rfl, ?ob4_0, (gle rfl)⟩, trivial⟩ (new_ob nil_ob) (fun i j hi hj e => inj_list (l := [3]) (by decide) i j hi hj e))
              case ob4_0 =>
                show some (T.seq _ _) = some (T.seq _ _)
                rfl
            · skip   -- c3.F
              refine SV.skip ?_
              refine SV.bn ?_
              refine SV.tn ?_
              refine SV.region ?_
              refine SV.op (OpL.ok (nb := 4) (ok_move (v := V.one (.sc _)) (.inl rfl) rfl) rfl (gle rfl)) rfl ?_
              refine SV.op (OpL.ok (nb := 4) (ok_s2 (x := .tmp 16) (x' := .const ((Value.int IntKind.i64 1))) (VScal.one rfl) (VScal.one rfl) (fun ρ h1 h2 w => by go_simp; (try go_bits); with_reducible rfl) rfl) rfl (gle rfl)) rfl ?_
              refine SV.op (OpL.ok (nb := 4) (ok_move (v := V.one (.sc _)) (.inr rfl) rfl) rfl (gle rfl)) rfl ?_
              refine SV.nil ?_
              refine SV.tn ?_
              refine SV.again (fun i => [2].getD i 0) ((p4, h4, n - 1, ((DiskD.sealF Y (if (DiskD.create D).isSome then D.fNextName else 0)).getD Y))) (⟨⟨hp4, ⟨(by show (0 : Int) ≤ n - 1; omega), (by show n - 1 ≤ 5; omega)⟩, (good_seal hY), (DiskD.wt_sealF hwY)⟩, (by show (n - 1).toNat < n.toNat; omega)⟩) (pinsC hE rfl) (VS.le.mk' (le_put (le_put (le_put (le_put (le_box (le_box (le_box (le_new le_nil)))) (V.le.keep (ag := false) (xs := [.bp 0 0]) (ys := [.bp 0 0]) rfl rfl ⟨⟨rfl, (gle rfl)⟩, trivial⟩)) (V.le.keep (ag := false) (xs := [.bp 1 0]) (ys := [.bp 1 0]) rfl rfl ⟨⟨rfl, (gle rfl)⟩, trivial⟩)) (V.le.keep (ag := false) (xs := [.bp 2 0]) (ys := [.bp 2 0]) rfl rfl ⟨⟨rfl, (gle rfl)⟩, trivial⟩)) (V.le.keep (ag := false) (xs := [.sc _]) (ys := [.sc _]) rfl rfl ⟨(by first | rfl | (show Leaf.sc _ = Leaf.sc _; refine congrArg Leaf.sc ?_; first | rfl | go_num | (simp [cntAll]; done)) | (simp [cntAll]; done) | (simp; omega)), trivial⟩)) ⟨⟨rfl, ⟨rfl, (by first | rfl | (show Leaf.sc _ = Leaf.sc _; refine congrArg Leaf.sc ?_; first | rfl | go_num | (simp [cntAll]; done)) | (simp [cntAll]; done) | (simp; omega)), (by first | rfl | (show Leaf.sc _ = Leaf.sc _; refine congrArg Leaf.sc ?_; first | rfl | go_num | (simp [cntAll]; done)) | (simp [cntAll]; done) | (simp; omega)), trivial⟩⟩, ⟨⟨rfl, ⟨rfl, rfl, trivial⟩⟩, ⟨⟨rfl, ⟨⟨rfl, (gle rfl), (gle rfl)⟩, (by first | rfl | (show Leaf.sc _ = Leaf.sc _; refine congrArg Leaf.sc ?_; first | rfl | go_num | (simp [cntAll]; done)) | (simp [cntAll]; done) | (simp; omega)), trivial⟩⟩, trivial⟩⟩⟩ ⟨.inr ⟨_, _, rfl, ?ob5_0, (gle rfl)⟩, trivial⟩ (new_ob nil_ob) (fun i j hi hj e => inj_list (l := [2]) (by decide) i j hi hj e))
              case ob5_0 =>
                show some (T.seq _ _) = some (T.seq _ _)
                rfl
          · skip   -- c2.F
            refine SV.skip ?_
            refine SV.tn ?_
            refine SV.seq' ?_
            refine SV.region ?_
            refine SV.op (OpL.ok (nb := 4) (ok_move (v := V.one (.bp 0 0)) (.inl rfl) rfl) rfl (gle rfl)) rfl ?_
            refine SV.callK (b := 0) hC rfl ⟨_, _, Tryz.func42, rfl, by decide⟩ (vk_once 6 (by decide) (by decide)) rfl ⟨rfl, trivial⟩ rfl hp3 rfl (gle rfl) (fun _ => wanted0 rfl) ?_
            rintro o54 p5 h5 - hp5
            refine SV.nil ?_
            refine SV.tn ?_
            refine SV.cond rfl (fun hc4 => ?_) (fun hc4 => ?_)
            · skip   -- c4.T
              refine SV.region ?_
              refine SV.op (OpL.ok (nb := 4) (ok_load_bp (b := 2) (i := 0) (ag := true) (m := 2) (ys := [.hd 1, .sc _]) rfl rfl rfl agg_impl_Disk sz_impl_Disk (fun h => by cases h) rfl rfl (gle rfl)) rfl (gle rfl)) rfl ?_
              refine SV.op (OpL.ok (nb := 4) (ok_move (v := V.one (.sc _)) (.inl rfl) rfl) rfl (gle rfl)) rfl ?_
              refine SV.op (OpMk.ok (ok_call (ls := [(true, [.hd 2, .sc _]), (false, [.sc _])]) rfl rfl ⟨_, _, Tryz.func13, rfl, by decide⟩ (vdelete_s Y (if (DiskD.create D).isSome then D.fNextName else 0) hY (Nat.le_trans hwY (by decide))) ⟨⟨[.hd 1, .sc _], rfl, ⟨rfl, rfl, trivial⟩⟩, ⟨[.sc _], rfl, ⟨rfl, trivial⟩⟩, trivial⟩ rfl (gle rfl))) rfl ?_
              refine SV.op (OpL.ok (nb := 4) (ok_move (v := ⟨true, [(true, [.hd 2, .sc _]), (false, [.sc _])]⟩) (.inl rfl) rfl) rfl (gle rfl)) rfl ?_
              refine SV.op (OpL.ok (nb := 4) (ok_extract (ag := true) (xs := [.hd 2, .sc _]) rfl rfl rfl) rfl (gle rfl)) rfl ?_
              refine SV.op (OpL.ok (nb := 4) (ok_extract (ag := false) (xs := [.sc _]) rfl rfl rfl) rfl (gle rfl)) rfl ?_
              refine SV.op (ok_store_bp (b := 2) (i := 0) (m := 2) (ag := true) (zs := [.hd 2, .sc _]) (ys := [.hd 2, .sc _]) rfl rfl rfl rfl sz_impl_Disk (fun h => by cases h) rfl (gle rfl) rfl rfl rfl) rfl ?_
              refine SV.nil ?_
              refine SV.bn ?_
              refine SV.tn ?_
              refine SV.region ?_
              refine SV.op (OpL.ok (nb := 4) (ok_move (v := V.one (.sc _)) (.inl rfl) rfl) rfl (gle rfl)) rfl ?_
              refine SV.op (OpL.ok (nb := 4) (ok_s2 (x := .tmp 16) (x' := .const ((Value.int IntKind.i64 1))) (VScal.one rfl) (VScal.one rfl) (fun ρ h1 h2 w => by go_simp; (try go_bits); with_reducible rfl) rfl) rfl (gle rfl)) rfl ?_
              refine SV.op (OpL.ok (nb := 4) (ok_move (v := V.one (.sc _)) (.inr rfl) rfl) rfl (gle rfl)) rfl ?_
              refine SV.nil ?_
              refine SV.tn ?_
              refine SV.again (fun i => [2].getD i 0) ((p5, h5, n - 1, ((DiskD.delete Y (if (DiskD.create D).isSome then D.fNextName else 0)).getD Y))) (⟨⟨hp5, ⟨(by show (0 : Int) ≤ n - 1; omega), (by show n - 1 ≤ 5; omega)⟩, (good_delete hY), (DiskD.wt_delete hwY)⟩, (by show (n - 1).toNat < n.toNat; omega)⟩) (pinsC hE rfl) (VS.le.mk' (le_put (le_put (le_put (le_put (le_box (le_box (le_box (le_new le_nil)))) (V.le.keep (ag := false) (xs := [.bp 0 0]) (ys := [.bp 0 0]) rfl rfl ⟨⟨rfl, (gle rfl)⟩, trivial⟩)) (V.le.keep (ag := false) (xs := [.bp 1 0]) (ys := [.bp 1 0]) rfl rfl ⟨⟨rfl, (gle rfl)⟩, trivial⟩)) (V.le.keep (ag := false) (xs := [.bp 2 0]) (ys := [.bp 2 0]) rfl rfl ⟨⟨rfl, (gle rfl)⟩, trivial⟩)) (V.le.keep (ag := false) (xs := [.sc _]) (ys := [.sc _]) rfl rfl ⟨(by first | rfl | (show Leaf.sc _ = Leaf.sc _; refine congrArg Leaf.sc ?_; first | rfl | go_num | (simp [cntAll]; done)) | (simp [cntAll]; done) | (simp; omega)), trivial⟩)) ⟨⟨rfl, ⟨rfl, (by first | rfl | (show Leaf.sc _ = Leaf.sc _; refine congrArg Leaf.sc ?_; first | rfl | go_num | (simp [cntAll]; done)) | (simp [cntAll]; done) | (simp; omega)), (by first | rfl | (show Leaf.sc _ = Leaf.sc _; refine congrArg Leaf.sc ?_; first | rfl | go_num | (simp [cntAll]; done)) | (simp [cntAll]; done) | (simp; omega)), trivial⟩⟩, ⟨⟨rfl, ⟨rfl, rfl, trivial⟩⟩, ⟨⟨rfl, ⟨⟨rfl, (gle rfl), (gle rfl)⟩, (by first | rfl | (show Leaf.sc _ = Leaf.sc _; refine congrArg Leaf.sc ?_; first | rfl | go_num | (simp [cntAll]; done)) | (simp [cntAll]; done) | (simp; omega)), trivial⟩⟩, trivial⟩⟩⟩ ⟨.inr ⟨_, _, rfl, ?ob6_0, (gle rfl)⟩, trivial⟩ (new_ob nil_ob) (fun i j hi hj e => inj_list (l := [2]) (by decide) i j hi hj e))
              case ob6_0 =>
                show some (T.seq _ _) = some (T.seq _ _)
                rfl
            · skip   -- c4.F
              refine SV.skip ?_
              refine SV.bn ?_
              refine SV.tn ?_
              refine SV.region ?_
              refine SV.op (OpL.ok (nb := 4) (ok_move (v := V.one (.sc _)) (.inl rfl) rfl) rfl (gle rfl)) rfl ?_
              refine SV.op (OpL.ok (nb := 4) (ok_s2 (x := .tmp 16) (x' := .const ((Value.int IntKind.i64 1))) (VScal.one rfl) (VScal.one rfl) (fun ρ h1 h2 w => by go_simp; (try go_bits); with_reducible rfl) rfl) rfl (gle rfl)) rfl ?_
              refine SV.op (OpL.ok (nb := 4) (ok_move (v := V.one (.sc _)) (.inr rfl) rfl) rfl (gle rfl)) rfl ?_
              refine SV.nil ?_
              refine SV.tn ?_
              refine SV.again (fun i => [1].getD i 0) ((p5, h5, n - 1, Y)) (⟨⟨hp5, ⟨(by show (0 : Int) ≤ n - 1; omega), (by show n - 1 ≤ 5; omega)⟩, hY, hwY⟩, (by show (n - 1).toNat < n.toNat; omega)⟩) (pinsC hE rfl) (VS.le.mk' (le_put (le_put (le_put (le_put (le_box (le_box (le_box (le_new le_nil)))) (V.le.keep (ag := false) (xs := [.bp 0 0]) (ys := [.bp 0 0]) rfl rfl ⟨⟨rfl, (gle rfl)⟩, trivial⟩)) (V.le.keep (ag := false) (xs := [.bp 1 0]) (ys := [.bp 1 0]) rfl rfl ⟨⟨rfl, (gle rfl)⟩, trivial⟩)) (V.le.keep (ag := false) (xs := [.bp 2 0]) (ys := [.bp 2 0]) rfl rfl ⟨⟨rfl, (gle rfl)⟩, trivial⟩)) (V.le.keep (ag := false) (xs := [.sc _]) (ys := [.sc _]) rfl rfl ⟨(by first | rfl | (show Leaf.sc _ = Leaf.sc _; refine congrArg Leaf.sc ?_; first | rfl | go_num | (simp [cntAll]; done)) | (simp [cntAll]; done) | (simp; omega)), trivial⟩)) ⟨⟨rfl, ⟨rfl, (by first | rfl | (show Leaf.sc _ = Leaf.sc _; refine congrArg Leaf.sc ?_; first | rfl | go_num | (simp [cntAll]; done)) | (simp [cntAll]; done) | (simp; omega)), (by first | rfl | (show Leaf.sc _ = Leaf.sc _; refine congrArg Leaf.sc ?_; first | rfl | go_num | (simp [cntAll]; done)) | (simp [cntAll]; done) | (simp; omega)), trivial⟩⟩, ⟨⟨rfl, ⟨rfl, rfl, trivial⟩⟩, ⟨⟨rfl, ⟨⟨rfl, (gle rfl), (gle rfl)⟩, (by first | rfl | (show Leaf.sc _ = Leaf.sc _; refine congrArg Leaf.sc ?_; first | rfl | go_num | (simp [cntAll]; done)) | (simp [cntAll]; done) | (simp; omega)), trivial⟩⟩, trivial⟩⟩⟩ ⟨.inr ⟨_, _, rfl, ?ob7_0, (gle rfl)⟩, trivial⟩ (new_ob nil_ob) (fun i j hi hj e => inj_list (l := [1]) (by decide) i j hi hj e))
              case ob7_0 =>
                show some (T.seq _ _) = some (T.seq _ _)
                rfl
    · skip   -- c0.F
      have hlD : D.fFiles.length ≤ 1048576 := Nat.le_trans (wt_file_len D.fFiles) hw
      refine SV.exit ?_
      refine SV.te ?_
      refine SV.te ?_
      refine SV.bh ?_
      refine SV.tn ?_
      refine SV.seq' ?_
      refine SV.seq' ?_
      refine SV.region ?_
      refine SV.op (OpL.ok (nb := 3) (ok_field_bp (b := 2) (o' := 0) (off := 0) rfl rfl fld_impl_Disk_0) rfl (gle rfl)) rfl ?_
      refine SV.op (OpL.ok (nb := 3) (ok_load_bp (b := 2) (i := 0) (ag := false) (m := 1) (ys := [.hd 0]) rfl rfl rfl agg_s_impl_File sz_s_impl_File (fun _ => rfl) rfl rfl (gle rfl)) rfl (gle rfl)) rfl ?_
      refine SV.op (OpL.ok (nb := 3) (ok_len (lf := .hd 0) rfl elt_impl_File.und rfl rfl) rfl (gle rfl)) rfl ?_
      refine SV.op (OpL.ok (nb := 3) (ok_s2 (x := .tmp 63) (x' := .const ((Value.int IntKind.i64 0))) (VScal.one rfl) (VScal.one rfl) (fun ρ h1 h2 w => by go_simp; (try go_bits); with_reducible rfl) rfl) rfl (gle rfl)) rfl ?_
      refine SV.nil ?_
      refine SV.tn ?_
      refine SV.cond rfl (fun hc5 => ?_) (fun hc5 => ?_)
      · skip   -- c5.T
        refine SV.seq' ?_
        refine SV.region ?_
        refine SV.op (OpL.ok (nb := 3) (ok_load_bp (b := 2) (i := 0) (ag := true) (m := 2) (ys := [.hd 0, .sc _]) rfl rfl rfl agg_impl_Disk sz_impl_Disk (fun h => by cases h) rfl rfl (gle rfl)) rfl (gle rfl)) rfl ?_
        refine SV.op (ok_store_bp (b := 1) (i := 0) (m := 2) (ag := true) (zs := [.hd 0, .sc _]) (ys := [.hd 0, .sc _]) rfl rfl rfl rfl sz_impl_Disk (fun h => by cases h) rfl (gle rfl) rfl rfl rfl) rfl ?_
        refine SV.nil ?_
        refine SV.tn ?_
        refine SV.ret ?_
        refine SV.tr ?_
        apply SV.doneKI (Pr := fun X : DiskD => goodDisk X ∧ wtDisk X ≤ 3000000) (rs := fun X => [(true, tDisk X)]) (y := D) (hy := ⟨hX, by omega⟩) (hC := hC) (hpin := hpin) (hp := hq) (hbx := rfl) (hf := Tryz.results26) (ht := rfl) (he := .inl rfl)
        case hr => exact (ResAll.cons (ResOk.cell (b := 1) (ag := true) (xs := [.hd 0, .sc _]) rfl rfl agg_impl_Disk sz_impl_Disk (fun h => by cases h)) ResAll.nil')
        refine ⟨rfl, ⟨?_, ?_, trivial⟩, trivial⟩ <;> first | rfl | (show some (T.seq _ _) = some (T.seq _ _); refine congrArg some (congrArg (T.seq _) ?_); simp [tFile, List.map_set]; done)
      · skip   -- c5.F
        have hpos : 0 < D.fFiles.length := by
          rcases Nat.eq_zero_or_pos D.fFiles.length with h | h
          · exfalso; simp [h] at hc5
          · exact h
        refine SV.skip ?_
        refine SV.tn ?_
        refine SV.seq' ?_
        refine SV.region ?_
        refine SV.op (OpL.ok (nb := 3) (ok_move (v := V.one (.bp 0 0)) (.inl rfl) rfl) rfl (gle rfl)) rfl ?_
        refine SV.op (OpL.ok (nb := 3) (ok_field_bp (b := 2) (o' := 0) (off := 0) rfl rfl fld_impl_Disk_0) rfl (gle rfl)) rfl ?_
        refine SV.op (OpL.ok (nb := 3) (ok_load_bp (b := 2) (i := 0) (ag := false) (m := 1) (ys := [.hd 0]) rfl rfl rfl agg_s_impl_File sz_s_impl_File (fun _ => rfl) rfl rfl (gle rfl)) rfl (gle rfl)) rfl ?_
        refine SV.op (OpL.ok (nb := 3) (ok_len (lf := .hd 0) rfl elt_impl_File.und rfl rfl) rfl (gle rfl)) rfl ?_
        refine SV.callK (b := 0) hC rfl ⟨_, _, Tryz.func27, rfl, by decide⟩ (vk_below (((D.fFiles.map tFile).length : Nat) : Int) (by rw [List.length_map]; omega) (by rw [List.length_map]; omega)) rfl ⟨rfl, trivial⟩ rfl hq rfl (gle rfl) (fun _ => wanted0 rfl) ?_
        rintro k1 p6 h6 ⟨hk2, hk3⟩ hp6
        rw [List.length_map] at hk3
        obtain ⟨j, rfl⟩ : ∃ j : Nat, k1 = j := ⟨k1.toNat, by omega⟩
        have hjl : j < D.fFiles.length := by omega
        have hx : D.fFiles[j]? = some D.fFiles[j] := by simp [hjl]
        have hgf := hX.1 D.fFiles[j] (get_mem hx)
        refine SV.op (OpL.ok (nb := 3) (ok_move (v := V.one (.sc _)) (.inr rfl) rfl) rfl (gle rfl)) rfl ?_
        refine SV.nil ?_
        refine SV.tn ?_
        refine SV.seq' ?_
        refine SV.seq' ?_
        refine SV.region ?_
        refine SV.op (OpL.ok (nb := 3) (ok_move (v := V.one (.bp 0 0)) (.inl rfl) rfl) rfl (gle rfl)) rfl ?_
        refine SV.callK (b := 0) hC rfl ⟨_, _, Tryz.func27, rfl, by decide⟩ (vk_below 10 (by decide) (by decide)) rfl ⟨rfl, trivial⟩ rfl hp6 rfl (gle rfl) (fun _ => wanted0 rfl) ?_
        rintro m0 p7 h7 ⟨hm0, hm1⟩ hp7
        refine SV.nil ?_
        refine SV.tn ?_
        refine SV.block ?_
        refine SV.seq' ?_
        refine SV.region ?_
        refine SV.op (OpL.ok (nb := 3) (ok_s2 (x := .tmp 72) (x' := .const ((Value.int IntKind.i64 0))) (VScal.one rfl) (VScal.one rfl) (fun ρ h1 h2 w => by go_simp; (try go_bits); with_reducible rfl) rfl) rfl (gle rfl)) rfl ?_
        refine SV.op (OpL.ok (nb := 3) (ok_move (v := V.one (.sc _)) (.inr rfl) rfl) rfl (gle rfl)) rfl ?_
        refine SV.nil ?_
        refine SV.tn ?_
        refine SV.cond rfl (fun hc6 => ?_) (fun hc6 => ?_)
        · skip   -- c6.T
          refine SV.draw [.q 0, .q 1, .q 2, .q 3, .q 4, .q 5, .q 6, .q 7, .q 8, .q 9, .q 10, .q 11] [12] (by kernel_rfl) (by kernel_rfl) ?_
          refine DW.q rfl (ok_field_bp (b := 2) (o' := 0) (off := 0) rfl rfl fld_impl_Disk_0) rfl rfl (gle rfl) (fun _ _ _ _ h => h) ?_
          refine DW.q rfl (ok_load_bp (b := 2) (i := 0) (ag := false) (m := 1) (ys := [.hd 0]) rfl rfl rfl agg_s_impl_File sz_s_impl_File (fun _ => rfl) rfl rfl (gle rfl)) rfl rfl (gle rfl) (fun _ _ _ _ h => h) ?_
          refine DW.q rfl (ok_move (v := V.one (.sc _)) (.inl rfl) rfl) rfl rfl (gle rfl) (fun _ _ _ _ h => h) ?_
          refine DW.q rfl (ok_field_bp (b := 2) (o' := 0) (off := 0) rfl rfl fld_impl_Disk_0) rfl rfl (gle rfl) (fun _ _ _ _ h => h) ?_
          refine DW.q rfl (ok_load_bp (b := 2) (i := 0) (ag := false) (m := 1) (ys := [.hd 0]) rfl rfl rfl agg_s_impl_File sz_s_impl_File (fun _ => rfl) rfl rfl (gle rfl)) rfl rfl (gle rfl) (fun _ _ _ _ h => h) ?_
          refine DW.q rfl (ok_move (v := V.one (.sc _)) (.inl rfl) rfl) rfl rfl (gle rfl) (fun _ _ _ _ h => h) ?_
          refine DW.q rfl (ok_index (n := 4) (lf := .hd 0) rfl elt_impl_File.und sz_impl_File rfl rfl rfl (map_at hx)) rfl rfl (gle rfl) (fun _ _ _ _ h => h) ?_
          refine DW.q rfl (ok_field_el (p := .ep 0 _ _ _) (off := 2) rfl rfl (cells_ep rfl (map_at hx) rfl rfl) fld_impl_File_2) rfl rfl (gle rfl) (fun _ _ _ _ h => h) ?_
          refine DW.el (ag := false) (m := 1) (ys := [.sc _]) rfl rfl rfl (cells_ep rfl (map_at hx) rfl rfl) agg_int sz_int (fun _ => rfl) (gle rfl) rfl rfl rfl (gle rfl) (fun _ _ _ _ h => h) ?_
          refine DW.q rfl (ok_s2 (v := .int .i64 (wrap64 (D.fFiles[j].fChecksum + 1))) (x := .tmp 83) (x' := .const ((Value.int IntKind.i64 1))) (VScal.one rfl) (VScal.one rfl) (fun ρ h1 h2 w => by go_simp; all_goals ((try go_bits); first | with_reducible rfl | go_num | (simp; done) | (simp; omega))) rfl) rfl rfl (gle rfl) (fun _ _ _ _ h => h) ?_
          refine DW.q rfl (ok_index (n := 4) (lf := .hd 0) rfl elt_impl_File.und sz_impl_File rfl rfl rfl (map_at hx)) rfl rfl (gle rfl) (fun _ _ _ _ h => h) ?_
          refine DW.q rfl (ok_field_el (p := .ep 0 _ _ _) (off := 2) rfl rfl (cells_ep rfl (map_at hx) rfl rfl) fld_impl_File_2) rfl rfl (gle rfl) (fun _ _ _ _ h => h) ?_
          refine DW.stores ?_
          refine SV.z rfl (ok_store_ep (i := 0) (n := 4) (m := 1) (ag := false) (zs := [.sc _]) rfl rfl rfl rfl (map_at hx) sz_int (fun _ => rfl) rfl sz_impl_File (gle rfl) (outs_c rfl outs_n) (by simp [two]) rfl rfl rfl) rfl ?_
          refine SV.zend ?_
          refine SV.bn ?_
          refine SV.tn ?_
          refine SV.seq' ?_
          refine SV.region ?_
          refine SV.op (OpL.ok (nb := 3) (ok_load_bp (b := 2) (i := 0) (ag := true) (m := 2) (ys := [.hd 0, .sc _]) rfl rfl rfl agg_impl_Disk sz_impl_Disk (fun h => by cases h) rfl rfl (gle rfl)) rfl (gle rfl)) rfl ?_
          refine SV.op (ok_store_bp (b := 1) (i := 0) (m := 2) (ag := true) (zs := [.hd 0, .sc _]) (ys := [.hd 0, .sc _]) rfl rfl rfl rfl sz_impl_Disk (fun h => by cases h) rfl (gle rfl) rfl rfl rfl) rfl ?_
          refine SV.nil ?_
          refine SV.tn ?_
          refine SV.ret ?_
          apply SV.doneKI (Pr := fun X : DiskD => goodDisk X ∧ wtDisk X ≤ 3000000) (rs := fun X => [(true, tDisk X)]) (y := ⟨D.fFiles.set j { D.fFiles[j] with fChecksum := wrap64 (D.fFiles[j].fChecksum + 1) }, D.fNextName⟩) (hy := ⟨good_set hX ⟨hgf.1, hgf.2.1, i64_wrap _, trivial⟩, Nat.le_trans (wt_set_le hx (Nat.le_refl _)) (Nat.le_trans hw (by decide))⟩) (hC := hC) (hpin := hpin) (hp := hp7) (hbx := rfl) (hf := Tryz.results26) (ht := rfl) (he := .inl rfl)
          case hr => exact (ResAll.cons (ResOk.cell (b := 1) (ag := true) (xs := [.hd 0, .sc _]) rfl rfl agg_impl_Disk sz_impl_Disk (fun h => by cases h)) ResAll.nil')
          refine ⟨rfl, ⟨?_, ?_, trivial⟩, trivial⟩ <;> first | rfl | (show some (T.seq _ _) = some (T.seq _ _); refine congrArg some (congrArg (T.seq _) ?_); simp [tFile, List.map_set]; done)
        · skip   -- c6.F
          refine SV.seq' ?_
          refine SV.region ?_
          refine SV.op (OpL.ok (nb := 3) (ok_s2 (x := .tmp 72) (x' := .const ((Value.int IntKind.i64 1))) (VScal.one rfl) (VScal.one rfl) (fun ρ h1 h2 w => by go_simp; (try go_bits); with_reducible rfl) rfl) rfl (gle rfl)) rfl ?_
          refine SV.op (OpL.ok (nb := 3) (ok_move (v := V.one (.sc _)) (.inr rfl) rfl) rfl (gle rfl)) rfl ?_
          refine SV.nil ?_
          refine SV.tn ?_
          refine SV.cond rfl (fun hc7 => ?_) (fun hc7 => ?_)
          · skip   -- c7.T
            refine SV.region ?_
            refine SV.op (OpL.ok (nb := 3) (ok_move (v := V.one (.bp 0 0)) (.inl rfl) rfl) rfl (gle rfl)) rfl ?_
            refine SV.callK (b := 0) hC rfl ⟨_, _, Tryz.func27, rfl, by decide⟩ (vk_below 3 (by decide) (by decide)) rfl ⟨rfl, trivial⟩ rfl hp7 rfl (gle rfl) (fun _ => wanted0 rfl) ?_
            rintro m2 p8 h8 ⟨hm2, hm3⟩ hp8
            refine SV.op (OpL.ok (nb := 3) (ok_field_bp (b := 2) (o' := 0) (off := 1) rfl rfl fld_impl_Disk_1) rfl (gle rfl)) rfl ?_
            refine SV.op (ok_store_bp (b := 2) (i := 1) (m := 1) (ag := false) (zs := [.sc _]) (ys := [.hd 0, .sc _]) rfl rfl rfl rfl sz_int (fun _ => rfl) rfl (gle rfl) rfl rfl rfl) rfl ?_
            refine SV.nil ?_
            refine SV.bn ?_
            refine SV.tn ?_
            refine SV.seq' ?_
            refine SV.region ?_
            refine SV.op (OpL.ok (nb := 3) (ok_load_bp (b := 2) (i := 0) (ag := true) (m := 2) (ys := [.hd 0, .sc _]) rfl rfl rfl agg_impl_Disk sz_impl_Disk (fun h => by cases h) rfl rfl (gle rfl)) rfl (gle rfl)) rfl ?_
            refine SV.op (ok_store_bp (b := 1) (i := 0) (m := 2) (ag := true) (zs := [.hd 0, .sc _]) (ys := [.hd 0, .sc _]) rfl rfl rfl rfl sz_impl_Disk (fun h => by cases h) rfl (gle rfl) rfl rfl rfl) rfl ?_
            refine SV.nil ?_
            refine SV.tn ?_
            refine SV.ret ?_
            apply SV.doneKI (Pr := fun X : DiskD => goodDisk X ∧ wtDisk X ≤ 3000000) (rs := fun X => [(true, tDisk X)]) (y := ⟨D.fFiles, m2⟩) (hy := ⟨⟨hX.1, (show I64 m2 from i64_of hm2 (by omega)), trivial⟩, Nat.le_trans hw (by decide)⟩) (hC := hC) (hpin := hpin) (hp := hp8) (hbx := rfl) (hf := Tryz.results26) (ht := rfl) (he := .inl rfl)
            case hr => exact (ResAll.cons (ResOk.cell (b := 1) (ag := true) (xs := [.hd 0, .sc _]) rfl rfl agg_impl_Disk sz_impl_Disk (fun h => by cases h)) ResAll.nil')
            refine ⟨rfl, ⟨?_, ?_, trivial⟩, trivial⟩ <;> first | rfl | (show some (T.seq _ _) = some (T.seq _ _); refine congrArg some (congrArg (T.seq _) ?_); simp [tFile, List.map_set]; done)
          · skip   -- c7.F
            refine SV.seq' ?_
            refine SV.region ?_
            refine SV.op (OpL.ok (nb := 3) (ok_s2 (x := .tmp 72) (x' := .const ((Value.int IntKind.i64 2))) (VScal.one rfl) (VScal.one rfl) (fun ρ h1 h2 w => by go_simp; (try go_bits); with_reducible rfl) rfl) rfl (gle rfl)) rfl ?_
            refine SV.op (OpL.ok (nb := 3) (ok_move (v := V.one (.sc _)) (.inr rfl) rfl) rfl (gle rfl)) rfl ?_
            refine SV.nil ?_
            refine SV.tn ?_
            refine SV.cond rfl (fun hc8 => ?_) (fun hc8 => ?_)
            · skip   -- c8.T
              refine SV.takeN (i := 0) (k := j) (o := 1) rfl (map_at hx) rfl fun Lv u hLv hsh => ?_
              obtain ⟨adp, cp, rfl, hcp, hcm, hgp⟩ := hsh
              refine SV.draw [.q 0, .q 1, .q 2, .q 3, .q 4, .q 5, .q 6, .m 7, .m 8, .q 9] [10] (by kernel_rfl) (by kernel_rfl) ?_
              refine DW.q rfl (ok_field_bp (b := 2) (o' := 0) (off := 0) rfl rfl fld_impl_Disk_0) rfl rfl (gle rfl) (fun _ _ _ _ h => h) ?_
              refine DW.q rfl (ok_load_bp (b := 2) (i := 0) (ag := false) (m := 1) (ys := [.hd 0]) rfl rfl rfl agg_s_impl_File sz_s_impl_File (fun _ => rfl) rfl rfl (gle rfl)) rfl rfl (gle rfl) (fun _ _ _ _ h => h) ?_
              refine DW.q rfl (ok_field_bp (b := 2) (o' := 0) (off := 0) rfl rfl fld_impl_Disk_0) rfl rfl (gle rfl) (fun _ _ _ _ h => h) ?_
              refine DW.q rfl (ok_load_bp (b := 2) (i := 0) (ag := false) (m := 1) (ys := [.hd 0]) rfl rfl rfl agg_s_impl_File sz_s_impl_File (fun _ => rfl) rfl rfl (gle rfl)) rfl rfl (gle rfl) (fun _ _ _ _ h => h) ?_
              refine DW.q rfl (ok_move (v := V.one (.sc _)) (.inl rfl) rfl) rfl rfl (gle rfl) (fun _ _ _ _ h => h) ?_
              refine DW.q rfl (ok_index (n := 4) (lf := .hd 0) rfl elt_impl_File.und sz_impl_File rfl rfl rfl (set_self (by rw [List.length_map]; exact hjl))) rfl rfl (gle rfl) (fun _ _ _ _ h => h) ?_
              refine DW.el (ag := true) (m := 4) (ys := [.sc _, .sc _, .sc _, .sc _]) rfl rfl rfl (cells_ep rfl (set_self (by rw [List.length_map]; exact hjl)) rfl rfl) agg_impl_File sz_impl_File (fun h => by cases h) (gle rfl) rfl rfl rfl (gle rfl) (fun _ _ _ _ h => h) ?_
              refine DW.m [2] rfl (ok_lit1 (kk := 2) elt_impl_File (ag := true) (xs := [.sc _, .sc _, .sc _, .sc _]) rfl rfl rfl rfl (fun h => by cases h) (outs_c rfl (outs_c rfl (outs_c rfl (outs_c rfl outs_n)))) (by simp [two]) rfl (gle rfl)) rfl (gle rfl) (gle rfl) (.inl rfl) (fun j hj => by
                  simp only [List.mem_cons, List.not_mem_nil, or_false] at hj
                  rcases hj with rfl
                  · exact .inr ⟨(gle rfl), (gle rfl), .inl rfl⟩) ?_
              refine DW.m [2] rfl (ok_append (kk := 3) elt_impl_File (ls := .hd 0) (lx := .hd 2) rfl rfl rfl rfl rfl rfl (by intro i h1 h2; first | (cases h1; done) | (cases h1; cases h2)) (by simp; omega) rfl (gle rfl)) rfl (gle rfl) (gle rfl) (.inr ⟨0, rfl, .inr ⟨(gle rfl), rfl⟩⟩) (fun j hj => by
                  simp only [List.mem_cons, List.not_mem_nil, or_false] at hj
                  rcases hj with rfl
                  · exact .inl (by decide)) ?_
              refine DW.q rfl (ok_field_bp (b := 2) (o' := 0) (off := 0) rfl rfl fld_impl_Disk_0) rfl rfl (gle rfl) (fun _ _ _ _ h => h) ?_
              refine DW.stores ?_
              refine SV.z rfl (ok_store_bp (b := 2) (i := 0) (m := 1) (ag := false) (zs := [.hd 3]) (ys := [.hd 3, .sc _]) rfl rfl rfl rfl sz_s_impl_File (fun _ => rfl) rfl (gle rfl) rfl rfl rfl) rfl ?_
              refine SV.zend ?_
              refine SV.bn ?_
              refine SV.tn ?_
              refine SV.seq' ?_
              refine SV.freeze (m := 3) (p := 1) (b := 2) (q := 0) (es2 := (D.fFiles ++ [D.fFiles[j]]).map tFile) (ys := [.nd 4 _ _ none, .sc _]) rfl rfl rfl rfl rfl (by simp) (fun k e e2 h1 h2 => (all4 (all4_map _) h2).trans (all4 (all4_dup _ _ _ _) h1).symm) (fun k e e2 i t t2 h1 h2 h3 h4 => (freeze_dup hx k e e2 i t t2 h1 h2 h3 h4).imp id fun ⟨a1, a2⟩ => ⟨_, a1, by rw [a2]; exact named_inn' (p := 1) rfl (gle rfl) hLv⟩) ?_
              refine SV.unname (E := E) hE ?_
              refine SV.region ?_
              refine SV.op (OpL.ok (nb := 3) (ok_load_bp (b := 2) (i := 0) (ag := true) (m := 2) (ys := [.nd 4 _ _ none, .sc _]) rfl rfl rfl agg_impl_Disk sz_impl_Disk (fun h => by cases h) rfl rfl (gle rfl)) rfl (gle rfl)) rfl ?_
              refine SV.op (ok_store_bp (b := 1) (i := 0) (m := 2) (ag := true) (zs := [.nd 4 _ _ none, .sc _]) (ys := [.nd 4 _ _ none, .sc _]) rfl rfl rfl rfl sz_impl_Disk (fun h => by cases h) rfl (gle rfl) rfl rfl rfl) rfl ?_
              refine SV.nil ?_
              refine SV.tn ?_
              refine SV.ret ?_
              apply SV.doneKI (Pr := fun X : DiskD => goodDisk X ∧ wtDisk X ≤ 3000000) (rs := fun X => [(true, tDisk X)]) (y := ⟨D.fFiles ++ [D.fFiles[j]], D.fNextName⟩) (hy := ⟨good_snoc hX hgf, Nat.le_trans (wt_snoc_file hjl) (by have : wtAll wtFile D.fFiles ≤ 1048576 := hw; omega)⟩) (hC := hC) (hpin := hpin) (hp := hp7) (hbx := rfl) (hf := Tryz.results26) (ht := rfl) (he := .inl rfl)
              case hr => exact (ResAll.cons (ResOk.cell (b := 1) (ag := true) (xs := [.nd 4 _ _ none, .sc _]) rfl rfl agg_impl_Disk sz_impl_Disk (fun h => by cases h)) ResAll.nil')
              refine ⟨rfl, ⟨?_, ?_, trivial⟩, trivial⟩ <;> first | rfl | (show some (T.seq _ _) = some (T.seq _ _); refine congrArg some (congrArg (T.seq _) ?_); simp [tFile, List.map_set]; done)
            · skip   -- c8.F
              refine SV.seq' ?_
              refine SV.region ?_
              refine SV.op (OpL.ok (nb := 3) (ok_s2 (x := .tmp 72) (x' := .const ((Value.int IntKind.i64 3))) (VScal.one rfl) (VScal.one rfl) (fun ρ h1 h2 w => by go_simp; (try go_bits); with_reducible rfl) rfl) rfl (gle rfl)) rfl ?_
              refine SV.op (OpL.ok (nb := 3) (ok_move (v := V.one (.sc _)) (.inr rfl) rfl) rfl (gle rfl)) rfl ?_
              refine SV.nil ?_
              refine SV.tn ?_
              refine SV.cond rfl (fun hc9 => ?_) (fun hc9 => ?_)
              · skip   -- c9.T
                refine SV.seq' ?_
                refine SV.region ?_
                refine SV.op (OpL.ok (nb := 3) (ok_field_bp (b := 2) (o' := 0) (off := 0) rfl rfl fld_impl_Disk_0) rfl (gle rfl)) rfl ?_
                refine SV.op (OpL.ok (nb := 3) (ok_load_bp (b := 2) (i := 0) (ag := false) (m := 1) (ys := [.hd 0]) rfl rfl rfl agg_s_impl_File sz_s_impl_File (fun _ => rfl) rfl rfl (gle rfl)) rfl (gle rfl)) rfl ?_
                refine SV.op (OpL.ok (nb := 3) (ok_move (v := V.one (.sc _)) (.inl rfl) rfl) rfl (gle rfl)) rfl ?_
                refine SV.op (OpL.ok (nb := 3) (ok_index (n := 4) (lf := .hd 0) rfl elt_impl_File.und sz_impl_File rfl rfl rfl (map_at hx)) rfl (gle rfl)) rfl ?_
                refine SV.op (OpL.ok (nb := 3) (ok_field_el (p := .ep 0 _ _ _) (off := 1) rfl rfl (cells_ep rfl (map_at hx) rfl rfl) fld_impl_File_1) rfl (gle rfl)) rfl ?_
                refine SV.op (ok_load_el (p := .ep 0 _ _ _) (ag := false) (m := 1) (ys := [.nd 0 _ _ (some _)]) rfl rfl (cells_ep rfl (map_at hx) rfl rfl) agg_s_impl_Page sz_s_impl_Page (fun _ => rfl) (gle rfl) rfl rfl (gle rfl)) rfl ?_
                refine SV.op (OpL.ok (nb := 3) (ok_len (lf := .nd 0 _ _ (some _)) rfl elt_impl_Page.und rfl rfl) rfl (gle rfl)) rfl ?_
                refine SV.op (OpL.ok (nb := 3) (ok_s2 (x := .tmp 112) (x' := .const ((Value.int IntKind.i64 0))) (VScal.one rfl) (VScal.one rfl) (fun ρ h1 h2 w => by go_simp; (try go_bits); with_reducible rfl) rfl) rfl (gle rfl)) rfl ?_
                refine SV.nil ?_
                refine SV.tn ?_
                refine SV.cond rfl (fun hc10 => ?_) (fun hc10 => ?_)
                · skip   -- c10.T
                  have hpg : 0 < D.fFiles[j].fPages.length := by simpa using hc10
                  refine SV.takeN (i := 0) (k := j) (o := 1) rfl (map_at hx) rfl fun Lv u hLv hsh => ?_
                  obtain ⟨adp, cp, rfl, hcp, hcm, hgp⟩ := hsh
                  refine SV.draw [.q 0, .q 1, .q 2, .q 3, .q 4, .q 5, .q 6, .q 7, .q 8, .q 9, .q 10, .q 11] [12] (by kernel_rfl) (by kernel_rfl) ?_
                  refine DW.q rfl (ok_field_bp (b := 2) (o' := 0) (off := 0) rfl rfl fld_impl_Disk_0) rfl rfl (gle rfl) (fun _ _ _ _ h => h) ?_
                  refine DW.q rfl (ok_load_bp (b := 2) (i := 0) (ag := false) (m := 1) (ys := [.hd 0]) rfl rfl rfl agg_s_impl_File sz_s_impl_File (fun _ => rfl) rfl rfl (gle rfl)) rfl rfl (gle rfl) (fun _ _ _ _ h => h) ?_
                  refine DW.q rfl (ok_move (v := V.one (.sc _)) (.inl rfl) rfl) rfl rfl (gle rfl) (fun _ _ _ _ h => h) ?_
                  refine DW.q rfl (ok_field_bp (b := 2) (o' := 0) (off := 0) rfl rfl fld_impl_Disk_0) rfl rfl (gle rfl) (fun _ _ _ _ h => h) ?_
                  refine DW.q rfl (ok_load_bp (b := 2) (i := 0) (ag := false) (m := 1) (ys := [.hd 0]) rfl rfl rfl agg_s_impl_File sz_s_impl_File (fun _ => rfl) rfl rfl (gle rfl)) rfl rfl (gle rfl) (fun _ _ _ _ h => h) ?_
                  refine DW.q rfl (ok_move (v := V.one (.sc _)) (.inl rfl) rfl) rfl rfl (gle rfl) (fun _ _ _ _ h => h) ?_
                  refine DW.q rfl (ok_index (n := 4) (lf := .hd 0) rfl elt_impl_File.und sz_impl_File rfl rfl rfl (set_self (by rw [List.length_map]; exact hjl))) rfl rfl (gle rfl) (fun _ _ _ _ h => h) ?_
                  refine DW.q rfl (ok_field_el (p := .ep 0 _ _ _) (off := 1) rfl rfl (cells_ep rfl (set_self (by rw [List.length_map]; exact hjl)) rfl rfl) fld_impl_File_1) rfl rfl (gle rfl) (fun _ _ _ _ h => h) ?_
                  refine DW.el (ag := false) (m := 1) (ys := [.sc _]) rfl rfl rfl (cells_ep rfl (set_self (by rw [List.length_map]; exact hjl)) rfl rfl) agg_s_impl_Page sz_s_impl_Page (fun _ => rfl) (gle rfl) rfl rfl rfl (gle rfl) (fun _ _ _ _ h => h) ?_
                  refine DW.q rfl (ok_tail (n := 1) rfl elt_impl_Page.und sz_impl_Page rfl rfl (by rw [List.length_map]; omega) (hcp)) rfl rfl (gle rfl) (fun _ _ _ _ h => h) ?_
                  refine DW.q rfl (ok_index (n := 4) (lf := .hd 0) rfl elt_impl_File.und sz_impl_File rfl rfl rfl (set_self (by rw [List.length_map]; exact hjl))) rfl rfl (gle rfl) (fun _ _ _ _ h => h) ?_
                  refine DW.q rfl (ok_field_el (p := .ep 0 _ _ _) (off := 1) rfl rfl (cells_ep rfl (set_self (by rw [List.length_map]; exact hjl)) rfl rfl) fld_impl_File_1) rfl rfl (gle rfl) (fun _ _ _ _ h => h) ?_
                  refine DW.stores ?_
                  refine SV.z rfl (ok_store_ep (i := 0) (n := 4) (m := 1) (ag := false) (zs := [.sc _]) rfl rfl rfl rfl (set_self (by rw [List.length_map]; exact hjl)) sz_s_impl_Page (fun _ => rfl) rfl sz_impl_File (gle rfl) (outs_c rfl outs_n) (by simp [two]) rfl (set_twice (by rfl)) rfl) rfl ?_
                  refine SV.zend ?_
                  refine SV.bn ?_
                  refine SV.tn ?_
                  refine SV.seq' ?_
                  refine SV.freeze (m := 0) (p := 1) (b := 2) (q := 0) (es2 := (D.fFiles.set j { D.fFiles[j] with fPages := D.fFiles[j].fPages.drop 1 }).map tFile) (ys := [.nd 2 _ _ none, .sc _]) rfl rfl rfl rfl rfl (by simp) (fun k e e2 h1 h2 => (all4 (all4_map _) h2).trans (all4 (all4_set _ _ _ _) h1).symm) (fun k e e2 i t t2 h1 h2 h3 h4 => (freeze_tail hx k e e2 i t t2 h1 h2 h3 h4).imp id fun ⟨a1, a2⟩ => ⟨_, a1, by rw [a2]; exact tail_inn (p := 1) rfl (gle rfl) hLv sz_impl_Page (by rw [List.length_map]; omega)⟩) ?_
                  refine SV.unname (E := E) hE ?_
                  refine SV.region ?_
                  refine SV.op (OpL.ok (nb := 3) (ok_load_bp (b := 2) (i := 0) (ag := true) (m := 2) (ys := [.nd 2 _ _ none, .sc _]) rfl rfl rfl agg_impl_Disk sz_impl_Disk (fun h => by cases h) rfl rfl (gle rfl)) rfl (gle rfl)) rfl ?_
                  refine SV.op (ok_store_bp (b := 1) (i := 0) (m := 2) (ag := true) (zs := [.nd 2 _ _ none, .sc _]) (ys := [.nd 2 _ _ none, .sc _]) rfl rfl rfl rfl sz_impl_Disk (fun h => by cases h) rfl (gle rfl) rfl rfl rfl) rfl ?_
                  refine SV.nil ?_
                  refine SV.tn ?_
                  refine SV.ret ?_
                  apply SV.doneKI (Pr := fun X : DiskD => goodDisk X ∧ wtDisk X ≤ 3000000) (rs := fun X => [(true, tDisk X)]) (y := ⟨D.fFiles.set j { D.fFiles[j] with fPages := D.fFiles[j].fPages.drop 1 }, D.fNextName⟩) (hy := ⟨good_set hX ⟨hgf.1, fun p hp => hgf.2.1 p (List.mem_of_mem_drop hp), hgf.2.2⟩, Nat.le_trans (wt_set_le hx (wt_drop1 _)) (Nat.le_trans hw (by decide))⟩) (hC := hC) (hpin := hpin) (hp := hp7) (hbx := rfl) (hf := Tryz.results26) (ht := rfl) (he := .inl rfl)
                  case hr => exact (ResAll.cons (ResOk.cell (b := 1) (ag := true) (xs := [.nd 2 _ _ none, .sc _]) rfl rfl agg_impl_Disk sz_impl_Disk (fun h => by cases h)) ResAll.nil')
                  refine ⟨rfl, ⟨?_, ?_, trivial⟩, trivial⟩ <;> first | rfl | (show some (T.seq _ _) = some (T.seq _ _); refine congrArg some (congrArg (T.seq _) ?_); simp [tFile, List.map_set]; done)
                · skip   -- c10.F
                  refine SV.skip ?_
                  refine SV.bn ?_
                  refine SV.tn ?_
                  refine SV.seq' ?_
                  refine SV.region ?_
                  refine SV.op (OpL.ok (nb := 3) (ok_load_bp (b := 2) (i := 0) (ag := true) (m := 2) (ys := [.hd 0, .sc _]) rfl rfl rfl agg_impl_Disk sz_impl_Disk (fun h => by cases h) rfl rfl (gle rfl)) rfl (gle rfl)) rfl ?_
                  refine SV.op (ok_store_bp (b := 1) (i := 0) (m := 2) (ag := true) (zs := [.hd 0, .sc _]) (ys := [.hd 0, .sc _]) rfl rfl rfl rfl sz_impl_Disk (fun h => by cases h) rfl (gle rfl) rfl rfl rfl) rfl ?_
                  refine SV.nil ?_
                  refine SV.tn ?_
                  refine SV.ret ?_
                  apply SV.doneKI (Pr := fun X : DiskD => goodDisk X ∧ wtDisk X ≤ 3000000) (rs := fun X => [(true, tDisk X)]) (y := D) (hy := ⟨hX, by omega⟩) (hC := hC) (hpin := hpin) (hp := hp7) (hbx := rfl) (hf := Tryz.results26) (ht := rfl) (he := .inl rfl)
                  case hr => exact (ResAll.cons (ResOk.cell (b := 1) (ag := true) (xs := [.hd 0, .sc _]) rfl rfl agg_impl_Disk sz_impl_Disk (fun h => by cases h)) ResAll.nil')
                  refine ⟨rfl, ⟨?_, ?_, trivial⟩, trivial⟩ <;> first | rfl | (show some (T.seq _ _) = some (T.seq _ _); refine congrArg some (congrArg (T.seq _) ?_); simp [tFile, List.map_set]; done)
              · skip   -- c9.F
                refine SV.skip ?_
                refine SV.bn ?_
                refine SV.tn ?_
                refine SV.seq' ?_
                refine SV.region ?_
                refine SV.op (OpL.ok (nb := 3) (ok_load_bp (b := 2) (i := 0) (ag := true) (m := 2) (ys := [.hd 0, .sc _]) rfl rfl rfl agg_impl_Disk sz_impl_Disk (fun h => by cases h) rfl rfl (gle rfl)) rfl (gle rfl)) rfl ?_
                refine SV.op (ok_store_bp (b := 1) (i := 0) (m := 2) (ag := true) (zs := [.hd 0, .sc _]) (ys := [.hd 0, .sc _]) rfl rfl rfl rfl sz_impl_Disk (fun h => by cases h) rfl (gle rfl) rfl rfl rfl) rfl ?_
                refine SV.nil ?_
                refine SV.tn ?_
                refine SV.ret ?_
                apply SV.doneKI (Pr := fun X : DiskD => goodDisk X ∧ wtDisk X ≤ 3000000) (rs := fun X => [(true, tDisk X)]) (y := D) (hy := ⟨hX, by omega⟩) (hC := hC) (hpin := hpin) (hp := hp7) (hbx := rfl) (hf := Tryz.results26) (ht := rfl) (he := .inl rfl)
                case hr => exact (ResAll.cons (ResOk.cell (b := 1) (ag := true) (xs := [.hd 0, .sc _]) rfl rfl agg_impl_Disk sz_impl_Disk (fun h => by cases h)) ResAll.nil')
                refine ⟨rfl, ⟨?_, ?_, trivial⟩, trivial⟩ <;> first | rfl | (show some (T.seq _ _) = some (T.seq _ _); refine congrArg some (congrArg (T.seq _) ?_); simp [tFile, List.map_set]; done)
end Go.Proofs.YtjdjceohlcimaaaGreatDoor
/- States told by trees: calls whose answer may only be read, in a drawn region with a cursor. -/
namespace Go.Proofs.YtjdjceohlcimaaaGreatDoor.V
open Go Go.RowKit
set_option linter.unusedVariables false
variable {P : Program} {E : Env} {N : Nat} {σ σ' τ : VS} {o : Oper} {a : Act} {w ws : World} {G Gs : Ghost} {Q : Exit → Act → World → Prop} {ad : Option Addr} {len cap : Nat} {zs0 : List Int}
variable {l : List Oper} {zs : List Nat} {ps : Pl} {i d : Nat} {fr wl : List Nat}
theorem DC.mKI {Y : Type} {Pr : Y → Prop} (hC : E.code ad len cap zs0) {b : Nat} {f : FuncId} {x0 : Operand} {ats : Array TypeId} {tup : Bool} {rs : Y → List (Bool × List T)} {p h0 : Int} (hn : nthO l i = some o) (ho : o.op = .call { callee := .value (.func f), args := #[x0], argTypes := ats }) (hb : ∃ fn c, P.funcs[f]? = some fn ∧ fn.body = some c ∧ fn.name ≠ "runtime.NumGoroutine")
    (hc : VKI ad len cap zs0 Pr P f [] tup rs) (hx0 : σ.ev x0 = V.one (.bp b 0)) (hbx : σ.bs[b]? = some (75, curL ad len cap p h0)) (hbw : b ∈ wl) (hbt : b < τ.bs.length) (hp : 0 ≤ p ∧ p ≤ len) (hd : o.dst = some d) (hdN : d < N) (hg : o.guard = none)
    (k : ∀ (y : Y) (p' h' : Int), Pr y → 0 ≤ p' ∧ p' ≤ len → DC E N τ wl fr (((σ.setb b 75 (curL ad len cap p' h')).new (.seq 72 [])).put d ⟨tup, inLs σ.nx (rs y)⟩) fun ws Gs a w => wpPi P l.toArray Q (SC E τ wl ws Gs) zs ps a w) : DC E N τ wl fr σ fun ws Gs a w => wpPi P l.toArray Q (SC E τ wl ws Gs) zs (.m i ps) a w := fun ws Gs a w G hr hl => by
  refine pi_step hn fun K hK => ?_
  rw [if_pos (by simp [Region.wanted, hg])]
  refine callKI_core hC ho hb hc hx0 hbx hp hd hdN hr fun y p' h' a' w' G' hy hp' hr' hon hvl hβ hnx => ?_
  have hsame : SameC E τ wl Gs ws w' := by
    refine ⟨⟨hon.os.trans hl.same.below.os, hon.tape.trans hl.same.below.tape, hon.output.trans hl.same.below.output, Nat.le_trans hl.same.below.size hon.size, fun q hq => ?_⟩, fun q hq => ?_⟩
    · obtain ⟨ar, hrs⟩ := hl.start
      have hqw : q < ws.heap.size := Nat.lt_of_lt_of_le hq.1 hrs.low
      refine (hon.block q (Nat.lt_of_lt_of_le hqw hl.same.below.size) fun e => ?_).trans (hl.same.below.block q hq)
      have e' := Option.some.inj e
      obtain ⟨hB, -⟩ := hr.boxes b _ _ hbx
      rw [← e'] at hB
      exact hB.elim (fun h => Nat.lt_irrefl _ (Nat.lt_of_lt_of_le hq.1 h)) hq.2
    · by_cases hqb : q = G.β b
      · exact .inr (.inl ⟨b, hbw, hbt, hqb.trans (hl.β b hbt)⟩)
      · have h1 := hon.block q (Nat.lt_of_lt_of_le hq hl.same.below.size) fun e => hqb (Option.some.inj e)
        rcases hl.same.block q hq with h2 | h2 | ⟨i2, v2, ty2, es2, n2, ds, ds', f1, f2, f3, f4, f5, f6, f7⟩
        · exact .inl (h1.trans h2)
        · exact .inr (.inl h2)
        · exact .inr (.inr ⟨i2, v2, ty2, es2, n2, ds, ds', f1, f2, f3, f4, h1.trans f5, f6, f7⟩)
  refine hK.out a' w' hsame fun _ => k y p' h' hy hp' ws Gs a' w' G' hr' ⟨hl.start, hsame, fun j hj => (hvl j (Nat.lt_of_lt_of_le hj hl.nx)).trans (hl.vl j hj), fun c hc => by rw [hβ]; exact hl.β c hc, Nat.le_trans hl.nx hnx, ?_, fun j hj => ⟨Nat.lt_of_lt_of_le (hl.fresh j hj).1 hnx, fun c hc => (hl.fresh j hj).2 c (by rw [← hvl j (hl.fresh j hj).1]; exact hc)⟩, fun c h1 h2 => by
    rw [hβ]
    have h3 : c < (σ.bs.set b (75, curL ad len cap p' h')).length := h2
    exact hl.nb c h1 (by simpa using h3)⟩
  show τ.bs.length ≤ (σ.bs.set b (75, curL ad len cap p' h')).length
  simpa using hl.bs
end Go.Proofs.YtjdjceohlcimaaaGreatDoor.V
/- l1Text: some string of at most the given length. -/
namespace Go.Proofs.YtjdjceohlcimaaaGreatDoor
open Go.RowKit
theorem wpList_pushB {ops : Array Oper} {rest : List Oper} {o : Oper} {a : Act} {Q : Exit → Act → World → Prop} {wr : World} {B : Nat} {out : List UInt8} {n : Int} {v : Value} (s x : Operand) (b : UInt8)
    (hgd : o.guard = none) (ho : o.op = .call { callee := .builtin .append, args := #[s, x], argTypes := #[22, 22] })
    (hs : a.eval s = v) (hx : a.eval x = .slice (some ⟨wr.heap.size, 0, none⟩) 1 1) (hown : wr.ownsRow B 5 1 v out.length (b8 out)) (hB : B ≤ wr.heap.size)
    (hlen : out.length + 1 ≤ 140737488355328) (hn : n = (b.toNat : Int))
    (h : ∀ v' w', w'.ownsRow B 5 1 v' (out ++ [b]).length (b8 (out ++ [b])) → Below B wr w' → wpList Tryz.prog ops Q rest (a.put o.dst v') w') :
    wpList Tryz.prog ops Q (o :: rest) a (wr.alloc (.cells #[.int .u8 n] 5)) := by
  obtain ⟨i0, hi, hz0, hz1, hz2⟩ := info_parts byte_info
  refine wpList_append_own _ hgd s x 22 ho B 5 i0 (.int .u8 0) 1 1 Tryz.underlying22 hi hz0 hz1 hz2 rfl (by decide) v out.length (b8 out) hs (hown.alloc _)
    ⟨wr.heap.size, 0, none⟩ 1 1 [.int .u8 n] hx rfl (cell_new1 _ _ _) (by intro u hu; simp at hu; subst hu; rfl) (by unfold maxLen; omega) (by omega) (by simp; omega) ?_
  intro v' w' hown' hg _
  rw [b8_snoc out b n hn] at hown'
  exact h v' w' (by simpa using hown') (((Below.refl B wr).alloc hB _).grown hg (by simp; omega) fun k hk => (hown.lt k hk).1)
def styled (st b : Int) : UInt8 := UInt8.ofNat (if st = 1 then b % 2 else if st = 2 then 97 + b % 4 else b).toNat
def textLoop (zs : List Int) (len : Nat) (st : Int) : Nat → List UInt8 → Int × Int → List UInt8 × (Int × Int)
  | 0, l, σ => (l, σ)
  | k + 1, l, σ => textLoop zs len st k (l ++ [styled st (byteS zs len σ).1]) (byteS zs len σ).2
def textS (zs : List Int) (len : Nat) (m : Int) (σ : Int × Int) : List UInt8 × (Int × Int) :=
  let st := belowS zs len 4 σ
  let n := belowS zs len (m + 1) st.2
  textLoop zs len st.1 n.1.toNat [] n.2
theorem textLoop_length (zs : List Int) (len : Nat) (st : Int) : ∀ (k : Nat) (l : List UInt8) (σ : Int × Int), (textLoop zs len st k l σ).1.length = l.length + k
  | 0, _, _ => rfl
  | k + 1, l, σ => by rw [textLoop, textLoop_length zs len st k, List.length_append, List.length_singleton]; omega
theorem textS_length (zs : List Int) (len : Nat) (m : Int) (σ : Int × Int) (hm : 0 ≤ m) : ((textS zs len m σ).1.length : Int) ≤ m := by
  unfold textS
  simp only []
  rw [textLoop_length]
  have := belowS_fst zs len (m + 1) (belowS zs len 4 σ).2 (by omega)
  simp only [List.length_nil]; omega
def Texted (F : Int × Int → List UInt8 × (Int × Int)) (a : Option Addr) (len cap : Nat) (zs : List Int) (σ : Int × Int) (c : Nat) (w : World) (e : Ending) (w' : World) : Prop :=
  ∃ (l : List UInt8) (τ : Int × Int), F σ = (l, τ) ∧ e = .returned (.string ⟨l.toArray⟩) ∧ Cur a len cap zs τ w' c ∧ Only c w w'
theorem own_only {w w' : World} {B c : Nat} {v : Value} {n : Nat} {xs : List Value} (h : w.ownsRow B 5 1 v n xs) (ho : Only c w w') (hc : c < B) : w'.ownsRow B 5 1 v n xs :=
  h.kept ho (by
    cases hv : v.ownBlock with
    | none => exact .inl rfl
    | some k =>
      refine .inr fun e => ?_
      have := (h.lt k hv).1
      injection e with e
      omega)
set_option maxRecDepth 100000 in
theorem text_any (a : Option Addr) (len cap : Nat) (zs : List Int) (σ : Int × Int) (c : Nat) (w : World) (hc : Cur a len cap zs σ w c) (halt : ∀ x, a = some x → 0 < cap → x.block < w.heap.size) (m : Int) (h0 : 0 ≤ m) (h1 : m ≤ 1000) :
    Calls Tryz.prog 46 #[.pointer (some ⟨c, 0, none⟩), .int .i64 m] w (Texted (textS zs len m) a len cap zs σ c w) := by
  have hcl := hc.lt
  have hb0 : Below w.heap.size w (w.alloc (.cells #[] 5)) := (Below.refl _ _).alloc (Nat.le_refl _) _
  have HC0 := Lib.hid (hc.below hb0 hcl halt)
  have HO0 := Lib.hid (World.ownsRow_made (e := 5) (size := 1) (base := w.heap.size) w #[] 0 (Nat.le_refl _) (by unfold maxLen; omega) rfl)
  have O0 := Lib.hid (Only.of_below (c := c) hb0)
  have HA := Lib.hid halt
  clear hb0 hc halt
  go_enter Tryz.func46, Tryz.ntmps46
  go_wp2_with fail
  refine (below_any a len cap zs _ c _ HC0.out 4 (by omega) (by omega)).mono ?_
  rintro e w1 ⟨st, τ1, hf1, rfl, hc1, ho1⟩
  obtain ⟨hs0, hs1⟩ := belowS_range (by omega) hf1
  have F1 := Lib.hid hf1
  clear hf1
  have H1 := Lib.hid hc1
  have O1 := Lib.hid (O0.out.trans ho1)
  have W1 := Lib.hid (own_only HO0.out ho1 hcl)
  clear hc1 ho1 HO0 O0 HC0
  go_wp2_with fail
  refine (below_any a len cap zs _ c _ H1.out (m + 1) (by omega) (by omega)).mono ?_
  rintro e w2 ⟨cnt, τ2, hf2, rfl, hc2, ho2⟩
  obtain ⟨hn0, hn1⟩ := belowS_range (by omega) hf2
  have F2 := Lib.hid hf2
  clear hf2
  have HT : Hid (textS zs len m σ = textLoop zs len st cnt.toNat [] τ2) := by show _ = _; unfold textS; rw [F1.out]; simp only []; rw [F2.out]
  have H2 := Lib.hid hc2
  have O2 := Lib.hid (O1.out.trans ho2)
  have W2 := Lib.hid (own_only W1.out ho2 hcl)
  clear hc2 ho2 H1 O1 W1
  go_wp2_with fail
  go_loopw [5, 7, 8] (fun v i _ wr => ∃ (k : Int) (x : Value) (l : List UInt8) (τ : Int × Int), i = .int .i64 k ∧ x = v ∧ 0 ≤ k ∧ k ≤ m ∧ Hid ((l.length : Int) + k ≤ m) ∧ Hid (wr.ownsRow w.heap.size 5 1 x l.length (b8 l)) ∧ Hid (Cur a len cap zs τ wr c) ∧ Hid (Only c w wr) ∧ Hid (textS zs len m σ = textLoop zs len st k.toNat l τ)) (fun _ i _ _ => (intOf i).toNat)
  case atStart => exact ⟨cnt, _, [], τ2, rfl, rfl, hn0, by omega, by show ((0 : Nat) : Int) + cnt ≤ m; omega, W2, H2, O2, HT⟩
  case round =>
    obtain ⟨k, x, l, τ, rfl, rfl, hk0, hk1, hlk, hown, hcur, honly, hTL⟩ := hrel
    by_cases hk : 0 < k
    · go_wp2_with fail
      refine (byte_any a len cap zs _ c _ hcur.out).mono ?_
      rintro e w3 ⟨b, τ3, hf3, rfl, hc3, ho3⟩
      obtain ⟨hb0, hb1⟩ := byteS_range hf3
      have F3 := Lib.hid hf3
      clear hf3
      have hstep : ∀ y : UInt8, styled st b = y → textS zs len m σ = textLoop zs len st (k - 1).toNat (l ++ [y]) τ3 := fun y hy => by rw [hTL.out, show k.toNat = (k - 1).toNat + 1 by omega, textLoop, F3.out]; simp only []; rw [hy]
      have HS := Lib.hid hstep
      clear hstep
      have H3 := Lib.hid hc3
      have O3 := Lib.hid (honly.out.trans ho3)
      have W3 := Lib.hid (own_only hown.out ho3 hcl)
      have hsz := O3.out.size
      have hll : l.length ≤ 1000 := by have := hlk.out; omega
      clear hc3 ho3 hcur honly hown
      by_cases hs : st = 1
      · subst hs
        have HN : Hid (b % 2 = ((UInt8.ofNat (b % 2).toNat).toNat : Int)) := by show _ = _; rw [UInt8.toNat_ofNat']; omega
        go_wp2_with (at_builtin; refine wpList_pushB (.tmp 31) (.tmp 34) (UInt8.ofNat (b % 2).toNat) rfl rfl rfl rfl W3.out hsz (by omega) HN.out ?_; intro v4 w4 hown4 hb4)
        go_roundw
        case rel =>
          refine ⟨k - 1, _, _, τ3, rfl, rfl, by omega, by omega, ?_, hown4, H3.out.below hb4 hcl fun x hx hp => HA.out x hx hp, O3.out.step hb4, HS.out _ (by unfold styled; rw [if_pos rfl])⟩
          show _ ≤ _
          have := hlk.out
          rw [List.length_append, List.length_singleton]; omega
        case measure => simp [intOf]; omega
      · have e1 : (st == 1) = false := beq_eq_false_iff_ne.2 hs
        clear hs
        by_cases hs2 : st = 2
        · subst hs2
          have HN : Hid (97 + b % 4 = ((UInt8.ofNat (97 + b % 4).toNat).toNat : Int)) := by show _ = _; rw [UInt8.toNat_ofNat']; omega
          go_wp2_with (at_builtin; refine wpList_pushB (.tmp 31) (.tmp 34) (UInt8.ofNat (97 + b % 4).toNat) rfl rfl rfl rfl W3.out hsz (by omega) HN.out ?_; intro v4 w4 hown4 hb4)
          go_roundw
          case rel =>
            refine ⟨k - 1, _, _, τ3, rfl, rfl, by omega, by omega, ?_, hown4, H3.out.below hb4 hcl fun x hx hp => HA.out x hx hp, O3.out.step hb4, HS.out _ (by unfold styled; rw [if_neg (by decide), if_pos rfl])⟩
            show _ ≤ _
            have := hlk.out
            rw [List.length_append, List.length_singleton]; omega
          case measure => simp [intOf]; omega
        · have e2 : (st == 2) = false := beq_eq_false_iff_ne.2 hs2
          clear hs2
          have HN : Hid (b = ((UInt8.ofNat b.toNat).toNat : Int)) := by show _ = _; rw [UInt8.toNat_ofNat']; omega
          go_wp2_with (at_builtin; refine wpList_pushB (.tmp 31) (.tmp 34) (UInt8.ofNat b.toNat) rfl rfl rfl rfl W3.out hsz (by omega) HN.out ?_; intro v4 w4 hown4 hb4)
          go_roundw
          case rel =>
            refine ⟨k - 1, _, _, τ3, rfl, rfl, by omega, by omega, ?_, hown4, H3.out.below hb4 hcl fun x hx hp => HA.out x hx hp, O3.out.step hb4, HS.out _ (by unfold styled; rw [if_neg (by simpa using e1), if_neg (by simpa using e2)])⟩
            show _ ≤ _
            have := hlk.out
            rw [List.length_append, List.length_singleton]; omega
          case measure => simp [intOf]; omega
    · have hrun := run_own_string hown.out
      go_wp2_with fail
      go_ret
      exact ⟨l, τ, by rw [hTL.out, show k.toNat = 0 by omega]; rfl, rfl, hcur.out, honly.out⟩
end Go.Proofs.YtjdjceohlcimaaaGreatDoor
/- Operations that are passed over because the operation that guards them was passed over. -/
namespace Go.Proofs.YtjdjceohlcimaaaGreatDoor.V
open Go Go.RowKit
set_option linter.unusedVariables false
variable {P : Program} {E : Env} {N nb : Nat} {σ σ' τ : VS} {o : Oper} {a : Act} {w : World} {G : Ghost} {Q : Exit → Act → World → Prop} {K : Act → World → Prop}
abbrev V.no : V := ⟨true, []⟩
theorem vno {G : Ghost} {E : Env} {w : World} {u : Value} : VHolds G σ E w V.no u ↔ u = undef := by
  constructor
  · rintro ⟨uss, h1, h2, -⟩
    match uss, h1 with
    | [], _ => exact h2
  · rintro rfl
    exact ⟨[], rfl, rfl, fun c ag xs us h => by simp at h⟩
theorem yielded_no {ops : Array Oper} {j d : Nat} {oj : Oper} (h : Rel E N σ a w G) (hj : ops[j]? = some oj) (hd : oj.dst = some d) (hdN : d < N) (hv : σ.tm d = V.no) : yielded ops a.tmps j = none := by
  have h1 : a.tmps[d]? = some undef := by
    have h2 := h.tmps d
    rw [hv, vno] at h2
    have h4 : d < a.tmps.size := by rw [h.nsz]; exact hdN
    simp only [Array.getD_eq_getD_getElem?] at h2
    rw [Array.getElem?_eq_getElem h4] at h2 ⊢
    simpa using h2
  simp [yielded, hj, hd, h1, undef]
theorem DW.qNu {l : List Oper} {zs : List Nat} {ps : Pl} {fr : List Nat} {cl : Bool} {i j d d' : Nat} {oj : Oper} {b c : Bool} (ho : nthO l i = some o) (hg : o.guard = some (j, b)) (hj : l.toArray[j]? = some oj) (hd : oj.dst = some d) (hdN : d < N) (hv : σ.tm d = V.one (.sc (.bool c))) (hc : c = !b) (hd' : o.dst = some d') (hdN' : d' < N) (hQ : ∀ c (a : Act) v w, Q (.panic c) (a.put o.dst v) w → Q (.panic c) a w)
    (k : DW E N τ fr cl (σ.put d' V.no) fun ws Gs a w => wpPi P l.toArray Q (SW E τ ws Gs) zs ps a w) : DW E N τ fr cl σ fun ws Gs a w => wpPi P l.toArray Q (SW E τ ws Gs) zs (.q i ps) a w := fun ws Gs a w G hr hl => by
  refine pi_pass ho (fun c a w => hQ c a undef w) ?_ ?_
  · have := yielded_at hr hj hd hdN hv
    cases b <;> simp [Region.wanted, hg, this, hc]
  · rw [hd']
    exact k ws Gs _ w G (hr.put hdN' (vno.2 rfl)) hl.put
theorem DW.qNN {l : List Oper} {zs : List Nat} {ps : Pl} {fr : List Nat} {cl : Bool} {i j d d' : Nat} {oj : Oper} {b : Bool} (ho : nthO l i = some o) (hg : o.guard = some (j, b)) (hj : l.toArray[j]? = some oj) (hd : oj.dst = some d) (hdN : d < N) (hv : σ.tm d = V.no) (hd' : o.dst = some d') (hdN' : d' < N) (hQ : ∀ c (a : Act) v w, Q (.panic c) (a.put o.dst v) w → Q (.panic c) a w)
    (k : DW E N τ fr cl (σ.put d' V.no) fun ws Gs a w => wpPi P l.toArray Q (SW E τ ws Gs) zs ps a w) : DW E N τ fr cl σ fun ws Gs a w => wpPi P l.toArray Q (SW E τ ws Gs) zs (.q i ps) a w := fun ws Gs a w G hr hl => by
  refine pi_pass ho (fun c a w => hQ c a undef w) ?_ ?_
  · have := yielded_no hr hj hd hdN hv
    simp [Region.wanted, hg, this]
  · rw [hd']
    exact k ws Gs _ w G (hr.put hdN' (vno.2 rfl)) hl.put
theorem DW.mNN {l : List Oper} {zs : List Nat} {ps : Pl} {fr : List Nat} {cl : Bool} {i j d d' : Nat} {oj : Oper} {b : Bool} (ho : nthO l i = some o) (hg : o.guard = some (j, b)) (hj : l.toArray[j]? = some oj) (hd : oj.dst = some d) (hdN : d < N) (hv : σ.tm d = V.no) (hd' : o.dst = some d') (hdN' : d' < N)
    (k : DW E N τ fr cl (σ.put d' V.no) fun ws Gs a w => wpPi P l.toArray Q (SW E τ ws Gs) zs ps a w) : DW E N τ fr cl σ fun ws Gs a w => wpPi P l.toArray Q (SW E τ ws Gs) zs (.m i ps) a w := fun ws Gs a w G hr hl => by
  refine pi_step ho fun K hK => ?_
  have hw : Region.wanted o (yielded l.toArray a.tmps) = false := by
    have := yielded_no hr hj hd hdN hv
    simp [Region.wanted, hg, this]
  rw [if_neg (by rw [hw]; simp)]
  refine hK.out _ w hl.same fun _ => ?_
  rw [hd']
  exact k ws Gs _ w G (hr.put hdN' (vno.2 rfl)) hl.put
end Go.Proofs.YtjdjceohlcimaaaGreatDoor.V
/- What the law of a disk's operations draws: told by trees. -/
namespace Go.Proofs.YtjdjceohlcimaaaGreatDoor
open Go Go.RowKit V
set_option linter.unusedVariables false
set_option maxRecDepth 100000 in
set_option maxHeartbeats 2000000 in
theorem vd_sealf {ad : Option Addr} {len cap : Nat} {zs : List Int} : VCI (fun w => Code ad len cap zs w) (fun y : DiskD × Int => goodDisk y.1 ∧ wtDisk y.1 ≤ 3000000) Tryz.prog 8 [(false, [.lit (.slice ad len cap)])] true (fun y => [(true, tDisk y.1), (false, [.lit (.int .i64 y.2)])]) := by
  refine VCI.enter Tryz.func8 rfl Tryz.ntmps8 (gle rfl) fun E hE hC hln => ?_
  refine SV.seq' ?_
  refine SV.region ?_
  refine SV.op (OpMk.ok (ok_alloc (kk := 0) (xs := [.nl _, .sc _]) rfl rfl zero_impl_Disk ⟨rfl, ⟨4, by decide, sz_impl_File⟩, rfl, rfl, trivial⟩ rfl (gle rfl))) rfl ?_
  refine SV.op (OpL.ok (nb := 1) (ok_move (v := V.one (.sc _)) (.inr rfl) rfl) rfl (gle rfl)) rfl ?_
  refine SV.nil ?_
  refine SV.tn ?_
  refine SV.seq' ?_
  refine SV.region ?_
  refine SV.op (OpL.ok (nb := 1) (ok_move (v := V.one (.sc _)) (.inl rfl) rfl) rfl (gle rfl)) rfl ?_
  refine SV.callNew hC (kk := 1) rfl ⟨_, _, Tryz.func25, rfl, by decide⟩ rfl rfl rfl (gle rfl) rfl fun hn1 => ?_
  refine SV.op (OpL.ok (nb := 2) (ok_move (v := V.one (.bp 1 0)) (.inr rfl) rfl) rfl (gle rfl)) rfl ?_
  refine SV.nil ?_
  refine SV.tn ?_
  refine SV.seq' ?_
  refine SV.region ?_
  refine SV.op (OpL.ok (nb := 2) (ok_move (v := V.one (.bp 1 0)) (.inl rfl) rfl) rfl (gle rfl)) rfl ?_
  refine SV.callKI (b := 1) hC rfl ⟨_, _, Tryz.func26, rfl, by decide⟩ (vk_disk) rfl rfl ⟨Int.le_refl 0, Int.natCast_nonneg len⟩ rfl (gle rfl) (fun _ => wanted0 rfl) ?_
  rintro X p2 h2 ⟨hX, hw⟩ hp2
  refine SV.op (OpL.ok (nb := 2) (ok_move (v := V.one (.bp 1 0)) (.inl rfl) rfl) rfl (gle rfl)) rfl ?_
  refine SV.callK (b := 1) hC rfl ⟨_, _, Tryz.func27, rfl, by decide⟩ (vk_below 6 (by decide) (by decide)) rfl ⟨rfl, trivial⟩ rfl hp2 rfl (gle rfl) (fun _ => wanted0 rfl) ?_
  rintro k p3 h3 ⟨hk0, hk1⟩ hp3
  refine SV.op (OpL.ok (nb := 2) (ok_s2 (v := .int .i64 (k - 1)) (x := .tmp 10) (x' := .const ((Value.int IntKind.i64 1))) (VScal.one rfl) (VScal.one rfl) (fun ρ h1 h2 w => by go_simp; rw [IntWalk.i64_left, IntWalk.wrap64_in _ ⟨by omega, by omega⟩]) rfl) rfl (gle rfl)) rfl ?_
  refine SV.op (ok_store_bp (b := 0) (i := 0) (m := 2) (ag := true) (zs := [.nd 0 _ _ none, .sc _]) (ys := [.nd 0 _ _ none, .sc _]) rfl rfl rfl rfl sz_impl_Disk (fun h => by cases h) rfl (gle rfl) rfl rfl rfl) rfl ?_
  refine SV.op (OpL.ok (nb := 2) (ok_move (v := V.one (.sc _)) (.inr rfl) rfl) rfl (gle rfl)) rfl ?_
  refine SV.nil ?_
  refine SV.tn ?_
  refine SV.ret ?_
  apply SV.doneEI (Pr := fun y : DiskD × Int => goodDisk y.1 ∧ wtDisk y.1 ≤ 3000000) (rs := fun y => [(true, tDisk y.1), (false, [.lit (.int .i64 y.2)])]) (y := (X, k - 1)) (hy := ⟨hX, hw⟩) (hln := hln) (hf := Tryz.results8) (ht := rfl) (he := .inl rfl)
  case hr => exact (ResAll.cons (ResOk.cell (b := 0) (ag := true) (xs := [.nd 0 _ _ none, .sc _]) rfl rfl agg_impl_Disk sz_impl_Disk (fun h => by cases h)) (ResAll.cons (ResOk.tmp (ag := false) (xs := [.sc _]) rfl) ResAll.nil'))
  refine ⟨rfl, ⟨?_, ?_, trivial⟩, ⟨rfl, ⟨?_, trivial⟩, trivial⟩⟩ <;> rfl
set_option maxRecDepth 100000 in
set_option maxHeartbeats 2000000 in
theorem vd_delf {ad : Option Addr} {len cap : Nat} {zs : List Int} : VCI (fun w => Code ad len cap zs w) (fun y : DiskD × Int => goodDisk y.1 ∧ wtDisk y.1 ≤ 3000000) Tryz.prog 11 [(false, [.lit (.slice ad len cap)])] true (fun y => [(true, tDisk y.1), (false, [.lit (.int .i64 y.2)])]) := by
  refine VCI.enter Tryz.func11 rfl Tryz.ntmps11 (gle rfl) fun E hE hC hln => ?_
  have hD : E.keeps (fun w => Code ad len cap zs w) := ⟨hC.1, hln, fun w' hb => hC.1.below hb⟩
  refine SV.seq' ?_
  refine SV.region ?_
  refine SV.op (OpMk.ok (ok_alloc (kk := 0) (xs := [.nl _, .sc _]) rfl rfl zero_impl_Disk ⟨rfl, ⟨4, by decide, sz_impl_File⟩, rfl, rfl, trivial⟩ rfl (gle rfl))) rfl ?_
  refine SV.op (OpL.ok (nb := 1) (ok_move (v := V.one (.sc _)) (.inr rfl) rfl) rfl (gle rfl)) rfl ?_
  refine SV.nil ?_
  refine SV.tn ?_
  refine SV.seq' ?_
  refine SV.region ?_
  refine SV.op (OpL.ok (nb := 1) (ok_move (v := V.one (.sc _)) (.inl rfl) rfl) rfl (gle rfl)) rfl ?_
  refine SV.callEI hD rfl ⟨_, _, Tryz.func8, rfl, by decide⟩ (vd_sealf) ⟨⟨[.sc _], rfl, ⟨rfl, trivial⟩⟩, trivial⟩ rfl (gle rfl) rfl ?_
  rintro ⟨X, k⟩ ⟨hX, hw⟩
  refine SV.op (OpL.ok (nb := 1) (ok_extract (ag := true) (xs := [.nd 0 _ _ none, .sc _]) rfl rfl rfl) rfl (gle rfl)) rfl ?_
  refine SV.op (OpL.ok (nb := 1) (ok_extract (ag := false) (xs := [.sc _]) rfl rfl rfl) rfl (gle rfl)) rfl ?_
  refine SV.op (ok_store_bp (b := 0) (i := 0) (m := 2) (ag := true) (zs := [.nd 0 _ _ none, .sc _]) (ys := [.nd 0 _ _ none, .sc _]) rfl rfl rfl rfl sz_impl_Disk (fun h => by cases h) rfl (gle rfl) rfl rfl rfl) rfl ?_
  refine SV.op (OpL.ok (nb := 1) (ok_move (v := V.one (.sc _)) (.inr rfl) rfl) rfl (gle rfl)) rfl ?_
  refine SV.nil ?_
  refine SV.tn ?_
  refine SV.ret ?_
  apply SV.doneEI (Pr := fun y : DiskD × Int => goodDisk y.1 ∧ wtDisk y.1 ≤ 3000000) (rs := fun y => [(true, tDisk y.1), (false, [.lit (.int .i64 y.2)])]) (y := (X, k)) (hy := ⟨hX, hw⟩) (hln := hln) (hf := Tryz.results11) (ht := rfl) (he := .inl rfl)
  case hr => exact (ResAll.cons (ResOk.cell (b := 0) (ag := true) (xs := [.nd 0 _ _ none, .sc _]) rfl rfl agg_impl_Disk sz_impl_Disk (fun h => by cases h)) (ResAll.cons (ResOk.tmp (ag := false) (xs := [.sc _]) rfl) ResAll.nil'))
  refine ⟨rfl, ⟨?_, ?_, trivial⟩, ⟨rfl, ⟨?_, trivial⟩, trivial⟩⟩ <;> rfl
set_option maxRecDepth 100000 in
set_option maxHeartbeats 2000000 in
theorem vd_app {ad : Option Addr} {len cap : Nat} {zs : List Int} : VCI (fun w => Code ad len cap zs w) (fun y : DiskD × Int × List R => (goodDisk y.1 ∧ wtDisk y.1 ≤ 3000000) ∧ y.2.2.length ≤ 5 ∧ ∀ r ∈ y.2.2, r.wf) Tryz.prog 5 [(false, [.lit (.slice ad len cap)])] true (fun y => [(true, tDisk y.1), (false, [.lit (.int .i64 y.2.1)]), (true, tPage y.2.2)]) := by
  refine VCI.enter Tryz.func5 rfl Tryz.ntmps5 (gle rfl) fun E hE hC hln => ?_
  refine SV.seq' ?_
  refine SV.region ?_
  refine SV.op (OpMk.ok (ok_alloc (kk := 0) (xs := [.nl _, .sc _]) rfl rfl zero_impl_Disk ⟨rfl, ⟨4, by decide, sz_impl_File⟩, rfl, rfl, trivial⟩ rfl (gle rfl))) rfl ?_
  refine SV.op (OpL.ok (nb := 1) (ok_move (v := V.one (.sc _)) (.inr rfl) rfl) rfl (gle rfl)) rfl ?_
  refine SV.op (OpMk.ok (ok_alloc (kk := 1) (xs := [.nl _]) rfl rfl zero_impl_Page ⟨rfl, ⟨3, by decide, sz_impl_Row⟩, trivial⟩ rfl (gle rfl))) rfl ?_
  refine SV.nil ?_
  refine SV.tn ?_
  refine SV.seq' ?_
  refine SV.region ?_
  refine SV.op (OpL.ok (nb := 2) (ok_move (v := V.one (.sc _)) (.inl rfl) rfl) rfl (gle rfl)) rfl ?_
  refine SV.callNew hC (kk := 2) rfl ⟨_, _, Tryz.func25, rfl, by decide⟩ rfl rfl rfl (gle rfl) rfl fun hn1 => ?_
  refine SV.op (OpL.ok (nb := 3) (ok_move (v := V.one (.bp 2 0)) (.inr rfl) rfl) rfl (gle rfl)) rfl ?_
  refine SV.nil ?_
  refine SV.tn ?_
  refine SV.seq' ?_
  refine SV.region ?_
  refine SV.op (OpL.ok (nb := 3) (ok_move (v := V.one (.bp 2 0)) (.inl rfl) rfl) rfl (gle rfl)) rfl ?_
  refine SV.callKI (b := 2) hC rfl ⟨_, _, Tryz.func26, rfl, by decide⟩ (vk_disk) rfl rfl ⟨Int.le_refl 0, Int.natCast_nonneg len⟩ rfl (gle rfl) (fun _ => wanted0 rfl) ?_
  rintro X p2 h2 ⟨hX, hw⟩ hp2
  refine SV.op (OpMk.ok (ok_alloc (kk := 3) (xs := [.nl _, .sc _]) rfl rfl zero_impl_Disk ⟨rfl, ⟨4, by decide, sz_impl_File⟩, rfl, rfl, trivial⟩ rfl (gle rfl))) rfl ?_
  refine SV.op (ok_store_bp (b := 3) (i := 0) (m := 2) (ag := true) (zs := [.nd 0 _ _ none, .sc _]) (ys := [.nd 0 _ _ none, .sc _]) rfl rfl rfl rfl sz_impl_Disk (fun h => by cases h) rfl (gle rfl) rfl rfl rfl) rfl ?_
  refine SV.nil ?_
  refine SV.tn ?_
  refine SV.seq' ?_
  refine SV.drawC [0, 2] [.q 0, .q 1, .q 4, .m 2, .q 3, .m 5, .q 6, .m 7, .q 8] [9] (by kernel_rfl) (by kernel_rfl) ?_
  refine DC.lb (b := 3) (i' := 0) (ag := true) (m := 2) (ys := [.nd 0 _ _ none, .sc _]) rfl rfl rfl rfl agg_impl_Disk sz_impl_Disk (fun h => by cases h) rfl rfl (gle rfl) (by decide) rfl rfl (gle rfl) (fun _ _ _ _ h => h) ?_
  refine DC.q rfl (ok_move (v := V.one (.bp 2 0)) (.inl rfl) rfl) rfl rfl (gle rfl) (fun _ _ _ _ h => h) ?_
  refine DC.q rfl (ok_move (v := V.one (.bp 2 0)) (.inl rfl) rfl) rfl rfl (gle rfl) (fun _ _ _ _ h => h) ?_
  refine DC.mK (b := 2) hC rfl rfl ⟨_, _, Tryz.func27, rfl, by decide⟩ (vk_below 6 (by decide) (by decide)) rfl ⟨rfl, trivial⟩ rfl (by decide) (gle rfl) hp2 rfl (gle rfl) rfl ?_
  rintro k p3 h3 ⟨hk0, hk1⟩ hp3
  refine DC.q rfl (ok_s2 (v := .int .i64 (k - 1)) (x := .tmp 13) (x' := .const ((Value.int IntKind.i64 1))) (VScal.one rfl) (VScal.one rfl) (fun ρ h1 h2 w => by go_simp; rw [IntWalk.i64_left, IntWalk.wrap64_in _ ⟨by omega, by omega⟩]) rfl) rfl rfl (gle rfl) (fun _ _ _ _ h => h) ?_
  refine DC.mK (b := 2) hC rfl rfl ⟨_, _, Tryz.func28, rfl, by decide⟩ (vk_bent 4 (by decide) (by decide)) rfl ⟨rfl, trivial⟩ rfl (by decide) (gle rfl) hp3 rfl (gle rfl) rfl ?_
  rintro A p4 h4 ⟨hA, hwA⟩ hp4
  refine DC.q rfl (ok_build (zs := [.nl _]) (ys := [.hd 1]) (qs := [(0, [.hd 1])]) (pl := fun i => ([(0, 1)] : List (Nat × Nat))[i]?) rfl zero_impl_Page ⟨rfl, ⟨3, by decide, sz_impl_Row⟩, trivial⟩ ⟨⟨rfl, false, rfl, (fun _ => rfl), rfl⟩, trivial⟩ bld_impl_Page rfl) rfl rfl (gle rfl) (fun _ _ _ _ h => h) ?_
  refine DC.store (b := 0) (i' := 0) (m := 2) (ag := true) (zs1 := [.nd 0 _ _ none, .sc _]) (ys := [.nd 0 _ _ none, .sc _]) rfl rfl rfl rfl sz_impl_Disk (fun h => by cases h) rfl (gle rfl) rfl rfl rfl rfl (by decide) (gle rfl) rfl ?_
  refine DC.q rfl (ok_move (v := V.one (.sc _)) (.inr rfl) rfl) rfl rfl (gle rfl) (fun _ _ _ _ h => h) ?_
  refine DC.stores ?_
  refine SV.z rfl (ok_store_bp (b := 1) (i := 0) (m := 1) (ag := true) (zs := [.hd 1]) (ys := [.hd 1]) rfl rfl rfl rfl sz_impl_Page (fun h => by cases h) rfl (gle rfl) rfl rfl rfl) rfl ?_
  refine SV.zend ?_
  refine SV.tn ?_
  refine SV.ret ?_
  apply SV.doneEI (Pr := fun y : DiskD × Int × List R => (goodDisk y.1 ∧ wtDisk y.1 ≤ 3000000) ∧ y.2.2.length ≤ 5 ∧ ∀ r ∈ y.2.2, r.wf) (rs := fun y => [(true, tDisk y.1), (false, [.lit (.int .i64 y.2.1)]), (true, tPage y.2.2)]) (y := (X, k - 1, A)) (hy := ⟨⟨hX, hw⟩, by show A.length ≤ 5; omega, hwA⟩) (hln := hln) (hf := Tryz.results5) (ht := rfl) (he := .inl rfl)
  case hr => exact (ResAll.cons (ResOk.cell (b := 0) (ag := true) (xs := [.nd 0 _ _ none, .sc _]) rfl rfl agg_impl_Disk sz_impl_Disk (fun h => by cases h)) (ResAll.cons (ResOk.tmp (ag := false) (xs := [.sc _]) rfl) (ResAll.cons (ResOk.cell (b := 1) (ag := true) (xs := [.hd 1]) rfl rfl agg_impl_Page sz_impl_Page (fun h => by cases h)) ResAll.nil')))
  refine ⟨rfl, ⟨?_, ?_, trivial⟩, ⟨rfl, ⟨?_, trivial⟩, ⟨rfl, ⟨?_, trivial⟩, trivial⟩⟩⟩ <;> rfl
set_option maxRecDepth 100000 in
set_option maxHeartbeats 2000000 in
theorem vd_eqd {ad : Option Addr} {len cap : Nat} {zs : List Int} : VCI (fun w => Code ad len cap zs w) (fun y : DiskD × DiskD => (goodDisk y.1 ∧ wtDisk y.1 ≤ 3000000) ∧ goodDisk y.2 ∧ wtDisk y.2 ≤ 3000000) Tryz.prog 14 [(false, [.lit (.slice ad len cap)])] true (fun y => [(true, tDisk y.1), (true, tDisk y.2)]) := by
  refine VCI.enter Tryz.func14 rfl Tryz.ntmps14 (gle rfl) fun E hE hC hln => ?_
  refine SV.seq' ?_
  refine SV.region ?_
  refine SV.op (OpMk.ok (ok_alloc (kk := 0) (xs := [.nl _, .sc _]) rfl rfl zero_impl_Disk ⟨rfl, ⟨4, by decide, sz_impl_File⟩, rfl, rfl, trivial⟩ rfl (gle rfl))) rfl ?_
  refine SV.op (OpMk.ok (ok_alloc (kk := 1) (xs := [.nl _, .sc _]) rfl rfl zero_impl_Disk ⟨rfl, ⟨4, by decide, sz_impl_File⟩, rfl, rfl, trivial⟩ rfl (gle rfl))) rfl ?_
  refine SV.nil ?_
  refine SV.tn ?_
  refine SV.seq' ?_
  refine SV.region ?_
  refine SV.op (OpL.ok (nb := 2) (ok_move (v := V.one (.sc _)) (.inl rfl) rfl) rfl (gle rfl)) rfl ?_
  refine SV.callNew hC (kk := 2) rfl ⟨_, _, Tryz.func25, rfl, by decide⟩ rfl rfl rfl (gle rfl) rfl fun hn1 => ?_
  refine SV.op (OpL.ok (nb := 3) (ok_move (v := V.one (.bp 2 0)) (.inr rfl) rfl) rfl (gle rfl)) rfl ?_
  refine SV.nil ?_
  refine SV.tn ?_
  refine SV.seq' ?_
  refine SV.region ?_
  refine SV.op (OpL.ok (nb := 3) (ok_move (v := V.one (.bp 2 0)) (.inl rfl) rfl) rfl (gle rfl)) rfl ?_
  refine SV.callKI (b := 2) hC rfl ⟨_, _, Tryz.func26, rfl, by decide⟩ (vk_disk) rfl rfl ⟨Int.le_refl 0, Int.natCast_nonneg len⟩ rfl (gle rfl) (fun _ => wanted0 rfl) ?_
  rintro X p2 h2 ⟨hX, hw⟩ hp2
  refine SV.op (OpMk.ok (ok_alloc (kk := 3) (xs := [.nl _, .sc _]) rfl rfl zero_impl_Disk ⟨rfl, ⟨4, by decide, sz_impl_File⟩, rfl, rfl, trivial⟩ rfl (gle rfl))) rfl ?_
  refine SV.op (ok_store_bp (b := 3) (i := 0) (m := 2) (ag := true) (zs := [.nd 0 _ _ none, .sc _]) (ys := [.nd 0 _ _ none, .sc _]) rfl rfl rfl rfl sz_impl_Disk (fun h => by cases h) rfl (gle rfl) rfl rfl rfl) rfl ?_
  refine SV.nil ?_
  refine SV.tn ?_
  refine SV.seq' ?_
  refine SV.seq' ?_
  refine SV.region ?_
  refine SV.op (OpL.ok (nb := 4) (ok_move (v := V.one (.bp 2 0)) (.inl rfl) rfl) rfl (gle rfl)) rfl ?_
  refine SV.callK (b := 2) hC rfl ⟨_, _, Tryz.func42, rfl, by decide⟩ (vk_once 2 (by decide) (by decide)) rfl ⟨rfl, trivial⟩ rfl hp2 rfl (gle rfl) (fun _ => wanted0 rfl) ?_
  rintro o0 p3 h3 - hp3
  refine SV.nil ?_
  refine SV.tn ?_
  refine SV.cond rfl (fun hc0 => ?_) (fun hc0 => ?_)
  · skip   -- c0.T
    refine SV.seq' ?_
    refine SV.drawC [2] [.q 0, .q 1, .m 2] [3, 4] (by kernel_rfl) (by kernel_rfl) ?_
    refine DC.lb (b := 3) (i' := 0) (ag := true) (m := 2) (ys := [.nd 0 _ _ none, .sc _]) rfl rfl rfl rfl agg_impl_Disk sz_impl_Disk (fun h => by cases h) rfl rfl (gle rfl) (by decide) rfl rfl (gle rfl) (fun _ _ _ _ h => h) ?_
    refine DC.q rfl (ok_move (v := V.one (.bp 2 0)) (.inl rfl) rfl) rfl rfl (gle rfl) (fun _ _ _ _ h => h) ?_
    refine DC.mKI (b := 2) hC rfl rfl ⟨_, _, Tryz.func26, rfl, by decide⟩ (vk_disk) rfl rfl (by decide) (gle rfl) hp3 rfl (gle rfl) rfl ?_
    rintro Y p4 h4 ⟨hY, hwY⟩ hp4
    refine DC.stores ?_
    refine SV.z rfl (ok_store_bp (b := 0) (i := 0) (m := 2) (ag := true) (zs := [.nd 0 _ _ none, .sc _]) (ys := [.nd 0 _ _ none, .sc _]) rfl rfl rfl rfl sz_impl_Disk (fun h => by cases h) rfl (gle rfl) rfl rfl rfl) rfl ?_
    refine SV.z rfl (ok_store_bp (b := 1) (i := 0) (m := 2) (ag := true) (zs := [.nd 1 _ _ none, .sc _]) (ys := [.nd 1 _ _ none, .sc _]) rfl rfl rfl rfl sz_impl_Disk (fun h => by cases h) rfl (gle rfl) rfl rfl rfl) rfl ?_
    refine SV.zend ?_
    refine SV.tn ?_
    refine SV.ret ?_
    refine SV.tr ?_
    apply SV.doneEI (Pr := fun y : DiskD × DiskD => (goodDisk y.1 ∧ wtDisk y.1 ≤ 3000000) ∧ goodDisk y.2 ∧ wtDisk y.2 ≤ 3000000) (rs := fun y => [(true, tDisk y.1), (true, tDisk y.2)]) (y := (X, Y)) (hy := ⟨⟨hX, hw⟩, hY, hwY⟩) (hln := hln) (hf := Tryz.results14) (ht := rfl) (he := .inl rfl)
    case hr => exact (ResAll.cons (ResOk.cell (b := 0) (ag := true) (xs := [.nd 0 _ _ none, .sc _]) rfl rfl agg_impl_Disk sz_impl_Disk (fun h => by cases h)) (ResAll.cons (ResOk.cell (b := 1) (ag := true) (xs := [.nd 1 _ _ none, .sc _]) rfl rfl agg_impl_Disk sz_impl_Disk (fun h => by cases h)) ResAll.nil'))
    refine ⟨rfl, ⟨?_, ?_, trivial⟩, ⟨rfl, ⟨?_, ?_, trivial⟩, trivial⟩⟩ <;> rfl
  · skip   -- c0.F
    refine SV.skip ?_
    refine SV.tn ?_
    refine SV.seq' ?_
    refine SV.draw [.q 0, .q 1, .m 2] [3, 4] (by kernel_rfl) (by kernel_rfl) ?_
    refine DW.q rfl (ok_load_bp (b := 3) (i := 0) (ag := true) (m := 2) (ys := [.nd 0 _ _ none, .sc _]) rfl rfl rfl agg_impl_Disk sz_impl_Disk (fun h => by cases h) rfl rfl (gle rfl)) rfl rfl (gle rfl) (fun _ _ _ _ h => h) ?_
    refine DW.q rfl (ok_load_bp (b := 3) (i := 0) (ag := true) (m := 2) (ys := [.nd 0 _ _ none, .sc _]) rfl rfl rfl agg_impl_Disk sz_impl_Disk (fun h => by cases h) rfl rfl (gle rfl)) rfl rfl (gle rfl) (fun _ _ _ _ h => h) ?_
    refine DW.m [1] rfl (ok_call (ls := [(true, [.hd 1, .sc _])]) rfl rfl ⟨_, _, Tryz.func33, rfl, by decide⟩ (vcopy_s X (by omega)) ⟨⟨[.nd 0 _ _ none, .sc _], rfl, ⟨rfl, rfl, trivial⟩⟩, trivial⟩ rfl (gle rfl)) rfl (gle rfl) (gle rfl) (.inl rfl) (fun j hj => by
        simp only [List.mem_cons, List.not_mem_nil, or_false] at hj
        rcases hj with rfl
        · exact .inr ⟨(gle rfl), (gle rfl), .inl rfl⟩) ?_
    refine DW.stores ?_
    refine SV.z rfl (ok_store_bp (b := 0) (i := 0) (m := 2) (ag := true) (zs := [.nd 0 _ _ none, .sc _]) (ys := [.nd 0 _ _ none, .sc _]) rfl rfl rfl rfl sz_impl_Disk (fun h => by cases h) rfl (gle rfl) rfl rfl rfl) rfl ?_
    refine SV.z rfl (ok_store_bp (b := 1) (i := 0) (m := 2) (ag := true) (zs := [.hd 1, .sc _]) (ys := [.hd 1, .sc _]) rfl rfl rfl rfl sz_impl_Disk (fun h => by cases h) rfl (gle rfl) rfl rfl rfl) rfl ?_
    refine SV.zend ?_
    refine SV.tn ?_
    refine SV.ret ?_
    apply SV.doneEI (Pr := fun y : DiskD × DiskD => (goodDisk y.1 ∧ wtDisk y.1 ≤ 3000000) ∧ goodDisk y.2 ∧ wtDisk y.2 ≤ 3000000) (rs := fun y => [(true, tDisk y.1), (true, tDisk y.2)]) (y := (X, X)) (hy := ⟨⟨hX, hw⟩, hX, hw⟩) (hln := hln) (hf := Tryz.results14) (ht := rfl) (he := .inl rfl)
    case hr => exact (ResAll.cons (ResOk.cell (b := 0) (ag := true) (xs := [.nd 0 _ _ none, .sc _]) rfl rfl agg_impl_Disk sz_impl_Disk (fun h => by cases h)) (ResAll.cons (ResOk.cell (b := 1) (ag := true) (xs := [.hd 1, .sc _]) rfl rfl agg_impl_Disk sz_impl_Disk (fun h => by cases h)) ResAll.nil'))
    refine ⟨rfl, ⟨?_, ?_, trivial⟩, ⟨rfl, ⟨?_, ?_, trivial⟩, trivial⟩⟩ <;> rfl
theorem vk_text (n : Int) (h1 : 0 ≤ n) (h2 : n ≤ 1000) {ad : Option Addr} {len cap : Nat} {zs : List Int} : VK ad len cap zs (fun l : List UInt8 => (l.length : Int) ≤ n) Tryz.prog 46 [.int .i64 n] false fun l => [(false, [.lit (.string ⟨l.toArray⟩)])] := fun w c σ hC hc =>
  (text_any ad len cap zs σ c w hc hC.old n h1 h2).mono fun e w' ⟨l, τ, hf, he, hc', ho⟩ => ⟨l, τ, by have := textS_length zs len n σ h1; rwa [hf] at this, hc', by rw [he]; exact givesC_lit rfl ho⟩
set_option maxRecDepth 100000 in
set_option maxHeartbeats 2000000 in
theorem vd_ck {ad : Option Addr} {len cap : Nat} {zs : List Int} : VCE (fun w => Code ad len cap zs w) (fun l : List UInt8 => l.length ≤ 8) Tryz.prog 17 [(false, [.lit (.slice ad len cap)])] false (fun l => [(false, [.lit (.string ⟨l.toArray⟩)])]) := by
  refine VCE.enter Tryz.func17 rfl Tryz.ntmps17 (gle rfl) fun E hE hC => ?_
  refine SV.seq' ?_
  refine SV.region ?_
  refine SV.op (OpL.ok (nb := 0) (ok_move (v := V.one (.sc _)) (.inr rfl) rfl) rfl (gle rfl)) rfl ?_
  refine SV.nil ?_
  refine SV.tn ?_
  refine SV.seq' ?_
  refine SV.region ?_
  refine SV.op (OpL.ok (nb := 0) (ok_move (v := V.one (.sc _)) (.inl rfl) rfl) rfl (gle rfl)) rfl ?_
  refine SV.callNew hC (kk := 0) rfl ⟨_, _, Tryz.func25, rfl, by decide⟩ rfl rfl rfl (gle rfl) rfl fun hn1 => ?_
  refine SV.callK (b := 0) hC rfl ⟨_, _, Tryz.func46, rfl, by decide⟩ (vk_text 8 (by decide) (by decide)) rfl ⟨rfl, trivial⟩ rfl ⟨Int.le_refl 0, Int.natCast_nonneg len⟩ rfl (gle rfl) (fun _ => wanted0 rfl) ?_
  rintro l p2 h2 hl hp2
  refine SV.op (OpL.ok (nb := 1) (ok_move (v := V.one (.sc _)) (.inr rfl) rfl) rfl (gle rfl)) rfl ?_
  refine SV.nil ?_
  refine SV.tn ?_
  refine SV.ret ?_
  apply SV.doneE (Pr := fun l : List UInt8 => l.length ≤ 8) (rs := fun l => [(false, [.lit (.string ⟨l.toArray⟩)])]) (y := l) (hy := by omega) (hf := Tryz.results17) (ht := rfl) (he := .inl rfl)
  case hr => exact (ResAll.cons (ResOk.tmp (ag := false) (xs := [.sc _]) rfl) ResAll.nil')
  case h2 => simp [two]
  refine ⟨rfl, ⟨?_, trivial⟩, trivial⟩ <;> rfl
end Go.Proofs.YtjdjceohlcimaaaGreatDoor
/- Disks as plain mathematics: the pages behind an append, and what is read of a disk; no function of program or reference is walked here. -/
namespace Go.Proofs.YtjdjceohlcimaaaGreatDoor
open Go Go.RowKit V
set_option linter.unusedVariables false
namespace DiskD
theorem sum_set : ∀ (l : List Nat) (k x : Nat), l[k]? = some x → (l.set k (x + 1)).sum = l.sum + 1
  | [], k, x, h => by simp at h
  | y :: l, 0, x, h => by simp at h; subst h; simp; omega
  | y :: l, k + 1, x, h => by
    have := sum_set l k x (by simpa using h)
    simp only [List.set_cons_succ, List.sum_cons, this]
    omega
theorem count_one {F : List FileD} {k : Nat} {f g : FileD} (h : F[k]? = some f) (hg : g.fPages.length = f.fPages.length + 1) : count (F.set k g) = count F + 1 := by
  unfold count
  rw [List.map_set, hg]
  exact sum_set _ k _ (by rw [List.getElem?_map, h]; rfl)
theorem app_facts {X Y : DiskD} {name : Int} {p : List R} (h : appendTo X name p = some Y) : count Y.fFiles = count X.fFiles + 1 ∧ count Y.fFiles ≤ 40 ∧ okD Y = true := by
  have ho := Ok.appendTo h
  refine ⟨?_, ho.few, ho.yes⟩
  cases hfi : file X name with
  | none => rw [appendTo_none hfi] at h; cases h
  | some kf =>
    obtain ⟨k, f⟩ := kf
    rw [appendTo_eq hfi] at h
    split at h
    · cases h
      exact count_one (file_get hfi) (by rw [List.length_append]; rfl)
    · cases h
theorem read_good {X : DiskD} {name : Int} (hX : goodDisk X) : ∀ r ∈ (read X name).getD [], r.wf := by
  unfold read
  cases hfi : file X name with
  | none => intro r hr; cases hr
  | some kf =>
    obtain ⟨k, f⟩ := kf
    have hf := hX.1 f (get_mem (file_get hfi))
    intro r hr
    change r ∈ (if f.whole = true then some f.fPages.flatten else none).getD [] at hr
    split at hr
    · obtain ⟨q, hq, hr⟩ := List.mem_flatten.1 hr
      exact hf.2.1 q hq r hr
    · cases hr
theorem read_len {X : DiskD} {name : Int} (hw : wtDisk X ≤ 1000000000) : ((read X name).getD []).length ≤ 1000000000 := by
  unfold read
  cases hfi : file X name with
  | none => exact Nat.zero_le _
  | some kf =>
    obtain ⟨k, f⟩ := kf
    show ((if f.whole = true then some f.fPages.flatten else none).getD []).length ≤ _
    split
    · have h0 := file_get hfi
      have hk : k < X.fFiles.length := by
        rcases Nat.lt_or_ge k X.fFiles.length with h | h
        · exact h
        · rw [List.getElem?_eq_none h] at h0; cases h0
      have h1 := flat_wt f.fPages
      have h2 := wt_file_at X.fFiles k hk
      have h3 : X.fFiles[k] = f := by rw [List.getElem?_eq_getElem hk] at h0; exact Option.some.inj h0
      rw [h3] at h2
      have h4 : wtFile f = wtPages f.fPages := rfl
      have h5 : wtDisk X = wtFiles X.fFiles := rfl
      show f.fPages.flatten.length ≤ _
      omega
    · exact Nat.zero_le _
end DiskD
end Go.Proofs.YtjdjceohlcimaaaGreatDoor
/- The reference's UnpackPages, by contract. -/
namespace Go.Proofs.YtjdjceohlcimaaaGreatDoor
open Go.RowKit
set_option maxRecDepth 100000 in
theorem sunpack (a : Option Addr) (n c : Nat) (P : List (List R)) (w : World) (h : SeqIn pageRep w a n P) (hn : n ≤ 1000000000) (hf : P.flatten.length ≤ 10000000000) :
    Calls Tryz.prog 45 #[.slice a n c] w fun e w' => ∃ v, e = .returned v ∧ Mine w' w.heap.size v P.flatten ∧ Below w.heap.size w w' := by
  have HL := Lib.hid h.1
  have HI := Lib.hid h
  obtain ⟨N, hN⟩ : ∃ N, N = P.flatten.length := ⟨_, rfl⟩
  rw [← hN] at hf
  have HN := Lib.hid hN
  have M0 := Lib.hid (mine_zero w w.heap.size (Nat.le_refl _))
  have B0 := Lib.hid ((Below.refl w.heap.size w).alloc (Nat.le_refl _) (.cells #[] 72))
  clear h hN
  go_enter Tryz.func45, Tryz.ntmps45
  go_wp2_with fail
  go_loopw [3, 4] (fun v i wr => ∃ (t : Nat) (y : Value), y = v ∧ i = .int .i64 t ∧ t ≤ n ∧ Hid (Mine wr w.heap.size y (P.take t).flatten) ∧ Hid (Below w.heap.size w wr)) (fun _ i _ => n - (intOf i).toNat)
  case atStart => exact ⟨0, _, rfl, rfl, Nat.zero_le _, (show Mine _ _ _ (P.take 0).flatten from M0.out), B0⟩
  case round =>
    obtain ⟨t, y, rfl, rfl, ht, hm, hb⟩ := hrel
    by_cases hlt : t < n
    · have htl : t < P.length := by have := HL.out; omega
      have hp : P[t]? = some P[t] := by simp [htl]
      obtain ⟨b, o, d, k, m, rfl, hbl, hcell, hin, hcap⟩ := (HI.out.keep hb.out).at hp
      have hnx := flat_next P t htl
      have hle := flat_take P (t + 1)
      rw [← HN.out] at hle
      have hpl : P[t].length = k := hin.1
      have hfl : (P.take (t + 1)).flatten = (P.take t).flatten ++ P[t] := by rw [List.take_succ_eq_append_getElem htl, List.flatten_append, List.flatten_cons, List.flatten_nil, List.append_nil]
      have HFL := Lib.hid hfl
      have hsz : w.heap.size ≤ wr.heap.size := hb.out.size
      have IN := Lib.hid (rows_in hin)
      clear hfl hin hp
      have hln : (P.take t).flatten.length + k ≤ 1000000000000 := by omega
      have HLN := Lib.hid hln
      clear hln hnx hle
      cases d with
      | none =>
        have hm0 := hcap rfl
        subst hm0
        have hk0 : k = 0 := by
          obtain ⟨-, -, h0 | ⟨b', o', e, -⟩⟩ := IN.out
          · exact h0
          · cases e
        subst hk0
        have hpe : P[t] = [] := List.eq_nil_of_length_eq_zero hpl
        obtain ⟨i0, hi, hz0, hz1, hz2⟩ := info_parts rowInfo
        have HPE := Lib.hid hpe
        clear hpl hpe
        go_wp2_with (at_builtin; refine wpList_append_own_none rfl (.tmp 12) (.tmp 17) 27 rfl w.heap.size 72 i0 3 Tryz.underlying27 hi y (P.take t).flatten.length (cells3 (P.take t).flatten) rfl hm.out rfl ?_)
        go_roundw
        case rel => exact ⟨t + 1, _, rfl, by go_num, by omega, (by show Mine _ _ _ _; rw [HFL.out, HPE.out, List.append_nil]; exact hm.out), hb⟩
        case measure => simp [intOf]; omega
      | some ad =>
        obtain ⟨ad', had, hc⟩ := IN.out.cell
        have hcc : ∀ j u, (cells3 P[t])[j]? = some u → wr.cell? (ad.add j) = some u := by
          rcases Nat.eq_zero_or_pos k with h0 | h0
          · intro j u hj
            have : P[t] = [] := List.eq_nil_of_length_eq_zero (by omega)
            rw [this] at hj
            simp [cells3] at hj
          · have := had h0
            injection this with this
            rw [this]
            exact hc
        have HCC := Lib.hid hcc
        have HPL := Lib.hid hpl
        clear hcc hc had hpl
        go_wp2_with (at_builtin; refine wpList_appendR (.tmp 12) (.tmp 17) ad k m rfl rfl rfl rfl hm.out HPL.out HCC.out hsz HLN.out ?_; intro v6 w6 hm6 hg6 hn6)
        have B6 := Lib.hid (hb.out.grown hg6 hsz hm.out.own')
        rw [← HFL.out] at hm6
        have M6 := Lib.hid hm6
        clear hm6 hg6 hn6
        go_roundw
        case rel => exact ⟨t + 1, _, rfl, by go_num, by omega, M6, B6⟩
        case measure => simp [intOf]; omega
    · have hkl : t = n := by omega
      have hfin : Mine wr w.heap.size y P.flatten := by
        have := hm.out
        rw [hkl, List.take_of_length_le (by have := HL.out; omega)] at this
        exact this
      have HF := Lib.hid hfin
      clear hfin hkl
      go_wp2_with fail
      go_ret
      exact ⟨_, rfl, HF.out, hb.out⟩
end Go.Proofs.YtjdjceohlcimaaaGreatDoor
