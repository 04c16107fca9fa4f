/- Texts joined: Vault Freeze AcctD VNo AcctN. -/
import Derived.Test.YtjdjceohlcimaaaPartAccountingf
/- States told by trees: answers that may only be read (their parts may lie in each other): what is handed out so lies in a vault, an object that nobody writes. -/
namespace Go.Proofs.Ytjdjceohlcimaaa.V
open Go Go.RowKit
set_option linter.unusedVariables false
variable {P : Program} {E : Env} {N nb : Nat} {σ σ' τ : VS} {o : Oper} {a : Act} {w : World} {G : Ghost} {Q : Exit → Act → World → Prop} {K : Act → World → Prop} {ad : Option Addr} {len cap : Nat} {zs : List Int}
/-- A leaf of what lies in the vault i. -/
def inLeaf (i : Nat) : T → Leaf
  | .lit u => .sc u
  | .any => .dead
  | .seq ty es => .nd i 0 (.seq ty es) none
def inLs (i : Nat) (rs : List (Bool × List T)) : List (Bool × List Leaf) := rs.map fun r => (r.1, r.2.map (inLeaf i))
/-- The answer may be read as these trees, out of these blocks. -/
def GivesI (ok : Nat → Prop) (tup : Bool) (rs : List (Bool × List T)) (e : Ending) (w' : World) : Prop :=
  ∃ uss : List (List Value), uss.length = rs.length ∧ e = .returned (vval tup (List.zipWith (fun r us => cval r.1 us) rs uss)) ∧
    ∀ (c : Nat) (ag : Bool) (ts : List T) (us : List Value), rs[c]? = some (ag, ts) → uss[c]? = some us → us.length = ts.length ∧ ∀ (j : Nat) (t : T) (u : Value), ts[j]? = some t → us[j]? = some u → Inn ok w' t u
def Newly (w w' : World) (b : Nat) : Prop := w.heap.size ≤ b ∧ b < w'.heap.size
/-- A function that is handed a cursor, whose answer may be read. -/
def VKI {Y : Type} (ad : Option Addr) (len cap : Nat) (zs : List Int) (Pr : Y → Prop) (P : Program) (f : FuncId) (xs : List Value) (tup : Bool) (rs : Y → List (Bool × List T)) : Prop :=
  ∀ (w : World) (c : Nat) (σ : Int × Int), Code ad len cap zs w → Cur ad len cap zs σ w c → Calls P f (Value.pointer (some ⟨c, 0, none⟩) :: xs).toArray w fun e w' => ∃ y τ, Pr y ∧ Cur ad len cap zs τ w' c ∧ GivesI (Newly w w') tup (rs y) e w' ∧ Only c w w'
def VCI {Y : Type} (Φ : World → Prop) (Pr : Y → Prop) (P : Program) (f : FuncId) (ins : List (Bool × List T)) (tup : Bool) (rs : Y → List (Bool × List T)) : Prop := ∀ (w : World), Φ w → ∀ (vs : List Value), ArgsIn (Env.of w) w ins vs → Calls P f vs.toArray w fun e w' => ∃ y, Pr y ∧ GivesI (Newly w w') tup (rs y) e w' ∧ Below w.heap.size w w'
/-- What an answer that may be read holds. -/
theorem vault_holds {i : Nat} {F : Nat → Prop} {t0 : T} (hft : G.ft i = F) (hi : i < σ.nx) (hob : σ.ob i = some (0, t0)) {tup : Bool} {rs : List (Bool × List T)} {uss : List (List Value)} (hl : uss.length = rs.length)
    (h : ∀ (c : Nat) (ag : Bool) (ts : List T) (us : List Value), rs[c]? = some (ag, ts) → uss[c]? = some us → us.length = ts.length ∧ ∀ (j : Nat) (t : T) (u : Value), ts[j]? = some t → us[j]? = some u → Inn F w t u) : VHolds G σ E w ⟨tup, inLs i rs⟩ (vval tup (List.zipWith (fun r us => cval r.1 us) rs uss)) := by
  refine ⟨uss, by simp [inLs, hl], by simp [inLs, List.zipWith_map_left], fun c ag xs us hc hu => ?_⟩
  have hc' : (rs.map fun r => (r.1, r.2.map (inLeaf i)))[c]? = some (ag, xs) := hc
  rw [List.getElem?_map] at hc'
  obtain ⟨⟨ag', ts⟩, hq, hq'⟩ := Option.map_eq_some_iff.1 hc'
  cases hq'
  obtain ⟨h1, h2⟩ := h c ag' ts us hq hu
  refine ⟨by simp [h1], fun j x u hx hu' => ?_⟩
  rw [List.getElem?_map] at hx
  obtain ⟨t, ht, rfl⟩ := Option.map_eq_some_iff.1 hx
  have hin := h2 j t u ht hu'
  cases t with
  | any => exact ⟨trivial, .inl rfl⟩
  | lit v =>
    cases hin with
    | lit hv => exact ⟨rfl, .inr hv⟩
  | seq ty es =>
    refine ⟨⟨hi, fun v t' hv => Nat.zero_le _, fun _ => ⟨by rw [hft]; exact hin, fun k o e => by cases e⟩⟩, .inr hin.one⟩
/-! ### Answers -/
def VS.may (σ : VS) : Leaf → Option T
  | .sc u => some (.lit u)
  | .nl ty => some (.seq ty [])
  | .hd i => (σ.ob i).map (·.2)
  | .nd i ver t _ => (σ.ob i).bind fun p => bif Nat.beq p.1 ver then some t else none
  | _ => none
def VS.mays (σ : VS) : List Leaf → List T → Prop
  | [], [] => True
  | x :: xs, t :: ts => σ.may x = some t ∧ σ.mays xs ts
  | _, _ => False
def VS.mayss (σ : VS) : List (Bool × List Leaf) → List (Bool × List T) → Prop
  | [], [] => True
  | p :: ps, q :: qs => p.1 = q.1 ∧ σ.mays p.2 q.2 ∧ σ.mayss ps qs
  | _, _ => False
theorem mays_get {σ : VS} : ∀ {xs : List Leaf} {ts : List T}, σ.mays xs ts → xs.length = ts.length ∧ ∀ (j : Nat) (t : T), ts[j]? = some t → ∃ x, xs[j]? = some x ∧ σ.may x = some t
  | [], [], _ => ⟨rfl, fun j t h => by simp at h⟩
  | x :: xs, t :: ts, h => by
    obtain ⟨h1, h2⟩ := mays_get h.2
    refine ⟨by simp [h1], fun j y hj => ?_⟩
    cases j with
    | zero => cases hj; exact ⟨x, rfl, h.1⟩
    | succ j => exact h2 j y (by simpa using hj)
theorem mayss_get {σ : VS} : ∀ {ps : List (Bool × List Leaf)} {qs : List (Bool × List T)}, σ.mayss ps qs → ps.length = qs.length ∧ ∀ (c : Nat) (ag : Bool) (ts : List T), qs[c]? = some (ag, ts) → ∃ xs, ps[c]? = some (ag, xs) ∧ σ.mays xs ts
  | [], [], _ => ⟨rfl, fun j a t h => by simp at h⟩
  | p :: ps, q :: qs, h => by
    obtain ⟨h1, h2⟩ := mayss_get h.2.2
    refine ⟨by simp [h1], fun c ag ts hc => ?_⟩
    cases c with
    | zero =>
      cases hc
      obtain ⟨ag', xs⟩ := p
      have : ag' = ag := h.1
      subst this
      exact ⟨xs, rfl, h.2.1⟩
    | succ c => exact h2 c ag ts (by simpa using hc)
theorem Rel.may (h : Rel E N σ a w G) {x : Leaf} {u : Value} {t : T} (hx : Holds G σ E w x u) (ht : σ.may x = some t) : Inn (fun b => ∃ i, σ.ob i ≠ none ∧ G.ft i b) w t u := by
  have key : ∀ i, x.okIn G E = G.ft i → σ.tr x = some t → σ.ob i ≠ none → Inn (fun b => ∃ i, σ.ob i ≠ none ∧ G.ft i b) w t u := fun i h1 h2 h3 =>
    (h.tree hx h2).frame (Nat.le_refl _) fun b hb _ => ⟨⟨i, h3, by rw [← h1]; exact hb⟩, rfl⟩
  cases x with
  | sc v =>
    have := h.tree (t := .lit v) hx rfl
    cases ht
    cases this with
    | lit hv => exact .lit hv
  | nl ty =>
    have := h.tree (t := .seq ty []) hx rfl
    cases ht
    cases this with
    | seq n hp hz hn hc hm h0 b o us ha hb hcell hr => exact Inn.seq (es := []) n hp hz hn hc hm h0 b o us ha (fun h => absurd rfl h) hcell (fun k e j t h => by simp at h)
  | hd i => exact key i rfl ht (fun e => by simp [VS.may, e] at ht)
  | nd i ver s loc => exact key i rfl ht (fun e => by simp [VS.may, e] at ht)
  | _ => cases ht
/-- The call's answer, to be read. -/
theorem Rel.answerI (h : Rel E N σ a w G) {fn : Func} {rs : List ResultVar} {ps : List (Bool × List Leaf)} {tup : Bool} {qs : List (Bool × List T)} (hf : fn.results = rs.toArray) (hr : ResAll P σ rs ps) (ho : σ.mayss ps qs) (ht : (!(Nat.beq qs.length 1)) = tup) : a.defers = [] ∧ ∃ v, (results fn a.tmps).run P w = .ok v w ∧ GivesI (fun b => ∃ i, σ.ob i ≠ none ∧ G.ft i b) tup qs (.returned v) w := by
  obtain ⟨uss, h3, h4, h5⟩ := h.resAll hr
  obtain ⟨h6, h7⟩ := mayss_get ho
  have hrun := results_run hf h4
  have hlen : (List.zipWith (fun (p : Bool × List Leaf) us => cval p.1 us) ps uss).length = qs.length := by simp [h3, h6]
  have hag : ∀ c ag ts, qs[c]? = some (ag, ts) → ∃ xs, ps[c]? = some (ag, xs) ∧ σ.mays xs ts := h7
  have hzip : List.zipWith (fun (p : Bool × List Leaf) us => cval p.1 us) ps uss = List.zipWith (fun (q : Bool × List T) us => cval q.1 us) qs uss := by
    apply List.ext_getElem?
    intro c
    rw [List.getElem?_zipWith, List.getElem?_zipWith]
    cases hq : qs[c]? with
    | none =>
      have : ps[c]? = none := by rw [List.getElem?_eq_none_iff] at hq ⊢; omega
      rw [this]
    | some q =>
      obtain ⟨ag, ts⟩ := q
      obtain ⟨xs, hp, -⟩ := hag c ag ts hq
      rw [hp]
      cases uss[c]? <;> rfl
  rw [hlen, ht, hzip] at hrun
  refine ⟨h.dfr, _, hrun, uss, h3.trans h6, rfl, fun c ag ts us hq hu => ?_⟩
  obtain ⟨xs, hp, hx⟩ := hag c ag ts hq
  obtain ⟨h8, h9⟩ := mays_get hx
  obtain ⟨h10, h11⟩ := h5 c ag xs us hp hu
  refine ⟨h10.trans h8, fun j t u hj hu' => ?_⟩
  obtain ⟨x, hx1, hx2⟩ := h9 j t hj
  exact h.may (h11 j x u hx1 hu') hx2
theorem GivesI.mono {ok ok' : Nat → Prop} {tup : Bool} {rs : List (Bool × List T)} {e : Ending} (h : GivesI ok tup rs e w) (hk : ∀ b, ok b → b < w.heap.size → ok' b) : GivesI ok' tup rs e w := by
  obtain ⟨uss, h1, h2, h3⟩ := h
  exact ⟨uss, h1, h2, fun c ag ts us hc hu => ⟨(h3 c ag ts us hc hu).1, fun j t u hj hu' => ((h3 c ag ts us hc hu).2 j t u hj hu').frame (Nat.le_refl _) fun b hb hl => ⟨hk b hb hl, rfl⟩⟩⟩
/-- The answer, to be read, of a function that draws. -/
theorem SV.doneEI {Y : Type} {Pr : Y → Prop} {fn : Func} {rvs : List ResultVar} {ps : List (Bool × List Leaf)} {tup : Bool} {rs : Y → List (Bool × List T)} (hln : ∀ b, ¬ E.ln b) (y : Y) (hy : Pr y) (hf : fn.results = rvs.toArray) (hr : ResAll P σ rvs ps) (ho : σ.mayss ps (rs y)) (ht : (!(Nat.beq (rs y).length 1)) = tup) {e : Exit} (he : e = .ret ∨ e = .normal) : SV E N σ (bodyPost P fn (fun e w' => ∃ y, Pr y ∧ GivesI (Newly E.w0 w') tup (rs y) e w' ∧ Below E.w0.heap.size E.w0 w') e) := fun a w G h => by
  obtain ⟨g1, v, g2, g3⟩ := h.answerI hf hr ho ht
  have hpost : a.defers = [] ∧ ∃ v, (results fn a.tmps).run P w = .ok v w ∧ ∃ y, Pr y ∧ GivesI (Newly E.w0 w) tup (rs y) (.returned v) w ∧ Below E.w0.heap.size E.w0 w :=
    ⟨g1, v, g2, y, hy, g3.mono fun b ⟨i, hi, hb⟩ hl => ⟨(h.ftlt i b hi hb).1.elim id fun hn => absurd hn (hln b), hl⟩, ⟨h.below.os, h.below.tape, h.below.output, h.below.size, fun k hk => h.below.block k ⟨hk, hln k⟩⟩⟩
  rcases he with rfl | rfl <;> exact hpost
/-- The answer, to be read, of a function that is handed a cursor. -/
theorem SV.doneKI {Y : Type} {Pr : Y → Prop} {fn : Func} {rvs : List ResultVar} {ps : List (Bool × List Leaf)} {tup : Bool} {rs : Y → List (Bool × List T)} {c : Nat} {p h0 : Int} (hC : E.code ad len cap zs) (hpin : E.pin = some c ∧ ∀ b, E.ln b → b = c) (y : Y) (hy : Pr y) (hbx : σ.bs[0]? = some (49, curL ad len cap p h0)) (hp : 0 ≤ p ∧ p ≤ len) (hf : fn.results = rvs.toArray) (hr : ResAll P σ rvs ps) (ho : σ.mayss ps (rs y)) (ht : (!(Nat.beq (rs y).length 1)) = tup) {e : Exit} (he : e = .ret ∨ e = .normal) :
    SV E N σ (bodyPost P fn (fun e w' => ∃ y τ, Pr y ∧ Cur ad len cap zs τ w' c ∧ GivesI (Newly E.w0 w') tup (rs y) e w' ∧ Only c E.w0 w') e) := fun a w G h => by
  obtain ⟨g1, v, g2, g3⟩ := h.answerI hf hr ho ht
  obtain ⟨hB, us0, b1, b2, b3⟩ := h.boxes 0 _ _ hbx
  obtain ⟨-, hβ⟩ := h.lent.2.2 c hpin.1
  have hus0 : us0 = [.slice ad len cap, .int .i64 p, .int .i64 h0] := by
    match us0, b2 with
    | [u, v, z], _ =>
      have e1 : u = .slice ad len cap := (b3 0 _ u rfl rfl).1.1
      have e2 : v = .int .i64 p := (b3 1 _ v rfl rfl).1.1
      have e3 : z = .int .i64 h0 := (b3 2 _ z rfl rfl).1.1
      rw [e1, e2, e3]
  subst hus0
  rw [hβ] at hB b1
  have hcur : Cur ad len cap zs (p, h0) w c := ⟨(hC.at h.below).row, fun x hx hpos e => by
    have hlt := hC.1.old x hx hpos
    rcases hB with hB | hB
    · rw [← e] at hB; exact absurd hlt (Nat.not_lt.2 hB)
    · rw [← e] at hB; exact hC.2 x hx hpos hB, hp.1, hp.2, b1⟩
  have hpost : a.defers = [] ∧ ∃ v, (results fn a.tmps).run P w = .ok v w ∧ ∃ y τ, Pr y ∧ Cur ad len cap zs τ w c ∧ GivesI (Newly E.w0 w) tup (rs y) (.returned v) w ∧ Only c E.w0 w :=
    ⟨g1, v, g2, y, (p, h0), hy, hcur, g3.mono fun b ⟨i, hi, hft⟩ hl => by
      obtain ⟨m1, m2⟩ := h.ftlt i b hi hft
      refine ⟨m1.elim id fun hl => ?_, m2⟩
      have := hpin.2 b hl
      subst this
      rw [← hβ] at hft
      exact absurd hft (h.boxft 0 i (get_lt hbx) hi), ⟨h.below.os, h.below.tape, h.below.output, h.below.size, fun k hk hne => h.below.block k ⟨hk, fun hl => hne (by rw [hpin.2 k hl])⟩⟩⟩
  rcases he with rfl | rfl <;> exact hpost
/-- A function that is handed a cursor, entered. -/
theorem VKI.enter {Y : Type} {Pr : Y → Prop} {f : FuncId} {fn : Func} {c0 : Go.Code} {n : Nat} {us : List Value} {tup : Bool} {rs : Y → List (Bool × List T)} (hf : P.funcs[f]? = some fn) (hb : fn.body = some c0) (hn : fn.ntmps = n) (hl : us.length + 1 ≤ n) (hone : ∀ u ∈ us, u.oneCell' = true)
    (h : ∀ (E : Env) (c : Nat) (p h0 : Int), E.nl = 0 → E.code ad len cap zs → (E.pin = some c ∧ ∀ b, E.ln b → b = c) → 0 ≤ p ∧ p ≤ len → SV E n ⟨fun s => (V.one (.bp 0 0) :: us.map fun u => V.one (.sc u)).getD s (V.one .dead), [(49, curL ad len cap p h0)], fun _ => none, 0⟩ (c0.wp P (bodyPost P fn fun e w' => ∃ y τ, Pr y ∧ Cur ad len cap zs τ w' c ∧ GivesI (Newly E.w0 w') tup (rs y) e w' ∧ Only c E.w0 w'))) : VKI ad len cap zs Pr P f us tup rs := fun w c σ hcode hcur => by
  refine calls_of_wp hf hb ?_
  obtain ⟨p, h0⟩ := σ
  obtain ⟨E, hE⟩ : ∃ E : Env, E = ⟨w, fun b => b = c, fun b hb => by rw [hb]; exact hcur.lt, fun _ => undef, 0, some c⟩ := ⟨_, rfl⟩
  have hEC : E.code ad len cap zs := by subst hE; exact ⟨hcode, fun x hx hp e => hcur.apart x hx hp e⟩
  have h1 := h E c p h0 (by rw [hE]) hEC (by subst hE; exact ⟨rfl, fun b hb => hb⟩) ⟨hcur.low, hcur.high⟩ { tmps := (Value.pointer (some ⟨c, 0, none⟩) :: us).toArray ++ Array.replicate (n - (us.length + 1)) undef, defers := [] } w ⟨fun _ => c, fun _ => undef, fun _ _ => False⟩ (by
    subst hE
    refine ⟨Same.refl _ _, rfl, by simp; omega, fun s => ?_, fun b ty xs hb => ?_, fun b b' hb hb' _ => (by simp at hb hb'; omega), fun b i hb hi => absurd rfl hi, fun i v t hi => (by cases hi), fun i j b hi => absurd rfl hi, fun i b hi => absurd rfl hi, ⟨Nat.le_refl _, fun i hi => absurd hi (Nat.not_lt_zero i), fun c' hc' => ⟨by simp, Option.some.inj hc'⟩⟩⟩
    · rcases Nat.lt_or_ge s (us.length + 1) with hs | hs
      · have e2 : ((Value.pointer (some ⟨c, 0, none⟩) :: us).toArray ++ Array.replicate (n - (us.length + 1)) undef).getD s undef = (Value.pointer (some ⟨c, 0, none⟩) :: us).getD s undef := by
          simp only [Array.getD_eq_getD_getElem?]
          rw [Array.getElem?_append_left (by simpa using hs)]
          simp [List.getD]
        show VHolds _ _ _ _ ((V.one (.bp 0 0) :: us.map fun u => V.one (.sc u)).getD s (V.one .dead)) _
        rw [e2]
        cases s with
        | zero => exact vone.2 ⟨⟨by simp, rfl⟩, .inr rfl⟩
        | succ s =>
          have hs' : s < us.length := by omega
          have e3 : (V.one (.bp 0 0) :: us.map fun u => V.one (.sc u)).getD (s + 1) (V.one .dead) = V.one (.sc us[s]) := by simp [List.getD, hs']
          have e4 : (Value.pointer (some ⟨c, 0, none⟩) :: us).getD (s + 1) undef = us[s] := by simp [List.getD, hs']
          rw [e3, e4]
          exact vone.2 ⟨rfl, .inr (hone _ (List.getElem_mem hs'))⟩
      · have e3 : (V.one (.bp 0 0) :: us.map fun u => V.one (.sc u)).getD s (V.one .dead) = V.one .dead := by simp [List.getD, show us.length + 1 ≤ s by omega]
        show VHolds _ _ _ _ ((V.one (.bp 0 0) :: us.map fun u => V.one (.sc u)).getD s (V.one .dead)) _
        rw [e3]
        exact vone.2 ⟨trivial, .inl rfl⟩
    · have hb0 : b = 0 := by have := get_lt hb; simpa using this
      subst hb0
      cases hb
      refine ⟨.inr rfl, [.slice ad len cap, .int .i64 p, .int .i64 h0], hcur.cell, rfl, fun j x u hj hu => ?_⟩
      match j, hj, hu with
      | 0, hj, hu => cases hj; cases hu; exact ⟨⟨rfl, .inr rfl⟩, rfl⟩
      | 1, hj, hu => cases hj; cases hu; exact ⟨⟨rfl, .inr rfl⟩, rfl⟩
      | 2, hj, hu => cases hj; cases hu; exact ⟨⟨rfl, .inr rfl⟩, rfl⟩)
  rw [hn]
  have e0 : E.w0 = w := by rw [hE]
  rw [e0] at h1
  simpa using h1
theorem VCI.enter {Y : Type} {Pr : Y → Prop} {f : FuncId} {fn : Func} {c0 : Go.Code} {n : Nat} {tup : Bool} {rs : Y → List (Bool × List T)} (hf : P.funcs[f]? = some fn) (hb : fn.body = some c0) (hn : fn.ntmps = n) (hl : 1 ≤ n)
    (h : ∀ E, E.plain 0 → E.code ad len cap zs → (∀ b, ¬ E.ln b) → SV E n (VS.init ([(false, [T.lit (.slice ad len cap)])].map fun p => V.flat p.1 (p.2.map argLeaf))) (c0.wp P (bodyPost P fn fun e w' => ∃ y, Pr y ∧ GivesI (Newly E.w0 w') tup (rs y) e w' ∧ Below E.w0.heap.size E.w0 w'))) : VCI (fun w => Code ad len cap zs w) Pr P f [(false, [.lit (.slice ad len cap)])] tup rs := fun w hw vs hv => by
  refine calls_of_wp hf hb ?_
  obtain ⟨G, hG⟩ := init_rel (E := Env.of w) ⟨rfl, rfl⟩ (n := n) hv (by rw [hv.1]; exact hl)
  have := h (Env.of w) ⟨rfl, rfl⟩ ⟨hw, fun _ _ _ h => h⟩ (fun _ h => h) _ _ G hG
  rw [hn]
  have e : (Env.of w).w0 = w := rfl
  rw [e] at this
  simpa using this
end Go.Proofs.Ytjdjceohlcimaaa.V
/- States told by trees: an object's value gets a name, what was written with such names is frozen: parts that lie in each other are told, to be read. -/
namespace Go.Proofs.Ytjdjceohlcimaaa.V
open Go Go.RowKit
set_option linter.unusedVariables false
variable {P : Program} {E : Env} {N nb : Nat} {σ σ' τ : VS} {o : Oper} {a : Act} {w : World} {G : Ghost} {Q : Exit → Act → World → Prop} {K : Act → World → Prop}
/-- What is left of an object when a nested slice is taken out: its header's value stays. -/
theorem Own.takeL {ty pty : TypeId} {es : List (List T)} {e : List T} {ps : List (List T)} {v : Value} {F : Nat → Prop} {k o : Nat} (h : Own w 0 (.seq ty es) v F) (hk : es[k]? = some e) (ho : e[o]? = some (.seq pty ps)) :
    ∃ (u : Value) (D : Nat → Prop), Own w 0 (.seq pty ps) u D ∧ (∀ b, D b → F b) ∧ Own w 0 (.seq ty (es.set k (e.set o (.lit u)))) v (fun b => F b ∧ ¬ D b) := by
  cases h with
  | seq n hp hz hn xs hown Gs hr hone hF hG hne hd =>
    have hen : e.length = n := hn e (get_mem hk)
    have hon : o < n := by rw [← hen]; exact get_lt ho
    have hcl := at_lt (get_lt hk) hon
    have hxl : xs.length = es.length * n := hown.1
    have hx : xs[k * n + o]? = some xs[k * n + o] := List.getElem?_eq_getElem (by rw [hxl]; exact hcl)
    obtain ⟨u, hu⟩ : ∃ u, u = xs[k * n + o] := ⟨_, rfl⟩
    rw [← hu] at hx
    refine ⟨u, Gs (k * n + o), hr k e o _ u hk ho hx, fun b hb => hG _ b hb, ?_⟩
    refine .seq n hp hz (fun f hf => ?_) xs (by rw [List.length_set]; exact hown) (fun i b => Gs i b ∧ i ≠ k * n + o) (fun k' e' j t u' h1 h2 h3 => ?_) hone (fun b hb => ⟨hF b hb, fun hg => hne _ b hg hb⟩) (fun i b hb => ⟨hG i b hb.1, fun hg => hb.2 (hd _ _ b hb.1 hg)⟩) (fun i b hb => hne i b hb.1) fun i j b h1 h2 => hd i j b h1.1 h2.1
    · rcases List.mem_or_eq_of_mem_set hf with h1 | h1
      · exact hn f h1
      · rw [h1, List.length_set]; exact hen
    · by_cases hkk : k' = k
      · subst hkk
        rw [List.getElem?_set_self (get_lt hk)] at h1
        cases h1
        by_cases hjo : j = o
        · subst hjo
          rw [List.getElem?_set_self (get_lt ho)] at h2
          cases h2
          rw [hx] at h3
          cases h3
          exact .lit (hone _ (get_mem hx))
        · rw [List.getElem?_set_ne (fun q => hjo q.symm)] at h2
          exact (hr k' e j t u' hk h2 h3).mono fun b hb => ⟨hb, by omega⟩
      · rw [List.getElem?_set_ne (fun q => hkk q.symm)] at h1
        have hjn : j < n := by rw [← hn e' (get_mem h1)]; exact get_lt h2
        exact (hr k' e' j t u' h1 h2 h3).mono fun b hb => ⟨hb, at_ne hjn hon hkk⟩
theorem Rel.takeL (h : Rel E N σ a w G) {i ver k o : Nat} {ty pty : TypeId} {es : List (List T)} {e : List T} {ps : List (List T)} (hi : σ.ob i = some (ver, .seq ty es)) (hk : es[k]? = some e) (ho : e[o]? = some (.seq pty ps)) :
    ∃ G' u, Rel E N ((σ.setob i (.seq ty (es.set k (e.set o (.lit u))))).new (.seq pty ps)) a w G' ∧ G'.vl σ.nx = u ∧ ∀ j, j < σ.nx → G'.vl j = G.vl j := by
  obtain ⟨hlt, hown, -⟩ := h.objs i ver _ hi
  obtain ⟨u, D, hD1, hD2, hD3⟩ := hown.takeL hk ho
  obtain ⟨σ1, hσ1⟩ : ∃ σ1, σ1 = (σ.setob i (.seq ty (es.set k (e.set o (.lit u))))).new (.seq pty ps) := ⟨_, rfl⟩
  obtain ⟨G', hG'⟩ : ∃ G' : Ghost, G' = { G with vl := fun j => if j = σ.nx then u else G.vl j, ft := fun j => if j = σ.nx then D else if j = i then (fun b => G.ft i b ∧ ¬ D b) else G.ft j } := ⟨_, rfl⟩
  have hine : i ≠ σ.nx := Nat.ne_of_lt hlt
  have hvn : G'.vl σ.nx = u := by rw [hG']; exact if_pos rfl
  have hfn : G'.ft σ.nx = D := by rw [hG']; exact if_pos rfl
  have hvo : ∀ j, j ≠ σ.nx → G'.vl j = G.vl j := fun j hj => by rw [hG']; exact if_neg hj
  have hfi : G'.ft i = fun b => G.ft i b ∧ ¬ D b := by rw [hG']; show (if i = σ.nx then _ else _) = _; rw [if_neg hine, if_pos rfl]
  have hfo : ∀ j, j ≠ σ.nx → j ≠ i → G'.ft j = G.ft j := fun j hj hji => by rw [hG']; show (if j = σ.nx then _ else _) = _; rw [if_neg hj, if_neg hji]
  have hb1 : σ1.ob σ.nx = some (0, .seq pty ps) := by rw [hσ1]; show (bif Nat.beq σ.nx σ.nx then _ else _) = _; rw [Nat.beq_refl]; rfl
  have hb2 : σ1.ob i = some (ver + 1, .seq ty (es.set k (e.set o (.lit u)))) := by rw [hσ1]; show (bif Nat.beq i σ.nx then _ else _) = _; rw [nbne hine]; show (σ.setob i _).ob i = _; rw [setob_self, hi]; rfl
  have hb3 : ∀ j, j ≠ σ.nx → j ≠ i → σ1.ob j = σ.ob j := fun j hj hji => by rw [hσ1]; show (bif Nat.beq j σ.nx then _ else _) = _; rw [nbne hj]; exact setob_ne hji
  have hft : ∀ j b, σ1.ob j ≠ none → G'.ft j b → (j = σ.nx ∧ D b) ∨ (j = i ∧ G.ft i b ∧ ¬ D b) ∨ (j ≠ σ.nx ∧ j ≠ i ∧ σ.ob j ≠ none ∧ G.ft j b) := fun j b hj hb => by
    by_cases h7 : j = σ.nx
    · subst h7; rw [hfn] at hb; exact .inl ⟨rfl, hb⟩
    · by_cases h8 : j = i
      · subst h8; rw [hfi] at hb; exact .inr (.inl ⟨rfl, hb⟩)
      · rw [hfo j h7 h8] at hb; rw [hb3 j h7 h8] at hj; exact .inr (.inr ⟨h7, h8, hj, hb⟩)
  have hio : σ.ob i ≠ none := by rw [hi]; simp
  have hturn := h.turn (σ' := σ1) (w' := w) (G' := G') (fun _ => False) (by rw [hσ1]; rfl) (by rw [hσ1]; rfl) (by rw [hG']) (Same.refl _ _) (fun _ _ _ => rfl) (fun _ _ hf => hf) (by rw [hσ1]; exact Nat.le_succ _) (fun j hj => hvo j (Nat.ne_of_lt hj)) (fun j v' t' hv => by
      by_cases h7 : j = σ.nx
      · subst h7
        rw [hb1] at hv
        cases hv
        refine .inr ⟨by rw [hσ1]; exact Nat.lt_succ_self _, fun hlt => absurd hlt (Nat.lt_irrefl _), by rw [hvn, hfn]; exact hD1, ⟨_, _, rfl⟩, fun b hb => ?_, fun b hb c hc e => ?_⟩
        · rw [hfn] at hb; exact h.ftlt i b hio (hD2 b hb)
        · rw [hfn] at hb; exact h.boxft c i hc hio (by rw [e]; exact hD2 b hb)
      · by_cases h8 : j = i
        · subst h8
          rw [hb2] at hv
          cases hv
          refine .inr ⟨by rw [hσ1]; exact Nat.lt_succ_of_lt hlt, fun _ => ⟨ver, _, hi, Nat.lt_succ_self _⟩, by rw [hvo j h7, hfi]; exact hD3, ⟨_, _, rfl⟩, fun b hb => ?_, fun b hb c hc e => ?_⟩
          · rw [hfi] at hb; exact h.ftlt j b hio hb.1
          · rw [hfi] at hb; exact h.boxft c j hc hio (by rw [e]; exact hb.1)
        · rw [hb3 j h7 h8] at hv
          exact .inl ⟨hv, fun b => by rw [hfo j h7 h8], fun _ _ hf => hf⟩) fun j1 j2 b hj1 hj2 hne hf1 hf2 => by
    rcases hft j1 b hj1 hf1 with ⟨q1, q2⟩ | ⟨q1, q2, q3⟩ | ⟨q1, q2, q3, q4⟩ <;> rcases hft j2 b hj2 hf2 with ⟨r1, r2⟩ | ⟨r1, r2, r3⟩ | ⟨r1, r2, r3, r4⟩
    · exact hne (q1.trans r1.symm)
    · exact r3 q2
    · exact h.disj j2 i b r3 hio r2 r4 (hD2 b q2)
    · exact q3 r2
    · exact hne (q1.trans r1.symm)
    · exact h.disj j2 i b r3 hio r2 r4 q2
    · exact h.disj j1 i b q3 hio q2 q4 (hD2 b r2)
    · exact h.disj j1 i b q3 hio q2 q4 r2
    · exact h.disj j1 j2 b q3 r3 hne q4 r4
  exact ⟨G', u, by rw [← hσ1]; exact hturn.1, hvn, fun j hj => hvo j (Nat.ne_of_lt hj)⟩
/-- The objects' values get names. -/
theorem Rel.name (h : Rel E N σ a w G) (L : Nat → Value) (hL : ∀ i, i < σ.nx → G.vl i = L i) : Rel { E with lv := L, nl := σ.nx } N σ a w G :=
  ⟨⟨h.below.os, h.below.tape, h.below.output, h.below.size, h.below.block⟩, h.dfr, h.nsz, h.tmps, h.boxes, h.inj, h.boxft, h.objs, h.disj, h.ftlt, ⟨Nat.le_refl _, hL, h.lent.2.2⟩⟩
/-- A nested slice becomes an object of its own whose value has a name; its header stays where it was. -/
theorem SV.takeN {i ver k o : Nat} {ty pty : TypeId} {es : List (List T)} {e : List T} {ps : List (List T)} (hi : σ.ob i = some (ver, .seq ty es)) (hk : es[k]? = some e) (ho : e[o]? = some (.seq pty ps))
    (q : ∀ (L : Nat → Value) (u : Value), L σ.nx = u → (∃ ad c, u = .slice ad ps.length c ∧ ps.length ≤ c ∧ c ≤ maxLen ∧ (0 < ps.length → ∃ g, ad = some ⟨g, 0, none⟩)) → SV { E with lv := L, nl := σ.nx + 1 } N ((σ.setob i (.seq ty (es.set k (e.set o (.lit u))))).new (.seq pty ps)) K) : SV E N σ K := fun a w G h => by
  obtain ⟨G', u, h1, h2, -⟩ := h.takeL hi hk ho
  obtain ⟨-, hown, -⟩ := h1.objs σ.nx 0 (.seq pty ps) (by show (bif Nat.beq σ.nx σ.nx then _ else _) = _; rw [Nat.beq_refl]; rfl)
  rw [h2] at hown
  refine q G'.vl u h2 ?_ a w G' (h1.name G'.vl fun _ _ => rfl)
  cases hown with
  | seq n hp hz hn xs hr =>
    obtain ⟨ad, c, h3, h4, h5, -, h6⟩ := own_slice hr
    exact ⟨ad, c, h3, h4, h5, fun hpos => by obtain ⟨g, hg, -⟩ := h6 hpos; exact ⟨g, hg⟩⟩
/-- An operation that yields a value, taken as a step of its own. -/
theorem OpL.mk {nb d : Nat} {V' : V} (h : OpL P E N nb σ o V') (hd : o.dst = some d) (hdN : d < N) : OpMk P E N none σ o (σ.put d V') := fun a w G K Q hr k => by
  obtain ⟨u, h1, h2⟩ := h a w G hr
  refine wp_value (h1 w ⟨fun _ _ => rfl, fun _ _ => rfl⟩) ?_
  rw [hd]
  exact k _ _ _ (hr.put hdN h2) ⟨Nat.le_refl _, Same.refl _ _, fun _ _ => rfl, fun _ _ => rfl, fun _ _ => .inl rfl, fun i h1 h2 => absurd h2 (Nat.not_lt.2 h1)⟩
/-- The names are given up. -/
theorem SV.unname {L : Nat → Value} {m : Nat} (h0 : E.nl = 0) (k : SV E N σ K) : SV { E with lv := L, nl := m } N σ K := fun a w G h => by
  refine k a w G ⟨⟨h.below.os, h.below.tape, h.below.output, h.below.size, h.below.block⟩, h.dfr, h.nsz, h.tmps, h.boxes, h.inj, h.boxft, h.objs, h.disj, h.ftlt, ⟨by rw [h0]; exact Nat.zero_le _, fun i hi => ?_, h.lent.2.2⟩⟩
  rw [h0] at hi
  exact absurd hi (Nat.not_lt_zero i)
theorem named_inn {p v : Nat} {t : T} (hp : σ.ob p = some (v, t)) (hl : p < E.nl) : ∀ a w G, Rel E N σ a w G → Inn (G.ft p) w t (E.lv p) := fun a w G h => by
  obtain ⟨-, h1, -⟩ := h.objs p v t hp
  rw [← h.lent.2.1 p hl]
  exact h1.inn
theorem named_inn' {p v : Nat} {t : T} {u : Value} (hp : σ.ob p = some (v, t)) (hl : p < E.nl) (hv : E.lv p = u) : ∀ a w G, Rel E N σ a w G → Inn (G.ft p) w t u := hv ▸ named_inn hp hl
/-- All but the first element, of a slice whose header has a name. -/
theorem ok_tail {x y : Operand} {ki : IntKind} {ad : Option Addr} {len c n : Nat} {ty t : TypeId} (ho : o.op = .slice t x (some y) none none) (hu : Try.prog.underlying t = some (.slice ty)) (hz : Sz ty n) (hx : σ.ev x = V.one (.sc (.slice ad len c))) (hy : σ.ev y = V.one (.sc (.int ki 1))) (h1 : 1 ≤ len) (h2 : len ≤ c) :
    OpL Try.prog E N nb σ o (V.one (.sc (.slice (if c = 1 then ad else ad.map (·.add (1 * n))) (len - 1) (c - 1)))) := fun a w G hr => by
  have hx' := hr.sc hx
  have hy' := hr.sc hy
  obtain ⟨inf, hinf, hsz⟩ := hz
  have h3 : 1 ≤ c := Nat.le_trans h1 h2
  refine ⟨.slice (if c = 1 then ad else ad.map (·.add (1 * n))) (len - 1) (c - 1), fun v' _ => ?_, vone.2 ⟨rfl, .inr rfl⟩⟩
  simp [execOp, ho, Instr.sliceAt, Instr.slice, Instr.sliceBounds, Instr.sliceBound, asIntOf, run_underlying hu, sizeOf, Lib.rl_info ty inf hinf, hsz, Result.andThen, *]
  rw [if_pos (by omega)]
  simp
theorem tail_inn {p v : Nat} {pty : TypeId} {ps : List (List T)} {ad : Option Addr} {c n : Nat} (hp : σ.ob p = some (v, .seq pty ps)) (hl : p < E.nl) (hv : E.lv p = .slice ad ps.length c) (hz : Sz pty n) (h1 : 1 ≤ ps.length) : ∀ a w G, Rel E N σ a w G → Inn (G.ft p) w (.seq pty (ps.drop 1)) (.slice (if c = 1 then ad else ad.map (·.add (1 * n))) (ps.length - 1) (c - 1)) := fun a w G h => by
  have h2 := named_inn hp hl a w G h
  rw [hv] at h2
  have h3 := cut_inn (l := 1) (h := ps.length) h2 h1 (Nat.le_refl _) hz
  rw [List.take_length] at h3
  exact h3
end Go.Proofs.Ytjdjceohlcimaaa.V
/- What the law of accounts draws: told by trees. -/
namespace Go.Proofs.Ytjdjceohlcimaaa
open Go Go.RowKit V
set_option linter.unusedVariables false
set_option maxRecDepth 100000 in
set_option maxHeartbeats 2000000 in
theorem vk_acct {ad : Option Addr} {len cap : Nat} {zs : List Int}  : VK ad len cap zs (fun _ : AccountD => True) Try.prog 30 [] false (fun y => [(true, tAccount y)]) := by
  refine VK.enter Try.func30 rfl Try.ntmps30 (Nat.le_of_ble_eq_true rfl) (by simp) fun E c p h0 hE hC hpin hp => ?_
  refine SV.seq' ?_
  refine SV.region ?_
  refine SV.op (OpMk.ok (ok_alloc (kk := 1) (xs := [.sc _, .sc _, .sc _, .sc _]) rfl rfl zero_impl_Account ⟨rfl, rfl, rfl, rfl, rfl, rfl, rfl, rfl, trivial⟩ rfl (Nat.le_of_ble_eq_true rfl))) rfl ?_
  refine SV.nil ?_
  refine SV.tn ?_
  refine SV.seq' ?_
  refine SV.region ?_
  refine SV.op (OpL.ok (nb := 2) (ok_move (v := V.one (.bp 0 0)) (.inl rfl) rfl) rfl (Nat.le_of_ble_eq_true rfl)) rfl ?_
  refine SV.op (OpMk.ok (ok_litS (kk := 0) (xs := [.const ((Value.int IntKind.i64 8)), .const ((Value.int IntKind.i64 20)), .const ((Value.int IntKind.i64 60))]) (us := [_, _, _]) elt_int rfl rfl rfl rfl (by decide) (by decide) ⟨rfl, rfl, rfl, trivial⟩ rfl (Nat.le_of_ble_eq_true rfl))) rfl ?_
  refine SV.callKT (b := 0) hC rfl ⟨_, _, Try.func31, rfl, by decide⟩ (vk_pick [8, 20, 60] (by decide) (by decide)) rfl ⟨⟨[.hd 0], rfl, ⟨rfl, trivial⟩⟩, trivial⟩ rfl hp rfl (Nat.le_of_ble_eq_true rfl) (fun _ => wanted0 rfl) ?_
  rintro x0 p1 h1 hx hp1
  refine SV.op (OpMk.ok (ok_call (ls := [(true, [.sc _, .sc _, .sc _, .sc _]), (false, [.sc _])]) rfl rfl ⟨_, _, Try.func26, rfl, by decide⟩ (vnew_s x0) ⟨⟨[.sc _], rfl, ⟨rfl, trivial⟩⟩, trivial⟩ rfl (Nat.le_of_ble_eq_true rfl))) rfl ?_
  refine SV.op (OpL.ok (nb := 2) (ok_move (v := ⟨true, [(true, [.sc _, .sc _, .sc _, .sc _]), (false, [.sc _])]⟩) (.inl rfl) rfl) rfl (Nat.le_of_ble_eq_true rfl)) rfl ?_
  refine SV.op (OpL.ok (nb := 2) (ok_extract (ag := true) (xs := [.sc _, .sc _, .sc _, .sc _]) rfl rfl rfl) rfl (Nat.le_of_ble_eq_true rfl)) rfl ?_
  refine SV.op (OpL.ok (nb := 2) (ok_extract (ag := false) (xs := [.sc _]) rfl rfl rfl) rfl (Nat.le_of_ble_eq_true rfl)) rfl ?_
  refine SV.op (OpMk.ok (ok_alloc (kk := 2) (xs := [.sc _, .sc _, .sc _, .sc _]) rfl rfl zero_impl_Account ⟨rfl, rfl, rfl, rfl, rfl, rfl, rfl, rfl, trivial⟩ rfl (Nat.le_of_ble_eq_true rfl))) rfl ?_
  refine SV.op (ok_store_bp (b := 2) (i := 0) (m := 4) (ag := true) (zs := [.sc _, .sc _, .sc _, .sc _]) (ys := [.sc _, .sc _, .sc _, .sc _]) rfl rfl rfl rfl sz_impl_Account (fun h => by cases h) rfl (Nat.le_of_ble_eq_true rfl) rfl rfl rfl) rfl ?_
  refine SV.op (OpL.ok (nb := 3) (ok_move (v := V.one (.sc _)) (.inr rfl) rfl) rfl (Nat.le_of_ble_eq_true rfl)) rfl ?_
  refine SV.nil ?_
  refine SV.tn ?_
  refine SV.seq' ?_
  refine SV.seq' ?_
  refine SV.region ?_
  refine SV.op (OpL.ok (nb := 3) (ok_move (v := V.one (.bp 0 0)) (.inl rfl) rfl) rfl (Nat.le_of_ble_eq_true rfl)) rfl ?_
  refine SV.callK (b := 0) hC rfl ⟨_, _, Try.func32, rfl, by decide⟩ (vk_below 6 (by decide) (by decide)) rfl ⟨rfl, trivial⟩ rfl hp1 rfl (Nat.le_of_ble_eq_true rfl) (fun _ => wanted0 rfl) ?_
  rintro k0 p2 h2 ⟨hk0, hk1⟩ hp2
  refine SV.op (OpL.ok (nb := 3) (ok_move (v := V.one (.sc _)) (.inr rfl) rfl) rfl (Nat.le_of_ble_eq_true rfl)) rfl ?_
  refine SV.nil ?_
  refine SV.tn ?_
  refine SV.block ?_
  refine SV.loopF (X := Int × Int × Int × AccountD) (fun (σ : VS) z => (((((((VS.nil.box 49 [σ.bl 0 0, .sc (.int .i64 (z.1)), .sc (.int .i64 (z.2.1))]).box 25 [σ.bl 1 0, σ.bl 1 1, σ.bl 1 2, σ.bl 1 3]).box 25 [.sc (.int .i64 (z.2.2.2.fUsed)), .sc (.int .i64 (z.2.2.2.fGrant)), .sc (.int .i64 (z.2.2.2.fPeak)), .sc (.int .i64 (z.2.2.2.fOvercommits))]).put 0 (V.flat false [.bp 0 0])).put 2 (V.flat false [.bp 1 0])).put 3 (V.flat false [.bp 2 0])).put 5 (V.flat false [.sc (.int .i64 (z.2.2.1))]))) (fun z => (0 ≤ z.1 ∧ z.1 ≤ len) ∧ 0 ≤ z.2.2.1 ∧ z.2.2.1 < 6) (fun z => z.2.2.1.toNat) ?_ ?_
  · skip
    refine SV.again (fun i => [].getD i 0) (p2, h2, k0, AccountD.new x0) (⟨hp2, hk0, hk1⟩) (pinsC hE rfl) (VS.le.mk' (le_put (le_put (le_put (le_put (le_box (le_box (le_box le_nil))) (V.le.keep (ag := false) (xs := [.bp 0 0]) (ys := [.bp 0 0]) rfl rfl ⟨⟨rfl, (Nat.le_of_ble_eq_true rfl)⟩, trivial⟩)) (V.le.keep (ag := false) (xs := [.bp 1 0]) (ys := [.bp 1 0]) rfl rfl ⟨⟨rfl, (Nat.le_of_ble_eq_true rfl)⟩, trivial⟩)) (V.le.keep (ag := false) (xs := [.bp 2 0]) (ys := [.bp 2 0]) rfl rfl ⟨⟨rfl, (Nat.le_of_ble_eq_true rfl)⟩, trivial⟩)) (V.le.keep (ag := false) (xs := [.sc _]) (ys := [.sc _]) rfl rfl ⟨(by first | rfl | (show Leaf.sc _ = Leaf.sc _; refine congrArg Leaf.sc ?_; first | rfl | go_num | (simp [cntAll]; done)) | (simp [cntAll]; done) | (simp; omega)), trivial⟩)) ⟨⟨rfl, ⟨rfl, (by first | rfl | (show Leaf.sc _ = Leaf.sc _; refine congrArg Leaf.sc ?_; first | rfl | go_num | (simp [cntAll]; done)) | (simp [cntAll]; done) | (simp; omega)), (by first | rfl | (show Leaf.sc _ = Leaf.sc _; refine congrArg Leaf.sc ?_; first | rfl | go_num | (simp [cntAll]; done)) | (simp [cntAll]; done) | (simp; omega)), trivial⟩⟩, ⟨⟨rfl, ⟨rfl, rfl, rfl, rfl, trivial⟩⟩, ⟨⟨rfl, ⟨(by first | rfl | (show Leaf.sc _ = Leaf.sc _; refine congrArg Leaf.sc ?_; first | rfl | go_num | (simp [cntAll]; done)) | (simp [cntAll]; done) | (simp; omega)), (by first | rfl | (show Leaf.sc _ = Leaf.sc _; refine congrArg Leaf.sc ?_; first | rfl | go_num | (simp [cntAll]; done)) | (simp [cntAll]; done) | (simp; omega)), (by first | rfl | (show Leaf.sc _ = Leaf.sc _; refine congrArg Leaf.sc ?_; first | rfl | go_num | (simp [cntAll]; done)) | (simp [cntAll]; done) | (simp; omega)), (by first | rfl | (show Leaf.sc _ = Leaf.sc _; refine congrArg Leaf.sc ?_; first | rfl | go_num | (simp [cntAll]; done)) | (simp [cntAll]; done) | (simp; omega)), trivial⟩⟩, trivial⟩⟩⟩ trivial nil_ob (fun i j hi hj e => absurd hi (Nat.not_lt_zero i)))
  · rintro ⟨p, h, n, g⟩ ⟨hq, hn0, hn1⟩
    dsimp only at hq hn0 hn1
    refine SV.seq' ?_
    refine SV.seq' ?_
    refine SV.region ?_
    refine SV.op (OpL.ok (nb := 3) (ok_move (v := V.one (.sc _)) (.inl rfl) rfl) rfl (Nat.le_of_ble_eq_true rfl)) rfl ?_
    refine SV.op (OpL.ok (nb := 3) (ok_s2 (x := .tmp 15) (x' := .const ((Value.int IntKind.i64 0))) (VScal.one rfl) (VScal.one rfl) (fun ρ h1 h2 w => by go_simp; (try go_bits); with_reducible rfl) rfl) rfl (Nat.le_of_ble_eq_true rfl)) rfl ?_
    refine SV.nil ?_
    refine SV.tn ?_
    refine SV.cond rfl (fun hc0 => ?_) (fun hc0 => ?_)
    · skip   -- c0.T
      have hn2 : 0 < n := by simpa using hc0
      refine SV.skip ?_
      refine SV.tn ?_
      refine SV.seq' ?_
      refine SV.block ?_
      refine SV.seq' ?_
      refine SV.region ?_
      refine SV.op (OpL.ok (nb := 3) (ok_move (v := V.one (.bp 0 0)) (.inl rfl) rfl) rfl (Nat.le_of_ble_eq_true rfl)) rfl ?_
      refine SV.callK (b := 0) hC rfl ⟨_, _, Try.func32, rfl, by decide⟩ (vk_below 3 (by decide) (by decide)) rfl ⟨rfl, trivial⟩ rfl hq rfl (Nat.le_of_ble_eq_true rfl) (fun _ => wanted0 rfl) ?_
      rintro s p3 h3 ⟨hx0, hx1⟩ hp3
      refine SV.nil ?_
      refine SV.tn ?_
      refine SV.block ?_
      refine SV.seq' ?_
      refine SV.region ?_
      refine SV.op (OpL.ok (nb := 3) (ok_s2 (x := .tmp 20) (x' := .const ((Value.int IntKind.i64 0))) (VScal.one rfl) (VScal.one rfl) (fun ρ h1 h2 w => by go_simp; (try go_bits); with_reducible rfl) rfl) rfl (Nat.le_of_ble_eq_true rfl)) rfl ?_
      refine SV.op (OpL.ok (nb := 3) (ok_move (v := V.one (.sc _)) (.inr rfl) rfl) rfl (Nat.le_of_ble_eq_true rfl)) rfl ?_
      refine SV.nil ?_
      refine SV.tn ?_
      refine SV.cond rfl (fun hc1 => ?_) (fun hc1 => ?_)
      · skip   -- c1.T
        refine SV.drawCT [0, 2] (.q 1 (.alt 0 (.m 2 (.m 3 (.q 4 (.q 5 (.q 6 (.m 7 .nil)))))) 2 (.m 0 (.m 3 (.q 4 (.q 5 (.q 6 (.m 7 .nil)))))))) [] (by kernel_rfl) (by kernel_rfl) ?_
        refine DC.q rfl (ok_move (v := V.one (.bp 0 0)) (.inl rfl) rfl) rfl rfl (Nat.le_of_ble_eq_true rfl) (fun _ _ _ _ h => h) ?_
        refine DC.alt ?_ ?_
        · skip   -- first 0
          refine DC.m rfl (OpL.mk (nb := 3) (ok_load_bp (b := 2) (i := 0) (ag := true) (m := 4) (ys := [.sc _, .sc _, .sc _, .sc _]) rfl rfl rfl agg_impl_Account sz_impl_Account (fun h => by cases h) rfl rfl (Nat.le_of_ble_eq_true rfl)) rfl (Nat.le_of_ble_eq_true rfl)) rfl rfl (Nat.le_of_ble_eq_true rfl) ?_
          refine DC.mK (b := 0) hC rfl rfl ⟨_, _, Try.func32, rfl, by decide⟩ (vk_below 20 (by decide) (by decide)) rfl ⟨rfl, trivial⟩ rfl (by decide) (Nat.le_of_ble_eq_true rfl) hp3 rfl (Nat.le_of_ble_eq_true rfl) rfl ?_
          rintro x p4 h4 ⟨hx0, hx1⟩ hp4
          refine DC.m rfl (ok_call (ls := [(true, [.sc _, .sc _, .sc _, .sc _]), (false, [.sc _])]) rfl rfl ⟨_, _, Try.func13, rfl, by decide⟩ (vcharge_s g x) ⟨⟨[.sc _, .sc _, .sc _, .sc _], rfl, ⟨rfl, rfl, rfl, rfl, trivial⟩⟩, ⟨[.sc _], rfl, ⟨rfl, trivial⟩⟩, trivial⟩ rfl (Nat.le_of_ble_eq_true rfl)) rfl rfl (Nat.le_of_ble_eq_true rfl) ?_
          refine DC.q rfl (ok_move (v := ⟨true, [(true, [.sc _, .sc _, .sc _, .sc _]), (false, [.sc _])]⟩) (.inl rfl) rfl) rfl rfl (Nat.le_of_ble_eq_true rfl) (fun _ _ _ _ h => h) ?_
          refine DC.q rfl (ok_extract (ag := true) (xs := [.sc _, .sc _, .sc _, .sc _]) rfl rfl rfl) rfl rfl (Nat.le_of_ble_eq_true rfl) (fun _ _ _ _ h => h) ?_
          refine DC.q rfl (ok_extract (ag := false) (xs := [.sc _]) rfl rfl rfl) rfl rfl (Nat.le_of_ble_eq_true rfl) (fun _ _ _ _ h => h) ?_
          refine DC.store (b := 2) (i' := 0) (m := 4) (ag := true) (zs1 := [.sc _, .sc _, .sc _, .sc _]) (ys := [.sc _, .sc _, .sc _, .sc _]) rfl rfl rfl rfl sz_impl_Account (fun h => by cases h) rfl (Nat.le_of_ble_eq_true rfl) rfl rfl rfl rfl (by decide) (Nat.le_of_ble_eq_true rfl) rfl ?_
          refine DC.stores ?_
          refine SV.zend ?_
          refine SV.bn ?_
          refine SV.bn ?_
          refine SV.tn ?_
          refine SV.region ?_
          refine SV.op (OpL.ok (nb := 3) (ok_move (v := V.one (.sc _)) (.inl rfl) rfl) rfl (Nat.le_of_ble_eq_true rfl)) rfl ?_
          refine SV.op (OpL.ok (nb := 3) (ok_s2 (x := .tmp 17) (x' := .const ((Value.int IntKind.i64 1))) (VScal.one rfl) (VScal.one rfl) (fun ρ h1 h2 w => by go_simp; (try go_bits); with_reducible rfl) rfl) rfl (Nat.le_of_ble_eq_true rfl)) rfl ?_
          refine SV.op (OpL.ok (nb := 3) (ok_move (v := V.one (.sc _)) (.inr rfl) rfl) rfl (Nat.le_of_ble_eq_true rfl)) rfl ?_
          refine SV.nil ?_
          refine SV.tn ?_
          refine SV.again (fun i => [].getD i 0) ((p4, h4, n - 1, AccountD.charge g x)) (⟨⟨hp4, (by show (0 : Int) ≤ n - 1; omega), (by show n - 1 < (6 : Int); omega)⟩, (by show (n - 1).toNat < n.toNat; omega)⟩) (pinsC hE rfl) (VS.le.mk' (le_put (le_put (le_put (le_put (le_box (le_box (le_box le_nil))) (V.le.keep (ag := false) (xs := [.bp 0 0]) (ys := [.bp 0 0]) rfl rfl ⟨⟨rfl, (Nat.le_of_ble_eq_true rfl)⟩, trivial⟩)) (V.le.keep (ag := false) (xs := [.bp 1 0]) (ys := [.bp 1 0]) rfl rfl ⟨⟨rfl, (Nat.le_of_ble_eq_true rfl)⟩, trivial⟩)) (V.le.keep (ag := false) (xs := [.bp 2 0]) (ys := [.bp 2 0]) rfl rfl ⟨⟨rfl, (Nat.le_of_ble_eq_true rfl)⟩, trivial⟩)) (V.le.keep (ag := false) (xs := [.sc _]) (ys := [.sc _]) rfl rfl ⟨(by first | rfl | (show Leaf.sc _ = Leaf.sc _; refine congrArg Leaf.sc ?_; first | rfl | go_num | (simp [cntAll]; done)) | (simp [cntAll]; done) | (simp; omega)), trivial⟩)) ⟨⟨rfl, ⟨rfl, (by first | rfl | (show Leaf.sc _ = Leaf.sc _; refine congrArg Leaf.sc ?_; first | rfl | go_num | (simp [cntAll]; done)) | (simp [cntAll]; done) | (simp; omega)), (by first | rfl | (show Leaf.sc _ = Leaf.sc _; refine congrArg Leaf.sc ?_; first | rfl | go_num | (simp [cntAll]; done)) | (simp [cntAll]; done) | (simp; omega)), trivial⟩⟩, ⟨⟨rfl, ⟨rfl, rfl, rfl, rfl, trivial⟩⟩, ⟨⟨rfl, ⟨(by first | rfl | (show Leaf.sc _ = Leaf.sc _; refine congrArg Leaf.sc ?_; first | rfl | go_num | (simp [cntAll]; done)) | (simp [cntAll]; done) | (simp; omega)), (by first | rfl | (show Leaf.sc _ = Leaf.sc _; refine congrArg Leaf.sc ?_; first | rfl | go_num | (simp [cntAll]; done)) | (simp [cntAll]; done) | (simp; omega)), (by first | rfl | (show Leaf.sc _ = Leaf.sc _; refine congrArg Leaf.sc ?_; first | rfl | go_num | (simp [cntAll]; done)) | (simp [cntAll]; done) | (simp; omega)), (by first | rfl | (show Leaf.sc _ = Leaf.sc _; refine congrArg Leaf.sc ?_; first | rfl | go_num | (simp [cntAll]; done)) | (simp [cntAll]; done) | (simp; omega)), trivial⟩⟩, trivial⟩⟩⟩ trivial nil_ob (fun i j hi hj e => absurd hi (Nat.not_lt_zero i)))
        · skip   -- first 2
          refine DC.mK (b := 0) hC rfl rfl ⟨_, _, Try.func32, rfl, by decide⟩ (vk_below 20 (by decide) (by decide)) rfl ⟨rfl, trivial⟩ rfl (by decide) (Nat.le_of_ble_eq_true rfl) hp3 rfl (Nat.le_of_ble_eq_true rfl) rfl ?_
          rintro x p5 h5 ⟨hx0, hx1⟩ hp5
          refine DC.m rfl (OpL.mk (nb := 3) (ok_load_bp (b := 2) (i := 0) (ag := true) (m := 4) (ys := [.sc _, .sc _, .sc _, .sc _]) rfl rfl rfl agg_impl_Account sz_impl_Account (fun h => by cases h) rfl rfl (Nat.le_of_ble_eq_true rfl)) rfl (Nat.le_of_ble_eq_true rfl)) rfl rfl (Nat.le_of_ble_eq_true rfl) ?_
          refine DC.m rfl (ok_call (ls := [(true, [.sc _, .sc _, .sc _, .sc _]), (false, [.sc _])]) rfl rfl ⟨_, _, Try.func13, rfl, by decide⟩ (vcharge_s g x) ⟨⟨[.sc _, .sc _, .sc _, .sc _], rfl, ⟨rfl, rfl, rfl, rfl, trivial⟩⟩, ⟨[.sc _], rfl, ⟨rfl, trivial⟩⟩, trivial⟩ rfl (Nat.le_of_ble_eq_true rfl)) rfl rfl (Nat.le_of_ble_eq_true rfl) ?_
          refine DC.q rfl (ok_move (v := ⟨true, [(true, [.sc _, .sc _, .sc _, .sc _]), (false, [.sc _])]⟩) (.inl rfl) rfl) rfl rfl (Nat.le_of_ble_eq_true rfl) (fun _ _ _ _ h => h) ?_
          refine DC.q rfl (ok_extract (ag := true) (xs := [.sc _, .sc _, .sc _, .sc _]) rfl rfl rfl) rfl rfl (Nat.le_of_ble_eq_true rfl) (fun _ _ _ _ h => h) ?_
          refine DC.q rfl (ok_extract (ag := false) (xs := [.sc _]) rfl rfl rfl) rfl rfl (Nat.le_of_ble_eq_true rfl) (fun _ _ _ _ h => h) ?_
          refine DC.store (b := 2) (i' := 0) (m := 4) (ag := true) (zs1 := [.sc _, .sc _, .sc _, .sc _]) (ys := [.sc _, .sc _, .sc _, .sc _]) rfl rfl rfl rfl sz_impl_Account (fun h => by cases h) rfl (Nat.le_of_ble_eq_true rfl) rfl rfl rfl rfl (by decide) (Nat.le_of_ble_eq_true rfl) rfl ?_
          refine DC.stores ?_
          refine SV.zend ?_
          refine SV.bn ?_
          refine SV.bn ?_
          refine SV.tn ?_
          refine SV.region ?_
          refine SV.op (OpL.ok (nb := 3) (ok_move (v := V.one (.sc _)) (.inl rfl) rfl) rfl (Nat.le_of_ble_eq_true rfl)) rfl ?_
          refine SV.op (OpL.ok (nb := 3) (ok_s2 (x := .tmp 17) (x' := .const ((Value.int IntKind.i64 1))) (VScal.one rfl) (VScal.one rfl) (fun ρ h1 h2 w => by go_simp; (try go_bits); with_reducible rfl) rfl) rfl (Nat.le_of_ble_eq_true rfl)) rfl ?_
          refine SV.op (OpL.ok (nb := 3) (ok_move (v := V.one (.sc _)) (.inr rfl) rfl) rfl (Nat.le_of_ble_eq_true rfl)) rfl ?_
          refine SV.nil ?_
          refine SV.tn ?_
          refine SV.again (fun i => [].getD i 0) ((p5, h5, n - 1, AccountD.charge g x)) (⟨⟨hp5, (by show (0 : Int) ≤ n - 1; omega), (by show n - 1 < (6 : Int); omega)⟩, (by show (n - 1).toNat < n.toNat; omega)⟩) (pinsC hE rfl) (VS.le.mk' (le_put (le_put (le_put (le_put (le_box (le_box (le_box le_nil))) (V.le.keep (ag := false) (xs := [.bp 0 0]) (ys := [.bp 0 0]) rfl rfl ⟨⟨rfl, (Nat.le_of_ble_eq_true rfl)⟩, trivial⟩)) (V.le.keep (ag := false) (xs := [.bp 1 0]) (ys := [.bp 1 0]) rfl rfl ⟨⟨rfl, (Nat.le_of_ble_eq_true rfl)⟩, trivial⟩)) (V.le.keep (ag := false) (xs := [.bp 2 0]) (ys := [.bp 2 0]) rfl rfl ⟨⟨rfl, (Nat.le_of_ble_eq_true rfl)⟩, trivial⟩)) (V.le.keep (ag := false) (xs := [.sc _]) (ys := [.sc _]) rfl rfl ⟨(by first | rfl | (show Leaf.sc _ = Leaf.sc _; refine congrArg Leaf.sc ?_; first | rfl | go_num | (simp [cntAll]; done)) | (simp [cntAll]; done) | (simp; omega)), trivial⟩)) ⟨⟨rfl, ⟨rfl, (by first | rfl | (show Leaf.sc _ = Leaf.sc _; refine congrArg Leaf.sc ?_; first | rfl | go_num | (simp [cntAll]; done)) | (simp [cntAll]; done) | (simp; omega)), (by first | rfl | (show Leaf.sc _ = Leaf.sc _; refine congrArg Leaf.sc ?_; first | rfl | go_num | (simp [cntAll]; done)) | (simp [cntAll]; done) | (simp; omega)), trivial⟩⟩, ⟨⟨rfl, ⟨rfl, rfl, rfl, rfl, trivial⟩⟩, ⟨⟨rfl, ⟨(by first | rfl | (show Leaf.sc _ = Leaf.sc _; refine congrArg Leaf.sc ?_; first | rfl | go_num | (simp [cntAll]; done)) | (simp [cntAll]; done) | (simp; omega)), (by first | rfl | (show Leaf.sc _ = Leaf.sc _; refine congrArg Leaf.sc ?_; first | rfl | go_num | (simp [cntAll]; done)) | (simp [cntAll]; done) | (simp; omega)), (by first | rfl | (show Leaf.sc _ = Leaf.sc _; refine congrArg Leaf.sc ?_; first | rfl | go_num | (simp [cntAll]; done)) | (simp [cntAll]; done) | (simp; omega)), (by first | rfl | (show Leaf.sc _ = Leaf.sc _; refine congrArg Leaf.sc ?_; first | rfl | go_num | (simp [cntAll]; done)) | (simp [cntAll]; done) | (simp; omega)), trivial⟩⟩, trivial⟩⟩⟩ trivial nil_ob (fun i j hi hj e => absurd hi (Nat.not_lt_zero i)))
      · skip   -- c1.F
        refine SV.seq' ?_
        refine SV.region ?_
        refine SV.op (OpL.ok (nb := 3) (ok_s2 (x := .tmp 20) (x' := .const ((Value.int IntKind.i64 1))) (VScal.one rfl) (VScal.one rfl) (fun ρ h1 h2 w => by go_simp; (try go_bits); with_reducible rfl) rfl) rfl (Nat.le_of_ble_eq_true rfl)) rfl ?_
        refine SV.op (OpL.ok (nb := 3) (ok_move (v := V.one (.sc _)) (.inr rfl) rfl) rfl (Nat.le_of_ble_eq_true rfl)) rfl ?_
        refine SV.nil ?_
        refine SV.tn ?_
        refine SV.cond rfl (fun hc2 => ?_) (fun hc2 => ?_)
        · skip   -- c2.T
          refine SV.drawCT [0, 2] (.q 1 (.alt 0 (.m 2 (.m 3 (.q 4 (.q 5 (.q 6 (.m 7 .nil)))))) 2 (.m 0 (.m 3 (.q 4 (.q 5 (.q 6 (.m 7 .nil)))))))) [] (by kernel_rfl) (by kernel_rfl) ?_
          refine DC.q rfl (ok_move (v := V.one (.bp 0 0)) (.inl rfl) rfl) rfl rfl (Nat.le_of_ble_eq_true rfl) (fun _ _ _ _ h => h) ?_
          refine DC.alt ?_ ?_
          · skip   -- first 0
            refine DC.m rfl (OpL.mk (nb := 3) (ok_load_bp (b := 2) (i := 0) (ag := true) (m := 4) (ys := [.sc _, .sc _, .sc _, .sc _]) rfl rfl rfl agg_impl_Account sz_impl_Account (fun h => by cases h) rfl rfl (Nat.le_of_ble_eq_true rfl)) rfl (Nat.le_of_ble_eq_true rfl)) rfl rfl (Nat.le_of_ble_eq_true rfl) ?_
            refine DC.mK (b := 0) hC rfl rfl ⟨_, _, Try.func32, rfl, by decide⟩ (vk_below 10 (by decide) (by decide)) rfl ⟨rfl, trivial⟩ rfl (by decide) (Nat.le_of_ble_eq_true rfl) hp3 rfl (Nat.le_of_ble_eq_true rfl) rfl ?_
            rintro x p6 h6 ⟨hx0, hx1⟩ hp6
            refine DC.m rfl (ok_call (ls := [(true, [.sc _, .sc _, .sc _, .sc _]), (false, [.sc _])]) rfl rfl ⟨_, _, Try.func23, rfl, by decide⟩ (vrelease_s g x) ⟨⟨[.sc _, .sc _, .sc _, .sc _], rfl, ⟨rfl, rfl, rfl, rfl, trivial⟩⟩, ⟨[.sc _], rfl, ⟨rfl, trivial⟩⟩, trivial⟩ rfl (Nat.le_of_ble_eq_true rfl)) rfl rfl (Nat.le_of_ble_eq_true rfl) ?_
            refine DC.q rfl (ok_move (v := ⟨true, [(true, [.sc _, .sc _, .sc _, .sc _]), (false, [.sc _])]⟩) (.inl rfl) rfl) rfl rfl (Nat.le_of_ble_eq_true rfl) (fun _ _ _ _ h => h) ?_
            refine DC.q rfl (ok_extract (ag := true) (xs := [.sc _, .sc _, .sc _, .sc _]) rfl rfl rfl) rfl rfl (Nat.le_of_ble_eq_true rfl) (fun _ _ _ _ h => h) ?_
            refine DC.q rfl (ok_extract (ag := false) (xs := [.sc _]) rfl rfl rfl) rfl rfl (Nat.le_of_ble_eq_true rfl) (fun _ _ _ _ h => h) ?_
            refine DC.store (b := 2) (i' := 0) (m := 4) (ag := true) (zs1 := [.sc _, .sc _, .sc _, .sc _]) (ys := [.sc _, .sc _, .sc _, .sc _]) rfl rfl rfl rfl sz_impl_Account (fun h => by cases h) rfl (Nat.le_of_ble_eq_true rfl) rfl rfl rfl rfl (by decide) (Nat.le_of_ble_eq_true rfl) rfl ?_
            refine DC.stores ?_
            refine SV.zend ?_
            refine SV.bn ?_
            refine SV.bn ?_
            refine SV.tn ?_
            refine SV.region ?_
            refine SV.op (OpL.ok (nb := 3) (ok_move (v := V.one (.sc _)) (.inl rfl) rfl) rfl (Nat.le_of_ble_eq_true rfl)) rfl ?_
            refine SV.op (OpL.ok (nb := 3) (ok_s2 (x := .tmp 17) (x' := .const ((Value.int IntKind.i64 1))) (VScal.one rfl) (VScal.one rfl) (fun ρ h1 h2 w => by go_simp; (try go_bits); with_reducible rfl) rfl) rfl (Nat.le_of_ble_eq_true rfl)) rfl ?_
            refine SV.op (OpL.ok (nb := 3) (ok_move (v := V.one (.sc _)) (.inr rfl) rfl) rfl (Nat.le_of_ble_eq_true rfl)) rfl ?_
            refine SV.nil ?_
            refine SV.tn ?_
            refine SV.again (fun i => [].getD i 0) ((p6, h6, n - 1, AccountD.release g x)) (⟨⟨hp6, (by show (0 : Int) ≤ n - 1; omega), (by show n - 1 < (6 : Int); omega)⟩, (by show (n - 1).toNat < n.toNat; omega)⟩) (pinsC hE rfl) (VS.le.mk' (le_put (le_put (le_put (le_put (le_box (le_box (le_box le_nil))) (V.le.keep (ag := false) (xs := [.bp 0 0]) (ys := [.bp 0 0]) rfl rfl ⟨⟨rfl, (Nat.le_of_ble_eq_true rfl)⟩, trivial⟩)) (V.le.keep (ag := false) (xs := [.bp 1 0]) (ys := [.bp 1 0]) rfl rfl ⟨⟨rfl, (Nat.le_of_ble_eq_true rfl)⟩, trivial⟩)) (V.le.keep (ag := false) (xs := [.bp 2 0]) (ys := [.bp 2 0]) rfl rfl ⟨⟨rfl, (Nat.le_of_ble_eq_true rfl)⟩, trivial⟩)) (V.le.keep (ag := false) (xs := [.sc _]) (ys := [.sc _]) rfl rfl ⟨(by first | rfl | (show Leaf.sc _ = Leaf.sc _; refine congrArg Leaf.sc ?_; first | rfl | go_num | (simp [cntAll]; done)) | (simp [cntAll]; done) | (simp; omega)), trivial⟩)) ⟨⟨rfl, ⟨rfl, (by first | rfl | (show Leaf.sc _ = Leaf.sc _; refine congrArg Leaf.sc ?_; first | rfl | go_num | (simp [cntAll]; done)) | (simp [cntAll]; done) | (simp; omega)), (by first | rfl | (show Leaf.sc _ = Leaf.sc _; refine congrArg Leaf.sc ?_; first | rfl | go_num | (simp [cntAll]; done)) | (simp [cntAll]; done) | (simp; omega)), trivial⟩⟩, ⟨⟨rfl, ⟨rfl, rfl, rfl, rfl, trivial⟩⟩, ⟨⟨rfl, ⟨(by first | rfl | (show Leaf.sc _ = Leaf.sc _; refine congrArg Leaf.sc ?_; first | rfl | go_num | (simp [cntAll]; done)) | (simp [cntAll]; done) | (simp; omega)), (by first | rfl | (show Leaf.sc _ = Leaf.sc _; refine congrArg Leaf.sc ?_; first | rfl | go_num | (simp [cntAll]; done)) | (simp [cntAll]; done) | (simp; omega)), (by first | rfl | (show Leaf.sc _ = Leaf.sc _; refine congrArg Leaf.sc ?_; first | rfl | go_num | (simp [cntAll]; done)) | (simp [cntAll]; done) | (simp; omega)), (by first | rfl | (show Leaf.sc _ = Leaf.sc _; refine congrArg Leaf.sc ?_; first | rfl | go_num | (simp [cntAll]; done)) | (simp [cntAll]; done) | (simp; omega)), trivial⟩⟩, trivial⟩⟩⟩ trivial nil_ob (fun i j hi hj e => absurd hi (Nat.not_lt_zero i)))
          · skip   -- first 2
            refine DC.mK (b := 0) hC rfl rfl ⟨_, _, Try.func32, rfl, by decide⟩ (vk_below 10 (by decide) (by decide)) rfl ⟨rfl, trivial⟩ rfl (by decide) (Nat.le_of_ble_eq_true rfl) hp3 rfl (Nat.le_of_ble_eq_true rfl) rfl ?_
            rintro x p7 h7 ⟨hx0, hx1⟩ hp7
            refine DC.m rfl (OpL.mk (nb := 3) (ok_load_bp (b := 2) (i := 0) (ag := true) (m := 4) (ys := [.sc _, .sc _, .sc _, .sc _]) rfl rfl rfl agg_impl_Account sz_impl_Account (fun h => by cases h) rfl rfl (Nat.le_of_ble_eq_true rfl)) rfl (Nat.le_of_ble_eq_true rfl)) rfl rfl (Nat.le_of_ble_eq_true rfl) ?_
            refine DC.m rfl (ok_call (ls := [(true, [.sc _, .sc _, .sc _, .sc _]), (false, [.sc _])]) rfl rfl ⟨_, _, Try.func23, rfl, by decide⟩ (vrelease_s g x) ⟨⟨[.sc _, .sc _, .sc _, .sc _], rfl, ⟨rfl, rfl, rfl, rfl, trivial⟩⟩, ⟨[.sc _], rfl, ⟨rfl, trivial⟩⟩, trivial⟩ rfl (Nat.le_of_ble_eq_true rfl)) rfl rfl (Nat.le_of_ble_eq_true rfl) ?_
            refine DC.q rfl (ok_move (v := ⟨true, [(true, [.sc _, .sc _, .sc _, .sc _]), (false, [.sc _])]⟩) (.inl rfl) rfl) rfl rfl (Nat.le_of_ble_eq_true rfl) (fun _ _ _ _ h => h) ?_
            refine DC.q rfl (ok_extract (ag := true) (xs := [.sc _, .sc _, .sc _, .sc _]) rfl rfl rfl) rfl rfl (Nat.le_of_ble_eq_true rfl) (fun _ _ _ _ h => h) ?_
            refine DC.q rfl (ok_extract (ag := false) (xs := [.sc _]) rfl rfl rfl) rfl rfl (Nat.le_of_ble_eq_true rfl) (fun _ _ _ _ h => h) ?_
            refine DC.store (b := 2) (i' := 0) (m := 4) (ag := true) (zs1 := [.sc _, .sc _, .sc _, .sc _]) (ys := [.sc _, .sc _, .sc _, .sc _]) rfl rfl rfl rfl sz_impl_Account (fun h => by cases h) rfl (Nat.le_of_ble_eq_true rfl) rfl rfl rfl rfl (by decide) (Nat.le_of_ble_eq_true rfl) rfl ?_
            refine DC.stores ?_
            refine SV.zend ?_
            refine SV.bn ?_
            refine SV.bn ?_
            refine SV.tn ?_
            refine SV.region ?_
            refine SV.op (OpL.ok (nb := 3) (ok_move (v := V.one (.sc _)) (.inl rfl) rfl) rfl (Nat.le_of_ble_eq_true rfl)) rfl ?_
            refine SV.op (OpL.ok (nb := 3) (ok_s2 (x := .tmp 17) (x' := .const ((Value.int IntKind.i64 1))) (VScal.one rfl) (VScal.one rfl) (fun ρ h1 h2 w => by go_simp; (try go_bits); with_reducible rfl) rfl) rfl (Nat.le_of_ble_eq_true rfl)) rfl ?_
            refine SV.op (OpL.ok (nb := 3) (ok_move (v := V.one (.sc _)) (.inr rfl) rfl) rfl (Nat.le_of_ble_eq_true rfl)) rfl ?_
            refine SV.nil ?_
            refine SV.tn ?_
            refine SV.again (fun i => [].getD i 0) ((p7, h7, n - 1, AccountD.release g x)) (⟨⟨hp7, (by show (0 : Int) ≤ n - 1; omega), (by show n - 1 < (6 : Int); omega)⟩, (by show (n - 1).toNat < n.toNat; omega)⟩) (pinsC hE rfl) (VS.le.mk' (le_put (le_put (le_put (le_put (le_box (le_box (le_box le_nil))) (V.le.keep (ag := false) (xs := [.bp 0 0]) (ys := [.bp 0 0]) rfl rfl ⟨⟨rfl, (Nat.le_of_ble_eq_true rfl)⟩, trivial⟩)) (V.le.keep (ag := false) (xs := [.bp 1 0]) (ys := [.bp 1 0]) rfl rfl ⟨⟨rfl, (Nat.le_of_ble_eq_true rfl)⟩, trivial⟩)) (V.le.keep (ag := false) (xs := [.bp 2 0]) (ys := [.bp 2 0]) rfl rfl ⟨⟨rfl, (Nat.le_of_ble_eq_true rfl)⟩, trivial⟩)) (V.le.keep (ag := false) (xs := [.sc _]) (ys := [.sc _]) rfl rfl ⟨(by first | rfl | (show Leaf.sc _ = Leaf.sc _; refine congrArg Leaf.sc ?_; first | rfl | go_num | (simp [cntAll]; done)) | (simp [cntAll]; done) | (simp; omega)), trivial⟩)) ⟨⟨rfl, ⟨rfl, (by first | rfl | (show Leaf.sc _ = Leaf.sc _; refine congrArg Leaf.sc ?_; first | rfl | go_num | (simp [cntAll]; done)) | (simp [cntAll]; done) | (simp; omega)), (by first | rfl | (show Leaf.sc _ = Leaf.sc _; refine congrArg Leaf.sc ?_; first | rfl | go_num | (simp [cntAll]; done)) | (simp [cntAll]; done) | (simp; omega)), trivial⟩⟩, ⟨⟨rfl, ⟨rfl, rfl, rfl, rfl, trivial⟩⟩, ⟨⟨rfl, ⟨(by first | rfl | (show Leaf.sc _ = Leaf.sc _; refine congrArg Leaf.sc ?_; first | rfl | go_num | (simp [cntAll]; done)) | (simp [cntAll]; done) | (simp; omega)), (by first | rfl | (show Leaf.sc _ = Leaf.sc _; refine congrArg Leaf.sc ?_; first | rfl | go_num | (simp [cntAll]; done)) | (simp [cntAll]; done) | (simp; omega)), (by first | rfl | (show Leaf.sc _ = Leaf.sc _; refine congrArg Leaf.sc ?_; first | rfl | go_num | (simp [cntAll]; done)) | (simp [cntAll]; done) | (simp; omega)), (by first | rfl | (show Leaf.sc _ = Leaf.sc _; refine congrArg Leaf.sc ?_; first | rfl | go_num | (simp [cntAll]; done)) | (simp [cntAll]; done) | (simp; omega)), trivial⟩⟩, trivial⟩⟩⟩ trivial nil_ob (fun i j hi hj e => absurd hi (Nat.not_lt_zero i)))
        · skip   -- c2.F
          refine SV.drawCT [0, 2] (.q 1 (.alt 0 (.m 2 (.q 3 (.m 4 (.q 5 (.q 6 (.q 7 (.m 8 .nil))))))) 2 (.q 3 (.m 0 (.m 4 (.q 5 (.q 6 (.q 7 (.m 8 .nil))))))))) [] (by kernel_rfl) (by kernel_rfl) ?_
          refine DC.q rfl (ok_move (v := V.one (.bp 0 0)) (.inl rfl) rfl) rfl rfl (Nat.le_of_ble_eq_true rfl) (fun _ _ _ _ h => h) ?_
          refine DC.alt ?_ ?_
          · skip   -- first 0
            refine DC.m rfl (OpL.mk (nb := 3) (ok_load_bp (b := 2) (i := 0) (ag := true) (m := 4) (ys := [.sc _, .sc _, .sc _, .sc _]) rfl rfl rfl agg_impl_Account sz_impl_Account (fun h => by cases h) rfl rfl (Nat.le_of_ble_eq_true rfl)) rfl (Nat.le_of_ble_eq_true rfl)) rfl rfl (Nat.le_of_ble_eq_true rfl) ?_
            refine DC.mK (b := 0) hC rfl rfl ⟨_, _, Try.func32, rfl, by decide⟩ (vk_below 40 (by decide) (by decide)) rfl ⟨rfl, trivial⟩ rfl (by decide) (Nat.le_of_ble_eq_true rfl) hp3 rfl (Nat.le_of_ble_eq_true rfl) rfl ?_
            rintro x p8 h8 ⟨hx0, hx1⟩ hp8
            refine DC.q rfl (ok_s2 (v := .int .i64 (8 + x)) (x := .const ((Value.int IntKind.i64 8))) (x' := .tmp 24) (VScal.one rfl) (VScal.one rfl) (fun ρ h1 h2 w => by go_simp; rw [IntWalk.i64_left, IntWalk.wrap64_in _ ⟨by omega, by omega⟩]) rfl) rfl rfl (Nat.le_of_ble_eq_true rfl) (fun _ _ _ _ h => h) ?_
            refine DC.m rfl (ok_call (ls := [(true, [.sc _, .sc _, .sc _, .sc _]), (false, [.sc _])]) rfl rfl ⟨_, _, Try.func20, rfl, by decide⟩ (vsetGrant_s g (8 + x)) ⟨⟨[.sc _, .sc _, .sc _, .sc _], rfl, ⟨rfl, rfl, rfl, rfl, trivial⟩⟩, ⟨[.sc _], rfl, ⟨rfl, trivial⟩⟩, trivial⟩ rfl (Nat.le_of_ble_eq_true rfl)) rfl rfl (Nat.le_of_ble_eq_true rfl) ?_
            refine DC.q rfl (ok_move (v := ⟨true, [(true, [.sc _, .sc _, .sc _, .sc _]), (false, [.sc _])]⟩) (.inl rfl) rfl) rfl rfl (Nat.le_of_ble_eq_true rfl) (fun _ _ _ _ h => h) ?_
            refine DC.q rfl (ok_extract (ag := true) (xs := [.sc _, .sc _, .sc _, .sc _]) rfl rfl rfl) rfl rfl (Nat.le_of_ble_eq_true rfl) (fun _ _ _ _ h => h) ?_
            refine DC.q rfl (ok_extract (ag := false) (xs := [.sc _]) rfl rfl rfl) rfl rfl (Nat.le_of_ble_eq_true rfl) (fun _ _ _ _ h => h) ?_
            refine DC.store (b := 2) (i' := 0) (m := 4) (ag := true) (zs1 := [.sc _, .sc _, .sc _, .sc _]) (ys := [.sc _, .sc _, .sc _, .sc _]) rfl rfl rfl rfl sz_impl_Account (fun h => by cases h) rfl (Nat.le_of_ble_eq_true rfl) rfl rfl rfl rfl (by decide) (Nat.le_of_ble_eq_true rfl) rfl ?_
            refine DC.stores ?_
            refine SV.zend ?_
            refine SV.bn ?_
            refine SV.bn ?_
            refine SV.tn ?_
            refine SV.region ?_
            refine SV.op (OpL.ok (nb := 3) (ok_move (v := V.one (.sc _)) (.inl rfl) rfl) rfl (Nat.le_of_ble_eq_true rfl)) rfl ?_
            refine SV.op (OpL.ok (nb := 3) (ok_s2 (x := .tmp 17) (x' := .const ((Value.int IntKind.i64 1))) (VScal.one rfl) (VScal.one rfl) (fun ρ h1 h2 w => by go_simp; (try go_bits); with_reducible rfl) rfl) rfl (Nat.le_of_ble_eq_true rfl)) rfl ?_
            refine SV.op (OpL.ok (nb := 3) (ok_move (v := V.one (.sc _)) (.inr rfl) rfl) rfl (Nat.le_of_ble_eq_true rfl)) rfl ?_
            refine SV.nil ?_
            refine SV.tn ?_
            refine SV.again (fun i => [].getD i 0) ((p8, h8, n - 1, AccountD.setGrant g (8 + x))) (⟨⟨hp8, (by show (0 : Int) ≤ n - 1; omega), (by show n - 1 < (6 : Int); omega)⟩, (by show (n - 1).toNat < n.toNat; omega)⟩) (pinsC hE rfl) (VS.le.mk' (le_put (le_put (le_put (le_put (le_box (le_box (le_box le_nil))) (V.le.keep (ag := false) (xs := [.bp 0 0]) (ys := [.bp 0 0]) rfl rfl ⟨⟨rfl, (Nat.le_of_ble_eq_true rfl)⟩, trivial⟩)) (V.le.keep (ag := false) (xs := [.bp 1 0]) (ys := [.bp 1 0]) rfl rfl ⟨⟨rfl, (Nat.le_of_ble_eq_true rfl)⟩, trivial⟩)) (V.le.keep (ag := false) (xs := [.bp 2 0]) (ys := [.bp 2 0]) rfl rfl ⟨⟨rfl, (Nat.le_of_ble_eq_true rfl)⟩, trivial⟩)) (V.le.keep (ag := false) (xs := [.sc _]) (ys := [.sc _]) rfl rfl ⟨(by first | rfl | (show Leaf.sc _ = Leaf.sc _; refine congrArg Leaf.sc ?_; first | rfl | go_num | (simp [cntAll]; done)) | (simp [cntAll]; done) | (simp; omega)), trivial⟩)) ⟨⟨rfl, ⟨rfl, (by first | rfl | (show Leaf.sc _ = Leaf.sc _; refine congrArg Leaf.sc ?_; first | rfl | go_num | (simp [cntAll]; done)) | (simp [cntAll]; done) | (simp; omega)), (by first | rfl | (show Leaf.sc _ = Leaf.sc _; refine congrArg Leaf.sc ?_; first | rfl | go_num | (simp [cntAll]; done)) | (simp [cntAll]; done) | (simp; omega)), trivial⟩⟩, ⟨⟨rfl, ⟨rfl, rfl, rfl, rfl, trivial⟩⟩, ⟨⟨rfl, ⟨(by first | rfl | (show Leaf.sc _ = Leaf.sc _; refine congrArg Leaf.sc ?_; first | rfl | go_num | (simp [cntAll]; done)) | (simp [cntAll]; done) | (simp; omega)), (by first | rfl | (show Leaf.sc _ = Leaf.sc _; refine congrArg Leaf.sc ?_; first | rfl | go_num | (simp [cntAll]; done)) | (simp [cntAll]; done) | (simp; omega)), (by first | rfl | (show Leaf.sc _ = Leaf.sc _; refine congrArg Leaf.sc ?_; first | rfl | go_num | (simp [cntAll]; done)) | (simp [cntAll]; done) | (simp; omega)), (by first | rfl | (show Leaf.sc _ = Leaf.sc _; refine congrArg Leaf.sc ?_; first | rfl | go_num | (simp [cntAll]; done)) | (simp [cntAll]; done) | (simp; omega)), trivial⟩⟩, trivial⟩⟩⟩ trivial nil_ob (fun i j hi hj e => absurd hi (Nat.not_lt_zero i)))
          · skip   -- first 2
            refine DC.mK (b := 0) hC rfl rfl ⟨_, _, Try.func32, rfl, by decide⟩ (vk_below 40 (by decide) (by decide)) rfl ⟨rfl, trivial⟩ rfl (by decide) (Nat.le_of_ble_eq_true rfl) hp3 rfl (Nat.le_of_ble_eq_true rfl) rfl ?_
            rintro x p9 h9 ⟨hx0, hx1⟩ hp9
            refine DC.q rfl (ok_s2 (v := .int .i64 (8 + x)) (x := .const ((Value.int IntKind.i64 8))) (x' := .tmp 24) (VScal.one rfl) (VScal.one rfl) (fun ρ h1 h2 w => by go_simp; rw [IntWalk.i64_left, IntWalk.wrap64_in _ ⟨by omega, by omega⟩]) rfl) rfl rfl (Nat.le_of_ble_eq_true rfl) (fun _ _ _ _ h => h) ?_
            refine DC.m rfl (OpL.mk (nb := 3) (ok_load_bp (b := 2) (i := 0) (ag := true) (m := 4) (ys := [.sc _, .sc _, .sc _, .sc _]) rfl rfl rfl agg_impl_Account sz_impl_Account (fun h => by cases h) rfl rfl (Nat.le_of_ble_eq_true rfl)) rfl (Nat.le_of_ble_eq_true rfl)) rfl rfl (Nat.le_of_ble_eq_true rfl) ?_
            refine DC.m rfl (ok_call (ls := [(true, [.sc _, .sc _, .sc _, .sc _]), (false, [.sc _])]) rfl rfl ⟨_, _, Try.func20, rfl, by decide⟩ (vsetGrant_s g (8 + x)) ⟨⟨[.sc _, .sc _, .sc _, .sc _], rfl, ⟨rfl, rfl, rfl, rfl, trivial⟩⟩, ⟨[.sc _], rfl, ⟨rfl, trivial⟩⟩, trivial⟩ rfl (Nat.le_of_ble_eq_true rfl)) rfl rfl (Nat.le_of_ble_eq_true rfl) ?_
            refine DC.q rfl (ok_move (v := ⟨true, [(true, [.sc _, .sc _, .sc _, .sc _]), (false, [.sc _])]⟩) (.inl rfl) rfl) rfl rfl (Nat.le_of_ble_eq_true rfl) (fun _ _ _ _ h => h) ?_
            refine DC.q rfl (ok_extract (ag := true) (xs := [.sc _, .sc _, .sc _, .sc _]) rfl rfl rfl) rfl rfl (Nat.le_of_ble_eq_true rfl) (fun _ _ _ _ h => h) ?_
            refine DC.q rfl (ok_extract (ag := false) (xs := [.sc _]) rfl rfl rfl) rfl rfl (Nat.le_of_ble_eq_true rfl) (fun _ _ _ _ h => h) ?_
            refine DC.store (b := 2) (i' := 0) (m := 4) (ag := true) (zs1 := [.sc _, .sc _, .sc _, .sc _]) (ys := [.sc _, .sc _, .sc _, .sc _]) rfl rfl rfl rfl sz_impl_Account (fun h => by cases h) rfl (Nat.le_of_ble_eq_true rfl) rfl rfl rfl rfl (by decide) (Nat.le_of_ble_eq_true rfl) rfl ?_
            refine DC.stores ?_
            refine SV.zend ?_
            refine SV.bn ?_
            refine SV.bn ?_
            refine SV.tn ?_
            refine SV.region ?_
            refine SV.op (OpL.ok (nb := 3) (ok_move (v := V.one (.sc _)) (.inl rfl) rfl) rfl (Nat.le_of_ble_eq_true rfl)) rfl ?_
            refine SV.op (OpL.ok (nb := 3) (ok_s2 (x := .tmp 17) (x' := .const ((Value.int IntKind.i64 1))) (VScal.one rfl) (VScal.one rfl) (fun ρ h1 h2 w => by go_simp; (try go_bits); with_reducible rfl) rfl) rfl (Nat.le_of_ble_eq_true rfl)) rfl ?_
            refine SV.op (OpL.ok (nb := 3) (ok_move (v := V.one (.sc _)) (.inr rfl) rfl) rfl (Nat.le_of_ble_eq_true rfl)) rfl ?_
            refine SV.nil ?_
            refine SV.tn ?_
            refine SV.again (fun i => [].getD i 0) ((p9, h9, n - 1, AccountD.setGrant g (8 + x))) (⟨⟨hp9, (by show (0 : Int) ≤ n - 1; omega), (by show n - 1 < (6 : Int); omega)⟩, (by show (n - 1).toNat < n.toNat; omega)⟩) (pinsC hE rfl) (VS.le.mk' (le_put (le_put (le_put (le_put (le_box (le_box (le_box le_nil))) (V.le.keep (ag := false) (xs := [.bp 0 0]) (ys := [.bp 0 0]) rfl rfl ⟨⟨rfl, (Nat.le_of_ble_eq_true rfl)⟩, trivial⟩)) (V.le.keep (ag := false) (xs := [.bp 1 0]) (ys := [.bp 1 0]) rfl rfl ⟨⟨rfl, (Nat.le_of_ble_eq_true rfl)⟩, trivial⟩)) (V.le.keep (ag := false) (xs := [.bp 2 0]) (ys := [.bp 2 0]) rfl rfl ⟨⟨rfl, (Nat.le_of_ble_eq_true rfl)⟩, trivial⟩)) (V.le.keep (ag := false) (xs := [.sc _]) (ys := [.sc _]) rfl rfl ⟨(by first | rfl | (show Leaf.sc _ = Leaf.sc _; refine congrArg Leaf.sc ?_; first | rfl | go_num | (simp [cntAll]; done)) | (simp [cntAll]; done) | (simp; omega)), trivial⟩)) ⟨⟨rfl, ⟨rfl, (by first | rfl | (show Leaf.sc _ = Leaf.sc _; refine congrArg Leaf.sc ?_; first | rfl | go_num | (simp [cntAll]; done)) | (simp [cntAll]; done) | (simp; omega)), (by first | rfl | (show Leaf.sc _ = Leaf.sc _; refine congrArg Leaf.sc ?_; first | rfl | go_num | (simp [cntAll]; done)) | (simp [cntAll]; done) | (simp; omega)), trivial⟩⟩, ⟨⟨rfl, ⟨rfl, rfl, rfl, rfl, trivial⟩⟩, ⟨⟨rfl, ⟨(by first | rfl | (show Leaf.sc _ = Leaf.sc _; refine congrArg Leaf.sc ?_; first | rfl | go_num | (simp [cntAll]; done)) | (simp [cntAll]; done) | (simp; omega)), (by first | rfl | (show Leaf.sc _ = Leaf.sc _; refine congrArg Leaf.sc ?_; first | rfl | go_num | (simp [cntAll]; done)) | (simp [cntAll]; done) | (simp; omega)), (by first | rfl | (show Leaf.sc _ = Leaf.sc _; refine congrArg Leaf.sc ?_; first | rfl | go_num | (simp [cntAll]; done)) | (simp [cntAll]; done) | (simp; omega)), (by first | rfl | (show Leaf.sc _ = Leaf.sc _; refine congrArg Leaf.sc ?_; first | rfl | go_num | (simp [cntAll]; done)) | (simp [cntAll]; done) | (simp; omega)), trivial⟩⟩, trivial⟩⟩⟩ trivial nil_ob (fun i j hi hj e => absurd hi (Nat.not_lt_zero i)))
    · skip   -- c0.F
      refine SV.exit ?_
      refine SV.te ?_
      refine SV.te ?_
      refine SV.bh ?_
      refine SV.tn ?_
      refine SV.seq' ?_
      refine SV.seq' ?_
      refine SV.region ?_
      refine SV.op (OpL.ok (nb := 3) (ok_move (v := V.one (.bp 0 0)) (.inl rfl) rfl) rfl (Nat.le_of_ble_eq_true rfl)) rfl ?_
      refine SV.callK (b := 0) hC rfl ⟨_, _, Try.func32, rfl, by decide⟩ (vk_below 12 (by decide) (by decide)) rfl ⟨rfl, trivial⟩ rfl hq rfl (Nat.le_of_ble_eq_true rfl) (fun _ => wanted0 rfl) ?_
      rintro s p10 h10 ⟨hx0, hx1⟩ hp10
      refine SV.nil ?_
      refine SV.tn ?_
      refine SV.block ?_
      refine SV.seq' ?_
      refine SV.region ?_
      refine SV.op (OpL.ok (nb := 3) (ok_s2 (x := .tmp 48) (x' := .const ((Value.int IntKind.i64 0))) (VScal.one rfl) (VScal.one rfl) (fun ρ h1 h2 w => by go_simp; (try go_bits); with_reducible rfl) rfl) rfl (Nat.le_of_ble_eq_true rfl)) rfl ?_
      refine SV.op (OpL.ok (nb := 3) (ok_move (v := V.one (.sc _)) (.inr rfl) rfl) rfl (Nat.le_of_ble_eq_true rfl)) rfl ?_
      refine SV.nil ?_
      refine SV.tn ?_
      refine SV.cond rfl (fun hc3 => ?_) (fun hc3 => ?_)
      · skip   -- c3.T
        refine SV.region ?_
        refine SV.op (OpL.ok (nb := 3) (ok_move (v := V.one (.bp 0 0)) (.inl rfl) rfl) rfl (Nat.le_of_ble_eq_true rfl)) rfl ?_
        refine SV.op (OpL.ok (nb := 3) (ok_field_bp (b := 2) (o' := 0) (off := 2) rfl rfl fld_impl_Account_2) rfl (Nat.le_of_ble_eq_true rfl)) rfl ?_
        refine SV.op (OpL.ok (nb := 3) (ok_load_bp (b := 2) (i := 2) (ag := false) (m := 1) (ys := [.sc _]) rfl rfl rfl agg_int sz_int (fun _ => rfl) rfl rfl (Nat.le_of_ble_eq_true rfl)) rfl (Nat.le_of_ble_eq_true rfl)) rfl ?_
        refine SV.op (OpL.ok (nb := 3) (ok_s2 (v := .int .i64 (wrap64 (g.fPeak + 1))) (x := .tmp 53) (x' := .const ((Value.int IntKind.i64 1))) (VScal.one rfl) (VScal.one rfl) (fun ρ h1 h2 w => by go_simp; rw [IntWalk.i64_left]) rfl) rfl (Nat.le_of_ble_eq_true rfl)) rfl ?_
        refine SV.op (OpMk.ok (ok_litS (kk := 0) (xs := [.const ((Value.int IntKind.i64 (-1))), .const ((Value.int IntKind.i64 61)), .tmp 54]) (us := [_, _, _]) elt_int rfl rfl rfl rfl (by decide) (by decide) ⟨rfl, rfl, rfl, trivial⟩ rfl (Nat.le_of_ble_eq_true rfl))) rfl ?_
        refine SV.callKT (b := 0) hC rfl ⟨_, _, Try.func31, rfl, by decide⟩ (vk_pick [-1, 61, wrap64 (g.fPeak + 1)] (by simp) (by simp)) rfl ⟨⟨[.hd 0], rfl, ⟨rfl, trivial⟩⟩, trivial⟩ rfl hp10 rfl (Nat.le_of_ble_eq_true rfl) (fun _ => wanted0 rfl) ?_
        rintro x p11 h11 hx hp11
        refine SV.op (OpL.ok (nb := 3) (ok_field_bp (b := 2) (o' := 0) (off := 0) rfl rfl fld_impl_Account_0) rfl (Nat.le_of_ble_eq_true rfl)) rfl ?_
        refine SV.op (ok_store_bp (b := 2) (i := 0) (m := 1) (ag := false) (zs := [.sc _]) (ys := [.sc _, .sc _, .sc _, .sc _]) rfl rfl rfl rfl sz_int (fun _ => rfl) rfl (Nat.le_of_ble_eq_true rfl) rfl rfl rfl) rfl ?_
        refine SV.nil ?_
        refine SV.bn ?_
        refine SV.tn ?_
        refine SV.seq' ?_
        refine SV.region ?_
        refine SV.op (OpL.ok (nb := 3) (ok_load_bp (b := 2) (i := 0) (ag := true) (m := 4) (ys := [.sc _, .sc _, .sc _, .sc _]) rfl rfl rfl agg_impl_Account sz_impl_Account (fun h => by cases h) rfl rfl (Nat.le_of_ble_eq_true rfl)) rfl (Nat.le_of_ble_eq_true rfl)) rfl ?_
        refine SV.op (ok_store_bp (b := 1) (i := 0) (m := 4) (ag := true) (zs := [.sc _, .sc _, .sc _, .sc _]) (ys := [.sc _, .sc _, .sc _, .sc _]) rfl rfl rfl rfl sz_impl_Account (fun h => by cases h) rfl (Nat.le_of_ble_eq_true rfl) rfl rfl rfl) rfl ?_
        refine SV.nil ?_
        refine SV.tn ?_
        refine SV.ret ?_
        apply SV.doneK (Pr := fun _ : AccountD => True) (rs := fun y => [(true, tAccount y)]) (y := ⟨x, g.fGrant, g.fPeak, g.fOvercommits⟩) (hy := trivial) (hC := hC) (hpin := hpin) (hp := hp11) (hbx := rfl) (hf := Try.results30) (ht := rfl) (he := .inl rfl)
        case hr => exact (ResAll.cons (ResOk.cell (b := 1) (ag := true) (xs := [.sc _, .sc _, .sc _, .sc _]) rfl rfl agg_impl_Account sz_impl_Account (fun h => by cases h)) ResAll.nil')
        case h2 => simp [two]
        refine ⟨rfl, ⟨?_, ?_, ?_, ?_, trivial⟩, trivial⟩ <;> rfl
      · skip   -- c3.F
        refine SV.seq' ?_
        refine SV.region ?_
        refine SV.op (OpL.ok (nb := 3) (ok_s2 (x := .tmp 48) (x' := .const ((Value.int IntKind.i64 1))) (VScal.one rfl) (VScal.one rfl) (fun ρ h1 h2 w => by go_simp; (try go_bits); with_reducible rfl) rfl) rfl (Nat.le_of_ble_eq_true rfl)) rfl ?_
        refine SV.op (OpL.ok (nb := 3) (ok_move (v := V.one (.sc _)) (.inr rfl) rfl) rfl (Nat.le_of_ble_eq_true rfl)) rfl ?_
        refine SV.nil ?_
        refine SV.tn ?_
        refine SV.cond rfl (fun hc4 => ?_) (fun hc4 => ?_)
        · skip   -- c4.T
          refine SV.region ?_
          refine SV.op (OpL.ok (nb := 3) (ok_move (v := V.one (.bp 0 0)) (.inl rfl) rfl) rfl (Nat.le_of_ble_eq_true rfl)) rfl ?_
          refine SV.op (OpMk.ok (ok_litS (kk := 0) (xs := [.const ((Value.int IntKind.i64 7)), .const ((Value.int IntKind.i64 61))]) (us := [_, _]) elt_int rfl rfl rfl rfl (by decide) (by decide) ⟨rfl, rfl, trivial⟩ rfl (Nat.le_of_ble_eq_true rfl))) rfl ?_
          refine SV.callKT (b := 0) hC rfl ⟨_, _, Try.func31, rfl, by decide⟩ (vk_pick [7, 61] (by decide) (by decide)) rfl ⟨⟨[.hd 0], rfl, ⟨rfl, trivial⟩⟩, trivial⟩ rfl hp10 rfl (Nat.le_of_ble_eq_true rfl) (fun _ => wanted0 rfl) ?_
          rintro x p12 h12 hx hp12
          refine SV.op (OpL.ok (nb := 3) (ok_field_bp (b := 2) (o' := 0) (off := 1) rfl rfl fld_impl_Account_1) rfl (Nat.le_of_ble_eq_true rfl)) rfl ?_
          refine SV.op (ok_store_bp (b := 2) (i := 1) (m := 1) (ag := false) (zs := [.sc _]) (ys := [.sc _, .sc _, .sc _, .sc _]) rfl rfl rfl rfl sz_int (fun _ => rfl) rfl (Nat.le_of_ble_eq_true rfl) rfl rfl rfl) rfl ?_
          refine SV.nil ?_
          refine SV.bn ?_
          refine SV.tn ?_
          refine SV.seq' ?_
          refine SV.region ?_
          refine SV.op (OpL.ok (nb := 3) (ok_load_bp (b := 2) (i := 0) (ag := true) (m := 4) (ys := [.sc _, .sc _, .sc _, .sc _]) rfl rfl rfl agg_impl_Account sz_impl_Account (fun h => by cases h) rfl rfl (Nat.le_of_ble_eq_true rfl)) rfl (Nat.le_of_ble_eq_true rfl)) rfl ?_
          refine SV.op (ok_store_bp (b := 1) (i := 0) (m := 4) (ag := true) (zs := [.sc _, .sc _, .sc _, .sc _]) (ys := [.sc _, .sc _, .sc _, .sc _]) rfl rfl rfl rfl sz_impl_Account (fun h => by cases h) rfl (Nat.le_of_ble_eq_true rfl) rfl rfl rfl) rfl ?_
          refine SV.nil ?_
          refine SV.tn ?_
          refine SV.ret ?_
          apply SV.doneK (Pr := fun _ : AccountD => True) (rs := fun y => [(true, tAccount y)]) (y := ⟨g.fUsed, x, g.fPeak, g.fOvercommits⟩) (hy := trivial) (hC := hC) (hpin := hpin) (hp := hp12) (hbx := rfl) (hf := Try.results30) (ht := rfl) (he := .inl rfl)
          case hr => exact (ResAll.cons (ResOk.cell (b := 1) (ag := true) (xs := [.sc _, .sc _, .sc _, .sc _]) rfl rfl agg_impl_Account sz_impl_Account (fun h => by cases h)) ResAll.nil')
          case h2 => simp [two]
          refine ⟨rfl, ⟨?_, ?_, ?_, ?_, trivial⟩, trivial⟩ <;> rfl
        · skip   -- c4.F
          refine SV.seq' ?_
          refine SV.region ?_
          refine SV.op (OpL.ok (nb := 3) (ok_s2 (x := .tmp 48) (x' := .const ((Value.int IntKind.i64 2))) (VScal.one rfl) (VScal.one rfl) (fun ρ h1 h2 w => by go_simp; (try go_bits); with_reducible rfl) rfl) rfl (Nat.le_of_ble_eq_true rfl)) rfl ?_
          refine SV.op (OpL.ok (nb := 3) (ok_move (v := V.one (.sc _)) (.inr rfl) rfl) rfl (Nat.le_of_ble_eq_true rfl)) rfl ?_
          refine SV.nil ?_
          refine SV.tn ?_
          refine SV.cond rfl (fun hc5 => ?_) (fun hc5 => ?_)
          · skip   -- c5.T
            refine SV.region ?_
            refine SV.op (OpL.ok (nb := 3) (ok_move (v := V.one (.bp 0 0)) (.inl rfl) rfl) rfl (Nat.le_of_ble_eq_true rfl)) rfl ?_
            refine SV.op (OpMk.ok (ok_litS (kk := 0) (xs := [.const ((Value.int IntKind.i64 (-1))), .const ((Value.int IntKind.i64 1000)), .const ((Value.int IntKind.i64 1001))]) (us := [_, _, _]) elt_int rfl rfl rfl rfl (by decide) (by decide) ⟨rfl, rfl, rfl, trivial⟩ rfl (Nat.le_of_ble_eq_true rfl))) rfl ?_
            refine SV.callKT (b := 0) hC rfl ⟨_, _, Try.func31, rfl, by decide⟩ (vk_pick [-1, 1000, 1001] (by decide) (by decide)) rfl ⟨⟨[.hd 0], rfl, ⟨rfl, trivial⟩⟩, trivial⟩ rfl hp10 rfl (Nat.le_of_ble_eq_true rfl) (fun _ => wanted0 rfl) ?_
            rintro x p13 h13 hx hp13
            refine SV.op (OpL.ok (nb := 3) (ok_field_bp (b := 2) (o' := 0) (off := 3) rfl rfl fld_impl_Account_3) rfl (Nat.le_of_ble_eq_true rfl)) rfl ?_
            refine SV.op (ok_store_bp (b := 2) (i := 3) (m := 1) (ag := false) (zs := [.sc _]) (ys := [.sc _, .sc _, .sc _, .sc _]) rfl rfl rfl rfl sz_int (fun _ => rfl) rfl (Nat.le_of_ble_eq_true rfl) rfl rfl rfl) rfl ?_
            refine SV.nil ?_
            refine SV.bn ?_
            refine SV.tn ?_
            refine SV.seq' ?_
            refine SV.region ?_
            refine SV.op (OpL.ok (nb := 3) (ok_load_bp (b := 2) (i := 0) (ag := true) (m := 4) (ys := [.sc _, .sc _, .sc _, .sc _]) rfl rfl rfl agg_impl_Account sz_impl_Account (fun h => by cases h) rfl rfl (Nat.le_of_ble_eq_true rfl)) rfl (Nat.le_of_ble_eq_true rfl)) rfl ?_
            refine SV.op (ok_store_bp (b := 1) (i := 0) (m := 4) (ag := true) (zs := [.sc _, .sc _, .sc _, .sc _]) (ys := [.sc _, .sc _, .sc _, .sc _]) rfl rfl rfl rfl sz_impl_Account (fun h => by cases h) rfl (Nat.le_of_ble_eq_true rfl) rfl rfl rfl) rfl ?_
            refine SV.nil ?_
            refine SV.tn ?_
            refine SV.ret ?_
            apply SV.doneK (Pr := fun _ : AccountD => True) (rs := fun y => [(true, tAccount y)]) (y := ⟨g.fUsed, g.fGrant, g.fPeak, x⟩) (hy := trivial) (hC := hC) (hpin := hpin) (hp := hp13) (hbx := rfl) (hf := Try.results30) (ht := rfl) (he := .inl rfl)
            case hr => exact (ResAll.cons (ResOk.cell (b := 1) (ag := true) (xs := [.sc _, .sc _, .sc _, .sc _]) rfl rfl agg_impl_Account sz_impl_Account (fun h => by cases h)) ResAll.nil')
            case h2 => simp [two]
            refine ⟨rfl, ⟨?_, ?_, ?_, ?_, trivial⟩, trivial⟩ <;> rfl
          · skip   -- c5.F
            refine SV.skip ?_
            refine SV.bn ?_
            refine SV.tn ?_
            refine SV.seq' ?_
            refine SV.region ?_
            refine SV.op (OpL.ok (nb := 3) (ok_load_bp (b := 2) (i := 0) (ag := true) (m := 4) (ys := [.sc _, .sc _, .sc _, .sc _]) rfl rfl rfl agg_impl_Account sz_impl_Account (fun h => by cases h) rfl rfl (Nat.le_of_ble_eq_true rfl)) rfl (Nat.le_of_ble_eq_true rfl)) rfl ?_
            refine SV.op (ok_store_bp (b := 1) (i := 0) (m := 4) (ag := true) (zs := [.sc _, .sc _, .sc _, .sc _]) (ys := [.sc _, .sc _, .sc _, .sc _]) rfl rfl rfl rfl sz_impl_Account (fun h => by cases h) rfl (Nat.le_of_ble_eq_true rfl) rfl rfl rfl) rfl ?_
            refine SV.nil ?_
            refine SV.tn ?_
            refine SV.ret ?_
            apply SV.doneK (Pr := fun _ : AccountD => True) (rs := fun y => [(true, tAccount y)]) (y := g) (hy := trivial) (hC := hC) (hpin := hpin) (hp := hp10) (hbx := rfl) (hf := Try.results30) (ht := rfl) (he := .inl rfl)
            case hr => exact (ResAll.cons (ResOk.cell (b := 1) (ag := true) (xs := [.sc _, .sc _, .sc _, .sc _]) rfl rfl agg_impl_Account sz_impl_Account (fun h => by cases h)) ResAll.nil')
            case h2 => simp [two]
            refine ⟨rfl, ⟨?_, ?_, ?_, ?_, trivial⟩, trivial⟩ <;> rfl
set_option maxRecDepth 100000 in
set_option maxHeartbeats 2000000 in
theorem vd_charge {ad : Option Addr} {len cap : Nat} {zs : List Int} : VCE (fun w => Code ad len cap zs w) (fun _ : AccountD × Int => True) Try.prog 11 [(false, [.lit (.slice ad len cap)])] true (fun y => [(true, tAccount y.1), (false, [.lit (.int .i64 y.2)])]) := by
  refine VCE.enter Try.func11 rfl Try.ntmps11 (Nat.le_of_ble_eq_true rfl) fun E hE hC => ?_
  refine SV.seq' ?_
  refine SV.region ?_
  refine SV.op (OpMk.ok (ok_alloc (kk := 0) (xs := [.sc _, .sc _, .sc _, .sc _]) rfl rfl zero_impl_Account ⟨rfl, rfl, rfl, rfl, rfl, rfl, rfl, rfl, trivial⟩ rfl (Nat.le_of_ble_eq_true rfl))) rfl ?_
  refine SV.op (OpL.ok (nb := 1) (ok_move (v := V.one (.sc _)) (.inr rfl) rfl) rfl (Nat.le_of_ble_eq_true rfl)) rfl ?_
  refine SV.nil ?_
  refine SV.tn ?_
  refine SV.seq' ?_
  refine SV.region ?_
  refine SV.op (OpL.ok (nb := 1) (ok_move (v := V.one (.sc _)) (.inl rfl) rfl) rfl (Nat.le_of_ble_eq_true rfl)) rfl ?_
  refine SV.callNew hC (kk := 1) rfl ⟨_, _, Try.func29, rfl, by decide⟩ rfl rfl rfl (Nat.le_of_ble_eq_true rfl) rfl fun hn1 => ?_
  refine SV.op (OpL.ok (nb := 2) (ok_move (v := V.one (.bp 1 0)) (.inr rfl) rfl) rfl (Nat.le_of_ble_eq_true rfl)) rfl ?_
  refine SV.nil ?_
  refine SV.tn ?_
  refine SV.seq' ?_
  refine SV.region ?_
  refine SV.op (OpL.ok (nb := 2) (ok_move (v := V.one (.bp 1 0)) (.inl rfl) rfl) rfl (Nat.le_of_ble_eq_true rfl)) rfl ?_
  refine SV.callK (b := 1) hC rfl ⟨_, _, Try.func30, rfl, by decide⟩ (vk_acct) rfl trivial rfl ⟨Int.le_refl 0, Int.natCast_nonneg len⟩ rfl (Nat.le_of_ble_eq_true rfl) (fun _ => wanted0 rfl) ?_
  rintro a p2 h2 - hp2
  refine SV.op (OpL.ok (nb := 2) (ok_move (v := V.one (.bp 1 0)) (.inl rfl) rfl) rfl (Nat.le_of_ble_eq_true rfl)) rfl ?_
  refine SV.op (OpL.ok (nb := 2) (ok_move (v := V.one (.bp 1 0)) (.inl rfl) rfl) rfl (Nat.le_of_ble_eq_true rfl)) rfl ?_
  refine SV.callK (b := 1) hC rfl ⟨_, _, Try.func32, rfl, by decide⟩ (vk_below 30 (by decide) (by decide)) rfl ⟨rfl, trivial⟩ rfl hp2 rfl (Nat.le_of_ble_eq_true rfl) (fun _ => wanted0 rfl) ?_
  rintro k1 p3 h3 ⟨hk0, hk1⟩ hp3
  refine SV.op (OpMk.ok (ok_litS (kk := 0) (xs := [.const ((Value.int IntKind.i64 0)), .const ((Value.int IntKind.i64 1)), .const ((Value.int IntKind.i64 8)), .const ((Value.int IntKind.i64 60)), .const ((Value.int IntKind.i64 61)), .const ((Value.int IntKind.i64 (-1))), .tmp 11]) (us := [_, _, _, _, _, _, _]) elt_int rfl rfl rfl rfl (by decide) (by decide) ⟨rfl, rfl, rfl, rfl, rfl, rfl, rfl, trivial⟩ rfl (Nat.le_of_ble_eq_true rfl))) rfl ?_
  refine SV.callKT (b := 1) hC rfl ⟨_, _, Try.func31, rfl, by decide⟩ (vk_pick [0, 1, 8, 60, 61, -1, k1] (by simp) (by simp)) rfl ⟨⟨[.hd 0], rfl, ⟨rfl, trivial⟩⟩, trivial⟩ rfl hp3 rfl (Nat.le_of_ble_eq_true rfl) (fun _ => wanted0 rfl) ?_
  rintro n p4 h4 hn hp4
  refine SV.op (ok_store_bp (b := 0) (i := 0) (m := 4) (ag := true) (zs := [.sc _, .sc _, .sc _, .sc _]) (ys := [.sc _, .sc _, .sc _, .sc _]) rfl rfl rfl rfl sz_impl_Account (fun h => by cases h) rfl (Nat.le_of_ble_eq_true rfl) rfl rfl rfl) rfl ?_
  refine SV.op (OpL.ok (nb := 2) (ok_move (v := V.one (.sc _)) (.inr rfl) rfl) rfl (Nat.le_of_ble_eq_true rfl)) rfl ?_
  refine SV.nil ?_
  refine SV.tn ?_
  refine SV.ret ?_
  apply SV.doneE (Pr := fun _ : AccountD × Int => True) (rs := fun y => [(true, tAccount y.1), (false, [.lit (.int .i64 y.2)])]) (y := (a, n)) (hy := trivial) (hf := Try.results11) (ht := rfl) (he := .inl rfl)
  case hr => exact (ResAll.cons (ResOk.cell (b := 0) (ag := true) (xs := [.sc _, .sc _, .sc _, .sc _]) rfl rfl agg_impl_Account sz_impl_Account (fun h => by cases h)) (ResAll.cons (ResOk.tmp (ag := false) (xs := [.sc _]) rfl) ResAll.nil'))
  case h2 => simp [two]
  refine ⟨rfl, ⟨?_, ?_, ?_, ?_, trivial⟩, ⟨rfl, ⟨?_, trivial⟩, trivial⟩⟩ <;> rfl
set_option maxRecDepth 100000 in
set_option maxHeartbeats 2000000 in
theorem vd_rel {ad : Option Addr} {len cap : Nat} {zs : List Int} : VCE (fun w => Code ad len cap zs w) (fun _ : AccountD × Int => True) Try.prog 21 [(false, [.lit (.slice ad len cap)])] true (fun y => [(true, tAccount y.1), (false, [.lit (.int .i64 y.2)])]) := by
  refine VCE.enterL Try.func21 rfl Try.ntmps21 (Nat.le_of_ble_eq_true rfl) fun E hE hC hD => ?_
  refine SV.seq' ?_
  refine SV.region ?_
  refine SV.op (OpMk.ok (ok_alloc (kk := 0) (xs := [.sc _, .sc _, .sc _, .sc _]) rfl rfl zero_impl_Account ⟨rfl, rfl, rfl, rfl, rfl, rfl, rfl, rfl, trivial⟩ rfl (Nat.le_of_ble_eq_true rfl))) rfl ?_
  refine SV.op (OpL.ok (nb := 1) (ok_move (v := V.one (.sc _)) (.inr rfl) rfl) rfl (Nat.le_of_ble_eq_true rfl)) rfl ?_
  refine SV.nil ?_
  refine SV.tn ?_
  refine SV.seq' ?_
  refine SV.region ?_
  refine SV.op (OpL.ok (nb := 1) (ok_move (v := V.one (.sc _)) (.inl rfl) rfl) rfl (Nat.le_of_ble_eq_true rfl)) rfl ?_
  refine SV.callE hD rfl ⟨_, _, Try.func11, rfl, by decide⟩ (vd_charge) ⟨⟨[.sc _], rfl, ⟨rfl, trivial⟩⟩, trivial⟩ rfl (Nat.le_of_ble_eq_true rfl) rfl ?_
  rintro ⟨a, n⟩ -
  refine SV.op (OpL.ok (nb := 1) (ok_extract (ag := true) (xs := [.sc _, .sc _, .sc _, .sc _]) rfl rfl rfl) rfl (Nat.le_of_ble_eq_true rfl)) rfl ?_
  refine SV.op (OpL.ok (nb := 1) (ok_extract (ag := false) (xs := [.sc _]) rfl rfl rfl) rfl (Nat.le_of_ble_eq_true rfl)) rfl ?_
  refine SV.op (ok_store_bp (b := 0) (i := 0) (m := 4) (ag := true) (zs := [.sc _, .sc _, .sc _, .sc _]) (ys := [.sc _, .sc _, .sc _, .sc _]) rfl rfl rfl rfl sz_impl_Account (fun h => by cases h) rfl (Nat.le_of_ble_eq_true rfl) rfl rfl rfl) rfl ?_
  refine SV.op (OpL.ok (nb := 1) (ok_move (v := V.one (.sc _)) (.inr rfl) rfl) rfl (Nat.le_of_ble_eq_true rfl)) rfl ?_
  refine SV.nil ?_
  refine SV.tn ?_
  refine SV.ret ?_
  apply SV.doneE (Pr := fun _ : AccountD × Int => True) (rs := fun y => [(true, tAccount y.1), (false, [.lit (.int .i64 y.2)])]) (y := (a, n)) (hy := trivial) (hf := Try.results21) (ht := rfl) (he := .inl rfl)
  case hr => exact (ResAll.cons (ResOk.cell (b := 0) (ag := true) (xs := [.sc _, .sc _, .sc _, .sc _]) rfl rfl agg_impl_Account sz_impl_Account (fun h => by cases h)) (ResAll.cons (ResOk.tmp (ag := false) (xs := [.sc _]) rfl) ResAll.nil'))
  case h2 => simp [two]
  refine ⟨rfl, ⟨?_, ?_, ?_, ?_, trivial⟩, ⟨rfl, ⟨?_, trivial⟩, trivial⟩⟩ <;> rfl
set_option maxRecDepth 100000 in
set_option maxHeartbeats 2000000 in
theorem vd_set {ad : Option Addr} {len cap : Nat} {zs : List Int} : VCE (fun w => Code ad len cap zs w) (fun _ : AccountD × Int => True) Try.prog 18 [(false, [.lit (.slice ad len cap)])] true (fun y => [(true, tAccount y.1), (false, [.lit (.int .i64 y.2)])]) := by
  refine VCE.enterL Try.func18 rfl Try.ntmps18 (Nat.le_of_ble_eq_true rfl) fun E hE hC hD => ?_
  refine SV.seq' ?_
  refine SV.region ?_
  refine SV.op (OpMk.ok (ok_alloc (kk := 0) (xs := [.sc _, .sc _, .sc _, .sc _]) rfl rfl zero_impl_Account ⟨rfl, rfl, rfl, rfl, rfl, rfl, rfl, rfl, trivial⟩ rfl (Nat.le_of_ble_eq_true rfl))) rfl ?_
  refine SV.op (OpL.ok (nb := 1) (ok_move (v := V.one (.sc _)) (.inr rfl) rfl) rfl (Nat.le_of_ble_eq_true rfl)) rfl ?_
  refine SV.nil ?_
  refine SV.tn ?_
  refine SV.seq' ?_
  refine SV.region ?_
  refine SV.op (OpL.ok (nb := 1) (ok_move (v := V.one (.sc _)) (.inl rfl) rfl) rfl (Nat.le_of_ble_eq_true rfl)) rfl ?_
  refine SV.callE hD rfl ⟨_, _, Try.func11, rfl, by decide⟩ (vd_charge) ⟨⟨[.sc _], rfl, ⟨rfl, trivial⟩⟩, trivial⟩ rfl (Nat.le_of_ble_eq_true rfl) rfl ?_
  rintro ⟨a, n⟩ -
  refine SV.op (OpL.ok (nb := 1) (ok_extract (ag := true) (xs := [.sc _, .sc _, .sc _, .sc _]) rfl rfl rfl) rfl (Nat.le_of_ble_eq_true rfl)) rfl ?_
  refine SV.op (OpL.ok (nb := 1) (ok_extract (ag := false) (xs := [.sc _]) rfl rfl rfl) rfl (Nat.le_of_ble_eq_true rfl)) rfl ?_
  refine SV.op (ok_store_bp (b := 0) (i := 0) (m := 4) (ag := true) (zs := [.sc _, .sc _, .sc _, .sc _]) (ys := [.sc _, .sc _, .sc _, .sc _]) rfl rfl rfl rfl sz_impl_Account (fun h => by cases h) rfl (Nat.le_of_ble_eq_true rfl) rfl rfl rfl) rfl ?_
  refine SV.op (OpL.ok (nb := 1) (ok_move (v := V.one (.sc _)) (.inr rfl) rfl) rfl (Nat.le_of_ble_eq_true rfl)) rfl ?_
  refine SV.nil ?_
  refine SV.tn ?_
  refine SV.ret ?_
  apply SV.doneE (Pr := fun _ : AccountD × Int => True) (rs := fun y => [(true, tAccount y.1), (false, [.lit (.int .i64 y.2)])]) (y := (a, n)) (hy := trivial) (hf := Try.results18) (ht := rfl) (he := .inl rfl)
  case hr => exact (ResAll.cons (ResOk.cell (b := 0) (ag := true) (xs := [.sc _, .sc _, .sc _, .sc _]) rfl rfl agg_impl_Account sz_impl_Account (fun h => by cases h)) (ResAll.cons (ResOk.tmp (ag := false) (xs := [.sc _]) rfl) ResAll.nil'))
  case h2 => simp [two]
  refine ⟨rfl, ⟨?_, ?_, ?_, ?_, trivial⟩, ⟨rfl, ⟨?_, trivial⟩, trivial⟩⟩ <;> rfl
set_option maxRecDepth 100000 in
set_option maxHeartbeats 2000000 in
theorem vd_new {ad : Option Addr} {len cap : Nat} {zs : List Int} : VCE (fun w => Code ad len cap zs w) (fun _ : Int => True) Try.prog 24 [(false, [.lit (.slice ad len cap)])] false (fun n => [(false, [.lit (.int .i64 n)])]) := by
  refine VCE.enter Try.func24 rfl Try.ntmps24 (Nat.le_of_ble_eq_true rfl) fun E hE hC => ?_
  refine SV.seq' ?_
  refine SV.region ?_
  refine SV.op (OpL.ok (nb := 0) (ok_move (v := V.one (.sc _)) (.inr rfl) rfl) rfl (Nat.le_of_ble_eq_true rfl)) rfl ?_
  refine SV.nil ?_
  refine SV.tn ?_
  refine SV.seq' ?_
  refine SV.region ?_
  refine SV.op (OpL.ok (nb := 0) (ok_move (v := V.one (.sc _)) (.inl rfl) rfl) rfl (Nat.le_of_ble_eq_true rfl)) rfl ?_
  refine SV.callNew hC (kk := 0) rfl ⟨_, _, Try.func29, rfl, by decide⟩ rfl rfl rfl (Nat.le_of_ble_eq_true rfl) rfl fun hn1 => ?_
  refine SV.op (OpMk.ok (ok_litS (kk := 0) (xs := [.const ((Value.int IntKind.i64 7)), .const ((Value.int IntKind.i64 8)), .const ((Value.int IntKind.i64 60)), .const ((Value.int IntKind.i64 61)), .const ((Value.int IntKind.i64 (-1))), .const ((Value.int IntKind.i64 30))]) (us := [_, _, _, _, _, _]) elt_int rfl rfl rfl rfl (by decide) (by decide) ⟨rfl, rfl, rfl, rfl, rfl, rfl, trivial⟩ rfl (Nat.le_of_ble_eq_true rfl))) rfl ?_
  refine SV.callKT (b := 0) hC rfl ⟨_, _, Try.func31, rfl, by decide⟩ (vk_pick [7, 8, 60, 61, -1, 30] (by decide) (by decide)) rfl ⟨⟨[.hd 0], rfl, ⟨rfl, trivial⟩⟩, trivial⟩ rfl ⟨Int.le_refl 0, Int.natCast_nonneg len⟩ rfl (Nat.le_of_ble_eq_true rfl) (fun _ => wanted0 rfl) ?_
  rintro n p2 h2 hn hp2
  refine SV.op (OpL.ok (nb := 1) (ok_move (v := V.one (.sc _)) (.inr rfl) rfl) rfl (Nat.le_of_ble_eq_true rfl)) rfl ?_
  refine SV.nil ?_
  refine SV.tn ?_
  refine SV.ret ?_
  apply SV.doneE (Pr := fun _ : Int => True) (rs := fun n => [(false, [.lit (.int .i64 n)])]) (y := n) (hy := trivial) (hf := Try.results24) (ht := rfl) (he := .inl rfl)
  case hr => exact (ResAll.cons (ResOk.tmp (ag := false) (xs := [.sc _]) rfl) ResAll.nil')
  case h2 => simp [two]
  refine ⟨rfl, ⟨?_, trivial⟩, trivial⟩ <;> rfl
end Go.Proofs.Ytjdjceohlcimaaa
/- Operations that are passed over because the operation that guards them was passed over. -/
namespace Go.Proofs.Ytjdjceohlcimaaa.V
open Go Go.RowKit
set_option linter.unusedVariables false
variable {P : Program} {E : Env} {N nb : Nat} {σ σ' τ : VS} {o : Oper} {a : Act} {w : World} {G : Ghost} {Q : Exit → Act → World → Prop} {K : Act → World → Prop}
/-- The state told anew. -/
theorem SV.tell (I : VS → VS) (h : SV E N (I σ) K) (k : SV E N (I σ) K → SV E N σ K) : SV E N σ K := k h
/-- What a slot holds whose operation was passed over. -/
abbrev V.no : V := ⟨true, []⟩
theorem vno {G : Ghost} {E : Env} {w : World} {u : Value} : VHolds G σ E w V.no u ↔ u = undef := by
  constructor
  · rintro ⟨uss, h1, h2, -⟩
    match uss, h1 with
    | [], _ => exact h2
  · rintro rfl
    exact ⟨[], rfl, rfl, fun c ag xs us h => by simp at h⟩
theorem yielded_no {ops : Array Oper} {j d : Nat} {oj : Oper} (h : Rel E N σ a w G) (hj : ops[j]? = some oj) (hd : oj.dst = some d) (hdN : d < N) (hv : σ.tm d = V.no) : yielded ops a.tmps j = none := by
  have h1 : a.tmps[d]? = some undef := by
    have h2 := h.tmps d
    rw [hv, vno] at h2
    have h4 : d < a.tmps.size := by rw [h.nsz]; exact hdN
    simp only [Array.getD_eq_getD_getElem?] at h2
    rw [Array.getElem?_eq_getElem h4] at h2 ⊢
    simpa using h2
  simp [yielded, hj, hd, h1, undef]
theorem SV.opNu {ops : Array Oper} {rest : List Oper} {j d d' : Nat} {oj : Oper} {b c : Bool} (hg : o.guard = some (j, b)) (hj : ops[j]? = some oj) (hd : oj.dst = some d) (hdN : d < N) (hv : σ.tm d = V.one (.sc (.bool c))) (hc : c = !b) (hd' : o.dst = some d') (hdN' : d' < N) (k : SV E N (σ.put d' V.no) (wpList P ops Q rest)) : SV E N σ (wpList P ops Q (o :: rest)) :=
  fun a w G hr => wpList_skip (by
    have := yielded_at hr hj hd hdN hv
    cases b <;> simp [Region.wanted, hg, this, hc]) (by
    rw [hd']
    exact k _ _ _ (hr.put hdN' (vno.2 rfl)))
theorem SV.opNN {ops : Array Oper} {rest : List Oper} {j d d' : Nat} {oj : Oper} {b : Bool} (hg : o.guard = some (j, b)) (hj : ops[j]? = some oj) (hd : oj.dst = some d) (hdN : d < N) (hv : σ.tm d = V.no) (hd' : o.dst = some d') (hdN' : d' < N) (k : SV E N (σ.put d' V.no) (wpList P ops Q rest)) : SV E N σ (wpList P ops Q (o :: rest)) :=
  fun a w G hr => wpList_skip (by
    have := yielded_no hr hj hd hdN hv
    simp [Region.wanted, hg, this]) (by
    rw [hd']
    exact k _ _ _ (hr.put hdN' (vno.2 rfl)))
theorem DW.qNu {l : List Oper} {zs : List Nat} {ps : Pl} {fr : List Nat} {cl : Bool} {i j d d' : Nat} {oj : Oper} {b c : Bool} (ho : nthO l i = some o) (hg : o.guard = some (j, b)) (hj : l.toArray[j]? = some oj) (hd : oj.dst = some d) (hdN : d < N) (hv : σ.tm d = V.one (.sc (.bool c))) (hc : c = !b) (hd' : o.dst = some d') (hdN' : d' < N) (hQ : ∀ c (a : Act) v w, Q (.panic c) (a.put o.dst v) w → Q (.panic c) a w)
    (k : DW E N τ fr cl (σ.put d' V.no) fun ws Gs a w => wpPi P l.toArray Q (SW E τ ws Gs) zs ps a w) : DW E N τ fr cl σ fun ws Gs a w => wpPi P l.toArray Q (SW E τ ws Gs) zs (.q i ps) a w := fun ws Gs a w G hr hl => by
  refine pi_pass ho (fun c a w => hQ c a undef w) ?_ ?_
  · have := yielded_at hr hj hd hdN hv
    cases b <;> simp [Region.wanted, hg, this, hc]
  · rw [hd']
    exact k ws Gs _ w G (hr.put hdN' (vno.2 rfl)) hl.put
theorem DW.qNN {l : List Oper} {zs : List Nat} {ps : Pl} {fr : List Nat} {cl : Bool} {i j d d' : Nat} {oj : Oper} {b : Bool} (ho : nthO l i = some o) (hg : o.guard = some (j, b)) (hj : l.toArray[j]? = some oj) (hd : oj.dst = some d) (hdN : d < N) (hv : σ.tm d = V.no) (hd' : o.dst = some d') (hdN' : d' < N) (hQ : ∀ c (a : Act) v w, Q (.panic c) (a.put o.dst v) w → Q (.panic c) a w)
    (k : DW E N τ fr cl (σ.put d' V.no) fun ws Gs a w => wpPi P l.toArray Q (SW E τ ws Gs) zs ps a w) : DW E N τ fr cl σ fun ws Gs a w => wpPi P l.toArray Q (SW E τ ws Gs) zs (.q i ps) a w := fun ws Gs a w G hr hl => by
  refine pi_pass ho (fun c a w => hQ c a undef w) ?_ ?_
  · have := yielded_no hr hj hd hdN hv
    simp [Region.wanted, hg, this]
  · rw [hd']
    exact k ws Gs _ w G (hr.put hdN' (vno.2 rfl)) hl.put
theorem DW.mNu {l : List Oper} {zs : List Nat} {ps : Pl} {fr : List Nat} {cl : Bool} {i j d d' : Nat} {oj : Oper} {b c : Bool} (ho : nthO l i = some o) (hg : o.guard = some (j, b)) (hj : l.toArray[j]? = some oj) (hd : oj.dst = some d) (hdN : d < N) (hv : σ.tm d = V.one (.sc (.bool c))) (hc : c = !b) (hd' : o.dst = some d') (hdN' : d' < N)
    (k : DW E N τ fr cl (σ.put d' V.no) fun ws Gs a w => wpPi P l.toArray Q (SW E τ ws Gs) zs ps a w) : DW E N τ fr cl σ fun ws Gs a w => wpPi P l.toArray Q (SW E τ ws Gs) zs (.m i ps) a w := fun ws Gs a w G hr hl => by
  refine pi_step ho fun K hK => ?_
  rw [if_neg (by rw [wantedN hr hg hj hd hdN hv hc]; simp)]
  refine hK.out _ w hl.same fun _ => ?_
  rw [hd']
  exact k ws Gs _ w G (hr.put hdN' (vno.2 rfl)) hl.put
theorem DW.mNN {l : List Oper} {zs : List Nat} {ps : Pl} {fr : List Nat} {cl : Bool} {i j d d' : Nat} {oj : Oper} {b : Bool} (ho : nthO l i = some o) (hg : o.guard = some (j, b)) (hj : l.toArray[j]? = some oj) (hd : oj.dst = some d) (hdN : d < N) (hv : σ.tm d = V.no) (hd' : o.dst = some d') (hdN' : d' < N)
    (k : DW E N τ fr cl (σ.put d' V.no) fun ws Gs a w => wpPi P l.toArray Q (SW E τ ws Gs) zs ps a w) : DW E N τ fr cl σ fun ws Gs a w => wpPi P l.toArray Q (SW E τ ws Gs) zs (.m i ps) a w := fun ws Gs a w G hr hl => by
  refine pi_step ho fun K hK => ?_
  have hw : Region.wanted o (yielded l.toArray a.tmps) = false := by
    have := yielded_no hr hj hd hdN hv
    simp [Region.wanted, hg, this]
  rw [if_neg (by rw [hw]; simp)]
  refine hK.out _ w hl.same fun _ => ?_
  rw [hd']
  exact k ws Gs _ w G (hr.put hdN' (vno.2 rfl)) hl.put
end Go.Proofs.Ytjdjceohlcimaaa.V
/- Accounts as plain mathematics: what the law asks of a charge that was taken and of a grant that was set. -/
namespace Go.Proofs.Ytjdjceohlcimaaa
set_option linter.unusedVariables false
namespace AccountD
theorem charge_facts {a : AccountD} {n : Int} (h : canCharge a n = true) : ok (charge a n) = true ∧ (charge a n).fUsed ≤ (charge a n).fGrant ∧ (charge a n).fUsed ≤ (charge a n).fPeak ∧ excess (charge a n) = 0 ∧ canRelease (charge a n) n = true ∧ (release (charge a n) n).fUsed = a.fUsed ∧ (release (charge a n) n).fPeak = (charge a n).fPeak := by
  obtain ⟨h1, h2, h3, h4⟩ := (canCharge_iff a n).1 h
  have hk := (ok_iff a).1 h1
  have hx := charge_yes h
  have ho : ok (charge a n) = true := by rw [hx, ok_iff]; dsimp only; omega
  have hr : canRelease (charge a n) n = true := by rw [canRelease_iff]; refine ⟨ho, h2, ?_⟩; rw [hx]; dsimp only; omega
  refine ⟨ho, by rw [hx]; dsimp only; omega, by rw [hx]; dsimp only; omega, ?_, hr, ?_, ?_⟩
  · rw [excess_yes ho, hx]; dsimp only; omega
  · rw [release_yes hr, hx]; dsimp only; omega
  · rw [release_yes hr]
theorem set_facts {a : AccountD} {n : Int} (h : canSet a n = true) : ok (setGrant a n) = true ∧ excess (setGrant a n) = max 0 ((setGrant a n).fUsed - n) ∧ 0 ≤ (setGrant a n).fUsed ∧ (setGrant a n).fUsed ≤ 60 ∧ 8 ≤ n ∧ n ≤ 60 := by
  obtain ⟨h1, h2, h3, h4⟩ := (canSet_iff a n).1 h
  have hk := (ok_iff a).1 h1
  by_cases hl : n < a.fUsed
  · have hx := setGrant_up h hl
    have ho : ok (setGrant a n) = true := by rw [hx, ok_iff]; dsimp only; omega
    refine ⟨ho, ?_, by rw [hx]; dsimp only; omega, by rw [hx]; dsimp only; omega, h2, h3⟩
    rw [excess_yes ho, hx]
  · have hx := setGrant_keep h hl
    have ho : ok (setGrant a n) = true := by rw [hx, ok_iff]; dsimp only; omega
    refine ⟨ho, ?_, by rw [hx]; dsimp only; omega, by rw [hx]; dsimp only; omega, h2, h3⟩
    rw [excess_yes ho, hx]
end AccountD
end Go.Proofs.Ytjdjceohlcimaaa
