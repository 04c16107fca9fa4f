/- Texts joined: VA VB VM VN. -/
import Derived.Test.YtlnjgoommpeioaaDoorPartFormatPairsa
import Derived.Maps.AppendAt
import Derived.Great.FillDense
import Derived.Great.BuildSlice
/- States told by trees: slices that the call makes (literals, append). -/
namespace Go.Proofs.YtlnjgoommpeioaaDoor.V
open Go Go.RowKit
set_option linter.unusedVariables false

def isHd (k : Nat) : Leaf → Bool
  | .hd i => Nat.beq i k
  | _ => false
def VS.kills (σ : VS) (cs : List Leaf) : VS := { σ with ob := fun k => bif cs.any (isHd k) then none else σ.ob k }
def VS.new (σ : VS) (t : T) : VS := { σ with ob := fun k => bif Nat.beq k σ.nx then some (0, t) else σ.ob k, nx := σ.nx + 1 }
variable {E : Env} {N : Nat} {σ σ' : VS} {o : Oper} {a : Act} {w : World} {G : Ghost}
theorem nbeq {a b : Nat} : Nat.beq a b = true ↔ a = b := ⟨Nat.eq_of_beq_eq_true, fun h => by rw [h]; exact Nat.beq_refl b⟩
theorem nbne {a b : Nat} (h : a ≠ b) : Nat.beq a b = false := by
  cases hb : Nat.beq a b with
  | false => rfl
  | true => exact absurd (nbeq.1 hb) h
theorem same_grown {w' : World} {row : Option Nat} (h : Rel E N σ a w G) (hg : w.grownBy w' row) (hr : ∀ b, row = some b → E.B ≤ b ∨ E.ln b) : Same E w w' :=
  ⟨hg.os, hg.tape, hg.output, hg.size, fun k hk => hg.block k (Nat.lt_of_lt_of_le hk.1 h.low) fun e => (hr k e.symm).elim (fun h1 => by have := hk.1; omega) hk.2⟩
/-- No object and no box lies there. -/
def Fresh (σ : VS) (G : Ghost) (b : Nat) : Prop := (∀ i, σ.ob i ≠ none → ¬ G.ft i b) ∧ ∀ c, c < σ.bs.length → G.β c ≠ b
theorem Rel.fresh (h : Rel E N σ a w G) {b : Nat} (hb : w.heap.size ≤ b) : Fresh σ G b :=
  ⟨fun i hi hf => by have := (h.ftlt i b hi hf).2; omega, fun c hc e => by
    obtain ⟨-, us, h2, -⟩ := h.boxes c _ _ (List.getElem?_eq_getElem hc)
    have := lt_of_block h2
    omega⟩
/-- What has been handed over is an object of its own; what it was made of is gone. -/
theorem Rel.renew (h : Rel E N σ a w G) (cs : List Leaf) (hcs : ∀ x ∈ cs, ∃ t, σ.out x = some t) {w' : World} {t : T} {v : Value} {F : Nat → Prop} (D : Nat → Prop) (hbel : Same E w w') (hblk : ∀ k, k < w.heap.size → ¬ D k → w'.heap[k]? = w.heap[k]?) (hD : ∀ b, D b → ∃ x ∈ cs, x.foot G b)
    (hown : Own w' 0 t v F) (hseq : ∃ ty es, t = .seq ty es) (hF : ∀ b, F b → ((E.B ≤ b ∨ E.ln b) ∧ b < w'.heap.size) ∧ (Fresh σ G b ∨ ∃ x ∈ cs, x.foot G b)) : ∃ G', Rel E N ((σ.kills cs).new t) a w' G' ∧ (G'.vl σ.nx = v ∧ (∀ i, i < σ.nx → G'.vl i = G.vl i) ∧ G'.β = G.β) ∧ (∀ b, Fresh σ G b → ¬ F b → Fresh ((σ.kills cs).new t) G' b) ∧ ∀ x u, Holds G σ E w x u → Holds G' ((σ.kills cs).new t) E w' x u := by
  have hfoot : ∀ b, (∃ x ∈ cs, x.foot G b) → ∃ i, σ.ob i ≠ none ∧ G.ft i b ∧ cs.any (isHd i) = true := fun b ⟨x, hx, hb⟩ => by
    cases x with
    | hd i =>
      obtain ⟨t, ht⟩ := hcs _ hx
      obtain ⟨p, hp, -⟩ := Option.map_eq_some_iff.1 ht
      exact ⟨i, by rw [hp]; simp, hb, List.any_eq_true.2 ⟨_, hx, Nat.beq_refl i⟩⟩
    | _ => exact hb.elim
  have hlive : ∀ i v t, ((σ.kills cs).new t).ob i = some v → i ≠ σ.nx → σ.ob i = some v ∧ cs.any (isHd i) = false := fun i v t hv hi => by
    have h1 : (bif Nat.beq i σ.nx then some (0, t) else (bif cs.any (isHd i) then none else σ.ob i)) = some v := hv
    rw [nbne hi] at h1
    cases hc : cs.any (isHd i) with
    | true => rw [hc] at h1; cases h1
    | false => rw [hc] at h1; exact ⟨h1, rfl⟩
  have hnew : ((σ.kills cs).new t).ob σ.nx = some (0, t) := by
    show (bif Nat.beq σ.nx σ.nx then some (0, t) else _) = _
    rw [Nat.beq_refl]; rfl
  obtain ⟨G', hG'⟩ : ∃ G' : Ghost, G' = { G with vl := fun k => if k = σ.nx then v else G.vl k, ft := fun k => if k = σ.nx then F else G.ft k } := ⟨_, rfl⟩
  have hvn : G'.vl σ.nx = v := by rw [hG']; exact if_pos rfl
  have hfn : G'.ft σ.nx = F := by rw [hG']; exact if_pos rfl
  have hvo : ∀ i, i ≠ σ.nx → G'.vl i = G.vl i := fun i hi => by rw [hG']; exact if_neg hi
  have hfo : ∀ i, i ≠ σ.nx → G'.ft i = G.ft i := fun i hi => by rw [hG']; exact if_neg hi
  have hltn : ∀ i, σ.ob i ≠ none → i < σ.nx := fun i hi => by
    obtain ⟨⟨v, t⟩, hv⟩ := Option.ne_none_iff_exists'.1 hi
    exact (h.objs i v t hv).1
  have hout : ∀ i v b, σ.ob i = some v → cs.any (isHd i) = false → G.ft i b → ¬ ∃ x ∈ cs, x.foot G b := fun i v b hi hc hb hx => by
    obtain ⟨j, h1, h2, h3⟩ := hfoot b hx
    by_cases hij : i = j
    · subst hij; rw [hc] at h3; cases h3
    · exact h.disj i j b (by rw [hi]; simp) h1 hij hb h2
  have hturn : Rel E N ((σ.kills cs).new t) a w' G' ∧ ∀ x u, Holds G σ E w x u → Holds G' ((σ.kills cs).new t) E w' x u := by
    refine h.turn (σ' := (σ.kills cs).new t) D rfl rfl (by rw [hG']) hbel hblk (fun b hb hd => ?_) (Nat.le_succ _) (fun i hi => hvo i (Nat.ne_of_lt hi)) (fun i v' t' hv => ?_) (fun i j b hi hj hij hb hb' => ?_)
    · obtain ⟨i, h1, h2, -⟩ := hfoot _ (hD _ hd)
      exact h.boxft b i hb h1 h2
    · by_cases hi : i = σ.nx
      · subst hi
        rw [hnew] at hv
        cases hv
        refine .inr ⟨Nat.lt_succ_self _, fun hlt => absurd hlt (Nat.lt_irrefl _), by rw [hvn, hfn]; exact hown, hseq, fun b hb => (hF b (by rw [← hfn]; exact hb)).1, fun b hb => ?_⟩
        rw [hfn] at hb
        rcases (hF b hb).2 with h1 | h1
        · exact h1.2
        · obtain ⟨j, h2, h3, -⟩ := hfoot b h1
          exact fun c hc e => h.boxft c j hc h2 (by rw [e]; exact h3)
      · obtain ⟨h1, h2⟩ := hlive i _ t hv hi
        refine .inl ⟨h1, fun b => by rw [hfo i hi], fun b hb hd => hout i _ b h1 h2 hb (hD b hd)⟩
    · obtain ⟨vi, hvi⟩ := Option.ne_none_iff_exists'.1 hi
      obtain ⟨vj, hvj⟩ := Option.ne_none_iff_exists'.1 hj
      have half : ∀ k vk, k ≠ σ.nx → ((σ.kills cs).new t).ob k = some vk → G'.ft k b → ¬ F b := fun k vk hk hvk hkb hFb => by
        obtain ⟨h1, h2⟩ := hlive k vk t hvk hk
        rw [hfo k hk] at hkb
        rcases (hF b hFb).2 with h3 | h3
        · exact h3.1 k (by rw [h1]; simp) hkb
        · exact hout k _ b h1 h2 hkb h3
      by_cases hin : i = σ.nx
      · subst hin
        rw [hfn] at hb
        exact half j vj (fun e => hij e.symm) hvj hb' hb
      · by_cases hjn : j = σ.nx
        · subst hjn
          rw [hfn] at hb'
          exact half i vi hin hvi hb hb'
        · rw [hfo i hin] at hb
          rw [hfo j hjn] at hb'
          obtain ⟨h1, -⟩ := hlive i _ t hvi hin
          obtain ⟨h2, -⟩ := hlive j _ t hvj hjn
          exact h.disj i j b (by rw [h1]; simp) (by rw [h2]; simp) hij hb hb'
  refine ⟨G', hturn.1, ⟨hvn, fun i hi => hvo i (Nat.ne_of_lt hi), by rw [hG']⟩, fun b hb hnF => ⟨fun i hi hf => ?_, fun c hc e => hb.2 c hc (by rw [hG'] at e; exact e)⟩, hturn.2⟩
  by_cases hin : i = σ.nx
  · subst hin
    rw [hfn] at hf
    exact hnF hf
  · obtain ⟨vi, hvi⟩ := Option.ne_none_iff_exists'.1 hi
    obtain ⟨h1, -⟩ := hlive i _ t hvi hin
    rw [hfo i hin] at hf
    exact hb.1 i (by rw [h1]; simp) hf
theorem own_at {v v' : Value} {b : Nat} (h : Rel E N σ a w G) (hb : v'.ownBlock = some b) (hat : v'.ownBlock = v.ownBlock ∨ v'.ownBlock = some w.heap.size) (hv : ∀ b, v.ownBlock = some b → E.B ≤ b ∨ E.ln b) : E.B ≤ b ∨ E.ln b := by
  rcases hat with h1 | h1
  · exact hv b (by rw [← h1]; exact hb)
  · rw [h1] at hb
    exact .inl (by rw [← Option.some.inj hb]; exact h.low)
/-- What an element type is to the program. -/
structure ElT (t ty : TypeId) (n : Nat) (z : Value) (bytes : Nat) : Prop where
  und : Tryd.prog.underlying t = some (.slice ty)
  inf : (Tryd.prog.info? ty).map (fun i => (i.zero, i.size, i.bytes)) = some (some z, n, bytes)
  zs : z.cells.size = n
  pos : 0 < n
  small : bytes ≤ 400
  few : n ≤ 1000
theorem ElT.sz {t ty : TypeId} {n : Nat} {z : Value} {bytes : Nat} (h : ElT t ty n z bytes) : Sz ty n := by
  obtain ⟨i, h1, -, h3, -⟩ := info_parts h.inf
  exact ⟨i, h1, h3⟩
theorem append_core {t ty : TypeId} {n bytes : Nat} {z : Value} (I : ElT t ty n z bytes) {w : World} {B : Nat} {v : Value} {L : Nat} {xs : List Value} (hown : w.ownsRow B ty n v L xs) (hB : B ≤ w.heap.size) {ad : Option Addr} {m c : Nat} (h0 : ad = none → c = 0) (hmc : m ≤ c) {news : List Value} (hl : news.length = m * n)
    (hnews : ∀ x, ad = some x → ∀ j u, news[j]? = some u → w.cell? (x.add j) = some u) (h1 : ∀ u ∈ news, u.oneCell' = true) (hlen : L + m ≤ 350000000000) (rt : TypeId) :
    ∃ v' w', (Builtin.append_ #[t, t] rt #[v, .slice ad m c]).run Tryd.prog w = .ok v' w' ∧ w'.ownsRow B ty n v' (L + m) (xs ++ news) ∧ w.grownBy w' v.ownBlock ∧ (v'.ownBlock = v.ownBlock ∨ v'.ownBlock = some w.heap.size) ∧
      ∀ b, b < w.heap.size → w'.heap[b]? = w.heap[b]? ∨ ∃ cs cs' : Array Value, v.ownBlock = some b ∧ w.heap[b]? = some (.cells cs ty (0, 0)) ∧ w'.heap[b]? = some (.cells cs' ty (0, 0)) ∧ cs'.size = cs.size ∧ cs'.toList.take (L * n) = cs.toList.take (L * n) := by
  obtain ⟨i0, hi, hz0, hz1, hz2⟩ := info_parts I.inf
  cases ad with
  | none =>
    have hc := h0 rfl
    subst hc
    have hm : m = 0 := by omega
    subst hm
    have hn : news = [] := List.eq_nil_of_length_eq_zero (by omega)
    subst hn
    exact ⟨v, w, run_append_owned_none w B t rt ty i0 n I.und hi v L xs hown, by rw [List.append_nil]; exact hown, World.grownBy.refl _ _, .inl rfl, fun b _ => .inl rfl⟩
  | some ad =>
    have hby : (L + m) * bytes ≤ 140737488355328 := by
      have : (L + m) * bytes ≤ 350000000000 * 400 := Nat.mul_le_mul hlen I.small
      omega
    obtain ⟨v', w', k1, k2, k3, -, k4⟩ := run_append_own_at (P := Tryd.prog) w B t rt ty i0 z n bytes I.und hi hz0 hz1 hz2 I.zs I.pos v L xs hown ad m c news hl (hnews ad rfl) h1 (by unfold maxLen; omega) hby hB
    refine ⟨v', w', k1, k2, k3, k4, fun b hb => ?_⟩
    by_cases hvb : v.ownBlock = some b
    · obtain ⟨h2, ⟨rfl, -⟩ | ⟨g, cap, cur, rfl, hbg, hg, hnc, hcm, hcs, htake⟩⟩ := hown
      · cases hvb
      · have hgb : g = b := Option.some.inj hvb
        subst hgb
        subst hz1
        by_cases hroom : L + m ≤ cap
        · have hfit : L * i0.size + news.length ≤ cur.size := by rw [hl, hcs, ← Nat.add_mul]; exact Nat.mul_le_mul_right _ hroom
          have hr := run_append_room (P := Tryd.prog) w t rt ty i0 I.und hi g L cap cur hg ad m c news hl (hnews ad rfl) h1 hroom hfit
          rw [hr] at k1
          injection k1 with e1 e2
          refine .inr ⟨cur, _, rfl, hg, by rw [← e2]; exact setRow_heap w g cur _ ty _ hg, ?_, ?_⟩
          · simp only [List.size_toArray, List.length_append, List.length_take, List.length_drop, Array.length_toList]
            omega
          · have hle : L * i0.size ≤ cur.toList.length := by rw [Array.length_toList]; omega
            simp only [List.append_assoc]
            rw [List.take_append_of_le_length (by rw [List.length_take, Nat.min_eq_left hle]; exact Nat.le_refl _), List.take_take, Nat.min_self]
        · have holds : ∀ j u, xs[j]? = some u → w.cell? ((⟨g, 0, none⟩ : Addr).add j) = some u := (show w.ownsRow B ty i0.size _ L xs from ⟨h2, .inr ⟨g, cap, cur, rfl, hbg, hg, hnc, hcm, hcs, htake⟩⟩).cells (g := g) rfl
          have hr := run_append_grow (P := Tryd.prog) w t rt ty i0 z I.und hi hz0 ⟨g, 0, none⟩ L cap xs h2 holds ad m c news hl (hnews ad rfl) (by omega) (by omega) (growslice_fits (by omega) (by rw [hz2]; exact hby))
          rw [hr] at k1
          injection k1 with e1 e2
          exact .inl (by rw [← e2]; exact Below.heap_alloc w.drew _ _ hb)
    · exact .inl (k3.block b hb fun e => hvb e.symm)
def Leaf.id? : Leaf → Option Nat
  | .hd i => some i
  | _ => none
/-- What an append leaves of memory. -/
theorem made_append {t ty : TypeId} {n bytes : Nat} {z : Value} {σ : VS} {w w' : World} {G G' : Ghost} {ls : Leaf} {es : List (List T)} {v v' : Value} {a : Act} {E : Env} {N : Nat} (I : ElT t ty n z bytes) (h : Rel E N σ a w G) (hts : σ.out ls = some (.seq ty es)) (hls : Holds G σ E w ls v) (hg : w.grownBy w' v.ownBlock)
    (hat : v'.ownBlock = v.ownBlock ∨ v'.ownBlock = some w.heap.size) (hpre : ∀ b, b < w.heap.size → w'.heap[b]? = w.heap[b]? ∨ ∃ cs cs' : Array Value, v.ownBlock = some b ∧ w.heap[b]? = some (.cells cs ty (0, 0)) ∧ w'.heap[b]? = some (.cells cs' ty (0, 0)) ∧ cs'.size = cs.size ∧ cs'.toList.take (es.length * n) = cs.toList.take (es.length * n))
    (hvl : G'.vl σ.nx = v') (hvls : ∀ i, i < σ.nx → G'.vl i = G.vl i) (hβ : G'.β = G.β) (hb : Same E w w') : Made σ (Leaf.id? ls) w w' G G' E (σ.nx + 1) := by
  have key : ∀ b, v.ownBlock = some b → ∃ i, Leaf.id? ls = some i ∧ (∃ ver, σ.ob i = some (ver, .seq ty es)) ∧ (G.vl i).ownBlock = some b := fun b hvb => by
    cases ls with
    | hd i =>
      obtain ⟨⟨ver, s⟩, e1, e2⟩ := Option.map_eq_some_iff.1 hts
      exact ⟨i, rfl, ⟨ver, by rw [e1]; exact congrArg some (Prod.ext rfl e2)⟩, by rw [← hls.1.2]; exact hvb⟩
    | nl ty' => rw [hls.1.1] at hvb; cases hvb
    | sc u => cases hts
    | dead => cases hts
    | ro t => cases hts
    | rp es => cases hts
    | nd i v t l => cases hts
    | np i v es => cases hts
    | ep i k n o => cases hts
    | bp b o => cases hts
  refine ⟨hb.size, hb, hvls, fun b _ => by rw [hβ], fun b hbl => ?_, fun i h1 h2 b hib => ?_⟩
  · rcases hpre b hbl with h1 | ⟨cs, cs', h1, h2, h3, h4, h5⟩
    · exact .inl h1
    · obtain ⟨i, e1, ⟨ver, e2⟩, e3⟩ := key b h1
      exact .inr ⟨i, ver, ty, es, n, cs, cs', e1, e2, e3, I.sz, h2, h3, h4, h5⟩
  · have hi : i = σ.nx := by omega
    subst hi
    rw [hvl] at hib
    rcases hat with h3 | h3
    · obtain ⟨j, e1, -, e3⟩ := key b (by rw [← h3]; exact hib)
      exact .inr ⟨j, e1, e3⟩
    · rw [h3] at hib
      exact .inl (by rw [← Option.some.inj hib]; exact Nat.le_refl _)
/-- The elements of two slices, one behind the other. -/
theorem cat_el {es fs : List (List T)} {k : Nat} {e : List T} (h : (es ++ fs)[k]? = some e) : (k < es.length ∧ es[k]? = some e) ∨ (es.length ≤ k ∧ fs[k - es.length]? = some e) := by
  rcases Nat.lt_or_ge k es.length with hk | hk
  · exact .inl ⟨hk, by rwa [List.getElem?_append_left hk] at h⟩
  · exact .inr ⟨hk, by rwa [List.getElem?_append_right hk] at h⟩
theorem cat_ix {L k n j : Nat} (h : L ≤ k) : k * n + j = L * n + ((k - L) * n + j) := by
  have : k = L + (k - L) := by omega
  conv => lhs; rw [this, Nat.add_mul, Nat.add_assoc]
/-- 'append(s, x...)': what x is made of goes over; or its cells alone, where they are flat. -/
theorem ok_append {d : Nat} {s x : Operand} {t ty : TypeId} {n bytes : Nat} {z : Value} (I : ElT t ty n z bytes) {ls lx : Leaf} {es fs : List (List T)} {kk : Nat} (hk : σ.nx = kk) (ho : o.op = .call { callee := .builtin .append, args := #[s, x], argTypes := #[t, t] })
    (hs : σ.ev s = V.one ls) (hx : σ.ev x = V.one lx) (hts : σ.out ls = some (.seq ty es)) (htx : σ.out lx = some (.seq ty fs)) (h2 : two ls lx) (hlen : es.length + fs.length ≤ 350000000000) (hd : o.dst = some d) (hdN : d < N) :
    OpMk Tryd.prog E N (Leaf.id? ls) σ o (((σ.kills [ls, lx]).new (.seq ty (es ++ fs))).put d (V.one (.hd kk))) :=
  fun a w G K Q h k => by
    subst hk
    have hvs := h.ev s
    rw [hs, vone] at hvs
    have hvx := h.ev x
    rw [hx, vone] at hvx
    have os := h.out hvs hts
    have ox := h.out hvx htx
    generalize hF1 : ls.foot G = F1 at os
    generalize hF2 : lx.foot G = F2 at ox
    have hdis : ∀ b, F1 b → F2 b → False := fun b hb1 hb2 => by
      rw [← hF1] at hb1
      rw [← hF2] at hb2
      cases ls with
      | hd i =>
        cases lx with
        | hd j =>
          obtain ⟨p, e1, -⟩ := Option.map_eq_some_iff.1 hts
          obtain ⟨q, e2, -⟩ := Option.map_eq_some_iff.1 htx
          by_cases hij : i = j
          · exact h2 i rfl (by rw [hij])
          · exact h.disj i j b (by rw [e1]; simp) (by rw [e2]; simp) hij hb1 hb2
        | _ => exact hb2
      | _ => exact hb1
    have hlt1 : ∀ b, F1 b → (E.B ≤ b ∨ E.ln b) ∧ b < w.heap.size := fun b hb => by
      rw [← hF1] at hb
      cases ls with
      | hd i =>
        obtain ⟨p, e1, -⟩ := Option.map_eq_some_iff.1 hts
        exact h.ftlt i b (by rw [e1]; simp) hb
      | _ => exact hb.elim
    have hlt2 : ∀ b, F2 b → (E.B ≤ b ∨ E.ln b) ∧ b < w.heap.size := fun b hb => by
      rw [← hF2] at hb
      cases lx with
      | hd i =>
        obtain ⟨p, e1, -⟩ := Option.map_eq_some_iff.1 htx
        exact h.ftlt i b (by rw [e1]; simp) hb
      | _ => exact hb.elim
    have hcs : ∀ y ∈ [ls, lx], ∃ t, σ.out y = some t := fun y hy => by
      simp only [List.mem_cons, List.not_mem_nil, or_false] at hy
      rcases hy with rfl | rfl
      · exact ⟨_, hts⟩
      · exact ⟨_, htx⟩
    cases os with
    | seq n1 hp1 hz1 hn1 xs1 hown1 Gs1 hr1 hone1 hF1' hG1 hne1 hd1 =>
    cases ox with
    | seq n2 hp2 hz2 hn2 xs2 hown2 Gs2 hr2 hone2 hF2' hG2 hne2 hd2 =>
    have e1 := hz1.eq I.sz
    have e2 := hz2.eq I.sz
    subst e1 e2
    obtain ⟨ad, c, hxv, hc1, -, hc3, hc4⟩ := own_slice hown2
    obtain ⟨v', w', k1, k2, k3, k4, k5⟩ := append_core I hown1 (Nat.zero_le _) hc3 hc1 hown2.1 (fun y hy j u hj => by
      have hpos : 0 < fs.length := by
        rcases Nat.eq_zero_or_pos fs.length with hz | hz
        · have := get_lt hj; rw [hown2.1, hz, Nat.zero_mul] at this; omega
        · exact hz
      obtain ⟨g, hg, -, -, hg2, -⟩ := hc4 hpos
      rw [hy] at hg
      cases hg
      rw [Addr.add_lit, Nat.zero_add]
      exact hg2 j u hj) hone2 hlen o.type
    have hblk : ∀ k, k < w.heap.size → ¬ ((a.eval s).ownBlock = some k) → w'.heap[k]? = w.heap[k]? := fun k hk hn => k3.block k hk fun e => hn e.symm
    have hx1 : ∀ k e j t', (es ++ fs)[k]? = some e → e[j]? = some t' → j < n2 := fun k e j t' he hj => by
      rcases cat_el he with ⟨-, he⟩ | ⟨-, he⟩
      · rw [← hn1 e (get_mem he)]; exact get_lt hj
      · rw [← hn2 e (get_mem he)]; exact get_lt hj
    obtain ⟨G', hG', ⟨hvl, hvls, hβs⟩, -, -⟩ := h.renew [ls, lx] hcs (w' := w') (t := .seq ty (es ++ fs)) (v := v') (F := fun b => F1 b ∨ F2 b ∨ v'.ownBlock = some b) (fun b => (a.eval s).ownBlock = some b)
      (same_grown h k3 fun b hb => (hlt1 b (hF1' b hb)).1) hblk (fun b hb => ⟨ls, List.mem_cons_self .., by rw [hF1]; exact hF1' b hb⟩)
      (by
        refine .seq n2 hp2 hz2 (fun e he => (List.mem_append.1 he).elim (hn1 e) (hn2 e)) (xs1 ++ xs2) (by rw [List.length_append]; exact k2) (fun q b => if q < es.length * n2 then Gs1 q b else Gs2 (q - es.length * n2) b) (fun k e j t' u he hj hu => ?_) (fun u hu => (List.mem_append.1 hu).elim (hone1 u) (hone2 u)) (fun b hb => .inr (.inr hb)) (fun q b hb => ?_) (fun q b hb => ?_) fun q q' b hb hb' => ?_
        · have hj2 := hx1 k e j t' he hj
          rcases cat_el he with ⟨hk, he⟩ | ⟨hk, he⟩
          · have hlt := at_lt hk hj2
            rw [List.getElem?_append_left (by rw [hown1.1]; exact hlt)] at hu
            refine ((hr1 k e j t' u he hj hu).frame fun b hb => hblk b (hlt1 b (hG1 _ b hb)).2 fun e => hne1 _ b hb e).mono fun b hb => ?_
            show if k * n2 + j < es.length * n2 then _ else _
            rw [if_pos hlt]; exact hb
          · rw [cat_ix (n := n2) (j := j) hk] at hu ⊢
            rw [List.getElem?_append_right (by rw [hown1.1]; omega), hown1.1, Nat.add_sub_cancel_left] at hu
            refine ((hr2 _ e j t' u he hj hu).frame fun b hb => hblk b (hlt2 b (hG2 _ b hb)).2 fun e => hdis b (hF1' b e) (hG2 _ b hb)).mono fun b hb => ?_
            show if es.length * n2 + ((k - es.length) * n2 + j) < es.length * n2 then _ else _
            rw [if_neg (by omega), Nat.add_sub_cancel_left]; exact hb
        · replace hb : if q < es.length * n2 then Gs1 q b else Gs2 (q - es.length * n2) b := hb
          split at hb
          · exact .inl (hG1 _ b hb)
          · exact .inr (.inl (hG2 _ b hb))
        · replace hb : if q < es.length * n2 then Gs1 q b else Gs2 (q - es.length * n2) b := hb
          intro e
          have hbl : b < w.heap.size := by
            split at hb
            · exact (hlt1 b (hG1 _ b hb)).2
            · exact (hlt2 b (hG2 _ b hb)).2
          rcases k4 with k4 | k4
          · rw [k4] at e
            split at hb
            · exact hne1 _ b hb e
            · exact hdis b (hF1' b e) (hG2 _ b hb)
          · rw [k4] at e
            have := Option.some.inj e
            omega
        · replace hb : if q < es.length * n2 then Gs1 q b else Gs2 (q - es.length * n2) b := hb
          replace hb' : if q' < es.length * n2 then Gs1 q' b else Gs2 (q' - es.length * n2) b := hb'
          split at hb <;> split at hb'
          · exact hd1 _ _ b hb hb'
          · exact (hdis b (hG1 _ b hb) (hG2 _ b hb')).elim
          · exact (hdis b (hG1 _ b hb') (hG2 _ b hb)).elim
          · have := hd2 _ _ b hb hb'
            omega)
      ⟨_, _, rfl⟩ (fun b hb => by
        rcases hb with hb | hb | hb
        · exact ⟨⟨(hlt1 b hb).1, Nat.lt_of_lt_of_le (hlt1 b hb).2 k3.size⟩, .inr ⟨ls, List.mem_cons_self .., by rw [hF1]; exact hb⟩⟩
        · exact ⟨⟨(hlt2 b hb).1, Nat.lt_of_lt_of_le (hlt2 b hb).2 k3.size⟩, .inr ⟨lx, List.mem_cons_of_mem _ (List.mem_cons_self ..), by rw [hF2]; exact hb⟩⟩
        · refine ⟨⟨own_at h hb k4 (fun b hb => (hlt1 b (hF1' b hb)).1), (World.ownsRow.lt k2 b hb).2⟩, ?_⟩
          rcases k4 with k4 | k4
          · exact .inr ⟨ls, List.mem_cons_self .., by rw [hF1]; exact hF1' b (by rw [← k4]; exact hb)⟩
          · rw [k4] at hb
            exact .inl (h.fresh (by rw [← Option.some.inj hb]; exact Nat.le_refl _)))
    refine wp_value (v := v') (w' := w') ?_ (by rw [hd]; exact k _ _ _ (hG'.put hdN (vone.2 ⟨⟨Nat.lt_succ_self _, hvl.symm⟩, .inr (ownsRow_one k2)⟩)) (made_append I h hts hvs k3 k4 k5 hvl hvls hβs ((same_grown h k3 fun b hb => (hlt1 b (hF1' b hb)).1))))
    simp [execOp, ho, resolve, invoke, builtin, hxv, k1, Result.andThen]
end Go.Proofs.YtlnjgoommpeioaaDoor.V
/- States told by trees: literals, stretches, calls, parts of values, struct literals, stores into slices. -/
namespace Go.Proofs.YtlnjgoommpeioaaDoor.V
open Go Go.RowKit
set_option linter.unusedVariables false
variable {E : Env} {N : Nat} {σ σ' : VS} {o : Oper} {a : Act} {w : World} {G : Ghost}
def Flat (fs : List (List T)) : Prop := ∀ (k : Nat) (e : List T) (j : Nat) (t : T), fs[k]? = some e → e[j]? = some t → ∃ u, t = T.lit u
def litv : T → Value
  | .lit u => u
  | _ => .bool false
theorem flat_ix {fs : List (List T)} {n : Nat} (hn : ∀ e ∈ fs, e.length = n) : ∀ (k j : Nat) (e : List T) (t : T), fs[k]? = some e → e[j]? = some t → (fs.flatMap fun e => e.map litv)[k * n + j]? = some (litv t) := by
  induction fs with
  | nil => intro k j e t h; simp at h
  | cons f fs ih =>
    intro k j e t hk hj
    have hf : f.length = n := hn f (List.mem_cons_self ..)
    rw [List.flatMap_cons]
    cases k with
    | zero =>
      cases hk
      rw [Nat.zero_mul, Nat.zero_add, List.getElem?_append_left (by rw [List.length_map]; exact get_lt hj), List.getElem?_map, hj]
      rfl
    | succ k =>
      have h1 : (k + 1) * n + j = n + (k * n + j) := by rw [Nat.add_mul, Nat.one_mul]; omega
      rw [h1, List.getElem?_append_right (by rw [List.length_map, hf]; omega), List.length_map, hf, Nat.add_sub_cancel_left]
      exact ih (fun e he => hn e (List.mem_cons_of_mem _ he)) k j e t (by simpa using hk) hj
theorem flat_len {fs : List (List T)} {n : Nat} (hn : ∀ e ∈ fs, e.length = n) : (fs.flatMap fun e => e.map litv).length = fs.length * n := by
  induction fs with
  | nil => simp
  | cons f fs ih =>
    rw [List.flatMap_cons, List.length_append, List.length_map, hn f (List.mem_cons_self ..), ih fun e he => hn e (List.mem_cons_of_mem _ he), List.length_cons, Nat.add_mul, Nat.one_mul]
    omega
theorem flat_at {fs : List (List T)} {n p : Nat} {u : Value} (hn : ∀ e ∈ fs, e.length = n) (hp : 0 < n) (h : (fs.flatMap fun e => e.map litv)[p]? = some u) : ∃ e t, fs[p / n]? = some e ∧ e[p % n]? = some t ∧ u = litv t ∧ p / n * n + p % n = p := by
  have hlt := get_lt h
  rw [flat_len hn] at hlt
  have hd : p / n < fs.length := by rw [Nat.div_lt_iff_lt_mul hp]; exact hlt
  have hm : p % n < fs[p / n].length := by rw [hn _ (List.getElem_mem hd)]; exact Nat.mod_lt _ hp
  have e1 : p / n * n + p % n = p := by rw [Nat.mul_comm]; exact Nat.div_add_mod p n
  have h2 := flat_ix hn (p / n) (p % n) fs[p / n] fs[p / n][p % n] (List.getElem?_eq_getElem hd) (List.getElem?_eq_getElem hm)
  rw [e1, h] at h2
  exact ⟨_, _, List.getElem?_eq_getElem hd, List.getElem?_eq_getElem hm, Option.some.inj h2, e1⟩
/-- 'append(s, x...)', x of flat elements that may be read. -/
theorem ok_append_ro {d : Nat} {s x : Operand} {t ty : TypeId} {n bytes : Nat} {z : Value} (I : ElT t ty n z bytes) {ls lx : Leaf} {es fs : List (List T)} {kk : Nat} (hk : σ.nx = kk) (ho : o.op = .call { callee := .builtin .append, args := #[s, x], argTypes := #[t, t] })
    (hs : σ.ev s = V.one ls) (hx : σ.ev x = V.one lx) (hts : σ.out ls = some (.seq ty es)) (htx : σ.tr lx = some (.seq ty fs)) (hfl : Flat fs) (hlen : es.length + fs.length ≤ 350000000000) (hd : o.dst = some d) (hdN : d < N) :
    OpMk Tryd.prog E N (Leaf.id? ls) σ o (((σ.kills [ls]).new (.seq ty (es ++ fs))).put d (V.one (.hd kk))) :=
  fun a w G K Q h k => by
    subst hk
    have hvs := h.ev s
    rw [hs, vone] at hvs
    have os := h.out hvs hts
    generalize hF1 : ls.foot G = F1 at os
    have hlt1 : ∀ b, F1 b → (E.B ≤ b ∨ E.ln b) ∧ b < w.heap.size := fun b hb => by
      rw [← hF1] at hb
      cases ls with
      | hd i =>
        obtain ⟨p, e1, -⟩ := Option.map_eq_some_iff.1 hts
        exact h.ftlt i b (by rw [e1]; simp) hb
      | _ => exact hb.elim
    have hcs : ∀ y ∈ [ls], ∃ t, σ.out y = some t := fun y hy => by
      rw [List.mem_singleton.1 hy]
      exact ⟨_, hts⟩
    obtain ⟨ad, c, n2, hxv, hc1, -, hc3, hp2, hz2, hn2, b2, o2, us, ha2, hb2, hcell, hr2⟩ := inn_seq (h.head hx htx)
    cases os with
    | seq n1 hp1 hz1 hn1 xs1 hown1 Gs1 hr1 hone1 hF1' hG1 hne1 hd1 =>
    have e1 := hz1.eq I.sz
    have e2 := hz2.eq I.sz
    subst e1 e2
    have hval : ∀ p u, (fs.flatMap fun e => e.map litv)[p]? = some u → w.cell? ⟨b2, o2 + p, none⟩ = some u ∧ u.oneCell' = true := fun p u hu => by
      obtain ⟨e, t', h1, h2, h3, h4⟩ := flat_at hn2 hp2 hu
      obtain ⟨v, hv⟩ := hfl _ _ _ _ h1 h2
      subst hv
      have h5 := hr2 _ _ _ _ h1 h2
      have h6 := hcell _ _ _ _ h1 h2
      rw [h4] at h5 h6
      cases h5 with
      | lit h7 =>
        rw [h3]
        exact ⟨h6, h7⟩
    obtain ⟨v', w', k1, k2, k3, k4, k5⟩ := append_core I hown1 (Nat.zero_le _) hc3 hc1 (flat_len hn2) (fun y hy j u hj => by
      have hne : fs ≠ [] := fun hh => by rw [hh] at hj; simp at hj
      rw [ha2 y hy hne, Addr.add_lit]
      exact (hval j u hj).1) (fun u hu => by
        obtain ⟨j, hj, rfl⟩ := List.getElem_of_mem hu
        exact (hval j _ (List.getElem?_eq_getElem hj)).2) hlen o.type
    have hblk : ∀ k, k < w.heap.size → ¬ ((a.eval s).ownBlock = some k) → w'.heap[k]? = w.heap[k]? := fun k hk hn => k3.block k hk fun e => hn e.symm
    obtain ⟨G', hG', ⟨hvl, hvls, hβs⟩, -, -⟩ := h.renew [ls] hcs (w' := w') (t := .seq ty (es ++ fs)) (v := v') (F := fun b => F1 b ∨ v'.ownBlock = some b) (fun b => (a.eval s).ownBlock = some b)
      (same_grown h k3 fun b hb => (hlt1 b (hF1' b hb)).1) hblk (fun b hb => ⟨ls, List.mem_singleton.2 rfl, by rw [hF1]; exact hF1' b hb⟩)
      (by
        refine .seq n2 hp2 hz2 (fun e he => (List.mem_append.1 he).elim (hn1 e) (hn2 e)) _ (by rw [List.length_append]; exact k2) (fun q b => q < es.length * n2 ∧ Gs1 q b) (fun k e j t' u he hj hu => ?_) (fun u hu => (List.mem_append.1 hu).elim (hone1 u) fun hu => ?_) (fun b hb => .inr hb) (fun q b hb => .inl (hG1 _ b hb.2)) (fun q b hb e => ?_) fun q q' b hb hb' => hd1 _ _ b hb.2 hb'.2
        · have hj2 : j < n2 := by
            rcases cat_el he with ⟨-, he⟩ | ⟨-, he⟩
            · rw [← hn1 e (get_mem he)]; exact get_lt hj
            · rw [← hn2 e (get_mem he)]; exact get_lt hj
          rcases cat_el he with ⟨hk, he⟩ | ⟨hk, he⟩
          · have hlt := at_lt hk hj2
            rw [List.getElem?_append_left (by rw [hown1.1]; exact hlt)] at hu
            exact ((hr1 k e j t' u he hj hu).frame fun b hb => hblk b (hlt1 b (hG1 _ b hb)).2 fun e => hne1 _ b hb e).mono fun b hb => ⟨hlt, hb⟩
          · rw [cat_ix (n := n2) (j := j) hk] at hu
            rw [List.getElem?_append_right (by rw [hown1.1]; omega), hown1.1, Nat.add_sub_cancel_left, flat_ix hn2 _ j e t' he hj] at hu
            obtain ⟨v, hv⟩ := hfl _ _ _ _ he hj
            subst hv
            rw [← Option.some.inj hu]
            exact .lit (hval _ _ (flat_ix hn2 _ j e _ he hj)).2
        · obtain ⟨j, hj, rfl⟩ := List.getElem_of_mem hu
          exact (hval j _ (List.getElem?_eq_getElem hj)).2
        · rcases k4 with k4 | k4
          · rw [k4] at e
            exact hne1 _ b hb.2 e
          · rw [k4] at e
            have := Option.some.inj e
            have := (hlt1 b (hG1 _ b hb.2)).2
            omega)
      ⟨_, _, rfl⟩ (fun b hb => by
        rcases hb with hb | hb
        · exact ⟨⟨(hlt1 b hb).1, Nat.lt_of_lt_of_le (hlt1 b hb).2 k3.size⟩, .inr ⟨ls, List.mem_singleton.2 rfl, by rw [hF1]; exact hb⟩⟩
        · refine ⟨⟨own_at h hb k4 (fun b hb => (hlt1 b (hF1' b hb)).1), (World.ownsRow.lt k2 b hb).2⟩, ?_⟩
          rcases k4 with k4 | k4
          · exact .inr ⟨ls, List.mem_singleton.2 rfl, by rw [hF1]; exact hF1' b (by rw [← k4]; exact hb)⟩
          · rw [k4] at hb
            exact .inl (h.fresh (by rw [← Option.some.inj hb]; exact Nat.le_refl _)))
    refine wp_value (v := v') (w' := w') ?_ (by rw [hd]; exact k _ _ _ (hG'.put hdN (vone.2 ⟨⟨Nat.lt_succ_self _, hvl.symm⟩, .inr (ownsRow_one k2)⟩)) (made_append I h hts hvs k3 k4 k5 hvl hvls hβs ((same_grown h k3 fun b hb => (hlt1 b (hF1' b hb)).1))))
    simp [execOp, ho, resolve, invoke, builtin, hxv, k1, Result.andThen]
/-- A stretch of a slice. -/
def Leaf.cutL (lf : Leaf) (t : T) : Leaf := match lf with
  | .ro _ => .ro t
  | .hd i => .nd i 0 t none
  | .nd i ver _ _ => .nd i ver t none
  | _ => .dead
/-- One component of a tuple. -/
theorem ok_extract {nb c : Nat} {x : Operand} {ps : List (Bool × List Leaf)} {ag : Bool} {xs : List Leaf} (ho : o.op = .extract x c) (hx : σ.ev x = ⟨true, ps⟩) (hc : ps[c]? = some (ag, xs)) : OpL Tryd.prog E N nb σ o (V.flat ag xs) :=
  fun a w G h => by
    have h1 := h.ev x
    rw [hx] at h1
    obtain ⟨uss, h2, h3, h4⟩ := h1
    have hcl : c < uss.length := by rw [h2]; exact get_lt hc
    obtain ⟨h5, h6⟩ := h4 c ag xs uss[c] hc (List.getElem?_eq_getElem hcl)
    refine ⟨cval ag uss[c], fun v' _ => ?_, vflat.2 ⟨_, rfl, h5, h6⟩⟩
    have : (List.zipWith (fun (c : Bool × List Leaf) us => cval c.1 us) ps uss)[c]? = some (cval ag uss[c]) := by
      rw [List.getElem?_zipWith, hc, List.getElem?_eq_getElem hcl]
    simp [execOp, ho, Instr.extract, h3, vval, this]
/-! ### Calls -/
/-- What is handed to a call: trees that may be read. -/
def VS.arg (σ : VS) : Leaf → Option T
  | .dead => some .any
  | x => σ.tr x
def VS.args (σ : VS) : List Leaf → List T → Prop
  | [], [] => True
  | x :: xs, t :: ts => σ.tr x = some t ∧ σ.args xs ts
  | _, _ => False
theorem args_get {σ : VS} : ∀ {xs : List Leaf} {ts : List T}, σ.args xs ts → xs.length = ts.length ∧ ∀ (j : Nat) (t : T), ts[j]? = some t → ∃ x, xs[j]? = some x ∧ σ.tr x = some t
  | [], [], _ => ⟨rfl, fun j t h => by simp at h⟩
  | x :: xs, t :: ts, h => by
    obtain ⟨h1, h2⟩ := args_get h.2
    refine ⟨by simp [h1], fun j y hj => ?_⟩
    cases j with
    | zero => cases hj; exact ⟨x, rfl, h.1⟩
    | succ j => exact h2 j y (by simpa using hj)
def VS.argss (σ : VS) : List Operand → List (Bool × List T) → Prop
  | [], [] => True
  | x :: xs, q :: qs => (∃ ls, σ.ev x = V.flat q.1 ls ∧ σ.args ls q.2) ∧ σ.argss xs qs
  | _, _ => False
theorem Rel.args (h : Rel E N σ a w G) : ∀ {xs : List Operand} {qs : List (Bool × List T)}, σ.argss xs qs → ArgsIn (Env.of w) w qs (xs.map a.eval)
  | [], [], _ => ⟨rfl, fun c ag ts v hc => by simp at hc⟩
  | x :: xs, q :: qs, hq => by
    obtain ⟨⟨ls, h1, h2⟩, h3⟩ := hq
    obtain ⟨h4, h5⟩ := h.args h3
    refine ⟨by simpa using h4, fun c ag ts v hc hv => ?_⟩
    cases c with
    | zero =>
      cases hc
      cases hv
      have h6 := h.ev x
      rw [h1, vflat] at h6
      obtain ⟨us, h7, h8, h9⟩ := h6
      obtain ⟨h10, h11⟩ := args_get h2
      refine ⟨us, h7, h8.trans h10, fun j t u hj hu => ?_⟩
      obtain ⟨y, h12, h13⟩ := h11 j t hj
      have := h.tree (h9 j y u h12 hu) h13
      refine this.frame (Nat.le_refl _) fun b hb hb' => ⟨Env.of_old.2 hb', rfl⟩
    | succ c => exact h5 c ag ts v (by simpa using hc) (by simpa using hv)
/-- The leaves of an answer, new objects numbered from k on. -/
def ansL : Nat → List T → List Leaf × Nat
  | k, [] => ([], k)
  | k, .lit u :: ts => let r := ansL k ts; (.sc u :: r.1, r.2)
  | k, .any :: ts => let r := ansL k ts; (.dead :: r.1, r.2)
  | k, .seq _ _ :: ts => let r := ansL (k + 1) ts; (.hd k :: r.1, r.2)
def ansS (σ : VS) : List T → VS
  | [] => σ
  | .seq ty es :: ts => ansS (σ.new (.seq ty es)) ts
  | _ :: ts => ansS σ ts
def ansLs : Nat → List (Bool × List T) → List (Bool × List Leaf)
  | _, [] => []
  | k, (ag, ts) :: qs => (ag, (ansL k ts).1) :: ansLs (ansL k ts).2 qs
def ansSs (σ : VS) : List (Bool × List T) → VS
  | [] => σ
  | (_, ts) :: qs => ansSs (ansS σ ts) qs
/-- Each new object's leaf holds; what held before holds. -/
theorem Rel.addAll : ∀ (ts : List T) {σ : VS} {G : Ghost} (us : List Value) (F : Nat → Nat → Prop), Rel E N σ a w G → us.length = ts.length → (∀ (j : Nat) (t : T) (u : Value), ts[j]? = some t → us[j]? = some u → Own w 0 t u (F j)) → (∀ j b, F j b → Fresh σ G b ∧ (E.B ≤ b ∨ E.ln b) ∧ b < w.heap.size) →
    (∀ i j b, F i b → F j b → i = j) → ∃ G', Rel E N (ansS σ ts) a w G' ∧ (ansS σ ts).bs = σ.bs ∧ (ansS σ ts).nx = (ansL σ.nx ts).2 ∧ σ.nx ≤ (ansS σ ts).nx ∧ (∀ b, Fresh σ G b → (∀ j, ¬ F j b) → Fresh (ansS σ ts) G' b) ∧ (∀ x u, Holds G σ E w x u → Holds G' (ansS σ ts) E w x u) ∧ (ansL σ.nx ts).1.length = ts.length ∧
      (∀ (j : Nat) (x : Leaf) (u : Value), (ansL σ.nx ts).1[j]? = some x → us[j]? = some u → Holds G' (ansS σ ts) E w x u) ∧
      (∀ i, i < σ.nx → G'.vl i = G.vl i) ∧ G'.β = G.β ∧ ∀ i, σ.nx ≤ i → i < (ansS σ ts).nx → ∀ b, (G'.vl i).ownBlock = some b → ∃ j, F j b
  | [], σ, G, us, F, h, hl, ho, hF, hd => ⟨G, h, rfl, rfl, Nat.le_refl _, fun b hb _ => hb, fun x u hx => hx, rfl, fun j x u hj => by simp [ansL] at hj, fun _ _ => rfl, rfl, fun i h1 h2 => absurd h2 (Nat.not_lt.2 h1)⟩
  | .any :: ts, σ, G, u :: us, F, h, hl, ho, hF, hd => by
    obtain ⟨G', h1, h2, h3, h4, h5, h6, h7, h8, h9, h10, h11⟩ := Rel.addAll ts us (fun j => F (j + 1)) h (by simpa using hl) (fun j t u hj hu => ho (j + 1) t u (by simpa using hj) (by simpa using hu)) (fun j b hb => hF _ b hb) fun i j b hi hj => by have := hd _ _ b hi hj; omega
    refine ⟨G', h1, h2, h3, h4, fun b hb hn => h5 b hb fun j => hn (j + 1), h6, by simp [ansL, h7], fun j x v hj hv => ?_, h9, h10, fun i e1 e2 b e3 => by obtain ⟨j, hj⟩ := h11 i e1 e2 b e3; exact ⟨j + 1, hj⟩⟩
    cases j with
    | zero => cases hj; exact ⟨trivial, .inl rfl⟩
    | succ j => exact h8 j x v (by simpa [ansL] using hj) (by simpa using hv)
  | .lit v :: ts, σ, G, u :: us, F, h, hl, ho, hF, hd => by
    obtain ⟨G', h1, h2, h3, h4, h5, h6, h7, h8, h9, h10, h11⟩ := Rel.addAll ts us (fun j => F (j + 1)) h (by simpa using hl) (fun j t u hj hu => ho (j + 1) t u (by simpa using hj) (by simpa using hu)) (fun j b hb => hF _ b hb) fun i j b hi hj => by have := hd _ _ b hi hj; omega
    refine ⟨G', h1, h2, h3, h4, fun b hb hn => h5 b hb fun j => hn (j + 1), h6, by simp [ansL, h7], fun j x y hj hv => ?_, h9, h10, fun i e1 e2 b e3 => by obtain ⟨j, hj⟩ := h11 i e1 e2 b e3; exact ⟨j + 1, hj⟩⟩
    cases j with
    | zero =>
      cases hj
      cases hv
      have := ho 0 (.lit v) u rfl rfl
      cases this with
      | lit hv => exact ⟨rfl, .inr hv⟩
    | succ j => exact h8 j x y (by simpa [ansL] using hj) (by simpa using hv)
  | .seq ty es :: ts, σ, G, u :: us, F, h, hl, ho, hF, hd => by
    have hown := ho 0 (.seq ty es) u rfl rfl
    obtain ⟨G1, k1, ⟨k2, k5, k6⟩, k3, k4⟩ := h.renew [] (fun x hx => by cases hx) (w' := w) (t := .seq ty es) (v := u) (F := F 0) (fun _ => False) (Same.refl _ _) (fun _ _ _ => rfl) (fun b hb => hb.elim) hown ⟨_, _, rfl⟩ fun b hb => ⟨(hF 0 b hb).2, .inl (hF 0 b hb).1⟩
    have e0 : (σ.kills []).new (.seq ty es) = σ.new (.seq ty es) := rfl
    rw [e0] at k1 k3 k4
    obtain ⟨G', h1, h2, h3, h4, h5, h6, h7, h8, h9, h10, h11⟩ := Rel.addAll ts us (fun j => F (j + 1)) k1 (by simpa using hl) (fun j t u hj hu => ho (j + 1) t u (by simpa using hj) (by simpa using hu)) (fun j b hb => ⟨k3 b (hF _ b hb).1 fun hb0 => by have := hd _ _ b hb hb0; omega, (hF _ b hb).2⟩) fun i j b hi hj => by have := hd _ _ b hi hj; omega
    refine ⟨G', h1, h2, h3, Nat.le_trans (Nat.le_succ _) h4, fun b hb hn => h5 b (k3 b hb (hn 0)) fun j => hn (j + 1), fun x u hx => h6 x u (k4 x u hx), by simp [ansL] at h7 ⊢; exact h7, fun j x v hj hv => ?_, fun i hi => (h9 i (Nat.lt_succ_of_lt hi)).trans (k5 i hi), h10.trans k6, fun i e1 e2 b e3 => ?_⟩
    rotate_left
    · by_cases hi : i = σ.nx
      · subst hi
        rw [h9 _ (Nat.lt_succ_self _), k2] at e3
        cases hown with
        | seq n hp hz hn xs hown Gs hr hone hF' hG hne hd' => exact ⟨0, hF' b e3⟩
      · obtain ⟨j, hj⟩ := h11 i (Nat.lt_of_le_of_ne e1 (Ne.symm hi)) e2 b e3
        exact ⟨j + 1, hj⟩
    cases j with
    | zero =>
      cases hj
      cases hv
      exact h6 _ _ ⟨⟨Nat.lt_succ_self _, k2.symm⟩, .inr hown.one⟩
    | succ j =>
      have hj' : (ansL (σ.nx + 1) ts).1[j]? = some x := by simpa [ansL] using hj
      exact h8 j x v hj' (by simpa using hv)
/-- The same, component by component. -/
theorem Rel.addAlls : ∀ (qs : List (Bool × List T)) {σ : VS} {G : Ghost} (uss : List (List Value)) (F : Nat → Nat → Nat → Prop), Rel E N σ a w G → uss.length = qs.length →
    (∀ (c : Nat) (ag : Bool) (ts : List T) (us : List Value), qs[c]? = some (ag, ts) → uss[c]? = some us → us.length = ts.length ∧ ∀ (j : Nat) (t : T) (u : Value), ts[j]? = some t → us[j]? = some u → Own w 0 t u (F c j)) → (∀ c j b, F c j b → Fresh σ G b ∧ (E.B ≤ b ∨ E.ln b) ∧ b < w.heap.size) →
    (∀ c j c' j' b, F c j b → F c' j' b → c = c' ∧ j = j') → ∃ G', Rel E N (ansSs σ qs) a w G' ∧ (∀ x u, Holds G σ E w x u → Holds G' (ansSs σ qs) E w x u) ∧ (ansLs σ.nx qs).length = qs.length ∧
      (∀ (c : Nat) (ag : Bool) (xs : List Leaf) (us : List Value), (ansLs σ.nx qs)[c]? = some (ag, xs) → uss[c]? = some us → us.length = xs.length ∧ (∃ ts, qs[c]? = some (ag, ts)) ∧ ∀ (j : Nat) (x : Leaf) (u : Value), xs[j]? = some x → us[j]? = some u → Holds G' (ansSs σ qs) E w x u) ∧
      σ.nx ≤ (ansSs σ qs).nx ∧ (∀ i, i < σ.nx → G'.vl i = G.vl i) ∧ G'.β = G.β ∧ ∀ i, σ.nx ≤ i → i < (ansSs σ qs).nx → ∀ b, (G'.vl i).ownBlock = some b → ∃ c j, F c j b
  | [], σ, G, uss, F, h, hl, ho, hF, hd => ⟨G, h, fun x u hx => hx, rfl, fun c ag xs us hc => by simp [ansLs] at hc, Nat.le_refl _, fun _ _ => rfl, rfl, fun i h1 h2 => absurd h2 (Nat.not_lt.2 h1)⟩
  | (ag0, ts) :: qs, σ, G, us :: uss, F, h, hl, ho, hF, hd => by
    obtain ⟨hlen, ho0⟩ := ho 0 ag0 ts us rfl rfl
    obtain ⟨G1, h1, h2, h3, h4, h5, h6, h7, h8, h9, h10, h11⟩ := Rel.addAll ts us (F 0) h hlen ho0 (hF 0) fun i j b hi hj => (hd 0 i 0 j b hi hj).2
    obtain ⟨G2, k1, k2, k3, k4, k5, k6, k7, k8⟩ := Rel.addAlls qs uss (fun c => F (c + 1)) h1 (by simpa using hl) (fun c ag ts us hc hu => ho (c + 1) ag ts us (by simpa using hc) (by simpa using hu))
      (fun c j b hb => ⟨h5 b (hF _ j b hb).1 fun j' hb' => by have := (hd _ _ _ _ b hb hb').1; omega, (hF _ j b hb).2⟩) fun c j c' j' b hb hb' => by have := hd _ _ _ _ b hb hb'; exact ⟨by omega, this.2⟩
    refine ⟨G2, k1, fun x u hx => k2 x u (h6 x u hx), by rw [h3] at k3; simp [ansLs, k3], fun c ag xs vs hc hv => ?_, Nat.le_trans h4 k5, fun i hi => (k6 i (Nat.lt_of_lt_of_le hi h4)).trans (h9 i hi), k7.trans h10, fun i e1 e2 b e3 => ?_⟩
    rotate_left
    · rcases Nat.lt_or_ge i (ansS σ ts).nx with hi | hi
      · rw [k6 i hi] at e3
        obtain ⟨j, hj⟩ := h11 i e1 hi b e3
        exact ⟨0, j, hj⟩
      · obtain ⟨c, j, hj⟩ := k8 i hi e2 b e3
        exact ⟨c + 1, j, hj⟩
    cases c with
    | zero =>
      cases hv
      have hc' : (ag0, (ansL σ.nx ts).1) = (ag, xs) := by simpa [ansLs] using hc
      injection hc' with e1 e2
      subst e1 e2
      exact ⟨hlen.trans h7.symm, ⟨ts, rfl⟩, fun j x u hj hu => k2 x u (h8 j x u hj hu)⟩
    | succ c =>
      have hc' : (ansLs (ansS σ ts).nx qs)[c]? = some (ag, xs) := by rw [h3]; simpa [ansLs] using hc
      obtain ⟨e1, e2, e3⟩ := k4 c ag xs vs hc' (by simpa using hv)
      exact ⟨e1, by obtain ⟨ts', e2⟩ := e2; exact ⟨ts', by simpa using e2⟩, e3⟩
/-- A call that is told by trees. -/
theorem ok_callW {P : Program} {d : Nat} {f : FuncId} {xs : List Operand} {ats : Array TypeId} {qs : List (Bool × List T)} {tup : Bool} {rs : List (Bool × List T)} {ls : List (Bool × List Leaf)} (hk : ansLs σ.nx rs = ls) (ho : o.op = .call { callee := .value (.func f), args := xs.toArray, argTypes := ats }) (hb : ∃ fn c, P.funcs[f]? = some fn ∧ fn.body = some c ∧ fn.name ≠ "runtime.NumGoroutine")
    (hc : ∀ w, Same E E.w0 w → ∀ vs, ArgsIn (Env.of w) w qs vs → Calls P f vs.toArray w (Gives (Env.of w) tup rs)) (hx : σ.argss xs qs) (hd : o.dst = some d) (hdN : d < N) : OpMk P E N none σ o ((ansSs σ rs).put d ⟨tup, ls⟩) :=
  fun a w G K Q h k => by
    subst hk
    obtain ⟨fn, c, h1, h2, h2'⟩ := hb
    have hcall := hc w h.below (xs.map a.eval) (h.args hx)
    have hrun : (execOp a.eval o).run P w = .ok (.enter f (xs.map a.eval).toArray) w := by
      simp [execOp, ho, resolve, Act.eval, Deferred.ofValue, invoke, callFunc, h1, h2, h2', Result.andThen]
    unfold Oper.wp
    rw [hrun]
    refine hcall.mono fun e w' ⟨uss, F, h3, h4, h5, h6, h6', h7'⟩ => ?_
    have h7 : Below w.heap.size w w' := ⟨h7'.os, h7'.tape, h7'.output, h7'.size, fun k hk => h7'.block k (Env.of_old.2 hk)⟩
    subst h4
    have h' := h.ext h7
    obtain ⟨G', k1, k2, k3, k4, k5, k6, k7, k8⟩ := h'.addAlls rs uss F h3 (fun c ag ts us hc hu => ⟨(h5 c ag ts us hc hu).1, fun j t u hj hu' => (h5 c ag ts us hc hu).2 j t u hj hu'⟩) (fun c j b hb => by
      have hbw : w.heap.size ≤ b := (h6' c j b hb).1.elim id fun h => h.elim
      exact ⟨⟨fun i hi hf => by have := (h.ftlt i b hi hf).2; omega, (h.fresh hbw).2⟩, .inl (Nat.le_trans h.low hbw), (h6' c j b hb).2⟩) h6
    rw [hd]
    refine k _ _ _ (k1.put hdN ⟨uss, h3.trans k3.symm, ?_, fun c ag xs us hc hu => ⟨(k4 c ag xs us hc hu).1, (k4 c ag xs us hc hu).2.2⟩⟩) ⟨h7.size, .of_below (h7.mono h.low), k6, fun b _ => by rw [k7], fun b hb => .inl (h7.block b hb), fun i e1 e2 b e3 => by obtain ⟨c, j, hj⟩ := k8 i e1 e2 b e3; exact .inl ((h6' c j b hj).1.elim id fun h => h.elim)⟩
    congr 1
    apply List.ext_getElem?
    intro c
    rw [List.getElem?_zipWith, List.getElem?_zipWith]
    cases hq : (ansLs σ.nx rs)[c]? with
    | none =>
      have : rs[c]? = none := by rw [List.getElem?_eq_none_iff] at hq ⊢; omega
      rw [this]
    | some q =>
      obtain ⟨ag, xs'⟩ := q
      have hcl : c < uss.length := by have := get_lt hq; omega
      obtain ⟨-, ⟨ts, hts⟩, -⟩ := k4 c ag xs' uss[c] hq (List.getElem?_eq_getElem hcl)
      rw [hts, List.getElem?_eq_getElem hcl]
theorem ok_call {P : Program} {d : Nat} {f : FuncId} {xs : List Operand} {ats : Array TypeId} {qs : List (Bool × List T)} {tup : Bool} {rs : List (Bool × List T)} {ls : List (Bool × List Leaf)} (hk : ansLs σ.nx rs = ls) (ho : o.op = .call { callee := .value (.func f), args := xs.toArray, argTypes := ats }) (hb : ∃ fn c, P.funcs[f]? = some fn ∧ fn.body = some c ∧ fn.name ≠ "runtime.NumGoroutine")
    (hc : VC P f qs tup rs) (hx : σ.argss xs qs) (hd : o.dst = some d) (hdN : d < N) : OpMk P E N none σ o ((ansSs σ rs).put d ⟨tup, ls⟩) :=
  ok_callW hk ho hb (fun w _ => hc w) hx hd hdN
/-! ### Literals of slices -/
/-- An empty literal. -/
theorem ok_lit0 {d : Nat} {t ty : TypeId} {n bytes : Nat} {z : Value} (I : ElT t ty n z bytes) {kk : Nat} (hk : σ.nx = kk) (ho : o.op = .buildSlice t 0 #[]) (hd : o.dst = some d) (hdN : d < N) : OpMk Tryd.prog E N none σ o ((σ.new (.seq ty [])).put d (V.one (.hd kk))) :=
  fun a w G K Q h k => by
    subst hk
    obtain ⟨i0, hi, hz0, hz1, hz2⟩ := info_parts I.inf
    have hrun : (Instr.buildSlice t 0 #[]).run Tryd.prog w = .ok (.slice (some ⟨w.heap.size, 0, none⟩) 0 0) (w.alloc (.cells #[] ty)) := by
      simp [Instr.buildSlice, run_underlying I.und, sizeOf, Lib.rl_info ty i0 hi, Instr.fill, newRow, Result.andThen]
      exact congrArg (fun c => w.alloc (.cells c ty)) (by apply Array.ext <;> simp)
    obtain ⟨G', hG', ⟨hvl, hvls, hβs⟩, -, -⟩ := h.renew [] (fun x hx => by cases hx) (w' := w.alloc (.cells #[] ty)) (t := .seq ty []) (v := .slice (some ⟨w.heap.size, 0, none⟩) 0 0) (F := fun b => b = w.heap.size) (fun _ => False) (.of_below ((Below.refl _ _).alloc h.low _)) (fun k hk _ => Below.heap_alloc _ _ _ hk) (fun b hb => hb.elim)
      (.seq n I.pos I.sz (fun e he => by cases he) [] (World.ownsRow_made w #[] 0 (Nat.zero_le _) (Nat.zero_le _) (by simp)) (fun _ _ => False) (fun k e j t u h => by simp at h) (fun u hu => by cases hu) (fun b hb => by cases hb; rfl) (fun q b hb => hb.elim) (fun q b hb => hb.elim) fun q q' b hb => hb.elim)
      ⟨_, _, rfl⟩ fun b hb => ⟨by subst hb; exact ⟨.inl h.low, by simp⟩, .inl (h.fresh (by rw [hb]; exact Nat.le_refl _))⟩
    refine wp_value (v := .slice (some ⟨w.heap.size, 0, none⟩) 0 0) (w' := w.alloc (.cells #[] ty)) ?_ (by rw [hd]; exact k _ _ _ (hG'.put hdN (vone.2 ⟨⟨Nat.lt_succ_self _, hvl.symm⟩, .inr rfl⟩)) ⟨by simp, .of_below ((Below.refl _ _).alloc h.low _), hvls, fun b _ => by rw [hβs], fun b hb => .inl (Below.heap_alloc _ _ _ hb), fun i e1 e2 b e3 => .inl (by
      have hi : i = σ.nx := Nat.le_antisymm (Nat.le_of_lt_succ e2) e1
      rw [hi, hvl] at e3
      rw [← Option.some.inj e3]; exact Nat.le_refl _)⟩)
    simp [execOp, ho, hrun, Result.andThen]
/-- A literal of one element. -/
theorem ok_lit1 {d : Nat} {t ty : TypeId} {n bytes : Nat} {z : Value} {x : Operand} {ag : Bool} {xs : List Leaf} {ts : List T} (I : ElT t ty n z bytes) {kk : Nat} (hk : σ.nx = kk) (ho : o.op = .buildSlice t 1 #[(0, x)]) (hx : σ.ev x = V.flat ag xs) (hl : xs.length = n) (hag : ag = false → n = 1) (ht : σ.outs xs ts) (h2 : xs.Pairwise two) (hd : o.dst = some d) (hdN : d < N) : OpMk Tryd.prog E N none σ o (((σ.kills xs).new (.seq ty [ts])).put d (V.one (.hd kk))) :=
  fun a w G K Q h k => by
    subst hk
    obtain ⟨i0, hi, hz0, hz1, hz2⟩ := info_parts I.inf
    have hxv := h.ev x
    rw [hx, vflat] at hxv
    obtain ⟨us, h3, h4, h5⟩ := hxv
    obtain ⟨h6, h7⟩ := outs_get ht
    have htl : ts.length = n := by omega
    have hown : ∀ (j : Nat) (t : T) (u : Value), ts[j]? = some t → us[j]? = some u → ∃ x, xs[j]? = some x ∧ Own w 0 t u (x.foot G) := fun j t u hj hu => by
      obtain ⟨y, hy1, hy2⟩ := h7 j t hj
      exact ⟨y, hy1, h.out (h5 j y u hy1 hu) hy2⟩
    have hone : ∀ u ∈ us, u.oneCell' = true := fun u hu => by
      obtain ⟨j, hj, rfl⟩ := List.getElem_of_mem hu
      obtain ⟨y, -, hy⟩ := hown j ts[j] us[j] (List.getElem?_eq_getElem (by omega)) (List.getElem?_eq_getElem hj)
      exact hy.one
    have hcells : (cval ag us).cells = us.toArray := cval_cells fun e => ⟨by rw [h4, hl]; exact hag e, hone⟩
    have hrun : (Instr.buildSlice t 1 #[(0, cval ag us)]).run Tryd.prog w = .ok (.slice (some ⟨w.heap.size, 0, none⟩) 1 1) (w.alloc (.cells us.toArray ty)) := by
      refine run_buildSlice w t ty 1 _ us.toArray i0 z I.und hi hz0 ?_ ?_ ?_
      · rw [hz1]
        have := I.few
        omega
      · rw [hz1]; have := I.pos; omega
      · obtain ⟨r, hr1, hr2, hr3⟩ := Great.fill_dense (s := i0.size) (by rw [hz1]; exact I.pos) [cval ag us] 0 ((Array.range (1 * i0.size)).map (z.cells[· % z.cells.size]!)) (fun v hv => by rw [List.mem_singleton.1 hv, hcells, hz1]; simp [h4, hl]) (by simp)
        have e : r = us.toArray := by
          apply Array.ext_getElem?
          intro q
          rw [hr3 q]
          rcases Nat.lt_or_ge q i0.size with hq | hq
          · rw [if_pos ⟨by omega, by simp; exact hq⟩]
            simp [Nat.div_eq_of_lt hq, Nat.mod_eq_of_lt hq, hcells]
          · rw [if_neg (by simp; omega)]
            have h8 : us.toArray[q]? = none := by simp; omega
            rw [h8, Array.getElem?_eq_none (by simp; omega)]
        rw [← e]
        simpa using hr1
    have hfoot : ∀ (j : Nat) (b : Nat), (∃ y, xs[j]? = some y ∧ y.foot G b) → (E.B ≤ b ∨ E.ln b) ∧ b < w.heap.size := fun j b ⟨y, hy, hb⟩ => by
      cases y with
      | hd i =>
        have hjt : j < ts.length := by rw [← h6]; exact get_lt hy
        obtain ⟨y', hy1, hy2⟩ := h7 j ts[j] (List.getElem?_eq_getElem hjt)
        rw [hy] at hy1
        cases hy1
        obtain ⟨p, e1, -⟩ := Option.map_eq_some_iff.1 hy2
        exact h.ftlt i b (by rw [e1]; simp) hb
      | _ => exact hb.elim
    obtain ⟨G', hG', ⟨hvl, hvls, hβs⟩, -, -⟩ := h.renew xs (fun y hy => by
        obtain ⟨j, hj, rfl⟩ := List.getElem_of_mem hy
        obtain ⟨y', hy1, hy2⟩ := h7 j ts[j] (List.getElem?_eq_getElem (by omega))
        rw [List.getElem?_eq_getElem hj] at hy1
        exact ⟨_, by rw [Option.some.inj hy1]; exact hy2⟩) (w' := w.alloc (.cells us.toArray ty)) (t := .seq ty [ts]) (v := .slice (some ⟨w.heap.size, 0, none⟩) 1 1) (F := fun b => b = w.heap.size ∨ ∃ j y, xs[j]? = some y ∧ y.foot G b) (fun _ => False) (.of_below ((Below.refl _ _).alloc h.low _)) (fun k hk _ => Below.heap_alloc _ _ _ hk) (fun b hb => hb.elim)
      (.seq n I.pos I.sz (fun e he => by rw [List.mem_singleton.1 he]; exact htl) us ⟨by simp [h4, hl],   .inr ⟨w.heap.size, 1, us.toArray, rfl, Nat.zero_le _, heap_alloc_new _ _, Nat.le_refl _, by unfold maxLen; omega, by simp [h4, hl], by rw [List.length_singleton, Nat.one_mul]; exact List.take_of_length_le (by simp; omega)⟩⟩ (fun q b => ∃ y, xs[q]? = some y ∧ y.foot G b) (fun k e j t' u hk hj hu => by
          have hk0 : k = 0 := by have := get_lt hk; simpa using this
          subst hk0
          cases hk
          rw [Nat.zero_mul, Nat.zero_add] at hu ⊢
          obtain ⟨y, hy1, hy2⟩ := hown j t' u hj hu
          exact (hy2.frame fun b hb => Below.heap_alloc _ _ _ (hfoot j b ⟨y, hy1, hb⟩).2).mono fun b hb => ⟨y, hy1, hb⟩) hone (fun b hb => .inl (Option.some.inj hb).symm) (fun q b hb => .inr ⟨q, hb⟩) (fun q b hb e => by
          have := (hfoot q b hb).2
          have := Option.some.inj e
          simp at this
          omega) fun q q' b hb hb' => by
          obtain ⟨y, hy1, hy2⟩ := hb
          obtain ⟨y', hy1', hy2'⟩ := hb'
          cases y with
          | hd i =>
            cases y' with
            | hd i' =>
              by_cases hii : i = i'
              · subst hii
                have hq := get_lt hy1
                have hq' := get_lt hy1'
                rcases Nat.lt_trichotomy q q' with hlt | hlt | hlt
                · have := (List.pairwise_iff_getElem.1 h2) q q' hq hq' hlt i (by rw [List.getElem?_eq_getElem hq] at hy1; exact Option.some.inj hy1)
                  rw [List.getElem?_eq_getElem hq'] at hy1'
                  exact absurd (Option.some.inj hy1') this
                · exact hlt
                · have := (List.pairwise_iff_getElem.1 h2) q' q hq' hq hlt i (by rw [List.getElem?_eq_getElem hq'] at hy1'; exact Option.some.inj hy1')
                  rw [List.getElem?_eq_getElem hq] at hy1
                  exact absurd (Option.some.inj hy1) this
              · have hlive : ∀ (q i : Nat), xs[q]? = some (Leaf.hd i) → σ.ob i ≠ none := fun q i hy => by
                  have hqt : q < ts.length := by rw [← h6]; exact get_lt hy
                  obtain ⟨y', hy1, hy2⟩ := h7 q ts[q] (List.getElem?_eq_getElem hqt)
                  have e0 : Leaf.hd i = y' := by rw [hy] at hy1; exact Option.some.inj hy1
                  rw [← e0] at hy2
                  obtain ⟨p, e1, -⟩ := Option.map_eq_some_iff.1 hy2
                  rw [e1]; simp
                exact (h.disj i i' b (hlive q i hy1) (hlive q' i' hy1') hii hy2 hy2').elim
            | _ => exact hy2'.elim
          | _ => exact hy2.elim)
      ⟨_, _, rfl⟩ fun b hb => by
        rcases hb with rfl | ⟨j, y, hy1, hy2⟩
        · exact ⟨⟨.inl h.low, by simp⟩, .inl (h.fresh (Nat.le_refl _))⟩
        · have := hfoot j b ⟨y, hy1, hy2⟩
          exact ⟨⟨this.1, by simp; omega⟩, .inr ⟨y, get_mem hy1, hy2⟩⟩
    refine wp_value (v := .slice (some ⟨w.heap.size, 0, none⟩) 1 1) (w' := w.alloc (.cells us.toArray ty)) ?_ (by rw [hd]; exact k _ _ _ (hG'.put hdN (vone.2 ⟨⟨Nat.lt_succ_self _, hvl.symm⟩, .inr rfl⟩)) ⟨by simp, .of_below ((Below.refl _ _).alloc h.low _), hvls, fun b _ => by rw [hβs], fun b hb => .inl (Below.heap_alloc _ _ _ hb), fun i e1 e2 b e3 => .inl (by
      have hi : i = σ.nx := Nat.le_antisymm (Nat.le_of_lt_succ e2) e1
      rw [hi, hvl] at e3
      rw [← Option.some.inj e3]; exact Nat.le_refl _)⟩)
    simp [execOp, ho, h3, hrun, Result.andThen]
end Go.Proofs.YtlnjgoommpeioaaDoor.V
/- States told by trees: contracts of functions that write into what they are handed, and their calls. -/
namespace Go.Proofs.YtlnjgoommpeioaaDoor.V
open Go Go.RowKit
set_option linter.unusedVariables false
/-- An argument's cell: it may be read; or it is a lent object. -/
inductive AC where
  | rd (t : T)
  | ln (i : Nat)
def AC.leaf : AC → Leaf
  | .rd t => argLeaf t
  | .ln i => .hd i
def Env.lend (w : World) (lv : Nat → Value) (F : Nat → Nat → Prop) (n : Nat) (hF : ∀ i b, i < n → F i b → b < w.heap.size) : Env := ⟨w, fun b => ∃ i, i < n ∧ F i b, fun b ⟨i, h1, h2⟩ => hF i b h1 h2, lv, n⟩
def ArgsM (E : Env) (ins : List (Bool × List AC)) (vs : List Value) : Prop :=
  vs.length = ins.length ∧ ∀ (c : Nat) (ag : Bool) (ts : List AC) (v : Value), ins[c]? = some (ag, ts) → vs[c]? = some v → ∃ us : List Value, v = cval ag us ∧ us.length = ts.length ∧ ∀ (j : Nat) (x : AC) (u : Value), ts[j]? = some x → us[j]? = some u → match x with
    | .rd t => Inn E.old E.w0 t u
    | .ln i => i < E.nl ∧ u = E.lv i
/-- The lent objects are these trees, apart from each other. -/
def Lents (E : Env) (ls : List T) (w' : World) : Prop :=
  ∃ F : Nat → Nat → Prop, (∀ i t, ls[i]? = some t → Own w' 0 t (E.lv i) (F i)) ∧ (∀ i j b, i < ls.length → j < ls.length → i ≠ j → F i b → ¬ F j b) ∧ ∀ i b, i < ls.length → F i b → (E.B ≤ b ∨ E.ln b) ∧ b < w'.heap.size
/-- The call yields v, and turns the lent objects from ls into ls', whatever the memory. -/
def VM (P : Program) (f : FuncId) (ins : List (Bool × List AC)) (ls ls' : List T) (v : Value) : Prop :=
  ∀ (w : World) (lv : Nat → Value) (F : Nat → Nat → Prop) (hF : ∀ i b, i < ls.length → F i b → b < w.heap.size) (vs : List Value), (∀ i t, ls[i]? = some t → Own w 0 t (lv i) (F i) ∧ ∃ ty es, t = .seq ty es) → (∀ i j b, i < ls.length → j < ls.length → i ≠ j → F i b → ¬ F j b) → ArgsM (Env.lend w lv F ls.length hF) ins vs →
    Calls P f vs.toArray w fun e w' => Gives (Env.lend w lv F ls.length hF) false [(false, [.lit v])] e w' ∧ Lents (Env.lend w lv F ls.length hF) ls' w'
def VS.initM (vs : List V) (ls : List T) : VS := ⟨fun s => vs.getD s (V.one .dead), [], fun i => (ls[i]?).map fun t => (0, t), ls.length⟩
theorem init_relM {E : Env} {ins : List (Bool × List AC)} {ls : List T} {F : Nat → Nat → Prop} {vs : List Value} {n : Nat} (hE : E.nl = ls.length) (hl : ∀ i t, ls[i]? = some t → Own E.w0 0 t (E.lv i) (F i) ∧ ∃ ty es, t = .seq ty es) (hd : ∀ i j b, i < ls.length → j < ls.length → i ≠ j → F i b → ¬ F j b)
    (hF : ∀ i b, i < ls.length → F i b → (E.B ≤ b ∨ E.ln b) ∧ b < E.w0.heap.size) (h : ArgsM E ins vs) (hn : vs.length ≤ n) : ∃ G, Rel E n (VS.initM (ins.map fun p => V.flat p.1 (p.2.map AC.leaf)) ls) { tmps := vs.toArray ++ Array.replicate (n - vs.length) undef, defers := [] } E.w0 G := by
  have hob : ∀ i ver t, (VS.initM (ins.map fun p => V.flat p.1 (p.2.map AC.leaf)) ls).ob i = some (ver, t) → ls[i]? = some t := fun i ver t hi => by
    obtain ⟨s, h1, h2⟩ := Option.map_eq_some_iff.1 hi
    cases h2
    exact h1
  have hlt : ∀ i, (VS.initM (ins.map fun p => V.flat p.1 (p.2.map AC.leaf)) ls).ob i ≠ none → i < ls.length := fun i hi => by
    obtain ⟨⟨v, t⟩, hv⟩ := Option.ne_none_iff_exists'.1 hi
    exact get_lt (hob i v t hv)
  refine ⟨⟨fun _ => 0, E.lv, F⟩, Same.refl _ _, rfl, by simp; omega, fun s => ?_, fun b ty xs hb => by simp [VS.initM] at hb, fun b b' hb => by simp [VS.initM] at hb, fun b i hb => by simp [VS.initM] at hb, fun i v t hi => ⟨get_lt (hob i v t hi), hl i t (hob i v t hi)⟩, fun i j b hi hj hij => hd i j b (hlt i hi) (hlt j hj) hij, fun i b hi hb => hF i b (hlt i hi) hb, ⟨by rw [hE]; exact Nat.le_refl _, fun i hi => rfl⟩⟩
  show VHolds _ _ _ E.w0 ((ins.map fun p => V.flat p.1 (p.2.map AC.leaf)).getD s (V.one .dead)) _
  rcases Nat.lt_or_ge s ins.length with hs | hs
  · obtain ⟨p, hp⟩ : ∃ p, ins[s]? = some p := ⟨ins[s], List.getElem?_eq_getElem hs⟩
    obtain ⟨ag, ts⟩ := p
    have hsv : s < vs.length := by rw [h.1]; exact hs
    obtain ⟨us, h1, h2, h3⟩ := h.2 s ag ts vs[s] hp (List.getElem?_eq_getElem hsv)
    have e1 : (ins.map fun p => V.flat p.1 (p.2.map AC.leaf)).getD s (V.one .dead) = V.flat ag (ts.map AC.leaf) := by simp [List.getD, hp]
    have e2 : (vs.toArray ++ Array.replicate (n - vs.length) undef).getD s undef = vs[s] := by
      simp only [Array.getD_eq_getD_getElem?]
      rw [Array.getElem?_append_left (by simpa using hsv)]
      simp [hsv]
    rw [e1]
    show VHolds _ _ _ E.w0 _ ((vs.toArray ++ Array.replicate (n - vs.length) undef).getD s undef)
    rw [e2, vflat]
    refine ⟨us, h1, by simp [h2], fun j x u hj hu => ?_⟩
    have hjt : j < ts.length := by have := get_lt hj; simpa using this
    have hx : x = AC.leaf ts[j] := by
      rw [List.getElem?_map, List.getElem?_eq_getElem hjt] at hj
      exact (Option.some.inj hj).symm
    have hin := h3 j ts[j] u (List.getElem?_eq_getElem hjt) hu
    rw [hx]
    cases hc : ts[j] with
    | ln i =>
      rw [hc] at hin
      obtain ⟨h4, h5⟩ := hin
      have h4' : i < ls.length := by rw [← hE]; exact h4
      exact ⟨⟨h4', h5⟩, .inr (by rw [h5]; exact (hl i ls[i] (List.getElem?_eq_getElem h4')).1.one)⟩
    | rd t =>
      rw [hc] at hin
      cases t with
      | any => exact ⟨trivial, .inl rfl⟩
      | lit v =>
        replace hin : Inn E.old E.w0 (.lit v) u := hin
        cases hin with
        | lit hv => exact ⟨rfl, .inr hv⟩
      | seq ty es => exact ⟨hin, .inr (Inn.one hin)⟩
  · have e1 : (ins.map fun p => V.flat p.1 (p.2.map AC.leaf)).getD s (V.one .dead) = V.one .dead := by simp [List.getD, hs]
    rw [e1, vone]
    exact ⟨trivial, .inl rfl⟩
theorem VM.enter {P : Program} {f : FuncId} {fn : Func} {c : Code} {n : Nat} {ins : List (Bool × List AC)} {ls ls' : List T} {v : Value} {m : Nat} (hm : ls.length = m) (hf : P.funcs[f]? = some fn) (hb : fn.body = some c) (hn : fn.ntmps = n) (hl : ins.length ≤ n)
    (h : ∀ E, E.nl = m → SV E n (VS.initM (ins.map fun p => V.flat p.1 (p.2.map AC.leaf)) ls) (c.wp P (bodyPost P fn fun e w' => Gives E false [(false, [.lit v])] e w' ∧ Lents E ls' w'))) : VM P f ins ls ls' v := fun w lv F hF vs h1 h2 hv => by
  refine calls_of_wp hf hb ?_
  obtain ⟨G, hG⟩ := init_relM (E := Env.lend w lv F ls.length hF) (F := F) rfl h1 h2 (fun i b hi hb => ⟨.inr ⟨i, hi, hb⟩, hF i b hi hb⟩) hv (n := n) (by rw [hv.1]; exact hl)
  have := h (Env.lend w lv F ls.length hF) hm _ _ G hG
  rw [hn]
  have e : (Env.lend w lv F ls.length hF).w0 = w := rfl
  rw [e] at this
  simpa using this
variable {P : Program} {E : Env} {N : Nat} {σ σ' : VS} {o : Oper} {a : Act} {w : World} {G : Ghost}
/-- The lent objects' trees, in their order. -/
def VS.lentOk (σ : VS) : Nat → List T → Prop
  | _, [] => True
  | i, t :: ts => (σ.ob i).map (·.2) = some t ∧ σ.lentOk (i + 1) ts
theorem VS.lentOk.get : ∀ {ts : List T} {i : Nat}, σ.lentOk i ts → ∀ k t, ts[k]? = some t → ∃ v, σ.ob (i + k) = some (v, t)
  | t :: ts, i, h, 0, s, hk => by
    cases hk
    obtain ⟨⟨v, t'⟩, h1, h2⟩ := Option.map_eq_some_iff.1 h.1
    exact ⟨v, by rw [Nat.add_zero, h1]; exact congrArg (fun x => some (v, x)) h2⟩
  | t :: ts, i, h, k + 1, s, hk => by
    have := VS.lentOk.get h.2 k s (by simpa using hk)
    rwa [Nat.add_assoc, Nat.add_comm 1 k] at this
theorem Rel.lents (h : Rel E N σ a w G) {ls : List T} (hE : E.nl = ls.length) (hl : σ.lentOk 0 ls) : Lents E ls w := by
  have hg : ∀ i t, ls[i]? = some t → ∃ v, σ.ob i = some (v, t) := fun i t hi => by
    have := hl.get i t hi
    rwa [Nat.zero_add] at this
  have hne : ∀ i, i < ls.length → σ.ob i ≠ none := fun i hi => by
    obtain ⟨v, h1⟩ := hg i ls[i] (List.getElem?_eq_getElem hi)
    rw [h1]; simp
  refine ⟨G.ft, fun i t hi => ?_, fun i j b hi hj hij => h.disj i j b (hne i hi) (hne j hj) hij, fun i b hi hb => h.ftlt i b (hne i hi) hb⟩
  obtain ⟨v, h1⟩ := hg i t hi
  rw [← h.lent.2 i (by rw [hE]; exact get_lt hi)]
  exact (h.objs i v t h1).2.1
theorem SV.doneM {fn : Func} {ls : List T} {e : Exit} {R : Ending → World → Prop} {m : Nat} (hE : E.nl = m) (hm : ls.length = m) (hl : σ.lentOk 0 ls) (he : e = .ret ∨ e = .normal) (h : SV E N σ (bodyPost P fn R e)) : SV E N σ (bodyPost P fn (fun e w' => R e w' ∧ Lents E ls w') e) := fun a w G hr => by
  have h1 := h a w G hr
  have h2 := hr.lents (hE.trans hm.symm) hl
  rcases he with rfl | rfl
  all_goals
    obtain ⟨h3, v, h4, h5⟩ := h1
    exact ⟨h3, v, h4, h5, h2⟩
/-! ### Calls -/
/-- Arguments' cells: scalars, and places that are lent. -/
def VS.argM (ps : List Leaf) : List Leaf → List AC → Prop
  | [], [] => True
  | x :: xs, .rd t :: ts => (∃ u, t = .lit u ∧ x = .sc u) ∧ VS.argM ps xs ts
  | x :: xs, .ln i :: ts => ps[i]? = some x ∧ VS.argM ps xs ts
  | _, _ => False
theorem argM_get {ps : List Leaf} : ∀ {xs : List Leaf} {ts : List AC}, VS.argM ps xs ts → xs.length = ts.length ∧ ∀ (j : Nat) (t : AC), ts[j]? = some t → ∃ x, xs[j]? = some x ∧ match t with
    | .rd t => ∃ u, t = .lit u ∧ x = .sc u
    | .ln i => ps[i]? = some x
  | [], [], _ => ⟨rfl, fun j t h => by simp at h⟩
  | x :: xs, .rd t :: ts, h => by
    obtain ⟨h1, h2⟩ := argM_get h.2
    refine ⟨by simp [h1], fun j s hj => ?_⟩
    cases j with
    | zero => cases hj; exact ⟨x, rfl, h.1⟩
    | succ j => exact h2 j s (by simpa using hj)
  | x :: xs, .ln i :: ts, h => by
    obtain ⟨h1, h2⟩ := argM_get h.2
    refine ⟨by simp [h1], fun j s hj => ?_⟩
    cases j with
    | zero => cases hj; exact ⟨x, rfl, h.1⟩
    | succ j => exact h2 j s (by simpa using hj)
def VS.argsM (σ : VS) (ps : List Leaf) : List Operand → List (Bool × List AC) → Prop
  | [], [] => True
  | x :: xs, q :: qs => (∃ ls, σ.ev x = V.flat q.1 ls ∧ VS.argM ps ls q.2) ∧ σ.argsM ps xs qs
  | _, _ => False
theorem Rel.argsM (h : Rel E N σ a w G) {ps : List Leaf} {E' : Env} (hps : ∀ i x u, ps[i]? = some x → Holds G σ E w x u → i < E'.nl ∧ u = E'.lv i) : ∀ {xs : List Operand} {qs : List (Bool × List AC)}, σ.argsM ps xs qs → ArgsM E' qs (xs.map a.eval)
  | [], [], _ => ⟨rfl, fun c ag ts v hc => by simp at hc⟩
  | x :: xs, q :: qs, hq => by
    obtain ⟨⟨ls, h1, h2⟩, h3⟩ := hq
    obtain ⟨h4, h5⟩ := h.argsM hps h3
    refine ⟨by simpa using h4, fun c ag ts v hc hv => ?_⟩
    cases c with
    | zero =>
      cases hc
      cases hv
      have h6 := h.ev x
      rw [h1, vflat] at h6
      obtain ⟨us, h7, h8, h9⟩ := h6
      obtain ⟨h10, h11⟩ := argM_get h2
      refine ⟨us, h7, h8.trans h10, fun j t u hj hu => ?_⟩
      obtain ⟨y, h12, h13⟩ := h11 j t hj
      have h14 := h9 j y u h12 hu
      cases t with
      | ln i => exact hps i y u h13 h14
      | rd t =>
        obtain ⟨z, rfl, rfl⟩ := h13
        rcases h14.2 with h15 | h15
        · cases h15
        · have h16 : u = z := h14.1
          rw [h16] at h15 ⊢
          exact .lit h15
    | succ c => exact h5 c ag ts v (by simpa using hc) (by simpa using hv)
theorem Gives.lit {v : Value} {e : Ending} {w' : World} (h : Gives E false [(false, [.lit v])] e w') : e = .returned v ∧ Same E E.w0 w' := by
  obtain ⟨uss, F, h1, h2, h3, -, -, h4⟩ := h
  match uss, h1 with
  | [us], _ =>
    obtain ⟨h5, h6⟩ := h3 0 false [.lit v] us rfl rfl
    match us, h5 with
    | [u], _ =>
      have h7 := h6 0 (.lit v) u rfl rfl
      cases h7 with
      | lit h8 => exact ⟨h2, h4⟩
/-- An object's tree is another one. -/
def VS.setob (σ : VS) (i : Nat) (t : T) : VS := { σ with ob := fun k => bif Nat.beq k i then (σ.ob i).map (fun p => (p.1 + 1, t)) else σ.ob k }
def VS.setobs (σ : VS) : List Nat → List T → VS
  | i :: is, t :: ts => (σ.setob i t).setobs is ts
  | _, _ => σ
theorem setob_self {i : Nat} {t : T} : (σ.setob i t).ob i = (σ.ob i).map fun p => (p.1 + 1, t) := by show (bif Nat.beq i i then _ else _) = _; rw [Nat.beq_refl]; rfl
theorem setob_ne {i k : Nat} {t : T} (h : k ≠ i) : (σ.setob i t).ob k = σ.ob k := by show (bif Nat.beq k i then _ else _) = _; rw [nbne h]; rfl
theorem setobs_same : ∀ {is : List Nat} {ts : List T} {σ : VS}, (σ.setobs is ts).tm = σ.tm ∧ (σ.setobs is ts).bs = σ.bs ∧ (σ.setobs is ts).nx = σ.nx
  | [], _, _ => ⟨rfl, rfl, rfl⟩
  | _ :: _, [], _ => ⟨rfl, rfl, rfl⟩
  | i :: is, t :: ts, σ => setobs_same (is := is) (ts := ts) (σ := σ.setob i t)
theorem setobs_far : ∀ {is : List Nat} {ts : List T} {σ : VS} {k : Nat}, k ∉ is → (σ.setobs is ts).ob k = σ.ob k
  | [], _, _, _, _ => rfl
  | _ :: _, [], _, _, _ => rfl
  | i :: is, t :: ts, σ, k, h => by
    rw [show σ.setobs (i :: is) (t :: ts) = (σ.setob i t).setobs is ts from rfl, setobs_far (fun hk => h (List.mem_cons_of_mem _ hk)), setob_ne fun e => h (by rw [e]; exact List.mem_cons_self ..)]
theorem setobs_at : ∀ {is : List Nat} {ts : List T} {σ : VS} {q k : Nat} {t : T}, is.Nodup → is[q]? = some k → ts[q]? = some t → (σ.setobs is ts).ob k = (σ.ob k).map fun p => (p.1 + 1, t)
  | i :: is, s :: ts, σ, 0, k, t, hn, hk, ht => by
    cases hk
    cases ht
    rw [show σ.setobs (i :: is) (s :: ts) = (σ.setob i s).setobs is ts from rfl, setobs_far (List.nodup_cons.1 hn).1, setob_self]
  | i :: is, s :: ts, σ, q + 1, k, t, hn, hk, ht => by
    have hk' : is[q]? = some k := by simpa using hk
    have hne : k ≠ i := fun e => (List.nodup_cons.1 hn).1 (by rw [← e]; exact get_mem hk')
    rw [show σ.setobs (i :: is) (s :: ts) = (σ.setob i s).setobs is ts from rfl, setobs_at (List.nodup_cons.1 hn).2 hk' (by simpa using ht), setob_ne hne]
/-- What an object may be lent as. -/
def VS.lentIs (σ : VS) : List Nat → List T → List T → Prop
  | [], [], [] => True
  | i :: is, t :: ts, t' :: ts' => ((∃ v, σ.ob i = some (v, t)) ∧ (∃ ty es, t' = .seq ty es)) ∧ σ.lentIs is ts ts'
  | _, _, _ => False
theorem lentIs_get : ∀ {is : List Nat} {ts ts' : List T}, σ.lentIs is ts ts' → is.length = ts.length ∧ ts'.length = ts.length ∧ ∀ (q : Nat) (t : T), ts[q]? = some t → ∃ (i v : Nat) (t' : T), is[q]? = some i ∧ ts'[q]? = some t' ∧ σ.ob i = some (v, t) ∧ ∃ ty es, t' = .seq ty es
  | [], [], [], _ => ⟨rfl, rfl, fun q t h => by simp at h⟩
  | i :: is, t :: ts, t' :: ts', h => by
    obtain ⟨⟨⟨v, h1⟩, h2⟩, h3⟩ := h
    obtain ⟨h4, h5, h6⟩ := lentIs_get h3
    refine ⟨by simp [h4], by simp [h5], fun q s hq => ?_⟩
    cases q with
    | zero => cases hq; exact ⟨i, v, t', rfl, rfl, h1, h2⟩
    | succ q => exact h6 q s (by simpa using hq)
/-- A call that writes into objects of the caller's. -/
theorem ok_callM {d : Nat} {f : FuncId} {xs : List Operand} {ats : Array TypeId} {ins : List (Bool × List AC)} {ls ls' : List T} {v : Value} {is : List Nat} (ho : o.op = .call { callee := .value (.func f), args := xs.toArray, argTypes := ats }) (hb : ∃ fn c, P.funcs[f]? = some fn ∧ fn.body = some c ∧ fn.name ≠ "runtime.NumGoroutine")
    (hc : VM P f ins ls ls' v) (hx : σ.argsM (is.map .hd) xs ins) (hi : σ.lentIs is ls ls') (hnd : is.Nodup) (hv : v.oneCell' = true) (hd : o.dst = some d) (hdN : d < N) : OpOk P E N σ o ((σ.setobs is ls').put d (V.one (.sc v))) :=
  fun a w G K Q h k => by
    obtain ⟨fn, c, h1, h2, h2'⟩ := hb
    obtain ⟨l1, l2, l3⟩ := lentIs_get hi
    obtain ⟨F, hFd⟩ : ∃ F : Nat → Nat → Prop, F = fun q => G.ft (is.getD q 0) := ⟨_, rfl⟩
    obtain ⟨lv, hlv⟩ : ∃ lv : Nat → Value, lv = fun q => G.vl (is.getD q 0) := ⟨_, rfl⟩
    have hat : ∀ q i, is[q]? = some i → F q = G.ft i ∧ lv q = G.vl i := fun q i hq => by rw [hFd, hlv]; simp [List.getD, hq]
    have hin : ∀ q, q < ls.length → ∃ i ver t t', is[q]? = some i ∧ ls[q]? = some t ∧ ls'[q]? = some t' ∧ σ.ob i = some (ver, t) ∧ (∃ ty es, t' = .seq ty es) ∧ F q = G.ft i ∧ lv q = G.vl i := fun q hq => by
      obtain ⟨i, ver, t', e1, e2, e3, e4⟩ := l3 q ls[q] (List.getElem?_eq_getElem hq)
      exact ⟨i, ver, ls[q], t', e1, List.getElem?_eq_getElem hq, e2, e3, e4, hat q i e1⟩
    have hF : ∀ q b, q < ls.length → F q b → (E.B ≤ b ∨ E.ln b) ∧ b < w.heap.size := fun q b hq hb => by
      obtain ⟨i, ver, t, t', e1, e2, e3, e4, e5, e6, e7⟩ := hin q hq
      rw [e6] at hb
      exact h.ftlt i b (by rw [e4]; simp) hb
    have hinj : ∀ q q' i, is[q]? = some i → is[q']? = some i → q = q' := fun q q' i h1 h2 => by
      rcases Nat.lt_trichotomy q q' with hlt | he | hgt
      · exact absurd rfl (by
          have := (List.pairwise_iff_getElem.1 hnd) q q' (get_lt h1) (get_lt h2) hlt
          rw [List.getElem?_eq_getElem (get_lt h1)] at h1
          rw [List.getElem?_eq_getElem (get_lt h2)] at h2
          rw [Option.some.inj h1, Option.some.inj h2] at this
          exact this)
      · exact he
      · exact absurd rfl (by
          have := (List.pairwise_iff_getElem.1 hnd) q' q (get_lt h2) (get_lt h1) hgt
          rw [List.getElem?_eq_getElem (get_lt h1)] at h1
          rw [List.getElem?_eq_getElem (get_lt h2)] at h2
          rw [Option.some.inj h1, Option.some.inj h2] at this
          exact this)
    have hcall := hc w lv F (fun q b hq hb => (hF q b hq hb).2) (xs.map a.eval) (fun q t hq => by
      obtain ⟨i, ver, t', e1, e2, e3, e4⟩ := l3 q t hq
      obtain ⟨-, e5, e6⟩ := h.objs i ver t e3
      rw [(hat q i e1).1, (hat q i e1).2]
      exact ⟨e5, e6⟩) (fun q q' b hq hq' hne hb => by
      obtain ⟨i, ver, t, t', e1, e2, e3, e4, e5, e6, e7⟩ := hin q hq
      obtain ⟨i', ver', s, s', f1, f2, f3, f4, f5, f6, f7⟩ := hin q' hq'
      rw [e6] at hb
      rw [f6]
      refine h.disj i i' b (by rw [e4]; simp) (by rw [f4]; simp) (fun e => hne ?_) hb
      subst e
      exact hinj q q' i e1 f1) (h.argsM (fun q x u hq hu => by
      rw [List.getElem?_map] at hq
      obtain ⟨i, e1, e2⟩ := Option.map_eq_some_iff.1 hq
      subst e2
      exact ⟨by show q < ls.length; rw [← l1]; exact get_lt e1, by rw [hu.1.2]; exact (hat q i e1).2.symm⟩) hx)
    have hrun : (execOp a.eval o).run P w = .ok (.enter f (xs.map a.eval).toArray) w := by
      simp [execOp, ho, resolve, Act.eval, Deferred.ofValue, invoke, callFunc, h1, h2, h2', Result.andThen]
    unfold Oper.wp
    rw [hrun]
    refine hcall.mono fun e w' ⟨hg, F', o', d', l'⟩ => ?_
    obtain ⟨he, hsame⟩ := hg.lit
    subst he
    have hsm : Same E w w' := ⟨hsame.os, hsame.tape, hsame.output, hsame.size, fun b hb => hsame.block b ⟨Nat.lt_of_lt_of_le hb.1 h.low, fun ⟨q, hq, hqb⟩ => (hF q b hq hqb).1.elim (fun h1 => by have := hb.1; omega) hb.2⟩⟩
    obtain ⟨s1, s2, s3⟩ := setobs_same (is := is) (ts := ls') (σ := σ)
    have hmem : ∀ i, i ∈ is → ∃ q t t' ver, is[q]? = some i ∧ ls[q]? = some t ∧ ls'[q]? = some t' ∧ σ.ob i = some (ver, t) ∧ (∃ ty es, t' = .seq ty es) ∧ (σ.setobs is ls').ob i = some (ver + 1, t') := fun i hi => by
      obtain ⟨q, hq, rfl⟩ := List.getElem_of_mem hi
      obtain ⟨i', ver, t, t', e1, e2, e3, e4, e5, -⟩ := hin q (by omega)
      have : is[q] = i' := by rw [List.getElem?_eq_getElem hq] at e1; exact Option.some.inj e1
      subst this
      exact ⟨q, t, t', ver, e1, e2, e3, e4, e5, by rw [setobs_at hnd e1 e3, e4]; rfl⟩
    have hturn := h.turn (σ' := σ.setobs is ls') (w' := w') (G' := ⟨G.β, G.vl, fun i b => (i ∉ is ∧ G.ft i b) ∨ ∃ q, is[q]? = some i ∧ F' q b⟩) (fun b => ∃ q, q < ls.length ∧ F q b) s1 s2 rfl hsm (fun b hb hnD => hsame.block b ⟨hb, hnD⟩) (fun b hb ⟨q, hq, hqb⟩ => by
      obtain ⟨i, ver, t, t', e1, e2, e3, e4, e5, e6, e7⟩ := hin q hq
      rw [e6] at hqb
      exact h.boxft b i hb (by rw [e4]; simp) hqb) (Nat.le_of_eq s3.symm) (fun i hi => rfl) (fun i v' t' hv' => ?_) (fun i j b hi hj hij hbi hbj => ?_)
    · rw [hd]
      exact k _ _ _ (hturn.1.put hdN (vone.2 ⟨rfl, .inr hv⟩))
    · by_cases him : i ∈ is
      · obtain ⟨q, t, t2, ver, e1, e2, e3, e4, e5, e6⟩ := hmem i him
        rw [e6] at hv'
        cases hv'
        have hq := get_lt e3
        have hqi : ∀ b, ((i ∉ is ∧ G.ft i b) ∨ ∃ q, is[q]? = some i ∧ F' q b) → F' q b := fun b hb => by
          rcases hb with ⟨hb, -⟩ | ⟨q', f1, f2⟩
          · exact absurd him hb
          · rw [hinj q q' i e1 f1]; exact f2
        refine .inr ⟨by rw [s3]; exact (h.objs i ver t e4).1, fun _ => ⟨ver, t, e4, Nat.lt_succ_self _⟩, ?_, e5, fun b hb => ?_, fun b hb c hc e => ?_⟩
        · have := o' q t' e3
          rw [show (Env.lend w lv F ls.length _).lv q = G.vl i from (hat q i e1).2] at this
          exact this.mono fun b hb => .inr ⟨q, e1, hb⟩
        · obtain ⟨m1, m2⟩ := l' q b hq (hqi b hb)
          refine ⟨?_, m2⟩
          rcases m1 with m1 | ⟨q', m1, m3⟩
          · exact .inl (Nat.le_trans h.low m1)
          · exact (hF q' b m1 m3).1
        · obtain ⟨m1, m2⟩ := l' q b hq (hqi b hb)
          rcases m1 with m1 | ⟨q', m1, m3⟩
          · exact (h.fresh m1).2 c hc e
          · obtain ⟨i', ver', s, s', f1, f2, f3, f4, f5, f6, f7⟩ := hin q' m1
            rw [f6, ← e] at m3
            exact h.boxft c i' hc (by rw [f4]; simp) m3
      · rw [setobs_far him] at hv'
        refine .inl ⟨hv', fun b => ⟨fun hb => ?_, fun hb => .inl ⟨him, hb⟩⟩, fun b hb ⟨q, hq, hqb⟩ => ?_⟩
        · rcases hb with hb | ⟨q, f1, -⟩
          · exact hb.2
          · exact absurd (get_mem f1) him
        · obtain ⟨i', ver', s, s', f1, f2, f3, f4, f5, f6, f7⟩ := hin q hq
          rw [f6] at hqb
          exact h.disj i i' b (by rw [hv']; simp) (by rw [f4]; simp) (fun e => him (by rw [e]; exact get_mem f1)) hb hqb
    · have key : ∀ i q b, is[q]? = some i → F' q b → ∀ j, j ∉ is → σ.ob j ≠ none → ¬ G.ft j b := fun i q b e1 e2 j hj1 hj2 hjb => by
        have hq : q < ls'.length := by have := get_lt e1; omega
        obtain ⟨m1, m2⟩ := l' q b hq e2
        rcases m1 with m1 | ⟨q', m1, m3⟩
        · have := (h.ftlt j b hj2 hjb).2
          have m1' : w.heap.size ≤ b := m1
          omega
        · obtain ⟨i', ver', s, s', f1, f2, f3, f4, f5, f6, f7⟩ := hin q' m1
          rw [f6] at m3
          exact h.disj j i' b hj2 (by rw [f4]; simp) (fun e => hj1 (by rw [e]; exact get_mem f1)) hjb m3
      rcases hbi with ⟨hi1, hi2⟩ | ⟨q, hi1, hi2⟩ <;> rcases hbj with ⟨hj1, hj2⟩ | ⟨q', hj1, hj2⟩
      · rw [setobs_far hi1] at hi
        rw [setobs_far hj1] at hj
        exact h.disj i j b hi hj hij hi2 hj2
      · rw [setobs_far hi1] at hi
        exact key j q' b hj1 hj2 i hi1 hi hi2
      · rw [setobs_far hj1] at hj
        exact key i q b hi1 hi2 j hj1 hj hj2
      · have hq : q < ls'.length := by have := get_lt hi1; omega
        have hq' : q' < ls'.length := by have := get_lt hj1; omega
        exact d' q q' b hq hq' (fun e => hij (by subst e; rw [hi1] at hj1; exact Option.some.inj hj1)) hi2 hj2
end Go.Proofs.YtlnjgoommpeioaaDoor.V
/- States told by trees: what lies in an object's element is lent; an element's cells are written. -/
namespace Go.Proofs.YtlnjgoommpeioaaDoor.V
open Go Go.RowKit
set_option linter.unusedVariables false
variable {P : Program} {E : Env} {N : Nat} {σ σ' : VS} {o : Oper} {a : Act} {w : World} {G : Ghost}
theorem at_inj {n k k' j j' : Nat} (hj : j < n) (hj' : j' < n) (h : k * n + j = k' * n + j') : k = k' ∧ j = j' := by
  rcases Nat.lt_trichotomy k k' with h1 | h1 | h1
  · have h2 : (k + 1) * n ≤ k' * n := Nat.mul_le_mul_right n h1
    rw [Nat.add_mul, Nat.one_mul] at h2
    omega
  · subst h1
    exact ⟨rfl, by omega⟩
  · have h2 : (k' + 1) * n ≤ k * n := Nat.mul_le_mul_right n h1
    rw [Nat.add_mul, Nat.one_mul] at h2
    omega
theorem set_get {α : Type} {l : List α} {k q : Nat} {x y : α} (h : (l.set k y)[q]? = some x) : (q = k ∧ x = y) ∨ (q ≠ k ∧ l[q]? = some x) := by
  by_cases hq : q = k
  · subst hq
    have hl : q < l.length := by have := get_lt h; simpa using this
    rw [List.getElem?_set_self hl] at h
    exact .inl ⟨rfl, (Option.some.inj h).symm⟩
  · rw [List.getElem?_set_ne (fun e => hq e.symm)] at h
    exact .inr ⟨hq, h⟩
/-- A call that writes into a slice in an element of an object of the caller's. -/
theorem ok_callM_nd {d : Nat} {f : FuncId} {xs : List Operand} {ats : Array TypeId} {ins : List (Bool × List AC)} {v : Value} {i ver kk oo : Nat} {ty ty1 ty2 : TypeId} {es es' : List (List T)} {e : List T} {es1 es2 : List (List T)} (ho : o.op = .call { callee := .value (.func f), args := xs.toArray, argTypes := ats }) (hb : ∃ fn c, P.funcs[f]? = some fn ∧ fn.body = some c ∧ fn.name ≠ "runtime.NumGoroutine")
    (hc : VM P f ins [.seq ty1 es1] [.seq ty2 es2] v) (hx : σ.argsM [.nd i ver (.seq ty1 es1) (some (kk, oo))] xs ins) (hi : σ.ob i = some (ver, .seq ty es)) (he : es[kk]? = some e) (hoo : e[oo]? = some (.seq ty1 es1)) (hes : es.set kk (e.set oo (.seq ty2 es2)) = es') (hv : v.oneCell' = true) (hd : o.dst = some d) (hdN : d < N) : OpOk P E N σ o ((σ.setob i (.seq ty es')).put d (V.one (.sc v))) :=
  fun a w G K Q h k => by
    subst hes
    obtain ⟨fn, c, h1, h2, h2'⟩ := hb
    obtain ⟨hlt, hown0, -⟩ := h.objs i ver _ hi
    -- where the place lies
    have place : ∀ u, Holds G σ E w (.nd i ver (.seq ty1 es1) (some (kk, oo))) u → ∃ (g M c : Nat), G.vl i = .slice (some ⟨g, 0, none⟩) M c ∧ w.cell? ⟨g, kk * e.length + oo, none⟩ = some u := fun u hu => by
      obtain ⟨-, h5⟩ := hu.1.2.2 ⟨_, hi⟩
      obtain ⟨g, M, c, n, ty', fs, e', e1, e2, e3, e4, e5, e6⟩ := h5 kk oo rfl
      rw [hi] at e1
      cases e1
      rw [he] at e3
      cases e3
      subst e4
      exact ⟨g, M, c, e2, e6⟩
    generalize hV : G.vl i = V0 at hown0
    cases hown0 with
    | seq n hp hz hn xs0 hown Gs hr hone hFr hG hne hdd =>
    have hen : e.length = n := hn e (get_mem he)
    have hol : oo < n := by rw [← hen]; exact get_lt hoo
    have hql := at_lt (get_lt he) hol
    have hxl := hown.1
    obtain ⟨u0, hu0⟩ : ∃ u0, xs0[kk * n + oo]? = some u0 := ⟨_, List.getElem?_eq_getElem (by omega)⟩
    have hval : ∀ u, Holds G σ E w (.nd i ver (.seq ty1 es1) (some (kk, oo))) u → u = u0 := fun u hu => by
      obtain ⟨g, M, c, e1, e2⟩ := place u hu
      obtain ⟨a2, c2, e3, -, -, -, e4⟩ := own_slice hown
      obtain ⟨g2, e5, -, -, e6, -⟩ := e4 (by have := get_lt he; omega)
      rw [hV, e3] at e1
      injection e1 with e1 _ _
      rw [e5] at e1
      injection e1 with e1
      injection e1 with e1
      subst e1
      have := e6 _ _ hu0
      rw [hen, this] at e2
      exact (Option.some.inj e2).symm
    have hownu := hr kk e oo _ u0 he hoo hu0
    have hftG : ∀ q b, Gs q b → (E.B ≤ b ∨ E.ln b) ∧ b < w.heap.size := fun q b hb => h.ftlt i b (by rw [hi]; simp) (hG q b hb)
    have hcall := hc w (fun _ => u0) (fun _ => Gs (kk * n + oo)) (fun q b _ hb => (hftG _ b hb).2) (xs.map a.eval) (fun q t hq => by
      cases q with
      | zero => cases hq; exact ⟨hownu, _, _, rfl⟩
      | succ q => simp at hq) (fun q q' b hq hq' hne' => by simp at hq hq'; omega) (h.argsM (fun q x u hq hu => by
      cases q with
      | zero => cases hq; exact ⟨Nat.zero_lt_one, hval u hu⟩
      | succ q => simp at hq) hx)
    have hrun : (execOp a.eval o).run P w = .ok (.enter f (xs.map a.eval).toArray) w := by
      simp [execOp, ho, resolve, Act.eval, Deferred.ofValue, invoke, callFunc, h1, h2, h2', Result.andThen]
    unfold Oper.wp
    rw [hrun]
    refine hcall.mono fun ee w' ⟨hg, F', o', d', l'⟩ => ?_
    obtain ⟨hee, hsame⟩ := hg.lit
    subst hee
    have hblk : ∀ b, b < w.heap.size → ¬ Gs (kk * n + oo) b → w'.heap[b]? = w.heap[b]? := fun b hb hn => hsame.block b ⟨hb, fun ⟨q, _, hq⟩ => hn hq⟩
    have hsm : Same E w w' := ⟨hsame.os, hsame.tape, hsame.output, hsame.size, fun b hb => hblk b (Nat.lt_of_lt_of_le hb.1 h.low) fun hq => (hftG _ b hq).1.elim (fun h1 => by have := hb.1; omega) hb.2⟩
    have hown' : Own w' 0 (.seq ty2 es2) u0 (F' 0) := o' 0 _ rfl
    have hF' : ∀ b, F' 0 b → (w.heap.size ≤ b ∨ Gs (kk * n + oo) b) ∧ b < w'.heap.size := fun b hb => by
      obtain ⟨m1, m2⟩ := l' 0 b Nat.zero_lt_one hb
      exact ⟨m1.elim .inl fun ⟨q, _, hq⟩ => .inr hq, m2⟩
    have hF2 : ∀ b, F' 0 b → b < w.heap.size → Gs (kk * n + oo) b := fun b hb hlt => (hF' b hb).1.elim (fun h1 => absurd hlt (Nat.not_lt.2 h1)) id
    have hroot : ∀ b, V0.ownBlock = some b → b < w.heap.size := fun b hb => (World.ownsRow.lt hown b hb).2
    have hnew : Own w' 0 (.seq ty (es.set kk (e.set oo (.seq ty2 es2)))) V0 (fun b => G.ft i b ∨ F' 0 b) := by
      have hlen' : (es.set kk (e.set oo (.seq ty2 es2))).length = es.length := List.length_set
      refine .seq n hp hz (fun e' he' => ?_) xs0 (by rw [hlen']; exact ownsRow_heap hown fun b hb => hblk b (hroot b hb) fun hq => hne _ b hq hb) (fun q b => if q = kk * n + oo then F' 0 b else Gs q b) (fun k2 e2 j t u hk2 hj hu => ?_) hone (fun b hb => .inl (hFr b hb)) (fun q b hb => ?_) (fun q b hb hvb => ?_) fun q q' b hb hb' => ?_
      · rcases List.mem_or_eq_of_mem_set he' with h3 | h3
        · exact hn e' h3
        · rw [h3, List.length_set]; exact hen
      · have hfar : k2 * n + j ≠ kk * n + oo → Own w 0 t u (Gs (k2 * n + j)) → Own w' 0 t u (fun b => if k2 * n + j = kk * n + oo then F' 0 b else Gs (k2 * n + j) b) := fun hneq hw => by
          refine (hw.frame fun b hb => hblk b (hftG _ b hb).2 fun hq => hneq (hdd _ _ b hb hq)).mono fun b hb => ?_
          rw [if_neg hneq]; exact hb
        rcases set_get hk2 with ⟨rfl, rfl⟩ | ⟨hk2n, hk2⟩
        · rcases set_get hj with ⟨rfl, rfl⟩ | ⟨hjn, hj⟩
          · rw [hu0] at hu
            cases hu
            exact hown'.mono fun b hb => by rw [if_pos rfl]; exact hb
          · have hjl : j < n := by rw [← hen]; exact get_lt hj
            exact hfar (fun e3 => hjn (at_inj hjl hol e3).2) (hr k2 e j t u he hj hu)
        · have hjl : j < n := by rw [← hn e2 (get_mem hk2)]; exact get_lt hj
          exact hfar (fun e3 => hk2n (at_inj hjl hol e3).1) (hr k2 e2 j t u hk2 hj hu)
      · replace hb : if q = kk * n + oo then F' 0 b else Gs q b := hb
        split at hb
        · exact .inr hb
        · exact .inl (hG q b hb)
      · replace hb : if q = kk * n + oo then F' 0 b else Gs q b := hb
        split at hb
        · exact hne _ b (hF2 b hb (hroot b hvb)) hvb
        · exact hne _ b hb hvb
      · replace hb : if q = kk * n + oo then F' 0 b else Gs q b := hb
        replace hb' : if q' = kk * n + oo then F' 0 b else Gs q' b := hb'
        split at hb <;> split at hb'
        · omega
        · have := hdd _ _ b (hF2 b hb (hftG _ b hb').2) hb'
          omega
        · have := hdd _ _ b (hF2 b hb' (hftG _ b hb).2) hb
          omega
        · exact hdd _ _ b hb hb'
    have hself : (σ.setob i (.seq ty (es.set kk (e.set oo (.seq ty2 es2))))).ob i = some (ver + 1, .seq ty (es.set kk (e.set oo (.seq ty2 es2)))) := by rw [setob_self, hi]; rfl
    have hft : ∀ j, j ≠ i → ∀ b, (if j = i then G.ft i b ∨ F' 0 b else G.ft j b) ↔ G.ft j b := fun j hj b => by rw [if_neg hj]
    have hturn := h.turn (σ' := σ.setob i (.seq ty (es.set kk (e.set oo (.seq ty2 es2))))) (w' := w') (G' := ⟨G.β, G.vl, fun j b => if j = i then G.ft i b ∨ F' 0 b else G.ft j b⟩) (Gs (kk * n + oo)) rfl rfl rfl hsm hblk (fun b hb hq => h.boxft b i hb (by rw [hi]; simp) (hG _ _ hq)) (Nat.le_refl _) (fun j hj => rfl) (fun j v' t' hv' => ?_) (fun j j' b hj hj' hjj hbj hbj' => ?_)
    · rw [hd]
      exact k _ _ _ (hturn.1.put hdN (vone.2 ⟨rfl, .inr hv⟩))
    · by_cases hji : j = i
      · subst hji
        rw [hself] at hv'
        cases hv'
        refine .inr ⟨hlt, fun _ => ⟨ver, _, hi, Nat.lt_succ_self _⟩, ?_, ⟨_, _, rfl⟩, fun b hb => ?_, fun b hb c hc e3 => ?_⟩
        · rw [show (⟨G.β, G.vl, fun j' b => if j' = j then G.ft j b ∨ F' 0 b else G.ft j' b⟩ : Ghost).vl j = V0 from hV]
          exact hnew.mono fun b hb => by show if j = j then _ else _; rw [if_pos rfl]; exact hb
        · replace hb : if j = j then G.ft j b ∨ F' 0 b else G.ft j b := hb
          rw [if_pos rfl] at hb
          rcases hb with hb | hb
          · have := h.ftlt j b (by rw [hi]; simp) hb
            exact ⟨this.1, Nat.lt_of_lt_of_le this.2 hsm.size⟩
          · obtain ⟨m1, m2⟩ := hF' b hb
            exact ⟨m1.elim (fun m1 => .inl (Nat.le_trans h.low m1)) fun m1 => (hftG _ b m1).1, m2⟩
        · replace hb : if j = j then G.ft j b ∨ F' 0 b else G.ft j b := hb
          rw [if_pos rfl] at hb
          rcases hb with hb | hb
          · exact h.boxft c j hc (by rw [hi]; simp) (by rw [e3]; exact hb)
          · rcases (hF' b hb).1 with m1 | m1
            · exact (h.fresh m1).2 c hc e3
            · exact h.boxft c j hc (by rw [hi]; simp) (by rw [e3]; exact hG _ b m1)
      · rw [setob_ne hji] at hv'
        exact .inl ⟨hv', hft j hji, fun b hb hq => h.disj j i b (by rw [hv']; simp) (by rw [hi]; simp) hji hb (hG _ b hq)⟩
    · have key : ∀ j b, j ≠ i → σ.ob j ≠ none → G.ft j b → (G.ft i b ∨ F' 0 b) → False := fun j b hj hjo hjb hb => by
        rcases hb with hb | hb
        · exact h.disj j i b hjo (by rw [hi]; simp) hj hjb hb
        · rcases (hF' b hb).1 with m1 | m1
          · have := (h.ftlt j b hjo hjb).2; omega
          · exact h.disj j i b hjo (by rw [hi]; simp) hj hjb (hG _ b m1)
      replace hbj : if j = i then G.ft i b ∨ F' 0 b else G.ft j b := hbj
      replace hbj' : if j' = i then G.ft i b ∨ F' 0 b else G.ft j' b := hbj'
      split at hbj <;> split at hbj'
      · omega
      · rename_i e1 e2
        rw [setob_ne e2] at hj'
        exact key j' b e2 hj' hbj' hbj
      · rename_i e1 e2
        rw [setob_ne e1] at hj
        exact key j b e1 hj hbj hbj'
      · rename_i e1 e2
        rw [setob_ne e1] at hj
        rw [setob_ne e2] at hj'
        exact h.disj j j' b hj hj' hjj hbj hbj'
theorem splice_get {α : Type} {l vs : List α} {i j : Nat} (h : i + vs.length ≤ l.length) : (l.take i ++ vs ++ l.drop (i + vs.length))[j]? = if i ≤ j ∧ j < i + vs.length then vs[j - i]? else l[j]? := by
  have hl : (l.take i).length = i := by rw [List.length_take]; omega
  rw [List.append_assoc]
  rcases Nat.lt_or_ge j i with hj | hj
  · rw [List.getElem?_append_left (by omega), List.getElem?_take, if_pos hj, if_neg (by omega)]
  · rw [List.getElem?_append_right (by omega), hl]
    rcases Nat.lt_or_ge (j - i) vs.length with hk | hk
    · rw [List.getElem?_append_left hk, if_pos ⟨hj, by omega⟩]
    · rw [List.getElem?_append_right hk, List.getElem?_drop, if_neg (by omega)]
      congr 1
      omega
theorem splice_len {α : Type} {l vs : List α} {i : Nat} (h : i + vs.length ≤ l.length) : (l.take i ++ vs ++ l.drop (i + vs.length)).length = l.length := by
  simp only [List.length_append, List.length_take, List.length_drop]
  omega
theorem kills_ob {cs : List Leaf} {j : Nat} (h : cs.any (isHd j) = false) : (σ.kills cs).ob j = σ.ob j := by show (bif cs.any (isHd j) then none else σ.ob j) = _; rw [h]; rfl
theorem kills_none {cs : List Leaf} {j : Nat} (h : cs.any (isHd j) = true) : (σ.kills cs).ob j = none := by show (bif cs.any (isHd j) then none else σ.ob j) = _; rw [h]; rfl
/-- Cells of an object's element are written; what is handed over is gone. -/
theorem ok_store_ep {i ver kk oo n m : Nat} {ty ty0 : TypeId} {x y : Operand} {ag : Bool} {zs : List Leaf} {ts : List T} {es es' : List (List T)} {e : List T} (ho : o.op = .store ty0 x y) (hx : σ.ev x = V.one (.ep i kk n oo)) (hy : σ.ev y = V.flat ag zs) (hi : σ.ob i = some (ver, .seq ty es)) (he : es[kk]? = some e) (hm : Sz ty0 m) (h1 : ag = false → m = 1)
    (hzl : zs.length = m) (hsn : Sz ty n) (hlen : oo + m ≤ n) (ht : σ.outs zs ts) (h2 : zs.Pairwise two) (hself : zs.any (isHd i) = false) (hes : es.set kk (e.take oo ++ ts ++ e.drop (oo + ts.length)) = es') (hd : o.dst = none) : OpOk Tryd.prog E N σ o ((σ.kills zs).setob i (.seq ty es')) :=
  fun a w G K Q h k => by
    subst hes
    have hxv := h.ev x
    rw [hx, vone] at hxv
    obtain ⟨⟨hlt, g, M, c, hvl, hptr⟩, -⟩ := hxv
    have hyv := h.ev y
    rw [hy, vflat] at hyv
    obtain ⟨us, hu1, hu2, hu3⟩ := hyv
    obtain ⟨o1, o2⟩ := outs_get ht
    have hzo : ∀ z ∈ zs, ∃ t, σ.out z = some t := fun z hz => by
      obtain ⟨j, hj, rfl⟩ := List.getElem_of_mem hz
      obtain ⟨z', e1, e2⟩ := o2 j ts[j] (List.getElem?_eq_getElem (by omega))
      rw [List.getElem?_eq_getElem hj] at e1
      exact ⟨_, by rw [Option.some.inj e1]; exact e2⟩
    have hown1 : ∀ (j : Nat) (t : T) (u : Value), ts[j]? = some t → us[j]? = some u → ∃ z, zs[j]? = some z ∧ Own w 0 t u (z.foot G) := fun j t u hj hu => by
      obtain ⟨z, e1, e2⟩ := o2 j t hj
      exact ⟨z, e1, h.out (hu3 j z u e1 hu) e2⟩
    -- whose blocks they are
    have hfoot : ∀ z ∈ zs, ∀ b, z.foot G b → ∃ j, z = .hd j ∧ σ.ob j ≠ none ∧ j ≠ i ∧ G.ft j b := fun z hz b hb => by
      cases z with
      | hd j =>
        obtain ⟨t, e1⟩ := hzo _ hz
        obtain ⟨p, e2, -⟩ := Option.map_eq_some_iff.1 e1
        refine ⟨j, rfl, by rw [e2]; simp, fun e3 => ?_, hb⟩
        subst e3
        have := List.any_eq_false.1 hself _ hz
        exact this (Nat.beq_refl j)
      | _ => exact hb.elim
    have hfd : ∀ (q q' : Nat) (z z' : Leaf) (b : Nat), zs[q]? = some z → zs[q']? = some z' → z.foot G b → z'.foot G b → q = q' := fun q q' z z' b e1 e2 hb hb' => by
      obtain ⟨j, rfl, f1, f2, f3⟩ := hfoot z (get_mem e1) b hb
      obtain ⟨j', rfl, f4, f5, f6⟩ := hfoot z' (get_mem e2) b hb'
      have hjj : j = j' := by
        rcases Nat.decEq j j' with hne | hne
        · exact absurd f6 (h.disj j j' b f1 f4 hne f3)
        · exact hne
      subst hjj
      have g1 := get_lt e1
      have g2 := get_lt e2
      rw [List.getElem?_eq_getElem g1] at e1
      rw [List.getElem?_eq_getElem g2] at e2
      rcases Nat.lt_trichotomy q q' with hlt2 | he2 | hgt
      · have := (List.pairwise_iff_getElem.1 h2) q q' g1 g2 hlt2
        rw [Option.some.inj e1, Option.some.inj e2] at this
        exact absurd rfl (this j rfl)
      · exact he2
      · have := (List.pairwise_iff_getElem.1 h2) q' q g2 g1 hgt
        rw [Option.some.inj e1, Option.some.inj e2] at this
        exact absurd rfl (this j rfl)
    have hone1 : ∀ u ∈ us, u.oneCell' = true := fun u hu => by
      obtain ⟨j, hj, rfl⟩ := List.getElem_of_mem hu
      obtain ⟨z, -, e2⟩ := hown1 j ts[j] us[j] (List.getElem?_eq_getElem (by omega)) (List.getElem?_eq_getElem hj)
      exact e2.one
    obtain ⟨hlt2, hown0, -⟩ := h.objs i ver _ hi
    rw [hvl] at hown0
    cases hown0 with
    | seq n' hp hz hn xs0 hown Gs hr hone hFr hG hne hdd =>
    have hnn := hz.eq hsn
    subst hnn
    have hen : e.length = n' := hn e (get_mem he)
    have hkl := get_lt he
    have hwn := hown
    obtain ⟨hxl, ⟨e0, -⟩ | ⟨g2, cap, cur, e0, hB, hh, hcap, hcm, hcs, htk⟩⟩ := hown
    · cases e0
    injection e0 with e0 e0' e0''
    injection e0 with e0
    injection e0 with e0
    subst e0
    have hq : kk * n' + oo + us.length ≤ es.length * n' := by
      have : (kk + 1) * n' ≤ es.length * n' := Nat.mul_le_mul_right n' hkl
      rw [Nat.add_mul, Nat.one_mul] at this
      omega
    have hcl : es.length * n' ≤ cur.toList.length := by
      have h3 : cur.toList.length = cap * n' := by simpa using hcs
      rw [h3]
      exact Nat.mul_le_mul_right n' hcap
    have hh' : w.heap[g]? = some (.cells cur.toList.toArray ty (0, 0)) := by simpa using hh
    have hnew := setCells_heap g us (kk * n' + oo) w cur.toList ty hh' (by omega)
    obtain ⟨w', hw'⟩ : ∃ w', w' = w.setCells g (kk * n' + oo) us := ⟨_, rfl⟩
    rw [← hw'] at hnew
    have hfar : ∀ b, b ≠ g → w'.heap[b]? = w.heap[b]? := fun b hb => by rw [hw']; exact setCells_far g us _ w b hb
    have hbel : Below 0 w w' := by rw [hw']; exact setCells_below g 0 us _ w (Nat.zero_le _)
    have hgft : G.ft i g := hFr g rfl
    have hgl := h.ftlt i g (by rw [hi]; simp) hgft
    have hsm : Same E w w' := ⟨hbel.os, hbel.tape, hbel.output, hbel.size, fun b hb => hfar b fun e1 => by
      subst e1
      exact hgl.1.elim (fun h1 => by have := hb.1; omega) hb.2⟩
    have hrun := store_run (P := Tryd.prog) (w := w) (b := g) (i := kk * n' + oo) (us := us) (ag := ag) hm h1 (hu2.trans hzl) hone1 (fun q hq' => by
      rw [cell_of_row w _ _ _ _ _ hh]
      simp [show kk * n' + oo + q < cur.size by rw [← Array.length_toList]; omega]) fun q hq' => by simp [World.frozen?, hh]
    have hul : us.length = ts.length := by omega
    have htl : oo + ts.length ≤ e.length := by omega
    have hnewown : Own w' 0 (.seq ty (es.set kk (e.take oo ++ ts ++ e.drop (oo + ts.length)))) (.slice (some ⟨g, 0, none⟩) es.length cap) (fun b => G.ft i b ∨ ∃ z ∈ zs, z.foot G b) := by
      have hl' : (es.set kk (e.take oo ++ ts ++ e.drop (oo + ts.length))).length = es.length := List.length_set
      have hxs : ∀ q, (xs0.take (kk * n' + oo) ++ us ++ xs0.drop (kk * n' + oo + us.length))[q]? = if kk * n' + oo ≤ q ∧ q < kk * n' + oo + us.length then us[q - (kk * n' + oo)]? else xs0[q]? := fun q => splice_get (by omega)
      have hgn : ∀ z ∈ zs, ∀ b, z.foot G b → b ≠ g := fun z hz b hb e1 => by
        obtain ⟨j, -, f1, f2, f3⟩ := hfoot z hz b hb
        subst e1
        exact h.disj j i _ f1 (by rw [hi]; simp) f2 f3 hgft
      have hGz : ∀ z ∈ zs, ∀ q b, Gs q b → z.foot G b → False := fun z hz q b hb hb' => by
        obtain ⟨j, -, f1, f2, f3⟩ := hfoot z hz b hb'
        exact h.disj j i b f1 (by rw [hi]; simp) f2 f3 (hG q b hb)
      have hown2 : w'.ownsRow 0 ty n' (.slice (some ⟨g, 0, none⟩) es.length cap) es.length (xs0.take (kk * n' + oo) ++ us ++ xs0.drop (kk * n' + oo + us.length)) := by
        refine ⟨by rw [splice_len (by omega)]; exact hxl, .inr ⟨g, cap, _, rfl, Nat.zero_le _, hnew, hcap, hcm, ?_, ?_⟩⟩
        · simp only [List.size_toArray]
          rw [splice_len (by omega), Array.length_toList, hcs]
        · apply List.ext_getElem?
          intro q
          rw [hxs q, List.getElem?_take]
          simp only []
          rw [splice_get (by omega)]
          have hx0 : xs0[q]? = if q < es.length * n' then cur.toList[q]? else none := by rw [← htk, List.getElem?_take]
          rw [hx0]
          split
          · rfl
          · rw [if_neg (by omega)]
      refine .seq n' hp hz (fun e' he' => ?_) (xs0.take (kk * n' + oo) ++ us ++ xs0.drop (kk * n' + oo + us.length)) (by rw [hl']; exact hown2) (fun q b => if kk * n' + oo ≤ q ∧ q < kk * n' + oo + us.length then ∃ z, zs[q - (kk * n' + oo)]? = some z ∧ z.foot G b else Gs q b) (fun k2 e2 j t u hk2 hj hu => ?_) (fun u hu => ?_) (fun b hb => .inl (hFr b hb)) (fun q b hb => ?_) (fun q b hb hvb => ?_) fun q q' b hb hb' => ?_
      · rcases List.mem_or_eq_of_mem_set he' with h3 | h3
        · exact hn e' h3
        · rw [h3, splice_len htl]; exact hen
      · rw [hxs] at hu
        have hold : ∀ j, ¬ (kk * n' + oo ≤ k2 * n' + j ∧ k2 * n' + j < kk * n' + oo + us.length) → Own w 0 t u (Gs (k2 * n' + j)) → Own w' 0 t u (fun b => if kk * n' + oo ≤ k2 * n' + j ∧ k2 * n' + j < kk * n' + oo + us.length then ∃ z, zs[k2 * n' + j - (kk * n' + oo)]? = some z ∧ z.foot G b else Gs (k2 * n' + j) b) := fun j hneq hw => by
          refine (hw.frame fun b hb => hfar b fun e1 => hne _ b hb (by rw [e1]; rfl)).mono fun b hb => ?_
          rw [if_neg hneq]; exact hb
        rcases set_get hk2 with ⟨rfl, rfl⟩ | ⟨hk2n, hk2⟩
        · rw [splice_get htl] at hj
          by_cases hjr : oo ≤ j ∧ j < oo + ts.length
          · rw [if_pos hjr] at hj
            rw [if_pos (by omega), show k2 * n' + j - (k2 * n' + oo) = j - oo by omega] at hu
            obtain ⟨z, f1, f2⟩ := hown1 _ t u hj hu
            refine (f2.frame fun b hb => hfar b (hgn z (get_mem f1) b hb)).mono fun b hb => ?_
            rw [if_pos (by omega), show k2 * n' + j - (k2 * n' + oo) = j - oo by omega]
            exact ⟨z, f1, hb⟩
          · rw [if_neg hjr] at hj
            rw [if_neg (by omega)] at hu
            exact hold j (by omega) (hr k2 e j t u he hj hu)
        · have hjl : j < n' := by rw [← hn e2 (get_mem hk2)]; exact get_lt hj
          have hout : ¬ (kk * n' + oo ≤ k2 * n' + j ∧ k2 * n' + j < kk * n' + oo + us.length) := fun ⟨f1, f2⟩ => by
            have := at_inj (k := k2) (k' := kk) (j := j) (j' := k2 * n' + j - kk * n') hjl (by omega) (by omega)
            exact hk2n this.1
          rw [if_neg hout] at hu
          exact hold j hout (hr k2 e2 j t u hk2 hj hu)
      · rcases List.mem_append.1 hu with hu | hu
        · rcases List.mem_append.1 hu with hu | hu
          · exact hone u (List.mem_of_mem_take hu)
          · exact hone1 u hu
        · exact hone u (List.mem_of_mem_drop hu)
      · split at hb
        · obtain ⟨z, f1, f2⟩ := hb
          exact .inr ⟨z, get_mem f1, f2⟩
        · exact .inl (hG q b hb)
      · split at hb
        · obtain ⟨z, f1, f2⟩ := hb
          exact hgn z (get_mem f1) b f2 (Option.some.inj hvb).symm
        · exact hne q b hb hvb
      · split at hb <;> split at hb'
        · obtain ⟨z, f1, f2⟩ := hb
          obtain ⟨z', f3, f4⟩ := hb'
          have := hfd _ _ z z' b f1 f3 f2 f4
          omega
        · obtain ⟨z, f1, f2⟩ := hb
          exact (hGz z (get_mem f1) _ b hb' f2).elim
        · obtain ⟨z, f1, f2⟩ := hb'
          exact (hGz z (get_mem f1) _ b hb f2).elim
        · exact hdd _ _ b hb hb'
    have hki : (σ.kills zs).ob i = some (ver, .seq ty es) := by rw [kills_ob hself]; exact hi
    have hkj : ∀ j v, j ≠ i → ((σ.kills zs).setob i (.seq ty (es.set kk (e.take oo ++ ts ++ e.drop (oo + ts.length))))).ob j = some v → σ.ob j = some v ∧ zs.any (isHd j) = false := fun j v hj hv => by
      rw [setob_ne hj] at hv
      cases hc : zs.any (isHd j) with
      | true => rw [kills_none hc] at hv; cases hv
      | false => rw [kills_ob hc] at hv; exact ⟨hv, rfl⟩
    have hapart : ∀ j b, σ.ob j ≠ none → zs.any (isHd j) = false → j ≠ i → G.ft j b → (G.ft i b ∨ ∃ z ∈ zs, z.foot G b) → False := fun j b f1 f2 f3 f4 f5 => by
      rcases f5 with f5 | ⟨z, f5, f6⟩
      · exact h.disj j i b f1 (by rw [hi]; simp) f3 f4 f5
      · obtain ⟨j', rfl, f7, f8, f9⟩ := hfoot z f5 b f6
        refine h.disj j j' b f1 f7 (fun e1 => ?_) f4 f9
        subst e1
        exact List.any_eq_false.1 f2 _ f5 (Nat.beq_refl j)
    have hturn := h.turn (σ' := (σ.kills zs).setob i (.seq ty (es.set kk (e.take oo ++ ts ++ e.drop (oo + ts.length))))) (w' := w') (G' := ⟨G.β, G.vl, fun j b => if j = i then G.ft i b ∨ ∃ z ∈ zs, z.foot G b else G.ft j b⟩) (fun b => b = g) rfl rfl rfl hsm (fun b _ hb => hfar b hb) (fun b hb e1 => h.boxft b i hb (by rw [hi]; simp) (by rw [e1]; exact hgft)) (Nat.le_refl _) (fun j hj => rfl) (fun j v' t' hv' => ?_) (fun j j' b hj hj' hjj hbj hbj' => ?_)
    · refine wp_skipped (w' := w') ?_ (by rw [hd]; exact k _ _ _ hturn.1)
      rw [hw']
      simp [execOp, ho, hptr, hu1, Instr.storeAt, Instr.sureAddr, hrun, Result.andThen]
    · by_cases hji : j = i
      · subst hji
        rw [setob_self, hki] at hv'
        cases hv'
        refine .inr ⟨hlt2, fun _ => ⟨ver, _, hi, Nat.lt_succ_self _⟩, ?_, ⟨_, _, rfl⟩, fun b hb => ?_, fun b hb c' hc' e3 => ?_⟩
        · rw [show (⟨G.β, G.vl, fun j' b => if j' = j then G.ft j b ∨ ∃ z ∈ zs, z.foot G b else G.ft j' b⟩ : Ghost).vl j = .slice (some ⟨g, 0, none⟩) es.length cap by rw [← e0', ← e0'']; exact hvl]
          exact hnewown.mono fun b hb => by show if j = j then _ else _; rw [if_pos rfl]; exact hb
        · replace hb : if j = j then G.ft j b ∨ ∃ z ∈ zs, z.foot G b else G.ft j b := hb
          rw [if_pos rfl] at hb
          have : (E.B ≤ b ∨ E.ln b) ∧ b < w.heap.size := by
            rcases hb with hb | ⟨z, f1, f2⟩
            · exact h.ftlt j b (by rw [hi]; simp) hb
            · obtain ⟨j', -, f3, f4, f5⟩ := hfoot z f1 b f2
              exact h.ftlt j' b f3 f5
          exact ⟨this.1, Nat.lt_of_lt_of_le this.2 hsm.size⟩
        · replace hb : if j = j then G.ft j b ∨ ∃ z ∈ zs, z.foot G b else G.ft j b := hb
          rw [if_pos rfl] at hb
          subst e3
          rcases hb with hb | ⟨z, f1, f2⟩
          · exact h.boxft c' j hc' (by rw [hi]; simp) hb
          · obtain ⟨j', -, f3, f4, f5⟩ := hfoot z f1 _ f2
            exact h.boxft c' j' hc' f3 f5
      · obtain ⟨f1, f2⟩ := hkj j _ hji hv'
        refine .inl ⟨f1, fun b => by show (if j = i then _ else _) ↔ _; rw [if_neg hji], fun b hb e1 => ?_⟩
        subst e1
        exact h.disj j i _ (by rw [f1]; simp) (by rw [hi]; simp) hji hb hgft
    · replace hbj : if j = i then G.ft i b ∨ ∃ z ∈ zs, z.foot G b else G.ft j b := hbj
      replace hbj' : if j' = i then G.ft i b ∨ ∃ z ∈ zs, z.foot G b else G.ft j' b := hbj'
      split at hbj <;> split at hbj'
      · omega
      · rename_i e1 e2
        obtain ⟨vj, hvj⟩ := Option.ne_none_iff_exists'.1 hj'
        obtain ⟨f1, f2⟩ := hkj j' vj e2 hvj
        exact hapart j' b (by rw [f1]; simp) f2 e2 hbj' hbj
      · rename_i e1 e2
        obtain ⟨vj, hvj⟩ := Option.ne_none_iff_exists'.1 hj
        obtain ⟨f1, f2⟩ := hkj j vj e1 hvj
        exact hapart j b (by rw [f1]; simp) f2 e1 hbj hbj'
      · rename_i e1 e2
        obtain ⟨vj, hvj⟩ := Option.ne_none_iff_exists'.1 hj
        obtain ⟨f1, -⟩ := hkj j vj e1 hvj
        obtain ⟨vj', hvj'⟩ := Option.ne_none_iff_exists'.1 hj'
        obtain ⟨f2, -⟩ := hkj j' vj' e2 hvj'
        exact h.disj j j' b (by rw [f1]; simp) (by rw [f2]; simp) hjj hbj hbj'
/-- The cells of an element of an object. -/
theorem cells_ep {i ver k n o' : Nat} {ty : TypeId} {es : List (List T)} {e ds : List T} (hi : σ.ob i = some (ver, .seq ty es)) (he : es[k]? = some e) (hn : e.length = n) (hd : e.drop o' = ds) : σ.cells (.ep i k n o') = some ds := by
  show (σ.ob i).bind _ = _
  rw [hi]
  show es[k]?.bind _ = _
  rw [he]
  show (bif Nat.beq e.length n then some (e.drop o') else none) = _
  rw [hn, Nat.beq_refl, ← hd]; rfl
/-- No slice is longer than that. -/
theorem SV.lenle {s : Nat} {lf : Leaf} {ty : TypeId} {es : List (List T)} {K : Act → World → Prop} (hx : σ.tm s = V.one lf) (ht : σ.tr lf = some (.seq ty es)) (k : es.length ≤ maxLen → SV E N σ K) : SV E N σ K := fun a w G h => by
  obtain ⟨ad, c, n, h1, h2, h3, -⟩ := inn_seq (h.head (x := .tmp s) hx ht)
  exact k (Nat.le_trans h2 h3) a w G h
/-! ### 'make' -/
def zeroT : Leaf → T
  | .sc u => .lit u
  | .nl ty => .seq ty []
  | _ => .any
theorem zl_own {w : World} : ∀ {xs : List Leaf} {us : List Value}, ZL xs us → ∀ (j : Nat) (x : Leaf) (u : Value), xs[j]? = some x → us[j]? = some u → Own w 0 (zeroT x) u (fun _ => False)
  | [], [], _, j, x, u, h1, _ => by simp at h1
  | .sc v :: xs, u :: us, h, j, x, y, h1, h2 => by
    cases j with
    | zero => cases h1; cases h2; rw [h.1]; exact .lit (by rw [← h.1]; exact h.2.1)
    | succ j => exact zl_own h.2.2 j x y (by simpa using h1) (by simpa using h2)
  | .nl _ :: xs, u :: us, h, j, x, y, h1, h2 => by
    cases j with
    | zero =>
      cases h1; cases h2
      obtain ⟨n, hn, hz⟩ := h.2.1
      rw [h.1]
      exact Own.seq (es := []) n hn hz (fun e he => by cases he) [] (World.ownsRow_nil _ _ _ _) (fun _ _ => False) (fun k e j t u h => by simp at h) (fun u hu => by cases hu) (fun b hb => by cases hb) (fun i b hb => hb.elim) (fun i b hb => hb.elim) fun i j b hb => hb.elim
    | succ j => exact zl_own h.2.2 j x y (by simpa using h1) (by simpa using h2)
theorem made_get {z : Array Value} {m q : Nat} {u : Value} (hz : 0 < z.size) (h : (madeCells z m).toList[q]? = some u) : z.toList[q % z.size]? = some u := by
  have hq : q < m := by have := get_lt h; simpa [madeCells] using this
  have hm : q % z.size < z.size := Nat.mod_lt _ hz
  simp [madeCells, hq] at h
  rw [← h]
  simp [hm]
/-- 'make([]T, k)'. -/
theorem ok_make {d : Nat} {t ty : TypeId} {n bytes : Nat} {z : Value} {x y : Operand} {zs : List Leaf} {zt : List T} {k0 : Nat} {kl kc : IntKind} (I : ElT t ty n z bytes) {kk : Nat} (hk : σ.nx = kk) (ho : o.op = .makeSlice t x y) (hx : σ.ev x = V.one (.sc (.int kl (k0 : Nat)))) (hy : σ.ev y = V.one (.sc (.int kc (k0 : Nat)))) (hz : ZL zs z.cells.toList) (hzt : zs.map zeroT = zt) (hl : k0 ≤ 350000000000)
    (hd : o.dst = some d) (hdN : d < N) : OpMk Tryd.prog E N none σ o ((σ.new (.seq ty (List.replicate k0 zt))).put d (V.one (.hd kk))) :=
  fun a w G K Q h k => by
    subst hk hzt
    obtain ⟨i0, hi, hz0, hz1, hz2⟩ := info_parts I.inf
    have hby : i0.bytes * k0 ≤ 281474976710656 := by
      have h1 : i0.bytes * k0 ≤ 400 * 350000000000 := Nat.mul_le_mul (by rw [hz2]; exact I.small) hl
      omega
    have hrun := run_make (P := Tryd.prog) w t ty i0 z I.und hi hz0 kl kc k0 k0 (by omega) (Int.le_refl _) (by
      have h1 : ((i0.bytes * k0 : Nat) : Int) ≤ 281474976710656 := by omega
      rwa [Int.natCast_mul] at h1) (by omega)
    simp only [Int.toNat_natCast, hz1] at hrun
    have hzn : zs.length = n := by
      have := hz.len
      rw [← this, Array.length_toList]
      exact I.zs
    have hown := World.ownsRow_lit (base := 0) (w := w) (e := ty) (size := n) (madeCells z.cells (k0 * n)) k0 (Nat.zero_le _) (by unfold maxLen; omega) (size_madeCells _ _)
    obtain ⟨w', hw'⟩ : ∃ w', w' = w.alloc (.cells (madeCells z.cells (k0 * n)) ty) := ⟨_, rfl⟩
    have hget : ∀ (q : Nat) (u : Value), (madeCells z.cells (k0 * n)).toList[q]? = some u → z.cells.toList[q % n]? = some u := fun q u hu => by
      have := made_get (by rw [I.zs]; exact I.pos) hu
      rwa [I.zs] at this
    obtain ⟨G', hG', ⟨hvl, hvls, hβs⟩, -, -⟩ := h.renew [] (fun x hx => by cases hx) (w' := w.alloc (.cells (madeCells z.cells (k0 * n)) ty)) (t := .seq ty (List.replicate k0 (zs.map zeroT))) (v := .slice (some ⟨w.heap.size, 0, none⟩) k0 k0) (F := fun b => b = w.heap.size) (fun _ => False) (.of_below ((Below.refl _ _).alloc h.low _)) (fun k hk _ => Below.heap_alloc _ _ _ hk) (fun b hb => hb.elim)
      (.seq n I.pos I.sz (fun e he => by rw [List.eq_of_mem_replicate he, List.length_map]; exact hzn) (madeCells z.cells (k0 * n)).toList (by rw [List.length_replicate]; exact hown) (fun _ _ => False) (fun k e j t u he hj hu => by
          have he' : e = zs.map zeroT := List.eq_of_mem_replicate (get_mem he)
          subst he'
          rw [List.getElem?_map] at hj
          obtain ⟨lf, e1, e2⟩ := Option.map_eq_some_iff.1 hj
          have hjn : j < n := by rw [← hzn]; exact get_lt e1
          have := hget _ u hu
          rw [Nat.add_comm, Nat.add_mul_mod_self_right, Nat.mod_eq_of_lt hjn] at this
          rw [← e2]
          exact zl_own hz j lf u e1 this)
        (fun u hu => by
          obtain ⟨q, hq, rfl⟩ := List.getElem_of_mem hu
          have h1 := hget q _ (List.getElem?_eq_getElem hq)
          have h2 : q % n < zs.length := by rw [hzn]; exact Nat.mod_lt _ I.pos
          exact (zl_own (w := w) hz (q % n) zs[q % n] _ (List.getElem?_eq_getElem h2) h1).one) (fun b hb => by cases hb; rfl) (fun q b hb => hb.elim) (fun q b hb => hb.elim) fun q q' b hb => hb.elim)
      ⟨_, _, rfl⟩ fun b hb => ⟨by subst hb; exact ⟨.inl h.low, by simp⟩, .inl (h.fresh (by rw [hb]; exact Nat.le_refl _))⟩
    refine wp_value (v := .slice (some ⟨w.heap.size, 0, none⟩) k0 k0) (w' := w.alloc (.cells (madeCells z.cells (k0 * n)) ty)) ?_ (by rw [hd]; exact k _ _ _ (hG'.put hdN (vone.2 ⟨⟨Nat.lt_succ_self _, hvl.symm⟩, .inr rfl⟩)) ⟨by simp, .of_below ((Below.refl _ _).alloc h.low _), hvls, fun b _ => by rw [hβs], fun b hb => .inl (Below.heap_alloc _ _ _ hb), fun i e1 e2 b e3 => .inl (by
      have hi : i = σ.nx := Nat.le_antisymm (Nat.le_of_lt_succ e2) e1
      rw [hi, hvl] at e3
      rw [← Option.some.inj e3]; exact Nat.le_refl _)⟩)
    have hxv := h.sc hx
    have hyv := h.sc hy
    simp [execOp, ho, hxv, hyv, hrun, Result.andThen]
end Go.Proofs.YtlnjgoommpeioaaDoor.V
