/- States told by trees: slices that the call makes (literals, append). -/
import Derived.Test.YtlnjgoommpeioaaVT
import Derived.Maps.AppendAt
namespace Go.Proofs.Ytlnjgoommpeioaa.V
open Go Go.RowKit
set_option linter.unusedVariables false

def isHd (k : Nat) : Leaf → Bool
  | .hd i => Nat.beq i k
  | _ => false
def VS.kills (σ : VS) (cs : List Leaf) : VS := { σ with ob := fun k => bif cs.any (isHd k) then none else σ.ob k }
def VS.new (σ : VS) (t : T) : VS := { σ with ob := fun k => bif Nat.beq k σ.nx then some (0, t) else σ.ob k, nx := σ.nx + 1 }
variable {E : Env} {N : Nat} {σ σ' : VS} {o : Oper} {a : Act} {w : World} {G : Ghost}
theorem nbeq {a b : Nat} : Nat.beq a b = true ↔ a = b := ⟨Nat.eq_of_beq_eq_true, fun h => by rw [h]; exact Nat.beq_refl b⟩
theorem nbne {a b : Nat} (h : a ≠ b) : Nat.beq a b = false := by
  cases hb : Nat.beq a b with
  | false => rfl
  | true => exact absurd (nbeq.1 hb) h
theorem same_grown {w' : World} {row : Option Nat} (h : Rel E N σ a w G) (hg : w.grownBy w' row) (hr : ∀ b, row = some b → E.B ≤ b ∨ E.ln b) : Same E w w' :=
  ⟨hg.os, hg.tape, hg.output, hg.size, fun k hk => hg.block k (Nat.lt_of_lt_of_le hk.1 h.low) fun e => (hr k e.symm).elim (fun h1 => by have := hk.1; omega) hk.2⟩
/-- No object and no box lies there. -/
def Fresh (σ : VS) (G : Ghost) (b : Nat) : Prop := (∀ i, σ.ob i ≠ none → ¬ G.ft i b) ∧ ∀ c, c < σ.bs.length → G.β c ≠ b
theorem Rel.fresh (h : Rel E N σ a w G) {b : Nat} (hb : w.heap.size ≤ b) : Fresh σ G b :=
  ⟨fun i hi hf => by have := (h.ftlt i b hi hf).2; omega, fun c hc e => by
    obtain ⟨-, us, h2, -⟩ := h.boxes c _ _ (List.getElem?_eq_getElem hc)
    have := lt_of_block h2
    omega⟩
/-- What has been handed over is an object of its own; what it was made of is gone. -/
theorem Rel.renew (h : Rel E N σ a w G) (cs : List Leaf) (hcs : ∀ x ∈ cs, ∃ t, σ.out x = some t) {w' : World} {t : T} {v : Value} {F : Nat → Prop} (D : Nat → Prop) (hbel : Same E w w') (hblk : ∀ k, k < w.heap.size → ¬ D k → w'.heap[k]? = w.heap[k]?) (hD : ∀ b, D b → ∃ x ∈ cs, x.foot G b)
    (hown : Own w' 0 t v F) (hseq : ∃ ty es, t = .seq ty es) (hF : ∀ b, F b → ((E.B ≤ b ∨ E.ln b) ∧ b < w'.heap.size) ∧ (Fresh σ G b ∨ ∃ x ∈ cs, x.foot G b)) : ∃ G', Rel E N ((σ.kills cs).new t) a w' G' ∧ (G'.vl σ.nx = v ∧ (∀ i, i < σ.nx → G'.vl i = G.vl i) ∧ G'.β = G.β) ∧ (∀ b, Fresh σ G b → ¬ F b → Fresh ((σ.kills cs).new t) G' b) ∧ ∀ x u, Holds G σ E w x u → Holds G' ((σ.kills cs).new t) E w' x u := by
  have hfoot : ∀ b, (∃ x ∈ cs, x.foot G b) → ∃ i, σ.ob i ≠ none ∧ G.ft i b ∧ cs.any (isHd i) = true := fun b ⟨x, hx, hb⟩ => by
    cases x with
    | hd i =>
      obtain ⟨t, ht⟩ := hcs _ hx
      obtain ⟨p, hp, -⟩ := Option.map_eq_some_iff.1 ht
      exact ⟨i, by rw [hp]; simp, hb, List.any_eq_true.2 ⟨_, hx, Nat.beq_refl i⟩⟩
    | _ => exact hb.elim
  have hlive : ∀ i v t, ((σ.kills cs).new t).ob i = some v → i ≠ σ.nx → σ.ob i = some v ∧ cs.any (isHd i) = false := fun i v t hv hi => by
    have h1 : (bif Nat.beq i σ.nx then some (0, t) else (bif cs.any (isHd i) then none else σ.ob i)) = some v := hv
    rw [nbne hi] at h1
    cases hc : cs.any (isHd i) with
    | true => rw [hc] at h1; cases h1
    | false => rw [hc] at h1; exact ⟨h1, rfl⟩
  have hnew : ((σ.kills cs).new t).ob σ.nx = some (0, t) := by
    show (bif Nat.beq σ.nx σ.nx then some (0, t) else _) = _
    rw [Nat.beq_refl]; rfl
  obtain ⟨G', hG'⟩ : ∃ G' : Ghost, G' = { G with vl := fun k => if k = σ.nx then v else G.vl k, ft := fun k => if k = σ.nx then F else G.ft k } := ⟨_, rfl⟩
  have hvn : G'.vl σ.nx = v := by rw [hG']; exact if_pos rfl
  have hfn : G'.ft σ.nx = F := by rw [hG']; exact if_pos rfl
  have hvo : ∀ i, i ≠ σ.nx → G'.vl i = G.vl i := fun i hi => by rw [hG']; exact if_neg hi
  have hfo : ∀ i, i ≠ σ.nx → G'.ft i = G.ft i := fun i hi => by rw [hG']; exact if_neg hi
  have hltn : ∀ i, σ.ob i ≠ none → i < σ.nx := fun i hi => by
    obtain ⟨⟨v, t⟩, hv⟩ := Option.ne_none_iff_exists'.1 hi
    exact (h.objs i v t hv).1
  have hout : ∀ i v b, σ.ob i = some v → cs.any (isHd i) = false → G.ft i b → ¬ ∃ x ∈ cs, x.foot G b := fun i v b hi hc hb hx => by
    obtain ⟨j, h1, h2, h3⟩ := hfoot b hx
    by_cases hij : i = j
    · subst hij; rw [hc] at h3; cases h3
    · exact h.disj i j b (by rw [hi]; simp) h1 hij hb h2
  have hturn : Rel E N ((σ.kills cs).new t) a w' G' ∧ ∀ x u, Holds G σ E w x u → Holds G' ((σ.kills cs).new t) E w' x u := by
    refine h.turn (σ' := (σ.kills cs).new t) D rfl rfl (by rw [hG']) hbel hblk (fun b hb hd => ?_) (Nat.le_succ _) (fun i hi => hvo i (Nat.ne_of_lt hi)) (fun i v' t' hv => ?_) (fun i j b hi hj hij hb hb' => ?_)
    · obtain ⟨i, h1, h2, -⟩ := hfoot _ (hD _ hd)
      exact h.boxft b i hb h1 h2
    · by_cases hi : i = σ.nx
      · subst hi
        rw [hnew] at hv
        cases hv
        refine .inr ⟨Nat.lt_succ_self _, fun hlt => absurd hlt (Nat.lt_irrefl _), by rw [hvn, hfn]; exact hown, hseq, fun b hb => (hF b (by rw [← hfn]; exact hb)).1, fun b hb => ?_⟩
        rw [hfn] at hb
        rcases (hF b hb).2 with h1 | h1
        · exact h1.2
        · obtain ⟨j, h2, h3, -⟩ := hfoot b h1
          exact fun c hc e => h.boxft c j hc h2 (by rw [e]; exact h3)
      · obtain ⟨h1, h2⟩ := hlive i _ t hv hi
        refine .inl ⟨h1, fun b => by rw [hfo i hi], fun b hb hd => hout i _ b h1 h2 hb (hD b hd)⟩
    · obtain ⟨vi, hvi⟩ := Option.ne_none_iff_exists'.1 hi
      obtain ⟨vj, hvj⟩ := Option.ne_none_iff_exists'.1 hj
      have half : ∀ k vk, k ≠ σ.nx → ((σ.kills cs).new t).ob k = some vk → G'.ft k b → ¬ F b := fun k vk hk hvk hkb hFb => by
        obtain ⟨h1, h2⟩ := hlive k vk t hvk hk
        rw [hfo k hk] at hkb
        rcases (hF b hFb).2 with h3 | h3
        · exact h3.1 k (by rw [h1]; simp) hkb
        · exact hout k _ b h1 h2 hkb h3
      by_cases hin : i = σ.nx
      · subst hin
        rw [hfn] at hb
        exact half j vj (fun e => hij e.symm) hvj hb' hb
      · by_cases hjn : j = σ.nx
        · subst hjn
          rw [hfn] at hb'
          exact half i vi hin hvi hb hb'
        · rw [hfo i hin] at hb
          rw [hfo j hjn] at hb'
          obtain ⟨h1, -⟩ := hlive i _ t hvi hin
          obtain ⟨h2, -⟩ := hlive j _ t hvj hjn
          exact h.disj i j b (by rw [h1]; simp) (by rw [h2]; simp) hij hb hb'
  refine ⟨G', hturn.1, ⟨hvn, fun i hi => hvo i (Nat.ne_of_lt hi), by rw [hG']⟩, fun b hb hnF => ⟨fun i hi hf => ?_, fun c hc e => hb.2 c hc (by rw [hG'] at e; exact e)⟩, hturn.2⟩
  by_cases hin : i = σ.nx
  · subst hin
    rw [hfn] at hf
    exact hnF hf
  · obtain ⟨vi, hvi⟩ := Option.ne_none_iff_exists'.1 hi
    obtain ⟨h1, -⟩ := hlive i _ t hvi hin
    rw [hfo i hin] at hf
    exact hb.1 i (by rw [h1]; simp) hf
theorem own_at {v v' : Value} {b : Nat} (h : Rel E N σ a w G) (hb : v'.ownBlock = some b) (hat : v'.ownBlock = v.ownBlock ∨ v'.ownBlock = some w.heap.size) (hv : ∀ b, v.ownBlock = some b → E.B ≤ b ∨ E.ln b) : E.B ≤ b ∨ E.ln b := by
  rcases hat with h1 | h1
  · exact hv b (by rw [← h1]; exact hb)
  · rw [h1] at hb
    exact .inl (by rw [← Option.some.inj hb]; exact h.low)
/-- What an element type is to the program. -/
structure ElT (t ty : TypeId) (n : Nat) (z : Value) (bytes : Nat) : Prop where
  und : Try.prog.underlying t = some (.slice ty)
  inf : (Try.prog.info? ty).map (fun i => (i.zero, i.size, i.bytes)) = some (some z, n, bytes)
  zs : z.cells.size = n
  pos : 0 < n
  small : bytes ≤ 400
  few : n ≤ 1000
theorem ElT.sz {t ty : TypeId} {n : Nat} {z : Value} {bytes : Nat} (h : ElT t ty n z bytes) : Sz ty n := by
  obtain ⟨i, h1, -, h3, -⟩ := info_parts h.inf
  exact ⟨i, h1, h3⟩
theorem append_core {t ty : TypeId} {n bytes : Nat} {z : Value} (I : ElT t ty n z bytes) {w : World} {B : Nat} {v : Value} {L : Nat} {xs : List Value} (hown : w.ownsRow B ty n v L xs) (hB : B ≤ w.heap.size) {ad : Option Addr} {m c : Nat} (h0 : ad = none → c = 0) (hmc : m ≤ c) {news : List Value} (hl : news.length = m * n)
    (hnews : ∀ x, ad = some x → ∀ j u, news[j]? = some u → w.cell? (x.add j) = some u) (h1 : ∀ u ∈ news, u.oneCell' = true) (hlen : L + m ≤ 350000000000) (rt : TypeId) :
    ∃ v' w', (Builtin.append_ #[t, t] rt #[v, .slice ad m c]).run Try.prog w = .ok v' w' ∧ w'.ownsRow B ty n v' (L + m) (xs ++ news) ∧ w.grownBy w' v.ownBlock ∧ (v'.ownBlock = v.ownBlock ∨ v'.ownBlock = some w.heap.size) ∧
      ∀ b, b < w.heap.size → w'.heap[b]? = w.heap[b]? ∨ ∃ cs cs' : Array Value, v.ownBlock = some b ∧ w.heap[b]? = some (.cells cs ty (0, 0)) ∧ w'.heap[b]? = some (.cells cs' ty (0, 0)) ∧ cs'.size = cs.size ∧ cs'.toList.take (L * n) = cs.toList.take (L * n) := by
  obtain ⟨i0, hi, hz0, hz1, hz2⟩ := info_parts I.inf
  cases ad with
  | none =>
    have hc := h0 rfl
    subst hc
    have hm : m = 0 := by omega
    subst hm
    have hn : news = [] := List.eq_nil_of_length_eq_zero (by omega)
    subst hn
    exact ⟨v, w, run_append_owned_none w B t rt ty i0 n I.und hi v L xs hown, by rw [List.append_nil]; exact hown, World.grownBy.refl _ _, .inl rfl, fun b _ => .inl rfl⟩
  | some ad =>
    have hby : (L + m) * bytes ≤ 140737488355328 := by
      have : (L + m) * bytes ≤ 350000000000 * 400 := Nat.mul_le_mul hlen I.small
      omega
    obtain ⟨v', w', k1, k2, k3, -, k4⟩ := run_append_own_at (P := Try.prog) w B t rt ty i0 z n bytes I.und hi hz0 hz1 hz2 I.zs I.pos v L xs hown ad m c news hl (hnews ad rfl) h1 (by unfold maxLen; omega) hby hB
    refine ⟨v', w', k1, k2, k3, k4, fun b hb => ?_⟩
    by_cases hvb : v.ownBlock = some b
    · obtain ⟨h2, ⟨rfl, -⟩ | ⟨g, cap, cur, rfl, hbg, hg, hnc, hcm, hcs, htake⟩⟩ := hown
      · cases hvb
      · have hgb : g = b := Option.some.inj hvb
        subst hgb
        subst hz1
        by_cases hroom : L + m ≤ cap
        · have hfit : L * i0.size + news.length ≤ cur.size := by rw [hl, hcs, ← Nat.add_mul]; exact Nat.mul_le_mul_right _ hroom
          have hr := run_append_room (P := Try.prog) w t rt ty i0 I.und hi g L cap cur hg ad m c news hl (hnews ad rfl) h1 hroom hfit
          rw [hr] at k1
          injection k1 with e1 e2
          refine .inr ⟨cur, _, rfl, hg, by rw [← e2]; exact setRow_heap w g cur _ ty _ hg, ?_, ?_⟩
          · simp only [List.size_toArray, List.length_append, List.length_take, List.length_drop, Array.length_toList]
            omega
          · have hle : L * i0.size ≤ cur.toList.length := by rw [Array.length_toList]; omega
            simp only [List.append_assoc]
            rw [List.take_append_of_le_length (by rw [List.length_take, Nat.min_eq_left hle]; exact Nat.le_refl _), List.take_take, Nat.min_self]
        · have holds : ∀ j u, xs[j]? = some u → w.cell? ((⟨g, 0, none⟩ : Addr).add j) = some u := (show w.ownsRow B ty i0.size _ L xs from ⟨h2, .inr ⟨g, cap, cur, rfl, hbg, hg, hnc, hcm, hcs, htake⟩⟩).cells (g := g) rfl
          have hr := run_append_grow (P := Try.prog) w t rt ty i0 z I.und hi hz0 ⟨g, 0, none⟩ L cap xs h2 holds ad m c news hl (hnews ad rfl) (by omega) (by omega) (growslice_fits (by omega) (by rw [hz2]; exact hby))
          rw [hr] at k1
          injection k1 with e1 e2
          exact .inl (by rw [← e2]; exact Below.heap_alloc w.drew _ _ hb)
    · exact .inl (k3.block b hb fun e => hvb e.symm)
def Leaf.id? : Leaf → Option Nat
  | .hd i => some i
  | _ => none
/-- What an append leaves of memory. -/
theorem made_append {t ty : TypeId} {n bytes : Nat} {z : Value} {σ : VS} {w w' : World} {G G' : Ghost} {ls : Leaf} {es : List (List T)} {v v' : Value} {a : Act} {E : Env} {N : Nat} (I : ElT t ty n z bytes) (h : Rel E N σ a w G) (hts : σ.out ls = some (.seq ty es)) (hls : Holds G σ E w ls v) (hg : w.grownBy w' v.ownBlock)
    (hat : v'.ownBlock = v.ownBlock ∨ v'.ownBlock = some w.heap.size) (hpre : ∀ b, b < w.heap.size → w'.heap[b]? = w.heap[b]? ∨ ∃ cs cs' : Array Value, v.ownBlock = some b ∧ w.heap[b]? = some (.cells cs ty (0, 0)) ∧ w'.heap[b]? = some (.cells cs' ty (0, 0)) ∧ cs'.size = cs.size ∧ cs'.toList.take (es.length * n) = cs.toList.take (es.length * n))
    (hvl : G'.vl σ.nx = v') (hvls : ∀ i, i < σ.nx → G'.vl i = G.vl i) (hβ : G'.β = G.β) (hb : Same E w w') : Made σ (Leaf.id? ls) w w' G G' E (σ.nx + 1) := by
  have key : ∀ b, v.ownBlock = some b → ∃ i, Leaf.id? ls = some i ∧ (∃ ver, σ.ob i = some (ver, .seq ty es)) ∧ (G.vl i).ownBlock = some b := fun b hvb => by
    cases ls with
    | hd i =>
      obtain ⟨⟨ver, s⟩, e1, e2⟩ := Option.map_eq_some_iff.1 hts
      exact ⟨i, rfl, ⟨ver, by rw [e1]; exact congrArg some (Prod.ext rfl e2)⟩, by rw [← hls.1.2]; exact hvb⟩
    | nl ty' => rw [hls.1.1] at hvb; cases hvb
    | sc u => cases hts
    | dead => cases hts
    | ro t => cases hts
    | rp es => cases hts
    | nd i v t l => cases hts
    | np i v es => cases hts
    | ep i k n o => cases hts
    | bp b o => cases hts
  refine ⟨hb.size, hb, hvls, fun b _ => by rw [hβ], fun b hbl => ?_, fun i h1 h2 b hib => ?_⟩
  · rcases hpre b hbl with h1 | ⟨cs, cs', h1, h2, h3, h4, h5⟩
    · exact .inl h1
    · obtain ⟨i, e1, ⟨ver, e2⟩, e3⟩ := key b h1
      exact .inr ⟨i, ver, ty, es, n, cs, cs', e1, e2, e3, I.sz, h2, h3, h4, h5⟩
  · have hi : i = σ.nx := by omega
    subst hi
    rw [hvl] at hib
    rcases hat with h3 | h3
    · obtain ⟨j, e1, -, e3⟩ := key b (by rw [← h3]; exact hib)
      exact .inr ⟨j, e1, e3⟩
    · rw [h3] at hib
      exact .inl (by rw [← Option.some.inj hib]; exact Nat.le_refl _)
/-- The elements of two slices, one behind the other. -/
theorem cat_el {es fs : List (List T)} {k : Nat} {e : List T} (h : (es ++ fs)[k]? = some e) : (k < es.length ∧ es[k]? = some e) ∨ (es.length ≤ k ∧ fs[k - es.length]? = some e) := by
  rcases Nat.lt_or_ge k es.length with hk | hk
  · exact .inl ⟨hk, by rwa [List.getElem?_append_left hk] at h⟩
  · exact .inr ⟨hk, by rwa [List.getElem?_append_right hk] at h⟩
theorem cat_ix {L k n j : Nat} (h : L ≤ k) : k * n + j = L * n + ((k - L) * n + j) := by
  have : k = L + (k - L) := by omega
  conv => lhs; rw [this, Nat.add_mul, Nat.add_assoc]
/-- 'append(s, x...)': what x is made of goes over; or its cells alone, where they are flat. -/
theorem ok_append {d : Nat} {s x : Operand} {t ty : TypeId} {n bytes : Nat} {z : Value} (I : ElT t ty n z bytes) {ls lx : Leaf} {es fs : List (List T)} {kk : Nat} (hk : σ.nx = kk) (ho : o.op = .call { callee := .builtin .append, args := #[s, x], argTypes := #[t, t] })
    (hs : σ.ev s = V.one ls) (hx : σ.ev x = V.one lx) (hts : σ.out ls = some (.seq ty es)) (htx : σ.out lx = some (.seq ty fs)) (h2 : two ls lx) (hlen : es.length + fs.length ≤ 350000000000) (hd : o.dst = some d) (hdN : d < N) :
    OpMk Try.prog E N (Leaf.id? ls) σ o (((σ.kills [ls, lx]).new (.seq ty (es ++ fs))).put d (V.one (.hd kk))) :=
  fun a w G K Q h k => by
    subst hk
    have hvs := h.ev s
    rw [hs, vone] at hvs
    have hvx := h.ev x
    rw [hx, vone] at hvx
    have os := h.out hvs hts
    have ox := h.out hvx htx
    generalize hF1 : ls.foot G = F1 at os
    generalize hF2 : lx.foot G = F2 at ox
    have hdis : ∀ b, F1 b → F2 b → False := fun b hb1 hb2 => by
      rw [← hF1] at hb1
      rw [← hF2] at hb2
      cases ls with
      | hd i =>
        cases lx with
        | hd j =>
          obtain ⟨p, e1, -⟩ := Option.map_eq_some_iff.1 hts
          obtain ⟨q, e2, -⟩ := Option.map_eq_some_iff.1 htx
          by_cases hij : i = j
          · exact h2 i rfl (by rw [hij])
          · exact h.disj i j b (by rw [e1]; simp) (by rw [e2]; simp) hij hb1 hb2
        | _ => exact hb2
      | _ => exact hb1
    have hlt1 : ∀ b, F1 b → (E.B ≤ b ∨ E.ln b) ∧ b < w.heap.size := fun b hb => by
      rw [← hF1] at hb
      cases ls with
      | hd i =>
        obtain ⟨p, e1, -⟩ := Option.map_eq_some_iff.1 hts
        exact h.ftlt i b (by rw [e1]; simp) hb
      | _ => exact hb.elim
    have hlt2 : ∀ b, F2 b → (E.B ≤ b ∨ E.ln b) ∧ b < w.heap.size := fun b hb => by
      rw [← hF2] at hb
      cases lx with
      | hd i =>
        obtain ⟨p, e1, -⟩ := Option.map_eq_some_iff.1 htx
        exact h.ftlt i b (by rw [e1]; simp) hb
      | _ => exact hb.elim
    have hcs : ∀ y ∈ [ls, lx], ∃ t, σ.out y = some t := fun y hy => by
      simp only [List.mem_cons, List.not_mem_nil, or_false] at hy
      rcases hy with rfl | rfl
      · exact ⟨_, hts⟩
      · exact ⟨_, htx⟩
    cases os with
    | seq n1 hp1 hz1 hn1 xs1 hown1 Gs1 hr1 hone1 hF1' hG1 hne1 hd1 =>
    cases ox with
    | seq n2 hp2 hz2 hn2 xs2 hown2 Gs2 hr2 hone2 hF2' hG2 hne2 hd2 =>
    have e1 := hz1.eq I.sz
    have e2 := hz2.eq I.sz
    subst e1 e2
    obtain ⟨ad, c, hxv, hc1, -, hc3, hc4⟩ := own_slice hown2
    obtain ⟨v', w', k1, k2, k3, k4, k5⟩ := append_core I hown1 (Nat.zero_le _) hc3 hc1 hown2.1 (fun y hy j u hj => by
      have hpos : 0 < fs.length := by
        rcases Nat.eq_zero_or_pos fs.length with hz | hz
        · have := get_lt hj; rw [hown2.1, hz, Nat.zero_mul] at this; omega
        · exact hz
      obtain ⟨g, hg, -, -, hg2, -⟩ := hc4 hpos
      rw [hy] at hg
      cases hg
      rw [Addr.add_lit, Nat.zero_add]
      exact hg2 j u hj) hone2 hlen o.type
    have hblk : ∀ k, k < w.heap.size → ¬ ((a.eval s).ownBlock = some k) → w'.heap[k]? = w.heap[k]? := fun k hk hn => k3.block k hk fun e => hn e.symm
    have hx1 : ∀ k e j t', (es ++ fs)[k]? = some e → e[j]? = some t' → j < n2 := fun k e j t' he hj => by
      rcases cat_el he with ⟨-, he⟩ | ⟨-, he⟩
      · rw [← hn1 e (get_mem he)]; exact get_lt hj
      · rw [← hn2 e (get_mem he)]; exact get_lt hj
    obtain ⟨G', hG', ⟨hvl, hvls, hβs⟩, -, -⟩ := h.renew [ls, lx] hcs (w' := w') (t := .seq ty (es ++ fs)) (v := v') (F := fun b => F1 b ∨ F2 b ∨ v'.ownBlock = some b) (fun b => (a.eval s).ownBlock = some b)
      (same_grown h k3 fun b hb => (hlt1 b (hF1' b hb)).1) hblk (fun b hb => ⟨ls, List.mem_cons_self .., by rw [hF1]; exact hF1' b hb⟩)
      (by
        refine .seq n2 hp2 hz2 (fun e he => (List.mem_append.1 he).elim (hn1 e) (hn2 e)) (xs1 ++ xs2) (by rw [List.length_append]; exact k2) (fun q b => if q < es.length * n2 then Gs1 q b else Gs2 (q - es.length * n2) b) (fun k e j t' u he hj hu => ?_) (fun u hu => (List.mem_append.1 hu).elim (hone1 u) (hone2 u)) (fun b hb => .inr (.inr hb)) (fun q b hb => ?_) (fun q b hb => ?_) fun q q' b hb hb' => ?_
        · have hj2 := hx1 k e j t' he hj
          rcases cat_el he with ⟨hk, he⟩ | ⟨hk, he⟩
          · have hlt := at_lt hk hj2
            rw [List.getElem?_append_left (by rw [hown1.1]; exact hlt)] at hu
            refine ((hr1 k e j t' u he hj hu).frame fun b hb => hblk b (hlt1 b (hG1 _ b hb)).2 fun e => hne1 _ b hb e).mono fun b hb => ?_
            show if k * n2 + j < es.length * n2 then _ else _
            rw [if_pos hlt]; exact hb
          · rw [cat_ix (n := n2) (j := j) hk] at hu ⊢
            rw [List.getElem?_append_right (by rw [hown1.1]; omega), hown1.1, Nat.add_sub_cancel_left] at hu
            refine ((hr2 _ e j t' u he hj hu).frame fun b hb => hblk b (hlt2 b (hG2 _ b hb)).2 fun e => hdis b (hF1' b e) (hG2 _ b hb)).mono fun b hb => ?_
            show if es.length * n2 + ((k - es.length) * n2 + j) < es.length * n2 then _ else _
            rw [if_neg (by omega), Nat.add_sub_cancel_left]; exact hb
        · replace hb : if q < es.length * n2 then Gs1 q b else Gs2 (q - es.length * n2) b := hb
          split at hb
          · exact .inl (hG1 _ b hb)
          · exact .inr (.inl (hG2 _ b hb))
        · replace hb : if q < es.length * n2 then Gs1 q b else Gs2 (q - es.length * n2) b := hb
          intro e
          have hbl : b < w.heap.size := by
            split at hb
            · exact (hlt1 b (hG1 _ b hb)).2
            · exact (hlt2 b (hG2 _ b hb)).2
          rcases k4 with k4 | k4
          · rw [k4] at e
            split at hb
            · exact hne1 _ b hb e
            · exact hdis b (hF1' b e) (hG2 _ b hb)
          · rw [k4] at e
            have := Option.some.inj e
            omega
        · replace hb : if q < es.length * n2 then Gs1 q b else Gs2 (q - es.length * n2) b := hb
          replace hb' : if q' < es.length * n2 then Gs1 q' b else Gs2 (q' - es.length * n2) b := hb'
          split at hb <;> split at hb'
          · exact hd1 _ _ b hb hb'
          · exact (hdis b (hG1 _ b hb) (hG2 _ b hb')).elim
          · exact (hdis b (hG1 _ b hb') (hG2 _ b hb)).elim
          · have := hd2 _ _ b hb hb'
            omega)
      ⟨_, _, rfl⟩ (fun b hb => by
        rcases hb with hb | hb | hb
        · exact ⟨⟨(hlt1 b hb).1, Nat.lt_of_lt_of_le (hlt1 b hb).2 k3.size⟩, .inr ⟨ls, List.mem_cons_self .., by rw [hF1]; exact hb⟩⟩
        · exact ⟨⟨(hlt2 b hb).1, Nat.lt_of_lt_of_le (hlt2 b hb).2 k3.size⟩, .inr ⟨lx, List.mem_cons_of_mem _ (List.mem_cons_self ..), by rw [hF2]; exact hb⟩⟩
        · refine ⟨⟨own_at h hb k4 (fun b hb => (hlt1 b (hF1' b hb)).1), (World.ownsRow.lt k2 b hb).2⟩, ?_⟩
          rcases k4 with k4 | k4
          · exact .inr ⟨ls, List.mem_cons_self .., by rw [hF1]; exact hF1' b (by rw [← k4]; exact hb)⟩
          · rw [k4] at hb
            exact .inl (h.fresh (by rw [← Option.some.inj hb]; exact Nat.le_refl _)))
    refine wp_value (v := v') (w' := w') ?_ (by rw [hd]; exact k _ _ _ (hG'.put hdN (vone.2 ⟨⟨Nat.lt_succ_self _, hvl.symm⟩, .inr (ownsRow_one k2)⟩)) (made_append I h hts hvs k3 k4 k5 hvl hvls hβs ((same_grown h k3 fun b hb => (hlt1 b (hF1' b hb)).1))))
    simp [execOp, ho, resolve, invoke, builtin, hxv, k1, Result.andThen]
end Go.Proofs.Ytlnjgoommpeioaa.V
