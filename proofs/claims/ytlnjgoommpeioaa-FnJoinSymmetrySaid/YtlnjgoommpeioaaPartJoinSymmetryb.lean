/- Texts joined: VA VB Plan VD VF VG. -/
import Derived.Test.YtlnjgoommpeioaaPartJoinSymmetrya
import Derived.Maps.AppendAt
import Derived.Great.FillDense
import Derived.Great.BuildSlice
import Derived.OrdersHeld
import Derived.Deep.RegionHeld
/- States told by trees: slices that the call makes (literals, append). -/
namespace Go.Proofs.Ytlnjgoommpeioaa.V
open Go Go.RowKit
set_option linter.unusedVariables false

def isHd (k : Nat) : Leaf → Bool
  | .hd i => Nat.beq i k
  | _ => false
def VS.kills (σ : VS) (cs : List Leaf) : VS := { σ with ob := fun k => bif cs.any (isHd k) then none else σ.ob k }
def VS.new (σ : VS) (t : T) : VS := { σ with ob := fun k => bif Nat.beq k σ.nx then some (0, t) else σ.ob k, nx := σ.nx + 1 }
variable {E : Env} {N : Nat} {σ σ' : VS} {o : Oper} {a : Act} {w : World} {G : Ghost}
theorem nbeq {a b : Nat} : Nat.beq a b = true ↔ a = b := ⟨Nat.eq_of_beq_eq_true, fun h => by rw [h]; exact Nat.beq_refl b⟩
theorem nbne {a b : Nat} (h : a ≠ b) : Nat.beq a b = false := by
  cases hb : Nat.beq a b with
  | false => rfl
  | true => exact absurd (nbeq.1 hb) h
theorem same_grown {w' : World} {row : Option Nat} (h : Rel E N σ a w G) (hg : w.grownBy w' row) (hr : ∀ b, row = some b → E.B ≤ b ∨ E.ln b) : Same E w w' :=
  ⟨hg.os, hg.tape, hg.output, hg.size, fun k hk => hg.block k (Nat.lt_of_lt_of_le hk.1 h.low) fun e => (hr k e.symm).elim (fun h1 => by have := hk.1; omega) hk.2⟩
/-- No object and no box lies there. -/
def Fresh (σ : VS) (G : Ghost) (b : Nat) : Prop := (∀ i, σ.ob i ≠ none → ¬ G.ft i b) ∧ ∀ c, c < σ.bs.length → G.β c ≠ b
theorem Rel.fresh (h : Rel E N σ a w G) {b : Nat} (hb : w.heap.size ≤ b) : Fresh σ G b :=
  ⟨fun i hi hf => by have := (h.ftlt i b hi hf).2; omega, fun c hc e => by
    obtain ⟨-, us, h2, -⟩ := h.boxes c _ _ (List.getElem?_eq_getElem hc)
    have := lt_of_block h2
    omega⟩
/-- What has been handed over is an object of its own; what it was made of is gone. -/
theorem Rel.renew (h : Rel E N σ a w G) (cs : List Leaf) (hcs : ∀ x ∈ cs, ∃ t, σ.out x = some t) {w' : World} {t : T} {v : Value} {F : Nat → Prop} (D : Nat → Prop) (hbel : Same E w w') (hblk : ∀ k, k < w.heap.size → ¬ D k → w'.heap[k]? = w.heap[k]?) (hD : ∀ b, D b → ∃ x ∈ cs, x.foot G b)
    (hown : Own w' 0 t v F) (hseq : ∃ ty es, t = .seq ty es) (hF : ∀ b, F b → ((E.B ≤ b ∨ E.ln b) ∧ b < w'.heap.size) ∧ (Fresh σ G b ∨ ∃ x ∈ cs, x.foot G b)) : ∃ G', Rel E N ((σ.kills cs).new t) a w' G' ∧ (G'.vl σ.nx = v ∧ (∀ i, i < σ.nx → G'.vl i = G.vl i) ∧ G'.β = G.β) ∧ (∀ b, Fresh σ G b → ¬ F b → Fresh ((σ.kills cs).new t) G' b) ∧ ∀ x u, Holds G σ E w x u → Holds G' ((σ.kills cs).new t) E w' x u := by
  have hfoot : ∀ b, (∃ x ∈ cs, x.foot G b) → ∃ i, σ.ob i ≠ none ∧ G.ft i b ∧ cs.any (isHd i) = true := fun b ⟨x, hx, hb⟩ => by
    cases x with
    | hd i =>
      obtain ⟨t, ht⟩ := hcs _ hx
      obtain ⟨p, hp, -⟩ := Option.map_eq_some_iff.1 ht
      exact ⟨i, by rw [hp]; simp, hb, List.any_eq_true.2 ⟨_, hx, Nat.beq_refl i⟩⟩
    | _ => exact hb.elim
  have hlive : ∀ i v t, ((σ.kills cs).new t).ob i = some v → i ≠ σ.nx → σ.ob i = some v ∧ cs.any (isHd i) = false := fun i v t hv hi => by
    have h1 : (bif Nat.beq i σ.nx then some (0, t) else (bif cs.any (isHd i) then none else σ.ob i)) = some v := hv
    rw [nbne hi] at h1
    cases hc : cs.any (isHd i) with
    | true => rw [hc] at h1; cases h1
    | false => rw [hc] at h1; exact ⟨h1, rfl⟩
  have hnew : ((σ.kills cs).new t).ob σ.nx = some (0, t) := by
    show (bif Nat.beq σ.nx σ.nx then some (0, t) else _) = _
    rw [Nat.beq_refl]; rfl
  obtain ⟨G', hG'⟩ : ∃ G' : Ghost, G' = { G with vl := fun k => if k = σ.nx then v else G.vl k, ft := fun k => if k = σ.nx then F else G.ft k } := ⟨_, rfl⟩
  have hvn : G'.vl σ.nx = v := by rw [hG']; exact if_pos rfl
  have hfn : G'.ft σ.nx = F := by rw [hG']; exact if_pos rfl
  have hvo : ∀ i, i ≠ σ.nx → G'.vl i = G.vl i := fun i hi => by rw [hG']; exact if_neg hi
  have hfo : ∀ i, i ≠ σ.nx → G'.ft i = G.ft i := fun i hi => by rw [hG']; exact if_neg hi
  have hltn : ∀ i, σ.ob i ≠ none → i < σ.nx := fun i hi => by
    obtain ⟨⟨v, t⟩, hv⟩ := Option.ne_none_iff_exists'.1 hi
    exact (h.objs i v t hv).1
  have hout : ∀ i v b, σ.ob i = some v → cs.any (isHd i) = false → G.ft i b → ¬ ∃ x ∈ cs, x.foot G b := fun i v b hi hc hb hx => by
    obtain ⟨j, h1, h2, h3⟩ := hfoot b hx
    by_cases hij : i = j
    · subst hij; rw [hc] at h3; cases h3
    · exact h.disj i j b (by rw [hi]; simp) h1 hij hb h2
  have hturn : Rel E N ((σ.kills cs).new t) a w' G' ∧ ∀ x u, Holds G σ E w x u → Holds G' ((σ.kills cs).new t) E w' x u := by
    refine h.turn (σ' := (σ.kills cs).new t) D rfl rfl (by rw [hG']) hbel hblk (fun b hb hd => ?_) (Nat.le_succ _) (fun i hi => hvo i (Nat.ne_of_lt hi)) (fun i v' t' hv => ?_) (fun i j b hi hj hij hb hb' => ?_)
    · obtain ⟨i, h1, h2, -⟩ := hfoot _ (hD _ hd)
      exact h.boxft b i hb h1 h2
    · by_cases hi : i = σ.nx
      · subst hi
        rw [hnew] at hv
        cases hv
        refine .inr ⟨Nat.lt_succ_self _, fun hlt => absurd hlt (Nat.lt_irrefl _), by rw [hvn, hfn]; exact hown, hseq, fun b hb => (hF b (by rw [← hfn]; exact hb)).1, fun b hb => ?_⟩
        rw [hfn] at hb
        rcases (hF b hb).2 with h1 | h1
        · exact h1.2
        · obtain ⟨j, h2, h3, -⟩ := hfoot b h1
          exact fun c hc e => h.boxft c j hc h2 (by rw [e]; exact h3)
      · obtain ⟨h1, h2⟩ := hlive i _ t hv hi
        refine .inl ⟨h1, fun b => by rw [hfo i hi], fun b hb hd => hout i _ b h1 h2 hb (hD b hd)⟩
    · obtain ⟨vi, hvi⟩ := Option.ne_none_iff_exists'.1 hi
      obtain ⟨vj, hvj⟩ := Option.ne_none_iff_exists'.1 hj
      have half : ∀ k vk, k ≠ σ.nx → ((σ.kills cs).new t).ob k = some vk → G'.ft k b → ¬ F b := fun k vk hk hvk hkb hFb => by
        obtain ⟨h1, h2⟩ := hlive k vk t hvk hk
        rw [hfo k hk] at hkb
        rcases (hF b hFb).2 with h3 | h3
        · exact h3.1 k (by rw [h1]; simp) hkb
        · exact hout k _ b h1 h2 hkb h3
      by_cases hin : i = σ.nx
      · subst hin
        rw [hfn] at hb
        exact half j vj (fun e => hij e.symm) hvj hb' hb
      · by_cases hjn : j = σ.nx
        · subst hjn
          rw [hfn] at hb'
          exact half i vi hin hvi hb hb'
        · rw [hfo i hin] at hb
          rw [hfo j hjn] at hb'
          obtain ⟨h1, -⟩ := hlive i _ t hvi hin
          obtain ⟨h2, -⟩ := hlive j _ t hvj hjn
          exact h.disj i j b (by rw [h1]; simp) (by rw [h2]; simp) hij hb hb'
  refine ⟨G', hturn.1, ⟨hvn, fun i hi => hvo i (Nat.ne_of_lt hi), by rw [hG']⟩, fun b hb hnF => ⟨fun i hi hf => ?_, fun c hc e => hb.2 c hc (by rw [hG'] at e; exact e)⟩, hturn.2⟩
  by_cases hin : i = σ.nx
  · subst hin
    rw [hfn] at hf
    exact hnF hf
  · obtain ⟨vi, hvi⟩ := Option.ne_none_iff_exists'.1 hi
    obtain ⟨h1, -⟩ := hlive i _ t hvi hin
    rw [hfo i hin] at hf
    exact hb.1 i (by rw [h1]; simp) hf
theorem own_at {v v' : Value} {b : Nat} (h : Rel E N σ a w G) (hb : v'.ownBlock = some b) (hat : v'.ownBlock = v.ownBlock ∨ v'.ownBlock = some w.heap.size) (hv : ∀ b, v.ownBlock = some b → E.B ≤ b ∨ E.ln b) : E.B ≤ b ∨ E.ln b := by
  rcases hat with h1 | h1
  · exact hv b (by rw [← h1]; exact hb)
  · rw [h1] at hb
    exact .inl (by rw [← Option.some.inj hb]; exact h.low)
/-- What an element type is to the program. -/
structure ElT (t ty : TypeId) (n : Nat) (z : Value) (bytes : Nat) : Prop where
  und : Try.prog.underlying t = some (.slice ty)
  inf : (Try.prog.info? ty).map (fun i => (i.zero, i.size, i.bytes)) = some (some z, n, bytes)
  zs : z.cells.size = n
  pos : 0 < n
  small : bytes ≤ 400
  few : n ≤ 1000
theorem ElT.sz {t ty : TypeId} {n : Nat} {z : Value} {bytes : Nat} (h : ElT t ty n z bytes) : Sz ty n := by
  obtain ⟨i, h1, -, h3, -⟩ := info_parts h.inf
  exact ⟨i, h1, h3⟩
theorem append_core {t ty : TypeId} {n bytes : Nat} {z : Value} (I : ElT t ty n z bytes) {w : World} {B : Nat} {v : Value} {L : Nat} {xs : List Value} (hown : w.ownsRow B ty n v L xs) (hB : B ≤ w.heap.size) {ad : Option Addr} {m c : Nat} (h0 : ad = none → c = 0) (hmc : m ≤ c) {news : List Value} (hl : news.length = m * n)
    (hnews : ∀ x, ad = some x → ∀ j u, news[j]? = some u → w.cell? (x.add j) = some u) (h1 : ∀ u ∈ news, u.oneCell' = true) (hlen : L + m ≤ 350000000000) (rt : TypeId) :
    ∃ v' w', (Builtin.append_ #[t, t] rt #[v, .slice ad m c]).run Try.prog w = .ok v' w' ∧ w'.ownsRow B ty n v' (L + m) (xs ++ news) ∧ w.grownBy w' v.ownBlock ∧ (v'.ownBlock = v.ownBlock ∨ v'.ownBlock = some w.heap.size) ∧
      ∀ b, b < w.heap.size → w'.heap[b]? = w.heap[b]? ∨ ∃ cs cs' : Array Value, v.ownBlock = some b ∧ w.heap[b]? = some (.cells cs ty (0, 0)) ∧ w'.heap[b]? = some (.cells cs' ty (0, 0)) ∧ cs'.size = cs.size ∧ cs'.toList.take (L * n) = cs.toList.take (L * n) := by
  obtain ⟨i0, hi, hz0, hz1, hz2⟩ := info_parts I.inf
  cases ad with
  | none =>
    have hc := h0 rfl
    subst hc
    have hm : m = 0 := by omega
    subst hm
    have hn : news = [] := List.eq_nil_of_length_eq_zero (by omega)
    subst hn
    exact ⟨v, w, run_append_owned_none w B t rt ty i0 n I.und hi v L xs hown, by rw [List.append_nil]; exact hown, World.grownBy.refl _ _, .inl rfl, fun b _ => .inl rfl⟩
  | some ad =>
    have hby : (L + m) * bytes ≤ 140737488355328 := by
      have : (L + m) * bytes ≤ 350000000000 * 400 := Nat.mul_le_mul hlen I.small
      omega
    obtain ⟨v', w', k1, k2, k3, -, k4⟩ := run_append_own_at (P := Try.prog) w B t rt ty i0 z n bytes I.und hi hz0 hz1 hz2 I.zs I.pos v L xs hown ad m c news hl (hnews ad rfl) h1 (by unfold maxLen; omega) hby hB
    refine ⟨v', w', k1, k2, k3, k4, fun b hb => ?_⟩
    by_cases hvb : v.ownBlock = some b
    · obtain ⟨h2, ⟨rfl, -⟩ | ⟨g, cap, cur, rfl, hbg, hg, hnc, hcm, hcs, htake⟩⟩ := hown
      · cases hvb
      · have hgb : g = b := Option.some.inj hvb
        subst hgb
        subst hz1
        by_cases hroom : L + m ≤ cap
        · have hfit : L * i0.size + news.length ≤ cur.size := by rw [hl, hcs, ← Nat.add_mul]; exact Nat.mul_le_mul_right _ hroom
          have hr := run_append_room (P := Try.prog) w t rt ty i0 I.und hi g L cap cur hg ad m c news hl (hnews ad rfl) h1 hroom hfit
          rw [hr] at k1
          injection k1 with e1 e2
          refine .inr ⟨cur, _, rfl, hg, by rw [← e2]; exact setRow_heap w g cur _ ty _ hg, ?_, ?_⟩
          · simp only [List.size_toArray, List.length_append, List.length_take, List.length_drop, Array.length_toList]
            omega
          · have hle : L * i0.size ≤ cur.toList.length := by rw [Array.length_toList]; omega
            simp only [List.append_assoc]
            rw [List.take_append_of_le_length (by rw [List.length_take, Nat.min_eq_left hle]; exact Nat.le_refl _), List.take_take, Nat.min_self]
        · have holds : ∀ j u, xs[j]? = some u → w.cell? ((⟨g, 0, none⟩ : Addr).add j) = some u := (show w.ownsRow B ty i0.size _ L xs from ⟨h2, .inr ⟨g, cap, cur, rfl, hbg, hg, hnc, hcm, hcs, htake⟩⟩).cells (g := g) rfl
          have hr := run_append_grow (P := Try.prog) w t rt ty i0 z I.und hi hz0 ⟨g, 0, none⟩ L cap xs h2 holds ad m c news hl (hnews ad rfl) (by omega) (by omega) (growslice_fits (by omega) (by rw [hz2]; exact hby))
          rw [hr] at k1
          injection k1 with e1 e2
          exact .inl (by rw [← e2]; exact Below.heap_alloc w.drew _ _ hb)
    · exact .inl (k3.block b hb fun e => hvb e.symm)
def Leaf.id? : Leaf → Option Nat
  | .hd i => some i
  | _ => none
/-- What an append leaves of memory. -/
theorem made_append {t ty : TypeId} {n bytes : Nat} {z : Value} {σ : VS} {w w' : World} {G G' : Ghost} {ls : Leaf} {es : List (List T)} {v v' : Value} {a : Act} {E : Env} {N : Nat} (I : ElT t ty n z bytes) (h : Rel E N σ a w G) (hts : σ.out ls = some (.seq ty es)) (hls : Holds G σ E w ls v) (hg : w.grownBy w' v.ownBlock)
    (hat : v'.ownBlock = v.ownBlock ∨ v'.ownBlock = some w.heap.size) (hpre : ∀ b, b < w.heap.size → w'.heap[b]? = w.heap[b]? ∨ ∃ cs cs' : Array Value, v.ownBlock = some b ∧ w.heap[b]? = some (.cells cs ty (0, 0)) ∧ w'.heap[b]? = some (.cells cs' ty (0, 0)) ∧ cs'.size = cs.size ∧ cs'.toList.take (es.length * n) = cs.toList.take (es.length * n))
    (hvl : G'.vl σ.nx = v') (hvls : ∀ i, i < σ.nx → G'.vl i = G.vl i) (hβ : G'.β = G.β) (hb : Same E w w') : Made σ (Leaf.id? ls) w w' G G' E (σ.nx + 1) := by
  have key : ∀ b, v.ownBlock = some b → ∃ i, Leaf.id? ls = some i ∧ (∃ ver, σ.ob i = some (ver, .seq ty es)) ∧ (G.vl i).ownBlock = some b := fun b hvb => by
    cases ls with
    | hd i =>
      obtain ⟨⟨ver, s⟩, e1, e2⟩ := Option.map_eq_some_iff.1 hts
      exact ⟨i, rfl, ⟨ver, by rw [e1]; exact congrArg some (Prod.ext rfl e2)⟩, by rw [← hls.1.2]; exact hvb⟩
    | nl ty' => rw [hls.1.1] at hvb; cases hvb
    | sc u => cases hts
    | dead => cases hts
    | ro t => cases hts
    | rp es => cases hts
    | nd i v t l => cases hts
    | np i v es => cases hts
    | ep i k n o => cases hts
    | bp b o => cases hts
  refine ⟨hb.size, hb, hvls, fun b _ => by rw [hβ], fun b hbl => ?_, fun i h1 h2 b hib => ?_⟩
  · rcases hpre b hbl with h1 | ⟨cs, cs', h1, h2, h3, h4, h5⟩
    · exact .inl h1
    · obtain ⟨i, e1, ⟨ver, e2⟩, e3⟩ := key b h1
      exact .inr ⟨i, ver, ty, es, n, cs, cs', e1, e2, e3, I.sz, h2, h3, h4, h5⟩
  · have hi : i = σ.nx := by omega
    subst hi
    rw [hvl] at hib
    rcases hat with h3 | h3
    · obtain ⟨j, e1, -, e3⟩ := key b (by rw [← h3]; exact hib)
      exact .inr ⟨j, e1, e3⟩
    · rw [h3] at hib
      exact .inl (by rw [← Option.some.inj hib]; exact Nat.le_refl _)
/-- The elements of two slices, one behind the other. -/
theorem cat_el {es fs : List (List T)} {k : Nat} {e : List T} (h : (es ++ fs)[k]? = some e) : (k < es.length ∧ es[k]? = some e) ∨ (es.length ≤ k ∧ fs[k - es.length]? = some e) := by
  rcases Nat.lt_or_ge k es.length with hk | hk
  · exact .inl ⟨hk, by rwa [List.getElem?_append_left hk] at h⟩
  · exact .inr ⟨hk, by rwa [List.getElem?_append_right hk] at h⟩
theorem cat_ix {L k n j : Nat} (h : L ≤ k) : k * n + j = L * n + ((k - L) * n + j) := by
  have : k = L + (k - L) := by omega
  conv => lhs; rw [this, Nat.add_mul, Nat.add_assoc]
/-- 'append(s, x...)': what x is made of goes over; or its cells alone, where they are flat. -/
theorem ok_append {d : Nat} {s x : Operand} {t ty : TypeId} {n bytes : Nat} {z : Value} (I : ElT t ty n z bytes) {ls lx : Leaf} {es fs : List (List T)} {kk : Nat} (hk : σ.nx = kk) (ho : o.op = .call { callee := .builtin .append, args := #[s, x], argTypes := #[t, t] })
    (hs : σ.ev s = V.one ls) (hx : σ.ev x = V.one lx) (hts : σ.out ls = some (.seq ty es)) (htx : σ.out lx = some (.seq ty fs)) (h2 : two ls lx) (hlen : es.length + fs.length ≤ 350000000000) (hd : o.dst = some d) (hdN : d < N) :
    OpMk Try.prog E N (Leaf.id? ls) σ o (((σ.kills [ls, lx]).new (.seq ty (es ++ fs))).put d (V.one (.hd kk))) :=
  fun a w G K Q h k => by
    subst hk
    have hvs := h.ev s
    rw [hs, vone] at hvs
    have hvx := h.ev x
    rw [hx, vone] at hvx
    have os := h.out hvs hts
    have ox := h.out hvx htx
    generalize hF1 : ls.foot G = F1 at os
    generalize hF2 : lx.foot G = F2 at ox
    have hdis : ∀ b, F1 b → F2 b → False := fun b hb1 hb2 => by
      rw [← hF1] at hb1
      rw [← hF2] at hb2
      cases ls with
      | hd i =>
        cases lx with
        | hd j =>
          obtain ⟨p, e1, -⟩ := Option.map_eq_some_iff.1 hts
          obtain ⟨q, e2, -⟩ := Option.map_eq_some_iff.1 htx
          by_cases hij : i = j
          · exact h2 i rfl (by rw [hij])
          · exact h.disj i j b (by rw [e1]; simp) (by rw [e2]; simp) hij hb1 hb2
        | _ => exact hb2
      | _ => exact hb1
    have hlt1 : ∀ b, F1 b → (E.B ≤ b ∨ E.ln b) ∧ b < w.heap.size := fun b hb => by
      rw [← hF1] at hb
      cases ls with
      | hd i =>
        obtain ⟨p, e1, -⟩ := Option.map_eq_some_iff.1 hts
        exact h.ftlt i b (by rw [e1]; simp) hb
      | _ => exact hb.elim
    have hlt2 : ∀ b, F2 b → (E.B ≤ b ∨ E.ln b) ∧ b < w.heap.size := fun b hb => by
      rw [← hF2] at hb
      cases lx with
      | hd i =>
        obtain ⟨p, e1, -⟩ := Option.map_eq_some_iff.1 htx
        exact h.ftlt i b (by rw [e1]; simp) hb
      | _ => exact hb.elim
    have hcs : ∀ y ∈ [ls, lx], ∃ t, σ.out y = some t := fun y hy => by
      simp only [List.mem_cons, List.not_mem_nil, or_false] at hy
      rcases hy with rfl | rfl
      · exact ⟨_, hts⟩
      · exact ⟨_, htx⟩
    cases os with
    | seq n1 hp1 hz1 hn1 xs1 hown1 Gs1 hr1 hone1 hF1' hG1 hne1 hd1 =>
    cases ox with
    | seq n2 hp2 hz2 hn2 xs2 hown2 Gs2 hr2 hone2 hF2' hG2 hne2 hd2 =>
    have e1 := hz1.eq I.sz
    have e2 := hz2.eq I.sz
    subst e1 e2
    obtain ⟨ad, c, hxv, hc1, -, hc3, hc4⟩ := own_slice hown2
    obtain ⟨v', w', k1, k2, k3, k4, k5⟩ := append_core I hown1 (Nat.zero_le _) hc3 hc1 hown2.1 (fun y hy j u hj => by
      have hpos : 0 < fs.length := by
        rcases Nat.eq_zero_or_pos fs.length with hz | hz
        · have := get_lt hj; rw [hown2.1, hz, Nat.zero_mul] at this; omega
        · exact hz
      obtain ⟨g, hg, -, -, hg2, -⟩ := hc4 hpos
      rw [hy] at hg
      cases hg
      rw [Addr.add_lit, Nat.zero_add]
      exact hg2 j u hj) hone2 hlen o.type
    have hblk : ∀ k, k < w.heap.size → ¬ ((a.eval s).ownBlock = some k) → w'.heap[k]? = w.heap[k]? := fun k hk hn => k3.block k hk fun e => hn e.symm
    have hx1 : ∀ k e j t', (es ++ fs)[k]? = some e → e[j]? = some t' → j < n2 := fun k e j t' he hj => by
      rcases cat_el he with ⟨-, he⟩ | ⟨-, he⟩
      · rw [← hn1 e (get_mem he)]; exact get_lt hj
      · rw [← hn2 e (get_mem he)]; exact get_lt hj
    obtain ⟨G', hG', ⟨hvl, hvls, hβs⟩, -, -⟩ := h.renew [ls, lx] hcs (w' := w') (t := .seq ty (es ++ fs)) (v := v') (F := fun b => F1 b ∨ F2 b ∨ v'.ownBlock = some b) (fun b => (a.eval s).ownBlock = some b)
      (same_grown h k3 fun b hb => (hlt1 b (hF1' b hb)).1) hblk (fun b hb => ⟨ls, List.mem_cons_self .., by rw [hF1]; exact hF1' b hb⟩)
      (by
        refine .seq n2 hp2 hz2 (fun e he => (List.mem_append.1 he).elim (hn1 e) (hn2 e)) (xs1 ++ xs2) (by rw [List.length_append]; exact k2) (fun q b => if q < es.length * n2 then Gs1 q b else Gs2 (q - es.length * n2) b) (fun k e j t' u he hj hu => ?_) (fun u hu => (List.mem_append.1 hu).elim (hone1 u) (hone2 u)) (fun b hb => .inr (.inr hb)) (fun q b hb => ?_) (fun q b hb => ?_) fun q q' b hb hb' => ?_
        · have hj2 := hx1 k e j t' he hj
          rcases cat_el he with ⟨hk, he⟩ | ⟨hk, he⟩
          · have hlt := at_lt hk hj2
            rw [List.getElem?_append_left (by rw [hown1.1]; exact hlt)] at hu
            refine ((hr1 k e j t' u he hj hu).frame fun b hb => hblk b (hlt1 b (hG1 _ b hb)).2 fun e => hne1 _ b hb e).mono fun b hb => ?_
            show if k * n2 + j < es.length * n2 then _ else _
            rw [if_pos hlt]; exact hb
          · rw [cat_ix (n := n2) (j := j) hk] at hu ⊢
            rw [List.getElem?_append_right (by rw [hown1.1]; omega), hown1.1, Nat.add_sub_cancel_left] at hu
            refine ((hr2 _ e j t' u he hj hu).frame fun b hb => hblk b (hlt2 b (hG2 _ b hb)).2 fun e => hdis b (hF1' b e) (hG2 _ b hb)).mono fun b hb => ?_
            show if es.length * n2 + ((k - es.length) * n2 + j) < es.length * n2 then _ else _
            rw [if_neg (by omega), Nat.add_sub_cancel_left]; exact hb
        · replace hb : if q < es.length * n2 then Gs1 q b else Gs2 (q - es.length * n2) b := hb
          split at hb
          · exact .inl (hG1 _ b hb)
          · exact .inr (.inl (hG2 _ b hb))
        · replace hb : if q < es.length * n2 then Gs1 q b else Gs2 (q - es.length * n2) b := hb
          intro e
          have hbl : b < w.heap.size := by
            split at hb
            · exact (hlt1 b (hG1 _ b hb)).2
            · exact (hlt2 b (hG2 _ b hb)).2
          rcases k4 with k4 | k4
          · rw [k4] at e
            split at hb
            · exact hne1 _ b hb e
            · exact hdis b (hF1' b e) (hG2 _ b hb)
          · rw [k4] at e
            have := Option.some.inj e
            omega
        · replace hb : if q < es.length * n2 then Gs1 q b else Gs2 (q - es.length * n2) b := hb
          replace hb' : if q' < es.length * n2 then Gs1 q' b else Gs2 (q' - es.length * n2) b := hb'
          split at hb <;> split at hb'
          · exact hd1 _ _ b hb hb'
          · exact (hdis b (hG1 _ b hb) (hG2 _ b hb')).elim
          · exact (hdis b (hG1 _ b hb') (hG2 _ b hb)).elim
          · have := hd2 _ _ b hb hb'
            omega)
      ⟨_, _, rfl⟩ (fun b hb => by
        rcases hb with hb | hb | hb
        · exact ⟨⟨(hlt1 b hb).1, Nat.lt_of_lt_of_le (hlt1 b hb).2 k3.size⟩, .inr ⟨ls, List.mem_cons_self .., by rw [hF1]; exact hb⟩⟩
        · exact ⟨⟨(hlt2 b hb).1, Nat.lt_of_lt_of_le (hlt2 b hb).2 k3.size⟩, .inr ⟨lx, List.mem_cons_of_mem _ (List.mem_cons_self ..), by rw [hF2]; exact hb⟩⟩
        · refine ⟨⟨own_at h hb k4 (fun b hb => (hlt1 b (hF1' b hb)).1), (World.ownsRow.lt k2 b hb).2⟩, ?_⟩
          rcases k4 with k4 | k4
          · exact .inr ⟨ls, List.mem_cons_self .., by rw [hF1]; exact hF1' b (by rw [← k4]; exact hb)⟩
          · rw [k4] at hb
            exact .inl (h.fresh (by rw [← Option.some.inj hb]; exact Nat.le_refl _)))
    refine wp_value (v := v') (w' := w') ?_ (by rw [hd]; exact k _ _ _ (hG'.put hdN (vone.2 ⟨⟨Nat.lt_succ_self _, hvl.symm⟩, .inr (ownsRow_one k2)⟩)) (made_append I h hts hvs k3 k4 k5 hvl hvls hβs ((same_grown h k3 fun b hb => (hlt1 b (hF1' b hb)).1))))
    simp [execOp, ho, resolve, invoke, builtin, hxv, k1, Result.andThen]
end Go.Proofs.Ytlnjgoommpeioaa.V
/- States told by trees: literals, stretches, calls, parts of values, struct literals, stores into slices. -/
namespace Go.Proofs.Ytlnjgoommpeioaa.V
open Go Go.RowKit
set_option linter.unusedVariables false
variable {E : Env} {N : Nat} {σ σ' : VS} {o : Oper} {a : Act} {w : World} {G : Ghost}
def Flat (fs : List (List T)) : Prop := ∀ (k : Nat) (e : List T) (j : Nat) (t : T), fs[k]? = some e → e[j]? = some t → ∃ u, t = T.lit u
def litv : T → Value
  | .lit u => u
  | _ => .bool false
theorem flat_ix {fs : List (List T)} {n : Nat} (hn : ∀ e ∈ fs, e.length = n) : ∀ (k j : Nat) (e : List T) (t : T), fs[k]? = some e → e[j]? = some t → (fs.flatMap fun e => e.map litv)[k * n + j]? = some (litv t) := by
  induction fs with
  | nil => intro k j e t h; simp at h
  | cons f fs ih =>
    intro k j e t hk hj
    have hf : f.length = n := hn f (List.mem_cons_self ..)
    rw [List.flatMap_cons]
    cases k with
    | zero =>
      cases hk
      rw [Nat.zero_mul, Nat.zero_add, List.getElem?_append_left (by rw [List.length_map]; exact get_lt hj), List.getElem?_map, hj]
      rfl
    | succ k =>
      have h1 : (k + 1) * n + j = n + (k * n + j) := by rw [Nat.add_mul, Nat.one_mul]; omega
      rw [h1, List.getElem?_append_right (by rw [List.length_map, hf]; omega), List.length_map, hf, Nat.add_sub_cancel_left]
      exact ih (fun e he => hn e (List.mem_cons_of_mem _ he)) k j e t (by simpa using hk) hj
theorem flat_len {fs : List (List T)} {n : Nat} (hn : ∀ e ∈ fs, e.length = n) : (fs.flatMap fun e => e.map litv).length = fs.length * n := by
  induction fs with
  | nil => simp
  | cons f fs ih =>
    rw [List.flatMap_cons, List.length_append, List.length_map, hn f (List.mem_cons_self ..), ih fun e he => hn e (List.mem_cons_of_mem _ he), List.length_cons, Nat.add_mul, Nat.one_mul]
    omega
theorem flat_at {fs : List (List T)} {n p : Nat} {u : Value} (hn : ∀ e ∈ fs, e.length = n) (hp : 0 < n) (h : (fs.flatMap fun e => e.map litv)[p]? = some u) : ∃ e t, fs[p / n]? = some e ∧ e[p % n]? = some t ∧ u = litv t ∧ p / n * n + p % n = p := by
  have hlt := get_lt h
  rw [flat_len hn] at hlt
  have hd : p / n < fs.length := by rw [Nat.div_lt_iff_lt_mul hp]; exact hlt
  have hm : p % n < fs[p / n].length := by rw [hn _ (List.getElem_mem hd)]; exact Nat.mod_lt _ hp
  have e1 : p / n * n + p % n = p := by rw [Nat.mul_comm]; exact Nat.div_add_mod p n
  have h2 := flat_ix hn (p / n) (p % n) fs[p / n] fs[p / n][p % n] (List.getElem?_eq_getElem hd) (List.getElem?_eq_getElem hm)
  rw [e1, h] at h2
  exact ⟨_, _, List.getElem?_eq_getElem hd, List.getElem?_eq_getElem hm, Option.some.inj h2, e1⟩
/-- 'append(s, x...)', x of flat elements that may be read. -/
theorem ok_append_ro {d : Nat} {s x : Operand} {t ty : TypeId} {n bytes : Nat} {z : Value} (I : ElT t ty n z bytes) {ls lx : Leaf} {es fs : List (List T)} {kk : Nat} (hk : σ.nx = kk) (ho : o.op = .call { callee := .builtin .append, args := #[s, x], argTypes := #[t, t] })
    (hs : σ.ev s = V.one ls) (hx : σ.ev x = V.one lx) (hts : σ.out ls = some (.seq ty es)) (htx : σ.tr lx = some (.seq ty fs)) (hfl : Flat fs) (hlen : es.length + fs.length ≤ 350000000000) (hd : o.dst = some d) (hdN : d < N) :
    OpMk Try.prog E N (Leaf.id? ls) σ o (((σ.kills [ls]).new (.seq ty (es ++ fs))).put d (V.one (.hd kk))) :=
  fun a w G K Q h k => by
    subst hk
    have hvs := h.ev s
    rw [hs, vone] at hvs
    have os := h.out hvs hts
    generalize hF1 : ls.foot G = F1 at os
    have hlt1 : ∀ b, F1 b → (E.B ≤ b ∨ E.ln b) ∧ b < w.heap.size := fun b hb => by
      rw [← hF1] at hb
      cases ls with
      | hd i =>
        obtain ⟨p, e1, -⟩ := Option.map_eq_some_iff.1 hts
        exact h.ftlt i b (by rw [e1]; simp) hb
      | _ => exact hb.elim
    have hcs : ∀ y ∈ [ls], ∃ t, σ.out y = some t := fun y hy => by
      rw [List.mem_singleton.1 hy]
      exact ⟨_, hts⟩
    obtain ⟨ad, c, n2, hxv, hc1, -, hc3, hp2, hz2, hn2, b2, o2, us, ha2, hb2, hcell, hr2⟩ := inn_seq (h.head hx htx)
    cases os with
    | seq n1 hp1 hz1 hn1 xs1 hown1 Gs1 hr1 hone1 hF1' hG1 hne1 hd1 =>
    have e1 := hz1.eq I.sz
    have e2 := hz2.eq I.sz
    subst e1 e2
    have hval : ∀ p u, (fs.flatMap fun e => e.map litv)[p]? = some u → w.cell? ⟨b2, o2 + p, none⟩ = some u ∧ u.oneCell' = true := fun p u hu => by
      obtain ⟨e, t', h1, h2, h3, h4⟩ := flat_at hn2 hp2 hu
      obtain ⟨v, hv⟩ := hfl _ _ _ _ h1 h2
      subst hv
      have h5 := hr2 _ _ _ _ h1 h2
      have h6 := hcell _ _ _ _ h1 h2
      rw [h4] at h5 h6
      cases h5 with
      | lit h7 =>
        rw [h3]
        exact ⟨h6, h7⟩
    obtain ⟨v', w', k1, k2, k3, k4, k5⟩ := append_core I hown1 (Nat.zero_le _) hc3 hc1 (flat_len hn2) (fun y hy j u hj => by
      have hne : fs ≠ [] := fun hh => by rw [hh] at hj; simp at hj
      rw [ha2 y hy hne, Addr.add_lit]
      exact (hval j u hj).1) (fun u hu => by
        obtain ⟨j, hj, rfl⟩ := List.getElem_of_mem hu
        exact (hval j _ (List.getElem?_eq_getElem hj)).2) hlen o.type
    have hblk : ∀ k, k < w.heap.size → ¬ ((a.eval s).ownBlock = some k) → w'.heap[k]? = w.heap[k]? := fun k hk hn => k3.block k hk fun e => hn e.symm
    obtain ⟨G', hG', ⟨hvl, hvls, hβs⟩, -, -⟩ := h.renew [ls] hcs (w' := w') (t := .seq ty (es ++ fs)) (v := v') (F := fun b => F1 b ∨ v'.ownBlock = some b) (fun b => (a.eval s).ownBlock = some b)
      (same_grown h k3 fun b hb => (hlt1 b (hF1' b hb)).1) hblk (fun b hb => ⟨ls, List.mem_singleton.2 rfl, by rw [hF1]; exact hF1' b hb⟩)
      (by
        refine .seq n2 hp2 hz2 (fun e he => (List.mem_append.1 he).elim (hn1 e) (hn2 e)) _ (by rw [List.length_append]; exact k2) (fun q b => q < es.length * n2 ∧ Gs1 q b) (fun k e j t' u he hj hu => ?_) (fun u hu => (List.mem_append.1 hu).elim (hone1 u) fun hu => ?_) (fun b hb => .inr hb) (fun q b hb => .inl (hG1 _ b hb.2)) (fun q b hb e => ?_) fun q q' b hb hb' => hd1 _ _ b hb.2 hb'.2
        · have hj2 : j < n2 := by
            rcases cat_el he with ⟨-, he⟩ | ⟨-, he⟩
            · rw [← hn1 e (get_mem he)]; exact get_lt hj
            · rw [← hn2 e (get_mem he)]; exact get_lt hj
          rcases cat_el he with ⟨hk, he⟩ | ⟨hk, he⟩
          · have hlt := at_lt hk hj2
            rw [List.getElem?_append_left (by rw [hown1.1]; exact hlt)] at hu
            exact ((hr1 k e j t' u he hj hu).frame fun b hb => hblk b (hlt1 b (hG1 _ b hb)).2 fun e => hne1 _ b hb e).mono fun b hb => ⟨hlt, hb⟩
          · rw [cat_ix (n := n2) (j := j) hk] at hu
            rw [List.getElem?_append_right (by rw [hown1.1]; omega), hown1.1, Nat.add_sub_cancel_left, flat_ix hn2 _ j e t' he hj] at hu
            obtain ⟨v, hv⟩ := hfl _ _ _ _ he hj
            subst hv
            rw [← Option.some.inj hu]
            exact .lit (hval _ _ (flat_ix hn2 _ j e _ he hj)).2
        · obtain ⟨j, hj, rfl⟩ := List.getElem_of_mem hu
          exact (hval j _ (List.getElem?_eq_getElem hj)).2
        · rcases k4 with k4 | k4
          · rw [k4] at e
            exact hne1 _ b hb.2 e
          · rw [k4] at e
            have := Option.some.inj e
            have := (hlt1 b (hG1 _ b hb.2)).2
            omega)
      ⟨_, _, rfl⟩ (fun b hb => by
        rcases hb with hb | hb
        · exact ⟨⟨(hlt1 b hb).1, Nat.lt_of_lt_of_le (hlt1 b hb).2 k3.size⟩, .inr ⟨ls, List.mem_singleton.2 rfl, by rw [hF1]; exact hb⟩⟩
        · refine ⟨⟨own_at h hb k4 (fun b hb => (hlt1 b (hF1' b hb)).1), (World.ownsRow.lt k2 b hb).2⟩, ?_⟩
          rcases k4 with k4 | k4
          · exact .inr ⟨ls, List.mem_singleton.2 rfl, by rw [hF1]; exact hF1' b (by rw [← k4]; exact hb)⟩
          · rw [k4] at hb
            exact .inl (h.fresh (by rw [← Option.some.inj hb]; exact Nat.le_refl _)))
    refine wp_value (v := v') (w' := w') ?_ (by rw [hd]; exact k _ _ _ (hG'.put hdN (vone.2 ⟨⟨Nat.lt_succ_self _, hvl.symm⟩, .inr (ownsRow_one k2)⟩)) (made_append I h hts hvs k3 k4 k5 hvl hvls hβs ((same_grown h k3 fun b hb => (hlt1 b (hF1' b hb)).1))))
    simp [execOp, ho, resolve, invoke, builtin, hxv, k1, Result.andThen]
/-- A stretch of a slice. -/
def Leaf.cutL (lf : Leaf) (t : T) : Leaf := match lf with
  | .ro _ => .ro t
  | .hd i => .nd i 0 t none
  | .nd i ver _ _ => .nd i ver t none
  | _ => .dead
/-- One component of a tuple. -/
theorem ok_extract {nb c : Nat} {x : Operand} {ps : List (Bool × List Leaf)} {ag : Bool} {xs : List Leaf} (ho : o.op = .extract x c) (hx : σ.ev x = ⟨true, ps⟩) (hc : ps[c]? = some (ag, xs)) : OpL Try.prog E N nb σ o (V.flat ag xs) :=
  fun a w G h => by
    have h1 := h.ev x
    rw [hx] at h1
    obtain ⟨uss, h2, h3, h4⟩ := h1
    have hcl : c < uss.length := by rw [h2]; exact get_lt hc
    obtain ⟨h5, h6⟩ := h4 c ag xs uss[c] hc (List.getElem?_eq_getElem hcl)
    refine ⟨cval ag uss[c], fun v' _ => ?_, vflat.2 ⟨_, rfl, h5, h6⟩⟩
    have : (List.zipWith (fun (c : Bool × List Leaf) us => cval c.1 us) ps uss)[c]? = some (cval ag uss[c]) := by
      rw [List.getElem?_zipWith, hc, List.getElem?_eq_getElem hcl]
    simp [execOp, ho, Instr.extract, h3, vval, this]
/-! ### Calls -/
/-- What is handed to a call: trees that may be read. -/
def VS.arg (σ : VS) : Leaf → Option T
  | .dead => some .any
  | x => σ.tr x
def VS.args (σ : VS) : List Leaf → List T → Prop
  | [], [] => True
  | x :: xs, t :: ts => σ.tr x = some t ∧ σ.args xs ts
  | _, _ => False
theorem args_get {σ : VS} : ∀ {xs : List Leaf} {ts : List T}, σ.args xs ts → xs.length = ts.length ∧ ∀ (j : Nat) (t : T), ts[j]? = some t → ∃ x, xs[j]? = some x ∧ σ.tr x = some t
  | [], [], _ => ⟨rfl, fun j t h => by simp at h⟩
  | x :: xs, t :: ts, h => by
    obtain ⟨h1, h2⟩ := args_get h.2
    refine ⟨by simp [h1], fun j y hj => ?_⟩
    cases j with
    | zero => cases hj; exact ⟨x, rfl, h.1⟩
    | succ j => exact h2 j y (by simpa using hj)
def VS.argss (σ : VS) : List Operand → List (Bool × List T) → Prop
  | [], [] => True
  | x :: xs, q :: qs => (∃ ls, σ.ev x = V.flat q.1 ls ∧ σ.args ls q.2) ∧ σ.argss xs qs
  | _, _ => False
theorem Rel.args (h : Rel E N σ a w G) : ∀ {xs : List Operand} {qs : List (Bool × List T)}, σ.argss xs qs → ArgsIn (Env.of w) w qs (xs.map a.eval)
  | [], [], _ => ⟨rfl, fun c ag ts v hc => by simp at hc⟩
  | x :: xs, q :: qs, hq => by
    obtain ⟨⟨ls, h1, h2⟩, h3⟩ := hq
    obtain ⟨h4, h5⟩ := h.args h3
    refine ⟨by simpa using h4, fun c ag ts v hc hv => ?_⟩
    cases c with
    | zero =>
      cases hc
      cases hv
      have h6 := h.ev x
      rw [h1, vflat] at h6
      obtain ⟨us, h7, h8, h9⟩ := h6
      obtain ⟨h10, h11⟩ := args_get h2
      refine ⟨us, h7, h8.trans h10, fun j t u hj hu => ?_⟩
      obtain ⟨y, h12, h13⟩ := h11 j t hj
      have := h.tree (h9 j y u h12 hu) h13
      refine this.frame (Nat.le_refl _) fun b hb hb' => ⟨Env.of_old.2 hb', rfl⟩
    | succ c => exact h5 c ag ts v (by simpa using hc) (by simpa using hv)
/-- The leaves of an answer, new objects numbered from k on. -/
def ansL : Nat → List T → List Leaf × Nat
  | k, [] => ([], k)
  | k, .lit u :: ts => let r := ansL k ts; (.sc u :: r.1, r.2)
  | k, .any :: ts => let r := ansL k ts; (.dead :: r.1, r.2)
  | k, .seq _ _ :: ts => let r := ansL (k + 1) ts; (.hd k :: r.1, r.2)
def ansS (σ : VS) : List T → VS
  | [] => σ
  | .seq ty es :: ts => ansS (σ.new (.seq ty es)) ts
  | _ :: ts => ansS σ ts
def ansLs : Nat → List (Bool × List T) → List (Bool × List Leaf)
  | _, [] => []
  | k, (ag, ts) :: qs => (ag, (ansL k ts).1) :: ansLs (ansL k ts).2 qs
def ansSs (σ : VS) : List (Bool × List T) → VS
  | [] => σ
  | (_, ts) :: qs => ansSs (ansS σ ts) qs
/-- Each new object's leaf holds; what held before holds. -/
theorem Rel.addAll : ∀ (ts : List T) {σ : VS} {G : Ghost} (us : List Value) (F : Nat → Nat → Prop), Rel E N σ a w G → us.length = ts.length → (∀ (j : Nat) (t : T) (u : Value), ts[j]? = some t → us[j]? = some u → Own w 0 t u (F j)) → (∀ j b, F j b → Fresh σ G b ∧ (E.B ≤ b ∨ E.ln b) ∧ b < w.heap.size) →
    (∀ i j b, F i b → F j b → i = j) → ∃ G', Rel E N (ansS σ ts) a w G' ∧ (ansS σ ts).bs = σ.bs ∧ (ansS σ ts).nx = (ansL σ.nx ts).2 ∧ σ.nx ≤ (ansS σ ts).nx ∧ (∀ b, Fresh σ G b → (∀ j, ¬ F j b) → Fresh (ansS σ ts) G' b) ∧ (∀ x u, Holds G σ E w x u → Holds G' (ansS σ ts) E w x u) ∧ (ansL σ.nx ts).1.length = ts.length ∧
      (∀ (j : Nat) (x : Leaf) (u : Value), (ansL σ.nx ts).1[j]? = some x → us[j]? = some u → Holds G' (ansS σ ts) E w x u) ∧
      (∀ i, i < σ.nx → G'.vl i = G.vl i) ∧ G'.β = G.β ∧ ∀ i, σ.nx ≤ i → i < (ansS σ ts).nx → ∀ b, (G'.vl i).ownBlock = some b → ∃ j, F j b
  | [], σ, G, us, F, h, hl, ho, hF, hd => ⟨G, h, rfl, rfl, Nat.le_refl _, fun b hb _ => hb, fun x u hx => hx, rfl, fun j x u hj => by simp [ansL] at hj, fun _ _ => rfl, rfl, fun i h1 h2 => absurd h2 (Nat.not_lt.2 h1)⟩
  | .any :: ts, σ, G, u :: us, F, h, hl, ho, hF, hd => by
    obtain ⟨G', h1, h2, h3, h4, h5, h6, h7, h8, h9, h10, h11⟩ := Rel.addAll ts us (fun j => F (j + 1)) h (by simpa using hl) (fun j t u hj hu => ho (j + 1) t u (by simpa using hj) (by simpa using hu)) (fun j b hb => hF _ b hb) fun i j b hi hj => by have := hd _ _ b hi hj; omega
    refine ⟨G', h1, h2, h3, h4, fun b hb hn => h5 b hb fun j => hn (j + 1), h6, by simp [ansL, h7], fun j x v hj hv => ?_, h9, h10, fun i e1 e2 b e3 => by obtain ⟨j, hj⟩ := h11 i e1 e2 b e3; exact ⟨j + 1, hj⟩⟩
    cases j with
    | zero => cases hj; exact ⟨trivial, .inl rfl⟩
    | succ j => exact h8 j x v (by simpa [ansL] using hj) (by simpa using hv)
  | .lit v :: ts, σ, G, u :: us, F, h, hl, ho, hF, hd => by
    obtain ⟨G', h1, h2, h3, h4, h5, h6, h7, h8, h9, h10, h11⟩ := Rel.addAll ts us (fun j => F (j + 1)) h (by simpa using hl) (fun j t u hj hu => ho (j + 1) t u (by simpa using hj) (by simpa using hu)) (fun j b hb => hF _ b hb) fun i j b hi hj => by have := hd _ _ b hi hj; omega
    refine ⟨G', h1, h2, h3, h4, fun b hb hn => h5 b hb fun j => hn (j + 1), h6, by simp [ansL, h7], fun j x y hj hv => ?_, h9, h10, fun i e1 e2 b e3 => by obtain ⟨j, hj⟩ := h11 i e1 e2 b e3; exact ⟨j + 1, hj⟩⟩
    cases j with
    | zero =>
      cases hj
      cases hv
      have := ho 0 (.lit v) u rfl rfl
      cases this with
      | lit hv => exact ⟨rfl, .inr hv⟩
    | succ j => exact h8 j x y (by simpa [ansL] using hj) (by simpa using hv)
  | .seq ty es :: ts, σ, G, u :: us, F, h, hl, ho, hF, hd => by
    have hown := ho 0 (.seq ty es) u rfl rfl
    obtain ⟨G1, k1, ⟨k2, k5, k6⟩, k3, k4⟩ := h.renew [] (fun x hx => by cases hx) (w' := w) (t := .seq ty es) (v := u) (F := F 0) (fun _ => False) (Same.refl _ _) (fun _ _ _ => rfl) (fun b hb => hb.elim) hown ⟨_, _, rfl⟩ fun b hb => ⟨(hF 0 b hb).2, .inl (hF 0 b hb).1⟩
    have e0 : (σ.kills []).new (.seq ty es) = σ.new (.seq ty es) := rfl
    rw [e0] at k1 k3 k4
    obtain ⟨G', h1, h2, h3, h4, h5, h6, h7, h8, h9, h10, h11⟩ := Rel.addAll ts us (fun j => F (j + 1)) k1 (by simpa using hl) (fun j t u hj hu => ho (j + 1) t u (by simpa using hj) (by simpa using hu)) (fun j b hb => ⟨k3 b (hF _ b hb).1 fun hb0 => by have := hd _ _ b hb hb0; omega, (hF _ b hb).2⟩) fun i j b hi hj => by have := hd _ _ b hi hj; omega
    refine ⟨G', h1, h2, h3, Nat.le_trans (Nat.le_succ _) h4, fun b hb hn => h5 b (k3 b hb (hn 0)) fun j => hn (j + 1), fun x u hx => h6 x u (k4 x u hx), by simp [ansL] at h7 ⊢; exact h7, fun j x v hj hv => ?_, fun i hi => (h9 i (Nat.lt_succ_of_lt hi)).trans (k5 i hi), h10.trans k6, fun i e1 e2 b e3 => ?_⟩
    rotate_left
    · by_cases hi : i = σ.nx
      · subst hi
        rw [h9 _ (Nat.lt_succ_self _), k2] at e3
        cases hown with
        | seq n hp hz hn xs hown Gs hr hone hF' hG hne hd' => exact ⟨0, hF' b e3⟩
      · obtain ⟨j, hj⟩ := h11 i (Nat.lt_of_le_of_ne e1 (Ne.symm hi)) e2 b e3
        exact ⟨j + 1, hj⟩
    cases j with
    | zero =>
      cases hj
      cases hv
      exact h6 _ _ ⟨⟨Nat.lt_succ_self _, k2.symm⟩, .inr hown.one⟩
    | succ j =>
      have hj' : (ansL (σ.nx + 1) ts).1[j]? = some x := by simpa [ansL] using hj
      exact h8 j x v hj' (by simpa using hv)
/-- The same, component by component. -/
theorem Rel.addAlls : ∀ (qs : List (Bool × List T)) {σ : VS} {G : Ghost} (uss : List (List Value)) (F : Nat → Nat → Nat → Prop), Rel E N σ a w G → uss.length = qs.length →
    (∀ (c : Nat) (ag : Bool) (ts : List T) (us : List Value), qs[c]? = some (ag, ts) → uss[c]? = some us → us.length = ts.length ∧ ∀ (j : Nat) (t : T) (u : Value), ts[j]? = some t → us[j]? = some u → Own w 0 t u (F c j)) → (∀ c j b, F c j b → Fresh σ G b ∧ (E.B ≤ b ∨ E.ln b) ∧ b < w.heap.size) →
    (∀ c j c' j' b, F c j b → F c' j' b → c = c' ∧ j = j') → ∃ G', Rel E N (ansSs σ qs) a w G' ∧ (∀ x u, Holds G σ E w x u → Holds G' (ansSs σ qs) E w x u) ∧ (ansLs σ.nx qs).length = qs.length ∧
      (∀ (c : Nat) (ag : Bool) (xs : List Leaf) (us : List Value), (ansLs σ.nx qs)[c]? = some (ag, xs) → uss[c]? = some us → us.length = xs.length ∧ (∃ ts, qs[c]? = some (ag, ts)) ∧ ∀ (j : Nat) (x : Leaf) (u : Value), xs[j]? = some x → us[j]? = some u → Holds G' (ansSs σ qs) E w x u) ∧
      σ.nx ≤ (ansSs σ qs).nx ∧ (∀ i, i < σ.nx → G'.vl i = G.vl i) ∧ G'.β = G.β ∧ ∀ i, σ.nx ≤ i → i < (ansSs σ qs).nx → ∀ b, (G'.vl i).ownBlock = some b → ∃ c j, F c j b
  | [], σ, G, uss, F, h, hl, ho, hF, hd => ⟨G, h, fun x u hx => hx, rfl, fun c ag xs us hc => by simp [ansLs] at hc, Nat.le_refl _, fun _ _ => rfl, rfl, fun i h1 h2 => absurd h2 (Nat.not_lt.2 h1)⟩
  | (ag0, ts) :: qs, σ, G, us :: uss, F, h, hl, ho, hF, hd => by
    obtain ⟨hlen, ho0⟩ := ho 0 ag0 ts us rfl rfl
    obtain ⟨G1, h1, h2, h3, h4, h5, h6, h7, h8, h9, h10, h11⟩ := Rel.addAll ts us (F 0) h hlen ho0 (hF 0) fun i j b hi hj => (hd 0 i 0 j b hi hj).2
    obtain ⟨G2, k1, k2, k3, k4, k5, k6, k7, k8⟩ := Rel.addAlls qs uss (fun c => F (c + 1)) h1 (by simpa using hl) (fun c ag ts us hc hu => ho (c + 1) ag ts us (by simpa using hc) (by simpa using hu))
      (fun c j b hb => ⟨h5 b (hF _ j b hb).1 fun j' hb' => by have := (hd _ _ _ _ b hb hb').1; omega, (hF _ j b hb).2⟩) fun c j c' j' b hb hb' => by have := hd _ _ _ _ b hb hb'; exact ⟨by omega, this.2⟩
    refine ⟨G2, k1, fun x u hx => k2 x u (h6 x u hx), by rw [h3] at k3; simp [ansLs, k3], fun c ag xs vs hc hv => ?_, Nat.le_trans h4 k5, fun i hi => (k6 i (Nat.lt_of_lt_of_le hi h4)).trans (h9 i hi), k7.trans h10, fun i e1 e2 b e3 => ?_⟩
    rotate_left
    · rcases Nat.lt_or_ge i (ansS σ ts).nx with hi | hi
      · rw [k6 i hi] at e3
        obtain ⟨j, hj⟩ := h11 i e1 hi b e3
        exact ⟨0, j, hj⟩
      · obtain ⟨c, j, hj⟩ := k8 i hi e2 b e3
        exact ⟨c + 1, j, hj⟩
    cases c with
    | zero =>
      cases hv
      have hc' : (ag0, (ansL σ.nx ts).1) = (ag, xs) := by simpa [ansLs] using hc
      injection hc' with e1 e2
      subst e1 e2
      exact ⟨hlen.trans h7.symm, ⟨ts, rfl⟩, fun j x u hj hu => k2 x u (h8 j x u hj hu)⟩
    | succ c =>
      have hc' : (ansLs (ansS σ ts).nx qs)[c]? = some (ag, xs) := by rw [h3]; simpa [ansLs] using hc
      obtain ⟨e1, e2, e3⟩ := k4 c ag xs vs hc' (by simpa using hv)
      exact ⟨e1, by obtain ⟨ts', e2⟩ := e2; exact ⟨ts', by simpa using e2⟩, e3⟩
/-- A call that is told by trees. -/
theorem ok_callW {P : Program} {d : Nat} {f : FuncId} {xs : List Operand} {ats : Array TypeId} {qs : List (Bool × List T)} {tup : Bool} {rs : List (Bool × List T)} {ls : List (Bool × List Leaf)} (hk : ansLs σ.nx rs = ls) (ho : o.op = .call { callee := .value (.func f), args := xs.toArray, argTypes := ats }) (hb : ∃ fn c, P.funcs[f]? = some fn ∧ fn.body = some c ∧ fn.name ≠ "runtime.NumGoroutine")
    (hc : ∀ w, Same E E.w0 w → ∀ vs, ArgsIn (Env.of w) w qs vs → Calls P f vs.toArray w (Gives (Env.of w) tup rs)) (hx : σ.argss xs qs) (hd : o.dst = some d) (hdN : d < N) : OpMk P E N none σ o ((ansSs σ rs).put d ⟨tup, ls⟩) :=
  fun a w G K Q h k => by
    subst hk
    obtain ⟨fn, c, h1, h2, h2'⟩ := hb
    have hcall := hc w h.below (xs.map a.eval) (h.args hx)
    have hrun : (execOp a.eval o).run P w = .ok (.enter f (xs.map a.eval).toArray) w := by
      simp [execOp, ho, resolve, Act.eval, Deferred.ofValue, invoke, callFunc, h1, h2, h2', Result.andThen]
    unfold Oper.wp
    rw [hrun]
    refine hcall.mono fun e w' ⟨uss, F, h3, h4, h5, h6, h6', h7'⟩ => ?_
    have h7 : Below w.heap.size w w' := ⟨h7'.os, h7'.tape, h7'.output, h7'.size, fun k hk => h7'.block k (Env.of_old.2 hk)⟩
    subst h4
    have h' := h.ext h7
    obtain ⟨G', k1, k2, k3, k4, k5, k6, k7, k8⟩ := h'.addAlls rs uss F h3 (fun c ag ts us hc hu => ⟨(h5 c ag ts us hc hu).1, fun j t u hj hu' => (h5 c ag ts us hc hu).2 j t u hj hu'⟩) (fun c j b hb => by
      have hbw : w.heap.size ≤ b := (h6' c j b hb).1.elim id fun h => h.elim
      exact ⟨⟨fun i hi hf => by have := (h.ftlt i b hi hf).2; omega, (h.fresh hbw).2⟩, .inl (Nat.le_trans h.low hbw), (h6' c j b hb).2⟩) h6
    rw [hd]
    refine k _ _ _ (k1.put hdN ⟨uss, h3.trans k3.symm, ?_, fun c ag xs us hc hu => ⟨(k4 c ag xs us hc hu).1, (k4 c ag xs us hc hu).2.2⟩⟩) ⟨h7.size, .of_below (h7.mono h.low), k6, fun b _ => by rw [k7], fun b hb => .inl (h7.block b hb), fun i e1 e2 b e3 => by obtain ⟨c, j, hj⟩ := k8 i e1 e2 b e3; exact .inl ((h6' c j b hj).1.elim id fun h => h.elim)⟩
    congr 1
    apply List.ext_getElem?
    intro c
    rw [List.getElem?_zipWith, List.getElem?_zipWith]
    cases hq : (ansLs σ.nx rs)[c]? with
    | none =>
      have : rs[c]? = none := by rw [List.getElem?_eq_none_iff] at hq ⊢; omega
      rw [this]
    | some q =>
      obtain ⟨ag, xs'⟩ := q
      have hcl : c < uss.length := by have := get_lt hq; omega
      obtain ⟨-, ⟨ts, hts⟩, -⟩ := k4 c ag xs' uss[c] hq (List.getElem?_eq_getElem hcl)
      rw [hts, List.getElem?_eq_getElem hcl]
theorem ok_call {P : Program} {d : Nat} {f : FuncId} {xs : List Operand} {ats : Array TypeId} {qs : List (Bool × List T)} {tup : Bool} {rs : List (Bool × List T)} {ls : List (Bool × List Leaf)} (hk : ansLs σ.nx rs = ls) (ho : o.op = .call { callee := .value (.func f), args := xs.toArray, argTypes := ats }) (hb : ∃ fn c, P.funcs[f]? = some fn ∧ fn.body = some c ∧ fn.name ≠ "runtime.NumGoroutine")
    (hc : VC P f qs tup rs) (hx : σ.argss xs qs) (hd : o.dst = some d) (hdN : d < N) : OpMk P E N none σ o ((ansSs σ rs).put d ⟨tup, ls⟩) :=
  ok_callW hk ho hb (fun w _ => hc w) hx hd hdN
/-! ### Literals of slices -/
/-- An empty literal. -/
theorem ok_lit0 {d : Nat} {t ty : TypeId} {n bytes : Nat} {z : Value} (I : ElT t ty n z bytes) {kk : Nat} (hk : σ.nx = kk) (ho : o.op = .buildSlice t 0 #[]) (hd : o.dst = some d) (hdN : d < N) : OpMk Try.prog E N none σ o ((σ.new (.seq ty [])).put d (V.one (.hd kk))) :=
  fun a w G K Q h k => by
    subst hk
    obtain ⟨i0, hi, hz0, hz1, hz2⟩ := info_parts I.inf
    have hrun : (Instr.buildSlice t 0 #[]).run Try.prog w = .ok (.slice (some ⟨w.heap.size, 0, none⟩) 0 0) (w.alloc (.cells #[] ty)) := by
      simp [Instr.buildSlice, run_underlying I.und, sizeOf, Lib.rl_info ty i0 hi, Instr.fill, newRow, Result.andThen]
      exact congrArg (fun c => w.alloc (.cells c ty)) (by apply Array.ext <;> simp)
    obtain ⟨G', hG', ⟨hvl, hvls, hβs⟩, -, -⟩ := h.renew [] (fun x hx => by cases hx) (w' := w.alloc (.cells #[] ty)) (t := .seq ty []) (v := .slice (some ⟨w.heap.size, 0, none⟩) 0 0) (F := fun b => b = w.heap.size) (fun _ => False) (.of_below ((Below.refl _ _).alloc h.low _)) (fun k hk _ => Below.heap_alloc _ _ _ hk) (fun b hb => hb.elim)
      (.seq n I.pos I.sz (fun e he => by cases he) [] (World.ownsRow_made w #[] 0 (Nat.zero_le _) (Nat.zero_le _) (by simp)) (fun _ _ => False) (fun k e j t u h => by simp at h) (fun u hu => by cases hu) (fun b hb => by cases hb; rfl) (fun q b hb => hb.elim) (fun q b hb => hb.elim) fun q q' b hb => hb.elim)
      ⟨_, _, rfl⟩ fun b hb => ⟨by subst hb; exact ⟨.inl h.low, by simp⟩, .inl (h.fresh (by rw [hb]; exact Nat.le_refl _))⟩
    refine wp_value (v := .slice (some ⟨w.heap.size, 0, none⟩) 0 0) (w' := w.alloc (.cells #[] ty)) ?_ (by rw [hd]; exact k _ _ _ (hG'.put hdN (vone.2 ⟨⟨Nat.lt_succ_self _, hvl.symm⟩, .inr rfl⟩)) ⟨by simp, .of_below ((Below.refl _ _).alloc h.low _), hvls, fun b _ => by rw [hβs], fun b hb => .inl (Below.heap_alloc _ _ _ hb), fun i e1 e2 b e3 => .inl (by
      have hi : i = σ.nx := Nat.le_antisymm (Nat.le_of_lt_succ e2) e1
      rw [hi, hvl] at e3
      rw [← Option.some.inj e3]; exact Nat.le_refl _)⟩)
    simp [execOp, ho, hrun, Result.andThen]
/-- A literal of one element. -/
theorem ok_lit1 {d : Nat} {t ty : TypeId} {n bytes : Nat} {z : Value} {x : Operand} {ag : Bool} {xs : List Leaf} {ts : List T} (I : ElT t ty n z bytes) {kk : Nat} (hk : σ.nx = kk) (ho : o.op = .buildSlice t 1 #[(0, x)]) (hx : σ.ev x = V.flat ag xs) (hl : xs.length = n) (hag : ag = false → n = 1) (ht : σ.outs xs ts) (h2 : xs.Pairwise two) (hd : o.dst = some d) (hdN : d < N) : OpMk Try.prog E N none σ o (((σ.kills xs).new (.seq ty [ts])).put d (V.one (.hd kk))) :=
  fun a w G K Q h k => by
    subst hk
    obtain ⟨i0, hi, hz0, hz1, hz2⟩ := info_parts I.inf
    have hxv := h.ev x
    rw [hx, vflat] at hxv
    obtain ⟨us, h3, h4, h5⟩ := hxv
    obtain ⟨h6, h7⟩ := outs_get ht
    have htl : ts.length = n := by omega
    have hown : ∀ (j : Nat) (t : T) (u : Value), ts[j]? = some t → us[j]? = some u → ∃ x, xs[j]? = some x ∧ Own w 0 t u (x.foot G) := fun j t u hj hu => by
      obtain ⟨y, hy1, hy2⟩ := h7 j t hj
      exact ⟨y, hy1, h.out (h5 j y u hy1 hu) hy2⟩
    have hone : ∀ u ∈ us, u.oneCell' = true := fun u hu => by
      obtain ⟨j, hj, rfl⟩ := List.getElem_of_mem hu
      obtain ⟨y, -, hy⟩ := hown j ts[j] us[j] (List.getElem?_eq_getElem (by omega)) (List.getElem?_eq_getElem hj)
      exact hy.one
    have hcells : (cval ag us).cells = us.toArray := cval_cells fun e => ⟨by rw [h4, hl]; exact hag e, hone⟩
    have hrun : (Instr.buildSlice t 1 #[(0, cval ag us)]).run Try.prog w = .ok (.slice (some ⟨w.heap.size, 0, none⟩) 1 1) (w.alloc (.cells us.toArray ty)) := by
      refine run_buildSlice w t ty 1 _ us.toArray i0 z I.und hi hz0 ?_ ?_ ?_
      · rw [hz1]
        have := I.few
        omega
      · rw [hz1]; have := I.pos; omega
      · obtain ⟨r, hr1, hr2, hr3⟩ := Great.fill_dense (s := i0.size) (by rw [hz1]; exact I.pos) [cval ag us] 0 ((Array.range (1 * i0.size)).map (z.cells[· % z.cells.size]!)) (fun v hv => by rw [List.mem_singleton.1 hv, hcells, hz1]; simp [h4, hl]) (by simp)
        have e : r = us.toArray := by
          apply Array.ext_getElem?
          intro q
          rw [hr3 q]
          rcases Nat.lt_or_ge q i0.size with hq | hq
          · rw [if_pos ⟨by omega, by simp; exact hq⟩]
            simp [Nat.div_eq_of_lt hq, Nat.mod_eq_of_lt hq, hcells]
          · rw [if_neg (by simp; omega)]
            have h8 : us.toArray[q]? = none := by simp; omega
            rw [h8, Array.getElem?_eq_none (by simp; omega)]
        rw [← e]
        simpa using hr1
    have hfoot : ∀ (j : Nat) (b : Nat), (∃ y, xs[j]? = some y ∧ y.foot G b) → (E.B ≤ b ∨ E.ln b) ∧ b < w.heap.size := fun j b ⟨y, hy, hb⟩ => by
      cases y with
      | hd i =>
        have hjt : j < ts.length := by rw [← h6]; exact get_lt hy
        obtain ⟨y', hy1, hy2⟩ := h7 j ts[j] (List.getElem?_eq_getElem hjt)
        rw [hy] at hy1
        cases hy1
        obtain ⟨p, e1, -⟩ := Option.map_eq_some_iff.1 hy2
        exact h.ftlt i b (by rw [e1]; simp) hb
      | _ => exact hb.elim
    obtain ⟨G', hG', ⟨hvl, hvls, hβs⟩, -, -⟩ := h.renew xs (fun y hy => by
        obtain ⟨j, hj, rfl⟩ := List.getElem_of_mem hy
        obtain ⟨y', hy1, hy2⟩ := h7 j ts[j] (List.getElem?_eq_getElem (by omega))
        rw [List.getElem?_eq_getElem hj] at hy1
        exact ⟨_, by rw [Option.some.inj hy1]; exact hy2⟩) (w' := w.alloc (.cells us.toArray ty)) (t := .seq ty [ts]) (v := .slice (some ⟨w.heap.size, 0, none⟩) 1 1) (F := fun b => b = w.heap.size ∨ ∃ j y, xs[j]? = some y ∧ y.foot G b) (fun _ => False) (.of_below ((Below.refl _ _).alloc h.low _)) (fun k hk _ => Below.heap_alloc _ _ _ hk) (fun b hb => hb.elim)
      (.seq n I.pos I.sz (fun e he => by rw [List.mem_singleton.1 he]; exact htl) us ⟨by simp [h4, hl],   .inr ⟨w.heap.size, 1, us.toArray, rfl, Nat.zero_le _, heap_alloc_new _ _, Nat.le_refl _, by unfold maxLen; omega, by simp [h4, hl], by rw [List.length_singleton, Nat.one_mul]; exact List.take_of_length_le (by simp; omega)⟩⟩ (fun q b => ∃ y, xs[q]? = some y ∧ y.foot G b) (fun k e j t' u hk hj hu => by
          have hk0 : k = 0 := by have := get_lt hk; simpa using this
          subst hk0
          cases hk
          rw [Nat.zero_mul, Nat.zero_add] at hu ⊢
          obtain ⟨y, hy1, hy2⟩ := hown j t' u hj hu
          exact (hy2.frame fun b hb => Below.heap_alloc _ _ _ (hfoot j b ⟨y, hy1, hb⟩).2).mono fun b hb => ⟨y, hy1, hb⟩) hone (fun b hb => .inl (Option.some.inj hb).symm) (fun q b hb => .inr ⟨q, hb⟩) (fun q b hb e => by
          have := (hfoot q b hb).2
          have := Option.some.inj e
          simp at this
          omega) fun q q' b hb hb' => by
          obtain ⟨y, hy1, hy2⟩ := hb
          obtain ⟨y', hy1', hy2'⟩ := hb'
          cases y with
          | hd i =>
            cases y' with
            | hd i' =>
              by_cases hii : i = i'
              · subst hii
                have hq := get_lt hy1
                have hq' := get_lt hy1'
                rcases Nat.lt_trichotomy q q' with hlt | hlt | hlt
                · have := (List.pairwise_iff_getElem.1 h2) q q' hq hq' hlt i (by rw [List.getElem?_eq_getElem hq] at hy1; exact Option.some.inj hy1)
                  rw [List.getElem?_eq_getElem hq'] at hy1'
                  exact absurd (Option.some.inj hy1') this
                · exact hlt
                · have := (List.pairwise_iff_getElem.1 h2) q' q hq' hq hlt i (by rw [List.getElem?_eq_getElem hq'] at hy1'; exact Option.some.inj hy1')
                  rw [List.getElem?_eq_getElem hq] at hy1
                  exact absurd (Option.some.inj hy1) this
              · have hlive : ∀ (q i : Nat), xs[q]? = some (Leaf.hd i) → σ.ob i ≠ none := fun q i hy => by
                  have hqt : q < ts.length := by rw [← h6]; exact get_lt hy
                  obtain ⟨y', hy1, hy2⟩ := h7 q ts[q] (List.getElem?_eq_getElem hqt)
                  have e0 : Leaf.hd i = y' := by rw [hy] at hy1; exact Option.some.inj hy1
                  rw [← e0] at hy2
                  obtain ⟨p, e1, -⟩ := Option.map_eq_some_iff.1 hy2
                  rw [e1]; simp
                exact (h.disj i i' b (hlive q i hy1) (hlive q' i' hy1') hii hy2 hy2').elim
            | _ => exact hy2'.elim
          | _ => exact hy2.elim)
      ⟨_, _, rfl⟩ fun b hb => by
        rcases hb with rfl | ⟨j, y, hy1, hy2⟩
        · exact ⟨⟨.inl h.low, by simp⟩, .inl (h.fresh (Nat.le_refl _))⟩
        · have := hfoot j b ⟨y, hy1, hy2⟩
          exact ⟨⟨this.1, by simp; omega⟩, .inr ⟨y, get_mem hy1, hy2⟩⟩
    refine wp_value (v := .slice (some ⟨w.heap.size, 0, none⟩) 1 1) (w' := w.alloc (.cells us.toArray ty)) ?_ (by rw [hd]; exact k _ _ _ (hG'.put hdN (vone.2 ⟨⟨Nat.lt_succ_self _, hvl.symm⟩, .inr rfl⟩)) ⟨by simp, .of_below ((Below.refl _ _).alloc h.low _), hvls, fun b _ => by rw [hβs], fun b hb => .inl (Below.heap_alloc _ _ _ hb), fun i e1 e2 b e3 => .inl (by
      have hi : i = σ.nx := Nat.le_antisymm (Nat.le_of_lt_succ e2) e1
      rw [hi, hvl] at e3
      rw [← Option.some.inj e3]; exact Nat.le_refl _)⟩)
    simp [execOp, ho, h3, hrun, Result.andThen]
end Go.Proofs.Ytlnjgoommpeioaa.V
/- A region that draws its order, walked once along a plan: operations that yield one value in every world that is kept (loads, addresses, arithmetic) as soon as they may come up, the operations that make or write memory one behind the other; the last ones may write what the loads have read. No function of the program. -/
namespace Go.Proofs.Ytlnjgoommpeioaa
open Go

/-- One step of a plan: an operation that yields one value in every world that is kept; an operation behind which the world is kept. -/
inductive PStep where
  | q (i : Nat)
  | m (i : Nat)
section
variable {P : Program} {ops : Array Oper} {Q : Exit → Act → World → Prop} {md : Region.Mode} {S : World → Prop}

/-- Whatever order is picked from here on, and S holds behind every operation but the late ones. -/
def wpAnyP (P : Program) (md : Region.Mode) (ops : Array Oper) (Q : Exit → Act → World → Prop) (S : World → Prop) (late : Nat → Bool) : Nat → Array Bool → Act → World → Prop
  | 0, listed, a, w => Region.ready md ops listed = [] ∧ Q .normal a w
  | fuel + 1, listed, a, w =>
    (Region.ready md ops listed = [] → Q .normal a w) ∧
    ∀ i ∈ Region.ready md ops listed, wpOp P ops Q i (fun a' w' => (late i = false → S w') ∧ wpAnyP P md ops Q S late fuel (listed.setIfInBounds i true) a' w') a w
theorem wpAny_of_P {late : Nat → Bool} : ∀ (fuel : Nat) (listed : Array Bool) (a : Act) (w : World), wpAnyP P md ops Q S late fuel listed a w → wpAny P md ops Q fuel listed a w
  | 0, _, _, _, h => h
  | fuel + 1, _, _, _, h => ⟨h.1, fun i hi => wpOp_mono (fun a' w' h' => wpAny_of_P fuel _ a' w' h'.2) (h.2 i hi)⟩
/-- The operations that wait for i, some through others. -/
def waiters (md : Region.Mode) (ops : Array Oper) (i : Nat) : Array Bool :=
  (List.range ops.size).foldl (fun D k => D.push (match ops[k]? with | some o => o.after.any (fun e => Region.binds md e && (e.on == i || D.getD e.on false)) | none => false)) #[]
/-- All late operations wait for i, and none of those that wait for it has come up. -/
def lateB (md : Region.Mode) (ops : Array Oper) (late : Nat → Bool) (listed : Array Bool) (i : Nat) : Bool :=
  (List.range ops.size).all fun d => (!late d || (waiters md ops i).getD d false) && (!(waiters md ops i).getD d false ||
    (!listed.getD d false && (match ops[d]? with | some o => o.after.any (fun e => Region.binds md e && (e.on == i || ((waiters md ops i).getD e.on false && decide (e.on < ops.size)))) | none => false)))
/-- Nothing that waits for i comes up ahead of i. -/
theorem not_waiting {D : Nat → Bool} {i j : Nat} {listed : Array Bool} (hi : listed.getD i false = false) (hD : ∀ d, d < ops.size → D d = true → listed.getD d false = false ∧ ∃ o, ops[d]? = some o ∧ ∃ e ∈ o.after, Region.binds md e = true ∧ (e.on = i ∨ (D e.on = true ∧ e.on < ops.size)))
    (hj : j ∈ Region.ready md ops listed) : D j = false := by
  cases h : D j with
  | false => rfl
  | true =>
    obtain ⟨-, oj, hoj, hall⟩ := mem_ready.1 hj
    have hjl : j < ops.size := (Array.getElem?_eq_some_iff.1 hoj).1
    obtain ⟨-, o, ho, e, he, hb, hor⟩ := hD j hjl h
    rw [hoj] at ho
    cases ho
    have h1 := hall e he hb
    have h2 : listed.getD e.on false = false := by
      rcases hor with rfl | ⟨h3, h4⟩
      · exact hi
      · exact (hD _ h4 h3).1
    rw [h2] at h1
    cases h1
/-- An operation that yields one value in every world that is kept may be taken first, if all late operations wait for it. -/
theorem wpAnyP_first {late D : Nat → Bool} {i : Nat} {oi : Oper} {v : Value} (hi : ops[i]? = some oi) (hsel : ∀ (j : Nat) (o : Oper) cs b, ops[j]? = some o → o.op ≠ .select cs b)
    (hQ : ∀ c a w, Q (.panic c) (a.put oi.dst v) w → Q (.panic c) a w) (hlate : ∀ d, d < ops.size → late d = true → D d = true) (hDi : D i = false) :
    ∀ (fuel : Nat) (listed : Array Bool) (a : Act) (w : World),
      (∀ j oj, ops[j]? = some oj → j ≠ i → listed.getD j true = false → (∀ e ∈ oj.after, Region.binds md e = true → e.on ≠ i) → oi.apart ops oj = true) →
      (∀ d, d < ops.size → D d = true → listed.getD d false = false ∧ ∃ o, ops[d]? = some o ∧ ∃ e ∈ o.after, Region.binds md e = true ∧ (e.on = i ∨ (D e.on = true ∧ e.on < ops.size))) →
      i ∈ Region.ready md ops listed → YieldsIf P ops S oi v a → S w →
      wpAnyP P md ops Q S late fuel (listed.setIfInBounds i true) (a.put oi.dst v) w → wpAnyP P md ops Q S late (fuel + 1) listed a w := by
  intro fuel
  induction fuel with
  | zero =>
    intro listed a w _ hD hr hy hS H
    refine ⟨fun h => (by rw [h] at hr; cases hr), fun j hj => ?_⟩
    by_cases hji : j = i
    · subst hji; exact hy.wpOp hi hS ⟨fun _ => hS, H⟩
    · have := ready_mono hj hji
      rw [H.1] at this
      cases this
  | succ fuel ih =>
    intro listed a w hfree hD hr hy hS H
    refine ⟨fun h => (by rw [h] at hr; cases hr), fun j hj => ?_⟩
    by_cases hji : j = i
    · subst hji; exact hy.wpOp hi hS ⟨fun _ => hS, H⟩
    · have h1 := H.2 j (ready_mono hj hji)
      obtain ⟨hjun, oj, hoj, hall⟩ := mem_ready.1 hj
      have hiu : listed.getD i false = false := by
        have h0 := (mem_ready.1 hr).1
        rcases Nat.lt_or_ge i listed.size with h' | h'
        · simp [h'] at h0 ⊢; exact h0
        · simp [Array.getElem?_eq_none h'] at h0 ⊢
      have hnot : ∀ e ∈ oj.after, Region.binds md e = true → e.on ≠ i := fun e he hb heq => by
        have h1 := hall e he hb
        rw [heq, hiu] at h1
        cases h1
      have hDj := not_waiting hiu hD hj
      have hjl : j < ops.size := (Array.getElem?_eq_some_iff.1 hoj).1
      have hlj : late j = false := by
        cases h : late j with
        | false => rfl
        | true => rw [hlate j hjl h] at hDj; cases hDj
      have h2 := wpOp_putIf hoj (hfree j oj hoj hji hjun hnot) (fun cs b => hsel i oi cs b hi) (fun cs b => hsel j oj cs b hoj) hQ hy h1
      have hfree' : ∀ k ok, ops[k]? = some ok → k ≠ i → (listed.setIfInBounds j true).getD k true = false →
          (∀ e ∈ ok.after, Region.binds md e = true → e.on ≠ i) → oi.apart ops ok = true := fun k ok hk hki hun hno => by
        refine hfree k ok hk hki ?_ hno
        by_cases hjk : j = k
        · subst hjk; exact hjun
        · rw [getD_set_ne true hjk] at hun; exact hun
      have hD' : ∀ d, d < ops.size → D d = true → (listed.setIfInBounds j true).getD d false = false ∧ ∃ o, ops[d]? = some o ∧ ∃ e ∈ o.after, Region.binds md e = true ∧ (e.on = i ∨ (D e.on = true ∧ e.on < ops.size)) := fun d hd h => by
        have hne : j ≠ d := fun e => by rw [e, h] at hDj; cases hDj
        rw [getD_set_ne false hne]
        exact hD d hd h
      refine wpOp_mono (fun a' w' h3 => ⟨h3.2.1, ih (listed.setIfInBounds j true) a' w' hfree' hD' (ready_mono hr (Ne.symm hji)) h3.1 (h3.2.1 hlj) ?_⟩) h2
      rw [Array.setIfInBounds_comm _ _ hji]
      exact h3.2.2
/-! ### The walk along a plan -/
def wpZ (P : Program) (ops : Array Oper) (Q : Exit → Act → World → Prop) : List Nat → Act → World → Prop
  | [], a, w => Q .normal a w
  | i :: zs, a, w => wpOp P ops Q i (wpZ P ops Q zs) a w
def wpPi (P : Program) (ops : Array Oper) (Q : Exit → Act → World → Prop) (S : World → Prop) (zs : List Nat) : List PStep → Act → World → Prop
  | [], a, w => wpZ P ops Q zs a w
  | .q i :: ps, a, w => ∃ o v, ops[i]? = some o ∧ (∀ c a w, Q (.panic c) (a.put o.dst v) w → Q (.panic c) a w) ∧ YieldsIf P ops S o v a ∧ wpPi P ops Q S zs ps (a.put o.dst v) w
  | .m i :: ps, a, w => wpOp P ops Q i (fun a' w' => S w' ∧ (S w' → wpPi P ops Q S zs ps a' w')) a w
def planZ (md : Region.Mode) (ops : Array Oper) : List Nat → Array Bool → Bool
  | [], listed => (Region.ready md ops listed).isEmpty
  | i :: zs, listed => decide (Region.ready md ops listed = [i]) && planZ md ops zs (listed.setIfInBounds i true)
def planP (md : Region.Mode) (ops : Array Oper) (zs : List Nat) : List PStep → Array Bool → Bool
  | [], listed => planZ md ops zs listed
  | .q i :: ps, listed => (Region.ready md ops listed).contains i && Region.free md ops listed i && lateB md ops (fun d => zs.contains d) listed i && !(waiters md ops i).getD i false && planP md ops zs ps (listed.setIfInBounds i true)
  | .m i :: ps, listed => decide (Region.ready md ops listed = [i]) && !zs.contains i && planP md ops zs ps (listed.setIfInBounds i true)
/-- The plan fits the region. -/
def planB (md : Region.Mode) (ops : Array Oper) (ps : List PStep) (zs : List Nat) : Bool := Region.noSelect ops && decide (ps.length + zs.length = ops.size) && planP md ops zs ps (Array.replicate ops.size false)
theorem wpAnyP_of_z {late : Nat → Bool} : ∀ (zs : List Nat) (listed : Array Bool) (a : Act) (w : World), (∀ i ∈ zs, late i = true) → planZ md ops zs listed = true → wpZ P ops Q zs a w → wpAnyP P md ops Q S late zs.length listed a w
  | [], _, _, _, _, hp, h => ⟨by simpa [planZ] using hp, h⟩
  | i :: zs, listed, a, w, hl, hp, h => by
    simp only [planZ, Bool.and_eq_true, decide_eq_true_eq] at hp
    refine ⟨fun h0 => (by rw [hp.1] at h0; cases h0), fun j hj => ?_⟩
    rw [hp.1] at hj
    obtain rfl := List.mem_singleton.1 hj
    exact wpOp_mono (fun a' w' h' => ⟨fun h => (by rw [hl _ (List.mem_cons_self ..)] at h; cases h), wpAnyP_of_z zs _ a' w' (fun k hk => hl k (List.mem_cons_of_mem _ hk)) hp.2 h'⟩) h
theorem wpAnyP_of_pi {zs : List Nat} (hs : Region.noSelect ops = true) : ∀ (ps : List PStep) (listed : Array Bool) (a : Act) (w : World), planP md ops zs ps listed = true → S w → wpPi P ops Q S zs ps a w → wpAnyP P md ops Q S (fun d => zs.contains d) (ps.length + zs.length) listed a w
  | [], listed, a, w, hp, _, h => by
    rw [List.length_nil, Nat.zero_add]
    exact wpAnyP_of_z zs listed a w (fun i hi => by simpa using hi) hp h
  | .q i :: ps, listed, a, w, hp, hS, h => by
    simp only [planP, Bool.and_eq_true, Bool.not_eq_true'] at hp
    obtain ⟨⟨⟨⟨hr, hf⟩, hl⟩, hw⟩, hp⟩ := hp
    obtain ⟨o, v, ho, hQ, hy, h⟩ := h
    unfold lateB at hl
    rw [List.all_eq_true] at hl
    rw [List.length_cons, Nat.add_right_comm]
    refine wpAnyP_first (D := fun d => (waiters md ops i).getD d false) ho (Region.noSelect_spec hs) hQ (fun d hd hl2 => ?_) hw _ _ _ _ (Region.free_spec ho hf) (fun d hd hD => ?_) (by simpa using hr) hy hS (wpAnyP_of_pi hs ps _ _ _ hp hS h)
    · have := hl d (List.mem_range.2 hd)
      rw [Bool.and_eq_true] at this
      have h3 := this.1
      rw [Bool.or_eq_true] at h3
      rcases h3 with h1 | h1
      · have h4 : (!zs.contains d) = true := h1; rw [show zs.contains d = true from hl2] at h4; cases h4
      · exact h1
    · have := hl d (List.mem_range.2 hd)
      rw [Bool.and_eq_true] at this
      have h3 := this.2
      rw [Bool.or_eq_true] at h3
      rcases h3 with h1 | h1
      · rw [show (waiters md ops i).getD d false = true from hD] at h1; cases h1
      · rw [Bool.and_eq_true, Bool.not_eq_true'] at h1
        refine ⟨h1.1, ?_⟩
        have h2 := h1.2
        split at h2
        · rename_i o' ho'
          rw [Array.any_eq_true] at h2
          obtain ⟨k, hk, he⟩ := h2
          rw [Bool.and_eq_true, Bool.or_eq_true, Bool.and_eq_true, decide_eq_true_eq] at he
          exact ⟨o', ho', o'.after[k], Array.getElem_mem hk, he.1, he.2.imp (fun h => by simpa using h) id⟩
        · cases h2
  | .m i :: ps, listed, a, w, hp, hS, h => by
    simp only [planP, Bool.and_eq_true, decide_eq_true_eq] at hp
    obtain ⟨⟨hr, hz⟩, hp⟩ := hp
    rw [List.length_cons, Nat.add_right_comm]
    refine ⟨fun h0 => (by rw [hr] at h0; cases h0), fun j hj => ?_⟩
    rw [hr] at hj
    obtain rfl := List.mem_singleton.1 hj
    exact wpOp_mono (fun a' w' h' => ⟨fun _ => h'.1, wpAnyP_of_pi hs ps _ a' w' hp h'.1 (h'.2 h'.1)⟩) h
theorem region_plan {id : Nat} {a : Act} {w : World} (S : World → Prop) (ps : List PStep) (zs : List Nat) (hm : P.follows .mixedOrders = true) (hB : planB .any ops ps zs = true) (hS : S w.drew) (h : S w.drew → wpPi P ops Q S zs ps a w.drew) : (Code.region id ops true).wp P Q a w := by
  simp only [planB, Bool.and_eq_true, decide_eq_true_eq] at hB
  obtain ⟨⟨h1, h2⟩, h3⟩ := hB
  refine wp_region_any hm (wpAny_of_P (S := S) (late := fun d => zs.contains d) _ _ _ _ ?_)
  rw [← h2]
  rw [← h2] at h3
  exact wpAnyP_of_pi h1 ps _ a w.drew h3 hS (h hS)
/-! ### Its moves -/
def nthO : List Oper → Nat → Option Oper
  | [], _ => none
  | o :: _, 0 => some o
  | _ :: l, n + 1 => nthO l n
theorem nthO_eq : ∀ (l : List Oper) (i : Nat), l.toArray[i]? = nthO l i
  | [], _ => by simp [nthO]
  | o :: l, 0 => by simp [nthO]
  | o :: l, n + 1 => by
    have := nthO_eq l n
    simpa [nthO] using this
variable {l : List Oper} {zs : List Nat} {ps : List PStep} {a : Act} {w : World} {i : Nat} {o : Oper}
theorem pi_take {v : Value} (ho : nthO l i = some o) (hQ : ∀ c a w, Q (.panic c) (a.put o.dst v) w → Q (.panic c) a w) (hw : Region.wanted o (yielded l.toArray a.tmps) = true) (hy : ∀ w, S w → (execOp a.eval o).run P w = .ok (.value v) w)
    (h : wpPi P l.toArray Q S zs ps (a.put o.dst v) w) : wpPi P l.toArray Q S zs (.q i :: ps) a w := ⟨o, v, (nthO_eq l i).trans ho, hQ, .inl ⟨hw, hy⟩, h⟩
theorem pi_pass (ho : nthO l i = some o) (hQ : ∀ c a w, Q (.panic c) (a.put o.dst undef) w → Q (.panic c) a w) (hw : Region.wanted o (yielded l.toArray a.tmps) = false) (h : wpPi P l.toArray Q S zs ps (a.put o.dst undef) w) : wpPi P l.toArray Q S zs (.q i :: ps) a w :=
  ⟨o, undef, (nthO_eq l i).trans ho, hQ, .inr ⟨hw, rfl⟩, h⟩
theorem pi_step (ho : nthO l i = some o) (h : ∀ K' : Act → World → Prop, Shut (∀ a w, S w → (S w → wpPi P l.toArray Q S zs ps a w) → K' a w) → if Region.wanted o (yielded l.toArray a.tmps) = true then Oper.wp P o a w K' Q else K' (a.put o.dst undef) w) :
    wpPi P l.toArray Q S zs (.m i :: ps) a w := wpOp_step ((nthO_eq l i).trans ho) fun K' hK => h K' fun a w hS hW => hK a w ⟨hS, hW⟩
theorem pi_end (h : wpZ P l.toArray Q zs a w) : wpPi P l.toArray Q S zs [] a w := h
theorem z_step (ho : nthO l i = some o) (h : ∀ K' : Act → World → Prop, Shut (∀ a w, wpZ P l.toArray Q zs a w → K' a w) → if Region.wanted o (yielded l.toArray a.tmps) = true then Oper.wp P o a w K' Q else K' (a.put o.dst undef) w) :
    wpZ P l.toArray Q (i :: zs) a w := wpOp_step ((nthO_eq l i).trans ho) h
theorem z_end (h : Q .normal a w) : wpZ P l.toArray Q [] a w := h
end
end Go.Proofs.Ytlnjgoommpeioaa
/- States told by trees: a region that draws its order, walked along a plan. -/
namespace Go.Proofs.Ytlnjgoommpeioaa.V
open Go Go.RowKit
set_option linter.unusedVariables false
variable {P : Program} {E : Env} {N : Nat} {σ σ' τ : VS} {o : Oper} {a : Act} {w ws : World} {G Gs : Ghost} {Q : Exit → Act → World → Prop}
/-- Memory is as it was, but for what lies behind the objects' last cells. -/
structure SameT (E : Env) (τ : VS) (G : Ghost) (ws v : World) : Prop where
  below : Same E ws v
  block : ∀ b, b < ws.heap.size → v.heap[b]? = ws.heap[b]? ∨ ∃ (i ver : Nat) (ty : TypeId) (es : List (List T)) (n : Nat) (cs cs' : Array Value), τ.ob i = some (ver, .seq ty es) ∧ (G.vl i).ownBlock = some b ∧ Sz ty n ∧ ws.heap[b]? = some (.cells cs ty (0, 0)) ∧ v.heap[b]? = some (.cells cs' ty (0, 0)) ∧ cs'.size = cs.size ∧ cs'.toList.take (es.length * n) = cs.toList.take (es.length * n)
theorem SameT.refl (E : Env) (τ : VS) (G : Ghost) (w : World) : SameT E τ G w w := ⟨Same.refl _ _, fun _ _ => .inl rfl⟩
theorem root_ft (h : Rel E N τ a ws Gs) {i ver b : Nat} {ty : TypeId} {es : List (List T)} (hi : τ.ob i = some (ver, .seq ty es)) (hb : (Gs.vl i).ownBlock = some b) : Gs.ft i b := by
  obtain ⟨-, ho, -⟩ := h.objs i ver _ hi
  cases ho with
  | seq n hp hz hn xs hown Gs hr hone hF hG hne hd => exact hF b hb
theorem SameT.box (h : Rel E N τ a ws Gs) {v : World} (s : SameT E τ Gs ws v) {c : Nat} (hc : c < τ.bs.length) : v.heap[Gs.β c]? = ws.heap[Gs.β c]? := by
  obtain ⟨-, us, h2, -⟩ := h.boxes c _ _ (List.getElem?_eq_getElem hc)
  rcases s.block (Gs.β c) (lt_of_block h2) with h1 | ⟨i, ver, ty, es, n, cs, cs', e1, e2, -⟩
  · exact h1
  · exact absurd (root_ft h e1 e2) (h.boxft c i hc (by rw [e1]; simp))
/-- How the call stands in a region whose order is drawn: since its beginning (ws, at the state τ). -/
structure Link (E : Env) (N : Nat) (τ : VS) (ws : World) (Gs : Ghost) (fr : List Nat) (cl : Bool) (σ : VS) (w : World) (G : Ghost) : Prop where
  start : ∃ a, Rel E N τ a ws Gs
  same : SameT E τ Gs ws w
  vl : ∀ i, i < τ.nx → G.vl i = Gs.vl i
  β : ∀ b, b < τ.bs.length → G.β b = Gs.β b
  nx : τ.nx ≤ σ.nx
  bs : τ.bs.length ≤ σ.bs.length
  fresh : ∀ i ∈ fr, i < σ.nx ∧ ∀ b, (G.vl i).ownBlock = some b → ws.heap.size ≤ b
  clean : cl = true → w = ws ∧ G = Gs ∧ σ.ob = τ.ob
def DW (E : Env) (N : Nat) (τ : VS) (fr : List Nat) (cl : Bool) (σ : VS) (Ψ : World → Ghost → Act → World → Prop) : Prop := ∀ ws Gs a w G, Rel E N σ a w G → Link E N τ ws Gs fr cl σ w G → Ψ ws Gs a w
abbrev SW (E : Env) (τ : VS) (ws : World) (Gs : Ghost) : World → Prop := fun v => SameT E τ Gs ws v
theorem SV.draw {id : Nat} {l : List Oper} (ps : List PStep) (zs : List Nat) (hm : P.follows .mixedOrders = true) (hB : planB .any l.toArray ps zs = true) (h : DW E N τ [] true τ fun ws Gs a w => wpPi P l.toArray Q (SW E τ ws Gs) zs ps a w) : SV E N τ ((Code.region id l.toArray true).wp P Q) :=
  fun a w G hr => region_plan (SW E τ w.drew G) ps zs hm hB (SameT.refl _ _ _ _) fun _ => h w.drew G a w.drew G hr.drew ⟨⟨a, hr.drew⟩, SameT.refl _ _ _ _, fun _ _ => rfl, fun _ _ => rfl, Nat.le_refl _, Nat.le_refl _, fun i hi => (by cases hi), fun _ => ⟨rfl, rfl, rfl⟩⟩
variable {l : List Oper} {zs : List Nat} {ps : List PStep} {i d : Nat} {fr : List Nat} {cl : Bool}
theorem Link.put (h : Link E N τ ws Gs fr cl σ w G) {v : V} : Link E N τ ws Gs fr cl (σ.put d v) w G := ⟨h.start, h.same, h.vl, h.β, h.nx, h.bs, h.fresh, h.clean⟩
theorem Link.lite (h : Link E N τ ws Gs fr cl σ w G) {v : World} (s : SameT E τ Gs ws v) : Lite E τ.bs.length G w v := by
  obtain ⟨a, hr⟩ := h.start
  refine ⟨fun b hb => (s.below.block b hb).trans (h.same.below.block b hb).symm, fun c hc => ?_⟩
  rw [h.β c hc]
  exact (SameT.box hr s hc).trans (SameT.box hr h.same hc).symm
/-- An operation that yields one value wherever it comes up. -/
theorem DW.q {V' : V} (ho : nthO l i = some o) (h : OpL P E N τ.bs.length σ o V') (hg : o.guard = none) (hd : o.dst = some d) (hdN : d < N) (hQ : ∀ c (a : Act) v w, Q (.panic c) (a.put o.dst v) w → Q (.panic c) a w) (k : DW E N τ fr cl (σ.put d V') fun ws Gs a w => wpPi P l.toArray Q (SW E τ ws Gs) zs ps a w) :
    DW E N τ fr cl σ fun ws Gs a w => wpPi P l.toArray Q (SW E τ ws Gs) zs (.q i :: ps) a w := fun ws Gs a w G hr hl => by
  obtain ⟨u, h1, h2⟩ := h a w G hr
  refine pi_take (v := u) ho (fun c a w => hQ c a u w) (by simp [Region.wanted, hg]) (fun v hv => h1 v (hl.lite hv)) ?_
  rw [hd]
  exact k ws Gs _ w G (hr.put hdN h2) hl.put
/-- A cell of an object is read, ahead of all that makes memory. -/
theorem DW.el' {m : Nat} {ty : TypeId} {x : Operand} {j k' n o' : Nat} {ag : Bool} {es : List T} {ys : List Leaf} (hn : nthO l i = some o) (ho : o.op = .load ty x) (hx : σ.ev x = V.one (.ep j k' n o')) (hc : σ.cells (.ep j k' n o') = some es) (hag : ∀ w, (isAgg ty).run Try.prog w = .ok ag w) (hm : Sz ty m) (h1 : ag = false → m = 1) (hml : m ≤ es.length)
    (hy : (List.range m).map (fun q => match es[q]? with | some t => σ.cellLeaf (.ep j k' n o') q t | none => .dead) = ys) (hw : ∀ {a w G}, Rel E N σ a w G → Region.wanted o (yielded l.toArray a.tmps) = true) (hd : o.dst = some d) (hdN : d < N) (hQ : ∀ c (a : Act) v w, Q (.panic c) (a.put o.dst v) w → Q (.panic c) a w) (k : DW E N τ fr true (σ.put d (V.flat ag ys)) fun ws Gs a w => wpPi Try.prog l.toArray Q (SW E τ ws Gs) zs ps a w) :
    DW E N τ fr true σ fun ws Gs a w => wpPi Try.prog l.toArray Q (SW E τ ws Gs) zs (.q i :: ps) a w := fun ws Gs a w G hr hl => by
  obtain ⟨rfl, rfl, hob⟩ := hl.clean rfl
  obtain ⟨u, b, q, h2, h3, h4⟩ := load_el ho hx hc hag hm h1 hml hy hr
  refine pi_take (v := u) hn (fun c a w => hQ c a u w) (hw hr) (fun v hv => h3 v fun p y hp hcell => ?_) ?_
  · -- the cell lies among the object's
    have h5 := hr.ev x
    rw [hx, vone] at h5
    obtain ⟨⟨-, g, M, c, h6, h7⟩, -⟩ := h5
    rw [h2] at h7
    injection h7 with h7
    injection h7 with h7
    injection h7 with h7 h8
    subst h7 h8
    obtain ⟨⟨ver, s⟩, e1, e2⟩ := Option.bind_eq_some_iff.1 hc
    obtain ⟨-, hown, ty', fs, hs⟩ := hr.objs j ver s e1
    have hs' : s = .seq ty' fs := hs
    subst hs'
    obtain ⟨e, he, e3⟩ := Option.bind_eq_some_iff.1 e2
    have hen : e.length = n := by
      cases hb : Nat.beq e.length n with
      | true => exact Nat.eq_of_beq_eq_true hb
      | false => simp only [hb] at e3; cases e3
    have hed : e.drop o' = es := by
      have hb : Nat.beq e.length n = true := by rw [hen]; exact Nat.beq_refl n
      simpa [hb] using e3
    have hlen : o' + p < n := by
      have : (e.drop o').length = es.length := by rw [hed]
      rw [List.length_drop, hen] at this
      omega
    rcases hv.block b (lt_blk hcell) with h9 | ⟨i2, v2, ty2, es2, n2, cs, cs', f1, f2, f3, f4, f5, f6, f7⟩
    · exact (World.cell?_of_block h9).trans hcell
    · have hji : j = i2 := by
        rcases Nat.decEq j i2 with hne | hne
        · exfalso
          obtain ⟨ar, hrs⟩ := hl.start
          exact hrs.disj j i2 b (by rw [← hob, e1]; simp) (by rw [f1]; simp) hne (root_ft hrs (by rw [← hob]; exact e1) (by rw [h6]; rfl)) (root_ft hrs f1 f2)
        · exact hne
      subst hji
      rw [← hob, e1] at f1
      cases f1
      cases hown with
      | seq n3 hp3 hz3 hn3 xs hown3 Gs3 hr3 hone3 hF3 hG3 hne3 hd3 =>
        have hnn : n2 = n := (f3.eq hz3).trans ((hn3 e (get_mem he)).symm.trans hen)
        subst hnn
        have hlt : k' * n2 + o' + p < fs.length * n2 := by
          have := at_lt (get_lt he) hlen
          rw [Nat.add_assoc]; exact this
        rw [cell_of_row _ _ _ _ _ _ f4] at hcell
        rw [cell_of_row _ _ _ _ _ _ f5]
        have g1 : (cs'.toList.take (fs.length * n2))[k' * n2 + o' + p]? = (cs.toList.take (fs.length * n2))[k' * n2 + o' + p]? := by rw [f7]
        rw [List.getElem?_take, List.getElem?_take, if_pos hlt, if_pos hlt] at g1
        simpa using g1.trans (by simpa using hcell)
  · rw [hd]
    exact k _ _ _ _ _ (hr.put hdN h4) hl.put
theorem DW.el {m : Nat} {ty : TypeId} {x : Operand} {j k' n o' : Nat} {ag : Bool} {es : List T} {ys : List Leaf} (hn : nthO l i = some o) (ho : o.op = .load ty x) (hx : σ.ev x = V.one (.ep j k' n o')) (hc : σ.cells (.ep j k' n o') = some es) (hag : ∀ w, (isAgg ty).run Try.prog w = .ok ag w) (hm : Sz ty m) (h1 : ag = false → m = 1) (hml : m ≤ es.length)
    (hy : (List.range m).map (fun q => match es[q]? with | some t => σ.cellLeaf (.ep j k' n o') q t | none => .dead) = ys) (hg : o.guard = none) (hd : o.dst = some d) (hdN : d < N) (hQ : ∀ c (a : Act) v w, Q (.panic c) (a.put o.dst v) w → Q (.panic c) a w) (k : DW E N τ fr true (σ.put d (V.flat ag ys)) fun ws Gs a w => wpPi Try.prog l.toArray Q (SW E τ ws Gs) zs ps a w) :
    DW E N τ fr true σ fun ws Gs a w => wpPi Try.prog l.toArray Q (SW E τ ws Gs) zs (.q i :: ps) a w :=
  DW.el' hn ho hx hc hag hm h1 hml hy (fun _ => by simp [Region.wanted, hg]) hd hdN hQ k
/-- An operation that makes memory. -/
theorem DW.m' {c : Option Nat} (fr' : List Nat) (ho : nthO l i = some o) (h : OpMk P E N c σ o σ') (hw : ∀ {a w G}, Rel E N σ a w G → Region.wanted o (yielded l.toArray a.tmps) = true) (hbs : σ.bs.length ≤ σ'.bs.length) (hnx : σ.nx ≤ σ'.nx) (hc : c = none ∨ ∃ j, c = some j ∧ (j ∈ fr ∨ (j < τ.nx ∧ σ.ob j = τ.ob j))) (hfr : ∀ j ∈ fr', (j ∈ fr) ∨ (σ.nx ≤ j ∧ j < σ'.nx ∧ (c = none ∨ ∃ q, c = some q ∧ q ∈ fr)))
    (k : DW E N τ fr' false σ' fun ws Gs a w => wpPi P l.toArray Q (SW E τ ws Gs) zs ps a w) : DW E N τ fr cl σ fun ws Gs a w => wpPi P l.toArray Q (SW E τ ws Gs) zs (.m i :: ps) a w := fun ws Gs a w G hr hl => by
  refine pi_step ho fun K hK => ?_
  rw [if_pos (hw hr)]
  refine h a w G K Q hr fun a' w' G' hr' hm => ?_
  have hsame : SameT E τ Gs ws w' := by
    refine ⟨hl.same.below.trans hm.below, fun b hb => ?_⟩
    have hbw : b < w.heap.size := Nat.lt_of_lt_of_le hb hl.same.below.size
    rcases hm.block b hbw with h1 | ⟨j, v, ty, es, n, cs, cs', e1, e2, e3, e4, e5, e6, e7, e8⟩
    · rcases hl.same.block b hb with h2 | ⟨i2, v2, ty2, es2, n2, ds, ds', f1, f2, f3, f4, f5, f6, f7⟩
      · exact .inl (h1.trans h2)
      · exact .inr ⟨i2, v2, ty2, es2, n2, ds, ds', f1, f2, f3, f4, h1.trans f5, f6, f7⟩
    · rcases hc with hc | ⟨qq, hq, hc⟩
      · rw [hc] at e1; cases e1
      · have hqj : qq = j := Option.some.inj (hq.symm.trans e1)
        subst hqj
        rcases hc with hc | ⟨hc1, hc2⟩
        · have := (hl.fresh qq hc).2 b e3
          omega
        · have e2' : τ.ob qq = some (v, .seq ty es) := by rw [← hc2]; exact e2
          have e3' : (Gs.vl qq).ownBlock = some b := by rw [← hl.vl qq hc1]; exact e3
          rcases hl.same.block b hb with h2 | ⟨i2, v2, ty2, es2, n2, ds, ds', f1, f2, f3, f4, f5, f6, f7⟩
          · exact .inr ⟨qq, v, ty, es, n, cs, cs', e2', e3', e4, h2.symm.trans e5, e6, e7, e8⟩
          · have hqi : qq = i2 := by
              rcases Nat.decEq qq i2 with hne | hne
              · exfalso
                obtain ⟨ar, hrs⟩ := hl.start
                exact hrs.disj qq i2 b (by rw [e2']; simp) (by rw [f1]; simp) hne (root_ft hrs e2' e3') (root_ft hrs f1 f2)
              · exact hne
            subst hqi
            rw [e2'] at f1
            cases f1
            have hnn := e4.eq f3
            subst hnn
            rw [f5] at e5
            cases e5
            exact .inr ⟨qq, v, ty, es, n, ds, cs', e2', e3', e4, f4, e6, e7.trans f6, e8.trans f7⟩
  refine hK.out a' w' hsame fun _ => k ws Gs a' w' G' hr' ⟨hl.start, hsame, fun j hj => (hm.vl j (Nat.lt_of_lt_of_le hj hl.nx)).trans (hl.vl j hj), fun b hb => (hm.β b (Nat.lt_of_lt_of_le hb hl.bs)).trans (hl.β b hb), Nat.le_trans hl.nx hnx, Nat.le_trans hl.bs hbs, fun j hj => ?_, fun e => by cases e⟩
  rcases hfr j hj with h1 | ⟨h1, h2, h3⟩
  · refine ⟨Nat.lt_of_lt_of_le (hl.fresh j h1).1 hnx, fun b hb => (hl.fresh j h1).2 b ?_⟩
    rw [← hm.vl j (hl.fresh j h1).1]; exact hb
  · refine ⟨h2, fun b hb => ?_⟩
    rcases hm.root j h1 h2 b hb with h4 | ⟨qq, h4, h5⟩
    · exact Nat.le_trans hl.same.below.size h4
    · rcases h3 with h3 | ⟨q2, h3, h6⟩
      · rw [h3] at h4; cases h4
      · have hqq : q2 = qq := Option.some.inj (h3.symm.trans h4)
        subst hqq
        have h7 := (hl.fresh _ h6)
        exact h7.2 b h5
theorem DW.m {c : Option Nat} (fr' : List Nat) (ho : nthO l i = some o) (h : OpMk P E N c σ o σ') (hg : o.guard = none) (hbs : σ.bs.length ≤ σ'.bs.length) (hnx : σ.nx ≤ σ'.nx) (hc : c = none ∨ ∃ j, c = some j ∧ (j ∈ fr ∨ (j < τ.nx ∧ σ.ob j = τ.ob j))) (hfr : ∀ j ∈ fr', (j ∈ fr) ∨ (σ.nx ≤ j ∧ j < σ'.nx ∧ (c = none ∨ ∃ q, c = some q ∧ q ∈ fr)))
    (k : DW E N τ fr' false σ' fun ws Gs a w => wpPi P l.toArray Q (SW E τ ws Gs) zs ps a w) : DW E N τ fr cl σ fun ws Gs a w => wpPi P l.toArray Q (SW E τ ws Gs) zs (.m i :: ps) a w :=
  DW.m' fr' ho h (fun _ => by simp [Region.wanted, hg]) hbs hnx hc hfr k
/-- The stores at the end. -/
theorem DW.stores (h : SV E N σ (wpZ P l.toArray Q zs)) : DW E N τ fr cl σ fun ws Gs a w => wpPi P l.toArray Q (SW E τ ws Gs) zs [] a w := fun ws Gs a w G hr hl => pi_end (h a w G hr)
theorem SV.z (ho : nthO l i = some o) (h : OpOk P E N σ o σ') (hg : o.guard = none) (k : SV E N σ' (wpZ P l.toArray Q zs)) : SV E N σ (wpZ P l.toArray Q (i :: zs)) := fun a w G hr => by
  refine z_step ho fun K hK => ?_
  rw [if_pos (by simp [Region.wanted, hg])]
  exact h a w G K Q hr fun a' w' G' hr' => hK.out a' w' (k a' w' G' hr')
theorem SV.zend (h : SV E N σ (Q .normal)) : SV E N σ (wpZ P l.toArray Q []) := fun a w G hr => z_end (h a w G hr)
end Go.Proofs.Ytlnjgoommpeioaa.V
/- States told by trees: stretches, struct literals, parts of structs, stores into slices, guarded operations. -/
namespace Go.Proofs.Ytlnjgoommpeioaa.V
open Go Go.RowKit
set_option linter.unusedVariables false
set_option linter.unusedSimpArgs false
variable {P : Program} {E : Env} {N nb : Nat} {σ σ' τ : VS} {o : Oper} {a : Act} {w : World} {G : Ghost} {Q : Exit → Act → World → Prop}
/-! ### Stretches -/
def Leaf.cutTo (σ : VS) (lf : Leaf) (t : T) : Leaf := match lf with
  | .ro _ => .ro t
  | .hd i => match σ.ob i with
    | some (ver, _) => .nd i ver t none
    | none => .dead
  | .nd i ver _ _ => .nd i ver t none
  | _ => .dead
def optEv (σ : VS) (x : Option Operand) (k : Nat) (dflt : Nat) : Prop := match x with
  | none => k = dflt
  | some y => ∃ ki, σ.ev y = V.one (.sc (.int ki (k : Nat)))
theorem cut_inn {ok : Nat → Prop} {ty : TypeId} {es : List (List T)} {l h n : Nat} {ad : Option Addr} {c : Nat} (hi : Inn ok w (.seq ty es) (.slice ad es.length c)) (hlh : l ≤ h) (hh : h ≤ es.length) (hz : Sz ty n) : Inn ok w (.seq ty ((es.take h).drop l)) (.slice (if c = l then ad else ad.map (·.add (l * n))) (h - l) (c - l)) := by
  obtain ⟨ad', c', n', h1, hc, hm, ha0, hp, hz', hn, b, o', us, ha, hb, hcell, hr⟩ := inn_seq hi
  injection h1 with e1 e2 e3
  subst e1 e3
  have hnn := hz'.eq hz
  subst hnn
  have hlen : ((es.take h).drop l).length = h - l := by rw [List.length_drop, List.length_take]; omega
  have hget : ∀ k e, ((es.take h).drop l)[k]? = some e → es[l + k]? = some e := fun k e hk => by
    rw [List.getElem?_drop, List.getElem?_take] at hk
    split at hk
    · exact hk
    · cases hk
  rw [← hlen]
  refine .seq n' hp hz' (fun e he => ?_) (by rw [hlen]; omega) (by omega) (fun h0 => ?_) b (o' + l * n') (fun q => us (l * n' + q)) (fun y hy hne => ?_) (fun hne => ?_) (fun k e j t hk hj => ?_) fun k e j t hk hj => ?_
  · obtain ⟨k, hk, rfl⟩ := List.getElem_of_mem he
    exact hn _ (get_mem (hget k _ (List.getElem?_eq_getElem hk)))
  · have : ad = none := by
      split at h0
      · exact h0
      · cases ad with
        | none => rfl
        | some x => cases h0
    have := ha0 this
    omega
  · have hes : es ≠ [] := fun e => hne (by rw [e]; simp)
    have hpos : 0 < h - l := by
      rcases Nat.eq_zero_or_pos (h - l) with hq | hq
      · exact absurd (List.eq_nil_of_length_eq_zero (hlen.trans hq)) hne
      · exact hq
    rw [if_neg (by omega)] at hy
    cases had : ad with
    | none => rw [had] at hy; cases hy
    | some x =>
      rw [had] at hy
      have hx := ha x had hes
      rw [hx] at hy
      have := Option.some.inj hy
      rw [← this]
      show (⟨b, o', none⟩ : Addr).add (l * n') = _
      rw [Addr.add_lit]
  · exact hb fun e => hne (by rw [e]; simp)
  · have := hcell (l + k) e j t (hget k e hk) hj
    rw [Nat.add_mul, Nat.add_assoc (l * n')] at this
    rw [Nat.add_assoc o']
    exact this
  · have := hr (l + k) e j t (hget k e hk) hj
    rwa [Nat.add_mul, Nat.add_assoc (l * n')] at this
theorem ok_slice {x : Operand} {lo hi : Option Operand} {l h n : Nat} {lf : Leaf} {ty t : TypeId} {es : List (List T)} {yy : Leaf} (hk : lf.cutTo σ (.seq ty ((es.take h).drop l)) = yy) (ho : o.op = .slice t x lo hi none) (hu : Try.prog.underlying t = some (.slice ty)) (hz : Sz ty n) (hx : σ.ev x = V.one lf) (ht : σ.tr lf = some (.seq ty es)) (hlo : optEv σ lo l 0) (hhi : optEv σ hi h es.length) (hlh : l ≤ h) (hh : h ≤ es.length) :
    OpL Try.prog E N nb σ o (V.one yy) :=
  fun a w G hr => by
    subst hk
    have h0 := hr.ev x
    rw [hx, vone] at h0
    have hin := hr.head hx ht
    obtain ⟨ad, c, n', h1, hc, hm, ha0, hp, hz', hn, b, o', us, ha, hb, hcell, hr2⟩ := inn_seq hin
    rw [h1] at hin
    have hnn := hz'.eq hz
    subst hnn
    obtain ⟨inf, hinf, hsz⟩ := hz
    have hcut := cut_inn hin hlh hh hz'
    refine ⟨.slice (if c = l then ad else ad.map (·.add (l * n'))) (h - l) (c - l), fun v' _ => ?_, vone.2 ?_⟩
    · have e1 : ∀ (x' : Option Operand) (k d : Nat), optEv σ x' k d → (x' = none ∧ k = d) ∨ ∃ y ki, x' = some y ∧ a.eval y = .int ki (k : Nat) := fun x' k d he => by
        cases x' with
        | none => exact .inl ⟨rfl, he⟩
        | some y =>
          obtain ⟨ki, hy⟩ := he
          exact .inr ⟨y, ki, rfl, hr.sc hy⟩
      have hlc : l ≤ c := by omega
      have hhc : h ≤ c := by omega
      rcases e1 lo l 0 hlo with ⟨rfl, rfl⟩ | ⟨y, ki, rfl, hy⟩ <;> rcases e1 hi h es.length hhi with ⟨rfl, rfl⟩ | ⟨y', ki', rfl, hy'⟩ <;>
        simp [execOp, ho, h1, Instr.sliceAt, Instr.slice, Instr.sliceBounds, Instr.sliceBound, asIntOf, run_underlying hu, sizeOf, Lib.rl_info ty inf hinf, hsz, Result.andThen, *]
    · cases lf with
      | ro s => exact ⟨hcut, .inr rfl⟩
      | hd i =>
        obtain ⟨⟨ver, s⟩, k1, k2⟩ := Option.map_eq_some_iff.1 ht
        have e : Leaf.cutTo σ (.hd i) (.seq ty ((es.take h).drop l)) = .nd i ver (.seq ty ((es.take h).drop l)) none := by
          show (match σ.ob i with | some (ver, _) => Leaf.nd i ver _ none | none => .dead) = _
          rw [k1]
        rw [e]
        exact ⟨⟨h0.1.1, fun v t' hv => by rw [k1] at hv; cases hv; exact Nat.le_refl _, fun _ => ⟨hcut, fun k o e => by cases e⟩⟩, .inr rfl⟩
      | nd i ver s loc => exact ⟨⟨h0.1.1, h0.1.2.1, fun _ => ⟨hcut, fun k o e => by cases e⟩⟩, .inr rfl⟩
      | _ => exact ⟨trivial, .inl rfl⟩
/-! ### Parts of a struct's value -/
theorem ok_part {x : Operand} {f off m : Nat} {ty : TypeId} {ag : Bool} {xs ys : List Leaf} (ho : o.op = .field ty x f) (hx : σ.ev x = V.flat true xs) (hf : ∀ (us : List Value) w, us.length = xs.length → (Instr.field ty (.agg us.toArray) f).run P w = .ok (cval ag ((us.drop off).take m)) w) (hy : (xs.drop off).take m = ys) : OpL P E N nb σ o (V.flat ag ys) :=
  fun a w G hr => by
    have h1 := hr.ev x
    rw [hx, vflat] at h1
    obtain ⟨us, h2, h3, h4⟩ := h1
    refine ⟨cval ag ((us.drop off).take m), fun v' _ => ?_, vflat.2 ⟨_, rfl, ?_, fun j y u hj hu => h4 (off + j) y u (cut_get (by rw [hy]; exact hj)) (cut_get hu)⟩⟩
    · have : cval true us = .agg us.toArray := rfl
      simp [execOp, ho, h2, this, hf us v' h3, Result.andThen]
    · rw [← hy]; simp only [List.length_take, List.length_drop]; omega
/-! ### Struct literals -/
def fillL (pl : Nat → Option (Nat × Nat)) : List Leaf → List (Nat × List Leaf) → Option (List Leaf)
  | cs, [] => some cs
  | cs, (i, v) :: rest => match pl i with
    | none => none
    | some (off, size) => bif (!Nat.beq v.length size) || Nat.blt cs.length (off + v.length) then none else fillL pl (cs.take off ++ v ++ cs.drop (off + v.length)) rest
def Aligned (R : Leaf → Value → Prop) : List (Nat × List Leaf) → List (Nat × Value) → Prop
  | [], [] => True
  | p :: ps, v :: vs => (p.1 = v.1 ∧ v.2.cells.size = p.2.length ∧ ∀ (j : Nat) (x : Leaf) (u : Value), p.2[j]? = some x → v.2.cells[j]? = some u → R x u) ∧ Aligned R ps vs
  | _, _ => False
theorem fill_holds {R : Leaf → Value → Prop} {pl : Nat → Option (Nat × Nat)} : ∀ (ps : List (Nat × List Leaf)) (vs : List (Nat × Value)) (zs : List Leaf) (cells : Array Value) (ys : List Leaf), Aligned R ps vs → cells.size = zs.length → (∀ (j : Nat) (x : Leaf) (u : Value), zs[j]? = some x → cells[j]? = some u → R x u) → fillL pl zs ps = some ys →
    ∃ r, Instr.fill pl cells vs = some r ∧ r.size = ys.length ∧ ∀ (j : Nat) (x : Leaf) (u : Value), ys[j]? = some x → r[j]? = some u → R x u
  | [], [], zs, cells, ys, _, hs, hR, hf => by
    cases hf
    exact ⟨cells, rfl, hs, hR⟩
  | (i, xs) :: ps, (i', v) :: vs, zs, cells, ys, ha, hs, hR, hf => by
    obtain ⟨⟨h1, h2, h3⟩, h4⟩ := ha
    have h1' : i = i' := h1
    subst h1'
    replace h2 : v.cells.size = xs.length := h2
    replace h3 : ∀ (j : Nat) (x : Leaf) (u : Value), xs[j]? = some x → v.cells[j]? = some u → R x u := h3
    unfold fillL at hf
    cases hp : pl i with
    | none => rw [hp] at hf; cases hf
    | some q =>
      obtain ⟨off, size⟩ := q
      rw [hp] at hf
      simp only at hf h2 h3
      cases hb : ((!Nat.beq xs.length size) || Nat.blt zs.length (off + xs.length)) with
      | true => rw [hb] at hf; cases hf
      | false =>
        rw [hb] at hf
        rw [Bool.or_eq_false_iff] at hb
        have e1 : xs.length = size := nbeq.1 (by simpa using hb.1)
        have e2 : ¬ zs.length < off + xs.length := fun hlt => by
          have h9 := hb.2
          rw [show Nat.blt zs.length (off + xs.length) = true from Nat.ble_eq_true_of_le hlt] at h9
          cases h9
        obtain ⟨g1, g2⟩ := Great.foldl_set off v.cells.toList 0 cells
        have hfold : (v.cells.zipIdx.foldl (fun cs (x : Value × Nat) => cs.setIfInBounds (off + x.2) x.1) cells) = ((v.cells.toList.zipIdx 0).foldl (fun cs (x : Value × Nat) => cs.setIfInBounds (off + x.2) x.1) cells) := by
          rw [← Array.foldl_toList, Array.toList_zipIdx]
        obtain ⟨r, k1, k2, k3⟩ := fill_holds ps vs (zs.take off ++ xs ++ zs.drop (off + xs.length)) _ ys h4 (by rw [g1]; simp; omega) (fun j x u hj hu => by
          rw [g2 j] at hu
          simp only [Nat.add_zero, Array.length_toList, h2] at hu
          rw [List.append_assoc] at hj
          by_cases hc : off ≤ j ∧ j < off + xs.length ∧ j < cells.size
          · rw [if_pos hc] at hu
            rw [List.getElem?_append_right (by rw [List.length_take]; omega), List.length_take, Nat.min_eq_left (by omega), List.getElem?_append_left (by omega)] at hj
            exact h3 (j - off) x u hj (by simpa using hu)
          · rw [if_neg hc] at hu
            have hjc : j < cells.size := by
              rcases Nat.lt_or_ge j cells.size with h | h
              · exact h
              · rw [Array.getElem?_eq_none h] at hu; cases hu
            rcases Nat.lt_or_ge j off with hlt | hge
            · rw [List.getElem?_append_left (by rw [List.length_take]; omega), List.getElem?_take, if_pos hlt] at hj
              exact hR j x u hj hu
            · rw [List.getElem?_append_right (by rw [List.length_take]; omega), List.length_take, Nat.min_eq_left (by omega), List.getElem?_append_right (by omega), List.getElem?_drop] at hj
              have : off + xs.length + (j - off - xs.length) = j := by omega
              rw [this] at hj
              exact hR j x u hj hu) hf
        refine ⟨r, ?_, k2, k3⟩
        unfold Instr.fill
        simp only [hp]
        rw [if_neg (by rw [h2, e1, hs]; simp; omega), ← k1]
        congr 1
def VS.partsOk (σ : VS) : List (Nat × Operand) → List (Nat × List Leaf) → Prop
  | [], [] => True
  | p :: ps, q :: qs => (p.1 = q.1 ∧ ∃ ag, σ.ev p.2 = V.flat ag q.2 ∧ (ag = false → q.2.length = 1) ∧ q.2.all Leaf.live = true) ∧ σ.partsOk ps qs
  | _, _ => False
theorem parts_aligned (h : Rel E N σ a w G) : ∀ {ps : List (Nat × Operand)} {qs : List (Nat × List Leaf)}, σ.partsOk ps qs → Aligned (Holds G σ E w) qs (ps.map fun (i, x) => (i, a.eval x))
  | [], [], _ => trivial
  | (i, x) :: ps, (i', xs) :: qs, hp => by
    obtain ⟨⟨h1, ag, h2, h3, h3'⟩, h4⟩ := hp
    have h5 := h.ev x
    rw [h2, vflat] at h5
    obtain ⟨us, h6, h7, h8⟩ := h5
    replace h7 : us.length = xs.length := h7
    have h9 : (a.eval x).cells = us.toArray := by
      rw [h6]
      refine cval_cells fun e => ⟨h7.trans (h3 e), fun u hu => ?_⟩
      obtain ⟨j, hj, rfl⟩ := List.getElem_of_mem hu
      have hj' : j < xs.length := by omega
      exact (h8 j xs[j] us[j] (List.getElem?_eq_getElem hj') (List.getElem?_eq_getElem hj)).one (List.all_eq_true.1 h3' _ (List.getElem_mem hj'))
    exact ⟨⟨h1.symm, by show (a.eval x).cells.size = xs.length; rw [h9]; simpa using h7, fun j y u hj hu => by
      replace hu : (a.eval x).cells[j]? = some u := hu
      rw [h9] at hu
      exact h8 j y u hj (by simpa using hu)⟩, parts_aligned h h4⟩
theorem ok_build {ty : TypeId} {parts : Array (Nat × Operand)} {z : Value} {zs ys : List Leaf} {qs : List (Nat × List Leaf)} {pl : Nat → Option (Nat × Nat)} (ho : o.op = .build ty parts) (hz : ∀ w, (zeroValue ty).run P w = .ok z w) (hzl : ZL zs z.cells.toList) (hp : σ.partsOk parts.toList qs)
    (hb : ∀ (vs : Array (Nat × Value)) (r : Array Value) w, Instr.fill pl z.cells vs.toList = some r → (Instr.build ty vs).run P w = .ok (.agg r) w) (hf : fillL pl zs qs = some ys) : OpL P E N nb σ o (V.flat true ys) :=
  fun a w G hr => by
    obtain ⟨r, h1, h2, h3⟩ := fill_holds qs _ zs z.cells ys (parts_aligned hr hp) (by have := hzl.len; simpa using this) (fun j x u hj hu => (hzl.holds j x u hj (by simpa using hu)).1) hf
    refine ⟨.agg r, fun v' _ => ?_, vflat.2 ⟨r.toList, by simp [cval], by simpa using h2, fun j x u hj hu => h3 j x u hj (by simpa using hu)⟩⟩
    have := hb (parts.map fun (i, x) => (i, a.eval x)) r v' (by simpa using h1)
    simp [execOp, ho, this, Result.andThen]
/-! ### Guarded operations -/
theorem yielded_at {ops : Array Oper} {j d : Nat} {oj : Oper} {b : Bool} (h : Rel E N σ a w G) (hj : ops[j]? = some oj) (hd : oj.dst = some d) (hdN : d < N) (hv : σ.tm d = V.one (.sc (.bool b))) : yielded ops a.tmps j = some b := by
  have h1 : a.tmps[d]? = some (.bool b) := by
    have h2 := h.tmps d
    rw [hv, vone] at h2
    have h3 : a.tmps.getD d undef = .bool b := h2.1
    have h4 : d < a.tmps.size := by rw [h.nsz]; exact hdN
    simp only [Array.getD_eq_getD_getElem?] at h3
    rw [Array.getElem?_eq_getElem h4] at h3 ⊢
    simpa using h3
  simp [yielded, hj, hd, h1]
/-- The guard is met. -/
theorem SV.opY {ops : Array Oper} {rest : List Oper} {j d : Nat} {oj : Oper} {b c : Bool} (h : OpOk P E N σ o σ') (hg : o.guard = some (j, b)) (hj : ops[j]? = some oj) (hd : oj.dst = some d) (hdN : d < N) (hv : σ.tm d = V.one (.sc (.bool c))) (hc : c = b) (k : SV E N σ' (wpList P ops Q rest)) : SV E N σ (wpList P ops Q (o :: rest)) :=
  fun a w G hr => wpList_step fun K hK => by
    have := yielded_at hr hj hd hdN hv
    rw [if_pos (by simp [Region.wanted, hg, this, hc])]
    exact h a w G K Q hr fun a' w' G' hr' => hK _ _ (k a' w' G' hr')
/-- The guard is not met: the slot is left undefined. -/
theorem SV.opN {ops : Array Oper} {rest : List Oper} {j d d' : Nat} {oj : Oper} {b c : Bool} (hg : o.guard = some (j, b)) (hj : ops[j]? = some oj) (hd : oj.dst = some d) (hdN : d < N) (hv : σ.tm d = V.one (.sc (.bool c))) (hc : c = !b) (hd' : o.dst = some d') (hdN' : d' < N) (k : SV E N (σ.put d' (V.one .dead)) (wpList P ops Q rest)) : SV E N σ (wpList P ops Q (o :: rest)) :=
  fun a w G hr => wpList_skip (by
    have := yielded_at hr hj hd hdN hv
    cases b <;> simp [Region.wanted, hg, this, hc]) (by
    rw [hd']
    exact k _ _ _ (hr.put hdN' (vone.2 ⟨trivial, .inl rfl⟩)))
theorem DW.qN {V' : V} {l : List Oper} {zs : List Nat} {ps : List PStep} {fr : List Nat} {cl : Bool} {i j d d' : Nat} {oj : Oper} {b c : Bool} (ho : nthO l i = some o) (hg : o.guard = some (j, b)) (hj : l.toArray[j]? = some oj) (hd : oj.dst = some d) (hdN : d < N) (hv : σ.tm d = V.one (.sc (.bool c))) (hc : c = !b) (hd' : o.dst = some d') (hdN' : d' < N) (hQ : ∀ c (a : Act) v w, Q (.panic c) (a.put o.dst v) w → Q (.panic c) a w)
    (k : DW E N τ fr cl (σ.put d' (V.one .dead)) fun ws Gs a w => wpPi P l.toArray Q (SW E τ ws Gs) zs ps a w) : DW E N τ fr cl σ fun ws Gs a w => wpPi P l.toArray Q (SW E τ ws Gs) zs (.q i :: ps) a w := fun ws Gs a w G hr hl => by
  refine pi_pass ho (fun c a w => hQ c a undef w) ?_ ?_
  · have := yielded_at hr hj hd hdN hv
    cases b <;> simp [Region.wanted, hg, this, hc]
  · rw [hd']
    exact k ws Gs _ w G (hr.put hdN' (vone.2 ⟨trivial, .inl rfl⟩)) hl.put
theorem DW.qY {V' : V} {l : List Oper} {zs : List Nat} {ps : List PStep} {fr : List Nat} {cl : Bool} {i j d d' : Nat} {oj : Oper} {b c : Bool} (ho : nthO l i = some o) (h : OpL P E N τ.bs.length σ o V') (hg : o.guard = some (j, b)) (hj : l.toArray[j]? = some oj) (hd : oj.dst = some d) (hdN : d < N) (hv : σ.tm d = V.one (.sc (.bool c))) (hc : c = b) (hd' : o.dst = some d') (hdN' : d' < N) (hQ : ∀ c (a : Act) v w, Q (.panic c) (a.put o.dst v) w → Q (.panic c) a w)
    (k : DW E N τ fr cl (σ.put d' V') fun ws Gs a w => wpPi P l.toArray Q (SW E τ ws Gs) zs ps a w) : DW E N τ fr cl σ fun ws Gs a w => wpPi P l.toArray Q (SW E τ ws Gs) zs (.q i :: ps) a w := fun ws Gs a w G hr hl => by
  obtain ⟨u, h1, h2⟩ := h a w G hr
  refine pi_take (v := u) ho (fun c a w => hQ c a u w) ?_ (fun v hv => h1 v (hl.lite hv)) ?_
  · have := yielded_at hr hj hd hdN hv
    simp [Region.wanted, hg, this, hc]
  · rw [hd']
    exact k ws Gs _ w G (hr.put hdN' h2) hl.put
theorem wantedY {ops : Array Oper} {j d : Nat} {oj : Oper} {b c : Bool} (h : Rel E N σ a w G) (hg : o.guard = some (j, b)) (hj : ops[j]? = some oj) (hd : oj.dst = some d) (hdN : d < N) (hv : σ.tm d = V.one (.sc (.bool c))) (hc : c = b) : Region.wanted o (yielded ops a.tmps) = true := by
  have := yielded_at h hj hd hdN hv
  simp [Region.wanted, hg, this, hc]
theorem wantedN {ops : Array Oper} {j d : Nat} {oj : Oper} {b c : Bool} (h : Rel E N σ a w G) (hg : o.guard = some (j, b)) (hj : ops[j]? = some oj) (hd : oj.dst = some d) (hdN : d < N) (hv : σ.tm d = V.one (.sc (.bool c))) (hc : c = !b) : Region.wanted o (yielded ops a.tmps) = false := by
  have := yielded_at h hj hd hdN hv
  cases b <;> simp [Region.wanted, hg, this, hc]
/-- An operation that makes memory, its guard not met: the slot is left undefined. -/
theorem DW.mN {l : List Oper} {zs : List Nat} {ps : List PStep} {fr : List Nat} {cl : Bool} {i j d d' : Nat} {oj : Oper} {b c : Bool} (ho : nthO l i = some o) (hg : o.guard = some (j, b)) (hj : l.toArray[j]? = some oj) (hd : oj.dst = some d) (hdN : d < N) (hv : σ.tm d = V.one (.sc (.bool c))) (hc : c = !b) (hd' : o.dst = some d') (hdN' : d' < N)
    (k : DW E N τ fr cl (σ.put d' (V.one .dead)) fun ws Gs a w => wpPi P l.toArray Q (SW E τ ws Gs) zs ps a w) : DW E N τ fr cl σ fun ws Gs a w => wpPi P l.toArray Q (SW E τ ws Gs) zs (.m i :: ps) a w := fun ws Gs a w G hr hl => by
  refine pi_step ho fun K hK => ?_
  rw [if_neg (by rw [wantedN hr hg hj hd hdN hv hc]; simp)]
  refine hK.out _ w hl.same fun _ => ?_
  rw [hd']
  exact k ws Gs _ w G (hr.put hdN' (vone.2 ⟨trivial, .inl rfl⟩)) hl.put
end Go.Proofs.Ytlnjgoommpeioaa.V
/- States told by trees: an empty slice as an object, states written out, small helps for walks. -/
namespace Go.Proofs.Ytlnjgoommpeioaa.V
open Go Go.RowKit
set_option linter.unusedVariables false
variable {P : Program} {E : Env} {N nb : Nat} {σ σ' τ : VS} {o : Oper} {a : Act} {w : World} {G : Ghost} {Q : Exit → Act → World → Prop} {K : Act → World → Prop}
theorem Rel.newnil (h : Rel E N σ a w G) {ty : TypeId} {n : Nat} (hp : 0 < n) (hz : Sz ty n) : ∃ G', Rel E N (σ.new (.seq ty [])) a w G' ∧ G'.vl σ.nx = .slice none 0 0 ∧ G'.β = G.β ∧ ∀ x u, Holds G σ E w x u → Holds G' (σ.new (.seq ty [])) E w x u := by
  obtain ⟨G', h1, ⟨h2, -, h3⟩, -, h4⟩ := h.renew [] (fun x hx => by cases hx) (w' := w) (t := .seq ty []) (v := .slice none 0 0) (F := fun _ => False) (fun _ => False) (Same.refl _ _) (fun _ _ _ => rfl) (fun b hb => hb.elim)
    (Own.seq (es := []) n hp hz (fun e he => by cases he) [] (World.ownsRow_nil _ _ _ _) (fun _ _ => False) (fun k e j t u h => by simp at h) (fun u hu => by cases hu) (fun b hb => by cases hb) (fun i b hb => hb.elim) (fun i b hb => hb.elim) fun i j b hb => hb.elim) ⟨_, _, rfl⟩ (fun b hb => hb.elim)
  exact ⟨G', h1, h2, h3, h4⟩
/-- An empty slice in a slot is an object. -/
theorem SV.nltm {s kk : Nat} {ty : TypeId} (hk : σ.nx = kk) (hs : σ.tm s = V.one (.nl ty)) (hN : s < N) (k : SV E N ((σ.new (.seq ty [])).put s (V.one (.hd kk))) K) : SV E N σ K := fun a w G h => by
  subst hk
  have h1 := h.tmps s
  rw [hs, vone] at h1
  obtain ⟨⟨h2, n, h3, h4⟩, -⟩ := h1
  obtain ⟨G', k1, k2, -, -⟩ := h.newnil h3 h4
  have k3 := k1.put (d := s) (v := V.one (.hd σ.nx)) (u := a.tmps.getD s undef) hN (vone.2 ⟨⟨Nat.lt_succ_self _, by rw [h2, k2]⟩, .inr (by rw [h2]; rfl)⟩)
  have e : a.put (some s) (a.tmps.getD s undef) = a := by
    have hs' : s < a.tmps.size := by rw [h.nsz]; exact hN
    cases a with
    | mk tmps defers =>
      have : tmps.setIfInBounds s (tmps.getD s undef) = tmps := by
        apply Array.ext_getElem?
        intro i
        rw [Array.getElem?_setIfInBounds]
        split
        · rename_i hi; subst hi
          simp at hs'
          simp [hs']
        · rfl
      show Act.mk _ _ = _
      rw [this]
  rw [e] at k3
  exact k a w G' k3
/-- An empty slice in a box is an object. -/
theorem SV.nlbox {b j kk : Nat} {ty ty' : TypeId} {xs : List Leaf} (hb : σ.bs[b]? = some (ty', xs)) (hk : σ.nx = kk) (hj : xs[j]? = some (.nl ty)) {ys : List Leaf} (hy : xs.set j (.hd kk) = ys) (k : SV E N ((σ.new (.seq ty [])).setb b ty' ys) K) : SV E N σ K := fun a w G h => by
  subst hk
  subst hy
  obtain ⟨hB, us, h1, h2, h3⟩ := h.boxes b ty' xs hb
  have hjl := get_lt hj
  obtain ⟨⟨⟨h4, n, h5, h6⟩, -⟩, -⟩ := h3 j _ us[j] hj (List.getElem?_eq_getElem (by omega))
  obtain ⟨G', k1, k2, hβ, k3⟩ := h.newnil h5 h6
  have k4 := k1.setbox (b := b) (ty := ty') (xs := xs) (xs' := xs.set j (.hd σ.nx)) (us' := us) (w' := w) hb (Same.refl _ _) (fun _ _ => rfl) (by rw [hβ]; exact h1) (by simpa using h2) (fun q x u hq hu => by
    by_cases hqj : j = q
    · subst hqj
      rw [List.getElem?_set_self hjl] at hq
      have hu' : us[j] = u := by rw [List.getElem?_eq_getElem (by omega)] at hu; exact Option.some.inj hu
      rw [← Option.some.inj hq, ← hu', h4]
      exact ⟨⟨⟨Nat.lt_succ_self _, k2.symm⟩, .inr rfl⟩, rfl⟩
    · rw [List.getElem?_set_ne hqj] at hq
      exact ⟨k3 x u (h3 q x u hq hu).1, (h3 q x u hq hu).2⟩)
  exact k a w G' k4
/-! ### States written out -/
def VS.nil : VS := ⟨fun _ => V.one .dead, [], fun _ => none, 0⟩
theorem le_nil {ρ : Nat → Nat} (s : Nat) : V.le σ τ ρ (σ.tm s) (VS.nil.tm s) := .inl rfl
theorem le_put {ρ : Nat → Nat} {τ' : VS} {d : Nat} {v : V} (h : ∀ s, V.le σ τ ρ (σ.tm s) (τ'.tm s)) (hv : V.le σ τ ρ (σ.tm d) v) (s : Nat) : V.le σ τ ρ (σ.tm s) ((τ'.put d v).tm s) := by
  show V.le σ τ ρ (σ.tm s) (bif Nat.beq s d then v else τ'.tm s)
  cases hb : Nat.beq s d with
  | true => rw [nbeq.1 hb]; exact hv
  | false => exact h s
theorem le_box {ρ : Nat → Nat} {τ' : VS} {ty : TypeId} {xs : List Leaf} (h : ∀ s, V.le σ τ ρ (σ.tm s) (τ'.tm s)) (s : Nat) : V.le σ τ ρ (σ.tm s) ((τ'.box ty xs).tm s) := h s
theorem le_new {ρ : Nat → Nat} {τ' : VS} {t : T} (h : ∀ s, V.le σ τ ρ (σ.tm s) (τ'.tm s)) (s : Nat) : V.le σ τ ρ (σ.tm s) ((τ'.new t).tm s) := h s
theorem V.le.flat {ρ : Nat → Nat} {ag : Bool} {xs ys : List Leaf} {v : V} (h : v = V.flat ag xs) (l : leafs σ τ ρ xs ys) : V.le σ τ ρ v (V.flat ag ys) := .inr ⟨ag, xs, ys, h, rfl, l⟩
theorem V.le.one {ρ : Nat → Nat} {x y : Leaf} {v : V} (h : v = V.one x) (l : Leaf.le σ τ ρ x y) : V.le σ τ ρ v (V.one y) := .inr ⟨false, [x], [y], h, rfl, l, trivial⟩
/-- Boxes, one by one. -/
def boxesLe (σ τ : VS) (ρ : Nat → Nat) : List (TypeId × List Leaf) → List (TypeId × List Leaf) → Prop
  | _, [] => True
  | x :: xs, y :: ys => (x.1 = y.1 ∧ leafs σ τ ρ x.2 y.2) ∧ boxesLe σ τ ρ xs ys
  | [], _ :: _ => False
theorem boxesLe.get {ρ : Nat → Nat} : ∀ {xs ys : List (TypeId × List Leaf)}, boxesLe σ τ ρ xs ys → ys.length ≤ xs.length ∧ ∀ (b : Nat) (ty : TypeId) (zs : List Leaf), ys[b]? = some (ty, zs) → ∃ xs', xs[b]? = some (ty, xs') ∧ leafs σ τ ρ xs' zs
  | xs, [], _ => ⟨Nat.zero_le _, fun b ty zs h => by simp at h⟩
  | x :: xs, y :: ys, h => by
    obtain ⟨h1, h2⟩ := h.2.get
    refine ⟨by simpa using h1, fun b ty zs hb => ?_⟩
    cases b with
    | zero =>
      cases hb
      obtain ⟨e, hl⟩ := h.1
      obtain ⟨xt, xl⟩ := x
      have : xt = ty := e
      subst this
      exact ⟨xl, rfl, hl⟩
    | succ b => exact h2 b ty zs (by simpa using hb)
/-- Objects 0 .. n-1 of τ, one by one. -/
def objsLe (σ τ : VS) (ρ : Nat → Nat) : Nat → Prop
  | 0 => True
  | n + 1 => (τ.ob n = none ∨ ∃ ver t, τ.ob n = some (ver, t) ∧ (σ.ob (ρ n)).map (·.2) = some t ∧ ρ n < σ.nx) ∧ objsLe σ τ ρ n
theorem objsLe.get {ρ : Nat → Nat} : ∀ {n : Nat}, objsLe σ τ ρ n → ∀ i, i < n → (τ.ob i = none ∨ ∃ ver t, τ.ob i = some (ver, t) ∧ (σ.ob (ρ i)).map (·.2) = some t ∧ ρ i < σ.nx)
  | n + 1, h, i, hi => by
    rcases Nat.lt_or_ge i n with hl | hl
    · exact h.2.get i hl
    · have : i = n := by omega
      subst this; exact h.1
theorem VS.le.mk' {ρ : Nat → Nat} (tm : ∀ s, V.le σ τ ρ (σ.tm s) (τ.tm s)) (bx : boxesLe σ τ ρ σ.bs τ.bs) (ob : objsLe σ τ ρ τ.nx) (hnx : ∀ i, τ.ob i ≠ none → i < τ.nx) (inj : ∀ i j, i < τ.nx → j < τ.nx → ρ i = ρ j → i = j) : VS.le σ τ ρ :=
  ⟨tm, bx.get.1, bx.get.2, fun i ver t hi => by
    have hlt := hnx i (by rw [hi]; simp)
    rcases ob.get i hlt with h | ⟨ver', t', h1, h2, h3⟩
    · rw [h] at hi; cases hi
    · rw [h1] at hi
      cases hi
      obtain ⟨⟨v, t2⟩, h4, h5⟩ := Option.map_eq_some_iff.1 h2
      exact ⟨hlt, h3, v, by rw [h4]; exact congrArg some (Prod.ext rfl h5)⟩, fun i j hi hj => inj i j (hnx i hi) (hnx j hj)⟩
theorem nil_ob (i : Nat) : VS.nil.ob i ≠ none → i < VS.nil.nx := fun h => absurd rfl h
theorem new_ob {t : T} (h : ∀ i, τ.ob i ≠ none → i < τ.nx) (i : Nat) : (τ.new t).ob i ≠ none → i < (τ.new t).nx := fun hi => by
  by_cases e : i = τ.nx
  · rw [e]; exact Nat.lt_succ_self _
  · have : (τ.new t).ob i = τ.ob i := by
      show (bif Nat.beq i τ.nx then _ else τ.ob i) = _
      rw [nbne e]; rfl
    rw [this] at hi
    exact Nat.lt_succ_of_lt (h i hi)
theorem inj_list {l : List Nat} (h : l.Nodup) (i j : Nat) (hi : i < l.length) (hj : j < l.length) (e : l.getD i 0 = l.getD j 0) : i = j := by
  rw [List.getD_eq_getElem?_getD, List.getD_eq_getElem?_getD, List.getElem?_eq_getElem hi, List.getElem?_eq_getElem hj] at e
  have e' : l[i] = l[j] := by simpa using e
  rcases Nat.lt_trichotomy i j with hl | hl | hl
  · exact absurd e' ((List.pairwise_iff_getElem.1 h) i j hi hj hl)
  · exact hl
  · exact absurd e'.symm ((List.pairwise_iff_getElem.1 h) j i hj hi hl)
theorem map_at {α : Type} {f : α → List T} {L : List α} {k : Nat} {x : α} (h : L[k]? = some x) : (L.map f)[k]? = some (f x) := by rw [List.getElem?_map, h]; rfl
/-- A truth value is the one or the other. -/
theorem SV.split {d : Nat} {c : Bool} (hv : σ.tm d = V.one (.sc (.bool c))) (ht : c = true → SV E N (σ.put d (V.one (.sc (.bool true)))) K) (hf : c = false → SV E N (σ.put d (V.one (.sc (.bool false)))) K) : SV E N σ K := by
  have e : σ.put d (V.one (.sc (.bool c))) = σ := by
    have hf : (fun s => bif Nat.beq s d then V.one (.sc (.bool c)) else σ.tm s) = σ.tm := by
      funext s
      cases hb : Nat.beq s d with
      | true => rw [Nat.eq_of_beq_eq_true hb, hv]; rfl
      | false => rfl
    show (⟨fun s => bif Nat.beq s d then V.one (.sc (.bool c)) else σ.tm s, σ.bs, σ.ob, σ.nx⟩ : VS) = σ
    rw [hf]
  cases c with
  | true => rw [← e]; exact ht rfl
  | false => rw [← e]; exact hf rfl
theorem put_same {d : Nat} {v : V} (hv : σ.tm d = v) : σ.put d v = σ := by
  have hf : (fun s => bif Nat.beq s d then v else σ.tm s) = σ.tm := by
    funext s
    cases hb : Nat.beq s d with
    | true => rw [Nat.eq_of_beq_eq_true hb, hv]; rfl
    | false => rfl
  show (⟨fun s => bif Nat.beq s d then v else σ.tm s, σ.bs, σ.ob, σ.nx⟩ : VS) = σ
  rw [hf]
/-- In a region whose order is drawn: a truth value is the one or the other. -/
theorem DW.split {d : Nat} {c : Bool} {fr : List Nat} {cl : Bool} {Ψ : World → Ghost → Act → World → Prop} (hv : σ.tm d = V.one (.sc (.bool c))) (ht : c = true → DW E N τ fr cl (σ.put d (V.one (.sc (.bool true)))) Ψ) (hf : c = false → DW E N τ fr cl (σ.put d (V.one (.sc (.bool false)))) Ψ) : DW E N τ fr cl σ Ψ := by
  have e := put_same hv
  cases c with
  | true => rw [← e]; exact ht rfl
  | false => rw [← e]; exact hf rfl
theorem ok_pickT {c x y : Operand} {v : V} (ho : o.op = .pick c x y) (hc : σ.ev c = V.one (.sc (.bool true))) (hx : σ.ev x = v) : OpL P E N nb σ o v :=
  fun a w G h => ⟨a.eval x, fun v' _ => by simp [execOp, ho, h.sc hc, asBool], by rw [← hx]; exact h.ev x⟩
theorem ok_pickF {c x y : Operand} {v : V} (ho : o.op = .pick c x y) (hc : σ.ev c = V.one (.sc (.bool false))) (hx : σ.ev y = v) : OpL P E N nb σ o v :=
  fun a w G h => ⟨a.eval y, fun v' _ => by simp [execOp, ho, h.sc hc, asBool], by rw [← hx]; exact h.ev y⟩
end Go.Proofs.Ytlnjgoommpeioaa.V
