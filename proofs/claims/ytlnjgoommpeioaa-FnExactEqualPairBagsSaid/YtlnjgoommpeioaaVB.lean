/- States told by trees: literals, stretches, calls, parts of values, struct literals, stores into slices. -/
import Derived.Test.YtlnjgoommpeioaaVA
import Derived.Great.FillDense
import Derived.Great.BuildSlice
namespace Go.Proofs.Ytlnjgoommpeioaa.V
open Go Go.RowKit
set_option linter.unusedVariables false
variable {E : Env} {N : Nat} {σ σ' : VS} {o : Oper} {a : Act} {w : World} {G : Ghost}
def Flat (fs : List (List T)) : Prop := ∀ (k : Nat) (e : List T) (j : Nat) (t : T), fs[k]? = some e → e[j]? = some t → ∃ u, t = T.lit u
def litv : T → Value
  | .lit u => u
  | _ => .bool false
theorem flat_ix {fs : List (List T)} {n : Nat} (hn : ∀ e ∈ fs, e.length = n) : ∀ (k j : Nat) (e : List T) (t : T), fs[k]? = some e → e[j]? = some t → (fs.flatMap fun e => e.map litv)[k * n + j]? = some (litv t) := by
  induction fs with
  | nil => intro k j e t h; simp at h
  | cons f fs ih =>
    intro k j e t hk hj
    have hf : f.length = n := hn f (List.mem_cons_self ..)
    rw [List.flatMap_cons]
    cases k with
    | zero =>
      cases hk
      rw [Nat.zero_mul, Nat.zero_add, List.getElem?_append_left (by rw [List.length_map]; exact get_lt hj), List.getElem?_map, hj]
      rfl
    | succ k =>
      have h1 : (k + 1) * n + j = n + (k * n + j) := by rw [Nat.add_mul, Nat.one_mul]; omega
      rw [h1, List.getElem?_append_right (by rw [List.length_map, hf]; omega), List.length_map, hf, Nat.add_sub_cancel_left]
      exact ih (fun e he => hn e (List.mem_cons_of_mem _ he)) k j e t (by simpa using hk) hj
theorem flat_len {fs : List (List T)} {n : Nat} (hn : ∀ e ∈ fs, e.length = n) : (fs.flatMap fun e => e.map litv).length = fs.length * n := by
  induction fs with
  | nil => simp
  | cons f fs ih =>
    rw [List.flatMap_cons, List.length_append, List.length_map, hn f (List.mem_cons_self ..), ih fun e he => hn e (List.mem_cons_of_mem _ he), List.length_cons, Nat.add_mul, Nat.one_mul]
    omega
theorem flat_at {fs : List (List T)} {n p : Nat} {u : Value} (hn : ∀ e ∈ fs, e.length = n) (hp : 0 < n) (h : (fs.flatMap fun e => e.map litv)[p]? = some u) : ∃ e t, fs[p / n]? = some e ∧ e[p % n]? = some t ∧ u = litv t ∧ p / n * n + p % n = p := by
  have hlt := get_lt h
  rw [flat_len hn] at hlt
  have hd : p / n < fs.length := by rw [Nat.div_lt_iff_lt_mul hp]; exact hlt
  have hm : p % n < fs[p / n].length := by rw [hn _ (List.getElem_mem hd)]; exact Nat.mod_lt _ hp
  have e1 : p / n * n + p % n = p := by rw [Nat.mul_comm]; exact Nat.div_add_mod p n
  have h2 := flat_ix hn (p / n) (p % n) fs[p / n] fs[p / n][p % n] (List.getElem?_eq_getElem hd) (List.getElem?_eq_getElem hm)
  rw [e1, h] at h2
  exact ⟨_, _, List.getElem?_eq_getElem hd, List.getElem?_eq_getElem hm, Option.some.inj h2, e1⟩
/-- 'append(s, x...)', x of flat elements that may be read. -/
theorem ok_append_ro {d : Nat} {s x : Operand} {t ty : TypeId} {n bytes : Nat} {z : Value} (I : ElT t ty n z bytes) {ls lx : Leaf} {es fs : List (List T)} {kk : Nat} (hk : σ.nx = kk) (ho : o.op = .call { callee := .builtin .append, args := #[s, x], argTypes := #[t, t] })
    (hs : σ.ev s = V.one ls) (hx : σ.ev x = V.one lx) (hts : σ.out ls = some (.seq ty es)) (htx : σ.tr lx = some (.seq ty fs)) (hfl : Flat fs) (hlen : es.length + fs.length ≤ 350000000000) (hd : o.dst = some d) (hdN : d < N) :
    OpMk Try.prog E N (Leaf.id? ls) σ o (((σ.kills [ls]).new (.seq ty (es ++ fs))).put d (V.one (.hd kk))) :=
  fun a w G K Q h k => by
    subst hk
    have hvs := h.ev s
    rw [hs, vone] at hvs
    have os := h.out hvs hts
    generalize hF1 : ls.foot G = F1 at os
    have hlt1 : ∀ b, F1 b → (E.B ≤ b ∨ E.ln b) ∧ b < w.heap.size := fun b hb => by
      rw [← hF1] at hb
      cases ls with
      | hd i =>
        obtain ⟨p, e1, -⟩ := Option.map_eq_some_iff.1 hts
        exact h.ftlt i b (by rw [e1]; simp) hb
      | _ => exact hb.elim
    have hcs : ∀ y ∈ [ls], ∃ t, σ.out y = some t := fun y hy => by
      rw [List.mem_singleton.1 hy]
      exact ⟨_, hts⟩
    obtain ⟨ad, c, n2, hxv, hc1, -, hc3, hp2, hz2, hn2, b2, o2, us, ha2, hb2, hcell, hr2⟩ := inn_seq (h.head hx htx)
    cases os with
    | seq n1 hp1 hz1 hn1 xs1 hown1 Gs1 hr1 hone1 hF1' hG1 hne1 hd1 =>
    have e1 := hz1.eq I.sz
    have e2 := hz2.eq I.sz
    subst e1 e2
    have hval : ∀ p u, (fs.flatMap fun e => e.map litv)[p]? = some u → w.cell? ⟨b2, o2 + p, none⟩ = some u ∧ u.oneCell' = true := fun p u hu => by
      obtain ⟨e, t', h1, h2, h3, h4⟩ := flat_at hn2 hp2 hu
      obtain ⟨v, hv⟩ := hfl _ _ _ _ h1 h2
      subst hv
      have h5 := hr2 _ _ _ _ h1 h2
      have h6 := hcell _ _ _ _ h1 h2
      rw [h4] at h5 h6
      cases h5 with
      | lit h7 =>
        rw [h3]
        exact ⟨h6, h7⟩
    obtain ⟨v', w', k1, k2, k3, k4, k5⟩ := append_core I hown1 (Nat.zero_le _) hc3 hc1 (flat_len hn2) (fun y hy j u hj => by
      have hne : fs ≠ [] := fun hh => by rw [hh] at hj; simp at hj
      rw [ha2 y hy hne, Addr.add_lit]
      exact (hval j u hj).1) (fun u hu => by
        obtain ⟨j, hj, rfl⟩ := List.getElem_of_mem hu
        exact (hval j _ (List.getElem?_eq_getElem hj)).2) hlen o.type
    have hblk : ∀ k, k < w.heap.size → ¬ ((a.eval s).ownBlock = some k) → w'.heap[k]? = w.heap[k]? := fun k hk hn => k3.block k hk fun e => hn e.symm
    obtain ⟨G', hG', ⟨hvl, hvls, hβs⟩, -, -⟩ := h.renew [ls] hcs (w' := w') (t := .seq ty (es ++ fs)) (v := v') (F := fun b => F1 b ∨ v'.ownBlock = some b) (fun b => (a.eval s).ownBlock = some b)
      (same_grown h k3 fun b hb => (hlt1 b (hF1' b hb)).1) hblk (fun b hb => ⟨ls, List.mem_singleton.2 rfl, by rw [hF1]; exact hF1' b hb⟩)
      (by
        refine .seq n2 hp2 hz2 (fun e he => (List.mem_append.1 he).elim (hn1 e) (hn2 e)) _ (by rw [List.length_append]; exact k2) (fun q b => q < es.length * n2 ∧ Gs1 q b) (fun k e j t' u he hj hu => ?_) (fun u hu => (List.mem_append.1 hu).elim (hone1 u) fun hu => ?_) (fun b hb => .inr hb) (fun q b hb => .inl (hG1 _ b hb.2)) (fun q b hb e => ?_) fun q q' b hb hb' => hd1 _ _ b hb.2 hb'.2
        · have hj2 : j < n2 := by
            rcases cat_el he with ⟨-, he⟩ | ⟨-, he⟩
            · rw [← hn1 e (get_mem he)]; exact get_lt hj
            · rw [← hn2 e (get_mem he)]; exact get_lt hj
          rcases cat_el he with ⟨hk, he⟩ | ⟨hk, he⟩
          · have hlt := at_lt hk hj2
            rw [List.getElem?_append_left (by rw [hown1.1]; exact hlt)] at hu
            exact ((hr1 k e j t' u he hj hu).frame fun b hb => hblk b (hlt1 b (hG1 _ b hb)).2 fun e => hne1 _ b hb e).mono fun b hb => ⟨hlt, hb⟩
          · rw [cat_ix (n := n2) (j := j) hk] at hu
            rw [List.getElem?_append_right (by rw [hown1.1]; omega), hown1.1, Nat.add_sub_cancel_left, flat_ix hn2 _ j e t' he hj] at hu
            obtain ⟨v, hv⟩ := hfl _ _ _ _ he hj
            subst hv
            rw [← Option.some.inj hu]
            exact .lit (hval _ _ (flat_ix hn2 _ j e _ he hj)).2
        · obtain ⟨j, hj, rfl⟩ := List.getElem_of_mem hu
          exact (hval j _ (List.getElem?_eq_getElem hj)).2
        · rcases k4 with k4 | k4
          · rw [k4] at e
            exact hne1 _ b hb.2 e
          · rw [k4] at e
            have := Option.some.inj e
            have := (hlt1 b (hG1 _ b hb.2)).2
            omega)
      ⟨_, _, rfl⟩ (fun b hb => by
        rcases hb with hb | hb
        · exact ⟨⟨(hlt1 b hb).1, Nat.lt_of_lt_of_le (hlt1 b hb).2 k3.size⟩, .inr ⟨ls, List.mem_singleton.2 rfl, by rw [hF1]; exact hb⟩⟩
        · refine ⟨⟨own_at h hb k4 (fun b hb => (hlt1 b (hF1' b hb)).1), (World.ownsRow.lt k2 b hb).2⟩, ?_⟩
          rcases k4 with k4 | k4
          · exact .inr ⟨ls, List.mem_singleton.2 rfl, by rw [hF1]; exact hF1' b (by rw [← k4]; exact hb)⟩
          · rw [k4] at hb
            exact .inl (h.fresh (by rw [← Option.some.inj hb]; exact Nat.le_refl _)))
    refine wp_value (v := v') (w' := w') ?_ (by rw [hd]; exact k _ _ _ (hG'.put hdN (vone.2 ⟨⟨Nat.lt_succ_self _, hvl.symm⟩, .inr (ownsRow_one k2)⟩)) (made_append I h hts hvs k3 k4 k5 hvl hvls hβs ((same_grown h k3 fun b hb => (hlt1 b (hF1' b hb)).1))))
    simp [execOp, ho, resolve, invoke, builtin, hxv, k1, Result.andThen]
/-- A stretch of a slice. -/
def Leaf.cutL (lf : Leaf) (t : T) : Leaf := match lf with
  | .ro _ => .ro t
  | .hd i => .nd i 0 t none
  | .nd i ver _ _ => .nd i ver t none
  | _ => .dead
/-- One component of a tuple. -/
theorem ok_extract {nb c : Nat} {x : Operand} {ps : List (Bool × List Leaf)} {ag : Bool} {xs : List Leaf} (ho : o.op = .extract x c) (hx : σ.ev x = ⟨true, ps⟩) (hc : ps[c]? = some (ag, xs)) : OpL Try.prog E N nb σ o (V.flat ag xs) :=
  fun a w G h => by
    have h1 := h.ev x
    rw [hx] at h1
    obtain ⟨uss, h2, h3, h4⟩ := h1
    have hcl : c < uss.length := by rw [h2]; exact get_lt hc
    obtain ⟨h5, h6⟩ := h4 c ag xs uss[c] hc (List.getElem?_eq_getElem hcl)
    refine ⟨cval ag uss[c], fun v' _ => ?_, vflat.2 ⟨_, rfl, h5, h6⟩⟩
    have : (List.zipWith (fun (c : Bool × List Leaf) us => cval c.1 us) ps uss)[c]? = some (cval ag uss[c]) := by
      rw [List.getElem?_zipWith, hc, List.getElem?_eq_getElem hcl]
    simp [execOp, ho, Instr.extract, h3, vval, this]
/-! ### Calls -/
/-- What is handed to a call: trees that may be read. -/
def VS.arg (σ : VS) : Leaf → Option T
  | .dead => some .any
  | x => σ.tr x
def VS.args (σ : VS) : List Leaf → List T → Prop
  | [], [] => True
  | x :: xs, t :: ts => σ.tr x = some t ∧ σ.args xs ts
  | _, _ => False
theorem args_get {σ : VS} : ∀ {xs : List Leaf} {ts : List T}, σ.args xs ts → xs.length = ts.length ∧ ∀ (j : Nat) (t : T), ts[j]? = some t → ∃ x, xs[j]? = some x ∧ σ.tr x = some t
  | [], [], _ => ⟨rfl, fun j t h => by simp at h⟩
  | x :: xs, t :: ts, h => by
    obtain ⟨h1, h2⟩ := args_get h.2
    refine ⟨by simp [h1], fun j y hj => ?_⟩
    cases j with
    | zero => cases hj; exact ⟨x, rfl, h.1⟩
    | succ j => exact h2 j y (by simpa using hj)
def VS.argss (σ : VS) : List Operand → List (Bool × List T) → Prop
  | [], [] => True
  | x :: xs, q :: qs => (∃ ls, σ.ev x = V.flat q.1 ls ∧ σ.args ls q.2) ∧ σ.argss xs qs
  | _, _ => False
theorem Rel.args (h : Rel E N σ a w G) : ∀ {xs : List Operand} {qs : List (Bool × List T)}, σ.argss xs qs → ArgsIn (Env.of w) w qs (xs.map a.eval)
  | [], [], _ => ⟨rfl, fun c ag ts v hc => by simp at hc⟩
  | x :: xs, q :: qs, hq => by
    obtain ⟨⟨ls, h1, h2⟩, h3⟩ := hq
    obtain ⟨h4, h5⟩ := h.args h3
    refine ⟨by simpa using h4, fun c ag ts v hc hv => ?_⟩
    cases c with
    | zero =>
      cases hc
      cases hv
      have h6 := h.ev x
      rw [h1, vflat] at h6
      obtain ⟨us, h7, h8, h9⟩ := h6
      obtain ⟨h10, h11⟩ := args_get h2
      refine ⟨us, h7, h8.trans h10, fun j t u hj hu => ?_⟩
      obtain ⟨y, h12, h13⟩ := h11 j t hj
      have := h.tree (h9 j y u h12 hu) h13
      refine this.frame (Nat.le_refl _) fun b hb hb' => ⟨Env.of_old.2 hb', rfl⟩
    | succ c => exact h5 c ag ts v (by simpa using hc) (by simpa using hv)
/-- The leaves of an answer, new objects numbered from k on. -/
def ansL : Nat → List T → List Leaf × Nat
  | k, [] => ([], k)
  | k, .lit u :: ts => let r := ansL k ts; (.sc u :: r.1, r.2)
  | k, .any :: ts => let r := ansL k ts; (.dead :: r.1, r.2)
  | k, .seq _ _ :: ts => let r := ansL (k + 1) ts; (.hd k :: r.1, r.2)
def ansS (σ : VS) : List T → VS
  | [] => σ
  | .seq ty es :: ts => ansS (σ.new (.seq ty es)) ts
  | _ :: ts => ansS σ ts
def ansLs : Nat → List (Bool × List T) → List (Bool × List Leaf)
  | _, [] => []
  | k, (ag, ts) :: qs => (ag, (ansL k ts).1) :: ansLs (ansL k ts).2 qs
def ansSs (σ : VS) : List (Bool × List T) → VS
  | [] => σ
  | (_, ts) :: qs => ansSs (ansS σ ts) qs
/-- Each new object's leaf holds; what held before holds. -/
theorem Rel.addAll : ∀ (ts : List T) {σ : VS} {G : Ghost} (us : List Value) (F : Nat → Nat → Prop), Rel E N σ a w G → us.length = ts.length → (∀ (j : Nat) (t : T) (u : Value), ts[j]? = some t → us[j]? = some u → Own w 0 t u (F j)) → (∀ j b, F j b → Fresh σ G b ∧ (E.B ≤ b ∨ E.ln b) ∧ b < w.heap.size) →
    (∀ i j b, F i b → F j b → i = j) → ∃ G', Rel E N (ansS σ ts) a w G' ∧ (ansS σ ts).bs = σ.bs ∧ (ansS σ ts).nx = (ansL σ.nx ts).2 ∧ σ.nx ≤ (ansS σ ts).nx ∧ (∀ b, Fresh σ G b → (∀ j, ¬ F j b) → Fresh (ansS σ ts) G' b) ∧ (∀ x u, Holds G σ E w x u → Holds G' (ansS σ ts) E w x u) ∧ (ansL σ.nx ts).1.length = ts.length ∧
      (∀ (j : Nat) (x : Leaf) (u : Value), (ansL σ.nx ts).1[j]? = some x → us[j]? = some u → Holds G' (ansS σ ts) E w x u) ∧
      (∀ i, i < σ.nx → G'.vl i = G.vl i) ∧ G'.β = G.β ∧ ∀ i, σ.nx ≤ i → i < (ansS σ ts).nx → ∀ b, (G'.vl i).ownBlock = some b → ∃ j, F j b
  | [], σ, G, us, F, h, hl, ho, hF, hd => ⟨G, h, rfl, rfl, Nat.le_refl _, fun b hb _ => hb, fun x u hx => hx, rfl, fun j x u hj => by simp [ansL] at hj, fun _ _ => rfl, rfl, fun i h1 h2 => absurd h2 (Nat.not_lt.2 h1)⟩
  | .any :: ts, σ, G, u :: us, F, h, hl, ho, hF, hd => by
    obtain ⟨G', h1, h2, h3, h4, h5, h6, h7, h8, h9, h10, h11⟩ := Rel.addAll ts us (fun j => F (j + 1)) h (by simpa using hl) (fun j t u hj hu => ho (j + 1) t u (by simpa using hj) (by simpa using hu)) (fun j b hb => hF _ b hb) fun i j b hi hj => by have := hd _ _ b hi hj; omega
    refine ⟨G', h1, h2, h3, h4, fun b hb hn => h5 b hb fun j => hn (j + 1), h6, by simp [ansL, h7], fun j x v hj hv => ?_, h9, h10, fun i e1 e2 b e3 => by obtain ⟨j, hj⟩ := h11 i e1 e2 b e3; exact ⟨j + 1, hj⟩⟩
    cases j with
    | zero => cases hj; exact ⟨trivial, .inl rfl⟩
    | succ j => exact h8 j x v (by simpa [ansL] using hj) (by simpa using hv)
  | .lit v :: ts, σ, G, u :: us, F, h, hl, ho, hF, hd => by
    obtain ⟨G', h1, h2, h3, h4, h5, h6, h7, h8, h9, h10, h11⟩ := Rel.addAll ts us (fun j => F (j + 1)) h (by simpa using hl) (fun j t u hj hu => ho (j + 1) t u (by simpa using hj) (by simpa using hu)) (fun j b hb => hF _ b hb) fun i j b hi hj => by have := hd _ _ b hi hj; omega
    refine ⟨G', h1, h2, h3, h4, fun b hb hn => h5 b hb fun j => hn (j + 1), h6, by simp [ansL, h7], fun j x y hj hv => ?_, h9, h10, fun i e1 e2 b e3 => by obtain ⟨j, hj⟩ := h11 i e1 e2 b e3; exact ⟨j + 1, hj⟩⟩
    cases j with
    | zero =>
      cases hj
      cases hv
      have := ho 0 (.lit v) u rfl rfl
      cases this with
      | lit hv => exact ⟨rfl, .inr hv⟩
    | succ j => exact h8 j x y (by simpa [ansL] using hj) (by simpa using hv)
  | .seq ty es :: ts, σ, G, u :: us, F, h, hl, ho, hF, hd => by
    have hown := ho 0 (.seq ty es) u rfl rfl
    obtain ⟨G1, k1, ⟨k2, k5, k6⟩, k3, k4⟩ := h.renew [] (fun x hx => by cases hx) (w' := w) (t := .seq ty es) (v := u) (F := F 0) (fun _ => False) (Same.refl _ _) (fun _ _ _ => rfl) (fun b hb => hb.elim) hown ⟨_, _, rfl⟩ fun b hb => ⟨(hF 0 b hb).2, .inl (hF 0 b hb).1⟩
    have e0 : (σ.kills []).new (.seq ty es) = σ.new (.seq ty es) := rfl
    rw [e0] at k1 k3 k4
    obtain ⟨G', h1, h2, h3, h4, h5, h6, h7, h8, h9, h10, h11⟩ := Rel.addAll ts us (fun j => F (j + 1)) k1 (by simpa using hl) (fun j t u hj hu => ho (j + 1) t u (by simpa using hj) (by simpa using hu)) (fun j b hb => ⟨k3 b (hF _ b hb).1 fun hb0 => by have := hd _ _ b hb hb0; omega, (hF _ b hb).2⟩) fun i j b hi hj => by have := hd _ _ b hi hj; omega
    refine ⟨G', h1, h2, h3, Nat.le_trans (Nat.le_succ _) h4, fun b hb hn => h5 b (k3 b hb (hn 0)) fun j => hn (j + 1), fun x u hx => h6 x u (k4 x u hx), by simp [ansL] at h7 ⊢; exact h7, fun j x v hj hv => ?_, fun i hi => (h9 i (Nat.lt_succ_of_lt hi)).trans (k5 i hi), h10.trans k6, fun i e1 e2 b e3 => ?_⟩
    rotate_left
    · by_cases hi : i = σ.nx
      · subst hi
        rw [h9 _ (Nat.lt_succ_self _), k2] at e3
        cases hown with
        | seq n hp hz hn xs hown Gs hr hone hF' hG hne hd' => exact ⟨0, hF' b e3⟩
      · obtain ⟨j, hj⟩ := h11 i (Nat.lt_of_le_of_ne e1 (Ne.symm hi)) e2 b e3
        exact ⟨j + 1, hj⟩
    cases j with
    | zero =>
      cases hj
      cases hv
      exact h6 _ _ ⟨⟨Nat.lt_succ_self _, k2.symm⟩, .inr hown.one⟩
    | succ j =>
      have hj' : (ansL (σ.nx + 1) ts).1[j]? = some x := by simpa [ansL] using hj
      exact h8 j x v hj' (by simpa using hv)
/-- The same, component by component. -/
theorem Rel.addAlls : ∀ (qs : List (Bool × List T)) {σ : VS} {G : Ghost} (uss : List (List Value)) (F : Nat → Nat → Nat → Prop), Rel E N σ a w G → uss.length = qs.length →
    (∀ (c : Nat) (ag : Bool) (ts : List T) (us : List Value), qs[c]? = some (ag, ts) → uss[c]? = some us → us.length = ts.length ∧ ∀ (j : Nat) (t : T) (u : Value), ts[j]? = some t → us[j]? = some u → Own w 0 t u (F c j)) → (∀ c j b, F c j b → Fresh σ G b ∧ (E.B ≤ b ∨ E.ln b) ∧ b < w.heap.size) →
    (∀ c j c' j' b, F c j b → F c' j' b → c = c' ∧ j = j') → ∃ G', Rel E N (ansSs σ qs) a w G' ∧ (∀ x u, Holds G σ E w x u → Holds G' (ansSs σ qs) E w x u) ∧ (ansLs σ.nx qs).length = qs.length ∧
      (∀ (c : Nat) (ag : Bool) (xs : List Leaf) (us : List Value), (ansLs σ.nx qs)[c]? = some (ag, xs) → uss[c]? = some us → us.length = xs.length ∧ (∃ ts, qs[c]? = some (ag, ts)) ∧ ∀ (j : Nat) (x : Leaf) (u : Value), xs[j]? = some x → us[j]? = some u → Holds G' (ansSs σ qs) E w x u) ∧
      σ.nx ≤ (ansSs σ qs).nx ∧ (∀ i, i < σ.nx → G'.vl i = G.vl i) ∧ G'.β = G.β ∧ ∀ i, σ.nx ≤ i → i < (ansSs σ qs).nx → ∀ b, (G'.vl i).ownBlock = some b → ∃ c j, F c j b
  | [], σ, G, uss, F, h, hl, ho, hF, hd => ⟨G, h, fun x u hx => hx, rfl, fun c ag xs us hc => by simp [ansLs] at hc, Nat.le_refl _, fun _ _ => rfl, rfl, fun i h1 h2 => absurd h2 (Nat.not_lt.2 h1)⟩
  | (ag0, ts) :: qs, σ, G, us :: uss, F, h, hl, ho, hF, hd => by
    obtain ⟨hlen, ho0⟩ := ho 0 ag0 ts us rfl rfl
    obtain ⟨G1, h1, h2, h3, h4, h5, h6, h7, h8, h9, h10, h11⟩ := Rel.addAll ts us (F 0) h hlen ho0 (hF 0) fun i j b hi hj => (hd 0 i 0 j b hi hj).2
    obtain ⟨G2, k1, k2, k3, k4, k5, k6, k7, k8⟩ := Rel.addAlls qs uss (fun c => F (c + 1)) h1 (by simpa using hl) (fun c ag ts us hc hu => ho (c + 1) ag ts us (by simpa using hc) (by simpa using hu))
      (fun c j b hb => ⟨h5 b (hF _ j b hb).1 fun j' hb' => by have := (hd _ _ _ _ b hb hb').1; omega, (hF _ j b hb).2⟩) fun c j c' j' b hb hb' => by have := hd _ _ _ _ b hb hb'; exact ⟨by omega, this.2⟩
    refine ⟨G2, k1, fun x u hx => k2 x u (h6 x u hx), by rw [h3] at k3; simp [ansLs, k3], fun c ag xs vs hc hv => ?_, Nat.le_trans h4 k5, fun i hi => (k6 i (Nat.lt_of_lt_of_le hi h4)).trans (h9 i hi), k7.trans h10, fun i e1 e2 b e3 => ?_⟩
    rotate_left
    · rcases Nat.lt_or_ge i (ansS σ ts).nx with hi | hi
      · rw [k6 i hi] at e3
        obtain ⟨j, hj⟩ := h11 i e1 hi b e3
        exact ⟨0, j, hj⟩
      · obtain ⟨c, j, hj⟩ := k8 i hi e2 b e3
        exact ⟨c + 1, j, hj⟩
    cases c with
    | zero =>
      cases hv
      have hc' : (ag0, (ansL σ.nx ts).1) = (ag, xs) := by simpa [ansLs] using hc
      injection hc' with e1 e2
      subst e1 e2
      exact ⟨hlen.trans h7.symm, ⟨ts, rfl⟩, fun j x u hj hu => k2 x u (h8 j x u hj hu)⟩
    | succ c =>
      have hc' : (ansLs (ansS σ ts).nx qs)[c]? = some (ag, xs) := by rw [h3]; simpa [ansLs] using hc
      obtain ⟨e1, e2, e3⟩ := k4 c ag xs vs hc' (by simpa using hv)
      exact ⟨e1, by obtain ⟨ts', e2⟩ := e2; exact ⟨ts', by simpa using e2⟩, e3⟩
/-- A call that is told by trees. -/
theorem ok_call {P : Program} {d : Nat} {f : FuncId} {xs : List Operand} {ats : Array TypeId} {qs : List (Bool × List T)} {tup : Bool} {rs : List (Bool × List T)} {ls : List (Bool × List Leaf)} (hk : ansLs σ.nx rs = ls) (ho : o.op = .call { callee := .value (.func f), args := xs.toArray, argTypes := ats }) (hb : ∃ fn c, P.funcs[f]? = some fn ∧ fn.body = some c ∧ fn.name ≠ "runtime.NumGoroutine")
    (hc : VC P f qs tup rs) (hx : σ.argss xs qs) (hd : o.dst = some d) (hdN : d < N) : OpMk P E N none σ o ((ansSs σ rs).put d ⟨tup, ls⟩) :=
  fun a w G K Q h k => by
    subst hk
    obtain ⟨fn, c, h1, h2, h2'⟩ := hb
    have hcall := hc w (xs.map a.eval) (h.args hx)
    have hrun : (execOp a.eval o).run P w = .ok (.enter f (xs.map a.eval).toArray) w := by
      simp [execOp, ho, resolve, Act.eval, Deferred.ofValue, invoke, callFunc, h1, h2, h2', Result.andThen]
    unfold Oper.wp
    rw [hrun]
    refine hcall.mono fun e w' ⟨uss, F, h3, h4, h5, h6, h6', h7'⟩ => ?_
    have h7 : Below w.heap.size w w' := ⟨h7'.os, h7'.tape, h7'.output, h7'.size, fun k hk => h7'.block k (Env.of_old.2 hk)⟩
    subst h4
    have h' := h.ext h7
    obtain ⟨G', k1, k2, k3, k4, k5, k6, k7, k8⟩ := h'.addAlls rs uss F h3 (fun c ag ts us hc hu => ⟨(h5 c ag ts us hc hu).1, fun j t u hj hu' => (h5 c ag ts us hc hu).2 j t u hj hu'⟩) (fun c j b hb => by
      have hbw : w.heap.size ≤ b := (h6' c j b hb).1.elim id fun h => h.elim
      exact ⟨⟨fun i hi hf => by have := (h.ftlt i b hi hf).2; omega, (h.fresh hbw).2⟩, .inl (Nat.le_trans h.low hbw), (h6' c j b hb).2⟩) h6
    rw [hd]
    refine k _ _ _ (k1.put hdN ⟨uss, h3.trans k3.symm, ?_, fun c ag xs us hc hu => ⟨(k4 c ag xs us hc hu).1, (k4 c ag xs us hc hu).2.2⟩⟩) ⟨h7.size, .of_below (h7.mono h.low), k6, fun b _ => by rw [k7], fun b hb => .inl (h7.block b hb), fun i e1 e2 b e3 => by obtain ⟨c, j, hj⟩ := k8 i e1 e2 b e3; exact .inl ((h6' c j b hj).1.elim id fun h => h.elim)⟩
    congr 1
    apply List.ext_getElem?
    intro c
    rw [List.getElem?_zipWith, List.getElem?_zipWith]
    cases hq : (ansLs σ.nx rs)[c]? with
    | none =>
      have : rs[c]? = none := by rw [List.getElem?_eq_none_iff] at hq ⊢; omega
      rw [this]
    | some q =>
      obtain ⟨ag, xs'⟩ := q
      have hcl : c < uss.length := by have := get_lt hq; omega
      obtain ⟨-, ⟨ts, hts⟩, -⟩ := k4 c ag xs' uss[c] hq (List.getElem?_eq_getElem hcl)
      rw [hts, List.getElem?_eq_getElem hcl]
/-! ### Literals of slices -/
/-- An empty literal. -/
theorem ok_lit0 {d : Nat} {t ty : TypeId} {n bytes : Nat} {z : Value} (I : ElT t ty n z bytes) {kk : Nat} (hk : σ.nx = kk) (ho : o.op = .buildSlice t 0 #[]) (hd : o.dst = some d) (hdN : d < N) : OpMk Try.prog E N none σ o ((σ.new (.seq ty [])).put d (V.one (.hd kk))) :=
  fun a w G K Q h k => by
    subst hk
    obtain ⟨i0, hi, hz0, hz1, hz2⟩ := info_parts I.inf
    have hrun : (Instr.buildSlice t 0 #[]).run Try.prog w = .ok (.slice (some ⟨w.heap.size, 0, none⟩) 0 0) (w.alloc (.cells #[] ty)) := by
      simp [Instr.buildSlice, run_underlying I.und, sizeOf, Lib.rl_info ty i0 hi, Instr.fill, newRow, Result.andThen]
      exact congrArg (fun c => w.alloc (.cells c ty)) (by apply Array.ext <;> simp)
    obtain ⟨G', hG', ⟨hvl, hvls, hβs⟩, -, -⟩ := h.renew [] (fun x hx => by cases hx) (w' := w.alloc (.cells #[] ty)) (t := .seq ty []) (v := .slice (some ⟨w.heap.size, 0, none⟩) 0 0) (F := fun b => b = w.heap.size) (fun _ => False) (.of_below ((Below.refl _ _).alloc h.low _)) (fun k hk _ => Below.heap_alloc _ _ _ hk) (fun b hb => hb.elim)
      (.seq n I.pos I.sz (fun e he => by cases he) [] (World.ownsRow_made w #[] 0 (Nat.zero_le _) (Nat.zero_le _) (by simp)) (fun _ _ => False) (fun k e j t u h => by simp at h) (fun u hu => by cases hu) (fun b hb => by cases hb; rfl) (fun q b hb => hb.elim) (fun q b hb => hb.elim) fun q q' b hb => hb.elim)
      ⟨_, _, rfl⟩ fun b hb => ⟨by subst hb; exact ⟨.inl h.low, by simp⟩, .inl (h.fresh (by rw [hb]; exact Nat.le_refl _))⟩
    refine wp_value (v := .slice (some ⟨w.heap.size, 0, none⟩) 0 0) (w' := w.alloc (.cells #[] ty)) ?_ (by rw [hd]; exact k _ _ _ (hG'.put hdN (vone.2 ⟨⟨Nat.lt_succ_self _, hvl.symm⟩, .inr rfl⟩)) ⟨by simp, .of_below ((Below.refl _ _).alloc h.low _), hvls, fun b _ => by rw [hβs], fun b hb => .inl (Below.heap_alloc _ _ _ hb), fun i e1 e2 b e3 => .inl (by
      have hi : i = σ.nx := Nat.le_antisymm (Nat.le_of_lt_succ e2) e1
      rw [hi, hvl] at e3
      rw [← Option.some.inj e3]; exact Nat.le_refl _)⟩)
    simp [execOp, ho, hrun, Result.andThen]
/-- A literal of one element. -/
theorem ok_lit1 {d : Nat} {t ty : TypeId} {n bytes : Nat} {z : Value} {x : Operand} {ag : Bool} {xs : List Leaf} {ts : List T} (I : ElT t ty n z bytes) {kk : Nat} (hk : σ.nx = kk) (ho : o.op = .buildSlice t 1 #[(0, x)]) (hx : σ.ev x = V.flat ag xs) (hl : xs.length = n) (hag : ag = false → n = 1) (ht : σ.outs xs ts) (h2 : xs.Pairwise two) (hd : o.dst = some d) (hdN : d < N) : OpMk Try.prog E N none σ o (((σ.kills xs).new (.seq ty [ts])).put d (V.one (.hd kk))) :=
  fun a w G K Q h k => by
    subst hk
    obtain ⟨i0, hi, hz0, hz1, hz2⟩ := info_parts I.inf
    have hxv := h.ev x
    rw [hx, vflat] at hxv
    obtain ⟨us, h3, h4, h5⟩ := hxv
    obtain ⟨h6, h7⟩ := outs_get ht
    have htl : ts.length = n := by omega
    have hown : ∀ (j : Nat) (t : T) (u : Value), ts[j]? = some t → us[j]? = some u → ∃ x, xs[j]? = some x ∧ Own w 0 t u (x.foot G) := fun j t u hj hu => by
      obtain ⟨y, hy1, hy2⟩ := h7 j t hj
      exact ⟨y, hy1, h.out (h5 j y u hy1 hu) hy2⟩
    have hone : ∀ u ∈ us, u.oneCell' = true := fun u hu => by
      obtain ⟨j, hj, rfl⟩ := List.getElem_of_mem hu
      obtain ⟨y, -, hy⟩ := hown j ts[j] us[j] (List.getElem?_eq_getElem (by omega)) (List.getElem?_eq_getElem hj)
      exact hy.one
    have hcells : (cval ag us).cells = us.toArray := cval_cells fun e => ⟨by rw [h4, hl]; exact hag e, hone⟩
    have hrun : (Instr.buildSlice t 1 #[(0, cval ag us)]).run Try.prog w = .ok (.slice (some ⟨w.heap.size, 0, none⟩) 1 1) (w.alloc (.cells us.toArray ty)) := by
      refine run_buildSlice w t ty 1 _ us.toArray i0 z I.und hi hz0 ?_ ?_ ?_
      · rw [hz1]
        have := I.few
        omega
      · rw [hz1]; have := I.pos; omega
      · obtain ⟨r, hr1, hr2, hr3⟩ := Great.fill_dense (s := i0.size) (by rw [hz1]; exact I.pos) [cval ag us] 0 ((Array.range (1 * i0.size)).map (z.cells[· % z.cells.size]!)) (fun v hv => by rw [List.mem_singleton.1 hv, hcells, hz1]; simp [h4, hl]) (by simp)
        have e : r = us.toArray := by
          apply Array.ext_getElem?
          intro q
          rw [hr3 q]
          rcases Nat.lt_or_ge q i0.size with hq | hq
          · rw [if_pos ⟨by omega, by simp; exact hq⟩]
            simp [Nat.div_eq_of_lt hq, Nat.mod_eq_of_lt hq, hcells]
          · rw [if_neg (by simp; omega)]
            have h8 : us.toArray[q]? = none := by simp; omega
            rw [h8, Array.getElem?_eq_none (by simp; omega)]
        rw [← e]
        simpa using hr1
    have hfoot : ∀ (j : Nat) (b : Nat), (∃ y, xs[j]? = some y ∧ y.foot G b) → (E.B ≤ b ∨ E.ln b) ∧ b < w.heap.size := fun j b ⟨y, hy, hb⟩ => by
      cases y with
      | hd i =>
        have hjt : j < ts.length := by rw [← h6]; exact get_lt hy
        obtain ⟨y', hy1, hy2⟩ := h7 j ts[j] (List.getElem?_eq_getElem hjt)
        rw [hy] at hy1
        cases hy1
        obtain ⟨p, e1, -⟩ := Option.map_eq_some_iff.1 hy2
        exact h.ftlt i b (by rw [e1]; simp) hb
      | _ => exact hb.elim
    obtain ⟨G', hG', ⟨hvl, hvls, hβs⟩, -, -⟩ := h.renew xs (fun y hy => by
        obtain ⟨j, hj, rfl⟩ := List.getElem_of_mem hy
        obtain ⟨y', hy1, hy2⟩ := h7 j ts[j] (List.getElem?_eq_getElem (by omega))
        rw [List.getElem?_eq_getElem hj] at hy1
        exact ⟨_, by rw [Option.some.inj hy1]; exact hy2⟩) (w' := w.alloc (.cells us.toArray ty)) (t := .seq ty [ts]) (v := .slice (some ⟨w.heap.size, 0, none⟩) 1 1) (F := fun b => b = w.heap.size ∨ ∃ j y, xs[j]? = some y ∧ y.foot G b) (fun _ => False) (.of_below ((Below.refl _ _).alloc h.low _)) (fun k hk _ => Below.heap_alloc _ _ _ hk) (fun b hb => hb.elim)
      (.seq n I.pos I.sz (fun e he => by rw [List.mem_singleton.1 he]; exact htl) us ⟨by simp [h4, hl],   .inr ⟨w.heap.size, 1, us.toArray, rfl, Nat.zero_le _, heap_alloc_new _ _, Nat.le_refl _, by unfold maxLen; omega, by simp [h4, hl], by rw [List.length_singleton, Nat.one_mul]; exact List.take_of_length_le (by simp; omega)⟩⟩ (fun q b => ∃ y, xs[q]? = some y ∧ y.foot G b) (fun k e j t' u hk hj hu => by
          have hk0 : k = 0 := by have := get_lt hk; simpa using this
          subst hk0
          cases hk
          rw [Nat.zero_mul, Nat.zero_add] at hu ⊢
          obtain ⟨y, hy1, hy2⟩ := hown j t' u hj hu
          exact (hy2.frame fun b hb => Below.heap_alloc _ _ _ (hfoot j b ⟨y, hy1, hb⟩).2).mono fun b hb => ⟨y, hy1, hb⟩) hone (fun b hb => .inl (Option.some.inj hb).symm) (fun q b hb => .inr ⟨q, hb⟩) (fun q b hb e => by
          have := (hfoot q b hb).2
          have := Option.some.inj e
          simp at this
          omega) fun q q' b hb hb' => by
          obtain ⟨y, hy1, hy2⟩ := hb
          obtain ⟨y', hy1', hy2'⟩ := hb'
          cases y with
          | hd i =>
            cases y' with
            | hd i' =>
              by_cases hii : i = i'
              · subst hii
                have hq := get_lt hy1
                have hq' := get_lt hy1'
                rcases Nat.lt_trichotomy q q' with hlt | hlt | hlt
                · have := (List.pairwise_iff_getElem.1 h2) q q' hq hq' hlt i (by rw [List.getElem?_eq_getElem hq] at hy1; exact Option.some.inj hy1)
                  rw [List.getElem?_eq_getElem hq'] at hy1'
                  exact absurd (Option.some.inj hy1') this
                · exact hlt
                · have := (List.pairwise_iff_getElem.1 h2) q' q hq' hq hlt i (by rw [List.getElem?_eq_getElem hq'] at hy1'; exact Option.some.inj hy1')
                  rw [List.getElem?_eq_getElem hq] at hy1
                  exact absurd (Option.some.inj hy1) this
              · have hlive : ∀ (q i : Nat), xs[q]? = some (Leaf.hd i) → σ.ob i ≠ none := fun q i hy => by
                  have hqt : q < ts.length := by rw [← h6]; exact get_lt hy
                  obtain ⟨y', hy1, hy2⟩ := h7 q ts[q] (List.getElem?_eq_getElem hqt)
                  have e0 : Leaf.hd i = y' := by rw [hy] at hy1; exact Option.some.inj hy1
                  rw [← e0] at hy2
                  obtain ⟨p, e1, -⟩ := Option.map_eq_some_iff.1 hy2
                  rw [e1]; simp
                exact (h.disj i i' b (hlive q i hy1) (hlive q' i' hy1') hii hy2 hy2').elim
            | _ => exact hy2'.elim
          | _ => exact hy2.elim)
      ⟨_, _, rfl⟩ fun b hb => by
        rcases hb with rfl | ⟨j, y, hy1, hy2⟩
        · exact ⟨⟨.inl h.low, by simp⟩, .inl (h.fresh (Nat.le_refl _))⟩
        · have := hfoot j b ⟨y, hy1, hy2⟩
          exact ⟨⟨this.1, by simp; omega⟩, .inr ⟨y, get_mem hy1, hy2⟩⟩
    refine wp_value (v := .slice (some ⟨w.heap.size, 0, none⟩) 1 1) (w' := w.alloc (.cells us.toArray ty)) ?_ (by rw [hd]; exact k _ _ _ (hG'.put hdN (vone.2 ⟨⟨Nat.lt_succ_self _, hvl.symm⟩, .inr rfl⟩)) ⟨by simp, .of_below ((Below.refl _ _).alloc h.low _), hvls, fun b _ => by rw [hβs], fun b hb => .inl (Below.heap_alloc _ _ _ hb), fun i e1 e2 b e3 => .inl (by
      have hi : i = σ.nx := Nat.le_antisymm (Nat.le_of_lt_succ e2) e1
      rw [hi, hvl] at e3
      rw [← Option.some.inj e3]; exact Nat.le_refl _)⟩)
    simp [execOp, ho, h3, hrun, Result.andThen]
end Go.Proofs.Ytlnjgoommpeioaa.V
