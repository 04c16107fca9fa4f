/- States told by trees: stretches, struct literals, parts of structs, stores into slices, guarded operations. -/
import Derived.Test.YtjdjceohlcimaaaVD
namespace Go.Proofs.Ytjdjceohlcimaaa.V
open Go Go.RowKit
set_option linter.unusedVariables false
set_option linter.unusedSimpArgs false
variable {P : Program} {E : Env} {N nb : Nat} {σ σ' τ : VS} {o : Oper} {a : Act} {w : World} {G : Ghost} {Q : Exit → Act → World → Prop}
/-! ### Stretches -/
def Leaf.cutTo (σ : VS) (lf : Leaf) (t : T) : Leaf := match lf with
  | .ro _ => .ro t
  | .hd i => match σ.ob i with
    | some (ver, _) => .nd i ver t none
    | none => .dead
  | .nd i ver _ _ => .nd i ver t none
  | _ => .dead
def optEv (σ : VS) (x : Option Operand) (k : Nat) (dflt : Nat) : Prop := match x with
  | none => k = dflt
  | some y => ∃ ki, σ.ev y = V.one (.sc (.int ki (k : Nat)))
theorem cut_inn {ok : Nat → Prop} {ty : TypeId} {es : List (List T)} {l h n : Nat} {ad : Option Addr} {c : Nat} (hi : Inn ok w (.seq ty es) (.slice ad es.length c)) (hlh : l ≤ h) (hh : h ≤ es.length) (hz : Sz ty n) : Inn ok w (.seq ty ((es.take h).drop l)) (.slice (if c = l then ad else ad.map (·.add (l * n))) (h - l) (c - l)) := by
  obtain ⟨ad', c', n', h1, hc, hm, ha0, hp, hz', hn, b, o', us, ha, hb, hcell, hr⟩ := inn_seq hi
  injection h1 with e1 e2 e3
  subst e1 e3
  have hnn := hz'.eq hz
  subst hnn
  have hlen : ((es.take h).drop l).length = h - l := by rw [List.length_drop, List.length_take]; omega
  have hget : ∀ k e, ((es.take h).drop l)[k]? = some e → es[l + k]? = some e := fun k e hk => by
    rw [List.getElem?_drop, List.getElem?_take] at hk
    split at hk
    · exact hk
    · cases hk
  rw [← hlen]
  refine .seq n' hp hz' (fun e he => ?_) (by rw [hlen]; omega) (by omega) (fun h0 => ?_) b (o' + l * n') (fun q => us (l * n' + q)) (fun y hy hne => ?_) (fun hne => ?_) (fun k e j t hk hj => ?_) fun k e j t hk hj => ?_
  · obtain ⟨k, hk, rfl⟩ := List.getElem_of_mem he
    exact hn _ (get_mem (hget k _ (List.getElem?_eq_getElem hk)))
  · have : ad = none := by
      split at h0
      · exact h0
      · cases ad with
        | none => rfl
        | some x => cases h0
    have := ha0 this
    omega
  · have hes : es ≠ [] := fun e => hne (by rw [e]; simp)
    have hpos : 0 < h - l := by
      rcases Nat.eq_zero_or_pos (h - l) with hq | hq
      · exact absurd (List.eq_nil_of_length_eq_zero (hlen.trans hq)) hne
      · exact hq
    rw [if_neg (by omega)] at hy
    cases had : ad with
    | none => rw [had] at hy; cases hy
    | some x =>
      rw [had] at hy
      have hx := ha x had hes
      rw [hx] at hy
      have := Option.some.inj hy
      rw [← this]
      show (⟨b, o', none⟩ : Addr).add (l * n') = _
      rw [Addr.add_lit]
  · exact hb fun e => hne (by rw [e]; simp)
  · have := hcell (l + k) e j t (hget k e hk) hj
    rw [Nat.add_mul, Nat.add_assoc (l * n')] at this
    rw [Nat.add_assoc o']
    exact this
  · have := hr (l + k) e j t (hget k e hk) hj
    rwa [Nat.add_mul, Nat.add_assoc (l * n')] at this
theorem ok_slice {x : Operand} {lo hi : Option Operand} {l h n : Nat} {lf : Leaf} {ty t : TypeId} {es : List (List T)} {yy : Leaf} (hk : lf.cutTo σ (.seq ty ((es.take h).drop l)) = yy) (ho : o.op = .slice t x lo hi none) (hu : Try.prog.underlying t = some (.slice ty)) (hz : Sz ty n) (hx : σ.ev x = V.one lf) (ht : σ.tr lf = some (.seq ty es)) (hlo : optEv σ lo l 0) (hhi : optEv σ hi h es.length) (hlh : l ≤ h) (hh : h ≤ es.length) :
    OpL Try.prog E N nb σ o (V.one yy) :=
  fun a w G hr => by
    subst hk
    have h0 := hr.ev x
    rw [hx, vone] at h0
    have hin := hr.head hx ht
    obtain ⟨ad, c, n', h1, hc, hm, ha0, hp, hz', hn, b, o', us, ha, hb, hcell, hr2⟩ := inn_seq hin
    rw [h1] at hin
    have hnn := hz'.eq hz
    subst hnn
    obtain ⟨inf, hinf, hsz⟩ := hz
    have hcut := cut_inn hin hlh hh hz'
    refine ⟨.slice (if c = l then ad else ad.map (·.add (l * n'))) (h - l) (c - l), fun v' _ => ?_, vone.2 ?_⟩
    · have e1 : ∀ (x' : Option Operand) (k d : Nat), optEv σ x' k d → (x' = none ∧ k = d) ∨ ∃ y ki, x' = some y ∧ a.eval y = .int ki (k : Nat) := fun x' k d he => by
        cases x' with
        | none => exact .inl ⟨rfl, he⟩
        | some y =>
          obtain ⟨ki, hy⟩ := he
          exact .inr ⟨y, ki, rfl, hr.sc hy⟩
      have hlc : l ≤ c := by omega
      have hhc : h ≤ c := by omega
      rcases e1 lo l 0 hlo with ⟨rfl, rfl⟩ | ⟨y, ki, rfl, hy⟩ <;> rcases e1 hi h es.length hhi with ⟨rfl, rfl⟩ | ⟨y', ki', rfl, hy'⟩ <;>
        simp [execOp, ho, h1, Instr.sliceAt, Instr.slice, Instr.sliceBounds, Instr.sliceBound, asIntOf, run_underlying hu, sizeOf, Lib.rl_info ty inf hinf, hsz, Result.andThen, *]
    · cases lf with
      | ro s => exact ⟨hcut, .inr rfl⟩
      | hd i =>
        obtain ⟨⟨ver, s⟩, k1, k2⟩ := Option.map_eq_some_iff.1 ht
        have e : Leaf.cutTo σ (.hd i) (.seq ty ((es.take h).drop l)) = .nd i ver (.seq ty ((es.take h).drop l)) none := by
          show (match σ.ob i with | some (ver, _) => Leaf.nd i ver _ none | none => .dead) = _
          rw [k1]
        rw [e]
        exact ⟨⟨h0.1.1, fun v t' hv => by rw [k1] at hv; cases hv; exact Nat.le_refl _, fun _ => ⟨hcut, fun k o e => by cases e⟩⟩, .inr rfl⟩
      | nd i ver s loc => exact ⟨⟨h0.1.1, h0.1.2.1, fun _ => ⟨hcut, fun k o e => by cases e⟩⟩, .inr rfl⟩
      | _ => exact ⟨trivial, .inl rfl⟩
/-! ### Parts of a struct's value -/
theorem ok_part {x : Operand} {f off m : Nat} {ty : TypeId} {ag : Bool} {xs ys : List Leaf} (ho : o.op = .field ty x f) (hx : σ.ev x = V.flat true xs) (hf : ∀ (us : List Value) w, us.length = xs.length → (Instr.field ty (.agg us.toArray) f).run P w = .ok (cval ag ((us.drop off).take m)) w) (hy : (xs.drop off).take m = ys) : OpL P E N nb σ o (V.flat ag ys) :=
  fun a w G hr => by
    have h1 := hr.ev x
    rw [hx, vflat] at h1
    obtain ⟨us, h2, h3, h4⟩ := h1
    refine ⟨cval ag ((us.drop off).take m), fun v' _ => ?_, vflat.2 ⟨_, rfl, ?_, fun j y u hj hu => h4 (off + j) y u (cut_get (by rw [hy]; exact hj)) (cut_get hu)⟩⟩
    · have : cval true us = .agg us.toArray := rfl
      simp [execOp, ho, h2, this, hf us v' h3, Result.andThen]
    · rw [← hy]; simp only [List.length_take, List.length_drop]; omega
/-! ### Struct literals -/
def fillL (pl : Nat → Option (Nat × Nat)) : List Leaf → List (Nat × List Leaf) → Option (List Leaf)
  | cs, [] => some cs
  | cs, (i, v) :: rest => match pl i with
    | none => none
    | some (off, size) => bif (!Nat.beq v.length size) || Nat.blt cs.length (off + v.length) then none else fillL pl (cs.take off ++ v ++ cs.drop (off + v.length)) rest
def Aligned (R : Leaf → Value → Prop) : List (Nat × List Leaf) → List (Nat × Value) → Prop
  | [], [] => True
  | p :: ps, v :: vs => (p.1 = v.1 ∧ v.2.cells.size = p.2.length ∧ ∀ (j : Nat) (x : Leaf) (u : Value), p.2[j]? = some x → v.2.cells[j]? = some u → R x u) ∧ Aligned R ps vs
  | _, _ => False
theorem fill_holds {R : Leaf → Value → Prop} {pl : Nat → Option (Nat × Nat)} : ∀ (ps : List (Nat × List Leaf)) (vs : List (Nat × Value)) (zs : List Leaf) (cells : Array Value) (ys : List Leaf), Aligned R ps vs → cells.size = zs.length → (∀ (j : Nat) (x : Leaf) (u : Value), zs[j]? = some x → cells[j]? = some u → R x u) → fillL pl zs ps = some ys →
    ∃ r, Instr.fill pl cells vs = some r ∧ r.size = ys.length ∧ ∀ (j : Nat) (x : Leaf) (u : Value), ys[j]? = some x → r[j]? = some u → R x u
  | [], [], zs, cells, ys, _, hs, hR, hf => by
    cases hf
    exact ⟨cells, rfl, hs, hR⟩
  | (i, xs) :: ps, (i', v) :: vs, zs, cells, ys, ha, hs, hR, hf => by
    obtain ⟨⟨h1, h2, h3⟩, h4⟩ := ha
    have h1' : i = i' := h1
    subst h1'
    replace h2 : v.cells.size = xs.length := h2
    replace h3 : ∀ (j : Nat) (x : Leaf) (u : Value), xs[j]? = some x → v.cells[j]? = some u → R x u := h3
    unfold fillL at hf
    cases hp : pl i with
    | none => rw [hp] at hf; cases hf
    | some q =>
      obtain ⟨off, size⟩ := q
      rw [hp] at hf
      simp only at hf h2 h3
      cases hb : ((!Nat.beq xs.length size) || Nat.blt zs.length (off + xs.length)) with
      | true => rw [hb] at hf; cases hf
      | false =>
        rw [hb] at hf
        rw [Bool.or_eq_false_iff] at hb
        have e1 : xs.length = size := nbeq.1 (by simpa using hb.1)
        have e2 : ¬ zs.length < off + xs.length := fun hlt => by
          have h9 := hb.2
          rw [show Nat.blt zs.length (off + xs.length) = true from Nat.ble_eq_true_of_le hlt] at h9
          cases h9
        obtain ⟨g1, g2⟩ := Great.foldl_set off v.cells.toList 0 cells
        have hfold : (v.cells.zipIdx.foldl (fun cs (x : Value × Nat) => cs.setIfInBounds (off + x.2) x.1) cells) = ((v.cells.toList.zipIdx 0).foldl (fun cs (x : Value × Nat) => cs.setIfInBounds (off + x.2) x.1) cells) := by
          rw [← Array.foldl_toList, Array.toList_zipIdx]
        obtain ⟨r, k1, k2, k3⟩ := fill_holds ps vs (zs.take off ++ xs ++ zs.drop (off + xs.length)) _ ys h4 (by rw [g1]; simp; omega) (fun j x u hj hu => by
          rw [g2 j] at hu
          simp only [Nat.add_zero, Array.length_toList, h2] at hu
          rw [List.append_assoc] at hj
          by_cases hc : off ≤ j ∧ j < off + xs.length ∧ j < cells.size
          · rw [if_pos hc] at hu
            rw [List.getElem?_append_right (by rw [List.length_take]; omega), List.length_take, Nat.min_eq_left (by omega), List.getElem?_append_left (by omega)] at hj
            exact h3 (j - off) x u hj (by simpa using hu)
          · rw [if_neg hc] at hu
            have hjc : j < cells.size := by
              rcases Nat.lt_or_ge j cells.size with h | h
              · exact h
              · rw [Array.getElem?_eq_none h] at hu; cases hu
            rcases Nat.lt_or_ge j off with hlt | hge
            · rw [List.getElem?_append_left (by rw [List.length_take]; omega), List.getElem?_take, if_pos hlt] at hj
              exact hR j x u hj hu
            · rw [List.getElem?_append_right (by rw [List.length_take]; omega), List.length_take, Nat.min_eq_left (by omega), List.getElem?_append_right (by omega), List.getElem?_drop] at hj
              have : off + xs.length + (j - off - xs.length) = j := by omega
              rw [this] at hj
              exact hR j x u hj hu) hf
        refine ⟨r, ?_, k2, k3⟩
        unfold Instr.fill
        simp only [hp]
        rw [if_neg (by rw [h2, e1, hs]; simp; omega), ← k1]
        congr 1
def VS.partsOk (σ : VS) : List (Nat × Operand) → List (Nat × List Leaf) → Prop
  | [], [] => True
  | p :: ps, q :: qs => (p.1 = q.1 ∧ ∃ ag, σ.ev p.2 = V.flat ag q.2 ∧ (ag = false → q.2.length = 1) ∧ q.2.all Leaf.live = true) ∧ σ.partsOk ps qs
  | _, _ => False
theorem parts_aligned (h : Rel E N σ a w G) : ∀ {ps : List (Nat × Operand)} {qs : List (Nat × List Leaf)}, σ.partsOk ps qs → Aligned (Holds G σ E w) qs (ps.map fun (i, x) => (i, a.eval x))
  | [], [], _ => trivial
  | (i, x) :: ps, (i', xs) :: qs, hp => by
    obtain ⟨⟨h1, ag, h2, h3, h3'⟩, h4⟩ := hp
    have h5 := h.ev x
    rw [h2, vflat] at h5
    obtain ⟨us, h6, h7, h8⟩ := h5
    replace h7 : us.length = xs.length := h7
    have h9 : (a.eval x).cells = us.toArray := by
      rw [h6]
      refine cval_cells fun e => ⟨h7.trans (h3 e), fun u hu => ?_⟩
      obtain ⟨j, hj, rfl⟩ := List.getElem_of_mem hu
      have hj' : j < xs.length := by omega
      exact (h8 j xs[j] us[j] (List.getElem?_eq_getElem hj') (List.getElem?_eq_getElem hj)).one (List.all_eq_true.1 h3' _ (List.getElem_mem hj'))
    exact ⟨⟨h1.symm, by show (a.eval x).cells.size = xs.length; rw [h9]; simpa using h7, fun j y u hj hu => by
      replace hu : (a.eval x).cells[j]? = some u := hu
      rw [h9] at hu
      exact h8 j y u hj (by simpa using hu)⟩, parts_aligned h h4⟩
theorem ok_build {ty : TypeId} {parts : Array (Nat × Operand)} {z : Value} {zs ys : List Leaf} {qs : List (Nat × List Leaf)} {pl : Nat → Option (Nat × Nat)} (ho : o.op = .build ty parts) (hz : ∀ w, (zeroValue ty).run P w = .ok z w) (hzl : ZL zs z.cells.toList) (hp : σ.partsOk parts.toList qs)
    (hb : ∀ (vs : Array (Nat × Value)) (r : Array Value) w, Instr.fill pl z.cells vs.toList = some r → (Instr.build ty vs).run P w = .ok (.agg r) w) (hf : fillL pl zs qs = some ys) : OpL P E N nb σ o (V.flat true ys) :=
  fun a w G hr => by
    obtain ⟨r, h1, h2, h3⟩ := fill_holds qs _ zs z.cells ys (parts_aligned hr hp) (by have := hzl.len; simpa using this) (fun j x u hj hu => (hzl.holds j x u hj (by simpa using hu)).1) hf
    refine ⟨.agg r, fun v' _ => ?_, vflat.2 ⟨r.toList, by simp [cval], by simpa using h2, fun j x u hj hu => h3 j x u hj (by simpa using hu)⟩⟩
    have := hb (parts.map fun (i, x) => (i, a.eval x)) r v' (by simpa using h1)
    simp [execOp, ho, this, Result.andThen]
/-! ### Guarded operations -/
theorem yielded_at {ops : Array Oper} {j d : Nat} {oj : Oper} {b : Bool} (h : Rel E N σ a w G) (hj : ops[j]? = some oj) (hd : oj.dst = some d) (hdN : d < N) (hv : σ.tm d = V.one (.sc (.bool b))) : yielded ops a.tmps j = some b := by
  have h1 : a.tmps[d]? = some (.bool b) := by
    have h2 := h.tmps d
    rw [hv, vone] at h2
    have h3 : a.tmps.getD d undef = .bool b := h2.1
    have h4 : d < a.tmps.size := by rw [h.nsz]; exact hdN
    simp only [Array.getD_eq_getD_getElem?] at h3
    rw [Array.getElem?_eq_getElem h4] at h3 ⊢
    simpa using h3
  simp [yielded, hj, hd, h1]
/-- The guard is met. -/
theorem SV.opY {ops : Array Oper} {rest : List Oper} {j d : Nat} {oj : Oper} {b c : Bool} (h : OpOk P E N σ o σ') (hg : o.guard = some (j, b)) (hj : ops[j]? = some oj) (hd : oj.dst = some d) (hdN : d < N) (hv : σ.tm d = V.one (.sc (.bool c))) (hc : c = b) (k : SV E N σ' (wpList P ops Q rest)) : SV E N σ (wpList P ops Q (o :: rest)) :=
  fun a w G hr => wpList_step fun K hK => by
    have := yielded_at hr hj hd hdN hv
    rw [if_pos (by simp [Region.wanted, hg, this, hc])]
    exact h a w G K Q hr fun a' w' G' hr' => hK _ _ (k a' w' G' hr')
/-- The guard is not met: the slot is left undefined. -/
theorem SV.opN {ops : Array Oper} {rest : List Oper} {j d d' : Nat} {oj : Oper} {b c : Bool} (hg : o.guard = some (j, b)) (hj : ops[j]? = some oj) (hd : oj.dst = some d) (hdN : d < N) (hv : σ.tm d = V.one (.sc (.bool c))) (hc : c = !b) (hd' : o.dst = some d') (hdN' : d' < N) (k : SV E N (σ.put d' (V.one .dead)) (wpList P ops Q rest)) : SV E N σ (wpList P ops Q (o :: rest)) :=
  fun a w G hr => wpList_skip (by
    have := yielded_at hr hj hd hdN hv
    cases b <;> simp [Region.wanted, hg, this, hc]) (by
    rw [hd']
    exact k _ _ _ (hr.put hdN' (vone.2 ⟨trivial, .inl rfl⟩)))
theorem DW.qN {V' : V} {l : List Oper} {zs : List Nat} {ps : Pl} {fr : List Nat} {cl : Bool} {i j d d' : Nat} {oj : Oper} {b c : Bool} (ho : nthO l i = some o) (hg : o.guard = some (j, b)) (hj : l.toArray[j]? = some oj) (hd : oj.dst = some d) (hdN : d < N) (hv : σ.tm d = V.one (.sc (.bool c))) (hc : c = !b) (hd' : o.dst = some d') (hdN' : d' < N) (hQ : ∀ c (a : Act) v w, Q (.panic c) (a.put o.dst v) w → Q (.panic c) a w)
    (k : DW E N τ fr cl (σ.put d' (V.one .dead)) fun ws Gs a w => wpPi P l.toArray Q (SW E τ ws Gs) zs ps a w) : DW E N τ fr cl σ fun ws Gs a w => wpPi P l.toArray Q (SW E τ ws Gs) zs (.q i ps) a w := fun ws Gs a w G hr hl => by
  refine pi_pass ho (fun c a w => hQ c a undef w) ?_ ?_
  · have := yielded_at hr hj hd hdN hv
    cases b <;> simp [Region.wanted, hg, this, hc]
  · rw [hd']
    exact k ws Gs _ w G (hr.put hdN' (vone.2 ⟨trivial, .inl rfl⟩)) hl.put
theorem DW.qY {V' : V} {l : List Oper} {zs : List Nat} {ps : Pl} {fr : List Nat} {cl : Bool} {i j d d' : Nat} {oj : Oper} {b c : Bool} (ho : nthO l i = some o) (h : OpL P E N τ.bs.length σ o V') (hg : o.guard = some (j, b)) (hj : l.toArray[j]? = some oj) (hd : oj.dst = some d) (hdN : d < N) (hv : σ.tm d = V.one (.sc (.bool c))) (hc : c = b) (hd' : o.dst = some d') (hdN' : d' < N) (hQ : ∀ c (a : Act) v w, Q (.panic c) (a.put o.dst v) w → Q (.panic c) a w)
    (k : DW E N τ fr cl (σ.put d' V') fun ws Gs a w => wpPi P l.toArray Q (SW E τ ws Gs) zs ps a w) : DW E N τ fr cl σ fun ws Gs a w => wpPi P l.toArray Q (SW E τ ws Gs) zs (.q i ps) a w := fun ws Gs a w G hr hl => by
  obtain ⟨u, h1, h2⟩ := h a w G hr
  refine pi_take (v := u) ho (fun c a w => hQ c a u w) ?_ (fun v hv => h1 v (hl.lite hv)) ?_
  · have := yielded_at hr hj hd hdN hv
    simp [Region.wanted, hg, this, hc]
  · rw [hd']
    exact k ws Gs _ w G (hr.put hdN' h2) hl.put
theorem wantedY {ops : Array Oper} {j d : Nat} {oj : Oper} {b c : Bool} (h : Rel E N σ a w G) (hg : o.guard = some (j, b)) (hj : ops[j]? = some oj) (hd : oj.dst = some d) (hdN : d < N) (hv : σ.tm d = V.one (.sc (.bool c))) (hc : c = b) : Region.wanted o (yielded ops a.tmps) = true := by
  have := yielded_at h hj hd hdN hv
  simp [Region.wanted, hg, this, hc]
theorem wantedN {ops : Array Oper} {j d : Nat} {oj : Oper} {b c : Bool} (h : Rel E N σ a w G) (hg : o.guard = some (j, b)) (hj : ops[j]? = some oj) (hd : oj.dst = some d) (hdN : d < N) (hv : σ.tm d = V.one (.sc (.bool c))) (hc : c = !b) : Region.wanted o (yielded ops a.tmps) = false := by
  have := yielded_at h hj hd hdN hv
  cases b <;> simp [Region.wanted, hg, this, hc]
/-- An operation that makes memory, its guard not met: the slot is left undefined. -/
theorem DW.mN {l : List Oper} {zs : List Nat} {ps : Pl} {fr : List Nat} {cl : Bool} {i j d d' : Nat} {oj : Oper} {b c : Bool} (ho : nthO l i = some o) (hg : o.guard = some (j, b)) (hj : l.toArray[j]? = some oj) (hd : oj.dst = some d) (hdN : d < N) (hv : σ.tm d = V.one (.sc (.bool c))) (hc : c = !b) (hd' : o.dst = some d') (hdN' : d' < N)
    (k : DW E N τ fr cl (σ.put d' (V.one .dead)) fun ws Gs a w => wpPi P l.toArray Q (SW E τ ws Gs) zs ps a w) : DW E N τ fr cl σ fun ws Gs a w => wpPi P l.toArray Q (SW E τ ws Gs) zs (.m i ps) a w := fun ws Gs a w G hr hl => by
  refine pi_step ho fun K hK => ?_
  rw [if_neg (by rw [wantedN hr hg hj hd hdN hv hc]; simp)]
  refine hK.out _ w hl.same fun _ => ?_
  rw [hd']
  exact k ws Gs _ w G (hr.put hdN' (vone.2 ⟨trivial, .inl rfl⟩)) hl.put
end Go.Proofs.Ytjdjceohlcimaaa.V
