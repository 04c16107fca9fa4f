/- States told by trees: slices that are read (length, element, stretch). -/
import Derived.Test.YtlnjgoommpeioaaVO
namespace Go.Proofs.Ytlnjgoommpeioaa.V
open Go Go.RowKit
set_option linter.unusedVariables false

theorem Sz.of {ty : TypeId} {n : Nat} (h : (Try.prog.info? ty).map (·.size) = some n) : Sz ty n := by
  cases hi : Try.prog.info? ty with
  | none => rw [hi] at h; cases h
  | some i => rw [hi] at h; exact ⟨i, hi, Option.some.inj h⟩
/-- What may be read of a leaf. -/
def VS.tr (σ : VS) : Leaf → Option T
  | .sc u => some (.lit u)
  | .nl ty => some (.seq ty [])
  | .ro t => some t
  | .hd i => (σ.ob i).map (·.2)
  | .nd i ver t _ => (σ.ob i).bind fun p => bif Nat.beq p.1 ver then some t else none
  | _ => none
/-- Where a leaf's data lie. -/
def Leaf.okIn (G : Ghost) (E : Env) : Leaf → Nat → Prop
  | .hd i => G.ft i
  | .nd i _ _ _ => G.ft i
  | _ => E.old
variable {E : Env} {N : Nat} {σ σ' : VS} {o : Oper} {a : Act} {w : World} {G : Ghost}
theorem Rel.tree (h : Rel E N σ a w G) {x : Leaf} {u : Value} {t : T} (hx : Holds G σ E w x u) (ht : σ.tr x = some t) : Inn (x.okIn G E) w t u := by
  cases x with
  | sc v =>
    cases ht
    obtain ⟨h1, h2⟩ := hx
    rcases h2 with h2 | h2
    · cases h2
    · rw [show u = v from h1] at h2 ⊢
      exact .lit h2
  | nl ty =>
    cases ht
    obtain ⟨⟨h1, n, h2, h3⟩, -⟩ := hx
    rw [h1]
    exact Inn.seq (es := []) n h2 h3 (fun e he => by cases he) (Nat.le_refl _) (Nat.zero_le _) (fun _ => rfl) 0 0 (fun _ => .bool false) (fun _ _ h => absurd rfl h) (fun h => absurd rfl h) (fun k e j t h => by simp at h) fun k e j t h => by simp at h
  | ro s => cases ht; exact hx.1
  | hd i =>
    obtain ⟨⟨ver, s⟩, h1, h2⟩ := Option.map_eq_some_iff.1 ht
    obtain ⟨-, h3, -⟩ := h.objs i ver s h1
    rw [hx.1.2, ← h2]
    exact h3.inn
  | nd i ver s loc =>
    obtain ⟨⟨v, s'⟩, h1, h2⟩ := Option.bind_eq_some_iff.1 ht
    have hv : v = ver := by
      cases hb : Nat.beq v ver with
      | true => exact Nat.eq_of_beq_eq_true hb
      | false => simp only [hb] at h2; cases h2
    subst hv
    have h3 : s = t := by simpa using h2
    subst h3
    exact (hx.1.2.2 ⟨s', h1⟩).1
  | dead => cases ht
  | rp es => cases ht
  | np i v es => cases ht
  | ep i k n o => cases ht
  | bp b o => cases ht
/-- A slice's header, out of what may be read of it. -/
theorem inn_seq {ok : Nat → Prop} {ty : TypeId} {es : List (List T)} {u : Value} (h : Inn ok w (.seq ty es) u) : ∃ (ad : Option Addr) (c n : Nat), u = .slice ad es.length c ∧ es.length ≤ c ∧ c ≤ maxLen ∧ (ad = none → c = 0) ∧ 0 < n ∧ Sz ty n ∧ (∀ e ∈ es, e.length = n) ∧
    ∃ (b o : Nat) (us : Nat → Value), (∀ x, ad = some x → es ≠ [] → x = ⟨b, o, none⟩) ∧ (es ≠ [] → ok b ∧ b < w.heap.size) ∧ (∀ k e j t, es[k]? = some e → e[j]? = some t → w.cell? ⟨b, o + (k * n + j), none⟩ = some (us (k * n + j))) ∧ ∀ k e j t, es[k]? = some e → e[j]? = some t → Inn ok w t (us (k * n + j)) := by
  cases h with
  | seq n hp hz hn hc hm h0 b o us ha hb hcell hr => exact ⟨_, _, n, rfl, hc, hm, h0, hp, hz, hn, b, o, us, ha, hb, hcell, hr⟩
theorem Rel.head (h : Rel E N σ a w G) {x : Operand} {lf : Leaf} {ty : TypeId} {es : List (List T)} (hx : σ.ev x = V.one lf) (ht : σ.tr lf = some (.seq ty es)) : Inn (lf.okIn G E) w (.seq ty es) (a.eval x) := by
  have h1 := h.ev x
  rw [hx, vone] at h1
  exact h.tree h1 ht
/-- 'len' of a slice. -/
theorem ok_len {nb : Nat} {x : Operand} {lf : Leaf} {ty t : TypeId} {es : List (List T)} (ho : o.op = .call { callee := .builtin .len, args := #[x], argTypes := #[t] }) (hu : Try.prog.underlying t = some (.slice ty)) (hx : σ.ev x = V.one lf) (ht : σ.tr lf = some (.seq ty es)) :
    OpL Try.prog E N nb σ o (V.one (.sc (.int .i64 (es.length : Nat)))) :=
  fun a w G h => by
    obtain ⟨ad, c, n, h1, -⟩ := inn_seq (h.head hx ht)
    refine ⟨.int .i64 (es.length : Nat), fun v' _ => ?_, vone.2 ⟨rfl, .inr rfl⟩⟩
    simp [execOp, ho, resolve, invoke, builtin, Builtin.len_, h1, run_underlying hu, goInt, Result.andThen]
/-- The pointer to an element. -/
def Leaf.elem (lf : Leaf) (k n : Nat) (e : List T) : Leaf := match lf with
  | .ro _ => .rp e
  | .hd i => .ep i k n 0
  | .nd i ver _ _ => .np i ver e
  | _ => .dead
theorem ok_index {nb k n : Nat} {x ix : Operand} {lf : Leaf} {ty t : TypeId} {es : List (List T)} {e : List T} {ki : IntKind} (ho : o.op = .indexAddr t x ix) (hu : Try.prog.underlying t = some (.slice ty)) (hz : Sz ty n) (hx : σ.ev x = V.one lf) (ht : σ.tr lf = some (.seq ty es)) (hi : σ.ev ix = V.one (.sc (.int ki (k : Nat)))) (he : es[k]? = some e) :
    OpL Try.prog E N nb σ o (V.one (lf.elem k n e)) :=
  fun a w G h => by
    have h0 := h.ev x
    rw [hx, vone] at h0
    obtain ⟨ad, c, n', h1, hc, hm, ha0, hp, hz', hn, b, o', us, ha, hb, hcell, hr⟩ := inn_seq (h.head hx ht)
    have hnn := hz'.eq hz
    subst hnn
    have hkl := get_lt he
    have hne : es ≠ [] := fun hh => by rw [hh] at he; simp at he
    have had : ad = some ⟨b, o', none⟩ := by
      cases had : ad with
      | none => have := ha0 had; omega
      | some y => rw [ha y had hne]
    subst had
    have h2 := h.sc hi
    obtain ⟨inf, hinf, hsz⟩ := hz
    have hrun : ∀ v', (execOp a.eval o).run Try.prog v' = .ok (.value (.pointer (some ⟨b, o' + k * n', none⟩))) v' := fun v' => by
      simp [execOp, ho, Instr.indexAt, asIntOf, h1, h2, run_underlying hu, sizeOf, Lib.rl_info ty inf hinf, hsz, Addr.add_lit, show k < es.length from hkl, Result.andThen]
    refine ⟨_, fun v' _ => hrun v', vone.2 ?_⟩
    have hel : ∀ j t, e[j]? = some t → w.cell? ⟨b, o' + k * n' + j, none⟩ = some (us (k * n' + j)) ∧ Inn (lf.okIn G E) w t (us (k * n' + j)) := fun j t hj => by
      refine ⟨?_, hr k e j t he hj⟩
      rw [Nat.add_assoc]
      exact hcell k e j t he hj
    cases lf with
    | ro s => exact ⟨⟨b, o' + k * n', fun j => us (k * n' + j), rfl, (hb hne).1, hel⟩, .inr rfl⟩
    | hd i =>
      obtain ⟨⟨hi1, hi2⟩, -⟩ := h0
      obtain ⟨⟨ver, s⟩, ho1, ho2⟩ := Option.map_eq_some_iff.1 ht
      obtain ⟨-, ho3, -⟩ := h.objs i ver s ho1
      have ho2' : s = .seq ty es := ho2
      subst ho2'
      cases ho3 with
      | seq n2 hp2 hz2 hn2 xs hown =>
        obtain ⟨a2, c2, h4, -, -, -, h7⟩ := own_slice hown
        obtain ⟨g, h8, -⟩ := h7 (by omega)
        rw [h8] at h4
        have h5 : Value.slice (some ⟨b, o', none⟩) es.length c = Value.slice (some ⟨g, 0, none⟩) es.length c2 := by rw [← h1, ← h4]; exact hi2
        injection h5 with h5 _ _
        injection h5 with h5
        injection h5 with h5 h6
        subst h5 h6
        exact ⟨⟨hi1, b, es.length, c2, h4, by rw [Nat.zero_add, Nat.add_zero]⟩, .inr rfl⟩
    | nd i ver s loc =>
      exact ⟨⟨h0.1.1, h0.1.2.1, fun _ => ⟨b, o' + k * n', fun j => us (k * n' + j), rfl, (hb hne).1, hel⟩⟩, .inr rfl⟩
    | sc v => cases ht
    | nl ty' => exact ⟨trivial, .inl rfl⟩
    | dead => cases ht
    | rp es => cases ht
    | np i v es => cases ht
    | ep i k n o => cases ht
    | bp b o => cases ht
/-- The cells that a pointer reaches, from where it points. -/
def VS.cells (σ : VS) : Leaf → Option (List T)
  | .rp es => some es
  | .np i ver es => (σ.ob i).bind fun p => bif Nat.beq p.1 ver then some es else none
  | .ep i k n o => (σ.ob i).bind fun p => match p.2 with
    | .seq _ es => es[k]?.bind fun e => bif Nat.beq e.length n then some (e.drop o) else none
    | _ => none
  | _ => none
/-- The leaf of a cell that has been read through a pointer. -/
def VS.cellLeaf (σ : VS) (p : Leaf) (j : Nat) : T → Leaf
  | .lit u => .sc u
  | .any => .dead
  | .seq ty es => match p with
    | .rp _ => .ro (.seq ty es)
    | .np i ver _ => .nd i ver (.seq ty es) none
    | .ep i k n o => match σ.ob i with
      | some (ver, _) => .nd i ver (.seq ty es) (some (k, o + j))
      | none => .dead
    | _ => .dead
theorem Rel.cells (h : Rel E N σ a w G) {p : Leaf} {u : Value} {es : List T} (hp : Holds G σ E w p u) (hc : σ.cells p = some es) : ∃ b o, u = .pointer (some ⟨b, o, none⟩) ∧ ∀ j t, es[j]? = some t → ∃ y, w.cell? ⟨b, o + j, none⟩ = some y ∧ Holds G σ E w (σ.cellLeaf p j t) y := by
  have mk : ∀ {ok : Nat → Prop} {t : T} {y : Value} {x : Leaf}, Inn ok w t y → (∀ v, t = .lit v → x = .sc v) → (t = .any → x = .dead) → ((∃ ty es, t = .seq ty es) → Holds0 G σ E w x y) → Holds G σ E w x y := fun {ok t y x} hi h1 h2 h3 => by
    cases t with
    | any => rw [h2 rfl]; exact ⟨trivial, .inl rfl⟩
    | lit v =>
      rw [h1 v rfl]
      cases hi with
      | lit hv => exact ⟨rfl, .inr hv⟩
    | seq ty es => exact ⟨h3 ⟨_, _, rfl⟩, .inr hi.one⟩
  cases p with
  | rp fs =>
    cases hc
    obtain ⟨⟨b, o, us, h1, h2, h3⟩, -⟩ := hp
    refine ⟨b, o, h1, fun j t hj => ⟨us j, (h3 j t hj).1, mk (h3 j t hj).2 (fun v e => by subst e; rfl) (fun e => by subst e; rfl) fun ⟨ty, es, e⟩ => by subst e; exact (h3 j _ hj).2⟩⟩
  | np i ver fs =>
    obtain ⟨⟨v, s⟩, h1, h2⟩ := Option.bind_eq_some_iff.1 hc
    have hv : v = ver := by
      cases hb : Nat.beq v ver with
      | true => exact Nat.eq_of_beq_eq_true hb
      | false => simp only [hb] at h2; cases h2
    subst hv
    have h3 : fs = es := by simpa using h2
    subst h3
    obtain ⟨⟨h4, h5, h6⟩, -⟩ := hp
    obtain ⟨b, o, us, h7, h8, h9⟩ := h6 ⟨s, h1⟩
    refine ⟨b, o, h7, fun j t hj => ⟨us j, (h9 j t hj).1, mk (h9 j t hj).2 (fun v e => by subst e; rfl) (fun e => by subst e; rfl) fun ⟨ty, es, e⟩ => ?_⟩⟩
    subst e
    exact ⟨h4, h5, fun _ => ⟨(h9 j _ hj).2, fun k o e => by cases e⟩⟩
  | ep i k n o =>
    obtain ⟨⟨ver, s⟩, h1, h2⟩ := Option.bind_eq_some_iff.1 hc
    obtain ⟨hlt, ho, ty, fs, hs⟩ := h.objs i ver s h1
    have hs' : s = .seq ty fs := hs
    subst hs'
    obtain ⟨e, he, h3⟩ := Option.bind_eq_some_iff.1 h2
    have hen : e.length = n := by
      cases hb : Nat.beq e.length n with
      | true => exact Nat.eq_of_beq_eq_true hb
      | false => simp only [hb] at h3; cases h3
    have h4 : e.drop o = es := by
      have hb : Nat.beq e.length n = true := by rw [hen]; exact Nat.beq_refl n
      simpa [hb] using h3
    obtain ⟨⟨-, g, M, c, h5, h6⟩, -⟩ := hp
    have hin := ho.inn
    cases ho with
    | seq n2 hp2 hz2 hn2 xs hown Gs hr hone hF hG hne hd =>
      have hn : n2 = n := (hn2 e (get_mem he)).symm.trans hen
      subst hn
      obtain ⟨a2, c2, h7, -, -, -, h8⟩ := own_slice hown
      obtain ⟨g2, h9, -, -, hcell, -⟩ := h8 (by have := get_lt he; omega)
      rw [h9, h5] at h7
      injection h7 with h7 _ _
      injection h7 with h7
      injection h7 with h7
      subst h7
      refine ⟨g, k * n2 + o, h6, fun j t hj => ?_⟩
      have hj' : e[o + j]? = some t := by rw [← h4, List.getElem?_drop] at hj; exact hj
      have hol : o + j < n2 := by rw [← hen]; exact get_lt hj'
      have hxl := hown.1
      have hlt2 := at_lt (get_lt he) hol
      have hx : xs[k * n2 + (o + j)]? = some xs[k * n2 + (o + j)] := List.getElem?_eq_getElem (by omega)
      have hcl := hcell _ _ hx
      refine ⟨xs[k * n2 + (o + j)], by rw [Nat.add_assoc]; exact hcl, mk ((hr k e (o + j) t _ he hj' hx).inn) (fun v e => by subst e; rfl) (fun e => by subst e; rfl) fun ⟨ty', es', et⟩ => ?_⟩
      subst et
      have hcv : σ.cellLeaf (.ep i k n2 o) j (.seq ty' es') = .nd i ver (.seq ty' es') (some (k, o + j)) := by
        show (match σ.ob i with | some (ver, _) => Leaf.nd i ver (.seq ty' es') (some (k, o + j)) | none => .dead) = _
        rw [h1]
      rw [hcv]
      refine ⟨hlt, fun v t' hv => ?_, fun _ => ⟨((hr k e (o + j) _ _ he hj' hx).inn).frame (Nat.le_refl _) fun b hb _ => ⟨hG _ b hb, rfl⟩, fun k' o' hk => ?_⟩⟩
      · rw [h1] at hv; cases hv; exact Nat.le_refl _
      · cases hk
        exact ⟨g, M, c, n2, ty, fs, e, h1, h5, he, hen, hol, hcl⟩
  | sc v => cases hc
  | nl ty => cases hc
  | ro t => cases hc
  | hd i => cases hc
  | nd i v t l => cases hc
  | bp b o => cases hc
  | dead => cases hc
/-- A cell, or a struct, is read through a pointer into a slice: whatever memory holds the same cells. -/
theorem load_el {m : Nat} {ty : TypeId} {x : Operand} {p : Leaf} {ag : Bool} {es : List T} {ys : List Leaf} (ho : o.op = .load ty x) (hx : σ.ev x = V.one p) (hc : σ.cells p = some es) (hag : ∀ w, (isAgg ty).run Try.prog w = .ok ag w) (hm : Sz ty m) (h1 : ag = false → m = 1) (hml : m ≤ es.length)
    (hy : (List.range m).map (fun j => match es[j]? with | some t => σ.cellLeaf p j t | none => .dead) = ys) (h : Rel E N σ a w G) :
    ∃ u b i, a.eval x = .pointer (some ⟨b, i, none⟩) ∧ (∀ v, (∀ j y, j < m → w.cell? ⟨b, i + j, none⟩ = some y → v.cell? ⟨b, i + j, none⟩ = some y) → (execOp a.eval o).run Try.prog v = .ok (.value u) v) ∧ VHolds G σ E w (V.flat ag ys) u := by
  have h2 := h.ev x
  rw [hx, vone] at h2
  obtain ⟨b, i, h3, h4⟩ := h.cells h2 hc
  obtain ⟨us, hus⟩ : ∃ us : List Value, us = (List.range m).map fun j => (w.cell? ⟨b, i + j, none⟩).getD (.bool false) := ⟨_, rfl⟩
  have hul : us.length = m := by rw [hus]; simp
  have hget : ∀ j y, us[j]? = some y → ∃ t, es[j]? = some t ∧ w.cell? ⟨b, i + j, none⟩ = some y ∧ Holds G σ E w (σ.cellLeaf p j t) y := fun j y hj => by
    have hjm : j < m := by rw [← hul]; exact get_lt hj
    have hjl : j < es.length := by omega
    obtain ⟨z, hz1, hz2⟩ := h4 j es[j] (List.getElem?_eq_getElem hjl)
    have : y = z := by
      rw [hus] at hj
      simp only [List.getElem?_map, List.getElem?_range hjm, Option.map_some, hz1, Option.getD_some] at hj
      exact (Option.some.inj hj).symm
    subst this
    exact ⟨es[j], List.getElem?_eq_getElem hjl, hz1, hz2⟩
  refine ⟨cval ag us, b, i, h3, fun v hv => ?_, vflat.2 ⟨us, rfl, by rw [hul, ← hy]; simp, fun j x' u hj hu => ?_⟩⟩
  · have hr := load_run (P := Try.prog) (w := v) (b := b) (i := i) (us := us) hag hm h1 hul fun j y hj => hv j y (by rw [← hul]; exact get_lt hj) (hget j y hj).choose_spec.2.1
    simp [execOp, ho, h3, Instr.loadAt, Instr.sureAddr, hr, Result.andThen]
  · obtain ⟨t, ht1, -, ht3⟩ := hget j u hu
    have hjm : j < m := by rw [← hul]; exact get_lt hu
    rw [← hy] at hj
    simp only [List.getElem?_map, List.getElem?_range hjm, Option.map_some, ht1] at hj
    rw [← Option.some.inj hj]
    exact ht3
theorem ok_load_el {d m : Nat} {ty : TypeId} {x : Operand} {p : Leaf} {ag : Bool} {es : List T} {ys : List Leaf} (ho : o.op = .load ty x) (hx : σ.ev x = V.one p) (hc : σ.cells p = some es) (hag : ∀ w, (isAgg ty).run Try.prog w = .ok ag w) (hm : Sz ty m) (h1 : ag = false → m = 1) (hml : m ≤ es.length)
    (hy : (List.range m).map (fun j => match es[j]? with | some t => σ.cellLeaf p j t | none => .dead) = ys) (hd : o.dst = some d) (hdN : d < N) : OpOk Try.prog E N σ o (σ.put d (V.flat ag ys)) :=
  fun a w G K Q h k => by
    obtain ⟨u, b, i, -, h2, h3⟩ := load_el ho hx hc hag hm h1 hml hy h
    exact wp_value (h2 w fun j y _ hj => hj) (by rw [hd]; exact k _ _ _ (h.put hdN h3))
/-- The same in memory that the call was handed. -/
theorem ok_load_rp {nb m : Nat} {ty : TypeId} {x : Operand} {ag : Bool} {es : List T} {ys : List Leaf} (ho : o.op = .load ty x) (hx : σ.ev x = V.one (.rp es)) (hag : ∀ w, (isAgg ty).run Try.prog w = .ok ag w) (hm : Sz ty m) (h1 : ag = false → m = 1) (hml : m ≤ es.length)
    (hy : (List.range m).map (fun j => match es[j]? with | some t => σ.cellLeaf (.rp es) j t | none => .dead) = ys) : OpL Try.prog E N nb σ o (V.flat ag ys) :=
  fun a w G h => by
    obtain ⟨u, b, i, h4, h2, h3⟩ := load_el ho hx (p := .rp es) rfl hag hm h1 hml hy h
    refine ⟨u, fun v hv => h2 v fun j y _ hj => ?_, h3⟩
    have h5 := h.ev x
    rw [hx, vone] at h5
    obtain ⟨⟨b', o', us, h6, h7, -⟩, -⟩ := h5
    rw [h4] at h6
    injection h6 with h6
    injection h6 with h6
    injection h6 with h6 _
    subst h6
    exact (World.cell?_of_block (hv.1 b h7)).trans hj
/-- A field, through a pointer into a slice. -/
def Leaf.fld : Leaf → Nat → Leaf
  | .rp es, off => .rp (es.drop off)
  | .np i ver es, off => .np i ver (es.drop off)
  | .ep i k n o, off => .ep i k n (o + off)
  | _, _ => .dead
theorem ok_field_el {nb off : Nat} {s : TypeId} {x : Operand} {f : Nat} {p : Leaf} {es : List T} (ho : o.op = .fieldAddr s x f) (hx : σ.ev x = V.one p) (hc : σ.cells p = some es) (hf : ∀ (ad : Addr) w, ad.spot = none → (Instr.fieldAt s (.pointer (some ad)) f).run Try.prog w = .ok (.pointer (some ⟨ad.block, ad.off + off, none⟩)) w) : OpL Try.prog E N nb σ o (V.one (p.fld off)) :=
  fun a w G h => by
    have h1 := h.ev x
    rw [hx, vone] at h1
    obtain ⟨b, i, h3, -⟩ := h.cells h1 hc
    refine ⟨.pointer (some ⟨b, i + off, none⟩), fun v' _ => by simp [execOp, ho, h3, hf, Result.andThen], vone.2 ?_⟩
    have hdrop : ∀ (l : List T) (j : Nat) (t : T), (l.drop off)[j]? = some t → l[off + j]? = some t := fun l j t hj => by rwa [List.getElem?_drop] at hj
    cases p with
    | rp fs =>
      obtain ⟨⟨b', o', us, h5, h6, h7⟩, -⟩ := h1
      rw [h3] at h5
      injection h5 with h5
      injection h5 with h5
      injection h5 with h5 h8
      subst h5 h8
      exact ⟨⟨b, i + off, fun j => us (off + j), rfl, h6, fun j t hj => by
        have := h7 (off + j) t (hdrop _ _ _ hj)
        rw [Nat.add_assoc]
        exact this⟩, .inr rfl⟩
    | np i' ver fs =>
      obtain ⟨⟨h4, h5, h6⟩, -⟩ := h1
      refine ⟨⟨h4, h5, fun hh => ?_⟩, .inr rfl⟩
      obtain ⟨b', o', us, h7, h8, h9⟩ := h6 hh
      rw [h3] at h7
      injection h7 with h7
      injection h7 with h7
      injection h7 with h7 h10
      subst h7 h10
      exact ⟨b, i + off, fun j => us (off + j), rfl, h8, fun j t hj => by
        have := h9 (off + j) t (hdrop _ _ _ hj)
        rw [Nat.add_assoc]
        exact this⟩
    | ep i' k' n o' =>
      obtain ⟨⟨h4, g, M, c, h5, h6⟩, -⟩ := h1
      rw [h3] at h6
      injection h6 with h6
      injection h6 with h6
      injection h6 with h6 h7
      subst h6 h7
      exact ⟨⟨h4, b, M, c, h5, by rw [Nat.add_assoc]⟩, .inr rfl⟩
    | sc v => cases hc
    | nl ty => cases hc
    | ro t => cases hc
    | hd i => cases hc
    | nd i v t l => cases hc
    | bp b o => cases hc
    | dead => cases hc
end Go.Proofs.Ytlnjgoommpeioaa.V
