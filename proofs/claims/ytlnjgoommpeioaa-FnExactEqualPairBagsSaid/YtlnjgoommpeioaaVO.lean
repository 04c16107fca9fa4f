/- States told by trees: the rules, an operation each (scalars, copies, boxes, fields). -/
import Derived.Test.YtlnjgoommpeioaaVR
import Derived.Lib.SmallJoins
namespace Go.Proofs.Ytlnjgoommpeioaa.V
open Go Go.RowKit
set_option linter.unusedVariables false

def SV (E : Env) (N : Nat) (σ : VS) (K : Act → World → Prop) : Prop := ∀ a w G, Rel E N σ a w G → K a w
/-- What is known of memory behind an operation that makes memory, but for the block of the object c: nothing that was there has changed, but for cells behind that object's last. -/
structure Made (σ : VS) (c : Option Nat) (w w' : World) (G G' : Ghost) (E : Env) (nx' : Nat) : Prop where
  size : w.heap.size ≤ w'.heap.size
  below : Same E w w'
  vl : ∀ i, i < σ.nx → G'.vl i = G.vl i
  β : ∀ b, b < σ.bs.length → G'.β b = G.β b
  block : ∀ b, b < w.heap.size → w'.heap[b]? = w.heap[b]? ∨ ∃ (i v : Nat) (ty : TypeId) (es : List (List T)) (n : Nat) (cs cs' : Array Value), c = some i ∧ σ.ob i = some (v, .seq ty es) ∧ (G.vl i).ownBlock = some b ∧ Sz ty n ∧ w.heap[b]? = some (.cells cs ty (0, 0)) ∧ w'.heap[b]? = some (.cells cs' ty (0, 0)) ∧ cs'.size = cs.size ∧ cs'.toList.take (es.length * n) = cs.toList.take (es.length * n)
  root : ∀ i, σ.nx ≤ i → i < nx' → ∀ b, (G'.vl i).ownBlock = some b → w.heap.size ≤ b ∨ ∃ j, c = some j ∧ (G.vl j).ownBlock = some b
/-- From σ the operation leads to σ', and memory is as 'Made' says. -/
def OpMk (P : Program) (E : Env) (N : Nat) (c : Option Nat) (σ : VS) (o : Oper) (σ' : VS) : Prop :=
  ∀ a w G (K : Act → World → Prop) (Q : Exit → Act → World → Prop), Rel E N σ a w G → (∀ a' w' G', Rel E N σ' a' w' G' → Made σ c w w' G G' E σ'.nx → K a' w') → o.wp P a w K Q
/-- From σ the operation leads to σ'. -/
def OpOk (P : Program) (E : Env) (N : Nat) (σ : VS) (o : Oper) (σ' : VS) : Prop :=
  ∀ a w G (K : Act → World → Prop) (Q : Exit → Act → World → Prop), Rel E N σ a w G → (∀ a' w' G', Rel E N σ' a' w' G' → K a' w') → o.wp P a w K Q
variable {P : Program} {E : Env} {N : Nat} {σ σ' : VS} {o : Oper}
/-- The blocks of the first boxes, and all below the call's own, are as they were. -/
def Lite (E : Env) (nb : Nat) (G : Ghost) (w v : World) : Prop := (∀ b, E.old b → v.heap[b]? = w.heap[b]?) ∧ ∀ c, c < nb → v.heap[G.β c]? = w.heap[G.β c]?
/-- The operation yields one value in every such memory, and leaves it as it is. -/
def OpL (P : Program) (E : Env) (N nb : Nat) (σ : VS) (o : Oper) (V' : V) : Prop :=
  ∀ a w G, Rel E N σ a w G → ∃ u, (∀ v, Lite E nb G w v → (execOp a.eval o).run P v = .ok (.value u) v) ∧ VHolds G σ E w V' u
theorem OpMk.ok {c : Option Nat} (h : OpMk P E N c σ o σ') : OpOk P E N σ o σ' := fun a w G K Q hr k => h a w G K Q hr fun a' w' G' hr' _ => k a' w' G' hr'
theorem SV.op {ops : Array Oper} {rest : List Oper} {Q : Exit → Act → World → Prop} (h : OpOk P E N σ o σ') (hg : o.guard = none) (k : SV E N σ' (wpList P ops Q rest)) : SV E N σ (wpList P ops Q (o :: rest)) :=
  fun a w G hr => wpList_plain hg fun K hK => h a w G K Q hr fun a' w' G' hr' => hK _ _ (k a' w' G' hr')
theorem wp_value {a : Act} {w w' : World} {v : Value} {K : Act → World → Prop} {Q : Exit → Act → World → Prop} (h : (execOp a.eval o).run P w = .ok (.value v) w') (k : K (a.put o.dst v) w') : o.wp P a w K Q := by
  unfold Oper.wp
  rw [h]
  exact k
theorem wp_skipped {a : Act} {w w' : World} {K : Act → World → Prop} {Q : Exit → Act → World → Prop} (h : (execOp a.eval o).run P w = .ok .skip w') (k : K (a.put o.dst undef) w') : o.wp P a w K Q := by
  unfold Oper.wp
  rw [h]
  exact k
theorem OpL.ok {nb d : Nat} {V' : V} (h : OpL P E N nb σ o V') (hd : o.dst = some d) (hdN : d < N) : OpOk P E N σ o (σ.put d V') := fun a w G K Q hr k => by
  obtain ⟨u, h1, h2⟩ := h a w G hr
  exact wp_value (h1 w ⟨fun _ _ => rfl, fun _ _ => rfl⟩) (by rw [hd]; exact k _ _ _ (hr.put hdN h2))
/-! ### Values of operands -/
def VS.ev (σ : VS) : Operand → V
  | .tmp t => σ.tm t
  | .const v => V.one (bif v.oneCell' then .sc v else .dead)
  | .global g => V.one (.sc (.pointer (some ⟨g, 0, none⟩)))
  | .func f => V.one (.sc (.func (.func f) #[] #[]))
theorem vone {G : Ghost} {E : Env} {w : World} {x : Leaf} {u : Value} : VHolds G σ E w (V.one x) u ↔ Holds G σ E w x u := by
  constructor
  · rintro ⟨uss, h1, h2, h3⟩
    match uss, h1 with
    | [us], _ =>
      obtain ⟨h4, h5⟩ := h3 0 false [x] us rfl rfl
      match us, h4 with
      | [v], _ =>
        have : u = v := h2
        rw [this]
        exact h5 0 x v rfl rfl
  · intro h
    refine ⟨[[u]], rfl, rfl, fun c ag xs us h1 h2 => ?_⟩
    match c, h1, h2 with
    | 0, h1, h2 =>
      cases h1
      cases h2
      refine ⟨rfl, fun j y v h3 h4 => ?_⟩
      match j, h3, h4 with
      | 0, h3, h4 => cases h3; cases h4; exact h
/-- A struct's value, or a lone cell's. -/
def V.flat (ag : Bool) (xs : List Leaf) : V := ⟨false, [(ag, xs)]⟩
theorem vflat {G : Ghost} {E : Env} {w : World} {ag : Bool} {xs : List Leaf} {u : Value} : VHolds G σ E w (V.flat ag xs) u ↔ ∃ us : List Value, u = cval ag us ∧ us.length = xs.length ∧ ∀ (j : Nat) (x : Leaf) (u : Value), xs[j]? = some x → us[j]? = some u → Holds G σ E w x u := by
  constructor
  · rintro ⟨uss, h1, h2, h3⟩
    match uss, h1 with
    | [us], _ =>
      obtain ⟨h4, h5⟩ := h3 0 ag xs us rfl rfl
      exact ⟨us, h2, h4, h5⟩
  · rintro ⟨us, h2, h4, h5⟩
    refine ⟨[us], rfl, h2, fun c ag' xs' us' h1 h2 => ?_⟩
    match c, h1, h2 with
    | 0, h1, h2 =>
      cases h1
      cases h2
      exact ⟨h4, h5⟩
theorem Rel.ev {a : Act} {w : World} {G : Ghost} (h : Rel E N σ a w G) (x : Operand) : VHolds G σ E w (σ.ev x) (a.eval x) := by
  cases x with
  | tmp t => exact h.tmps t
  | const v =>
    show VHolds G σ _ w (V.one (bif v.oneCell' then .sc v else .dead)) v
    rw [vone]
    cases hv : v.oneCell' with
    | true => exact ⟨rfl, .inr hv⟩
    | false => exact ⟨trivial, .inl rfl⟩
  | global g => exact vone.2 ⟨rfl, .inr rfl⟩
  | func f => exact vone.2 ⟨rfl, .inr rfl⟩
theorem Rel.sc {a : Act} {w : World} {G : Ghost} (h : Rel E N σ a w G) {x : Operand} {u : Value} (hx : σ.ev x = V.one (.sc u)) : a.eval x = u := by
  have := h.ev x
  rw [hx, vone] at this
  exact this.1
/-! ### Scalars -/
/-- A value without memory behind it. -/
def VScal (v : V) (u : Value) : Prop := ∃ ag us, v = V.flat ag (us.map .sc) ∧ u = cval ag us
theorem VScal.one {v : V} {u : Value} (h : v = V.one (.sc u)) : VScal v u := ⟨false, [u], h, rfl⟩
theorem Rel.scal {a : Act} {w : World} {G : Ghost} (h : Rel E N σ a w G) {x : Operand} {u : Value} (hx : VScal (σ.ev x) u) : a.eval x = u := by
  obtain ⟨ag, us, h1, h2⟩ := hx
  have := h.ev x
  rw [h1, vflat] at this
  obtain ⟨vs, h3, h4, h5⟩ := this
  have h6 : vs.length = us.length := by simpa using h4
  have : vs = us := by
    apply List.ext_getElem?
    intro j
    rcases Nat.lt_or_ge j us.length with hj | hj
    · have hj' : j < vs.length := by omega
      have := h5 j (.sc us[j]) vs[j] (by simp [hj]) (by simp [hj'])
      rw [List.getElem?_eq_getElem hj', List.getElem?_eq_getElem hj, this.1]
    · rw [List.getElem?_eq_none hj, List.getElem?_eq_none (by omega)]
  rw [h3, h2, this]
/-- An operation on scalars alone. -/
theorem ok_scal {nb : Nat} {v : Value} (l : List (Operand × Value)) (hl : ∀ p ∈ l, VScal (σ.ev p.1) p.2) (hr : ∀ ρ : Operand → Value, (∀ p ∈ l, ρ p.1 = p.2) → ∀ w, (execOp ρ o).run P w = .ok (.value v) w) (hv : v.oneCell' = true) : OpL P E N nb σ o (V.one (.sc v)) :=
  fun a w G h => ⟨v, fun v' _ => hr a.eval (fun p hp => h.scal (hl p hp)) v', vone.2 ⟨rfl, .inr hv⟩⟩
theorem ok_s1 {nb : Nat} {v u : Value} {x : Operand} (hx : VScal (σ.ev x) u) (hr : ∀ ρ : Operand → Value, ρ x = u → ∀ w, (execOp ρ o).run P w = .ok (.value v) w) (hv : v.oneCell' = true) : OpL P E N nb σ o (V.one (.sc v)) :=
  fun a w G h => ⟨v, fun v' _ => hr a.eval (h.scal hx) v', vone.2 ⟨rfl, .inr hv⟩⟩
theorem ok_s2 {nb : Nat} {v u u' : Value} {x x' : Operand} (hx : VScal (σ.ev x) u) (hx' : VScal (σ.ev x') u') (hr : ∀ ρ : Operand → Value, ρ x = u → ρ x' = u' → ∀ w, (execOp ρ o).run P w = .ok (.value v) w) (hv : v.oneCell' = true) : OpL P E N nb σ o (V.one (.sc v)) :=
  fun a w G h => ⟨v, fun v' _ => hr a.eval (h.scal hx) (h.scal hx') v', vone.2 ⟨rfl, .inr hv⟩⟩
theorem ok_s3 {nb : Nat} {v u u' u2 : Value} {x x' x2 : Operand} (hx : VScal (σ.ev x) u) (hx' : VScal (σ.ev x') u') (hx2 : VScal (σ.ev x2) u2) (hr : ∀ ρ : Operand → Value, ρ x = u → ρ x' = u' → ρ x2 = u2 → ∀ w, (execOp ρ o).run P w = .ok (.value v) w) (hv : v.oneCell' = true) : OpL P E N nb σ o (V.one (.sc v)) :=
  fun a w G h => ⟨v, fun v' _ => hr a.eval (h.scal hx) (h.scal hx') (h.scal hx2) v', vone.2 ⟨rfl, .inr hv⟩⟩
/-- A value is handed on. -/
theorem ok_move {nb : Nat} {x : Operand} {v : V} (ho : o.op = .move x ∨ o.op = .assign x) (hx : σ.ev x = v) : OpL P E N nb σ o v :=
  fun a w G h => ⟨a.eval x, fun v' _ => by rcases ho with ho | ho <;> simp [execOp, ho], by rw [← hx]; exact h.ev x⟩
/-! ### Boxes -/
def Leaf.live : Leaf → Bool
  | .dead => false
  | _ => true
theorem Holds.one {G : Ghost} {E : Env} {w : World} {x : Leaf} {u : Value} (h : Holds G σ E w x u) (hl : x.live = true) : u.oneCell' = true := by
  rcases h.2 with rfl | h
  · cases hl
  · exact h
/-- What a zero's cells are. -/
def ZL : List Leaf → List Value → Prop
  | [], [] => True
  | .sc v :: xs, u :: us => u = v ∧ u.oneCell' = true ∧ ZL xs us
  | .nl ty :: xs, u :: us => u = .slice none 0 0 ∧ (∃ n, 0 < n ∧ Sz ty n) ∧ ZL xs us
  | _, _ => False
theorem ZL.len : ∀ {xs : List Leaf} {us : List Value}, ZL xs us → us.length = xs.length
  | [], [], _ => rfl
  | .sc v :: xs, u :: us, h => by simp [ZL.len h.2.2]
  | .nl _ :: xs, u :: us, h => by simp [ZL.len h.2.2]
theorem ZL.holds {G : Ghost} {E : Env} {w : World} : ∀ {xs : List Leaf} {us : List Value}, ZL xs us → ∀ (j : Nat) (x : Leaf) (u : Value), xs[j]? = some x → us[j]? = some u → Holds G σ E w x u ∧ u.oneCell' = true
  | [], [], _, j, x, u, h1, _ => by simp at h1
  | .sc v :: xs, u :: us, h, j, x, y, h1, h2 => by
    cases j with
    | zero => cases h1; cases h2; exact ⟨⟨h.1, .inr h.2.1⟩, h.2.1⟩
    | succ j => exact ZL.holds h.2.2 j x y (by simpa using h1) (by simpa using h2)
  | .nl _ :: xs, u :: us, h, j, x, y, h1, h2 => by
    cases j with
    | zero => cases h1; cases h2; exact ⟨⟨⟨h.1, h.2.1⟩, .inr (by rw [h.1]; rfl)⟩, by rw [h.1]; rfl⟩
    | succ j => exact ZL.holds h.2.2 j x y (by simpa using h1) (by simpa using h2)
def VS.box (σ : VS) (ty : TypeId) (xs : List Leaf) : VS := { σ with bs := σ.bs ++ [(ty, xs)] }
theorem Rel.boxed {a : Act} {w : World} {G : Ghost} (h : Rel E N σ a w G) {d : Nat} {ty : TypeId} {us : List Value} {xs : List Leaf} (hdN : d < N) (hl : us.length = xs.length) (hx : ∀ (j : Nat) (x : Leaf) (u : Value), xs[j]? = some x → us[j]? = some u → Holds G σ E w x u ∧ u.oneCell' = true) :
    ∃ G', Rel E N ((σ.box ty xs).put d (V.one (.bp σ.bs.length 0))) (a.put (some d) (.pointer (some ⟨w.heap.size, 0, none⟩))) (w.alloc (.cells us.toArray ty)) G' ∧ Made σ none w (w.alloc (.cells us.toArray ty)) G G' E σ.nx := by
  obtain ⟨G', h1, h2, h3, h4⟩ := h.alloc hl hx
  exact ⟨G', h1.put hdN (vone.2 ⟨⟨by simp, by rw [h2]⟩, .inr rfl⟩), by simp, .of_below ((Below.refl _ _).alloc h.low _), fun i _ => by rw [h3], h4, fun b hb => .inl (Below.heap_alloc _ _ _ hb), fun i h1 h2 => absurd h2 (Nat.not_lt.2 h1)⟩
/-- A new variable, zero. -/
theorem ok_alloc {d : Nat} {ty : TypeId} {z : Value} {xs : List Leaf} {kk : Nat} (hk : σ.bs.length = kk) (ho : o.op = .alloc ty) (hz : ∀ w, (zeroValue ty).run P w = .ok z w) (hxs : ZL xs z.cells.toList) (hd : o.dst = some d) (hdN : d < N) : OpMk P E N none σ o ((σ.box ty xs).put d (V.one (.bp kk 0))) :=
  fun a w G K Q h k => by
    subst hk
    obtain ⟨G', h', hm⟩ := h.boxed (ty := ty) hdN hxs.len hxs.holds
    refine wp_value (v := .pointer (some ⟨w.heap.size, 0, none⟩)) (w' := w.alloc (.cells z.cells.toList.toArray ty)) ?_ (by rw [hd]; exact k _ _ _ h' hm)
    simp [execOp, ho, Instr.alloc, hz, newVar, newRow, Result.andThen]
theorem cval_cells {ag : Bool} {us : List Value} (h : ag = false → us.length = 1 ∧ ∀ u ∈ us, u.oneCell' = true) : (cval ag us).cells = us.toArray := by
  cases ag with
  | true => rfl
  | false =>
    obtain ⟨h1, h2⟩ := h rfl
    match us, h1 with
    | [u], _ =>
      have := h2 u (List.mem_singleton.2 rfl)
      show Value.cells u = #[u]
      exact Lib.cells_one this
/-- A new variable, laid. -/
theorem ok_box {d : Nat} {ty : TypeId} {x : Operand} {ag : Bool} {xs : List Leaf} {kk : Nat} (hk : σ.bs.length = kk) (ho : o.op = .box ty x) (hx : σ.ev x = V.flat ag xs) (hag : ag = false → xs.length = 1) (hlv' : xs.all Leaf.live = true) (hd : o.dst = some d) (hdN : d < N) : OpMk P E N none σ o ((σ.box ty xs).put d (V.one (.bp kk 0))) :=
  fun a w G K Q h k => by
    subst hk
    have hlv : ∀ x ∈ xs, x.live = true := List.all_eq_true.1 hlv'
    have h1 := h.ev x
    rw [hx, vflat] at h1
    obtain ⟨us, h2, h3, h4⟩ := h1
    have h5 : ∀ (j : Nat) (x : Leaf) (u : Value), xs[j]? = some x → us[j]? = some u → Holds G σ E w x u ∧ u.oneCell' = true := fun j x u hj hu => ⟨h4 j x u hj hu, (h4 j x u hj hu).one (hlv x (get_mem hj))⟩
    obtain ⟨G', h', hm⟩ := h.boxed (ty := ty) hdN h3 h5
    have h6 : (a.eval x).cells = us.toArray := by
      rw [h2]
      refine cval_cells fun he => ⟨h3.trans (hag he), fun u hu => ?_⟩
      obtain ⟨j, hj, rfl⟩ := List.getElem_of_mem hu
      have hj' : j < xs.length := by omega
      exact (h5 j xs[j] us[j] (by simp [hj']) (by simp [hj])).2
    refine wp_value (v := .pointer (some ⟨w.heap.size, 0, none⟩)) (w' := w.alloc (.cells us.toArray ty)) ?_ (by rw [hd]; exact k _ _ _ h' hm)
    simp [execOp, ho, Instr.box, h6, newVar, newRow, Result.andThen]
/-- A field of a variable. -/
theorem ok_field_bp {nb b o' off : Nat} {s : TypeId} {x : Operand} {f : Nat} (ho : o.op = .fieldAddr s x f) (hx : σ.ev x = V.one (.bp b o')) (hf : ∀ (ad : Addr) w, ad.spot = none → (Instr.fieldAt s (.pointer (some ad)) f).run P w = .ok (.pointer (some ⟨ad.block, ad.off + off, none⟩)) w) : OpL P E N nb σ o (V.one (.bp b (o' + off))) :=
  fun a w G h => by
    have h1 := h.ev x
    rw [hx, vone] at h1
    obtain ⟨⟨h1, h2⟩, -⟩ := h1
    exact ⟨.pointer (some ⟨G.β b, o' + off, none⟩), fun v' _ => by simp [execOp, ho, h2, hf, Result.andThen], vone.2 ⟨⟨h1, rfl⟩, .inr rfl⟩⟩
/-- Cells are read, as a type's value. -/
theorem load_run {ty : TypeId} {ag : Bool} {m : Nat} {w : World} {b i : Nat} {us : List Value} (hag : ∀ w, (isAgg ty).run P w = .ok ag w) (hm : ∃ inf, P.info? ty = some inf ∧ inf.size = m) (h1 : ag = false → m = 1) (hl : us.length = m) (hc : ∀ j u, us[j]? = some u → w.cell? ⟨b, i + j, none⟩ = some u) : (loadVar ty ⟨b, i, none⟩).run P w = .ok (cval ag us) w := by
  obtain ⟨inf, hi, hs⟩ := hm
  cases ag with
  | true => exact Lib.rl_loadVar_cells ty inf hi hag b i us (by omega) w hc
  | false =>
    have := h1 rfl
    match us, hl with
    | [u], _ =>
      have := hc 0 u rfl
      rw [Nat.add_zero] at this
      simp [loadVar, hag, this, Result.andThen, cval]
    | [], h => simp at h; omega
    | _ :: _ :: _, h => simp at h; omega
theorem cut_get {α : Type} {xs : List α} {i m j : Nat} {x : α} (h : ((xs.drop i).take m)[j]? = some x) : xs[i + j]? = some x := by
  rw [List.getElem?_take] at h
  split at h
  · rw [List.getElem?_drop] at h; exact h
  · cases h
/-- A variable, or a part of it, is read. -/
theorem ok_load_bp {nb b i m : Nat} {ty ty' : TypeId} {x : Operand} {ag : Bool} {xs ys : List Leaf} (ho : o.op = .load ty x) (hx : σ.ev x = V.one (.bp b i)) (hb : σ.bs[b]? = some (ty', xs)) (hag : ∀ w, (isAgg ty).run P w = .ok ag w) (hm : ∃ inf, P.info? ty = some inf ∧ inf.size = m) (h1 : ag = false → m = 1)
    (hy : (xs.drop i).take m = ys) (hyl : ys.length = m) (hnb : b < nb) : OpL P E N nb σ o (V.flat ag ys) :=
  fun a w G h => by
    have h2 := h.ev x
    rw [hx, vone] at h2
    obtain ⟨⟨-, h3⟩, -⟩ := h2
    obtain ⟨-, us, h4, h5, h6⟩ := h.boxes b ty' xs hb
    have h7 : ((us.drop i).take m).length = m := by
      have : ((xs.drop i).take m).length = m := by rw [hy]; exact hyl
      simp only [List.length_take, List.length_drop] at this ⊢
      omega
    refine ⟨cval ag ((us.drop i).take m), fun v' hv' => ?_, vflat.2 ⟨_, rfl, by rw [h7, hyl], fun j y u hj hu => (h6 (i + j) y u (cut_get (by rw [hy]; exact hj)) (cut_get hu)).1⟩⟩
    have hr := load_run (P := P) (w := v') (b := G.β b) (i := i) (us := (us.drop i).take m) hag hm h1 h7 fun j u hj => by
      rw [cell_of_row v' _ _ _ _ _ ((hv'.2 b hnb).trans h4)]
      simpa using cut_get hj
    simp [execOp, ho, h3, Instr.loadAt, Instr.sureAddr, hr, Result.andThen]
/-! ### Stores into boxes -/
theorem setCells_heap (b : Nat) : ∀ (vs : List Value) (o : Nat) (w : World) (us : List Value) (ty : TypeId), w.heap[b]? = some (.cells us.toArray ty (0, 0)) → o + vs.length ≤ us.length →
    (w.setCells b o vs).heap[b]? = some (.cells (us.take o ++ vs ++ us.drop (o + vs.length)).toArray ty (0, 0))
  | [], o, w, us, ty, h, hl => by simpa [World.setCells] using h
  | v :: vs, o, w, us, ty, h, hl => by
    rw [World.setCells]
    have h1 := Joins.block_setCell h (i := o) v
    rw [List.length_cons] at hl
    have h2 : (us.toArray.setIfInBounds o v) = (us.set o v).toArray := by simp
    rw [h2] at h1
    rw [setCells_heap b vs (o + 1) _ (us.set o v) ty h1 (by rw [List.length_set]; omega)]
    congr 3
    have e1 : (us.set o v).take (o + 1) = us.take o ++ [v] := by
      rw [List.take_succ_eq_append_getElem (by rw [List.length_set]; omega), List.getElem_set_self, List.take_set_of_le (Nat.le_refl _)]
    have e2 : (us.set o v).drop (o + 1 + vs.length) = us.drop (o + (v :: vs).length) := by
      rw [List.drop_set_of_lt (by omega), List.length_cons]
      congr 1
      omega
    rw [e1, e2]
    simp
theorem setCells_far (b : Nat) : ∀ (vs : List Value) (o : Nat) (w : World) (k : Nat), k ≠ b → (w.setCells b o vs).heap[k]? = w.heap[k]?
  | [], _, _, _, _ => rfl
  | v :: vs, o, w, k, h => by rw [World.setCells, setCells_far b vs (o + 1) _ k h]; exact Below.heap_setCell _ _ _ _ h
theorem setCells_below (b B : Nat) : ∀ (vs : List Value) (o : Nat) (w : World), B ≤ b → Below B w (w.setCells b o vs)
  | [], _, w, _ => Below.refl _ _
  | v :: vs, o, w, h => by
    rw [World.setCells]
    exact ((Below.refl B w).setCell (p := ⟨b, o, none⟩) h v).trans (setCells_below b B vs (o + 1) _ h)
theorem store_run {ty : TypeId} {ag : Bool} {m : Nat} {w : World} {b i : Nat} {us : List Value} (hm : ∃ inf, P.info? ty = some inf ∧ inf.size = m) (h1 : ag = false → m = 1) (hl : us.length = m) (hone : ∀ u ∈ us, u.oneCell' = true) (hc : ∀ k, k < m → (w.cell? ⟨b, i + k, none⟩).isSome = true) (hf : ∀ k, k < m → w.frozen? ⟨b, i + k, none⟩ = false) :
    (storeVar ty ⟨b, i, none⟩ (cval ag us)).run P w = .ok () (w.setCells b i us) := by
  obtain ⟨inf, hi, hs⟩ := hm
  cases ag with
  | true => exact Lib.rl_storeVar_cells ty inf hi b i us (by omega) hone w (fun k hk => hc k (by omega)) fun k hk => hf k (by omega)
  | false =>
    have hm1 := h1 rfl
    match us, hl with
    | [u], _ =>
      have h2 := hc 0 (by omega)
      obtain ⟨y, hy⟩ := Option.isSome_iff_exists.mp h2
      have h3 := hf 0 (by omega)
      rw [Nat.add_zero] at hy h3
      exact Lib.rl_storeVar_one ty inf hi (by omega) ⟨b, i, none⟩ u y (hone u (List.mem_singleton.2 rfl)) w hy h3
    | [], h => simp at h; omega
    | _ :: _ :: _, h => simp at h; omega
def VS.setb (σ : VS) (b : Nat) (ty : TypeId) (xs : List Leaf) : VS := { σ with bs := σ.bs.set b (ty, xs) }
theorem cat_get {α β : Type} {R : α → β → Prop} {xs zs : List α} {us vs : List β} {i : Nat} (h1 : us.length = xs.length) (h2 : vs.length = zs.length) (hi : i + zs.length ≤ xs.length) (hx : ∀ (j : Nat) (x : α) (u : β), xs[j]? = some x → us[j]? = some u → R x u) (hz : ∀ (j : Nat) (x : α) (u : β), zs[j]? = some x → vs[j]? = some u → R x u)
    (j : Nat) (x : α) (u : β) (h3 : (xs.take i ++ zs ++ xs.drop (i + zs.length))[j]? = some x) (h4 : (us.take i ++ vs ++ us.drop (i + vs.length))[j]? = some u) : R x u := by
  rw [List.append_assoc] at h3 h4
  rcases Nat.lt_or_ge j i with hj | hj
  · rw [List.getElem?_append_left (by rw [List.length_take]; omega), List.getElem?_take, if_pos hj] at h3 h4
    exact hx j x u h3 h4
  · rw [List.getElem?_append_right (by rw [List.length_take]; omega), List.length_take, Nat.min_eq_left (by omega)] at h3 h4
    rcases Nat.lt_or_ge (j - i) zs.length with hk | hk
    · rw [List.getElem?_append_left (by omega)] at h3 h4
      exact hz _ x u h3 h4
    · rw [List.getElem?_append_right (by omega), List.getElem?_drop] at h3 h4
      have e : i + vs.length + (j - i - vs.length) = i + zs.length + (j - i - zs.length) := by omega
      rw [e] at h4
      exact hx _ x u h3 h4
/-- A variable, or a part of it, is written. -/
theorem ok_store_bp {b i m : Nat} {ty ty' : TypeId} {x y : Operand} {ag : Bool} {xs zs : List Leaf} (ho : o.op = .store ty x y) (hx : σ.ev x = V.one (.bp b i)) (hy : σ.ev y = V.flat ag zs) (hb : σ.bs[b]? = some (ty', xs)) (hm : ∃ inf, P.info? ty = some inf ∧ inf.size = m) (h1 : ag = false → m = 1)
    (hzl : zs.length = m) (hi : i + m ≤ xs.length) (hlv' : zs.all Leaf.live = true) (hd : o.dst = none) {ys : List Leaf} (hk : xs.take i ++ zs ++ xs.drop (i + zs.length) = ys) : OpOk P E N σ o (σ.setb b ty' ys) :=
  fun a w G K Q h k => by
    subst hk
    have h2 := h.ev x
    rw [hx, vone] at h2
    obtain ⟨⟨-, h3⟩, -⟩ := h2
    have hlv : ∀ x ∈ zs, x.live = true := List.all_eq_true.1 hlv'
    have h4 := h.ev y
    rw [hy, vflat] at h4
    obtain ⟨vs, h5, h6, h7⟩ := h4
    obtain ⟨hB, us, h8, h9, h10⟩ := h.boxes b ty' xs hb
    have hone : ∀ (j : Nat) (x : Leaf) (u : Value), zs[j]? = some x → vs[j]? = some u → Holds G σ E w x u ∧ u.oneCell' = true := fun j x u hj hu => ⟨h7 j x u hj hu, (h7 j x u hj hu).one (hlv x (get_mem hj))⟩
    have hr := store_run (P := P) (w := w) (b := G.β b) (i := i) (us := vs) (ag := ag) hm h1 (h6.trans hzl) (fun u hu => by
      obtain ⟨j, hj, rfl⟩ := List.getElem_of_mem hu
      exact (hone j zs[j] vs[j] (by simp [show j < zs.length by omega]) (by simp [hj])).2) (fun k hk => by
      rw [cell_of_row w _ _ _ _ _ h8]
      simp [show i + k < us.length by omega]) fun k hk => by simp [World.frozen?, h8]
    refine wp_skipped (w' := w.setCells (G.β b) i vs) ?_ (by
      rw [hd]
      exact k _ _ _ (h.setbox hb (.of_below (setCells_below _ _ _ _ _ hB)) (fun k hk => setCells_far _ _ _ _ k hk) (setCells_heap _ _ _ _ us ty' h8 (by omega)) (by simp; omega)
        (cat_get (R := fun x u => Holds G σ E w x u ∧ u.oneCell' = true) h9 h6 (by omega) h10 hone)))
    simp [execOp, ho, h3, h5, Instr.storeAt, Instr.sureAddr, hr, Result.andThen]
end Go.Proofs.Ytlnjgoommpeioaa.V
