/- Texts joined: VTy VM VN. -/
import Derived.Test.YtlnjgoommpeioaaPartJoinSymmetryb
/- What the programs' types are to the model: sizes, zeros, fields, elements; no function of program or reference. -/
namespace Go.Proofs.Ytlnjgoommpeioaa.V
open Go Go.RowKit
set_option linter.unusedVariables false
set_option maxRecDepth 10000
theorem sz_bool : Sz 4 1 := Sz.of (by kernel_rfl)
theorem agg_bool (w : World) : (isAgg 4).run Try.prog w = .ok false w := by go_simp <;> rfl
theorem zero_bool (w : World) : (zeroValue 4).run Try.prog w = .ok (.bool false) w := by go_simp <;> rfl
theorem sz_impl_Pair : Sz 32 7 := Sz.of (by kernel_rfl)
theorem agg_impl_Pair (w : World) : (isAgg 32).run Try.prog w = .ok true w := by go_simp <;> rfl
theorem zero_impl_Pair (w : World) : (zeroValue 32).run Try.prog w = .ok (.agg #[.int .i64 0, .int .i64 0, .int .i64 0, .int .i64 0, .int .i64 0, .int .i64 0, .bool false]) w := by go_simp <;> rfl
theorem fld_impl_Pair_0 (ad : Addr) (w : World) (h : ad.spot = none) : (Instr.fieldAt 32 (.pointer (some ad)) 0).run Try.prog w = .ok (.pointer (some ⟨ad.block, ad.off + 0, none⟩)) w := by
  obtain ⟨b, o, s⟩ := ad
  subst h
  go_simp
theorem fld_impl_Pair_1 (ad : Addr) (w : World) (h : ad.spot = none) : (Instr.fieldAt 32 (.pointer (some ad)) 1).run Try.prog w = .ok (.pointer (some ⟨ad.block, ad.off + 3, none⟩)) w := by
  obtain ⟨b, o, s⟩ := ad
  subst h
  go_simp
theorem fld_impl_Pair_2 (ad : Addr) (w : World) (h : ad.spot = none) : (Instr.fieldAt 32 (.pointer (some ad)) 2).run Try.prog w = .ok (.pointer (some ⟨ad.block, ad.off + 6, none⟩)) w := by
  obtain ⟨b, o, s⟩ := ad
  subst h
  go_simp
theorem bld_impl_Pair (vs : Array (Nat × Value)) (r : Array Value) (w : World) (h : Instr.fill (fun i => ([(0, 3), (3, 3), (6, 1)] : List (Nat × Nat))[i]?) (Value.cells (.agg #[.int .i64 0, .int .i64 0, .int .i64 0, .int .i64 0, .int .i64 0, .int .i64 0, .bool false])) vs.toList = some r) : (Instr.build 32 vs).run Try.prog w = .ok (.agg r) w := by
  have h2 := h
  simp only [Value.cells] at h2
  unfold Instr.build
  simp only [Sem.run_bind, zero_impl_Pair, Result.andThen_ok]
  go_simp
theorem sz_impl_Row : Sz 30 3 := Sz.of (by kernel_rfl)
theorem agg_impl_Row (w : World) : (isAgg 30).run Try.prog w = .ok true w := by go_simp <;> rfl
theorem zero_impl_Row (w : World) : (zeroValue 30).run Try.prog w = .ok (.agg #[.int .i64 0, .int .i64 0, .int .i64 0]) w := by go_simp <;> rfl
theorem fld_impl_Row_0 (ad : Addr) (w : World) (h : ad.spot = none) : (Instr.fieldAt 30 (.pointer (some ad)) 0).run Try.prog w = .ok (.pointer (some ⟨ad.block, ad.off + 0, none⟩)) w := by
  obtain ⟨b, o, s⟩ := ad
  subst h
  go_simp
theorem fld_impl_Row_1 (ad : Addr) (w : World) (h : ad.spot = none) : (Instr.fieldAt 30 (.pointer (some ad)) 1).run Try.prog w = .ok (.pointer (some ⟨ad.block, ad.off + 1, none⟩)) w := by
  obtain ⟨b, o, s⟩ := ad
  subst h
  go_simp
theorem fld_impl_Row_2 (ad : Addr) (w : World) (h : ad.spot = none) : (Instr.fieldAt 30 (.pointer (some ad)) 2).run Try.prog w = .ok (.pointer (some ⟨ad.block, ad.off + 2, none⟩)) w := by
  obtain ⟨b, o, s⟩ := ad
  subst h
  go_simp
theorem bld_impl_Row (vs : Array (Nat × Value)) (r : Array Value) (w : World) (h : Instr.fill (fun i => ([(0, 1), (1, 1), (2, 1)] : List (Nat × Nat))[i]?) (Value.cells (.agg #[.int .i64 0, .int .i64 0, .int .i64 0])) vs.toList = some r) : (Instr.build 30 vs).run Try.prog w = .ok (.agg r) w := by
  have h2 := h
  simp only [Value.cells] at h2
  unfold Instr.build
  simp only [Sem.run_bind, zero_impl_Row, Result.andThen_ok]
  go_simp
theorem sz_int : Sz 3 1 := Sz.of (by kernel_rfl)
theorem agg_int (w : World) : (isAgg 3).run Try.prog w = .ok false w := by go_simp <;> rfl
theorem zero_int (w : World) : (zeroValue 3).run Try.prog w = .ok (.int .i64 0) w := by go_simp <;> rfl
theorem sz_int64 : Sz 2 1 := Sz.of (by kernel_rfl)
theorem agg_int64 (w : World) : (isAgg 2).run Try.prog w = .ok false w := by go_simp <;> rfl
theorem zero_int64 (w : World) : (zeroValue 2).run Try.prog w = .ok (.int .i64 0) w := by go_simp <;> rfl
theorem sz_laws_Pair : Sz 44 7 := Sz.of (by kernel_rfl)
theorem agg_laws_Pair (w : World) : (isAgg 44).run Try.prog w = .ok true w := by go_simp <;> rfl
theorem zero_laws_Pair (w : World) : (zeroValue 44).run Try.prog w = .ok (.agg #[.int .i64 0, .int .i64 0, .int .i64 0, .int .i64 0, .int .i64 0, .int .i64 0, .bool false]) w := by go_simp <;> rfl
theorem fld_laws_Pair_0 (ad : Addr) (w : World) (h : ad.spot = none) : (Instr.fieldAt 44 (.pointer (some ad)) 0).run Try.prog w = .ok (.pointer (some ⟨ad.block, ad.off + 0, none⟩)) w := by
  obtain ⟨b, o, s⟩ := ad
  subst h
  go_simp
theorem fld_laws_Pair_1 (ad : Addr) (w : World) (h : ad.spot = none) : (Instr.fieldAt 44 (.pointer (some ad)) 1).run Try.prog w = .ok (.pointer (some ⟨ad.block, ad.off + 3, none⟩)) w := by
  obtain ⟨b, o, s⟩ := ad
  subst h
  go_simp
theorem fld_laws_Pair_2 (ad : Addr) (w : World) (h : ad.spot = none) : (Instr.fieldAt 44 (.pointer (some ad)) 2).run Try.prog w = .ok (.pointer (some ⟨ad.block, ad.off + 6, none⟩)) w := by
  obtain ⟨b, o, s⟩ := ad
  subst h
  go_simp
theorem bld_laws_Pair (vs : Array (Nat × Value)) (r : Array Value) (w : World) (h : Instr.fill (fun i => ([(0, 3), (3, 3), (6, 1)] : List (Nat × Nat))[i]?) (Value.cells (.agg #[.int .i64 0, .int .i64 0, .int .i64 0, .int .i64 0, .int .i64 0, .int .i64 0, .bool false])) vs.toList = some r) : (Instr.build 44 vs).run Try.prog w = .ok (.agg r) w := by
  have h2 := h
  simp only [Value.cells] at h2
  unfold Instr.build
  simp only [Sem.run_bind, zero_laws_Pair, Result.andThen_ok]
  go_simp
theorem sz_laws_Row : Sz 42 3 := Sz.of (by kernel_rfl)
theorem agg_laws_Row (w : World) : (isAgg 42).run Try.prog w = .ok true w := by go_simp <;> rfl
theorem zero_laws_Row (w : World) : (zeroValue 42).run Try.prog w = .ok (.agg #[.int .i64 0, .int .i64 0, .int .i64 0]) w := by go_simp <;> rfl
theorem fld_laws_Row_0 (ad : Addr) (w : World) (h : ad.spot = none) : (Instr.fieldAt 42 (.pointer (some ad)) 0).run Try.prog w = .ok (.pointer (some ⟨ad.block, ad.off + 0, none⟩)) w := by
  obtain ⟨b, o, s⟩ := ad
  subst h
  go_simp
theorem fld_laws_Row_1 (ad : Addr) (w : World) (h : ad.spot = none) : (Instr.fieldAt 42 (.pointer (some ad)) 1).run Try.prog w = .ok (.pointer (some ⟨ad.block, ad.off + 1, none⟩)) w := by
  obtain ⟨b, o, s⟩ := ad
  subst h
  go_simp
theorem fld_laws_Row_2 (ad : Addr) (w : World) (h : ad.spot = none) : (Instr.fieldAt 42 (.pointer (some ad)) 2).run Try.prog w = .ok (.pointer (some ⟨ad.block, ad.off + 2, none⟩)) w := by
  obtain ⟨b, o, s⟩ := ad
  subst h
  go_simp
theorem bld_laws_Row (vs : Array (Nat × Value)) (r : Array Value) (w : World) (h : Instr.fill (fun i => ([(0, 1), (1, 1), (2, 1)] : List (Nat × Nat))[i]?) (Value.cells (.agg #[.int .i64 0, .int .i64 0, .int .i64 0])) vs.toList = some r) : (Instr.build 42 vs).run Try.prog w = .ok (.agg r) w := by
  have h2 := h
  simp only [Value.cells] at h2
  unfold Instr.build
  simp only [Sem.run_bind, zero_laws_Row, Result.andThen_ok]
  go_simp
theorem sz_spec_l1Cur : Sz 69 3 := Sz.of (by kernel_rfl)
theorem agg_spec_l1Cur (w : World) : (isAgg 69).run Try.prog w = .ok true w := by go_simp <;> rfl
theorem zero_spec_l1Cur (w : World) : (zeroValue 69).run Try.prog w = .ok (.agg #[.slice none 0 0, .int .i64 0, .int .i64 0]) w := by go_simp <;> rfl
theorem fld_spec_l1Cur_0 (ad : Addr) (w : World) (h : ad.spot = none) : (Instr.fieldAt 69 (.pointer (some ad)) 0).run Try.prog w = .ok (.pointer (some ⟨ad.block, ad.off + 0, none⟩)) w := by
  obtain ⟨b, o, s⟩ := ad
  subst h
  go_simp
theorem fld_spec_l1Cur_1 (ad : Addr) (w : World) (h : ad.spot = none) : (Instr.fieldAt 69 (.pointer (some ad)) 1).run Try.prog w = .ok (.pointer (some ⟨ad.block, ad.off + 1, none⟩)) w := by
  obtain ⟨b, o, s⟩ := ad
  subst h
  go_simp
theorem fld_spec_l1Cur_2 (ad : Addr) (w : World) (h : ad.spot = none) : (Instr.fieldAt 69 (.pointer (some ad)) 2).run Try.prog w = .ok (.pointer (some ⟨ad.block, ad.off + 2, none⟩)) w := by
  obtain ⟨b, o, s⟩ := ad
  subst h
  go_simp
theorem bld_spec_l1Cur (vs : Array (Nat × Value)) (r : Array Value) (w : World) (h : Instr.fill (fun i => ([(0, 1), (1, 1), (2, 1)] : List (Nat × Nat))[i]?) (Value.cells (.agg #[.slice none 0 0, .int .i64 0, .int .i64 0])) vs.toList = some r) : (Instr.build 69 vs).run Try.prog w = .ok (.agg r) w := by
  have h2 := h
  simp only [Value.cells] at h2
  unfold Instr.build
  simp only [Sem.run_bind, zero_spec_l1Cur, Result.andThen_ok]
  go_simp
theorem sz_string : Sz 9 1 := Sz.of (by kernel_rfl)
theorem agg_string (w : World) : (isAgg 9).run Try.prog w = .ok false w := by go_simp <;> rfl
theorem zero_string (w : World) : (zeroValue 9).run Try.prog w = .ok (.string ByteArray.empty) w := by go_simp <;> rfl
theorem sz_uint8 : Sz 5 1 := Sz.of (by kernel_rfl)
theorem agg_uint8 (w : World) : (isAgg 5).run Try.prog w = .ok false w := by go_simp <;> rfl
theorem zero_uint8 (w : World) : (zeroValue 5).run Try.prog w = .ok (.int .u8 0) w := by go_simp <;> rfl
theorem sz_s_impl_Pair : Sz 27 1 := Sz.of (by kernel_rfl)
theorem agg_s_impl_Pair (w : World) : (isAgg 27).run Try.prog w = .ok false w := by go_simp <;> rfl
theorem zero_s_impl_Pair (w : World) : (zeroValue 27).run Try.prog w = .ok (.slice none 0 0) w := by go_simp <;> rfl
theorem sz_s_impl_Row : Sz 24 1 := Sz.of (by kernel_rfl)
theorem agg_s_impl_Row (w : World) : (isAgg 24).run Try.prog w = .ok false w := by go_simp <;> rfl
theorem zero_s_impl_Row (w : World) : (zeroValue 24).run Try.prog w = .ok (.slice none 0 0) w := by go_simp <;> rfl
theorem sz_s_int : Sz 72 1 := Sz.of (by kernel_rfl)
theorem agg_s_int (w : World) : (isAgg 72).run Try.prog w = .ok false w := by go_simp <;> rfl
theorem zero_s_int (w : World) : (zeroValue 72).run Try.prog w = .ok (.slice none 0 0) w := by go_simp <;> rfl
theorem sz_s_laws_Pair : Sz 48 1 := Sz.of (by kernel_rfl)
theorem agg_s_laws_Pair (w : World) : (isAgg 48).run Try.prog w = .ok false w := by go_simp <;> rfl
theorem zero_s_laws_Pair (w : World) : (zeroValue 48).run Try.prog w = .ok (.slice none 0 0) w := by go_simp <;> rfl
theorem sz_s_laws_Row : Sz 35 1 := Sz.of (by kernel_rfl)
theorem agg_s_laws_Row (w : World) : (isAgg 35).run Try.prog w = .ok false w := by go_simp <;> rfl
theorem zero_s_laws_Row (w : World) : (zeroValue 35).run Try.prog w = .ok (.slice none 0 0) w := by go_simp <;> rfl
theorem sz_s_uint8 : Sz 22 1 := Sz.of (by kernel_rfl)
theorem agg_s_uint8 (w : World) : (isAgg 22).run Try.prog w = .ok false w := by go_simp <;> rfl
theorem zero_s_uint8 (w : World) : (zeroValue 22).run Try.prog w = .ok (.slice none 0 0) w := by go_simp <;> rfl
theorem elt_impl_Pair : ElT 27 32 7 (.agg #[.int .i64 0, .int .i64 0, .int .i64 0, .int .i64 0, .int .i64 0, .int .i64 0, .bool false]) 56 := ⟨Try.underlying27, by kernel_rfl, rfl, by decide, by decide, by decide⟩
theorem elt_impl_Row : ElT 24 30 3 (.agg #[.int .i64 0, .int .i64 0, .int .i64 0]) 24 := ⟨Try.underlying24, by kernel_rfl, rfl, by decide, by decide, by decide⟩
theorem elt_int : ElT 72 3 1 (.int .i64 0) 8 := ⟨Try.underlying72, by kernel_rfl, rfl, by decide, by decide, by decide⟩
theorem elt_laws_Pair : ElT 48 44 7 (.agg #[.int .i64 0, .int .i64 0, .int .i64 0, .int .i64 0, .int .i64 0, .int .i64 0, .bool false]) 56 := ⟨Try.underlying48, by kernel_rfl, rfl, by decide, by decide, by decide⟩
theorem elt_laws_Row : ElT 35 42 3 (.agg #[.int .i64 0, .int .i64 0, .int .i64 0]) 24 := ⟨Try.underlying35, by kernel_rfl, rfl, by decide, by decide, by decide⟩
theorem elt_uint8 : ElT 22 5 1 (.int .u8 0) 1 := ⟨Try.underlying22, by kernel_rfl, rfl, by decide, by decide, by decide⟩
end Go.Proofs.Ytlnjgoommpeioaa.V
/- States told by trees: contracts of functions that write into what they are handed, and their calls. -/
namespace Go.Proofs.Ytlnjgoommpeioaa.V
open Go Go.RowKit
set_option linter.unusedVariables false
/-- An argument's cell: it may be read; or it is a lent object. -/
inductive AC where
  | rd (t : T)
  | ln (i : Nat)
def AC.leaf : AC → Leaf
  | .rd t => argLeaf t
  | .ln i => .hd i
def Env.lend (w : World) (lv : Nat → Value) (F : Nat → Nat → Prop) (n : Nat) (hF : ∀ i b, i < n → F i b → b < w.heap.size) : Env := ⟨w, fun b => ∃ i, i < n ∧ F i b, fun b ⟨i, h1, h2⟩ => hF i b h1 h2, lv, n⟩
def ArgsM (E : Env) (ins : List (Bool × List AC)) (vs : List Value) : Prop :=
  vs.length = ins.length ∧ ∀ (c : Nat) (ag : Bool) (ts : List AC) (v : Value), ins[c]? = some (ag, ts) → vs[c]? = some v → ∃ us : List Value, v = cval ag us ∧ us.length = ts.length ∧ ∀ (j : Nat) (x : AC) (u : Value), ts[j]? = some x → us[j]? = some u → match x with
    | .rd t => Inn E.old E.w0 t u
    | .ln i => i < E.nl ∧ u = E.lv i
/-- The lent objects are these trees, apart from each other. -/
def Lents (E : Env) (ls : List T) (w' : World) : Prop :=
  ∃ F : Nat → Nat → Prop, (∀ i t, ls[i]? = some t → Own w' 0 t (E.lv i) (F i)) ∧ (∀ i j b, i < ls.length → j < ls.length → i ≠ j → F i b → ¬ F j b) ∧ ∀ i b, i < ls.length → F i b → (E.B ≤ b ∨ E.ln b) ∧ b < w'.heap.size
/-- The call yields v, and turns the lent objects from ls into ls', whatever the memory. -/
def VM (P : Program) (f : FuncId) (ins : List (Bool × List AC)) (ls ls' : List T) (v : Value) : Prop :=
  ∀ (w : World) (lv : Nat → Value) (F : Nat → Nat → Prop) (hF : ∀ i b, i < ls.length → F i b → b < w.heap.size) (vs : List Value), (∀ i t, ls[i]? = some t → Own w 0 t (lv i) (F i) ∧ ∃ ty es, t = .seq ty es) → (∀ i j b, i < ls.length → j < ls.length → i ≠ j → F i b → ¬ F j b) → ArgsM (Env.lend w lv F ls.length hF) ins vs →
    Calls P f vs.toArray w fun e w' => Gives (Env.lend w lv F ls.length hF) false [(false, [.lit v])] e w' ∧ Lents (Env.lend w lv F ls.length hF) ls' w'
def VS.initM (vs : List V) (ls : List T) : VS := ⟨fun s => vs.getD s (V.one .dead), [], fun i => (ls[i]?).map fun t => (0, t), ls.length⟩
theorem init_relM {E : Env} {ins : List (Bool × List AC)} {ls : List T} {F : Nat → Nat → Prop} {vs : List Value} {n : Nat} (hE : E.nl = ls.length) (hl : ∀ i t, ls[i]? = some t → Own E.w0 0 t (E.lv i) (F i) ∧ ∃ ty es, t = .seq ty es) (hd : ∀ i j b, i < ls.length → j < ls.length → i ≠ j → F i b → ¬ F j b)
    (hF : ∀ i b, i < ls.length → F i b → (E.B ≤ b ∨ E.ln b) ∧ b < E.w0.heap.size) (h : ArgsM E ins vs) (hn : vs.length ≤ n) : ∃ G, Rel E n (VS.initM (ins.map fun p => V.flat p.1 (p.2.map AC.leaf)) ls) { tmps := vs.toArray ++ Array.replicate (n - vs.length) undef, defers := [] } E.w0 G := by
  have hob : ∀ i ver t, (VS.initM (ins.map fun p => V.flat p.1 (p.2.map AC.leaf)) ls).ob i = some (ver, t) → ls[i]? = some t := fun i ver t hi => by
    obtain ⟨s, h1, h2⟩ := Option.map_eq_some_iff.1 hi
    cases h2
    exact h1
  have hlt : ∀ i, (VS.initM (ins.map fun p => V.flat p.1 (p.2.map AC.leaf)) ls).ob i ≠ none → i < ls.length := fun i hi => by
    obtain ⟨⟨v, t⟩, hv⟩ := Option.ne_none_iff_exists'.1 hi
    exact get_lt (hob i v t hv)
  refine ⟨⟨fun _ => 0, E.lv, F⟩, Same.refl _ _, rfl, by simp; omega, fun s => ?_, fun b ty xs hb => by simp [VS.initM] at hb, fun b b' hb => by simp [VS.initM] at hb, fun b i hb => by simp [VS.initM] at hb, fun i v t hi => ⟨get_lt (hob i v t hi), hl i t (hob i v t hi)⟩, fun i j b hi hj hij => hd i j b (hlt i hi) (hlt j hj) hij, fun i b hi hb => hF i b (hlt i hi) hb, ⟨by rw [hE]; exact Nat.le_refl _, fun i hi => rfl⟩⟩
  show VHolds _ _ _ E.w0 ((ins.map fun p => V.flat p.1 (p.2.map AC.leaf)).getD s (V.one .dead)) _
  rcases Nat.lt_or_ge s ins.length with hs | hs
  · obtain ⟨p, hp⟩ : ∃ p, ins[s]? = some p := ⟨ins[s], List.getElem?_eq_getElem hs⟩
    obtain ⟨ag, ts⟩ := p
    have hsv : s < vs.length := by rw [h.1]; exact hs
    obtain ⟨us, h1, h2, h3⟩ := h.2 s ag ts vs[s] hp (List.getElem?_eq_getElem hsv)
    have e1 : (ins.map fun p => V.flat p.1 (p.2.map AC.leaf)).getD s (V.one .dead) = V.flat ag (ts.map AC.leaf) := by simp [List.getD, hp]
    have e2 : (vs.toArray ++ Array.replicate (n - vs.length) undef).getD s undef = vs[s] := by
      simp only [Array.getD_eq_getD_getElem?]
      rw [Array.getElem?_append_left (by simpa using hsv)]
      simp [hsv]
    rw [e1]
    show VHolds _ _ _ E.w0 _ ((vs.toArray ++ Array.replicate (n - vs.length) undef).getD s undef)
    rw [e2, vflat]
    refine ⟨us, h1, by simp [h2], fun j x u hj hu => ?_⟩
    have hjt : j < ts.length := by have := get_lt hj; simpa using this
    have hx : x = AC.leaf ts[j] := by
      rw [List.getElem?_map, List.getElem?_eq_getElem hjt] at hj
      exact (Option.some.inj hj).symm
    have hin := h3 j ts[j] u (List.getElem?_eq_getElem hjt) hu
    rw [hx]
    cases hc : ts[j] with
    | ln i =>
      rw [hc] at hin
      obtain ⟨h4, h5⟩ := hin
      have h4' : i < ls.length := by rw [← hE]; exact h4
      exact ⟨⟨h4', h5⟩, .inr (by rw [h5]; exact (hl i ls[i] (List.getElem?_eq_getElem h4')).1.one)⟩
    | rd t =>
      rw [hc] at hin
      cases t with
      | any => exact ⟨trivial, .inl rfl⟩
      | lit v =>
        replace hin : Inn E.old E.w0 (.lit v) u := hin
        cases hin with
        | lit hv => exact ⟨rfl, .inr hv⟩
      | seq ty es => exact ⟨hin, .inr (Inn.one hin)⟩
  · have e1 : (ins.map fun p => V.flat p.1 (p.2.map AC.leaf)).getD s (V.one .dead) = V.one .dead := by simp [List.getD, hs]
    rw [e1, vone]
    exact ⟨trivial, .inl rfl⟩
theorem VM.enter {P : Program} {f : FuncId} {fn : Func} {c : Go.Code} {n : Nat} {ins : List (Bool × List AC)} {ls ls' : List T} {v : Value} {m : Nat} (hm : ls.length = m) (hf : P.funcs[f]? = some fn) (hb : fn.body = some c) (hn : fn.ntmps = n) (hl : ins.length ≤ n)
    (h : ∀ E, E.nl = m → SV E n (VS.initM (ins.map fun p => V.flat p.1 (p.2.map AC.leaf)) ls) (c.wp P (bodyPost P fn fun e w' => Gives E false [(false, [.lit v])] e w' ∧ Lents E ls' w'))) : VM P f ins ls ls' v := fun w lv F hF vs h1 h2 hv => by
  refine calls_of_wp hf hb ?_
  obtain ⟨G, hG⟩ := init_relM (E := Env.lend w lv F ls.length hF) (F := F) rfl h1 h2 (fun i b hi hb => ⟨.inr ⟨i, hi, hb⟩, hF i b hi hb⟩) hv (n := n) (by rw [hv.1]; exact hl)
  have := h (Env.lend w lv F ls.length hF) hm _ _ G hG
  rw [hn]
  have e : (Env.lend w lv F ls.length hF).w0 = w := rfl
  rw [e] at this
  simpa using this
variable {P : Program} {E : Env} {N : Nat} {σ σ' : VS} {o : Oper} {a : Act} {w : World} {G : Ghost}
/-- The lent objects' trees, in their order. -/
def VS.lentOk (σ : VS) : Nat → List T → Prop
  | _, [] => True
  | i, t :: ts => (σ.ob i).map (·.2) = some t ∧ σ.lentOk (i + 1) ts
theorem VS.lentOk.get : ∀ {ts : List T} {i : Nat}, σ.lentOk i ts → ∀ k t, ts[k]? = some t → ∃ v, σ.ob (i + k) = some (v, t)
  | t :: ts, i, h, 0, s, hk => by
    cases hk
    obtain ⟨⟨v, t'⟩, h1, h2⟩ := Option.map_eq_some_iff.1 h.1
    exact ⟨v, by rw [Nat.add_zero, h1]; exact congrArg (fun x => some (v, x)) h2⟩
  | t :: ts, i, h, k + 1, s, hk => by
    have := VS.lentOk.get h.2 k s (by simpa using hk)
    rwa [Nat.add_assoc, Nat.add_comm 1 k] at this
theorem Rel.lents (h : Rel E N σ a w G) {ls : List T} (hE : E.nl = ls.length) (hl : σ.lentOk 0 ls) : Lents E ls w := by
  have hg : ∀ i t, ls[i]? = some t → ∃ v, σ.ob i = some (v, t) := fun i t hi => by
    have := hl.get i t hi
    rwa [Nat.zero_add] at this
  have hne : ∀ i, i < ls.length → σ.ob i ≠ none := fun i hi => by
    obtain ⟨v, h1⟩ := hg i ls[i] (List.getElem?_eq_getElem hi)
    rw [h1]; simp
  refine ⟨G.ft, fun i t hi => ?_, fun i j b hi hj hij => h.disj i j b (hne i hi) (hne j hj) hij, fun i b hi hb => h.ftlt i b (hne i hi) hb⟩
  obtain ⟨v, h1⟩ := hg i t hi
  rw [← h.lent.2 i (by rw [hE]; exact get_lt hi)]
  exact (h.objs i v t h1).2.1
theorem SV.doneM {fn : Func} {ls : List T} {e : Exit} {R : Ending → World → Prop} {m : Nat} (hE : E.nl = m) (hm : ls.length = m) (hl : σ.lentOk 0 ls) (he : e = .ret ∨ e = .normal) (h : SV E N σ (bodyPost P fn R e)) : SV E N σ (bodyPost P fn (fun e w' => R e w' ∧ Lents E ls w') e) := fun a w G hr => by
  have h1 := h a w G hr
  have h2 := hr.lents (hE.trans hm.symm) hl
  rcases he with rfl | rfl
  all_goals
    obtain ⟨h3, v, h4, h5⟩ := h1
    exact ⟨h3, v, h4, h5, h2⟩
/-! ### Calls -/
/-- Arguments' cells: scalars, and places that are lent. -/
def VS.argM (ps : List Leaf) : List Leaf → List AC → Prop
  | [], [] => True
  | x :: xs, .rd t :: ts => (∃ u, t = .lit u ∧ x = .sc u) ∧ VS.argM ps xs ts
  | x :: xs, .ln i :: ts => ps[i]? = some x ∧ VS.argM ps xs ts
  | _, _ => False
theorem argM_get {ps : List Leaf} : ∀ {xs : List Leaf} {ts : List AC}, VS.argM ps xs ts → xs.length = ts.length ∧ ∀ (j : Nat) (t : AC), ts[j]? = some t → ∃ x, xs[j]? = some x ∧ match t with
    | .rd t => ∃ u, t = .lit u ∧ x = .sc u
    | .ln i => ps[i]? = some x
  | [], [], _ => ⟨rfl, fun j t h => by simp at h⟩
  | x :: xs, .rd t :: ts, h => by
    obtain ⟨h1, h2⟩ := argM_get h.2
    refine ⟨by simp [h1], fun j s hj => ?_⟩
    cases j with
    | zero => cases hj; exact ⟨x, rfl, h.1⟩
    | succ j => exact h2 j s (by simpa using hj)
  | x :: xs, .ln i :: ts, h => by
    obtain ⟨h1, h2⟩ := argM_get h.2
    refine ⟨by simp [h1], fun j s hj => ?_⟩
    cases j with
    | zero => cases hj; exact ⟨x, rfl, h.1⟩
    | succ j => exact h2 j s (by simpa using hj)
def VS.argsM (σ : VS) (ps : List Leaf) : List Operand → List (Bool × List AC) → Prop
  | [], [] => True
  | x :: xs, q :: qs => (∃ ls, σ.ev x = V.flat q.1 ls ∧ VS.argM ps ls q.2) ∧ σ.argsM ps xs qs
  | _, _ => False
theorem Rel.argsM (h : Rel E N σ a w G) {ps : List Leaf} {E' : Env} (hps : ∀ i x u, ps[i]? = some x → Holds G σ E w x u → i < E'.nl ∧ u = E'.lv i) : ∀ {xs : List Operand} {qs : List (Bool × List AC)}, σ.argsM ps xs qs → ArgsM E' qs (xs.map a.eval)
  | [], [], _ => ⟨rfl, fun c ag ts v hc => by simp at hc⟩
  | x :: xs, q :: qs, hq => by
    obtain ⟨⟨ls, h1, h2⟩, h3⟩ := hq
    obtain ⟨h4, h5⟩ := h.argsM hps h3
    refine ⟨by simpa using h4, fun c ag ts v hc hv => ?_⟩
    cases c with
    | zero =>
      cases hc
      cases hv
      have h6 := h.ev x
      rw [h1, vflat] at h6
      obtain ⟨us, h7, h8, h9⟩ := h6
      obtain ⟨h10, h11⟩ := argM_get h2
      refine ⟨us, h7, h8.trans h10, fun j t u hj hu => ?_⟩
      obtain ⟨y, h12, h13⟩ := h11 j t hj
      have h14 := h9 j y u h12 hu
      cases t with
      | ln i => exact hps i y u h13 h14
      | rd t =>
        obtain ⟨z, rfl, rfl⟩ := h13
        rcases h14.2 with h15 | h15
        · cases h15
        · have h16 : u = z := h14.1
          rw [h16] at h15 ⊢
          exact .lit h15
    | succ c => exact h5 c ag ts v (by simpa using hc) (by simpa using hv)
theorem Gives.lit {v : Value} {e : Ending} {w' : World} (h : Gives E false [(false, [.lit v])] e w') : e = .returned v ∧ Same E E.w0 w' := by
  obtain ⟨uss, F, h1, h2, h3, -, -, h4⟩ := h
  match uss, h1 with
  | [us], _ =>
    obtain ⟨h5, h6⟩ := h3 0 false [.lit v] us rfl rfl
    match us, h5 with
    | [u], _ =>
      have h7 := h6 0 (.lit v) u rfl rfl
      cases h7 with
      | lit h8 => exact ⟨h2, h4⟩
/-- An object's tree is another one. -/
def VS.setob (σ : VS) (i : Nat) (t : T) : VS := { σ with ob := fun k => bif Nat.beq k i then (σ.ob i).map (fun p => (p.1 + 1, t)) else σ.ob k }
def VS.setobs (σ : VS) : List Nat → List T → VS
  | i :: is, t :: ts => (σ.setob i t).setobs is ts
  | _, _ => σ
theorem setob_self {i : Nat} {t : T} : (σ.setob i t).ob i = (σ.ob i).map fun p => (p.1 + 1, t) := by show (bif Nat.beq i i then _ else _) = _; rw [Nat.beq_refl]; rfl
theorem setob_ne {i k : Nat} {t : T} (h : k ≠ i) : (σ.setob i t).ob k = σ.ob k := by show (bif Nat.beq k i then _ else _) = _; rw [nbne h]; rfl
theorem setobs_same : ∀ {is : List Nat} {ts : List T} {σ : VS}, (σ.setobs is ts).tm = σ.tm ∧ (σ.setobs is ts).bs = σ.bs ∧ (σ.setobs is ts).nx = σ.nx
  | [], _, _ => ⟨rfl, rfl, rfl⟩
  | _ :: _, [], _ => ⟨rfl, rfl, rfl⟩
  | i :: is, t :: ts, σ => setobs_same (is := is) (ts := ts) (σ := σ.setob i t)
theorem setobs_far : ∀ {is : List Nat} {ts : List T} {σ : VS} {k : Nat}, k ∉ is → (σ.setobs is ts).ob k = σ.ob k
  | [], _, _, _, _ => rfl
  | _ :: _, [], _, _, _ => rfl
  | i :: is, t :: ts, σ, k, h => by
    rw [show σ.setobs (i :: is) (t :: ts) = (σ.setob i t).setobs is ts from rfl, setobs_far (fun hk => h (List.mem_cons_of_mem _ hk)), setob_ne fun e => h (by rw [e]; exact List.mem_cons_self ..)]
theorem setobs_at : ∀ {is : List Nat} {ts : List T} {σ : VS} {q k : Nat} {t : T}, is.Nodup → is[q]? = some k → ts[q]? = some t → (σ.setobs is ts).ob k = (σ.ob k).map fun p => (p.1 + 1, t)
  | i :: is, s :: ts, σ, 0, k, t, hn, hk, ht => by
    cases hk
    cases ht
    rw [show σ.setobs (i :: is) (s :: ts) = (σ.setob i s).setobs is ts from rfl, setobs_far (List.nodup_cons.1 hn).1, setob_self]
  | i :: is, s :: ts, σ, q + 1, k, t, hn, hk, ht => by
    have hk' : is[q]? = some k := by simpa using hk
    have hne : k ≠ i := fun e => (List.nodup_cons.1 hn).1 (by rw [← e]; exact get_mem hk')
    rw [show σ.setobs (i :: is) (s :: ts) = (σ.setob i s).setobs is ts from rfl, setobs_at (List.nodup_cons.1 hn).2 hk' (by simpa using ht), setob_ne hne]
/-- What an object may be lent as. -/
def VS.lentIs (σ : VS) : List Nat → List T → List T → Prop
  | [], [], [] => True
  | i :: is, t :: ts, t' :: ts' => ((∃ v, σ.ob i = some (v, t)) ∧ (∃ ty es, t' = .seq ty es)) ∧ σ.lentIs is ts ts'
  | _, _, _ => False
theorem lentIs_get : ∀ {is : List Nat} {ts ts' : List T}, σ.lentIs is ts ts' → is.length = ts.length ∧ ts'.length = ts.length ∧ ∀ (q : Nat) (t : T), ts[q]? = some t → ∃ (i v : Nat) (t' : T), is[q]? = some i ∧ ts'[q]? = some t' ∧ σ.ob i = some (v, t) ∧ ∃ ty es, t' = .seq ty es
  | [], [], [], _ => ⟨rfl, rfl, fun q t h => by simp at h⟩
  | i :: is, t :: ts, t' :: ts', h => by
    obtain ⟨⟨⟨v, h1⟩, h2⟩, h3⟩ := h
    obtain ⟨h4, h5, h6⟩ := lentIs_get h3
    refine ⟨by simp [h4], by simp [h5], fun q s hq => ?_⟩
    cases q with
    | zero => cases hq; exact ⟨i, v, t', rfl, rfl, h1, h2⟩
    | succ q => exact h6 q s (by simpa using hq)
/-- A call that writes into objects of the caller's. -/
theorem ok_callM {d : Nat} {f : FuncId} {xs : List Operand} {ats : Array TypeId} {ins : List (Bool × List AC)} {ls ls' : List T} {v : Value} {is : List Nat} (ho : o.op = .call { callee := .value (.func f), args := xs.toArray, argTypes := ats }) (hb : ∃ fn c, P.funcs[f]? = some fn ∧ fn.body = some c ∧ fn.name ≠ "runtime.NumGoroutine")
    (hc : VM P f ins ls ls' v) (hx : σ.argsM (is.map .hd) xs ins) (hi : σ.lentIs is ls ls') (hnd : is.Nodup) (hv : v.oneCell' = true) (hd : o.dst = some d) (hdN : d < N) : OpOk P E N σ o ((σ.setobs is ls').put d (V.one (.sc v))) :=
  fun a w G K Q h k => by
    obtain ⟨fn, c, h1, h2, h2'⟩ := hb
    obtain ⟨l1, l2, l3⟩ := lentIs_get hi
    obtain ⟨F, hFd⟩ : ∃ F : Nat → Nat → Prop, F = fun q => G.ft (is.getD q 0) := ⟨_, rfl⟩
    obtain ⟨lv, hlv⟩ : ∃ lv : Nat → Value, lv = fun q => G.vl (is.getD q 0) := ⟨_, rfl⟩
    have hat : ∀ q i, is[q]? = some i → F q = G.ft i ∧ lv q = G.vl i := fun q i hq => by rw [hFd, hlv]; simp [List.getD, hq]
    have hin : ∀ q, q < ls.length → ∃ i ver t t', is[q]? = some i ∧ ls[q]? = some t ∧ ls'[q]? = some t' ∧ σ.ob i = some (ver, t) ∧ (∃ ty es, t' = .seq ty es) ∧ F q = G.ft i ∧ lv q = G.vl i := fun q hq => by
      obtain ⟨i, ver, t', e1, e2, e3, e4⟩ := l3 q ls[q] (List.getElem?_eq_getElem hq)
      exact ⟨i, ver, ls[q], t', e1, List.getElem?_eq_getElem hq, e2, e3, e4, hat q i e1⟩
    have hF : ∀ q b, q < ls.length → F q b → (E.B ≤ b ∨ E.ln b) ∧ b < w.heap.size := fun q b hq hb => by
      obtain ⟨i, ver, t, t', e1, e2, e3, e4, e5, e6, e7⟩ := hin q hq
      rw [e6] at hb
      exact h.ftlt i b (by rw [e4]; simp) hb
    have hinj : ∀ q q' i, is[q]? = some i → is[q']? = some i → q = q' := fun q q' i h1 h2 => by
      rcases Nat.lt_trichotomy q q' with hlt | he | hgt
      · exact absurd rfl (by
          have := (List.pairwise_iff_getElem.1 hnd) q q' (get_lt h1) (get_lt h2) hlt
          rw [List.getElem?_eq_getElem (get_lt h1)] at h1
          rw [List.getElem?_eq_getElem (get_lt h2)] at h2
          rw [Option.some.inj h1, Option.some.inj h2] at this
          exact this)
      · exact he
      · exact absurd rfl (by
          have := (List.pairwise_iff_getElem.1 hnd) q' q (get_lt h2) (get_lt h1) hgt
          rw [List.getElem?_eq_getElem (get_lt h1)] at h1
          rw [List.getElem?_eq_getElem (get_lt h2)] at h2
          rw [Option.some.inj h1, Option.some.inj h2] at this
          exact this)
    have hcall := hc w lv F (fun q b hq hb => (hF q b hq hb).2) (xs.map a.eval) (fun q t hq => by
      obtain ⟨i, ver, t', e1, e2, e3, e4⟩ := l3 q t hq
      obtain ⟨-, e5, e6⟩ := h.objs i ver t e3
      rw [(hat q i e1).1, (hat q i e1).2]
      exact ⟨e5, e6⟩) (fun q q' b hq hq' hne hb => by
      obtain ⟨i, ver, t, t', e1, e2, e3, e4, e5, e6, e7⟩ := hin q hq
      obtain ⟨i', ver', s, s', f1, f2, f3, f4, f5, f6, f7⟩ := hin q' hq'
      rw [e6] at hb
      rw [f6]
      refine h.disj i i' b (by rw [e4]; simp) (by rw [f4]; simp) (fun e => hne ?_) hb
      subst e
      exact hinj q q' i e1 f1) (h.argsM (fun q x u hq hu => by
      rw [List.getElem?_map] at hq
      obtain ⟨i, e1, e2⟩ := Option.map_eq_some_iff.1 hq
      subst e2
      exact ⟨by show q < ls.length; rw [← l1]; exact get_lt e1, by rw [hu.1.2]; exact (hat q i e1).2.symm⟩) hx)
    have hrun : (execOp a.eval o).run P w = .ok (.enter f (xs.map a.eval).toArray) w := by
      simp [execOp, ho, resolve, Act.eval, Deferred.ofValue, invoke, callFunc, h1, h2, h2', Result.andThen]
    unfold Oper.wp
    rw [hrun]
    refine hcall.mono fun e w' ⟨hg, F', o', d', l'⟩ => ?_
    obtain ⟨he, hsame⟩ := hg.lit
    subst he
    have hsm : Same E w w' := ⟨hsame.os, hsame.tape, hsame.output, hsame.size, fun b hb => hsame.block b ⟨Nat.lt_of_lt_of_le hb.1 h.low, fun ⟨q, hq, hqb⟩ => (hF q b hq hqb).1.elim (fun h1 => by have := hb.1; omega) hb.2⟩⟩
    obtain ⟨s1, s2, s3⟩ := setobs_same (is := is) (ts := ls') (σ := σ)
    have hmem : ∀ i, i ∈ is → ∃ q t t' ver, is[q]? = some i ∧ ls[q]? = some t ∧ ls'[q]? = some t' ∧ σ.ob i = some (ver, t) ∧ (∃ ty es, t' = .seq ty es) ∧ (σ.setobs is ls').ob i = some (ver + 1, t') := fun i hi => by
      obtain ⟨q, hq, rfl⟩ := List.getElem_of_mem hi
      obtain ⟨i', ver, t, t', e1, e2, e3, e4, e5, -⟩ := hin q (by omega)
      have : is[q] = i' := by rw [List.getElem?_eq_getElem hq] at e1; exact Option.some.inj e1
      subst this
      exact ⟨q, t, t', ver, e1, e2, e3, e4, e5, by rw [setobs_at hnd e1 e3, e4]; rfl⟩
    have hturn := h.turn (σ' := σ.setobs is ls') (w' := w') (G' := ⟨G.β, G.vl, fun i b => (i ∉ is ∧ G.ft i b) ∨ ∃ q, is[q]? = some i ∧ F' q b⟩) (fun b => ∃ q, q < ls.length ∧ F q b) s1 s2 rfl hsm (fun b hb hnD => hsame.block b ⟨hb, hnD⟩) (fun b hb ⟨q, hq, hqb⟩ => by
      obtain ⟨i, ver, t, t', e1, e2, e3, e4, e5, e6, e7⟩ := hin q hq
      rw [e6] at hqb
      exact h.boxft b i hb (by rw [e4]; simp) hqb) (Nat.le_of_eq s3.symm) (fun i hi => rfl) (fun i v' t' hv' => ?_) (fun i j b hi hj hij hbi hbj => ?_)
    · rw [hd]
      exact k _ _ _ (hturn.1.put hdN (vone.2 ⟨rfl, .inr hv⟩))
    · by_cases him : i ∈ is
      · obtain ⟨q, t, t2, ver, e1, e2, e3, e4, e5, e6⟩ := hmem i him
        rw [e6] at hv'
        cases hv'
        have hq := get_lt e3
        have hqi : ∀ b, ((i ∉ is ∧ G.ft i b) ∨ ∃ q, is[q]? = some i ∧ F' q b) → F' q b := fun b hb => by
          rcases hb with ⟨hb, -⟩ | ⟨q', f1, f2⟩
          · exact absurd him hb
          · rw [hinj q q' i e1 f1]; exact f2
        refine .inr ⟨by rw [s3]; exact (h.objs i ver t e4).1, fun _ => ⟨ver, t, e4, Nat.lt_succ_self _⟩, ?_, e5, fun b hb => ?_, fun b hb c hc e => ?_⟩
        · have := o' q t' e3
          rw [show (Env.lend w lv F ls.length _).lv q = G.vl i from (hat q i e1).2] at this
          exact this.mono fun b hb => .inr ⟨q, e1, hb⟩
        · obtain ⟨m1, m2⟩ := l' q b hq (hqi b hb)
          refine ⟨?_, m2⟩
          rcases m1 with m1 | ⟨q', m1, m3⟩
          · exact .inl (Nat.le_trans h.low m1)
          · exact (hF q' b m1 m3).1
        · obtain ⟨m1, m2⟩ := l' q b hq (hqi b hb)
          rcases m1 with m1 | ⟨q', m1, m3⟩
          · exact (h.fresh m1).2 c hc e
          · obtain ⟨i', ver', s, s', f1, f2, f3, f4, f5, f6, f7⟩ := hin q' m1
            rw [f6, ← e] at m3
            exact h.boxft c i' hc (by rw [f4]; simp) m3
      · rw [setobs_far him] at hv'
        refine .inl ⟨hv', fun b => ⟨fun hb => ?_, fun hb => .inl ⟨him, hb⟩⟩, fun b hb ⟨q, hq, hqb⟩ => ?_⟩
        · rcases hb with hb | ⟨q, f1, -⟩
          · exact hb.2
          · exact absurd (get_mem f1) him
        · obtain ⟨i', ver', s, s', f1, f2, f3, f4, f5, f6, f7⟩ := hin q hq
          rw [f6] at hqb
          exact h.disj i i' b (by rw [hv']; simp) (by rw [f4]; simp) (fun e => him (by rw [e]; exact get_mem f1)) hb hqb
    · have key : ∀ i q b, is[q]? = some i → F' q b → ∀ j, j ∉ is → σ.ob j ≠ none → ¬ G.ft j b := fun i q b e1 e2 j hj1 hj2 hjb => by
        have hq : q < ls'.length := by have := get_lt e1; omega
        obtain ⟨m1, m2⟩ := l' q b hq e2
        rcases m1 with m1 | ⟨q', m1, m3⟩
        · have := (h.ftlt j b hj2 hjb).2
          have m1' : w.heap.size ≤ b := m1
          omega
        · obtain ⟨i', ver', s, s', f1, f2, f3, f4, f5, f6, f7⟩ := hin q' m1
          rw [f6] at m3
          exact h.disj j i' b hj2 (by rw [f4]; simp) (fun e => hj1 (by rw [e]; exact get_mem f1)) hjb m3
      rcases hbi with ⟨hi1, hi2⟩ | ⟨q, hi1, hi2⟩ <;> rcases hbj with ⟨hj1, hj2⟩ | ⟨q', hj1, hj2⟩
      · rw [setobs_far hi1] at hi
        rw [setobs_far hj1] at hj
        exact h.disj i j b hi hj hij hi2 hj2
      · rw [setobs_far hi1] at hi
        exact key j q' b hj1 hj2 i hi1 hi hi2
      · rw [setobs_far hj1] at hj
        exact key i q b hi1 hi2 j hj1 hj hj2
      · have hq : q < ls'.length := by have := get_lt hi1; omega
        have hq' : q' < ls'.length := by have := get_lt hj1; omega
        exact d' q q' b hq hq' (fun e => hij (by subst e; rw [hi1] at hj1; exact Option.some.inj hj1)) hi2 hj2
end Go.Proofs.Ytlnjgoommpeioaa.V
/- States told by trees: what lies in an object's element is lent; an element's cells are written. -/
namespace Go.Proofs.Ytlnjgoommpeioaa.V
open Go Go.RowKit
set_option linter.unusedVariables false
variable {P : Program} {E : Env} {N : Nat} {σ σ' : VS} {o : Oper} {a : Act} {w : World} {G : Ghost}
theorem at_inj {n k k' j j' : Nat} (hj : j < n) (hj' : j' < n) (h : k * n + j = k' * n + j') : k = k' ∧ j = j' := by
  rcases Nat.lt_trichotomy k k' with h1 | h1 | h1
  · have h2 : (k + 1) * n ≤ k' * n := Nat.mul_le_mul_right n h1
    rw [Nat.add_mul, Nat.one_mul] at h2
    omega
  · subst h1
    exact ⟨rfl, by omega⟩
  · have h2 : (k' + 1) * n ≤ k * n := Nat.mul_le_mul_right n h1
    rw [Nat.add_mul, Nat.one_mul] at h2
    omega
theorem set_get {α : Type} {l : List α} {k q : Nat} {x y : α} (h : (l.set k y)[q]? = some x) : (q = k ∧ x = y) ∨ (q ≠ k ∧ l[q]? = some x) := by
  by_cases hq : q = k
  · subst hq
    have hl : q < l.length := by have := get_lt h; simpa using this
    rw [List.getElem?_set_self hl] at h
    exact .inl ⟨rfl, (Option.some.inj h).symm⟩
  · rw [List.getElem?_set_ne (fun e => hq e.symm)] at h
    exact .inr ⟨hq, h⟩
/-- A call that writes into a slice in an element of an object of the caller's. -/
theorem ok_callM_nd {d : Nat} {f : FuncId} {xs : List Operand} {ats : Array TypeId} {ins : List (Bool × List AC)} {v : Value} {i ver kk oo : Nat} {ty ty1 ty2 : TypeId} {es es' : List (List T)} {e : List T} {es1 es2 : List (List T)} (ho : o.op = .call { callee := .value (.func f), args := xs.toArray, argTypes := ats }) (hb : ∃ fn c, P.funcs[f]? = some fn ∧ fn.body = some c ∧ fn.name ≠ "runtime.NumGoroutine")
    (hc : VM P f ins [.seq ty1 es1] [.seq ty2 es2] v) (hx : σ.argsM [.nd i ver (.seq ty1 es1) (some (kk, oo))] xs ins) (hi : σ.ob i = some (ver, .seq ty es)) (he : es[kk]? = some e) (hoo : e[oo]? = some (.seq ty1 es1)) (hes : es.set kk (e.set oo (.seq ty2 es2)) = es') (hv : v.oneCell' = true) (hd : o.dst = some d) (hdN : d < N) : OpOk P E N σ o ((σ.setob i (.seq ty es')).put d (V.one (.sc v))) :=
  fun a w G K Q h k => by
    subst hes
    obtain ⟨fn, c, h1, h2, h2'⟩ := hb
    obtain ⟨hlt, hown0, -⟩ := h.objs i ver _ hi
    -- where the place lies
    have place : ∀ u, Holds G σ E w (.nd i ver (.seq ty1 es1) (some (kk, oo))) u → ∃ (g M c : Nat), G.vl i = .slice (some ⟨g, 0, none⟩) M c ∧ w.cell? ⟨g, kk * e.length + oo, none⟩ = some u := fun u hu => by
      obtain ⟨-, h5⟩ := hu.1.2.2 ⟨_, hi⟩
      obtain ⟨g, M, c, n, ty', fs, e', e1, e2, e3, e4, e5, e6⟩ := h5 kk oo rfl
      rw [hi] at e1
      cases e1
      rw [he] at e3
      cases e3
      subst e4
      exact ⟨g, M, c, e2, e6⟩
    generalize hV : G.vl i = V0 at hown0
    cases hown0 with
    | seq n hp hz hn xs0 hown Gs hr hone hFr hG hne hdd =>
    have hen : e.length = n := hn e (get_mem he)
    have hol : oo < n := by rw [← hen]; exact get_lt hoo
    have hql := at_lt (get_lt he) hol
    have hxl := hown.1
    obtain ⟨u0, hu0⟩ : ∃ u0, xs0[kk * n + oo]? = some u0 := ⟨_, List.getElem?_eq_getElem (by omega)⟩
    have hval : ∀ u, Holds G σ E w (.nd i ver (.seq ty1 es1) (some (kk, oo))) u → u = u0 := fun u hu => by
      obtain ⟨g, M, c, e1, e2⟩ := place u hu
      obtain ⟨a2, c2, e3, -, -, -, e4⟩ := own_slice hown
      obtain ⟨g2, e5, -, -, e6, -⟩ := e4 (by have := get_lt he; omega)
      rw [hV, e3] at e1
      injection e1 with e1 _ _
      rw [e5] at e1
      injection e1 with e1
      injection e1 with e1
      subst e1
      have := e6 _ _ hu0
      rw [hen, this] at e2
      exact (Option.some.inj e2).symm
    have hownu := hr kk e oo _ u0 he hoo hu0
    have hftG : ∀ q b, Gs q b → (E.B ≤ b ∨ E.ln b) ∧ b < w.heap.size := fun q b hb => h.ftlt i b (by rw [hi]; simp) (hG q b hb)
    have hcall := hc w (fun _ => u0) (fun _ => Gs (kk * n + oo)) (fun q b _ hb => (hftG _ b hb).2) (xs.map a.eval) (fun q t hq => by
      cases q with
      | zero => cases hq; exact ⟨hownu, _, _, rfl⟩
      | succ q => simp at hq) (fun q q' b hq hq' hne' => by simp at hq hq'; omega) (h.argsM (fun q x u hq hu => by
      cases q with
      | zero => cases hq; exact ⟨Nat.zero_lt_one, hval u hu⟩
      | succ q => simp at hq) hx)
    have hrun : (execOp a.eval o).run P w = .ok (.enter f (xs.map a.eval).toArray) w := by
      simp [execOp, ho, resolve, Act.eval, Deferred.ofValue, invoke, callFunc, h1, h2, h2', Result.andThen]
    unfold Oper.wp
    rw [hrun]
    refine hcall.mono fun ee w' ⟨hg, F', o', d', l'⟩ => ?_
    obtain ⟨hee, hsame⟩ := hg.lit
    subst hee
    have hblk : ∀ b, b < w.heap.size → ¬ Gs (kk * n + oo) b → w'.heap[b]? = w.heap[b]? := fun b hb hn => hsame.block b ⟨hb, fun ⟨q, _, hq⟩ => hn hq⟩
    have hsm : Same E w w' := ⟨hsame.os, hsame.tape, hsame.output, hsame.size, fun b hb => hblk b (Nat.lt_of_lt_of_le hb.1 h.low) fun hq => (hftG _ b hq).1.elim (fun h1 => by have := hb.1; omega) hb.2⟩
    have hown' : Own w' 0 (.seq ty2 es2) u0 (F' 0) := o' 0 _ rfl
    have hF' : ∀ b, F' 0 b → (w.heap.size ≤ b ∨ Gs (kk * n + oo) b) ∧ b < w'.heap.size := fun b hb => by
      obtain ⟨m1, m2⟩ := l' 0 b Nat.zero_lt_one hb
      exact ⟨m1.elim .inl fun ⟨q, _, hq⟩ => .inr hq, m2⟩
    have hF2 : ∀ b, F' 0 b → b < w.heap.size → Gs (kk * n + oo) b := fun b hb hlt => (hF' b hb).1.elim (fun h1 => absurd hlt (Nat.not_lt.2 h1)) id
    have hroot : ∀ b, V0.ownBlock = some b → b < w.heap.size := fun b hb => (World.ownsRow.lt hown b hb).2
    have hnew : Own w' 0 (.seq ty (es.set kk (e.set oo (.seq ty2 es2)))) V0 (fun b => G.ft i b ∨ F' 0 b) := by
      have hlen' : (es.set kk (e.set oo (.seq ty2 es2))).length = es.length := List.length_set
      refine .seq n hp hz (fun e' he' => ?_) xs0 (by rw [hlen']; exact ownsRow_heap hown fun b hb => hblk b (hroot b hb) fun hq => hne _ b hq hb) (fun q b => if q = kk * n + oo then F' 0 b else Gs q b) (fun k2 e2 j t u hk2 hj hu => ?_) hone (fun b hb => .inl (hFr b hb)) (fun q b hb => ?_) (fun q b hb hvb => ?_) fun q q' b hb hb' => ?_
      · rcases List.mem_or_eq_of_mem_set he' with h3 | h3
        · exact hn e' h3
        · rw [h3, List.length_set]; exact hen
      · have hfar : k2 * n + j ≠ kk * n + oo → Own w 0 t u (Gs (k2 * n + j)) → Own w' 0 t u (fun b => if k2 * n + j = kk * n + oo then F' 0 b else Gs (k2 * n + j) b) := fun hneq hw => by
          refine (hw.frame fun b hb => hblk b (hftG _ b hb).2 fun hq => hneq (hdd _ _ b hb hq)).mono fun b hb => ?_
          rw [if_neg hneq]; exact hb
        rcases set_get hk2 with ⟨rfl, rfl⟩ | ⟨hk2n, hk2⟩
        · rcases set_get hj with ⟨rfl, rfl⟩ | ⟨hjn, hj⟩
          · rw [hu0] at hu
            cases hu
            exact hown'.mono fun b hb => by rw [if_pos rfl]; exact hb
          · have hjl : j < n := by rw [← hen]; exact get_lt hj
            exact hfar (fun e3 => hjn (at_inj hjl hol e3).2) (hr k2 e j t u he hj hu)
        · have hjl : j < n := by rw [← hn e2 (get_mem hk2)]; exact get_lt hj
          exact hfar (fun e3 => hk2n (at_inj hjl hol e3).1) (hr k2 e2 j t u hk2 hj hu)
      · replace hb : if q = kk * n + oo then F' 0 b else Gs q b := hb
        split at hb
        · exact .inr hb
        · exact .inl (hG q b hb)
      · replace hb : if q = kk * n + oo then F' 0 b else Gs q b := hb
        split at hb
        · exact hne _ b (hF2 b hb (hroot b hvb)) hvb
        · exact hne _ b hb hvb
      · replace hb : if q = kk * n + oo then F' 0 b else Gs q b := hb
        replace hb' : if q' = kk * n + oo then F' 0 b else Gs q' b := hb'
        split at hb <;> split at hb'
        · omega
        · have := hdd _ _ b (hF2 b hb (hftG _ b hb').2) hb'
          omega
        · have := hdd _ _ b (hF2 b hb' (hftG _ b hb).2) hb
          omega
        · exact hdd _ _ b hb hb'
    have hself : (σ.setob i (.seq ty (es.set kk (e.set oo (.seq ty2 es2))))).ob i = some (ver + 1, .seq ty (es.set kk (e.set oo (.seq ty2 es2)))) := by rw [setob_self, hi]; rfl
    have hft : ∀ j, j ≠ i → ∀ b, (if j = i then G.ft i b ∨ F' 0 b else G.ft j b) ↔ G.ft j b := fun j hj b => by rw [if_neg hj]
    have hturn := h.turn (σ' := σ.setob i (.seq ty (es.set kk (e.set oo (.seq ty2 es2))))) (w' := w') (G' := ⟨G.β, G.vl, fun j b => if j = i then G.ft i b ∨ F' 0 b else G.ft j b⟩) (Gs (kk * n + oo)) rfl rfl rfl hsm hblk (fun b hb hq => h.boxft b i hb (by rw [hi]; simp) (hG _ _ hq)) (Nat.le_refl _) (fun j hj => rfl) (fun j v' t' hv' => ?_) (fun j j' b hj hj' hjj hbj hbj' => ?_)
    · rw [hd]
      exact k _ _ _ (hturn.1.put hdN (vone.2 ⟨rfl, .inr hv⟩))
    · by_cases hji : j = i
      · subst hji
        rw [hself] at hv'
        cases hv'
        refine .inr ⟨hlt, fun _ => ⟨ver, _, hi, Nat.lt_succ_self _⟩, ?_, ⟨_, _, rfl⟩, fun b hb => ?_, fun b hb c hc e3 => ?_⟩
        · rw [show (⟨G.β, G.vl, fun j' b => if j' = j then G.ft j b ∨ F' 0 b else G.ft j' b⟩ : Ghost).vl j = V0 from hV]
          exact hnew.mono fun b hb => by show if j = j then _ else _; rw [if_pos rfl]; exact hb
        · replace hb : if j = j then G.ft j b ∨ F' 0 b else G.ft j b := hb
          rw [if_pos rfl] at hb
          rcases hb with hb | hb
          · have := h.ftlt j b (by rw [hi]; simp) hb
            exact ⟨this.1, Nat.lt_of_lt_of_le this.2 hsm.size⟩
          · obtain ⟨m1, m2⟩ := hF' b hb
            exact ⟨m1.elim (fun m1 => .inl (Nat.le_trans h.low m1)) fun m1 => (hftG _ b m1).1, m2⟩
        · replace hb : if j = j then G.ft j b ∨ F' 0 b else G.ft j b := hb
          rw [if_pos rfl] at hb
          rcases hb with hb | hb
          · exact h.boxft c j hc (by rw [hi]; simp) (by rw [e3]; exact hb)
          · rcases (hF' b hb).1 with m1 | m1
            · exact (h.fresh m1).2 c hc e3
            · exact h.boxft c j hc (by rw [hi]; simp) (by rw [e3]; exact hG _ b m1)
      · rw [setob_ne hji] at hv'
        exact .inl ⟨hv', hft j hji, fun b hb hq => h.disj j i b (by rw [hv']; simp) (by rw [hi]; simp) hji hb (hG _ b hq)⟩
    · have key : ∀ j b, j ≠ i → σ.ob j ≠ none → G.ft j b → (G.ft i b ∨ F' 0 b) → False := fun j b hj hjo hjb hb => by
        rcases hb with hb | hb
        · exact h.disj j i b hjo (by rw [hi]; simp) hj hjb hb
        · rcases (hF' b hb).1 with m1 | m1
          · have := (h.ftlt j b hjo hjb).2; omega
          · exact h.disj j i b hjo (by rw [hi]; simp) hj hjb (hG _ b m1)
      replace hbj : if j = i then G.ft i b ∨ F' 0 b else G.ft j b := hbj
      replace hbj' : if j' = i then G.ft i b ∨ F' 0 b else G.ft j' b := hbj'
      split at hbj <;> split at hbj'
      · omega
      · rename_i e1 e2
        rw [setob_ne e2] at hj'
        exact key j' b e2 hj' hbj' hbj
      · rename_i e1 e2
        rw [setob_ne e1] at hj
        exact key j b e1 hj hbj hbj'
      · rename_i e1 e2
        rw [setob_ne e1] at hj
        rw [setob_ne e2] at hj'
        exact h.disj j j' b hj hj' hjj hbj hbj'
theorem splice_get {α : Type} {l vs : List α} {i j : Nat} (h : i + vs.length ≤ l.length) : (l.take i ++ vs ++ l.drop (i + vs.length))[j]? = if i ≤ j ∧ j < i + vs.length then vs[j - i]? else l[j]? := by
  have hl : (l.take i).length = i := by rw [List.length_take]; omega
  rw [List.append_assoc]
  rcases Nat.lt_or_ge j i with hj | hj
  · rw [List.getElem?_append_left (by omega), List.getElem?_take, if_pos hj, if_neg (by omega)]
  · rw [List.getElem?_append_right (by omega), hl]
    rcases Nat.lt_or_ge (j - i) vs.length with hk | hk
    · rw [List.getElem?_append_left hk, if_pos ⟨hj, by omega⟩]
    · rw [List.getElem?_append_right hk, List.getElem?_drop, if_neg (by omega)]
      congr 1
      omega
theorem splice_len {α : Type} {l vs : List α} {i : Nat} (h : i + vs.length ≤ l.length) : (l.take i ++ vs ++ l.drop (i + vs.length)).length = l.length := by
  simp only [List.length_append, List.length_take, List.length_drop]
  omega
theorem kills_ob {cs : List Leaf} {j : Nat} (h : cs.any (isHd j) = false) : (σ.kills cs).ob j = σ.ob j := by show (bif cs.any (isHd j) then none else σ.ob j) = _; rw [h]; rfl
theorem kills_none {cs : List Leaf} {j : Nat} (h : cs.any (isHd j) = true) : (σ.kills cs).ob j = none := by show (bif cs.any (isHd j) then none else σ.ob j) = _; rw [h]; rfl
/-- Cells of an object's element are written; what is handed over is gone. -/
theorem ok_store_ep {i ver kk oo n m : Nat} {ty ty0 : TypeId} {x y : Operand} {ag : Bool} {zs : List Leaf} {ts : List T} {es es' : List (List T)} {e : List T} (ho : o.op = .store ty0 x y) (hx : σ.ev x = V.one (.ep i kk n oo)) (hy : σ.ev y = V.flat ag zs) (hi : σ.ob i = some (ver, .seq ty es)) (he : es[kk]? = some e) (hm : Sz ty0 m) (h1 : ag = false → m = 1)
    (hzl : zs.length = m) (hsn : Sz ty n) (hlen : oo + m ≤ n) (ht : σ.outs zs ts) (h2 : zs.Pairwise two) (hself : zs.any (isHd i) = false) (hes : es.set kk (e.take oo ++ ts ++ e.drop (oo + ts.length)) = es') (hd : o.dst = none) : OpOk Try.prog E N σ o ((σ.kills zs).setob i (.seq ty es')) :=
  fun a w G K Q h k => by
    subst hes
    have hxv := h.ev x
    rw [hx, vone] at hxv
    obtain ⟨⟨hlt, g, M, c, hvl, hptr⟩, -⟩ := hxv
    have hyv := h.ev y
    rw [hy, vflat] at hyv
    obtain ⟨us, hu1, hu2, hu3⟩ := hyv
    obtain ⟨o1, o2⟩ := outs_get ht
    have hzo : ∀ z ∈ zs, ∃ t, σ.out z = some t := fun z hz => by
      obtain ⟨j, hj, rfl⟩ := List.getElem_of_mem hz
      obtain ⟨z', e1, e2⟩ := o2 j ts[j] (List.getElem?_eq_getElem (by omega))
      rw [List.getElem?_eq_getElem hj] at e1
      exact ⟨_, by rw [Option.some.inj e1]; exact e2⟩
    have hown1 : ∀ (j : Nat) (t : T) (u : Value), ts[j]? = some t → us[j]? = some u → ∃ z, zs[j]? = some z ∧ Own w 0 t u (z.foot G) := fun j t u hj hu => by
      obtain ⟨z, e1, e2⟩ := o2 j t hj
      exact ⟨z, e1, h.out (hu3 j z u e1 hu) e2⟩
    -- whose blocks they are
    have hfoot : ∀ z ∈ zs, ∀ b, z.foot G b → ∃ j, z = .hd j ∧ σ.ob j ≠ none ∧ j ≠ i ∧ G.ft j b := fun z hz b hb => by
      cases z with
      | hd j =>
        obtain ⟨t, e1⟩ := hzo _ hz
        obtain ⟨p, e2, -⟩ := Option.map_eq_some_iff.1 e1
        refine ⟨j, rfl, by rw [e2]; simp, fun e3 => ?_, hb⟩
        subst e3
        have := List.any_eq_false.1 hself _ hz
        exact this (Nat.beq_refl j)
      | _ => exact hb.elim
    have hfd : ∀ (q q' : Nat) (z z' : Leaf) (b : Nat), zs[q]? = some z → zs[q']? = some z' → z.foot G b → z'.foot G b → q = q' := fun q q' z z' b e1 e2 hb hb' => by
      obtain ⟨j, rfl, f1, f2, f3⟩ := hfoot z (get_mem e1) b hb
      obtain ⟨j', rfl, f4, f5, f6⟩ := hfoot z' (get_mem e2) b hb'
      have hjj : j = j' := by
        rcases Nat.decEq j j' with hne | hne
        · exact absurd f6 (h.disj j j' b f1 f4 hne f3)
        · exact hne
      subst hjj
      have g1 := get_lt e1
      have g2 := get_lt e2
      rw [List.getElem?_eq_getElem g1] at e1
      rw [List.getElem?_eq_getElem g2] at e2
      rcases Nat.lt_trichotomy q q' with hlt2 | he2 | hgt
      · have := (List.pairwise_iff_getElem.1 h2) q q' g1 g2 hlt2
        rw [Option.some.inj e1, Option.some.inj e2] at this
        exact absurd rfl (this j rfl)
      · exact he2
      · have := (List.pairwise_iff_getElem.1 h2) q' q g2 g1 hgt
        rw [Option.some.inj e1, Option.some.inj e2] at this
        exact absurd rfl (this j rfl)
    have hone1 : ∀ u ∈ us, u.oneCell' = true := fun u hu => by
      obtain ⟨j, hj, rfl⟩ := List.getElem_of_mem hu
      obtain ⟨z, -, e2⟩ := hown1 j ts[j] us[j] (List.getElem?_eq_getElem (by omega)) (List.getElem?_eq_getElem hj)
      exact e2.one
    obtain ⟨hlt2, hown0, -⟩ := h.objs i ver _ hi
    rw [hvl] at hown0
    cases hown0 with
    | seq n' hp hz hn xs0 hown Gs hr hone hFr hG hne hdd =>
    have hnn := hz.eq hsn
    subst hnn
    have hen : e.length = n' := hn e (get_mem he)
    have hkl := get_lt he
    have hwn := hown
    obtain ⟨hxl, ⟨e0, -⟩ | ⟨g2, cap, cur, e0, hB, hh, hcap, hcm, hcs, htk⟩⟩ := hown
    · cases e0
    injection e0 with e0 e0' e0''
    injection e0 with e0
    injection e0 with e0
    subst e0
    have hq : kk * n' + oo + us.length ≤ es.length * n' := by
      have : (kk + 1) * n' ≤ es.length * n' := Nat.mul_le_mul_right n' hkl
      rw [Nat.add_mul, Nat.one_mul] at this
      omega
    have hcl : es.length * n' ≤ cur.toList.length := by
      have h3 : cur.toList.length = cap * n' := by simpa using hcs
      rw [h3]
      exact Nat.mul_le_mul_right n' hcap
    have hh' : w.heap[g]? = some (.cells cur.toList.toArray ty (0, 0)) := by simpa using hh
    have hnew := setCells_heap g us (kk * n' + oo) w cur.toList ty hh' (by omega)
    obtain ⟨w', hw'⟩ : ∃ w', w' = w.setCells g (kk * n' + oo) us := ⟨_, rfl⟩
    rw [← hw'] at hnew
    have hfar : ∀ b, b ≠ g → w'.heap[b]? = w.heap[b]? := fun b hb => by rw [hw']; exact setCells_far g us _ w b hb
    have hbel : Below 0 w w' := by rw [hw']; exact setCells_below g 0 us _ w (Nat.zero_le _)
    have hgft : G.ft i g := hFr g rfl
    have hgl := h.ftlt i g (by rw [hi]; simp) hgft
    have hsm : Same E w w' := ⟨hbel.os, hbel.tape, hbel.output, hbel.size, fun b hb => hfar b fun e1 => by
      subst e1
      exact hgl.1.elim (fun h1 => by have := hb.1; omega) hb.2⟩
    have hrun := store_run (P := Try.prog) (w := w) (b := g) (i := kk * n' + oo) (us := us) (ag := ag) hm h1 (hu2.trans hzl) hone1 (fun q hq' => by
      rw [cell_of_row w _ _ _ _ _ hh]
      simp [show kk * n' + oo + q < cur.size by rw [← Array.length_toList]; omega]) fun q hq' => by simp [World.frozen?, hh]
    have hul : us.length = ts.length := by omega
    have htl : oo + ts.length ≤ e.length := by omega
    have hnewown : Own w' 0 (.seq ty (es.set kk (e.take oo ++ ts ++ e.drop (oo + ts.length)))) (.slice (some ⟨g, 0, none⟩) es.length cap) (fun b => G.ft i b ∨ ∃ z ∈ zs, z.foot G b) := by
      have hl' : (es.set kk (e.take oo ++ ts ++ e.drop (oo + ts.length))).length = es.length := List.length_set
      have hxs : ∀ q, (xs0.take (kk * n' + oo) ++ us ++ xs0.drop (kk * n' + oo + us.length))[q]? = if kk * n' + oo ≤ q ∧ q < kk * n' + oo + us.length then us[q - (kk * n' + oo)]? else xs0[q]? := fun q => splice_get (by omega)
      have hgn : ∀ z ∈ zs, ∀ b, z.foot G b → b ≠ g := fun z hz b hb e1 => by
        obtain ⟨j, -, f1, f2, f3⟩ := hfoot z hz b hb
        subst e1
        exact h.disj j i _ f1 (by rw [hi]; simp) f2 f3 hgft
      have hGz : ∀ z ∈ zs, ∀ q b, Gs q b → z.foot G b → False := fun z hz q b hb hb' => by
        obtain ⟨j, -, f1, f2, f3⟩ := hfoot z hz b hb'
        exact h.disj j i b f1 (by rw [hi]; simp) f2 f3 (hG q b hb)
      have hown2 : w'.ownsRow 0 ty n' (.slice (some ⟨g, 0, none⟩) es.length cap) es.length (xs0.take (kk * n' + oo) ++ us ++ xs0.drop (kk * n' + oo + us.length)) := by
        refine ⟨by rw [splice_len (by omega)]; exact hxl, .inr ⟨g, cap, _, rfl, Nat.zero_le _, hnew, hcap, hcm, ?_, ?_⟩⟩
        · simp only [List.size_toArray]
          rw [splice_len (by omega), Array.length_toList, hcs]
        · apply List.ext_getElem?
          intro q
          rw [hxs q, List.getElem?_take]
          simp only []
          rw [splice_get (by omega)]
          have hx0 : xs0[q]? = if q < es.length * n' then cur.toList[q]? else none := by rw [← htk, List.getElem?_take]
          rw [hx0]
          split
          · rfl
          · rw [if_neg (by omega)]
      refine .seq n' hp hz (fun e' he' => ?_) (xs0.take (kk * n' + oo) ++ us ++ xs0.drop (kk * n' + oo + us.length)) (by rw [hl']; exact hown2) (fun q b => if kk * n' + oo ≤ q ∧ q < kk * n' + oo + us.length then ∃ z, zs[q - (kk * n' + oo)]? = some z ∧ z.foot G b else Gs q b) (fun k2 e2 j t u hk2 hj hu => ?_) (fun u hu => ?_) (fun b hb => .inl (hFr b hb)) (fun q b hb => ?_) (fun q b hb hvb => ?_) fun q q' b hb hb' => ?_
      · rcases List.mem_or_eq_of_mem_set he' with h3 | h3
        · exact hn e' h3
        · rw [h3, splice_len htl]; exact hen
      · rw [hxs] at hu
        have hold : ∀ j, ¬ (kk * n' + oo ≤ k2 * n' + j ∧ k2 * n' + j < kk * n' + oo + us.length) → Own w 0 t u (Gs (k2 * n' + j)) → Own w' 0 t u (fun b => if kk * n' + oo ≤ k2 * n' + j ∧ k2 * n' + j < kk * n' + oo + us.length then ∃ z, zs[k2 * n' + j - (kk * n' + oo)]? = some z ∧ z.foot G b else Gs (k2 * n' + j) b) := fun j hneq hw => by
          refine (hw.frame fun b hb => hfar b fun e1 => hne _ b hb (by rw [e1]; rfl)).mono fun b hb => ?_
          rw [if_neg hneq]; exact hb
        rcases set_get hk2 with ⟨rfl, rfl⟩ | ⟨hk2n, hk2⟩
        · rw [splice_get htl] at hj
          by_cases hjr : oo ≤ j ∧ j < oo + ts.length
          · rw [if_pos hjr] at hj
            rw [if_pos (by omega), show k2 * n' + j - (k2 * n' + oo) = j - oo by omega] at hu
            obtain ⟨z, f1, f2⟩ := hown1 _ t u hj hu
            refine (f2.frame fun b hb => hfar b (hgn z (get_mem f1) b hb)).mono fun b hb => ?_
            rw [if_pos (by omega), show k2 * n' + j - (k2 * n' + oo) = j - oo by omega]
            exact ⟨z, f1, hb⟩
          · rw [if_neg hjr] at hj
            rw [if_neg (by omega)] at hu
            exact hold j (by omega) (hr k2 e j t u he hj hu)
        · have hjl : j < n' := by rw [← hn e2 (get_mem hk2)]; exact get_lt hj
          have hout : ¬ (kk * n' + oo ≤ k2 * n' + j ∧ k2 * n' + j < kk * n' + oo + us.length) := fun ⟨f1, f2⟩ => by
            have := at_inj (k := k2) (k' := kk) (j := j) (j' := k2 * n' + j - kk * n') hjl (by omega) (by omega)
            exact hk2n this.1
          rw [if_neg hout] at hu
          exact hold j hout (hr k2 e2 j t u hk2 hj hu)
      · rcases List.mem_append.1 hu with hu | hu
        · rcases List.mem_append.1 hu with hu | hu
          · exact hone u (List.mem_of_mem_take hu)
          · exact hone1 u hu
        · exact hone u (List.mem_of_mem_drop hu)
      · split at hb
        · obtain ⟨z, f1, f2⟩ := hb
          exact .inr ⟨z, get_mem f1, f2⟩
        · exact .inl (hG q b hb)
      · split at hb
        · obtain ⟨z, f1, f2⟩ := hb
          exact hgn z (get_mem f1) b f2 (Option.some.inj hvb).symm
        · exact hne q b hb hvb
      · split at hb <;> split at hb'
        · obtain ⟨z, f1, f2⟩ := hb
          obtain ⟨z', f3, f4⟩ := hb'
          have := hfd _ _ z z' b f1 f3 f2 f4
          omega
        · obtain ⟨z, f1, f2⟩ := hb
          exact (hGz z (get_mem f1) _ b hb' f2).elim
        · obtain ⟨z, f1, f2⟩ := hb'
          exact (hGz z (get_mem f1) _ b hb f2).elim
        · exact hdd _ _ b hb hb'
    have hki : (σ.kills zs).ob i = some (ver, .seq ty es) := by rw [kills_ob hself]; exact hi
    have hkj : ∀ j v, j ≠ i → ((σ.kills zs).setob i (.seq ty (es.set kk (e.take oo ++ ts ++ e.drop (oo + ts.length))))).ob j = some v → σ.ob j = some v ∧ zs.any (isHd j) = false := fun j v hj hv => by
      rw [setob_ne hj] at hv
      cases hc : zs.any (isHd j) with
      | true => rw [kills_none hc] at hv; cases hv
      | false => rw [kills_ob hc] at hv; exact ⟨hv, rfl⟩
    have hapart : ∀ j b, σ.ob j ≠ none → zs.any (isHd j) = false → j ≠ i → G.ft j b → (G.ft i b ∨ ∃ z ∈ zs, z.foot G b) → False := fun j b f1 f2 f3 f4 f5 => by
      rcases f5 with f5 | ⟨z, f5, f6⟩
      · exact h.disj j i b f1 (by rw [hi]; simp) f3 f4 f5
      · obtain ⟨j', rfl, f7, f8, f9⟩ := hfoot z f5 b f6
        refine h.disj j j' b f1 f7 (fun e1 => ?_) f4 f9
        subst e1
        exact List.any_eq_false.1 f2 _ f5 (Nat.beq_refl j)
    have hturn := h.turn (σ' := (σ.kills zs).setob i (.seq ty (es.set kk (e.take oo ++ ts ++ e.drop (oo + ts.length))))) (w' := w') (G' := ⟨G.β, G.vl, fun j b => if j = i then G.ft i b ∨ ∃ z ∈ zs, z.foot G b else G.ft j b⟩) (fun b => b = g) rfl rfl rfl hsm (fun b _ hb => hfar b hb) (fun b hb e1 => h.boxft b i hb (by rw [hi]; simp) (by rw [e1]; exact hgft)) (Nat.le_refl _) (fun j hj => rfl) (fun j v' t' hv' => ?_) (fun j j' b hj hj' hjj hbj hbj' => ?_)
    · refine wp_skipped (w' := w') ?_ (by rw [hd]; exact k _ _ _ hturn.1)
      rw [hw']
      simp [execOp, ho, hptr, hu1, Instr.storeAt, Instr.sureAddr, hrun, Result.andThen]
    · by_cases hji : j = i
      · subst hji
        rw [setob_self, hki] at hv'
        cases hv'
        refine .inr ⟨hlt2, fun _ => ⟨ver, _, hi, Nat.lt_succ_self _⟩, ?_, ⟨_, _, rfl⟩, fun b hb => ?_, fun b hb c' hc' e3 => ?_⟩
        · rw [show (⟨G.β, G.vl, fun j' b => if j' = j then G.ft j b ∨ ∃ z ∈ zs, z.foot G b else G.ft j' b⟩ : Ghost).vl j = .slice (some ⟨g, 0, none⟩) es.length cap by rw [← e0', ← e0'']; exact hvl]
          exact hnewown.mono fun b hb => by show if j = j then _ else _; rw [if_pos rfl]; exact hb
        · replace hb : if j = j then G.ft j b ∨ ∃ z ∈ zs, z.foot G b else G.ft j b := hb
          rw [if_pos rfl] at hb
          have : (E.B ≤ b ∨ E.ln b) ∧ b < w.heap.size := by
            rcases hb with hb | ⟨z, f1, f2⟩
            · exact h.ftlt j b (by rw [hi]; simp) hb
            · obtain ⟨j', -, f3, f4, f5⟩ := hfoot z f1 b f2
              exact h.ftlt j' b f3 f5
          exact ⟨this.1, Nat.lt_of_lt_of_le this.2 hsm.size⟩
        · replace hb : if j = j then G.ft j b ∨ ∃ z ∈ zs, z.foot G b else G.ft j b := hb
          rw [if_pos rfl] at hb
          subst e3
          rcases hb with hb | ⟨z, f1, f2⟩
          · exact h.boxft c' j hc' (by rw [hi]; simp) hb
          · obtain ⟨j', -, f3, f4, f5⟩ := hfoot z f1 _ f2
            exact h.boxft c' j' hc' f3 f5
      · obtain ⟨f1, f2⟩ := hkj j _ hji hv'
        refine .inl ⟨f1, fun b => by show (if j = i then _ else _) ↔ _; rw [if_neg hji], fun b hb e1 => ?_⟩
        subst e1
        exact h.disj j i _ (by rw [f1]; simp) (by rw [hi]; simp) hji hb hgft
    · replace hbj : if j = i then G.ft i b ∨ ∃ z ∈ zs, z.foot G b else G.ft j b := hbj
      replace hbj' : if j' = i then G.ft i b ∨ ∃ z ∈ zs, z.foot G b else G.ft j' b := hbj'
      split at hbj <;> split at hbj'
      · omega
      · rename_i e1 e2
        obtain ⟨vj, hvj⟩ := Option.ne_none_iff_exists'.1 hj'
        obtain ⟨f1, f2⟩ := hkj j' vj e2 hvj
        exact hapart j' b (by rw [f1]; simp) f2 e2 hbj' hbj
      · rename_i e1 e2
        obtain ⟨vj, hvj⟩ := Option.ne_none_iff_exists'.1 hj
        obtain ⟨f1, f2⟩ := hkj j vj e1 hvj
        exact hapart j b (by rw [f1]; simp) f2 e1 hbj hbj'
      · rename_i e1 e2
        obtain ⟨vj, hvj⟩ := Option.ne_none_iff_exists'.1 hj
        obtain ⟨f1, -⟩ := hkj j vj e1 hvj
        obtain ⟨vj', hvj'⟩ := Option.ne_none_iff_exists'.1 hj'
        obtain ⟨f2, -⟩ := hkj j' vj' e2 hvj'
        exact h.disj j j' b (by rw [f1]; simp) (by rw [f2]; simp) hjj hbj hbj'
/-- The cells of an element of an object. -/
theorem cells_ep {i ver k n o' : Nat} {ty : TypeId} {es : List (List T)} {e ds : List T} (hi : σ.ob i = some (ver, .seq ty es)) (he : es[k]? = some e) (hn : e.length = n) (hd : e.drop o' = ds) : σ.cells (.ep i k n o') = some ds := by
  show (σ.ob i).bind _ = _
  rw [hi]
  show es[k]?.bind _ = _
  rw [he]
  show (bif Nat.beq e.length n then some (e.drop o') else none) = _
  rw [hn, Nat.beq_refl, ← hd]; rfl
/-- No slice is longer than that. -/
theorem SV.lenle {s : Nat} {lf : Leaf} {ty : TypeId} {es : List (List T)} {K : Act → World → Prop} (hx : σ.tm s = V.one lf) (ht : σ.tr lf = some (.seq ty es)) (k : es.length ≤ maxLen → SV E N σ K) : SV E N σ K := fun a w G h => by
  obtain ⟨ad, c, n, h1, h2, h3, -⟩ := inn_seq (h.head (x := .tmp s) hx ht)
  exact k (Nat.le_trans h2 h3) a w G h
/-! ### 'make' -/
def zeroT : Leaf → T
  | .sc u => .lit u
  | .nl ty => .seq ty []
  | _ => .any
theorem zl_own {w : World} : ∀ {xs : List Leaf} {us : List Value}, ZL xs us → ∀ (j : Nat) (x : Leaf) (u : Value), xs[j]? = some x → us[j]? = some u → Own w 0 (zeroT x) u (fun _ => False)
  | [], [], _, j, x, u, h1, _ => by simp at h1
  | .sc v :: xs, u :: us, h, j, x, y, h1, h2 => by
    cases j with
    | zero => cases h1; cases h2; rw [h.1]; exact .lit (by rw [← h.1]; exact h.2.1)
    | succ j => exact zl_own h.2.2 j x y (by simpa using h1) (by simpa using h2)
  | .nl _ :: xs, u :: us, h, j, x, y, h1, h2 => by
    cases j with
    | zero =>
      cases h1; cases h2
      obtain ⟨n, hn, hz⟩ := h.2.1
      rw [h.1]
      exact Own.seq (es := []) n hn hz (fun e he => by cases he) [] (World.ownsRow_nil _ _ _ _) (fun _ _ => False) (fun k e j t u h => by simp at h) (fun u hu => by cases hu) (fun b hb => by cases hb) (fun i b hb => hb.elim) (fun i b hb => hb.elim) fun i j b hb => hb.elim
    | succ j => exact zl_own h.2.2 j x y (by simpa using h1) (by simpa using h2)
theorem made_get {z : Array Value} {m q : Nat} {u : Value} (hz : 0 < z.size) (h : (madeCells z m).toList[q]? = some u) : z.toList[q % z.size]? = some u := by
  have hq : q < m := by have := get_lt h; simpa [madeCells] using this
  have hm : q % z.size < z.size := Nat.mod_lt _ hz
  simp [madeCells, hq] at h
  rw [← h]
  simp [hm]
/-- 'make([]T, k)'. -/
theorem ok_make {d : Nat} {t ty : TypeId} {n bytes : Nat} {z : Value} {x y : Operand} {zs : List Leaf} {zt : List T} {k0 : Nat} {kl kc : IntKind} (I : ElT t ty n z bytes) {kk : Nat} (hk : σ.nx = kk) (ho : o.op = .makeSlice t x y) (hx : σ.ev x = V.one (.sc (.int kl (k0 : Nat)))) (hy : σ.ev y = V.one (.sc (.int kc (k0 : Nat)))) (hz : ZL zs z.cells.toList) (hzt : zs.map zeroT = zt) (hl : k0 ≤ 350000000000)
    (hd : o.dst = some d) (hdN : d < N) : OpMk Try.prog E N none σ o ((σ.new (.seq ty (List.replicate k0 zt))).put d (V.one (.hd kk))) :=
  fun a w G K Q h k => by
    subst hk hzt
    obtain ⟨i0, hi, hz0, hz1, hz2⟩ := info_parts I.inf
    have hby : i0.bytes * k0 ≤ 281474976710656 := by
      have h1 : i0.bytes * k0 ≤ 400 * 350000000000 := Nat.mul_le_mul (by rw [hz2]; exact I.small) hl
      omega
    have hrun := run_make (P := Try.prog) w t ty i0 z I.und hi hz0 kl kc k0 k0 (by omega) (Int.le_refl _) (by
      have h1 : ((i0.bytes * k0 : Nat) : Int) ≤ 281474976710656 := by omega
      rwa [Int.natCast_mul] at h1) (by omega)
    simp only [Int.toNat_natCast, hz1] at hrun
    have hzn : zs.length = n := by
      have := hz.len
      rw [← this, Array.length_toList]
      exact I.zs
    have hown := World.ownsRow_lit (base := 0) (w := w) (e := ty) (size := n) (madeCells z.cells (k0 * n)) k0 (Nat.zero_le _) (by unfold maxLen; omega) (size_madeCells _ _)
    obtain ⟨w', hw'⟩ : ∃ w', w' = w.alloc (.cells (madeCells z.cells (k0 * n)) ty) := ⟨_, rfl⟩
    have hget : ∀ (q : Nat) (u : Value), (madeCells z.cells (k0 * n)).toList[q]? = some u → z.cells.toList[q % n]? = some u := fun q u hu => by
      have := made_get (by rw [I.zs]; exact I.pos) hu
      rwa [I.zs] at this
    obtain ⟨G', hG', ⟨hvl, hvls, hβs⟩, -, -⟩ := h.renew [] (fun x hx => by cases hx) (w' := w.alloc (.cells (madeCells z.cells (k0 * n)) ty)) (t := .seq ty (List.replicate k0 (zs.map zeroT))) (v := .slice (some ⟨w.heap.size, 0, none⟩) k0 k0) (F := fun b => b = w.heap.size) (fun _ => False) (.of_below ((Below.refl _ _).alloc h.low _)) (fun k hk _ => Below.heap_alloc _ _ _ hk) (fun b hb => hb.elim)
      (.seq n I.pos I.sz (fun e he => by rw [List.eq_of_mem_replicate he, List.length_map]; exact hzn) (madeCells z.cells (k0 * n)).toList (by rw [List.length_replicate]; exact hown) (fun _ _ => False) (fun k e j t u he hj hu => by
          have he' : e = zs.map zeroT := List.eq_of_mem_replicate (get_mem he)
          subst he'
          rw [List.getElem?_map] at hj
          obtain ⟨lf, e1, e2⟩ := Option.map_eq_some_iff.1 hj
          have hjn : j < n := by rw [← hzn]; exact get_lt e1
          have := hget _ u hu
          rw [Nat.add_comm, Nat.add_mul_mod_self_right, Nat.mod_eq_of_lt hjn] at this
          rw [← e2]
          exact zl_own hz j lf u e1 this)
        (fun u hu => by
          obtain ⟨q, hq, rfl⟩ := List.getElem_of_mem hu
          have h1 := hget q _ (List.getElem?_eq_getElem hq)
          have h2 : q % n < zs.length := by rw [hzn]; exact Nat.mod_lt _ I.pos
          exact (zl_own (w := w) hz (q % n) zs[q % n] _ (List.getElem?_eq_getElem h2) h1).one) (fun b hb => by cases hb; rfl) (fun q b hb => hb.elim) (fun q b hb => hb.elim) fun q q' b hb => hb.elim)
      ⟨_, _, rfl⟩ fun b hb => ⟨by subst hb; exact ⟨.inl h.low, by simp⟩, .inl (h.fresh (by rw [hb]; exact Nat.le_refl _))⟩
    refine wp_value (v := .slice (some ⟨w.heap.size, 0, none⟩) k0 k0) (w' := w.alloc (.cells (madeCells z.cells (k0 * n)) ty)) ?_ (by rw [hd]; exact k _ _ _ (hG'.put hdN (vone.2 ⟨⟨Nat.lt_succ_self _, hvl.symm⟩, .inr rfl⟩)) ⟨by simp, .of_below ((Below.refl _ _).alloc h.low _), hvls, fun b _ => by rw [hβs], fun b hb => .inl (Below.heap_alloc _ _ _ hb), fun i e1 e2 b e3 => .inl (by
      have hi : i = σ.nx := Nat.le_antisymm (Nat.le_of_lt_succ e2) e1
      rw [hi, hvl] at e3
      rw [← Option.some.inj e3]; exact Nat.le_refl _)⟩)
    have hxv := h.sc hx
    have hyv := h.sc hy
    simp [execOp, ho, hxv, hyv, hrun, Result.andThen]
end Go.Proofs.Ytlnjgoommpeioaa.V
