/- Texts joined: GSeq SortG Cmpi GSort MergeI. -/
import Derived.Test.YtmlcdhblofjpbaaPartMergeGroupsg
import Derived.Shelf.SlSortCmp.NoneTotal
import Derived.Shelf.SlSortCmp.WholeK
import Derived.StillTailTactics
import Derived.Test.YtmlcdhblofjpbaaShelfSort
import Derived.RangeFuncBound
/- slices.AppendSeq and slices.Collect at groups, against any iterator that gives its groups one by one. -/
namespace Go.Proofs.Ytmlcdhblofjpbaa
open Go Go.RowKit Go.Maps Go.Sort
set_option linter.unusedVariables false
abbrev OwnG (w : World) (B : Nat) (v : Value) (M : List GroupD) : Prop := w.ownsRow B 36 5 v M.length (M.flatMap GroupD.cells)
theorem groupInfo5 : (Try.prog.info? 36).map (fun i => (i.zero, i.size, i.bytes)) = some (some (.agg #[.int .i64 0, .int .i64 0, .int .i64 0, .int .i64 0, .int .i64 0]), 5, 40) := by kernel_rfl
/-- The loop's two parts: the variable, the append. -/
def gAssign : Code := .region 2 #[{ dst := some 5, op := .alloc 36, type := 0, pos := "iter.go:51", after := #[], guard := none }, { dst := none, op := .store 36 (.tmp 5) (.tmp 7), type := 0, pos := "iter.go:51", after := #[{ on := 0, ground := .data }, { on := 0, ground := .phase }], guard := none }] false
def gBody : Code := .block 1 (.region 3 #[{ dst := some 8, op := .load 24 (.tmp 2), type := 24, pos := "iter.go:52", after := #[], guard := none }, { dst := some 9, op := .load 36 (.tmp 5), type := 36, pos := "iter.go:52", after := #[], guard := none },
  { dst := some 10, op := .buildSlice 24 1 #[(0, .tmp 9)], type := 24, pos := "iter.go:52", after := #[{ on := 1, ground := .data }], guard := none },
  { dst := some 11, op := .call { callee := .builtin .append, args := #[.tmp 8, .tmp 10], argTypes := #[24, 24] }, type := 24, pos := "iter.go:52", after := #[{ on := 0, ground := .data }, { on := 2, ground := .data }], guard := none },
  { dst := none, op := .store 24 (.tmp 2) (.tmp 11), type := 0, pos := "iter.go:52", after := #[{ on := 3, ground := .data }, { on := 3, ground := .chain }, { on := 0, ground := .phase }, { on := 1, ground := .phase }, { on := 2, ground := .phase }, { on := 3, ground := .phase }], guard := none }] false)
def gRec (fn : FuncId) (sv : Value) (Bs D : Nat) (st : LoopState) (pend : Option Code) : Loop :=
  { state := st, pending := pend, fn, tmps := #[.slice none 0 0, sv, .pointer (some ⟨Bs, 0, none⟩), undef, .slice none 0 0, undef, sv, undef, undef, undef, undef, undef, undef], params := #[7], assign := gAssign, body := gBody, defers := D }
/-- Between two rounds. -/
structure ApG (w0 : World) (fn : FuncId) (sv : Value) (Bs l D : Nat) (ps : List GroupD) (W : World) : Prop where
  box : ∃ v, W.heap[Bs]? = some (.cells #[v] 24 (0, 0)) ∧ OwnG W w0.heap.size v ps
  L : W.heap[l]? = some (.loop (gRec fn sv Bs D .ready none))
  K : W.heap[D]? = some (.deferred (some []))
  below : Below w0.heap.size w0 W
theorem apG_abides (w0 : World) (fn : FuncId) (sv : Value) (Bs l D B : Nat) (hB : w0.heap.size ≤ B) : AbidesFrom B (ApG w0 fn sv Bs l D) := fun s W W' row h hg hrow => by
  have hrow' : ∀ r, row = some r → ∃ o : Obj, W.heap[r]? = some o ∧ o.isWalk = true := fun r e => (hrow r e).2
  obtain ⟨v, hv, hr⟩ := h.box
  exact ⟨⟨v, (grownBy_keeps hg hrow' hv rfl).trans hv, ownsRow_abides_a hr hg hrow'⟩, (grownBy_keeps hg hrow' h.L rfl).trans h.L, (grownBy_keeps hg hrow' h.K rfl).trans h.K,
    h.below.grown hg h.below.size (fun k e => Nat.le_trans hB (hrow k e).1)⟩
theorem box_ne {ps : List GroupD} {v : Value} {cur : Array Value} : (Obj.cells #[v] 24 (0, 0)) ≠ .cells cur 36 (0, 0) := fun e => by
  injection e with _ e
  exact absurd e (by decide)
set_option maxRecDepth 100000 in
set_option maxHeartbeats 2000000 in
theorem gYield (F : Fence) (m : Nat) (w0 : World) (fn : FuncId) (hfn : F.fn fn) (sv : Value) (Bs l D : Nat) (hBl : Bs ≠ l) (hDl : D ≠ l) (hDB : D ≠ Bs) (h0B : w0.heap.size ≤ Bs) (h0l : w0.heap.size ≤ l)
    (ps : List GroupD) (x : GroupD) (W : World) (h : ApG w0 fn sv Bs l D ps W) (hlen : ps.length < 350000000000) :
    YieldAt F m Try.prog l #[x.val] W fun e W' => e = .returned (.bool true) ∧ ApG w0 fn sv Bs l D (ps ++ [x]) W' ∧ KeepsWalks W W' := by
  obtain ⟨i0, hi, hz0, hz1, hz2⟩ := info_parts groupInfo5
  refine ⟨fn, #[.slice none 0 0, sv, .pointer (some ⟨Bs, 0, none⟩), undef, .slice none 0 0, undef, sv, x.val, undef, undef, undef, undef, undef], gAssign, gBody, by simpa [gRec] using run_yield (P := Try.prog) (args := #[x.val]) h.L rfl, roundIn_of_wpIn hfn ?_⟩
  have hl0 : l < W.heap.size := (Array.getElem?_eq_some_iff.1 h.L).1
  obtain ⟨Wa, hWa⟩ : ∃ Wa, Wa = W.alloc (.cells #[.int .i64 x.fKey, .int .i64 x.fCount, .int .i64 x.fSum, .int .i64 x.fMin, .int .i64 x.fMax] 36) := ⟨_, rfl⟩
  have ha : ApG w0 fn sv Bs l D ps Wa := by rw [hWa]; exact apG_abides w0 fn sv Bs l D w0.heap.size (Nat.le_refl _) ps W _ none h (World.grownBy_alloc W _ none) (fun r e => by cases e)
  have hka : KeepsWalks W Wa := by rw [hWa]; exact KeepsWalks.alloc W _
  have hxa : Wa.heap[W.heap.size]? = some (.cells x.cells.toArray 36 (0, 0)) := by rw [hWa]; exact World.alloc_heap_new W _
  have hl : l < Wa.heap.size := by rw [hWa]; simp; omega
  obtain ⟨v, hv, hrow⟩ := ha.box
  have hbr := run_beginRound (P := Try.prog) ha.L rfl
  obtain ⟨W2, hW2⟩ : ∃ W2, Wa.putObj l (.loop { gRec fn sv Bs D .ready none with state := .busy }) = W2 := ⟨_, rfl⟩
  rw [hW2] at hbr
  have hg2 : Wa.grownBy W2 (some l) := by rw [← hW2]; exact grownBy_putObj_a _ _ _
  have hk2 : KeepsWalks Wa W2 := by rw [← hW2]; exact KeepsWalks.putObj _ ha.L rfl
  have hv2 : W2.heap[Bs]? = some (.cells #[v] 24 (0, 0)) := by rw [← hW2]; exact (World.putObj_heap_other hBl).trans hv
  have hK2 : W2.heap[D]? = some (.deferred (some [])) := by rw [← hW2]; exact (World.putObj_heap_other hDl).trans ha.K
  have hL2 : W2.heap[l]? = some (.loop { gRec fn sv Bs D .ready none with state := .busy }) := by rw [← hW2]; exact World.putObj_heap_same hl
  have hx2 : W2.heap[W.heap.size]? = some (.cells x.cells.toArray 36 (0, 0)) := by rw [← hW2]; exact (World.putObj_heap_other (by omega)).trans hxa
  have hrow2 : OwnG W2 w0.heap.size v ps := hrow.kept hg2 (ownsRow_ne_a hrow ha.L (fun cur e => by cases e))
  have hb2 : Below w0.heap.size w0 W2 := ha.below.grown hg2 ha.below.size (fun k e => by cases e; exact h0l)
  obtain ⟨hc2, hf2⟩ := cell_of_box_a hv2
  have hBlt : Bs < W2.heap.size := (Array.getElem?_eq_some_iff.1 hv2).1
  have hl2 : l < W2.heap.size := (Array.getElem?_eq_some_iff.1 hL2).1
  have hDlt : D < W2.heap.size := (Array.getElem?_eq_some_iff.1 hK2).1
  have hxlt : W.heap.size < W2.heap.size := (Array.getElem?_eq_some_iff.1 hx2).1
  have ne_of : ∀ {j : Nat} {o : Obj}, W2.heap[j]? = some o → (∀ cur, o ≠ .cells cur 36 (0, 0)) → some j ≠ v.ownBlock := fun hj hno => by
    rcases ownsRow_ne_a hrow2 hj hno with e | e
    · rw [e]; simp
    · exact fun e' => e e'.symm
  obtain ⟨x0, x1, x2, x3, x4⟩ : W2.cell? ⟨W.heap.size, 0, none⟩ = some (.int .i64 x.fKey) ∧ W2.cell? ⟨W.heap.size, 1, none⟩ = some (.int .i64 x.fCount) ∧ W2.cell? ⟨W.heap.size, 2, none⟩ = some (.int .i64 x.fSum) ∧ W2.cell? ⟨W.heap.size, 3, none⟩ = some (.int .i64 x.fMin) ∧ W2.cell? ⟨W.heap.size, 4, none⟩ = some (.int .i64 x.fMax) := by
    refine ⟨?_, ?_, ?_, ?_, ?_⟩ <;> simp [World.cell?, hx2, GroupD.cells]
  clear hW2
  subst hWa
  unfold gAssign GroupD.val
  gi_wp2_with gi_round_op_a
  unfold gBody
  have hlow := hb2.size
  gi_wp2_with (first
    | (gi_at_builtin; refine wpListIn_append_own _ rfl _ _ 24 rfl w0.heap.size 36 i0 (.agg #[.int .i64 0, .int .i64 0, .int .i64 0, .int .i64 0, .int .i64 0]) 5 40 Try.underlying24 hi hz0 hz1 hz2 rfl (by decide) _ _ _ rfl (hrow2.alloc _) ⟨W2.heap.size, 0, none⟩ 1 1 x.cells rfl rfl ?hcell ?hone (by unfold maxLen; omega) (by omega) (by simp; omega) ?_; rotate_left 2; intro v' w3 hown' hg3 hnil3
       have hg3' : (W2.alloc (.cells #[.int .i64 x.fKey, .int .i64 x.fCount, .int .i64 x.fSum, .int .i64 x.fMin, .int .i64 x.fMax] 36)).grownBy w3 v.ownBlock := hg3
       have hv3 : w3.heap[Bs]? = some (.cells #[v] 24 (0, 0)) := (hg3'.block Bs (by simp; omega) (ne_of hv2 (fun cur e => by cases e))).trans ((Below.heap_alloc _ _ Bs hBlt).trans hv2)
       obtain ⟨hc3, hf3⟩ := cell_of_box_a hv3
       obtain ⟨g', cap', cur', rfl, hbase', hgb', hr1, hr2, hr3, hr4⟩ : ∃ g' cap' cur', v' = .slice (some ⟨g', 0, none⟩) (ps.length + 1) cap' ∧ w0.heap.size ≤ g' ∧ w3.heap[g']? = some (.cells cur' 36 (0, 0)) ∧ ps.length + 1 ≤ cap' ∧ cap' ≤ maxLen ∧ cur'.size = cap' * 5 ∧ cur'.toList.take ((ps.length + 1) * 5) = ps.flatMap GroupD.cells ++ x.cells := by
         rcases hown'.2 with ⟨_, h0⟩ | h'
         · exact absurd h0 (by omega)
         · exact h'
       clear hg3 hnil3
       go_frame)
    | gi_round_op_a)
  case hcell =>
    intro j u hj
    have hnew := World.alloc_heap_new W2 (.cells #[.int .i64 x.fKey, .int .i64 x.fCount, .int .i64 x.fSum, .int .i64 x.fMin, .int .i64 x.fMax] 36)
    rw [Addr.add_lit]
    simp only [World.cell?, hnew]
    rw [Nat.zero_add]
    have : (x.cells.toArray)[j]? = some u := by simpa using hj
    exact this
  case hone =>
    intro u hu
    simp only [GroupD.cells, List.mem_cons, List.not_mem_nil, or_false] at hu
    rcases hu with rfl | rfl | rfl | rfl | rfl <;> rfl
  have hL3 : w3.heap[l]? = some (.loop { gRec fn sv Bs D .ready none with state := .busy }) := (hg3'.block l (by simp; omega) (ne_of hL2 (fun cur e => by cases e))).trans ((Below.heap_alloc _ _ l hl2).trans hL2)
  have hK3 : w3.heap[D]? = some (.deferred (some [])) := (hg3'.block D (by simp; omega) (ne_of hK2 (fun cur e => by cases e))).trans ((Below.heap_alloc _ _ D hDlt).trans hK2)
  obtain ⟨w4, hw4⟩ : ∃ w4, w3.setCell ⟨Bs, 0, none⟩ (.slice (some ⟨g', 0, none⟩) (ps.length + 1) cap') = w4 := ⟨_, rfl⟩
  rw [hw4]
  have hg4 : w3.grownBy w4 (some Bs) := by rw [← hw4]; exact grownBy_setCell0_a _ _ _
  have hv4 : w4.heap[Bs]? = some (.cells #[.slice (some ⟨g', 0, none⟩) (ps.length + 1) cap'] 24 (0, 0)) := by rw [← hw4]; exact heap_setCell_box_a _ hv3
  have hL4 : w4.heap[l]? = some (.loop { gRec fn sv Bs D .ready none with state := .busy }) := (hg4.block l (Array.getElem?_eq_some_iff.1 hL3).1 (fun e => hBl (by cases e; rfl))).trans hL3
  have hK4 : w4.heap[D]? = some (.deferred (some [])) := (hg4.block D (Array.getElem?_eq_some_iff.1 hK3).1 (fun e => hDB (by cases e; rfl))).trans hK3
  have hrow4 := hown'.kept hg4 (ownsRow_ne_a hown' hv3 (fun cur e => by cases e))
  have hl4 : l < w4.heap.size := (Array.getElem?_eq_some_iff.1 hL4).1
  have hb3 : Below w0.heap.size w0 w3 := (hb2.alloc hb2.size _).grown hg3' (by have := hb2.size; simp; omega) (fun k e => (hrow2.lt k e).1)
  have hb4 : Below w0.heap.size w0 w4 := hb3.grown hg4 hb3.size (fun k e => by cases e; exact h0B)
  have hk4 : KeepsWalks W w4 := ((((hka.trans hk2).trans (KeepsWalks.alloc _ _)).trans (KeepsWalks.of_grownBy hg3' (ownsRow_not_walk_a (hrow2.alloc _)))).trans (by rw [← hw4]; exact KeepsWalks.setCell _ _ _))
  clear hw4
  refine ⟨_, _, run_endRound none hL4, rfl, ⟨⟨_, (World.putObj_heap_other hBl).trans hv4, ?_⟩, World.putObj_heap_same hl4, (World.putObj_heap_other hDl).trans hK4, hb4.grown (grownBy_putObj_a _ _ _) hb4.size (fun k e => by cases e; exact h0l)⟩, hk4.trans (KeepsWalks.putObj _ hL4 rfl)⟩
  have := hrow4.kept (grownBy_putObj_a w4 l (.loop { { gRec fn sv Bs D .ready none with state := .busy } with state := if (none : Option Code).isNone then .ready else .done, pending := none })) (ownsRow_ne_a hrow4 hL4 (fun cur e => by cases e))
  show World.ownsRow _ _ _ _ _ (ps ++ [x]).length ((ps ++ [x]).flatMap GroupD.cells)
  simpa using this
set_option maxRecDepth 100000 in
set_option maxHeartbeats 2000000 in
/-- slices.AppendSeq(nil, seq). -/
theorem gappend_in (F : Fence) (n : Nat) (hf : F.fn 40) (hro : F.round = none) (hn : 2 ≤ n) (g : Nat) (lb : Array Value) (hFg : F.fn g) (eg : ∀ args w, (callFunc g args).run Try.prog w = .ok (.enter g args) w)
    (S : List GroupD → Prop) (N : Nat) (hN : N ≤ 350000000000) (w : World) (hseq : SeqGives F (n - 1) Try.prog g lb GroupD.val S N w) :
    CallsIn F n Try.prog 40 #[.slice none 0 0, .func (.func g) #[] lb] w fun e w' => ∃ (v : Value) (ps : List GroupD), e = .returned v ∧ S ps ∧ OwnG w' w.heap.size v ps ∧ Below w.heap.size w w' := by
  have h1 : 1 ≤ n := by omega
  refine callsIn_of_wp_marks Try.func40 rfl hf ?_ hro
  simp only [Try.ntmps40, List.size_toArray, List.length_cons, List.length_nil, Nat.reduceAdd, Nat.reduceSub, Array.replicate_succ, Array.replicate_zero, List.push_toArray, List.append_toArray, List.nil_append, List.cons_append]
  gi_wp2
  refine wpIn_rangeFunc ?_
  intro fn hfn
  rw [hro]
  obtain ⟨W0, hW0⟩ : ∃ W0, w.alloc (.cells #[.slice none 0 0] 24) = W0 := ⟨_, rfl⟩
  have hs0 : W0.heap.size = w.heap.size + 1 := by rw [← hW0]; simp
  have hv0 : W0.heap[w.heap.size]? = some (.cells #[.slice none 0 0] 24 (0, 0)) := by rw [← hW0]; exact World.alloc_heap_new w _
  have hb0 : Below w.heap.size w W0 := by rw [← hW0]; exact (Below.refl _ w).alloc (Nat.le_refl _) _
  rw [hW0]
  obtain ⟨W1, hW1⟩ : ∃ W1, (W0.alloc (.deferred (some []))).alloc (.loop (gRec fn (.func (.func g) #[] lb) w.heap.size W0.heap.size .ready none)) = W1 := ⟨_, rfl⟩
  have hold : ∀ k, k < W0.heap.size → W1.heap[k]? = W0.heap[k]? := fun k hk => by
    rw [← hW1]; exact (Below.heap_alloc _ _ k (by simp; omega)).trans (Below.heap_alloc _ _ k hk)
  have hb1 : Below w.heap.size w W1 := by rw [← hW1]; exact (hb0.alloc hb0.size _).alloc (by have := hb0.size; simp; omega) _
  have hs1 : W1.heap.size = W0.heap.size + 2 := by rw [← hW1]; simp
  have hM : ApG w fn (.func (.func g) #[] lb) w.heap.size (W0.heap.size + 1) W0.heap.size [] W1 :=
    ⟨⟨_, (hold w.heap.size (by omega)).trans hv0, ⟨rfl, .inl ⟨rfl, rfl⟩⟩⟩,
     by rw [← hW1]; have := World.alloc_heap_new (W0.alloc (.deferred (some []))) (.loop (gRec fn (.func (.func g) #[] lb) w.heap.size W0.heap.size .ready none)); rwa [World.size_alloc] at this,
     by rw [← hW1]; exact (Below.heap_alloc _ _ _ (by simp)).trans (World.alloc_heap_new W0 _), hb1⟩
  refine ⟨W0.heap.size + 1, [{ target := .collected W0.heap.size, args := #[] }], W1, { target := .fn (.func g) lb, args := #[.func (.yield (W0.heap.size + 1)) #[] #[]] }, W1, g,
    #[.func (.yield (W0.heap.size + 1)) #[] #[]] ++ lb, W1, ?_, ?_, ?_, ?_, fun _ => h1, ?_⟩
  · rw [← hW1]; exact run_enterLoop_outer _ _ _ _ _
  · simp [resolve, go_sem]
  · intro f' hf'; simp [Target.leads] at hf'; subst hf'; exact hFg
  · simp [invoke, go_sem, eg]
  · refine (hseq (W0.heap.size + 1) (ApG w fn (.func (.func g) #[] lb) w.heap.size (W0.heap.size + 1) W0.heap.size) W1 hb1 (apG_abides _ _ _ _ _ _ _ hb1.size)
      (fun pre x W hJ hl => gYield F (n - 1 - 1) w fn hfn _ w.heap.size (W0.heap.size + 1) W0.heap.size (by omega) (by omega) (by omega) (Nat.le_refl _) (by omega) pre x W hJ (by omega)) hM).mono ?_
    rintro e W2 ⟨⟨v0, rfl⟩, ps, hS, h2⟩
    obtain ⟨v, hv, hrow⟩ := h2.box
    have hend := run_endLoop (P := Try.prog) h2.L (by simp [gRec])
    obtain ⟨W3, hW3⟩ : ∃ W3, W2.putObj (W0.heap.size + 1) (.loop { gRec fn (.func (.func g) #[] lb) w.heap.size W0.heap.size .ready none with state := .exhausted }) = W3 := ⟨_, rfl⟩
    rw [hW3] at hend
    have hg3 : W2.grownBy W3 (some (W0.heap.size + 1)) := by rw [← hW3]; exact grownBy_putObj_a _ _ _
    have hv3 : W3.heap[w.heap.size]? = some (.cells #[v] 24 (0, 0)) := by rw [← hW3]; exact (World.putObj_heap_other (by omega)).trans hv
    have hK3 : W3.heap[W0.heap.size]? = some (.deferred (some [])) := by rw [← hW3]; exact (World.putObj_heap_other (by omega)).trans h2.K
    have hrow3 := hrow.kept hg3 (ownsRow_ne_a hrow h2.L (fun cur e => by cases e))
    have hb3 : Below w.heap.size w W3 := h2.below.grown hg3 h2.below.size (fun k e => by cases e; omega)
    obtain ⟨hc3, hf3⟩ := cell_of_box_a hv3
    clear hW3
    refine ⟨none, W3, hend, ?_⟩
    gi_wp2
    rw [← hs0]
    refine ⟨by simp, .inl ⟨_, _, rfl, run_takeDeferred hK3, ?_⟩⟩
    exact ⟨_, results_tmp rfl _ _ _, v, ps, rfl, hS, hrow3.kept (grownBy_putObj_a _ _ _) (ownsRow_ne_a hrow3 hK3 (fun cur e => by cases e)), hb3.grown (grownBy_putObj_a _ _ _) hb3.size (fun k e => by cases e; omega)⟩
set_option maxHeartbeats 1000000 in
/-- slices.Collect(seq). -/
theorem gcollect_in (F : Fence) (n : Nat) (hf : F.fn 36) (hf2 : F.fn 40) (hro : F.round = none) (hn : 3 ≤ n) (g : Nat) (lb : Array Value) (hFg : F.fn g) (eg : ∀ args w, (callFunc g args).run Try.prog w = .ok (.enter g args) w)
    (S : List GroupD → Prop) (N : Nat) (hN : N ≤ 350000000000) (w : World) (hseq : SeqGives F (n - 1 - 1) Try.prog g lb GroupD.val S N w) :
    CallsIn F n Try.prog 36 #[.func (.func g) #[] lb] w fun e w' => ∃ (v : Value) (ps : List GroupD), e = .returned v ∧ S ps ∧ OwnG w' w.heap.size v ps ∧ Below w.heap.size w w' := by
  have h1 : 1 ≤ n := by omega
  refine callsIn_of_wp Try.func36 rfl hf ?_ hro
  simp only [Try.ntmps36, List.size_toArray, List.length_cons, List.length_nil, Nat.reduceAdd, Nat.reduceSub, Array.replicate_succ, Array.replicate_zero, List.push_toArray, List.append_toArray, List.nil_append, List.cons_append]
  gi_wp2
  refine (gappend_in F (n - 1) hf2 hro (by omega) g lb hFg eg S N hN _ hseq).mono ?_
  rintro e w' ⟨v, ps, rfl, hS, hrow, hb⟩
  gi_wp2
  go_ret
  exact ⟨v, ps, rfl, hS, hrow, hb⟩
/-- maps.Values of a map of groups gives each of them once. -/
theorem gvals_gives (F : Fence) (n : Nat) (hf : F.fn 38) (hro : F.round = none) (hn : 1 ≤ n) (Bm b nn : Nat) (D0 : DataW Unit) (M : List GroupD) (hA : AtG D0 M) (w : World) (hBm : Bm < w.heap.size)
    (hm : w.cell? ⟨Bm, 0, none⟩ = some (.map (some b))) (hown : OwnM w b nn D0) :
    SeqGives F n Try.prog 38 #[.pointer (some ⟨Bm, 0, none⟩)] GroupD.val (fun ps => ps.Perm (GroupD.merge M)) (Maps.size D0) w := fun l J W hW hJ hY h0 => by
  have hown' : OwnM W b nn D0 := by
    have hbl := hown.lt
    obtain ⟨es, clock, hb, Ft, hs, hD⟩ := hown
    exact ⟨es, clock, (hW.block b hbl).trans hb, Ft, hs, hD⟩
  exact gvals_in F n hf hro hn l Bm b nn D0 M hA J hY W hJ ((hW.cell (p := ⟨Bm, 0, none⟩) hBm).trans hm) hown' h0
end Go.Proofs.Ytmlcdhblofjpbaa
/- slices.SortFunc at structs that are told by trees, out of the library's contract. -/
namespace Go.Proofs.Ytmlcdhblofjpbaa.V
open Go Go.RowKit Go.Sort
set_option linter.unusedVariables false
theorem swo_of {α : Type} {cmp : α → α → Int} (H : IsOrd cmp) : SWO (ltOf cmp) where
  irrefl x := by unfold ltOf; simp; rw [(H.zero x x).2 rfl]; exact Int.le_refl _
  trans x y z h1 h2 := by
    unfold ltOf at *
    simp only [decide_eq_true_eq] at *
    have a1 := H.anti x y
    have a2 := H.anti y z
    have a3 := H.anti x z
    rcases (show cmp x z < 0 ∨ 0 ≤ cmp x z by omega) with h | h
    · exact h
    · have := H.trans x y z (by omega) (by omega)
      have e : cmp x z = 0 := by omega
      have e2 := (H.zero x z).1 e
      subst e2
      omega
  ntrans x y z h1 h2 := by
    unfold ltOf at *
    simp only [decide_eq_false_iff_not, Int.not_lt] at *
    have a1 := H.anti x y
    have a2 := H.anti y z
    have a3 := H.anti x z
    have := H.trans z y x (by omega) (by omega)
    omega
theorem heap_sortK {α : Type} [Inhabited α] {enc : α → List Value} {k : Nat} {g : Nat} {w : World} (n : Nat) (d : Array α) (os : Array Obj) {b : Nat} (hb : b < w.heap.size) : (sortWorldK enc k w g 0 n d os).heap[b]? = if g = b then (w.heap[b]?).map (onCells (Go.Sort.putCells id 0 (flatK enc k d))) else w.heap[b]? := by
  show ((w.heap.modify g (onCells (Go.Sort.putCells id 0 (flatK enc k d)))) ++ os)[b]? = _
  rw [Array.getElem?_append_left (by simpa using hb), Array.getElem?_modify]
theorem put_takeK (F : Array Value) (cur : Array Value) (h : F.size ≤ cur.size) : (Go.Sort.putCells id 0 F cur).toList.take F.size = F.toList := by
  apply List.ext_getElem?
  intro k
  rw [List.getElem?_take]
  by_cases hk : k < F.size
  · rw [if_pos hk]
    simp only [Go.Sort.putCells, Array.getElem?_toList, Array.getElem?_mapIdx, Nat.zero_le, true_and, Nat.zero_add, hk, if_true, Nat.sub_zero, id]
    rw [Array.getElem?_eq_getElem (by omega), Array.getElem?_eq_getElem hk, getElem!_pos F k hk]
    rfl
  · rw [if_neg hk]
    simp [Array.getElem?_eq_none (Nat.le_of_not_lt hk)]
theorem sorted_listK {α : Type} [Inhabited α] {cmp : α → α → Int} (H : IsOrd cmp) {d d' : Array α} (hp : PermIn 0 d.size d d') (hs : SortedIn (ltOf cmp) 0 d.size d') : d'.toList = Ord.sort cmp d.toList := by
  obtain ⟨hsz, -, hperm⟩ := hp
  have e1 : (d'.extract 0 d.size).toList = d'.toList := by rw [← hsz]; simp
  have e2 : (d.extract 0 d.size).toList = d.toList := by simp
  rw [e1, e2] at hperm
  refine Ord.sort_unique H hperm (List.pairwise_iff_getElem.2 fun i j hi hj hij => Ord.leb_iff.2 ?_)
  rw [Array.length_toList] at hi hj
  have := hs i j (Nat.zero_le _) hij (by omega)
  unfold ltOf at this
  rw [getElem!_pos d' j hj, getElem!_pos d' i hi] at this
  simp only [decide_eq_false_iff_not, Int.not_lt] at this
  have a := H.anti d'[i] d'[j]
  simp only [Array.getElem_toList]
  omega
theorem mapk_get {α : Type} {enc : α → List Value} {k : Nat} (hk : ∀ x, (enc x).length = k) (X : List α) (q : Nat) (hq : q < X.length * k) : ∃ (h1 : q / k < X.length) (u : Value), (enc X[q / k])[q % k]? = some u ∧ (X.flatMap enc)[q]? = some u := by
  have hkp : 0 < k := Nat.pos_of_ne_zero fun e => by subst e; simp at hq
  have h1 : q / k < X.length := (Nat.div_lt_iff_lt_mul hkp).2 hq
  have h2 : q % k < k := Nat.mod_lt _ hkp
  obtain ⟨u, hu⟩ : ∃ u, (enc X[q / k])[q % k]? = some u := by
    have h2' : q % k < (enc X[q / k]).length := by rw [hk (X[q / k])]; exact h2
    exact ⟨(enc X[q / k])[q % k], List.getElem?_eq_getElem h2'⟩
  refine ⟨h1, u, hu, ?_⟩
  have h3 := flat_ix (fs := X.map fun x => (enc x).map T.lit) (n := k) (fun e he => by obtain ⟨x, -, rfl⟩ := List.mem_map.1 he; rw [List.length_map, hk]) (q / k) (q % k) ((enc X[q / k]).map T.lit) (T.lit u) (by rw [List.getElem?_map, List.getElem?_eq_getElem h1]; rfl) (by rw [List.getElem?_map, hu]; rfl)
  have e1 : q / k * k + q % k = q := by rw [Nat.mul_comm]; exact Nat.div_add_mod q k
  rw [e1] at h3
  have e2 : (X.map fun x => (enc x).map T.lit).flatMap (fun e => e.map litv) = X.flatMap enc := by
    rw [List.flatMap_map]
    congr 1
    funext x
    simp [Function.comp_def, litv]
  rw [e2] at h3
  exact h3
theorem flatMap_len {α : Type} {enc : α → List Value} {k : Nat} (hk : ∀ x, (enc x).length = k) : ∀ X : List α, (X.flatMap enc).length = X.length * k
  | [] => by simp
  | x :: X => by rw [List.flatMap_cons, List.length_append, hk, flatMap_len hk X, List.length_cons, Nat.add_mul, Nat.one_mul, Nat.add_comm]
theorem flatK_list {α : Type} [Inhabited α] {enc : α → List Value} {k : Nat} (hk : ∀ x, (enc x).length = k) (d : Array α) : (flatK enc k d).toList = d.toList.flatMap enc := by
  apply List.ext_getElem?
  intro q
  rcases Nat.lt_or_ge q (d.size * k) with hq | hq
  · obtain ⟨h1, u, h2, h3⟩ := mapk_get hk d.toList q (by simpa using hq)
    rw [h3]
    have h4 := get_flatK enc k d q hq
    rw [getElem!_pos _ q (by rw [size_flatK]; exact hq)] at h4
    rw [Array.getElem?_toList, Array.getElem?_eq_getElem (by rw [size_flatK]; exact hq), h4]
    have h5 : q / k < d.size := by simpa using h1
    have h6 : d.toList[q / k] = d[q / k] := by simp
    rw [h6] at h2
    rw [getElem!_pos d (q / k) h5, List.getElem!_eq_getElem?_getD, h2]
    rfl
  · rw [List.getElem?_eq_none (by simp; omega), List.getElem?_eq_none (by rw [flatMap_len hk]; simpa using hq)]
variable {P : Program}
theorem vsort_gen {α : Type} [Inhabited α] {enc : α → List Value} {k : Nat} {f : α → List T} (hf : ∀ x, f x = (enc x).map T.lit) (hk : ∀ x, (enc x).length = k) (h1 : ∀ x, ∀ v ∈ enc x, v.oneCell' = true) {cmp : α → α → Int} (H : IsOrd cmp) {fid : FuncId} {ty : TypeId} (hz : Sz ty k) (hp : 0 < k) {cb : Value}
    (hnone : ∀ (p : Option Addr) (cap : Nat) (w : World), Calls P fid #[.slice p 0 cap, cb] w fun e w' => e = .returned (.tuple #[]) ∧ w' = w)
    (hcon : ∀ (g cap : Nat) (d : Array α) (w : World), HoldsK enc k w g 0 d → g < w.heap.size → d.size < 4611686018427387904 → Calls P fid #[.slice (some ⟨g, 0, none⟩) d.size cap, cb] w fun e w' => e = .returned (.tuple #[]) ∧ ∃ d' n os, PermIn 0 d.size d d' ∧ SortedIn (ltOf cmp) 0 d.size d' ∧ w' = sortWorldK enc k w g 0 n d' os)
    (X : List α) (hX : X.length ≤ 350000000000) : VU P fid [(false, [.ln 0]), (false, [.rd (.lit cb)])] [.seq ty (X.map f)] [.seq ty ((Ord.sort cmp X).map f)] := fun w lv F hF vs hown hdis hargs => by
  have hvs : vs = [lv 0, cb] := by
    obtain ⟨hl, ha⟩ := hargs
    match vs, hl with
    | [v, u], _ =>
      obtain ⟨us, e1, e2, e3⟩ := ha 0 false [.ln 0] v rfl rfl
      obtain ⟨us', f1, f2, f3⟩ := ha 1 false [.rd (.lit cb)] u rfl rfl
      match us, e2 with
      | [x], _ =>
        match us', f2 with
        | [y], _ =>
          have g1 := (e3 0 (.ln 0) x rfl rfl).2
          have g2 : Inn _ _ (.lit cb) y := f3 0 (.rd (.lit cb)) y rfl rfl
          have g3 := inn_lit g2
          rw [e1, f1, g3]
          show [x, cb] = _
          rw [g1]; rfl
  obtain ⟨ho, -⟩ := hown 0 _ rfl
  subst hvs
  cases ho with
  | seq n hp' hz' hn xs hrow Gs hr hone hFb hG hne hd =>
    have hnk : n = k := hz'.eq hz
    subst hnk
    have hxl : xs.length = X.length * n := by have := hrow.1; rwa [List.length_map] at this
    have hxs : xs = X.flatMap enc := by
      apply List.ext_getElem?
      intro q
      rcases Nat.lt_or_ge q (X.length * n) with hq | hq
      · obtain ⟨k1, v0, k2, k3⟩ := mapk_get hk X q hq
        rw [k3]
        have e1 : q / n * n + q % n = q := by rw [Nat.mul_comm]; exact Nat.div_add_mod q n
        have hu := hr (q / n) (f X[q / n]) (q % n) (T.lit v0) xs[q] (by rw [List.getElem?_map, List.getElem?_eq_getElem k1]; rfl) (by rw [hf, List.getElem?_map, k2]; rfl) (by rw [e1, List.getElem?_eq_getElem (by omega)])
        have hl : ∀ {B : Nat} {t u : Value} {G : Nat → Prop}, Own w B (.lit t) u G → u = t := fun h => by cases h; rfl
        rw [List.getElem?_eq_getElem (by omega), hl hu]
      · rw [List.getElem?_eq_none (by omega), List.getElem?_eq_none (by rw [flatMap_len hk]; omega)]
    obtain ⟨a, c, hv, hc, hm, h0, hg⟩ := own_slice hrow
    rw [List.length_map] at hv hc hg
    rcases Nat.eq_zero_or_pos X.length with hX0 | hX0
    · have hXe : X = [] := List.eq_nil_of_length_eq_zero hX0
      rw [hX0] at hv
      rw [hv]
      refine (hnone a c w).mono fun e w' ⟨he, hw⟩ => ?_
      subst hw
      subst hXe
      refine ⟨⟨_, he, Same.refl _ _⟩, F, fun i t hi => ?_, fun i j b hi hj hij => absurd (show i = j by simp at hi hj; omega) hij, fun i b hi hb => ⟨.inr ⟨i, hi, hb⟩, hF i b hi hb⟩⟩
      rw [Ord.sort_nil] at hi
      exact (hown i t hi).1
    · obtain ⟨g, rfl, hB, hlt, hcell, hfr⟩ := hg hX0
      rw [hv]
      have hFg : F 0 g := hFb g (by rw [hv]; rfl)
      have hH : HoldsK enc n w g 0 X.toArray := by
        intro j hj
        rw [size_flatK] at hj
        have hj' : j < X.length * n := by simpa using hj
        refine ⟨?_, hfr _⟩
        rw [Nat.zero_add]
        refine hcell j _ ?_
        rw [hxs]
        have h5 := flatK_list hk X.toArray
        have h6 : (flatK enc n X.toArray).toList[j]? = some ((flatK enc n X.toArray)[j]!) := by
          rw [Array.getElem?_toList, getElem!_pos _ j (by rw [size_flatK]; exact hj), Array.getElem?_eq_getElem (by rw [size_flatK]; exact hj)]
        rw [h5] at h6
        simpa using h6
      have hcall := hcon g c X.toArray w hH hlt (by simp; omega)
      have hxsz : X.toArray.size = X.length := List.size_toArray
      rw [hxsz] at hcall
      refine hcall.mono fun e w' ⟨he, d', m, os, hpm, hst, hw⟩ => ?_
      subst hw
      have hd' : d'.toList = Ord.sort cmp X := sorted_listK H (d := X.toArray) (by rw [hxsz]; exact hpm) (by rw [hxsz]; exact hst)
      have hsl : (Ord.sort cmp X).length = X.length := Ord.sort_length X
      have hsize : w.heap.size ≤ (sortWorldK enc n w g 0 m d' os).heap.size := by simp [sortWorldK, grow, putRowK, putRow, mapBlock]
      refine ⟨⟨_, he, ⟨rfl, rfl, rfl, hsize, fun b hb => ?_⟩⟩, F, fun i t hi => ?_, fun i j b hi hj hij => absurd (show i = j by simp at hi hj; omega) hij, fun i b hi hb => ⟨.inr ⟨i, hi, hb⟩, Nat.lt_of_lt_of_le (hF i b hi hb) hsize⟩⟩
      · have hgb : ¬ g = b := fun e => by
          subst e
          exact hb.2 ⟨0, by simp, hFg⟩
        rw [heap_sortK m d' os (show b < w.heap.size from hb.1), if_neg hgb]
        rfl
      · have hi0 : i = 0 := by have := get_lt hi; simpa using this
        subst hi0
        cases hi
        show Own _ 0 _ (lv 0) _
        rw [hv]
        obtain ⟨q1, ⟨q2, -⟩ | ⟨g', cap, cur, q3, q4, q5, q6, q7, q8, q9⟩⟩ := hrow
        · rw [hv] at q2; cases q2
        · rw [hv] at q3
          injection q3 with q3 q3a q3b
          injection q3 with q3
          injection q3 with q3
          subst q3 q3b
          have hFs : (flatK enc n d').size = X.length * n := by rw [size_flatK, ← Array.length_toList, hd', hsl]
          rw [List.length_map] at q6 q9
          have hcur : X.length * n ≤ cur.size := by rw [q8]; exact Nat.mul_le_mul_right _ q6
          refine .seq n hp' hz' (fun e he => by obtain ⟨x, -, rfl⟩ := List.mem_map.1 he; rw [hf, List.length_map, hk]) ((Ord.sort cmp X).flatMap enc) ⟨by rw [flatMap_len hk, List.length_map], .inr ⟨g, c, Go.Sort.putCells id 0 (flatK enc n d') cur, by rw [List.length_map, hsl], q4, ?_, by rw [List.length_map, hsl]; exact q6, q7, ?_, ?_⟩⟩ (fun _ _ => False) (fun k' e j t u e1 e2 e3 => ?_) (fun u hu => ?_) (fun b hb => ?_) (fun q b hb => hb.elim) (fun q b hb => hb.elim) fun q q' b hb => hb.elim
          · rw [heap_sortK m d' os hlt, if_pos rfl, q5]; rfl
          · simp [Go.Sort.putCells, q8]
          · rw [List.length_map, hsl, ← hFs, put_takeK _ _ (by rw [hFs]; exact hcur), flatK_list hk, hd']
          · rw [List.getElem?_map] at e1
            obtain ⟨x, e4, rfl⟩ := Option.map_eq_some_iff.1 e1
            rw [hf, List.getElem?_map] at e2
            obtain ⟨v, e5, rfl⟩ := Option.map_eq_some_iff.1 e2
            have hjl := get_lt e5
            rw [hk] at hjl
            obtain ⟨k1, u0, k2, k3⟩ := mapk_get hk (Ord.sort cmp X) (k' * n + j) (at_lt (get_lt e4) hjl)
            rw [k3] at e3
            have d1 : (k' * n + j) / n = k' := by rw [Nat.add_comm, Nat.add_mul_div_right _ _ hp', Nat.div_eq_of_lt hjl, Nat.zero_add]
            have d2 : (k' * n + j) % n = j := by rw [Nat.add_comm, Nat.add_mul_mod_self_right, Nat.mod_eq_of_lt hjl]
            have hu : u = v := by
              have e7 : (Ord.sort cmp X)[(k' * n + j) / n] = x := by
                have e8 : (Ord.sort cmp X)[(k' * n + j) / n]? = some x := by rw [d1]; exact e4
                rw [List.getElem?_eq_getElem k1] at e8
                exact Option.some.inj e8
              rw [e7, d2, e5] at k2
              rw [← Option.some.inj e3, ← Option.some.inj k2]
            rw [hu]
            exact .lit (h1 x v (get_mem e5))
          · obtain ⟨x, -, hx⟩ := List.mem_flatMap.1 hu
            exact h1 x u hx
          · exact hFb b (by rw [hv]; exact hb)
end Go.Proofs.Ytmlcdhblofjpbaa.V
/- The program's CompareRows and the library's cmp.Compare and cmp.Or at int, by contract. -/
namespace Go.Proofs.Ytmlcdhblofjpbaa
open Go.RowKit

theorem compare (x y : Int) (w : World) : Calls Try.prog 39 #[.int .i64 x, .int .i64 y] w fun e w' => e = .returned (.int .i64 (R.one x y)) ∧ w' = w := by
  unfold R.one
  go_enter Try.func39, Try.ntmps39
  go_wp2
  all_goals go_ret
  all_goals simp_all
/-- The first that is not 0. -/
def firstOf : List Int → Int
  | [] => 0
  | x :: l => if x = 0 then firstOf l else x
theorem firstOf_at : ∀ (L : List Int) (k : Nat), k < L.length → (∀ t, t < k → L.getD t 0 = 0) → L.getD k 0 ≠ 0 → firstOf L = L.getD k 0
  | x :: L, 0, _, _, h => by unfold firstOf; exact if_neg h
  | x :: L, k + 1, hk, hz, h => by
    have hx : x = 0 := hz 0 (by omega)
    unfold firstOf
    rw [if_pos hx]
    exact firstOf_at L k (by simpa using hk) (fun t ht => hz (t + 1) (by omega)) h
theorem firstOf_none : ∀ (L : List Int), (∀ t, t < L.length → L.getD t 0 = 0) → firstOf L = 0
  | [], _ => rfl
  | x :: L, h => by
    have hx : x = 0 := h 0 (by simp)
    unfold firstOf
    rw [if_pos hx]
    exact firstOf_none L fun t ht => h (t + 1) (by simpa using ht)
theorem cmp_first (a b : R) : R.cmp a b = firstOf [R.one a.key b.key, R.one a.value b.value, R.one a.width b.width] := by
  rw [R.cmp_or]
  simp only [firstOf]
  (repeat' split) <;> first | rfl | simp_all | omega
end Go.Proofs.Ytmlcdhblofjpbaa
/- slices.SortedFunc over the values of a map of groups, by the keys. -/
namespace Go.Proofs.Ytmlcdhblofjpbaa
open Go Go.RowKit Go.Maps Go.Sort
set_option linter.unusedVariables false
instance : Inhabited GroupD := ⟨⟨0, 0, 0, 0, 0⟩⟩
theorem kcmp_lt (a b : GroupD) : kcmp a b < 0 ↔ a.fKey < b.fKey := by unfold kcmp R.one; repeat' split <;> omega
theorem swo_keys : SWO (ltOf kcmp) where
  irrefl x := by unfold ltOf; simp only [decide_eq_false_iff_not, kcmp_lt]; omega
  trans x y z h1 h2 := by unfold ltOf at *; simp only [decide_eq_true_eq, kcmp_lt] at *; omega
  ntrans x y z h1 h2 := by unfold ltOf at *; simp only [decide_eq_false_iff_not, kcmp_lt] at *; omega
theorem sorted_keys {d d' : Array GroupD} {M : List GroupD} (hp : PermIn 0 d.size d d') (hs : SortedIn (ltOf kcmp) 0 d.size d') (h : d.toList.Perm (GroupD.merge M)) : d'.toList = GroupD.merge M := by
  obtain ⟨hsz, -, hperm⟩ := hp
  have e1 : (d'.extract 0 d.size).toList = d'.toList := by rw [← hsz]; simp
  have e2 : (d.extract 0 d.size).toList = d.toList := by simp
  rw [e1, e2] at hperm
  have hP := hperm.trans h
  refine GroupD.asc_perm ?_ (GroupD.merge_asc M) hP
  have hnd : (d'.toList.map (·.fKey)).Nodup := ((hP.map (·.fKey)).nodup_iff).2 (List.pairwise_map.2 ((GroupD.merge_asc M).imp fun {a b} hab => by omega))
  refine List.pairwise_iff_getElem.2 fun i j hi hj hij => ?_
  have hne := List.pairwise_iff_getElem.1 (List.pairwise_map.1 hnd) i j hi hj hij
  rw [Array.length_toList] at hi hj
  have := hs i j (Nat.zero_le _) hij (by omega)
  unfold ltOf at this
  rw [getElem!_pos d' j hj, getElem!_pos d' i hi] at this
  simp only [decide_eq_false_iff_not, kcmp_lt] at this
  simp only [Array.getElem_toList] at hne ⊢
  omega
set_option maxRecDepth 100000 in
theorem gcmpG (x y : GroupD) (w : World) : Calls Try.prog 33 #[.agg x.cells.toArray, .agg y.cells.toArray] w fun e w' => e = .returned (.int .i64 (kcmp x y)) ∧ ∃ q os', w' = grow (w.drewN q) os' := by
  unfold GroupD.cells kcmp
  go_enter Try.func33, Try.ntmps33
  go_wp2_with fail
  refine (compare x.fKey y.fKey _).mono ?_
  rintro e w1 ⟨rfl, rfl⟩
  go_wp2_with fail
  go_ret
  exact ⟨rfl, 0, _, by simp only [alloc_eq_grow, grow_grow]; rfl⟩
theorem cells_len (x : GroupD) : x.cells.length = 5 := rfl
theorem cells_one (x : GroupD) : ∀ v ∈ x.cells, v.oneCell' = true := fun v hv => by
  simp only [GroupD.cells, List.mem_cons, List.not_mem_nil, or_false] at hv
  rcases hv with rfl | rfl | rfl | rfl | rfl <;> rfl
set_option maxRecDepth 100000 in
set_option maxHeartbeats 2000000 in
theorem gsorted (Bm b nn : Nat) (D0 : DataW Unit) (M : List GroupD) (hA : AtG D0 M) (w : World) (hBm : Bm < w.heap.size) (hm : w.cell? ⟨Bm, 0, none⟩ = some (.map (some b))) (hown : OwnM w b nn D0) (hnn : nn ≤ 350000000000) :
    Calls Try.prog 31 #[.func (.func 38) #[] #[.pointer (some ⟨Bm, 0, none⟩)], .func (.func 33) #[] #[]] w fun e w' => ∃ v, e = .returned v ∧ OwnG w' w.heap.size v (GroupD.merge M) ∧ Below w.heap.size w w' := by
  have eg : ∀ args w, (callFunc 33 args).run Try.prog w = .ok (.enter 33 args) w := enters_of Try.func33 (by kernel_rfl) rfl
  have ev : ∀ args w, (callFunc 38 args).run Try.prog w = .ok (.enter 38 args) w := enters_of Try.func38 (by kernel_rfl) rfl
  have hsz := hown.size_le
  have hcol := callsIn_wide.1 (gcollect_in Fence.wide 3 trivial trivial rfl (Nat.le_refl _) _ _ trivial ev _ (Maps.size D0) (by omega) w (gvals_gives Fence.wide 1 trivial rfl (Nat.le_refl _) Bm b nn D0 M hA w hBm hm hown).bounded)
  go_enter Try.func31, Try.ntmps31
  go_wp2_with fail
  refine hcol.mono ?_
  rintro e w1 ⟨v, ps, rfl, ⟨hS, hlen⟩, hrow, hb⟩
  rcases hrow.2 with ⟨rfl, hz⟩ | ⟨gb, cap, cur, rfl, hbase, hgb, r1, r2, r3, r4⟩
  · have hps : ps = [] := List.eq_nil_of_length_eq_zero hz
    subst hps
    have hM : GroupD.merge M = [] := List.Perm.eq_nil hS.symm
    go_wp2_with fail
    refine (AnyF.slices_SortFunc_none Try.sortGroups none 0 (.func (.func 33) #[] #[]) w1).mono ?_
    rintro e w2 ⟨rfl, rfl⟩
    go_wp2_with fail
    go_ret
    exact ⟨_, rfl, by rw [hM]; exact hrow, hb⟩
  · have hgl : gb < w1.heap.size := (Array.getElem?_eq_some_iff.1 hgb).1
    have hH : HoldsK GroupD.cells 5 w1 gb 0 ps.toArray := by
      intro j hj
      rw [size_flatK] at hj
      have hj' : j < ps.length * 5 := by simpa using hj
      refine ⟨?_, by simp [World.frozen?, hgb]⟩
      rw [Nat.zero_add]
      have h6 : (flatK GroupD.cells 5 ps.toArray).toList[j]? = some ((flatK GroupD.cells 5 ps.toArray)[j]!) := by
        rw [Array.getElem?_toList, getElem!_pos _ j (by rw [size_flatK]; exact hj), Array.getElem?_eq_getElem (by rw [size_flatK]; exact hj)]
      rw [V.flatK_list cells_len] at h6
      simp only [World.cell?, hgb]
      have h7 : (cur.toList.take (ps.length * 5))[j]? = (ps.toArray.toList.flatMap GroupD.cells)[j]? := by rw [r4]
      rw [List.getElem?_take, if_pos hj', h6] at h7
      simpa using h7
    go_wp2_with fail
    have hcon := AnyQ.slices_SortFunc Try.sortGroups 5 Try.isAgg36 Try.sizeOf36 GroupD.cells cells_len cells_one kcmp swo_keys 33 #[] gb 0 cap ps.toArray w1 eg (fun m os dk _ x y => gcmpG x y _) hH hgl (by simp; omega)
    rw [List.size_toArray] at hcon
    refine hcon.mono ?_
    rintro e w2 ⟨rfl, d', n, os, hpm, hst, rfl⟩
    go_wp2_with fail
    go_ret
    have hd' : d'.toList = GroupD.merge M := sorted_keys (d := ps.toArray) (by simpa using hpm) (by simpa using hst) hS
    have hsl : (GroupD.merge M).length = ps.length := hS.length_eq.symm
    have hFs : (flatK GroupD.cells 5 d').size = ps.length * 5 := by rw [size_flatK, ← Array.length_toList, hd', hsl]
    have hcur : ps.length * 5 ≤ cur.size := by rw [r3]; exact Nat.mul_le_mul_right _ r1
    refine ⟨.slice (some ⟨gb, 0, none⟩) ps.length cap, rfl, ⟨by rw [V.flatMap_len cells_len, hsl], .inr ⟨gb, cap, Go.Sort.putCells id 0 (flatK GroupD.cells 5 d') cur, by rw [hsl], hbase, ?_, by rw [hsl]; exact r1, r2, ?_, ?_⟩⟩, ?_⟩
    · rw [V.heap_sortK n d' os hgl, if_pos rfl, hgb]; rfl
    · simp [Go.Sort.putCells, r3]
    · rw [hsl, ← hFs, V.put_takeK _ _ (by rw [hFs]; exact hcur), V.flatK_list cells_len, hd']
    · refine ⟨hb.os, hb.tape, hb.output, Nat.le_trans hb.size (by simp [sortWorldK, grow, putRowK, putRow, mapBlock]), fun k hk => ?_⟩
      have hkl : k < w1.heap.size := Nat.lt_of_lt_of_le hk hb.size
      rw [V.heap_sortK n d' os hkl, if_neg (by omega)]
      exact hb.block k hk
end Go.Proofs.Ytmlcdhblofjpbaa
/- The program's MergeGroups: groups gathered in a map, sorted by their keys. -/
namespace Go.Proofs.Ytmlcdhblofjpbaa
open Go Go.RowKit Go.Maps
set_option linter.unusedVariables false
theorem args_of {w : World} {g : GroupD} {j : Nat} {t : V.T} {u : Value} (h1 : (tGroup g)[j]? = some t) (h2 : g.cells[j]? = some u) : V.Inn (V.Env.of w).old w t u := by
  have hj : j < 5 := by simpa [GroupD.cells] using (List.getElem?_eq_some_iff.1 h2).1
  match j, hj, h1, h2 with
  | 0, _, h1, h2 => cases h1; cases h2; exact .lit rfl
  | 1, _, h1, h2 => cases h1; cases h2; exact .lit rfl
  | 2, _, h1, h2 => cases h1; cases h2; exact .lit rfl
  | 3, _, h1, h2 => cases h1; cases h2; exact .lit rfl
  | 4, _, h1, h2 => cases h1; cases h2; exact .lit rfl
theorem own_lit {w : World} {B : Nat} {u v : Value} {F : Nat → Prop} (h : V.Own w B (.lit u) v F) : v = u := by cases h; rfl
theorem icomb (a b : GroupD) (w : World) : Calls Try.prog 23 #[a.val, b.val] w fun e w' => e = .returned (GroupD.comb a b).val ∧ Below w.heap.size w w' := by
  refine (vcomb_i a b w [a.val, b.val] ⟨rfl, fun c ag ts v h1 h2 => ?_⟩).mono fun e w' h => ?_
  · match c, h1, h2 with
    | 0, h1, h2 => cases h1; cases h2; exact ⟨a.cells, rfl, rfl, fun j t u h3 h4 => args_of h3 h4⟩
    | 1, h1, h2 => cases h1; cases h2; exact ⟨b.cells, rfl, rfl, fun j t u h3 h4 => args_of h3 h4⟩
  · obtain ⟨uss, F, h1, h2, h3, -, -, h4⟩ := h
    match uss, h1 with
    | [us], _ =>
      obtain ⟨h5, h6⟩ := h3 0 true (tGroup (GroupD.comb a b)) us rfl rfl
      match us, h5 with
      | [u0, u1, u2, u3, u4], _ =>
        have e0 := own_lit (h6 0 _ u0 rfl rfl)
        have e1 := own_lit (h6 1 _ u1 rfl rfl)
        have e2 := own_lit (h6 2 _ u2 rfl rfl)
        have e3 := own_lit (h6 3 _ u3 rfl rfl)
        have e4 := own_lit (h6 4 _ u4 rfl rfl)
        subst e0 e1 e2 e3 e4
        exact ⟨h2, ⟨h4.os, h4.tape, h4.output, h4.size, fun k hk => h4.block k ⟨hk, fun h => h⟩⟩⟩
/-- A slice of groups that may be read. -/
def InG (w : World) (a : Option Addr) (L : List GroupD) : Prop := ∃ b o, (L ≠ [] → a = some ⟨b, o, none⟩ ∧ b < w.heap.size) ∧ ∀ k g, L[k]? = some g → w.cell? ⟨b, o + k * 5, none⟩ = some (.int .i64 g.fKey) ∧ w.cell? ⟨b, o + k * 5 + 1, none⟩ = some (.int .i64 g.fCount) ∧ w.cell? ⟨b, o + k * 5 + 2, none⟩ = some (.int .i64 g.fSum) ∧ w.cell? ⟨b, o + k * 5 + 3, none⟩ = some (.int .i64 g.fMin) ∧ w.cell? ⟨b, o + k * 5 + 4, none⟩ = some (.int .i64 g.fMax)
theorem gvalues (mb : Option Nat) (w : World) : Calls Try.prog 32 #[.map mb] w fun e w' => e = .returned (.func (.func 38) #[] #[.pointer (some ⟨w.heap.size, 0, none⟩)]) ∧ w' = w.alloc (.cells #[.map mb] 54) := by
  go_enter Try.func32, Try.ntmps32
  go_wp2_with fail
  go_ret
  exact ⟨rfl, rfl⟩
theorem zeroGroup (w : World) : (zeroValue 36).run Try.prog w = .ok (GroupD.val ⟨0, 0, 0, 0, 0⟩) w := Try.zeroValue36 w
theorem OwnM.look {w : World} {b n : Nat} {D : DataW Unit} {M : List GroupD} (h : OwnM w b n D) (hA : AtG D M) (x : Int) (hx : (Lit.int .i64 x).wf = true) :
    ∃ v0 : GroupD, (Instr.lookup 54 (.map (some b)) (.int .i64 x) true).run Try.prog w = .ok (.tuple #[.agg #[.int .i64 v0.fKey, .int .i64 v0.fCount, .int .i64 v0.fSum, .int .i64 v0.fMin, .int .i64 v0.fMax], .bool (GroupD.get x M).isSome]) w ∧ ∀ h, GroupD.get x M = some h → v0 = h := by
  obtain ⟨v, ps, hrun, hv⟩ := h.look_ok intKeyed Try.underlying54 (zeroGroup w) (rG_val _) (keyOf_int_mk Try.underlying3 hx)
  obtain ⟨g, rfl, hg⟩ := rG_inv hv
  rw [(hA x).1] at hrun
  refine ⟨g, hrun, fun h' hh => ?_⟩
  have e1 := (hA x).2 h' hh (datG ⟨0, 0, 0, 0, 0⟩)
  have e2 : D.atKey (.int .i64 x) (datG ⟨0, 0, 0, 0, 0⟩) = datG g := (Prod.mk.inj hg).1
  exact datG_inj (e2.symm.trans e1)
theorem wpList_store_own {P : Program} {w : World} {ops : Array Oper} {rest : List Oper} {o : Oper} {a : Act} {Q : Exit → Act → World → Prop} (hg : o.guard = none) (x y : Operand) (ty : TypeId) (hop : o.op = .store ty x y) (p : Addr) (v : Value) (hx : a.eval x = .pointer (some p)) (hv : a.eval y = v) (w4 : World) (hst : (storeVar ty p v).run P w = .ok () w4)
    (hK : wpList P ops Q rest (a.put o.dst undef) w4) : wpList P ops Q (o :: rest) a w :=
  wpList_plain hg fun K hK' => V.wp_skipped (by simp [execOp, hop, hx, hv, Instr.storeAt, Instr.sureAddr, hst, Result.andThen]) (hK' _ _ hK)
set_option maxRecDepth 100000 in
set_option maxHeartbeats 2000000 in
theorem imerge (a : Option Addr) (cap : Nat) (L : List GroupD) (w : World) (h : InG w a L) (hK : ∀ g ∈ L, (Lit.int .i64 g.fKey).wf = true) (hlen : L.length ≤ 350000000000) :
    Calls Try.prog 27 #[.slice a L.length cap] w fun e w' => ∃ v, e = .returned v ∧ OwnG w' w.heap.size v (GroupD.merge L) ∧ Below w.heap.size w w' := by
  obtain ⟨b, o, hab, hcell⟩ := h
  have HI := Lib.hid hcell
  have HK := Lib.hid hK
  have hmm := @run_makeMap Try.prog
  have hb0 : Below w.heap.size w (w.alloc (.map #[] 0)) := (Below.refl _ _).alloc (Nat.le_refl _) _
  have HB0 := Lib.hid hb0
  have HO := Lib.hid (World.ownsMap_made w Try.prog 3 rG)
  clear hcell hb0 hK
  go_enter Try.func27, Try.ntmps27
  go_wp2_with fail
  clear hmm
  go_loopw [11] (fun x wr => ∃ (k : Nat) (D : DataW Unit), x = .int .i64 k ∧ k ≤ L.length ∧ Hid (OwnM wr w.heap.size k D) ∧ Hid (AtG D (L.take k)) ∧ Hid (Below w.heap.size w wr)) (fun x _ => L.length - (intOf x).toNat)
  case atStart => exact ⟨0, _, rfl, Nat.zero_le _, HO.out, atG_nil, HB0.out⟩
  case round =>
    obtain ⟨k, D, rfl, hk, ho, hat, hb⟩ := hrel
    by_cases hlt : k < L.length
    · obtain ⟨g, hg⟩ : ∃ g, L[k]? = some g := ⟨_, List.getElem?_eq_getElem hlt⟩
      obtain ⟨rfl, hbl⟩ := hab (fun e => by rw [e] at hlt; simp at hlt)
      obtain ⟨c0, c1, c2, c3, c4⟩ := HI.out k g hg
      have f0 := (hb.out.cell (p := ⟨b, o + k * 5, none⟩) hbl).trans c0
      have f1 := (hb.out.cell (p := ⟨b, o + k * 5 + 1, none⟩) hbl).trans c1
      have f2 := (hb.out.cell (p := ⟨b, o + k * 5 + 2, none⟩) hbl).trans c2
      have f3 := (hb.out.cell (p := ⟨b, o + k * 5 + 3, none⟩) hbl).trans c3
      have f4 := (hb.out.cell (p := ⟨b, o + k * 5 + 4, none⟩) hbl).trans c4
      clear c0 c1 c2 c3 c4
      have hwf := HK.out g (List.mem_of_getElem? hg)
      have hoa := ho.out.alloc (.cells #[.int .i64 g.fKey, .int .i64 g.fCount, .int .i64 g.fSum, .int .i64 g.fMin, .int .i64 g.fMax] 36)
      obtain ⟨v0, hl, hv0⟩ := OwnM.look hoa hat.out g.fKey hwf
      have HG := Lib.hid hg
      have HV := Lib.hid hv0
      have HW := Lib.hid hwf
      clear hoa hg hv0 hwf
      have HB := Lib.hid hb.out
      have HMAP := Lib.hid ho.out.isMap
      have HTK : Hid (L.take (k + 1) = L.take k ++ [g]) := Lib.hid (by rw [List.take_succ_eq_append_getElem hlt]; rw [List.getElem?_eq_getElem hlt] at HG; rw [Option.some.inj HG.out])
      obtain ⟨A, hAd⟩ : ∃ A, A = Obj.cells #[.int .i64 g.fKey, .int .i64 g.fCount, .int .i64 g.fSum, .int .i64 g.fMin, .int .i64 g.fMax] 36 := ⟨_, rfl⟩
      obtain ⟨B, hBd⟩ : ∃ B, B = Obj.cells #[.int .i64 v0.fKey, .int .i64 v0.fCount, .int .i64 v0.fSum, .int .i64 v0.fMin, .int .i64 v0.fMax] 36 := ⟨_, rfl⟩
      have hob := (ho.out.alloc A).alloc B
      have hbb : Below w.heap.size w ((wr.alloc A).alloc B) := (hb.out.alloc hb.out.size _).alloc (by have := hb.out.size; simp; omega) _
      cases hget : (GroupD.get g.fKey (L.take k)).isSome with
      | false =>
        rw [hget] at hl
        have hnone : GroupD.get g.fKey (L.take k) = none := by simpa using hget
        obtain ⟨w3, hu, hown3, hg3⟩ := hob.update intKeyed Try.underlying54 (by unfold maxLen; omega) (keyOf_int_mk Try.underlying3 HW.out) (rG_val g)
        have hat3 := atG_put HMAP.out hat.out (g := g) (o := g) (by rw [hnone]; rfl)
        rw [← HTK.out] at hat3
        have hb3 : Below w.heap.size w w3 := hbb.grown hg3 hbb.size (fun z hz => by cases hz; exact Nat.le_refl _)
        have HO3 := Lib.hid hown3
        have HA3 := Lib.hid hat3
        have HB3 := Lib.hid hb3
        unfold GroupD.val at hu
        subst hAd hBd
        clear hob hbb hown3 hat3 hb3 hg3 hnone hget
        go_wp2_with fail
        go_roundw
        case rel => exact ⟨k + 1, _, by go_num, by omega, HO3.out, HA3.out, HB3.out⟩
        case measure => simp [intOf]; omega
      | true =>
        rw [hget] at hl
        obtain ⟨h0, hh0⟩ := Option.isSome_iff_exists.1 hget
        obtain rfl : v0 = h0 := HV.out h0 hh0
        obtain ⟨c, hc⟩ : ∃ c, c = GroupD.comb v0 g := ⟨_, rfl⟩
        have hck : c.fKey = g.fKey := by rw [hc, GroupD.comb_key]; exact GroupD.get_key hh0
        have hcall := icomb v0 g ((wr.alloc A).alloc B)
        rw [← hc] at hcall
        unfold GroupD.val at hcall
        have hat3 := atG_put HMAP.out hat.out (g := g) (o := c) (by rw [hh0, hc]; rfl)
        rw [← HTK.out] at hat3
        have HA3 := Lib.hid hat3
        have HOB := Lib.hid hob
        have HBB := Lib.hid hbb
        have hnA : ((wr.alloc A).alloc B).heap[wr.heap.size]? = some A := (Below.heap_alloc _ _ _ (by simp)).trans (by show (wr.heap.push A)[wr.heap.size]? = some A; simp)
        have hsB : wr.heap.size < ((wr.alloc A).alloc B).heap.size := by simp; omega
        have HNA := Lib.hid hnA
        have HSB := Lib.hid hsB
        have HC := Lib.hid hcall
        have HAD := Lib.hid hAd
        have HBD := Lib.hid hBd
        have HCK := Lib.hid hck
        clear hat3 hob hbb hnA hsB hcall hck hc hget hh0
        subst hAd hBd
        go_wp2_with fail
        refine HC.out.mono ?_
        rintro e w3 ⟨rfl, hb3⟩
        have hn3 := (hb3.block _ HSB.out).trans HNA.out
        have hne : w.heap.size ≠ wr.heap.size := by have := ho.out.lt; omega
        have hown3 : OwnM w3 w.heap.size k D := by
          have hl := HOB.out.lt
          obtain ⟨es, clock, hb1, Ft, hs, hD⟩ := HOB.out
          exact ⟨es, clock, (hb3.block _ hl).trans hb1, Ft, hs, hD⟩
        obtain ⟨w4, hw4⟩ : ∃ w4, w4 = w3.setCells wr.heap.size 0 c.cells := ⟨_, rfl⟩
        have hst : (storeVar 36 ⟨wr.heap.size, 0, none⟩ (.agg #[.int .i64 c.fKey, .int .i64 c.fCount, .int .i64 c.fSum, .int .i64 c.fMin, .int .i64 c.fMax])).run Try.prog w3 = .ok () w4 := by
          rw [hw4]
          exact V.store_run (ag := true) (m := 5) (us := c.cells) V.sz_impl_Group (fun h => by cases h) rfl (cells_one c) (fun q hq => by
            simp only [World.cell?, hn3, Nat.zero_add]
            simp [hq]) fun q hq => by simp [World.frozen?, hn3]
        have hn4 : w4.heap[wr.heap.size]? = some (.cells c.cells.toArray 36 (0, 0)) := by
          rw [hw4, V.setCells_heap wr.heap.size c.cells 0 w3 [.int .i64 g.fKey, .int .i64 g.fCount, .int .i64 g.fSum, .int .i64 g.fMin, .int .i64 g.fMax] 36 hn3 (by simp [GroupD.cells])]
          simp [GroupD.cells]
        have hfar : ∀ z, z ≠ wr.heap.size → w4.heap[z]? = w3.heap[z]? := fun z hz => by rw [hw4]; exact V.setCells_far _ _ _ _ z hz
        have hb4 : Below wr.heap.size w3 w4 := by rw [hw4]; exact V.setCells_below _ _ _ _ _ (Nat.le_refl _)
        obtain ⟨y0, y1, y2, y3, y4⟩ : w4.cell? ⟨wr.heap.size, 0, none⟩ = some (.int .i64 c.fKey) ∧ w4.cell? ⟨wr.heap.size, 1, none⟩ = some (.int .i64 c.fCount) ∧ w4.cell? ⟨wr.heap.size, 2, none⟩ = some (.int .i64 c.fSum) ∧ w4.cell? ⟨wr.heap.size, 3, none⟩ = some (.int .i64 c.fMin) ∧ w4.cell? ⟨wr.heap.size, 4, none⟩ = some (.int .i64 c.fMax) := by
          refine ⟨?_, ?_, ?_, ?_, ?_⟩ <;> simp [World.cell?, hn4, GroupD.cells]
        have hown4 : OwnM w4 w.heap.size k D := by
          obtain ⟨es, clock, hb1, Ft, hs, hD⟩ := hown3
          exact ⟨es, clock, (hfar _ hne).trans hb1, Ft, hs, hD⟩
        obtain ⟨w5, hu, hown5, hg5⟩ := hown4.update (key := .int .i64 c.fKey) (kl := .int .i64 g.fKey) intKeyed Try.underlying54 (by unfold maxLen; omega) (by rw [HCK.out]; exact keyOf_int_mk Try.underlying3 HW.out) (rG_val c)
        unfold GroupD.val at hu
        have hb5 : Below w.heap.size w w5 := by
          have h1 := HBB.out.trans (hb3.mono HBB.out.size)
          have h2 := h1.trans (hb4.mono (Nat.le_trans HB.out.size (Nat.le_refl _)))
          exact h2.grown hg5 h2.size (fun z hz => by cases hz; exact Nat.le_refl _)
        have HO5 := Lib.hid hown5
        have HB5 := Lib.hid hb5
        clear hn3 hb3 hown3 hn4 hfar hb4 hown4 hown5 hg5 hb5 hw4
        go_wp2_with (refine wpList_store_own rfl _ _ 36 rfl ⟨wr.heap.size, 0, none⟩ (.agg #[.int .i64 c.fKey, .int .i64 c.fCount, .int .i64 c.fSum, .int .i64 c.fMin, .int .i64 c.fMax]) rfl rfl w4 hst ?_)
        go_roundw
        case rel => exact ⟨k + 1, _, by go_num, by omega, HO5.out, HA3.out, HB5.out⟩
        case measure => simp [intOf]; omega
    · have hkl : k = L.length := by omega
      have hall : L.take k = L := by rw [hkl, List.take_length]
      rw [hall] at hat
      obtain ⟨W2, hW2⟩ : ∃ W2, W2 = wr.alloc (.cells #[.map (some w.heap.size)] 54) := ⟨_, rfl⟩
      have hs := gsorted wr.heap.size w.heap.size k D L hat.out W2 (by rw [hW2]; simp) (by rw [hW2]; simp) (by rw [hW2]; exact ho.out.alloc _) (by omega)
      have HS := Lib.hid hs
      have HB := Lib.hid (show Below w.heap.size w W2 by rw [hW2]; exact hb.out.alloc hb.out.size _)
      clear hs hall
      go_wp2_with fail
      refine (gvalues (some w.heap.size) wr).mono ?_
      rintro e w' ⟨rfl, rfl⟩
      go_wp2_with fail
      rw [← hW2]
      refine HS.out.mono ?_
      rintro e w3 ⟨v, rfl, hv, hb3⟩
      go_wp2_with fail
      go_ret
      exact ⟨v, rfl, V.ownsRow_lower hv HB.out.size, HB.out.trans (hb3.mono HB.out.size)⟩
theorem own_groups {w : World} {B : Nat} {v : Value} {L : List GroupD} (h : OwnG w B v L) : V.Own w 0 (.seq 36 (L.map tGroup)) v (fun b => v.ownBlock = some b) := by
  refine .seq 5 (by decide) V.sz_impl_Group (fun e he => by obtain ⟨x, -, rfl⟩ := List.mem_map.1 he; rfl) (L.flatMap GroupD.cells) (by rw [List.length_map]; exact V.ownsRow_lower h (Nat.zero_le _)) (fun _ _ => False) (fun k e j t u h1 h2 h3 => ?_) (fun u hu => ?_) (fun b hb => hb) (fun q b hb => hb.elim) (fun q b hb => hb.elim) fun q q' b hb => hb.elim
  · rw [List.getElem?_map] at h1
    obtain ⟨g, hg, rfl⟩ := Option.map_eq_some_iff.1 h1
    have hj : j < 5 := by simpa [tGroup] using (List.getElem?_eq_some_iff.1 h2).1
    have hkl := V.get_lt hg
    obtain ⟨k1, u0, k2, k3⟩ := V.mapk_get cells_len L (k * 5 + j) (V.at_lt hkl hj)
    have d1 : (k * 5 + j) / 5 = k := by omega
    have d2 : (k * 5 + j) % 5 = j := by omega
    rw [k3] at h3
    have hgk : L[(k * 5 + j) / 5] = g := by
      have e8 : L[(k * 5 + j) / 5]? = some g := by rw [d1]; exact hg
      rw [List.getElem?_eq_getElem k1] at e8
      exact Option.some.inj e8
    rw [hgk, d2, Option.some.inj h3] at k2
    match j, hj, h2, k2 with
    | 0, _, h2, k2 => cases h2; cases k2; exact .lit rfl
    | 1, _, h2, k2 => cases h2; cases k2; exact .lit rfl
    | 2, _, h2, k2 => cases h2; cases k2; exact .lit rfl
    | 3, _, h2, k2 => cases h2; cases k2; exact .lit rfl
    | 4, _, h2, k2 => cases h2; cases k2; exact .lit rfl
  · obtain ⟨g, -, hg⟩ := List.mem_flatMap.1 hu
    exact cells_one g u hg
theorem gives_groups {w w' : World} {v : Value} {L : List GroupD} (hm : OwnG w' w.heap.size v L) (hb : Below w.heap.size w w') : V.Gives (V.Env.of w) false [(false, [.seq 36 (L.map tGroup)])] (.returned v) w' := by
  refine ⟨[[v]], fun c j b => c = 0 ∧ j = 0 ∧ v.ownBlock = some b, rfl, rfl, fun c ag ts us hc hu => ?_, fun c j c' j' b hb hb' => ⟨hb.1.trans hb'.1.symm, hb.2.1.trans hb'.2.1.symm⟩, fun c j b hb => ?_, .of_below hb⟩
  · match c, hc, hu with
    | 0, hc, hu => cases hc; cases hu; exact ⟨rfl, fun j t u h h' => by match j, h, h' with | 0, h, h' => cases h; cases h'; exact (own_groups hm).mono fun b hb => ⟨rfl, rfl, hb⟩⟩
  · have := World.ownsRow.lt hm b hb.2.2
    exact ⟨.inl this.1, this.2⟩
theorem vmerge_i (L : List GroupD) (hL : L.length ≤ 300000000000) (hK : ∀ g ∈ L, (Lit.int .i64 g.fKey).wf = true) : V.VC Try.prog 27 [(false, [.seq 36 (L.map tGroup)])] false [(false, [.seq 36 ((GroupD.merge L).map tGroup)])] := fun w vs hv => by
  obtain ⟨hl, ha⟩ := hv
  match vs, hl with
  | [v], _ =>
    obtain ⟨us, e1, e2, e3⟩ := ha 0 false _ v rfl rfl
    match us, e2 with
    | [x], _ =>
      have hx := e3 0 _ x rfl rfl
      have e1' : v = x := e1
      subst e1'
      obtain ⟨ad, c, n, hv, hc, hm, h0, hp, hz, hn, b, o, us, had, hb, hcell, hr⟩ := V.inn_seq hx
      have hn5 : n = 5 := hz.eq V.sz_impl_Group
      subst hn5
      rw [List.length_map] at hv hc
      subst hv
      refine (imerge ad c L w ⟨b, o, fun hne => ?_, fun k g hg => ?_⟩ hK (by omega)).mono fun e w' ⟨v, he, hm, hb⟩ => he ▸ gives_groups hm hb
      · have hne' : L.map tGroup ≠ [] := fun e => hne (List.map_eq_nil_iff.1 e)
        have hpos : 0 < L.length := List.length_pos_iff.2 hne
        cases ad with
        | none => have := h0 rfl; omega
        | some a => exact ⟨by rw [had a rfl hne'], (hb hne').2⟩
      · have hk : (L.map tGroup)[k]? = some (tGroup g) := by rw [List.getElem?_map, hg]; rfl
        have key : ∀ j u, (tGroup g)[j]? = some (.lit u) → w.cell? ⟨b, o + (k * 5 + j), none⟩ = some u := fun j u hj => by
          have h1 := hcell k _ j _ hk hj
          have h2 := hr k _ j _ hk hj
          have : us (k * 5 + j) = u := by
            cases h2; rfl
          rw [h1, this]
        exact ⟨key 0 _ rfl, by have := key 1 _ rfl; rwa [← Nat.add_assoc] at this, by have := key 2 _ rfl; rwa [← Nat.add_assoc] at this, by have := key 3 _ rfl; rwa [← Nat.add_assoc] at this, by have := key 4 _ rfl; rwa [← Nat.add_assoc] at this⟩
end Go.Proofs.Ytmlcdhblofjpbaa
