/- Texts joined: BriO BriP BriQ GrO BriGr BriFor VAdmitL VOp. -/
import Derived.Test.YtfghhjcfmmhacaaPartAf
import Derived.Test.YtfghhjcfmmhacaaShelfIns
import Derived.StillTailTactics
import Derived.Deep.CutRange
set_option linter.unusedSimpArgs false
set_option linter.unusedVariables false
/- The program's order in which clients are served (a stable sort with a closure), by contract. -/
namespace Go.Proofs.Ytfghhjcfmmhacaa
open Go Go.RowKit V Go.Sort
set_option linter.unusedVariables false
theorem prio_at {L : List ClientD} {i : Nat} {c : ClientD} (h : L[i]? = some c) : BrokerD.prio L i = c.fPriority := by unfold BrokerD.prio; rw [h]
set_option maxRecDepth 100000 in
theorem icmpord (a : Option Addr) (c : Nat) (L : List ClientD) (i j nb : Nat) (w : World) (hi : i < L.length) (hj : j < L.length) (hn : L.length ≤ 1000000000) (hb : w.cell? ⟨nb, 0, none⟩ = some (.slice a L.length c)) (hin : ClIn w a L) :
    Calls Try.prog 80 #[.int .i64 (i : Nat), .int .i64 (j : Nat), .pointer (some ⟨nb, 0, none⟩)] w fun e w' => e = .returned (.int .i64 (cmpI (BrokerD.prio L j) (BrokerD.prio L i))) ∧ w' = w.drew := by
  obtain ⟨x, hx⟩ : ∃ x, L[i]? = some x := ⟨_, List.getElem?_eq_getElem hi⟩
  obtain ⟨y, hy⟩ : ∃ y, L[j]? = some y := ⟨_, List.getElem?_eq_getElem hj⟩
  rw [prio_at hx, prio_at hy]
  obtain ⟨b, o, ha, hbl, -, -, p1⟩ := hin i x hx
  obtain ⟨b', o', ha', -, -, -, p2⟩ := hin j y hy
  rw [ha] at ha'
  injection ha' with ha'
  injection ha' with e1 e2
  subst e1 e2 ha
  obtain ⟨n, hnl⟩ : ∃ n, n = L.length := ⟨_, rfl⟩
  rw [← hnl] at hi hj hn hb
  obtain ⟨X, hX⟩ : ∃ X, X = x.fPriority := ⟨_, rfl⟩
  obtain ⟨Y, hY⟩ : ∃ Y, Y = y.fPriority := ⟨_, rfl⟩
  rw [← hX] at p1 ⊢
  rw [← hY] at p2 ⊢
  have z1 : (i : Int) < (n : Int) := by omega
  have z2 : (j : Int) < (n : Int) := by omega
  clear hx hy hnl hX hY hin
  go_enter Try.func80, Try.ntmps80
  go_wp2_with fail
  go_still_tail 10, (by kernel_rfl)
  go_wp2_with fail
  refine (icompare _ _ _).mono ?_
  rintro e w1 ⟨rfl, rfl⟩
  go_wp2_with fail
  go_ret
  exact ⟨rfl, rfl⟩
theorem heap_sort1 {α : Type} [Inhabited α] {enc : α → Value} {g : Nat} {w : World} (n : Nat) (d : Array α) (os : Array Obj) {b : Nat} (hb : b < w.heap.size) : (sortWorld enc w g 0 n d os).heap[b]? = if g = b then (w.heap[b]?).map (onCells (Go.Sort.putCells enc 0 d)) else w.heap[b]? := by
  show ((w.heap.modify g (onCells (Go.Sort.putCells enc 0 d))) ++ os)[b]? = _
  rw [Array.getElem?_append_left (by simpa using hb), Array.getElem?_modify]
theorem size_sort1 {α : Type} [Inhabited α] {enc : α → Value} {g : Nat} {w : World} (n : Nat) (d : Array α) (os : Array Obj) : w.heap.size ≤ (sortWorld enc w g 0 n d os).heap.size := by simp [sortWorld, grow, putRow, mapBlock]
def Apart (w : World) (g : Nat) (W : World) : Prop := w.heap.size ≤ W.heap.size ∧ ∀ b, b < w.heap.size → b ≠ g → W.heap[b]? = w.heap[b]?
theorem apart_sort1 {α : Type} [Inhabited α] {enc : α → Value} {g : Nat} {w : World} (n : Nat) (d : Array α) (os : Array Obj) : Apart w g (sortWorld enc w g 0 n d os) := ⟨size_sort1 n d os, fun b hb hne => by rw [heap_sort1 n d os hb, if_neg (fun e => hne e.symm)]⟩
theorem row_sort1 {α : Type} [Inhabited α] {enc : α → Value} {g k : Nat} {t : TypeId} {f : Nat → Value} {w : World} (n : Nat) (d : Array α) (os : Array Obj) (h : w.rowIs g t k f) (hd : d.size = k) : (sortWorld enc w g 0 n d os).rowIs g t k (fun j => enc d[j]!) := by
  obtain ⟨cur, h1, h2, h3⟩ := h
  refine ⟨Go.Sort.putCells enc 0 d cur, ?_, by simp [Go.Sort.putCells, h2], fun j hj => ?_⟩
  · rw [heap_sort1 n d os (lt_of_block h1), if_pos rfl, h1]; rfl
  · simp [Go.Sort.putCells, Array.getElem?_mapIdx, h2, hj, hd]
theorem ext_all {α : Type} (d : Array α) {n : Nat} (h : d.size = n) : (d.extract 0 n).toList = d.toList := by
  subst h
  simp
def idArr (n : Nat) : Array (Fin n) := Array.ofFn fun i => i
def encF {n : Nat} (k : Fin n) : Value := .int .i64 (k.val : Int)
theorem idArr_at {n : Nat} [Inhabited (Fin n)] {j : Nat} (hj : j < n) : ((idArr n)[j]!).val = j := by
  unfold idArr
  rw [getElem!_pos _ j (by simpa using hj)]
  simp
theorem sorted_ord (L : List ClientD) [Inhabited (Fin L.length)] (d' : Array (Fin L.length)) (h : d' = insertionSort (ltOf fun x y : Fin L.length => cmpI (BrokerD.prio L y.val) (BrokerD.prio L x.val)) (idArr L.length) 0 L.length) : d'.size = L.length ∧ d'.toList.map (·.val) = ordOf L := by
  have hsz : (idArr L.length).size = L.length := by simp [idArr]
  have e : d' = insertionSort (ltOf fun x y : Fin L.length => cmpOrd L x.val y.val) (idArr L.length) 0 L.length := by
    rw [h]
    unfold insertionSort
    refine outer_eq (v := fun x : Fin L.length => x.val) (fun x y hxy => ?_) L.length _ 1 _ rfl (by rw [hsz]; exact Nat.le_refl _) fun p q hpq hq hqb => ?_
    · unfold ltOf cmpOrd cmpI
      congr 1
      apply propext
      dsimp only
      repeat' split <;> omega
    · rw [idArr_at (by omega), idArr_at hqb]
      exact hpq
  have hord := isOrd_cmpOrd L
  have swo : SWO (ltOf fun x y : Fin L.length => cmpOrd L x.val y.val) := {
    irrefl := fun x => by unfold ltOf; simp; rw [(hord.zero x.val x.val).2 rfl]; exact Int.le_refl _
    trans := fun x y z h1 h2 => by
      unfold ltOf at *
      simp only [decide_eq_true_eq] at *
      have a1 := hord.anti x.val y.val
      have a2 := hord.anti y.val z.val
      rcases (show cmpOrd L x.val z.val < 0 ∨ 0 ≤ cmpOrd L x.val z.val by omega) with h | h
      · exact h
      · have a3 := hord.anti x.val z.val
        have := hord.trans x.val y.val z.val (by omega) (by omega)
        have e0 : cmpOrd L x.val z.val = 0 := by omega
        have e2 := (hord.zero x.val z.val).1 e0
        rw [e2] at h1 a1
        omega
    ntrans := fun x y z h1 h2 => by
      unfold ltOf at *
      simp only [decide_eq_false_iff_not, Int.not_lt] at *
      have a1 := hord.anti x.val y.val
      have a2 := hord.anti y.val z.val
      have a3 := hord.anti x.val z.val
      have := hord.trans z.val y.val x.val (by omega) (by omega)
      omega }
  obtain ⟨⟨p1, -, p3⟩, hs⟩ := insertionSort_holds (lt := ltOf fun x y : Fin L.length => cmpOrd L x.val y.val) swo (idArr L.length) 0 L.length (Nat.zero_le _) (by rw [hsz]; exact Nat.le_refl _)
  rw [← e] at p1 p3 hs
  have hz : d'.size = L.length := p1.trans hsz
  refine ⟨hz, Ord.sort_unique hord ?_ ?_⟩
  · have e1 : (d'.extract 0 L.length).toList = d'.toList := ext_all d' hz
    have e2 : ((idArr L.length).extract 0 L.length).toList = (idArr L.length).toList := ext_all _ hsz
    rw [e1, e2] at p3
    have e3 : (idArr L.length).toList.map (·.val) = List.range L.length := by
      apply List.ext_getElem?
      intro j
      by_cases hj : j < L.length
      · simp [idArr, hj]
      · simp [idArr, hj]
    rw [← e3]
    exact p3.map _
  · refine List.pairwise_map.2 (List.pairwise_iff_getElem.2 fun i j hi hj hij => Ord.leb_iff.2 ?_)
    rw [Array.length_toList] at hi hj
    have := hs i j (Nat.zero_le _) hij (by omega)
    unfold ltOf at this
    rw [getElem!_pos d' j hj, getElem!_pos d' i hi] at this
    simp only [decide_eq_false_iff_not, Int.not_lt] at this
    have a := hord.anti d'[i].val d'[j].val
    simp only [Array.getElem_toList]
    omega
def Seen (w : World) (g : Nat) (L : List ClientD) (a : Option Addr) (c nb : Nat) : Prop := ∀ W, Apart w g W → W.cell? ⟨nb, 0, none⟩ = some (.slice a L.length c) ∧ ClIn W a L
set_option maxRecDepth 100000 in
theorem iinssort (a : Option Addr) (c nb g : Nat) (L : List ClientD) (f : Nat → Value) (w : World) (h0 : 0 < L.length) (hn : L.length ≤ 1000000000) (hs : Seen w g L a c nb) (hrow : w.rowIs g 3 L.length f) (hf : ∀ j, j < L.length → f j = .int .i64 (j : Nat)) :
    Calls Try.prog 96 #[.slice (some ⟨g, 0, none⟩) L.length L.length, .int .i64 ((0 : Nat) : Int), .int .i64 (L.length : Nat), .func (.func 80) #[] #[.pointer (some ⟨nb, 0, none⟩)]] w fun e w' =>
      e = .returned (.tuple #[]) ∧ w.grownBy w' (some g) ∧ ∃ f', w'.rowIs g 3 L.length f' ∧ ∀ j v, (ordOf L)[j]? = some v → f' j = .int .i64 (v : Nat) := by
  haveI : Inhabited (Fin L.length) := ⟨⟨0, h0⟩⟩
  have hsz : (idArr L.length).size = L.length := by simp [idArr]
  have hH : Holds encF w g 0 (idArr L.length) := fun j hj => by
    rw [hsz] at hj
    refine ⟨?_, hrow.frozen _⟩
    rw [Nat.zero_add, hrow.cell hj, hf j hj]
    unfold encF
    rw [idArr_at hj]
  have eg : ∀ args w, (callFunc 80 args).run Try.prog w = .ok (.enter 80 args) w := enters_of Try.func80 (by kernel_rfl) rfl
  have hcon := Any.insertionSortCmpFunc_s Try.insInts (encF (n := L.length)) (fun x y : Fin L.length => cmpI (BrokerD.prio L y.val) (BrokerD.prio L x.val)) 80 #[.pointer (some ⟨nb, 0, none⟩)] g 0 L.length 0 L.length (idArr L.length) (idArr L.length) w w eg
    (fun m os dk hdk x y => by
      obtain ⟨q1, q2⟩ := hs _ (apart_sort1 m dk os)
      exact (icmpord a c L x.val y.val nb _ x.isLt y.isLt hn q1 q2).mono fun e w' ⟨he, hw⟩ => ⟨he, 1, #[], by rw [hw, grow_empty]; rfl⟩)
    ⟨fun x => rfl, hH, hrow.lt⟩ rfl (SW.start hH) (Nat.zero_le _) (by rw [hsz]; exact Nat.le_refl _) (by rw [hsz]; omega)
  rw [hsz] at hcon
  refine hcon.mono fun e w' ⟨he, m, os, hw⟩ => ?_
  obtain ⟨d', hd'⟩ : ∃ d', d' = insertionSort (ltOf fun x y : Fin L.length => cmpI (BrokerD.prio L y.val) (BrokerD.prio L x.val)) (idArr L.length) 0 L.length := ⟨_, rfl⟩
  rw [← hd'] at hw
  obtain ⟨s1, s2⟩ := sorted_ord L d' hd'
  subst hw
  refine ⟨he, ⟨rfl, rfl, rfl, size_sort1 m d' os, fun b hb hne => ?_⟩, _, row_sort1 m d' os hrow s1, fun j v hv => ?_⟩
  · rw [heap_sort1 m d' os hb, if_neg (fun e => hne (by rw [e]))]
  · have hjl : j < L.length := by have := V.get_lt hv; rwa [ordOf_length] at this
    rw [← s2, List.getElem?_map, Array.getElem?_toList, Array.getElem?_eq_getElem (by omega)] at hv
    rw [getElem!_pos d' j (by omega)]
    unfold encF
    rw [← Option.some.inj hv]
end Go.Proofs.Ytfghhjcfmmhacaa
/- The library's slices.SortStableFunc at few numbers, and the program's order of service: told by trees. -/
namespace Go.Proofs.Ytfghhjcfmmhacaa
open Go Go.RowKit V Go.Sort
set_option linter.unusedVariables false
def Sorted (L : List ClientD) (g : Nat) (w : World) (e : Ending) (w' : World) : Prop := e = .returned (.tuple #[]) ∧ w.grownBy w' (some g) ∧ ∃ f', w'.rowIs g 3 L.length f' ∧ ∀ j v, (ordOf L)[j]? = some v → f' j = .int .i64 (v : Nat)
set_option maxRecDepth 100000 in
theorem iinssort' (a : Option Addr) (c nb g : Nat) (L : List ClientD) (f : Nat → Value) (w : World) (hn : L.length ≤ 1000000000) (hs : Seen w g L a c nb) (hrow : w.rowIs g 3 L.length f) (hf : ∀ j, j < L.length → f j = .int .i64 (j : Nat)) :
    Calls Try.prog 96 #[.slice (some ⟨g, 0, none⟩) L.length L.length, .int .i64 0, .int .i64 (L.length : Nat), .func (.func 80) #[] #[.pointer (some ⟨nb, 0, none⟩)]] w (Sorted L g w) := by
  rcases Nat.eq_zero_or_pos L.length with h0 | h0
  · have hL : L = [] := List.eq_nil_of_length_eq_zero h0
    subst hL
    have HR := Lib.hid hrow
    clear hrow hs hf
    go_enter Try.func96, Try.ntmps96
    go_wp2_with fail
    go_loopw [8] (fun i wr => i = .int .i64 1 ∧ wr = w) (fun _ _ => 0)
    case atStart => exact ⟨rfl, rfl⟩
    case round =>
      obtain ⟨rfl, rfl⟩ := hrel
      go_wp2_with fail
      go_end0
      exact ⟨rfl, ⟨rfl, rfl, rfl, Nat.le_refl _, fun _ _ _ => rfl⟩, f, HR.out, fun j v hv => by have := V.get_lt hv; rw [ordOf_length] at this; simp at this⟩
  · exact iinssort a c nb g L f w h0 hn hs hrow hf
set_option maxRecDepth 100000 in
theorem istable (a : Option Addr) (c nb g : Nat) (L : List ClientD) (f : Nat → Value) (w : World) (hn : L.length ≤ 19) (hs : Seen w g L a c nb) (hrow : w.rowIs g 3 L.length f) (hf : ∀ j, j < L.length → f j = .int .i64 (j : Nat)) :
    Calls Try.prog 92 #[.slice (some ⟨g, 0, none⟩) L.length L.length, .int .i64 (L.length : Nat), .func (.func 80) #[] #[.pointer (some ⟨nb, 0, none⟩)]] w (Sorted L g w) := by
  have HI := Lib.hid (iinssort' a c nb g L f w (by omega) hs hrow hf)
  obtain ⟨n, hnl⟩ : ∃ n, n = L.length := ⟨_, rfl⟩
  rw [← hnl] at HI hn ⊢
  have z1 : ¬ (20 : Int) ≤ (n : Int) := by omega
  have z2 : ¬ (20 : Int) < (n : Int) := by omega
  clear hs hrow hf hnl
  go_enter Try.func92, Try.ntmps92
  go_wp2_with fail
  go_loopw [7, 8] (fun x y wr => x = .int .i64 0 ∧ y = .int .i64 20 ∧ wr = w) (fun _ _ _ => 0)
  case atStart => exact ⟨rfl, rfl, rfl⟩
  case round =>
    obtain ⟨rfl, rfl, rfl⟩ := hrel
    go_wp2_with fail
    refine HI.out.mono ?_
    rintro e w1 hS
    obtain ⟨rfl, -⟩ := id hS
    have HS := Lib.hid hS
    clear hS
    go_wp2_with fail
    go_loopw [6] (fun x wr => x = .int .i64 20 ∧ wr = w1) (fun _ _ => 0)
    case atStart => exact ⟨rfl, rfl⟩
    case round =>
      obtain ⟨rfl, rfl⟩ := hrel
      go_wp2_with fail
      go_end0
      exact HS.out
theorem isortst (a : Option Addr) (c nb g : Nat) (L : List ClientD) (f : Nat → Value) (w : World) (hn : L.length ≤ 19) (hs : Seen w g L a c nb) (hrow : w.rowIs g 3 L.length f) (hf : ∀ j, j < L.length → f j = .int .i64 (j : Nat)) :
    Calls Try.prog 79 #[.slice (some ⟨g, 0, none⟩) L.length L.length, .func (.func 80) #[] #[.pointer (some ⟨nb, 0, none⟩)]] w (Sorted L g w) := by
  have HI := Lib.hid (istable a c nb g L f w hn hs hrow hf)
  obtain ⟨n, hnl⟩ : ∃ n, n = L.length := ⟨_, rfl⟩
  rw [← hnl] at HI hn ⊢
  clear hs hrow hf hnl
  go_enter Try.func79, Try.ntmps79
  go_wp2_with fail
  refine HI.out.mono ?_
  rintro e w1 hS
  obtain ⟨rfl, -⟩ := id hS
  have HS := Lib.hid hS
  clear hS
  go_wp2_with fail
  go_end0
  exact HS.out
end Go.Proofs.Ytfghhjcfmmhacaa
/- The program's order in which clients are served: told by trees. -/
namespace Go.Proofs.Ytfghhjcfmmhacaa
open Go Go.RowKit V Go.Sort
set_option linter.unusedVariables false
theorem seen_of {w wr : World} {a : Option Addr} {c nb g : Nat} {L : List ClientD} (hin : ClIn w a L) (hb : Below w.heap.size w wr) (hbox : wr.heap[nb]? = some (.cells #[.slice a L.length c] 24 (0, 0))) (hg : w.heap.size ≤ g) (hne : nb ≠ g) : Seen wr g L a c nb := fun W ⟨h1, h2⟩ => by
  refine ⟨box_cell ((h2 nb (lt_of_block hbox) hne).trans hbox) 0 _ rfl, fun t x hx => ?_⟩
  obtain ⟨b, o, e1, e2, e3, e4, e5⟩ := hin t x hx
  have e6 : W.heap[b]? = w.heap[b]? := (h2 b (Nat.lt_of_lt_of_le e2 hb.size) (by omega)).trans (hb.block b e2)
  exact ⟨b, o, e1, Nat.lt_of_lt_of_le (Nat.lt_of_lt_of_le e2 hb.size) h1, (World.cell?_of_block e6).trans e3, (World.cell?_of_block e6).trans e4, (World.cell?_of_block e6).trans e5⟩
set_option maxRecDepth 100000 in
set_option maxHeartbeats 1000000 in
theorem iorderfn (a : Option Addr) (c : Nat) (L : List ClientD) (w : World) (hn : L.length ≤ 19) (hin : ClIn w a L) :
    Calls Try.prog 50 #[.slice a L.length c] w fun e w' => ∃ (g : Nat) (f' : Nat → Value), e = .returned (.slice (some ⟨g, 0, none⟩) L.length L.length) ∧ w.heap.size ≤ g ∧ Below w.heap.size w w' ∧ w'.rowIs g 3 L.length f' ∧ ∀ j v, (ordOf L)[j]? = some v → f' j = .int .i64 (v : Nat) := by
  obtain ⟨I0, hI, hz0, hz1, hz2⟩ := info_parts elt_int.inf
  obtain ⟨W0, hW0⟩ : ∃ W, W = w.alloc (.cells #[.slice a L.length c] 24) := ⟨_, rfl⟩
  have b0 : Below w.heap.size w W0 := by rw [hW0]; exact (Below.refl _ _).alloc (Nat.le_refl _) _
  have k0 : W0.heap[w.heap.size]? = some (.cells #[.slice a L.length c] 24 (0, 0)) := by rw [hW0]; exact heap_alloc_new _ _
  obtain ⟨W1, hW1⟩ : ∃ W, W = W0.alloc (.cells (madeCells #[.int .i64 0] (L.length * 1)) 3) := ⟨_, rfl⟩
  obtain ⟨g, hg⟩ : ∃ g, g = W0.heap.size := ⟨_, rfl⟩
  obtain ⟨nb, hnb⟩ : ∃ x, x = w.heap.size := ⟨_, rfl⟩
  have hmk : (Instr.makeSlice 28 (.int .i64 (L.length : Nat)) (.int .i64 (L.length : Nat))).run Try.prog W0 = .ok (.slice (some ⟨g, 0, none⟩) L.length L.length) W1 := by
    have hrun := run_make (P := Try.prog) W0 28 3 I0 _ elt_int.und hI hz0 .i64 .i64 L.length L.length (by omega) (Int.le_refl _) (by rw [hz2]; omega) (by omega)
    simp only [Int.toNat_natCast, hz1] at hrun
    rw [hW1, hg]
    exact hrun
  have b1 : Below w.heap.size w W1 := by rw [hW1]; exact b0.alloc b0.size _
  have k1 : W1.heap[nb]? = some (.cells #[.slice a L.length c] 24 (0, 0)) := by rw [hW1, hnb]; exact (Below.heap_alloc W0 _ _ (lt_of_block k0)).trans k0
  have r1 : W1.rowIs g 3 L.length (fun j => if j < 0 then .int .i64 (j : Nat) else .int .i64 0) := by
    refine ⟨madeCells #[.int .i64 0] (L.length * 1), by rw [hW1, hg]; exact heap_alloc_new _ _, by simp [madeCells], fun j hj => ?_⟩
    show _ = some (if j < 0 then Value.int .i64 (j : Nat) else .int .i64 0)
    rw [if_neg (Nat.not_lt_zero j)]
    have h2 : (madeCells #[.int .i64 0] (L.length * 1))[j]? = some (madeCells #[.int .i64 0] (L.length * 1))[j]! := by
      have : j < (madeCells #[Value.int .i64 0] (L.length * 1)).size := by simp [madeCells]; omega
      rw [getElem!_pos _ j this, Array.getElem?_eq_getElem this]
    have h3 := made_get (z := #[Value.int .i64 0]) (by decide) (show (madeCells #[Value.int .i64 0] (L.length * 1)).toList[j]? = some _ by rw [Array.getElem?_toList]; exact h2)
    rw [h2]
    have h4 : j % 1 = 0 := Nat.mod_one j
    simp [h4] at h3
    rw [Nat.mul_one, ← h3]
  have hne : nb ≠ g := by have := lt_of_block k0; omega
  have hgs : w.heap.size ≤ g := by rw [hg]; exact b0.size
  have SE : Hid (∀ wr, Below w.heap.size w wr → wr.heap[nb]? = some (.cells #[.slice a L.length c] 24 (0, 0)) → Seen wr g L a c nb) := Lib.hid fun wr h1 h2 => seen_of hin h1 h2 hgs hne
  have HN := Lib.hid hn
  have HG := Lib.hid hgs
  have B1 := Lib.hid b1
  have K1 := Lib.hid k1
  have R1 := Lib.hid r1
  obtain ⟨n, hnl⟩ : ∃ n, n = L.length := ⟨_, rfl⟩
  have HL := Lib.hid hnl
  rw [← hnl] at hn hmk hW0 ⊢
  rw [← hnl] at K1 R1
  rw [hW0] at hmk
  clear hin b0 k0 b1 k1 r1 hgs hW1 hg hI hz0 hz1 hz2 hnl hW0
  go_enter Try.func50, Try.ntmps50
  go_wp2_with (simp only [hmk])
  rw [← hnb]
  clear hnb
  go_loopw [10] (fun i wr => ∃ t : Nat, i = .int .i64 t ∧ t ≤ n ∧ Hid (Below w.heap.size w wr) ∧ Hid (wr.heap[nb]? = some (.cells #[.slice a n c] 24 (0, 0))) ∧ Hid (wr.rowIs g 3 n (fun j => if j < t then .int .i64 (j : Nat) else .int .i64 0))) (fun i _ => n - (intOf i).toNat)
  case atStart => exact ⟨0, rfl, Nat.zero_le _, B1, K1, R1⟩
  case round =>
    obtain ⟨t, rfl, ht, hb, hk, hr⟩ := hrel
    by_cases hlt : t < n
    · have c0 : wr.cell? ⟨g, t, none⟩ = some (.int .i64 0) := by
        have h := hr.out.cell hlt
        rw [if_neg (Nat.lt_irrefl t)] at h
        exact h
      have c1 := hr.out.frozen t
      have z1 : (t : Int) < (n : Int) := by omega
      have g1 : wr.grownBy (wr.setCell ⟨g, t, none⟩ (.int .i64 (t : Nat))) (some g) := grown_cells [.int .i64 (t : Nat)] t wr ⟨rfl, rfl, rfl, Nat.le_refl _, fun _ _ _ => rfl⟩
      have B5 := Lib.hid (hb.out.grown g1 hb.out.size fun k hk => by rw [← Option.some.inj hk]; exact HG.out)
      have K5 := Lib.hid ((Below.heap_setCell wr ⟨g, t, none⟩ (.int .i64 (t : Nat)) nb hne).trans hk.out)
      have R5 := Lib.hid ((hr.out.set t (.int .i64 (t : Nat))).congr (g := fun j => if j < t + 1 then .int .i64 (j : Nat) else .int .i64 0) fun j hj => by
        by_cases h1 : j = t
        · subst h1
          rw [if_pos rfl, if_pos (Nat.lt_succ_self j)]
        · rw [if_neg h1]
          by_cases h2 : j < t
          · rw [if_pos h2, if_pos (by omega)]
          · rw [if_neg h2, if_neg (by omega)])
      clear g1
      go_wp2_with fail
      go_roundw
      case rel => exact ⟨t + 1, by go_num, by omega, B5, K5, R5⟩
      case measure => simp [intOf]; omega
    · have hcall := isortst a c nb g L _ wr HN.out (SE.out wr hb.out (by rw [← HL.out]; exact hk.out)) (by rw [← HL.out]; exact hr.out) fun j hj => by
        have hl := HL.out
        exact if_pos (by omega)
      rw [← HL.out] at hcall
      have HC := Lib.hid hcall
      have z1 : ¬ (t : Int) < (n : Int) := by omega
      have k2 : wr.cell? ⟨nb, 0, none⟩ = some (.slice a n c) := box_cell hk.out 0 _ rfl
      clear hcall
      go_wp2_with fail
      refine HC.out.mono ?_
      rintro e w5 ⟨rfl, hgr, f', hr5, hf5⟩
      have B5 := Lib.hid (hb.out.grown hgr hb.out.size fun k hk => by rw [← Option.some.inj hk]; exact HG.out)
      have R5 := Lib.hid hr5
      have F5 := Lib.hid hf5
      clear hgr hr5 hf5 k2
      go_wp2_with fail
      go_ret
      exact ⟨g, f', rfl, HG.out, B5.out, by rw [HL.out]; exact R5.out, F5.out⟩
def ordI (L : List ClientD) : List Int := (ordOf L).map fun i : Nat => (i : Int)
theorem vord_i (L : List ClientD) (hL : L.length ≤ 19) : VC Try.prog 50 [(false, [.seq 35 (L.map tClient)])] false [(false, [.seq 3 ((ordI L).map tInt)])] :=
  VC.clients (ns := []) fun w a c h1 h2 h3 => (iorderfn a c L w hL h3).mono fun e w' ⟨g, f', q1, q2, q3, q4, q5⟩ => by
    obtain ⟨cur, r1, r2, r3⟩ := q4
    have hlen : (ordI L).length = L.length := by unfold ordI; rw [List.length_map, ordOf_length]
    have htl : cur.toList = (ordI L).map fun x => Value.int .i64 x := by
      apply List.ext_getElem?
      intro j
      rw [Array.getElem?_toList]
      rcases Nat.lt_or_ge j L.length with hj | hj
      · have hj' : j < (ordOf L).length := by rw [ordOf_length]; exact hj
        rw [r3 j hj, q5 j (ordOf L)[j] (List.getElem?_eq_getElem hj')]
        unfold ordI
        simp [hj']
      · rw [Array.getElem?_eq_none (by omega), List.getElem?_eq_none (by rw [List.length_map, hlen]; exact hj)]
    have hown : Own w' 0 (.seq 3 ((ordI L).map tInt)) (.slice (some ⟨g, 0, none⟩) L.length L.length) (fun b => b = g) := by
      refine .seq 1 (by decide) sz_int (fun e he => by obtain ⟨x, -, rfl⟩ := List.mem_map.1 he; rfl) ((ordI L).map fun x => Value.int .i64 x) ⟨by simp, .inr ⟨g, L.length, cur, by rw [List.length_map, hlen], Nat.zero_le _, r1, by rw [List.length_map, hlen]; exact Nat.le_refl _, by unfold maxLen; omega, by rw [r2, Nat.mul_one], by rw [List.length_map, hlen, Nat.mul_one, htl]; exact List.take_of_length_le (by rw [List.length_map, hlen]; exact Nat.le_refl _)⟩⟩ (fun _ _ => False) (fun k e j t u e1 e2 e3 => ?_) (fun u hu => by obtain ⟨x, -, rfl⟩ := List.mem_map.1 hu; rfl) (fun b hb => by cases hb; rfl) (fun q b hb => hb.elim) (fun q b hb => hb.elim) fun q q' b hb => hb.elim
      rw [List.getElem?_map] at e1
      obtain ⟨x, hx, rfl⟩ := Option.map_eq_some_iff.1 e1
      have hj : j = 0 := by have := V.get_lt e2; simpa [tInt] using this
      subst hj
      cases e2
      rw [Nat.mul_one, Nat.add_zero, List.getElem?_map, hx] at e3
      rw [← Option.some.inj e3]
      exact .lit rfl
    refine ⟨[[.slice (some ⟨g, 0, none⟩) L.length L.length]], fun c j b => c = 0 ∧ j = 0 ∧ b = g, rfl, q1, fun c ag ts us hc' hu => ?_, fun c j c' j' b e1 e2 => ⟨e1.1.trans e2.1.symm, e1.2.1.trans e2.2.1.symm⟩, fun c j b hb => ?_, .of_below q3⟩
    · cases c with
      | zero =>
        cases hc'; cases hu
        refine ⟨rfl, fun j t u hj hu => ?_⟩
        cases j with
        | zero => cases hj; cases hu; exact hown.mono fun b hb => ⟨rfl, rfl, hb⟩
        | succ j => simp at hj
      | succ c => simp at hc'
    · obtain ⟨-, -, rfl⟩ := hb
      exact ⟨.inl q2, lt_of_block r1⟩
end Go.Proofs.Ytfghhjcfmmhacaa
/- Grants given out in the order of service, as mathematics. -/
namespace Go.Proofs.Ytfghhjcfmmhacaa
open Go Go.RowKit
set_option linter.unusedVariables false
open BrokerD in
theorem sumTo_list (f : Nat → Int) : ∀ n : Nat, sumTo f n = ((List.range n).map f).sum
  | 0 => rfl
  | n + 1 => by
    rw [List.range_succ, List.map_append, List.sum_append, ← sumTo_list f n]
    simp [sumTo]
theorem sum_perm {l m : List Int} (h : l.Perm m) : l.sum = m.sum := by
  induction h with
  | nil => rfl
  | cons x _ ih => rw [List.sum_cons, List.sum_cons, ih]
  | swap x y l => rw [List.sum_cons, List.sum_cons, List.sum_cons, List.sum_cons]; omega
  | trans _ _ h1 h2 => exact h1.trans h2
theorem sum_zero : ∀ {l : List Int}, (∀ x ∈ l, x = 0) → l.sum = 0
  | [], _ => rfl
  | x :: l, h => by rw [List.sum_cons, h x (List.mem_cons_self ..), sum_zero fun y hy => h y (List.mem_cons_of_mem _ hy)]; rfl
def sumN (A : List ClientD) (l : List Nat) : Int := (l.map (BrokerD.need A)).sum
def leftO (A : List ClientD) (R : Int) (s : Nat) : Int := max 0 (R - sumN A ((ordOf A).take s))
def grantsO (A : List ClientD) (R : Int) (s : Nat) : List Int := (List.range A.length).map fun i => if i ∈ (ordOf A).take s then BrokerD.grantAt R A i else 8
theorem ord_nodup (A : List ClientD) : (ordOf A).Nodup := (ordOf_perm A).nodup_iff.2 List.nodup_range
theorem ord_lt {A : List ClientD} {s x : Nat} (h : (ordOf A)[s]? = some x) : x < A.length := List.mem_range.1 ((ordOf_perm A).mem_iff.1 (List.mem_of_getElem? h))
theorem ord_split {A : List ClientD} {s x : Nat} (h : (ordOf A)[s]? = some x) : ordOf A = (ordOf A).take s ++ x :: (ordOf A).drop (s + 1) := by
  have hl := V.get_lt h
  have e : (ordOf A)[s] = x := by rw [List.getElem?_eq_getElem hl] at h; exact Option.some.inj h
  conv => lhs; rw [← List.take_append_drop s (ordOf A), List.drop_eq_getElem_cons hl, e]
theorem ord_take {A : List ClientD} {s x : Nat} (h : (ordOf A)[s]? = some x) : (ordOf A).take (s + 1) = (ordOf A).take s ++ [x] := by
  have hl := V.get_lt h
  have e : (ordOf A)[s] = x := by rw [List.getElem?_eq_getElem hl] at h; exact Option.some.inj h
  rw [List.take_succ_eq_append_getElem hl, e]
theorem ord_fresh {A : List ClientD} {s x : Nat} (h : (ordOf A)[s]? = some x) : x ∉ (ordOf A).take s := fun hm => by
  have hn := ord_nodup A
  rw [ord_split h, List.nodup_append] at hn
  exact hn.2.2 x hm x (List.mem_cons_self ..) rfl
theorem ord_before {A : List ClientD} {s x : Nat} (h : (ordOf A)[s]? = some x) : (∀ j ∈ (ordOf A).take s, BrokerD.prio A x < BrokerD.prio A j ∨ (BrokerD.prio A j = BrokerD.prio A x ∧ j < x)) ∧ ∀ j ∈ (ordOf A).drop (s + 1), ¬ (BrokerD.prio A x < BrokerD.prio A j ∨ (BrokerD.prio A j = BrokerD.prio A x ∧ j < x)) := by
  have ha := Ord.sort_asc (isOrd_cmpOrd A) (List.range A.length)
  have hn := ord_nodup A
  change (ordOf A).Pairwise _ at ha
  rw [ord_split h] at ha hn
  rw [List.pairwise_append] at ha
  rw [List.nodup_append] at hn
  obtain ⟨-, h2, h3⟩ := ha
  have h4 := (List.pairwise_cons.1 h2).1
  refine ⟨fun j hj => ?_, fun j hj => ?_⟩
  · have h5 := Ord.leb_iff.1 (h3 j hj x (List.mem_cons_self ..))
    have hne : j ≠ x := hn.2.2 j hj x (List.mem_cons_self ..)
    unfold cmpOrd at h5
    repeat' split at h5 <;> omega
  · have h5 := Ord.leb_iff.1 (h4 j hj)
    unfold cmpOrd at h5
    repeat' split at h5 <;> omega
theorem upTo_ord {A : List ClientD} {s x : Nat} (h : (ordOf A)[s]? = some x) : BrokerD.upTo A (BrokerD.prio A x) x = sumN A ((ordOf A).take s) := by
  unfold BrokerD.upTo
  rw [sumTo_list, ← sum_perm ((ordOf_perm A).map _), ord_split h, List.map_append, List.sum_append, List.map_cons, List.sum_cons]
  obtain ⟨h1, h2⟩ := ord_before h
  have e1 : ((ordOf A).take s).map (fun j => if BrokerD.prio A x < BrokerD.prio A j ∨ (BrokerD.prio A j = BrokerD.prio A x ∧ j < x) then BrokerD.need A j else 0) = ((ordOf A).take s).map (BrokerD.need A) := List.map_congr_left fun j hj => if_pos (h1 j hj)
  have e2 : (((ordOf A).drop (s + 1)).map (fun j => if BrokerD.prio A x < BrokerD.prio A j ∨ (BrokerD.prio A j = BrokerD.prio A x ∧ j < x) then BrokerD.need A j else 0)).sum = 0 := sum_zero fun y hy => by
    obtain ⟨j, hj, rfl⟩ := List.mem_map.1 hy
    exact if_neg (h2 j hj)
  rw [← ord_split h, e1, e2, if_neg (by omega)]
  unfold sumN
  omega
theorem leftO_zero {A : List ClientD} {R : Int} (hR : 0 ≤ R) : leftO A R 0 = R := by
  unfold leftO sumN
  simp
  omega
theorem leftO_succ {A : List ClientD} {R : Int} {s x : Nat} (h : (ordOf A)[s]? = some x) (hn : 0 ≤ BrokerD.need A x) : leftO A R (s + 1) = leftO A R s - min (BrokerD.need A x) (leftO A R s) := by
  unfold leftO
  rw [ord_take h]
  have e : sumN A ((ordOf A).take s ++ [x]) = sumN A ((ordOf A).take s) + BrokerD.need A x := by unfold sumN; rw [List.map_append, List.sum_append]; simp
  rw [e]
  omega
theorem leftO_range {A : List ClientD} {R : Int} (hR : 0 ≤ R) (hn : ∀ j, 0 ≤ BrokerD.need A j) (s : Nat) : 0 ≤ leftO A R s ∧ leftO A R s ≤ R := by
  have h : ∀ l : List Nat, 0 ≤ sumN A l := fun l => by
    induction l with
    | nil => exact Int.le_refl 0
    | cons x l ih =>
      have := hn x
      unfold sumN at *
      rw [List.map_cons, List.sum_cons]
      omega
  have := h ((ordOf A).take s)
  unfold leftO
  omega
theorem grantsO_length {A : List ClientD} {R : Int} {s : Nat} : (grantsO A R s).length = A.length := by simp [grantsO]
theorem grantsO_zero {A : List ClientD} {R : Int} : grantsO A R 0 = List.replicate A.length 8 := by
  apply List.ext_getElem?
  intro i
  unfold grantsO
  by_cases hi : i < A.length
  · simp [hi, List.getElem?_replicate]
  · simp [hi, List.getElem?_replicate]
theorem grantsO_at {A : List ClientD} {R : Int} {s x : Nat} (h : (ordOf A)[s]? = some x) : (grantsO A R s)[x]? = some 8 := by
  unfold grantsO
  rw [List.getElem?_map, List.getElem?_range (ord_lt h)]
  simp [ord_fresh h]
theorem grantsO_succ {A : List ClientD} {R : Int} {s x : Nat} (h : (ordOf A)[s]? = some x) (hn : 0 ≤ BrokerD.need A x) : grantsO A R (s + 1) = (grantsO A R s).set x (8 + min (BrokerD.need A x) (leftO A R s)) := by
  have hx := ord_lt h
  apply List.ext_getElem?
  intro i
  by_cases hi : i < A.length
  · by_cases hix : x = i
    · subst hix
      rw [List.getElem?_set_self (by rw [grantsO_length]; exact hx)]
      unfold grantsO
      rw [List.getElem?_map, List.getElem?_range hx, ord_take h]
      simp only [Option.map_some, List.mem_append, List.mem_singleton, or_true, if_true]
      congr 1
      unfold BrokerD.grantAt BrokerD.give
      rw [upTo_ord h]
      unfold leftO
      omega
    · rw [List.getElem?_set_ne hix]
      unfold grantsO
      rw [List.getElem?_map, List.getElem?_map, List.getElem?_range hi, ord_take h]
      have : ¬ i = x := fun e => hix e.symm
      simp [this]
  · rw [List.getElem?_eq_none (by rw [grantsO_length]; omega), List.getElem?_eq_none (by rw [List.length_set, grantsO_length]; omega)]
theorem grantsO_end {A : List ClientD} {R : Int} : grantsO A R A.length = BrokerD.grantsOf R A := by
  unfold grantsO BrokerD.grantsOf
  refine List.map_congr_left fun i hi => if_pos ?_
  rw [List.take_of_length_le (by rw [ordOf_length]; exact Nat.le_refl _)]
  exact (ordOf_perm A).mem_iff.2 hi
end Go.Proofs.Ytfghhjcfmmhacaa
/- The program's ComputeGrants: told by trees. -/
namespace Go.Proofs.Ytfghhjcfmmhacaa
open Go Go.RowKit V
set_option linter.unusedVariables false
def fillG (n t : Nat) : List Int := (List.range n).map fun j => if j < t then 8 else 0
theorem fillG_length (n t : Nat) : (fillG n t).length = n := by simp [fillG]
theorem fillG_zero (n : Nat) : List.replicate n [T.lit (Value.int .i64 0)] = (fillG n 0).map tInt := by
  apply List.ext_getElem?
  intro i
  by_cases hi : i < n
  · simp [fillG, hi, List.getElem?_replicate, tInt]
  · simp [fillG, hi, List.getElem?_replicate]
theorem fillG_at {n t : Nat} (h : t < n) : (fillG n t)[t]? = some 0 := by simp [fillG, h]
theorem fillG_succ {n t : Nat} (h : t < n) : (fillG n t).set t 8 = fillG n (t + 1) := by
  apply List.ext_getElem?
  intro i
  by_cases hi : i < n
  · by_cases hit : t = i
    · subst hit
      rw [List.getElem?_set_self (by rw [fillG_length]; exact h)]
      simp [fillG, h]
    · rw [List.getElem?_set_ne hit]
      simp only [fillG, List.getElem?_map, List.getElem?_range hi, Option.map_some]
      congr 1
      by_cases h1 : i < t
      · rw [if_pos h1, if_pos (by omega)]
      · rw [if_neg h1, if_neg (by omega)]
  · rw [List.getElem?_eq_none (by rw [List.length_set, fillG_length]; omega), List.getElem?_eq_none (by rw [fillG_length]; omega)]
theorem fillG_end (n : Nat) : fillG n n = List.replicate n 8 := by
  apply List.ext_getElem?
  intro i
  by_cases hi : i < n
  · simp [fillG, hi, List.getElem?_replicate]
  · simp [fillG, hi, List.getElem?_replicate]
set_option maxRecDepth 100000 in
set_option maxHeartbeats 2000000 in
theorem vgrants_i (b : BrokerD) (hA : b.fActive.length ≤ 1000000000) (hW : b.fWaiting.length ≤ 1000000000) : VC Try.prog 16 [(true, tBroker b)] false [(false, [.seq 3 ((BrokerD.grants b).map tInt)])] := by
  refine VC.enter Try.func16 rfl Try.ntmps16 (gle rfl) fun E hE => ?_
  refine SV.seq' ?_
  refine SV.region ?_
  refine SV.op (OpMk.ok (ok_box (kk := 0) (ag := true) (xs := [.sc _, .sc _, .ro _, .ro _]) rfl rfl rfl (fun h => by cases h) rfl rfl (gle rfl))) rfl ?_
  refine SV.op (OpL.ok (nb := 1) (ok_move (v := V.one (.sc _)) (.inr rfl) rfl) rfl (gle rfl)) rfl ?_
  refine SV.nil ?_
  refine SV.tn ?_
  refine SV.seq' ?_
  refine SV.seq' ?_
  refine SV.region ?_
  refine SV.op (OpL.ok (nb := 1) (ok_load_bp (b := 0) (i := 0) (ag := true) (m := 4) (ys := [.sc _, .sc _, .ro _, .ro _]) rfl rfl rfl agg_impl_Broker sz_impl_Broker (fun h => by cases h) rfl rfl (gle rfl)) rfl (gle rfl)) rfl ?_
  refine SV.op (OpMk.ok (ok_call (ls := [(false, [.sc _])]) rfl rfl ⟨_, _, Try.func19, rfl, by decide⟩ (vokb_i b (by omega) (by omega)) ⟨⟨[.sc _, .sc _, .ro _, .ro _], rfl, ⟨rfl, rfl, rfl, rfl, trivial⟩⟩, trivial⟩ rfl (gle rfl))) rfl ?_
  refine SV.op (OpL.ok (nb := 1) (ok_s1 (x := .tmp 10) (VScal.one rfl) (fun ρ h1 w => by go_simp; (try go_bits); with_reducible rfl) rfl) rfl (gle rfl)) rfl ?_
  refine SV.nil ?_
  refine SV.tn ?_
  refine SV.cond rfl (fun hc0 => ?_) (fun hc0 => ?_)
  · skip   -- c0.T
    have hok : BrokerD.ok b = false := by simpa using hc0
    have ho := BrokerD.grants_bad hok
    refine SV.seq' ?_
    refine SV.region ?_
    refine SV.op (OpL.ok (nb := 1) (ok_move (v := V.one (.sc _)) (.inr rfl) rfl) rfl (gle rfl)) rfl ?_
    refine SV.nil ?_
    refine SV.tn ?_
    refine SV.ret ?_
    refine SV.tr ?_
    refine SV.nlsc (s := 2) (kk := 0) (n := 1) rfl rfl (by decide) sz_int (gle rfl) ?_
    apply SV.done (hf := Try.results16) (ht := rfl) (he := .inr rfl)
    case hr => exact (ResAll.cons (ResOk.tmp (ag := false) (xs := [.hd 0]) rfl) ResAll.nil')
    case h2 => simp [two]
    refine ⟨rfl, ⟨?_, trivial⟩, trivial⟩ <;> first | rfl | (rw [ho]; rfl) | ((show some (T.seq _ _) = some (T.seq _ _); refine congrArg (fun z => some (T.seq _ z)) ?_; rw [ho]; first | done | rfl | (simp [tClient]; done) | (simp [List.map_set, tClient]; done))) | ((show some (T.lit (Value.int .i64 _)) = some (T.lit (Value.int .i64 _)); refine congrArg (fun z => some (T.lit (Value.int .i64 z))) ?_; rw [ho]; first | done | rfl)) | ((show some (T.lit (Value.bool _)) = some (T.lit (Value.bool _)); refine congrArg (fun z => some (T.lit (Value.bool z))) ?_; rw [ho]; first | done | rfl | (simp; done)))
  · skip   -- c0.F
    have hok : BrokerD.ok b = true := by simpa using hc0
    have hO := BrokerD.Ok.of hok
    have hN := (BrokerD.okN_iff b).1 hO.num
    have hroom : BrokerD.room b.fPool ≤ 5 ∧ BrokerD.room b.fPool ≤ b.fPool / 8 := by unfold BrokerD.room; omega
    have hn5 : b.fActive.length ≤ 5 := by omega
    have hr1 : (BrokerD.rest b) ≤ b.fPool - 8 * (b.fActive.length : Int) := Int.le_refl _
    have hr2 : b.fPool - 8 * (b.fActive.length : Int) ≤ (BrokerD.rest b) := Int.le_refl _
    have hr0 : 0 ≤ (BrokerD.rest b) := by omega
    have hnd : ∀ j, 0 ≤ BrokerD.need b.fActive j ∧ BrokerD.need b.fActive j ≤ 52 := fun j => by
      unfold BrokerD.need
      split
      · rename_i c hc
        have := (BrokerD.okC_iff _ c).1 (hO.act.each c (List.mem_of_getElem? hc))
        omega
      · omega
    refine SV.skip ?_
    refine SV.tn ?_
    refine SV.seq' ?_
    refine SV.region ?_
    refine SV.op (OpL.ok (nb := 1) (ok_field_bp (b := 0) (o' := 0) (off := 2) rfl rfl fld_impl_Broker_2) rfl (gle rfl)) rfl ?_
    refine SV.op (OpL.ok (nb := 1) (ok_load_bp (b := 0) (i := 2) (ag := false) (m := 1) (ys := [.ro _]) rfl rfl rfl agg_s_impl_Client sz_s_impl_Client (fun _ => rfl) rfl rfl (gle rfl)) rfl (gle rfl)) rfl ?_
    refine SV.op (OpL.ok (nb := 1) (ok_len (lf := .ro _) rfl elt_impl_Client.und rfl rfl) rfl (gle rfl)) rfl ?_
    refine SV.op (OpMk.ok (ok_make (kk := 0) (zs := [.sc _]) elt_int rfl rfl rfl rfl ⟨rfl, rfl, trivial⟩ rfl (by first | omega | (simp only [List.length_map]; omega) | (simp; done) | (simp; omega)) rfl (gle rfl))) rfl ?_
    refine SV.op (OpL.ok (nb := 1) (ok_move (v := V.one (.hd 0)) (.inr rfl) rfl) rfl (gle rfl)) rfl ?_
    refine SV.nil ?_
    refine SV.tn ?_
    refine SV.seq' ?_
    refine SV.seq' ?_
    refine SV.region ?_
    refine SV.op (OpL.ok (nb := 1) (ok_move (v := V.one (.hd 0)) (.inl rfl) rfl) rfl (gle rfl)) rfl ?_
    refine SV.op (OpL.ok (nb := 1) (ok_len (lf := .hd 0) rfl elt_int.und rfl rfl) rfl (gle rfl)) rfl ?_
    refine SV.op (OpL.ok (nb := 1) (ok_move (v := V.one (.sc _)) (.inl rfl) rfl) rfl (gle rfl)) rfl ?_
    refine SV.nil ?_
    refine SV.tn ?_
    refine SV.block ?_
    refine SV.loopF (X := Nat) (fun (σ : VS) t => (((((((VS.nil.new (.seq 3 ((fillG b.fActive.length t).map tInt))).box 26 [σ.bl 0 0, σ.bl 0 1, σ.bl 0 2, σ.bl 0 3]).put 1 (V.flat false [.bp 0 0])).put 2 (σ.tm 2)).put 3 (V.flat false [.hd 0])).put 17 (σ.tm 17)).put 18 (V.flat false [.sc (.int .i64 ((t : Int)))]))) (fun t => t ≤ b.fActive.length) (fun t => b.fActive.length - t) ?_ ?_
    · skip
      refine SV.again (fun i => [0].getD i 0) 0 ((by first | exact Nat.zero_le _ | (refine ⟨Nat.zero_le _, ?_⟩; simp; done) | (simp; done) | omega)) (pins hE rfl rfl) (VS.le.mk' (le_put (le_put (le_put (le_put (le_put (le_box (le_new le_nil)) (V.le.keep (ag := false) (xs := [.bp 0 0]) (ys := [.bp 0 0]) rfl rfl ⟨⟨rfl, (gle rfl)⟩, trivial⟩)) (V.le.keep (ag := false) (xs := [.sc _]) (ys := [.sc _]) rfl rfl ⟨rfl, trivial⟩)) (V.le.keep (ag := false) (xs := [.hd 0]) (ys := [.hd 0]) rfl rfl ⟨⟨rfl, (gle rfl), (gle rfl)⟩, trivial⟩)) (V.le.keep (ag := false) (xs := [.sc _]) (ys := [.sc _]) rfl rfl ⟨rfl, trivial⟩)) (V.le.keep (ag := false) (xs := [.sc _]) (ys := [.sc _]) rfl rfl ⟨(by first | rfl | (show Leaf.sc _ = Leaf.sc _; refine congrArg Leaf.sc ?_; first | rfl | go_num | (simp [cntAll]; done)) | (simp [cntAll]; done) | (simp; omega)), trivial⟩)) ⟨⟨rfl, ⟨rfl, rfl, rfl, rfl, trivial⟩⟩, trivial⟩ ⟨.inr ⟨_, _, rfl, ?ob1_0, (gle rfl)⟩, trivial⟩ (new_ob nil_ob) (fun i j hi hj e => inj_list (l := [0]) (by decide) i j hi hj e))
      case ob1_0 =>
        show some (T.seq _ _) = some (T.seq _ _)
        (show some (T.seq _ (List.replicate (List.map tClient b.fActive).length [T.lit (Value.int .i64 0)])) = _; first | (rw [List.length_map, fillG_zero]; done) | (rw [List.length_map, fillG_zero]; rfl))
    · rintro t ht
      refine SV.seq' ?_
      refine SV.region ?_
      refine SV.op (OpL.ok (nb := 1) (ok_s2 (x := .tmp 18) (x' := .tmp 17) (VScal.one rfl) (VScal.one rfl) (fun ρ h1 h2 w => by go_simp; (try go_bits); with_reducible rfl) rfl) rfl (gle rfl)) rfl ?_
      refine SV.nil ?_
      refine SV.tn ?_
      refine SV.seq' ?_
      refine SV.cond rfl (fun hc1 => ?_) (fun hc1 => ?_)
      · skip   -- c1.T
        have htl : t < b.fActive.length := by simp [fillG_length] at hc1; omega
        have hx := fillG_at htl
        have hf1 : ((fillG b.fActive.length t).map tInt).set t [T.lit (Value.int .i64 8)] = (fillG b.fActive.length (t + 1)).map tInt := by rw [← fillG_succ htl, List.map_set]; rfl
        refine SV.skip ?_
        refine SV.tn ?_
        refine SV.seq' ?_
        refine SV.block ?_
        refine SV.seq' ?_
        refine SV.region ?_
        refine SV.op (OpL.ok (nb := 1) (ok_move (v := V.one (.sc _)) (.inl rfl) rfl) rfl (gle rfl)) rfl ?_
        refine SV.op (OpL.ok (nb := 1) (ok_move (v := V.one (.sc _)) (.inr rfl) rfl) rfl (gle rfl)) rfl ?_
        refine SV.nil ?_
        refine SV.tn ?_
        refine SV.region ?_
        refine SV.op (OpL.ok (nb := 1) (ok_move (v := V.one (.hd 0)) (.inl rfl) rfl) rfl (gle rfl)) rfl ?_
        refine SV.op (OpL.ok (nb := 1) (ok_move (v := V.one (.sc _)) (.inl rfl) rfl) rfl (gle rfl)) rfl ?_
        refine SV.op (OpL.ok (nb := 1) (ok_index (n := 1) (lf := .hd 0) rfl elt_int.und sz_int rfl rfl rfl (map_at hx)) rfl (gle rfl)) rfl ?_
        refine SV.op (ok_store_ep (i := 0) (n := 1) (m := 1) (ag := false) (zs := [.sc _]) rfl rfl rfl rfl (map_at hx) sz_int (fun _ => rfl) rfl sz_int (gle rfl) (outs_c rfl outs_n) (by simp [two]) rfl rfl rfl) rfl ?_
        refine SV.nil ?_
        refine SV.bn ?_
        refine SV.tn ?_
        refine SV.region ?_
        refine SV.op (OpL.ok (nb := 1) (ok_s2 (x := .tmp 18) (x' := .const ((Value.int IntKind.i64 1))) (VScal.one rfl) (VScal.one rfl) (fun ρ h1 h2 w => by go_simp; (try go_bits); with_reducible rfl) rfl) rfl (gle rfl)) rfl ?_
        refine SV.op (OpL.ok (nb := 1) (ok_move (v := V.one (.sc _)) (.inl rfl) rfl) rfl (gle rfl)) rfl ?_
        refine SV.nil ?_
        refine SV.tn ?_
        refine SV.again (fun i => [0].getD i 0) (t + 1) (⟨by omega, by omega⟩) (pins hE rfl rfl) (VS.le.mk' (le_put (le_put (le_put (le_put (le_put (le_box (le_new le_nil)) (V.le.keep (ag := false) (xs := [.bp 0 0]) (ys := [.bp 0 0]) rfl rfl ⟨⟨rfl, (gle rfl)⟩, trivial⟩)) (V.le.keep (ag := false) (xs := [.sc _]) (ys := [.sc _]) rfl rfl ⟨rfl, trivial⟩)) (V.le.keep (ag := false) (xs := [.hd 0]) (ys := [.hd 0]) rfl rfl ⟨⟨rfl, (gle rfl), (gle rfl)⟩, trivial⟩)) (V.le.keep (ag := false) (xs := [.sc _]) (ys := [.sc _]) rfl rfl ⟨rfl, trivial⟩)) (V.le.keep (ag := false) (xs := [.sc _]) (ys := [.sc _]) rfl rfl ⟨(by first | rfl | (show Leaf.sc _ = Leaf.sc _; refine congrArg Leaf.sc ?_; first | rfl | go_num | (simp [cntAll]; done)) | (simp [cntAll]; done) | (simp; omega)), trivial⟩)) ⟨⟨rfl, ⟨rfl, rfl, rfl, rfl, trivial⟩⟩, trivial⟩ ⟨.inr ⟨_, _, rfl, ?ob2_0, (gle rfl)⟩, trivial⟩ (new_ob nil_ob) (fun i j hi hj e => inj_list (l := [0]) (by decide) i j hi hj e))
        case ob2_0 =>
          show some (T.seq _ _) = some (T.seq _ _)
          first | exact congrArg (fun z => some (T.seq _ z)) hf1 | (rw [← hf1]; rfl)
      · skip   -- c1.F
        have hte : t = b.fActive.length := by simp [fillG_length] at hc1; omega
        have hst : (fillG b.fActive.length t).map tInt = (grantsO b.fActive (BrokerD.rest b) 0).map tInt := by rw [hte, fillG_end, grantsO_zero]
        refine SV.exit ?_
        refine SV.te ?_
        refine SV.te ?_
        refine SV.bh ?_
        refine SV.tn ?_
        refine SV.seq' ?_
        refine SV.region ?_
        refine SV.op (OpL.ok (nb := 1) (ok_field_bp (b := 0) (o' := 0) (off := 0) rfl rfl fld_impl_Broker_0) rfl (gle rfl)) rfl ?_
        refine SV.op (OpL.ok (nb := 1) (ok_load_bp (b := 0) (i := 0) (ag := false) (m := 1) (ys := [.sc _]) rfl rfl rfl agg_int sz_int (fun _ => rfl) rfl rfl (gle rfl)) rfl (gle rfl)) rfl ?_
        refine SV.op (OpL.ok (nb := 1) (ok_move (v := V.one (.hd 0)) (.inl rfl) rfl) rfl (gle rfl)) rfl ?_
        refine SV.op (OpL.ok (nb := 1) (ok_len (lf := .hd 0) rfl elt_int.und rfl rfl) rfl (gle rfl)) rfl ?_
        refine SV.op (OpL.ok (nb := 1) (ok_s2 (v := .int .i64 (8 * (b.fActive.length : Int))) (x := .const ((Value.int IntKind.i64 8))) (x' := .tmp 28) (VScal.one rfl) (VScal.one rfl) (fun ρ h1 h2 w => by go_simp; simp only [List.length_map, fillG_length] at *; rw [IntWalk.i64_left, IntWalk.wrap64_in _ ⟨by omega, by omega⟩]) rfl) rfl (gle rfl)) rfl ?_
        refine SV.op (OpL.ok (nb := 1) (ok_s2 (v := .int .i64 (BrokerD.rest b)) (x := .tmp 26) (x' := .tmp 29) (VScal.one rfl) (VScal.one rfl) (fun ρ h1 h2 w => by go_simp; rw [IntWalk.i64_left, IntWalk.wrap64_in _ ⟨by omega, by omega⟩] <;> first | rfl | omega | (congr 1; omega)) rfl) rfl (gle rfl)) rfl ?_
        refine SV.op (OpL.ok (nb := 1) (ok_move (v := V.one (.sc _)) (.inr rfl) rfl) rfl (gle rfl)) rfl ?_
        refine SV.nil ?_
        refine SV.tn ?_
        refine SV.seq' ?_
        refine SV.seq' ?_
        refine SV.region ?_
        refine SV.op (OpL.ok (nb := 1) (ok_field_bp (b := 0) (o' := 0) (off := 2) rfl rfl fld_impl_Broker_2) rfl (gle rfl)) rfl ?_
        refine SV.op (OpL.ok (nb := 1) (ok_load_bp (b := 0) (i := 2) (ag := false) (m := 1) (ys := [.ro _]) rfl rfl rfl agg_s_impl_Client sz_s_impl_Client (fun _ => rfl) rfl rfl (gle rfl)) rfl (gle rfl)) rfl ?_
        refine SV.op (OpMk.ok (ok_call (ls := [(false, [.hd 1])]) rfl rfl ⟨_, _, Try.func50, rfl, by decide⟩ (vord_i b.fActive (by omega)) ⟨⟨[.ro _], rfl, ⟨rfl, trivial⟩⟩, trivial⟩ rfl (gle rfl))) rfl ?_
        refine SV.op (OpL.ok (nb := 1) (ok_len (lf := .hd 1) rfl elt_int.und rfl rfl) rfl (gle rfl)) rfl ?_
        refine SV.op (OpL.ok (nb := 1) (ok_move (v := V.one (.sc _)) (.inl rfl) rfl) rfl (gle rfl)) rfl ?_
        refine SV.nil ?_
        refine SV.tn ?_
        refine SV.block ?_
        refine SV.loopF (X := Nat) (fun (σ : VS) s => ((((((((((VS.nil.new (.seq 3 ((grantsO b.fActive (BrokerD.rest b) s).map tInt))).new (σ.tree 1)).box 26 [σ.bl 0 0, σ.bl 0 1, σ.bl 0 2, σ.bl 0 3]).put 1 (V.flat false [.bp 0 0])).put 2 (σ.tm 2)).put 3 (V.flat false [.hd 0])).put 5 (V.flat false [.sc (.int .i64 (leftO b.fActive (BrokerD.rest b) s))])).put 33 (V.flat false [.hd 1])).put 34 (σ.tm 34)).put 35 (V.flat false [.sc (.int .i64 ((s : Int)))]))) (fun s => s ≤ b.fActive.length) (fun s => b.fActive.length - s) ?_ ?_
        · skip
          refine SV.again (fun i => [0, 1].getD i 0) 0 ((by omega)) (pins hE rfl rfl) (VS.le.mk' (le_put (le_put (le_put (le_put (le_put (le_put (le_put (le_box (le_new (le_new le_nil))) (V.le.keep (ag := false) (xs := [.bp 0 0]) (ys := [.bp 0 0]) rfl rfl ⟨⟨rfl, (gle rfl)⟩, trivial⟩)) (V.le.keep (ag := false) (xs := [.sc _]) (ys := [.sc _]) rfl rfl ⟨rfl, trivial⟩)) (V.le.keep (ag := false) (xs := [.hd 0]) (ys := [.hd 0]) rfl rfl ⟨⟨rfl, (gle rfl), (gle rfl)⟩, trivial⟩)) (V.le.keep (ag := false) (xs := [.sc _]) (ys := [.sc _]) rfl rfl ⟨(by first | rfl | (show Leaf.sc _ = Leaf.sc _; refine congrArg Leaf.sc ?_; first | rfl | go_num | (first | (rw [leftO_succ hx (hnd x).1, hnx]; done) | (rw [leftO_succ hx (hnd x).1, hnx]; rfl) | (rw [leftO_zero hr0]; done) | (rw [leftO_zero hr0]; rfl); first | done | rfl | go_num | (simp; done) | (simp; omega)) | (simp [cntAll]; done)) | (simp [cntAll]; done) | (simp; omega)), trivial⟩)) (V.le.keep (ag := false) (xs := [.hd 1]) (ys := [.hd 1]) rfl rfl ⟨⟨rfl, (gle rfl), (gle rfl)⟩, trivial⟩)) (V.le.keep (ag := false) (xs := [.sc _]) (ys := [.sc _]) rfl rfl ⟨rfl, trivial⟩)) (V.le.keep (ag := false) (xs := [.sc _]) (ys := [.sc _]) rfl rfl ⟨(by first | rfl | (show Leaf.sc _ = Leaf.sc _; refine congrArg Leaf.sc ?_; first | rfl | go_num | (first | (rw [leftO_succ hx (hnd x).1, hnx]; done) | (rw [leftO_succ hx (hnd x).1, hnx]; rfl) | (rw [leftO_zero hr0]; done) | (rw [leftO_zero hr0]; rfl); first | done | rfl | go_num | (simp; done) | (simp; omega)) | (simp [cntAll]; done)) | (simp [cntAll]; done) | (simp; omega)), trivial⟩)) ⟨⟨rfl, ⟨rfl, rfl, rfl, rfl, trivial⟩⟩, trivial⟩ ⟨.inr ⟨_, _, rfl, rfl, (gle rfl)⟩, ⟨.inr ⟨_, _, rfl, ?ob3_0, (gle rfl)⟩, trivial⟩⟩ (new_ob (new_ob nil_ob)) (fun i j hi hj e => inj_list (l := [0, 1]) (by decide) i j hi hj e))
          case ob3_0 =>
            show some (T.seq _ _) = some (T.seq _ _)
            exact congrArg (fun z => some (T.seq _ z)) hst
        · rintro s hs
          refine SV.seq' ?_
          refine SV.region ?_
          refine SV.op (OpL.ok (nb := 1) (ok_s2 (x := .tmp 35) (x' := .tmp 34) (VScal.one rfl) (VScal.one rfl) (fun ρ h1 h2 w => by go_simp; (try go_bits); with_reducible rfl) rfl) rfl (gle rfl)) rfl ?_
          refine SV.nil ?_
          refine SV.tn ?_
          refine SV.seq' ?_
          refine SV.cond rfl (fun hc2 => ?_) (fun hc2 => ?_)
          · skip   -- c2.T
            have hsl : s < (ordOf b.fActive).length := by rw [ordOf_length]; simp [ordI, ordOf_length] at hc2; omega
            have hsA : s < b.fActive.length := by rw [ordOf_length] at hsl; exact hsl
            obtain ⟨x, hx⟩ : ∃ x, (ordOf b.fActive)[s]? = some x := ⟨_, List.getElem?_eq_getElem hsl⟩
            have hxI : (ordI b.fActive)[s]? = some ((x : Nat) : Int) := by unfold ordI; rw [List.getElem?_map, hx]; rfl
            have hxl := ord_lt hx
            obtain ⟨c, hc⟩ : ∃ c, b.fActive[x]? = some c := ⟨_, List.getElem?_eq_getElem hxl⟩
            have hnx : BrokerD.need b.fActive x = c.fRequested - 8 := (BrokerD.need_at hc).1
            have hnr := hnd x
            rw [hnx] at hnr
            have hlr := leftO_range (A := b.fActive) hr0 (fun j => (hnd j).1) s
            have hg8 := grantsO_at (R := (BrokerD.rest b)) hx
            have hg0 := grantsO_succ (R := (BrokerD.rest b)) hx (hnd x).1
            rw [hnx] at hg0
            have hg1 : ((grantsO b.fActive (BrokerD.rest b) s).map tInt).set x [T.lit (Value.int .i64 (8 + min (c.fRequested - 8) (leftO b.fActive (BrokerD.rest b) s)))] = (grantsO b.fActive (BrokerD.rest b) (s + 1)).map tInt := by rw [hg0, List.map_set]; rfl
            have hRle : (BrokerD.rest b) ≤ 120 := by omega
            refine SV.skip ?_
            refine SV.tn ?_
            refine SV.seq' ?_
            refine SV.block ?_
            refine SV.seq' ?_
            refine SV.region ?_
            refine SV.op (OpL.ok (nb := 1) (ok_index (n := 1) (lf := .hd 1) rfl elt_int.und sz_int rfl rfl rfl (map_at hxI)) rfl (gle rfl)) rfl ?_
            refine SV.op (ok_load_el (p := .ep 1 _ _ _) (ag := false) (m := 1) (ys := [.sc _]) rfl rfl (cells_ep rfl (map_at hxI) rfl rfl) agg_int sz_int (fun _ => rfl) (gle rfl) rfl rfl (gle rfl)) rfl ?_
            refine SV.op (OpL.ok (nb := 1) (ok_move (v := V.one (.sc _)) (.inr rfl) rfl) rfl (gle rfl)) rfl ?_
            refine SV.nil ?_
            refine SV.tn ?_
            refine SV.seq' ?_
            refine SV.region ?_
            refine SV.op (OpL.ok (nb := 1) (ok_field_bp (b := 0) (o' := 0) (off := 2) rfl rfl fld_impl_Broker_2) rfl (gle rfl)) rfl ?_
            refine SV.op (OpL.ok (nb := 1) (ok_load_bp (b := 0) (i := 2) (ag := false) (m := 1) (ys := [.ro _]) rfl rfl rfl agg_s_impl_Client sz_s_impl_Client (fun _ => rfl) rfl rfl (gle rfl)) rfl (gle rfl)) rfl ?_
            refine SV.op (OpL.ok (nb := 1) (ok_move (v := V.one (.sc _)) (.inl rfl) rfl) rfl (gle rfl)) rfl ?_
            refine SV.op (OpL.ok (nb := 1) (ok_index (n := 3) (lf := .ro _) rfl elt_impl_Client.und sz_impl_Client rfl rfl rfl (map_at hc)) rfl (gle rfl)) rfl ?_
            refine SV.op (OpL.ok (nb := 1) (ok_field_el (p := .rp _) (off := 1) rfl rfl rfl fld_impl_Client_1) rfl (gle rfl)) rfl ?_
            refine SV.op (OpL.ok (nb := 1) (ok_load_rp (ag := false) (m := 1) (ys := [.sc _]) rfl rfl agg_int sz_int (fun _ => rfl) (gle rfl) rfl) rfl (gle rfl)) rfl ?_
            refine SV.op (OpL.ok (nb := 1) (ok_s2 (v := .int .i64 (c.fRequested - 8)) (x := .tmp 44) (x' := .const ((Value.int IntKind.i64 8))) (VScal.one rfl) (VScal.one rfl) (fun ρ h1 h2 w => by go_simp; rw [IntWalk.i64_left, IntWalk.wrap64_in _ ⟨by omega, by omega⟩]) rfl) rfl (gle rfl)) rfl ?_
            refine SV.op (OpL.ok (nb := 1) (ok_move (v := V.one (.sc _)) (.inl rfl) rfl) rfl (gle rfl)) rfl ?_
            refine SV.op (OpL.ok (nb := 1) (ok_s2 (v := .int .i64 (min (c.fRequested - 8) (leftO b.fActive (BrokerD.rest b) s))) (x := .tmp 45) (x' := .tmp 46) (VScal.one rfl) (VScal.one rfl) (fun ρ h1 h2 w => by first | (go_simp; done) | (go_simp; rfl) | (go_simp; rw [Int.min_def]; split <;> split <;> first | rfl | omega | (congr 1; omega))) rfl) rfl (gle rfl)) rfl ?_
            refine SV.op (OpL.ok (nb := 1) (ok_move (v := V.one (.sc _)) (.inr rfl) rfl) rfl (gle rfl)) rfl ?_
            refine SV.nil ?_
            refine SV.tn ?_
            refine SV.seq' ?_
            refine SV.region ?_
            refine SV.op (OpL.ok (nb := 1) (ok_move (v := V.one (.hd 0)) (.inl rfl) rfl) rfl (gle rfl)) rfl ?_
            refine SV.op (OpL.ok (nb := 1) (ok_move (v := V.one (.sc _)) (.inl rfl) rfl) rfl (gle rfl)) rfl ?_
            refine SV.op (OpL.ok (nb := 1) (ok_index (n := 1) (lf := .hd 0) rfl elt_int.und sz_int rfl rfl rfl (map_at hg8)) rfl (gle rfl)) rfl ?_
            refine SV.op (ok_load_el (p := .ep 0 _ _ _) (ag := false) (m := 1) (ys := [.sc _]) rfl rfl (cells_ep rfl (map_at hg8) rfl rfl) agg_int sz_int (fun _ => rfl) (gle rfl) rfl rfl (gle rfl)) rfl ?_
            refine SV.op (OpL.ok (nb := 1) (ok_move (v := V.one (.sc _)) (.inl rfl) rfl) rfl (gle rfl)) rfl ?_
            refine SV.op (OpL.ok (nb := 1) (ok_s2 (v := .int .i64 (8 + min (c.fRequested - 8) (leftO b.fActive (BrokerD.rest b) s))) (x := .tmp 51) (x' := .tmp 52) (VScal.one rfl) (VScal.one rfl) (fun ρ h1 h2 w => by go_simp; rw [IntWalk.i64_left, IntWalk.wrap64_in _ ⟨by omega, by omega⟩]) rfl) rfl (gle rfl)) rfl ?_
            refine SV.op (OpL.ok (nb := 1) (ok_index (n := 1) (lf := .hd 0) rfl elt_int.und sz_int rfl rfl rfl (map_at hg8)) rfl (gle rfl)) rfl ?_
            refine SV.op (ok_store_ep (i := 0) (n := 1) (m := 1) (ag := false) (zs := [.sc _]) rfl rfl rfl rfl (map_at hg8) sz_int (fun _ => rfl) rfl sz_int (gle rfl) (outs_c rfl outs_n) (by simp [two]) rfl rfl rfl) rfl ?_
            refine SV.nil ?_
            refine SV.tn ?_
            refine SV.region ?_
            refine SV.op (OpL.ok (nb := 1) (ok_move (v := V.one (.sc _)) (.inl rfl) rfl) rfl (gle rfl)) rfl ?_
            refine SV.op (OpL.ok (nb := 1) (ok_move (v := V.one (.sc _)) (.inl rfl) rfl) rfl (gle rfl)) rfl ?_
            refine SV.op (OpL.ok (nb := 1) (ok_s2 (v := .int .i64 (leftO b.fActive (BrokerD.rest b) s - min (c.fRequested - 8) (leftO b.fActive (BrokerD.rest b) s))) (x := .tmp 55) (x' := .tmp 56) (VScal.one rfl) (VScal.one rfl) (fun ρ h1 h2 w => by go_simp; rw [IntWalk.i64_left, IntWalk.wrap64_in _ ⟨by omega, by omega⟩]) rfl) rfl (gle rfl)) rfl ?_
            refine SV.op (OpL.ok (nb := 1) (ok_move (v := V.one (.sc _)) (.inr rfl) rfl) rfl (gle rfl)) rfl ?_
            refine SV.nil ?_
            refine SV.bn ?_
            refine SV.tn ?_
            refine SV.region ?_
            refine SV.op (OpL.ok (nb := 1) (ok_s2 (x := .tmp 35) (x' := .const ((Value.int IntKind.i64 1))) (VScal.one rfl) (VScal.one rfl) (fun ρ h1 h2 w => by go_simp; (try go_bits); with_reducible rfl) rfl) rfl (gle rfl)) rfl ?_
            refine SV.op (OpL.ok (nb := 1) (ok_move (v := V.one (.sc _)) (.inl rfl) rfl) rfl (gle rfl)) rfl ?_
            refine SV.nil ?_
            refine SV.tn ?_
            refine SV.again (fun i => [0, 1].getD i 0) (s + 1) (⟨by omega, by omega⟩) (pins hE rfl rfl) (VS.le.mk' (le_put (le_put (le_put (le_put (le_put (le_put (le_put (le_box (le_new (le_new le_nil))) (V.le.keep (ag := false) (xs := [.bp 0 0]) (ys := [.bp 0 0]) rfl rfl ⟨⟨rfl, (gle rfl)⟩, trivial⟩)) (V.le.keep (ag := false) (xs := [.sc _]) (ys := [.sc _]) rfl rfl ⟨rfl, trivial⟩)) (V.le.keep (ag := false) (xs := [.hd 0]) (ys := [.hd 0]) rfl rfl ⟨⟨rfl, (gle rfl), (gle rfl)⟩, trivial⟩)) (V.le.keep (ag := false) (xs := [.sc _]) (ys := [.sc _]) rfl rfl ⟨(by first | rfl | (show Leaf.sc _ = Leaf.sc _; refine congrArg Leaf.sc ?_; first | rfl | go_num | (first | (rw [leftO_succ hx (hnd x).1, hnx]; done) | (rw [leftO_succ hx (hnd x).1, hnx]; rfl) | (rw [leftO_zero hr0]; done) | (rw [leftO_zero hr0]; rfl); first | done | rfl | go_num | (simp; done) | (simp; omega)) | (simp [cntAll]; done)) | (simp [cntAll]; done) | (simp; omega)), trivial⟩)) (V.le.keep (ag := false) (xs := [.hd 1]) (ys := [.hd 1]) rfl rfl ⟨⟨rfl, (gle rfl), (gle rfl)⟩, trivial⟩)) (V.le.keep (ag := false) (xs := [.sc _]) (ys := [.sc _]) rfl rfl ⟨rfl, trivial⟩)) (V.le.keep (ag := false) (xs := [.sc _]) (ys := [.sc _]) rfl rfl ⟨(by first | rfl | (show Leaf.sc _ = Leaf.sc _; refine congrArg Leaf.sc ?_; first | rfl | go_num | (first | (rw [leftO_succ hx (hnd x).1, hnx]; done) | (rw [leftO_succ hx (hnd x).1, hnx]; rfl) | (rw [leftO_zero hr0]; done) | (rw [leftO_zero hr0]; rfl); first | done | rfl | go_num | (simp; done) | (simp; omega)) | (simp [cntAll]; done)) | (simp [cntAll]; done) | (simp; omega)), trivial⟩)) ⟨⟨rfl, ⟨rfl, rfl, rfl, rfl, trivial⟩⟩, trivial⟩ ⟨.inr ⟨_, _, rfl, rfl, (gle rfl)⟩, ⟨.inr ⟨_, _, rfl, ?ob4_0, (gle rfl)⟩, trivial⟩⟩ (new_ob (new_ob nil_ob)) (fun i j hi hj e => inj_list (l := [0, 1]) (by decide) i j hi hj e))
            case ob4_0 =>
              show some (T.seq _ _) = some (T.seq _ _)
              first | exact congrArg (fun z => some (T.seq _ z)) hg1 | (rw [← hg1]; rfl)
          · skip   -- c2.F
            have hse : s = b.fActive.length := by simp [ordI, ordOf_length] at hc2; omega
            have ho : grantsO b.fActive (BrokerD.rest b) s = BrokerD.grants b := by rw [hse, grantsO_end]; unfold BrokerD.grants; rw [if_pos hok]
            refine SV.exit ?_
            refine SV.te ?_
            refine SV.te ?_
            refine SV.bh ?_
            refine SV.tn ?_
            refine SV.seq' ?_
            refine SV.region ?_
            refine SV.op (OpL.ok (nb := 1) (ok_move (v := V.one (.hd 0)) (.inl rfl) rfl) rfl (gle rfl)) rfl ?_
            refine SV.op (OpL.ok (nb := 1) (ok_move (v := V.one (.hd 0)) (.inr rfl) rfl) rfl (gle rfl)) rfl ?_
            refine SV.nil ?_
            refine SV.tn ?_
            refine SV.ret ?_
            apply SV.done (hf := Try.results16) (ht := rfl) (he := .inl rfl)
            case hr => exact (ResAll.cons (ResOk.tmp (ag := false) (xs := [.hd 0]) rfl) ResAll.nil')
            case h2 => simp [two]
            refine ⟨rfl, ⟨?_, trivial⟩, trivial⟩ <;> first | rfl | (rw [ho]; rfl) | ((show some (T.seq _ _) = some (T.seq _ _); refine congrArg (fun z => some (T.seq _ z)) ?_; rw [ho]; first | done | rfl | (simp [tClient]; done) | (simp [List.map_set, tClient]; done))) | ((show some (T.lit (Value.int .i64 _)) = some (T.lit (Value.int .i64 _)); refine congrArg (fun z => some (T.lit (Value.int .i64 z))) ?_; rw [ho]; first | done | rfl)) | ((show some (T.lit (Value.bool _)) = some (T.lit (Value.bool _)); refine congrArg (fun z => some (T.lit (Value.bool z))) ?_; rw [ho]; first | done | rfl | (simp; done)))
end Go.Proofs.Ytfghhjcfmmhacaa
/- The program's GrantFor: told by trees. -/
namespace Go.Proofs.Ytfghhjcfmmhacaa
open Go Go.RowKit V
set_option linter.unusedVariables false
set_option maxRecDepth 100000 in
set_option maxHeartbeats 2000000 in
theorem vgfor_i (b : BrokerD) (id : Int) (hA : b.fActive.length ≤ 1000000000) (hW : b.fWaiting.length ≤ 1000000000) : VC Try.prog 21 [(true, tBroker b), (false, [.lit (.int .i64 (id))])] true [(false, [.lit (.int .i64 ((BrokerD.grantFor b id).getD 0))]), (false, [.lit (.bool ((BrokerD.grantFor b id).isSome))])] := by
  refine VC.enter Try.func21 rfl Try.ntmps21 (gle rfl) fun E hE => ?_
  refine SV.seq' ?_
  refine SV.region ?_
  refine SV.op (OpMk.ok (ok_box (kk := 0) (ag := true) (xs := [.sc _, .sc _, .ro _, .ro _]) rfl rfl rfl (fun h => by cases h) rfl rfl (gle rfl))) rfl ?_
  refine SV.op (OpL.ok (nb := 1) (ok_move (v := V.one (.sc _)) (.inr rfl) rfl) rfl (gle rfl)) rfl ?_
  refine SV.op (OpL.ok (nb := 1) (ok_move (v := V.one (.sc _)) (.inr rfl) rfl) rfl (gle rfl)) rfl ?_
  refine SV.nil ?_
  refine SV.tn ?_
  refine SV.seq' ?_
  refine SV.seq' ?_
  refine SV.region ?_
  refine SV.op (OpL.ok (nb := 1) (ok_load_bp (b := 0) (i := 0) (ag := true) (m := 4) (ys := [.sc _, .sc _, .ro _, .ro _]) rfl rfl rfl agg_impl_Broker sz_impl_Broker (fun h => by cases h) rfl rfl (gle rfl)) rfl (gle rfl)) rfl ?_
  refine SV.op (OpMk.ok (ok_call (ls := [(false, [.sc _])]) rfl rfl ⟨_, _, Try.func19, rfl, by decide⟩ (vokb_i b (by omega) (by omega)) ⟨⟨[.sc _, .sc _, .ro _, .ro _], rfl, ⟨rfl, rfl, rfl, rfl, trivial⟩⟩, trivial⟩ rfl (gle rfl))) rfl ?_
  refine SV.op (OpL.ok (nb := 1) (ok_s1 (x := .tmp 8) (VScal.one rfl) (fun ρ h1 w => by go_simp; (try go_bits); with_reducible rfl) rfl) rfl (gle rfl)) rfl ?_
  refine SV.nil ?_
  refine SV.tn ?_
  refine SV.cond rfl (fun hc0 => ?_) (fun hc0 => ?_)
  · skip   -- c0.T
    have hok : BrokerD.ok b = false := by simpa using hc0
    have ho : BrokerD.grantFor b id = none := BrokerD.grantFor_no (.inl (by rw [BrokerD.grants_bad hok]; rfl))
    refine SV.seq' ?_
    refine SV.region ?_
    refine SV.op (OpL.ok (nb := 1) (ok_move (v := V.one (.sc _)) (.inr rfl) rfl) rfl (gle rfl)) rfl ?_
    refine SV.op (OpL.ok (nb := 1) (ok_move (v := V.one (.sc _)) (.inr rfl) rfl) rfl (gle rfl)) rfl ?_
    refine SV.nil ?_
    refine SV.tn ?_
    refine SV.ret ?_
    refine SV.tr ?_
    apply SV.done (hf := Try.results21) (ht := rfl) (he := .inl rfl)
    case hr => exact (ResAll.cons (ResOk.tmp (ag := false) (xs := [.sc _]) rfl) (ResAll.cons (ResOk.tmp (ag := false) (xs := [.sc _]) rfl) ResAll.nil'))
    case h2 => simp [two]
    refine ⟨rfl, ⟨?_, trivial⟩, ⟨rfl, ⟨?_, trivial⟩, trivial⟩⟩ <;> first | rfl | (rw [ho]; rfl) | ((show some (T.seq _ _) = some (T.seq _ _); refine congrArg (fun z => some (T.seq _ z)) ?_; rw [ho]; first | done | rfl | (simp [tClient]; done) | (simp [List.map_set, tClient]; done))) | ((show some (T.lit (Value.int .i64 _)) = some (T.lit (Value.int .i64 _)); refine congrArg (fun z => some (T.lit (Value.int .i64 z))) ?_; rw [ho]; first | done | rfl)) | ((show some (T.lit (Value.bool _)) = some (T.lit (Value.bool _)); refine congrArg (fun z => some (T.lit (Value.bool z))) ?_; rw [ho]; first | done | rfl | (simp; done)))
  · skip   -- c0.F
    have hok : BrokerD.ok b = true := by simpa using hc0
    refine SV.skip ?_
    refine SV.tn ?_
    refine SV.seq' ?_
    obtain ⟨ka, hka⟩ : ∃ x, BrokerD.atI b.fActive id = x := ⟨_, rfl⟩
    have hva := vatc_i b.fActive id (by omega)
    rw [hka] at hva
    refine SV.region ?_
    refine SV.op (OpL.ok (nb := 1) (ok_field_bp (b := 0) (o' := 0) (off := 2) rfl rfl fld_impl_Broker_2) rfl (gle rfl)) rfl ?_
    refine SV.op (OpL.ok (nb := 1) (ok_load_bp (b := 0) (i := 2) (ag := false) (m := 1) (ys := [.ro _]) rfl rfl rfl agg_s_impl_Client sz_s_impl_Client (fun _ => rfl) rfl rfl (gle rfl)) rfl (gle rfl)) rfl ?_
    refine SV.op (OpL.ok (nb := 1) (ok_move (v := V.one (.sc _)) (.inl rfl) rfl) rfl (gle rfl)) rfl ?_
    refine SV.op (OpMk.ok (ok_call (ls := [(false, [.sc _])]) rfl rfl ⟨_, _, Try.func58, rfl, by decide⟩ (hva) ⟨⟨[.ro _], rfl, ⟨rfl, trivial⟩⟩, ⟨[.sc _], rfl, ⟨rfl, trivial⟩⟩, trivial⟩ rfl (gle rfl))) rfl ?_
    refine SV.op (OpL.ok (nb := 1) (ok_move (v := V.one (.sc _)) (.inr rfl) rfl) rfl (gle rfl)) rfl ?_
    refine SV.nil ?_
    refine SV.tn ?_
    refine SV.seq' ?_
    refine SV.seq' ?_
    refine SV.region ?_
    refine SV.op (OpL.ok (nb := 1) (ok_move (v := V.one (.sc _)) (.inl rfl) rfl) rfl (gle rfl)) rfl ?_
    refine SV.op (OpL.ok (nb := 1) (ok_s2 (x := .tmp 14) (x' := .const ((Value.int IntKind.i64 0))) (VScal.one rfl) (VScal.one rfl) (fun ρ h1 h2 w => by go_simp; (try go_bits); with_reducible rfl) rfl) rfl (gle rfl)) rfl ?_
    refine SV.nil ?_
    refine SV.tn ?_
    refine SV.cond rfl (fun hc1 => ?_) (fun hc1 => ?_)
    · skip   -- c1.T
      have ho : BrokerD.grantFor b id = none := BrokerD.grantFor_no (.inr (BrokerD.at_neg hka (by simp at hc1; omega)))
      refine SV.seq' ?_
      refine SV.region ?_
      refine SV.op (OpL.ok (nb := 1) (ok_move (v := V.one (.sc _)) (.inr rfl) rfl) rfl (gle rfl)) rfl ?_
      refine SV.op (OpL.ok (nb := 1) (ok_move (v := V.one (.sc _)) (.inr rfl) rfl) rfl (gle rfl)) rfl ?_
      refine SV.nil ?_
      refine SV.tn ?_
      refine SV.ret ?_
      refine SV.tr ?_
      apply SV.done (hf := Try.results21) (ht := rfl) (he := .inl rfl)
      case hr => exact (ResAll.cons (ResOk.tmp (ag := false) (xs := [.sc _]) rfl) (ResAll.cons (ResOk.tmp (ag := false) (xs := [.sc _]) rfl) ResAll.nil'))
      case h2 => simp [two]
      refine ⟨rfl, ⟨?_, trivial⟩, ⟨rfl, ⟨?_, trivial⟩, trivial⟩⟩ <;> first | rfl | (rw [ho]; rfl) | ((show some (T.seq _ _) = some (T.seq _ _); refine congrArg (fun z => some (T.seq _ z)) ?_; rw [ho]; first | done | rfl | (simp [tClient]; done) | (simp [List.map_set, tClient]; done))) | ((show some (T.lit (Value.int .i64 _)) = some (T.lit (Value.int .i64 _)); refine congrArg (fun z => some (T.lit (Value.int .i64 z))) ?_; rw [ho]; first | done | rfl)) | ((show some (T.lit (Value.bool _)) = some (T.lit (Value.bool _)); refine congrArg (fun z => some (T.lit (Value.bool z))) ?_; rw [ho]; first | done | rfl | (simp; done)))
    · skip   -- c1.F
      obtain ⟨k, rfl, hat⟩ := BrokerD.at_pos hka (by simp at hc1; omega)
      obtain ⟨-, -, -, hkl⟩ := BrokerD.of_at hat
      have hgl : (BrokerD.grants b).length ≠ 0 := by unfold BrokerD.grants BrokerD.grantsOf; rw [if_pos hok]; simp; intro e; rw [e] at hkl; simp at hkl
      obtain ⟨hx, ho⟩ := BrokerD.grantFor_yes hgl hat
      refine SV.skip ?_
      refine SV.tn ?_
      refine SV.seq' ?_
      refine SV.region ?_
      refine SV.op (OpL.ok (nb := 1) (ok_load_bp (b := 0) (i := 0) (ag := true) (m := 4) (ys := [.sc _, .sc _, .ro _, .ro _]) rfl rfl rfl agg_impl_Broker sz_impl_Broker (fun h => by cases h) rfl rfl (gle rfl)) rfl (gle rfl)) rfl ?_
      refine SV.op (OpMk.ok (ok_call (ls := [(false, [.hd 0])]) rfl rfl ⟨_, _, Try.func16, rfl, by decide⟩ (vgrants_i b (by omega) (by omega)) ⟨⟨[.sc _, .sc _, .ro _, .ro _], rfl, ⟨rfl, rfl, rfl, rfl, trivial⟩⟩, trivial⟩ rfl (gle rfl))) rfl ?_
      refine SV.op (OpL.ok (nb := 1) (ok_move (v := V.one (.sc _)) (.inl rfl) rfl) rfl (gle rfl)) rfl ?_
      refine SV.op (OpL.ok (nb := 1) (ok_index (n := 1) (lf := .hd 0) rfl elt_int.und sz_int rfl rfl rfl (map_at hx)) rfl (gle rfl)) rfl ?_
      refine SV.op (ok_load_el (p := .ep 0 _ _ _) (ag := false) (m := 1) (ys := [.sc _]) rfl rfl (cells_ep rfl (map_at hx) rfl rfl) agg_int sz_int (fun _ => rfl) (gle rfl) rfl rfl (gle rfl)) rfl ?_
      refine SV.op (OpL.ok (nb := 1) (ok_move (v := V.one (.sc _)) (.inr rfl) rfl) rfl (gle rfl)) rfl ?_
      refine SV.op (OpL.ok (nb := 1) (ok_move (v := V.one (.sc _)) (.inr rfl) rfl) rfl (gle rfl)) rfl ?_
      refine SV.nil ?_
      refine SV.tn ?_
      refine SV.ret ?_
      apply SV.done (hf := Try.results21) (ht := rfl) (he := .inl rfl)
      case hr => exact (ResAll.cons (ResOk.tmp (ag := false) (xs := [.sc _]) rfl) (ResAll.cons (ResOk.tmp (ag := false) (xs := [.sc _]) rfl) ResAll.nil'))
      case h2 => simp [two]
      refine ⟨rfl, ⟨?_, trivial⟩, ⟨rfl, ⟨?_, trivial⟩, trivial⟩⟩ <;> first | rfl | (rw [ho]; rfl) | ((show some (T.seq _ _) = some (T.seq _ _); refine congrArg (fun z => some (T.seq _ z)) ?_; rw [ho]; first | done | rfl | (simp [tClient]; done) | (simp [List.map_set, tClient]; done))) | ((show some (T.lit (Value.int .i64 _)) = some (T.lit (Value.int .i64 _)); refine congrArg (fun z => some (T.lit (Value.int .i64 z))) ?_; rw [ho]; first | done | rfl)) | ((show some (T.lit (Value.bool _)) = some (T.lit (Value.bool _)); refine congrArg (fun z => some (T.lit (Value.bool z))) ?_; rw [ho]; first | done | rfl | (simp; done)))
end Go.Proofs.Ytfghhjcfmmhacaa
/- The law of admission: told by trees. -/
namespace Go.Proofs.Ytfghhjcfmmhacaa
open Go Go.RowKit V
set_option linter.unusedVariables false
theorem vlaw (ad : Option Addr) (len cap : Nat) (zs : List Int) : VCP (fun w => Code ad len cap zs w) Try.prog 4 [(false, [.lit (.slice ad len cap)])] false [(false, [.lit (.bool true)])] := vlaw_adm ad len cap zs vadd_i vrem_i vreq_i vokb_i vgfor_i
end Go.Proofs.Ytfghhjcfmmhacaa
/- States told by trees: arguments, from their reading to their trees; no function of program or reference is walked here. -/
namespace Go.Proofs.Ytfghhjcfmmhacaa
open Go Go.ChangeShapes Go.WideShapes Go.RowKit Go.Deep Go.Joins V
set_option linter.unusedVariables false
def OpensT (A : TypeId) {α : Type} (n : Nat) (tf : α → List T) (ok : α → Prop) : Prop :=
  ∀ (H : Type) (enc : TypeId × Value → H) (w : World) (spare : Nat → Bool) (held : Bool) (fuel : Nat) (cs : List Value) (x : DataW H × List MemPlace), DataW.trod enc Try.prog w 0 spare held fuel A cs = some x → cs.length = n → ∃ y : α, ok y ∧ (tf y).length = n ∧ ∀ (j : Nat) (t : T) (u : Value), (tf y)[j]? = some t → cs[j]? = some u → Inn (fun b => b < w.heap.size) w t u
set_option maxRecDepth 100000 in
theorem OpensT.seq {A e : TypeId} {α : Type} {n : Nat} {tf : α → List T} {ok : α → Prop} (ht : Try.prog.underlying A = some (.slice e)) (hc : Try.prog.cellsOf e = n) (hp : 0 < n) (hz : Sz e n) (hO : OpensT e n tf ok) : OpensT A 1 (fun X : List α => [.seq e (X.map tf)]) (fun X => (∀ x ∈ X, ok x) ∧ X.length ≤ maxLen) := by
  intro H enc w spare held fuel cs x h _
  have emp : ∀ (a : Option Addr) (c : Nat), c ≤ maxLen → (a = none → c = 0) → ∃ y : List α, ((∀ x ∈ y, ok x) ∧ y.length ≤ maxLen) ∧ [T.seq e (y.map tf)].length = 1 ∧ ∀ (j : Nat) (t : T) (u : Value), [T.seq e (y.map tf)][j]? = some t → [Value.slice a 0 c][j]? = some u → Inn (fun b => b < w.heap.size) w t u := fun a c hc0 hn0 =>
    ⟨[], ⟨fun x hx => (by cases hx), Nat.zero_le _⟩, rfl, fun j t u h1 h2 => by
      match j, h1, h2 with
      | 0, h1, h2 =>
        cases h1; cases h2
        exact Inn.seq (es := []) n hp hz (fun e he => by cases he) (Nat.zero_le _) hc0 hn0 0 0 (fun _ => .bool false) (fun _ _ h => absurd rfl h) (fun h => absurd rfl h) (fun k e j t h => by simp at h) fun k e j t h => by simp at h⟩
  rcases open_slice ht h with ⟨rfl, -⟩ | ⟨a, len, cap, m, fu, D, Pl, rfl, -, hl, hm, hmm, -, hi⟩
  · exact emp none 0 (Nat.zero_le _) fun _ => rfl
  · have hlm : len ≤ m := by rw [hmm]; split <;> omega
    rw [hc] at hi
    rcases Nat.eq_zero_or_pos len with h0 | h0
    · subst h0
      exact emp (some a) cap hm fun e => by cases e
    · have hone : ∀ i, i < len → ∃ yc : α × List Value, ok yc.1 ∧ (tf yc.1).length = n ∧ yc.2.length = n ∧ (∀ j u, yc.2[j]? = some u → w.cell? (a.add (i * n + j)) = some u) ∧ ∀ (j : Nat) (t : T) (u : Value), (tf yc.1)[j]? = some t → yc.2[j]? = some u → Inn (fun b => b < w.heap.size) w t u := by
        intro i hil
        obtain ⟨cs', hcs, htr⟩ := hi i (by omega)
        obtain ⟨_, hcl, hat⟩ := World.cells?_some hcs
        obtain ⟨y, h1, h2, h3⟩ := hO H enc w spare held fu cs' _ htr hcl
        refine ⟨(y, cs'), h1, h2, hcl, fun j u hj => ?_, h3⟩
        have hjl : j < n := by rw [← hcl]; exact get_lt hj
        have := hat j hjl
        rw [add_add] at this
        rw [this]
        exact hj
      obtain ⟨y0, -⟩ := hone 0 h0
      obtain ⟨f, hf⟩ := @choose_lt (α × List Value) ⟨y0⟩ len _ hone
      obtain ⟨b, o, spot⟩ := a
      have hl0 : 0 < (f 0).2.length := by rw [(hf 0 h0).2.2.1]; exact hp
      have hcell0 := (hf 0 h0).2.2.2.1 0 (f 0).2[0] (by simp [hl0])
      have hspot : spot = none := by simpa [Addr.add] using World.cell?_spot hcell0
      subst hspot
      have hb : b < w.heap.size := by
        have := World.block_lt_of_cell? w _ hcell0
        simpa [Addr.add] using this
      have hget : ∀ k e', (((List.range len).map fun t => (f t).1).map tf)[k]? = some e' → k < len ∧ e' = tf (f k).1 := fun k e' hk => by
        have hkl : k < len := by have := get_lt hk; simpa using this
        refine ⟨hkl, ?_⟩
        simp [hkl] at hk
        exact hk.symm
      refine ⟨(List.range len).map fun t => (f t).1, ⟨fun x hx => ?_, by simp; omega⟩, rfl, fun j t u h1 h2 => ?_⟩
      · obtain ⟨t, ht, rfl⟩ := List.mem_map.1 hx
        exact (hf t (List.mem_range.1 ht)).1
      · match j, h1, h2 with
        | 0, h1, h2 =>
          cases h1; cases h2
          have hlen : (((List.range len).map fun t => (f t).1).map tf).length = len := by simp
          have key : ∀ k e' j t', (((List.range len).map fun t => (f t).1).map tf)[k]? = some e' → e'[j]? = some t' → ∃ u, (f k).2[j]? = some u ∧ w.cell? ⟨b, o + (k * n + j), none⟩ = some u ∧ Inn (fun b => b < w.heap.size) w t' u := fun k e' j t' hk hj => by
            obtain ⟨hkl, rfl⟩ := hget k e' hk
            obtain ⟨-, h3, h4, h5, h6⟩ := hf k hkl
            have hjl : j < (f k).2.length := by rw [h4, ← h3]; exact get_lt hj
            have h7 := h5 j _ (List.getElem?_eq_getElem hjl)
            rw [Addr.add_lit] at h7
            exact ⟨_, List.getElem?_eq_getElem hjl, h7, h6 j t' _ hj (List.getElem?_eq_getElem hjl)⟩
          have hsl : Value.slice (some ⟨b, o, none⟩) len cap = Value.slice (some ⟨b, o, none⟩) (((List.range len).map fun t => (f t).1).map tf).length cap := by rw [hlen]
          rw [hsl]
          exact Inn.seq n hp hz (fun e' he => by
            obtain ⟨k, hk, rfl⟩ := List.getElem_of_mem he
            obtain ⟨hkl, e1⟩ := hget k _ (List.getElem?_eq_getElem hk)
            rw [e1]; exact (hf k hkl).2.1) (by rw [hlen]; exact hl) hm (fun e => by cases e) b o (fun i => (w.cell? ⟨b, o + i, none⟩).getD (.bool false)) (fun ad h _ => (Option.some.inj h).symm) (fun _ => ⟨hb, hb⟩) (fun k e' j t' hk hj => by
              obtain ⟨u, -, h3, -⟩ := key k e' j t' hk hj
              rw [h3]; rfl) fun k e' j t' hk hj => by
              obtain ⟨u, -, h3, h4⟩ := key k e' j t' hk hj
              rw [h3]; exact h4
theorem OpensT.int : OpensT 3 1 (fun x : Int => [.lit (.int .i64 x)]) I64 := by
  intro H enc w spare held fuel cs x h hl
  match cs, hl with
  | [c0], _ =>
    obtain ⟨k0, e0, -, w0⟩ := DataW.trod_int Try.underlying3 h
    simp at e0
    subst e0
    refine ⟨k0, bounds_i64 w0, rfl, fun j t u h1 h2 => ?_⟩
    match j, h1, h2 with
    | 0, h1, h2 => cases h1; cases h2; exact .lit rfl
theorem OpensT.bool : OpensT 4 1 (fun x : Bool => [.lit (.bool x)]) (fun _ => True) := by
  intro H enc w spare held fuel cs x h hl
  match cs, hl with
  | [c0], _ =>
    obtain ⟨k0, e0, -⟩ := DataW.trod_bool Try.underlying4 h
    simp at e0
    subst e0
    refine ⟨k0, trivial, rfl, fun j t u h1 h2 => ?_⟩
    match j, h1, h2 with
    | 0, h1, h2 => cases h1; cases h2; exact .lit rfl
def okRow (r : R) : Prop := r.wf
def ArgT (w : World) (ag : Bool) (ts : List T) (v : Value) : Prop := ∃ us : List Value, v = cval ag us ∧ us.length = ts.length ∧ ∀ (j : Nat) (t : T) (u : Value), ts[j]? = some t → us[j]? = some u → Inn (fun b => b < w.heap.size) w t u
theorem ArgT.lit {w : World} {v : Value} (h : v.oneCell' = true) : ArgT w false [.lit v] v := ⟨[v], rfl, rfl, fun j t u h1 h2 => by
  match j, h1, h2 with
  | 0, h1, h2 => cases h1; cases h2; exact .lit h⟩
set_option maxRecDepth 100000 in
theorem OpensT.val {A : TypeId} {fs : Array Field} {α : Type} {n : Nat} {tf : α → List T} {ok : α → Prop} (hO : OpensT A n tf ok) (hs : Try.prog.underlying A = some (.struct fs)) (hc : Try.prog.cellsOf A = n)
    {H : Type} {enc : TypeId × Value → H} {w : World} {spare : Nat → Bool} {held : Bool} {q : Reach} {b0 : Nat} {v : Value} {d : DataW H} {p : List MemPlace} (hv : Value.okWide Try.prog w q b0 A v) (h : DataW.Trod enc Try.prog w 0 spare held A v d p) :
    ∃ y : α, ok y ∧ ArgT w true (tf y) v := by
  obtain ⟨cs, rfl, hsz⟩ := okWide_struct hs hv
  obtain ⟨fuel, hf⟩ := h
  have hl : (Value.cells (.agg cs)).toList.length = n := by simpa [Value.cells] using hsz.trans hc
  obtain ⟨y, h1, h2, h3⟩ := hO H enc w spare held fuel _ _ hf hl
  exact ⟨y, h1, cs.toList, by simp [cval], hl.trans h2.symm, h3⟩
theorem OpensT.arg {A : TypeId} {α : Type} {tf : α → List T} {ok : α → Prop} (hO : OpensT A 1 tf ok) {H : Type} {enc : TypeId × Value → H} {w : World} {spare : Nat → Bool} {held : Bool} {a : Option Addr} {len cap : Nat} {d : DataW H} {p : List MemPlace}
    (h : DataW.Trod enc Try.prog w 0 spare held A (.slice a len cap) d p) : ∃ y : α, ok y ∧ ArgT w false (tf y) (.slice a len cap) := by
  obtain ⟨fuel, hf⟩ := h
  obtain ⟨y, h1, h2, h3⟩ := hO H enc w spare held fuel _ _ hf (by simp [Value.cells])
  exact ⟨y, h1, [.slice a len cap], rfl, h2.symm, h3⟩
theorem argsIn_nil {w : World} : ArgsIn (Env.of w) w [] [] := ⟨rfl, fun c ag ts v h => by simp at h⟩
theorem argsIn_cons {w : World} {ag : Bool} {ts : List T} {v : Value} {ins : List (Bool × List T)} {vs : List Value} (h : ArgT w ag ts v) (k : ArgsIn (Env.of w) w ins vs) : ArgsIn (Env.of w) w ((ag, ts) :: ins) (v :: vs) := by
  refine ⟨by simp [k.1], fun c ag' ts' v' h1 h2 => ?_⟩
  cases c with
  | zero =>
    cases h1; cases h2
    obtain ⟨us, h3, h4, h5⟩ := h
    exact ⟨us, h3, h4, fun j t u h6 h7 => (h5 j t u h6 h7).frame (Nat.le_refl _) fun b hb _ => ⟨Env.of_old.2 hb, rfl⟩⟩
  | succ c => exact k.2 c ag' ts' v' (by simpa using h1) (by simpa using h2)
theorem VC.law {f : FuncId} {ins : List (Bool × List T)} (h : VC Try.prog f ins false [(false, [.lit (.bool true)])]) {w : World} {vs : List Value} (hv : ArgsIn (Env.of w) w ins vs) : Calls Try.prog f vs.toArray w fun e w' => e = .returned (.bool true) ∧ Below w.heap.size w w' :=
  (h w vs hv).mono fun e w' hg => by
    obtain ⟨h1, h2⟩ := hg.lit
    exact ⟨h1, h2.os, h2.tape, h2.output, h2.size, fun k hk => h2.block k (Env.of_old.2 hk)⟩
end Go.Proofs.Ytfghhjcfmmhacaa
