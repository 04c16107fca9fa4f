/- The program's SortRows, the library's slices.Clone and slices.SortFunc (by the library's contract) behind it. -/
import Derived.Test.YtedfjpfppipfhaaMine
import Derived.Test.YtedfjpfppipfhaaCmpG
import Derived.Test.YtedfjpfppipfhaaBag
import Derived.Test.YtedfjpfppipfhaaShelfSort
import Derived.Shelf.SlSortCmp.NoneTotal
import Derived.Lib.SliceRun
import Derived.Lib.Walk
namespace Go.Proofs.Ytedfjpfppipfhaa
open Go.RowKit Go.Sort

theorem appendR_low {w w' w0 : World} {B : Nat} {v : Value} (hb : Below B w0 w) (hB : B ≤ w.heap.size) (hv : ∀ k, v.ownBlock = some k → B ≤ k) (hg : w.grownBy w' v.ownBlock) : Below B w0 w' := hb.grown hg hB hv
theorem Mine.own {w : World} {B : Nat} {v : Value} {L : List R} (h : Mine w B v L) : ∀ k, v.ownBlock = some k → B ≤ k := fun k hk => (World.ownsRow.lt h k hk).1
set_option maxRecDepth 100000 in
/-- slices.Clone at rows. -/
theorem clone_some (ad : Addr) (len cap : Nat) (L : List R) (w : World) (hl : L.length = len) (hc : ∀ j u, (cells3 L)[j]? = some u → w.cell? (ad.add j) = some u) (hlen : len ≤ 100000000000) :
    Calls Try.prog 39 #[.slice (some ad) len cap] w fun e w' => ∃ v', e = .returned v' ∧ Mine w' w.heap.size v' L ∧ Below w.heap.size w w' := by
  have q22 : ∀ (w : World) (a : Option Addr) (n c n' c' : Nat), (binOp .eql 24 (.slice a n c) (.slice none n' c')).run Try.prog w = .ok (.bool a.isNone) w := fun w a n c n' c' => Lib.run_eql_slice_nil w _ _ a n c n' c' Try.underlying24
  have HL := Lib.hid hl
  have HC := Lib.hid hc
  clear hl hc
  have hz : Mine (w.alloc (.cells #[] 28)) w.heap.size (.slice (some ⟨w.heap.size, 0, none⟩) 0 0) [] := World.ownsRow_made w #[] 0 (Nat.le_refl _) (Nat.zero_le _) (by simp)
  have HZ := Lib.hid hz
  clear hz
  go_enter Try.func39, Try.ntmps39
  go_wp2_with (at_builtin; refine wpList_appendR (L := L) _ _ ad len cap rfl rfl rfl rfl HZ.out HL.out ?qc2 ?qc6 ?qc4 ?_)
  case qc2 =>
    intro j u hj
    exact Lib.cell?_alloc_some _ (HC.out j u hj)
  case qc6 => simp
  case qc4 => simp; omega
  intro v' w1 hown hgrow hnil
  have HO := Lib.hid hown
  have HB := Lib.hid (((Below.refl w.heap.size w).alloc (Nat.le_refl _) _).grown hgrow (by simp) (by intro k hk; simp [Value.ownBlock] at hk; omega))
  clear hown hgrow hnil
  go_wp2_with fail
  go_ret
  exact ⟨v', rfl, HO.out, HB.out⟩
theorem clone_none (n c : Nat) (w : World) : Calls Try.prog 39 #[.slice none n c] w fun e w' => e = .returned (.slice none 0 0) ∧ w' = w := by
  have q22 : ∀ (w : World) (a : Option Addr) (n c n' c' : Nat), (binOp .eql 24 (.slice a n c) (.slice none n' c')).run Try.prog w = .ok (.bool a.isNone) w := fun w a n c n' c' => Lib.run_eql_slice_nil w _ _ a n c n' c' Try.underlying24
  go_enter Try.func39, Try.ntmps39
  go_wp2
  go_ret
  exact ⟨rfl, rfl⟩
theorem clone (a : Option Addr) (len cap : Nat) (L : List R) (w : World) (h : IsRows w a len L) (hlen : len ≤ 100000000000) :
    Calls Try.prog 39 #[.slice a len cap] w fun e w' => ∃ v', e = .returned v' ∧ Mine w' w.heap.size v' L ∧ Below w.heap.size w w' := by
  obtain ⟨ad, ha, hc⟩ := h.cell
  rcases a with _ | ad'
  · have h0 : len = 0 := by
      rcases Nat.eq_zero_or_pos len with h0 | h0
      · exact h0
      · exact absurd (ha h0) (by simp)
    have hL : L = [] := List.eq_nil_of_length_eq_zero (by rw [h.1, h0])
    refine (clone_none len cap w).mono ?_
    rintro e w' ⟨rfl, rfl⟩
    exact ⟨_, rfl, hL ▸ mine_none _ _, Below.refl _ _⟩
  · refine clone_some ad' len cap L w h.1 (fun j u hj => ?_) hlen
    have hjl : j < L.length * 3 := by have := (List.getElem?_eq_some_iff.1 hj).1; rwa [cells3_length] at this
    have : ad' = ad := by injection ha (by have := h.1; omega)
    rw [this]
    exact hc j u hj
/-- A row's three cells. -/
def encR (r : R) : List Value := [.int .i64 r.key, .int .i64 r.value, .int .i64 r.width]
theorem flat_cells (d : Array R) : flatK encR 3 d = (cells3 d.toList).toArray := by
  refine ext_get! (by rw [size_flatK, List.size_toArray]; exact (cells3_length d.toList).symm) fun t ht => ?_
  rw [size_flatK] at ht
  rw [get_flatK _ _ _ _ ht]
  have hq : t / 3 < d.toList.length := by rw [Array.length_toList]; omega
  obtain ⟨e0, e1, e2⟩ := cells3_get d.toList (t / 3) hq
  have hd : d.toList.getD (t / 3) R.zero = d[t / 3]! := by
    rw [Array.length_toList] at hq
    simp [List.getD, hq]
  rw [hd] at e0 e1 e2
  have h3 : t % 3 = 0 ∨ t % 3 = 1 ∨ t % 3 = 2 := by omega
  have hg : ∀ (u : Value), (cells3 d.toList)[t]? = some u → (cells3 d.toList).toArray[t]! = u := by
    intro u hu
    simp [hu]
  rcases h3 with h | h | h
  · rw [h, hg _ ((congrArg (fun i => (cells3 d.toList)[i]?) (show t = t / 3 * 3 by omega)).trans e0)]; rfl
  · rw [h, hg _ ((congrArg (fun i => (cells3 d.toList)[i]?) (show t = t / 3 * 3 + 1 by omega)).trans e1)]; rfl
  · rw [h, hg _ ((congrArg (fun i => (cells3 d.toList)[i]?) (show t = t / 3 * 3 + 2 by omega)).trans e2)]; rfl
theorem swo_cmp : SWO (ltOf R.cmp) where
  irrefl x := by unfold ltOf; simp; rw [(R.cmp_zero x x).2 rfl]; exact Int.le_refl _
  trans x y z h1 h2 := by
    unfold ltOf at *
    simp only [decide_eq_true_eq] at *
    have a1 := R.cmp_anti x y
    have a2 := R.cmp_anti y z
    have a3 := R.cmp_anti x z
    rcases (show R.cmp x z < 0 ∨ 0 ≤ R.cmp x z by omega) with h | h
    · exact h
    · have := R.cmp_trans (show R.cmp y z ≤ 0 by omega) (show R.cmp z x ≤ 0 by omega)
      omega
  ntrans x y z h1 h2 := by
    unfold ltOf at *
    simp only [decide_eq_false_iff_not, Int.not_lt] at *
    have a1 := R.cmp_anti x y
    have a2 := R.cmp_anti y z
    have a3 := R.cmp_anti x z
    have := R.cmp_trans (show R.cmp z y ≤ 0 by omega) (show R.cmp y x ≤ 0 by omega)
    omega
theorem sorted_list {d d' : Array R} (hp : PermIn 0 d.size d d') (hs : SortedIn (ltOf R.cmp) 0 d.size d') : d'.toList = R.sort d.toList := by
  obtain ⟨hsz, -, hperm⟩ := hp
  have e1 : (d'.extract 0 d.size).toList = d'.toList := by rw [← hsz]; simp
  have e2 : (d.extract 0 d.size).toList = d.toList := by simp
  rw [e1, e2] at hperm
  refine R.sort_unique hperm (List.pairwise_iff_getElem.2 fun i j hi hj hij => R.leb_iff.2 ?_)
  rw [Array.length_toList] at hi hj
  have := hs i j (Nat.zero_le _) hij (by omega)
  unfold ltOf at this
  rw [getElem!_pos d' j hj, getElem!_pos d' i hi] at this
  simp only [decide_eq_false_iff_not, Int.not_lt] at this
  have a := R.cmp_anti d'[i] d'[j]
  simp only [Array.getElem_toList]
  omega
theorem heap_sort {g : Nat} {w : World} (n : Nat) (d : Array R) (os : Array Obj) {k : Nat} (hk : k < w.heap.size) : (sortWorldK encR 3 w g 0 n d os).heap[k]? = if g = k then (w.heap[k]?).map (onCells (putCells id 0 (flatK encR 3 d))) else w.heap[k]? := by
  show ((w.heap.modify g (onCells (putCells id 0 (flatK encR 3 d)))) ++ os)[k]? = _
  rw [Array.getElem?_append_left (by simpa using hk), Array.getElem?_modify]
theorem below_sort {B g : Nat} {w : World} (n : Nat) (d : Array R) (os : Array Obj) (hB : B ≤ g) (hg : g < w.heap.size) : Below B w (sortWorldK encR 3 w g 0 n d os) := by
  refine ⟨rfl, rfl, rfl, ?_, fun k hk => ?_⟩
  · simp [sortWorldK, grow, putRowK, putRow, mapBlock]
  · rw [heap_sort n d os (by omega), if_neg (by omega)]
theorem put_take (F : Array Value) (cur : Array Value) (h : F.size ≤ cur.size) : (putCells id 0 F cur).toList.take F.size = F.toList := by
  apply List.ext_getElem?
  intro k
  rw [List.getElem?_take]
  by_cases hk : k < F.size
  · rw [if_pos hk]
    simp only [putCells, Array.getElem?_toList, Array.getElem?_mapIdx, Nat.zero_le, true_and, Nat.zero_add, hk, if_true, Nat.sub_zero, id]
    rw [Array.getElem?_eq_getElem (by omega), Array.getElem?_eq_getElem hk, getElem!_pos F k hk]
    rfl
  · rw [if_neg hk]
    simp [Array.getElem?_toList, Array.getElem?_eq_none (Nat.le_of_not_lt hk)]
theorem isAggRow : ∀ w, (isAgg 28).run Try.prog w = .ok true w := Try.isAgg28
theorem sizeRow : ∀ w, (Go.sizeOf 28).run Try.prog w = .ok 3 w := Try.sizeOf28
/-- slices.SortFunc by CompareRows, at rows of the call's own. -/
theorem sortfunc (B len cap : Nat) (a : Option Addr) (L : List R) (w : World) (h : Mine w B (.slice a len cap) L) (hlen : 0 < len) (hmax : len ≤ 100000000000) :
    Calls Try.prog 40 #[.slice a len cap, .func (.func 15) #[] #[]] w fun e w' => e = .returned (.tuple #[]) ∧ Mine w' B (.slice a len cap) (R.sort L) ∧ Below B w w' := by
  have hl := h.len
  obtain ⟨h1, ⟨h0, h2⟩ | ⟨g, cap', cur, hv, hB, hh, hcap, hcm, hsz, htake⟩⟩ := h
  · omega
  · injection hv with e1 e2 e3
    subst e1 e3
    have hg := lt_of_block hh
    have eg : ∀ args w, (callFunc 15 args).run Try.prog w = .ok (.enter 15 args) w := enters_of Try.func15 (by kernel_rfl) rfl
    have hH : HoldsK encR 3 w g 0 L.toArray := by
      unfold HoldsK
      rw [flat_cells]
      intro j hj
      rw [List.size_toArray] at hj
      simp only at hj ⊢
      refine ⟨?_, by simp [World.frozen?, hh]⟩
      have hu : (cells3 L)[j]? = some ((cells3 L)[j]) := List.getElem?_eq_getElem hj
      obtain ⟨u, hue⟩ : ∃ u, u = (cells3 L)[j] := ⟨_, rfl⟩
      have hg2 : (cells3 L).toArray[j]! = u := by rw [hue]; simp [hj]
      rw [hg2]
      rw [← hue, ← htake, List.getElem?_take, if_pos (by rw [cells3_length] at hj; exact hj)] at hu
      simp only [World.cell?, hh, Nat.zero_add, id]
      simpa using hu
    have hcon := AnyQ.slices_SortFunc Try.sortRows 3 isAggRow sizeRow encR (fun _ => rfl) (fun x v hv => by simp [encR] at hv; rcases hv with rfl | rfl | rfl <;> rfl) R.cmp swo_cmp 15 #[] g 0 cap L.toArray w eg
      (fun m os dk _ x y => icmpG x y _) hH hg (by rw [List.size_toArray]; omega)
    change Calls Try.prog 40 _ _ _ at hcon
    rw [List.size_toArray, hl] at hcon
    refine hcon.mono ?_
    rintro e w' ⟨rfl, d', n, os, hp, hs, rfl⟩
    have hd : d'.toList = R.sort L := by
      have := sorted_list (d := L.toArray) (d' := d') (by rw [List.size_toArray, hl]; exact hp) (by rw [List.size_toArray, hl]; exact hs)
      simpa using this
    have hsl : (R.sort L).length = len := by rw [R.sort_length, hl]
    refine ⟨rfl, ⟨cells3_length _, .inr ⟨g, cap, putCells id 0 (flatK encR 3 d') cur, by rw [hsl], hB, ?_, by omega, hcm, ?_, ?_⟩⟩, below_sort n d' os hB hg⟩
    · rw [heap_sort n d' os hg, if_pos rfl, hh]; rfl
    · simp [putCells, hsz]
    · have hF : (flatK encR 3 d').size = (R.sort L).length * 3 := by rw [flat_cells, hd, List.size_toArray, cells3_length]
      rw [← hF, put_take _ _ (by rw [hF, hsz]; omega), flat_cells, hd]
set_option maxRecDepth 100000 in
theorem isort (a : Option Addr) (len cap : Nat) (L : List R) (w : World) (h : IsRows w a len L) (hlen : len ≤ 100000000000) :
    Calls Try.prog 13 #[.slice a len cap] w fun e w' => ∃ v', e = .returned v' ∧ Mine w' w.heap.size v' (R.sort L) ∧ Below w.heap.size w w' := by
  have HL := Lib.hid h.1
  have HC := Lib.hid (clone a len cap L w h hlen)
  clear h
  go_enter Try.func13, Try.ntmps13
  go_wp2_with fail
  refine HC.out.mono ?_
  rintro e w1 ⟨v1, rfl, hm, b1⟩
  obtain ⟨a1, c1, rfl⟩ := hm.slice
  rw [HL.out] at hm ⊢
  have M1 := Lib.hid hm
  have B1 := Lib.hid b1
  clear hm b1
  rcases Nat.eq_zero_or_pos len with h0 | h0
  · subst h0
    have hL : L = [] := List.eq_nil_of_length_eq_zero HL.out
    have hn := fun W => AnyF.slices_SortFunc_none Try.sortRows a1 c1 (.func (.func 15) #[] #[]) W
    change ∀ W, Calls Try.prog 40 _ W _ at hn
    have HN := Lib.hid hn
    have hs : R.sort L = L := by rw [hL, R.sort_nil]
    have HS := Lib.hid hs
    clear hn hL hs
    go_wp2_with fail
    refine (HN.out _).mono ?_
    rintro e w2 ⟨rfl, rfl⟩
    go_wp2_with fail
    go_ret
    exact ⟨_, rfl, by rw [HS.out]; exact M1.out, B1.out⟩
  · go_wp2_with fail
    refine (sortfunc _ len c1 a1 L _ M1.out h0 hlen).mono ?_
    rintro e w2 ⟨rfl, hm2, b2⟩
    have M2 := Lib.hid hm2
    have B2 := Lib.hid (B1.out.trans b2)
    clear hm2 b2
    go_wp2_with fail
    go_ret
    exact ⟨_, rfl, M2.out, B2.out⟩
end Go.Proofs.Ytedfjpfppipfhaa
