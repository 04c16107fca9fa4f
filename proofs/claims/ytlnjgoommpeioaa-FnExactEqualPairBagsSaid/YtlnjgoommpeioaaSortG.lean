/- slices.SortFunc at structs that are told by trees, out of the library's contract. -/
import Derived.Test.YtlnjgoommpeioaaVQ
import Derived.Test.YtlnjgoommpeioaaOrd
import Derived.Shelf.SlSortCmp.NoneTotal
import Derived.Shelf.SlSortCmp.WholeK
namespace Go.Proofs.Ytlnjgoommpeioaa.V
open Go Go.RowKit Go.Sort
set_option linter.unusedVariables false
theorem swo_of {α : Type} {cmp : α → α → Int} (H : IsOrd cmp) : SWO (ltOf cmp) where
  irrefl x := by unfold ltOf; simp; rw [(H.zero x x).2 rfl]; exact Int.le_refl _
  trans x y z h1 h2 := by
    unfold ltOf at *
    simp only [decide_eq_true_eq] at *
    have a1 := H.anti x y
    have a2 := H.anti y z
    have a3 := H.anti x z
    rcases (show cmp x z < 0 ∨ 0 ≤ cmp x z by omega) with h | h
    · exact h
    · have := H.trans x y z (by omega) (by omega)
      have e : cmp x z = 0 := by omega
      have e2 := (H.zero x z).1 e
      subst e2
      omega
  ntrans x y z h1 h2 := by
    unfold ltOf at *
    simp only [decide_eq_false_iff_not, Int.not_lt] at *
    have a1 := H.anti x y
    have a2 := H.anti y z
    have a3 := H.anti x z
    have := H.trans z y x (by omega) (by omega)
    omega
theorem heap_sortK {α : Type} [Inhabited α] {enc : α → List Value} {k : Nat} {g : Nat} {w : World} (n : Nat) (d : Array α) (os : Array Obj) {b : Nat} (hb : b < w.heap.size) : (sortWorldK enc k w g 0 n d os).heap[b]? = if g = b then (w.heap[b]?).map (onCells (putCells id 0 (flatK enc k d))) else w.heap[b]? := by
  show ((w.heap.modify g (onCells (putCells id 0 (flatK enc k d)))) ++ os)[b]? = _
  rw [Array.getElem?_append_left (by simpa using hb), Array.getElem?_modify]
theorem put_takeK (F : Array Value) (cur : Array Value) (h : F.size ≤ cur.size) : (putCells id 0 F cur).toList.take F.size = F.toList := by
  apply List.ext_getElem?
  intro k
  rw [List.getElem?_take]
  by_cases hk : k < F.size
  · rw [if_pos hk]
    simp only [putCells, Array.getElem?_toList, Array.getElem?_mapIdx, Nat.zero_le, true_and, Nat.zero_add, hk, if_true, Nat.sub_zero, id]
    rw [Array.getElem?_eq_getElem (by omega), Array.getElem?_eq_getElem hk, getElem!_pos F k hk]
    rfl
  · rw [if_neg hk]
    simp [Array.getElem?_eq_none (Nat.le_of_not_lt hk)]
theorem sorted_listK {α : Type} [Inhabited α] {cmp : α → α → Int} (H : IsOrd cmp) {d d' : Array α} (hp : PermIn 0 d.size d d') (hs : SortedIn (ltOf cmp) 0 d.size d') : d'.toList = Ord.sort cmp d.toList := by
  obtain ⟨hsz, -, hperm⟩ := hp
  have e1 : (d'.extract 0 d.size).toList = d'.toList := by rw [← hsz]; simp
  have e2 : (d.extract 0 d.size).toList = d.toList := by simp
  rw [e1, e2] at hperm
  refine Ord.sort_unique H hperm (List.pairwise_iff_getElem.2 fun i j hi hj hij => Ord.leb_iff.2 ?_)
  rw [Array.length_toList] at hi hj
  have := hs i j (Nat.zero_le _) hij (by omega)
  unfold ltOf at this
  rw [getElem!_pos d' j hj, getElem!_pos d' i hi] at this
  simp only [decide_eq_false_iff_not, Int.not_lt] at this
  have a := H.anti d'[i] d'[j]
  simp only [Array.getElem_toList]
  omega
theorem mapk_get {α : Type} {enc : α → List Value} {k : Nat} (hk : ∀ x, (enc x).length = k) (X : List α) (q : Nat) (hq : q < X.length * k) : ∃ (h1 : q / k < X.length) (u : Value), (enc X[q / k])[q % k]? = some u ∧ (X.flatMap enc)[q]? = some u := by
  have hkp : 0 < k := Nat.pos_of_ne_zero fun e => by subst e; simp at hq
  have h1 : q / k < X.length := (Nat.div_lt_iff_lt_mul hkp).2 hq
  have h2 : q % k < k := Nat.mod_lt _ hkp
  obtain ⟨u, hu⟩ : ∃ u, (enc X[q / k])[q % k]? = some u := by
    have h2' : q % k < (enc X[q / k]).length := by rw [hk (X[q / k])]; exact h2
    exact ⟨(enc X[q / k])[q % k], List.getElem?_eq_getElem h2'⟩
  refine ⟨h1, u, hu, ?_⟩
  have h3 := flat_ix (fs := X.map fun x => (enc x).map T.lit) (n := k) (fun e he => by obtain ⟨x, -, rfl⟩ := List.mem_map.1 he; rw [List.length_map, hk]) (q / k) (q % k) ((enc X[q / k]).map T.lit) (T.lit u) (by rw [List.getElem?_map, List.getElem?_eq_getElem h1]; rfl) (by rw [List.getElem?_map, hu]; rfl)
  have e1 : q / k * k + q % k = q := by rw [Nat.mul_comm]; exact Nat.div_add_mod q k
  rw [e1] at h3
  have e2 : (X.map fun x => (enc x).map T.lit).flatMap (fun e => e.map litv) = X.flatMap enc := by
    rw [List.flatMap_map]
    congr 1
    funext x
    simp [Function.comp_def, litv]
  rw [e2] at h3
  exact h3
theorem flatMap_len {α : Type} {enc : α → List Value} {k : Nat} (hk : ∀ x, (enc x).length = k) : ∀ X : List α, (X.flatMap enc).length = X.length * k
  | [] => by simp
  | x :: X => by rw [List.flatMap_cons, List.length_append, hk, flatMap_len hk X, List.length_cons, Nat.add_mul, Nat.one_mul, Nat.add_comm]
theorem flatK_list {α : Type} [Inhabited α] {enc : α → List Value} {k : Nat} (hk : ∀ x, (enc x).length = k) (d : Array α) : (flatK enc k d).toList = d.toList.flatMap enc := by
  apply List.ext_getElem?
  intro q
  rcases Nat.lt_or_ge q (d.size * k) with hq | hq
  · obtain ⟨h1, u, h2, h3⟩ := mapk_get hk d.toList q (by simpa using hq)
    rw [h3]
    have h4 := get_flatK enc k d q hq
    rw [getElem!_pos _ q (by rw [size_flatK]; exact hq)] at h4
    rw [Array.getElem?_toList, Array.getElem?_eq_getElem (by rw [size_flatK]; exact hq), h4]
    have h5 : q / k < d.size := by simpa using h1
    have h6 : d.toList[q / k] = d[q / k] := by simp
    rw [h6] at h2
    rw [getElem!_pos d (q / k) h5, List.getElem!_eq_getElem?_getD, h2]
    rfl
  · rw [List.getElem?_eq_none (by simp; omega), List.getElem?_eq_none (by rw [flatMap_len hk]; simpa using hq)]
variable {P : Program}
theorem vsort_gen {α : Type} [Inhabited α] {enc : α → List Value} {k : Nat} {f : α → List T} (hf : ∀ x, f x = (enc x).map T.lit) (hk : ∀ x, (enc x).length = k) (h1 : ∀ x, ∀ v ∈ enc x, v.oneCell' = true) {cmp : α → α → Int} (H : IsOrd cmp) {fid : FuncId} {ty : TypeId} (hz : Sz ty k) (hp : 0 < k) {cb : Value}
    (hnone : ∀ (p : Option Addr) (cap : Nat) (w : World), Calls P fid #[.slice p 0 cap, cb] w fun e w' => e = .returned (.tuple #[]) ∧ w' = w)
    (hcon : ∀ (g cap : Nat) (d : Array α) (w : World), HoldsK enc k w g 0 d → g < w.heap.size → d.size < 4611686018427387904 → Calls P fid #[.slice (some ⟨g, 0, none⟩) d.size cap, cb] w fun e w' => e = .returned (.tuple #[]) ∧ ∃ d' n os, PermIn 0 d.size d d' ∧ SortedIn (ltOf cmp) 0 d.size d' ∧ w' = sortWorldK enc k w g 0 n d' os)
    (X : List α) (hX : X.length ≤ 350000000000) : VU P fid [(false, [.ln 0]), (false, [.rd (.lit cb)])] [.seq ty (X.map f)] [.seq ty ((Ord.sort cmp X).map f)] := fun w lv F hF vs hown hdis hargs => by
  have hvs : vs = [lv 0, cb] := by
    obtain ⟨hl, ha⟩ := hargs
    match vs, hl with
    | [v, u], _ =>
      obtain ⟨us, e1, e2, e3⟩ := ha 0 false [.ln 0] v rfl rfl
      obtain ⟨us', f1, f2, f3⟩ := ha 1 false [.rd (.lit cb)] u rfl rfl
      match us, e2 with
      | [x], _ =>
        match us', f2 with
        | [y], _ =>
          have g1 := (e3 0 (.ln 0) x rfl rfl).2
          have g2 : Inn _ _ (.lit cb) y := f3 0 (.rd (.lit cb)) y rfl rfl
          have g3 := inn_lit g2
          rw [e1, f1, g3]
          show [x, cb] = _
          rw [g1]; rfl
  obtain ⟨ho, -⟩ := hown 0 _ rfl
  subst hvs
  cases ho with
  | seq n hp' hz' hn xs hrow Gs hr hone hFb hG hne hd =>
    have hnk : n = k := hz'.eq hz
    subst hnk
    have hxl : xs.length = X.length * n := by have := hrow.1; rwa [List.length_map] at this
    have hxs : xs = X.flatMap enc := by
      apply List.ext_getElem?
      intro q
      rcases Nat.lt_or_ge q (X.length * n) with hq | hq
      · obtain ⟨k1, v0, k2, k3⟩ := mapk_get hk X q hq
        rw [k3]
        have e1 : q / n * n + q % n = q := by rw [Nat.mul_comm]; exact Nat.div_add_mod q n
        have hu := hr (q / n) (f X[q / n]) (q % n) (T.lit v0) xs[q] (by rw [List.getElem?_map, List.getElem?_eq_getElem k1]; rfl) (by rw [hf, List.getElem?_map, k2]; rfl) (by rw [e1, List.getElem?_eq_getElem (by omega)])
        have hl : ∀ {B : Nat} {t u : Value} {G : Nat → Prop}, Own w B (.lit t) u G → u = t := fun h => by cases h; rfl
        rw [List.getElem?_eq_getElem (by omega), hl hu]
      · rw [List.getElem?_eq_none (by omega), List.getElem?_eq_none (by rw [flatMap_len hk]; omega)]
    obtain ⟨a, c, hv, hc, hm, h0, hg⟩ := own_slice hrow
    rw [List.length_map] at hv hc hg
    rcases Nat.eq_zero_or_pos X.length with hX0 | hX0
    · have hXe : X = [] := List.eq_nil_of_length_eq_zero hX0
      rw [hX0] at hv
      rw [hv]
      refine (hnone a c w).mono fun e w' ⟨he, hw⟩ => ?_
      subst hw
      subst hXe
      refine ⟨⟨_, he, Same.refl _ _⟩, F, fun i t hi => ?_, fun i j b hi hj hij => absurd (show i = j by simp at hi hj; omega) hij, fun i b hi hb => ⟨.inr ⟨i, hi, hb⟩, hF i b hi hb⟩⟩
      rw [Ord.sort_nil] at hi
      exact (hown i t hi).1
    · obtain ⟨g, rfl, hB, hlt, hcell, hfr⟩ := hg hX0
      rw [hv]
      have hFg : F 0 g := hFb g (by rw [hv]; rfl)
      have hH : HoldsK enc n w g 0 X.toArray := by
        intro j hj
        rw [size_flatK] at hj
        have hj' : j < X.length * n := by simpa using hj
        refine ⟨?_, hfr _⟩
        rw [Nat.zero_add]
        refine hcell j _ ?_
        rw [hxs]
        have h5 := flatK_list hk X.toArray
        have h6 : (flatK enc n X.toArray).toList[j]? = some ((flatK enc n X.toArray)[j]!) := by
          rw [Array.getElem?_toList, getElem!_pos _ j (by rw [size_flatK]; exact hj), Array.getElem?_eq_getElem (by rw [size_flatK]; exact hj)]
        rw [h5] at h6
        simpa using h6
      have hcall := hcon g c X.toArray w hH hlt (by simp; omega)
      have hxsz : X.toArray.size = X.length := List.size_toArray
      rw [hxsz] at hcall
      refine hcall.mono fun e w' ⟨he, d', m, os, hpm, hst, hw⟩ => ?_
      subst hw
      have hd' : d'.toList = Ord.sort cmp X := sorted_listK H (d := X.toArray) (by rw [hxsz]; exact hpm) (by rw [hxsz]; exact hst)
      have hsl : (Ord.sort cmp X).length = X.length := Ord.sort_length X
      have hsize : w.heap.size ≤ (sortWorldK enc n w g 0 m d' os).heap.size := by simp [sortWorldK, grow, putRowK, putRow, mapBlock]
      refine ⟨⟨_, he, ⟨rfl, rfl, rfl, hsize, fun b hb => ?_⟩⟩, F, fun i t hi => ?_, fun i j b hi hj hij => absurd (show i = j by simp at hi hj; omega) hij, fun i b hi hb => ⟨.inr ⟨i, hi, hb⟩, Nat.lt_of_lt_of_le (hF i b hi hb) hsize⟩⟩
      · have hgb : ¬ g = b := fun e => by
          subst e
          exact hb.2 ⟨0, by simp, hFg⟩
        rw [heap_sortK m d' os (show b < w.heap.size from hb.1), if_neg hgb]
        rfl
      · have hi0 : i = 0 := by have := get_lt hi; simpa using this
        subst hi0
        cases hi
        show Own _ 0 _ (lv 0) _
        rw [hv]
        obtain ⟨q1, ⟨q2, -⟩ | ⟨g', cap, cur, q3, q4, q5, q6, q7, q8, q9⟩⟩ := hrow
        · rw [hv] at q2; cases q2
        · rw [hv] at q3
          injection q3 with q3 q3a q3b
          injection q3 with q3
          injection q3 with q3
          subst q3 q3b
          have hFs : (flatK enc n d').size = X.length * n := by rw [size_flatK, ← Array.length_toList, hd', hsl]
          rw [List.length_map] at q6 q9
          have hcur : X.length * n ≤ cur.size := by rw [q8]; exact Nat.mul_le_mul_right _ q6
          refine .seq n hp' hz' (fun e he => by obtain ⟨x, -, rfl⟩ := List.mem_map.1 he; rw [hf, List.length_map, hk]) ((Ord.sort cmp X).flatMap enc) ⟨by rw [flatMap_len hk, List.length_map], .inr ⟨g, c, putCells id 0 (flatK enc n d') cur, by rw [List.length_map, hsl], q4, ?_, by rw [List.length_map, hsl]; exact q6, q7, ?_, ?_⟩⟩ (fun _ _ => False) (fun k' e j t u e1 e2 e3 => ?_) (fun u hu => ?_) (fun b hb => ?_) (fun q b hb => hb.elim) (fun q b hb => hb.elim) fun q q' b hb => hb.elim
          · rw [heap_sortK m d' os hlt, if_pos rfl, q5]; rfl
          · simp [putCells, q8]
          · rw [List.length_map, hsl, ← hFs, put_takeK _ _ (by rw [hFs]; exact hcur), flatK_list hk, hd']
          · rw [List.getElem?_map] at e1
            obtain ⟨x, e4, rfl⟩ := Option.map_eq_some_iff.1 e1
            rw [hf, List.getElem?_map] at e2
            obtain ⟨v, e5, rfl⟩ := Option.map_eq_some_iff.1 e2
            have hjl := get_lt e5
            rw [hk] at hjl
            obtain ⟨k1, u0, k2, k3⟩ := mapk_get hk (Ord.sort cmp X) (k' * n + j) (at_lt (get_lt e4) hjl)
            rw [k3] at e3
            have d1 : (k' * n + j) / n = k' := by rw [Nat.add_comm, Nat.add_mul_div_right _ _ hp', Nat.div_eq_of_lt hjl, Nat.zero_add]
            have d2 : (k' * n + j) % n = j := by rw [Nat.add_comm, Nat.add_mul_mod_self_right, Nat.mod_eq_of_lt hjl]
            have hu : u = v := by
              have e7 : (Ord.sort cmp X)[(k' * n + j) / n] = x := by
                have e8 : (Ord.sort cmp X)[(k' * n + j) / n]? = some x := by rw [d1]; exact e4
                rw [List.getElem?_eq_getElem k1] at e8
                exact Option.some.inj e8
              rw [e7, d2, e5] at k2
              rw [← Option.some.inj e3, ← Option.some.inj k2]
            rw [hu]
            exact .lit (h1 x v (get_mem e5))
          · obtain ⟨x, -, hx⟩ := List.mem_flatMap.1 hu
            exact h1 x u hx
          · exact hFb b (by rw [hv]; exact hb)
end Go.Proofs.Ytlnjgoommpeioaa.V
