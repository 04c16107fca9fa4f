/- l2Row, l2Any: the row that is drawn, as a function of the cursor's state. -/
import Derived.Test.YtcfemlnicpeagaaCode
import Derived.Test.YtcfemlnicpeagaaBlock
namespace Go.Proofs.Ytcfemlnicpeagaa
open Go.RowKit

/-- What a function that draws a row answers. -/
def Rowed (F : Int × Int → R × (Int × Int)) (a : Option Addr) (len cap : Nat) (zs : List Int) (σ : Int × Int) (c : Nat) (w : World) (e : Ending) (w' : World) : Prop :=
  ∃ (r : R) (τ : Int × Int), F σ = (r, τ) ∧ e = .returned (.agg #[.int .i64 r.key, .int .i64 r.value, .int .i64 r.width]) ∧ Cur a len cap zs τ w' c ∧ Only c w w'
theorem ints_alloc (w : World) (L : List Int) : Ints (w.alloc (.cells (L.map (Value.int .i64)).toArray 3)) w.heap.size L := by
  intro t ht
  rw [World.cell?_alloc_mark]
  rw [List.getElem?_toArray, List.getElem?_map, List.getElem?_eq_getElem ht, List.getD_eq_getElem?_getD, List.getElem?_eq_getElem ht]; rfl
theorem Var3.only {w w' : World} {g c : Nat} {r : R} (h : Var3 w g r) (ho : Only c w w') (hne : g ≠ c) : Var3 w' g r := (ho.block g h.lt (fun e => hne (by injection e))).trans h
def widths : List Int := [0, 0, 1, 2, 3]
/-- l2Row as a function of the cursor's state. -/
def rowS (zs : List Int) (len : Nat) (keys : Int) (σ : Int × Int) : R × (Int × Int) :=
  let x := belowS zs len keys σ
  let y := belowS zs len 100 x.2
  let z := pickS zs len widths y.2
  (⟨x.1, y.1, z.1⟩, z.2)
theorem pickS_mem (zs : List Int) (len : Nat) (L : List Int) (σ : Int × Int) (hL : 1 ≤ L.length) : (pickS zs len L σ).1 ∈ L := by
  unfold pickS
  simp only []
  have h := belowS_fst zs len (L.length : Nat) σ (by omega)
  rw [List.getD_eq_getElem?_getD, List.getElem?_eq_getElem (by omega)]
  exact List.getElem_mem _
theorem rowS_range (zs : List Int) (len : Nat) (keys : Int) (σ : Int × Int) (hk : 1 ≤ keys) :
    0 ≤ (rowS zs len keys σ).1.key ∧ (rowS zs len keys σ).1.key < keys ∧ 0 ≤ (rowS zs len keys σ).1.value ∧ (rowS zs len keys σ).1.value < 100 ∧ 0 ≤ (rowS zs len keys σ).1.width ∧ (rowS zs len keys σ).1.width ≤ 3 := by
  have h1 := belowS_fst zs len keys σ hk
  have h2 := belowS_fst zs len 100 (belowS zs len keys σ).2 (by omega)
  have h3 := pickS_mem zs len widths (belowS zs len 100 (belowS zs len keys σ).2).2 (by decide)
  unfold widths at h3
  unfold rowS widths
  simp only [List.mem_cons, List.not_mem_nil, or_false] at h3 ⊢
  omega
theorem rowS_wf (zs : List Int) (len : Nat) (keys : Int) (σ : Int × Int) (hk : 1 ≤ keys) (hk2 : keys ≤ 1000000000) : (rowS zs len keys σ).1.wf := by
  have := rowS_range zs len keys σ hk
  unfold R.wf; omega
set_option maxRecDepth 100000 in
theorem row_any (a : Option Addr) (len cap : Nat) (zs : List Int) (σ : Int × Int) (c : Nat) (w : World) (hc : Cur a len cap zs σ w c) (halt : ∀ x, a = some x → 0 < cap → x.block < w.heap.size) (keys : Int) (h1 : 1 ≤ keys) (h2 : keys ≤ 1000000000) :
    Calls Try.prog 43 #[.pointer (some ⟨c, 0, none⟩), .int .i64 keys] w (Rowed (rowS zs len keys) a len cap zs σ c w) := by
  have hb0 : Below w.heap.size w (w.alloc (.cells #[.int .i64 0, .int .i64 0, .int .i64 0] 34)) := (Below.refl _ _).alloc (Nat.le_refl _) _
  have hcl := hc.lt
  have H0 := Lib.hid (hc.below hb0 hcl halt)
  have O0 := Lib.hid (Only.of_below (c := c) hb0)
  have V0 : Hid (Var3 (w.alloc (.cells #[.int .i64 0, .int .i64 0, .int .i64 0] 34)) w.heap.size R.zero) := Var3.made w R.zero
  have HA := Lib.hid halt
  clear hb0 hc halt
  have hne : w.heap.size ≠ c := by omega
  go_enter Try.func43, Try.ntmps43
  go_wp2_with fail
  refine (below_any a len cap zs _ c _ H0.out keys h1 h2).mono ?_
  rintro e w1 ⟨x, τ1, hf1, rfl, hc1, ho1⟩
  have F1 := Lib.hid hf1
  have H1 := Lib.hid hc1
  have O1 := Lib.hid (O0.out.trans ho1)
  have V1 := Lib.hid (V0.out.only ho1 hne)
  clear hf1 hc1 ho1 H0 O0 V0
  go_wp2_with fail
  refine (below_any a len cap zs _ c _ H1.out 100 (by omega) (by omega)).mono ?_
  rintro e w2 ⟨y, τ2, hf2, rfl, hc2, ho2⟩
  have F2 := Lib.hid hf2
  have H2 := Lib.hid hc2
  have O2 := Lib.hid (O1.out.trans ho2)
  have V2 := Lib.hid (V1.out.only ho2 hne)
  clear hf2 hc2 ho2 H1 O1 V1
  have H3 := Lib.hid (H2.out.alloc (.cells (widths.map (Value.int .i64)).toArray 3))
  have O3 := Lib.hid (O2.out.alloc (.cells (widths.map (Value.int .i64)).toArray 3))
  have V3 := Lib.hid (V2.out.alloc (.cells (widths.map (Value.int .i64)).toArray 3))
  have I3 := Lib.hid (ints_alloc w2 widths)
  have hne2 : ¬ w2.heap.size = c := by have := H2.out.lt; omega
  go_wp2_with fail
  refine (pick_any a len cap zs _ c _ H3.out _ 5 5 widths I3.out hne2 rfl (by omega) (by omega)).mono ?_
  rintro e w3 ⟨z, τ3, hf3, rfl, hc3, ho3⟩
  have F3 := Lib.hid hf3
  have H4 := Lib.hid hc3
  have O4 := Lib.hid (O3.out.trans ho3)
  have V4 := Lib.hid (V3.out.only ho3 hne)
  clear hf3 hc3 ho3 H2 O2 V2 H3 O3 V3 I3
  obtain ⟨d0, d1, d2⟩ := V4.out.cells
  obtain ⟨f0, f1, f2⟩ := V4.out.free
  go_wp2_with fail
  refine bodyPost_ret (v := .agg #[.int .i64 x, .int .i64 y, .int .i64 z]) (by simp [results, Try.results43, go_sem, *]) rfl ⟨⟨x, y, z⟩, τ3, ?_, rfl, ?_, ?_⟩
  · unfold rowS
    rw [F1.out]
    simp only []
    rw [F2.out]
    simp only []
    rw [F3.out]
  · exact H4.out.below (below_set3 (Below.refl _ _) (Nat.le_refl _) _ _ _ _ _ _) hcl HA.out
  · exact O4.out.step (below_set3 (Below.refl _ _) (Nat.le_refl _) _ _ _ _ _ _)

/-- l2Any as a function of the cursor's state. -/
def anyS (zs : List Int) (len : Nat) (σ : Int × Int) : R × (Int × Int) :=
  let r := rowS zs len 10 σ
  let v := belowS zs len 8 r.2
  if v.1 = 0 then (⟨(pickS zs len [-1, 10] v.2).1, r.1.value, r.1.width⟩, (pickS zs len [-1, 10] v.2).2)
  else if v.1 = 1 then (⟨r.1.key, (pickS zs len [-1, 100, 99] v.2).1, r.1.width⟩, (pickS zs len [-1, 100, 99] v.2).2)
  else if v.1 = 2 then (⟨r.1.key, r.1.value, (pickS zs len [-1, 4] v.2).1⟩, (pickS zs len [-1, 4] v.2).2)
  else (r.1, v.2)
theorem anyS_wf (zs : List Int) (len : Nat) (σ : Int × Int) : (anyS zs len σ).1.wf := by
  have h := rowS_wf zs len 10 σ (by omega) (by omega)
  unfold R.wf at h ⊢
  unfold anyS
  simp only []
  split
  · have := pickS_mem zs len [-1, 10] (belowS zs len 8 (rowS zs len 10 σ).2).2 (by decide)
    simp only [List.mem_cons, List.not_mem_nil, or_false] at this ⊢
    omega
  · split
    · have := pickS_mem zs len [-1, 100, 99] (belowS zs len 8 (rowS zs len 10 σ).2).2 (by decide)
      simp only [List.mem_cons, List.not_mem_nil, or_false] at this ⊢
      omega
    · split
      · have := pickS_mem zs len [-1, 4] (belowS zs len 8 (rowS zs len 10 σ).2).2 (by decide)
        simp only [List.mem_cons, List.not_mem_nil, or_false] at this ⊢
        omega
      · exact h
set_option maxRecDepth 100000 in
theorem any_any (a : Option Addr) (len cap : Nat) (zs : List Int) (σ : Int × Int) (c : Nat) (w : World) (hc : Cur a len cap zs σ w c) (halt : ∀ x, a = some x → 0 < cap → x.block < w.heap.size) :
    Calls Try.prog 39 #[.pointer (some ⟨c, 0, none⟩)] w (Rowed (anyS zs len) a len cap zs σ c w) := by
  have hb0 : Below w.heap.size w (w.alloc (.cells #[.int .i64 0, .int .i64 0, .int .i64 0] 34)) := (Below.refl _ _).alloc (Nat.le_refl _) _
  have hcl := hc.lt
  have H0 := Lib.hid (hc.below hb0 hcl halt)
  have O0 := Lib.hid (Only.of_below (c := c) hb0)
  have V0 : Hid (Var3 (w.alloc (.cells #[.int .i64 0, .int .i64 0, .int .i64 0] 34)) w.heap.size R.zero) := Var3.made w R.zero
  have HA0 := Lib.hid fun x hx hp => Nat.lt_of_lt_of_le (halt x hx hp) hb0.size
  have HA := Lib.hid halt
  clear hb0 hc halt
  have hne : w.heap.size ≠ c := by omega
  go_enter Try.func39, Try.ntmps39
  go_wp2_with fail
  refine (row_any a len cap zs _ c _ H0.out HA0.out 10 (by omega) (by omega)).mono ?_
  rintro e w1 ⟨r, τ1, hf1, rfl, hc1, ho1⟩
  have F1 := Lib.hid hf1
  have O1 := Lib.hid (O0.out.trans ho1)
  have V1 := Lib.hid (V0.out.only ho1 hne)
  have hbx : Below w1.heap.size w1 (w1.alloc (.cells #[.int .i64 r.key, .int .i64 r.value, .int .i64 r.width] 34)) := (Below.refl _ _).alloc (Nat.le_refl _) _
  have H1 := Lib.hid (hc1.alloc (.cells #[.int .i64 r.key, .int .i64 r.value, .int .i64 r.width] 34))
  have O2 := Lib.hid (O1.out.alloc (.cells #[.int .i64 r.key, .int .i64 r.value, .int .i64 r.width] 34))
  have V2 := Lib.hid (V1.out.keep hbx)
  have X2 := Lib.hid (Var3.made w1 r)
  have hlt1 : w.heap.size < w1.heap.size := V1.out.lt
  have hne1 : w1.heap.size ≠ c := by omega
  have hne3 : w.heap.size ≠ w1.heap.size := by omega
  clear hf1 hc1 ho1 H0 O0 V0 HA0 V1 O1 hbx
  go_wp2_with fail
  refine (below_any a len cap zs _ c _ H1.out 8 (by omega) (by omega)).mono ?_
  rintro e w2 ⟨v, τ2, hf2, rfl, hc2, ho2⟩
  obtain ⟨hv0, hv1⟩ := belowS_range (by omega) hf2
  have F2 := Lib.hid hf2
  have H2 := Lib.hid hc2
  have O3 := Lib.hid (O2.out.trans ho2)
  have V3 := Lib.hid (V2.out.only ho2 hne)
  have X3 := Lib.hid (X2.out.only ho2 hne1)
  clear hf2 hc2 ho2 H1 O2 V2 X2
  have hlt2 := H2.out.lt
  have hne4 : ¬ w2.heap.size = c := by omega
  by_cases v0 : v = 0
  · subst v0
    have H3 := Lib.hid (H2.out.alloc (.cells (([-1, 10] : List Int).map (Value.int .i64)).toArray 3))
    have O4 := Lib.hid (O3.out.alloc (.cells (([-1, 10] : List Int).map (Value.int .i64)).toArray 3))
    have V4 := Lib.hid (V3.out.alloc (.cells (([-1, 10] : List Int).map (Value.int .i64)).toArray 3))
    have X4 := Lib.hid (X3.out.alloc (.cells (([-1, 10] : List Int).map (Value.int .i64)).toArray 3))
    have I4 := Lib.hid (ints_alloc w2 [-1, 10])
    go_wp2_with fail
    refine (pick_any a len cap zs _ c _ H3.out _ 2 2 [-1, 10] I4.out hne4 rfl (by omega) (by omega)).mono ?_
    rintro e w3 ⟨z, τ3, hf3, rfl, hc3, ho3⟩
    have F3 := Lib.hid hf3
    have H5 := Lib.hid hc3
    have O5 := Lib.hid (O4.out.trans ho3)
    have V5 := Lib.hid (V4.out.only ho3 hne)
    have X5 := Lib.hid (X4.out.only ho3 hne1)
    have HR : Hid (anyS zs len σ = ((⟨z, r.value, r.width⟩ : R), τ3)) := by
      show _ = _
      unfold anyS
      rw [F1.out]
      simp only []
      rw [F2.out]
      simp only []
      first | rw [if_pos rfl] | rw [if_pos trivial]
      rw [F3.out]
    have BX : Hid (Below w.heap.size w3 ((((w3.setCell ⟨w1.heap.size, 0, none⟩ (.int .i64 z)).setCell ⟨w.heap.size, 0, none⟩ (.int .i64 (R.key (⟨z, r.value, r.width⟩ : R)))).setCell ⟨w.heap.size, 1, none⟩ (.int .i64 (R.value (⟨z, r.value, r.width⟩ : R)))).setCell ⟨w.heap.size, 2, none⟩ (.int .i64 (R.width (⟨z, r.value, r.width⟩ : R))))) :=
      below_set3 ((Below.refl _ _).setCell (p := ⟨w1.heap.size, 0, none⟩) (Nat.le_of_lt hlt1) _) (Nat.le_refl _) _ _ _ _ _ _
    clear hf3 hc3 ho3 H3 O4 V4 X4 I4
    obtain ⟨d0, d1, d2⟩ := V5.out.cells
    obtain ⟨f0, f1, f2⟩ := V5.out.free
    obtain ⟨c0, c1, c2⟩ := X5.out.cells
    obtain ⟨g0, g1, g2⟩ := X5.out.free
    go_wp2_with fail
    refine bodyPost_ret (v := .agg #[.int .i64 (R.key (⟨z, r.value, r.width⟩ : R)), .int .i64 (R.value (⟨z, r.value, r.width⟩ : R)), .int .i64 (R.width (⟨z, r.value, r.width⟩ : R))]) (by simp [results, Try.results39, go_sem, *]) rfl ⟨(⟨z, r.value, r.width⟩ : R), τ3, HR.out, rfl, H5.out.below BX.out hcl HA.out, O5.out.step BX.out⟩
  · have e0 : (v == 0) = false := beq_eq_false_iff_ne.2 v0
    by_cases v1 : v = 1
    · subst v1
      have H3 := Lib.hid (H2.out.alloc (.cells (([-1, 100, 99] : List Int).map (Value.int .i64)).toArray 3))
      have O4 := Lib.hid (O3.out.alloc (.cells (([-1, 100, 99] : List Int).map (Value.int .i64)).toArray 3))
      have V4 := Lib.hid (V3.out.alloc (.cells (([-1, 100, 99] : List Int).map (Value.int .i64)).toArray 3))
      have X4 := Lib.hid (X3.out.alloc (.cells (([-1, 100, 99] : List Int).map (Value.int .i64)).toArray 3))
      have I4 := Lib.hid (ints_alloc w2 [-1, 100, 99])
      go_wp2_with fail
      refine (pick_any a len cap zs _ c _ H3.out _ 3 3 [-1, 100, 99] I4.out hne4 rfl (by omega) (by omega)).mono ?_
      rintro e w3 ⟨z, τ3, hf3, rfl, hc3, ho3⟩
      have F3 := Lib.hid hf3
      have H5 := Lib.hid hc3
      have O5 := Lib.hid (O4.out.trans ho3)
      have V5 := Lib.hid (V4.out.only ho3 hne)
      have X5 := Lib.hid (X4.out.only ho3 hne1)
      have HR : Hid (anyS zs len σ = ((⟨r.key, z, r.width⟩ : R), τ3)) := by
        show _ = _
        unfold anyS
        rw [F1.out]
        simp only []
        rw [F2.out]
        simp only []
        rw [if_neg (by decide)]; first | rw [if_pos rfl] | rw [if_pos trivial]
        rw [F3.out]
      have BX : Hid (Below w.heap.size w3 ((((w3.setCell ⟨w1.heap.size, 1, none⟩ (.int .i64 z)).setCell ⟨w.heap.size, 0, none⟩ (.int .i64 (R.key (⟨r.key, z, r.width⟩ : R)))).setCell ⟨w.heap.size, 1, none⟩ (.int .i64 (R.value (⟨r.key, z, r.width⟩ : R)))).setCell ⟨w.heap.size, 2, none⟩ (.int .i64 (R.width (⟨r.key, z, r.width⟩ : R))))) :=
        below_set3 ((Below.refl _ _).setCell (p := ⟨w1.heap.size, 1, none⟩) (Nat.le_of_lt hlt1) _) (Nat.le_refl _) _ _ _ _ _ _
      clear hf3 hc3 ho3 H3 O4 V4 X4 I4
      obtain ⟨d0, d1, d2⟩ := V5.out.cells
      obtain ⟨f0, f1, f2⟩ := V5.out.free
      obtain ⟨c0, c1, c2⟩ := X5.out.cells
      obtain ⟨g0, g1, g2⟩ := X5.out.free
      go_wp2_with fail
      refine bodyPost_ret (v := .agg #[.int .i64 (R.key (⟨r.key, z, r.width⟩ : R)), .int .i64 (R.value (⟨r.key, z, r.width⟩ : R)), .int .i64 (R.width (⟨r.key, z, r.width⟩ : R))]) (by simp [results, Try.results39, go_sem, *]) rfl ⟨(⟨r.key, z, r.width⟩ : R), τ3, HR.out, rfl, H5.out.below BX.out hcl HA.out, O5.out.step BX.out⟩
    · have e1 : (v == 1) = false := beq_eq_false_iff_ne.2 v1
      by_cases v2 : v = 2
      · subst v2
        have H3 := Lib.hid (H2.out.alloc (.cells (([-1, 4] : List Int).map (Value.int .i64)).toArray 3))
        have O4 := Lib.hid (O3.out.alloc (.cells (([-1, 4] : List Int).map (Value.int .i64)).toArray 3))
        have V4 := Lib.hid (V3.out.alloc (.cells (([-1, 4] : List Int).map (Value.int .i64)).toArray 3))
        have X4 := Lib.hid (X3.out.alloc (.cells (([-1, 4] : List Int).map (Value.int .i64)).toArray 3))
        have I4 := Lib.hid (ints_alloc w2 [-1, 4])
        go_wp2_with fail
        refine (pick_any a len cap zs _ c _ H3.out _ 2 2 [-1, 4] I4.out hne4 rfl (by omega) (by omega)).mono ?_
        rintro e w3 ⟨z, τ3, hf3, rfl, hc3, ho3⟩
        have F3 := Lib.hid hf3
        have H5 := Lib.hid hc3
        have O5 := Lib.hid (O4.out.trans ho3)
        have V5 := Lib.hid (V4.out.only ho3 hne)
        have X5 := Lib.hid (X4.out.only ho3 hne1)
        have HR : Hid (anyS zs len σ = ((⟨r.key, r.value, z⟩ : R), τ3)) := by
          show _ = _
          unfold anyS
          rw [F1.out]
          simp only []
          rw [F2.out]
          simp only []
          rw [if_neg (by decide), if_neg (by decide)]; first | rw [if_pos rfl] | rw [if_pos trivial]
          rw [F3.out]
        have BX : Hid (Below w.heap.size w3 ((((w3.setCell ⟨w1.heap.size, 2, none⟩ (.int .i64 z)).setCell ⟨w.heap.size, 0, none⟩ (.int .i64 (R.key (⟨r.key, r.value, z⟩ : R)))).setCell ⟨w.heap.size, 1, none⟩ (.int .i64 (R.value (⟨r.key, r.value, z⟩ : R)))).setCell ⟨w.heap.size, 2, none⟩ (.int .i64 (R.width (⟨r.key, r.value, z⟩ : R))))) :=
          below_set3 ((Below.refl _ _).setCell (p := ⟨w1.heap.size, 2, none⟩) (Nat.le_of_lt hlt1) _) (Nat.le_refl _) _ _ _ _ _ _
        clear hf3 hc3 ho3 H3 O4 V4 X4 I4
        obtain ⟨d0, d1, d2⟩ := V5.out.cells
        obtain ⟨f0, f1, f2⟩ := V5.out.free
        obtain ⟨c0, c1, c2⟩ := X5.out.cells
        obtain ⟨g0, g1, g2⟩ := X5.out.free
        go_wp2_with fail
        refine bodyPost_ret (v := .agg #[.int .i64 (R.key (⟨r.key, r.value, z⟩ : R)), .int .i64 (R.value (⟨r.key, r.value, z⟩ : R)), .int .i64 (R.width (⟨r.key, r.value, z⟩ : R))]) (by simp [results, Try.results39, go_sem, *]) rfl ⟨(⟨r.key, r.value, z⟩ : R), τ3, HR.out, rfl, H5.out.below BX.out hcl HA.out, O5.out.step BX.out⟩
      · have e2 : (v == 2) = false := beq_eq_false_iff_ne.2 v2
        have HR : Hid (anyS zs len σ = (r, τ2)) := by
          show _ = _
          unfold anyS
          rw [F1.out]
          simp only []
          rw [F2.out]
          simp only []
          rw [if_neg v0, if_neg v1, if_neg v2]
        have BX : Hid (Below w.heap.size w2 (((w2.setCell ⟨w.heap.size, 0, none⟩ (.int .i64 r.key)).setCell ⟨w.heap.size, 1, none⟩ (.int .i64 r.value)).setCell ⟨w.heap.size, 2, none⟩ (.int .i64 r.width))) :=
          below_set3 (Below.refl _ _) (Nat.le_refl _) _ _ _ _ _ _
        clear v0 v1 v2
        obtain ⟨d0, d1, d2⟩ := V3.out.cells
        obtain ⟨f0, f1, f2⟩ := V3.out.free
        obtain ⟨c0, c1, c2⟩ := X3.out.cells
        go_wp2_with fail
        refine bodyPost_ret (v := .agg #[.int .i64 r.key, .int .i64 r.value, .int .i64 r.width]) (by simp [results, Try.results39, go_sem, *]) rfl ⟨r, τ2, HR.out, rfl, H2.out.below BX.out hcl HA.out, O3.out.step BX.out⟩
end Go.Proofs.Ytcfemlnicpeagaa
