/- Texts joined: RowDraw RowsDraw OneRows Draw7 VDr VCu VKt VTake Vault Freeze Fits. -/
import Derived.Test.YtjdjceohlcimaaaGreatDoorPartDiskOperationsc
/- l2Row, l2Any: the row that is drawn, as a function of the cursor's state. -/
namespace Go.Proofs.YtjdjceohlcimaaaGreatDoor
open Go.RowKit
def Rowed (F : Int × Int → R × (Int × Int)) (a : Option Addr) (len cap : Nat) (zs : List Int) (σ : Int × Int) (c : Nat) (w : World) (e : Ending) (w' : World) : Prop :=
  ∃ (r : R) (τ : Int × Int), F σ = (r, τ) ∧ e = .returned (.agg #[.int .i64 r.key, .int .i64 r.value, .int .i64 r.width]) ∧ Cur a len cap zs τ w' c ∧ Only c w w'
theorem ints_alloc (w : World) (L : List Int) : Ints (w.alloc (.cells (L.map (Value.int .i64)).toArray 3)) w.heap.size L := by
  intro t ht
  rw [World.cell?_alloc_mark]
  rw [List.getElem?_toArray, List.getElem?_map, List.getElem?_eq_getElem ht, List.getD_eq_getElem?_getD, List.getElem?_eq_getElem ht]; rfl
theorem Var3.only {w w' : World} {g c : Nat} {r : R} (h : Var3 w g r) (ho : Only c w w') (hne : g ≠ c) : Var3 w' g r := (ho.block g h.lt (fun e => hne (by injection e))).trans h
def widths : List Int := [0, 0, 1, 2, 3]
def rowS (zs : List Int) (len : Nat) (keys : Int) (σ : Int × Int) : R × (Int × Int) :=
  let x := belowS zs len keys σ
  let y := belowS zs len 100 x.2
  let z := pickS zs len widths y.2
  (⟨x.1, y.1, z.1⟩, z.2)
theorem pickS_mem (zs : List Int) (len : Nat) (L : List Int) (σ : Int × Int) (hL : 1 ≤ L.length) : (pickS zs len L σ).1 ∈ L := by
  unfold pickS
  simp only []
  have h := belowS_fst zs len (L.length : Nat) σ (by omega)
  rw [List.getD_eq_getElem?_getD, List.getElem?_eq_getElem (by omega)]
  exact List.getElem_mem _
theorem rowS_range (zs : List Int) (len : Nat) (keys : Int) (σ : Int × Int) (hk : 1 ≤ keys) :
    0 ≤ (rowS zs len keys σ).1.key ∧ (rowS zs len keys σ).1.key < keys ∧ 0 ≤ (rowS zs len keys σ).1.value ∧ (rowS zs len keys σ).1.value < 100 ∧ 0 ≤ (rowS zs len keys σ).1.width ∧ (rowS zs len keys σ).1.width ≤ 3 := by
  have h1 := belowS_fst zs len keys σ hk
  have h2 := belowS_fst zs len 100 (belowS zs len keys σ).2 (by omega)
  have h3 := pickS_mem zs len widths (belowS zs len 100 (belowS zs len keys σ).2).2 (by decide)
  unfold widths at h3
  unfold rowS widths
  simp only [List.mem_cons, List.not_mem_nil, or_false] at h3 ⊢
  omega
theorem rowS_wf (zs : List Int) (len : Nat) (keys : Int) (σ : Int × Int) (hk : 1 ≤ keys) (hk2 : keys ≤ 1000000000) : (rowS zs len keys σ).1.wf := by
  have := rowS_range zs len keys σ hk
  unfold R.wf; omega
set_option maxRecDepth 100000 in
theorem row_any (a : Option Addr) (len cap : Nat) (zs : List Int) (σ : Int × Int) (c : Nat) (w : World) (hc : Cur a len cap zs σ w c) (halt : ∀ x, a = some x → 0 < cap → x.block < w.heap.size) (keys : Int) (h1 : 1 ≤ keys) (h2 : keys ≤ 1000000000) :
    Calls Tryz.prog 72 #[.pointer (some ⟨c, 0, none⟩), .int .i64 keys] w (Rowed (rowS zs len keys) a len cap zs σ c w) := by
  have hb0 : Below w.heap.size w (w.alloc (.cells #[.int .i64 0, .int .i64 0, .int .i64 0] 72)) := (Below.refl _ _).alloc (Nat.le_refl _) _
  have hcl := hc.lt
  have H0 := Lib.hid (hc.below hb0 hcl halt)
  have O0 := Lib.hid (Only.of_below (c := c) hb0)
  have V0 : Hid (Var3 (w.alloc (.cells #[.int .i64 0, .int .i64 0, .int .i64 0] 72)) w.heap.size R.zero) := Var3.made w R.zero
  have HA := Lib.hid halt
  clear hb0 hc halt
  have hne : w.heap.size ≠ c := by omega
  go_enter Tryz.func72, Tryz.ntmps72
  go_wp2_with fail
  refine (below_any a len cap zs _ c _ H0.out keys h1 h2).mono ?_
  rintro e w1 ⟨x, τ1, hf1, rfl, hc1, ho1⟩
  have F1 := Lib.hid hf1
  have H1 := Lib.hid hc1
  have O1 := Lib.hid (O0.out.trans ho1)
  have V1 := Lib.hid (V0.out.only ho1 hne)
  clear hf1 hc1 ho1 H0 O0 V0
  go_wp2_with fail
  refine (below_any a len cap zs _ c _ H1.out 100 (by omega) (by omega)).mono ?_
  rintro e w2 ⟨y, τ2, hf2, rfl, hc2, ho2⟩
  have F2 := Lib.hid hf2
  have H2 := Lib.hid hc2
  have O2 := Lib.hid (O1.out.trans ho2)
  have V2 := Lib.hid (V1.out.only ho2 hne)
  clear hf2 hc2 ho2 H1 O1 V1
  have H3 := Lib.hid (H2.out.alloc (.cells (widths.map (Value.int .i64)).toArray 3))
  have O3 := Lib.hid (O2.out.alloc (.cells (widths.map (Value.int .i64)).toArray 3))
  have V3 := Lib.hid (V2.out.alloc (.cells (widths.map (Value.int .i64)).toArray 3))
  have I3 := Lib.hid (ints_alloc w2 widths)
  have hne2 : ¬ w2.heap.size = c := by have := H2.out.lt; omega
  go_wp2_with fail
  refine (pick_any a len cap zs _ c _ H3.out _ 5 5 widths I3.out hne2 rfl (by omega) (by omega)).mono ?_
  rintro e w3 ⟨z, τ3, hf3, rfl, hc3, ho3⟩
  have F3 := Lib.hid hf3
  have H4 := Lib.hid hc3
  have O4 := Lib.hid (O3.out.trans ho3)
  have V4 := Lib.hid (V3.out.only ho3 hne)
  clear hf3 hc3 ho3 H2 O2 V2 H3 O3 V3 I3
  obtain ⟨d0, d1, d2⟩ := V4.out.cells
  obtain ⟨f0, f1, f2⟩ := V4.out.free
  go_wp2_with fail
  refine bodyPost_ret (v := .agg #[.int .i64 x, .int .i64 y, .int .i64 z]) (by simp [results, Tryz.results72, go_sem, *]) rfl ⟨⟨x, y, z⟩, τ3, ?_, rfl, ?_, ?_⟩
  · unfold rowS
    rw [F1.out]
    simp only []
    rw [F2.out]
    simp only []
    rw [F3.out]
  · exact H4.out.below (below_set3 (Below.refl _ _) (Nat.le_refl _) _ _ _ _ _ _) hcl HA.out
  · exact O4.out.step (below_set3 (Below.refl _ _) (Nat.le_refl _) _ _ _ _ _ _)
def anyS (zs : List Int) (len : Nat) (σ : Int × Int) : R × (Int × Int) :=
  let r := rowS zs len 10 σ
  let v := belowS zs len 8 r.2
  if v.1 = 0 then (⟨(pickS zs len [-1, 10] v.2).1, r.1.value, r.1.width⟩, (pickS zs len [-1, 10] v.2).2)
  else if v.1 = 1 then (⟨r.1.key, (pickS zs len [-1, 100, 99] v.2).1, r.1.width⟩, (pickS zs len [-1, 100, 99] v.2).2)
  else if v.1 = 2 then (⟨r.1.key, r.1.value, (pickS zs len [-1, 4] v.2).1⟩, (pickS zs len [-1, 4] v.2).2)
  else (r.1, v.2)
theorem anyS_wf (zs : List Int) (len : Nat) (σ : Int × Int) : (anyS zs len σ).1.wf := by
  have h := rowS_wf zs len 10 σ (by omega) (by omega)
  unfold R.wf at h ⊢
  unfold anyS
  simp only []
  split
  · have := pickS_mem zs len [-1, 10] (belowS zs len 8 (rowS zs len 10 σ).2).2 (by decide)
    simp only [List.mem_cons, List.not_mem_nil, or_false] at this ⊢
    omega
  · split
    · have := pickS_mem zs len [-1, 100, 99] (belowS zs len 8 (rowS zs len 10 σ).2).2 (by decide)
      simp only [List.mem_cons, List.not_mem_nil, or_false] at this ⊢
      omega
    · split
      · have := pickS_mem zs len [-1, 4] (belowS zs len 8 (rowS zs len 10 σ).2).2 (by decide)
        simp only [List.mem_cons, List.not_mem_nil, or_false] at this ⊢
        omega
      · exact h
set_option maxRecDepth 100000 in
theorem any_any (a : Option Addr) (len cap : Nat) (zs : List Int) (σ : Int × Int) (c : Nat) (w : World) (hc : Cur a len cap zs σ w c) (halt : ∀ x, a = some x → 0 < cap → x.block < w.heap.size) :
    Calls Tryz.prog 56 #[.pointer (some ⟨c, 0, none⟩)] w (Rowed (anyS zs len) a len cap zs σ c w) := by
  have hb0 : Below w.heap.size w (w.alloc (.cells #[.int .i64 0, .int .i64 0, .int .i64 0] 72)) := (Below.refl _ _).alloc (Nat.le_refl _) _
  have hcl := hc.lt
  have H0 := Lib.hid (hc.below hb0 hcl halt)
  have O0 := Lib.hid (Only.of_below (c := c) hb0)
  have V0 : Hid (Var3 (w.alloc (.cells #[.int .i64 0, .int .i64 0, .int .i64 0] 72)) w.heap.size R.zero) := Var3.made w R.zero
  have HA0 := Lib.hid fun x hx hp => Nat.lt_of_lt_of_le (halt x hx hp) hb0.size
  have HA := Lib.hid halt
  clear hb0 hc halt
  have hne : w.heap.size ≠ c := by omega
  go_enter Tryz.func56, Tryz.ntmps56
  go_wp2_with fail
  refine (row_any a len cap zs _ c _ H0.out HA0.out 10 (by omega) (by omega)).mono ?_
  rintro e w1 ⟨r, τ1, hf1, rfl, hc1, ho1⟩
  have F1 := Lib.hid hf1
  have O1 := Lib.hid (O0.out.trans ho1)
  have V1 := Lib.hid (V0.out.only ho1 hne)
  have hbx : Below w1.heap.size w1 (w1.alloc (.cells #[.int .i64 r.key, .int .i64 r.value, .int .i64 r.width] 72)) := (Below.refl _ _).alloc (Nat.le_refl _) _
  have H1 := Lib.hid (hc1.alloc (.cells #[.int .i64 r.key, .int .i64 r.value, .int .i64 r.width] 72))
  have O2 := Lib.hid (O1.out.alloc (.cells #[.int .i64 r.key, .int .i64 r.value, .int .i64 r.width] 72))
  have V2 := Lib.hid (V1.out.keep hbx)
  have X2 := Lib.hid (Var3.made w1 r)
  have hlt1 : w.heap.size < w1.heap.size := V1.out.lt
  have hne1 : w1.heap.size ≠ c := by omega
  have hne3 : w.heap.size ≠ w1.heap.size := by omega
  clear hf1 hc1 ho1 H0 O0 V0 HA0 V1 O1 hbx
  go_wp2_with fail
  refine (below_any a len cap zs _ c _ H1.out 8 (by omega) (by omega)).mono ?_
  rintro e w2 ⟨v, τ2, hf2, rfl, hc2, ho2⟩
  obtain ⟨hv0, hv1⟩ := belowS_range (by omega) hf2
  have F2 := Lib.hid hf2
  have H2 := Lib.hid hc2
  have O3 := Lib.hid (O2.out.trans ho2)
  have V3 := Lib.hid (V2.out.only ho2 hne)
  have X3 := Lib.hid (X2.out.only ho2 hne1)
  clear hf2 hc2 ho2 H1 O2 V2 X2
  have hlt2 := H2.out.lt
  have hne4 : ¬ w2.heap.size = c := by omega
  by_cases v0 : v = 0
  · subst v0
    have H3 := Lib.hid (H2.out.alloc (.cells (([-1, 10] : List Int).map (Value.int .i64)).toArray 3))
    have O4 := Lib.hid (O3.out.alloc (.cells (([-1, 10] : List Int).map (Value.int .i64)).toArray 3))
    have V4 := Lib.hid (V3.out.alloc (.cells (([-1, 10] : List Int).map (Value.int .i64)).toArray 3))
    have X4 := Lib.hid (X3.out.alloc (.cells (([-1, 10] : List Int).map (Value.int .i64)).toArray 3))
    have I4 := Lib.hid (ints_alloc w2 [-1, 10])
    go_wp2_with fail
    refine (pick_any a len cap zs _ c _ H3.out _ 2 2 [-1, 10] I4.out hne4 rfl (by omega) (by omega)).mono ?_
    rintro e w3 ⟨z, τ3, hf3, rfl, hc3, ho3⟩
    have F3 := Lib.hid hf3
    have H5 := Lib.hid hc3
    have O5 := Lib.hid (O4.out.trans ho3)
    have V5 := Lib.hid (V4.out.only ho3 hne)
    have X5 := Lib.hid (X4.out.only ho3 hne1)
    have HR : Hid (anyS zs len σ = ((⟨z, r.value, r.width⟩ : R), τ3)) := by
      show _ = _
      unfold anyS
      rw [F1.out]
      simp only []
      rw [F2.out]
      simp only []
      first | rw [if_pos rfl] | rw [if_pos trivial]
      rw [F3.out]
    have BX : Hid (Below w.heap.size w3 ((((w3.setCell ⟨w1.heap.size, 0, none⟩ (.int .i64 z)).setCell ⟨w.heap.size, 0, none⟩ (.int .i64 (R.key (⟨z, r.value, r.width⟩ : R)))).setCell ⟨w.heap.size, 1, none⟩ (.int .i64 (R.value (⟨z, r.value, r.width⟩ : R)))).setCell ⟨w.heap.size, 2, none⟩ (.int .i64 (R.width (⟨z, r.value, r.width⟩ : R))))) :=
      below_set3 ((Below.refl _ _).setCell (p := ⟨w1.heap.size, 0, none⟩) (Nat.le_of_lt hlt1) _) (Nat.le_refl _) _ _ _ _ _ _
    clear hf3 hc3 ho3 H3 O4 V4 X4 I4
    obtain ⟨d0, d1, d2⟩ := V5.out.cells
    obtain ⟨f0, f1, f2⟩ := V5.out.free
    obtain ⟨c0, c1, c2⟩ := X5.out.cells
    obtain ⟨g0, g1, g2⟩ := X5.out.free
    go_wp2_with fail
    refine bodyPost_ret (v := .agg #[.int .i64 (R.key (⟨z, r.value, r.width⟩ : R)), .int .i64 (R.value (⟨z, r.value, r.width⟩ : R)), .int .i64 (R.width (⟨z, r.value, r.width⟩ : R))]) (by simp [results, Tryz.results56, go_sem, *]) rfl ⟨(⟨z, r.value, r.width⟩ : R), τ3, HR.out, rfl, H5.out.below BX.out hcl HA.out, O5.out.step BX.out⟩
  · have e0 : (v == 0) = false := beq_eq_false_iff_ne.2 v0
    by_cases v1 : v = 1
    · subst v1
      have H3 := Lib.hid (H2.out.alloc (.cells (([-1, 100, 99] : List Int).map (Value.int .i64)).toArray 3))
      have O4 := Lib.hid (O3.out.alloc (.cells (([-1, 100, 99] : List Int).map (Value.int .i64)).toArray 3))
      have V4 := Lib.hid (V3.out.alloc (.cells (([-1, 100, 99] : List Int).map (Value.int .i64)).toArray 3))
      have X4 := Lib.hid (X3.out.alloc (.cells (([-1, 100, 99] : List Int).map (Value.int .i64)).toArray 3))
      have I4 := Lib.hid (ints_alloc w2 [-1, 100, 99])
      go_wp2_with fail
      refine (pick_any a len cap zs _ c _ H3.out _ 3 3 [-1, 100, 99] I4.out hne4 rfl (by omega) (by omega)).mono ?_
      rintro e w3 ⟨z, τ3, hf3, rfl, hc3, ho3⟩
      have F3 := Lib.hid hf3
      have H5 := Lib.hid hc3
      have O5 := Lib.hid (O4.out.trans ho3)
      have V5 := Lib.hid (V4.out.only ho3 hne)
      have X5 := Lib.hid (X4.out.only ho3 hne1)
      have HR : Hid (anyS zs len σ = ((⟨r.key, z, r.width⟩ : R), τ3)) := by
        show _ = _
        unfold anyS
        rw [F1.out]
        simp only []
        rw [F2.out]
        simp only []
        rw [if_neg (by decide)]; first | rw [if_pos rfl] | rw [if_pos trivial]
        rw [F3.out]
      have BX : Hid (Below w.heap.size w3 ((((w3.setCell ⟨w1.heap.size, 1, none⟩ (.int .i64 z)).setCell ⟨w.heap.size, 0, none⟩ (.int .i64 (R.key (⟨r.key, z, r.width⟩ : R)))).setCell ⟨w.heap.size, 1, none⟩ (.int .i64 (R.value (⟨r.key, z, r.width⟩ : R)))).setCell ⟨w.heap.size, 2, none⟩ (.int .i64 (R.width (⟨r.key, z, r.width⟩ : R))))) :=
        below_set3 ((Below.refl _ _).setCell (p := ⟨w1.heap.size, 1, none⟩) (Nat.le_of_lt hlt1) _) (Nat.le_refl _) _ _ _ _ _ _
      clear hf3 hc3 ho3 H3 O4 V4 X4 I4
      obtain ⟨d0, d1, d2⟩ := V5.out.cells
      obtain ⟨f0, f1, f2⟩ := V5.out.free
      obtain ⟨c0, c1, c2⟩ := X5.out.cells
      obtain ⟨g0, g1, g2⟩ := X5.out.free
      go_wp2_with fail
      refine bodyPost_ret (v := .agg #[.int .i64 (R.key (⟨r.key, z, r.width⟩ : R)), .int .i64 (R.value (⟨r.key, z, r.width⟩ : R)), .int .i64 (R.width (⟨r.key, z, r.width⟩ : R))]) (by simp [results, Tryz.results56, go_sem, *]) rfl ⟨(⟨r.key, z, r.width⟩ : R), τ3, HR.out, rfl, H5.out.below BX.out hcl HA.out, O5.out.step BX.out⟩
    · have e1 : (v == 1) = false := beq_eq_false_iff_ne.2 v1
      by_cases v2 : v = 2
      · subst v2
        have H3 := Lib.hid (H2.out.alloc (.cells (([-1, 4] : List Int).map (Value.int .i64)).toArray 3))
        have O4 := Lib.hid (O3.out.alloc (.cells (([-1, 4] : List Int).map (Value.int .i64)).toArray 3))
        have V4 := Lib.hid (V3.out.alloc (.cells (([-1, 4] : List Int).map (Value.int .i64)).toArray 3))
        have X4 := Lib.hid (X3.out.alloc (.cells (([-1, 4] : List Int).map (Value.int .i64)).toArray 3))
        have I4 := Lib.hid (ints_alloc w2 [-1, 4])
        go_wp2_with fail
        refine (pick_any a len cap zs _ c _ H3.out _ 2 2 [-1, 4] I4.out hne4 rfl (by omega) (by omega)).mono ?_
        rintro e w3 ⟨z, τ3, hf3, rfl, hc3, ho3⟩
        have F3 := Lib.hid hf3
        have H5 := Lib.hid hc3
        have O5 := Lib.hid (O4.out.trans ho3)
        have V5 := Lib.hid (V4.out.only ho3 hne)
        have X5 := Lib.hid (X4.out.only ho3 hne1)
        have HR : Hid (anyS zs len σ = ((⟨r.key, r.value, z⟩ : R), τ3)) := by
          show _ = _
          unfold anyS
          rw [F1.out]
          simp only []
          rw [F2.out]
          simp only []
          rw [if_neg (by decide), if_neg (by decide)]; first | rw [if_pos rfl] | rw [if_pos trivial]
          rw [F3.out]
        have BX : Hid (Below w.heap.size w3 ((((w3.setCell ⟨w1.heap.size, 2, none⟩ (.int .i64 z)).setCell ⟨w.heap.size, 0, none⟩ (.int .i64 (R.key (⟨r.key, r.value, z⟩ : R)))).setCell ⟨w.heap.size, 1, none⟩ (.int .i64 (R.value (⟨r.key, r.value, z⟩ : R)))).setCell ⟨w.heap.size, 2, none⟩ (.int .i64 (R.width (⟨r.key, r.value, z⟩ : R))))) :=
          below_set3 ((Below.refl _ _).setCell (p := ⟨w1.heap.size, 2, none⟩) (Nat.le_of_lt hlt1) _) (Nat.le_refl _) _ _ _ _ _ _
        clear hf3 hc3 ho3 H3 O4 V4 X4 I4
        obtain ⟨d0, d1, d2⟩ := V5.out.cells
        obtain ⟨f0, f1, f2⟩ := V5.out.free
        obtain ⟨c0, c1, c2⟩ := X5.out.cells
        obtain ⟨g0, g1, g2⟩ := X5.out.free
        go_wp2_with fail
        refine bodyPost_ret (v := .agg #[.int .i64 (R.key (⟨r.key, r.value, z⟩ : R)), .int .i64 (R.value (⟨r.key, r.value, z⟩ : R)), .int .i64 (R.width (⟨r.key, r.value, z⟩ : R))]) (by simp [results, Tryz.results56, go_sem, *]) rfl ⟨(⟨r.key, r.value, z⟩ : R), τ3, HR.out, rfl, H5.out.below BX.out hcl HA.out, O5.out.step BX.out⟩
      · have e2 : (v == 2) = false := beq_eq_false_iff_ne.2 v2
        have HR : Hid (anyS zs len σ = (r, τ2)) := by
          show _ = _
          unfold anyS
          rw [F1.out]
          simp only []
          rw [F2.out]
          simp only []
          rw [if_neg v0, if_neg v1, if_neg v2]
        have BX : Hid (Below w.heap.size w2 (((w2.setCell ⟨w.heap.size, 0, none⟩ (.int .i64 r.key)).setCell ⟨w.heap.size, 1, none⟩ (.int .i64 r.value)).setCell ⟨w.heap.size, 2, none⟩ (.int .i64 r.width))) :=
          below_set3 (Below.refl _ _) (Nat.le_refl _) _ _ _ _ _ _
        clear v0 v1 v2
        obtain ⟨d0, d1, d2⟩ := V3.out.cells
        obtain ⟨f0, f1, f2⟩ := V3.out.free
        obtain ⟨c0, c1, c2⟩ := X3.out.cells
        go_wp2_with fail
        refine bodyPost_ret (v := .agg #[.int .i64 r.key, .int .i64 r.value, .int .i64 r.width]) (by simp [results, Tryz.results56, go_sem, *]) rfl ⟨r, τ2, HR.out, rfl, H2.out.below BX.out hcl HA.out, O3.out.step BX.out⟩
end Go.Proofs.YtjdjceohlcimaaaGreatDoor
/- l2Rows, l2Bent: the rows that are drawn, as functions of the cursor's state. -/
namespace Go.Proofs.YtjdjceohlcimaaaGreatDoor
open Go.RowKit
def Rowsed (F : Int × Int → List R × (Int × Int)) (a : Option Addr) (len cap : Nat) (zs : List Int) (σ : Int × Int) (c : Nat) (w : World) (e : Ending) (w' : World) : Prop :=
  ∃ (v : Value) (L : List R) (τ : Int × Int), F σ = (L, τ) ∧ e = .returned v ∧ w'.ownsRow w.heap.size 72 3 v L.length (cells3 L) ∧ Cur a len cap zs τ w' c ∧ Only c w w'
def keysL : List Int := [1, 2, 4, 10]
def rowsLoop (zs : List Int) (len : Nat) (keys : Int) : Nat → List R → Int × Int → List R × (Int × Int)
  | 0, l, σ => (l, σ)
  | n + 1, l, σ => rowsLoop zs len keys n (l ++ [(rowS zs len keys σ).1]) (rowS zs len keys σ).2
def rowsS (zs : List Int) (len : Nat) (most : Int) (σ : Int × Int) : List R × (Int × Int) :=
  let k := pickS zs len keysL σ
  let n := belowS zs len (most + 1) k.2
  rowsLoop zs len k.1 n.1.toNat [] n.2
theorem rowsLoop_length (zs : List Int) (len : Nat) (keys : Int) : ∀ (n : Nat) (l : List R) (σ : Int × Int), (rowsLoop zs len keys n l σ).1.length = l.length + n
  | 0, l, σ => rfl
  | n + 1, l, σ => by rw [rowsLoop, rowsLoop_length zs len keys n]; simp; omega
theorem rowsLoop_wf (zs : List Int) (len : Nat) (keys : Int) (h1 : 1 ≤ keys) (h2 : keys ≤ 1000000000) : ∀ (n : Nat) (l : List R) (σ : Int × Int), (∀ r ∈ l, r.wf) → ∀ r ∈ (rowsLoop zs len keys n l σ).1, r.wf
  | 0, l, σ, h => h
  | n + 1, l, σ, h => by
    rw [rowsLoop]
    refine rowsLoop_wf zs len keys h1 h2 n _ _ fun r hr => ?_
    rcases List.mem_append.1 hr with hr | hr
    · exact h r hr
    · rw [List.mem_singleton.1 hr]; exact rowS_wf zs len keys σ h1 h2
theorem keys_range (zs : List Int) (len : Nat) (σ : Int × Int) : 1 ≤ (pickS zs len keysL σ).1 ∧ (pickS zs len keysL σ).1 ≤ 10 := by
  have := pickS_mem zs len keysL σ (by decide)
  unfold keysL at this ⊢
  simp only [List.mem_cons, List.not_mem_nil, or_false] at this
  omega
theorem rowsS_length (zs : List Int) (len : Nat) (most : Int) (σ : Int × Int) (hm : 0 ≤ most) : ((rowsS zs len most σ).1.length : Int) ≤ most := by
  unfold rowsS
  simp only []
  rw [rowsLoop_length]
  have := belowS_fst zs len (most + 1) (pickS zs len keysL σ).2 (by omega)
  simp only [List.length_nil]; omega
theorem rowsS_wf (zs : List Int) (len : Nat) (most : Int) (σ : Int × Int) : ∀ r ∈ (rowsS zs len most σ).1, r.wf := by
  have hk := keys_range zs len σ
  unfold rowsS
  simp only []
  exact rowsLoop_wf zs len _ hk.1 (by omega) _ _ _ (fun r hr => by cases hr)
theorem own_onlyR {w w' : World} {B c : Nat} {v : Value} {n : Nat} {xs : List Value} (h : w.ownsRow B 72 3 v n xs) (ho : Only c w w') (hc : c < B) : w'.ownsRow B 72 3 v n xs :=
  h.kept ho (by
    cases hv : v.ownBlock with
    | none => exact .inl rfl
    | some k =>
      refine .inr fun e => ?_
      have := (h.lt k hv).1
      injection e with e
      omega)
set_option maxRecDepth 100000 in
theorem rows_any (a : Option Addr) (len cap : Nat) (zs : List Int) (σ : Int × Int) (c : Nat) (w : World) (hc : Cur a len cap zs σ w c) (halt : ∀ x, a = some x → 0 < cap → x.block < w.heap.size) (most : Int) (h0 : 0 ≤ most) (h1 : most ≤ 1000) :
    Calls Tryz.prog 54 #[.pointer (some ⟨c, 0, none⟩), .int .i64 most] w (Rowsed (rowsS zs len most) a len cap zs σ c w) := by
  have hb0 : Below w.heap.size w (w.alloc (.cells #[] 72)) := (Below.refl _ _).alloc (Nat.le_refl _) _
  have hcl := hc.lt
  have H0 := Lib.hid (hc.below hb0 hcl halt)
  have O0 := Lib.hid (Only.of_below (c := c) hb0)
  have W0 := Lib.hid (World.ownsRow_made (e := 72) (size := 3) (base := w.heap.size) w #[] 0 (Nat.le_refl _) (by unfold maxLen; omega) rfl)
  have HA := Lib.hid halt
  clear hc halt hb0
  have H1 := Lib.hid (H0.out.alloc (.cells (keysL.map (Value.int .i64)).toArray 3))
  have O1 := Lib.hid (O0.out.alloc (.cells (keysL.map (Value.int .i64)).toArray 3))
  have W1 := Lib.hid (W0.out.alloc (.cells (keysL.map (Value.int .i64)).toArray 3))
  have I1 := Lib.hid (ints_alloc (w.alloc (.cells #[] 72)) keysL)
  have hg : (w.alloc (.cells #[] 72)).heap.size = w.heap.size + 1 := by simp
  rw [hg] at I1
  have hne : ¬ w.heap.size + 1 = c := by omega
  clear hg
  go_enter Tryz.func54, Tryz.ntmps54
  go_wp2_with fail
  refine (pick_any a len cap zs _ c _ H1.out _ 4 4 keysL I1.out hne rfl (by omega) (by omega)).mono ?_
  rintro e w1 ⟨key, τ1, hf1, rfl, hc1, ho1⟩
  have hk := keys_range zs len σ
  rw [hf1] at hk
  obtain ⟨hk1, hk2⟩ := hk
  have F1 := Lib.hid hf1
  have H2 := Lib.hid hc1
  have O2 := Lib.hid (O1.out.trans ho1)
  have W2 := Lib.hid (own_onlyR W1.out ho1 hcl)
  clear hf1 hc1 ho1 H0 O0 W0 H1 O1 W1 I1
  go_wp2_with fail
  refine (below_any a len cap zs _ c _ H2.out (most + 1) (by omega) (by omega)).mono ?_
  rintro e w2 ⟨cnt, τ2, hf2, rfl, hc2, ho2⟩
  obtain ⟨hn0, hn1⟩ := belowS_range (by omega) hf2
  have F2 := Lib.hid hf2
  have H3 := Lib.hid hc2
  have O3 := Lib.hid (O2.out.trans ho2)
  have W3 := Lib.hid (own_onlyR W2.out ho2 hcl)
  have HT : Hid (rowsS zs len most σ = rowsLoop zs len key cnt.toNat [] τ2) := by show _ = _; unfold rowsS; rw [F1.out]; simp only []; rw [F2.out]
  clear hf2 hc2 ho2 H2 O2 W2
  go_wp2_with fail
  go_loopw [5, 7] (fun v i wr => ∃ (k : Int) (x : Value) (l : List R) (τ : Int × Int), i = .int .i64 k ∧ x = v ∧ 0 ≤ k ∧ k ≤ most ∧ Hid ((l.length : Int) + k ≤ most) ∧ Hid (wr.ownsRow w.heap.size 72 3 x l.length (cells3 l)) ∧ Hid (Cur a len cap zs τ wr c) ∧ Hid (Only c w wr) ∧ Hid (rowsS zs len most σ = rowsLoop zs len key k.toNat l τ)) (fun _ i _ => (intOf i).toNat)
  case atStart => exact ⟨cnt, _, [], τ2, rfl, rfl, hn0, by omega, by show ((0 : Nat) : Int) + cnt ≤ most; omega, W3, H3, O3, HT⟩
  case round =>
    obtain ⟨k, x, l, τ, rfl, rfl, hk0, hkm, hlk, hown, hcur, honly, hTL⟩ := hrel
    by_cases hk : 0 < k
    · have HAr := Lib.hid fun y hy hp => Nat.lt_of_lt_of_le (HA.out y hy hp) honly.out.size
      go_wp2_with fail
      refine (row_any a len cap zs _ c _ hcur.out HAr.out key hk1 (by omega)).mono ?_
      rintro e w3 ⟨r, τ3, hf3, rfl, hc3, ho3⟩
      have F3 := Lib.hid hf3
      have HS : Hid (rowsS zs len most σ = rowsLoop zs len key (k - 1).toNat (l ++ [r]) τ3) := by
        show _ = _
        rw [hTL.out, show k.toNat = (k - 1).toNat + 1 by omega, rowsLoop, F3.out]
      have H4 := Lib.hid hc3
      have O4 := Lib.hid (honly.out.trans ho3)
      have W4 := Lib.hid (own_onlyR hown.out ho3 hcl)
      have hsz := O4.out.size
      have hll : l.length ≤ 1000 := by have := hlk.out; omega
      clear hf3 hc3 ho3 hcur honly hown
      go_wp2_with (at_builtin; refine wpList_pushR (.tmp 20) (.tmp 24) r w3.heap.size rfl rfl rfl rfl rfl W4.out hsz (by omega) ?_; intro v4 w4 hown4 hb4 hrest4)
      go_roundw
      case rel =>
        refine ⟨k - 1, _, _, τ3, by go_num, rfl, by omega, by omega, ?_, hown4, H4.out.below hb4 hcl fun x hx hp => HA.out x hx hp, O4.out.step hb4, HS⟩
        show _ ≤ _
        have := hlk.out
        rw [List.length_append, List.length_singleton]; omega
      case measure => simp [intOf]; omega
    · have hk00 : k = 0 := by omega
      have HF : Hid (rowsS zs len most σ = (l, τ)) := by show _ = _; rw [hTL.out, hk00]; rfl
      clear hk00
      go_wp2_with fail
      go_ret
      exact ⟨_, l, τ, HF.out, rfl, hown.out, hcur.out, honly.out⟩
def bentS (zs : List Int) (len : Nat) (most : Int) (σ : Int × Int) : List R × (Int × Int) :=
  let l := rowsS zs len most σ
  let v := belowS zs len 14 l.2
  if v.1 = 0 then (l.1 ++ [(anyS zs len v.2).1], (anyS zs len v.2).2) else (l.1, v.2)
theorem bentS_length (zs : List Int) (len : Nat) (most : Int) (σ : Int × Int) (hm : 0 ≤ most) : ((bentS zs len most σ).1.length : Int) ≤ most + 1 := by
  have := rowsS_length zs len most σ hm
  unfold bentS
  simp only []
  split
  · rw [List.length_append, List.length_singleton]; omega
  · simp only []; omega
theorem bentS_wf (zs : List Int) (len : Nat) (most : Int) (σ : Int × Int) : ∀ r ∈ (bentS zs len most σ).1, r.wf := by
  have h := rowsS_wf zs len most σ
  unfold bentS
  simp only []
  split
  · intro r hr
    rcases List.mem_append.1 hr with hr | hr
    · exact h r hr
    · rw [List.mem_singleton.1 hr]; exact anyS_wf zs len _
  · exact h
set_option maxRecDepth 100000 in
theorem bent_any (a : Option Addr) (len cap : Nat) (zs : List Int) (σ : Int × Int) (c : Nat) (w : World) (hc : Cur a len cap zs σ w c) (halt : ∀ x, a = some x → 0 < cap → x.block < w.heap.size) (most : Int) (h0 : 0 ≤ most) (h1 : most ≤ 1000) :
    Calls Tryz.prog 28 #[.pointer (some ⟨c, 0, none⟩), .int .i64 most] w (Rowsed (bentS zs len most) a len cap zs σ c w) := by
  have hcl := hc.lt
  have H0 := Lib.hid hc
  have HA := Lib.hid halt
  clear hc halt
  go_enter Tryz.func28, Tryz.ntmps28
  go_wp2_with fail
  refine (rows_any a len cap zs _ c _ H0.out HA.out most h0 h1).mono ?_
  rintro e w1 ⟨v, L, τ1, hf1, rfl, hw1, hc1, ho1⟩
  have hll := rowsS_length zs len most σ h0
  rw [hf1] at hll
  have hl1 : L.length ≤ 1000 := by
    have : (L.length : Int) ≤ most := hll
    omega
  clear hll
  have F1 := Lib.hid hf1
  have H1 := Lib.hid hc1
  have O1 := Lib.hid ho1
  have W1 := Lib.hid hw1
  clear hf1 hc1 ho1 hw1
  go_wp2_with fail
  refine (once_any a len cap zs _ c _ H1.out 14 (by omega) (by omega)).mono ?_
  rintro e w2 ⟨x, τ2, hf2, rfl, hc2, ho2⟩
  have F2 := Lib.hid hf2
  have H2 := Lib.hid hc2
  have O2 := Lib.hid (O1.out.trans ho2)
  have W2 := Lib.hid (own_onlyR W1.out ho2 hcl)
  clear hf2 hc2 ho2 H1 O1 W1
  by_cases hx : x = 0
  · subst hx
    have HA2 := Lib.hid fun y hy hp => Nat.lt_of_lt_of_le (HA.out y hy hp) O2.out.size
    go_wp2_with fail
    refine (any_any a len cap zs _ c _ H2.out HA2.out).mono ?_
    rintro e w3 ⟨r, τ3, hf3, rfl, hc3, ho3⟩
    have HR : Hid (bentS zs len most σ = (L ++ [r], τ3)) := by
      show _ = _
      unfold bentS
      rw [F1.out]
      simp only []
      rw [F2.out]
      simp only []
      first | rw [if_pos rfl] | rw [if_pos trivial]
      rw [hf3]
    have H3 := Lib.hid hc3
    have O3 := Lib.hid (O2.out.trans ho3)
    have W3 := Lib.hid (own_onlyR W2.out ho3 hcl)
    have hsz := O3.out.size
    clear hf3 hc3 ho3 H2 O2 W2
    go_wp2_with (at_builtin; refine wpList_pushR (.tmp 11) (.tmp 14) r w3.heap.size rfl rfl rfl rfl rfl W3.out hsz (by omega) ?_; intro v4 w4 hown4 hb4 hrest4)
    go_ret
    exact ⟨_, _, τ3, HR.out, rfl, hown4, H3.out.below hb4 hcl fun x hx hp => HA.out x hx hp, O3.out.step hb4⟩
  · have hd : (x == 0) = false := beq_eq_false_iff_ne.2 hx
    have HR : Hid (bentS zs len most σ = (L, τ2)) := by
      show _ = _
      unfold bentS
      rw [F1.out]
      simp only []
      rw [F2.out]
      simp only []
      rw [if_neg hx]
    clear hx
    go_wp2_with fail
    go_ret
    exact ⟨_, L, τ2, HR.out, rfl, W2.out, H2.out, O2.out⟩
end Go.Proofs.YtjdjceohlcimaaaGreatDoor
/- One slice of rows, as a law's draw gives it. -/
namespace Go.Proofs.YtjdjceohlcimaaaGreatDoor
open Go.RowKit
def OneRows (w : World) (e : Ending) (w' : World) : Prop := ∃ (x : Option Addr) (n m : Nat) (L : List R), e = .returned (.slice x n m) ∧ n ≤ 1000 ∧ (∀ r ∈ L, r.wf) ∧ IsRows w' x n L ∧ Below w.heap.size w w'
end Go.Proofs.YtjdjceohlcimaaaGreatDoor
/- DrawReferenceJoin: what it gives. -/
namespace Go.Proofs.YtjdjceohlcimaaaGreatDoor
open Go.RowKit
def IntRows2 (w : World) (e : Ending) (w' : World) : Prop := ∃ (k : Int) (x y : Value) (L M : List R), e = .returned (.tuple #[.int .i64 k, x, y]) ∧ L.length ≤ 901 ∧ M.length ≤ 901 ∧ (∀ r ∈ L, r.wf) ∧ (∀ r ∈ M, r.wf) ∧ w'.ownsRow w.heap.size 72 3 x L.length (cells3 L) ∧ w'.ownsRow w.heap.size 72 3 y M.length (cells3 M) ∧ (∀ b, x.ownBlock = some b → y.ownBlock ≠ some b) ∧ Below w.heap.size w w'
end Go.Proofs.YtjdjceohlcimaaaGreatDoor
/- States told by trees: calls whose answer is one of several, rows that are drawn, a law's bytes. -/
namespace Go.Proofs.YtjdjceohlcimaaaGreatDoor.V
open Go Go.RowKit
set_option linter.unusedVariables false
variable {P : Program} {E : Env} {N nb : Nat} {σ σ' τ : VS} {o : Oper} {a : Act} {w : World} {G : Ghost} {Q : Exit → Act → World → Prop} {K : Act → World → Prop}
def VCE {Y : Type} (Φ : World → Prop) (Pr : Y → Prop) (P : Program) (f : FuncId) (ins : List (Bool × List T)) (tup : Bool) (rs : Y → List (Bool × List T)) : Prop := ∀ (w : World), Φ w → ∀ (vs : List Value), ArgsIn (Env.of w) w ins vs → Calls P f vs.toArray w fun e w' => ∃ y, Pr y ∧ Gives (Env.of w) tup (rs y) e w'
theorem SV.callE {Y : Type} {Φ : World → Prop} {Pr : Y → Prop} (hD : E.keeps Φ) {d : Nat} {f : FuncId} {xs : List Operand} {ats : Array TypeId} {qs : List (Bool × List T)} {tup : Bool} {rs : Y → List (Bool × List T)} {rest : List Oper} {ops : Array Oper} (ho : o.op = .call { callee := .value (.func f), args := xs.toArray, argTypes := ats }) (hb : ∃ fn c, P.funcs[f]? = some fn ∧ fn.body = some c ∧ fn.name ≠ "runtime.NumGoroutine")
    (hc : VCE Φ Pr P f qs tup rs) (hx : σ.argss xs qs) (hd : o.dst = some d) (hdN : d < N) (hg : o.guard = none) (k : ∀ y, Pr y → SV E N ((ansSs σ (rs y)).put d ⟨tup, ansLs σ.nx (rs y)⟩) (wpList P ops Q rest)) : SV E N σ (wpList P ops Q (o :: rest)) := fun a w G h => by
  refine wpList_step fun K hK => ?_
  rw [if_pos (by simp [Region.wanted, hg])]
  obtain ⟨fn, c, h1, h2, h2'⟩ := hb
  have hcall := hc w (hD.at h.below) (xs.map a.eval) (h.args hx)
  have hrun : (execOp a.eval o).run P w = .ok (.enter f (xs.map a.eval).toArray) w := by
    simp [execOp, ho, resolve, Act.eval, Deferred.ofValue, invoke, callFunc, h1, h2, h2', Result.andThen]
  unfold Oper.wp
  rw [hrun]
  refine hcall.mono fun e w' ⟨y0, hy0, uss, F, h3, h4, h5, h6, h6', h7'⟩ => ?_
  have h7 : Below w.heap.size w w' := ⟨h7'.os, h7'.tape, h7'.output, h7'.size, fun k hk => h7'.block k (Env.of_old.2 hk)⟩
  subst h4
  have h' := h.ext h7
  obtain ⟨G', k1, k2, k3, k4, k5, k6, k7, k8⟩ := h'.addAlls (rs y0) uss F h3 (fun c ag ts us hc hu => ⟨(h5 c ag ts us hc hu).1, fun j t u hj hu' => (h5 c ag ts us hc hu).2 j t u hj hu'⟩) (fun c j b hb => by
    have hbw : w.heap.size ≤ b := (h6' c j b hb).1.elim id fun h => h.elim
    exact ⟨⟨fun i hi hf => by have := (h.ftlt i b hi hf).2; omega, (h.fresh hbw).2⟩, .inl (Nat.le_trans h.low hbw), (h6' c j b hb).2⟩) h6
  rw [hd]
  refine hK _ _ (k y0 hy0 _ _ _ (k1.put hdN ⟨uss, h3.trans k3.symm, ?_, fun c ag xs us hc hu => ⟨(k4 c ag xs us hc hu).1, (k4 c ag xs us hc hu).2.2⟩⟩))
  congr 1
  apply List.ext_getElem?
  intro c
  rw [List.getElem?_zipWith, List.getElem?_zipWith]
  cases hq : (ansLs σ.nx (rs y0))[c]? with
  | none =>
    have : (rs y0)[c]? = none := by rw [List.getElem?_eq_none_iff] at hq ⊢; omega
    rw [this]
  | some q =>
    obtain ⟨ag, xs'⟩ := q
    have hcl : c < uss.length := by have := get_lt hq; omega
    obtain ⟨-, ⟨ts, hts⟩, -⟩ := k4 c ag xs' uss[c] hq (List.getElem?_eq_getElem hcl)
    rw [hts, List.getElem?_eq_getElem hcl]
theorem own_rows {w : World} {B : Nat} {v : Value} {L : List R} (h : w.ownsRow B 72 3 v L.length (cells3 L)) : Own w 0 (.seq 72 (L.map tRow)) v (fun b => v.ownBlock = some b) := by
  have hc : ∀ (k j : Nat) (e : List T) (t : T) (u : Value), (L.map tRow)[k]? = some e → e[j]? = some t → (cells3 L)[k * 3 + j]? = some u → t = .lit u ∧ u.oneCell' = true := fun k j e t u h1 h2 h3 => by
    rw [List.getElem?_map] at h1
    obtain ⟨r, hr, rfl⟩ := Option.map_eq_some_iff.1 h1
    have hk := get_lt hr
    obtain ⟨e0, e1, e2⟩ := cells3_get L k hk
    have hd : L.getD k R.zero = r := by simp [List.getD, hr]
    rw [hd] at e0 e1 e2
    match j, h2, h3 with
    | 0, h2, h3 => cases h2; rw [Nat.add_zero, e0] at h3; cases h3; exact ⟨rfl, rfl⟩
    | 1, h2, h3 => cases h2; rw [e1] at h3; cases h3; exact ⟨rfl, rfl⟩
    | 2, h2, h3 => cases h2; rw [e2] at h3; cases h3; exact ⟨rfl, rfl⟩
  refine .seq 3 (by decide) sz_impl_Row (fun e he => by obtain ⟨x, -, rfl⟩ := List.mem_map.1 he; rfl) (cells3 L) (by rw [List.length_map]; exact ownsRow_lower h (Nat.zero_le _)) (fun _ _ => False) (fun k e j t u h1 h2 h3 => ?_) (fun u hu => ?_) (fun b hb => hb) (fun q b hb => hb.elim) (fun q b hb => hb.elim) fun q q' b hb => hb.elim
  · obtain ⟨rfl, ho⟩ := hc k j e t u h1 h2 h3
    exact .lit ho
  · obtain ⟨r, -, hr⟩ := List.mem_flatMap.1 (show u ∈ L.flatMap fun r => [.int .i64 r.key, .int .i64 r.value, .int .i64 r.width] from hu)
    simp at hr
    rcases hr with rfl | rfl | rfl <;> rfl
end Go.Proofs.YtjdjceohlcimaaaGreatDoor.V
/- States told by trees: functions that draw from a cursor: a pinned box holds it. -/
namespace Go.Proofs.YtjdjceohlcimaaaGreatDoor.V
open Go Go.RowKit
set_option linter.unusedVariables false
variable {P : Program} {E : Env} {N nb : Nat} {σ σ' τ : VS} {o : Oper} {a : Act} {w : World} {G : Ghost} {Q : Exit → Act → World → Prop} {K : Act → World → Prop} {ad : Option Addr} {len cap : Nat} {zs : List Int}
def Env.code (E : Env) (ad : Option Addr) (len cap : Nat) (zs : List Int) : Prop := Code ad len cap zs E.w0 ∧ ∀ x, ad = some x → 0 < cap → ¬ E.ln x.block
theorem Env.code.at (h : E.code ad len cap zs) (hs : Same E E.w0 w) : Code ad len cap zs w :=
  ⟨h.1.row.keep fun x hx hp _ => hs.block x.block ⟨h.1.old x hx hp, h.2 x hx hp⟩, h.1.small, fun x hx hp => Nat.lt_of_lt_of_le (h.1.old x hx hp) hs.size⟩
def curL (ad : Option Addr) (len cap : Nat) (p h : Int) : List Leaf := [.sc (.slice ad len cap), .sc (.int .i64 p), .sc (.int .i64 h)]
def GivesC (w : World) (c : Nat) (tup : Bool) (rs : List (Bool × List T)) (e : Ending) (w' : World) : Prop :=
  ∃ (uss : List (List Value)) (F : Nat → Nat → Nat → Prop), uss.length = rs.length ∧ e = .returned (vval tup (List.zipWith (fun r us => cval r.1 us) rs uss)) ∧
    (∀ (c' : Nat) (ag : Bool) (ts : List T) (us : List Value), rs[c']? = some (ag, ts) → uss[c']? = some us → us.length = ts.length ∧ ∀ (j : Nat) (t : T) (u : Value), ts[j]? = some t → us[j]? = some u → Own w' 0 t u (F c' j)) ∧
    (∀ c1 j c2 j' b, F c1 j b → F c2 j' b → c1 = c2 ∧ j = j') ∧ (∀ c1 j b, F c1 j b → w.heap.size ≤ b ∧ b < w'.heap.size) ∧ Only c w w'
def VK {Y : Type} (ad : Option Addr) (len cap : Nat) (zs : List Int) (Pr : Y → Prop) (P : Program) (f : FuncId) (xs : List Value) (tup : Bool) (rs : Y → List (Bool × List T)) : Prop :=
  ∀ (w : World) (c : Nat) (σ : Int × Int), Code ad len cap zs w → Cur ad len cap zs σ w c → Calls P f (Value.pointer (some ⟨c, 0, none⟩) :: xs).toArray w fun e w' => ∃ y τ, Pr y ∧ Cur ad len cap zs τ w' c ∧ GivesC w c tup (rs y) e w'
theorem givesC_lit {c : Nat} {w' : World} {v : Value} (h1 : v.oneCell' = true) (h : Only c w w') : GivesC w c false [(false, [.lit v])] (.returned v) w' :=
  ⟨[[v]], fun _ _ _ => False, rfl, rfl, fun c' ag ts us hc hu => by
    match c', hc, hu with
    | 0, hc, hu => cases hc; cases hu; exact ⟨rfl, fun j t u h2 h3 => by match j, h2, h3 with | 0, h2, h3 => cases h2; cases h3; exact .lit h1⟩, fun _ _ _ _ _ h => h.elim, fun _ _ _ h => h.elim, h⟩
theorem givesC_rows {c : Nat} {w' : World} {v : Value} {L : List R} (ho : w'.ownsRow w.heap.size 72 3 v L.length (cells3 L)) (h : Only c w w') : GivesC w c false [(false, [.seq 72 (L.map tRow)])] (.returned v) w' :=
  ⟨[[v]], fun c1 j b => c1 = 0 ∧ j = 0 ∧ v.ownBlock = some b, rfl, rfl, fun c' ag ts us hc hu => by
    match c', hc, hu with
    | 0, hc, hu => cases hc; cases hu; exact ⟨rfl, fun j t u h2 h3 => by match j, h2, h3 with | 0, h2, h3 => cases h2; cases h3; exact (own_rows ho).mono fun b hb => ⟨rfl, rfl, hb⟩⟩, fun _ _ _ _ _ h h' => ⟨h.1.trans h'.1.symm, h.2.1.trans h'.2.1.symm⟩, fun _ _ b h => World.ownsRow.lt ho b h.2.2, h⟩
theorem vk_below (n : Int) (h1 : 1 ≤ n) (h2 : n ≤ 1000000000) : VK ad len cap zs (fun x : Int => 0 ≤ x ∧ x < n) Tryz.prog 27 [.int .i64 n] false fun x => [(false, [.lit (.int .i64 x)])] := fun w c σ hC hc =>
  (below_any ad len cap zs σ c w hc n h1 h2).mono fun e w' ⟨x, τ, hf, he, hc', ho⟩ => ⟨x, τ, belowS_range h1 hf, hc', by rw [he]; exact givesC_lit rfl ho⟩
theorem vk_once (n : Int) (h1 : 1 ≤ n) (h2 : n ≤ 1000000000) : VK ad len cap zs (fun _ : Bool => True) Tryz.prog 42 [.int .i64 n] false fun x => [(false, [.lit (.bool x)])] := fun w c σ hC hc =>
  (once_any ad len cap zs σ c w hc n h1 h2).mono fun e w' ⟨x, τ, hf, he, hc', ho⟩ => ⟨x == 0, τ, trivial, hc', by rw [he]; exact givesC_lit rfl ho⟩
theorem vk_rows (n : Int) (h1 : 0 ≤ n) (h2 : n ≤ 1000) : VK ad len cap zs (fun L : List R => (L.length : Int) ≤ n ∧ ∀ r ∈ L, r.wf) Tryz.prog 54 [.int .i64 n] false fun L => [(false, [.seq 72 (L.map tRow)])] := fun w c σ hC hc =>
  (rows_any ad len cap zs σ c w hc hC.old n h1 h2).mono fun e w' ⟨v, L, τ, hf, he, hw, hc', ho⟩ => ⟨L, τ, ⟨by have := rowsS_length zs len n σ h1; rwa [hf] at this, by have := rowsS_wf zs len n σ; rwa [hf] at this⟩, hc', by rw [he]; exact givesC_rows hw ho⟩
theorem vk_bent (n : Int) (h1 : 0 ≤ n) (h2 : n ≤ 900) : VK ad len cap zs (fun L : List R => (L.length : Int) ≤ n + 1 ∧ ∀ r ∈ L, r.wf) Tryz.prog 28 [.int .i64 n] false fun L => [(false, [.seq 72 (L.map tRow)])] := fun w c σ hC hc =>
  (bent_any ad len cap zs σ c w hc hC.old n h1 (by omega)).mono fun e w' ⟨v, L, τ, hf, he, hw, hc', ho⟩ => ⟨L, τ, ⟨by have := bentS_length zs len n σ h1; rwa [hf] at this, by have := bentS_wf zs len n σ; rwa [hf] at this⟩, hc', by rw [he]; exact givesC_rows hw ho⟩
theorem Rel.answer (h : Rel E N σ a w G) {fn : Func} {rs : List ResultVar} {ps : List (Bool × List Leaf)} {tup : Bool} {qs : List (Bool × List T)} (hf : fn.results = rs.toArray) (hr : ResAll P σ rs ps) (ho : σ.outss ps qs) (ht : (!(Nat.beq qs.length 1)) = tup) (h2 : (ps.flatMap (·.2)).Pairwise two) : a.defers = [] ∧ ∃ v, (results fn a.tmps).run P w = .ok v w ∧ ∃ (uss : List (List Value)) (F : Nat → Nat → Nat → Prop), uss.length = qs.length ∧ Ending.returned v = .returned (vval tup (List.zipWith (fun (r : Bool × List T) us => cval r.1 us) qs uss)) ∧
    (∀ (c : Nat) (ag : Bool) (ts : List T) (us : List Value), qs[c]? = some (ag, ts) → uss[c]? = some us → us.length = ts.length ∧ ∀ (j : Nat) (t : T) (u : Value), ts[j]? = some t → us[j]? = some u → Own w 0 t u (F c j)) ∧
    (∀ c j c' j' b, F c j b → F c' j' b → c = c' ∧ j = j') ∧ ∀ c j b, F c j b → ∃ i, σ.ob i ≠ none ∧ G.ft i b := by
  obtain ⟨uss, h3, h4, h5⟩ := h.resAll hr
  obtain ⟨h6, h7⟩ := outss_get ho
  have hrun := results_run hf h4
  have hlen : (List.zipWith (fun (p : Bool × List Leaf) us => cval p.1 us) ps uss).length = qs.length := by simp [h3, h6]
  have hag : ∀ c ag ts, qs[c]? = some (ag, ts) → ∃ xs, ps[c]? = some (ag, xs) ∧ σ.outs xs ts := h7
  have hzip : List.zipWith (fun (p : Bool × List Leaf) us => cval p.1 us) ps uss = List.zipWith (fun (q : Bool × List T) us => cval q.1 us) qs uss := by
    apply List.ext_getElem?
    intro c
    rw [List.getElem?_zipWith, List.getElem?_zipWith]
    cases hq : qs[c]? with
    | none =>
      have : ps[c]? = none := by rw [List.getElem?_eq_none_iff] at hq ⊢; omega
      rw [this]
    | some q =>
      obtain ⟨ag, ts⟩ := q
      obtain ⟨xs, hp, -⟩ := hag c ag ts hq
      rw [hp]
      cases uss[c]? <;> rfl
  rw [hlen, ht, hzip] at hrun
  refine ⟨h.dfr, _, hrun, uss, (fun c j b => ∃ ag xs x, ps[c]? = some (ag, xs) ∧ xs[j]? = some x ∧ x.foot G b), h3.trans h6, rfl, fun c ag ts us hq hu => ?_, ?_, ?_⟩
  · obtain ⟨xs, hp, hx⟩ := hag c ag ts hq
    obtain ⟨h8, h9⟩ := outs_get hx
    obtain ⟨h10, h11⟩ := h5 c ag xs us hp hu
    refine ⟨h10.trans h8, fun j t u hj hu' => ?_⟩
    obtain ⟨x, hx1, hx2⟩ := h9 j t hj
    exact (h.out (h11 j x u hx1 hu') hx2).mono fun b hb => ⟨ag, xs, x, hp, hx1, hb⟩
  · rintro c j c' j' b ⟨ag, xs, x, h8, h9, h10⟩ ⟨ag', xs', x', h8', h9', h10'⟩
    have key : ∀ {x x' : Leaf}, x.foot G b → x'.foot G b → (∃ t, σ.out x = some t) → (∃ t, σ.out x' = some t) → ¬ two x x' := fun {x x'} k1 k2 k3 k4 k5 => by
      cases x with
      | hd i =>
        cases x' with
        | hd i' =>
          by_cases hii : i = i'
          · exact k5 i rfl (by rw [hii])
          · obtain ⟨t, k3⟩ := k3
            obtain ⟨t', k4⟩ := k4
            obtain ⟨p, e1, -⟩ := Option.map_eq_some_iff.1 k3
            obtain ⟨p', e2, -⟩ := Option.map_eq_some_iff.1 k4
            exact h.disj i i' b (by rw [e1]; simp) (by rw [e2]; simp) hii k1 k2
        | _ => exact k2
      | _ => exact k1
    have hout : ∀ {c j ag xs x}, ps[c]? = some (ag, xs) → xs[j]? = some x → ∃ t, σ.out x = some t := fun {c j ag xs x} k1 k2 => by
      have hc : c < qs.length := by rw [← h6]; exact get_lt k1
      obtain ⟨xs', k3, k4⟩ := hag c qs[c].1 qs[c].2 (by rw [List.getElem?_eq_getElem hc])
      rw [k1] at k3
      cases k3
      obtain ⟨k5, k6⟩ := outs_get k4
      have hj : j < qs[c].2.length := by rw [← k5]; exact get_lt k2
      obtain ⟨y, k7, k8⟩ := k6 j qs[c].2[j] (List.getElem?_eq_getElem hj)
      rw [k2] at k7
      cases k7
      exact ⟨_, k8⟩
    rw [List.pairwise_flatMap] at h2
    have o1 := hout h8 h9
    have o2 := hout h8' h9'
    have hc1 := get_lt h8
    have hc2 := get_lt h8'
    have g1 : ps[c] = (ag, xs) := by rw [List.getElem?_eq_getElem hc1] at h8; exact Option.some.inj h8
    have g2 : ps[c'] = (ag', xs') := by rw [List.getElem?_eq_getElem hc2] at h8'; exact Option.some.inj h8'
    have m1 := get_mem h9
    have m2 := get_mem h9'
    rcases Nat.lt_trichotomy c c' with hcc | hcc | hcc
    · have := (List.pairwise_iff_getElem.1 h2.2) c c' hc1 hc2 hcc x (by rw [g1]; exact m1) x' (by rw [g2]; exact m2)
      exact absurd this (key h10 h10' o1 o2)
    · subst hcc
      rw [h8] at h8'
      cases h8'
      refine ⟨rfl, ?_⟩
      have hp := h2.1 _ (get_mem h8)
      have hj1 := get_lt h9
      have hj2 := get_lt h9'
      have x1 : xs[j] = x := by rw [List.getElem?_eq_getElem hj1] at h9; exact Option.some.inj h9
      have x2 : xs[j'] = x' := by rw [List.getElem?_eq_getElem hj2] at h9'; exact Option.some.inj h9'
      rcases Nat.lt_trichotomy j j' with hjj | hjj | hjj
      · have := (List.pairwise_iff_getElem.1 hp) j j' hj1 hj2 hjj
        rw [x1, x2] at this
        exact absurd this (key h10 h10' o1 o2)
      · exact hjj
      · have := (List.pairwise_iff_getElem.1 hp) j' j hj2 hj1 hjj
        rw [x1, x2] at this
        exact absurd this (key h10' h10 o2 o1)
    · have := (List.pairwise_iff_getElem.1 h2.2) c' c hc2 hc1 hcc x' (by rw [g2]; exact m2) x (by rw [g1]; exact m1)
      exact absurd this (key h10' h10 o2 o1)
  · rintro c j b ⟨ag, xs, x, h8, h9, h10⟩
    have hc : c < qs.length := by rw [← h6]; exact get_lt h8
    obtain ⟨xs', k3, k4⟩ := hag c qs[c].1 qs[c].2 (by rw [List.getElem?_eq_getElem hc])
    rw [h8] at k3
    cases k3
    obtain ⟨k5, k6⟩ := outs_get k4
    have hj : j < qs[c].2.length := by rw [← k5]; exact get_lt h9
    obtain ⟨y, k7, k8⟩ := k6 j qs[c].2[j] (List.getElem?_eq_getElem hj)
    rw [h9] at k7
    cases k7
    cases x with
    | hd i =>
      obtain ⟨p, e1, -⟩ := Option.map_eq_some_iff.1 k8
      exact ⟨i, by rw [e1]; simp, h10⟩
    | _ => exact h10.elim
theorem Rel.newbox (h : Rel E N σ a w G) {w' : World} {c : Nat} (hb : Below w.heap.size w w') (hge : w.heap.size ≤ c) {ty : TypeId} {us : List Value} {xs : List Leaf} (hnew : w'.heap[c]? = some (.cells us.toArray ty (0, 0))) (hl : us.length = xs.length) (hx : ∀ (j : Nat) (x : Leaf) (u : Value), xs[j]? = some x → us[j]? = some u → Holds G σ E w x u ∧ u.oneCell' = true) :
    ∃ G', Rel E N { σ with bs := σ.bs ++ [(ty, xs)] } a w' G' ∧ G'.β σ.bs.length = c ∧ G'.vl = G.vl ∧ ∀ b, b < σ.bs.length → G'.β b = G.β b := by
  have h' := h.ext hb
  have hlt : ∀ b ty xs, σ.bs[b]? = some (ty, xs) → G.β b < w.heap.size := fun b ty xs hb => by
    obtain ⟨-, us, h2, -⟩ := h.boxes b ty xs hb
    exact lt_of_block h2
  have hlt' : ∀ b, b < σ.bs.length → G.β b < w.heap.size := fun b hb => hlt b _ _ (List.getElem?_eq_getElem hb)
  obtain ⟨G', hG'⟩ : ∃ G' : Ghost, G' = { G with β := fun b => if b = σ.bs.length then c else G.β b } := ⟨_, rfl⟩
  have hβ : ∀ b, b < σ.bs.length → G'.β b = G.β b := fun b hb => by rw [hG']; exact if_neg (by omega)
  have hβ' : G'.β σ.bs.length = c := by rw [hG']; exact if_pos rfl
  have hvl : G'.vl = G.vl := by rw [hG']
  have hft : G'.ft = G.ft := by rw [hG']
  have s : Step E σ { σ with bs := σ.bs ++ [(ty, xs)] } w' w' G G' := ⟨Nat.le_refl _, fun b hb' => rfl, Nat.le_refl _, by simp, fun i _ => by rw [hvl], hβ,
    fun i v' t' hi hv => ⟨v', t', hv, Nat.le_refl _, fun _ => ⟨rfl, fun b hb' => (h'.ftlt i b (by rw [show σ.ob i = some (v', t') from hv]; simp) hb').2, fun b hb' => ⟨by rw [hft]; exact hb', rfl⟩⟩⟩⟩
  refine ⟨G', ⟨h'.below, h.dfr, h.nsz, fun k => (h'.tmps k).step fun x u hx => h'.leaf s hx, fun b ty' xs' hb' => ?_, fun b b' hb1 hb2 e => ?_, fun b i hb1 hi hb2 => ?_, fun i v t hi => ?_, ?_, ?_, ⟨h.lent.1, fun i hi => by rw [hvl]; exact h.lent.2.1 i hi, fun c' hc => ⟨by simp, (hβ 0 (h.lent.2.2 c' hc).1).trans (h.lent.2.2 c' hc).2⟩⟩⟩, hβ', hvl, hβ⟩
  · rcases Nat.lt_or_ge b σ.bs.length with hbl | hbl
    · have hb2 : σ.bs[b]? = some (ty', xs') := by rw [List.getElem?_append_left hbl] at hb'; exact hb'
      obtain ⟨h1, us', h2, h3, h4⟩ := h'.boxes b ty' xs' hb2
      rw [hβ b hbl]
      exact ⟨h1, us', h2, h3, fun j x u hx' hu => ⟨h'.leaf s (h4 j x u hx' hu).1, (h4 j x u hx' hu).2⟩⟩
    · have hbe : b = σ.bs.length := by have := get_lt hb'; simp at this; omega
      subst hbe
      have he : (ty, xs) = (ty', xs') := by simpa using hb'
      injection he with e1 e2
      subst e1 e2
      rw [hβ']
      refine ⟨.inl (Nat.le_trans h.low hge), us, hnew, hl, fun j x u hx' hu => ⟨?_, (hx j x u hx' hu).2⟩⟩
      have s0 : Step E σ σ w w' G G := ⟨hb.size, fun b hb' => hb.block b (Nat.lt_of_lt_of_le hb'.1 h.low), Nat.le_refl _, Nat.le_refl _, fun _ _ => rfl, fun _ _ => rfl,
        fun i v' t' hi hv => ⟨v', t', hv, Nat.le_refl _, fun _ => ⟨rfl, fun b hb' => (h.ftlt i b (by rw [hv]; simp) hb').2, fun b hb' => ⟨hb', hb.block b (h.ftlt i b (by rw [hv]; simp) hb').2⟩⟩⟩⟩
      exact h'.leaf s (h.leaf s0 (hx j x u hx' hu).1)
  · have hb1' : b ≤ σ.bs.length := by simpa [Nat.lt_succ_iff] using hb1
    have hb2' : b' ≤ σ.bs.length := by simpa [Nat.lt_succ_iff] using hb2
    rcases Nat.lt_or_ge b σ.bs.length with hbl | hbl <;> rcases Nat.lt_or_ge b' σ.bs.length with hbl' | hbl'
    · rw [hβ b hbl, hβ b' hbl'] at e
      exact h.inj b b' hbl hbl' e
    · rw [hβ b hbl, show b' = σ.bs.length by omega, hβ'] at e
      have := hlt' b hbl
      omega
    · rw [hβ b' hbl', show b = σ.bs.length by omega, hβ'] at e
      have := hlt' b' hbl'
      omega
    · omega
  · have hb1' : b ≤ σ.bs.length := by simpa [Nat.lt_succ_iff] using hb1
    rw [hft] at hb2
    rcases Nat.lt_or_ge b σ.bs.length with hbl | hbl
    · rw [hβ b hbl] at hb2
      exact h.boxft b i hbl hi hb2
    · rw [show b = σ.bs.length by omega, hβ'] at hb2
      have := (h.ftlt i _ hi hb2).2
      omega
  · rw [hvl, hft]; exact h'.objs i v t hi
  · rw [hft]; exact h'.disj
  · rw [hft]; exact h'.ftlt
theorem wanted0 {f : Nat → Option Bool} (hg : o.guard = none) : Region.wanted o f = true := by simp [Region.wanted, hg]
theorem callK_core {Y : Type} {Pr : Y → Prop} (hC : E.code ad len cap zs) {d b : Nat} {f : FuncId} {x0 : Operand} {xs : List Operand} {us : List Value} {ats : Array TypeId} {tup : Bool} {rs : Y → List (Bool × List T)} {p h0 : Int} (ho : o.op = .call { callee := .value (.func f), args := (x0 :: xs).toArray, argTypes := ats }) (hb : ∃ fn c, P.funcs[f]? = some fn ∧ fn.body = some c ∧ fn.name ≠ "runtime.NumGoroutine")
    (hc : VK ad len cap zs Pr P f us tup rs) (hx0 : σ.ev x0 = V.one (.bp b 0)) (hx : σ.scs xs us) (hbx : σ.bs[b]? = some (75, curL ad len cap p h0)) (hp : 0 ≤ p ∧ p ≤ len) (hd : o.dst = some d) (hdN : d < N) {a : Act} {w : World} {G : Ghost} (h : Rel E N σ a w G) {K : Act → World → Prop} (hK : ∀ (y : Y) (p' h' : Int) (a' : Act) (w' : World) (G' : Ghost), Pr y → 0 ≤ p' ∧ p' ≤ len → Rel E N ((ansSs (σ.setb b 75 (curL ad len cap p' h')) (rs y)).put d ⟨tup, ansLs σ.nx (rs y)⟩) a' w' G' → Only (G.β b) w w' → (∀ i, i < σ.nx → G'.vl i = G.vl i) → G'.β = G.β → σ.nx ≤ (ansSs (σ.setb b 75 (curL ad len cap p' h')) (rs y)).nx → K a' w') : o.wp P a w K Q := by
  obtain ⟨fn, c, h1, h2, h2'⟩ := hb
  obtain ⟨hB, us0, b1, b2, b3⟩ := h.boxes b _ _ hbx
  have hus0 : us0 = [.slice ad len cap, .int .i64 p, .int .i64 h0] := by
    match us0, b2 with
    | [u, v, z], _ =>
      have e1 : u = .slice ad len cap := (b3 0 _ u rfl rfl).1.1
      have e2 : v = .int .i64 p := (b3 1 _ v rfl rfl).1.1
      have e3 : z = .int .i64 h0 := (b3 2 _ z rfl rfl).1.1
      rw [e1, e2, e3]
  subst hus0
  have hcode := hC.at h.below
  have hcur : Cur ad len cap zs (p, h0) w (G.β b) := ⟨hcode.row, fun x hx hpos e => by
    have hlt := hC.1.old x hx hpos
    rcases hB with hB | hB
    · rw [← e] at hB; exact absurd hlt (Nat.not_lt.2 hB)
    · rw [← e] at hB; exact hC.2 x hx hpos hB, hp.1, hp.2, b1⟩
  have hcall := hc w (G.β b) (p, h0) hcode hcur
  have hx0v : a.eval x0 = .pointer (some ⟨G.β b, 0, none⟩) := by
    have := h.ev x0
    rw [hx0, vone] at this
    exact this.1.2
  have hev : (x0 :: xs).map a.eval = Value.pointer (some ⟨G.β b, 0, none⟩) :: us := by rw [List.map_cons, hx0v, (h.scs hx).1]
  have hrun : (execOp a.eval o).run P w = .ok (.enter f ((x0 :: xs).map a.eval).toArray) w := by
    simp [execOp, ho, resolve, Act.eval, Deferred.ofValue, invoke, callFunc, h1, h2, h2', Result.andThen]
  unfold Oper.wp
  rw [hrun, hev]
  refine hcall.mono fun e w' ⟨y0, τ0, hy0, hcur', uss, F, h3, h4, h5, h6, h6', h7'⟩ => ?_
  subst h4
  obtain ⟨p', h'0⟩ := τ0
  have hβlt : G.β b < w.heap.size := lt_of_block b1
  obtain ⟨w1, hw1⟩ : ∃ w1 : World, w1 = { w with heap := w.heap.setIfInBounds (G.β b) (.cells #[.slice ad len cap, .int .i64 p', .int .i64 h'0] 75 (0, 0)) } := ⟨_, rfl⟩
  have hsz1 : w1.heap.size = w.heap.size := by rw [hw1]; simp
  have hfar : ∀ k, k ≠ G.β b → w1.heap[k]? = w.heap[k]? := fun k hk => by rw [hw1]; simp [Array.getElem?_setIfInBounds_ne (Ne.symm hk)]
  have hnew1 : w1.heap[G.β b]? = some (.cells #[.slice ad len cap, .int .i64 p', .int .i64 h'0] 75 (0, 0)) := by rw [hw1]; simp [hβlt]
  have hsame1 : Same E w w1 := ⟨by rw [hw1], by rw [hw1], by rw [hw1], by rw [hsz1]; exact Nat.le_refl _, fun k hk => hfar k fun e => by
    subst e
    exact hB.elim (fun hB => Nat.lt_irrefl _ (Nat.lt_of_lt_of_le hk.1 hB)) hk.2⟩
  have hr1 := h.setbox (us' := [.slice ad len cap, .int .i64 p', .int .i64 h'0]) (xs' := curL ad len cap p' h'0) (w' := w1) hbx hsame1 hfar hnew1 rfl fun j x u hj hu => by
    match j, hj, hu with
    | 0, hj, hu => cases hj; cases hu; exact ⟨⟨rfl, .inr rfl⟩, rfl⟩
    | 1, hj, hu => cases hj; cases hu; exact ⟨⟨rfl, .inr rfl⟩, rfl⟩
    | 2, hj, hu => cases hj; cases hu; exact ⟨⟨rfl, .inr rfl⟩, rfl⟩
  have h7 : Below w1.heap.size w1 w' := ⟨by rw [h7'.os, hw1], by rw [h7'.tape, hw1], by rw [h7'.output, hw1], by rw [hsz1]; exact h7'.size, fun k hk => by
    by_cases hkb : k = G.β b
    · subst hkb; exact hcur'.cell.trans hnew1.symm
    · rw [hfar k hkb]; exact h7'.block k (by rw [hsz1] at hk; exact hk) fun e => hkb (Option.some.inj e)⟩
  have h' := hr1.ext h7
  have hfresh : ∀ q, w.heap.size ≤ q → Fresh σ G q := fun q hq => h.fresh hq
  obtain ⟨G', k1, k2, k3, k4, k5, k6, k7, k8⟩ := Rel.addAlls (rs y0) uss F h' h3 (fun c ag ts us hc hu => ⟨(h5 c ag ts us hc hu).1, fun j t u hj hu' => (h5 c ag ts us hc hu).2 j t u hj hu'⟩) (fun c j b hb => by
    have hbw : w.heap.size ≤ b := (h6' c j b hb).1
    exact ⟨⟨fun i hi hf => by have := (h.ftlt i b hi hf).2; omega, fun q hq => (h.fresh hbw).2 q (by simpa using hq)⟩, .inl (Nat.le_trans h.low hbw), (h6' c j b hb).2⟩) h6
  have k3 : (ansLs σ.nx (rs y0)).length = (rs y0).length := k3
  rw [hd]
  refine hK y0 p' h'0 _ _ _ hy0 ⟨hcur'.low, hcur'.high⟩ (k1.put hdN ⟨uss, h3.trans k3.symm, ?_, fun c ag xs us hc hu => ⟨(k4 c ag xs us hc hu).1, (k4 c ag xs us hc hu).2.2⟩⟩) h7' k6 k7 k5
  congr 1
  apply List.ext_getElem?
  intro c
  rw [List.getElem?_zipWith, List.getElem?_zipWith]
  cases hq : (ansLs σ.nx (rs y0))[c]? with
  | none =>
    have : (rs y0)[c]? = none := by rw [List.getElem?_eq_none_iff] at hq ⊢; omega
    rw [this]
  | some q =>
    obtain ⟨ag, xs'⟩ := q
    have hcl : c < uss.length := by have := get_lt hq; omega
    obtain ⟨-, ⟨ts, hts⟩, -⟩ := k4 c ag xs' uss[c] hq (List.getElem?_eq_getElem hcl)
    rw [hts, List.getElem?_eq_getElem hcl]
theorem SV.callK {Y : Type} {Pr : Y → Prop} (hC : E.code ad len cap zs) {d b : Nat} {f : FuncId} {x0 : Operand} {xs : List Operand} {us : List Value} {ats : Array TypeId} {tup : Bool} {rs : Y → List (Bool × List T)} {rest : List Oper} {ops : Array Oper} {p h0 : Int} (ho : o.op = .call { callee := .value (.func f), args := (x0 :: xs).toArray, argTypes := ats }) (hb : ∃ fn c, P.funcs[f]? = some fn ∧ fn.body = some c ∧ fn.name ≠ "runtime.NumGoroutine")
    (hc : VK ad len cap zs Pr P f us tup rs) (hx0 : σ.ev x0 = V.one (.bp b 0)) (hx : σ.scs xs us) (hbx : σ.bs[b]? = some (75, curL ad len cap p h0)) (hp : 0 ≤ p ∧ p ≤ len) (hd : o.dst = some d) (hdN : d < N) (hw : ∀ {a w G}, Rel E N σ a w G → Region.wanted o (yielded ops a.tmps) = true)
    (k : ∀ (y : Y) (p' h' : Int), Pr y → 0 ≤ p' ∧ p' ≤ len → SV E N ((ansSs (σ.setb b 75 (curL ad len cap p' h')) (rs y)).put d ⟨tup, ansLs σ.nx (rs y)⟩) (wpList P ops Q rest)) : SV E N σ (wpList P ops Q (o :: rest)) := fun a w G h => by
  refine wpList_step fun K hK => ?_
  rw [if_pos (hw h)]
  exact callK_core hC ho hb hc hx0 hx hbx hp hd hdN h fun y p' h' a' w' G' hy hp' hr _ _ _ _ => hK _ _ (k y p' h' hy hp' _ _ _ hr)
theorem SV.callNew (hC : E.code ad len cap zs) {d kk : Nat} {x0 : Operand} {ats : Array TypeId} {rest : List Oper} {ops : Array Oper} (hk : σ.bs.length = kk) (hb0 : ∃ fn c, Tryz.prog.funcs[25]? = some fn ∧ fn.body = some c ∧ fn.name ≠ "runtime.NumGoroutine") (ho : o.op = .call { callee := .value (.func 25), args := #[x0], argTypes := ats }) (hx0 : σ.ev x0 = V.one (.sc (.slice ad len cap))) (hd : o.dst = some d) (hdN : d < N) (hg : o.guard = none)
    (k : ∀ h0 : Int, SV E N (({ σ with bs := σ.bs ++ [(75, curL ad len cap 0 h0)] } : VS).put d (V.one (.bp kk 0))) (wpList Tryz.prog ops Q rest)) : SV E N σ (wpList Tryz.prog ops Q (o :: rest)) := fun a w G h => by
  subst hk
  refine wpList_step fun K hK => ?_
  rw [if_pos (by simp [Region.wanted, hg])]
  have hcode := hC.at h.below
  have hx0v : a.eval x0 = .slice ad len cap := h.sc hx0
  have hrun : (execOp a.eval o).run Tryz.prog w = .ok (.enter 25 #[.slice ad len cap]) w := by
    obtain ⟨fn, c, h1, h2, h2'⟩ := hb0
    have e0 : a.eval (.func 25) = .func (.func 25) #[] #[] := rfl
    simp [execOp, ho, hx0v, e0, resolve, Deferred.ofValue, invoke, callFunc, h1, h2, h2', Result.andThen]
  unfold Oper.wp
  rw [hrun]
  refine (new_any ad len cap zs w hcode.row hcode.small hcode.old).mono fun e w' ⟨c, he, hcur, hge, hb⟩ => ?_
  subst he
  obtain ⟨G', k1, k2, k3, k4⟩ := h.newbox (us := [.slice ad len cap, .int .i64 0, .int .i64 (newH zs len)]) (xs := curL ad len cap 0 (newH zs len)) hb hge hcur.cell rfl fun j x u hj hu => by
    match j, hj, hu with
    | 0, hj, hu => cases hj; cases hu; exact ⟨⟨rfl, .inr rfl⟩, rfl⟩
    | 1, hj, hu => cases hj; cases hu; exact ⟨⟨rfl, .inr rfl⟩, rfl⟩
    | 2, hj, hu => cases hj; cases hu; exact ⟨⟨rfl, .inr rfl⟩, rfl⟩
  rw [hd]
  exact hK _ _ (k (newH zs len) _ _ _ (k1.put hdN (vone.2 ⟨⟨by simp, by rw [k2]⟩, .inr rfl⟩)))
theorem SV.doneE {Y : Type} {Pr : Y → Prop} {fn : Func} {rvs : List ResultVar} {ps : List (Bool × List Leaf)} {tup : Bool} {rs : Y → List (Bool × List T)} (y : Y) (hy : Pr y) (hf : fn.results = rvs.toArray) (hr : ResAll P σ rvs ps) (ho : σ.outss ps (rs y)) (ht : (!(Nat.beq (rs y).length 1)) = tup) (h2 : (ps.flatMap (·.2)).Pairwise two) {e : Exit} (he : e = .ret ∨ e = .normal) : SV E N σ (bodyPost P fn (fun e w' => ∃ y, Pr y ∧ Gives E tup (rs y) e w') e) := fun a w G h => by
  have h1 := SV.done (P := P) (E := E) (N := N) (σ := σ) hf hr ho ht h2 he a w G h
  rcases he with rfl | rfl
  all_goals
    obtain ⟨h3, v, h4, h5⟩ := h1
    exact ⟨h3, v, h4, y, hy, h5⟩
theorem VK.enter {Y : Type} {Pr : Y → Prop} {f : FuncId} {fn : Func} {c0 : Go.Code} {n : Nat} {us : List Value} {tup : Bool} {rs : Y → List (Bool × List T)} (hf : P.funcs[f]? = some fn) (hb : fn.body = some c0) (hn : fn.ntmps = n) (hl : us.length + 1 ≤ n) (hone : ∀ u ∈ us, u.oneCell' = true)
    (h : ∀ (E : Env) (c : Nat) (p h0 : Int), E.nl = 0 → E.code ad len cap zs → (E.pin = some c ∧ ∀ b, E.ln b → b = c) → 0 ≤ p ∧ p ≤ len → SV E n ⟨fun s => (V.one (.bp 0 0) :: us.map fun u => V.one (.sc u)).getD s (V.one .dead), [(75, curL ad len cap p h0)], fun _ => none, 0⟩ (c0.wp P (bodyPost P fn fun e w' => ∃ y τ, Pr y ∧ Cur ad len cap zs τ w' c ∧ GivesC E.w0 c tup (rs y) e w'))) : VK ad len cap zs Pr P f us tup rs := fun w c σ hcode hcur => by
  refine calls_of_wp hf hb ?_
  obtain ⟨p, h0⟩ := σ
  obtain ⟨E, hE⟩ : ∃ E : Env, E = ⟨w, fun b => b = c, fun b hb => by rw [hb]; exact hcur.lt, fun _ => undef, 0, some c⟩ := ⟨_, rfl⟩
  have hEC : E.code ad len cap zs := by subst hE; exact ⟨hcode, fun x hx hp e => hcur.apart x hx hp e⟩
  have h1 := h E c p h0 (by rw [hE]) hEC (by subst hE; exact ⟨rfl, fun b hb => hb⟩) ⟨hcur.low, hcur.high⟩ { tmps := (Value.pointer (some ⟨c, 0, none⟩) :: us).toArray ++ Array.replicate (n - (us.length + 1)) undef, defers := [] } w ⟨fun _ => c, fun _ => undef, fun _ _ => False⟩ (by
    subst hE
    refine ⟨Same.refl _ _, rfl, by simp; omega, fun s => ?_, fun b ty xs hb => ?_, fun b b' hb hb' _ => (by simp at hb hb'; omega), fun b i hb hi => absurd rfl hi, fun i v t hi => (by cases hi), fun i j b hi => absurd rfl hi, fun i b hi => absurd rfl hi, ⟨Nat.le_refl _, fun i hi => absurd hi (Nat.not_lt_zero i), fun c' hc' => ⟨by simp, Option.some.inj hc'⟩⟩⟩
    · rcases Nat.lt_or_ge s (us.length + 1) with hs | hs
      · have e2 : ((Value.pointer (some ⟨c, 0, none⟩) :: us).toArray ++ Array.replicate (n - (us.length + 1)) undef).getD s undef = (Value.pointer (some ⟨c, 0, none⟩) :: us).getD s undef := by
          simp only [Array.getD_eq_getD_getElem?]
          rw [Array.getElem?_append_left (by simpa using hs)]
          simp [List.getD]
        show VHolds _ _ _ _ ((V.one (.bp 0 0) :: us.map fun u => V.one (.sc u)).getD s (V.one .dead)) _
        rw [e2]
        cases s with
        | zero => exact vone.2 ⟨⟨by simp, rfl⟩, .inr rfl⟩
        | succ s =>
          have hs' : s < us.length := by omega
          have e3 : (V.one (.bp 0 0) :: us.map fun u => V.one (.sc u)).getD (s + 1) (V.one .dead) = V.one (.sc us[s]) := by simp [List.getD, hs']
          have e4 : (Value.pointer (some ⟨c, 0, none⟩) :: us).getD (s + 1) undef = us[s] := by simp [List.getD, hs']
          rw [e3, e4]
          exact vone.2 ⟨rfl, .inr (hone _ (List.getElem_mem hs'))⟩
      · have e3 : (V.one (.bp 0 0) :: us.map fun u => V.one (.sc u)).getD s (V.one .dead) = V.one .dead := by simp [List.getD, show us.length + 1 ≤ s by omega]
        show VHolds _ _ _ _ ((V.one (.bp 0 0) :: us.map fun u => V.one (.sc u)).getD s (V.one .dead)) _
        rw [e3]
        exact vone.2 ⟨trivial, .inl rfl⟩
    · have hb0 : b = 0 := by have := get_lt hb; simpa using this
      subst hb0
      cases hb
      refine ⟨.inr rfl, [.slice ad len cap, .int .i64 p, .int .i64 h0], hcur.cell, rfl, fun j x u hj hu => ?_⟩
      match j, hj, hu with
      | 0, hj, hu => cases hj; cases hu; exact ⟨⟨rfl, .inr rfl⟩, rfl⟩
      | 1, hj, hu => cases hj; cases hu; exact ⟨⟨rfl, .inr rfl⟩, rfl⟩
      | 2, hj, hu => cases hj; cases hu; exact ⟨⟨rfl, .inr rfl⟩, rfl⟩)
  rw [hn]
  have e0 : E.w0 = w := by rw [hE]
  rw [e0] at h1
  simpa using h1
theorem VCE.enter {Y : Type} {Pr : Y → Prop} {f : FuncId} {fn : Func} {c0 : Go.Code} {n : Nat} {tup : Bool} {rs : Y → List (Bool × List T)} (hf : P.funcs[f]? = some fn) (hb : fn.body = some c0) (hn : fn.ntmps = n) (hl : 1 ≤ n)
    (h : ∀ E, E.plain 0 → E.code ad len cap zs → SV E n (VS.init ([(false, [T.lit (.slice ad len cap)])].map fun p => V.flat p.1 (p.2.map argLeaf))) (c0.wp P (bodyPost P fn fun e w' => ∃ y, Pr y ∧ Gives E tup (rs y) e w'))) : VCE (fun w => Code ad len cap zs w) Pr P f [(false, [.lit (.slice ad len cap)])] tup rs := fun w hw vs hv => by
  refine calls_of_wp hf hb ?_
  obtain ⟨G, hG⟩ := init_rel (E := Env.of w) ⟨rfl, rfl⟩ (n := n) hv (by rw [hv.1]; exact hl)
  have := h (Env.of w) ⟨rfl, rfl⟩ ⟨hw, fun _ _ _ h => h⟩ _ _ G hG
  rw [hn]
  have e : (Env.of w).w0 = w := rfl
  rw [e] at this
  simpa using this
end Go.Proofs.YtjdjceohlcimaaaGreatDoor.V
/- States told by trees: functions that are handed a cursor and more that they read; rows and numbers that are drawn. -/
namespace Go.Proofs.YtjdjceohlcimaaaGreatDoor.V
open Go Go.RowKit
set_option linter.unusedVariables false
variable {P : Program} {E : Env} {N nb : Nat} {σ σ' τ : VS} {o : Oper} {a : Act} {w : World} {G : Ghost} {Q : Exit → Act → World → Prop} {K : Act → World → Prop} {ad : Option Addr} {len cap : Nat} {zs : List Int}
def ArgsC (w : World) (c : Nat) (ins : List (Bool × List T)) (vs : List Value) : Prop :=
  vs.length = ins.length ∧ ∀ (k : Nat) (ag : Bool) (ts : List T) (v : Value), ins[k]? = some (ag, ts) → vs[k]? = some v → ∃ us : List Value, v = cval ag us ∧ us.length = ts.length ∧ ∀ (j : Nat) (t : T) (u : Value), ts[j]? = some t → us[j]? = some u → Inn (fun b => b < w.heap.size ∧ b ≠ c) w t u
def VKT {Y : Type} (ad : Option Addr) (len cap : Nat) (zs : List Int) (Pr : Y → Prop) (P : Program) (f : FuncId) (ins : List (Bool × List T)) (tup : Bool) (rs : Y → List (Bool × List T)) : Prop :=
  ∀ (w : World) (c : Nat) (σ : Int × Int), Code ad len cap zs w → Cur ad len cap zs σ w c → ∀ vs, ArgsC w c ins vs → Calls P f (Value.pointer (some ⟨c, 0, none⟩) :: vs).toArray w fun e w' => ∃ y τ, Pr y ∧ Cur ad len cap zs τ w' c ∧ GivesC w c tup (rs y) e w'
end Go.Proofs.YtjdjceohlcimaaaGreatDoor.V
/- States told by trees: a nested slice is taken out of an object, as an object of its own. -/
namespace Go.Proofs.YtjdjceohlcimaaaGreatDoor.V
open Go Go.RowKit
set_option linter.unusedVariables false
variable {P : Program} {E : Env} {N : Nat} {σ σ' τ : VS} {a : Act} {w ws : World} {G : Ghost}
theorem at_ne {n k k' j o : Nat} (hj : j < n) (ho : o < n) (h : k' ≠ k) : k' * n + j ≠ k * n + o := by
  rcases Nat.lt_or_gt_of_ne h with h1 | h1
  · have := Nat.mul_le_mul_right n (show k' + 1 ≤ k from h1)
    rw [Nat.add_mul, Nat.one_mul] at this
    omega
  · have := Nat.mul_le_mul_right n (show k + 1 ≤ k' from h1)
    rw [Nat.add_mul, Nat.one_mul] at this
    omega
theorem Own.take {ty pty : TypeId} {es : List (List T)} {e : List T} {ps : List (List T)} {v u : Value} {F : Nat → Prop} {k o : Nat} (h : Own w 0 (.seq ty es) v F) (hk : es[k]? = some e) (ho : e[o]? = some (.seq pty ps))
    (hu : ∀ xs : List Value, ∀ n, e.length = n → w.ownsRow 0 ty n v es.length xs → xs[k * n + o]? = some u) : ∃ D : Nat → Prop, Own w 0 (.seq pty ps) u D ∧ (∀ b, D b → F b) ∧ Own w 0 (.seq ty (es.set k (e.set o .any))) v (fun b => F b ∧ ¬ D b) := by
  cases h with
  | seq n hp hz hn xs hown Gs hr hone hF hG hne hd =>
    have hen : e.length = n := hn e (get_mem hk)
    have hon : o < n := by rw [← hen]; exact get_lt ho
    have hx := hu xs n hen hown
    refine ⟨Gs (k * n + o), hr k e o _ u hk ho hx, fun b hb => hG _ b hb, ?_⟩
    refine .seq n hp hz (fun f hf => ?_) xs (by rw [List.length_set]; exact hown) (fun i b => Gs i b ∧ i ≠ k * n + o) (fun k' e' j t u' h1 h2 h3 => ?_) hone (fun b hb => ⟨hF b hb, fun hg => hne _ b hg hb⟩) (fun i b hb => ⟨hG i b hb.1, fun hg => hb.2 (hd _ _ b hb.1 hg)⟩) (fun i b hb => hne i b hb.1) fun i j b h1 h2 => hd i j b h1.1 h2.1
    · rcases List.mem_or_eq_of_mem_set hf with h1 | h1
      · exact hn f h1
      · rw [h1, List.length_set]; exact hen
    · by_cases hkk : k' = k
      · subst hkk
        rw [List.getElem?_set_self (get_lt hk)] at h1
        cases h1
        by_cases hjo : j = o
        · subst hjo
          rw [List.getElem?_set_self (get_lt ho)] at h2
          cases h2
          exact .any (hone _ (get_mem h3))
        · rw [List.getElem?_set_ne (fun q => hjo q.symm)] at h2
          exact (hr k' e j t u' hk h2 h3).mono fun b hb => ⟨hb, by omega⟩
      · rw [List.getElem?_set_ne (fun q => hkk q.symm)] at h1
        have hjn : j < n := by rw [← hn e' (get_mem h1)]; exact get_lt h2
        exact (hr k' e' j t u' h1 h2 h3).mono fun b hb => ⟨hb, at_ne hjn hon hkk⟩
theorem Rel.take (h : Rel E N σ a w G) {d i ver k o p : Nat} {ag : Bool} {ls : List Leaf} {ty pty : TypeId} {es : List (List T)} {e : List T} {ps : List (List T)} (hd : d < N) (hs : σ.tm d = V.flat ag ls) (hp : ls[p]? = some (.nd i ver (.seq pty ps) (some (k, o)))) (hi : σ.ob i = some (ver, .seq ty es)) (hk : es[k]? = some e) (ho : e[o]? = some (.seq pty ps)) :
    ∃ G', Rel E N (((σ.setob i (.seq ty (es.set k (e.set o .any)))).new (.seq pty ps)).put d (V.flat ag (ls.set p (.hd σ.nx)))) a w G' ∧ (∀ j, j < σ.nx → G'.vl j = G.vl j) ∧ G'.β = G.β := by
  have ht := h.tmps d
  rw [hs] at ht
  obtain ⟨uss, hl, hval, hh⟩ := ht
  obtain ⟨us, rfl⟩ : ∃ us, uss = [us] := by
    match uss, hl with
    | [us], _ => exact ⟨us, rfl⟩
  obtain ⟨hlen, hcell⟩ := hh 0 ag ls us rfl rfl
  have hpl : p < us.length := by rw [hlen]; exact get_lt hp
  obtain ⟨u, hu⟩ : ∃ u, us[p]? = some u := ⟨us[p], List.getElem?_eq_getElem hpl⟩
  obtain ⟨⟨hin, -, hnd⟩, -⟩ := hcell p _ u hp hu
  obtain ⟨-, hloc⟩ := hnd ⟨_, hi⟩
  obtain ⟨g, M, c, n, ty', es', e', h1, h2, h3, h4, h5, h6⟩ := hloc k o rfl
  rw [hi] at h1
  cases h1
  rw [hk] at h3
  cases h3
  obtain ⟨hlt, hown, -⟩ := h.objs i ver _ hi
  obtain ⟨D, hD1, hD2, hD3⟩ := hown.take (u := u) hk ho fun xs m hm hrow => by
    have hmn : m = n := hm.symm.trans h4
    subst hmn
    have hcl := at_lt (get_lt hk) h5
    obtain ⟨ad, c', hv, -, -, -, hg⟩ := own_slice hrow
    have hpos : 0 < es.length := Nat.lt_of_le_of_lt (Nat.zero_le _) (get_lt hk)
    obtain ⟨g', hg', -, -, hx, -⟩ := hg hpos
    rw [h2] at hv
    injection hv with hv1 hv2 hv3
    rw [hg'] at hv1
    injection hv1 with hv1
    injection hv1 with hv1
    subst hv1
    have hxl : xs.length = es.length * m := hrow.1
    have hxs : xs[k * m + o]? = some xs[k * m + o] := List.getElem?_eq_getElem (by rw [hxl]; exact hcl)
    have := (hx _ _ hxs).symm.trans h6
    rw [hxs, this]
  obtain ⟨σ1, hσ1⟩ : ∃ σ1, σ1 = (σ.setob i (.seq ty (es.set k (e.set o .any)))).new (.seq pty ps) := ⟨_, rfl⟩
  obtain ⟨G', hG'⟩ : ∃ G' : Ghost, G' = { G with vl := fun j => if j = σ.nx then u else G.vl j, ft := fun j => if j = σ.nx then D else if j = i then (fun b => G.ft i b ∧ ¬ D b) else G.ft j } := ⟨_, rfl⟩
  have hine : i ≠ σ.nx := Nat.ne_of_lt hlt
  have hvn : G'.vl σ.nx = u := by rw [hG']; exact if_pos rfl
  have hfn : G'.ft σ.nx = D := by rw [hG']; exact if_pos rfl
  have hvo : ∀ j, j ≠ σ.nx → G'.vl j = G.vl j := fun j hj => by rw [hG']; exact if_neg hj
  have hfi : G'.ft i = fun b => G.ft i b ∧ ¬ D b := by rw [hG']; show (if i = σ.nx then _ else _) = _; rw [if_neg hine, if_pos rfl]
  have hfo : ∀ j, j ≠ σ.nx → j ≠ i → G'.ft j = G.ft j := fun j hj hji => by rw [hG']; show (if j = σ.nx then _ else _) = _; rw [if_neg hj, if_neg hji]
  have hb1 : σ1.ob σ.nx = some (0, .seq pty ps) := by rw [hσ1]; show (bif Nat.beq σ.nx σ.nx then _ else _) = _; rw [Nat.beq_refl]; rfl
  have hb2 : σ1.ob i = some (ver + 1, .seq ty (es.set k (e.set o .any))) := by rw [hσ1]; show (bif Nat.beq i σ.nx then _ else _) = _; rw [nbne hine]; show (σ.setob i _).ob i = _; rw [setob_self, hi]; rfl
  have hb3 : ∀ j, j ≠ σ.nx → j ≠ i → σ1.ob j = σ.ob j := fun j hj hji => by rw [hσ1]; show (bif Nat.beq j σ.nx then _ else _) = _; rw [nbne hj]; exact setob_ne hji
  have hft : ∀ j b, σ1.ob j ≠ none → G'.ft j b → (j = σ.nx ∧ D b) ∨ (j = i ∧ G.ft i b ∧ ¬ D b) ∨ (j ≠ σ.nx ∧ j ≠ i ∧ σ.ob j ≠ none ∧ G.ft j b) := fun j b hj hb => by
    by_cases h7 : j = σ.nx
    · subst h7; rw [hfn] at hb; exact .inl ⟨rfl, hb⟩
    · by_cases h8 : j = i
      · subst h8; rw [hfi] at hb; exact .inr (.inl ⟨rfl, hb⟩)
      · rw [hfo j h7 h8] at hb; rw [hb3 j h7 h8] at hj; exact .inr (.inr ⟨h7, h8, hj, hb⟩)
  have hio : σ.ob i ≠ none := by rw [hi]; simp
  have hturn := h.turn (σ' := σ1) (w' := w) (G' := G') (fun _ => False) (by rw [hσ1]; rfl) (by rw [hσ1]; rfl) (by rw [hG']) (Same.refl _ _) (fun _ _ _ => rfl) (fun _ _ hf => hf) (by rw [hσ1]; exact Nat.le_succ _) (fun j hj => hvo j (Nat.ne_of_lt hj)) (fun j v' t' hv => by
      by_cases h7 : j = σ.nx
      · subst h7
        rw [hb1] at hv
        cases hv
        refine .inr ⟨by rw [hσ1]; exact Nat.lt_succ_self _, fun hlt => absurd hlt (Nat.lt_irrefl _), by rw [hvn, hfn]; exact hD1, ⟨_, _, rfl⟩, fun b hb => ?_, fun b hb c hc e => ?_⟩
        · rw [hfn] at hb; exact h.ftlt i b hio (hD2 b hb)
        · rw [hfn] at hb; exact h.boxft c i hc hio (by rw [e]; exact hD2 b hb)
      · by_cases h8 : j = i
        · subst h8
          rw [hb2] at hv
          cases hv
          refine .inr ⟨by rw [hσ1]; exact Nat.lt_succ_of_lt hlt, fun _ => ⟨ver, _, hi, Nat.lt_succ_self _⟩, by rw [hvo j h7, hfi]; exact hD3, ⟨_, _, rfl⟩, fun b hb => ?_, fun b hb c hc e => ?_⟩
          · rw [hfi] at hb; exact h.ftlt j b hio hb.1
          · rw [hfi] at hb; exact h.boxft c j hc hio (by rw [e]; exact hb.1)
        · rw [hb3 j h7 h8] at hv
          exact .inl ⟨hv, fun b => by rw [hfo j h7 h8], fun _ _ hf => hf⟩) fun j1 j2 b hj1 hj2 hne hf1 hf2 => by
    rcases hft j1 b hj1 hf1 with ⟨q1, q2⟩ | ⟨q1, q2, q3⟩ | ⟨q1, q2, q3, q4⟩ <;> rcases hft j2 b hj2 hf2 with ⟨r1, r2⟩ | ⟨r1, r2, r3⟩ | ⟨r1, r2, r3, r4⟩
    · exact hne (q1.trans r1.symm)
    · exact r3 q2
    · exact h.disj j2 i b r3 hio r2 r4 (hD2 b q2)
    · exact q3 r2
    · exact hne (q1.trans r1.symm)
    · exact h.disj j2 i b r3 hio r2 r4 q2
    · exact h.disj j1 i b q3 hio q2 q4 (hD2 b r2)
    · exact h.disj j1 i b q3 hio q2 q4 r2
    · exact h.disj j1 j2 b q3 r3 hne q4 r4
  refine ⟨G', ?_, fun j hj => hvo j (Nat.ne_of_lt hj), by rw [hG']⟩
  rw [← hσ1]
  have hput := hturn.1.put (d := d) (v := V.flat ag (ls.set p (.hd σ.nx))) (u := a.tmps.getD d undef) hd ⟨[us], rfl, hval, fun c ag' xs us' hc hus => by
    match c, hc, hus with
    | 0, hc, hus =>
      cases hc
      cases hus
      refine ⟨by rw [List.length_set]; exact hlen, fun j x u' hx hu' => ?_⟩
      by_cases hjp : j = p
      · subst hjp
        rw [List.getElem?_set_self (get_lt hp)] at hx
        cases hx
        rw [hu] at hu'
        cases hu'
        refine ⟨⟨by rw [hσ1]; exact Nat.lt_succ_self _, hvn.symm⟩, .inr ?_⟩
        exact hD1.one
      · rw [List.getElem?_set_ne (fun q => hjp q.symm)] at hx
        exact hturn.2 x u' (hcell j x u' hx hu')⟩
  have hself : a.put (some d) (a.tmps.getD d undef) = a := by
    have hsz := h.nsz
    cases a with
    | mk tmps defers =>
      show Act.mk (tmps.setIfInBounds d (tmps.getD d undef)) defers = Act.mk tmps defers
      congr 1
      have hdl : d < tmps.size := by rw [show tmps.size = N from hsz]; exact hd
      apply Array.ext
      · simp
      · intro q hq1 hq2
        rw [Array.getElem_setIfInBounds]
        by_cases hqd : d = q
        · subst hqd; rw [if_pos rfl]; simp [Array.getD, hdl]
        · rw [if_neg hqd]
  rw [hself] at hput
  exact hput
theorem SV.take {K : Act → World → Prop} {d i ver k o p : Nat} {ag : Bool} {ls : List Leaf} {ty pty : TypeId} {es : List (List T)} {e : List T} {ps : List (List T)} (hs : σ.tm d = V.flat ag ls) (hp : ls[p]? = some (.nd i ver (.seq pty ps) (some (k, o)))) (hi : σ.ob i = some (ver, .seq ty es)) (hk : es[k]? = some e) (ho : e[o]? = some (.seq pty ps)) (hd : d < N)
    (q : SV E N (((σ.setob i (.seq ty (es.set k (e.set o .any)))).new (.seq pty ps)).put d (V.flat ag (ls.set p (.hd σ.nx)))) K) : SV E N σ K := fun a w G h => by
  obtain ⟨G', h1, -⟩ := h.take hd hs hp hi hk ho
  exact q a w G' h1
theorem DW.take {fr : List Nat} {cl : Bool} {Ψ : World → Ghost → Act → World → Prop} {d i ver k o p : Nat} {ag : Bool} {ls : List Leaf} {ty pty : TypeId} {es : List (List T)} {e : List T} {ps : List (List T)} (hs : σ.tm d = V.flat ag ls) (hp : ls[p]? = some (.nd i ver (.seq pty ps) (some (k, o)))) (hi : σ.ob i = some (ver, .seq ty es)) (hk : es[k]? = some e) (ho : e[o]? = some (.seq pty ps)) (hd : d < N)
    (q : DW E N τ fr false (((σ.setob i (.seq ty (es.set k (e.set o .any)))).new (.seq pty ps)).put d (V.flat ag (ls.set p (.hd σ.nx)))) Ψ) : DW E N τ fr cl σ Ψ := fun ws Gs a w G h hl => by
  obtain ⟨G', h1, h2, h3⟩ := h.take hd hs hp hi hk ho
  refine q ws Gs a w G' h1 ⟨hl.start, hl.same, fun j hj => (h2 j (Nat.lt_of_lt_of_le hj hl.nx)).trans (hl.vl j hj), fun b hb => by rw [h3]; exact hl.β b hb, Nat.le_trans hl.nx (Nat.le_succ _), hl.bs, fun j hj => ⟨Nat.lt_succ_of_lt (hl.fresh j hj).1, fun b hb => (hl.fresh j hj).2 b ?_⟩, fun e => by cases e⟩
  rw [← h2 j (hl.fresh j hj).1]
  exact hb
end Go.Proofs.YtjdjceohlcimaaaGreatDoor.V
/- States told by trees: answers that may only be read (their parts may lie in each other): what is handed out so lies in a vault, an object that nobody writes. -/
namespace Go.Proofs.YtjdjceohlcimaaaGreatDoor.V
open Go Go.RowKit
set_option linter.unusedVariables false
variable {P : Program} {E : Env} {N nb : Nat} {σ σ' τ : VS} {o : Oper} {a : Act} {w : World} {G : Ghost} {Q : Exit → Act → World → Prop} {K : Act → World → Prop} {ad : Option Addr} {len cap : Nat} {zs : List Int}
def inLeaf (i : Nat) : T → Leaf
  | .lit u => .sc u
  | .any => .dead
  | .seq ty es => .nd i 0 (.seq ty es) none
def inLs (i : Nat) (rs : List (Bool × List T)) : List (Bool × List Leaf) := rs.map fun r => (r.1, r.2.map (inLeaf i))
def GivesI (ok : Nat → Prop) (tup : Bool) (rs : List (Bool × List T)) (e : Ending) (w' : World) : Prop :=
  ∃ uss : List (List Value), uss.length = rs.length ∧ e = .returned (vval tup (List.zipWith (fun r us => cval r.1 us) rs uss)) ∧
    ∀ (c : Nat) (ag : Bool) (ts : List T) (us : List Value), rs[c]? = some (ag, ts) → uss[c]? = some us → us.length = ts.length ∧ ∀ (j : Nat) (t : T) (u : Value), ts[j]? = some t → us[j]? = some u → Inn ok w' t u
def Newly (w w' : World) (b : Nat) : Prop := w.heap.size ≤ b ∧ b < w'.heap.size
def VKI {Y : Type} (ad : Option Addr) (len cap : Nat) (zs : List Int) (Pr : Y → Prop) (P : Program) (f : FuncId) (xs : List Value) (tup : Bool) (rs : Y → List (Bool × List T)) : Prop :=
  ∀ (w : World) (c : Nat) (σ : Int × Int), Code ad len cap zs w → Cur ad len cap zs σ w c → Calls P f (Value.pointer (some ⟨c, 0, none⟩) :: xs).toArray w fun e w' => ∃ y τ, Pr y ∧ Cur ad len cap zs τ w' c ∧ GivesI (Newly w w') tup (rs y) e w' ∧ Only c w w'
def VCI {Y : Type} (Φ : World → Prop) (Pr : Y → Prop) (P : Program) (f : FuncId) (ins : List (Bool × List T)) (tup : Bool) (rs : Y → List (Bool × List T)) : Prop := ∀ (w : World), Φ w → ∀ (vs : List Value), ArgsIn (Env.of w) w ins vs → Calls P f vs.toArray w fun e w' => ∃ y, Pr y ∧ GivesI (Newly w w') tup (rs y) e w' ∧ Below w.heap.size w w'
theorem Rel.vault (h : Rel E N σ a w G) (F : Nat → Prop) (hF : ∀ b, F b → E.B ≤ b ∧ b < w.heap.size ∧ Fresh σ G b) : ∃ G', Rel E N (σ.new (.seq 72 [])) a w G' ∧ G'.ft σ.nx = F ∧ (∀ i, i < σ.nx → G'.vl i = G.vl i) ∧ G'.β = G.β := by
  obtain ⟨σ1, hσ1⟩ : ∃ σ1, σ1 = σ.new (.seq 72 []) := ⟨_, rfl⟩
  obtain ⟨G', hG'⟩ : ∃ G' : Ghost, G' = { G with vl := fun j => if j = σ.nx then .slice none 0 0 else G.vl j, ft := fun j => if j = σ.nx then F else G.ft j } := ⟨_, rfl⟩
  have hvn : G'.vl σ.nx = .slice none 0 0 := by rw [hG']; exact if_pos rfl
  have hfn : G'.ft σ.nx = F := by rw [hG']; exact if_pos rfl
  have hvo : ∀ j, j ≠ σ.nx → G'.vl j = G.vl j := fun j hj => by rw [hG']; exact if_neg hj
  have hfo : ∀ j, j ≠ σ.nx → G'.ft j = G.ft j := fun j hj => by rw [hG']; exact if_neg hj
  have hb1 : σ1.ob σ.nx = some (0, .seq 72 []) := by rw [hσ1]; show (bif Nat.beq σ.nx σ.nx then _ else _) = _; rw [Nat.beq_refl]; rfl
  have hb3 : ∀ j, j ≠ σ.nx → σ1.ob j = σ.ob j := fun j hj => by rw [hσ1]; show (bif Nat.beq j σ.nx then _ else _) = _; rw [nbne hj]; rfl
  have hown : Own w 0 (.seq 72 []) (.slice none 0 0) F := .seq 3 (by decide) sz_impl_Row (fun e he => by cases he) [] (World.ownsRow_nil _ _ _ _) (fun _ _ => False) (fun k e j t u h1 => by simp at h1) (fun u hu => by cases hu) (fun b hb => by cases hb) (fun i b hb => hb.elim) (fun i b hb => hb.elim) fun i j b hb => hb.elim
  have hturn := h.turn (σ' := σ1) (w' := w) (G' := G') (fun _ => False) (by rw [hσ1]; rfl) (by rw [hσ1]; rfl) (by rw [hG']) (Same.refl _ _) (fun _ _ _ => rfl) (fun _ _ hf => hf) (by rw [hσ1]; exact Nat.le_succ _) (fun j hj => hvo j (Nat.ne_of_lt hj)) (fun j v' t' hv => by
      by_cases h7 : j = σ.nx
      · subst h7
        rw [hb1] at hv
        cases hv
        refine .inr ⟨by rw [hσ1]; exact Nat.lt_succ_self _, fun hlt => absurd hlt (Nat.lt_irrefl _), by rw [hvn, hfn]; exact hown, ⟨_, _, rfl⟩, fun b hb => ?_, fun b hb c hc e => ?_⟩
        · rw [hfn] at hb; exact ⟨.inl (hF b hb).1, (hF b hb).2.1⟩
        · rw [hfn] at hb; exact (hF b hb).2.2.2 c hc e
      · rw [hb3 j h7] at hv
        exact .inl ⟨hv, fun b => by rw [hfo j h7], fun _ _ hf => hf⟩) fun j1 j2 b hj1 hj2 hne hf1 hf2 => by
    by_cases h1 : j1 = σ.nx
    · subst h1
      rw [hfn] at hf1
      have h2 : j2 ≠ σ.nx := fun e => hne e.symm
      rw [hfo j2 h2] at hf2
      rw [hb3 j2 h2] at hj2
      exact (hF b hf1).2.2.1 j2 hj2 hf2
    · rw [hfo j1 h1] at hf1
      rw [hb3 j1 h1] at hj1
      by_cases h2 : j2 = σ.nx
      · subst h2
        rw [hfn] at hf2
        exact (hF b hf2).2.2.1 j1 hj1 hf1
      · rw [hfo j2 h2] at hf2
        rw [hb3 j2 h2] at hj2
        exact h.disj j1 j2 b hj1 hj2 hne hf1 hf2
  exact ⟨G', by rw [← hσ1]; exact hturn.1, hfn, fun j hj => hvo j (Nat.ne_of_lt hj), by rw [hG']⟩
theorem vault_holds {i : Nat} {F : Nat → Prop} {t0 : T} (hft : G.ft i = F) (hi : i < σ.nx) (hob : σ.ob i = some (0, t0)) {tup : Bool} {rs : List (Bool × List T)} {uss : List (List Value)} (hl : uss.length = rs.length)
    (h : ∀ (c : Nat) (ag : Bool) (ts : List T) (us : List Value), rs[c]? = some (ag, ts) → uss[c]? = some us → us.length = ts.length ∧ ∀ (j : Nat) (t : T) (u : Value), ts[j]? = some t → us[j]? = some u → Inn F w t u) : VHolds G σ E w ⟨tup, inLs i rs⟩ (vval tup (List.zipWith (fun r us => cval r.1 us) rs uss)) := by
  refine ⟨uss, by simp [inLs, hl], by simp [inLs, List.zipWith_map_left], fun c ag xs us hc hu => ?_⟩
  have hc' : (rs.map fun r => (r.1, r.2.map (inLeaf i)))[c]? = some (ag, xs) := hc
  rw [List.getElem?_map] at hc'
  obtain ⟨⟨ag', ts⟩, hq, hq'⟩ := Option.map_eq_some_iff.1 hc'
  cases hq'
  obtain ⟨h1, h2⟩ := h c ag' ts us hq hu
  refine ⟨by simp [h1], fun j x u hx hu' => ?_⟩
  rw [List.getElem?_map] at hx
  obtain ⟨t, ht, rfl⟩ := Option.map_eq_some_iff.1 hx
  have hin := h2 j t u ht hu'
  cases t with
  | any => exact ⟨trivial, .inl rfl⟩
  | lit v =>
    cases hin with
    | lit hv => exact ⟨rfl, .inr hv⟩
  | seq ty es =>
    refine ⟨⟨hi, fun v t' hv => Nat.zero_le _, fun _ => ⟨by rw [hft]; exact hin, fun k o e => by cases e⟩⟩, .inr hin.one⟩
theorem callKI_core {Y : Type} {Pr : Y → Prop} (hC : E.code ad len cap zs) {d b : Nat} {f : FuncId} {x0 : Operand} {ats : Array TypeId} {tup : Bool} {rs : Y → List (Bool × List T)} {p h0 : Int} (ho : o.op = .call { callee := .value (.func f), args := #[x0], argTypes := ats }) (hb : ∃ fn c, P.funcs[f]? = some fn ∧ fn.body = some c ∧ fn.name ≠ "runtime.NumGoroutine")
    (hc : VKI ad len cap zs Pr P f [] tup rs) (hx0 : σ.ev x0 = V.one (.bp b 0)) (hbx : σ.bs[b]? = some (75, curL ad len cap p h0)) (hp : 0 ≤ p ∧ p ≤ len) (hd : o.dst = some d) (hdN : d < N) {a : Act} {w : World} {G : Ghost} (h : Rel E N σ a w G) {K : Act → World → Prop} (hK : ∀ (y : Y) (p' h' : Int) (a' : Act) (w' : World) (G' : Ghost), Pr y → 0 ≤ p' ∧ p' ≤ len → Rel E N (((σ.setb b 75 (curL ad len cap p' h')).new (.seq 72 [])).put d ⟨tup, inLs σ.nx (rs y)⟩) a' w' G' → Only (G.β b) w w' → (∀ i, i < σ.nx → G'.vl i = G.vl i) → G'.β = G.β → σ.nx ≤ ((σ.setb b 75 (curL ad len cap p' h')).new (.seq 72 [])).nx → K a' w') : o.wp P a w K Q := by
  obtain ⟨fn, c, h1, h2, h2'⟩ := hb
  obtain ⟨hB, us0, b1, b2, b3⟩ := h.boxes b _ _ hbx
  have hus0 : us0 = [.slice ad len cap, .int .i64 p, .int .i64 h0] := by
    match us0, b2 with
    | [u, v, z], _ =>
      have e1 : u = .slice ad len cap := (b3 0 _ u rfl rfl).1.1
      have e2 : v = .int .i64 p := (b3 1 _ v rfl rfl).1.1
      have e3 : z = .int .i64 h0 := (b3 2 _ z rfl rfl).1.1
      rw [e1, e2, e3]
  subst hus0
  have hcode := hC.at h.below
  have hcur : Cur ad len cap zs (p, h0) w (G.β b) := ⟨hcode.row, fun x hx hpos e => by
    have hlt := hC.1.old x hx hpos
    rcases hB with hB | hB
    · rw [← e] at hB; exact absurd hlt (Nat.not_lt.2 hB)
    · rw [← e] at hB; exact hC.2 x hx hpos hB, hp.1, hp.2, b1⟩
  have hcall := hc w (G.β b) (p, h0) hcode hcur
  have hx0v : a.eval x0 = .pointer (some ⟨G.β b, 0, none⟩) := by
    have := h.ev x0
    rw [hx0, vone] at this
    exact this.1.2
  have hev : #[a.eval x0] = #[Value.pointer (some ⟨G.β b, 0, none⟩)] := by rw [hx0v]
  have hrun : (execOp a.eval o).run P w = .ok (.enter f #[a.eval x0]) w := by
    simp [execOp, ho, resolve, Act.eval, Deferred.ofValue, invoke, callFunc, h1, h2, h2', Result.andThen]
  unfold Oper.wp
  rw [hrun, hev]
  refine hcall.mono fun e w' ⟨y0, τ0, hy0, hcur', ⟨uss, h3, h4, h5⟩, h7'⟩ => ?_
  subst h4
  obtain ⟨p', h'0⟩ := τ0
  have hβlt : G.β b < w.heap.size := lt_of_block b1
  obtain ⟨w1, hw1⟩ : ∃ w1 : World, w1 = { w with heap := w.heap.setIfInBounds (G.β b) (.cells #[.slice ad len cap, .int .i64 p', .int .i64 h'0] 75 (0, 0)) } := ⟨_, rfl⟩
  have hsz1 : w1.heap.size = w.heap.size := by rw [hw1]; simp
  have hfar : ∀ k, k ≠ G.β b → w1.heap[k]? = w.heap[k]? := fun k hk => by rw [hw1]; simp [Array.getElem?_setIfInBounds_ne (Ne.symm hk)]
  have hnew1 : w1.heap[G.β b]? = some (.cells #[.slice ad len cap, .int .i64 p', .int .i64 h'0] 75 (0, 0)) := by rw [hw1]; simp [hβlt]
  have hsame1 : Same E w w1 := ⟨by rw [hw1], by rw [hw1], by rw [hw1], by rw [hsz1]; exact Nat.le_refl _, fun k hk => hfar k fun e => by
    subst e
    exact hB.elim (fun hB => Nat.lt_irrefl _ (Nat.lt_of_lt_of_le hk.1 hB)) hk.2⟩
  have hr1 := h.setbox (us' := [.slice ad len cap, .int .i64 p', .int .i64 h'0]) (xs' := curL ad len cap p' h'0) (w' := w1) hbx hsame1 hfar hnew1 rfl fun j x u hj hu => by
    match j, hj, hu with
    | 0, hj, hu => cases hj; cases hu; exact ⟨⟨rfl, .inr rfl⟩, rfl⟩
    | 1, hj, hu => cases hj; cases hu; exact ⟨⟨rfl, .inr rfl⟩, rfl⟩
    | 2, hj, hu => cases hj; cases hu; exact ⟨⟨rfl, .inr rfl⟩, rfl⟩
  have h7 : Below w1.heap.size w1 w' := ⟨by rw [h7'.os, hw1], by rw [h7'.tape, hw1], by rw [h7'.output, hw1], by rw [hsz1]; exact h7'.size, fun k hk => by
    by_cases hkb : k = G.β b
    · subst hkb; exact hcur'.cell.trans hnew1.symm
    · rw [hfar k hkb]; exact h7'.block k (by rw [hsz1] at hk; exact hk) fun e => hkb (Option.some.inj e)⟩
  have h' := hr1.ext h7
  obtain ⟨G', k1, k2, k3, k4⟩ := h'.vault (Newly w w') fun b' hb' => ⟨Nat.le_trans h.low hb'.1, hb'.2, fun i hi hf => by have := (h.ftlt i b' hi hf).2; have := hb'.1; omega, fun q hq => (h.fresh hb'.1).2 q (by simpa using hq)⟩
  rw [hd]
  exact hK y0 p' h'0 _ _ _ hy0 ⟨hcur'.low, hcur'.high⟩ (k1.put hdN (vault_holds k2 (Nat.lt_succ_self _) (by show (bif Nat.beq σ.nx σ.nx then _ else _) = _; rw [Nat.beq_refl]; rfl) h3 h5)) h7' k3 k4 (Nat.le_succ _)
theorem SV.callKI {Y : Type} {Pr : Y → Prop} (hC : E.code ad len cap zs) {d b : Nat} {f : FuncId} {x0 : Operand} {ats : Array TypeId} {tup : Bool} {rs : Y → List (Bool × List T)} {rest : List Oper} {ops : Array Oper} {p h0 : Int} (ho : o.op = .call { callee := .value (.func f), args := #[x0], argTypes := ats }) (hb : ∃ fn c, P.funcs[f]? = some fn ∧ fn.body = some c ∧ fn.name ≠ "runtime.NumGoroutine")
    (hc : VKI ad len cap zs Pr P f [] tup rs) (hx0 : σ.ev x0 = V.one (.bp b 0)) (hbx : σ.bs[b]? = some (75, curL ad len cap p h0)) (hp : 0 ≤ p ∧ p ≤ len) (hd : o.dst = some d) (hdN : d < N) (hw : ∀ {a w G}, Rel E N σ a w G → Region.wanted o (yielded ops a.tmps) = true)
    (k : ∀ (y : Y) (p' h' : Int), Pr y → 0 ≤ p' ∧ p' ≤ len → SV E N (((σ.setb b 75 (curL ad len cap p' h')).new (.seq 72 [])).put d ⟨tup, inLs σ.nx (rs y)⟩) (wpList P ops Q rest)) : SV E N σ (wpList P ops Q (o :: rest)) := fun a w G h => by
  refine wpList_step fun K hK => ?_
  rw [if_pos (hw h)]
  exact callKI_core hC ho hb hc hx0 hbx hp hd hdN h fun y p' h' a' w' G' hy hp' hr _ _ _ _ => hK _ _ (k y p' h' hy hp' _ _ _ hr)
theorem SV.callEI {Y : Type} {Φ : World → Prop} {Pr : Y → Prop} (hD : E.keeps Φ) {d : Nat} {f : FuncId} {xs : List Operand} {ats : Array TypeId} {qs : List (Bool × List T)} {tup : Bool} {rs : Y → List (Bool × List T)} {rest : List Oper} {ops : Array Oper} (ho : o.op = .call { callee := .value (.func f), args := xs.toArray, argTypes := ats }) (hb : ∃ fn c, P.funcs[f]? = some fn ∧ fn.body = some c ∧ fn.name ≠ "runtime.NumGoroutine")
    (hc : VCI Φ Pr P f qs tup rs) (hx : σ.argss xs qs) (hd : o.dst = some d) (hdN : d < N) (hg : o.guard = none) (k : ∀ y, Pr y → SV E N ((σ.new (.seq 72 [])).put d ⟨tup, inLs σ.nx (rs y)⟩) (wpList P ops Q rest)) : SV E N σ (wpList P ops Q (o :: rest)) := fun a w G h => by
  refine wpList_step fun K hK => ?_
  rw [if_pos (by simp [Region.wanted, hg])]
  obtain ⟨fn, c, h1, h2, h2'⟩ := hb
  have hcall := hc w (hD.at h.below) (xs.map a.eval) (h.args hx)
  have hrun : (execOp a.eval o).run P w = .ok (.enter f (xs.map a.eval).toArray) w := by
    simp [execOp, ho, resolve, Act.eval, Deferred.ofValue, invoke, callFunc, h1, h2, h2', Result.andThen]
  unfold Oper.wp
  rw [hrun]
  refine hcall.mono fun e w' ⟨y0, hy0, ⟨uss, h3, h4, h5⟩, h7⟩ => ?_
  subst h4
  have h' := h.ext h7
  obtain ⟨G', k1, k2, k3, k4⟩ := h'.vault (Newly w w') fun b' hb' => ⟨Nat.le_trans h.low hb'.1, hb'.2, fun i hi hf => by have := (h.ftlt i b' hi hf).2; have := hb'.1; omega, (h.fresh hb'.1).2⟩
  rw [hd]
  exact hK _ _ (k y0 hy0 _ _ _ (k1.put hdN (vault_holds k2 (Nat.lt_succ_self _) (by show (bif Nat.beq σ.nx σ.nx then _ else _) = _; rw [Nat.beq_refl]; rfl) h3 h5)))
/-! ### Answers -/
def VS.may (σ : VS) : Leaf → Option T
  | .sc u => some (.lit u)
  | .nl ty => some (.seq ty [])
  | .hd i => (σ.ob i).map (·.2)
  | .nd i ver t _ => (σ.ob i).bind fun p => bif Nat.beq p.1 ver then some t else none
  | _ => none
def VS.mays (σ : VS) : List Leaf → List T → Prop
  | [], [] => True
  | x :: xs, t :: ts => σ.may x = some t ∧ σ.mays xs ts
  | _, _ => False
def VS.mayss (σ : VS) : List (Bool × List Leaf) → List (Bool × List T) → Prop
  | [], [] => True
  | p :: ps, q :: qs => p.1 = q.1 ∧ σ.mays p.2 q.2 ∧ σ.mayss ps qs
  | _, _ => False
theorem mays_get {σ : VS} : ∀ {xs : List Leaf} {ts : List T}, σ.mays xs ts → xs.length = ts.length ∧ ∀ (j : Nat) (t : T), ts[j]? = some t → ∃ x, xs[j]? = some x ∧ σ.may x = some t
  | [], [], _ => ⟨rfl, fun j t h => by simp at h⟩
  | x :: xs, t :: ts, h => by
    obtain ⟨h1, h2⟩ := mays_get h.2
    refine ⟨by simp [h1], fun j y hj => ?_⟩
    cases j with
    | zero => cases hj; exact ⟨x, rfl, h.1⟩
    | succ j => exact h2 j y (by simpa using hj)
theorem mayss_get {σ : VS} : ∀ {ps : List (Bool × List Leaf)} {qs : List (Bool × List T)}, σ.mayss ps qs → ps.length = qs.length ∧ ∀ (c : Nat) (ag : Bool) (ts : List T), qs[c]? = some (ag, ts) → ∃ xs, ps[c]? = some (ag, xs) ∧ σ.mays xs ts
  | [], [], _ => ⟨rfl, fun j a t h => by simp at h⟩
  | p :: ps, q :: qs, h => by
    obtain ⟨h1, h2⟩ := mayss_get h.2.2
    refine ⟨by simp [h1], fun c ag ts hc => ?_⟩
    cases c with
    | zero =>
      cases hc
      obtain ⟨ag', xs⟩ := p
      have : ag' = ag := h.1
      subst this
      exact ⟨xs, rfl, h.2.1⟩
    | succ c => exact h2 c ag ts (by simpa using hc)
theorem Rel.may (h : Rel E N σ a w G) {x : Leaf} {u : Value} {t : T} (hx : Holds G σ E w x u) (ht : σ.may x = some t) : Inn (fun b => ∃ i, σ.ob i ≠ none ∧ G.ft i b) w t u := by
  have key : ∀ i, x.okIn G E = G.ft i → σ.tr x = some t → σ.ob i ≠ none → Inn (fun b => ∃ i, σ.ob i ≠ none ∧ G.ft i b) w t u := fun i h1 h2 h3 =>
    (h.tree hx h2).frame (Nat.le_refl _) fun b hb _ => ⟨⟨i, h3, by rw [← h1]; exact hb⟩, rfl⟩
  cases x with
  | sc v =>
    have := h.tree (t := .lit v) hx rfl
    cases ht
    cases this with
    | lit hv => exact .lit hv
  | nl ty =>
    have := h.tree (t := .seq ty []) hx rfl
    cases ht
    cases this with
    | seq n hp hz hn hc hm h0 b o us ha hb hcell hr => exact Inn.seq (es := []) n hp hz hn hc hm h0 b o us ha (fun h => absurd rfl h) hcell (fun k e j t h => by simp at h)
  | hd i => exact key i rfl ht (fun e => by simp [VS.may, e] at ht)
  | nd i ver s loc => exact key i rfl ht (fun e => by simp [VS.may, e] at ht)
  | _ => cases ht
theorem Rel.answerI (h : Rel E N σ a w G) {fn : Func} {rs : List ResultVar} {ps : List (Bool × List Leaf)} {tup : Bool} {qs : List (Bool × List T)} (hf : fn.results = rs.toArray) (hr : ResAll P σ rs ps) (ho : σ.mayss ps qs) (ht : (!(Nat.beq qs.length 1)) = tup) : a.defers = [] ∧ ∃ v, (results fn a.tmps).run P w = .ok v w ∧ GivesI (fun b => ∃ i, σ.ob i ≠ none ∧ G.ft i b) tup qs (.returned v) w := by
  obtain ⟨uss, h3, h4, h5⟩ := h.resAll hr
  obtain ⟨h6, h7⟩ := mayss_get ho
  have hrun := results_run hf h4
  have hlen : (List.zipWith (fun (p : Bool × List Leaf) us => cval p.1 us) ps uss).length = qs.length := by simp [h3, h6]
  have hag : ∀ c ag ts, qs[c]? = some (ag, ts) → ∃ xs, ps[c]? = some (ag, xs) ∧ σ.mays xs ts := h7
  have hzip : List.zipWith (fun (p : Bool × List Leaf) us => cval p.1 us) ps uss = List.zipWith (fun (q : Bool × List T) us => cval q.1 us) qs uss := by
    apply List.ext_getElem?
    intro c
    rw [List.getElem?_zipWith, List.getElem?_zipWith]
    cases hq : qs[c]? with
    | none =>
      have : ps[c]? = none := by rw [List.getElem?_eq_none_iff] at hq ⊢; omega
      rw [this]
    | some q =>
      obtain ⟨ag, ts⟩ := q
      obtain ⟨xs, hp, -⟩ := hag c ag ts hq
      rw [hp]
      cases uss[c]? <;> rfl
  rw [hlen, ht, hzip] at hrun
  refine ⟨h.dfr, _, hrun, uss, h3.trans h6, rfl, fun c ag ts us hq hu => ?_⟩
  obtain ⟨xs, hp, hx⟩ := hag c ag ts hq
  obtain ⟨h8, h9⟩ := mays_get hx
  obtain ⟨h10, h11⟩ := h5 c ag xs us hp hu
  refine ⟨h10.trans h8, fun j t u hj hu' => ?_⟩
  obtain ⟨x, hx1, hx2⟩ := h9 j t hj
  exact h.may (h11 j x u hx1 hu') hx2
theorem GivesI.mono {ok ok' : Nat → Prop} {tup : Bool} {rs : List (Bool × List T)} {e : Ending} (h : GivesI ok tup rs e w) (hk : ∀ b, ok b → b < w.heap.size → ok' b) : GivesI ok' tup rs e w := by
  obtain ⟨uss, h1, h2, h3⟩ := h
  exact ⟨uss, h1, h2, fun c ag ts us hc hu => ⟨(h3 c ag ts us hc hu).1, fun j t u hj hu' => ((h3 c ag ts us hc hu).2 j t u hj hu').frame (Nat.le_refl _) fun b hb hl => ⟨hk b hb hl, rfl⟩⟩⟩
theorem SV.doneEI {Y : Type} {Pr : Y → Prop} {fn : Func} {rvs : List ResultVar} {ps : List (Bool × List Leaf)} {tup : Bool} {rs : Y → List (Bool × List T)} (hln : ∀ b, ¬ E.ln b) (y : Y) (hy : Pr y) (hf : fn.results = rvs.toArray) (hr : ResAll P σ rvs ps) (ho : σ.mayss ps (rs y)) (ht : (!(Nat.beq (rs y).length 1)) = tup) {e : Exit} (he : e = .ret ∨ e = .normal) : SV E N σ (bodyPost P fn (fun e w' => ∃ y, Pr y ∧ GivesI (Newly E.w0 w') tup (rs y) e w' ∧ Below E.w0.heap.size E.w0 w') e) := fun a w G h => by
  obtain ⟨g1, v, g2, g3⟩ := h.answerI hf hr ho ht
  have hpost : a.defers = [] ∧ ∃ v, (results fn a.tmps).run P w = .ok v w ∧ ∃ y, Pr y ∧ GivesI (Newly E.w0 w) tup (rs y) (.returned v) w ∧ Below E.w0.heap.size E.w0 w :=
    ⟨g1, v, g2, y, hy, g3.mono fun b ⟨i, hi, hb⟩ hl => ⟨(h.ftlt i b hi hb).1.elim id fun hn => absurd hn (hln b), hl⟩, ⟨h.below.os, h.below.tape, h.below.output, h.below.size, fun k hk => h.below.block k ⟨hk, hln k⟩⟩⟩
  rcases he with rfl | rfl <;> exact hpost
theorem SV.doneKI {Y : Type} {Pr : Y → Prop} {fn : Func} {rvs : List ResultVar} {ps : List (Bool × List Leaf)} {tup : Bool} {rs : Y → List (Bool × List T)} {c : Nat} {p h0 : Int} (hC : E.code ad len cap zs) (hpin : E.pin = some c ∧ ∀ b, E.ln b → b = c) (y : Y) (hy : Pr y) (hbx : σ.bs[0]? = some (75, curL ad len cap p h0)) (hp : 0 ≤ p ∧ p ≤ len) (hf : fn.results = rvs.toArray) (hr : ResAll P σ rvs ps) (ho : σ.mayss ps (rs y)) (ht : (!(Nat.beq (rs y).length 1)) = tup) {e : Exit} (he : e = .ret ∨ e = .normal) :
    SV E N σ (bodyPost P fn (fun e w' => ∃ y τ, Pr y ∧ Cur ad len cap zs τ w' c ∧ GivesI (Newly E.w0 w') tup (rs y) e w' ∧ Only c E.w0 w') e) := fun a w G h => by
  obtain ⟨g1, v, g2, g3⟩ := h.answerI hf hr ho ht
  obtain ⟨hB, us0, b1, b2, b3⟩ := h.boxes 0 _ _ hbx
  obtain ⟨-, hβ⟩ := h.lent.2.2 c hpin.1
  have hus0 : us0 = [.slice ad len cap, .int .i64 p, .int .i64 h0] := by
    match us0, b2 with
    | [u, v, z], _ =>
      have e1 : u = .slice ad len cap := (b3 0 _ u rfl rfl).1.1
      have e2 : v = .int .i64 p := (b3 1 _ v rfl rfl).1.1
      have e3 : z = .int .i64 h0 := (b3 2 _ z rfl rfl).1.1
      rw [e1, e2, e3]
  subst hus0
  rw [hβ] at hB b1
  have hcur : Cur ad len cap zs (p, h0) w c := ⟨(hC.at h.below).row, fun x hx hpos e => by
    have hlt := hC.1.old x hx hpos
    rcases hB with hB | hB
    · rw [← e] at hB; exact absurd hlt (Nat.not_lt.2 hB)
    · rw [← e] at hB; exact hC.2 x hx hpos hB, hp.1, hp.2, b1⟩
  have hpost : a.defers = [] ∧ ∃ v, (results fn a.tmps).run P w = .ok v w ∧ ∃ y τ, Pr y ∧ Cur ad len cap zs τ w c ∧ GivesI (Newly E.w0 w) tup (rs y) (.returned v) w ∧ Only c E.w0 w :=
    ⟨g1, v, g2, y, (p, h0), hy, hcur, g3.mono fun b ⟨i, hi, hft⟩ hl => by
      obtain ⟨m1, m2⟩ := h.ftlt i b hi hft
      refine ⟨m1.elim id fun hl => ?_, m2⟩
      have := hpin.2 b hl
      subst this
      rw [← hβ] at hft
      exact absurd hft (h.boxft 0 i (get_lt hbx) hi), ⟨h.below.os, h.below.tape, h.below.output, h.below.size, fun k hk hne => h.below.block k ⟨hk, fun hl => hne (by rw [hpin.2 k hl])⟩⟩⟩
  rcases he with rfl | rfl <;> exact hpost
theorem VKI.enter {Y : Type} {Pr : Y → Prop} {f : FuncId} {fn : Func} {c0 : Go.Code} {n : Nat} {us : List Value} {tup : Bool} {rs : Y → List (Bool × List T)} (hf : P.funcs[f]? = some fn) (hb : fn.body = some c0) (hn : fn.ntmps = n) (hl : us.length + 1 ≤ n) (hone : ∀ u ∈ us, u.oneCell' = true)
    (h : ∀ (E : Env) (c : Nat) (p h0 : Int), E.nl = 0 → E.code ad len cap zs → (E.pin = some c ∧ ∀ b, E.ln b → b = c) → 0 ≤ p ∧ p ≤ len → SV E n ⟨fun s => (V.one (.bp 0 0) :: us.map fun u => V.one (.sc u)).getD s (V.one .dead), [(75, curL ad len cap p h0)], fun _ => none, 0⟩ (c0.wp P (bodyPost P fn fun e w' => ∃ y τ, Pr y ∧ Cur ad len cap zs τ w' c ∧ GivesI (Newly E.w0 w') tup (rs y) e w' ∧ Only c E.w0 w'))) : VKI ad len cap zs Pr P f us tup rs := fun w c σ hcode hcur => by
  refine calls_of_wp hf hb ?_
  obtain ⟨p, h0⟩ := σ
  obtain ⟨E, hE⟩ : ∃ E : Env, E = ⟨w, fun b => b = c, fun b hb => by rw [hb]; exact hcur.lt, fun _ => undef, 0, some c⟩ := ⟨_, rfl⟩
  have hEC : E.code ad len cap zs := by subst hE; exact ⟨hcode, fun x hx hp e => hcur.apart x hx hp e⟩
  have h1 := h E c p h0 (by rw [hE]) hEC (by subst hE; exact ⟨rfl, fun b hb => hb⟩) ⟨hcur.low, hcur.high⟩ { tmps := (Value.pointer (some ⟨c, 0, none⟩) :: us).toArray ++ Array.replicate (n - (us.length + 1)) undef, defers := [] } w ⟨fun _ => c, fun _ => undef, fun _ _ => False⟩ (by
    subst hE
    refine ⟨Same.refl _ _, rfl, by simp; omega, fun s => ?_, fun b ty xs hb => ?_, fun b b' hb hb' _ => (by simp at hb hb'; omega), fun b i hb hi => absurd rfl hi, fun i v t hi => (by cases hi), fun i j b hi => absurd rfl hi, fun i b hi => absurd rfl hi, ⟨Nat.le_refl _, fun i hi => absurd hi (Nat.not_lt_zero i), fun c' hc' => ⟨by simp, Option.some.inj hc'⟩⟩⟩
    · rcases Nat.lt_or_ge s (us.length + 1) with hs | hs
      · have e2 : ((Value.pointer (some ⟨c, 0, none⟩) :: us).toArray ++ Array.replicate (n - (us.length + 1)) undef).getD s undef = (Value.pointer (some ⟨c, 0, none⟩) :: us).getD s undef := by
          simp only [Array.getD_eq_getD_getElem?]
          rw [Array.getElem?_append_left (by simpa using hs)]
          simp [List.getD]
        show VHolds _ _ _ _ ((V.one (.bp 0 0) :: us.map fun u => V.one (.sc u)).getD s (V.one .dead)) _
        rw [e2]
        cases s with
        | zero => exact vone.2 ⟨⟨by simp, rfl⟩, .inr rfl⟩
        | succ s =>
          have hs' : s < us.length := by omega
          have e3 : (V.one (.bp 0 0) :: us.map fun u => V.one (.sc u)).getD (s + 1) (V.one .dead) = V.one (.sc us[s]) := by simp [List.getD, hs']
          have e4 : (Value.pointer (some ⟨c, 0, none⟩) :: us).getD (s + 1) undef = us[s] := by simp [List.getD, hs']
          rw [e3, e4]
          exact vone.2 ⟨rfl, .inr (hone _ (List.getElem_mem hs'))⟩
      · have e3 : (V.one (.bp 0 0) :: us.map fun u => V.one (.sc u)).getD s (V.one .dead) = V.one .dead := by simp [List.getD, show us.length + 1 ≤ s by omega]
        show VHolds _ _ _ _ ((V.one (.bp 0 0) :: us.map fun u => V.one (.sc u)).getD s (V.one .dead)) _
        rw [e3]
        exact vone.2 ⟨trivial, .inl rfl⟩
    · have hb0 : b = 0 := by have := get_lt hb; simpa using this
      subst hb0
      cases hb
      refine ⟨.inr rfl, [.slice ad len cap, .int .i64 p, .int .i64 h0], hcur.cell, rfl, fun j x u hj hu => ?_⟩
      match j, hj, hu with
      | 0, hj, hu => cases hj; cases hu; exact ⟨⟨rfl, .inr rfl⟩, rfl⟩
      | 1, hj, hu => cases hj; cases hu; exact ⟨⟨rfl, .inr rfl⟩, rfl⟩
      | 2, hj, hu => cases hj; cases hu; exact ⟨⟨rfl, .inr rfl⟩, rfl⟩)
  rw [hn]
  have e0 : E.w0 = w := by rw [hE]
  rw [e0] at h1
  simpa using h1
theorem VCI.enter {Y : Type} {Pr : Y → Prop} {f : FuncId} {fn : Func} {c0 : Go.Code} {n : Nat} {tup : Bool} {rs : Y → List (Bool × List T)} (hf : P.funcs[f]? = some fn) (hb : fn.body = some c0) (hn : fn.ntmps = n) (hl : 1 ≤ n)
    (h : ∀ E, E.plain 0 → E.code ad len cap zs → (∀ b, ¬ E.ln b) → SV E n (VS.init ([(false, [T.lit (.slice ad len cap)])].map fun p => V.flat p.1 (p.2.map argLeaf))) (c0.wp P (bodyPost P fn fun e w' => ∃ y, Pr y ∧ GivesI (Newly E.w0 w') tup (rs y) e w' ∧ Below E.w0.heap.size E.w0 w'))) : VCI (fun w => Code ad len cap zs w) Pr P f [(false, [.lit (.slice ad len cap)])] tup rs := fun w hw vs hv => by
  refine calls_of_wp hf hb ?_
  obtain ⟨G, hG⟩ := init_rel (E := Env.of w) ⟨rfl, rfl⟩ (n := n) hv (by rw [hv.1]; exact hl)
  have := h (Env.of w) ⟨rfl, rfl⟩ ⟨hw, fun _ _ _ h => h⟩ (fun _ h => h) _ _ G hG
  rw [hn]
  have e : (Env.of w).w0 = w := rfl
  rw [e] at this
  simpa using this
end Go.Proofs.YtjdjceohlcimaaaGreatDoor.V
/- States told by trees: an object's value gets a name, what was written with such names is frozen: parts that lie in each other are told, to be read. -/
namespace Go.Proofs.YtjdjceohlcimaaaGreatDoor.V
open Go Go.RowKit
set_option linter.unusedVariables false
variable {P : Program} {E : Env} {N nb : Nat} {σ σ' τ : VS} {o : Oper} {a : Act} {w : World} {G : Ghost} {Q : Exit → Act → World → Prop} {K : Act → World → Prop}
theorem Own.takeL {ty pty : TypeId} {es : List (List T)} {e : List T} {ps : List (List T)} {v : Value} {F : Nat → Prop} {k o : Nat} (h : Own w 0 (.seq ty es) v F) (hk : es[k]? = some e) (ho : e[o]? = some (.seq pty ps)) :
    ∃ (u : Value) (D : Nat → Prop), Own w 0 (.seq pty ps) u D ∧ (∀ b, D b → F b) ∧ Own w 0 (.seq ty (es.set k (e.set o (.lit u)))) v (fun b => F b ∧ ¬ D b) := by
  cases h with
  | seq n hp hz hn xs hown Gs hr hone hF hG hne hd =>
    have hen : e.length = n := hn e (get_mem hk)
    have hon : o < n := by rw [← hen]; exact get_lt ho
    have hcl := at_lt (get_lt hk) hon
    have hxl : xs.length = es.length * n := hown.1
    have hx : xs[k * n + o]? = some xs[k * n + o] := List.getElem?_eq_getElem (by rw [hxl]; exact hcl)
    obtain ⟨u, hu⟩ : ∃ u, u = xs[k * n + o] := ⟨_, rfl⟩
    rw [← hu] at hx
    refine ⟨u, Gs (k * n + o), hr k e o _ u hk ho hx, fun b hb => hG _ b hb, ?_⟩
    refine .seq n hp hz (fun f hf => ?_) xs (by rw [List.length_set]; exact hown) (fun i b => Gs i b ∧ i ≠ k * n + o) (fun k' e' j t u' h1 h2 h3 => ?_) hone (fun b hb => ⟨hF b hb, fun hg => hne _ b hg hb⟩) (fun i b hb => ⟨hG i b hb.1, fun hg => hb.2 (hd _ _ b hb.1 hg)⟩) (fun i b hb => hne i b hb.1) fun i j b h1 h2 => hd i j b h1.1 h2.1
    · rcases List.mem_or_eq_of_mem_set hf with h1 | h1
      · exact hn f h1
      · rw [h1, List.length_set]; exact hen
    · by_cases hkk : k' = k
      · subst hkk
        rw [List.getElem?_set_self (get_lt hk)] at h1
        cases h1
        by_cases hjo : j = o
        · subst hjo
          rw [List.getElem?_set_self (get_lt ho)] at h2
          cases h2
          rw [hx] at h3
          cases h3
          exact .lit (hone _ (get_mem hx))
        · rw [List.getElem?_set_ne (fun q => hjo q.symm)] at h2
          exact (hr k' e j t u' hk h2 h3).mono fun b hb => ⟨hb, by omega⟩
      · rw [List.getElem?_set_ne (fun q => hkk q.symm)] at h1
        have hjn : j < n := by rw [← hn e' (get_mem h1)]; exact get_lt h2
        exact (hr k' e' j t u' h1 h2 h3).mono fun b hb => ⟨hb, at_ne hjn hon hkk⟩
theorem Rel.takeL (h : Rel E N σ a w G) {i ver k o : Nat} {ty pty : TypeId} {es : List (List T)} {e : List T} {ps : List (List T)} (hi : σ.ob i = some (ver, .seq ty es)) (hk : es[k]? = some e) (ho : e[o]? = some (.seq pty ps)) :
    ∃ G' u, Rel E N ((σ.setob i (.seq ty (es.set k (e.set o (.lit u))))).new (.seq pty ps)) a w G' ∧ G'.vl σ.nx = u ∧ ∀ j, j < σ.nx → G'.vl j = G.vl j := by
  obtain ⟨hlt, hown, -⟩ := h.objs i ver _ hi
  obtain ⟨u, D, hD1, hD2, hD3⟩ := hown.takeL hk ho
  obtain ⟨σ1, hσ1⟩ : ∃ σ1, σ1 = (σ.setob i (.seq ty (es.set k (e.set o (.lit u))))).new (.seq pty ps) := ⟨_, rfl⟩
  obtain ⟨G', hG'⟩ : ∃ G' : Ghost, G' = { G with vl := fun j => if j = σ.nx then u else G.vl j, ft := fun j => if j = σ.nx then D else if j = i then (fun b => G.ft i b ∧ ¬ D b) else G.ft j } := ⟨_, rfl⟩
  have hine : i ≠ σ.nx := Nat.ne_of_lt hlt
  have hvn : G'.vl σ.nx = u := by rw [hG']; exact if_pos rfl
  have hfn : G'.ft σ.nx = D := by rw [hG']; exact if_pos rfl
  have hvo : ∀ j, j ≠ σ.nx → G'.vl j = G.vl j := fun j hj => by rw [hG']; exact if_neg hj
  have hfi : G'.ft i = fun b => G.ft i b ∧ ¬ D b := by rw [hG']; show (if i = σ.nx then _ else _) = _; rw [if_neg hine, if_pos rfl]
  have hfo : ∀ j, j ≠ σ.nx → j ≠ i → G'.ft j = G.ft j := fun j hj hji => by rw [hG']; show (if j = σ.nx then _ else _) = _; rw [if_neg hj, if_neg hji]
  have hb1 : σ1.ob σ.nx = some (0, .seq pty ps) := by rw [hσ1]; show (bif Nat.beq σ.nx σ.nx then _ else _) = _; rw [Nat.beq_refl]; rfl
  have hb2 : σ1.ob i = some (ver + 1, .seq ty (es.set k (e.set o (.lit u)))) := by rw [hσ1]; show (bif Nat.beq i σ.nx then _ else _) = _; rw [nbne hine]; show (σ.setob i _).ob i = _; rw [setob_self, hi]; rfl
  have hb3 : ∀ j, j ≠ σ.nx → j ≠ i → σ1.ob j = σ.ob j := fun j hj hji => by rw [hσ1]; show (bif Nat.beq j σ.nx then _ else _) = _; rw [nbne hj]; exact setob_ne hji
  have hft : ∀ j b, σ1.ob j ≠ none → G'.ft j b → (j = σ.nx ∧ D b) ∨ (j = i ∧ G.ft i b ∧ ¬ D b) ∨ (j ≠ σ.nx ∧ j ≠ i ∧ σ.ob j ≠ none ∧ G.ft j b) := fun j b hj hb => by
    by_cases h7 : j = σ.nx
    · subst h7; rw [hfn] at hb; exact .inl ⟨rfl, hb⟩
    · by_cases h8 : j = i
      · subst h8; rw [hfi] at hb; exact .inr (.inl ⟨rfl, hb⟩)
      · rw [hfo j h7 h8] at hb; rw [hb3 j h7 h8] at hj; exact .inr (.inr ⟨h7, h8, hj, hb⟩)
  have hio : σ.ob i ≠ none := by rw [hi]; simp
  have hturn := h.turn (σ' := σ1) (w' := w) (G' := G') (fun _ => False) (by rw [hσ1]; rfl) (by rw [hσ1]; rfl) (by rw [hG']) (Same.refl _ _) (fun _ _ _ => rfl) (fun _ _ hf => hf) (by rw [hσ1]; exact Nat.le_succ _) (fun j hj => hvo j (Nat.ne_of_lt hj)) (fun j v' t' hv => by
      by_cases h7 : j = σ.nx
      · subst h7
        rw [hb1] at hv
        cases hv
        refine .inr ⟨by rw [hσ1]; exact Nat.lt_succ_self _, fun hlt => absurd hlt (Nat.lt_irrefl _), by rw [hvn, hfn]; exact hD1, ⟨_, _, rfl⟩, fun b hb => ?_, fun b hb c hc e => ?_⟩
        · rw [hfn] at hb; exact h.ftlt i b hio (hD2 b hb)
        · rw [hfn] at hb; exact h.boxft c i hc hio (by rw [e]; exact hD2 b hb)
      · by_cases h8 : j = i
        · subst h8
          rw [hb2] at hv
          cases hv
          refine .inr ⟨by rw [hσ1]; exact Nat.lt_succ_of_lt hlt, fun _ => ⟨ver, _, hi, Nat.lt_succ_self _⟩, by rw [hvo j h7, hfi]; exact hD3, ⟨_, _, rfl⟩, fun b hb => ?_, fun b hb c hc e => ?_⟩
          · rw [hfi] at hb; exact h.ftlt j b hio hb.1
          · rw [hfi] at hb; exact h.boxft c j hc hio (by rw [e]; exact hb.1)
        · rw [hb3 j h7 h8] at hv
          exact .inl ⟨hv, fun b => by rw [hfo j h7 h8], fun _ _ hf => hf⟩) fun j1 j2 b hj1 hj2 hne hf1 hf2 => by
    rcases hft j1 b hj1 hf1 with ⟨q1, q2⟩ | ⟨q1, q2, q3⟩ | ⟨q1, q2, q3, q4⟩ <;> rcases hft j2 b hj2 hf2 with ⟨r1, r2⟩ | ⟨r1, r2, r3⟩ | ⟨r1, r2, r3, r4⟩
    · exact hne (q1.trans r1.symm)
    · exact r3 q2
    · exact h.disj j2 i b r3 hio r2 r4 (hD2 b q2)
    · exact q3 r2
    · exact hne (q1.trans r1.symm)
    · exact h.disj j2 i b r3 hio r2 r4 q2
    · exact h.disj j1 i b q3 hio q2 q4 (hD2 b r2)
    · exact h.disj j1 i b q3 hio q2 q4 r2
    · exact h.disj j1 j2 b q3 r3 hne q4 r4
  exact ⟨G', u, by rw [← hσ1]; exact hturn.1, hvn, fun j hj => hvo j (Nat.ne_of_lt hj)⟩
theorem Rel.name (h : Rel E N σ a w G) (L : Nat → Value) (hL : ∀ i, i < σ.nx → G.vl i = L i) : Rel { E with lv := L, nl := σ.nx } N σ a w G :=
  ⟨⟨h.below.os, h.below.tape, h.below.output, h.below.size, h.below.block⟩, h.dfr, h.nsz, h.tmps, h.boxes, h.inj, h.boxft, h.objs, h.disj, h.ftlt, ⟨Nat.le_refl _, hL, h.lent.2.2⟩⟩
theorem SV.takeN {i ver k o : Nat} {ty pty : TypeId} {es : List (List T)} {e : List T} {ps : List (List T)} (hi : σ.ob i = some (ver, .seq ty es)) (hk : es[k]? = some e) (ho : e[o]? = some (.seq pty ps))
    (q : ∀ (L : Nat → Value) (u : Value), L σ.nx = u → (∃ ad c, u = .slice ad ps.length c ∧ ps.length ≤ c ∧ c ≤ maxLen ∧ (0 < ps.length → ∃ g, ad = some ⟨g, 0, none⟩)) → SV { E with lv := L, nl := σ.nx + 1 } N ((σ.setob i (.seq ty (es.set k (e.set o (.lit u))))).new (.seq pty ps)) K) : SV E N σ K := fun a w G h => by
  obtain ⟨G', u, h1, h2, -⟩ := h.takeL hi hk ho
  obtain ⟨-, hown, -⟩ := h1.objs σ.nx 0 (.seq pty ps) (by show (bif Nat.beq σ.nx σ.nx then _ else _) = _; rw [Nat.beq_refl]; rfl)
  rw [h2] at hown
  refine q G'.vl u h2 ?_ a w G' (h1.name G'.vl fun _ _ => rfl)
  cases hown with
  | seq n hp hz hn xs hr =>
    obtain ⟨ad, c, h3, h4, h5, -, h6⟩ := own_slice hr
    exact ⟨ad, c, h3, h4, h5, fun hpos => by obtain ⟨g, hg, -⟩ := h6 hpos; exact ⟨g, hg⟩⟩
theorem OpL.mk {nb d : Nat} {V' : V} (h : OpL P E N nb σ o V') (hd : o.dst = some d) (hdN : d < N) : OpMk P E N none σ o (σ.put d V') := fun a w G K Q hr k => by
  obtain ⟨u, h1, h2⟩ := h a w G hr
  refine wp_value (h1 w ⟨fun _ _ => rfl, fun _ _ => rfl⟩) ?_
  rw [hd]
  exact k _ _ _ (hr.put hdN h2) ⟨Nat.le_refl _, Same.refl _ _, fun _ _ => rfl, fun _ _ => rfl, fun _ _ => .inl rfl, fun i h1 h2 => absurd h2 (Nat.not_lt.2 h1)⟩
theorem SV.unname {L : Nat → Value} {m : Nat} (h0 : E.nl = 0) (k : SV E N σ K) : SV { E with lv := L, nl := m } N σ K := fun a w G h => by
  refine k a w G ⟨⟨h.below.os, h.below.tape, h.below.output, h.below.size, h.below.block⟩, h.dfr, h.nsz, h.tmps, h.boxes, h.inj, h.boxft, h.objs, h.disj, h.ftlt, ⟨by rw [h0]; exact Nat.zero_le _, fun i hi => ?_, h.lent.2.2⟩⟩
  rw [h0] at hi
  exact absurd hi (Nat.not_lt_zero i)
theorem named_inn {p v : Nat} {t : T} (hp : σ.ob p = some (v, t)) (hl : p < E.nl) : ∀ a w G, Rel E N σ a w G → Inn (G.ft p) w t (E.lv p) := fun a w G h => by
  obtain ⟨-, h1, -⟩ := h.objs p v t hp
  rw [← h.lent.2.1 p hl]
  exact h1.inn
theorem named_inn' {p v : Nat} {t : T} {u : Value} (hp : σ.ob p = some (v, t)) (hl : p < E.nl) (hv : E.lv p = u) : ∀ a w G, Rel E N σ a w G → Inn (G.ft p) w t u := hv ▸ named_inn hp hl
theorem ok_tail {x y : Operand} {ki : IntKind} {ad : Option Addr} {len c n : Nat} {ty t : TypeId} (ho : o.op = .slice t x (some y) none none) (hu : Tryz.prog.underlying t = some (.slice ty)) (hz : Sz ty n) (hx : σ.ev x = V.one (.sc (.slice ad len c))) (hy : σ.ev y = V.one (.sc (.int ki 1))) (h1 : 1 ≤ len) (h2 : len ≤ c) :
    OpL Tryz.prog E N nb σ o (V.one (.sc (.slice (if c = 1 then ad else ad.map (·.add (1 * n))) (len - 1) (c - 1)))) := fun a w G hr => by
  have hx' := hr.sc hx
  have hy' := hr.sc hy
  obtain ⟨inf, hinf, hsz⟩ := hz
  have h3 : 1 ≤ c := Nat.le_trans h1 h2
  refine ⟨.slice (if c = 1 then ad else ad.map (·.add (1 * n))) (len - 1) (c - 1), fun v' _ => ?_, vone.2 ⟨rfl, .inr rfl⟩⟩
  simp [execOp, ho, Instr.sliceAt, Instr.slice, Instr.sliceBounds, Instr.sliceBound, asIntOf, run_underlying hu, sizeOf, Lib.rl_info ty inf hinf, hsz, Result.andThen, *]
  rw [if_pos (by omega)]
  simp
theorem tail_inn {p v : Nat} {pty : TypeId} {ps : List (List T)} {ad : Option Addr} {c n : Nat} (hp : σ.ob p = some (v, .seq pty ps)) (hl : p < E.nl) (hv : E.lv p = .slice ad ps.length c) (hz : Sz pty n) (h1 : 1 ≤ ps.length) : ∀ a w G, Rel E N σ a w G → Inn (G.ft p) w (.seq pty (ps.drop 1)) (.slice (if c = 1 then ad else ad.map (·.add (1 * n))) (ps.length - 1) (c - 1)) := fun a w G h => by
  have h2 := named_inn hp hl a w G h
  rw [hv] at h2
  have h3 := cut_inn (l := 1) (h := ps.length) h2 h1 (Nat.le_refl _) hz
  rw [List.take_length] at h3
  exact h3
theorem SV.freeze {m p b q vm vp : Nat} {ty pty bty : TypeId} {es es2 : List (List T)} {ps : List (List T)} {xs ys : List Leaf} (hm : σ.ob m = some (vm, .seq ty es)) (hp : σ.ob p = some (vp, .seq pty ps)) (hb : σ.bs[b]? = some (bty, xs)) (hq : xs[q]? = some (.hd m)) (hy : xs.set q (.nd σ.nx 0 (.seq ty es2) none) = ys) (hlen : es2.length = es.length)
    (hn : ∀ (k : Nat) (e e2 : List T), es[k]? = some e → es2[k]? = some e2 → e2.length = e.length)
    (hc : ∀ (k : Nat) (e e2 : List T) (j : Nat) (t t2 : T), es[k]? = some e → es2[k]? = some e2 → e[j]? = some t → e2[j]? = some t2 → t2 = t ∨ ∃ u, t = .lit u ∧ ∀ a w G, Rel E N σ a w G → Inn (G.ft p) w t2 u)
    (k : SV E N (((σ.kills [.hd m, .hd p]).new (.seq 72 [])).setb b bty ys) K) : SV E N σ K := fun a w G h => by
  subst hy
  obtain ⟨hmx, hom, -⟩ := h.objs m vm _ hm
  obtain ⟨hpx, hop, -⟩ := h.objs p vp _ hp
  have hmo : σ.ob m ≠ none := by rw [hm]; simp
  have hpo : σ.ob p ≠ none := by rw [hp]; simp
  obtain ⟨F, hF⟩ : ∃ F : Nat → Prop, F = fun b => G.ft m b ∨ G.ft p b := ⟨_, rfl⟩
  have hinn : Inn F w (.seq ty es2) (G.vl m) := by
    obtain ⟨ad, c, n, h1, h2, h3, h4, h5, h6, h7, bb, oo, us, h8, h9, h10, h11⟩ := inn_seq hom.inn
    rw [h1, ← hlen]
    have at1 : ∀ (k : Nat) (e2 : List T), es2[k]? = some e2 → ∃ e, es[k]? = some e ∧ e2.length = e.length := fun k e2 hk => by
      have hkl : k < es.length := by rw [← hlen]; exact get_lt hk
      exact ⟨es[k], List.getElem?_eq_getElem hkl, hn k _ e2 (List.getElem?_eq_getElem hkl) hk⟩
    have ne1 : es2 ≠ [] → es ≠ [] := fun hh e => hh (List.eq_nil_of_length_eq_zero (by rw [hlen, e]; rfl))
    refine Inn.seq n h5 h6 (fun e2 he => ?_) (by rw [hlen]; exact h2) h3 h4 bb oo us (fun x hx hh => h8 x hx (ne1 hh)) (fun hh => ⟨by rw [hF]; exact .inl (h9 (ne1 hh)).1, (h9 (ne1 hh)).2⟩) (fun k e2 j t2 hk ht => ?_) fun k e2 j t2 hk ht => ?_
    · obtain ⟨k, hkl, rfl⟩ := List.getElem_of_mem he
      obtain ⟨e, h12, h13⟩ := at1 k _ (List.getElem?_eq_getElem hkl)
      rw [h13]; exact h7 e (get_mem h12)
    · obtain ⟨e, h12, h13⟩ := at1 k e2 hk
      have hj : j < e.length := by rw [← h13]; exact get_lt ht
      exact h10 k e j e[j] h12 (List.getElem?_eq_getElem hj)
    · obtain ⟨e, h12, h13⟩ := at1 k e2 hk
      have hj : j < e.length := by rw [← h13]; exact get_lt ht
      have h14 := h11 k e j e[j] h12 (List.getElem?_eq_getElem hj)
      rcases hc k e e2 j e[j] t2 h12 hk (List.getElem?_eq_getElem hj) ht with h15 | ⟨u, h15, h16⟩
      · rw [h15]
        exact h14.frame (Nat.le_refl _) fun b hb _ => ⟨by rw [hF]; exact .inl hb, rfl⟩
      · rw [h15] at h14
        have h17 : us (k * n + j) = u := inn_lit h14
        rw [h17]
        exact (h16 a w G h).frame (Nat.le_refl _) fun b hb _ => ⟨by rw [hF]; exact .inr hb, rfl⟩
  obtain ⟨σ1, hσ1⟩ : ∃ σ1, σ1 = (σ.kills [.hd m, .hd p]).new (.seq 72 []) := ⟨_, rfl⟩
  obtain ⟨G', hG'⟩ : ∃ G' : Ghost, G' = { G with vl := fun j => if j = σ.nx then .slice none 0 0 else G.vl j, ft := fun j => if j = σ.nx then F else G.ft j } := ⟨_, rfl⟩
  have hvn : G'.vl σ.nx = .slice none 0 0 := by rw [hG']; exact if_pos rfl
  have hfn : G'.ft σ.nx = F := by rw [hG']; exact if_pos rfl
  have hvo : ∀ j, j ≠ σ.nx → G'.vl j = G.vl j := fun j hj => by rw [hG']; exact if_neg hj
  have hfo : ∀ j, j ≠ σ.nx → G'.ft j = G.ft j := fun j hj => by rw [hG']; exact if_neg hj
  have hβ : G'.β = G.β := by rw [hG']
  have hb1 : σ1.ob σ.nx = some (0, .seq 72 []) := by rw [hσ1]; show (bif Nat.beq σ.nx σ.nx then _ else _) = _; rw [Nat.beq_refl]; rfl
  have hb3 : ∀ j v, j ≠ σ.nx → σ1.ob j = some v → σ.ob j = some v ∧ j ≠ m ∧ j ≠ p := fun j v hj hv => by
    rw [hσ1] at hv
    have hv' : (bif Nat.beq j σ.nx then some (0, T.seq 72 []) else (bif (Nat.beq m j || (Nat.beq p j || false)) then none else σ.ob j)) = some v := hv
    rw [nbne hj] at hv'
    cases h7 : Nat.beq m j with
    | true => rw [h7] at hv'; cases hv'
    | false =>
      cases h8 : Nat.beq p j with
      | true => rw [h7, h8] at hv'; cases hv'
      | false =>
        rw [h7, h8] at hv'
        exact ⟨hv', (fun e => by rw [e, Nat.beq_refl] at h7; cases h7), (fun e => by rw [e, Nat.beq_refl] at h8; cases h8)⟩
  have hFl : ∀ b, F b → (E.B ≤ b ∨ E.ln b) ∧ b < w.heap.size := fun b hb => by rw [hF] at hb; exact hb.elim (h.ftlt m b hmo) (h.ftlt p b hpo)
  have hFo : ∀ j b, σ.ob j ≠ none → j ≠ m → j ≠ p → G.ft j b → ¬ F b := fun j b hj h7 h8 hb hf => by
    rw [hF] at hf
    exact hf.elim (h.disj j m b hj hmo h7 hb) (h.disj j p b hj hpo h8 hb)
  have hown : Own w 0 (.seq 72 []) (.slice none 0 0) F := .seq 3 (by decide) sz_impl_Row (fun e he => by cases he) [] (World.ownsRow_nil _ _ _ _) (fun _ _ => False) (fun k e j t u h1 => by simp at h1) (fun u hu => by cases hu) (fun b hb => by cases hb) (fun i b hb => hb.elim) (fun i b hb => hb.elim) fun i j b hb => hb.elim
  have hturn := h.turn (σ' := σ1) (w' := w) (G' := G') (fun _ => False) (by rw [hσ1]; rfl) (by rw [hσ1]; rfl) hβ (Same.refl _ _) (fun _ _ _ => rfl) (fun _ _ hf => hf) (by rw [hσ1]; exact Nat.le_succ _) (fun j hj => hvo j (Nat.ne_of_lt hj)) (fun j v' t' hv => by
      by_cases h7 : j = σ.nx
      · subst h7
        rw [hb1] at hv
        cases hv
        refine .inr ⟨by rw [hσ1]; exact Nat.lt_succ_self _, fun hlt => absurd hlt (Nat.lt_irrefl _), by rw [hvn, hfn]; exact hown, ⟨_, _, rfl⟩, fun b hb => ?_, fun b hb c hc e => ?_⟩
        · rw [hfn] at hb; exact hFl b hb
        · rw [hfn, hF] at hb
          exact hb.elim (fun hb => h.boxft c m hc hmo (by rw [e]; exact hb)) fun hb => h.boxft c p hc hpo (by rw [e]; exact hb)
      · obtain ⟨h8, -⟩ := hb3 j _ h7 hv
        exact .inl ⟨h8, fun b => by rw [hfo j h7], fun _ _ hf => hf⟩) fun j1 j2 b hj1 hj2 hne hf1 hf2 => by
    obtain ⟨v1, hv1⟩ := Option.ne_none_iff_exists'.1 hj1
    obtain ⟨v2, hv2⟩ := Option.ne_none_iff_exists'.1 hj2
    by_cases h1 : j1 = σ.nx
    · subst h1
      rw [hfn] at hf1
      have h2 : j2 ≠ σ.nx := fun e => hne e.symm
      rw [hfo j2 h2] at hf2
      obtain ⟨h8, h9, h10⟩ := hb3 j2 _ h2 hv2
      exact hFo j2 b (by rw [h8]; simp) h9 h10 hf2 hf1
    · rw [hfo j1 h1] at hf1
      obtain ⟨h8, h9, h10⟩ := hb3 j1 _ h1 hv1
      by_cases h2 : j2 = σ.nx
      · subst h2
        rw [hfn] at hf2
        exact hFo j1 b (by rw [h8]; simp) h9 h10 hf1 hf2
      · rw [hfo j2 h2] at hf2
        obtain ⟨h8', -⟩ := hb3 j2 _ h2 hv2
        exact h.disj j1 j2 b (by rw [h8]; simp) (by rw [h8']; simp) hne hf1 hf2
  obtain ⟨hB, us, h1, h2, h3⟩ := h.boxes b bty xs hb
  have hql := get_lt hq
  have hnx1 : σ.nx < σ1.nx := by rw [hσ1]; exact Nat.lt_succ_self _
  have k4 := hturn.1.setbox (b := b) (ty := bty) (xs := xs) (xs' := xs.set q (.nd σ.nx 0 (.seq ty es2) none)) (us' := us) (w' := w) (by rw [hσ1]; exact hb) (Same.refl _ _) (fun _ _ => rfl) (by rw [hβ]; exact h1) (by simpa using h2) (fun q' x u hq' hu => by
    by_cases hqj : q = q'
    · subst hqj
      rw [List.getElem?_set_self hql] at hq'
      cases hq'
      have hu2 := h3 q _ u hq hu
      refine ⟨⟨⟨hnx1, fun _ _ _ => Nat.zero_le _, fun _ => ⟨?_, fun k o e => by cases e⟩⟩, .inr hu2.2⟩, hu2.2⟩
      rw [hfn, hu2.1.1.2]
      exact hinn
    · rw [List.getElem?_set_ne hqj] at hq'
      exact ⟨hturn.2 x u (h3 q' x u hq' hu).1, (h3 q' x u hq' hu).2⟩)
  have e1 : ({ σ1 with bs := σ1.bs.set b (bty, xs.set q (.nd σ.nx 0 (.seq ty es2) none)) } : VS) = ((σ.kills [.hd m, .hd p]).new (.seq 72 [])).setb b bty (xs.set q (.nd σ.nx 0 (.seq ty es2) none)) := by rw [hσ1]; rfl
  rw [e1] at k4
  exact k a w G' k4
end Go.Proofs.YtjdjceohlcimaaaGreatDoor.V
/- What may be read as a tree lies in memory in a shape: contracts over shapes serve callers that are told by trees. -/
namespace Go.Proofs.YtjdjceohlcimaaaGreatDoor.V
open Go Go.RowKit
set_option linter.unusedVariables false
def Cel (ok : Nat → Prop) (w : World) (ts : List T) (us : List Value) : Prop := us.length = ts.length ∧ ∀ (j : Nat) (t : T) (u : Value), ts[j]? = some t → us[j]? = some u → Inn ok w t u
theorem Cel.cons {ok : Nat → Prop} {w : World} {t : T} {ts : List T} {us : List Value} (h : Cel ok w (t :: ts) us) : ∃ u us', us = u :: us' ∧ Inn ok w t u ∧ Cel ok w ts us' := by
  obtain ⟨h1, h2⟩ := h
  match us, h1, h2 with
  | u :: us', h1, h2 => exact ⟨u, us', rfl, h2 0 t u rfl rfl, ⟨by simpa using h1, fun j t u hj hu => h2 (j + 1) t u hj hu⟩⟩
theorem Cel.nil {ok : Nat → Prop} {w : World} {us : List Value} (h : Cel ok w [] us) : us = [] := List.eq_nil_of_length_eq_zero h.1
def Fits {α : Type} (r : Rep α) (e : α → List T) (good : α → Prop) : Prop := (∀ x, (e x).length = r.size) ∧ ∀ (ok : Nat → Prop) (w : World) (x : α) (us : List Value), good x → Cel ok w (e x) us → ∃ h, r.cells x h = us ∧ r.inn w x h
theorem inn_seqIn {α : Type} {r : Rep α} {e : α → List T} {g : α → Prop} {ty : TypeId} {ok : Nat → Prop} {w : World} {xs : List α} {v : Value} (hf : Fits r e g) (h : Inn ok w (.seq ty (xs.map e)) v) (hg : ∀ x ∈ xs, g x) :
    ∃ a c, v = .slice a xs.length c ∧ SeqIn r w a xs.length xs ∧ (a = none → c = 0) := by
  obtain ⟨es, he⟩ : ∃ es, es = xs.map e := ⟨_, rfl⟩
  rw [← he] at h
  cases h with
  | @seq ty es a c n hp hz hn hc hm h0 b o us ha hb hcell hr =>
    have hl : es.length = xs.length := by rw [he, List.length_map]
    refine ⟨a, c, by rw [hl], ⟨rfl, by omega, ?_⟩, h0⟩
    by_cases hx : xs = []
    · left; rw [hx]; rfl
    · right
      obtain ⟨x0, xs0, hx0⟩ := List.exists_cons_of_ne_nil hx
      have hne : es ≠ [] := fun h => hx (List.eq_nil_of_length_eq_zero (by rw [← hl, h]; rfl))
      have hpos : 0 < es.length := List.length_pos_iff.2 hne
      have had : a = some ⟨b, o, none⟩ := by
        cases a with
        | none => have := h0 rfl; omega
        | some ad => rw [ha ad rfl hne]
      have hsz : r.size = n := by rw [← hf.1 x0]; exact hn _ (by rw [he, hx0]; exact List.mem_cons_self)
      have key : ∀ t x, xs[t]? = some x → ∃ h, r.cells x h = (List.range n).map (fun j => us (t * n + j)) ∧ r.inn w x h := fun t x hx => by
        refine hf.2 ok w x _ (hg x (List.mem_of_getElem? hx)) ⟨by rw [List.length_map, List.length_range, hf.1 x, hsz], fun j t' u hj hu => ?_⟩
        rw [List.getElem?_map] at hu
        obtain ⟨j', hj', rfl⟩ := Option.map_eq_some_iff.1 hu
        obtain ⟨hj1, hj2⟩ := List.getElem?_eq_some_iff.1 hj'
        rw [List.getElem_range] at hj2
        subst hj2
        exact hr t (e x) j t' (by rw [he, List.getElem?_map, hx]; rfl) hj
      have hall : ∀ t, ∃ h : r.H, ∀ x, xs[t]? = some x → r.cells x h = (List.range n).map (fun j => us (t * n + j)) ∧ r.inn w x h := fun t => by
        cases hxt : xs[t]? with
        | none => obtain ⟨h, -⟩ := key 0 x0 (by rw [hx0]; rfl); exact ⟨h, fun x hx => by cases hx⟩
        | some x => obtain ⟨h, h1⟩ := key t x hxt; exact ⟨h, fun y hy => by cases hy; exact h1⟩
      obtain ⟨hs, hhs⟩ := Classical.axiomOfChoice hall
      refine ⟨b, o, had, (hb hne).2, hs, fun t x hx => ⟨fun j u hj => ?_, (hhs t x hx).2⟩⟩
      rw [(hhs t x hx).1, List.getElem?_map] at hj
      obtain ⟨j', hj', rfl⟩ := Option.map_eq_some_iff.1 hj
      obtain ⟨hj1, hj2⟩ := List.getElem?_eq_some_iff.1 hj'
      rw [List.getElem_range] at hj2
      subst hj2
      rw [List.length_range] at hj1
      have hjl : j < (e x).length := by rw [hf.1 x, hsz]; exact hj1
      rw [hsz, Nat.add_assoc]
      exact hcell t (e x) j (e x)[j] (by rw [he, List.getElem?_map, hx]; rfl) (List.getElem?_eq_getElem hjl)
theorem Fits.fin : Fits endRep (fun _ => []) (fun _ => True) := ⟨fun _ => rfl, fun ok w x us _ h => ⟨(), h.nil.symm, trivial⟩⟩
theorem Fits.int {β : Type} {s : Rep β} {e : β → List T} {g : β → Prop} (h : Fits s e g) : Fits (intAnd s) (fun x => .lit (.int .i64 x.1) :: e x.2) (fun x => I64 x.1 ∧ g x.2) :=
  ⟨fun x => by rw [List.length_cons, h.1]; rfl, fun ok w x us hg hc => by
    obtain ⟨u, us', rfl, h1, h2⟩ := hc.cons
    obtain ⟨k, rfl, h4⟩ := h.2 ok w x.2 us' hg.2 h2
    rw [inn_lit h1]
    exact ⟨k, rfl, hg.1, h4⟩⟩
theorem Fits.bool {β : Type} {s : Rep β} {e : β → List T} {g : β → Prop} (h : Fits s e g) : Fits (boolAnd s) (fun x => .lit (.bool x.1) :: e x.2) (fun x => g x.2) :=
  ⟨fun x => by rw [List.length_cons, h.1]; rfl, fun ok w x us hg hc => by
    obtain ⟨u, us', rfl, h1, h2⟩ := hc.cons
    obtain ⟨k, rfl, h4⟩ := h.2 ok w x.2 us' hg h2
    rw [inn_lit h1]
    exact ⟨k, rfl, h4⟩⟩
theorem Fits.slice {α : Type} {r : Rep α} {e : α → List T} {g : α → Prop} (ty : TypeId) (hf : Fits r e g) : Fits (seqRep r) (fun xs => [.seq ty (xs.map e)]) (fun xs => ∀ x ∈ xs, g x) :=
  ⟨fun _ => rfl, fun ok w x us hg hc => by
    obtain ⟨u, us', rfl, h1, h2⟩ := hc.cons
    obtain ⟨a, c, rfl, h3, h4⟩ := inn_seqIn hf h1 hg
    rw [h2.nil]
    exact ⟨(a, x.length, c), rfl, h3, h4⟩⟩
theorem Fits.seq {α β : Type} {r : Rep α} {e : α → List T} {g : α → Prop} (ty : TypeId) (hf : Fits r e g) {s : Rep β} {f : β → List T} {k : β → Prop} (h : Fits s f k) : Fits (seqAnd r s) (fun x => .seq ty (x.1.map e) :: f x.2) (fun x => (∀ y ∈ x.1, g y) ∧ k x.2) :=
  ⟨fun x => by rw [List.length_cons, h.1]; rfl, fun ok w x us hg hc => by
    obtain ⟨u, us', rfl, h1, h2⟩ := hc.cons
    obtain ⟨a, c, rfl, h3, h4⟩ := inn_seqIn hf h1 hg.1
    obtain ⟨m, rfl, h6⟩ := h.2 ok w x.2 us' hg.2 h2
    exact ⟨((a, x.1.length, c), m), rfl, ⟨h3, h4⟩, h6⟩⟩
theorem Fits.via {α β : Type} (f : α → β) {r : Rep β} {e : β → List T} {g : β → Prop} (h : Fits r e g) : Fits (viaRep f r) (fun x => e (f x)) (fun x => g (f x)) := ⟨fun x => h.1 (f x), fun ok w x us hg hc => h.2 ok w (f x) us hg hc⟩
theorem Fits.row : Fits rowRep (fun r => [.lit (.int .i64 r.key), .lit (.int .i64 r.value), .lit (.int .i64 r.width)]) R.wf :=
  ⟨fun _ => rfl, fun ok w x us hg hc => by
    obtain ⟨u1, us1, rfl, h1, hc⟩ := hc.cons
    obtain ⟨u2, us2, rfl, h2, hc⟩ := hc.cons
    obtain ⟨u3, us3, rfl, h3, hc⟩ := hc.cons
    rw [inn_lit h1, inn_lit h2, inn_lit h3, hc.nil]
    exact ⟨(), rfl, hg⟩⟩
/-! ### Arguments, one behind the other -/
theorem ArgsIn.cut {E : Env} {w : World} {ag : Bool} {ts : List T} {ins : List (Bool × List T)} {vs : List Value} (h : ArgsIn E w ((ag, ts) :: ins) vs) : ∃ us vs', vs = cval ag us :: vs' ∧ Cel E.old w ts us ∧ ArgsIn E w ins vs' := by
  obtain ⟨h1, h2⟩ := h
  match vs, h1, h2 with
  | v :: vs', h1, h2 =>
    obtain ⟨us, rfl, h3, h4⟩ := h2 0 ag ts v rfl rfl
    exact ⟨us, vs', rfl, ⟨h3, h4⟩, ⟨by simpa using h1, fun c ag ts v hc hv => h2 (c + 1) ag ts v hc hv⟩⟩
theorem ArgsIn.none {E : Env} {w : World} {vs : List Value} (h : ArgsIn E w [] vs) : vs = [] := List.eq_nil_of_length_eq_zero h.1
theorem ArgsIn.shape {α : Type} {r : Rep α} {e : α → List T} {g : α → Prop} (hf : Fits r e g) {E : Env} {w : World} {ag : Bool} {x : α} (hg : g x) {ins : List (Bool × List T)} {vs : List Value} (h : ArgsIn E w ((ag, e x) :: ins) vs) : ∃ k vs', vs = cval ag (r.cells x k) :: vs' ∧ r.inn w x k ∧ ArgsIn E w ins vs' := by
  obtain ⟨us, vs', rfl, h1, h2⟩ := h.cut
  obtain ⟨k, rfl, h4⟩ := hf.2 _ w x us hg h1
  exact ⟨k, vs', rfl, h4, h2⟩
theorem ArgsIn.lit {E : Env} {w : World} {u : Value} {ins : List (Bool × List T)} {vs : List Value} (h : ArgsIn E w ((false, [.lit u]) :: ins) vs) : ∃ vs', vs = u :: vs' ∧ ArgsIn E w ins vs' := by
  obtain ⟨us, vs', rfl, h1, h2⟩ := h.cut
  obtain ⟨v, us', rfl, h3, h4⟩ := h1.cons
  rw [inn_lit h3]
  exact ⟨vs', rfl, h2⟩
theorem Gives.plain {w w' : World} {e : Ending} {ag : Bool} {rs : List Value} (h1 : ∀ u ∈ rs, u.oneCell' = true) (h : e = .returned (cval ag rs) ∧ Below w.heap.size w w') : Gives (Env.of w) false [(ag, rs.map T.lit)] e w' := by
  refine ⟨[rs], fun _ _ _ => False, rfl, by rw [h.1]; rfl, fun c ag' ts us hc hu => ?_, fun c j c' j' b hb => hb.elim, fun c j b hb => hb.elim, .of_below h.2⟩
  cases c with
  | zero =>
    cases hc; cases hu
    refine ⟨by simp, fun j t u hj hu => ?_⟩
    rw [List.getElem?_map, hu] at hj
    cases hj
    exact .lit (h1 u (get_mem hu))
  | succ c => simp at hc
theorem VC.shape1At {α : Type} {r : Rep α} {e : α → List T} {g : α → Prop} (hf : Fits r e g) {P : Program} {f : FuncId} {x : α} (hg : g x) {ag : Bool} {u : Value} (hu : u.oneCell' = true) {w : World} (h : ∀ k, r.inn w x k → Calls P f #[cval ag (r.cells x k)] w fun e w' => e = .returned u ∧ Below w.heap.size w w') (vs : List Value) (hv : ArgsIn (Env.of w) w [(ag, e x)] vs) : Calls P f vs.toArray w (Gives (Env.of w) false [(false, [.lit u])]) := by
  obtain ⟨k, vs', rfl, h1, h2⟩ := hv.shape hf hg
  rw [h2.none]
  exact (h k h1).mono fun e w' he => Gives.plain (ag := false) (rs := [u]) (fun v hv => by rw [List.mem_singleton.1 hv]; exact hu) he
theorem VC.shape1 {α : Type} {r : Rep α} {e : α → List T} {g : α → Prop} (hf : Fits r e g) {P : Program} {f : FuncId} {x : α} (hg : g x) {ag : Bool} {u : Value} (hu : u.oneCell' = true) (h : ∀ w k, r.inn w x k → Calls P f #[cval ag (r.cells x k)] w fun e w' => e = .returned u ∧ Below w.heap.size w w') : VC P f [(ag, e x)] false [(false, [.lit u])] := fun w vs hv => VC.shape1At hf hg hu (h w) vs hv
theorem VC.shape2 {α : Type} {r : Rep α} {e : α → List T} {g : α → Prop} (hf : Fits r e g) {P : Program} {f : FuncId} {x : α} (hg : g x) {ag : Bool} {y u : Value} (hu : u.oneCell' = true) (h : ∀ w k, r.inn w x k → Calls P f #[cval ag (r.cells x k), y] w fun e w' => e = .returned u ∧ Below w.heap.size w w') : VC P f [(ag, e x), (false, [.lit y])] false [(false, [.lit u])] := fun w vs hv => by
  obtain ⟨k, vs', rfl, h1, h2⟩ := hv.shape hf hg
  obtain ⟨vs', rfl, h3⟩ := h2.lit
  rw [h3.none]
  exact (h w k h1).mono fun e w' he => Gives.plain (ag := false) (rs := [u]) (fun v hv => by rw [List.mem_singleton.1 hv]; exact hu) he
end Go.Proofs.YtjdjceohlcimaaaGreatDoor.V
