/- l1PickInt, l1Num: an int, whichever. -/
import Derived.Test.YtckfagjffpajdaaDoorNew
import Derived.Laws.IdiomStrings
namespace Go.Proofs.YtckfagjffpajdaaDoor
open Go.RowKit

theorem belowS_fst (zs : List Int) (len : Nat) (n : Int) (σ : Int × Int) (hn : 1 ≤ n) : 0 ≤ (belowS zs len n σ).1 ∧ (belowS zs len n σ).1 < n :=
  belowS_range (x := (belowS zs len n σ).1) (τ := (belowS zs len n σ).2) hn rfl
/-- An int of its kind. -/
def AnInt (x : Int) : Prop := (Lit.int .i64 x).wf = true
/-- Block g holds the ints L. -/
def Ints (w : World) (g : Nat) (L : List Int) : Prop := ∀ t, t < L.length → w.cell? ⟨g, t, none⟩ = some (.int .i64 (L.getD t 0))
/-- l1PickInt as a function of the cursor's state. -/
def pickS (zs : List Int) (len : Nat) (L : List Int) (σ : Int × Int) : Int × (Int × Int) := (L.getD (belowS zs len (L.length : Nat) σ).1.toNat 0, (belowS zs len (L.length : Nat) σ).2)

set_option maxRecDepth 100000 in
theorem pick_any (a : Option Addr) (len cap : Nat) (zs : List Int) (σ : Int × Int) (c : Nat) (w : World) (hc : Cur a len cap zs σ w c) (g n m : Nat) (L : List Int) (hg : Ints w g L) (hgc : ¬ g = c) (hn : n = L.length) (h1 : 1 ≤ n) (h2 : n ≤ 1000000000) :
    Calls Tryd.prog 32 #[.pointer (some ⟨c, 0, none⟩), .slice (some ⟨g, 0, none⟩) n m] w (Drawn (pickS zs len L) a len cap zs σ c w) := by
  have HC := Lib.hid hc
  have HG := Lib.hid hg
  have HN := Lib.hid hn
  clear hc hg hn
  go_enter Tryd.func32, Tryd.ntmps32
  go_wp2_with fail
  refine (below_any a len cap zs _ c _ HC.out (n : Int) (by omega) (by omega)).mono ?_
  rintro e w1 ⟨x, τ, hf1, rfl, hc1, ho1⟩
  obtain ⟨hx0, hx1⟩ := belowS_range (by omega) hf1
  have F1 := Lib.hid hf1
  clear hf1
  obtain ⟨t, rfl⟩ : ∃ t : Nat, x = (t : Int) := ⟨x.toNat, by omega⟩
  have htn : t < n := by omega
  have hcell := HG.out t (by have := HN.out; omega)
  have hlt : g < w.heap.size := World.block_lt_of_cell? w _ hcell
  have hcell1 : w1.cell? ⟨g, t, none⟩ = some (.int .i64 (L.getD t 0)) := (World.cell?_of_block (ho1.block g hlt (fun e => hgc (by injection e)))).trans hcell
  clear hcell
  obtain ⟨z, hz⟩ : ∃ z, z = L.getD t 0 := ⟨_, rfl⟩
  rw [← hz] at hcell1
  have HZ := Lib.hid hz
  clear hz
  have H1 := Lib.hid hc1
  have O1 := Lib.hid ho1
  clear hc1 ho1
  go_wp2_with fail
  go_ret
  refine ⟨_, τ, ?_, rfl, H1.out, O1.out⟩
  unfold pickS
  have hn := HN.out
  rw [← hn, F1.out, HZ.out, Int.toNat_natCast]

/-- The edges that l1Num draws from. -/
def edges : List Int := [-1, 0, 127, 128, 255, 256, 16383, 16384, 65535, 65536, 562949953421311, 562949953421312, 999999999, 1000000000, -999999999, 9223372036854775807, -9223372036854775808]
def edgeCells : Array Value := (edges.map (Value.int .i64)).toArray
theorem edges_wf : ∀ z ∈ edges, AnInt z := by unfold AnInt; decide
theorem ints_edges (w : World) : Ints (w.alloc (.cells edgeCells 3)) w.heap.size edges := by
  intro t ht
  rw [World.cell?_alloc_mark]
  unfold edgeCells
  rw [List.getElem?_toArray, List.getElem?_map, List.getElem?_eq_getElem ht, List.getD_eq_getElem?_getD, List.getElem?_eq_getElem ht]; rfl
/-- l1Num as a function of the cursor's state. -/
def numS (zs : List Int) (len : Nat) (σ : Int × Int) : Int × (Int × Int) :=
  let r := belowS zs len 8 σ
  if r.1 = 0 then pickS zs len edges r.2
  else if r.1 = 1 then
    let y := belowS zs len 1000000000 r.2
    let z := belowS zs len 1000000000 y.2
    (wrap64 (y.1 * z.1), z.2)
  else if r.1 = 2 then
    let y := belowS zs len 100000 r.2
    (-y.1, y.2)
  else belowS zs len 70000 r.2
theorem numS_int {zs : List Int} {len : Nat} {σ τ : Int × Int} {x : Int} (h : numS zs len σ = (x, τ)) : AnInt x := by
  have hx : x = (numS zs len σ).1 := by rw [h]
  rw [hx]; unfold numS
  simp only []
  split
  · unfold pickS
    simp only []
    rw [List.getD_eq_getElem?_getD]
    cases he : edges[(belowS zs len (edges.length : Nat) (belowS zs len 8 σ).2).1.toNat]? with
    | none => exact WalkArith.wf_i64 ⟨by decide, by decide⟩
    | some z => exact edges_wf z (List.mem_of_getElem? he)
  · split
    · exact wrap64_wf _
    · split
      · have := belowS_fst zs len 100000 (belowS zs len 8 σ).2 (by omega)
        exact WalkArith.wf_i64 ⟨by simp only []; omega, by simp only []; omega⟩
      · have := belowS_fst zs len 70000 (belowS zs len 8 σ).2 (by omega)
        exact WalkArith.wf_i64 ⟨by omega, by omega⟩

set_option maxRecDepth 100000 in
theorem num_any (a : Option Addr) (len cap : Nat) (zs : List Int) (σ : Int × Int) (c : Nat) (w : World) (hc : Cur a len cap zs σ w c) (halt : ∀ x, a = some x → 0 < cap → x.block < w.heap.size) :
    Calls Tryd.prog 21 #[.pointer (some ⟨c, 0, none⟩)] w (Drawn (numS zs len) a len cap zs σ c w) := by
  have HC := Lib.hid hc
  have HA := Lib.hid halt
  clear hc halt
  go_enter Tryd.func21, Tryd.ntmps21
  go_wp2_with fail
  refine (below_any a len cap zs _ c _ HC.out 8 (by omega) (by omega)).mono ?_
  rintro e w1 ⟨x, τ, hf1, rfl, hc1, ho1⟩
  obtain ⟨hx0, hx1⟩ := belowS_range (by omega) hf1
  have F1 := Lib.hid hf1
  have H1 := Lib.hid hc1
  have O1 := Lib.hid ho1
  clear hc1 ho1 hf1
  by_cases h0 : x = 0
  · subst h0
    clear hx0 hx1
    have hca : Cur a len cap zs τ (w1.alloc (.cells edgeCells 3)) c := H1.out.below ((Below.refl w1.heap.size w1).alloc (Nat.le_refl _) _) H1.out.lt fun x hx hp => Nat.lt_of_lt_of_le (HA.out x hx hp) O1.out.size
    have HCA := Lib.hid hca
    have HI := Lib.hid (ints_edges w1)
    have hne : ¬ w1.heap.size = c := fun e => absurd H1.out.lt (by rw [← e]; exact Nat.lt_irrefl _)
    have OA := Lib.hid (O1.out.alloc (.cells edgeCells 3))
    clear hca
    go_wp2_with fail
    refine (pick_any a len cap zs τ c (w1.alloc (.cells edgeCells 3)) HCA.out w1.heap.size 17 17 edges HI.out hne rfl (by omega) (by omega)).mono ?_
    rintro e w2 ⟨y, τ2, hf2, rfl, hc2, ho2⟩
    have H2 := Lib.hid hc2
    have O2 := Lib.hid (OA.out.trans ho2)
    have F2 := Lib.hid hf2
    clear hc2 ho2 hf2
    go_wp2_with fail
    go_ret
    exact ⟨_, τ2, by unfold numS; rw [F1.out]; simp only []; rw [if_pos trivial]; exact F2.out, rfl, H2.out, O2.out⟩
  · have e0 : (x == 0) = false := beq_eq_false_iff_ne.2 h0
    clear h0
    by_cases h1 : x = 1
    · subst h1
      clear hx0 hx1 e0
      go_wp2_with fail
      refine (below_any a len cap zs _ c _ H1.out 1000000000 (by omega) (by omega)).mono ?_
      rintro e w2 ⟨y, τ2, hf2, rfl, hc2, ho2⟩
      obtain ⟨hy0, hy1⟩ := belowS_range (by omega) hf2
      have F2 := Lib.hid hf2
      have H2 := Lib.hid hc2
      have O2 := Lib.hid (O1.out.trans ho2)
      clear hc2 ho2 hf2
      go_wp2_with fail
      refine (below_any a len cap zs _ c _ H2.out 1000000000 (by omega) (by omega)).mono ?_
      rintro e w3 ⟨z, τ3, hf3, rfl, hc3, ho3⟩
      have F3 := Lib.hid hf3
      have H3 := Lib.hid hc3
      have O3 := Lib.hid (O2.out.trans ho3)
      clear hc3 ho3 hf3
      go_wp2_with fail
      go_ret
      exact ⟨_, τ3, by unfold numS; rw [F1.out]; simp only []; rw [if_neg (by decide), if_pos trivial, F2.out]; simp only []; rw [F3.out], rfl, H3.out, O3.out⟩
    · have e1 : (x == 1) = false := beq_eq_false_iff_ne.2 h1
      clear h1
      by_cases h2 : x = 2
      · subst h2
        clear hx0 hx1 e0 e1
        go_wp2_with fail
        refine (below_any a len cap zs _ c _ H1.out 100000 (by omega) (by omega)).mono ?_
        rintro e w2 ⟨y, τ2, hf2, rfl, hc2, ho2⟩
        obtain ⟨hy0, hy1⟩ := belowS_range (by omega) hf2
        have F2 := Lib.hid hf2
        have H2 := Lib.hid hc2
        have O2 := Lib.hid (O1.out.trans ho2)
        clear hc2 ho2 hf2
        go_wp2_with fail
        go_ret
        exact ⟨_, τ2, by unfold numS; rw [F1.out]; simp only []; rw [if_neg (by decide), if_neg (by decide), if_pos trivial, F2.out], rfl, H2.out, O2.out⟩
      · have e2 : (x == 2) = false := beq_eq_false_iff_ne.2 h2
        clear h2
        go_wp2_with fail
        refine (below_any a len cap zs _ c _ H1.out 70000 (by omega) (by omega)).mono ?_
        rintro e w2 ⟨y, τ2, hf2, rfl, hc2, ho2⟩
        obtain ⟨hy0, hy1⟩ := belowS_range (by omega) hf2
        have F2 := Lib.hid hf2
        have H2 := Lib.hid hc2
        have O2 := Lib.hid (O1.out.trans ho2)
        clear hc2 ho2 hf2
        go_wp2_with fail
        go_ret
        exact ⟨_, τ2, by unfold numS; rw [F1.out]; simp only []; rw [if_neg (by simpa using e0), if_neg (by simpa using e1), if_neg (by simpa using e2)]; exact F2.out, rfl, H2.out, O2.out⟩
end Go.Proofs.YtckfagjffpajdaaDoor
