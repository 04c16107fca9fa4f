/- What DrawFormatRow, DrawParseRow, DrawFormatRows and DrawParseRows give: a row, a string, rows, a string; l1Pick, by contract. -/
import Derived.Test.YtpgckggmcehmpaaDoorRowsDraw
import Derived.Test.YtpgckggmcehmpaaDoorFrows
import Derived.Test.YtpgckggmcehmpaaDoorFmtRows
namespace Go.Proofs.YtpgckggmcehmpaaDoor
open Go.RowKit

set_option maxRecDepth 100000 in
theorem picks_any (a : Option Addr) (len cap : Nat) (zs : List Int) (σ : Int × Int) (c : Nat) (w : World) (hc : Cur a len cap zs σ w c) (g n m : Nat) (L : List ByteArray) (hg : ∀ t (ht : t < L.length), w.cell? ⟨g, t, none⟩ = some (.string L[t])) (hgc : ¬ g = c) (hn : n = L.length) (h1 : 1 ≤ n) (h2 : n ≤ 1000000000) :
    Calls Tryd.prog 43 #[.pointer (some ⟨c, 0, none⟩), .slice (some ⟨g, 0, none⟩) n m] w fun e w' => ∃ s τ, s ∈ L ∧ e = .returned (.string s) ∧ Cur a len cap zs τ w' c ∧ Only c w w' := by
  have HC := Lib.hid hc
  have HG := Lib.hid hg
  have HN := Lib.hid hn
  clear hc hg hn
  go_enter Tryd.func43, Tryd.ntmps43
  go_wp2_with fail
  refine (below_any a len cap zs _ c _ HC.out (n : Int) (by omega) (by omega)).mono ?_
  rintro e w1 ⟨x, τ, hf1, rfl, hc1, ho1⟩
  obtain ⟨hx0, hx1⟩ := belowS_range (by omega) hf1
  clear hf1
  obtain ⟨t, rfl⟩ : ∃ t : Nat, x = (t : Int) := ⟨x.toNat, by omega⟩
  have htn : t < n := by omega
  have htl : t < L.length := by have := HN.out; omega
  have hcell := HG.out t htl
  have hlt : g < w.heap.size := World.block_lt_of_cell? w _ hcell
  have hcell1 : w1.cell? ⟨g, t, none⟩ = some (.string L[t]) := (World.cell?_of_block (ho1.block g hlt (fun e => hgc (by injection e)))).trans hcell
  clear hcell
  have hm := Lib.hid (List.getElem_mem htl)
  obtain ⟨s, hs⟩ : ∃ s, s = L[t] := ⟨_, rfl⟩
  rw [← hs] at hcell1 hm
  clear hs
  have H1 := Lib.hid hc1
  have O1 := Lib.hid ho1
  clear hc1 ho1
  go_wp2_with fail
  go_ret
  exact ⟨s, τ, hm.out, rfl, H1.out, O1.out⟩
theorem strs_alloc (w : World) (L : List ByteArray) (t : TypeId) : ∀ j (hj : j < L.length), (w.alloc (.cells (L.map Value.string).toArray t)).cell? ⟨w.heap.size, j, none⟩ = some (.string L[j]) := by
  intro j hj
  rw [World.cell?_alloc_mark]
  simp [hj]
theorem spoilS_size (zs : List Int) (len : Nat) (s : ByteArray) (σ : Int × Int) : (spoilS zs len s σ).1.size ≤ 2 * s.size + 3 := by
  unfold spoilS
  split
  · have := textS_length zs len 3 σ (by omega)
    show (textS zs len 3 σ).1.toArray.size ≤ _
    rw [List.size_toArray]; omega
  · simp only []
    have h1 : ∀ x : Int, (oneByte x).size = 1 := fun x => rfl
    split
    · simp only [ByteArray.size_append, ByteArray.size_extract]; omega
    · split
      · simp only [ByteArray.size_append, ByteArray.size_extract, h1]; omega
      · split
        · simp only [ByteArray.size_extract]; omega
        · simp only [ByteArray.size_append, ByteArray.size_extract, h1]; omega
set_option maxRecDepth 100000 in
theorem draw_row (a : Option Addr) (len cap : Nat) (zs : List Int) (w : World) (h : Code a len cap zs w) :
    Calls Tryd.prog 9 #[.slice a len cap] w fun e w' => ∃ r : R, r.wf ∧ e = .returned (.agg #[.int .i64 r.key, .int .i64 r.value, .int .i64 r.width]) ∧ Below w.heap.size w w' := by
  have hb0 : Below w.heap.size w (w.alloc (.cells #[.int .i64 0, .int .i64 0, .int .i64 0] 25)) := (Below.refl _ _).alloc (Nat.le_refl _) _
  have V0 : Hid (Var3 (w.alloc (.cells #[.int .i64 0, .int .i64 0, .int .i64 0] 25)) w.heap.size R.zero) := Var3.made w R.zero
  have HC := Lib.hid (h.below hb0)
  have HB := Lib.hid hb0
  have hsz : (w.alloc (.cells #[.int .i64 0, .int .i64 0, .int .i64 0] 25)).heap.size = w.heap.size + 1 := by simp
  have HZ := Lib.hid hsz
  clear h hb0 hsz
  go_enter Tryd.func9, Tryd.ntmps9
  go_wp2_with fail
  refine (new_any a len cap zs _ HC.out.row HC.out.small HC.out.old).mono ?_
  rintro e w1 ⟨c, rfl, hc1, hge, b1⟩
  have H1 := Lib.hid hc1
  have B1 := Lib.hid (HB.out.trans (b1.mono HB.out.size))
  have V1 := Lib.hid (V0.out.keep b1)
  have A1 := Lib.hid fun y hy hp => Nat.lt_of_lt_of_le (HC.out.old y hy hp) b1.size
  have hcw : w.heap.size < c := by have := HZ.out; omega
  clear hc1 b1 hge
  go_wp2_with fail
  refine (any_any a len cap zs _ c _ H1.out A1.out).mono ?_
  rintro e w2 ⟨r, τ, hf, rfl, hc2, ho2⟩
  have hrw : Hid r.wf := by have := anyS_wf zs len (0, newH zs len); rw [hf] at this; exact this
  have V2 := Lib.hid (V1.out.only ho2 (by omega))
  have B2 := Lib.hid (B1.out.trans (ho2.below B1.out.size (by omega)))
  clear hf hc2 ho2
  obtain ⟨d0, d1, d2⟩ := V2.out.cells
  obtain ⟨f0, f1, f2⟩ := V2.out.free
  go_wp2_with fail
  refine bodyPost_ret (v := .agg #[.int .i64 r.key, .int .i64 r.value, .int .i64 r.width]) (by simp [results, Tryd.results9, go_sem, *]) rfl ⟨r, hrw.out, rfl, below_set3 B2.out (Nat.le_refl _) _ _ _ _ _ _⟩
set_option maxRecDepth 100000 in
theorem draw_rows (a : Option Addr) (len cap : Nat) (zs : List Int) (w : World) (h : Code a len cap zs w) :
    Calls Tryd.prog 17 #[.slice a len cap] w fun e w' => ∃ (x : Option Addr) (n m : Nat) (L : List R), e = .returned (.slice x n m) ∧ n ≤ 1000 ∧ (∀ r ∈ L, r.wf) ∧ IsRows w' x n L ∧ Below w.heap.size w w' := by
  have HC := Lib.hid h
  clear h
  go_enter Tryd.func17, Tryd.ntmps17
  go_wp2_with fail
  refine (new_any a len cap zs _ HC.out.row HC.out.small HC.out.old).mono ?_
  rintro e w1 ⟨c, rfl, hc1, hge, b1⟩
  have H1 := Lib.hid hc1
  have B1 := Lib.hid b1
  have A1 := Lib.hid fun y hy hp => Nat.lt_of_lt_of_le (HC.out.old y hy hp) b1.size
  clear hc1 b1
  go_wp2_with fail
  refine (bent_any a len cap zs _ c _ H1.out A1.out 8 (by omega) (by omega)).mono ?_
  rintro e w2 ⟨v, L, τ, hf, rfl, hw2, hc2, ho2⟩
  have hl : L.length ≤ 9 := by have := bentS_length zs len 8 (0, newH zs len) (by omega); rw [hf] at this; simp only at this; omega
  have hwf : ∀ r ∈ L, r.wf := by have := bentS_wf zs len 8 (0, newH zs len); rw [hf] at this; exact this
  obtain ⟨x, m, rfl, hr⟩ := rows_of_own hw2 hwf
  have HR := Lib.hid hr
  have HW := Lib.hid hwf
  have B2 := Lib.hid (B1.out.trans (ho2.below B1.out.size hge))
  clear hf hc2 ho2 hw2 hr hwf
  go_wp2_with fail
  go_ret
  exact ⟨x, L.length, m, L, rfl, by omega, HW.out, HR.out, B2.out⟩
end Go.Proofs.YtpgckggmcehmpaaDoor
