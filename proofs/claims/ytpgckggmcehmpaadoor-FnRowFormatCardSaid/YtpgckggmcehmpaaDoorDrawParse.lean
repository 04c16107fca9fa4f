/- What DrawParseRow and DrawParseRows give: some string. -/
import Derived.Test.YtpgckggmcehmpaaDoorDrawRows
namespace Go.Proofs.YtpgckggmcehmpaaDoor
open Go.RowKit

set_option maxRecDepth 100000 in
theorem draw_prow (a : Option Addr) (len cap : Nat) (zs : List Int) (w : World) (h : Code a len cap zs w) :
    Calls Tryd.prog 12 #[.slice a len cap] w fun e w' => ∃ s : ByteArray, e = .returned (.string s) ∧ s.size ≤ 10000 ∧ Below w.heap.size w w' := by
  have HC := Lib.hid h
  clear h
  go_enter Tryd.func12, Tryd.ntmps12
  go_wp2_with fail
  refine (new_any a len cap zs _ HC.out.row HC.out.small HC.out.old).mono ?_
  rintro e w1 ⟨c, rfl, hc1, hge, b1⟩
  have H1 := Lib.hid hc1
  have B1 := Lib.hid b1
  have A1 := Lib.hid fun y hy hp => Nat.lt_of_lt_of_le (HC.out.old y hy hp) b1.size
  clear hc1 b1
  go_wp2_with fail
  refine (row_any a len cap zs _ c _ H1.out A1.out 10 (by omega) (by omega)).mono ?_
  rintro e w2 ⟨r, τ2, hf2, rfl, hc2, ho2⟩
  have B2 := Lib.hid (B1.out.trans (ho2.below B1.out.size hge))
  have H2 := Lib.hid hc2
  have A2 := Lib.hid fun y hy hp => Nat.lt_of_lt_of_le (A1.out y hy hp) ho2.size
  have SF := Lib.hid (sfrow r)
  unfold R.val at SF
  clear hf2 hc2 ho2
  go_wp2_with fail
  refine (SF.out _).mono ?_
  rintro e w3 ⟨rfl, b3⟩
  have B3 := Lib.hid (B2.out.trans (b3.mono B2.out.size))
  have H3 := Lib.hid (H2.out.below b3 H2.out.lt A2.out)
  have A3 := Lib.hid fun y hy hp => Nat.lt_of_lt_of_le (A2.out y hy hp) b3.size
  obtain ⟨s, hs⟩ : ∃ s : ByteArray, s = ⟨r.fmt.toArray⟩ := ⟨_, rfl⟩
  have hsl : s.size ≤ 1000 := by have := fmt_length r; rw [hs]; show r.fmt.toArray.size ≤ _; rw [List.size_toArray]; omega
  rw [← hs]
  clear hs b3 SF
  go_wp2_with fail
  refine (once_any a len cap zs _ c _ H3.out 2 (by omega) (by omega)).mono ?_
  rintro e w4 ⟨x, τ4, hf4, rfl, hc4, ho4⟩
  have H4 := Lib.hid hc4
  have B4 := Lib.hid (B3.out.trans (ho4.below B3.out.size hge))
  have A4 := Lib.hid fun y hy hp => Nat.lt_of_lt_of_le (A3.out y hy hp) ho4.size
  clear hf4 hc4 ho4
  by_cases hx : x = 0
  · subst hx
    go_wp2_with fail
    refine (spoil_any a len cap zs _ c _ H4.out A4.out _ hsl).mono ?_
    rintro e w5 ⟨t, τ5, hf5, rfl, hc5, ho5⟩
    have htl : t.size ≤ 3000 := by
      have := spoilS_size zs len s τ4
      rw [hf5] at this
      simp only at this
      omega
    have B5 := Lib.hid (B4.out.trans (ho5.below B4.out.size hge))
    have H5 := Lib.hid (hc5.alloc (.cells (([⟨#[]⟩, ⟨#[46, 46]⟩, ⟨#[49, 46, 50]⟩, ⟨#[49, 46, 50, 46, 51, 46]⟩, ⟨#[49, 48, 46, 48, 46, 48]⟩, ⟨#[49, 46, 49, 48, 48, 46, 48]⟩, ⟨#[49, 46, 49, 46, 52]⟩, ⟨#[48, 49, 46, 49, 46, 49]⟩, ⟨#[49, 46, 50, 46, 51]⟩, t] : List ByteArray).map Value.string).toArray 9))
    have B6 := Lib.hid (B5.out.alloc B5.out.size (.cells (([⟨#[]⟩, ⟨#[46, 46]⟩, ⟨#[49, 46, 50]⟩, ⟨#[49, 46, 50, 46, 51, 46]⟩, ⟨#[49, 48, 46, 48, 46, 48]⟩, ⟨#[49, 46, 49, 48, 48, 46, 48]⟩, ⟨#[49, 46, 49, 46, 52]⟩, ⟨#[48, 49, 46, 49, 46, 49]⟩, ⟨#[49, 46, 50, 46, 51]⟩, t] : List ByteArray).map Value.string).toArray 9))
    have I5 := Lib.hid (strs_alloc w5 [⟨#[]⟩, ⟨#[46, 46]⟩, ⟨#[49, 46, 50]⟩, ⟨#[49, 46, 50, 46, 51, 46]⟩, ⟨#[49, 48, 46, 48, 46, 48]⟩, ⟨#[49, 46, 49, 48, 48, 46, 48]⟩, ⟨#[49, 46, 49, 46, 52]⟩, ⟨#[48, 49, 46, 49, 46, 49]⟩, ⟨#[49, 46, 50, 46, 51]⟩, t] 9)
    have hne : ¬ w5.heap.size = c := by have := hc5.lt; omega
    clear hf5 hc5 ho5
    go_wp2_with fail
    refine (picks_any a len cap zs _ c _ H5.out _ 10 10 [⟨#[]⟩, ⟨#[46, 46]⟩, ⟨#[49, 46, 50]⟩, ⟨#[49, 46, 50, 46, 51, 46]⟩, ⟨#[49, 48, 46, 48, 46, 48]⟩, ⟨#[49, 46, 49, 48, 48, 46, 48]⟩, ⟨#[49, 46, 49, 46, 52]⟩, ⟨#[48, 49, 46, 49, 46, 49]⟩, ⟨#[49, 46, 50, 46, 51]⟩, t] I5.out hne rfl (by omega) (by omega)).mono ?_
    rintro e w6 ⟨u, τ6, hm, rfl, hc6, ho6⟩
    have hul : u.size ≤ 10000 := by
      simp only [List.mem_cons, List.not_mem_nil, or_false] at hm
      rcases hm with rfl | rfl | rfl | rfl | rfl | rfl | rfl | rfl | rfl | rfl
      all_goals first | decide | omega
    have B7 := Lib.hid (B6.out.trans (ho6.below B6.out.size hge))
    clear hm hc6 ho6
    go_wp2_with fail
    go_ret
    exact ⟨u, rfl, hul, B7.out⟩
  · have hd : (x == 0) = false := beq_eq_false_iff_ne.2 hx
    clear hx
    go_wp2_with fail
    go_ret
    exact ⟨s, rfl, by omega, B4.out⟩
set_option maxRecDepth 100000 in
theorem draw_prows (a : Option Addr) (len cap : Nat) (zs : List Int) (w : World) (h : Code a len cap zs w) :
    Calls Tryd.prog 20 #[.slice a len cap] w fun e w' => ∃ s : ByteArray, e = .returned (.string s) ∧ s.size ≤ 10000 ∧ Below w.heap.size w w' := by
  have HC := Lib.hid h
  clear h
  go_enter Tryd.func20, Tryd.ntmps20
  go_wp2_with fail
  refine (new_any a len cap zs _ HC.out.row HC.out.small HC.out.old).mono ?_
  rintro e w1 ⟨c, rfl, hc1, hge, b1⟩
  have H1 := Lib.hid hc1
  have B1 := Lib.hid b1
  have A1 := Lib.hid fun y hy hp => Nat.lt_of_lt_of_le (HC.out.old y hy hp) b1.size
  clear hc1 b1
  go_wp2_with fail
  refine (rows_any a len cap zs _ c _ H1.out A1.out 6 (by omega) (by omega)).mono ?_
  rintro e w2 ⟨v, L, τ2, hf2, rfl, hw2, hc2, ho2⟩
  have hl : L.length ≤ 6 := by have := rowsS_length zs len 6 (0, newH zs len) (by omega); rw [hf2] at this; simp only at this; omega
  have hwf : ∀ r ∈ L, r.wf := by have := rowsS_wf zs len 6 (0, newH zs len); rw [hf2] at this; exact this
  obtain ⟨x0, m0, rfl, hr⟩ := rows_of_own hw2 hwf
  have HR := Lib.hid hr
  have B2 := Lib.hid (B1.out.trans (ho2.below B1.out.size hge))
  have H2 := Lib.hid hc2
  have A2 := Lib.hid fun y hy hp => Nat.lt_of_lt_of_le (A1.out y hy hp) ho2.size
  clear hf2 hc2 ho2 hw2 hwf hr
  go_wp2_with fail
  refine (sfrows _ L.length m0 L _ HR.out (by omega)).mono ?_
  rintro e w3 ⟨rfl, b3⟩
  have B3 := Lib.hid (B2.out.trans (b3.mono B2.out.size))
  have H3 := Lib.hid (H2.out.below b3 H2.out.lt A2.out)
  have A3 := Lib.hid fun y hy hp => Nat.lt_of_lt_of_le (A2.out y hy hp) b3.size
  obtain ⟨s, hs⟩ : ∃ s : ByteArray, s = ⟨(fmtRows L).toArray⟩ := ⟨_, rfl⟩
  have hsl : s.size ≤ 1000 := by have := fmtRows_length L; rw [hs]; show (fmtRows L).toArray.size ≤ _; rw [List.size_toArray]; omega
  rw [← hs]
  clear hs b3
  go_wp2_with fail
  refine (once_any a len cap zs _ c _ H3.out 3 (by omega) (by omega)).mono ?_
  rintro e w4 ⟨x, τ4, hf4, rfl, hc4, ho4⟩
  have H4 := Lib.hid hc4
  have B4 := Lib.hid (B3.out.trans (ho4.below B3.out.size hge))
  have A4 := Lib.hid fun y hy hp => Nat.lt_of_lt_of_le (A3.out y hy hp) ho4.size
  clear hf4 hc4 ho4
  by_cases hx : x = 0
  · subst hx
    go_wp2_with fail
    refine (spoil_any a len cap zs _ c _ H4.out A4.out _ hsl).mono ?_
    rintro e w5 ⟨t, τ5, hf5, rfl, hc5, ho5⟩
    have htl : t.size ≤ 3000 := by
      have := spoilS_size zs len s τ4
      rw [hf5] at this
      simp only at this
      omega
    have B5 := Lib.hid (B4.out.trans (ho5.below B4.out.size hge))
    have H5 := Lib.hid (hc5.alloc (.cells (([⟨#[]⟩, ⟨#[32]⟩, ⟨#[49, 46, 49, 46, 49, 32]⟩, ⟨#[49, 46, 49, 46, 49, 32, 32, 49, 46, 49, 46, 49]⟩, t] : List ByteArray).map Value.string).toArray 9))
    have B6 := Lib.hid (B5.out.alloc B5.out.size (.cells (([⟨#[]⟩, ⟨#[32]⟩, ⟨#[49, 46, 49, 46, 49, 32]⟩, ⟨#[49, 46, 49, 46, 49, 32, 32, 49, 46, 49, 46, 49]⟩, t] : List ByteArray).map Value.string).toArray 9))
    have I5 := Lib.hid (strs_alloc w5 [⟨#[]⟩, ⟨#[32]⟩, ⟨#[49, 46, 49, 46, 49, 32]⟩, ⟨#[49, 46, 49, 46, 49, 32, 32, 49, 46, 49, 46, 49]⟩, t] 9)
    have hne : ¬ w5.heap.size = c := by have := hc5.lt; omega
    clear hf5 hc5 ho5
    go_wp2_with fail
    refine (picks_any a len cap zs _ c _ H5.out _ 5 5 [⟨#[]⟩, ⟨#[32]⟩, ⟨#[49, 46, 49, 46, 49, 32]⟩, ⟨#[49, 46, 49, 46, 49, 32, 32, 49, 46, 49, 46, 49]⟩, t] I5.out hne rfl (by omega) (by omega)).mono ?_
    rintro e w6 ⟨u, τ6, hm, rfl, hc6, ho6⟩
    have hul : u.size ≤ 10000 := by
      simp only [List.mem_cons, List.not_mem_nil, or_false] at hm
      rcases hm with rfl | rfl | rfl | rfl | rfl
      all_goals first | decide | omega
    have B7 := Lib.hid (B6.out.trans (ho6.below B6.out.size hge))
    clear hm hc6 ho6
    go_wp2_with fail
    go_ret
    exact ⟨u, rfl, hul, B7.out⟩
  · have hd : (x == 0) = false := beq_eq_false_iff_ne.2 hx
    clear hx
    go_wp2_with fail
    go_ret
    exact ⟨s, rfl, by omega, B4.out⟩
end Go.Proofs.YtpgckggmcehmpaaDoor
