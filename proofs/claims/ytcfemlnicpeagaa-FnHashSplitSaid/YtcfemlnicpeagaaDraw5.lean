/- DrawSplitByHashBit, DrawHashBit, DrawFirstSplittingLevel: what they give. -/
import Derived.Test.YtcfemlnicpeagaaOneRows
namespace Go.Proofs.Ytcfemlnicpeagaa
open Go.RowKit

/-- One slice of rows: few, well formed; and a number. -/
def RowsInt (w : World) (e : Ending) (w' : World) : Prop := ∃ (x : Option Addr) (n m : Nat) (L : List R) (l : Int), e = .returned (.tuple #[.slice x n m, .int .i64 l]) ∧ n ≤ 1000 ∧ (∀ r ∈ L, r.wf) ∧ IsRows w' x n L ∧ -1 ≤ l ∧ l ≤ 4 ∧ Below w.heap.size w w'
set_option maxRecDepth 100000 in
theorem draw_split (a : Option Addr) (len cap : Nat) (zs : List Int) (w : World) (h : Code a len cap zs w) : Calls Try.prog 9 #[.slice a len cap] w (RowsInt w) := by
  have HC := Lib.hid h
  clear h
  go_enter Try.func9, Try.ntmps9
  go_wp2_with fail
  refine (new_any a len cap zs _ HC.out.row HC.out.small HC.out.old).mono ?_
  rintro e w1 ⟨c, rfl, hc1, hge, b1⟩
  have H1 := Lib.hid hc1
  have hcl := hc1.lt
  have B1 := Lib.hid b1
  have A1 := Lib.hid fun y hy hp => Nat.lt_of_lt_of_le (HC.out.old y hy hp) b1.size
  clear hc1 b1
  go_wp2_with fail
  refine (bent_any a len cap zs _ c _ H1.out A1.out 8 (by omega) (by omega)).mono ?_
  rintro e w2 ⟨v, L, τ, hf, rfl, hw2, hc2, ho2⟩
  obtain ⟨hl, hwf⟩ := bent_few zs len 8 _ _ L (by omega) (by omega) hf
  have H2 := Lib.hid hc2
  have W2 := Lib.hid hw2
  have HW := Lib.hid hwf
  have B2 := Lib.hid (B1.out.trans (ho2.below B1.out.size hge))
  obtain ⟨x, m, rfl, -⟩ := rows_of_own hw2 hwf
  clear hf hc2 ho2 hw2 hwf
  go_wp2_with fail
  refine (below_any a len cap zs _ c _ H2.out 6 (by omega) (by omega)).mono ?_
  rintro e w3 ⟨q, τ3, hf3, rfl, hc3, ho3⟩
  obtain ⟨hq0, hq1⟩ := belowS_range (by omega) hf3
  have B3 := Lib.hid (B2.out.trans (ho3.below B2.out.size hge))
  obtain ⟨x', m', e3, hr⟩ := rows_of_own (own_onlyR W2.out ho3 hcl) HW.out
  injection e3 with e3 e4 e5
  subst e3 e5
  have HR := Lib.hid hr
  clear hf3 hc3 ho3 hr
  go_wp2_with fail
  go_ret2
  exact ⟨x, L.length, m, L, q - 1, rfl, by omega, HW.out, HR.out, by omega, by omega, B3.out⟩
set_option maxRecDepth 100000 in
theorem draw_hashbit (a : Option Addr) (len cap : Nat) (zs : List Int) (w : World) (h : Code a len cap zs w) :
    Calls Try.prog 12 #[.slice a len cap] w fun e w' => ∃ k l : Int, e = .returned (.tuple #[.int .i64 k, .int .i64 l]) ∧ Below w.heap.size w w' := by
  have HC := Lib.hid h
  clear h
  go_enter Try.func12, Try.ntmps12
  go_wp2_with fail
  refine (new_any a len cap zs _ HC.out.row HC.out.small HC.out.old).mono ?_
  rintro e w1 ⟨c, rfl, hc1, hge, b1⟩
  have H1 := Lib.hid hc1
  have B1 := Lib.hid b1
  clear hc1 b1
  go_wp2_with fail
  refine (below_any a len cap zs _ c _ H1.out 12 (by omega) (by omega)).mono ?_
  rintro e w2 ⟨p, τ2, hf2, rfl, hc2, ho2⟩
  obtain ⟨hp0, hp1⟩ := belowS_range (by omega) hf2
  have H2 := Lib.hid hc2
  have B2 := Lib.hid (B1.out.trans (ho2.below B1.out.size hge))
  clear hf2 hc2 ho2
  go_wp2_with fail
  refine (below_any a len cap zs _ c _ H2.out 6 (by omega) (by omega)).mono ?_
  rintro e w3 ⟨q, τ3, hf3, rfl, hc3, ho3⟩
  obtain ⟨hq0, hq1⟩ := belowS_range (by omega) hf3
  have B3 := Lib.hid (B2.out.trans (ho3.below B2.out.size hge))
  clear hf3 hc3 ho3
  go_wp2_with fail
  go_ret2
  exact ⟨_, _, rfl, B3.out⟩
set_option maxRecDepth 100000 in
theorem draw_first (a : Option Addr) (len cap : Nat) (zs : List Int) (w : World) (h : Code a len cap zs w) : Calls Try.prog 17 #[.slice a len cap] w (OneRows w) := by
  have HC := Lib.hid h
  clear h
  go_enter Try.func17, Try.ntmps17
  go_wp2_with fail
  refine (new_any a len cap zs _ HC.out.row HC.out.small HC.out.old).mono ?_
  rintro e w1 ⟨c, rfl, hc1, hge, b1⟩
  have H1 := Lib.hid hc1
  have B1 := Lib.hid b1
  have A1 := Lib.hid fun y hy hp => Nat.lt_of_lt_of_le (HC.out.old y hy hp) b1.size
  clear hc1 b1
  go_wp2_with fail
  refine (bent_any a len cap zs _ c _ H1.out A1.out 4 (by omega) (by omega)).mono ?_
  rintro e w2 ⟨v, L, τ, hf, rfl, hw2, hc2, ho2⟩
  obtain ⟨hl, hwf⟩ := bent_few zs len 4 _ _ L (by omega) (by omega) hf
  obtain ⟨x, m, rfl, hr⟩ := rows_of_own hw2 hwf
  have HR := Lib.hid hr
  have HW := Lib.hid hwf
  have B2 := Lib.hid (B1.out.trans (ho2.below B1.out.size hge))
  clear hf hc2 ho2 hw2 hr hwf
  go_wp2_with fail
  go_ret
  exact ⟨x, L.length, m, L, rfl, by omega, HW.out, HR.out, B2.out⟩
end Go.Proofs.Ytcfemlnicpeagaa
