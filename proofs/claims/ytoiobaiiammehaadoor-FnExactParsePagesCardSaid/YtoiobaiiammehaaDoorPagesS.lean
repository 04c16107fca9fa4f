/- The reference's IsValidPage, by contract. -/
import Derived.Test.YtoiobaiiammehaaDoorPg
import Derived.Test.YtoiobaiiammehaaDoorMath
import Derived.Test.YtoiobaiiammehaaDoorAres
import Derived.Test.YtoiobaiiammehaaDoorClass
namespace Go.Proofs.YtoiobaiiammehaaDoor
open Go.RowKit

set_option maxRecDepth 100000 in
theorem svalidpage (a : Option Addr) (n c : Nat) (p : List R) (w : World) (h : SeqIn rowRep w a n p) (hn : n ≤ 1000000000000) :
    Calls Tryd.prog 29 #[.agg #[.slice a n c]] w fun e w' => e = .returned (.bool (R.pageOk p)) ∧ Below w.heap.size w w' := by
  have b0 : Below w.heap.size w (w.alloc (.cells #[.slice a n c] 41)) := (Below.refl _ _).alloc (Nat.le_refl _) _
  have R0 := Lib.hid (rows_in (h.keep b0))
  have C0 := heap_alloc_new w (.cells #[.slice a n c] 41)
  have HC := Lib.hid C0
  have B0 := Lib.hid b0
  have hsz : w.heap.size < (w.alloc (.cells #[.slice a n c] 41)).heap.size := by simp
  have HV := Lib.hid (show R.pageOk p = (okRows p && decide (1 ≤ total p ∧ total p ≤ 8)) from rfl)
  have HR := Lib.hid (total_range p)
  clear b0 h C0
  go_enter Tryd.func29, Tryd.ntmps29
  go_wp2_with fail
  refine (sare a n c p _ R0.out (by omega)).mono ?_
  rintro e w1 ⟨rfl, b1⟩
  have q1 := (b1.block _ hsz).trans HC.out
  have d1 : w1.cell? ⟨w.heap.size, 0, none⟩ = some (.slice a n c) := by simp [World.cell?, q1]
  have R1 := Lib.hid (R0.out.keep b1)
  have B1 := Lib.hid (B0.out.trans (b1.mono B0.out.size))
  clear b1 q1
  cases hok : okRows p with
  | false =>
    have HF := Lib.hid (show R.pageOk p = false by rw [HV.out, hok]; rfl)
    clear hok
    go_wp2_with fail
    go_ret
    exact ⟨by rw [HF.out]; rfl, B1.out⟩
  | true =>
    have HF := Lib.hid (show R.pageOk p = decide (1 ≤ total p ∧ total p ≤ 8) by rw [HV.out, hok]; rfl)
    clear hok
    go_wp2_with fail
    refine (stotal a n c p _ R1.out (by omega)).mono ?_
    rintro e w2 ⟨rfl, b2⟩
    have B2 := Lib.hid (B1.out.trans (b2.mono B1.out.size))
    clear b2
    obtain ⟨T, hT⟩ : ∃ T, T = total p := ⟨_, rfl⟩
    rw [← hT] at HF ⊢
    clear hT
    go_wp2_with fail
    refine (sin T 1 8 _).mono ?_
    rintro e w3 ⟨rfl, rfl⟩
    obtain ⟨z, hz⟩ : ∃ z, z = decide (1 ≤ T ∧ T ≤ 8) := ⟨_, rfl⟩
    rw [← hz] at HF ⊢
    clear hz
    go_wp2_with fail
    go_ret
    exact ⟨by rw [HF.out]; rfl, B2.out⟩
end Go.Proofs.YtoiobaiiammehaaDoor
