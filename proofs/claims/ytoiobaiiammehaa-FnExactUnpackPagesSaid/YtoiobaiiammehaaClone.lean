/- The library's slices.Clone at rows, by contract. -/
import Derived.Test.YtoiobaiiammehaaMine
import Derived.Lib.SliceRun
import Derived.Lib.Walk
namespace Go.Proofs.Ytoiobaiiammehaa
open Go.RowKit

theorem appendR_low {w w' w0 : World} {B : Nat} {v : Value} (hb : Below B w0 w) (hB : B ≤ w.heap.size) (hv : ∀ k, v.ownBlock = some k → B ≤ k) (hg : w.grownBy w' v.ownBlock) : Below B w0 w' := hb.grown hg hB hv
theorem Mine.own {w : World} {B : Nat} {v : Value} {L : List R} (h : Mine w B v L) : ∀ k, v.ownBlock = some k → B ≤ k := fun k hk => (World.ownsRow.lt h k hk).1
set_option maxRecDepth 100000 in
/-- slices.Clone at rows. -/
theorem clone_some (ad : Addr) (len cap : Nat) (L : List R) (w : World) (hl : L.length = len) (hc : ∀ j u, (cells3 L)[j]? = some u → w.cell? (ad.add j) = some u) (hlen : len ≤ 100000000000) :
    Calls Try.prog 34 #[.slice (some ad) len cap] w fun e w' => ∃ v', e = .returned v' ∧ Mine w' w.heap.size v' L ∧ Below w.heap.size w w' := by
  have q22 : ∀ (w : World) (a : Option Addr) (n c n' c' : Nat), (binOp .eql 27 (.slice a n c) (.slice none n' c')).run Try.prog w = .ok (.bool a.isNone) w := fun w a n c n' c' => Lib.run_eql_slice_nil w _ _ a n c n' c' Try.underlying27
  have HL := Lib.hid hl
  have HC := Lib.hid hc
  clear hl hc
  have hz : Mine (w.alloc (.cells #[] 50)) w.heap.size (.slice (some ⟨w.heap.size, 0, none⟩) 0 0) [] := World.ownsRow_made w #[] 0 (Nat.le_refl _) (Nat.zero_le _) (by simp)
  have HZ := Lib.hid hz
  clear hz
  go_enter Try.func34, Try.ntmps34
  go_wp2_with (at_builtin; refine wpList_appendR (L := L) _ _ ad len cap rfl rfl rfl rfl HZ.out HL.out ?qc2 ?qc6 ?qc4 ?_)
  case qc2 =>
    intro j u hj
    exact Lib.cell?_alloc_some _ (HC.out j u hj)
  case qc6 => simp
  case qc4 => simp; omega
  intro v' w1 hown hgrow hnil
  have HO := Lib.hid hown
  have HB := Lib.hid (((Below.refl w.heap.size w).alloc (Nat.le_refl _) _).grown hgrow (by simp) (by intro k hk; simp [Value.ownBlock] at hk; omega))
  clear hown hgrow hnil
  go_wp2_with fail
  go_ret
  exact ⟨v', rfl, HO.out, HB.out⟩
theorem clone_none (n c : Nat) (w : World) : Calls Try.prog 34 #[.slice none n c] w fun e w' => e = .returned (.slice none 0 0) ∧ w' = w := by
  have q22 : ∀ (w : World) (a : Option Addr) (n c n' c' : Nat), (binOp .eql 27 (.slice a n c) (.slice none n' c')).run Try.prog w = .ok (.bool a.isNone) w := fun w a n c n' c' => Lib.run_eql_slice_nil w _ _ a n c n' c' Try.underlying27
  go_enter Try.func34, Try.ntmps34
  go_wp2
  go_ret
  exact ⟨rfl, rfl⟩
theorem clone (a : Option Addr) (len cap : Nat) (L : List R) (w : World) (h : IsRows w a len L) (hlen : len ≤ 100000000000) :
    Calls Try.prog 34 #[.slice a len cap] w fun e w' => ∃ v', e = .returned v' ∧ Mine w' w.heap.size v' L ∧ Below w.heap.size w w' := by
  obtain ⟨ad, ha, hc⟩ := h.cell
  rcases a with _ | ad'
  · have h0 : len = 0 := by
      rcases Nat.eq_zero_or_pos len with h0 | h0
      · exact h0
      · exact absurd (ha h0) (by simp)
    have hL : L = [] := List.eq_nil_of_length_eq_zero (by rw [h.1, h0])
    refine (clone_none len cap w).mono ?_
    rintro e w' ⟨rfl, rfl⟩
    exact ⟨_, rfl, hL ▸ mine_none _ _, Below.refl _ _⟩
  · refine clone_some ad' len cap L w h.1 (fun j u hj => ?_) hlen
    have hjl : j < L.length * 3 := by have := (List.getElem?_eq_some_iff.1 hj).1; rwa [cells3_length] at this
    have : ad' = ad := by injection ha (by have := h.1; omega)
    rw [this]
    exact hc j u hj
end Go.Proofs.Ytoiobaiiammehaa
