/- Texts joined: Byte Below New Pick Code RowDraw RowsDraw Text Spoil Picks AppN Draw4. -/
import Derived.Test.YtoiobaiiammehaaGreatDoorPartPagePackingd
import Derived.Laws.IdiomStrings
import Derived.Deep.RegionWith
import Derived.Deep.RegionLaw
import Derived.Deep.CutRange
/- l1Byte: a number from 0 to 255; the cursor is moved on; nothing else changes. -/
namespace Go.Proofs.YtoiobaiiammehaaGreatDoor
open Go.RowKit

/-- The mixing step. -/
def nextH (h : Int) : Int := wrap64 (wrap64 (h * 6364136223846793005) + 1442695040888963407)
def mixed (q : Int) : Int := bits BinOp.and IntKind.i64 (bits BinOp.xor IntKind.i64 (q / 8589934592) (q / 35184372088832)) 255
/-- l1Byte as a function of the cursor's state. -/
def byteS (zs : List Int) (len : Nat) (σ : Int × Int) : Int × (Int × Int) :=
  if σ.1 < len then (bits BinOp.and IntKind.i64 (wrap64 (mixed (nextH σ.2) + zs.getD σ.1.toNat 0)) 255, (σ.1 + 1, nextH σ.2)) else (mixed (nextH σ.2), (σ.1, nextH σ.2))
theorem byteS_range {zs : List Int} {len : Nat} {σ τ : Int × Int} {x : Int} (h : byteS zs len σ = (x, τ)) : 0 ≤ x ∧ x ≤ 255 := by
  have hx : x = (byteS zs len σ).1 := by rw [h]
  rw [hx]; unfold byteS mixed
  split <;> exact and255 _
/-- What a drawing function answers: the number that F gives; the cursor stands in the state that F gives; only the cursor's block has changed. -/
def Drawn (F : Int × Int → Int × (Int × Int)) (a : Option Addr) (len cap : Nat) (zs : List Int) (σ : Int × Int) (c : Nat) (w : World) (e : Ending) (w' : World) : Prop :=
  ∃ (x : Int) (τ : Int × Int), F σ = (x, τ) ∧ e = .returned (.int .i64 x) ∧ Cur a len cap zs τ w' c ∧ Only c w w'

set_option maxRecDepth 100000 in
theorem byte_end (a : Option Addr) (len cap : Nat) (zs : List Int) (c : Nat) (w : World) (i h : Int) (hc : Cur a len cap zs (i, h) w c) (hi0 : 0 ≤ i) (hlast : ¬ i < len) (hil : i ≤ len)
    (hb : w.heap[c]? = some (.cells #[.slice a len cap, .int .i64 i, .int .i64 h] 72 (0, 0))) :
    Calls Tryz.prog 49 #[.pointer (some ⟨c, 0, none⟩)] w (Drawn (byteS zs len) a len cap zs (i, h) c w) := by
  have c0 : w.cell? ⟨c, 0, none⟩ = some (.slice a len cap) := by simp [World.cell?, hb]
  have c1 : w.cell? ⟨c, 1, none⟩ = some (.int .i64 i) := by simp [World.cell?, hb]
  have c2 : w.cell? ⟨c, 2, none⟩ = some (.int .i64 h) := by simp [World.cell?, hb]
  have f2 : w.frozen? ⟨c, 2, none⟩ = false := by simp [World.frozen?, hb]
  have HB := Lib.hid hb
  have HC := Lib.hid hc
  clear hb hc
  go_enter Tryz.func49, Tryz.ntmps49
  go_wp2_with fail
  obtain ⟨q, hq⟩ : ∃ q, q = wrap64 (wrap64 (h * 6364136223846793005) + 1442695040888963407) := ⟨_, rfl⟩
  rw [← hq]
  have HQ : Hid (q = nextH h) := hq
  clear hq
  go_quiet (fail)
  go_wp2_with fail
  go_quiet (fail)
  go_wp2_with fail
  go_ret
  have ho : Only c w ((w.setCell ⟨c, 2, none⟩ (.int .i64 q)).drewN 0) := ((Only.refl c w).setCell 2 _).drewN _
  have hheap := heap_setCell_same w c 2 _ _ (.int .i64 q) HB.out
  refine ⟨_, (i, q), ?_, rfl, HC.out.only ?_ (i, q) hi0 hil ?_, ?_⟩
  · unfold byteS
    rw [if_neg (by exact Int.not_lt.2 hlast), HQ.out]
    rfl
  · exact ⟨ho.os, ho.tape, ho.output, ho.size, ho.block⟩
  · exact hheap.trans (by simp)
  · exact ⟨ho.os, ho.tape, ho.output, ho.size, ho.block⟩

set_option maxRecDepth 100000 in
theorem byte_more (b off : Nat) (len cap : Nat) (zs : List Int) (c : Nat) (w : World) (t : Nat) (h : Int) (hc : Cur (some ⟨b, off, none⟩) len cap zs ((t : Int), h) w c) (hlt : t < len) (hl63 : len ≤ 9223372036854775807) (z : Int) (hzz : z = zs.getD t 0) (hz0 : 0 ≤ z) (hz1 : z ≤ 255)
    (hcell : w.cell? ⟨b, off + t, none⟩ = some (.int .u8 z)) (hbc : ¬ b = c)
    (hb : w.heap[c]? = some (.cells #[.slice (some ⟨b, off, none⟩) len cap, .int .i64 (t : Int), .int .i64 h] 72 (0, 0))) :
    Calls Tryz.prog 49 #[.pointer (some ⟨c, 0, none⟩)] w (Drawn (byteS zs len) (some ⟨b, off, none⟩) len cap zs ((t : Int), h) c w) := by
  have HZ := Lib.hid hzz
  clear hzz
  have c0 : w.cell? ⟨c, 0, none⟩ = some (.slice (some ⟨b, off, none⟩) len cap) := by simp [World.cell?, hb]
  have c1 : w.cell? ⟨c, 1, none⟩ = some (.int .i64 (t : Int)) := by simp [World.cell?, hb]
  have c2 : w.cell? ⟨c, 2, none⟩ = some (.int .i64 h) := by simp [World.cell?, hb]
  have f2 : w.frozen? ⟨c, 2, none⟩ = false := by simp [World.frozen?, hb]
  have f1 : w.frozen? ⟨c, 1, none⟩ = false := by simp [World.frozen?, hb]
  have hti : (t : Int) < len := by omega
  have ht0 : (0 : Int) ≤ t := by omega
  have HB := Lib.hid hb
  have HC := Lib.hid hc
  clear hb hc
  go_enter Tryz.func49, Tryz.ntmps49
  go_wp2_with fail
  obtain ⟨q, hq⟩ : ∃ q, q = wrap64 (wrap64 (h * 6364136223846793005) + 1442695040888963407) := ⟨_, rfl⟩
  rw [← hq]
  have HQ : Hid (q = nextH h) := hq
  clear hq
  go_quiet (fail)
  go_wp2_with fail
  obtain ⟨y, hy⟩ : ∃ y, y = bits BinOp.and IntKind.i64 (bits BinOp.xor IntKind.i64 (q / 8589934592) (q / 35184372088832)) 255 := ⟨_, rfl⟩
  rw [← hy]
  have HY : Hid (y = mixed q) := hy
  clear hy
  go_quiet (fail)
  go_wp2_with fail
  go_quiet (fail)
  go_wp2_with fail
  go_ret
  have hheap := heap_setCell_same w c 2 _ _ (.int .i64 q) HB.out
  refine ⟨_, ((t : Int) + 1, q), ?_, rfl, ?_, (((Only.refl c w).setCell 2 _).drewN _).setCell 1 _⟩
  · unfold byteS
    rw [if_pos hti, ← HQ.out, ← HY.out, Int.toNat_natCast, ← HZ.out]
  refine HC.out.only ((((Only.refl c w).setCell 2 _).drewN _).setCell 1 _) ((t : Int) + 1, q) (by show 0 ≤ (t : Int) + 1; omega) (by show (t : Int) + 1 ≤ len; omega) ?_
  exact (heap_setCell_same _ c 1 _ _ (.int .i64 ((t : Int) + 1)) (by simpa using hheap)).trans (by simp)

theorem byte_any (a : Option Addr) (len cap : Nat) (zs : List Int) (σ : Int × Int) (c : Nat) (w : World) (hc : Cur a len cap zs σ w c) :
    Calls Tryz.prog 49 #[.pointer (some ⟨c, 0, none⟩)] w (Drawn (byteS zs len) a len cap zs σ c w) := by
  obtain ⟨i, h⟩ := σ
  have hi0 : 0 ≤ i := hc.low
  have hil : i ≤ len := hc.high
  have hb := hc.cell
  by_cases hlt : i < len
  · rcases hc.row with ⟨rfl, rfl, rfl, rfl⟩ | ⟨x, rfl, hlc, hm, hz, hcell, hwz⟩
    · omega
    · obtain ⟨t, rfl⟩ : ∃ t : Nat, i = (t : Int) := ⟨i.toNat, by omega⟩
      have hct := hcell t (by omega)
      obtain ⟨b, off, spot⟩ := x
      have hspot : spot = none := by simpa [Addr.add] using World.cell?_spot (hcell 0 (by omega))
      subst hspot
      have hct' : w.cell? ⟨b, off + t, none⟩ = some (.int .u8 (zs.getD t 0)) := by
        by_cases h0 : t = 0
        · subst h0; simpa [Addr.add] using hct
        · simpa [Addr.add, h0] using hct
      have hbd := bounds_u8 (hwz (zs.getD t 0) (by
        rw [List.getD_eq_getElem?_getD, List.getElem?_eq_getElem (by omega)]
        exact List.getElem_mem _))
      unfold maxLen at hm
      exact byte_more b off len cap zs c w t h hc (by omega) (by omega) _ rfl hbd.1 hbd.2 hct' (hc.apart _ rfl (by omega)) hb
  · exact byte_end a len cap zs c w i h hc hi0 hlt hil hb
end Go.Proofs.YtoiobaiiammehaaGreatDoor
/- l1Below, l1Once, l1New: numbers below a bound; a new cursor over the code that came in. -/
namespace Go.Proofs.YtoiobaiiammehaaGreatDoor
open Go.RowKit

theorem tmod_small (x n : Int) (hx : 0 ≤ x) (hn : 0 < n) : 0 ≤ x.tmod n ∧ x.tmod n < n := by
  rw [Int.tmod_eq_emod_of_nonneg hx]
  exact ⟨Int.emod_nonneg _ (by omega), Int.emod_lt_of_pos _ hn⟩
theorem emod_small (x n : Int) (hn : 0 < n) : 0 ≤ x % n ∧ x % n < n := ⟨Int.emod_nonneg _ (by omega), Int.emod_lt_of_pos _ hn⟩

/-- l1Below as a function of the cursor's state. -/
def belowS (zs : List Int) (len : Nat) (n : Int) (σ : Int × Int) : Int × (Int × Int) :=
  if n ≤ 256 then ((byteS zs len σ).1 % n, (byteS zs len σ).2)
  else
    (((byteS zs len σ).1 * 16777216 + (byteS zs len (byteS zs len σ).2).1 * 65536 + (byteS zs len (byteS zs len (byteS zs len σ).2).2).1 * 256 + (byteS zs len (byteS zs len (byteS zs len (byteS zs len σ).2).2).2).1) % n,
      (byteS zs len (byteS zs len (byteS zs len (byteS zs len σ).2).2).2).2)
theorem belowS_range {zs : List Int} {len : Nat} {n : Int} {σ τ : Int × Int} {x : Int} (hn : 1 ≤ n) (h : belowS zs len n σ = (x, τ)) : 0 ≤ x ∧ x < n := by
  have hx : x = (belowS zs len n σ).1 := by rw [h]
  rw [hx]; unfold belowS
  split <;> exact emod_small _ n (by omega)
set_option maxRecDepth 100000 in
theorem below_small (a : Option Addr) (len cap : Nat) (zs : List Int) (σ : Int × Int) (c : Nat) (w : World) (hc : Cur a len cap zs σ w c) (n : Int) (h1 : 1 ≤ n) (h2 : n ≤ 256) :
    Calls Tryz.prog 47 #[.pointer (some ⟨c, 0, none⟩), .int .i64 n] w (Drawn (belowS zs len n) a len cap zs σ c w) := by
  have HC := Lib.hid hc
  clear hc
  go_enter Tryz.func47, Tryz.ntmps47
  go_wp2_with fail
  refine (byte_any a len cap zs _ c _ HC.out).mono ?_
  rintro e w1 ⟨x, τ, hx, rfl, hc1, ho1⟩
  obtain ⟨hx0, hx1⟩ := byteS_range hx
  have H1 := Lib.hid hc1
  have HO := Lib.hid ho1
  have HX := Lib.hid hx
  clear hc1 ho1 hx
  go_wp2_with fail
  go_ret
  exact ⟨_, τ, by unfold belowS; rw [if_pos h2, HX.out], rfl, H1.out, HO.out⟩
set_option maxRecDepth 100000 in
theorem below_big (a : Option Addr) (len cap : Nat) (zs : List Int) (σ : Int × Int) (c : Nat) (w : World) (hc : Cur a len cap zs σ w c) (n : Int) (h1 : 256 < n) (h2 : n ≤ 1000000000) :
    Calls Tryz.prog 47 #[.pointer (some ⟨c, 0, none⟩), .int .i64 n] w (Drawn (belowS zs len n) a len cap zs σ c w) := by
  have HC := Lib.hid hc
  clear hc
  go_enter Tryz.func47, Tryz.ntmps47
  go_wp2_with fail
  refine (byte_any a len cap zs _ c _ HC.out).mono ?_
  rintro e w1 ⟨x1, τ1, hf1, rfl, hc1, ho1⟩
  obtain ⟨hx0, hx1⟩ := byteS_range hf1
  have F1 := Lib.hid hf1
  clear hf1
  have H1 := Lib.hid hc1
  have O1 := Lib.hid ho1
  clear hc1 ho1
  go_wp2_with fail
  refine (byte_any a len cap zs _ c _ H1.out).mono ?_
  rintro e w2 ⟨x2, τ2, hf2, rfl, hc2, ho2⟩
  obtain ⟨hy0, hy1⟩ := byteS_range hf2
  have F2 := Lib.hid hf2
  clear hf2
  have H2 := Lib.hid hc2
  have O2 := Lib.hid (O1.out.trans ho2)
  clear hc2 ho2
  go_wp2_with fail
  refine (byte_any a len cap zs _ c _ H2.out).mono ?_
  rintro e w3 ⟨x3, τ3, hf3, rfl, hc3, ho3⟩
  obtain ⟨hz0, hz1⟩ := byteS_range hf3
  have F3 := Lib.hid hf3
  clear hf3
  have H3 := Lib.hid hc3
  have O3 := Lib.hid (O2.out.trans ho3)
  clear hc3 ho3
  go_wp2_with fail
  refine (byte_any a len cap zs _ c _ H3.out).mono ?_
  rintro e w4 ⟨x4, τ4, hf4, rfl, hc4, ho4⟩
  obtain ⟨hv0, hv1⟩ := byteS_range hf4
  have F4 := Lib.hid hf4
  clear hf4
  have H4 := Lib.hid hc4
  have O4 := Lib.hid (O3.out.trans ho4)
  clear hc4 ho4
  go_wp2_with fail
  go_ret
  exact ⟨_, τ4, by unfold belowS; rw [if_neg (by omega), F1.out]; simp only []; rw [F2.out]; simp only []; rw [F3.out]; simp only []; rw [F4.out], rfl, H4.out, O4.out⟩
theorem below_any (a : Option Addr) (len cap : Nat) (zs : List Int) (σ : Int × Int) (c : Nat) (w : World) (hc : Cur a len cap zs σ w c) (n : Int) (h1 : 1 ≤ n) (h2 : n ≤ 1000000000) :
    Calls Tryz.prog 47 #[.pointer (some ⟨c, 0, none⟩), .int .i64 n] w (Drawn (belowS zs len n) a len cap zs σ c w) := by
  by_cases h : n ≤ 256
  · exact below_small a len cap zs σ c w hc n h1 h
  · exact below_big a len cap zs σ c w hc n (by omega) h2

/-- l1Once: a bool, whichever. -/
theorem once_any (a : Option Addr) (len cap : Nat) (zs : List Int) (σ : Int × Int) (c : Nat) (w : World) (hc : Cur a len cap zs σ w c) (n : Int) (h1 : 1 ≤ n) (h2 : n ≤ 1000000000) :
    Calls Tryz.prog 32 #[.pointer (some ⟨c, 0, none⟩), .int .i64 n] w fun e w' => ∃ (x : Int) (τ : Int × Int), belowS zs len n σ = (x, τ) ∧ e = .returned (.bool (x == 0)) ∧ Cur a len cap zs τ w' c ∧ Only c w w' := by
  have HC := Lib.hid hc
  clear hc
  go_enter Tryz.func32, Tryz.ntmps32
  go_wp2_with fail
  refine (below_any a len cap zs _ c _ HC.out n h1 h2).mono ?_
  rintro e w1 ⟨x, τ, hx, rfl, hc1, ho1⟩
  have H1 := Lib.hid hc1
  have O1 := Lib.hid ho1
  have HX := Lib.hid hx
  clear hc1 ho1 hx
  go_wp2_with fail
  go_ret
  exact ⟨x, τ, HX.out, rfl, H1.out, O1.out⟩
end Go.Proofs.YtoiobaiiammehaaGreatDoor
/- l1New: a new cursor over the code that came in. -/
namespace Go.Proofs.YtoiobaiiammehaaGreatDoor
open Go.RowKit

theorem low30 (m : Int) (h0 : 0 ≤ m) (h1 : m < 9223372036854775808) : bits .and .i64 m 1073741823 = m % 1073741824 := by
  obtain ⟨n, rfl⟩ : ∃ n : Nat, m = (n : Int) := ⟨m.toNat, by omega⟩
  have := and64 n 1073741823 (by omega) (by omega)
  rw [show ((1073741823 : Nat) : Int) = 1073741823 from rfl] at this
  rw [this, show (1073741823 : Nat) = 2 ^ 30 - 1 from rfl, Nat.and_two_pow_sub_one_eq_mod]
  omega
/-- What l1New has mixed after t bytes. -/
def mixH (zs : List Int) (len : Nat) : Nat → Int
  | 0 => 10101 + len
  | t + 1 => (mixH zs len t * 131 + zs.getD t 0 + 7) % 1073741824
def newH (zs : List Int) (len : Nat) : Int := mixH zs len (min len 4000)
/-- What l1New answers: a cursor in a new block; what was there is as it was. -/
def Fresh (a : Option Addr) (len cap : Nat) (zs : List Int) (w : World) (e : Ending) (w' : World) : Prop :=
  ∃ c : Nat, e = .returned (.pointer (some ⟨c, 0, none⟩)) ∧ Cur a len cap zs (0, newH zs len) w' c ∧ w.heap.size ≤ c ∧ Below w.heap.size w w'

theorem IsRow.cells {w : World} {a : Option Addr} {len cap : Nat} {zs : List Int} (h : IsRow .u8 w a len cap zs) : len = 0 ∨ ∃ b off : Nat, a = some ⟨b, off, none⟩ ∧ ∀ t, t < len → w.cell? ⟨b, off + t, none⟩ = some (.int .u8 (zs.getD t 0)) ∧ 0 ≤ zs.getD t 0 ∧ zs.getD t 0 ≤ 255 := by
  by_cases h0 : len = 0
  · exact .inl h0
  · rcases h with ⟨_, hl, _, _⟩ | ⟨x, rfl, hlc, hm, hz, hcell, hwz⟩
    · exact absurd hl h0
    · obtain ⟨b, off, spot⟩ := x
      have hspot : spot = none := by simpa [Addr.add] using World.cell?_spot (hcell 0 (by omega))
      subst hspot
      refine .inr ⟨b, off, rfl, fun t ht => ?_⟩
      have hct := hcell t (by omega)
      have hbd := bounds_u8 (hwz (zs.getD t 0) (by
        rw [List.getD_eq_getElem?_getD, List.getElem?_eq_getElem (by omega)]
        exact List.getElem_mem _))
      refine ⟨?_, hbd⟩
      by_cases h1 : t = 0
      · subst h1; simpa [Addr.add] using hct
      · simpa [Addr.add, h1] using hct
theorem IsRow.lt {w : World} {a : Option Addr} {len cap : Nat} {zs : List Int} (h : IsRow .u8 w a len cap zs) (hp : 0 < len) : ∀ x, a = some x → x.block < w.heap.size := by
  intro x hx
  rcases h with ⟨_, hl, _, _⟩ | ⟨y, rfl, hlc, hm, hz, hcell, hwz⟩
  · omega
  · obtain rfl := Option.some.inj hx
    have := World.block_lt_of_cell? w _ (hcell 0 (by omega))
    simpa [Addr.add] using this

theorem fresh_of {a : Option Addr} {len cap : Nat} {zs : List Int} {w : World} (hr : IsRow .u8 w a len cap zs) (ha : ∀ x, a = some x → 0 < cap → x.block < w.heap.size) (q : Int) (hq : q = newH zs len) :
    Fresh a len cap zs w (.returned (.pointer (some ⟨w.heap.size, 0, none⟩))) (w.alloc (.cells #[.slice a len cap, .int .i64 0, .int .i64 q] 72)) := by
  have hb : Below w.heap.size w (w.alloc (.cells #[.slice a len cap, .int .i64 0, .int .i64 q] 72)) := (Below.refl _ _).alloc (Nat.le_refl _) _
  exact ⟨w.heap.size, rfl, ⟨hr.keep fun x hx hp _ => hb.block x.block (ha x hx hp), fun x hx hp e => absurd (ha x hx hp) (by rw [e]; exact Nat.lt_irrefl _), Int.le_refl 0, by show (0 : Int) ≤ len; omega, by rw [← hq]; exact heap_alloc_new w _⟩, Nat.le_refl _, hb⟩
set_option maxRecDepth 100000 in
theorem new_any (a : Option Addr) (len cap : Nat) (zs : List Int) (w : World) (hr : IsRow .u8 w a len cap zs) (hl : len ≤ 1048576) (halt : ∀ x, a = some x → 0 < cap → x.block < w.heap.size) :
    Calls Tryz.prog 21 #[.slice a len cap] w (Fresh a len cap zs w) := by
  have HR := Lib.hid hr
  have HA := Lib.hid halt
  have hcs := Lib.hid hr.cells
  clear hr halt
  go_enter Tryz.func21, Tryz.ntmps21
  go_wp2_with fail
  go_loop [3, 4] (fun h i => ∃ (q : Int) (t : Nat), h = .int .i64 q ∧ i = .int .i64 t ∧ 0 ≤ q ∧ q < 2147483648 ∧ t ≤ len ∧ t ≤ 4000 ∧ Hid (q = mixH zs len t)) (fun _ i => len - (intOf i).toNat)
  case atStart => exact ⟨_, 0, rfl, rfl, by omega, by omega, by omega, by omega, rfl⟩
  case round =>
    obtain ⟨q, t, rfl, rfl, hq0, hq1, ht, ht4, hQ⟩ := hrel
    by_cases hlt : t < len
    · by_cases h4 : (t : Int) < 4000
      · rcases hcs.out with h0 | ⟨b, off, ha, hcell⟩
        · exfalso; omega
        · obtain ⟨hct, hz0, hz1⟩ := hcell t hlt
          clear hcell
          obtain ⟨z, hz⟩ : ∃ z, z = zs.getD t 0 := ⟨_, rfl⟩
          rw [← hz] at hct hz0 hz1
          have HZ := Lib.hid hz
          clear hz
          subst ha
          have hm := low30 (q * 131 + z + 7) (by omega) (by omega)
          go_wp2_with fail
          go_round
          case rel => exact ⟨_, t + 1, rfl, by go_num, by omega, by omega, by omega, by omega, by show _ = _; rw [mixH, ← hQ.out, ← HZ.out]⟩
          case measure => simp [intOf]; omega
      · have h4' : decide ((t : Int) < 4000) = false := by simpa using h4
        go_wp2_with fail
        go_ret
        exact fresh_of HR.out HA.out q (by unfold newH; rw [show min len 4000 = t by omega]; exact hQ.out)
    · go_wp2_with fail
      go_ret
      exact fresh_of HR.out HA.out q (by unfold newH; rw [show min len 4000 = t by omega]; exact hQ.out)
end Go.Proofs.YtoiobaiiammehaaGreatDoor
/- l1PickInt: one of a row of integers, as a function of the cursor's state. -/
namespace Go.Proofs.YtoiobaiiammehaaGreatDoor
open Go.RowKit

theorem belowS_fst (zs : List Int) (len : Nat) (n : Int) (σ : Int × Int) (hn : 1 ≤ n) : 0 ≤ (belowS zs len n σ).1 ∧ (belowS zs len n σ).1 < n :=
  belowS_range (x := (belowS zs len n σ).1) (τ := (belowS zs len n σ).2) hn rfl
/-- An int of its kind. -/
def AnInt (x : Int) : Prop := (Lit.int .i64 x).wf = true
/-- Block g holds the ints L. -/
def Ints (w : World) (g : Nat) (L : List Int) : Prop := ∀ t, t < L.length → w.cell? ⟨g, t, none⟩ = some (.int .i64 (L.getD t 0))
/-- l1PickInt as a function of the cursor's state. -/
def pickS (zs : List Int) (len : Nat) (L : List Int) (σ : Int × Int) : Int × (Int × Int) := (L.getD (belowS zs len (L.length : Nat) σ).1.toNat 0, (belowS zs len (L.length : Nat) σ).2)

set_option maxRecDepth 100000 in
theorem pick_any (a : Option Addr) (len cap : Nat) (zs : List Int) (σ : Int × Int) (c : Nat) (w : World) (hc : Cur a len cap zs σ w c) (g n m : Nat) (L : List Int) (hg : Ints w g L) (hgc : ¬ g = c) (hn : n = L.length) (h1 : 1 ≤ n) (h2 : n ≤ 1000000000) :
    Calls Tryz.prog 58 #[.pointer (some ⟨c, 0, none⟩), .slice (some ⟨g, 0, none⟩) n m] w (Drawn (pickS zs len L) a len cap zs σ c w) := by
  have HC := Lib.hid hc
  have HG := Lib.hid hg
  have HN := Lib.hid hn
  clear hc hg hn
  go_enter Tryz.func58, Tryz.ntmps58
  go_wp2_with fail
  refine (below_any a len cap zs _ c _ HC.out (n : Int) (by omega) (by omega)).mono ?_
  rintro e w1 ⟨x, τ, hf1, rfl, hc1, ho1⟩
  obtain ⟨hx0, hx1⟩ := belowS_range (by omega) hf1
  have F1 := Lib.hid hf1
  clear hf1
  obtain ⟨t, rfl⟩ : ∃ t : Nat, x = (t : Int) := ⟨x.toNat, by omega⟩
  have htn : t < n := by omega
  have hcell := HG.out t (by have := HN.out; omega)
  have hlt : g < w.heap.size := World.block_lt_of_cell? w _ hcell
  have hcell1 : w1.cell? ⟨g, t, none⟩ = some (.int .i64 (L.getD t 0)) := (World.cell?_of_block (ho1.block g hlt (fun e => hgc (by injection e)))).trans hcell
  clear hcell
  obtain ⟨z, hz⟩ : ∃ z, z = L.getD t 0 := ⟨_, rfl⟩
  rw [← hz] at hcell1
  have HZ := Lib.hid hz
  clear hz
  have H1 := Lib.hid hc1
  have O1 := Lib.hid ho1
  clear hc1 ho1
  go_wp2_with fail
  go_ret
  refine ⟨_, τ, ?_, rfl, H1.out, O1.out⟩
  unfold pickS
  have hn := HN.out
  rw [← hn, F1.out, HZ.out, Int.toNat_natCast]
end Go.Proofs.YtoiobaiiammehaaGreatDoor
/- The code that a law draws from, as the walks take it. -/
namespace Go.Proofs.YtoiobaiiammehaaGreatDoor
open Go.RowKit

/-- The code that came in, as the walks take it. -/
structure Code (a : Option Addr) (len cap : Nat) (zs : List Int) (w : World) : Prop where
  row : IsRow .u8 w a len cap zs
  small : len ≤ 1048576
  old : ∀ x, a = some x → 0 < cap → x.block < w.heap.size
theorem Code.below {a : Option Addr} {len cap : Nat} {zs : List Int} {w w' : World} (h : Code a len cap zs w) (hb : Below w.heap.size w w') : Code a len cap zs w' :=
  ⟨h.row.keep fun x hx hp _ => hb.block x.block (h.old x hx hp), h.small, fun x hx hp => Nat.lt_of_lt_of_le (h.old x hx hp) hb.size⟩

theorem big_no (a : Option Addr) (len cap : Nat) (w : World) (h : len ≤ 1048576) : Calls Tryz.prog 4 #[.slice a len cap] w fun e w' => e = .returned (.bool false) ∧ w = w' := by
  have hd : decide ((1048576 : Int) < len) = false := by simp; omega
  go_enter Tryz.func4, Tryz.ntmps4
  go_wp2
  go_ret
  exact ⟨rfl, rfl⟩
theorem big_yes (a : Option Addr) (len cap : Nat) (w : World) (h : 1048576 < len) : Calls Tryz.prog 4 #[.slice a len cap] w fun e w' => e = .returned (.bool true) ∧ w = w' := by
  have hd : decide ((1048576 : Int) < len) = true := by simp; omega
  go_enter Tryz.func4, Tryz.ntmps4
  go_wp2
  go_ret
  exact ⟨rfl, rfl⟩
end Go.Proofs.YtoiobaiiammehaaGreatDoor
/- l2Row, l2Any: the row that is drawn, as a function of the cursor's state. -/
namespace Go.Proofs.YtoiobaiiammehaaGreatDoor
open Go.RowKit

/-- What a function that draws a row answers. -/
def Rowed (F : Int × Int → R × (Int × Int)) (a : Option Addr) (len cap : Nat) (zs : List Int) (σ : Int × Int) (c : Nat) (w : World) (e : Ending) (w' : World) : Prop :=
  ∃ (r : R) (τ : Int × Int), F σ = (r, τ) ∧ e = .returned (.agg #[.int .i64 r.key, .int .i64 r.value, .int .i64 r.width]) ∧ Cur a len cap zs τ w' c ∧ Only c w w'
theorem ints_alloc (w : World) (L : List Int) : Ints (w.alloc (.cells (L.map (Value.int .i64)).toArray 3)) w.heap.size L := by
  intro t ht
  rw [World.cell?_alloc_mark]
  rw [List.getElem?_toArray, List.getElem?_map, List.getElem?_eq_getElem ht, List.getD_eq_getElem?_getD, List.getElem?_eq_getElem ht]; rfl
theorem Var3.only {w w' : World} {g c : Nat} {r : R} (h : Var3 w g r) (ho : Only c w w') (hne : g ≠ c) : Var3 w' g r := (ho.block g h.lt (fun e => hne (by injection e))).trans h
def widths : List Int := [0, 0, 1, 2, 3]
/-- l2Row as a function of the cursor's state. -/
def rowS (zs : List Int) (len : Nat) (keys : Int) (σ : Int × Int) : R × (Int × Int) :=
  let x := belowS zs len keys σ
  let y := belowS zs len 100 x.2
  let z := pickS zs len widths y.2
  (⟨x.1, y.1, z.1⟩, z.2)
theorem pickS_mem (zs : List Int) (len : Nat) (L : List Int) (σ : Int × Int) (hL : 1 ≤ L.length) : (pickS zs len L σ).1 ∈ L := by
  unfold pickS
  simp only []
  have h := belowS_fst zs len (L.length : Nat) σ (by omega)
  rw [List.getD_eq_getElem?_getD, List.getElem?_eq_getElem (by omega)]
  exact List.getElem_mem _
theorem rowS_range (zs : List Int) (len : Nat) (keys : Int) (σ : Int × Int) (hk : 1 ≤ keys) :
    0 ≤ (rowS zs len keys σ).1.key ∧ (rowS zs len keys σ).1.key < keys ∧ 0 ≤ (rowS zs len keys σ).1.value ∧ (rowS zs len keys σ).1.value < 100 ∧ 0 ≤ (rowS zs len keys σ).1.width ∧ (rowS zs len keys σ).1.width ≤ 3 := by
  have h1 := belowS_fst zs len keys σ hk
  have h2 := belowS_fst zs len 100 (belowS zs len keys σ).2 (by omega)
  have h3 := pickS_mem zs len widths (belowS zs len 100 (belowS zs len keys σ).2).2 (by decide)
  unfold widths at h3
  unfold rowS widths
  simp only [List.mem_cons, List.not_mem_nil, or_false] at h3 ⊢
  omega
theorem rowS_wf (zs : List Int) (len : Nat) (keys : Int) (σ : Int × Int) (hk : 1 ≤ keys) (hk2 : keys ≤ 1000000000) : (rowS zs len keys σ).1.wf := by
  have := rowS_range zs len keys σ hk
  unfold R.wf; omega
set_option maxRecDepth 100000 in
theorem row_any (a : Option Addr) (len cap : Nat) (zs : List Int) (σ : Int × Int) (c : Nat) (w : World) (hc : Cur a len cap zs σ w c) (halt : ∀ x, a = some x → 0 < cap → x.block < w.heap.size) (keys : Int) (h1 : 1 ≤ keys) (h2 : keys ≤ 1000000000) :
    Calls Tryz.prog 59 #[.pointer (some ⟨c, 0, none⟩), .int .i64 keys] w (Rowed (rowS zs len keys) a len cap zs σ c w) := by
  have hb0 : Below w.heap.size w (w.alloc (.cells #[.int .i64 0, .int .i64 0, .int .i64 0] 34)) := (Below.refl _ _).alloc (Nat.le_refl _) _
  have hcl := hc.lt
  have H0 := Lib.hid (hc.below hb0 hcl halt)
  have O0 := Lib.hid (Only.of_below (c := c) hb0)
  have V0 : Hid (Var3 (w.alloc (.cells #[.int .i64 0, .int .i64 0, .int .i64 0] 34)) w.heap.size R.zero) := Var3.made w R.zero
  have HA := Lib.hid halt
  clear hb0 hc halt
  have hne : w.heap.size ≠ c := by omega
  go_enter Tryz.func59, Tryz.ntmps59
  go_wp2_with fail
  refine (below_any a len cap zs _ c _ H0.out keys h1 h2).mono ?_
  rintro e w1 ⟨x, τ1, hf1, rfl, hc1, ho1⟩
  have F1 := Lib.hid hf1
  have H1 := Lib.hid hc1
  have O1 := Lib.hid (O0.out.trans ho1)
  have V1 := Lib.hid (V0.out.only ho1 hne)
  clear hf1 hc1 ho1 H0 O0 V0
  go_wp2_with fail
  refine (below_any a len cap zs _ c _ H1.out 100 (by omega) (by omega)).mono ?_
  rintro e w2 ⟨y, τ2, hf2, rfl, hc2, ho2⟩
  have F2 := Lib.hid hf2
  have H2 := Lib.hid hc2
  have O2 := Lib.hid (O1.out.trans ho2)
  have V2 := Lib.hid (V1.out.only ho2 hne)
  clear hf2 hc2 ho2 H1 O1 V1
  have H3 := Lib.hid (H2.out.alloc (.cells (widths.map (Value.int .i64)).toArray 3))
  have O3 := Lib.hid (O2.out.alloc (.cells (widths.map (Value.int .i64)).toArray 3))
  have V3 := Lib.hid (V2.out.alloc (.cells (widths.map (Value.int .i64)).toArray 3))
  have I3 := Lib.hid (ints_alloc w2 widths)
  have hne2 : ¬ w2.heap.size = c := by have := H2.out.lt; omega
  go_wp2_with fail
  refine (pick_any a len cap zs _ c _ H3.out _ 5 5 widths I3.out hne2 rfl (by omega) (by omega)).mono ?_
  rintro e w3 ⟨z, τ3, hf3, rfl, hc3, ho3⟩
  have F3 := Lib.hid hf3
  have H4 := Lib.hid hc3
  have O4 := Lib.hid (O3.out.trans ho3)
  have V4 := Lib.hid (V3.out.only ho3 hne)
  clear hf3 hc3 ho3 H2 O2 V2 H3 O3 V3 I3
  obtain ⟨d0, d1, d2⟩ := V4.out.cells
  obtain ⟨f0, f1, f2⟩ := V4.out.free
  go_wp2_with fail
  refine bodyPost_ret (v := .agg #[.int .i64 x, .int .i64 y, .int .i64 z]) (by simp [results, Tryz.results59, go_sem, *]) rfl ⟨⟨x, y, z⟩, τ3, ?_, rfl, ?_, ?_⟩
  · unfold rowS
    rw [F1.out]
    simp only []
    rw [F2.out]
    simp only []
    rw [F3.out]
  · exact H4.out.below (below_set3 (Below.refl _ _) (Nat.le_refl _) _ _ _ _ _ _) hcl HA.out
  · exact O4.out.step (below_set3 (Below.refl _ _) (Nat.le_refl _) _ _ _ _ _ _)

/-- l2Any as a function of the cursor's state. -/
def anyS (zs : List Int) (len : Nat) (σ : Int × Int) : R × (Int × Int) :=
  let r := rowS zs len 10 σ
  let v := belowS zs len 8 r.2
  if v.1 = 0 then (⟨(pickS zs len [-1, 10] v.2).1, r.1.value, r.1.width⟩, (pickS zs len [-1, 10] v.2).2)
  else if v.1 = 1 then (⟨r.1.key, (pickS zs len [-1, 100, 99] v.2).1, r.1.width⟩, (pickS zs len [-1, 100, 99] v.2).2)
  else if v.1 = 2 then (⟨r.1.key, r.1.value, (pickS zs len [-1, 4] v.2).1⟩, (pickS zs len [-1, 4] v.2).2)
  else (r.1, v.2)
theorem anyS_wf (zs : List Int) (len : Nat) (σ : Int × Int) : (anyS zs len σ).1.wf := by
  have h := rowS_wf zs len 10 σ (by omega) (by omega)
  unfold R.wf at h ⊢
  unfold anyS
  simp only []
  split
  · have := pickS_mem zs len [-1, 10] (belowS zs len 8 (rowS zs len 10 σ).2).2 (by decide)
    simp only [List.mem_cons, List.not_mem_nil, or_false] at this ⊢
    omega
  · split
    · have := pickS_mem zs len [-1, 100, 99] (belowS zs len 8 (rowS zs len 10 σ).2).2 (by decide)
      simp only [List.mem_cons, List.not_mem_nil, or_false] at this ⊢
      omega
    · split
      · have := pickS_mem zs len [-1, 4] (belowS zs len 8 (rowS zs len 10 σ).2).2 (by decide)
        simp only [List.mem_cons, List.not_mem_nil, or_false] at this ⊢
        omega
      · exact h
set_option maxRecDepth 100000 in
theorem any_any (a : Option Addr) (len cap : Nat) (zs : List Int) (σ : Int × Int) (c : Nat) (w : World) (hc : Cur a len cap zs σ w c) (halt : ∀ x, a = some x → 0 < cap → x.block < w.heap.size) :
    Calls Tryz.prog 44 #[.pointer (some ⟨c, 0, none⟩)] w (Rowed (anyS zs len) a len cap zs σ c w) := by
  have hb0 : Below w.heap.size w (w.alloc (.cells #[.int .i64 0, .int .i64 0, .int .i64 0] 34)) := (Below.refl _ _).alloc (Nat.le_refl _) _
  have hcl := hc.lt
  have H0 := Lib.hid (hc.below hb0 hcl halt)
  have O0 := Lib.hid (Only.of_below (c := c) hb0)
  have V0 : Hid (Var3 (w.alloc (.cells #[.int .i64 0, .int .i64 0, .int .i64 0] 34)) w.heap.size R.zero) := Var3.made w R.zero
  have HA0 := Lib.hid fun x hx hp => Nat.lt_of_lt_of_le (halt x hx hp) hb0.size
  have HA := Lib.hid halt
  clear hb0 hc halt
  have hne : w.heap.size ≠ c := by omega
  go_enter Tryz.func44, Tryz.ntmps44
  go_wp2_with fail
  refine (row_any a len cap zs _ c _ H0.out HA0.out 10 (by omega) (by omega)).mono ?_
  rintro e w1 ⟨r, τ1, hf1, rfl, hc1, ho1⟩
  have F1 := Lib.hid hf1
  have O1 := Lib.hid (O0.out.trans ho1)
  have V1 := Lib.hid (V0.out.only ho1 hne)
  have hbx : Below w1.heap.size w1 (w1.alloc (.cells #[.int .i64 r.key, .int .i64 r.value, .int .i64 r.width] 34)) := (Below.refl _ _).alloc (Nat.le_refl _) _
  have H1 := Lib.hid (hc1.alloc (.cells #[.int .i64 r.key, .int .i64 r.value, .int .i64 r.width] 34))
  have O2 := Lib.hid (O1.out.alloc (.cells #[.int .i64 r.key, .int .i64 r.value, .int .i64 r.width] 34))
  have V2 := Lib.hid (V1.out.keep hbx)
  have X2 := Lib.hid (Var3.made w1 r)
  have hlt1 : w.heap.size < w1.heap.size := V1.out.lt
  have hne1 : w1.heap.size ≠ c := by omega
  have hne3 : w.heap.size ≠ w1.heap.size := by omega
  clear hf1 hc1 ho1 H0 O0 V0 HA0 V1 O1 hbx
  go_wp2_with fail
  refine (below_any a len cap zs _ c _ H1.out 8 (by omega) (by omega)).mono ?_
  rintro e w2 ⟨v, τ2, hf2, rfl, hc2, ho2⟩
  obtain ⟨hv0, hv1⟩ := belowS_range (by omega) hf2
  have F2 := Lib.hid hf2
  have H2 := Lib.hid hc2
  have O3 := Lib.hid (O2.out.trans ho2)
  have V3 := Lib.hid (V2.out.only ho2 hne)
  have X3 := Lib.hid (X2.out.only ho2 hne1)
  clear hf2 hc2 ho2 H1 O2 V2 X2
  have hlt2 := H2.out.lt
  have hne4 : ¬ w2.heap.size = c := by omega
  by_cases v0 : v = 0
  · subst v0
    have H3 := Lib.hid (H2.out.alloc (.cells (([-1, 10] : List Int).map (Value.int .i64)).toArray 3))
    have O4 := Lib.hid (O3.out.alloc (.cells (([-1, 10] : List Int).map (Value.int .i64)).toArray 3))
    have V4 := Lib.hid (V3.out.alloc (.cells (([-1, 10] : List Int).map (Value.int .i64)).toArray 3))
    have X4 := Lib.hid (X3.out.alloc (.cells (([-1, 10] : List Int).map (Value.int .i64)).toArray 3))
    have I4 := Lib.hid (ints_alloc w2 [-1, 10])
    go_wp2_with fail
    refine (pick_any a len cap zs _ c _ H3.out _ 2 2 [-1, 10] I4.out hne4 rfl (by omega) (by omega)).mono ?_
    rintro e w3 ⟨z, τ3, hf3, rfl, hc3, ho3⟩
    have F3 := Lib.hid hf3
    have H5 := Lib.hid hc3
    have O5 := Lib.hid (O4.out.trans ho3)
    have V5 := Lib.hid (V4.out.only ho3 hne)
    have X5 := Lib.hid (X4.out.only ho3 hne1)
    have HR : Hid (anyS zs len σ = ((⟨z, r.value, r.width⟩ : R), τ3)) := by
      show _ = _
      unfold anyS
      rw [F1.out]
      simp only []
      rw [F2.out]
      simp only []
      first | rw [if_pos rfl] | rw [if_pos trivial]
      rw [F3.out]
    have BX : Hid (Below w.heap.size w3 ((((w3.setCell ⟨w1.heap.size, 0, none⟩ (.int .i64 z)).setCell ⟨w.heap.size, 0, none⟩ (.int .i64 (R.key (⟨z, r.value, r.width⟩ : R)))).setCell ⟨w.heap.size, 1, none⟩ (.int .i64 (R.value (⟨z, r.value, r.width⟩ : R)))).setCell ⟨w.heap.size, 2, none⟩ (.int .i64 (R.width (⟨z, r.value, r.width⟩ : R))))) :=
      below_set3 ((Below.refl _ _).setCell (p := ⟨w1.heap.size, 0, none⟩) (Nat.le_of_lt hlt1) _) (Nat.le_refl _) _ _ _ _ _ _
    clear hf3 hc3 ho3 H3 O4 V4 X4 I4
    obtain ⟨d0, d1, d2⟩ := V5.out.cells
    obtain ⟨f0, f1, f2⟩ := V5.out.free
    obtain ⟨c0, c1, c2⟩ := X5.out.cells
    obtain ⟨g0, g1, g2⟩ := X5.out.free
    go_wp2_with fail
    refine bodyPost_ret (v := .agg #[.int .i64 (R.key (⟨z, r.value, r.width⟩ : R)), .int .i64 (R.value (⟨z, r.value, r.width⟩ : R)), .int .i64 (R.width (⟨z, r.value, r.width⟩ : R))]) (by simp [results, Tryz.results44, go_sem, *]) rfl ⟨(⟨z, r.value, r.width⟩ : R), τ3, HR.out, rfl, H5.out.below BX.out hcl HA.out, O5.out.step BX.out⟩
  · have e0 : (v == 0) = false := beq_eq_false_iff_ne.2 v0
    by_cases v1 : v = 1
    · subst v1
      have H3 := Lib.hid (H2.out.alloc (.cells (([-1, 100, 99] : List Int).map (Value.int .i64)).toArray 3))
      have O4 := Lib.hid (O3.out.alloc (.cells (([-1, 100, 99] : List Int).map (Value.int .i64)).toArray 3))
      have V4 := Lib.hid (V3.out.alloc (.cells (([-1, 100, 99] : List Int).map (Value.int .i64)).toArray 3))
      have X4 := Lib.hid (X3.out.alloc (.cells (([-1, 100, 99] : List Int).map (Value.int .i64)).toArray 3))
      have I4 := Lib.hid (ints_alloc w2 [-1, 100, 99])
      go_wp2_with fail
      refine (pick_any a len cap zs _ c _ H3.out _ 3 3 [-1, 100, 99] I4.out hne4 rfl (by omega) (by omega)).mono ?_
      rintro e w3 ⟨z, τ3, hf3, rfl, hc3, ho3⟩
      have F3 := Lib.hid hf3
      have H5 := Lib.hid hc3
      have O5 := Lib.hid (O4.out.trans ho3)
      have V5 := Lib.hid (V4.out.only ho3 hne)
      have X5 := Lib.hid (X4.out.only ho3 hne1)
      have HR : Hid (anyS zs len σ = ((⟨r.key, z, r.width⟩ : R), τ3)) := by
        show _ = _
        unfold anyS
        rw [F1.out]
        simp only []
        rw [F2.out]
        simp only []
        rw [if_neg (by decide)]; first | rw [if_pos rfl] | rw [if_pos trivial]
        rw [F3.out]
      have BX : Hid (Below w.heap.size w3 ((((w3.setCell ⟨w1.heap.size, 1, none⟩ (.int .i64 z)).setCell ⟨w.heap.size, 0, none⟩ (.int .i64 (R.key (⟨r.key, z, r.width⟩ : R)))).setCell ⟨w.heap.size, 1, none⟩ (.int .i64 (R.value (⟨r.key, z, r.width⟩ : R)))).setCell ⟨w.heap.size, 2, none⟩ (.int .i64 (R.width (⟨r.key, z, r.width⟩ : R))))) :=
        below_set3 ((Below.refl _ _).setCell (p := ⟨w1.heap.size, 1, none⟩) (Nat.le_of_lt hlt1) _) (Nat.le_refl _) _ _ _ _ _ _
      clear hf3 hc3 ho3 H3 O4 V4 X4 I4
      obtain ⟨d0, d1, d2⟩ := V5.out.cells
      obtain ⟨f0, f1, f2⟩ := V5.out.free
      obtain ⟨c0, c1, c2⟩ := X5.out.cells
      obtain ⟨g0, g1, g2⟩ := X5.out.free
      go_wp2_with fail
      refine bodyPost_ret (v := .agg #[.int .i64 (R.key (⟨r.key, z, r.width⟩ : R)), .int .i64 (R.value (⟨r.key, z, r.width⟩ : R)), .int .i64 (R.width (⟨r.key, z, r.width⟩ : R))]) (by simp [results, Tryz.results44, go_sem, *]) rfl ⟨(⟨r.key, z, r.width⟩ : R), τ3, HR.out, rfl, H5.out.below BX.out hcl HA.out, O5.out.step BX.out⟩
    · have e1 : (v == 1) = false := beq_eq_false_iff_ne.2 v1
      by_cases v2 : v = 2
      · subst v2
        have H3 := Lib.hid (H2.out.alloc (.cells (([-1, 4] : List Int).map (Value.int .i64)).toArray 3))
        have O4 := Lib.hid (O3.out.alloc (.cells (([-1, 4] : List Int).map (Value.int .i64)).toArray 3))
        have V4 := Lib.hid (V3.out.alloc (.cells (([-1, 4] : List Int).map (Value.int .i64)).toArray 3))
        have X4 := Lib.hid (X3.out.alloc (.cells (([-1, 4] : List Int).map (Value.int .i64)).toArray 3))
        have I4 := Lib.hid (ints_alloc w2 [-1, 4])
        go_wp2_with fail
        refine (pick_any a len cap zs _ c _ H3.out _ 2 2 [-1, 4] I4.out hne4 rfl (by omega) (by omega)).mono ?_
        rintro e w3 ⟨z, τ3, hf3, rfl, hc3, ho3⟩
        have F3 := Lib.hid hf3
        have H5 := Lib.hid hc3
        have O5 := Lib.hid (O4.out.trans ho3)
        have V5 := Lib.hid (V4.out.only ho3 hne)
        have X5 := Lib.hid (X4.out.only ho3 hne1)
        have HR : Hid (anyS zs len σ = ((⟨r.key, r.value, z⟩ : R), τ3)) := by
          show _ = _
          unfold anyS
          rw [F1.out]
          simp only []
          rw [F2.out]
          simp only []
          rw [if_neg (by decide), if_neg (by decide)]; first | rw [if_pos rfl] | rw [if_pos trivial]
          rw [F3.out]
        have BX : Hid (Below w.heap.size w3 ((((w3.setCell ⟨w1.heap.size, 2, none⟩ (.int .i64 z)).setCell ⟨w.heap.size, 0, none⟩ (.int .i64 (R.key (⟨r.key, r.value, z⟩ : R)))).setCell ⟨w.heap.size, 1, none⟩ (.int .i64 (R.value (⟨r.key, r.value, z⟩ : R)))).setCell ⟨w.heap.size, 2, none⟩ (.int .i64 (R.width (⟨r.key, r.value, z⟩ : R))))) :=
          below_set3 ((Below.refl _ _).setCell (p := ⟨w1.heap.size, 2, none⟩) (Nat.le_of_lt hlt1) _) (Nat.le_refl _) _ _ _ _ _ _
        clear hf3 hc3 ho3 H3 O4 V4 X4 I4
        obtain ⟨d0, d1, d2⟩ := V5.out.cells
        obtain ⟨f0, f1, f2⟩ := V5.out.free
        obtain ⟨c0, c1, c2⟩ := X5.out.cells
        obtain ⟨g0, g1, g2⟩ := X5.out.free
        go_wp2_with fail
        refine bodyPost_ret (v := .agg #[.int .i64 (R.key (⟨r.key, r.value, z⟩ : R)), .int .i64 (R.value (⟨r.key, r.value, z⟩ : R)), .int .i64 (R.width (⟨r.key, r.value, z⟩ : R))]) (by simp [results, Tryz.results44, go_sem, *]) rfl ⟨(⟨r.key, r.value, z⟩ : R), τ3, HR.out, rfl, H5.out.below BX.out hcl HA.out, O5.out.step BX.out⟩
      · have e2 : (v == 2) = false := beq_eq_false_iff_ne.2 v2
        have HR : Hid (anyS zs len σ = (r, τ2)) := by
          show _ = _
          unfold anyS
          rw [F1.out]
          simp only []
          rw [F2.out]
          simp only []
          rw [if_neg v0, if_neg v1, if_neg v2]
        have BX : Hid (Below w.heap.size w2 (((w2.setCell ⟨w.heap.size, 0, none⟩ (.int .i64 r.key)).setCell ⟨w.heap.size, 1, none⟩ (.int .i64 r.value)).setCell ⟨w.heap.size, 2, none⟩ (.int .i64 r.width))) :=
          below_set3 (Below.refl _ _) (Nat.le_refl _) _ _ _ _ _ _
        clear v0 v1 v2
        obtain ⟨d0, d1, d2⟩ := V3.out.cells
        obtain ⟨f0, f1, f2⟩ := V3.out.free
        obtain ⟨c0, c1, c2⟩ := X3.out.cells
        go_wp2_with fail
        refine bodyPost_ret (v := .agg #[.int .i64 r.key, .int .i64 r.value, .int .i64 r.width]) (by simp [results, Tryz.results44, go_sem, *]) rfl ⟨r, τ2, HR.out, rfl, H2.out.below BX.out hcl HA.out, O3.out.step BX.out⟩
end Go.Proofs.YtoiobaiiammehaaGreatDoor
/- l2Rows, l2Bent: the rows that are drawn, as functions of the cursor's state. -/
namespace Go.Proofs.YtoiobaiiammehaaGreatDoor
open Go.RowKit

/-- What a function that draws rows answers: a slice over memory of the call's own. -/
def Rowsed (F : Int × Int → List R × (Int × Int)) (a : Option Addr) (len cap : Nat) (zs : List Int) (σ : Int × Int) (c : Nat) (w : World) (e : Ending) (w' : World) : Prop :=
  ∃ (v : Value) (L : List R) (τ : Int × Int), F σ = (L, τ) ∧ e = .returned v ∧ w'.ownsRow w.heap.size 34 3 v L.length (cells3 L) ∧ Cur a len cap zs τ w' c ∧ Only c w w'
def keysL : List Int := [1, 2, 4, 10]
def rowsLoop (zs : List Int) (len : Nat) (keys : Int) : Nat → List R → Int × Int → List R × (Int × Int)
  | 0, l, σ => (l, σ)
  | n + 1, l, σ => rowsLoop zs len keys n (l ++ [(rowS zs len keys σ).1]) (rowS zs len keys σ).2
/-- l2Rows as a function of the cursor's state. -/
def rowsS (zs : List Int) (len : Nat) (most : Int) (σ : Int × Int) : List R × (Int × Int) :=
  let k := pickS zs len keysL σ
  let n := belowS zs len (most + 1) k.2
  rowsLoop zs len k.1 n.1.toNat [] n.2
theorem rowsLoop_length (zs : List Int) (len : Nat) (keys : Int) : ∀ (n : Nat) (l : List R) (σ : Int × Int), (rowsLoop zs len keys n l σ).1.length = l.length + n
  | 0, l, σ => rfl
  | n + 1, l, σ => by rw [rowsLoop, rowsLoop_length zs len keys n]; simp; omega
theorem rowsLoop_wf (zs : List Int) (len : Nat) (keys : Int) (h1 : 1 ≤ keys) (h2 : keys ≤ 1000000000) : ∀ (n : Nat) (l : List R) (σ : Int × Int), (∀ r ∈ l, r.wf) → ∀ r ∈ (rowsLoop zs len keys n l σ).1, r.wf
  | 0, l, σ, h => h
  | n + 1, l, σ, h => by
    rw [rowsLoop]
    refine rowsLoop_wf zs len keys h1 h2 n _ _ fun r hr => ?_
    rcases List.mem_append.1 hr with hr | hr
    · exact h r hr
    · rw [List.mem_singleton.1 hr]; exact rowS_wf zs len keys σ h1 h2
theorem keys_range (zs : List Int) (len : Nat) (σ : Int × Int) : 1 ≤ (pickS zs len keysL σ).1 ∧ (pickS zs len keysL σ).1 ≤ 10 := by
  have := pickS_mem zs len keysL σ (by decide)
  unfold keysL at this ⊢
  simp only [List.mem_cons, List.not_mem_nil, or_false] at this
  omega
theorem rowsS_length (zs : List Int) (len : Nat) (most : Int) (σ : Int × Int) (hm : 0 ≤ most) : ((rowsS zs len most σ).1.length : Int) ≤ most := by
  unfold rowsS
  simp only []
  rw [rowsLoop_length]
  have := belowS_fst zs len (most + 1) (pickS zs len keysL σ).2 (by omega)
  simp only [List.length_nil]; omega
theorem rowsS_wf (zs : List Int) (len : Nat) (most : Int) (σ : Int × Int) : ∀ r ∈ (rowsS zs len most σ).1, r.wf := by
  have hk := keys_range zs len σ
  unfold rowsS
  simp only []
  exact rowsLoop_wf zs len _ hk.1 (by omega) _ _ _ (fun r hr => by cases hr)
theorem own_onlyR {w w' : World} {B c : Nat} {v : Value} {n : Nat} {xs : List Value} (h : w.ownsRow B 34 3 v n xs) (ho : Only c w w') (hc : c < B) : w'.ownsRow B 34 3 v n xs :=
  h.kept ho (by
    cases hv : v.ownBlock with
    | none => exact .inl rfl
    | some k =>
      refine .inr fun e => ?_
      have := (h.lt k hv).1
      injection e with e
      omega)
set_option maxRecDepth 100000 in
theorem rows_any (a : Option Addr) (len cap : Nat) (zs : List Int) (σ : Int × Int) (c : Nat) (w : World) (hc : Cur a len cap zs σ w c) (halt : ∀ x, a = some x → 0 < cap → x.block < w.heap.size) (most : Int) (h0 : 0 ≤ most) (h1 : most ≤ 1000) :
    Calls Tryz.prog 43 #[.pointer (some ⟨c, 0, none⟩), .int .i64 most] w (Rowsed (rowsS zs len most) a len cap zs σ c w) := by
  have hb0 : Below w.heap.size w (w.alloc (.cells #[] 34)) := (Below.refl _ _).alloc (Nat.le_refl _) _
  have hcl := hc.lt
  have H0 := Lib.hid (hc.below hb0 hcl halt)
  have O0 := Lib.hid (Only.of_below (c := c) hb0)
  have W0 := Lib.hid (World.ownsRow_made (e := 34) (size := 3) (base := w.heap.size) w #[] 0 (Nat.le_refl _) (by unfold maxLen; omega) rfl)
  have HA := Lib.hid halt
  clear hc halt hb0
  have H1 := Lib.hid (H0.out.alloc (.cells (keysL.map (Value.int .i64)).toArray 3))
  have O1 := Lib.hid (O0.out.alloc (.cells (keysL.map (Value.int .i64)).toArray 3))
  have W1 := Lib.hid (W0.out.alloc (.cells (keysL.map (Value.int .i64)).toArray 3))
  have I1 := Lib.hid (ints_alloc (w.alloc (.cells #[] 34)) keysL)
  have hg : (w.alloc (.cells #[] 34)).heap.size = w.heap.size + 1 := by simp
  rw [hg] at I1
  have hne : ¬ w.heap.size + 1 = c := by omega
  clear hg
  go_enter Tryz.func43, Tryz.ntmps43
  go_wp2_with fail
  refine (pick_any a len cap zs _ c _ H1.out _ 4 4 keysL I1.out hne rfl (by omega) (by omega)).mono ?_
  rintro e w1 ⟨key, τ1, hf1, rfl, hc1, ho1⟩
  have hk := keys_range zs len σ
  rw [hf1] at hk
  obtain ⟨hk1, hk2⟩ := hk
  have F1 := Lib.hid hf1
  have H2 := Lib.hid hc1
  have O2 := Lib.hid (O1.out.trans ho1)
  have W2 := Lib.hid (own_onlyR W1.out ho1 hcl)
  clear hf1 hc1 ho1 H0 O0 W0 H1 O1 W1 I1
  go_wp2_with fail
  refine (below_any a len cap zs _ c _ H2.out (most + 1) (by omega) (by omega)).mono ?_
  rintro e w2 ⟨cnt, τ2, hf2, rfl, hc2, ho2⟩
  obtain ⟨hn0, hn1⟩ := belowS_range (by omega) hf2
  have F2 := Lib.hid hf2
  have H3 := Lib.hid hc2
  have O3 := Lib.hid (O2.out.trans ho2)
  have W3 := Lib.hid (own_onlyR W2.out ho2 hcl)
  have HT : Hid (rowsS zs len most σ = rowsLoop zs len key cnt.toNat [] τ2) := by show _ = _; unfold rowsS; rw [F1.out]; simp only []; rw [F2.out]
  clear hf2 hc2 ho2 H2 O2 W2
  go_wp2_with fail
  go_loopw [5, 7] (fun v i wr => ∃ (k : Int) (x : Value) (l : List R) (τ : Int × Int), i = .int .i64 k ∧ x = v ∧ 0 ≤ k ∧ k ≤ most ∧ Hid ((l.length : Int) + k ≤ most) ∧ Hid (wr.ownsRow w.heap.size 34 3 x l.length (cells3 l)) ∧ Hid (Cur a len cap zs τ wr c) ∧ Hid (Only c w wr) ∧ Hid (rowsS zs len most σ = rowsLoop zs len key k.toNat l τ)) (fun _ i _ => (intOf i).toNat)
  case atStart => exact ⟨cnt, _, [], τ2, rfl, rfl, hn0, by omega, by show ((0 : Nat) : Int) + cnt ≤ most; omega, W3, H3, O3, HT⟩
  case round =>
    obtain ⟨k, x, l, τ, rfl, rfl, hk0, hkm, hlk, hown, hcur, honly, hTL⟩ := hrel
    by_cases hk : 0 < k
    · have HAr := Lib.hid fun y hy hp => Nat.lt_of_lt_of_le (HA.out y hy hp) honly.out.size
      go_wp2_with fail
      refine (row_any a len cap zs _ c _ hcur.out HAr.out key hk1 (by omega)).mono ?_
      rintro e w3 ⟨r, τ3, hf3, rfl, hc3, ho3⟩
      have F3 := Lib.hid hf3
      have HS : Hid (rowsS zs len most σ = rowsLoop zs len key (k - 1).toNat (l ++ [r]) τ3) := by
        show _ = _
        rw [hTL.out, show k.toNat = (k - 1).toNat + 1 by omega, rowsLoop, F3.out]
      have H4 := Lib.hid hc3
      have O4 := Lib.hid (honly.out.trans ho3)
      have W4 := Lib.hid (own_onlyR hown.out ho3 hcl)
      have hsz := O4.out.size
      have hll : l.length ≤ 1000 := by have := hlk.out; omega
      clear hf3 hc3 ho3 hcur honly hown
      go_wp2_with (at_builtin; refine wpList_pushR (.tmp 20) (.tmp 24) r w3.heap.size rfl rfl rfl rfl rfl W4.out hsz (by omega) ?_; intro v4 w4 hown4 hb4 hrest4)
      go_roundw
      case rel =>
        refine ⟨k - 1, _, _, τ3, by go_num, rfl, by omega, by omega, ?_, hown4, H4.out.below hb4 hcl fun x hx hp => HA.out x hx hp, O4.out.step hb4, HS⟩
        show _ ≤ _
        have := hlk.out
        rw [List.length_append, List.length_singleton]; omega
      case measure => simp [intOf]; omega
    · have hk00 : k = 0 := by omega
      have HF : Hid (rowsS zs len most σ = (l, τ)) := by show _ = _; rw [hTL.out, hk00]; rfl
      clear hk00
      go_wp2_with fail
      go_ret
      exact ⟨_, l, τ, HF.out, rfl, hown.out, hcur.out, honly.out⟩

/-- l2Bent as a function of the cursor's state. -/
def bentS (zs : List Int) (len : Nat) (most : Int) (σ : Int × Int) : List R × (Int × Int) :=
  let l := rowsS zs len most σ
  let v := belowS zs len 14 l.2
  if v.1 = 0 then (l.1 ++ [(anyS zs len v.2).1], (anyS zs len v.2).2) else (l.1, v.2)
theorem bentS_length (zs : List Int) (len : Nat) (most : Int) (σ : Int × Int) (hm : 0 ≤ most) : ((bentS zs len most σ).1.length : Int) ≤ most + 1 := by
  have := rowsS_length zs len most σ hm
  unfold bentS
  simp only []
  split
  · rw [List.length_append, List.length_singleton]; omega
  · simp only []; omega
theorem bentS_wf (zs : List Int) (len : Nat) (most : Int) (σ : Int × Int) : ∀ r ∈ (bentS zs len most σ).1, r.wf := by
  have h := rowsS_wf zs len most σ
  unfold bentS
  simp only []
  split
  · intro r hr
    rcases List.mem_append.1 hr with hr | hr
    · exact h r hr
    · rw [List.mem_singleton.1 hr]; exact anyS_wf zs len _
  · exact h
set_option maxRecDepth 100000 in
theorem bent_any (a : Option Addr) (len cap : Nat) (zs : List Int) (σ : Int × Int) (c : Nat) (w : World) (hc : Cur a len cap zs σ w c) (halt : ∀ x, a = some x → 0 < cap → x.block < w.heap.size) (most : Int) (h0 : 0 ≤ most) (h1 : most ≤ 1000) :
    Calls Tryz.prog 20 #[.pointer (some ⟨c, 0, none⟩), .int .i64 most] w (Rowsed (bentS zs len most) a len cap zs σ c w) := by
  have hcl := hc.lt
  have H0 := Lib.hid hc
  have HA := Lib.hid halt
  clear hc halt
  go_enter Tryz.func20, Tryz.ntmps20
  go_wp2_with fail
  refine (rows_any a len cap zs _ c _ H0.out HA.out most h0 h1).mono ?_
  rintro e w1 ⟨v, L, τ1, hf1, rfl, hw1, hc1, ho1⟩
  have hll := rowsS_length zs len most σ h0
  rw [hf1] at hll
  have hl1 : L.length ≤ 1000 := by
    have : (L.length : Int) ≤ most := hll
    omega
  clear hll
  have F1 := Lib.hid hf1
  have H1 := Lib.hid hc1
  have O1 := Lib.hid ho1
  have W1 := Lib.hid hw1
  clear hf1 hc1 ho1 hw1
  go_wp2_with fail
  refine (once_any a len cap zs _ c _ H1.out 14 (by omega) (by omega)).mono ?_
  rintro e w2 ⟨x, τ2, hf2, rfl, hc2, ho2⟩
  have F2 := Lib.hid hf2
  have H2 := Lib.hid hc2
  have O2 := Lib.hid (O1.out.trans ho2)
  have W2 := Lib.hid (own_onlyR W1.out ho2 hcl)
  clear hf2 hc2 ho2 H1 O1 W1
  by_cases hx : x = 0
  · subst hx
    have HA2 := Lib.hid fun y hy hp => Nat.lt_of_lt_of_le (HA.out y hy hp) O2.out.size
    go_wp2_with fail
    refine (any_any a len cap zs _ c _ H2.out HA2.out).mono ?_
    rintro e w3 ⟨r, τ3, hf3, rfl, hc3, ho3⟩
    have HR : Hid (bentS zs len most σ = (L ++ [r], τ3)) := by
      show _ = _
      unfold bentS
      rw [F1.out]
      simp only []
      rw [F2.out]
      simp only []
      first | rw [if_pos rfl] | rw [if_pos trivial]
      rw [hf3]
    have H3 := Lib.hid hc3
    have O3 := Lib.hid (O2.out.trans ho3)
    have W3 := Lib.hid (own_onlyR W2.out ho3 hcl)
    have hsz := O3.out.size
    clear hf3 hc3 ho3 H2 O2 W2
    go_wp2_with (at_builtin; refine wpList_pushR (.tmp 11) (.tmp 14) r w3.heap.size rfl rfl rfl rfl rfl W3.out hsz (by omega) ?_; intro v4 w4 hown4 hb4 hrest4)
    go_ret
    exact ⟨_, _, τ3, HR.out, rfl, hown4, H3.out.below hb4 hcl fun x hx hp => HA.out x hx hp, O3.out.step hb4⟩
  · have hd : (x == 0) = false := beq_eq_false_iff_ne.2 hx
    have HR : Hid (bentS zs len most σ = (L, τ2)) := by
      show _ = _
      unfold bentS
      rw [F1.out]
      simp only []
      rw [F2.out]
      simp only []
      rw [if_neg hx]
    clear hx
    go_wp2_with fail
    go_ret
    exact ⟨_, L, τ2, HR.out, rfl, W2.out, H2.out, O2.out⟩
end Go.Proofs.YtoiobaiiammehaaGreatDoor
/- l1Text: some string of at most the given length. -/
namespace Go.Proofs.YtoiobaiiammehaaGreatDoor
open Go.RowKit

/-- 'out = append(out, b)' where only the blocks from B on are the call's own. -/
theorem wpList_pushB {ops : Array Oper} {rest : List Oper} {o : Oper} {a : Act} {Q : Exit → Act → World → Prop} {wr : World} {B : Nat} {out : List UInt8} {n : Int} {v : Value} (s x : Operand) (b : UInt8)
    (hgd : o.guard = none) (ho : o.op = .call { callee := .builtin .append, args := #[s, x], argTypes := #[22, 22] })
    (hs : a.eval s = v) (hx : a.eval x = .slice (some ⟨wr.heap.size, 0, none⟩) 1 1) (hown : wr.ownsRow B 5 1 v out.length (b8 out)) (hB : B ≤ wr.heap.size)
    (hlen : out.length + 1 ≤ 140737488355328) (hn : n = (b.toNat : Int))
    (h : ∀ v' w', w'.ownsRow B 5 1 v' (out ++ [b]).length (b8 (out ++ [b])) → Below B wr w' → wpList Tryz.prog ops Q rest (a.put o.dst v') w') :
    wpList Tryz.prog ops Q (o :: rest) a (wr.alloc (.cells #[.int .u8 n] 5)) := by
  obtain ⟨i0, hi, hz0, hz1, hz2⟩ := info_parts byte_info
  refine wpList_append_own _ hgd s x 22 ho B 5 i0 (.int .u8 0) 1 1 Tryz.underlying22 hi hz0 hz1 hz2 rfl (by decide) v out.length (b8 out) hs (hown.alloc _)
    ⟨wr.heap.size, 0, none⟩ 1 1 [.int .u8 n] hx rfl (cell_new1 _ _ _) (by intro u hu; simp at hu; subst hu; rfl) (by unfold maxLen; omega) (by omega) (by simp; omega) ?_
  intro v' w' hown' hg _
  rw [b8_snoc out b n hn] at hown'
  exact h v' w' (by simpa using hown') (((Below.refl B wr).alloc hB _).grown hg (by simp; omega) fun k hk => (hown.lt k hk).1)

/-- One byte of l1Text, by its style. -/
def styled (st b : Int) : UInt8 := UInt8.ofNat (if st = 1 then b % 2 else if st = 2 then 97 + b % 4 else b).toNat
/-- The loop of l1Text: k bytes more behind l. -/
def textLoop (zs : List Int) (len : Nat) (st : Int) : Nat → List UInt8 → Int × Int → List UInt8 × (Int × Int)
  | 0, l, σ => (l, σ)
  | k + 1, l, σ => textLoop zs len st k (l ++ [styled st (byteS zs len σ).1]) (byteS zs len σ).2
/-- l1Text as a function of the cursor's state. -/
def textS (zs : List Int) (len : Nat) (m : Int) (σ : Int × Int) : List UInt8 × (Int × Int) :=
  let st := belowS zs len 4 σ
  let n := belowS zs len (m + 1) st.2
  textLoop zs len st.1 n.1.toNat [] n.2
theorem textLoop_length (zs : List Int) (len : Nat) (st : Int) : ∀ (k : Nat) (l : List UInt8) (σ : Int × Int), (textLoop zs len st k l σ).1.length = l.length + k
  | 0, _, _ => rfl
  | k + 1, l, σ => by rw [textLoop, textLoop_length zs len st k, List.length_append, List.length_singleton]; omega
theorem textS_length (zs : List Int) (len : Nat) (m : Int) (σ : Int × Int) (hm : 0 ≤ m) : ((textS zs len m σ).1.length : Int) ≤ m := by
  unfold textS
  simp only []
  rw [textLoop_length]
  have := belowS_fst zs len (m + 1) (belowS zs len 4 σ).2 (by omega)
  simp only [List.length_nil]; omega
/-- What a function that draws a string answers. -/
def Texted (F : Int × Int → List UInt8 × (Int × Int)) (a : Option Addr) (len cap : Nat) (zs : List Int) (σ : Int × Int) (c : Nat) (w : World) (e : Ending) (w' : World) : Prop :=
  ∃ (l : List UInt8) (τ : Int × Int), F σ = (l, τ) ∧ e = .returned (.string ⟨l.toArray⟩) ∧ Cur a len cap zs τ w' c ∧ Only c w w'

theorem own_only {w w' : World} {B c : Nat} {v : Value} {n : Nat} {xs : List Value} (h : w.ownsRow B 5 1 v n xs) (ho : Only c w w') (hc : c < B) : w'.ownsRow B 5 1 v n xs :=
  h.kept ho (by
    cases hv : v.ownBlock with
    | none => exact .inl rfl
    | some k =>
      refine .inr fun e => ?_
      have := (h.lt k hv).1
      injection e with e
      omega)

set_option maxRecDepth 100000 in
theorem text_any (a : Option Addr) (len cap : Nat) (zs : List Int) (σ : Int × Int) (c : Nat) (w : World) (hc : Cur a len cap zs σ w c) (halt : ∀ x, a = some x → 0 < cap → x.block < w.heap.size) (m : Int) (h0 : 0 ≤ m) (h1 : m ≤ 1000) :
    Calls Tryz.prog 48 #[.pointer (some ⟨c, 0, none⟩), .int .i64 m] w (Texted (textS zs len m) a len cap zs σ c w) := by
  have hcl := hc.lt
  have hb0 : Below w.heap.size w (w.alloc (.cells #[] 5)) := (Below.refl _ _).alloc (Nat.le_refl _) _
  have HC0 := Lib.hid (hc.below hb0 hcl halt)
  have HO0 := Lib.hid (World.ownsRow_made (e := 5) (size := 1) (base := w.heap.size) w #[] 0 (Nat.le_refl _) (by unfold maxLen; omega) rfl)
  have O0 := Lib.hid (Only.of_below (c := c) hb0)
  have HA := Lib.hid halt
  clear hb0 hc halt
  go_enter Tryz.func48, Tryz.ntmps48
  go_wp2_with fail
  refine (below_any a len cap zs _ c _ HC0.out 4 (by omega) (by omega)).mono ?_
  rintro e w1 ⟨st, τ1, hf1, rfl, hc1, ho1⟩
  obtain ⟨hs0, hs1⟩ := belowS_range (by omega) hf1
  have F1 := Lib.hid hf1
  clear hf1
  have H1 := Lib.hid hc1
  have O1 := Lib.hid (O0.out.trans ho1)
  have W1 := Lib.hid (own_only HO0.out ho1 hcl)
  clear hc1 ho1 HO0 O0 HC0
  go_wp2_with fail
  refine (below_any a len cap zs _ c _ H1.out (m + 1) (by omega) (by omega)).mono ?_
  rintro e w2 ⟨cnt, τ2, hf2, rfl, hc2, ho2⟩
  obtain ⟨hn0, hn1⟩ := belowS_range (by omega) hf2
  have F2 := Lib.hid hf2
  clear hf2
  have HT : Hid (textS zs len m σ = textLoop zs len st cnt.toNat [] τ2) := by show _ = _; unfold textS; rw [F1.out]; simp only []; rw [F2.out]
  have H2 := Lib.hid hc2
  have O2 := Lib.hid (O1.out.trans ho2)
  have W2 := Lib.hid (own_only W1.out ho2 hcl)
  clear hc2 ho2 H1 O1 W1
  go_wp2_with fail
  go_loopw [5, 7, 8] (fun v i _ wr => ∃ (k : Int) (x : Value) (l : List UInt8) (τ : Int × Int), i = .int .i64 k ∧ x = v ∧ 0 ≤ k ∧ k ≤ m ∧ Hid ((l.length : Int) + k ≤ m) ∧ Hid (wr.ownsRow w.heap.size 5 1 x l.length (b8 l)) ∧ Hid (Cur a len cap zs τ wr c) ∧ Hid (Only c w wr) ∧ Hid (textS zs len m σ = textLoop zs len st k.toNat l τ)) (fun _ i _ _ => (intOf i).toNat)
  case atStart => exact ⟨cnt, _, [], τ2, rfl, rfl, hn0, by omega, by show ((0 : Nat) : Int) + cnt ≤ m; omega, W2, H2, O2, HT⟩
  case round =>
    obtain ⟨k, x, l, τ, rfl, rfl, hk0, hk1, hlk, hown, hcur, honly, hTL⟩ := hrel
    by_cases hk : 0 < k
    · go_wp2_with fail
      refine (byte_any a len cap zs _ c _ hcur.out).mono ?_
      rintro e w3 ⟨b, τ3, hf3, rfl, hc3, ho3⟩
      obtain ⟨hb0, hb1⟩ := byteS_range hf3
      have F3 := Lib.hid hf3
      clear hf3
      have hstep : ∀ y : UInt8, styled st b = y → textS zs len m σ = textLoop zs len st (k - 1).toNat (l ++ [y]) τ3 := fun y hy => by rw [hTL.out, show k.toNat = (k - 1).toNat + 1 by omega, textLoop, F3.out]; simp only []; rw [hy]
      have HS := Lib.hid hstep
      clear hstep
      have H3 := Lib.hid hc3
      have O3 := Lib.hid (honly.out.trans ho3)
      have W3 := Lib.hid (own_only hown.out ho3 hcl)
      have hsz := O3.out.size
      have hll : l.length ≤ 1000 := by have := hlk.out; omega
      clear hc3 ho3 hcur honly hown
      by_cases hs : st = 1
      · subst hs
        have HN : Hid (b % 2 = ((UInt8.ofNat (b % 2).toNat).toNat : Int)) := by show _ = _; rw [UInt8.toNat_ofNat']; omega
        go_wp2_with (at_builtin; refine wpList_pushB (.tmp 31) (.tmp 34) (UInt8.ofNat (b % 2).toNat) rfl rfl rfl rfl W3.out hsz (by omega) HN.out ?_; intro v4 w4 hown4 hb4)
        go_roundw
        case rel =>
          refine ⟨k - 1, _, _, τ3, rfl, rfl, by omega, by omega, ?_, hown4, H3.out.below hb4 hcl fun x hx hp => HA.out x hx hp, O3.out.step hb4, HS.out _ (by unfold styled; rw [if_pos rfl])⟩
          show _ ≤ _
          have := hlk.out
          rw [List.length_append, List.length_singleton]; omega
        case measure => simp [intOf]; omega
      · have e1 : (st == 1) = false := beq_eq_false_iff_ne.2 hs
        clear hs
        by_cases hs2 : st = 2
        · subst hs2
          have HN : Hid (97 + b % 4 = ((UInt8.ofNat (97 + b % 4).toNat).toNat : Int)) := by show _ = _; rw [UInt8.toNat_ofNat']; omega
          go_wp2_with (at_builtin; refine wpList_pushB (.tmp 31) (.tmp 34) (UInt8.ofNat (97 + b % 4).toNat) rfl rfl rfl rfl W3.out hsz (by omega) HN.out ?_; intro v4 w4 hown4 hb4)
          go_roundw
          case rel =>
            refine ⟨k - 1, _, _, τ3, rfl, rfl, by omega, by omega, ?_, hown4, H3.out.below hb4 hcl fun x hx hp => HA.out x hx hp, O3.out.step hb4, HS.out _ (by unfold styled; rw [if_neg (by decide), if_pos rfl])⟩
            show _ ≤ _
            have := hlk.out
            rw [List.length_append, List.length_singleton]; omega
          case measure => simp [intOf]; omega
        · have e2 : (st == 2) = false := beq_eq_false_iff_ne.2 hs2
          clear hs2
          have HN : Hid (b = ((UInt8.ofNat b.toNat).toNat : Int)) := by show _ = _; rw [UInt8.toNat_ofNat']; omega
          go_wp2_with (at_builtin; refine wpList_pushB (.tmp 31) (.tmp 34) (UInt8.ofNat b.toNat) rfl rfl rfl rfl W3.out hsz (by omega) HN.out ?_; intro v4 w4 hown4 hb4)
          go_roundw
          case rel =>
            refine ⟨k - 1, _, _, τ3, rfl, rfl, by omega, by omega, ?_, hown4, H3.out.below hb4 hcl fun x hx hp => HA.out x hx hp, O3.out.step hb4, HS.out _ (by unfold styled; rw [if_neg (by simpa using e1), if_neg (by simpa using e2)])⟩
            show _ ≤ _
            have := hlk.out
            rw [List.length_append, List.length_singleton]; omega
          case measure => simp [intOf]; omega
    · have hrun := run_own_string hown.out
      go_wp2_with fail
      go_ret
      exact ⟨l, τ, by rw [hTL.out, show k.toNat = 0 by omega]; rfl, rfl, hcur.out, honly.out⟩
end Go.Proofs.YtoiobaiiammehaaGreatDoor
/- l1Spoil: a string near the given one, as a function of it and of the cursor's state. -/
namespace Go.Proofs.YtoiobaiiammehaaGreatDoor
open Go.RowKit

/-- What a function that draws a string answers, the string as it lies. -/
def Strung (F : Int × Int → ByteArray × (Int × Int)) (a : Option Addr) (len cap : Nat) (zs : List Int) (σ : Int × Int) (c : Nat) (w : World) (e : Ending) (w' : World) : Prop :=
  ∃ (t : ByteArray) (τ : Int × Int), F σ = (t, τ) ∧ e = .returned (.string t) ∧ Cur a len cap zs τ w' c ∧ Only c w w'
def oneByte (x : Int) : ByteArray := ⟨[UInt8.ofNat x.toNat].toArray⟩
/-- Byte k of s, as a number. -/
def byteAt (s : ByteArray) (k : Nat) : Int := if h : k < s.size then (s[k].toNat : Int) else 0
/-- l1Spoil as a function of the string and of the cursor's state. -/
def spoilS (zs : List Int) (len : Nat) (s : ByteArray) (σ : Int × Int) : ByteArray × (Int × Int) :=
  if s.size = 0 then (⟨(textS zs len 3 σ).1.toArray⟩, (textS zs len 3 σ).2)
  else
    let r := belowS zs len (s.size : Nat) σ
    let k := r.1.toNat
    let v := belowS zs len 4 r.2
    if v.1 = 0 then (s.extract 0 k ++ s.extract (k + 1) s.size, v.2)
    else if v.1 = 1 then (s.extract 0 k ++ oneByte (byteS zs len v.2).1 ++ s.extract k s.size, (byteS zs len v.2).2)
    else if v.1 = 2 then (s.extract 0 k, v.2)
    else (s.extract 0 k ++ oneByte (bits BinOp.xor IntKind.i64 (byteAt s k) (1 + (belowS zs len 255 v.2).1) % 256) ++ s.extract (k + 1) s.size, (belowS zs len 255 v.2).2)

theorem spoil_empty (a : Option Addr) (len cap : Nat) (zs : List Int) (σ : Int × Int) (c : Nat) (w : World) (hc : Cur a len cap zs σ w c) (halt : ∀ x, a = some x → 0 < cap → x.block < w.heap.size) (s : ByteArray) (hs : s.size = 0) :
    Calls Tryz.prog 34 #[.pointer (some ⟨c, 0, none⟩), .string s] w (Strung (spoilS zs len s) a len cap zs σ c w) := by
  have HC := Lib.hid hc
  have HA := Lib.hid halt
  have HS := Lib.hid hs
  have h0 : ((s.size : Int) == 0) = true := by rw [beq_iff_eq]; omega
  clear hc halt hs
  go_enter Tryz.func34, Tryz.ntmps34
  go_wp2_with fail
  refine (text_any a len cap zs _ c _ HC.out HA.out 3 (by omega) (by omega)).mono ?_
  rintro e w1 ⟨l, τ, hl, rfl, hc1, ho1⟩
  have HL := Lib.hid hl
  have H1 := Lib.hid hc1
  have O1 := Lib.hid ho1
  clear hl hc1 ho1
  go_wp2_with fail
  go_ret
  exact ⟨_, τ, by unfold spoilS; rw [if_pos HS.out, HL.out], rfl, H1.out, O1.out⟩

set_option maxHeartbeats 4000000 in
set_option maxRecDepth 100000 in
theorem spoil_more (a : Option Addr) (len cap : Nat) (zs : List Int) (σ : Int × Int) (c : Nat) (w : World) (hc : Cur a len cap zs σ w c) (s : ByteArray) (hs : 0 < s.size) (hs1 : s.size ≤ 100000) :
    Calls Tryz.prog 34 #[.pointer (some ⟨c, 0, none⟩), .string s] w (Strung (spoilS zs len s) a len cap zs σ c w) := by
  have HC := Lib.hid hc
  have h0 : ((s.size : Int) == 0) = false := by rw [beq_eq_false_iff_ne]; omega
  clear hc
  go_enter Tryz.func34, Tryz.ntmps34
  go_wp2_with fail
  refine (below_any a len cap zs _ c _ HC.out (s.size : Int) (by omega) (by omega)).mono ?_
  rintro e w1 ⟨q, τ1, hf1, rfl, hc1, ho1⟩
  obtain ⟨hq0, hq1⟩ := belowS_range (by omega) hf1
  obtain ⟨k, rfl⟩ : ∃ k : Nat, q = (k : Int) := ⟨q.toNat, by omega⟩
  have F1 := Lib.hid hf1
  have H1 := Lib.hid hc1
  have O1 := Lib.hid ho1
  clear hc1 ho1 hf1
  have hks : k < s.size := by omega
  have hkle : k ≤ s.size := by omega
  have hkle' : (k : Int) ≤ (s.size : Int) := by omega
  have hk1' : (k : Int) + 1 ≤ (s.size : Int) := by omega
  have hk1 : k + 1 ≤ s.size := by omega
  have hk0 : (0 : Int) ≤ (k : Int) := by omega
  have ewk : IntKind.i64.wrap ((k : Int) + 1) = (k : Int) + 1 := IntWalk.i64_in _ (by omega)
  have ewk0 : 0 ≤ (k : Int) + 1 := by omega
  have ewkn : ((k : Int) + 1).toNat = k + 1 := by omega
  go_wp2_with fail
  refine (below_any a len cap zs _ c _ H1.out 4 (by omega) (by omega)).mono ?_
  rintro e w2 ⟨v, τ2, hf2, rfl, hc2, ho2⟩
  obtain ⟨hv0, hv1⟩ := belowS_range (by omega) hf2
  have F2 := Lib.hid hf2
  have H2 := Lib.hid hc2
  have O2 := Lib.hid (O1.out.trans ho2)
  clear hc2 ho2 hf2
  have HF : Hid (spoilS zs len s σ = if v = 0 then (s.extract 0 k ++ s.extract (k + 1) s.size, τ2)
      else if v = 1 then (s.extract 0 k ++ oneByte (byteS zs len τ2).1 ++ s.extract k s.size, (byteS zs len τ2).2)
      else if v = 2 then (s.extract 0 k, τ2)
      else (s.extract 0 k ++ oneByte (bits BinOp.xor IntKind.i64 (byteAt s k) (1 + (belowS zs len 255 τ2).1) % 256) ++ s.extract (k + 1) s.size, (belowS zs len 255 τ2).2)) := by
    show _ = _
    unfold spoilS
    rw [if_neg (by omega), F1.out]
    simp only [Int.toNat_natCast]
    rw [F2.out]
  by_cases e0 : v = 0
  · subst e0
    go_wp2_with fail
    go_quiet (fail)
    go_wp2_with fail
    go_ret
    exact ⟨_, τ2, by rw [HF.out]; simp, rfl, H2.out.same rfl, O2.out.drewN _⟩
  · have t0 : (v == 0) = false := beq_eq_false_iff_ne.2 e0
    by_cases e1 : v = 1
    · subst e1
      clear e0 t0
      go_wp2_with fail
      go_region_with (go_at_call 49; refine (byte_any a len cap zs τ2 c w2.drew (H2.out.same rfl)).mono ?_; rintro e w3 ⟨b, τ3, hf3, rfl, hc3, ho3⟩; obtain ⟨hb0, hb1⟩ := byteS_range hf3; have hone := one_string w3 (IntKind.u8.wrap b) (UInt8.ofNat b.toNat) (by rw [IntKind.wrap_u8, UInt8.toNat_ofNat']; omega); have hone' := one_string w3 b (UInt8.ofNat b.toNat) (by rw [UInt8.toNat_ofNat']; omega); have F3 := Lib.hid hf3; have H3 := Lib.hid hc3; have O3 := Lib.hid ho3; clear hf3 hc3 ho3)
      all_goals
        go_wp2_with fail
        go_ret
        refine ⟨_, τ3, ?_, rfl, (H3.out.alloc _).same rfl, (O2.out.drew.trans O3.out).alloc _⟩
        rw [HF.out]
        simp only [if_true, if_false, Int.reduceEq, F3.out, oneByte]
    · have t1 : (v == 1) = false := beq_eq_false_iff_ne.2 e1
      by_cases e2 : v = 2
      · subst e2
        go_wp2_with fail
        go_ret
        exact ⟨_, τ2, by rw [HF.out]; simp, rfl, H2.out, O2.out⟩
      · have t2 : (v == 2) = false := beq_eq_false_iff_ne.2 e2
        have hat : Hid (byteAt s k = (s[k].toNat : Int)) := by show _ = _; unfold byteAt; rw [dif_pos hks]
        have HX : ∀ y : Int, Hid (IntKind.u8.wrap y = ((UInt8.ofNat (y % 256).toNat).toNat : Int)) := fun y => by show _ = _; rw [IntKind.wrap_u8, UInt8.toNat_ofNat']; omega
        have HX' : ∀ y : Int, Hid (y % 256 = ((UInt8.ofNat (y % 256).toNat).toNat : Int)) := fun y => by show _ = _; rw [UInt8.toNat_ofNat']; omega
        have hbt : (s[k].toNat : Int) < 256 := by have := s[k].toNat_lt; omega
        have ew1 : IntKind.i64.wrap (s[k].toNat : Int) = (s[k].toNat : Int) := IntWalk.i64_in _ (by omega)
        go_wp2_with fail
        go_region_with (go_at_call 47; refine (below_any a len cap zs τ2 c w2.drew (H2.out.same rfl) 255 (by omega) (by omega)).mono ?_; rintro e w3 ⟨d, τ3, hf3, rfl, hc3, ho3⟩; obtain ⟨hd0, hd1⟩ := belowS_range (by omega) hf3; have ew2 : IntKind.i64.wrap (1 + d) = 1 + d := IntWalk.i64_in _ (by omega); have hone := one_string w3 _ _ (HX (bits BinOp.xor IntKind.i64 (s[k].toNat : Int) (1 + d))).out; have hone' := one_string w3 _ _ (HX' (bits BinOp.xor IntKind.i64 (s[k].toNat : Int) (1 + d))).out; have F3 := Lib.hid hf3; have H3 := Lib.hid hc3; have O3 := Lib.hid ho3; clear hf3 hc3 ho3)
        all_goals
          go_wp2_with fail
          go_ret
          refine ⟨_, τ3, ?_, rfl, (H3.out.alloc _).same rfl, (O2.out.drew.trans O3.out).alloc _⟩
          rw [HF.out, if_neg e0, if_neg e1, if_neg e2, F3.out, hat.out]
          rfl

theorem spoil_any (a : Option Addr) (len cap : Nat) (zs : List Int) (σ : Int × Int) (c : Nat) (w : World) (hc : Cur a len cap zs σ w c) (halt : ∀ x, a = some x → 0 < cap → x.block < w.heap.size) (s : ByteArray) (hs : s.size ≤ 100000) :
    Calls Tryz.prog 34 #[.pointer (some ⟨c, 0, none⟩), .string s] w (Strung (spoilS zs len s) a len cap zs σ c w) := by
  by_cases h0 : s.size = 0
  · exact spoil_empty a len cap zs σ c w hc halt s h0
  · exact spoil_more a len cap zs σ c w hc s (by omega) hs
end Go.Proofs.YtoiobaiiammehaaGreatDoor
/- l1Pick, by contract; what a spoiled text may be long. -/
namespace Go.Proofs.YtoiobaiiammehaaGreatDoor
open Go.RowKit

set_option maxRecDepth 100000 in
theorem picks_any (a : Option Addr) (len cap : Nat) (zs : List Int) (σ : Int × Int) (c : Nat) (w : World) (hc : Cur a len cap zs σ w c) (g n m : Nat) (L : List ByteArray) (hg : ∀ t (ht : t < L.length), w.cell? ⟨g, t, none⟩ = some (.string L[t])) (hgc : ¬ g = c) (hn : n = L.length) (h1 : 1 ≤ n) (h2 : n ≤ 1000000000) :
    Calls Tryz.prog 33 #[.pointer (some ⟨c, 0, none⟩), .slice (some ⟨g, 0, none⟩) n m] w fun e w' => ∃ s τ, s ∈ L ∧ e = .returned (.string s) ∧ Cur a len cap zs τ w' c ∧ Only c w w' := by
  have HC := Lib.hid hc
  have HG := Lib.hid hg
  have HN := Lib.hid hn
  clear hc hg hn
  go_enter Tryz.func33, Tryz.ntmps33
  go_wp2_with fail
  refine (below_any a len cap zs _ c _ HC.out (n : Int) (by omega) (by omega)).mono ?_
  rintro e w1 ⟨x, τ, hf1, rfl, hc1, ho1⟩
  obtain ⟨hx0, hx1⟩ := belowS_range (by omega) hf1
  clear hf1
  obtain ⟨t, rfl⟩ : ∃ t : Nat, x = (t : Int) := ⟨x.toNat, by omega⟩
  have htn : t < n := by omega
  have htl : t < L.length := by have := HN.out; omega
  have hcell := HG.out t htl
  have hlt : g < w.heap.size := World.block_lt_of_cell? w _ hcell
  have hcell1 : w1.cell? ⟨g, t, none⟩ = some (.string L[t]) := (World.cell?_of_block (ho1.block g hlt (fun e => hgc (by injection e)))).trans hcell
  clear hcell
  have hm := Lib.hid (List.getElem_mem htl)
  obtain ⟨s, hs⟩ : ∃ s, s = L[t] := ⟨_, rfl⟩
  rw [← hs] at hcell1 hm
  clear hs
  have H1 := Lib.hid hc1
  have O1 := Lib.hid ho1
  clear hc1 ho1
  go_wp2_with fail
  go_ret
  exact ⟨s, τ, hm.out, rfl, H1.out, O1.out⟩
theorem strs_alloc (w : World) (L : List ByteArray) (t : TypeId) : ∀ j (hj : j < L.length), (w.alloc (.cells (L.map Value.string).toArray t)).cell? ⟨w.heap.size, j, none⟩ = some (.string L[j]) := by
  intro j hj
  rw [World.cell?_alloc_mark]
  simp [hj]
theorem spoilS_size (zs : List Int) (len : Nat) (s : ByteArray) (σ : Int × Int) : (spoilS zs len s σ).1.size ≤ 2 * s.size + 3 := by
  unfold spoilS
  split
  · have := textS_length zs len 3 σ (by omega)
    show (textS zs len 3 σ).1.toArray.size ≤ _
    rw [List.size_toArray]; omega
  · simp only []
    have h1 : ∀ x : Int, (oneByte x).size = 1 := fun x => rfl
    split
    · simp only [ByteArray.size_append, ByteArray.size_extract]; omega
    · split
      · simp only [ByteArray.size_append, ByteArray.size_extract, h1]; omega
      · split
        · simp only [ByteArray.size_extract]; omega
        · simp only [ByteArray.size_append, ByteArray.size_extract, h1]; omega
end Go.Proofs.YtoiobaiiammehaaGreatDoor
/- An append of a slice that may be nil, as a step of a region that draws its order. -/
namespace Go.Proofs.YtoiobaiiammehaaGreatDoor
open Go.RowKit

theorem step_appendM {ops : Array Oper} {o : Oper} {a : Act} {K : Act → World → Prop} {Q : Exit → Act → World → Prop} {E : Prop} {w : World} {B B' : Nat} {M L : List R} {v y : Value} (s x : Operand)
    (hgd : o.guard = none) (ho : o.op = .call { callee := .builtin .append, args := #[s, x], argTypes := #[24, 24] })
    (hs : a.eval s = v) (hx : a.eval x = y) (hown : Mine w B v M) (hy : Mine w B' y L) (hB : B ≤ w.heap.size) (hlen : M.length + L.length ≤ 1000000000000)
    (h : ∀ v' w', Mine w' B v' (M ++ L) → w.grownBy w' v.ownBlock → K (a.put o.dst v') w') :
    if Region.wanted o (yielded ops a.tmps) = true then Oper.wp Tryz.prog o a w K Q else E := by
  by_cases hn : y = .slice none 0 0
  · subst hn
    have hl : L = [] := List.eq_nil_of_length_eq_zero hy.len
    subst hl
    obtain ⟨i0, hi, hz0, hz1, hz2⟩ := info_parts rowInfo
    have hw : Region.wanted o (yielded ops a.tmps) = true := by simp [Region.wanted, hgd]
    rw [if_pos hw]
    have hrun := run_append_owned_none (P := Tryz.prog) (w := w) B 24 o.type 34 i0 3 Tryz.underlying24 hi v M.length (cells3 M) hown
    unfold Oper.wp
    simp [execOp, ho, resolve, invoke, builtin, hs, hx, hrun, Result.andThen]
    exact h v w (by rw [List.append_nil]; exact hown) (World.grownBy.refl _ _)
  · obtain ⟨g, c, rfl, -, -⟩ := hy.addr hn
    exact step_appendR s x ⟨g, 0, none⟩ L.length c hgd ho hs hx hown rfl hy.cells hB hlen fun v' w' h1 h2 _ => h v' w' h1 h2
end Go.Proofs.YtoiobaiiammehaaGreatDoor
/- l4Draw, DrawPackPages, DrawFormatPages, DrawParsePages: what they give: rows, pages, a string. -/
namespace Go.Proofs.YtoiobaiiammehaaGreatDoor
open Go.RowKit

theorem cells_heads (es : List (El pageRep)) : cellsOf es = es.map El.v := by
  unfold cellsOf
  induction es with
  | nil => rfl
  | cons e es ih => rw [List.flatMap_cons, ih]; rfl
theorem heads_put {w : World} {B g n m : Nat} {cs : List Value} (h : Heads w B (.slice (some ⟨g, 0, none⟩) n m) cs) (t : Nat) (_ : t < cs.length) (u : Value) :
    Heads (w.setCell ⟨g, t, none⟩ u) B (.slice (some ⟨g, 0, none⟩) n m) (cs.set t u) := by
  obtain ⟨h1, ⟨h0, -⟩ | ⟨g', cap, cur, hv, hB, hh, hcap, hmax, hsz, htake⟩⟩ := h
  · injection h0 with e1; cases e1
  · injection hv with e1 e2 e3
    injection e1 with e1
    injection e1 with e1 _ _
    subst e1 e3
    refine ⟨by rw [List.length_set]; exact h1, .inr ⟨g, m, _, by rw [List.length_set, e2], hB, Joins.block_setCell hh u, by rw [List.length_set]; exact hcap, hmax, by simpa using hsz, ?_⟩⟩
    rw [List.length_set, Array.toList_setIfInBounds, List.take_set, htake]
/-- The pages, once what lies behind each head is known. -/
theorem pages_in {w : World} {B g n m : Nat} {es : List (El pageRep)} (hh : Heads w B (.slice (some ⟨g, 0, none⟩) n m) (cellsOf es)) (hin : InAll pageRep w es) (hm : es.length ≤ maxLen) : SeqIn pageRep w (some ⟨g, 0, none⟩) n (es.map El.x) := by
  obtain ⟨hn, hgl, -, hc⟩ := Heads.cells hh
  have hcl : (cellsOf es).length = es.length := by rw [cellsOf_length]; exact Nat.mul_one _
  have := InAll.done hin hgl (o := 0) (fun j u hj => by rw [Nat.zero_add]; exact hc j u hj) hm
  rw [hn, hcl]; exact this
theorem mine_inn {w : World} {B : Nat} {v : Value} {L : List R} (h : Mine w B v L) (hwf : ∀ r ∈ L, r.wf) (hm : L.length ≤ maxLen) : ∃ hd : Option Addr × Nat × Nat, v = .slice hd.1 hd.2.1 hd.2.2 ∧ pageRep.inn w L hd := by
  obtain ⟨a, c, rfl⟩ := h.slice
  refine ⟨(a, L.length, c), rfl, in_rows (h.rows hwf) hm, fun e => ?_⟩
  simp only at e
  subst e
  by_cases hz : Value.slice none L.length c = .slice none 0 0
  · injection hz with _ _ e3
  · obtain ⟨g, c', e, -, -⟩ := h.addr hz
    injection e with e1
    cases e1
theorem mine_heads {w : World} {B B' g n m : Nat} {v : Value} {L : List R} {cs : List Value} (h : Mine w B v L) (hh : Heads w B' (.slice (some ⟨g, 0, none⟩) n m) cs) : v.ownBlock ≠ some g := by
  intro e
  obtain ⟨h1, ⟨rfl, h0⟩ | ⟨g', cap, cur, rfl, hB, hg, -⟩⟩ := h
  · simp [Value.ownBlock] at e
  · simp only [Value.ownBlock] at e
    injection e with e
    subst e
    obtain ⟨-, ⟨h0, -⟩ | ⟨g2, cap2, cur2, hv, -, hg2, -⟩⟩ := hh
    · injection h0 with e1; cases e1
    · injection hv with e1 e2 e3
      injection e1 with e1
      injection e1 with e1 _ _
      subst e1
      rw [hg] at hg2
      simp at hg2
/-- Pages that hold rows lie in blocks of their own. -/
theorem dist_of {w : World} {B : Nat} {es : List (El pageRep)} (hall : OwnAll pageRep w B es) (hwh : ∀ e ∈ es, Mine w B e.v e.x) (hne : ∀ e ∈ es, e.x ≠ []) {i j : Nat} {e f : El pageRep} (hi : es[i]? = some e) (hj : es[j]? = some f) (hij : i ≠ j) :
    ∀ y ∈ f.F, e.v.ownBlock ≠ some y.b := by
  have hme := List.mem_of_getElem? hi
  have hmf := List.mem_of_getElem? hj
  have key : ∀ x : El pageRep, x ∈ es → ∃ g, x.v.ownBlock = some g ∧ ∃ hi, 0 < hi ∧ x.F = [⟨g, 0, hi⟩] := by
    intro x hx
    have hpos : 0 < x.x.length := List.length_pos_iff.2 (hne x hx)
    obtain ⟨⟨h1, h2, h3⟩, -⟩ := hall.1 x hx
    obtain ⟨g, c', e1, -, -⟩ := (hwh x hx).addr (by
      intro e
      obtain ⟨a', c', e2⟩ := (hwh x hx).slice
      rw [e2] at e
      injection e with _ e3 _
      omega)
    have e2 : x.h.1 = some ⟨g, 0, none⟩ := by
      unfold El.v at e1
      injection e1
    rcases h3 with ⟨h0, -⟩ | ⟨b, o, hs, Fs, ea, -, -, hF, -, -, hx2⟩
    · omega
    · rw [e2] at ea
      injection ea with ea
      injection ea with ea1 ea2 _
      subst ea1 ea2
      refine ⟨g, by rw [e1]; rfl, 0 + x.h.2.1 * rowRep.size, ?_, ?_⟩
      · show 0 < 0 + x.h.2.1 * 3
        omega
      · rw [hF]
        have hnil : (List.range x.h.2.1).flatMap Fs = [] := by
          rw [List.flatMap_eq_nil_iff]
          intro t ht
          have htl : t < x.x.length := by rw [h1]; exact List.mem_range.1 ht
          exact (hx2 t x.x[t] (by simp [htl])).2.2
        rw [hnil]
  obtain ⟨ge, e1, he, hep, e2⟩ := key e hme
  obtain ⟨gf, f1, hf, hfp, f2⟩ := key f hmf
  intro y hy
  rw [f2] at hy
  rw [List.mem_singleton.1 hy, e1]
  intro e3
  injection e3 with e3
  have hap : ∀ x ∈ e.F, ∀ y ∈ f.F, Reg.apart x y := by
    have hil := idx_lt hi
    have hjl := idx_lt hj
    have hie : es[i] = e := by simpa [hil] using hi
    have hje : es[j] = f := by simpa [hjl] using hj
    rcases Nat.lt_or_ge i j with h | h
    · have := List.pairwise_iff_getElem.1 hall.2 i j hil hjl h
      rw [hie, hje] at this
      exact this
    · have := List.pairwise_iff_getElem.1 hall.2 j i hjl hil (by omega)
      rw [hie, hje] at this
      exact fun x hx y hy => Reg.apart_symm (this y hy x hx)
  have := hap ⟨ge, 0, he⟩ (by rw [e2]; exact List.mem_singleton.2 rfl) ⟨gf, 0, hf⟩ (by rw [f2]; exact List.mem_singleton.2 rfl)
  rcases this with h | h | h
  · exact h e3
  · simp only at h; omega
  · simp only at h; omega
theorem flat_bound {Q : List (List R)} {b : Nat} (h : ∀ p ∈ Q, p.length ≤ b) : Q.flatten.length ≤ b * Q.length := by
  induction Q with
  | nil => simp
  | cons p Q ih =>
    have h1 := h p (List.mem_cons_self ..)
    have h2 := ih fun q hq => h q (List.mem_cons_of_mem _ hq)
    rw [List.flatten_cons, List.length_append, List.length_cons, Nat.mul_add]
    omega
theorem pack_flat_le (L : List R) : (R.pack L).flatten.length ≤ L.length := by
  cases hok : okRows L with
  | true => rw [R.pack_flat hok]; exact Nat.le_refl _
  | false => rw [R.pack_bad hok]; exact Nat.zero_le _
/-- Packed pages, whole in memory of the call's own. -/
structure Packed (B g n m : Nat) (es : List (El pageRep)) (w : World) : Prop where
  heads : Heads w B (.slice (some ⟨g, 0, none⟩) n m) (cellsOf es)
  all : OwnAll pageRep w B es
  whole : ∀ e ∈ es, Mine w B e.v e.x
  away : ∀ e ∈ es, ∀ y ∈ e.F, y.b ≠ g
  full : ∀ e ∈ es, e.x ≠ []
  len : n = es.length
  few : es.length ≤ 9
theorem Packed.low {B g n m : Nat} {es : List (El pageRep)} {w : World} (h : Packed B g n m es w) : B ≤ g ∧ g < w.heap.size := h.heads.own g rfl
theorem Packed.only {B g n m c : Nat} {es : List (El pageRep)} {w w' : World} (h : Packed B g n m es w) (ho : Only c w w') (hc : c < B) : Packed B g n m es w' := {
  heads := h.heads.far fun k hk hlt => ho.block k hlt (fun e => by injection e with e; have := (h.heads.own k hk).1; omega)
  all := h.all.stay fun e he => Stay.of_grown ho (fun y hy => (pageRep.own_lt (h.all.1 e he) y hy).2) (fun y hy e => by injection e with e; have := (pageRep.own_lt (h.all.1 _ he) y hy).1; omega)
  whole := fun e he => own_onlyR (h.whole e he) ho hc
  away := h.away
  full := h.full
  len := h.len
  few := h.few }
theorem Packed.seq {B g n m : Nat} {es : List (El pageRep)} {w : World} (h : Packed B g n m es w) : SeqIn pageRep w (some ⟨g, 0, none⟩) n (es.map El.x) := pages_in h.heads h.all.inn (by have := h.few; unfold maxLen; omega)
theorem Packed.head {B g n m : Nat} {es : List (El pageRep)} {w : World} (h : Packed B g n m es w) {k : Nat} {e : El pageRep} (hk : es[k]? = some e) : w.cell? ⟨g, k, none⟩ = some e.v ∧ w.frozen? ⟨g, k, none⟩ = false := by
  obtain ⟨-, -, hf, hc⟩ := Heads.cells h.heads
  exact ⟨hc k e.v (by rw [cells_heads, List.getElem?_map, hk]; rfl), hf k⟩
/-- One page put in another's place. -/
theorem Packed.put {B g n m k : Nat} {es : List (El pageRep)} {w w' : World} (h : Packed B g n m es w) (_ : k < es.length) {u : Value} {p : List R} (hh : Heads w' B (.slice (some ⟨g, 0, none⟩) n m) ((cellsOf es).set k u))
    (hu : ∃ hd : Option Addr × Nat × Nat, u = .slice hd.1 hd.2.1 hd.2.2 ∧ pageRep.inn w' p hd) (hs : ∀ j e, es[j]? = some e → j ≠ k → Stay e.F w w') : SeqIn pageRep w' (some ⟨g, 0, none⟩) n ((es.map El.x).set k p) := by
  obtain ⟨hd, rfl, hin⟩ := hu
  have e1 : cellsOf (es.set k (⟨p, hd, []⟩ : El pageRep)) = (cellsOf es).set k (.slice hd.1 hd.2.1 hd.2.2) := by
    rw [cells_heads, cells_heads, List.map_set]; rfl
  have e2 : (es.set k (⟨p, hd, []⟩ : El pageRep)).map El.x = (es.map El.x).set k p := by rw [List.map_set]
  rw [← e2]
  refine pages_in (by rw [e1]; exact hh) (fun e he => ?_) (by rw [List.length_set]; have := h.few; unfold maxLen; omega)
  obtain ⟨j, hj, rfl⟩ := List.getElem_of_mem he
  rw [List.length_set] at hj
  by_cases hjk : k = j
  · subst hjk
    rw [List.getElem_set_self]
    exact hin
  · rw [List.getElem_set_ne hjk]
    exact pageRep.own_inn (pageRep.own_stay (h.all.1 _ (List.getElem_mem hj)) (hs j _ (by simp [hj]) (fun e => hjk e.symm)))
/-- A page emptied. -/
theorem Packed.empty {B g n m k : Nat} {es : List (El pageRep)} {w : World} (h : Packed B g n m es w) (hk : k < es.length) : SeqIn pageRep (w.setCell ⟨g, k, none⟩ (.slice none 0 0)) (some ⟨g, 0, none⟩) n ((es.map El.x).set k []) := by
  refine h.put hk (heads_put h.heads k (by rw [cells_heads, List.length_map]; exact hk) _) ⟨(none, 0, 0), rfl, ⟨rfl, Nat.zero_le _, .inl rfl⟩, fun _ => rfl⟩ (fun j e hj _ => ?_)
  exact (Stay.refl e.F w).set _ fun y hy => h.away e (List.mem_of_getElem? hj) y hy
/-- A page with rows appended. -/
theorem Packed.longer {B g n m k : Nat} {es : List (El pageRep)} {e0 : El pageRep} {w w' : World} {v : Value} {M : List R} (h : Packed B g n m es w) (hk : es[k]? = some e0) (hm : Mine w' B v (e0.x ++ M)) (hg : w.grownBy w' e0.v.ownBlock) (hwf : ∀ r ∈ e0.x ++ M, r.wf) (hl : (e0.x ++ M).length ≤ maxLen) :
    SeqIn pageRep (w'.setCell ⟨g, k, none⟩ v) (some ⟨g, 0, none⟩) n ((es.map El.x).set k (e0.x ++ M)) := by
  have hkl := idx_lt hk
  have hme := List.mem_of_getElem? hk
  have hg0 : e0.v.ownBlock ≠ some g := mine_heads (h.whole e0 hme) h.heads
  have hh' : Heads w' B (.slice (some ⟨g, 0, none⟩) n m) (cellsOf es) := h.heads.far fun j hj hlt => hg.block j hlt (fun e => by
    simp only [Value.ownBlock] at hj
    injection hj with hj
    exact hg0 (by rw [← e, hj]))
  have hvg : v.ownBlock ≠ some g := mine_heads hm hh'
  have hset : Mine (w'.setCell ⟨g, k, none⟩ v) B v (e0.x ++ M) := World.ownsRow.kept hm (row := some g) ((Only.refl g w').setCell k v) (.inr hvg)
  refine h.put hkl (heads_put hh' k (by rw [cells_heads, List.length_map]; exact hkl) v) (mine_inn hset hwf hl) (fun j e hj hjk => ?_)
  refine (Stay.of_grown hg (fun y hy => (pageRep.own_lt (h.all.1 e (List.mem_of_getElem? hj)) y hy).2) (fun y hy => ?_)).set _ fun y hy => h.away e (List.mem_of_getElem? hj) y hy
  exact dist_of h.all h.whole h.full hk hj (fun e => hjk e.symm) y hy

set_option maxRecDepth 100000 in
set_option maxHeartbeats 2000000 in
theorem l4draw (a : Option Addr) (len cap : Nat) (zs : List Int) (σ : Int × Int) (c : Nat) (w : World) (hc : Cur a len cap zs σ w c) (halt : ∀ x, a = some x → 0 < cap → x.block < w.heap.size) :
    Calls Tryz.prog 31 #[.pointer (some ⟨c, 0, none⟩)] w fun e w' => ∃ (x : Option Addr) (n m : Nat) (Q : List (List R)) (τ : Int × Int), e = .returned (.slice x n m) ∧ SeqIn pageRep w' x n Q ∧ n ≤ 9 ∧ Q.flatten.length ≤ 1000 ∧ Cur a len cap zs τ w' c ∧ Only c w w' := by
  have HC := Lib.hid hc
  have HA := Lib.hid halt
  have hcl := hc.lt
  clear hc halt
  go_enter Tryz.func31, Tryz.ntmps31
  go_wp2_with fail
  refine (rows_any a len cap zs _ c _ HC.out HA.out 9 (by omega) (by omega)).mono ?_
  rintro e w1 ⟨v, L, τ1, hf1, rfl, hw1, hc1, ho1⟩
  have hL : L.length ≤ 9 := by have := rowsS_length zs len 9 σ (by omega); rw [hf1] at this; simp only at this; omega
  have hwf : ∀ r ∈ L, r.wf := by have := rowsS_wf zs len 9 σ; rw [hf1] at this; exact this
  obtain ⟨av, cv, rfl, hr⟩ := rows_of_own hw1 hwf
  have HR := Lib.hid hr
  have H1 := Lib.hid hc1
  have O1 := Lib.hid ho1
  have hcl1 : c < w1.heap.size := Nat.lt_of_lt_of_le hcl ho1.size
  have A1 := Lib.hid fun y hy hp => Nat.lt_of_lt_of_le (HA.out y hy hp) ho1.size
  clear hf1 hw1 hc1 ho1 hr hwf
  go_wp2_with fail
  refine (spackW av L.length cv L _ HR.out (by omega)).mono ?_
  rintro e w2 ⟨x, k, m, es, rfl, hk, hh, hall, hli, hne, hwh, b2⟩
  have H2 := Lib.hid (H1.out.below b2 hcl1 A1.out)
  have O2 := Lib.hid (O1.out.step (b2.mono O1.out.size))
  have A2 := Lib.hid fun y hy hp => Nat.lt_of_lt_of_le (A1.out y hy hp) b2.size
  have hk9 : es.length ≤ 9 := by
    have h1 := congrArg List.length hli
    have h2 := R.pack_length (L := L)
    rw [List.length_map] at h1
    omega
  have hfl := pack_flat_le L
  have HFL := Lib.hid (show (es.map El.x).flatten.length ≤ 9 by rw [hli]; omega)
  have HPG := Lib.hid (show ∀ p ∈ es.map El.x, p ≠ [] from fun p hp => by rw [hli] at hp; exact (R.pack_ok p hp).2)
  subst hk
  clear hli b2 hfl
  rcases Nat.eq_zero_or_pos es.length with h0 | h0
  · have hes : es = [] := List.eq_nil_of_length_eq_zero h0
    subst hes
    clear hh hall hne hwh HFL HPG
    go_wp2_with fail
    go_ret
    exact ⟨x, 0, m, [], τ1, rfl, ⟨rfl, Nat.zero_le _, .inl rfl⟩, by omega, by simp, H2.out, O2.out⟩
  · obtain ⟨g, rfl⟩ : ∃ g, x = some ⟨g, 0, none⟩ := by
      rcases hh.2 with ⟨e, hz⟩ | ⟨g, cap, cur, e, -⟩
      · have : (cellsOf es).length = es.length := by rw [cellsOf_length]; exact Nat.mul_one _
        omega
      · injection e with e1 _ _
        exact ⟨g, e1⟩
    obtain ⟨n, hn⟩ : ∃ n, n = es.length := ⟨_, rfl⟩
    have P2 : Hid (Packed w1.heap.size g n m es w2) := {
      heads := by rw [hn]; exact hh
      all := hall
      whole := fun e he => (hwh e he).1
      away := fun e he y hy e2 => hne e he y hy (by rw [← e2]; rfl)
      full := fun e he => HPG.out e.x (List.mem_map_of_mem he)
      len := hn
      few := hk9 }
    rw [← hn]
    have HN := Lib.hid hn
    have hn0 : (0 : Int) < (n : Int) := by omega
    have hn9 : n ≤ 9 := by omega
    clear hh hall hne hwh hn HPG h0 hk9
    go_wp2_with fail
    refine (once_any a len cap zs _ c _ H2.out 8 (by omega) (by omega)).mono ?_
    rintro e w3 ⟨q, τ3, -, rfl, hc3, ho3⟩
    have H3 := Lib.hid hc3
    have O3 := Lib.hid (O2.out.trans ho3)
    have P3 := Lib.hid (P2.out.only ho3 hcl1)
    clear hc3 ho3
    by_cases hq : q = 0
    · subst hq
      go_wp2_with fail
      refine (below_any a len cap zs _ c _ H3.out (n : Int) (by omega) (by omega)).mono ?_
      rintro e w4 ⟨t, τ4, hf4, rfl, hc4, ho4⟩
      obtain ⟨ht0, ht1⟩ := belowS_range (by omega) hf4
      have H4 := Lib.hid hc4
      have O4 := Lib.hid (O3.out.trans ho4)
      have P4 := Lib.hid (P3.out.only ho4 hcl1)
      clear hf4 hc4 ho4
      obtain ⟨k, rfl⟩ : ∃ k : Nat, t = (k : Int) := ⟨t.toNat, by omega⟩
      go_wp2_with fail
      refine (once_any a len cap zs _ c _ H4.out 2 (by omega) (by omega)).mono ?_
      rintro e w5 ⟨q5, τ5, -, rfl, hc5, ho5⟩
      have H5 := Lib.hid hc5
      have O5 := Lib.hid (O4.out.trans ho5)
      have P5 := Lib.hid (P4.out.only ho5 hcl1)
      clear hc5 ho5
      have hkn : k < es.length := by have := HN.out; omega
      obtain ⟨e0, he0⟩ : ∃ e0, es[k]? = some e0 := ⟨es[k], by simp [hkn]⟩
      obtain ⟨c5, f5⟩ := P5.out.head he0
      obtain ⟨V, hV⟩ : ∃ V, V = e0.v := ⟨_, rfl⟩
      rw [← hV] at c5
      have HE := Lib.hid he0
      have HV := Lib.hid hV
      have HKN := Lib.hid hkn
      clear he0 hV hkn
      by_cases hq5 : q5 = 0
      · subst hq5
        have HFIN := Lib.hid (P5.out.empty HKN.out)
        have HQ := Lib.hid (show ((es.map El.x).set k []).flatten.length ≤ 1000 from by
          have h1 := flat_bound (Q := (es.map El.x).set k []) (b := 9) (fun p hp => by
            rcases List.mem_or_eq_of_mem_set hp with h | h
            · exact Nat.le_trans (R.sub_length h) HFL.out
            · rw [h]; exact Nat.zero_le _)
          rw [List.length_set, List.length_map, ← HN.out] at h1
          omega)
        obtain ⟨hB5, hg5⟩ := P5.out.low
        have bs : ∀ B, B ≤ w1.heap.size → Below B w5 (w5.setCell ⟨g, k, none⟩ (.slice none 0 0)) := fun B hB => (Below.refl B w5).setCell (p := ⟨g, k, none⟩) (Nat.le_trans hB hB5) _
        have HCU := Lib.hid (H5.out.below (bs _ (Nat.le_refl _)) hcl1 A1.out)
        have HON := Lib.hid (O5.out.step (bs _ O1.out.size))
        clear bs
        go_wp2_with fail
        go_ret
        exact ⟨_, n, m, _, τ5, rfl, HFIN.out, hn9, HQ.out, HCU.out, HON.out⟩
      · have hqb : (q5 == 0) = false := by simpa using hq5
        clear hq5
        have A5 : ∀ x, a = some x → 0 < cap → x.block < w5.drew.heap.size := fun y hy hp => Nat.lt_of_lt_of_le (HA.out y hy hp) O5.out.size
        have hme := List.mem_of_getElem? HE.out
        have hBV : ∀ k, V.ownBlock = some k → w1.heap.size ≤ k := fun j hj => by rw [HV.out] at hj; exact (P5.out.whole e0 hme).own' j hj
        have HBV := Lib.hid hBV
        have hgV : V.ownBlock ≠ some g := by rw [HV.out]; exact mine_heads (P5.out.whole e0 hme) P5.out.heads
        have HGV := Lib.hid hgV
        obtain ⟨hBg, hg5⟩ := P5.out.low
        have HW0 := Lib.hid (show ∀ r ∈ e0.x, r.wf from fun r hr => by
          have := (rows_in (pageRep.own_inn (P5.out.all.1 e0 hme)).1).2.1
          exact this r hr)
        have h0l : e0.x.length ≤ 9 := Nat.le_trans (R.sub_length (List.mem_map_of_mem hme)) HFL.out
        have h15 : w1.heap.size ≤ w5.heap.size := Nat.le_trans hBg (Nat.le_of_lt hg5)
        have H15 := Lib.hid h15
        have CR := Lib.hid (show Calls Tryz.prog 43 #[.pointer (some ⟨c, 0, none⟩), .int .i64 4] w5.drew (fun e w6 => ∃ (y : Value) (M : List R) (τ : Int × Int), e = .returned y ∧ Hid (M.length ≤ 4) ∧ Hid (∀ r ∈ M, r.wf) ∧ Hid (Mine w6 w5.heap.size y M) ∧ Hid (Mine w6 w1.heap.size V e0.x) ∧ Hid (Packed w1.heap.size g n m es w6) ∧ Hid (Cur a len cap zs τ w6 c) ∧ Hid (Only c w5 w6) ∧ w1.heap.size ≤ w6.heap.size ∧ w6.cell? ⟨g, k, none⟩ = some V) from by
          refine (rows_any a len cap zs τ5 c w5.drew (H5.out.same rfl) A5 4 (by omega) (by omega)).mono ?_
          rintro e w6 ⟨y, M, τ, hf, rfl, hw6, hc6, ho6'⟩
          have ho6 : Only c w5 w6 := (Only.refl c w5).drew.trans ho6'
          have hM := rowsS_length zs len 4 τ5 (by omega)
          have hMw := rowsS_wf zs len 4 τ5
          rw [hf] at hM hMw
          simp only at hM hMw
          have P6 := P5.out.only (w' := w6) ho6 hcl1
          exact ⟨y, M, τ, rfl, (by show _ ≤ _; omega), hMw, hw6, (by rw [HV.out]; exact P6.whole e0 hme), P6, hc6, ho6, Nat.le_trans H15.out ho6.size, by rw [HV.out]; exact (P6.head HE.out).1⟩)
        have FIN := Lib.hid fun (w6 w7 : World) (M : List R) (τ : Int × Int) (v' : Value) (hM : M.length ≤ 4) (hMw : ∀ r ∈ M, r.wf) (P6 : Packed w1.heap.size g n m es w6) (hc6 : Cur a len cap zs τ w6 c) (ho6 : Only c w5 w6) (hm7 : Mine w7 w1.heap.size v' (e0.x ++ M)) (hg7 : w6.grownBy w7 V.ownBlock) =>
          (show ∃ Q, SeqIn pageRep (w7.setCell ⟨g, k, none⟩ v') (some ⟨g, 0, none⟩) n Q ∧ Q.flatten.length ≤ 1000 ∧ Cur a len cap zs τ (w7.setCell ⟨g, k, none⟩ v') c ∧ Only c w (w7.setCell ⟨g, k, none⟩ v') from by
            have hlm : (e0.x ++ M).length ≤ 13 := by rw [List.length_append]; omega
            have hs6 := ho6.size
            have hb : ∀ B, B ≤ w1.heap.size → Below B w6 (w7.setCell ⟨g, k, none⟩ v') := fun B hB => ((Below.refl B w6).grown hg7 (by have := H15.out; omega) (fun j hj => Nat.le_trans hB (HBV.out j hj))).setCell (p := ⟨g, k, none⟩) (Nat.le_trans hB hBg) _
            refine ⟨_, P6.longer HE.out hm7 (by rw [← HV.out]; exact hg7) (fun r hr => (List.mem_append.1 hr).elim (HW0.out r) (hMw r)) (by unfold maxLen; omega), ?_, hc6.below (hb _ (Nat.le_refl _)) hcl1 A1.out, (O5.out.trans ho6).step (hb _ O1.out.size)⟩
            have h1 := flat_bound (Q := (es.map El.x).set k (e0.x ++ M)) (b := 13) (fun p hp => by
              rcases List.mem_or_eq_of_mem_set hp with h | h
              · have := Nat.le_trans (R.sub_length h) HFL.out; omega
              · rw [h]; exact hlm)
            rw [List.length_set, List.length_map, ← HN.out] at h1
            omega)
        have d5 : w5.drew.cell? ⟨g, k, none⟩ = some V := c5
        have hki0 : (0 : Int) ≤ (k : Int) := by omega
        have hki1 : (k : Int) < (n : Int) := by omega
        have ST := Lib.hid fun (w6 w7 : World) (P6 : Packed w1.heap.size g n m es w6) (hc6 : w6.cell? ⟨g, k, none⟩ = some V) (hg7 : w6.grownBy w7 V.ownBlock) => (show w7.cell? ⟨g, k, none⟩ = some V ∧ w7.frozen? ⟨g, k, none⟩ = false from by
          have h1 := hg7.block g P6.low.2 (fun e => HGV.out e.symm)
          exact ⟨(World.cell?_of_block h1).trans hc6, (World.frozen?_of_block h1).trans (P6.head HE.out).2⟩)
        have H0L := Lib.hid h0l
        clear hme hBV hgV h0l A5 h15 hg5 hBg c5 f5
        go_wp2_with fail
        go_region_law (first
          | (refine step_appendM (.tmp 31) (.tmp 33) rfl rfl rfl rfl hmv.out hmy.out hB6 (by have := hM4.out; have := H0L.out; omega) ?_; intro v7 w7 hm7 hg7; obtain ⟨a7, c7, rfl⟩ := hm7.slice; obtain ⟨s0, s1⟩ := ST.out _ _ hp6.out hc6 hg7)
          | (go_simp; go_at_call 43; refine CR.out.mono ?_; rintro e w6 ⟨y, M, τ, rfl, hM4, hMw, hmy, hmv, hp6, hcu, hon, hB6, hc6⟩))
        all_goals
          obtain ⟨Q, hs6, hq6, hc6', ho6'⟩ := FIN.out _ _ M τ _ hM4.out hMw.out hp6.out hcu.out hon.out hm7 hg7
          rw [List.length_append] at hs6 hc6' ho6'
          have X1 := Lib.hid hs6
          have X2 := Lib.hid hq6
          have X3 := Lib.hid hc6'
          have X4 := Lib.hid ho6'
          clear hs6 hq6 hc6' ho6' hm7 hg7 s0 s1 hc6 d5
          go_wp2_with fail
          go_ret
          exact ⟨_, n, m, Q, τ, rfl, X1.out, hn9, X2.out, X3.out, X4.out⟩
    · have hqb : (q == 0) = false := by simpa using hq
      go_wp2_with fail
      go_ret
      exact ⟨_, n, m, es.map El.x, τ3, rfl, P3.out.seq, hn9, Nat.le_trans HFL.out (by omega), H3.out, O3.out⟩
set_option maxRecDepth 100000 in
theorem draw_pack (a : Option Addr) (len cap : Nat) (zs : List Int) (w : World) (h : Code a len cap zs w) :
    Calls Tryz.prog 5 #[.slice a len cap] w fun e w' => ∃ (x : Option Addr) (n m : Nat) (L : List R), e = .returned (.slice x n m) ∧ n ≤ 15 ∧ IsRows w' x n L ∧ Below w.heap.size w w' := by
  have HC := Lib.hid h
  clear h
  go_enter Tryz.func5, Tryz.ntmps5
  go_wp2_with fail
  refine (new_any a len cap zs _ HC.out.row HC.out.small HC.out.old).mono ?_
  rintro e w1 ⟨c, rfl, hc1, hge, b1⟩
  have H1 := Lib.hid hc1
  have B1 := Lib.hid b1
  have A1 := Lib.hid fun y hy hp => Nat.lt_of_lt_of_le (HC.out.old y hy hp) b1.size
  clear hc1 b1
  go_wp2_with fail
  refine (bent_any a len cap zs _ c _ H1.out A1.out 14 (by omega) (by omega)).mono ?_
  rintro e w2 ⟨v, L, τ, hf, rfl, hw2, hc2, ho2⟩
  have hl : L.length ≤ 15 := by have := bentS_length zs len 14 (0, newH zs len) (by omega); rw [hf] at this; simp only at this; omega
  have hwf : ∀ r ∈ L, r.wf := by have := bentS_wf zs len 14 (0, newH zs len); rw [hf] at this; exact this
  obtain ⟨x, m, rfl, hr⟩ := rows_of_own hw2 hwf
  have HR := Lib.hid hr
  have B2 := Lib.hid (B1.out.trans (ho2.below B1.out.size hge))
  clear hf hc2 ho2 hw2 hr hwf
  go_wp2_with fail
  go_ret
  exact ⟨x, L.length, m, L, rfl, hl, HR.out, B2.out⟩
set_option maxRecDepth 100000 in
theorem draw_fpages (a : Option Addr) (len cap : Nat) (zs : List Int) (w : World) (h : Code a len cap zs w) :
    Calls Tryz.prog 12 #[.slice a len cap] w fun e w' => ∃ (x : Option Addr) (n m : Nat) (Q : List (List R)), e = .returned (.slice x n m) ∧ SeqIn pageRep w' x n Q ∧ n ≤ 9 ∧ Q.flatten.length ≤ 1000 ∧ Below w.heap.size w w' := by
  have HC := Lib.hid h
  clear h
  go_enter Tryz.func12, Tryz.ntmps12
  go_wp2_with fail
  refine (new_any a len cap zs _ HC.out.row HC.out.small HC.out.old).mono ?_
  rintro e w1 ⟨c, rfl, hc1, hge, b1⟩
  have H1 := Lib.hid hc1
  have B1 := Lib.hid b1
  have A1 := Lib.hid fun y hy hp => Nat.lt_of_lt_of_le (HC.out.old y hy hp) b1.size
  clear hc1 b1
  go_wp2_with fail
  refine (l4draw a len cap zs _ c _ H1.out A1.out).mono ?_
  rintro e w2 ⟨x, n, m, Q, τ, rfl, hs, hn, hq, -, ho2⟩
  have X1 := Lib.hid hs
  have X2 := Lib.hid hq
  have B2 := Lib.hid (B1.out.trans (ho2.below B1.out.size hge))
  clear hs hq ho2
  go_wp2_with fail
  go_ret
  exact ⟨x, n, m, Q, rfl, X1.out, hn, X2.out, B2.out⟩
def pageTexts (s : ByteArray) : List ByteArray := [⟨#[]⟩, ⟨#[91, 93]⟩, ⟨#[91, 49, 46, 49, 46, 49]⟩, ⟨#[49, 46, 49, 46, 49, 93]⟩, ⟨#[91, 49, 46, 49, 46, 49, 93, 32]⟩, ⟨#[91, 49, 46, 49, 46, 49, 93, 91, 93]⟩, s]
theorem pageTexts_size {s : ByteArray} {b : Nat} (hb : 9 ≤ b) (hs : s.size ≤ b) : ∀ t ∈ pageTexts s, t.size ≤ b := by
  intro t ht
  unfold pageTexts at ht
  simp only [List.mem_cons, List.not_mem_nil, or_false] at ht
  rcases ht with rfl | rfl | rfl | rfl | rfl | rfl | rfl
  · exact Nat.zero_le _
  · exact Nat.le_trans (show 2 ≤ 9 by omega) hb
  · exact Nat.le_trans (show 6 ≤ 9 by omega) hb
  · exact Nat.le_trans (show 6 ≤ 9 by omega) hb
  · exact Nat.le_trans (show 8 ≤ 9 by omega) hb
  · exact Nat.le_trans (show 9 ≤ 9 by omega) hb
  · exact hs
set_option maxRecDepth 100000 in
theorem draw_ppages (a : Option Addr) (len cap : Nat) (zs : List Int) (w : World) (h : Code a len cap zs w) :
    Calls Tryz.prog 13 #[.slice a len cap] w fun e w' => ∃ s : ByteArray, e = .returned (.string s) ∧ s.size ≤ 10000 ∧ Below w.heap.size w w' := by
  have HC := Lib.hid h
  clear h
  go_enter Tryz.func13, Tryz.ntmps13
  go_wp2_with fail
  refine (new_any a len cap zs _ HC.out.row HC.out.small HC.out.old).mono ?_
  rintro e w1 ⟨c, rfl, hc1, hge, b1⟩
  have H1 := Lib.hid hc1
  have B1 := Lib.hid b1
  have hcl := hc1.lt
  have A1 := Lib.hid fun y hy hp => Nat.lt_of_lt_of_le (HC.out.old y hy hp) b1.size
  clear hc1 b1
  go_wp2_with fail
  refine (l4draw a len cap zs _ c _ H1.out A1.out).mono ?_
  rintro e w2 ⟨x, n, m, Q, τ, rfl, hs, hn, hq, hc2, ho2⟩
  have X1 := Lib.hid hs
  have H2 := Lib.hid hc2
  have hcl2 : c < w2.heap.size := Nat.lt_of_lt_of_le hcl ho2.size
  have A2 := Lib.hid fun y hy hp => Nat.lt_of_lt_of_le (A1.out y hy hp) ho2.size
  have B2 := Lib.hid (B1.out.trans (ho2.below B1.out.size hge))
  have HQL := Lib.hid (show (R.fmtPages Q).length ≤ 218 * 9 from Nat.le_trans (R.fmtPages_length Q) (Nat.mul_le_mul_left _ (by rw [hs.1]; exact hn)))
  clear hs hc2 ho2
  go_wp2_with fail
  refine (sfpages x n m Q _ X1.out (by omega) (by omega)).mono ?_
  rintro e w3 ⟨rfl, b3⟩
  have H3 := Lib.hid (H2.out.below b3 hcl2 A2.out)
  have B3 := Lib.hid (B2.out.trans (b3.mono B2.out.size))
  have A3 := Lib.hid fun y hy hp => Nat.lt_of_lt_of_le (A2.out y hy hp) b3.size
  obtain ⟨s, hs⟩ : ∃ s : ByteArray, s = ⟨(R.fmtPages Q).toArray⟩ := ⟨_, rfl⟩
  have hsl : s.size ≤ 1962 := by rw [hs]; simp [ByteArray.size]; exact HQL.out
  rw [← hs]
  clear b3 hs
  go_wp2_with fail
  refine (once_any a len cap zs _ c _ H3.out 3 (by omega) (by omega)).mono ?_
  rintro e w4 ⟨q, τ4, -, rfl, hc4, ho4⟩
  have H4 := Lib.hid hc4
  have B4 := Lib.hid (B3.out.trans (ho4.below B3.out.size hge))
  have A4 := Lib.hid fun y hy hp => Nat.lt_of_lt_of_le (A3.out y hy hp) ho4.size
  have hcl4 : c < w4.heap.size := hc4.lt
  clear hc4 ho4
  by_cases hq0 : q = 0
  · subst hq0
    go_wp2_with fail
    refine (spoil_any a len cap zs _ c _ H4.out A4.out s (by omega)).mono ?_
    rintro e w5 ⟨t, τ5, hf5, rfl, hc5, ho5⟩
    have htl : t.size ≤ 9000 := by
      have := spoilS_size zs len s τ4
      rw [hf5] at this
      simp only at this
      omega
    have B5 := Lib.hid (B4.out.trans (ho5.below B4.out.size hge))
    have H5 := Lib.hid (hc5.alloc (.cells ((pageTexts t).map Value.string).toArray 9))
    have B6 := Lib.hid (B5.out.alloc B5.out.size (.cells ((pageTexts t).map Value.string).toArray 9))
    have I5 := Lib.hid (strs_alloc w5 (pageTexts t) 9)
    have hne : ¬ w5.heap.size = c := by have := hc5.lt; omega
    have HTS := Lib.hid (pageTexts_size (s := t) (b := 9000) (by omega) htl)
    clear hf5 hc5 ho5
    go_wp2_with fail
    refine (picks_any a len cap zs _ c _ H5.out _ 7 7 (pageTexts t) I5.out hne rfl (by omega) (by omega)).mono ?_
    rintro e w6 ⟨u, τ6, hm, rfl, hc6, ho6⟩
    have hul : u.size ≤ 9000 := HTS.out u hm
    have B7 := Lib.hid (B6.out.trans (ho6.below B6.out.size hge))
    clear hm hc6 ho6
    go_wp2_with fail
    go_ret
    exact ⟨u, rfl, by omega, B7.out⟩
  · have hqb : (q == 0) = false := by simpa using hq0
    go_wp2_with fail
    go_ret
    exact ⟨s, rfl, by omega, B4.out⟩
end Go.Proofs.YtoiobaiiammehaaGreatDoor
