/- Texts joined: Byte Below New Pick Code Block RowDraw RowsDraw OneRows Draw7 VDr VCu VKt VP VDg VDc RunD RunE MrgD RunM RunN MrgM VNo VFg MrgS. -/
import Derived.Test.YtfionajnoaednaaPartPb
import Derived.Laws.IdiomStrings
import Derived.Deep.RegionWith
set_option linter.unusedSimpArgs false
set_option linter.unusedVariables false
/- l1Byte: a number from 0 to 255; the cursor is moved on; nothing else changes. -/
namespace Go.Proofs.Ytfionajnoaednaa
open Go.RowKit
def nextH (h : Int) : Int := wrap64 (wrap64 (h * 6364136223846793005) + 1442695040888963407)
def mixed (q : Int) : Int := bits BinOp.and IntKind.i64 (bits BinOp.xor IntKind.i64 (q / 8589934592) (q / 35184372088832)) 255
def byteS (zs : List Int) (len : Nat) (σ : Int × Int) : Int × (Int × Int) :=
  if σ.1 < len then (bits BinOp.and IntKind.i64 (wrap64 (mixed (nextH σ.2) + zs.getD σ.1.toNat 0)) 255, (σ.1 + 1, nextH σ.2)) else (mixed (nextH σ.2), (σ.1, nextH σ.2))
theorem byteS_range {zs : List Int} {len : Nat} {σ τ : Int × Int} {x : Int} (h : byteS zs len σ = (x, τ)) : 0 ≤ x ∧ x ≤ 255 := by
  have hx : x = (byteS zs len σ).1 := by rw [h]
  rw [hx]; unfold byteS mixed
  split <;> exact and255 _
def Drawn (F : Int × Int → Int × (Int × Int)) (a : Option Addr) (len cap : Nat) (zs : List Int) (σ : Int × Int) (c : Nat) (w : World) (e : Ending) (w' : World) : Prop :=
  ∃ (x : Int) (τ : Int × Int), F σ = (x, τ) ∧ e = .returned (.int .i64 x) ∧ Cur a len cap zs τ w' c ∧ Only c w w'
set_option maxRecDepth 100000 in
theorem byte_end (a : Option Addr) (len cap : Nat) (zs : List Int) (c : Nat) (w : World) (i h : Int) (hc : Cur a len cap zs (i, h) w c) (hi0 : 0 ≤ i) (hlast : ¬ i < len) (hil : i ≤ len)
    (hb : w.heap[c]? = some (.cells #[.slice a len cap, .int .i64 i, .int .i64 h] 79 (0, 0))) :
    Calls Try.prog 80 #[.pointer (some ⟨c, 0, none⟩)] w (Drawn (byteS zs len) a len cap zs (i, h) c w) := by
  have c0 : w.cell? ⟨c, 0, none⟩ = some (.slice a len cap) := by simp [World.cell?, hb]
  have c1 : w.cell? ⟨c, 1, none⟩ = some (.int .i64 i) := by simp [World.cell?, hb]
  have c2 : w.cell? ⟨c, 2, none⟩ = some (.int .i64 h) := by simp [World.cell?, hb]
  have f2 : w.frozen? ⟨c, 2, none⟩ = false := by simp [World.frozen?, hb]
  have HB := Lib.hid hb
  have HC := Lib.hid hc
  clear hb hc
  go_enter Try.func80, Try.ntmps80
  go_wp2_with fail
  obtain ⟨q, hq⟩ : ∃ q, q = wrap64 (wrap64 (h * 6364136223846793005) + 1442695040888963407) := ⟨_, rfl⟩
  rw [← hq]
  have HQ : Hid (q = nextH h) := hq
  clear hq
  go_quiet (fail)
  go_wp2_with fail
  go_quiet (fail)
  go_wp2_with fail
  go_ret
  have ho : Only c w ((w.setCell ⟨c, 2, none⟩ (.int .i64 q)).drewN 0) := ((Only.refl c w).setCell 2 _).drewN _
  have hheap := heap_setCell_same w c 2 _ _ (.int .i64 q) HB.out
  refine ⟨_, (i, q), ?_, rfl, HC.out.only ?_ (i, q) hi0 hil ?_, ?_⟩
  · unfold byteS
    rw [if_neg (by exact Int.not_lt.2 hlast), HQ.out]
    rfl
  · exact ⟨ho.os, ho.tape, ho.output, ho.size, ho.block⟩
  · exact hheap.trans (by simp)
  · exact ⟨ho.os, ho.tape, ho.output, ho.size, ho.block⟩
set_option maxRecDepth 100000 in
theorem byte_more (b off : Nat) (len cap : Nat) (zs : List Int) (c : Nat) (w : World) (t : Nat) (h : Int) (hc : Cur (some ⟨b, off, none⟩) len cap zs ((t : Int), h) w c) (hlt : t < len) (hl63 : len ≤ 9223372036854775807) (z : Int) (hzz : z = zs.getD t 0) (hz0 : 0 ≤ z) (hz1 : z ≤ 255)
    (hcell : w.cell? ⟨b, off + t, none⟩ = some (.int .u8 z)) (hbc : ¬ b = c)
    (hb : w.heap[c]? = some (.cells #[.slice (some ⟨b, off, none⟩) len cap, .int .i64 (t : Int), .int .i64 h] 79 (0, 0))) :
    Calls Try.prog 80 #[.pointer (some ⟨c, 0, none⟩)] w (Drawn (byteS zs len) (some ⟨b, off, none⟩) len cap zs ((t : Int), h) c w) := by
  have HZ := Lib.hid hzz
  clear hzz
  have c0 : w.cell? ⟨c, 0, none⟩ = some (.slice (some ⟨b, off, none⟩) len cap) := by simp [World.cell?, hb]
  have c1 : w.cell? ⟨c, 1, none⟩ = some (.int .i64 (t : Int)) := by simp [World.cell?, hb]
  have c2 : w.cell? ⟨c, 2, none⟩ = some (.int .i64 h) := by simp [World.cell?, hb]
  have f2 : w.frozen? ⟨c, 2, none⟩ = false := by simp [World.frozen?, hb]
  have f1 : w.frozen? ⟨c, 1, none⟩ = false := by simp [World.frozen?, hb]
  have hti : (t : Int) < len := by omega
  have ht0 : (0 : Int) ≤ t := by omega
  have HB := Lib.hid hb
  have HC := Lib.hid hc
  clear hb hc
  go_enter Try.func80, Try.ntmps80
  go_wp2_with fail
  obtain ⟨q, hq⟩ : ∃ q, q = wrap64 (wrap64 (h * 6364136223846793005) + 1442695040888963407) := ⟨_, rfl⟩
  rw [← hq]
  have HQ : Hid (q = nextH h) := hq
  clear hq
  go_quiet (fail)
  go_wp2_with fail
  obtain ⟨y, hy⟩ : ∃ y, y = bits BinOp.and IntKind.i64 (bits BinOp.xor IntKind.i64 (q / 8589934592) (q / 35184372088832)) 255 := ⟨_, rfl⟩
  rw [← hy]
  have HY : Hid (y = mixed q) := hy
  clear hy
  go_quiet (fail)
  go_wp2_with fail
  go_quiet (fail)
  go_wp2_with fail
  go_ret
  have hheap := heap_setCell_same w c 2 _ _ (.int .i64 q) HB.out
  refine ⟨_, ((t : Int) + 1, q), ?_, rfl, ?_, (((Only.refl c w).setCell 2 _).drewN _).setCell 1 _⟩
  · unfold byteS
    rw [if_pos hti, ← HQ.out, ← HY.out, Int.toNat_natCast, ← HZ.out]
  refine HC.out.only ((((Only.refl c w).setCell 2 _).drewN _).setCell 1 _) ((t : Int) + 1, q) (by show 0 ≤ (t : Int) + 1; omega) (by show (t : Int) + 1 ≤ len; omega) ?_
  exact (heap_setCell_same _ c 1 _ _ (.int .i64 ((t : Int) + 1)) (by simpa using hheap)).trans (by simp)
theorem byte_any (a : Option Addr) (len cap : Nat) (zs : List Int) (σ : Int × Int) (c : Nat) (w : World) (hc : Cur a len cap zs σ w c) :
    Calls Try.prog 80 #[.pointer (some ⟨c, 0, none⟩)] w (Drawn (byteS zs len) a len cap zs σ c w) := by
  obtain ⟨i, h⟩ := σ
  have hi0 : 0 ≤ i := hc.low
  have hil : i ≤ len := hc.high
  have hb := hc.cell
  by_cases hlt : i < len
  · rcases hc.row with ⟨rfl, rfl, rfl, rfl⟩ | ⟨x, rfl, hlc, hm, hz, hcell, hwz⟩
    · omega
    · obtain ⟨t, rfl⟩ : ∃ t : Nat, i = (t : Int) := ⟨i.toNat, by omega⟩
      have hct := hcell t (by omega)
      obtain ⟨b, off, spot⟩ := x
      have hspot : spot = none := by simpa [Addr.add] using World.cell?_spot (hcell 0 (by omega))
      subst hspot
      have hct' : w.cell? ⟨b, off + t, none⟩ = some (.int .u8 (zs.getD t 0)) := by
        by_cases h0 : t = 0
        · subst h0; simpa [Addr.add] using hct
        · simpa [Addr.add, h0] using hct
      have hbd := bounds_u8 (hwz (zs.getD t 0) (by
        rw [List.getD_eq_getElem?_getD, List.getElem?_eq_getElem (by omega)]
        exact List.getElem_mem _))
      unfold maxLen at hm
      exact byte_more b off len cap zs c w t h hc (by omega) (by omega) _ rfl hbd.1 hbd.2 hct' (hc.apart _ rfl (by omega)) hb
  · exact byte_end a len cap zs c w i h hc hi0 hlt hil hb
end Go.Proofs.Ytfionajnoaednaa
/- l1Below, l1Once, l1New: numbers below a bound; a new cursor over the code that came in. -/
namespace Go.Proofs.Ytfionajnoaednaa
open Go.RowKit
theorem emod_small (x n : Int) (hn : 0 < n) : 0 ≤ x % n ∧ x % n < n := ⟨Int.emod_nonneg _ (by omega), Int.emod_lt_of_pos _ hn⟩
def belowS (zs : List Int) (len : Nat) (n : Int) (σ : Int × Int) : Int × (Int × Int) :=
  if n ≤ 256 then ((byteS zs len σ).1 % n, (byteS zs len σ).2)
  else
    (((byteS zs len σ).1 * 16777216 + (byteS zs len (byteS zs len σ).2).1 * 65536 + (byteS zs len (byteS zs len (byteS zs len σ).2).2).1 * 256 + (byteS zs len (byteS zs len (byteS zs len (byteS zs len σ).2).2).2).1) % n,
      (byteS zs len (byteS zs len (byteS zs len (byteS zs len σ).2).2).2).2)
theorem belowS_range {zs : List Int} {len : Nat} {n : Int} {σ τ : Int × Int} {x : Int} (hn : 1 ≤ n) (h : belowS zs len n σ = (x, τ)) : 0 ≤ x ∧ x < n := by
  have hx : x = (belowS zs len n σ).1 := by rw [h]
  rw [hx]; unfold belowS
  split <;> exact emod_small _ n (by omega)
set_option maxRecDepth 100000 in
theorem below_small (a : Option Addr) (len cap : Nat) (zs : List Int) (σ : Int × Int) (c : Nat) (w : World) (hc : Cur a len cap zs σ w c) (n : Int) (h1 : 1 ≤ n) (h2 : n ≤ 256) :
    Calls Try.prog 64 #[.pointer (some ⟨c, 0, none⟩), .int .i64 n] w (Drawn (belowS zs len n) a len cap zs σ c w) := by
  have HC := Lib.hid hc
  clear hc
  go_enter Try.func64, Try.ntmps64
  go_wp2_with fail
  refine (byte_any a len cap zs _ c _ HC.out).mono ?_
  rintro e w1 ⟨x, τ, hx, rfl, hc1, ho1⟩
  obtain ⟨hx0, hx1⟩ := byteS_range hx
  have H1 := Lib.hid hc1
  have HO := Lib.hid ho1
  have HX := Lib.hid hx
  clear hc1 ho1 hx
  go_wp2_with fail
  go_ret
  exact ⟨_, τ, by unfold belowS; rw [if_pos h2, HX.out], rfl, H1.out, HO.out⟩
set_option maxRecDepth 100000 in
theorem below_big (a : Option Addr) (len cap : Nat) (zs : List Int) (σ : Int × Int) (c : Nat) (w : World) (hc : Cur a len cap zs σ w c) (n : Int) (h1 : 256 < n) (h2 : n ≤ 1000000000) :
    Calls Try.prog 64 #[.pointer (some ⟨c, 0, none⟩), .int .i64 n] w (Drawn (belowS zs len n) a len cap zs σ c w) := by
  have HC := Lib.hid hc
  clear hc
  go_enter Try.func64, Try.ntmps64
  go_wp2_with fail
  refine (byte_any a len cap zs _ c _ HC.out).mono ?_
  rintro e w1 ⟨x1, τ1, hf1, rfl, hc1, ho1⟩
  obtain ⟨hx0, hx1⟩ := byteS_range hf1
  have F1 := Lib.hid hf1
  clear hf1
  have H1 := Lib.hid hc1
  have O1 := Lib.hid ho1
  clear hc1 ho1
  go_wp2_with fail
  refine (byte_any a len cap zs _ c _ H1.out).mono ?_
  rintro e w2 ⟨x2, τ2, hf2, rfl, hc2, ho2⟩
  obtain ⟨hy0, hy1⟩ := byteS_range hf2
  have F2 := Lib.hid hf2
  clear hf2
  have H2 := Lib.hid hc2
  have O2 := Lib.hid (O1.out.trans ho2)
  clear hc2 ho2
  go_wp2_with fail
  refine (byte_any a len cap zs _ c _ H2.out).mono ?_
  rintro e w3 ⟨x3, τ3, hf3, rfl, hc3, ho3⟩
  obtain ⟨hz0, hz1⟩ := byteS_range hf3
  have F3 := Lib.hid hf3
  clear hf3
  have H3 := Lib.hid hc3
  have O3 := Lib.hid (O2.out.trans ho3)
  clear hc3 ho3
  go_wp2_with fail
  refine (byte_any a len cap zs _ c _ H3.out).mono ?_
  rintro e w4 ⟨x4, τ4, hf4, rfl, hc4, ho4⟩
  obtain ⟨hv0, hv1⟩ := byteS_range hf4
  have F4 := Lib.hid hf4
  clear hf4
  have H4 := Lib.hid hc4
  have O4 := Lib.hid (O3.out.trans ho4)
  clear hc4 ho4
  go_wp2_with fail
  go_ret
  exact ⟨_, τ4, by unfold belowS; rw [if_neg (by omega), F1.out]; simp only []; rw [F2.out]; simp only []; rw [F3.out]; simp only []; rw [F4.out], rfl, H4.out, O4.out⟩
theorem below_any (a : Option Addr) (len cap : Nat) (zs : List Int) (σ : Int × Int) (c : Nat) (w : World) (hc : Cur a len cap zs σ w c) (n : Int) (h1 : 1 ≤ n) (h2 : n ≤ 1000000000) :
    Calls Try.prog 64 #[.pointer (some ⟨c, 0, none⟩), .int .i64 n] w (Drawn (belowS zs len n) a len cap zs σ c w) := by
  by_cases h : n ≤ 256
  · exact below_small a len cap zs σ c w hc n h1 h
  · exact below_big a len cap zs σ c w hc n (by omega) h2
theorem once_any (a : Option Addr) (len cap : Nat) (zs : List Int) (σ : Int × Int) (c : Nat) (w : World) (hc : Cur a len cap zs σ w c) (n : Int) (h1 : 1 ≤ n) (h2 : n ≤ 1000000000) :
    Calls Try.prog 43 #[.pointer (some ⟨c, 0, none⟩), .int .i64 n] w fun e w' => ∃ (x : Int) (τ : Int × Int), belowS zs len n σ = (x, τ) ∧ e = .returned (.bool (x == 0)) ∧ Cur a len cap zs τ w' c ∧ Only c w w' := by
  have HC := Lib.hid hc
  clear hc
  go_enter Try.func43, Try.ntmps43
  go_wp2_with fail
  refine (below_any a len cap zs _ c _ HC.out n h1 h2).mono ?_
  rintro e w1 ⟨x, τ, hx, rfl, hc1, ho1⟩
  have H1 := Lib.hid hc1
  have O1 := Lib.hid ho1
  have HX := Lib.hid hx
  clear hc1 ho1 hx
  go_wp2_with fail
  go_ret
  exact ⟨x, τ, HX.out, rfl, H1.out, O1.out⟩
end Go.Proofs.Ytfionajnoaednaa
/- l1New: a new cursor over the code that came in. -/
namespace Go.Proofs.Ytfionajnoaednaa
open Go.RowKit
theorem low30 (m : Int) (h0 : 0 ≤ m) (h1 : m < 9223372036854775808) : bits .and .i64 m 1073741823 = m % 1073741824 := by
  obtain ⟨n, rfl⟩ : ∃ n : Nat, m = (n : Int) := ⟨m.toNat, by omega⟩
  have := and64 n 1073741823 (by omega) (by omega)
  rw [show ((1073741823 : Nat) : Int) = 1073741823 from rfl] at this
  rw [this, show (1073741823 : Nat) = 2 ^ 30 - 1 from rfl, Nat.and_two_pow_sub_one_eq_mod]
  omega
def mixH (zs : List Int) (len : Nat) : Nat → Int
  | 0 => 10101 + len
  | t + 1 => (mixH zs len t * 131 + zs.getD t 0 + 7) % 1073741824
def newH (zs : List Int) (len : Nat) : Int := mixH zs len (min len 4000)
def Fresh (a : Option Addr) (len cap : Nat) (zs : List Int) (w : World) (e : Ending) (w' : World) : Prop :=
  ∃ c : Nat, e = .returned (.pointer (some ⟨c, 0, none⟩)) ∧ Cur a len cap zs (0, newH zs len) w' c ∧ w.heap.size ≤ c ∧ Below w.heap.size w w'
theorem IsRow.cells {w : World} {a : Option Addr} {len cap : Nat} {zs : List Int} (h : IsRow .u8 w a len cap zs) : len = 0 ∨ ∃ b off : Nat, a = some ⟨b, off, none⟩ ∧ ∀ t, t < len → w.cell? ⟨b, off + t, none⟩ = some (.int .u8 (zs.getD t 0)) ∧ 0 ≤ zs.getD t 0 ∧ zs.getD t 0 ≤ 255 := by
  by_cases h0 : len = 0
  · exact .inl h0
  · rcases h with ⟨_, hl, _, _⟩ | ⟨x, rfl, hlc, hm, hz, hcell, hwz⟩
    · exact absurd hl h0
    · obtain ⟨b, off, spot⟩ := x
      have hspot : spot = none := by simpa [Addr.add] using World.cell?_spot (hcell 0 (by omega))
      subst hspot
      refine .inr ⟨b, off, rfl, fun t ht => ?_⟩
      have hct := hcell t (by omega)
      have hbd := bounds_u8 (hwz (zs.getD t 0) (by
        rw [List.getD_eq_getElem?_getD, List.getElem?_eq_getElem (by omega)]
        exact List.getElem_mem _))
      refine ⟨?_, hbd⟩
      by_cases h1 : t = 0
      · subst h1; simpa [Addr.add] using hct
      · simpa [Addr.add, h1] using hct
theorem IsRow.lt {w : World} {a : Option Addr} {len cap : Nat} {zs : List Int} (h : IsRow .u8 w a len cap zs) (hp : 0 < len) : ∀ x, a = some x → x.block < w.heap.size := by
  intro x hx
  rcases h with ⟨_, hl, _, _⟩ | ⟨y, rfl, hlc, hm, hz, hcell, hwz⟩
  · omega
  · obtain rfl := Option.some.inj hx
    have := World.block_lt_of_cell? w _ (hcell 0 (by omega))
    simpa [Addr.add] using this
theorem fresh_of {a : Option Addr} {len cap : Nat} {zs : List Int} {w : World} (hr : IsRow .u8 w a len cap zs) (ha : ∀ x, a = some x → 0 < cap → x.block < w.heap.size) (q : Int) (hq : q = newH zs len) :
    Fresh a len cap zs w (.returned (.pointer (some ⟨w.heap.size, 0, none⟩))) (w.alloc (.cells #[.slice a len cap, .int .i64 0, .int .i64 q] 79)) := by
  have hb : Below w.heap.size w (w.alloc (.cells #[.slice a len cap, .int .i64 0, .int .i64 q] 79)) := (Below.refl _ _).alloc (Nat.le_refl _) _
  exact ⟨w.heap.size, rfl, ⟨hr.keep fun x hx hp _ => hb.block x.block (ha x hx hp), fun x hx hp e => absurd (ha x hx hp) (by rw [e]; exact Nat.lt_irrefl _), Int.le_refl 0, by show (0 : Int) ≤ len; omega, by rw [← hq]; exact heap_alloc_new w _⟩, Nat.le_refl _, hb⟩
set_option maxRecDepth 100000 in
theorem new_any (a : Option Addr) (len cap : Nat) (zs : List Int) (w : World) (hr : IsRow .u8 w a len cap zs) (hl : len ≤ 1048576) (halt : ∀ x, a = some x → 0 < cap → x.block < w.heap.size) :
    Calls Try.prog 40 #[.slice a len cap] w (Fresh a len cap zs w) := by
  have HR := Lib.hid hr
  have HA := Lib.hid halt
  have hcs := Lib.hid hr.cells
  clear hr halt
  go_enter Try.func40, Try.ntmps40
  go_wp2_with fail
  go_loop [3, 4] (fun h i => ∃ (q : Int) (t : Nat), h = .int .i64 q ∧ i = .int .i64 t ∧ 0 ≤ q ∧ q < 2147483648 ∧ t ≤ len ∧ t ≤ 4000 ∧ Hid (q = mixH zs len t)) (fun _ i => len - (intOf i).toNat)
  case atStart => exact ⟨_, 0, rfl, rfl, by omega, by omega, by omega, by omega, rfl⟩
  case round =>
    obtain ⟨q, t, rfl, rfl, hq0, hq1, ht, ht4, hQ⟩ := hrel
    by_cases hlt : t < len
    · by_cases h4 : (t : Int) < 4000
      · rcases hcs.out with h0 | ⟨b, off, ha, hcell⟩
        · exfalso; omega
        · obtain ⟨hct, hz0, hz1⟩ := hcell t hlt
          clear hcell
          obtain ⟨z, hz⟩ : ∃ z, z = zs.getD t 0 := ⟨_, rfl⟩
          rw [← hz] at hct hz0 hz1
          have HZ := Lib.hid hz
          clear hz
          subst ha
          have hm := low30 (q * 131 + z + 7) (by omega) (by omega)
          go_wp2_with fail
          go_round
          case rel => exact ⟨_, t + 1, rfl, by go_num, by omega, by omega, by omega, by omega, by show _ = _; rw [mixH, ← hQ.out, ← HZ.out]⟩
          case measure => simp [intOf]; omega
      · have h4' : decide ((t : Int) < 4000) = false := by simpa using h4
        go_wp2_with fail
        go_ret
        exact fresh_of HR.out HA.out q (by unfold newH; rw [show min len 4000 = t by omega]; exact hQ.out)
    · go_wp2_with fail
      go_ret
      exact fresh_of HR.out HA.out q (by unfold newH; rw [show min len 4000 = t by omega]; exact hQ.out)
end Go.Proofs.Ytfionajnoaednaa
/- l1PickInt: one of a row of integers, as a function of the cursor's state. -/
namespace Go.Proofs.Ytfionajnoaednaa
open Go.RowKit
theorem belowS_fst (zs : List Int) (len : Nat) (n : Int) (σ : Int × Int) (hn : 1 ≤ n) : 0 ≤ (belowS zs len n σ).1 ∧ (belowS zs len n σ).1 < n :=
  belowS_range (x := (belowS zs len n σ).1) (τ := (belowS zs len n σ).2) hn rfl
def AnInt (x : Int) : Prop := (Lit.int .i64 x).wf = true
def Ints (w : World) (g : Nat) (L : List Int) : Prop := ∀ t, t < L.length → w.cell? ⟨g, t, none⟩ = some (.int .i64 (L.getD t 0))
def pickS (zs : List Int) (len : Nat) (L : List Int) (σ : Int × Int) : Int × (Int × Int) := (L.getD (belowS zs len (L.length : Nat) σ).1.toNat 0, (belowS zs len (L.length : Nat) σ).2)
set_option maxRecDepth 100000 in
theorem pick_any (a : Option Addr) (len cap : Nat) (zs : List Int) (σ : Int × Int) (c : Nat) (w : World) (hc : Cur a len cap zs σ w c) (g n m : Nat) (L : List Int) (hg : Ints w g L) (hgc : ¬ g = c) (hn : n = L.length) (h1 : 1 ≤ n) (h2 : n ≤ 1000000000) :
    Calls Try.prog 51 #[.pointer (some ⟨c, 0, none⟩), .slice (some ⟨g, 0, none⟩) n m] w (Drawn (pickS zs len L) a len cap zs σ c w) := by
  have HC := Lib.hid hc
  have HG := Lib.hid hg
  have HN := Lib.hid hn
  clear hc hg hn
  go_enter Try.func51, Try.ntmps51
  go_wp2_with fail
  refine (below_any a len cap zs _ c _ HC.out (n : Int) (by omega) (by omega)).mono ?_
  rintro e w1 ⟨x, τ, hf1, rfl, hc1, ho1⟩
  obtain ⟨hx0, hx1⟩ := belowS_range (by omega) hf1
  have F1 := Lib.hid hf1
  clear hf1
  obtain ⟨t, rfl⟩ : ∃ t : Nat, x = (t : Int) := ⟨x.toNat, by omega⟩
  have htn : t < n := by omega
  have hcell := HG.out t (by have := HN.out; omega)
  have hlt : g < w.heap.size := World.block_lt_of_cell? w _ hcell
  have hcell1 : w1.cell? ⟨g, t, none⟩ = some (.int .i64 (L.getD t 0)) := (World.cell?_of_block (ho1.block g hlt (fun e => hgc (by injection e)))).trans hcell
  clear hcell
  obtain ⟨z, hz⟩ : ∃ z, z = L.getD t 0 := ⟨_, rfl⟩
  rw [← hz] at hcell1
  have HZ := Lib.hid hz
  clear hz
  have H1 := Lib.hid hc1
  have O1 := Lib.hid ho1
  clear hc1 ho1
  go_wp2_with fail
  go_ret
  refine ⟨_, τ, ?_, rfl, H1.out, O1.out⟩
  unfold pickS
  have hn := HN.out
  rw [← hn, F1.out, HZ.out, Int.toNat_natCast]
end Go.Proofs.Ytfionajnoaednaa
/- The code that a law draws from, as the walks take it. -/
namespace Go.Proofs.Ytfionajnoaednaa
open Go.RowKit
structure Code (a : Option Addr) (len cap : Nat) (zs : List Int) (w : World) : Prop where
  row : IsRow .u8 w a len cap zs
  small : len ≤ 1048576
  old : ∀ x, a = some x → 0 < cap → x.block < w.heap.size
theorem Code.below {a : Option Addr} {len cap : Nat} {zs : List Int} {w w' : World} (h : Code a len cap zs w) (hb : Below w.heap.size w w') : Code a len cap zs w' :=
  ⟨h.row.keep fun x hx hp _ => hb.block x.block (h.old x hx hp), h.small, fun x hx hp => Nat.lt_of_lt_of_le (h.old x hx hp) hb.size⟩
theorem big_no (a : Option Addr) (len cap : Nat) (w : World) (h : len ≤ 1048576) : Calls Try.prog 9 #[.slice a len cap] w fun e w' => e = .returned (.bool false) ∧ w = w' := by
  have hd : decide ((1048576 : Int) < len) = false := by simp; omega
  go_enter Try.func9, Try.ntmps9
  go_wp2
  go_ret
  exact ⟨rfl, rfl⟩
theorem big_yes (a : Option Addr) (len cap : Nat) (w : World) (h : 1048576 < len) : Calls Try.prog 9 #[.slice a len cap] w fun e w' => e = .returned (.bool true) ∧ w = w' := by
  have hd : decide ((1048576 : Int) < len) = true := by simp; omega
  go_enter Try.func9, Try.ntmps9
  go_wp2
  go_ret
  exact ⟨rfl, rfl⟩
end Go.Proofs.Ytfionajnoaednaa
/- A variable of three numbers in a block of its own, behind calls and stores; no function of the program. -/
namespace Go.Proofs.Ytfionajnoaednaa
open Go.RowKit
def Var3 (w : World) (g : Nat) (r : R) : Prop := w.heap[g]? = some (.cells #[.int .i64 r.key, .int .i64 r.value, .int .i64 r.width] 59 (0, 0))
theorem Var3.lt {w : World} {g : Nat} {r : R} (h : Var3 w g r) : g < w.heap.size := lt_of_block h
theorem Var3.below {w w' : World} {g B : Nat} {r : R} (h : Var3 w g r) (hb : Below B w w') (hg : g < B) : Var3 w' g r := (hb.block g hg).trans h
theorem Var3.keep {w w' : World} {g : Nat} {r : R} (h : Var3 w g r) (hb : Below w.heap.size w w') : Var3 w' g r := h.below hb h.lt
theorem Var3.cells {w : World} {g : Nat} {r : R} (h : Var3 w g r) : w.cell? ⟨g, 0, none⟩ = some (.int .i64 r.key) ∧ w.cell? ⟨g, 1, none⟩ = some (.int .i64 r.value) ∧ w.cell? ⟨g, 2, none⟩ = some (.int .i64 r.width) := by
  unfold Var3 at h
  refine ⟨?_, ?_, ?_⟩ <;> simp [World.cell?, h]
theorem Var3.free {w : World} {g : Nat} {r : R} (h : Var3 w g r) : w.frozen? ⟨g, 0, none⟩ = false ∧ w.frozen? ⟨g, 1, none⟩ = false ∧ w.frozen? ⟨g, 2, none⟩ = false := by
  unfold Var3 at h
  refine ⟨?_, ?_, ?_⟩ <;> simp [World.frozen?, h]
theorem Var3.made (w : World) (r : R) : Var3 (w.alloc (.cells #[.int .i64 r.key, .int .i64 r.value, .int .i64 r.width] 59)) w.heap.size r := heap_alloc_new w _
theorem Var3.alloc {w : World} {g : Nat} {r : R} (h : Var3 w g r) (o : Obj) : Var3 (w.alloc o) g r := h.keep ((Below.refl _ _).alloc (Nat.le_refl _) _)
theorem Var3.drew {w : World} {g : Nat} {r : R} (h : Var3 w g r) : Var3 w.drew g r := h
theorem Var3.other {w : World} {g g' i : Nat} {r : R} (h : Var3 w g r) (hne : g ≠ g') (u : Value) : Var3 (w.setCell ⟨g', i, none⟩ u) g r := by
  unfold Var3 at h ⊢
  rw [Below.heap_setCell _ _ _ _ (fun e => hne e)]
  exact h
end Go.Proofs.Ytfionajnoaednaa
/- l2Row, l2Any: the row that is drawn, as a function of the cursor's state. -/
namespace Go.Proofs.Ytfionajnoaednaa
open Go.RowKit
def Rowed (F : Int × Int → R × (Int × Int)) (a : Option Addr) (len cap : Nat) (zs : List Int) (σ : Int × Int) (c : Nat) (w : World) (e : Ending) (w' : World) : Prop :=
  ∃ (r : R) (τ : Int × Int), F σ = (r, τ) ∧ e = .returned (.agg #[.int .i64 r.key, .int .i64 r.value, .int .i64 r.width]) ∧ Cur a len cap zs τ w' c ∧ Only c w w'
theorem ints_alloc (w : World) (L : List Int) : Ints (w.alloc (.cells (L.map (Value.int .i64)).toArray 3)) w.heap.size L := by
  intro t ht
  rw [World.cell?_alloc_mark]
  rw [List.getElem?_toArray, List.getElem?_map, List.getElem?_eq_getElem ht, List.getD_eq_getElem?_getD, List.getElem?_eq_getElem ht]; rfl
theorem Var3.only {w w' : World} {g c : Nat} {r : R} (h : Var3 w g r) (ho : Only c w w') (hne : g ≠ c) : Var3 w' g r := (ho.block g h.lt (fun e => hne (by injection e))).trans h
def widths : List Int := [0, 0, 1, 2, 3]
def rowS (zs : List Int) (len : Nat) (keys : Int) (σ : Int × Int) : R × (Int × Int) :=
  let x := belowS zs len keys σ
  let y := belowS zs len 100 x.2
  let z := pickS zs len widths y.2
  (⟨x.1, y.1, z.1⟩, z.2)
theorem pickS_mem (zs : List Int) (len : Nat) (L : List Int) (σ : Int × Int) (hL : 1 ≤ L.length) : (pickS zs len L σ).1 ∈ L := by
  unfold pickS
  simp only []
  have h := belowS_fst zs len (L.length : Nat) σ (by omega)
  rw [List.getD_eq_getElem?_getD, List.getElem?_eq_getElem (by omega)]
  exact List.getElem_mem _
theorem rowS_range (zs : List Int) (len : Nat) (keys : Int) (σ : Int × Int) (hk : 1 ≤ keys) :
    0 ≤ (rowS zs len keys σ).1.key ∧ (rowS zs len keys σ).1.key < keys ∧ 0 ≤ (rowS zs len keys σ).1.value ∧ (rowS zs len keys σ).1.value < 100 ∧ 0 ≤ (rowS zs len keys σ).1.width ∧ (rowS zs len keys σ).1.width ≤ 3 := by
  have h1 := belowS_fst zs len keys σ hk
  have h2 := belowS_fst zs len 100 (belowS zs len keys σ).2 (by omega)
  have h3 := pickS_mem zs len widths (belowS zs len 100 (belowS zs len keys σ).2).2 (by decide)
  unfold widths at h3
  unfold rowS widths
  simp only [List.mem_cons, List.not_mem_nil, or_false] at h3 ⊢
  omega
theorem rowS_wf (zs : List Int) (len : Nat) (keys : Int) (σ : Int × Int) (hk : 1 ≤ keys) (hk2 : keys ≤ 1000000000) : (rowS zs len keys σ).1.wf := by
  have := rowS_range zs len keys σ hk
  unfold R.wf; omega
set_option maxRecDepth 100000 in
theorem row_any (a : Option Addr) (len cap : Nat) (zs : List Int) (σ : Int × Int) (c : Nat) (w : World) (hc : Cur a len cap zs σ w c) (halt : ∀ x, a = some x → 0 < cap → x.block < w.heap.size) (keys : Int) (h1 : 1 ≤ keys) (h2 : keys ≤ 1000000000) :
    Calls Try.prog 65 #[.pointer (some ⟨c, 0, none⟩), .int .i64 keys] w (Rowed (rowS zs len keys) a len cap zs σ c w) := by
  have hb0 : Below w.heap.size w (w.alloc (.cells #[.int .i64 0, .int .i64 0, .int .i64 0] 59)) := (Below.refl _ _).alloc (Nat.le_refl _) _
  have hcl := hc.lt
  have H0 := Lib.hid (hc.below hb0 hcl halt)
  have O0 := Lib.hid (Only.of_below (c := c) hb0)
  have V0 : Hid (Var3 (w.alloc (.cells #[.int .i64 0, .int .i64 0, .int .i64 0] 59)) w.heap.size R.zero) := Var3.made w R.zero
  have HA := Lib.hid halt
  clear hb0 hc halt
  have hne : w.heap.size ≠ c := by omega
  go_enter Try.func65, Try.ntmps65
  go_wp2_with fail
  refine (below_any a len cap zs _ c _ H0.out keys h1 h2).mono ?_
  rintro e w1 ⟨x, τ1, hf1, rfl, hc1, ho1⟩
  have F1 := Lib.hid hf1
  have H1 := Lib.hid hc1
  have O1 := Lib.hid (O0.out.trans ho1)
  have V1 := Lib.hid (V0.out.only ho1 hne)
  clear hf1 hc1 ho1 H0 O0 V0
  go_wp2_with fail
  refine (below_any a len cap zs _ c _ H1.out 100 (by omega) (by omega)).mono ?_
  rintro e w2 ⟨y, τ2, hf2, rfl, hc2, ho2⟩
  have F2 := Lib.hid hf2
  have H2 := Lib.hid hc2
  have O2 := Lib.hid (O1.out.trans ho2)
  have V2 := Lib.hid (V1.out.only ho2 hne)
  clear hf2 hc2 ho2 H1 O1 V1
  have H3 := Lib.hid (H2.out.alloc (.cells (widths.map (Value.int .i64)).toArray 3))
  have O3 := Lib.hid (O2.out.alloc (.cells (widths.map (Value.int .i64)).toArray 3))
  have V3 := Lib.hid (V2.out.alloc (.cells (widths.map (Value.int .i64)).toArray 3))
  have I3 := Lib.hid (ints_alloc w2 widths)
  have hne2 : ¬ w2.heap.size = c := by have := H2.out.lt; omega
  go_wp2_with fail
  refine (pick_any a len cap zs _ c _ H3.out _ 5 5 widths I3.out hne2 rfl (by omega) (by omega)).mono ?_
  rintro e w3 ⟨z, τ3, hf3, rfl, hc3, ho3⟩
  have F3 := Lib.hid hf3
  have H4 := Lib.hid hc3
  have O4 := Lib.hid (O3.out.trans ho3)
  have V4 := Lib.hid (V3.out.only ho3 hne)
  clear hf3 hc3 ho3 H2 O2 V2 H3 O3 V3 I3
  obtain ⟨d0, d1, d2⟩ := V4.out.cells
  obtain ⟨f0, f1, f2⟩ := V4.out.free
  go_wp2_with fail
  refine bodyPost_ret (v := .agg #[.int .i64 x, .int .i64 y, .int .i64 z]) (by simp [results, Try.results65, go_sem, *]) rfl ⟨⟨x, y, z⟩, τ3, ?_, rfl, ?_, ?_⟩
  · unfold rowS
    rw [F1.out]
    simp only []
    rw [F2.out]
    simp only []
    rw [F3.out]
  · exact H4.out.below (below_set3 (Below.refl _ _) (Nat.le_refl _) _ _ _ _ _ _) hcl HA.out
  · exact O4.out.step (below_set3 (Below.refl _ _) (Nat.le_refl _) _ _ _ _ _ _)
def anyS (zs : List Int) (len : Nat) (σ : Int × Int) : R × (Int × Int) :=
  let r := rowS zs len 10 σ
  let v := belowS zs len 8 r.2
  if v.1 = 0 then (⟨(pickS zs len [-1, 10] v.2).1, r.1.value, r.1.width⟩, (pickS zs len [-1, 10] v.2).2)
  else if v.1 = 1 then (⟨r.1.key, (pickS zs len [-1, 100, 99] v.2).1, r.1.width⟩, (pickS zs len [-1, 100, 99] v.2).2)
  else if v.1 = 2 then (⟨r.1.key, r.1.value, (pickS zs len [-1, 4] v.2).1⟩, (pickS zs len [-1, 4] v.2).2)
  else (r.1, v.2)
theorem anyS_wf (zs : List Int) (len : Nat) (σ : Int × Int) : (anyS zs len σ).1.wf := by
  have h := rowS_wf zs len 10 σ (by omega) (by omega)
  unfold R.wf at h ⊢
  unfold anyS
  simp only []
  split
  · have := pickS_mem zs len [-1, 10] (belowS zs len 8 (rowS zs len 10 σ).2).2 (by decide)
    simp only [List.mem_cons, List.not_mem_nil, or_false] at this ⊢
    omega
  · split
    · have := pickS_mem zs len [-1, 100, 99] (belowS zs len 8 (rowS zs len 10 σ).2).2 (by decide)
      simp only [List.mem_cons, List.not_mem_nil, or_false] at this ⊢
      omega
    · split
      · have := pickS_mem zs len [-1, 4] (belowS zs len 8 (rowS zs len 10 σ).2).2 (by decide)
        simp only [List.mem_cons, List.not_mem_nil, or_false] at this ⊢
        omega
      · exact h
set_option maxRecDepth 100000 in
theorem any_any (a : Option Addr) (len cap : Nat) (zs : List Int) (σ : Int × Int) (c : Nat) (w : World) (hc : Cur a len cap zs σ w c) (halt : ∀ x, a = some x → 0 < cap → x.block < w.heap.size) :
    Calls Try.prog 63 #[.pointer (some ⟨c, 0, none⟩)] w (Rowed (anyS zs len) a len cap zs σ c w) := by
  have hb0 : Below w.heap.size w (w.alloc (.cells #[.int .i64 0, .int .i64 0, .int .i64 0] 59)) := (Below.refl _ _).alloc (Nat.le_refl _) _
  have hcl := hc.lt
  have H0 := Lib.hid (hc.below hb0 hcl halt)
  have O0 := Lib.hid (Only.of_below (c := c) hb0)
  have V0 : Hid (Var3 (w.alloc (.cells #[.int .i64 0, .int .i64 0, .int .i64 0] 59)) w.heap.size R.zero) := Var3.made w R.zero
  have HA0 := Lib.hid fun x hx hp => Nat.lt_of_lt_of_le (halt x hx hp) hb0.size
  have HA := Lib.hid halt
  clear hb0 hc halt
  have hne : w.heap.size ≠ c := by omega
  go_enter Try.func63, Try.ntmps63
  go_wp2_with fail
  refine (row_any a len cap zs _ c _ H0.out HA0.out 10 (by omega) (by omega)).mono ?_
  rintro e w1 ⟨r, τ1, hf1, rfl, hc1, ho1⟩
  have F1 := Lib.hid hf1
  have O1 := Lib.hid (O0.out.trans ho1)
  have V1 := Lib.hid (V0.out.only ho1 hne)
  have hbx : Below w1.heap.size w1 (w1.alloc (.cells #[.int .i64 r.key, .int .i64 r.value, .int .i64 r.width] 59)) := (Below.refl _ _).alloc (Nat.le_refl _) _
  have H1 := Lib.hid (hc1.alloc (.cells #[.int .i64 r.key, .int .i64 r.value, .int .i64 r.width] 59))
  have O2 := Lib.hid (O1.out.alloc (.cells #[.int .i64 r.key, .int .i64 r.value, .int .i64 r.width] 59))
  have V2 := Lib.hid (V1.out.keep hbx)
  have X2 := Lib.hid (Var3.made w1 r)
  have hlt1 : w.heap.size < w1.heap.size := V1.out.lt
  have hne1 : w1.heap.size ≠ c := by omega
  have hne3 : w.heap.size ≠ w1.heap.size := by omega
  clear hf1 hc1 ho1 H0 O0 V0 HA0 V1 O1 hbx
  go_wp2_with fail
  refine (below_any a len cap zs _ c _ H1.out 8 (by omega) (by omega)).mono ?_
  rintro e w2 ⟨v, τ2, hf2, rfl, hc2, ho2⟩
  obtain ⟨hv0, hv1⟩ := belowS_range (by omega) hf2
  have F2 := Lib.hid hf2
  have H2 := Lib.hid hc2
  have O3 := Lib.hid (O2.out.trans ho2)
  have V3 := Lib.hid (V2.out.only ho2 hne)
  have X3 := Lib.hid (X2.out.only ho2 hne1)
  clear hf2 hc2 ho2 H1 O2 V2 X2
  have hlt2 := H2.out.lt
  have hne4 : ¬ w2.heap.size = c := by omega
  by_cases v0 : v = 0
  · subst v0
    have H3 := Lib.hid (H2.out.alloc (.cells (([-1, 10] : List Int).map (Value.int .i64)).toArray 3))
    have O4 := Lib.hid (O3.out.alloc (.cells (([-1, 10] : List Int).map (Value.int .i64)).toArray 3))
    have V4 := Lib.hid (V3.out.alloc (.cells (([-1, 10] : List Int).map (Value.int .i64)).toArray 3))
    have X4 := Lib.hid (X3.out.alloc (.cells (([-1, 10] : List Int).map (Value.int .i64)).toArray 3))
    have I4 := Lib.hid (ints_alloc w2 [-1, 10])
    go_wp2_with fail
    refine (pick_any a len cap zs _ c _ H3.out _ 2 2 [-1, 10] I4.out hne4 rfl (by omega) (by omega)).mono ?_
    rintro e w3 ⟨z, τ3, hf3, rfl, hc3, ho3⟩
    have F3 := Lib.hid hf3
    have H5 := Lib.hid hc3
    have O5 := Lib.hid (O4.out.trans ho3)
    have V5 := Lib.hid (V4.out.only ho3 hne)
    have X5 := Lib.hid (X4.out.only ho3 hne1)
    have HR : Hid (anyS zs len σ = ((⟨z, r.value, r.width⟩ : R), τ3)) := by
      show _ = _
      unfold anyS
      rw [F1.out]
      simp only []
      rw [F2.out]
      simp only []
      first | rw [if_pos rfl] | rw [if_pos trivial]
      rw [F3.out]
    have BX : Hid (Below w.heap.size w3 ((((w3.setCell ⟨w1.heap.size, 0, none⟩ (.int .i64 z)).setCell ⟨w.heap.size, 0, none⟩ (.int .i64 (R.key (⟨z, r.value, r.width⟩ : R)))).setCell ⟨w.heap.size, 1, none⟩ (.int .i64 (R.value (⟨z, r.value, r.width⟩ : R)))).setCell ⟨w.heap.size, 2, none⟩ (.int .i64 (R.width (⟨z, r.value, r.width⟩ : R))))) :=
      below_set3 ((Below.refl _ _).setCell (p := ⟨w1.heap.size, 0, none⟩) (Nat.le_of_lt hlt1) _) (Nat.le_refl _) _ _ _ _ _ _
    clear hf3 hc3 ho3 H3 O4 V4 X4 I4
    obtain ⟨d0, d1, d2⟩ := V5.out.cells
    obtain ⟨f0, f1, f2⟩ := V5.out.free
    obtain ⟨c0, c1, c2⟩ := X5.out.cells
    obtain ⟨g0, g1, g2⟩ := X5.out.free
    go_wp2_with fail
    refine bodyPost_ret (v := .agg #[.int .i64 (R.key (⟨z, r.value, r.width⟩ : R)), .int .i64 (R.value (⟨z, r.value, r.width⟩ : R)), .int .i64 (R.width (⟨z, r.value, r.width⟩ : R))]) (by simp [results, Try.results63, go_sem, *]) rfl ⟨(⟨z, r.value, r.width⟩ : R), τ3, HR.out, rfl, H5.out.below BX.out hcl HA.out, O5.out.step BX.out⟩
  · have e0 : (v == 0) = false := beq_eq_false_iff_ne.2 v0
    by_cases v1 : v = 1
    · subst v1
      have H3 := Lib.hid (H2.out.alloc (.cells (([-1, 100, 99] : List Int).map (Value.int .i64)).toArray 3))
      have O4 := Lib.hid (O3.out.alloc (.cells (([-1, 100, 99] : List Int).map (Value.int .i64)).toArray 3))
      have V4 := Lib.hid (V3.out.alloc (.cells (([-1, 100, 99] : List Int).map (Value.int .i64)).toArray 3))
      have X4 := Lib.hid (X3.out.alloc (.cells (([-1, 100, 99] : List Int).map (Value.int .i64)).toArray 3))
      have I4 := Lib.hid (ints_alloc w2 [-1, 100, 99])
      go_wp2_with fail
      refine (pick_any a len cap zs _ c _ H3.out _ 3 3 [-1, 100, 99] I4.out hne4 rfl (by omega) (by omega)).mono ?_
      rintro e w3 ⟨z, τ3, hf3, rfl, hc3, ho3⟩
      have F3 := Lib.hid hf3
      have H5 := Lib.hid hc3
      have O5 := Lib.hid (O4.out.trans ho3)
      have V5 := Lib.hid (V4.out.only ho3 hne)
      have X5 := Lib.hid (X4.out.only ho3 hne1)
      have HR : Hid (anyS zs len σ = ((⟨r.key, z, r.width⟩ : R), τ3)) := by
        show _ = _
        unfold anyS
        rw [F1.out]
        simp only []
        rw [F2.out]
        simp only []
        rw [if_neg (by decide)]; first | rw [if_pos rfl] | rw [if_pos trivial]
        rw [F3.out]
      have BX : Hid (Below w.heap.size w3 ((((w3.setCell ⟨w1.heap.size, 1, none⟩ (.int .i64 z)).setCell ⟨w.heap.size, 0, none⟩ (.int .i64 (R.key (⟨r.key, z, r.width⟩ : R)))).setCell ⟨w.heap.size, 1, none⟩ (.int .i64 (R.value (⟨r.key, z, r.width⟩ : R)))).setCell ⟨w.heap.size, 2, none⟩ (.int .i64 (R.width (⟨r.key, z, r.width⟩ : R))))) :=
        below_set3 ((Below.refl _ _).setCell (p := ⟨w1.heap.size, 1, none⟩) (Nat.le_of_lt hlt1) _) (Nat.le_refl _) _ _ _ _ _ _
      clear hf3 hc3 ho3 H3 O4 V4 X4 I4
      obtain ⟨d0, d1, d2⟩ := V5.out.cells
      obtain ⟨f0, f1, f2⟩ := V5.out.free
      obtain ⟨c0, c1, c2⟩ := X5.out.cells
      obtain ⟨g0, g1, g2⟩ := X5.out.free
      go_wp2_with fail
      refine bodyPost_ret (v := .agg #[.int .i64 (R.key (⟨r.key, z, r.width⟩ : R)), .int .i64 (R.value (⟨r.key, z, r.width⟩ : R)), .int .i64 (R.width (⟨r.key, z, r.width⟩ : R))]) (by simp [results, Try.results63, go_sem, *]) rfl ⟨(⟨r.key, z, r.width⟩ : R), τ3, HR.out, rfl, H5.out.below BX.out hcl HA.out, O5.out.step BX.out⟩
    · have e1 : (v == 1) = false := beq_eq_false_iff_ne.2 v1
      by_cases v2 : v = 2
      · subst v2
        have H3 := Lib.hid (H2.out.alloc (.cells (([-1, 4] : List Int).map (Value.int .i64)).toArray 3))
        have O4 := Lib.hid (O3.out.alloc (.cells (([-1, 4] : List Int).map (Value.int .i64)).toArray 3))
        have V4 := Lib.hid (V3.out.alloc (.cells (([-1, 4] : List Int).map (Value.int .i64)).toArray 3))
        have X4 := Lib.hid (X3.out.alloc (.cells (([-1, 4] : List Int).map (Value.int .i64)).toArray 3))
        have I4 := Lib.hid (ints_alloc w2 [-1, 4])
        go_wp2_with fail
        refine (pick_any a len cap zs _ c _ H3.out _ 2 2 [-1, 4] I4.out hne4 rfl (by omega) (by omega)).mono ?_
        rintro e w3 ⟨z, τ3, hf3, rfl, hc3, ho3⟩
        have F3 := Lib.hid hf3
        have H5 := Lib.hid hc3
        have O5 := Lib.hid (O4.out.trans ho3)
        have V5 := Lib.hid (V4.out.only ho3 hne)
        have X5 := Lib.hid (X4.out.only ho3 hne1)
        have HR : Hid (anyS zs len σ = ((⟨r.key, r.value, z⟩ : R), τ3)) := by
          show _ = _
          unfold anyS
          rw [F1.out]
          simp only []
          rw [F2.out]
          simp only []
          rw [if_neg (by decide), if_neg (by decide)]; first | rw [if_pos rfl] | rw [if_pos trivial]
          rw [F3.out]
        have BX : Hid (Below w.heap.size w3 ((((w3.setCell ⟨w1.heap.size, 2, none⟩ (.int .i64 z)).setCell ⟨w.heap.size, 0, none⟩ (.int .i64 (R.key (⟨r.key, r.value, z⟩ : R)))).setCell ⟨w.heap.size, 1, none⟩ (.int .i64 (R.value (⟨r.key, r.value, z⟩ : R)))).setCell ⟨w.heap.size, 2, none⟩ (.int .i64 (R.width (⟨r.key, r.value, z⟩ : R))))) :=
          below_set3 ((Below.refl _ _).setCell (p := ⟨w1.heap.size, 2, none⟩) (Nat.le_of_lt hlt1) _) (Nat.le_refl _) _ _ _ _ _ _
        clear hf3 hc3 ho3 H3 O4 V4 X4 I4
        obtain ⟨d0, d1, d2⟩ := V5.out.cells
        obtain ⟨f0, f1, f2⟩ := V5.out.free
        obtain ⟨c0, c1, c2⟩ := X5.out.cells
        obtain ⟨g0, g1, g2⟩ := X5.out.free
        go_wp2_with fail
        refine bodyPost_ret (v := .agg #[.int .i64 (R.key (⟨r.key, r.value, z⟩ : R)), .int .i64 (R.value (⟨r.key, r.value, z⟩ : R)), .int .i64 (R.width (⟨r.key, r.value, z⟩ : R))]) (by simp [results, Try.results63, go_sem, *]) rfl ⟨(⟨r.key, r.value, z⟩ : R), τ3, HR.out, rfl, H5.out.below BX.out hcl HA.out, O5.out.step BX.out⟩
      · have e2 : (v == 2) = false := beq_eq_false_iff_ne.2 v2
        have HR : Hid (anyS zs len σ = (r, τ2)) := by
          show _ = _
          unfold anyS
          rw [F1.out]
          simp only []
          rw [F2.out]
          simp only []
          rw [if_neg v0, if_neg v1, if_neg v2]
        have BX : Hid (Below w.heap.size w2 (((w2.setCell ⟨w.heap.size, 0, none⟩ (.int .i64 r.key)).setCell ⟨w.heap.size, 1, none⟩ (.int .i64 r.value)).setCell ⟨w.heap.size, 2, none⟩ (.int .i64 r.width))) :=
          below_set3 (Below.refl _ _) (Nat.le_refl _) _ _ _ _ _ _
        clear v0 v1 v2
        obtain ⟨d0, d1, d2⟩ := V3.out.cells
        obtain ⟨f0, f1, f2⟩ := V3.out.free
        obtain ⟨c0, c1, c2⟩ := X3.out.cells
        go_wp2_with fail
        refine bodyPost_ret (v := .agg #[.int .i64 r.key, .int .i64 r.value, .int .i64 r.width]) (by simp [results, Try.results63, go_sem, *]) rfl ⟨r, τ2, HR.out, rfl, H2.out.below BX.out hcl HA.out, O3.out.step BX.out⟩
end Go.Proofs.Ytfionajnoaednaa
/- l2Rows, l2Bent: the rows that are drawn, as functions of the cursor's state. -/
namespace Go.Proofs.Ytfionajnoaednaa
open Go.RowKit
def Rowsed (F : Int × Int → List R × (Int × Int)) (a : Option Addr) (len cap : Nat) (zs : List Int) (σ : Int × Int) (c : Nat) (w : World) (e : Ending) (w' : World) : Prop :=
  ∃ (v : Value) (L : List R) (τ : Int × Int), F σ = (L, τ) ∧ e = .returned v ∧ w'.ownsRow w.heap.size 59 3 v L.length (cells3 L) ∧ Cur a len cap zs τ w' c ∧ Only c w w'
def keysL : List Int := [1, 2, 4, 10]
def rowsLoop (zs : List Int) (len : Nat) (keys : Int) : Nat → List R → Int × Int → List R × (Int × Int)
  | 0, l, σ => (l, σ)
  | n + 1, l, σ => rowsLoop zs len keys n (l ++ [(rowS zs len keys σ).1]) (rowS zs len keys σ).2
def rowsS (zs : List Int) (len : Nat) (most : Int) (σ : Int × Int) : List R × (Int × Int) :=
  let k := pickS zs len keysL σ
  let n := belowS zs len (most + 1) k.2
  rowsLoop zs len k.1 n.1.toNat [] n.2
theorem rowsLoop_length (zs : List Int) (len : Nat) (keys : Int) : ∀ (n : Nat) (l : List R) (σ : Int × Int), (rowsLoop zs len keys n l σ).1.length = l.length + n
  | 0, l, σ => rfl
  | n + 1, l, σ => by rw [rowsLoop, rowsLoop_length zs len keys n]; simp; omega
theorem rowsLoop_wf (zs : List Int) (len : Nat) (keys : Int) (h1 : 1 ≤ keys) (h2 : keys ≤ 1000000000) : ∀ (n : Nat) (l : List R) (σ : Int × Int), (∀ r ∈ l, r.wf) → ∀ r ∈ (rowsLoop zs len keys n l σ).1, r.wf
  | 0, l, σ, h => h
  | n + 1, l, σ, h => by
    rw [rowsLoop]
    refine rowsLoop_wf zs len keys h1 h2 n _ _ fun r hr => ?_
    rcases List.mem_append.1 hr with hr | hr
    · exact h r hr
    · rw [List.mem_singleton.1 hr]; exact rowS_wf zs len keys σ h1 h2
theorem keys_range (zs : List Int) (len : Nat) (σ : Int × Int) : 1 ≤ (pickS zs len keysL σ).1 ∧ (pickS zs len keysL σ).1 ≤ 10 := by
  have := pickS_mem zs len keysL σ (by decide)
  unfold keysL at this ⊢
  simp only [List.mem_cons, List.not_mem_nil, or_false] at this
  omega
theorem rowsS_length (zs : List Int) (len : Nat) (most : Int) (σ : Int × Int) (hm : 0 ≤ most) : ((rowsS zs len most σ).1.length : Int) ≤ most := by
  unfold rowsS
  simp only []
  rw [rowsLoop_length]
  have := belowS_fst zs len (most + 1) (pickS zs len keysL σ).2 (by omega)
  simp only [List.length_nil]; omega
theorem rowsS_wf (zs : List Int) (len : Nat) (most : Int) (σ : Int × Int) : ∀ r ∈ (rowsS zs len most σ).1, r.wf := by
  have hk := keys_range zs len σ
  unfold rowsS
  simp only []
  exact rowsLoop_wf zs len _ hk.1 (by omega) _ _ _ (fun r hr => by cases hr)
theorem own_onlyR {w w' : World} {B c : Nat} {v : Value} {n : Nat} {xs : List Value} (h : w.ownsRow B 59 3 v n xs) (ho : Only c w w') (hc : c < B) : w'.ownsRow B 59 3 v n xs :=
  h.kept ho (by
    cases hv : v.ownBlock with
    | none => exact .inl rfl
    | some k =>
      refine .inr fun e => ?_
      have := (h.lt k hv).1
      injection e with e
      omega)
set_option maxRecDepth 100000 in
theorem rows_any (a : Option Addr) (len cap : Nat) (zs : List Int) (σ : Int × Int) (c : Nat) (w : World) (hc : Cur a len cap zs σ w c) (halt : ∀ x, a = some x → 0 < cap → x.block < w.heap.size) (most : Int) (h0 : 0 ≤ most) (h1 : most ≤ 1000) :
    Calls Try.prog 44 #[.pointer (some ⟨c, 0, none⟩), .int .i64 most] w (Rowsed (rowsS zs len most) a len cap zs σ c w) := by
  have hb0 : Below w.heap.size w (w.alloc (.cells #[] 59)) := (Below.refl _ _).alloc (Nat.le_refl _) _
  have hcl := hc.lt
  have H0 := Lib.hid (hc.below hb0 hcl halt)
  have O0 := Lib.hid (Only.of_below (c := c) hb0)
  have W0 := Lib.hid (World.ownsRow_made (e := 59) (size := 3) (base := w.heap.size) w #[] 0 (Nat.le_refl _) (by unfold maxLen; omega) rfl)
  have HA := Lib.hid halt
  clear hc halt hb0
  have H1 := Lib.hid (H0.out.alloc (.cells (keysL.map (Value.int .i64)).toArray 3))
  have O1 := Lib.hid (O0.out.alloc (.cells (keysL.map (Value.int .i64)).toArray 3))
  have W1 := Lib.hid (W0.out.alloc (.cells (keysL.map (Value.int .i64)).toArray 3))
  have I1 := Lib.hid (ints_alloc (w.alloc (.cells #[] 59)) keysL)
  have hg : (w.alloc (.cells #[] 59)).heap.size = w.heap.size + 1 := by simp
  rw [hg] at I1
  have hne : ¬ w.heap.size + 1 = c := by omega
  clear hg
  go_enter Try.func44, Try.ntmps44
  go_wp2_with fail
  refine (pick_any a len cap zs _ c _ H1.out _ 4 4 keysL I1.out hne rfl (by omega) (by omega)).mono ?_
  rintro e w1 ⟨key, τ1, hf1, rfl, hc1, ho1⟩
  have hk := keys_range zs len σ
  rw [hf1] at hk
  obtain ⟨hk1, hk2⟩ := hk
  have F1 := Lib.hid hf1
  have H2 := Lib.hid hc1
  have O2 := Lib.hid (O1.out.trans ho1)
  have W2 := Lib.hid (own_onlyR W1.out ho1 hcl)
  clear hf1 hc1 ho1 H0 O0 W0 H1 O1 W1 I1
  go_wp2_with fail
  refine (below_any a len cap zs _ c _ H2.out (most + 1) (by omega) (by omega)).mono ?_
  rintro e w2 ⟨cnt, τ2, hf2, rfl, hc2, ho2⟩
  obtain ⟨hn0, hn1⟩ := belowS_range (by omega) hf2
  have F2 := Lib.hid hf2
  have H3 := Lib.hid hc2
  have O3 := Lib.hid (O2.out.trans ho2)
  have W3 := Lib.hid (own_onlyR W2.out ho2 hcl)
  have HT : Hid (rowsS zs len most σ = rowsLoop zs len key cnt.toNat [] τ2) := by show _ = _; unfold rowsS; rw [F1.out]; simp only []; rw [F2.out]
  clear hf2 hc2 ho2 H2 O2 W2
  go_wp2_with fail
  go_loopw [5, 7] (fun v i wr => ∃ (k : Int) (x : Value) (l : List R) (τ : Int × Int), i = .int .i64 k ∧ x = v ∧ 0 ≤ k ∧ k ≤ most ∧ Hid ((l.length : Int) + k ≤ most) ∧ Hid (wr.ownsRow w.heap.size 59 3 x l.length (cells3 l)) ∧ Hid (Cur a len cap zs τ wr c) ∧ Hid (Only c w wr) ∧ Hid (rowsS zs len most σ = rowsLoop zs len key k.toNat l τ)) (fun _ i _ => (intOf i).toNat)
  case atStart => exact ⟨cnt, _, [], τ2, rfl, rfl, hn0, by omega, by show ((0 : Nat) : Int) + cnt ≤ most; omega, W3, H3, O3, HT⟩
  case round =>
    obtain ⟨k, x, l, τ, rfl, rfl, hk0, hkm, hlk, hown, hcur, honly, hTL⟩ := hrel
    by_cases hk : 0 < k
    · have HAr := Lib.hid fun y hy hp => Nat.lt_of_lt_of_le (HA.out y hy hp) honly.out.size
      go_wp2_with fail
      refine (row_any a len cap zs _ c _ hcur.out HAr.out key hk1 (by omega)).mono ?_
      rintro e w3 ⟨r, τ3, hf3, rfl, hc3, ho3⟩
      have F3 := Lib.hid hf3
      have HS : Hid (rowsS zs len most σ = rowsLoop zs len key (k - 1).toNat (l ++ [r]) τ3) := by
        show _ = _
        rw [hTL.out, show k.toNat = (k - 1).toNat + 1 by omega, rowsLoop, F3.out]
      have H4 := Lib.hid hc3
      have O4 := Lib.hid (honly.out.trans ho3)
      have W4 := Lib.hid (own_onlyR hown.out ho3 hcl)
      have hsz := O4.out.size
      have hll : l.length ≤ 1000 := by have := hlk.out; omega
      clear hf3 hc3 ho3 hcur honly hown
      go_wp2_with (at_builtin; refine wpList_pushR (.tmp 20) (.tmp 24) r w3.heap.size rfl rfl rfl rfl rfl W4.out hsz (by omega) ?_; intro v4 w4 hown4 hb4 hrest4)
      go_roundw
      case rel =>
        refine ⟨k - 1, _, _, τ3, by go_num, rfl, by omega, by omega, ?_, hown4, H4.out.below hb4 hcl fun x hx hp => HA.out x hx hp, O4.out.step hb4, HS⟩
        show _ ≤ _
        have := hlk.out
        rw [List.length_append, List.length_singleton]; omega
      case measure => simp [intOf]; omega
    · have hk00 : k = 0 := by omega
      have HF : Hid (rowsS zs len most σ = (l, τ)) := by show _ = _; rw [hTL.out, hk00]; rfl
      clear hk00
      go_wp2_with fail
      go_ret
      exact ⟨_, l, τ, HF.out, rfl, hown.out, hcur.out, honly.out⟩
def bentS (zs : List Int) (len : Nat) (most : Int) (σ : Int × Int) : List R × (Int × Int) :=
  let l := rowsS zs len most σ
  let v := belowS zs len 14 l.2
  if v.1 = 0 then (l.1 ++ [(anyS zs len v.2).1], (anyS zs len v.2).2) else (l.1, v.2)
theorem bentS_length (zs : List Int) (len : Nat) (most : Int) (σ : Int × Int) (hm : 0 ≤ most) : ((bentS zs len most σ).1.length : Int) ≤ most + 1 := by
  have := rowsS_length zs len most σ hm
  unfold bentS
  simp only []
  split
  · rw [List.length_append, List.length_singleton]; omega
  · simp only []; omega
theorem bentS_wf (zs : List Int) (len : Nat) (most : Int) (σ : Int × Int) : ∀ r ∈ (bentS zs len most σ).1, r.wf := by
  have h := rowsS_wf zs len most σ
  unfold bentS
  simp only []
  split
  · intro r hr
    rcases List.mem_append.1 hr with hr | hr
    · exact h r hr
    · rw [List.mem_singleton.1 hr]; exact anyS_wf zs len _
  · exact h
set_option maxRecDepth 100000 in
theorem bent_any (a : Option Addr) (len cap : Nat) (zs : List Int) (σ : Int × Int) (c : Nat) (w : World) (hc : Cur a len cap zs σ w c) (halt : ∀ x, a = some x → 0 < cap → x.block < w.heap.size) (most : Int) (h0 : 0 ≤ most) (h1 : most ≤ 1000) :
    Calls Try.prog 42 #[.pointer (some ⟨c, 0, none⟩), .int .i64 most] w (Rowsed (bentS zs len most) a len cap zs σ c w) := by
  have hcl := hc.lt
  have H0 := Lib.hid hc
  have HA := Lib.hid halt
  clear hc halt
  go_enter Try.func42, Try.ntmps42
  go_wp2_with fail
  refine (rows_any a len cap zs _ c _ H0.out HA.out most h0 h1).mono ?_
  rintro e w1 ⟨v, L, τ1, hf1, rfl, hw1, hc1, ho1⟩
  have hll := rowsS_length zs len most σ h0
  rw [hf1] at hll
  have hl1 : L.length ≤ 1000 := by
    have : (L.length : Int) ≤ most := hll
    omega
  clear hll
  have F1 := Lib.hid hf1
  have H1 := Lib.hid hc1
  have O1 := Lib.hid ho1
  have W1 := Lib.hid hw1
  clear hf1 hc1 ho1 hw1
  go_wp2_with fail
  refine (once_any a len cap zs _ c _ H1.out 14 (by omega) (by omega)).mono ?_
  rintro e w2 ⟨x, τ2, hf2, rfl, hc2, ho2⟩
  have F2 := Lib.hid hf2
  have H2 := Lib.hid hc2
  have O2 := Lib.hid (O1.out.trans ho2)
  have W2 := Lib.hid (own_onlyR W1.out ho2 hcl)
  clear hf2 hc2 ho2 H1 O1 W1
  by_cases hx : x = 0
  · subst hx
    have HA2 := Lib.hid fun y hy hp => Nat.lt_of_lt_of_le (HA.out y hy hp) O2.out.size
    go_wp2_with fail
    refine (any_any a len cap zs _ c _ H2.out HA2.out).mono ?_
    rintro e w3 ⟨r, τ3, hf3, rfl, hc3, ho3⟩
    have HR : Hid (bentS zs len most σ = (L ++ [r], τ3)) := by
      show _ = _
      unfold bentS
      rw [F1.out]
      simp only []
      rw [F2.out]
      simp only []
      first | rw [if_pos rfl] | rw [if_pos trivial]
      rw [hf3]
    have H3 := Lib.hid hc3
    have O3 := Lib.hid (O2.out.trans ho3)
    have W3 := Lib.hid (own_onlyR W2.out ho3 hcl)
    have hsz := O3.out.size
    clear hf3 hc3 ho3 H2 O2 W2
    go_wp2_with (at_builtin; refine wpList_pushR (.tmp 11) (.tmp 14) r w3.heap.size rfl rfl rfl rfl rfl W3.out hsz (by omega) ?_; intro v4 w4 hown4 hb4 hrest4)
    go_ret
    exact ⟨_, _, τ3, HR.out, rfl, hown4, H3.out.below hb4 hcl fun x hx hp => HA.out x hx hp, O3.out.step hb4⟩
  · have hd : (x == 0) = false := beq_eq_false_iff_ne.2 hx
    have HR : Hid (bentS zs len most σ = (L, τ2)) := by
      show _ = _
      unfold bentS
      rw [F1.out]
      simp only []
      rw [F2.out]
      simp only []
      rw [if_neg hx]
    clear hx
    go_wp2_with fail
    go_ret
    exact ⟨_, L, τ2, HR.out, rfl, W2.out, H2.out, O2.out⟩
end Go.Proofs.Ytfionajnoaednaa
/- One slice of rows, as a law's draw gives it. -/
namespace Go.Proofs.Ytfionajnoaednaa
open Go.RowKit
def OneRows (w : World) (e : Ending) (w' : World) : Prop := ∃ (x : Option Addr) (n m : Nat) (L : List R), e = .returned (.slice x n m) ∧ n ≤ 1000 ∧ (∀ r ∈ L, r.wf) ∧ IsRows w' x n L ∧ Below w.heap.size w w'
end Go.Proofs.Ytfionajnoaednaa
/- DrawReferenceJoin: what it gives. -/
namespace Go.Proofs.Ytfionajnoaednaa
open Go.RowKit
def IntRows2 (w : World) (e : Ending) (w' : World) : Prop := ∃ (k : Int) (x y : Value) (L M : List R), e = .returned (.tuple #[.int .i64 k, x, y]) ∧ L.length ≤ 901 ∧ M.length ≤ 901 ∧ (∀ r ∈ L, r.wf) ∧ (∀ r ∈ M, r.wf) ∧ w'.ownsRow w.heap.size 59 3 x L.length (cells3 L) ∧ w'.ownsRow w.heap.size 59 3 y M.length (cells3 M) ∧ (∀ b, x.ownBlock = some b → y.ownBlock ≠ some b) ∧ Below w.heap.size w w'
end Go.Proofs.Ytfionajnoaednaa
/- States told by trees: calls whose answer is one of several, rows that are drawn, a law's bytes. -/
namespace Go.Proofs.Ytfionajnoaednaa.V
open Go Go.RowKit
set_option linter.unusedVariables false
variable {P : Program} {E : Env} {N nb : Nat} {σ σ' τ : VS} {o : Oper} {a : Act} {w : World} {G : Ghost} {Q : Exit → Act → World → Prop} {K : Act → World → Prop}
def VCE {Y : Type} (Φ : World → Prop) (Pr : Y → Prop) (P : Program) (f : FuncId) (ins : List (Bool × List T)) (tup : Bool) (rs : Y → List (Bool × List T)) : Prop := ∀ (w : World), Φ w → ∀ (vs : List Value), ArgsIn (Env.of w) w ins vs → Calls P f vs.toArray w fun e w' => ∃ y, Pr y ∧ Gives (Env.of w) tup (rs y) e w'
theorem SV.callE {Y : Type} {Φ : World → Prop} {Pr : Y → Prop} (hD : E.keeps Φ) {d : Nat} {f : FuncId} {xs : List Operand} {ats : Array TypeId} {qs : List (Bool × List T)} {tup : Bool} {rs : Y → List (Bool × List T)} {rest : List Oper} {ops : Array Oper} (ho : o.op = .call { callee := .value (.func f), args := xs.toArray, argTypes := ats }) (hb : ∃ fn c, P.funcs[f]? = some fn ∧ fn.body = some c ∧ fn.name ≠ "runtime.NumGoroutine")
    (hc : VCE Φ Pr P f qs tup rs) (hx : σ.argss xs qs) (hd : o.dst = some d) (hdN : d < N) (hg : o.guard = none) (k : ∀ y, Pr y → SV E N ((ansSs σ (rs y)).put d ⟨tup, ansLs σ.nx (rs y)⟩) (wpList P ops Q rest)) : SV E N σ (wpList P ops Q (o :: rest)) := fun a w G h => by
  refine wpList_step fun K hK => ?_
  rw [if_pos (by simp [Region.wanted, hg])]
  obtain ⟨fn, c, h1, h2, h2'⟩ := hb
  have hcall := hc w (hD.at h.below) (xs.map a.eval) (h.args hx)
  have hrun : (execOp a.eval o).run P w = .ok (.enter f (xs.map a.eval).toArray) w := by
    simp [execOp, ho, resolve, Act.eval, Deferred.ofValue, invoke, callFunc, h1, h2, h2', Result.andThen]
  unfold Oper.wp
  rw [hrun]
  refine hcall.mono fun e w' ⟨y0, hy0, uss, F, h3, h4, h5, h6, h6', h7'⟩ => ?_
  have h7 : Below w.heap.size w w' := ⟨h7'.os, h7'.tape, h7'.output, h7'.size, fun k hk => h7'.block k (Env.of_old.2 hk)⟩
  subst h4
  have h' := h.ext h7
  obtain ⟨G', k1, k2, k3, k4, k5, k6, k7, k8⟩ := h'.addAlls (rs y0) uss F h3 (fun c ag ts us hc hu => ⟨(h5 c ag ts us hc hu).1, fun j t u hj hu' => (h5 c ag ts us hc hu).2 j t u hj hu'⟩) (fun c j b hb => by
    have hbw : w.heap.size ≤ b := (h6' c j b hb).1.elim id fun h => h.elim
    exact ⟨⟨fun i hi hf => by have := (h.ftlt i b hi hf).2; omega, (h.fresh hbw).2⟩, .inl (Nat.le_trans h.low hbw), (h6' c j b hb).2⟩) h6
  rw [hd]
  refine hK _ _ (k y0 hy0 _ _ _ (k1.put hdN ⟨uss, h3.trans k3.symm, ?_, fun c ag xs us hc hu => ⟨(k4 c ag xs us hc hu).1, (k4 c ag xs us hc hu).2.2⟩⟩))
  congr 1
  apply List.ext_getElem?
  intro c
  rw [List.getElem?_zipWith, List.getElem?_zipWith]
  cases hq : (ansLs σ.nx (rs y0))[c]? with
  | none =>
    have : (rs y0)[c]? = none := by rw [List.getElem?_eq_none_iff] at hq ⊢; omega
    rw [this]
  | some q =>
    obtain ⟨ag, xs'⟩ := q
    have hcl : c < uss.length := by have := get_lt hq; omega
    obtain ⟨-, ⟨ts, hts⟩, -⟩ := k4 c ag xs' uss[c] hq (List.getElem?_eq_getElem hcl)
    rw [hts, List.getElem?_eq_getElem hcl]
theorem own_rows {w : World} {B : Nat} {v : Value} {L : List R} (h : w.ownsRow B 59 3 v L.length (cells3 L)) : Own w 0 (.seq 59 (L.map tRow)) v (fun b => v.ownBlock = some b) := by
  have hc : ∀ (k j : Nat) (e : List T) (t : T) (u : Value), (L.map tRow)[k]? = some e → e[j]? = some t → (cells3 L)[k * 3 + j]? = some u → t = .lit u ∧ u.oneCell' = true := fun k j e t u h1 h2 h3 => by
    rw [List.getElem?_map] at h1
    obtain ⟨r, hr, rfl⟩ := Option.map_eq_some_iff.1 h1
    have hk := get_lt hr
    obtain ⟨e0, e1, e2⟩ := cells3_get L k hk
    have hd : L.getD k R.zero = r := by simp [List.getD, hr]
    rw [hd] at e0 e1 e2
    match j, h2, h3 with
    | 0, h2, h3 => cases h2; rw [Nat.add_zero, e0] at h3; cases h3; exact ⟨rfl, rfl⟩
    | 1, h2, h3 => cases h2; rw [e1] at h3; cases h3; exact ⟨rfl, rfl⟩
    | 2, h2, h3 => cases h2; rw [e2] at h3; cases h3; exact ⟨rfl, rfl⟩
  refine .seq 3 (by decide) sz_impl_Row (fun e he => by obtain ⟨x, -, rfl⟩ := List.mem_map.1 he; rfl) (cells3 L) (by rw [List.length_map]; exact ownsRow_lower h (Nat.zero_le _)) (fun _ _ => False) (fun k e j t u h1 h2 h3 => ?_) (fun u hu => ?_) (fun b hb => hb) (fun q b hb => hb.elim) (fun q b hb => hb.elim) fun q q' b hb => hb.elim
  · obtain ⟨rfl, ho⟩ := hc k j e t u h1 h2 h3
    exact .lit ho
  · obtain ⟨r, -, hr⟩ := List.mem_flatMap.1 (show u ∈ L.flatMap fun r => [.int .i64 r.key, .int .i64 r.value, .int .i64 r.width] from hu)
    simp at hr
    rcases hr with rfl | rfl | rfl <;> rfl
end Go.Proofs.Ytfionajnoaednaa.V
/- States told by trees: functions that draw from a cursor: a pinned box holds it. -/
namespace Go.Proofs.Ytfionajnoaednaa.V
open Go Go.RowKit
set_option linter.unusedVariables false
variable {P : Program} {E : Env} {N nb : Nat} {σ σ' τ : VS} {o : Oper} {a : Act} {w : World} {G : Ghost} {Q : Exit → Act → World → Prop} {K : Act → World → Prop} {ad : Option Addr} {len cap : Nat} {zs : List Int}
def Env.code (E : Env) (ad : Option Addr) (len cap : Nat) (zs : List Int) : Prop := Code ad len cap zs E.w0 ∧ ∀ x, ad = some x → 0 < cap → ¬ E.ln x.block
theorem Env.code.at (h : E.code ad len cap zs) (hs : Same E E.w0 w) : Code ad len cap zs w :=
  ⟨h.1.row.keep fun x hx hp _ => hs.block x.block ⟨h.1.old x hx hp, h.2 x hx hp⟩, h.1.small, fun x hx hp => Nat.lt_of_lt_of_le (h.1.old x hx hp) hs.size⟩
def curL (ad : Option Addr) (len cap : Nat) (p h : Int) : List Leaf := [.sc (.slice ad len cap), .sc (.int .i64 p), .sc (.int .i64 h)]
def GivesC (w : World) (c : Nat) (tup : Bool) (rs : List (Bool × List T)) (e : Ending) (w' : World) : Prop :=
  ∃ (uss : List (List Value)) (F : Nat → Nat → Nat → Prop), uss.length = rs.length ∧ e = .returned (vval tup (List.zipWith (fun r us => cval r.1 us) rs uss)) ∧
    (∀ (c' : Nat) (ag : Bool) (ts : List T) (us : List Value), rs[c']? = some (ag, ts) → uss[c']? = some us → us.length = ts.length ∧ ∀ (j : Nat) (t : T) (u : Value), ts[j]? = some t → us[j]? = some u → Own w' 0 t u (F c' j)) ∧
    (∀ c1 j c2 j' b, F c1 j b → F c2 j' b → c1 = c2 ∧ j = j') ∧ (∀ c1 j b, F c1 j b → w.heap.size ≤ b ∧ b < w'.heap.size) ∧ Only c w w'
def VK {Y : Type} (ad : Option Addr) (len cap : Nat) (zs : List Int) (Pr : Y → Prop) (P : Program) (f : FuncId) (xs : List Value) (tup : Bool) (rs : Y → List (Bool × List T)) : Prop :=
  ∀ (w : World) (c : Nat) (σ : Int × Int), Code ad len cap zs w → Cur ad len cap zs σ w c → Calls P f (Value.pointer (some ⟨c, 0, none⟩) :: xs).toArray w fun e w' => ∃ y τ, Pr y ∧ Cur ad len cap zs τ w' c ∧ GivesC w c tup (rs y) e w'
theorem givesC_lit {c : Nat} {w' : World} {v : Value} (h1 : v.oneCell' = true) (h : Only c w w') : GivesC w c false [(false, [.lit v])] (.returned v) w' :=
  ⟨[[v]], fun _ _ _ => False, rfl, rfl, fun c' ag ts us hc hu => by
    match c', hc, hu with
    | 0, hc, hu => cases hc; cases hu; exact ⟨rfl, fun j t u h2 h3 => by match j, h2, h3 with | 0, h2, h3 => cases h2; cases h3; exact .lit h1⟩, fun _ _ _ _ _ h => h.elim, fun _ _ _ h => h.elim, h⟩
theorem givesC_rows {c : Nat} {w' : World} {v : Value} {L : List R} (ho : w'.ownsRow w.heap.size 59 3 v L.length (cells3 L)) (h : Only c w w') : GivesC w c false [(false, [.seq 59 (L.map tRow)])] (.returned v) w' :=
  ⟨[[v]], fun c1 j b => c1 = 0 ∧ j = 0 ∧ v.ownBlock = some b, rfl, rfl, fun c' ag ts us hc hu => by
    match c', hc, hu with
    | 0, hc, hu => cases hc; cases hu; exact ⟨rfl, fun j t u h2 h3 => by match j, h2, h3 with | 0, h2, h3 => cases h2; cases h3; exact (own_rows ho).mono fun b hb => ⟨rfl, rfl, hb⟩⟩, fun _ _ _ _ _ h h' => ⟨h.1.trans h'.1.symm, h.2.1.trans h'.2.1.symm⟩, fun _ _ b h => World.ownsRow.lt ho b h.2.2, h⟩
theorem vk_below (n : Int) (h1 : 1 ≤ n) (h2 : n ≤ 1000000000) : VK ad len cap zs (fun x : Int => 0 ≤ x ∧ x < n) Try.prog 64 [.int .i64 n] false fun x => [(false, [.lit (.int .i64 x)])] := fun w c σ hC hc =>
  (below_any ad len cap zs σ c w hc n h1 h2).mono fun e w' ⟨x, τ, hf, he, hc', ho⟩ => ⟨x, τ, belowS_range h1 hf, hc', by rw [he]; exact givesC_lit rfl ho⟩
theorem vk_once (n : Int) (h1 : 1 ≤ n) (h2 : n ≤ 1000000000) : VK ad len cap zs (fun _ : Bool => True) Try.prog 43 [.int .i64 n] false fun x => [(false, [.lit (.bool x)])] := fun w c σ hC hc =>
  (once_any ad len cap zs σ c w hc n h1 h2).mono fun e w' ⟨x, τ, hf, he, hc', ho⟩ => ⟨x == 0, τ, trivial, hc', by rw [he]; exact givesC_lit rfl ho⟩
theorem vk_rows (n : Int) (h1 : 0 ≤ n) (h2 : n ≤ 1000) : VK ad len cap zs (fun L : List R => (L.length : Int) ≤ n ∧ ∀ r ∈ L, r.wf) Try.prog 44 [.int .i64 n] false fun L => [(false, [.seq 59 (L.map tRow)])] := fun w c σ hC hc =>
  (rows_any ad len cap zs σ c w hc hC.old n h1 h2).mono fun e w' ⟨v, L, τ, hf, he, hw, hc', ho⟩ => ⟨L, τ, ⟨by have := rowsS_length zs len n σ h1; rwa [hf] at this, by have := rowsS_wf zs len n σ; rwa [hf] at this⟩, hc', by rw [he]; exact givesC_rows hw ho⟩
theorem vk_bent (n : Int) (h1 : 0 ≤ n) (h2 : n ≤ 900) : VK ad len cap zs (fun L : List R => (L.length : Int) ≤ n + 1 ∧ ∀ r ∈ L, r.wf) Try.prog 42 [.int .i64 n] false fun L => [(false, [.seq 59 (L.map tRow)])] := fun w c σ hC hc =>
  (bent_any ad len cap zs σ c w hc hC.old n h1 (by omega)).mono fun e w' ⟨v, L, τ, hf, he, hw, hc', ho⟩ => ⟨L, τ, ⟨by have := bentS_length zs len n σ h1; rwa [hf] at this, by have := bentS_wf zs len n σ; rwa [hf] at this⟩, hc', by rw [he]; exact givesC_rows hw ho⟩
theorem Rel.answer (h : Rel E N σ a w G) {fn : Func} {rs : List ResultVar} {ps : List (Bool × List Leaf)} {tup : Bool} {qs : List (Bool × List T)} (hf : fn.results = rs.toArray) (hr : ResAll P σ rs ps) (ho : σ.outss ps qs) (ht : (!(Nat.beq qs.length 1)) = tup) (h2 : (ps.flatMap (·.2)).Pairwise two) : a.defers = [] ∧ ∃ v, (results fn a.tmps).run P w = .ok v w ∧ ∃ (uss : List (List Value)) (F : Nat → Nat → Nat → Prop), uss.length = qs.length ∧ Ending.returned v = .returned (vval tup (List.zipWith (fun (r : Bool × List T) us => cval r.1 us) qs uss)) ∧
    (∀ (c : Nat) (ag : Bool) (ts : List T) (us : List Value), qs[c]? = some (ag, ts) → uss[c]? = some us → us.length = ts.length ∧ ∀ (j : Nat) (t : T) (u : Value), ts[j]? = some t → us[j]? = some u → Own w 0 t u (F c j)) ∧
    (∀ c j c' j' b, F c j b → F c' j' b → c = c' ∧ j = j') ∧ ∀ c j b, F c j b → ∃ i, σ.ob i ≠ none ∧ G.ft i b := by
  obtain ⟨uss, h3, h4, h5⟩ := h.resAll hr
  obtain ⟨h6, h7⟩ := outss_get ho
  have hrun := results_run hf h4
  have hlen : (List.zipWith (fun (p : Bool × List Leaf) us => cval p.1 us) ps uss).length = qs.length := by simp [h3, h6]
  have hag : ∀ c ag ts, qs[c]? = some (ag, ts) → ∃ xs, ps[c]? = some (ag, xs) ∧ σ.outs xs ts := h7
  have hzip : List.zipWith (fun (p : Bool × List Leaf) us => cval p.1 us) ps uss = List.zipWith (fun (q : Bool × List T) us => cval q.1 us) qs uss := by
    apply List.ext_getElem?
    intro c
    rw [List.getElem?_zipWith, List.getElem?_zipWith]
    cases hq : qs[c]? with
    | none =>
      have : ps[c]? = none := by rw [List.getElem?_eq_none_iff] at hq ⊢; omega
      rw [this]
    | some q =>
      obtain ⟨ag, ts⟩ := q
      obtain ⟨xs, hp, -⟩ := hag c ag ts hq
      rw [hp]
      cases uss[c]? <;> rfl
  rw [hlen, ht, hzip] at hrun
  refine ⟨h.dfr, _, hrun, uss, (fun c j b => ∃ ag xs x, ps[c]? = some (ag, xs) ∧ xs[j]? = some x ∧ x.foot G b), h3.trans h6, rfl, fun c ag ts us hq hu => ?_, ?_, ?_⟩
  · obtain ⟨xs, hp, hx⟩ := hag c ag ts hq
    obtain ⟨h8, h9⟩ := outs_get hx
    obtain ⟨h10, h11⟩ := h5 c ag xs us hp hu
    refine ⟨h10.trans h8, fun j t u hj hu' => ?_⟩
    obtain ⟨x, hx1, hx2⟩ := h9 j t hj
    exact (h.out (h11 j x u hx1 hu') hx2).mono fun b hb => ⟨ag, xs, x, hp, hx1, hb⟩
  · rintro c j c' j' b ⟨ag, xs, x, h8, h9, h10⟩ ⟨ag', xs', x', h8', h9', h10'⟩
    have key : ∀ {x x' : Leaf}, x.foot G b → x'.foot G b → (∃ t, σ.out x = some t) → (∃ t, σ.out x' = some t) → ¬ two x x' := fun {x x'} k1 k2 k3 k4 k5 => by
      cases x with
      | hd i =>
        cases x' with
        | hd i' =>
          by_cases hii : i = i'
          · exact k5 i rfl (by rw [hii])
          · obtain ⟨t, k3⟩ := k3
            obtain ⟨t', k4⟩ := k4
            obtain ⟨p, e1, -⟩ := Option.map_eq_some_iff.1 k3
            obtain ⟨p', e2, -⟩ := Option.map_eq_some_iff.1 k4
            exact h.disj i i' b (by rw [e1]; simp) (by rw [e2]; simp) hii k1 k2
        | _ => exact k2
      | _ => exact k1
    have hout : ∀ {c j ag xs x}, ps[c]? = some (ag, xs) → xs[j]? = some x → ∃ t, σ.out x = some t := fun {c j ag xs x} k1 k2 => by
      have hc : c < qs.length := by rw [← h6]; exact get_lt k1
      obtain ⟨xs', k3, k4⟩ := hag c qs[c].1 qs[c].2 (by rw [List.getElem?_eq_getElem hc])
      rw [k1] at k3
      cases k3
      obtain ⟨k5, k6⟩ := outs_get k4
      have hj : j < qs[c].2.length := by rw [← k5]; exact get_lt k2
      obtain ⟨y, k7, k8⟩ := k6 j qs[c].2[j] (List.getElem?_eq_getElem hj)
      rw [k2] at k7
      cases k7
      exact ⟨_, k8⟩
    rw [List.pairwise_flatMap] at h2
    have o1 := hout h8 h9
    have o2 := hout h8' h9'
    have hc1 := get_lt h8
    have hc2 := get_lt h8'
    have g1 : ps[c] = (ag, xs) := by rw [List.getElem?_eq_getElem hc1] at h8; exact Option.some.inj h8
    have g2 : ps[c'] = (ag', xs') := by rw [List.getElem?_eq_getElem hc2] at h8'; exact Option.some.inj h8'
    have m1 := get_mem h9
    have m2 := get_mem h9'
    rcases Nat.lt_trichotomy c c' with hcc | hcc | hcc
    · have := (List.pairwise_iff_getElem.1 h2.2) c c' hc1 hc2 hcc x (by rw [g1]; exact m1) x' (by rw [g2]; exact m2)
      exact absurd this (key h10 h10' o1 o2)
    · subst hcc
      rw [h8] at h8'
      cases h8'
      refine ⟨rfl, ?_⟩
      have hp := h2.1 _ (get_mem h8)
      have hj1 := get_lt h9
      have hj2 := get_lt h9'
      have x1 : xs[j] = x := by rw [List.getElem?_eq_getElem hj1] at h9; exact Option.some.inj h9
      have x2 : xs[j'] = x' := by rw [List.getElem?_eq_getElem hj2] at h9'; exact Option.some.inj h9'
      rcases Nat.lt_trichotomy j j' with hjj | hjj | hjj
      · have := (List.pairwise_iff_getElem.1 hp) j j' hj1 hj2 hjj
        rw [x1, x2] at this
        exact absurd this (key h10 h10' o1 o2)
      · exact hjj
      · have := (List.pairwise_iff_getElem.1 hp) j' j hj2 hj1 hjj
        rw [x1, x2] at this
        exact absurd this (key h10' h10 o2 o1)
    · have := (List.pairwise_iff_getElem.1 h2.2) c' c hc2 hc1 hcc x' (by rw [g2]; exact m2) x (by rw [g1]; exact m1)
      exact absurd this (key h10' h10 o2 o1)
  · rintro c j b ⟨ag, xs, x, h8, h9, h10⟩
    have hc : c < qs.length := by rw [← h6]; exact get_lt h8
    obtain ⟨xs', k3, k4⟩ := hag c qs[c].1 qs[c].2 (by rw [List.getElem?_eq_getElem hc])
    rw [h8] at k3
    cases k3
    obtain ⟨k5, k6⟩ := outs_get k4
    have hj : j < qs[c].2.length := by rw [← k5]; exact get_lt h9
    obtain ⟨y, k7, k8⟩ := k6 j qs[c].2[j] (List.getElem?_eq_getElem hj)
    rw [h9] at k7
    cases k7
    cases x with
    | hd i =>
      obtain ⟨p, e1, -⟩ := Option.map_eq_some_iff.1 k8
      exact ⟨i, by rw [e1]; simp, h10⟩
    | _ => exact h10.elim
theorem Rel.newbox (h : Rel E N σ a w G) {w' : World} {c : Nat} (hb : Below w.heap.size w w') (hge : w.heap.size ≤ c) {ty : TypeId} {us : List Value} {xs : List Leaf} (hnew : w'.heap[c]? = some (.cells us.toArray ty (0, 0))) (hl : us.length = xs.length) (hx : ∀ (j : Nat) (x : Leaf) (u : Value), xs[j]? = some x → us[j]? = some u → Holds G σ E w x u ∧ u.oneCell' = true) :
    ∃ G', Rel E N { σ with bs := σ.bs ++ [(ty, xs)] } a w' G' ∧ G'.β σ.bs.length = c ∧ G'.vl = G.vl ∧ ∀ b, b < σ.bs.length → G'.β b = G.β b := by
  have h' := h.ext hb
  have hlt : ∀ b ty xs, σ.bs[b]? = some (ty, xs) → G.β b < w.heap.size := fun b ty xs hb => by
    obtain ⟨-, us, h2, -⟩ := h.boxes b ty xs hb
    exact lt_of_block h2
  have hlt' : ∀ b, b < σ.bs.length → G.β b < w.heap.size := fun b hb => hlt b _ _ (List.getElem?_eq_getElem hb)
  obtain ⟨G', hG'⟩ : ∃ G' : Ghost, G' = { G with β := fun b => if b = σ.bs.length then c else G.β b } := ⟨_, rfl⟩
  have hβ : ∀ b, b < σ.bs.length → G'.β b = G.β b := fun b hb => by rw [hG']; exact if_neg (by omega)
  have hβ' : G'.β σ.bs.length = c := by rw [hG']; exact if_pos rfl
  have hvl : G'.vl = G.vl := by rw [hG']
  have hft : G'.ft = G.ft := by rw [hG']
  have s : Step E σ { σ with bs := σ.bs ++ [(ty, xs)] } w' w' G G' := ⟨Nat.le_refl _, fun b hb' => rfl, Nat.le_refl _, by simp, fun i _ => by rw [hvl], hβ,
    fun i v' t' hi hv => ⟨v', t', hv, Nat.le_refl _, fun _ => ⟨rfl, fun b hb' => (h'.ftlt i b (by rw [show σ.ob i = some (v', t') from hv]; simp) hb').2, fun b hb' => ⟨by rw [hft]; exact hb', rfl⟩⟩⟩⟩
  refine ⟨G', ⟨h'.below, h.dfr, h.nsz, fun k => (h'.tmps k).step fun x u hx => h'.leaf s hx, fun b ty' xs' hb' => ?_, fun b b' hb1 hb2 e => ?_, fun b i hb1 hi hb2 => ?_, fun i v t hi => ?_, ?_, ?_, ⟨h.lent.1, fun i hi => by rw [hvl]; exact h.lent.2.1 i hi, fun c' hc => ⟨by simp, (hβ 0 (h.lent.2.2 c' hc).1).trans (h.lent.2.2 c' hc).2⟩⟩⟩, hβ', hvl, hβ⟩
  · rcases Nat.lt_or_ge b σ.bs.length with hbl | hbl
    · have hb2 : σ.bs[b]? = some (ty', xs') := by rw [List.getElem?_append_left hbl] at hb'; exact hb'
      obtain ⟨h1, us', h2, h3, h4⟩ := h'.boxes b ty' xs' hb2
      rw [hβ b hbl]
      exact ⟨h1, us', h2, h3, fun j x u hx' hu => ⟨h'.leaf s (h4 j x u hx' hu).1, (h4 j x u hx' hu).2⟩⟩
    · have hbe : b = σ.bs.length := by have := get_lt hb'; simp at this; omega
      subst hbe
      have he : (ty, xs) = (ty', xs') := by simpa using hb'
      injection he with e1 e2
      subst e1 e2
      rw [hβ']
      refine ⟨.inl (Nat.le_trans h.low hge), us, hnew, hl, fun j x u hx' hu => ⟨?_, (hx j x u hx' hu).2⟩⟩
      have s0 : Step E σ σ w w' G G := ⟨hb.size, fun b hb' => hb.block b (Nat.lt_of_lt_of_le hb'.1 h.low), Nat.le_refl _, Nat.le_refl _, fun _ _ => rfl, fun _ _ => rfl,
        fun i v' t' hi hv => ⟨v', t', hv, Nat.le_refl _, fun _ => ⟨rfl, fun b hb' => (h.ftlt i b (by rw [hv]; simp) hb').2, fun b hb' => ⟨hb', hb.block b (h.ftlt i b (by rw [hv]; simp) hb').2⟩⟩⟩⟩
      exact h'.leaf s (h.leaf s0 (hx j x u hx' hu).1)
  · have hb1' : b ≤ σ.bs.length := by simpa [Nat.lt_succ_iff] using hb1
    have hb2' : b' ≤ σ.bs.length := by simpa [Nat.lt_succ_iff] using hb2
    rcases Nat.lt_or_ge b σ.bs.length with hbl | hbl <;> rcases Nat.lt_or_ge b' σ.bs.length with hbl' | hbl'
    · rw [hβ b hbl, hβ b' hbl'] at e
      exact h.inj b b' hbl hbl' e
    · rw [hβ b hbl, show b' = σ.bs.length by omega, hβ'] at e
      have := hlt' b hbl
      omega
    · rw [hβ b' hbl', show b = σ.bs.length by omega, hβ'] at e
      have := hlt' b' hbl'
      omega
    · omega
  · have hb1' : b ≤ σ.bs.length := by simpa [Nat.lt_succ_iff] using hb1
    rw [hft] at hb2
    rcases Nat.lt_or_ge b σ.bs.length with hbl | hbl
    · rw [hβ b hbl] at hb2
      exact h.boxft b i hbl hi hb2
    · rw [show b = σ.bs.length by omega, hβ'] at hb2
      have := (h.ftlt i _ hi hb2).2
      omega
  · rw [hvl, hft]; exact h'.objs i v t hi
  · rw [hft]; exact h'.disj
  · rw [hft]; exact h'.ftlt
theorem wanted0 {f : Nat → Option Bool} (hg : o.guard = none) : Region.wanted o f = true := by simp [Region.wanted, hg]
theorem callK_core {Y : Type} {Pr : Y → Prop} (hC : E.code ad len cap zs) {d b : Nat} {f : FuncId} {x0 : Operand} {xs : List Operand} {us : List Value} {ats : Array TypeId} {tup : Bool} {rs : Y → List (Bool × List T)} {p h0 : Int} (ho : o.op = .call { callee := .value (.func f), args := (x0 :: xs).toArray, argTypes := ats }) (hb : ∃ fn c, P.funcs[f]? = some fn ∧ fn.body = some c ∧ fn.name ≠ "runtime.NumGoroutine")
    (hc : VK ad len cap zs Pr P f us tup rs) (hx0 : σ.ev x0 = V.one (.bp b 0)) (hx : σ.scs xs us) (hbx : σ.bs[b]? = some (79, curL ad len cap p h0)) (hp : 0 ≤ p ∧ p ≤ len) (hd : o.dst = some d) (hdN : d < N) {a : Act} {w : World} {G : Ghost} (h : Rel E N σ a w G) {K : Act → World → Prop} (hK : ∀ (y : Y) (p' h' : Int) (a' : Act) (w' : World) (G' : Ghost), Pr y → 0 ≤ p' ∧ p' ≤ len → Rel E N ((ansSs (σ.setb b 79 (curL ad len cap p' h')) (rs y)).put d ⟨tup, ansLs σ.nx (rs y)⟩) a' w' G' → Only (G.β b) w w' → (∀ i, i < σ.nx → G'.vl i = G.vl i) → G'.β = G.β → σ.nx ≤ (ansSs (σ.setb b 79 (curL ad len cap p' h')) (rs y)).nx → K a' w') : o.wp P a w K Q := by
  obtain ⟨fn, c, h1, h2, h2'⟩ := hb
  obtain ⟨hB, us0, b1, b2, b3⟩ := h.boxes b _ _ hbx
  have hus0 : us0 = [.slice ad len cap, .int .i64 p, .int .i64 h0] := by
    match us0, b2 with
    | [u, v, z], _ =>
      have e1 : u = .slice ad len cap := (b3 0 _ u rfl rfl).1.1
      have e2 : v = .int .i64 p := (b3 1 _ v rfl rfl).1.1
      have e3 : z = .int .i64 h0 := (b3 2 _ z rfl rfl).1.1
      rw [e1, e2, e3]
  subst hus0
  have hcode := hC.at h.below
  have hcur : Cur ad len cap zs (p, h0) w (G.β b) := ⟨hcode.row, fun x hx hpos e => by
    have hlt := hC.1.old x hx hpos
    rcases hB with hB | hB
    · rw [← e] at hB; exact absurd hlt (Nat.not_lt.2 hB)
    · rw [← e] at hB; exact hC.2 x hx hpos hB, hp.1, hp.2, b1⟩
  have hcall := hc w (G.β b) (p, h0) hcode hcur
  have hx0v : a.eval x0 = .pointer (some ⟨G.β b, 0, none⟩) := by
    have := h.ev x0
    rw [hx0, vone] at this
    exact this.1.2
  have hev : (x0 :: xs).map a.eval = Value.pointer (some ⟨G.β b, 0, none⟩) :: us := by rw [List.map_cons, hx0v, (h.scs hx).1]
  have hrun : (execOp a.eval o).run P w = .ok (.enter f ((x0 :: xs).map a.eval).toArray) w := by
    simp [execOp, ho, resolve, Act.eval, Deferred.ofValue, invoke, callFunc, h1, h2, h2', Result.andThen]
  unfold Oper.wp
  rw [hrun, hev]
  refine hcall.mono fun e w' ⟨y0, τ0, hy0, hcur', uss, F, h3, h4, h5, h6, h6', h7'⟩ => ?_
  subst h4
  obtain ⟨p', h'0⟩ := τ0
  have hβlt : G.β b < w.heap.size := lt_of_block b1
  obtain ⟨w1, hw1⟩ : ∃ w1 : World, w1 = { w with heap := w.heap.setIfInBounds (G.β b) (.cells #[.slice ad len cap, .int .i64 p', .int .i64 h'0] 79 (0, 0)) } := ⟨_, rfl⟩
  have hsz1 : w1.heap.size = w.heap.size := by rw [hw1]; simp
  have hfar : ∀ k, k ≠ G.β b → w1.heap[k]? = w.heap[k]? := fun k hk => by rw [hw1]; simp [Array.getElem?_setIfInBounds_ne (Ne.symm hk)]
  have hnew1 : w1.heap[G.β b]? = some (.cells #[.slice ad len cap, .int .i64 p', .int .i64 h'0] 79 (0, 0)) := by rw [hw1]; simp [hβlt]
  have hsame1 : Same E w w1 := ⟨by rw [hw1], by rw [hw1], by rw [hw1], by rw [hsz1]; exact Nat.le_refl _, fun k hk => hfar k fun e => by
    subst e
    exact hB.elim (fun hB => Nat.lt_irrefl _ (Nat.lt_of_lt_of_le hk.1 hB)) hk.2⟩
  have hr1 := h.setbox (us' := [.slice ad len cap, .int .i64 p', .int .i64 h'0]) (xs' := curL ad len cap p' h'0) (w' := w1) hbx hsame1 hfar hnew1 rfl fun j x u hj hu => by
    match j, hj, hu with
    | 0, hj, hu => cases hj; cases hu; exact ⟨⟨rfl, .inr rfl⟩, rfl⟩
    | 1, hj, hu => cases hj; cases hu; exact ⟨⟨rfl, .inr rfl⟩, rfl⟩
    | 2, hj, hu => cases hj; cases hu; exact ⟨⟨rfl, .inr rfl⟩, rfl⟩
  have h7 : Below w1.heap.size w1 w' := ⟨by rw [h7'.os, hw1], by rw [h7'.tape, hw1], by rw [h7'.output, hw1], by rw [hsz1]; exact h7'.size, fun k hk => by
    by_cases hkb : k = G.β b
    · subst hkb; exact hcur'.cell.trans hnew1.symm
    · rw [hfar k hkb]; exact h7'.block k (by rw [hsz1] at hk; exact hk) fun e => hkb (Option.some.inj e)⟩
  have h' := hr1.ext h7
  have hfresh : ∀ q, w.heap.size ≤ q → Fresh σ G q := fun q hq => h.fresh hq
  obtain ⟨G', k1, k2, k3, k4, k5, k6, k7, k8⟩ := Rel.addAlls (rs y0) uss F h' h3 (fun c ag ts us hc hu => ⟨(h5 c ag ts us hc hu).1, fun j t u hj hu' => (h5 c ag ts us hc hu).2 j t u hj hu'⟩) (fun c j b hb => by
    have hbw : w.heap.size ≤ b := (h6' c j b hb).1
    exact ⟨⟨fun i hi hf => by have := (h.ftlt i b hi hf).2; omega, fun q hq => (h.fresh hbw).2 q (by simpa using hq)⟩, .inl (Nat.le_trans h.low hbw), (h6' c j b hb).2⟩) h6
  have k3 : (ansLs σ.nx (rs y0)).length = (rs y0).length := k3
  rw [hd]
  refine hK y0 p' h'0 _ _ _ hy0 ⟨hcur'.low, hcur'.high⟩ (k1.put hdN ⟨uss, h3.trans k3.symm, ?_, fun c ag xs us hc hu => ⟨(k4 c ag xs us hc hu).1, (k4 c ag xs us hc hu).2.2⟩⟩) h7' k6 k7 k5
  congr 1
  apply List.ext_getElem?
  intro c
  rw [List.getElem?_zipWith, List.getElem?_zipWith]
  cases hq : (ansLs σ.nx (rs y0))[c]? with
  | none =>
    have : (rs y0)[c]? = none := by rw [List.getElem?_eq_none_iff] at hq ⊢; omega
    rw [this]
  | some q =>
    obtain ⟨ag, xs'⟩ := q
    have hcl : c < uss.length := by have := get_lt hq; omega
    obtain ⟨-, ⟨ts, hts⟩, -⟩ := k4 c ag xs' uss[c] hq (List.getElem?_eq_getElem hcl)
    rw [hts, List.getElem?_eq_getElem hcl]
theorem SV.callK {Y : Type} {Pr : Y → Prop} (hC : E.code ad len cap zs) {d b : Nat} {f : FuncId} {x0 : Operand} {xs : List Operand} {us : List Value} {ats : Array TypeId} {tup : Bool} {rs : Y → List (Bool × List T)} {rest : List Oper} {ops : Array Oper} {p h0 : Int} (ho : o.op = .call { callee := .value (.func f), args := (x0 :: xs).toArray, argTypes := ats }) (hb : ∃ fn c, P.funcs[f]? = some fn ∧ fn.body = some c ∧ fn.name ≠ "runtime.NumGoroutine")
    (hc : VK ad len cap zs Pr P f us tup rs) (hx0 : σ.ev x0 = V.one (.bp b 0)) (hx : σ.scs xs us) (hbx : σ.bs[b]? = some (79, curL ad len cap p h0)) (hp : 0 ≤ p ∧ p ≤ len) (hd : o.dst = some d) (hdN : d < N) (hw : ∀ {a w G}, Rel E N σ a w G → Region.wanted o (yielded ops a.tmps) = true)
    (k : ∀ (y : Y) (p' h' : Int), Pr y → 0 ≤ p' ∧ p' ≤ len → SV E N ((ansSs (σ.setb b 79 (curL ad len cap p' h')) (rs y)).put d ⟨tup, ansLs σ.nx (rs y)⟩) (wpList P ops Q rest)) : SV E N σ (wpList P ops Q (o :: rest)) := fun a w G h => by
  refine wpList_step fun K hK => ?_
  rw [if_pos (hw h)]
  exact callK_core hC ho hb hc hx0 hx hbx hp hd hdN h fun y p' h' a' w' G' hy hp' hr _ _ _ _ => hK _ _ (k y p' h' hy hp' _ _ _ hr)
theorem SV.callNew (hC : E.code ad len cap zs) {d kk : Nat} {x0 : Operand} {ats : Array TypeId} {rest : List Oper} {ops : Array Oper} (hk : σ.bs.length = kk) (hb0 : ∃ fn c, Try.prog.funcs[40]? = some fn ∧ fn.body = some c ∧ fn.name ≠ "runtime.NumGoroutine") (ho : o.op = .call { callee := .value (.func 40), args := #[x0], argTypes := ats }) (hx0 : σ.ev x0 = V.one (.sc (.slice ad len cap))) (hd : o.dst = some d) (hdN : d < N) (hg : o.guard = none)
    (k : ∀ h0 : Int, SV E N (({ σ with bs := σ.bs ++ [(79, curL ad len cap 0 h0)] } : VS).put d (V.one (.bp kk 0))) (wpList Try.prog ops Q rest)) : SV E N σ (wpList Try.prog ops Q (o :: rest)) := fun a w G h => by
  subst hk
  refine wpList_step fun K hK => ?_
  rw [if_pos (by simp [Region.wanted, hg])]
  have hcode := hC.at h.below
  have hx0v : a.eval x0 = .slice ad len cap := h.sc hx0
  have hrun : (execOp a.eval o).run Try.prog w = .ok (.enter 40 #[.slice ad len cap]) w := by
    obtain ⟨fn, c, h1, h2, h2'⟩ := hb0
    have e0 : a.eval (.func 40) = .func (.func 40) #[] #[] := rfl
    simp [execOp, ho, hx0v, e0, resolve, Deferred.ofValue, invoke, callFunc, h1, h2, h2', Result.andThen]
  unfold Oper.wp
  rw [hrun]
  refine (new_any ad len cap zs w hcode.row hcode.small hcode.old).mono fun e w' ⟨c, he, hcur, hge, hb⟩ => ?_
  subst he
  obtain ⟨G', k1, k2, k3, k4⟩ := h.newbox (us := [.slice ad len cap, .int .i64 0, .int .i64 (newH zs len)]) (xs := curL ad len cap 0 (newH zs len)) hb hge hcur.cell rfl fun j x u hj hu => by
    match j, hj, hu with
    | 0, hj, hu => cases hj; cases hu; exact ⟨⟨rfl, .inr rfl⟩, rfl⟩
    | 1, hj, hu => cases hj; cases hu; exact ⟨⟨rfl, .inr rfl⟩, rfl⟩
    | 2, hj, hu => cases hj; cases hu; exact ⟨⟨rfl, .inr rfl⟩, rfl⟩
  rw [hd]
  exact hK _ _ (k (newH zs len) _ _ _ (k1.put hdN (vone.2 ⟨⟨by simp, by rw [k2]⟩, .inr rfl⟩)))
theorem SV.doneE {Y : Type} {Pr : Y → Prop} {fn : Func} {rvs : List ResultVar} {ps : List (Bool × List Leaf)} {tup : Bool} {rs : Y → List (Bool × List T)} (y : Y) (hy : Pr y) (hf : fn.results = rvs.toArray) (hr : ResAll P σ rvs ps) (ho : σ.outss ps (rs y)) (ht : (!(Nat.beq (rs y).length 1)) = tup) (h2 : (ps.flatMap (·.2)).Pairwise two) {e : Exit} (he : e = .ret ∨ e = .normal) : SV E N σ (bodyPost P fn (fun e w' => ∃ y, Pr y ∧ Gives E tup (rs y) e w') e) := fun a w G h => by
  have h1 := SV.done (P := P) (E := E) (N := N) (σ := σ) hf hr ho ht h2 he a w G h
  rcases he with rfl | rfl
  all_goals
    obtain ⟨h3, v, h4, h5⟩ := h1
    exact ⟨h3, v, h4, y, hy, h5⟩
theorem SV.doneK {Y : Type} {Pr : Y → Prop} {fn : Func} {rvs : List ResultVar} {ps : List (Bool × List Leaf)} {tup : Bool} {rs : Y → List (Bool × List T)} {c : Nat} {p h0 : Int} (hC : E.code ad len cap zs) (hpin : E.pin = some c ∧ ∀ b, E.ln b → b = c) (y : Y) (hy : Pr y) (hbx : σ.bs[0]? = some (79, curL ad len cap p h0)) (hp : 0 ≤ p ∧ p ≤ len) (hf : fn.results = rvs.toArray) (hr : ResAll P σ rvs ps) (ho : σ.outss ps (rs y)) (ht : (!(Nat.beq (rs y).length 1)) = tup) (h2 : (ps.flatMap (·.2)).Pairwise two) {e : Exit} (he : e = .ret ∨ e = .normal) :
    SV E N σ (bodyPost P fn (fun e w' => ∃ y τ, Pr y ∧ Cur ad len cap zs τ w' c ∧ GivesC E.w0 c tup (rs y) e w') e) := fun a w G h => by
  obtain ⟨g1, v, g2, uss, F, g3, g4, g5, g6, g7⟩ := h.answer hf hr ho ht h2
  obtain ⟨hB, us0, b1, b2, b3⟩ := h.boxes 0 _ _ hbx
  obtain ⟨-, hβ⟩ := h.lent.2.2 c hpin.1
  have hus0 : us0 = [.slice ad len cap, .int .i64 p, .int .i64 h0] := by
    match us0, b2 with
    | [u, v, z], _ =>
      have e1 : u = .slice ad len cap := (b3 0 _ u rfl rfl).1.1
      have e2 : v = .int .i64 p := (b3 1 _ v rfl rfl).1.1
      have e3 : z = .int .i64 h0 := (b3 2 _ z rfl rfl).1.1
      rw [e1, e2, e3]
  subst hus0
  rw [hβ] at hB b1
  have hcur : Cur ad len cap zs (p, h0) w c := ⟨(hC.at h.below).row, fun x hx hpos e => by
    have hlt := hC.1.old x hx hpos
    rcases hB with hB | hB
    · rw [← e] at hB; exact absurd hlt (Nat.not_lt.2 hB)
    · rw [← e] at hB; exact hC.2 x hx hpos hB, hp.1, hp.2, b1⟩
  have hpost : a.defers = [] ∧ ∃ v, (results fn a.tmps).run P w = .ok v w ∧ ∃ y τ, Pr y ∧ Cur ad len cap zs τ w c ∧ GivesC E.w0 c tup (rs y) (.returned v) w :=
    ⟨g1, v, g2, y, (p, h0), hy, hcur, uss, F, g3, g4, g5, g6, fun c1 j b hb => by
      obtain ⟨i, hi, hft⟩ := g7 c1 j b hb
      obtain ⟨m1, m2⟩ := h.ftlt i b hi hft
      refine ⟨m1.elim id fun hl => ?_, m2⟩
      have := hpin.2 b hl
      subst this
      rw [← hβ] at hft
      exact absurd hft (h.boxft 0 i (get_lt hbx) hi), ⟨h.below.os, h.below.tape, h.below.output, h.below.size, fun k hk hne => h.below.block k ⟨hk, fun hl => hne (by rw [hpin.2 k hl])⟩⟩⟩
  rcases he with rfl | rfl <;> exact hpost
theorem VK.enter {Y : Type} {Pr : Y → Prop} {f : FuncId} {fn : Func} {c0 : Go.Code} {n : Nat} {us : List Value} {tup : Bool} {rs : Y → List (Bool × List T)} (hf : P.funcs[f]? = some fn) (hb : fn.body = some c0) (hn : fn.ntmps = n) (hl : us.length + 1 ≤ n) (hone : ∀ u ∈ us, u.oneCell' = true)
    (h : ∀ (E : Env) (c : Nat) (p h0 : Int), E.nl = 0 → E.code ad len cap zs → (E.pin = some c ∧ ∀ b, E.ln b → b = c) → 0 ≤ p ∧ p ≤ len → SV E n ⟨fun s => (V.one (.bp 0 0) :: us.map fun u => V.one (.sc u)).getD s (V.one .dead), [(79, curL ad len cap p h0)], fun _ => none, 0⟩ (c0.wp P (bodyPost P fn fun e w' => ∃ y τ, Pr y ∧ Cur ad len cap zs τ w' c ∧ GivesC E.w0 c tup (rs y) e w'))) : VK ad len cap zs Pr P f us tup rs := fun w c σ hcode hcur => by
  refine calls_of_wp hf hb ?_
  obtain ⟨p, h0⟩ := σ
  obtain ⟨E, hE⟩ : ∃ E : Env, E = ⟨w, fun b => b = c, fun b hb => by rw [hb]; exact hcur.lt, fun _ => undef, 0, some c⟩ := ⟨_, rfl⟩
  have hEC : E.code ad len cap zs := by subst hE; exact ⟨hcode, fun x hx hp e => hcur.apart x hx hp e⟩
  have h1 := h E c p h0 (by rw [hE]) hEC (by subst hE; exact ⟨rfl, fun b hb => hb⟩) ⟨hcur.low, hcur.high⟩ { tmps := (Value.pointer (some ⟨c, 0, none⟩) :: us).toArray ++ Array.replicate (n - (us.length + 1)) undef, defers := [] } w ⟨fun _ => c, fun _ => undef, fun _ _ => False⟩ (by
    subst hE
    refine ⟨Same.refl _ _, rfl, by simp; omega, fun s => ?_, fun b ty xs hb => ?_, fun b b' hb hb' _ => (by simp at hb hb'; omega), fun b i hb hi => absurd rfl hi, fun i v t hi => (by cases hi), fun i j b hi => absurd rfl hi, fun i b hi => absurd rfl hi, ⟨Nat.le_refl _, fun i hi => absurd hi (Nat.not_lt_zero i), fun c' hc' => ⟨by simp, Option.some.inj hc'⟩⟩⟩
    · rcases Nat.lt_or_ge s (us.length + 1) with hs | hs
      · have e2 : ((Value.pointer (some ⟨c, 0, none⟩) :: us).toArray ++ Array.replicate (n - (us.length + 1)) undef).getD s undef = (Value.pointer (some ⟨c, 0, none⟩) :: us).getD s undef := by
          simp only [Array.getD_eq_getD_getElem?]
          rw [Array.getElem?_append_left (by simpa using hs)]
          simp [List.getD]
        show VHolds _ _ _ _ ((V.one (.bp 0 0) :: us.map fun u => V.one (.sc u)).getD s (V.one .dead)) _
        rw [e2]
        cases s with
        | zero => exact vone.2 ⟨⟨by simp, rfl⟩, .inr rfl⟩
        | succ s =>
          have hs' : s < us.length := by omega
          have e3 : (V.one (.bp 0 0) :: us.map fun u => V.one (.sc u)).getD (s + 1) (V.one .dead) = V.one (.sc us[s]) := by simp [List.getD, hs']
          have e4 : (Value.pointer (some ⟨c, 0, none⟩) :: us).getD (s + 1) undef = us[s] := by simp [List.getD, hs']
          rw [e3, e4]
          exact vone.2 ⟨rfl, .inr (hone _ (List.getElem_mem hs'))⟩
      · have e3 : (V.one (.bp 0 0) :: us.map fun u => V.one (.sc u)).getD s (V.one .dead) = V.one .dead := by simp [List.getD, show us.length + 1 ≤ s by omega]
        show VHolds _ _ _ _ ((V.one (.bp 0 0) :: us.map fun u => V.one (.sc u)).getD s (V.one .dead)) _
        rw [e3]
        exact vone.2 ⟨trivial, .inl rfl⟩
    · have hb0 : b = 0 := by have := get_lt hb; simpa using this
      subst hb0
      cases hb
      refine ⟨.inr rfl, [.slice ad len cap, .int .i64 p, .int .i64 h0], hcur.cell, rfl, fun j x u hj hu => ?_⟩
      match j, hj, hu with
      | 0, hj, hu => cases hj; cases hu; exact ⟨⟨rfl, .inr rfl⟩, rfl⟩
      | 1, hj, hu => cases hj; cases hu; exact ⟨⟨rfl, .inr rfl⟩, rfl⟩
      | 2, hj, hu => cases hj; cases hu; exact ⟨⟨rfl, .inr rfl⟩, rfl⟩)
  rw [hn]
  have e0 : E.w0 = w := by rw [hE]
  rw [e0] at h1
  simpa using h1
theorem VCE.enter {Y : Type} {Pr : Y → Prop} {f : FuncId} {fn : Func} {c0 : Go.Code} {n : Nat} {tup : Bool} {rs : Y → List (Bool × List T)} (hf : P.funcs[f]? = some fn) (hb : fn.body = some c0) (hn : fn.ntmps = n) (hl : 1 ≤ n)
    (h : ∀ E, E.plain 0 → E.code ad len cap zs → SV E n (VS.init ([(false, [T.lit (.slice ad len cap)])].map fun p => V.flat p.1 (p.2.map argLeaf))) (c0.wp P (bodyPost P fn fun e w' => ∃ y, Pr y ∧ Gives E tup (rs y) e w'))) : VCE (fun w => Code ad len cap zs w) Pr P f [(false, [.lit (.slice ad len cap)])] tup rs := fun w hw vs hv => by
  refine calls_of_wp hf hb ?_
  obtain ⟨G, hG⟩ := init_rel (E := Env.of w) ⟨rfl, rfl⟩ (n := n) hv (by rw [hv.1]; exact hl)
  have := h (Env.of w) ⟨rfl, rfl⟩ ⟨hw, fun _ _ _ h => h⟩ _ _ G hG
  rw [hn]
  have e : (Env.of w).w0 = w := rfl
  rw [e] at this
  simpa using this
end Go.Proofs.Ytfionajnoaednaa.V
/- States told by trees: functions that are handed a cursor and more that they read; rows and numbers that are drawn. -/
namespace Go.Proofs.Ytfionajnoaednaa.V
open Go Go.RowKit
set_option linter.unusedVariables false
variable {P : Program} {E : Env} {N nb : Nat} {σ σ' τ : VS} {o : Oper} {a : Act} {w : World} {G : Ghost} {Q : Exit → Act → World → Prop} {K : Act → World → Prop} {ad : Option Addr} {len cap : Nat} {zs : List Int}
def ArgsC (w : World) (c : Nat) (ins : List (Bool × List T)) (vs : List Value) : Prop :=
  vs.length = ins.length ∧ ∀ (k : Nat) (ag : Bool) (ts : List T) (v : Value), ins[k]? = some (ag, ts) → vs[k]? = some v → ∃ us : List Value, v = cval ag us ∧ us.length = ts.length ∧ ∀ (j : Nat) (t : T) (u : Value), ts[j]? = some t → us[j]? = some u → Inn (fun b => b < w.heap.size ∧ b ≠ c) w t u
theorem Rel.okC (h : Rel E N σ a w G) {c : Nat} (hc : c < σ.bs.length) (hold : ¬ E.old (G.β c)) {x : Leaf} {t : T} (ht : σ.tr x = some t) : ∀ b, x.okIn G E b → b < w.heap.size → b < w.heap.size ∧ b ≠ G.β c := fun b hb hlt => by
  refine ⟨hlt, fun e => ?_⟩
  subst e
  have key : ∀ i, σ.ob i ≠ none → ¬ G.ft i (G.β c) := fun i hi => h.boxft c i hc hi
  cases x with
  | hd i => exact key i (fun e => by simp [VS.tr, e] at ht) hb
  | nd i ver s loc => exact key i (fun e => by simp [VS.tr, e] at ht) hb
  | _ => exact hold hb
theorem Rel.argsC (h : Rel E N σ a w G) {c : Nat} (hc : c < σ.bs.length) (hold : ¬ E.old (G.β c)) : ∀ {xs : List Operand} {qs : List (Bool × List T)}, σ.argss xs qs → ArgsC w (G.β c) qs (xs.map a.eval)
  | [], [], _ => ⟨rfl, fun c ag ts v hc => by simp at hc⟩
  | x :: xs, q :: qs, hq => by
    obtain ⟨⟨ls, h1, h2⟩, h3⟩ := hq
    obtain ⟨h4, h5⟩ := h.argsC hc hold h3
    refine ⟨by simpa using h4, fun k ag ts v hk hv => ?_⟩
    cases k with
    | zero =>
      cases hk
      cases hv
      have h6 := h.ev x
      rw [h1, vflat] at h6
      obtain ⟨us, h7, h8, h9⟩ := h6
      obtain ⟨h10, h11⟩ := args_get h2
      refine ⟨us, h7, h8.trans h10, fun j t u hj hu => ?_⟩
      obtain ⟨y, h12, h13⟩ := h11 j t hj
      have := h.tree (h9 j y u h12 hu) h13
      exact this.frame (Nat.le_refl _) fun b hb hb' => ⟨h.okC hc hold h13 b hb hb', rfl⟩
    | succ k => exact h5 k ag ts v (by simpa using hk) (by simpa using hv)
def VKT {Y : Type} (ad : Option Addr) (len cap : Nat) (zs : List Int) (Pr : Y → Prop) (P : Program) (f : FuncId) (ins : List (Bool × List T)) (tup : Bool) (rs : Y → List (Bool × List T)) : Prop :=
  ∀ (w : World) (c : Nat) (σ : Int × Int), Code ad len cap zs w → Cur ad len cap zs σ w c → ∀ vs, ArgsC w c ins vs → Calls P f (Value.pointer (some ⟨c, 0, none⟩) :: vs).toArray w fun e w' => ∃ y τ, Pr y ∧ Cur ad len cap zs τ w' c ∧ GivesC w c tup (rs y) e w'
theorem callKT_core {Y : Type} {Pr : Y → Prop} (hC : E.code ad len cap zs) {d b : Nat} {f : FuncId} {x0 : Operand} {xs : List Operand} {ins : List (Bool × List T)} {ats : Array TypeId} {tup : Bool} {rs : Y → List (Bool × List T)} {p h0 : Int} (ho : o.op = .call { callee := .value (.func f), args := (x0 :: xs).toArray, argTypes := ats }) (hb : ∃ fn c, P.funcs[f]? = some fn ∧ fn.body = some c ∧ fn.name ≠ "runtime.NumGoroutine")
    (hc : VKT ad len cap zs Pr P f ins tup rs) (hx0 : σ.ev x0 = V.one (.bp b 0)) (hx : σ.argss xs ins) (hbx : σ.bs[b]? = some (79, curL ad len cap p h0)) (hp : 0 ≤ p ∧ p ≤ len) (hd : o.dst = some d) (hdN : d < N) {a : Act} {w : World} {G : Ghost} (h : Rel E N σ a w G) {K : Act → World → Prop} (hK : ∀ (y : Y) (p' h' : Int) (a' : Act) (w' : World) (G' : Ghost), Pr y → 0 ≤ p' ∧ p' ≤ len → Rel E N ((ansSs (σ.setb b 79 (curL ad len cap p' h')) (rs y)).put d ⟨tup, ansLs σ.nx (rs y)⟩) a' w' G' → Only (G.β b) w w' → (∀ i, i < σ.nx → G'.vl i = G.vl i) → G'.β = G.β → σ.nx ≤ (ansSs (σ.setb b 79 (curL ad len cap p' h')) (rs y)).nx → K a' w') : o.wp P a w K Q := by
  obtain ⟨fn, c, h1, h2, h2'⟩ := hb
  obtain ⟨hB, us0, b1, b2, b3⟩ := h.boxes b _ _ hbx
  have hus0 : us0 = [.slice ad len cap, .int .i64 p, .int .i64 h0] := by
    match us0, b2 with
    | [u, v, z], _ =>
      have e1 : u = .slice ad len cap := (b3 0 _ u rfl rfl).1.1
      have e2 : v = .int .i64 p := (b3 1 _ v rfl rfl).1.1
      have e3 : z = .int .i64 h0 := (b3 2 _ z rfl rfl).1.1
      rw [e1, e2, e3]
  subst hus0
  have hcode := hC.at h.below
  have hcur : Cur ad len cap zs (p, h0) w (G.β b) := ⟨hcode.row, fun x hx hpos e => by
    have hlt := hC.1.old x hx hpos
    rcases hB with hB | hB
    · rw [← e] at hB; exact absurd hlt (Nat.not_lt.2 hB)
    · rw [← e] at hB; exact hC.2 x hx hpos hB, hp.1, hp.2, b1⟩
  have hcall := hc w (G.β b) (p, h0) hcode hcur (xs.map a.eval) (h.argsC (get_lt hbx) (fun hq => by rcases hB with hB | hB; exact Nat.lt_irrefl _ (Nat.lt_of_lt_of_le hq.1 hB); exact hq.2 hB) hx)
  have hx0v : a.eval x0 = .pointer (some ⟨G.β b, 0, none⟩) := by
    have := h.ev x0
    rw [hx0, vone] at this
    exact this.1.2
  have hev : (x0 :: xs).map a.eval = Value.pointer (some ⟨G.β b, 0, none⟩) :: xs.map a.eval := by rw [List.map_cons, hx0v]
  have hrun : (execOp a.eval o).run P w = .ok (.enter f ((x0 :: xs).map a.eval).toArray) w := by
    simp [execOp, ho, resolve, Act.eval, Deferred.ofValue, invoke, callFunc, h1, h2, h2', Result.andThen]
  unfold Oper.wp
  rw [hrun, hev]
  refine hcall.mono fun e w' ⟨y0, τ0, hy0, hcur', uss, F, h3, h4, h5, h6, h6', h7'⟩ => ?_
  subst h4
  obtain ⟨p', h'0⟩ := τ0
  have hβlt : G.β b < w.heap.size := lt_of_block b1
  obtain ⟨w1, hw1⟩ : ∃ w1 : World, w1 = { w with heap := w.heap.setIfInBounds (G.β b) (.cells #[.slice ad len cap, .int .i64 p', .int .i64 h'0] 79 (0, 0)) } := ⟨_, rfl⟩
  have hsz1 : w1.heap.size = w.heap.size := by rw [hw1]; simp
  have hfar : ∀ k, k ≠ G.β b → w1.heap[k]? = w.heap[k]? := fun k hk => by rw [hw1]; simp [Array.getElem?_setIfInBounds_ne (Ne.symm hk)]
  have hnew1 : w1.heap[G.β b]? = some (.cells #[.slice ad len cap, .int .i64 p', .int .i64 h'0] 79 (0, 0)) := by rw [hw1]; simp [hβlt]
  have hsame1 : Same E w w1 := ⟨by rw [hw1], by rw [hw1], by rw [hw1], by rw [hsz1]; exact Nat.le_refl _, fun k hk => hfar k fun e => by
    subst e
    exact hB.elim (fun hB => Nat.lt_irrefl _ (Nat.lt_of_lt_of_le hk.1 hB)) hk.2⟩
  have hr1 := h.setbox (us' := [.slice ad len cap, .int .i64 p', .int .i64 h'0]) (xs' := curL ad len cap p' h'0) (w' := w1) hbx hsame1 hfar hnew1 rfl fun j x u hj hu => by
    match j, hj, hu with
    | 0, hj, hu => cases hj; cases hu; exact ⟨⟨rfl, .inr rfl⟩, rfl⟩
    | 1, hj, hu => cases hj; cases hu; exact ⟨⟨rfl, .inr rfl⟩, rfl⟩
    | 2, hj, hu => cases hj; cases hu; exact ⟨⟨rfl, .inr rfl⟩, rfl⟩
  have h7 : Below w1.heap.size w1 w' := ⟨by rw [h7'.os, hw1], by rw [h7'.tape, hw1], by rw [h7'.output, hw1], by rw [hsz1]; exact h7'.size, fun k hk => by
    by_cases hkb : k = G.β b
    · subst hkb; exact hcur'.cell.trans hnew1.symm
    · rw [hfar k hkb]; exact h7'.block k (by rw [hsz1] at hk; exact hk) fun e => hkb (Option.some.inj e)⟩
  have h' := hr1.ext h7
  have hfresh : ∀ q, w.heap.size ≤ q → Fresh σ G q := fun q hq => h.fresh hq
  obtain ⟨G', k1, k2, k3, k4, k5, k6, k7, k8⟩ := Rel.addAlls (rs y0) uss F h' h3 (fun c ag ts us hc hu => ⟨(h5 c ag ts us hc hu).1, fun j t u hj hu' => (h5 c ag ts us hc hu).2 j t u hj hu'⟩) (fun c j b hb => by
    have hbw : w.heap.size ≤ b := (h6' c j b hb).1
    exact ⟨⟨fun i hi hf => by have := (h.ftlt i b hi hf).2; omega, fun q hq => (h.fresh hbw).2 q (by simpa using hq)⟩, .inl (Nat.le_trans h.low hbw), (h6' c j b hb).2⟩) h6
  have k3 : (ansLs σ.nx (rs y0)).length = (rs y0).length := k3
  rw [hd]
  refine hK y0 p' h'0 _ _ _ hy0 ⟨hcur'.low, hcur'.high⟩ (k1.put hdN ⟨uss, h3.trans k3.symm, ?_, fun c ag xs us hc hu => ⟨(k4 c ag xs us hc hu).1, (k4 c ag xs us hc hu).2.2⟩⟩) h7' k6 k7 k5
  congr 1
  apply List.ext_getElem?
  intro c
  rw [List.getElem?_zipWith, List.getElem?_zipWith]
  cases hq : (ansLs σ.nx (rs y0))[c]? with
  | none =>
    have : (rs y0)[c]? = none := by rw [List.getElem?_eq_none_iff] at hq ⊢; omega
    rw [this]
  | some q =>
    obtain ⟨ag, xs'⟩ := q
    have hcl : c < uss.length := by have := get_lt hq; omega
    obtain ⟨-, ⟨ts, hts⟩, -⟩ := k4 c ag xs' uss[c] hq (List.getElem?_eq_getElem hcl)
    rw [hts, List.getElem?_eq_getElem hcl]
theorem SV.callKT {Y : Type} {Pr : Y → Prop} (hC : E.code ad len cap zs) {d b : Nat} {f : FuncId} {x0 : Operand} {xs : List Operand} {ins : List (Bool × List T)} {ats : Array TypeId} {tup : Bool} {rs : Y → List (Bool × List T)} {rest : List Oper} {ops : Array Oper} {p h0 : Int} (ho : o.op = .call { callee := .value (.func f), args := (x0 :: xs).toArray, argTypes := ats }) (hb : ∃ fn c, P.funcs[f]? = some fn ∧ fn.body = some c ∧ fn.name ≠ "runtime.NumGoroutine")
    (hc : VKT ad len cap zs Pr P f ins tup rs) (hx0 : σ.ev x0 = V.one (.bp b 0)) (hx : σ.argss xs ins) (hbx : σ.bs[b]? = some (79, curL ad len cap p h0)) (hp : 0 ≤ p ∧ p ≤ len) (hd : o.dst = some d) (hdN : d < N) (hw : ∀ {a w G}, Rel E N σ a w G → Region.wanted o (yielded ops a.tmps) = true)
    (k : ∀ (y : Y) (p' h' : Int), Pr y → 0 ≤ p' ∧ p' ≤ len → SV E N ((ansSs (σ.setb b 79 (curL ad len cap p' h')) (rs y)).put d ⟨tup, ansLs σ.nx (rs y)⟩) (wpList P ops Q rest)) : SV E N σ (wpList P ops Q (o :: rest)) := fun a w G h => by
  refine wpList_step fun K hK => ?_
  rw [if_pos (hw h)]
  exact callKT_core hC ho hb hc hx0 hx hbx hp hd hdN h fun y p' h' a' w' G' hy hp' hr _ _ _ _ => hK _ _ (k y p' h' hy hp' _ _ _ hr)
set_option maxRecDepth 100000 in
theorem pickO_any (a : Option Addr) (len cap : Nat) (zs : List Int) (σ : Int × Int) (c : Nat) (w : World) (hc : Cur a len cap zs σ w c) (g o' n m : Nat) (L : List Int) (hg : ∀ t, t < L.length → w.cell? ⟨g, o' + t, none⟩ = some (.int .i64 (L.getD t 0))) (hgc : ¬ g = c) (hn : n = L.length) (h1 : 1 ≤ n) (h2 : n ≤ 1000000000) :
    Calls Try.prog 51 #[.pointer (some ⟨c, 0, none⟩), .slice (some ⟨g, o', none⟩) n m] w (Drawn (pickS zs len L) a len cap zs σ c w) := by
  have HC := Lib.hid hc
  have HG := Lib.hid hg
  have HN := Lib.hid hn
  clear hc hg hn
  go_enter Try.func51, Try.ntmps51
  go_wp2_with fail
  refine (below_any a len cap zs _ c _ HC.out (n : Int) (by omega) (by omega)).mono ?_
  rintro e w1 ⟨x, τ, hf1, rfl, hc1, ho1⟩
  obtain ⟨hx0, hx1⟩ := belowS_range (by omega) hf1
  have F1 := Lib.hid hf1
  clear hf1
  obtain ⟨t, rfl⟩ : ∃ t : Nat, x = (t : Int) := ⟨x.toNat, by omega⟩
  have htn : t < n := by omega
  have hcell := HG.out t (by have := HN.out; omega)
  have hlt : g < w.heap.size := World.block_lt_of_cell? w _ hcell
  have hcell1 : w1.cell? ⟨g, o' + t, none⟩ = some (.int .i64 (L.getD t 0)) := (World.cell?_of_block (ho1.block g hlt (fun e => hgc (by injection e)))).trans hcell
  clear hcell
  obtain ⟨z, hz⟩ : ∃ z, z = L.getD t 0 := ⟨_, rfl⟩
  rw [← hz] at hcell1
  have HZ := Lib.hid hz
  clear hz
  have H1 := Lib.hid hc1
  have O1 := Lib.hid ho1
  clear hc1 ho1
  go_wp2_with fail
  go_ret
  refine ⟨_, τ, ?_, rfl, H1.out, O1.out⟩
  unfold pickS
  have hn := HN.out
  rw [← hn, F1.out, HZ.out, Int.toNat_natCast]
theorem vk_pick (L : List Int) (h1 : 1 ≤ L.length) (h2 : L.length ≤ 1000000000) : VKT ad len cap zs (fun x : Int => x ∈ L) Try.prog 51 [(false, [.seq 3 (L.map fun x => [.lit (.int .i64 x)])])] false fun x => [(false, [.lit (.int .i64 x)])] := fun w c σ hC hc vs hv => by
  obtain ⟨hl, ha⟩ := hv
  match vs, hl with
  | [v], _ =>
    obtain ⟨us, e1, e2, e3⟩ := ha 0 false _ v rfl rfl
    match us, e2 with
    | [x], _ =>
      have hx := e3 0 _ x rfl rfl
      have e1' : v = x := e1
      subst e1'
      obtain ⟨a0, m, n, hv, hcm, hm, h0, hp, hz, hn, b, o, us, had, hb, hcell, hr⟩ := inn_seq hx
      have hn1 : n = 1 := hz.eq sz_int
      subst hn1
      rw [List.length_map] at hv hcm
      subst hv
      have hne : (L.map fun x => [T.lit (.int .i64 x)]) ≠ [] := fun e => by have e' := List.map_eq_nil_iff.1 e; rw [e'] at h1; simp at h1
      have ha0 : a0 = some ⟨b, o, none⟩ := by
        cases ha : a0 with
        | none => have := h0 ha; omega
        | some y => rw [had y ha hne]
      subst ha0
      have hcells : ∀ t, t < L.length → w.cell? ⟨b, o + t, none⟩ = some (.int .i64 (L.getD t 0)) := fun t ht => by
        have e : (L.map fun x => [T.lit (.int .i64 x)])[t]? = some [.lit (.int .i64 L[t])] := by rw [List.getElem?_map, List.getElem?_eq_getElem ht]; rfl
        have h4 := hcell t _ 0 _ e rfl
        rw [inn_lit (hr t _ 0 _ e rfl)] at h4
        simpa [ht] using h4
      exact (pickO_any ad len cap zs σ c w hc b o L.length m L hcells (fun e => (hb hne).1.2 e) rfl h1 h2).mono fun e w' ⟨z, τ, hf, he, hc', ho⟩ => ⟨z, τ, by have := pickS_mem zs len L σ h1; rw [hf] at this; exact this, hc', by rw [he]; exact givesC_lit rfl ho⟩
end Go.Proofs.Ytfionajnoaednaa.V
/- States told by trees: contracts of functions that are handed a slice to keep (it is appended to, and comes back in the answer), and their calls. -/
namespace Go.Proofs.Ytfionajnoaednaa.V
open Go Go.RowKit
set_option linter.unusedVariables false
def VX (P : Program) (f : FuncId) (ins : List (Bool × List AC)) (ls : List T) (tup : Bool) (rs : List (Bool × List T)) : Prop :=
  ∀ (w : World) (lv : Nat → Value) (F : Nat → Nat → Prop) (hF : ∀ i b, i < ls.length → F i b → b < w.heap.size) (vs : List Value), (∀ i t, ls[i]? = some t → Own w 0 t (lv i) (F i) ∧ ∃ ty es, t = .seq ty es) → (∀ i j b, i < ls.length → j < ls.length → i ≠ j → F i b → ¬ F j b) → ArgsM (Env.lend w lv F ls.length hF) ins vs →
    Calls P f vs.toArray w (Gives (Env.lend w lv F ls.length hF) tup rs)
def Env.free (E : Env) : Env := { E with nl := 0 }
variable {P : Program} {E : Env} {N : Nat} {σ σ' : VS} {o : Oper} {a : Act} {w : World} {G : Ghost}
theorem Rel.free (h : Rel E N σ a w G) : Rel E.free N σ a w G :=
  ⟨⟨h.below.os, h.below.tape, h.below.output, h.below.size, fun k hk => h.below.block k hk⟩, h.dfr, h.nsz, h.tmps, h.boxes, h.inj, h.boxft, h.objs, h.disj, h.ftlt, ⟨Nat.zero_le _, fun i hi => absurd hi (Nat.not_lt_zero i), h.lent.2.2⟩⟩
theorem VX.enter {f : FuncId} {fn : Func} {c : Go.Code} {n : Nat} {ins : List (Bool × List AC)} {ls : List T} {tup : Bool} {rs : List (Bool × List T)} (hf : P.funcs[f]? = some fn) (hb : fn.body = some c) (hn : fn.ntmps = n) (hl : ins.length ≤ n)
    (h : ∀ E, E.plain 0 → SV E n (VS.initM (ins.map fun p => V.flat p.1 (p.2.map AC.leaf)) ls) (c.wp P (bodyPost P fn (Gives E tup rs)))) : VX P f ins ls tup rs := fun w lv F hF vs h1 h2 hv => by
  refine calls_of_wp hf hb ?_
  obtain ⟨G, hG⟩ := init_relM (E := Env.lend w lv F ls.length hF) (F := F) ⟨rfl, rfl⟩ h1 h2 (fun i b hi hb => ⟨.inr ⟨i, hi, hb⟩, hF i b hi hb⟩) hv (n := n) (by rw [hv.1]; exact hl)
  have h3 := h (Env.lend w lv F ls.length hF).free ⟨rfl, rfl⟩ _ _ G hG.free
  have hg : ∀ e w', Gives (Env.lend w lv F ls.length hF).free tup rs e w' → Gives (Env.lend w lv F ls.length hF) tup rs e w' := fun e w' ⟨uss, F', k1, k2, k3, k4, k5, k6⟩ => ⟨uss, F', k1, k2, k3, k4, k5, ⟨k6.os, k6.tape, k6.output, k6.size, fun k hk => k6.block k hk⟩⟩
  rw [hn]
  have h4 := wp_mono h3 (Q' := bodyPost P fn (Gives (Env.lend w lv F ls.length hF) tup rs)) fun e a w' hq => by
    cases e with
    | normal => obtain ⟨k1, v, k2, k3⟩ := hq; exact ⟨k1, v, k2, hg _ _ k3⟩
    | ret => obtain ⟨k1, v, k2, k3⟩ := hq; exact ⟨k1, v, k2, hg _ _ k3⟩
    | exit id => exact hq
    | goto l => exact hq
    | panic ch => first | exact hq | exact hg _ _ hq | exact ⟨hq.1, hg _ _ hq.2⟩
    | outgrown => first | exact hq | exact hg _ _ hq
  have e : (Env.lend w lv F ls.length hF).w0 = w := rfl
  rw [e] at h4
  simpa using h4
def VS.argX (p : Leaf) : List Leaf → List AC → Prop
  | [], [] => True
  | x :: xs, .rd t :: ts => ((∃ u, t = .lit u ∧ x = .sc u) ∨ x = .ro t) ∧ VS.argX p xs ts
  | x :: xs, .ln i :: ts => (i = 0 ∧ x = p) ∧ VS.argX p xs ts
  | _, _ => False
theorem argX_get {p : Leaf} : ∀ {xs : List Leaf} {ts : List AC}, VS.argX p xs ts → xs.length = ts.length ∧ ∀ (j : Nat) (t : AC), ts[j]? = some t → ∃ x, xs[j]? = some x ∧ match t with
    | .rd t => (∃ u, t = .lit u ∧ x = .sc u) ∨ x = .ro t
    | .ln i => i = 0 ∧ x = p
  | [], [], _ => ⟨rfl, fun j t h => by simp at h⟩
  | x :: xs, .rd t :: ts, h => by
    obtain ⟨h1, h2⟩ := argX_get h.2
    refine ⟨by simp [h1], fun j s hj => ?_⟩
    cases j with
    | zero => cases hj; exact ⟨x, rfl, h.1⟩
    | succ j => exact h2 j s (by simpa using hj)
  | x :: xs, .ln i :: ts, h => by
    obtain ⟨h1, h2⟩ := argX_get h.2
    refine ⟨by simp [h1], fun j s hj => ?_⟩
    cases j with
    | zero => cases hj; exact ⟨x, rfl, h.1⟩
    | succ j => exact h2 j s (by simpa using hj)
def VS.argsX (σ : VS) (p : Leaf) : List Operand → List (Bool × List AC) → Prop
  | [], [] => True
  | x :: xs, q :: qs => (∃ ls, σ.ev x = V.flat q.1 ls ∧ VS.argX p ls q.2) ∧ σ.argsX p xs qs
  | _, _ => False
theorem Rel.argsX (h : Rel E N σ a w G) {i : Nat} {E' : Env} (hw : E'.w0 = w) (hold : ∀ b, E.old b → E'.old b) (hn : 0 < E'.nl) (hv : E'.lv 0 = G.vl i) : ∀ {xs : List Operand} {qs : List (Bool × List AC)}, σ.argsX (.hd i) xs qs → ArgsM E' qs (xs.map a.eval)
  | [], [], _ => ⟨rfl, fun c ag ts v hc => by simp at hc⟩
  | x :: xs, q :: qs, hq => by
    obtain ⟨⟨ls, h1, h2⟩, h3⟩ := hq
    obtain ⟨h4, h5⟩ := h.argsX hw hold hn hv h3
    refine ⟨by simpa using h4, fun c ag ts v hc hv' => ?_⟩
    cases c with
    | zero =>
      cases hc
      cases hv'
      have h6 := h.ev x
      rw [h1, vflat] at h6
      obtain ⟨us, h7, h8, h9⟩ := h6
      obtain ⟨h10, h11⟩ := argX_get h2
      refine ⟨us, h7, h8.trans h10, fun j t u hj hu => ?_⟩
      obtain ⟨y, h12, h13⟩ := h11 j t hj
      have h14 := h9 j y u h12 hu
      cases t with
      | ln k =>
        obtain ⟨rfl, rfl⟩ := h13
        exact ⟨hn, h14.1.2.trans hv.symm⟩
      | rd t =>
        rcases h13 with ⟨z, rfl, rfl⟩ | rfl
        · rcases h14.2 with h15 | h15
          · cases h15
          · have h16 : u = z := h14.1
            rw [h16] at h15 ⊢
            exact .lit h15
        · have h16 : Inn E.old w t u := h14.1
          show Inn E'.old E'.w0 t u
          rw [hw]
          exact h16.frame (Nat.le_refl _) fun b hb _ => ⟨hold b hb, rfl⟩
    | succ c => exact h5 c ag ts v (by simpa using hc) (by simpa using hv')
theorem ok_callX {d : Nat} {f : FuncId} {xs : List Operand} {ats : Array TypeId} {ins : List (Bool × List AC)} {t0 : T} {ty : TypeId} {es : List (List T)} {i kk : Nat} (hk : σ.nx = kk) (ho : o.op = .call { callee := .value (.func f), args := xs.toArray, argTypes := ats }) (hb : ∃ fn c, P.funcs[f]? = some fn ∧ fn.body = some c ∧ fn.name ≠ "runtime.NumGoroutine")
    (hc : VX P f ins [t0] false [(false, [.seq ty es])]) (hx : σ.argsX (.hd i) xs ins) (hi : (σ.ob i).map (·.2) = some t0) (hd : o.dst = some d) (hdN : d < N) : OpOk P E N σ o (((σ.kills [.hd i]).new (.seq ty es)).put d (V.one (.hd kk))) :=
  fun a w G K Q h k => by
    subst hk
    obtain ⟨fn, c, h1, h2, h2'⟩ := hb
    obtain ⟨⟨ver, t1⟩, hob, rfl⟩ := Option.map_eq_some_iff.1 hi
    have hlive : σ.ob i ≠ none := by rw [hob]; simp
    have hft : ∀ b, G.ft i b → (E.B ≤ b ∨ E.ln b) ∧ b < w.heap.size := fun b hb => h.ftlt i b hlive hb
    have hF : ∀ (q b : Nat), q < [t1].length → G.ft i b → b < w.heap.size := fun q b _ hb => (hft b hb).2
    have hnot : ∀ b, E.old b → ¬ G.ft i b := fun b hb hf => (hft b hf).1.elim (fun h1 => by have := hb.1; omega) hb.2
    have hcall := hc w (fun _ => G.vl i) (fun _ => G.ft i) hF (xs.map a.eval) (fun q t hq => by
      obtain ⟨-, e5, e6⟩ := h.objs i ver t1 hob
      have hq0 := get_lt hq
      have : q = 0 := by simpa using hq0
      subst this
      cases hq
      exact ⟨e5, e6⟩) (fun q q' b hq hq' hne _ => absurd (show q = q' by simp at hq hq'; omega) hne) (h.argsX (i := i) (E' := Env.lend w (fun _ => G.vl i) (fun _ => G.ft i) 1 hF) rfl (fun b hb => ⟨Nat.lt_of_lt_of_le hb.1 h.low, fun ⟨q, hq, hqb⟩ => hnot b hb hqb⟩) Nat.one_pos rfl hx)
    have hrun : (execOp a.eval o).run P w = .ok (.enter f (xs.map a.eval).toArray) w := by
      simp [execOp, ho, resolve, Act.eval, Deferred.ofValue, invoke, callFunc, h1, h2, h2', Result.andThen]
    unfold Oper.wp
    rw [hrun]
    refine hcall.mono fun e w' ⟨uss, F', g1, g2, g3, g4, g5, g6⟩ => ?_
    match uss, g1 with
    | [us], _ =>
      obtain ⟨g7, g8⟩ := g3 0 false [.seq ty es] us rfl rfl
      match us, g7 with
      | [u], _ =>
        have hown := g8 0 (.seq ty es) u rfl rfl
        have hsm : Same E w w' := ⟨g6.os, g6.tape, g6.output, g6.size, fun b hb => g6.block b ⟨Nat.lt_of_lt_of_le hb.1 h.low, fun ⟨q, hq, hqb⟩ => hnot b hb hqb⟩⟩
        obtain ⟨G', hG', ⟨hvl, -, -⟩, -, -⟩ := h.renew [.hd i] (fun x hx => by rw [List.mem_singleton.1 hx]; exact ⟨t1, by show (σ.ob i).map (·.2) = _; rw [hob]; rfl⟩) (w' := w') (t := .seq ty es) (v := u) (F := F' 0 0) (G.ft i) hsm (fun k hk hnD => g6.block k ⟨hk, fun ⟨q, hq, hqb⟩ => hnD hqb⟩) (fun b hb => ⟨.hd i, List.mem_singleton_self _, hb⟩) hown ⟨_, _, rfl⟩ fun b hb => by
          obtain ⟨m1, m2⟩ := g5 0 0 b hb
          rcases m1 with m1 | ⟨q, m1, m3⟩
          · exact ⟨⟨.inl (Nat.le_trans h.low m1), m2⟩, .inl (h.fresh m1)⟩
          · exact ⟨⟨(hft b m3).1, m2⟩, .inr ⟨.hd i, List.mem_singleton_self _, m3⟩⟩
        subst g2
        rw [hd]
        exact k _ _ _ (hG'.put hdN (vone.2 ⟨⟨Nat.lt_succ_self _, hvl.symm⟩, .inr hown.one⟩))
end Go.Proofs.Ytfionajnoaednaa.V
/- States told by trees: drawn regions that write boxes. -/
namespace Go.Proofs.Ytfionajnoaednaa.V
open Go Go.RowKit
set_option linter.unusedVariables false
variable {P : Program} {E : Env} {N : Nat} {σ σ' τ : VS} {o : Oper} {a : Act} {w ws : World} {G Gs : Ghost} {Q : Exit → Act → World → Prop} {ad : Option Addr} {len cap : Nat} {zs0 : List Int}
structure SameC (E : Env) (τ : VS) (wl : List Nat) (G : Ghost) (ws v : World) : Prop where
  below : Same E ws v
  block : ∀ b, b < ws.heap.size → v.heap[b]? = ws.heap[b]? ∨ (∃ c, c ∈ wl ∧ c < τ.bs.length ∧ b = G.β c) ∨ ∃ (i ver : Nat) (ty : TypeId) (es : List (List T)) (n : Nat) (cs cs' : Array Value), τ.ob i = some (ver, .seq ty es) ∧ (G.vl i).ownBlock = some b ∧ Sz ty n ∧ ws.heap[b]? = some (.cells cs ty (0, 0)) ∧ v.heap[b]? = some (.cells cs' ty (0, 0)) ∧ cs'.size = cs.size ∧ cs'.toList.take (es.length * n) = cs.toList.take (es.length * n)
theorem SameC.refl (E : Env) (τ : VS) (wl : List Nat) (G : Ghost) (w : World) : SameC E τ wl G w w := ⟨Same.refl _ _, fun _ _ => .inl rfl⟩
structure LinkC (E : Env) (N : Nat) (τ : VS) (wl : List Nat) (ws : World) (Gs : Ghost) (fr : List Nat) (σ : VS) (w : World) (G : Ghost) : Prop where
  start : ∃ a, Rel E N τ a ws Gs
  same : SameC E τ wl Gs ws w
  vl : ∀ i, i < τ.nx → G.vl i = Gs.vl i
  β : ∀ b, b < τ.bs.length → G.β b = Gs.β b
  nx : τ.nx ≤ σ.nx
  bs : τ.bs.length ≤ σ.bs.length
  fresh : ∀ i ∈ fr, i < σ.nx ∧ ∀ b, (G.vl i).ownBlock = some b → ws.heap.size ≤ b
  nb : ∀ b, τ.bs.length ≤ b → b < σ.bs.length → ws.heap.size ≤ G.β b
def DC (E : Env) (N : Nat) (τ : VS) (wl : List Nat) (fr : List Nat) (σ : VS) (Ψ : World → Ghost → Act → World → Prop) : Prop := ∀ ws Gs a w G, Rel E N σ a w G → LinkC E N τ wl ws Gs fr σ w G → Ψ ws Gs a w
abbrev SC (E : Env) (τ : VS) (wl : List Nat) (ws : World) (Gs : Ghost) : World → Prop := fun v => SameC E τ wl Gs ws v
variable {l : List Oper} {zs : List Nat} {ps : Pl} {i d : Nat} {fr wl : List Nat}
theorem LinkC.put (h : LinkC E N τ wl ws Gs fr σ w G) {v : V} : LinkC E N τ wl ws Gs fr (σ.put d v) w G := ⟨h.start, h.same, h.vl, h.β, h.nx, h.bs, h.fresh, h.nb⟩
theorem LinkC.lite (h : LinkC E N τ wl ws Gs fr σ w G) {v : World} (s : SameC E τ wl Gs ws v) : Lite E 0 G w v :=
  ⟨fun b hb => (s.below.block b hb).trans (h.same.below.block b hb).symm, fun c hc => absurd hc (Nat.not_lt_zero c)⟩
theorem DC.q {V' : V} (ho : nthO l i = some o) (h : OpL P E N 0 σ o V') (hg : o.guard = none) (hd : o.dst = some d) (hdN : d < N) (hQ : ∀ c (a : Act) v w, Q (.panic c) (a.put o.dst v) w → Q (.panic c) a w) (k : DC E N τ wl fr (σ.put d V') fun ws Gs a w => wpPi P l.toArray Q (SC E τ wl ws Gs) zs ps a w) :
    DC E N τ wl fr σ fun ws Gs a w => wpPi P l.toArray Q (SC E τ wl ws Gs) zs (.q i ps) a w := fun ws Gs a w G hr hl => by
  obtain ⟨u, h1, h2⟩ := h a w G hr
  refine pi_take (v := u) ho (fun c a w => hQ c a u w) (by simp [Region.wanted, hg]) (fun v hv => h1 v (hl.lite hv)) ?_
  rw [hd]
  exact k ws Gs _ w G (hr.put hdN h2) hl.put
theorem SameC.cell (h : Rel E N τ a ws Gs) {v : World} (s : SameC E τ wl Gs ws v) {j ver g k' n p : Nat} {ty : TypeId} {fs : List (List T)} {N' c : Nat} {e : List T} {u : Value} (hj : τ.ob j = some (ver, .seq ty fs)) (hv : Gs.vl j = .slice (some ⟨g, 0, none⟩) N' c) (he : fs[k']? = some e) (hen : e.length = n) (hp : p < n) (hcell : ws.cell? ⟨g, k' * n + p, none⟩ = some u) : v.cell? ⟨g, k' * n + p, none⟩ = some u := by
  have hroot : (Gs.vl j).ownBlock = some g := by rw [hv]; rfl
  have hft := root_ft h hj hroot
  rcases s.block g (lt_blk hcell) with h9 | ⟨c', -, hc', h9⟩ | ⟨i2, v2, ty2, es2, n2, cs, cs', f1, f2, f3, f4, f5, f6, f7⟩
  · exact (World.cell?_of_block h9).trans hcell
  · rw [h9] at hft
    exact absurd hft (h.boxft c' j hc' (by rw [hj]; simp))
  · have hji : j = i2 := by
      rcases Nat.decEq j i2 with hne | hne
      · exact absurd (root_ft h f1 f2) (h.disj j i2 g (by rw [hj]; simp) (by rw [f1]; simp) hne hft)
      · exact hne
    subst hji
    rw [hj] at f1
    cases f1
    obtain ⟨-, hown, -⟩ := h.objs j ver _ hj
    cases hown with
    | seq n3 hp3 hz3 hn3 xs hown3 Gs3 hr3 hone3 hF3 hG3 hne3 hd3 =>
      have hnn : n2 = n := (f3.eq hz3).trans ((hn3 e (get_mem he)).symm.trans hen)
      subst hnn
      have hlt : k' * n2 + p < fs.length * n2 := at_lt (get_lt he) hp
      rw [cell_of_row _ _ _ _ _ _ f4] at hcell
      rw [cell_of_row _ _ _ _ _ _ f5]
      have g1 : (cs'.toList.take (fs.length * n2))[k' * n2 + p]? = (cs.toList.take (fs.length * n2))[k' * n2 + p]? := by rw [f7]
      rw [List.getElem?_take, List.getElem?_take, if_pos hlt, if_pos hlt] at g1
      simpa using g1.trans (by simpa using hcell)
theorem SameC.cellB (h : Rel E N τ a ws Gs) {v : World} (s : SameC E τ wl Gs ws v) {j ver g k' n p : Nat} {ty : TypeId} {fs : List (List T)} {N' c : Nat} {e : List T} {u : Value} (hj : τ.ob j = some (ver, .seq ty fs)) (hv : Gs.vl j = .slice (some ⟨g, 0, none⟩) N' c) (he : fs[k']? = some e) (hen : e.length = n) (hp : p < n) (hcell : v.cell? ⟨g, k' * n + p, none⟩ = some u) : ws.cell? ⟨g, k' * n + p, none⟩ = some u := by
  obtain ⟨-, hown, -⟩ := h.objs j ver _ hj
  cases hown with
  | seq n3 hp3 hz3 hn3 xs hown3 Gs3 hr3 hone3 hF3 hG3 hne3 hd3 =>
    obtain ⟨a', c', e1, -, -, -, e5⟩ := own_slice hown3
    rw [hv] at e1
    injection e1 with e1 e2 e3
    obtain ⟨g', f1, f2, f3, f4, f5⟩ := e5 (Nat.lt_of_le_of_lt (Nat.zero_le _) (get_lt he))
    rw [f1] at e1
    injection e1 with e1
    injection e1 with e1
    have hn' : n3 = n := (hn3 e (get_mem he)).symm.trans hen
    subst hn' e1
    have hxl : xs.length = fs.length * n3 := hown3.1
    have hlt : k' * n3 + p < xs.length := by rw [hxl]; exact at_lt (get_lt he) hp
    have h6 := f4 (k' * n3 + p) xs[k' * n3 + p] (List.getElem?_eq_getElem hlt)
    have h7 := s.cell h hj hv he hen hp h6
    rw [hcell] at h7
    rw [h6, h7]
theorem DC.el {m : Nat} {ty : TypeId} {x : Operand} {j k' n o' : Nat} {ag : Bool} {es : List T} {ys : List Leaf} (hn : nthO l i = some o) (ho : o.op = .load ty x) (hx : σ.ev x = V.one (.ep j k' n o')) (hob : j < τ.nx ∧ σ.ob j = τ.ob j) (hc : σ.cells (.ep j k' n o') = some es) (hag : ∀ w, (isAgg ty).run Try.prog w = .ok ag w) (hm : Sz ty m) (h1 : ag = false → m = 1) (hml : m ≤ es.length)
    (hy : (List.range m).map (fun q => match es[q]? with | some t => σ.cellLeaf (.ep j k' n o') q t | none => .dead) = ys) (hg : o.guard = none) (hd : o.dst = some d) (hdN : d < N) (hQ : ∀ c (a : Act) v w, Q (.panic c) (a.put o.dst v) w → Q (.panic c) a w) (k : DC E N τ wl fr (σ.put d (V.flat ag ys)) fun ws Gs a w => wpPi Try.prog l.toArray Q (SC E τ wl ws Gs) zs ps a w) :
    DC E N τ wl fr σ fun ws Gs a w => wpPi Try.prog l.toArray Q (SC E τ wl ws Gs) zs (.q i ps) a w := fun ws Gs a w G hr hl => by
  obtain ⟨u, b, q, h2, h3, h4⟩ := load_el ho hx hc hag hm h1 hml hy hr
  refine pi_take (v := u) hn (fun c a w => hQ c a u w) (by simp [Region.wanted, hg]) (fun v hv => h3 v fun p y hp hcell => ?_) ?_
  · have h5 := hr.ev x
    rw [hx, vone] at h5
    obtain ⟨⟨-, g, M, c, h6, h7⟩, -⟩ := h5
    rw [h2] at h7
    injection h7 with h7
    injection h7 with h7
    injection h7 with h7 h8
    subst h7 h8
    obtain ⟨⟨ver, s⟩, e1, e2⟩ := Option.bind_eq_some_iff.1 hc
    obtain ⟨-, hown, ty', fs, hs⟩ := hr.objs j ver s e1
    have hs' : s = .seq ty' fs := hs
    subst hs'
    obtain ⟨e, he, e3⟩ := Option.bind_eq_some_iff.1 e2
    have hen : e.length = n := by
      cases hb : Nat.beq e.length n with
      | true => exact Nat.eq_of_beq_eq_true hb
      | false => simp only [hb] at e3; cases e3
    have hed : e.drop o' = es := by
      have hb : Nat.beq e.length n = true := by rw [hen]; exact Nat.beq_refl n
      simpa [hb] using e3
    have hlen : o' + p < n := by
      have : (e.drop o').length = es.length := by rw [hed]
      rw [List.length_drop, hen] at this
      omega
    obtain ⟨ar, hrs⟩ := hl.start
    have hj : τ.ob j = some (ver, .seq ty' fs) := by rw [← hob.2]; exact e1
    have hv0 : Gs.vl j = .slice (some ⟨b, 0, none⟩) M c := by rw [← hl.vl j hob.1]; exact h6
    have hcell' : w.cell? ⟨b, k' * n + (o' + p), none⟩ = some y := by rw [← Nat.add_assoc]; exact hcell
    have := hv.cell hrs hj hv0 he hen hlen (hl.same.cellB hrs hj hv0 he hen hlen hcell')
    rwa [← Nat.add_assoc] at this
  · rw [hd]
    exact k _ _ _ _ _ (hr.put hdN h4) hl.put
theorem DC.m (ho : nthO l i = some o) (h : OpMk P E N none σ o σ') (hg : o.guard = none) (hbs : σ'.bs.length = σ.bs.length) (hnx : σ.nx ≤ σ'.nx)
    (k : DC E N τ wl fr σ' fun ws Gs a w => wpPi P l.toArray Q (SC E τ wl ws Gs) zs ps a w) : DC E N τ wl fr σ fun ws Gs a w => wpPi P l.toArray Q (SC E τ wl ws Gs) zs (.m i ps) a w := fun ws Gs a w G hr hl => by
  refine pi_step ho fun K hK => ?_
  rw [if_pos (by simp [Region.wanted, hg])]
  refine h a w G K Q hr fun a' w' G' hr' hm => ?_
  have hblk : ∀ b, b < w.heap.size → w'.heap[b]? = w.heap[b]? := fun b hb => by
    rcases hm.block b hb with h1 | ⟨j, v, ty, es, n, cs, cs', e1, -⟩
    · exact h1
    · cases e1
  have hsame : SameC E τ wl Gs ws w' := by
    refine ⟨hl.same.below.trans hm.below, fun b hb => ?_⟩
    have h1 := hblk b (Nat.lt_of_lt_of_le hb hl.same.below.size)
    rcases hl.same.block b hb with h2 | h2 | ⟨i2, v2, ty2, es2, n2, ds, ds', f1, f2, f3, f4, f5, f6, f7⟩
    · exact .inl (h1.trans h2)
    · exact .inr (.inl h2)
    · exact .inr (.inr ⟨i2, v2, ty2, es2, n2, ds, ds', f1, f2, f3, f4, h1.trans f5, f6, f7⟩)
  exact hK.out a' w' hsame fun _ => k ws Gs a' w' G' hr' ⟨hl.start, hsame, fun j hj => (hm.vl j (Nat.lt_of_lt_of_le hj hl.nx)).trans (hl.vl j hj), fun b hb => (hm.β b (Nat.lt_of_lt_of_le hb hl.bs)).trans (hl.β b hb), Nat.le_trans hl.nx hnx, by rw [hbs]; exact hl.bs, fun j hj => ⟨Nat.lt_of_lt_of_le (hl.fresh j hj).1 hnx, fun b hb => (hl.fresh j hj).2 b (by rw [← hm.vl j (hl.fresh j hj).1]; exact hb)⟩, fun b h1 h2 => by rw [hbs] at h2; rw [hm.β b h2]; exact hl.nb b h1 h2⟩
theorem LinkC.box (h : LinkC E N τ wl ws Gs fr σ w G) {v : World} (s : SameC E τ wl Gs ws v) {c : Nat} (hc : c < τ.bs.length) (hw : c ∉ wl) : v.heap[G.β c]? = w.heap[G.β c]? := by
  obtain ⟨ar, hrs⟩ := h.start
  have key : ∀ {u : World}, SameC E τ wl Gs ws u → u.heap[Gs.β c]? = ws.heap[Gs.β c]? := fun {u} t => by
    obtain ⟨-, us, h2, -⟩ := hrs.boxes c _ _ (List.getElem?_eq_getElem hc)
    rcases t.block (Gs.β c) (lt_of_block h2) with h1 | ⟨c', hc1, hc2, h1⟩ | ⟨i, ver, ty, es, n, cs, cs', e1, e2, -⟩
    · exact h1
    · exact absurd (hrs.inj c c' hc hc2 h1) (fun e => hw (e ▸ hc1))
    · exact absurd (root_ft hrs e1 e2) (hrs.boxft c i hc (by rw [e1]; simp))
  rw [h.β c hc]
  exact (key s).trans (key h.same).symm
theorem DC.store {b i' m : Nat} {ty ty' : TypeId} {x y : Operand} {ag : Bool} {xs zs1 : List Leaf} (ho : o.op = .store ty x y) (hx : σ.ev x = V.one (.bp b i')) (hy : σ.ev y = V.flat ag zs1) (hb : σ.bs[b]? = some (ty', xs)) (hm : ∃ inf, P.info? ty = some inf ∧ inf.size = m) (h1 : ag = false → m = 1)
    (hzl : zs1.length = m) (hi : i' + m ≤ xs.length) (hlv' : zs1.all Leaf.live = true) (hd : o.dst = none) {ys : List Leaf} (hk : xs.take i' ++ zs1 ++ xs.drop (i' + zs1.length) = ys) (hn : nthO l i = some o) (hbw : b ∈ wl) (hbt : b < τ.bs.length) (hg : o.guard = none) (k : DC E N τ wl fr (σ.setb b ty' ys) fun ws Gs a w => wpPi P l.toArray Q (SC E τ wl ws Gs) zs ps a w) : DC E N τ wl fr σ fun ws Gs a w => wpPi P l.toArray Q (SC E τ wl ws Gs) zs (.m i ps) a w := fun ws Gs a w G h hl => by
  refine pi_step hn fun K hK => ?_
  rw [if_pos (by simp [Region.wanted, hg])]
  subst hk
  have h2 := h.ev x
  rw [hx, vone] at h2
  obtain ⟨⟨-, h3⟩, -⟩ := h2
  have hlv : ∀ x ∈ zs1, x.live = true := List.all_eq_true.1 hlv'
  have h4 := h.ev y
  rw [hy, vflat] at h4
  obtain ⟨vs, h5, h6, h7⟩ := h4
  obtain ⟨hB, us, h8, h9, h10⟩ := h.boxes b ty' xs hb
  have hone : ∀ (j : Nat) (x : Leaf) (u : Value), zs1[j]? = some x → vs[j]? = some u → Holds G σ E w x u ∧ u.oneCell' = true := fun j x u hj hu => ⟨h7 j x u hj hu, (h7 j x u hj hu).one (hlv x (get_mem hj))⟩
  have hr := store_run (P := P) (w := w) (b := G.β b) (i := i') (us := vs) (ag := ag) hm h1 (h6.trans hzl) (fun u hu => by
    obtain ⟨j, hj, rfl⟩ := List.getElem_of_mem hu
    exact (hone j zs1[j] vs[j] (by simp [show j < zs1.length by omega]) (by simp [hj])).2) (fun k hk => by
    rw [cell_of_row w _ _ _ _ _ h8]
    simp [show i' + k < us.length by omega]) fun k hk => by simp [World.frozen?, h8]
  have hsm : SameC E τ wl Gs ws (w.setCells (G.β b) i' vs) := by
    refine ⟨⟨(setCells_below _ _ _ _ _ (Nat.le_refl (G.β b))).os.trans hl.same.below.os, (setCells_below _ _ _ _ _ (Nat.le_refl (G.β b))).tape.trans hl.same.below.tape, (setCells_below _ _ _ _ _ (Nat.le_refl (G.β b))).output.trans hl.same.below.output, Nat.le_trans hl.same.below.size (setCells_below _ _ _ _ _ (Nat.le_refl (G.β b))).size, fun q hq => (setCells_far _ _ _ _ q fun e => by subst e; exact hB.elim (fun h1 => Nat.lt_irrefl _ (Nat.lt_of_lt_of_le hq.1 h1)) hq.2).trans (hl.same.below.block q hq)⟩, fun q hq => ?_⟩
    by_cases hqb : q = G.β b
    · exact .inr (.inl ⟨b, hbw, hbt, hqb.trans (hl.β b hbt)⟩)
    · have h1 := setCells_far (G.β b) vs i' w q hqb
      rcases hl.same.block q hq with h2 | h2 | ⟨i2, v2, ty2, es2, n2, ds, ds', f1, f2, f3, f4, f5, f6, f7⟩
      · exact .inl (h1.trans h2)
      · exact .inr (.inl h2)
      · exact .inr (.inr ⟨i2, v2, ty2, es2, n2, ds, ds', f1, f2, f3, f4, h1.trans f5, f6, f7⟩)
  have hrel := h.setbox hb ⟨(setCells_below _ _ _ _ _ (Nat.le_refl (G.β b))).os, (setCells_below _ _ _ _ _ (Nat.le_refl (G.β b))).tape, (setCells_below _ _ _ _ _ (Nat.le_refl (G.β b))).output, (setCells_below _ _ _ _ _ (Nat.le_refl (G.β b))).size, fun k hk => setCells_far (G.β b) vs i' w k fun e => by subst e; exact hB.elim (fun h1 => Nat.lt_irrefl _ (Nat.lt_of_lt_of_le hk.1 h1)) hk.2⟩ (fun k hk => setCells_far (G.β b) vs i' w k hk) (setCells_heap _ _ _ _ us ty' h8 (by omega)) (by simp; omega)
        (cat_get (R := fun x u => Holds G σ E w x u ∧ u.oneCell' = true) h9 h6 (by omega) h10 hone)
  refine wp_skipped (w' := w.setCells (G.β b) i' vs) ?_ (by
    rw [hd]
    exact hK.out _ _ hsm fun _ => k ws Gs _ _ G hrel ⟨hl.start, hsm, hl.vl, hl.β, hl.nx, by simpa [VS.setb] using hl.bs, hl.fresh, fun c h1 h2 => hl.nb c h1 (by simpa [VS.setb] using h2)⟩)
  simp [execOp, ho, h3, h5, Instr.storeAt, Instr.sureAddr, hr, Result.andThen]
theorem DC.alloc {ty : TypeId} {z : Value} {xs : List Leaf} {kk : Nat} (hn : nthO l i = some o) (hk : σ.bs.length = kk) (ho : o.op = .alloc ty) (hz : ∀ w, (zeroValue ty).run P w = .ok z w) (hxs : ZL xs z.cells.toList) (hd : o.dst = some d) (hdN : d < N) (hg : o.guard = none)
    (k : DC E N τ wl fr ((σ.box ty xs).put d (V.one (.bp kk 0))) fun ws Gs a w => wpPi P l.toArray Q (SC E τ wl ws Gs) zs ps a w) : DC E N τ wl fr σ fun ws Gs a w => wpPi P l.toArray Q (SC E τ wl ws Gs) zs (.m i ps) a w := fun ws Gs a w G hr hl => by
  refine pi_step hn fun K hK => ?_
  rw [if_pos (by simp [Region.wanted, hg])]
  subst hk
  obtain ⟨G', h1, h2, h3, h4⟩ := hr.alloc (ty := ty) hxs.len hxs.holds
  have hb : Below w.heap.size w (w.alloc (.cells z.cells.toList.toArray ty)) := (Below.refl _ _).alloc (Nat.le_refl _) _
  have hsame : SameC E τ wl Gs ws (w.alloc (.cells z.cells.toList.toArray ty)) := by
    refine ⟨hl.same.below.trans (.of_below (hb.mono hr.low)), fun b hb' => ?_⟩
    have h5 := hb.block b (Nat.lt_of_lt_of_le hb' hl.same.below.size)
    rcases hl.same.block b hb' with e2 | e2 | ⟨i2, v2, ty2, es2, n2, ds, ds', f1, f2, f3, f4, f5, f6, f7⟩
    · exact .inl (h5.trans e2)
    · exact .inr (.inl e2)
    · exact .inr (.inr ⟨i2, v2, ty2, es2, n2, ds, ds', f1, f2, f3, f4, h5.trans f5, f6, f7⟩)
  refine wp_value (v := .pointer (some ⟨w.heap.size, 0, none⟩)) (w' := w.alloc (.cells z.cells.toList.toArray ty)) ?_ ?_
  · simp [execOp, ho, Instr.alloc, hz, newVar, newRow, Result.andThen]
  rw [hd]
  refine hK.out _ _ hsame fun _ => k ws Gs _ _ G' (h1.put hdN (vone.2 ⟨⟨by simp, by rw [h2]⟩, .inr rfl⟩)) ⟨hl.start, hsame, fun j hj => by rw [h3]; exact hl.vl j hj, fun b hb' => (h4 b (Nat.lt_of_lt_of_le hb' hl.bs)).trans (hl.β b hb'), hl.nx, ?_, fun j hj => ⟨(hl.fresh j hj).1, fun b hb' => (hl.fresh j hj).2 b (by rw [← h3]; exact hb')⟩, fun b h5 h6 => ?_⟩
  · show τ.bs.length ≤ (σ.bs ++ [(ty, xs)]).length
    rw [List.length_append]
    have := hl.bs
    omega
  · have h6' : b < (σ.bs ++ [(ty, xs)]).length := h6
    rw [List.length_append, List.length_singleton] at h6'
    rcases Nat.lt_or_ge b σ.bs.length with h7 | h7
    · rw [h4 b h7]; exact hl.nb b h5 h7
    · rw [show b = σ.bs.length by omega, h2]
      exact hl.same.below.size
theorem DC.alt {ps1 ps2 : Pl} {j : Nat} (h1 : DC E N τ wl fr σ fun ws Gs a w => wpPi P l.toArray Q (SC E τ wl ws Gs) zs (.m i ps1) a w) (h2 : DC E N τ wl fr σ fun ws Gs a w => wpPi P l.toArray Q (SC E τ wl ws Gs) zs (.m j ps2) a w) :
    DC E N τ wl fr σ fun ws Gs a w => wpPi P l.toArray Q (SC E τ wl ws Gs) zs (.alt i ps1 j ps2) a w := fun ws Gs a w G hr hl => ⟨h1 ws Gs a w G hr hl, h2 ws Gs a w G hr hl⟩
theorem DC.stores (h : SV E N σ (wpZ P l.toArray Q zs)) : DC E N τ wl fr σ fun ws Gs a w => wpPi P l.toArray Q (SC E τ wl ws Gs) zs .nil a w := fun ws Gs a w G hr hl => pi_end (h a w G hr)
end Go.Proofs.Ytfionajnoaednaa.V
/- States told by trees: a region that draws its order, with calls that are handed a cursor. -/
namespace Go.Proofs.Ytfionajnoaednaa.V
open Go Go.RowKit
set_option linter.unusedVariables false
variable {P : Program} {E : Env} {N : Nat} {σ σ' τ : VS} {o : Oper} {a : Act} {w ws : World} {G Gs : Ghost} {Q : Exit → Act → World → Prop} {ad : Option Addr} {len cap : Nat} {zs0 : List Int}
variable {l : List Oper} {zs : List Nat} {ps : Pl} {i d : Nat} {fr wl : List Nat}
end Go.Proofs.Ytfionajnoaednaa.V
/- What the law of runs draws: rows, a grant: told by trees. -/
namespace Go.Proofs.Ytfionajnoaednaa
open Go Go.RowKit V
set_option linter.unusedVariables false
theorem gives_mineR {w w' : World} {v : Value} {L : List R} (hm : Mine w' w.heap.size v L) (hb : Below w.heap.size w w') : V.Gives (Env.of w) false [(false, [.seq 59 (L.map tRow)])] (.returned v) w' := by
  refine ⟨[[v]], fun c j b => c = 0 ∧ j = 0 ∧ v.ownBlock = some b, rfl, rfl, fun c ag ts us hc hu => ?_, fun c j c' j' b hb hb' => ⟨hb.1.trans hb'.1.symm, hb.2.1.trans hb'.2.1.symm⟩, fun c j b hb => ?_, .of_below hb⟩
  · match c, hc, hu with
    | 0, hc, hu => cases hc; cases hu; exact ⟨rfl, fun j t u h h' => by match j, h, h' with | 0, h, h' => cases h; cases h'; exact (own_rows hm).mono fun b hb => ⟨rfl, rfl, hb⟩⟩
  · have := World.ownsRow.lt hm b hb.2.2
    exact ⟨.inl this.1, this.2⟩
theorem vsort_t (L : List R) (hL : ∀ r ∈ L, r.wf) (hl : L.length ≤ 1000000000) : VC Try.prog 41 [(false, [.seq 59 (L.map tRow)])] false [(false, [.seq 59 ((R.sort L).map tRow)])] := fun w vs hv => by
  obtain ⟨k, vs', rfl, h2, h3⟩ := hv.shape (Fits.slice 59 Fits.row) hL
  rw [h3.none]
  have e : k.2.1 = L.length := h2.1.1.symm
  have hr := rows_in h2.1
  exact (ssortv k.1 k.2.1 k.2.2 L w hr (by omega)).mono fun e w' ⟨v, he, hm, hb⟩ => he ▸ gives_mineR hm hb
end Go.Proofs.Ytfionajnoaednaa
/- What the law of runs draws: runs: told by trees. -/
namespace Go.Proofs.Ytfionajnoaednaa
open Go Go.RowKit V
set_option linter.unusedVariables false
set_option maxRecDepth 100000 in
set_option maxHeartbeats 2000000 in
theorem vk_runs {ad : Option Addr} {len cap : Nat} {zs : List Int}  : VK ad len cap zs (fun X : List (List R) => X.length ≤ 4 ∧ ∀ p ∈ X, p.length ≤ 4 ∧ ∀ r ∈ p, r.wf) Try.prog 46 [] false (fun X => [(false, [.seq 63 (X.map tRun)])]) := by
  refine VK.enter Try.func46 rfl Try.ntmps46 (gle rfl) (by simp) fun E c p h0 hE hC hpin hp => ?_
  refine SV.seq' ?_
  refine SV.region ?_
  refine SV.op (OpL.ok (nb := 1) (ok_move (v := V.one (.sc _)) (.inr rfl) rfl) rfl (gle rfl)) rfl ?_
  refine SV.nil ?_
  refine SV.tn ?_
  refine SV.seq' ?_
  refine SV.region ?_
  refine SV.op (OpMk.ok (ok_lit0 (kk := 0) elt_impl_Run rfl rfl rfl (gle rfl))) rfl ?_
  refine SV.op (OpL.ok (nb := 1) (ok_move (v := V.one (.hd 0)) (.inr rfl) rfl) rfl (gle rfl)) rfl ?_
  refine SV.nil ?_
  refine SV.tn ?_
  refine SV.seq' ?_
  refine SV.seq' ?_
  refine SV.region ?_
  refine SV.op (OpL.ok (nb := 1) (ok_move (v := V.one (.bp 0 0)) (.inl rfl) rfl) rfl (gle rfl)) rfl ?_
  refine SV.callK (b := 0) hC rfl ⟨_, _, Try.func64, rfl, by decide⟩ (vk_below 5 (by decide) (by decide)) rfl ⟨rfl, trivial⟩ rfl hp rfl (gle rfl) (fun _ => wanted0 rfl) ?_
  rintro k0 p1 h1 ⟨hk0, hk1⟩ hp1
  refine SV.op (OpL.ok (nb := 1) (ok_move (v := V.one (.sc _)) (.inr rfl) rfl) rfl (gle rfl)) rfl ?_
  refine SV.nil ?_
  refine SV.tn ?_
  refine SV.block ?_
  refine SV.loopF (X := Int × Int × Int × List (List R)) (fun (σ : VS) z => ((((((VS.nil.new (.seq 63 ((z.2.2.2).map tRun))).box 79 [σ.bl 0 0, .sc (.int .i64 (z.1)), .sc (.int .i64 (z.2.1))]).put 0 (V.flat false [.bp 0 0])).put 2 (σ.tm 2)).put 3 (V.flat false [.hd 0])).put 4 (V.flat false [.sc (.int .i64 (z.2.2.1))]))) (fun z => (0 ≤ z.1 ∧ z.1 ≤ len) ∧ 0 ≤ z.2.2.1 ∧ z.2.2.2.length + z.2.2.1.toNat ≤ 4 ∧ ∀ p ∈ z.2.2.2, p.length ≤ 4 ∧ ∀ r ∈ p, r.wf) (fun z => z.2.2.1.toNat) ?_ ?_
  · skip
    refine SV.again (fun i => [0].getD i 0) (p1, h1, k0, []) (⟨hp1, hk0, (by show 0 + k0.toNat ≤ 4; omega), fun g hg => by cases hg⟩) (pinsC hE rfl) (VS.le.mk' (le_put (le_put (le_put (le_put (le_box (le_new le_nil)) (V.le.keep (ag := false) (xs := [.bp 0 0]) (ys := [.bp 0 0]) rfl rfl ⟨⟨rfl, (gle rfl)⟩, trivial⟩)) (V.le.keep (ag := false) (xs := [.sc _]) (ys := [.sc _]) rfl rfl ⟨rfl, trivial⟩)) (V.le.keep (ag := false) (xs := [.hd 0]) (ys := [.hd 0]) rfl rfl ⟨⟨rfl, (gle rfl), (gle rfl)⟩, trivial⟩)) (V.le.keep (ag := false) (xs := [.sc _]) (ys := [.sc _]) rfl rfl ⟨(by first | rfl | (show Leaf.sc _ = Leaf.sc _; refine congrArg Leaf.sc ?_; first | rfl | go_num | (simp [cntAll]; done)) | (simp [cntAll]; done) | (simp; omega)), trivial⟩)) ⟨⟨rfl, ⟨rfl, (by first | rfl | (show Leaf.sc _ = Leaf.sc _; refine congrArg Leaf.sc ?_; first | rfl | go_num | (simp [cntAll]; done)) | (simp [cntAll]; done) | (simp; omega)), (by first | rfl | (show Leaf.sc _ = Leaf.sc _; refine congrArg Leaf.sc ?_; first | rfl | go_num | (simp [cntAll]; done)) | (simp [cntAll]; done) | (simp; omega)), trivial⟩⟩, trivial⟩ ⟨.inr ⟨_, _, rfl, ?ob1_0, (gle rfl)⟩, trivial⟩ (new_ob nil_ob) (fun i j hi hj e => inj_list (l := [0]) (by decide) i j hi hj e))
    case ob1_0 =>
      show some (T.seq _ _) = some (T.seq _ _)
      first | rfl | exact congrArg some (congrArg (T.seq _) (by simp))
  · rintro ⟨p, h, n, X⟩ ⟨hq, hn0, hX, hXk⟩
    dsimp only at hq hn0 hX hXk
    refine SV.seq' ?_
    refine SV.seq' ?_
    refine SV.region ?_
    refine SV.op (OpL.ok (nb := 1) (ok_move (v := V.one (.sc _)) (.inl rfl) rfl) rfl (gle rfl)) rfl ?_
    refine SV.op (OpL.ok (nb := 1) (ok_s2 (x := .tmp 9) (x' := .const ((Value.int IntKind.i64 0))) (VScal.one rfl) (VScal.one rfl) (fun ρ h1 h2 w => by go_simp; (try go_bits); with_reducible rfl) rfl) rfl (gle rfl)) rfl ?_
    refine SV.nil ?_
    refine SV.tn ?_
    refine SV.cond rfl (fun hc0 => ?_) (fun hc0 => ?_)
    · skip   -- c0.T
      have hn2 : 0 < n := by simpa using hc0
      refine SV.skip ?_
      refine SV.tn ?_
      refine SV.seq' ?_
      refine SV.block ?_
      refine SV.seq' ?_
      refine SV.region ?_
      refine SV.op (OpL.ok (nb := 1) (ok_move (v := V.one (.bp 0 0)) (.inl rfl) rfl) rfl (gle rfl)) rfl ?_
      refine SV.callK (b := 0) hC rfl ⟨_, _, Try.func44, rfl, by decide⟩ (vk_rows 4 (by decide) (by decide)) rfl ⟨rfl, trivial⟩ rfl hq rfl (gle rfl) (fun _ => wanted0 rfl) ?_
      rintro A p2 h2 ⟨hA, hwA⟩ hp2
      refine SV.op (OpMk.ok (ok_call (ls := [(false, [.hd 2])]) rfl rfl ⟨_, _, Try.func41, rfl, by decide⟩ (vsort_t A hwA (by omega)) ⟨⟨[.hd 1], rfl, ⟨rfl, trivial⟩⟩, trivial⟩ rfl (gle rfl))) rfl ?_
      refine SV.op (OpL.ok (nb := 1) (ok_move (v := V.one (.hd 2)) (.inr rfl) rfl) rfl (gle rfl)) rfl ?_
      refine SV.nil ?_
      refine SV.tn ?_
      refine SV.seq' ?_
      refine SV.region ?_
      refine SV.op (OpL.ok (nb := 1) (ok_move (v := V.one (.hd 2)) (.inl rfl) rfl) rfl (gle rfl)) rfl ?_
      refine SV.op (OpL.ok (nb := 1) (ok_len (lf := .hd 2) rfl elt_impl_Row.und rfl rfl) rfl (gle rfl)) rfl ?_
      refine SV.op (OpL.ok (nb := 1) (ok_s2 (x := .tmp 17) (x' := .const ((Value.int IntKind.i64 0))) (VScal.one rfl) (VScal.one rfl) (fun ρ h1 h2 w => by go_simp; (try go_bits); with_reducible rfl) rfl) rfl (gle rfl)) rfl ?_
      refine SV.op (OpL.ok (nb := 1) (ok_move (v := V.one (.sc _)) (.inl rfl) rfl) rfl (gle rfl)) rfl ?_
      refine SV.split (d := 19) rfl (fun hg0 => ?_) (fun hg0 => ?_)
      · skip   -- g0.T
        refine SV.opN rfl rfl rfl (gle rfl) rfl rfl rfl (gle rfl) ?_
        refine SV.opN rfl rfl rfl (gle rfl) rfl rfl rfl (gle rfl) ?_
        refine SV.op (OpL.ok (nb := 1) (ok_pickT (v := V.one (.sc _)) rfl rfl rfl) rfl (gle rfl)) rfl ?_
        refine SV.nil ?_
        refine SV.tn ?_
        refine SV.cond rfl (fun hc1 => ?_) (fun hc1 => ?_)
        · skip   -- c1.T
          obtain ⟨Y, hY⟩ : ∃ Y, Y = X ++ [R.sort A] := ⟨_, rfl⟩
          have hYl : Y.length = X.length + 1 := by rw [hY]; simp
          have hYk : ∀ p ∈ Y, p.length ≤ 4 ∧ ∀ r ∈ p, r.wf := fun p hp => by
            rw [hY] at hp
            rcases List.mem_append.1 hp with h | h
            · exact hXk p h
            · rw [List.mem_singleton.1 h]; exact ⟨by rw [R.sort_length]; omega, R.sort_wf hwA⟩
          refine SV.region ?_
          refine SV.op (OpL.ok (nb := 1) (ok_move (v := V.one (.hd 0)) (.inl rfl) rfl) rfl (gle rfl)) rfl ?_
          refine SV.op (OpL.ok (nb := 1) (ok_move (v := V.one (.hd 2)) (.inl rfl) rfl) rfl (gle rfl)) rfl ?_
          refine SV.op (OpL.ok (nb := 1) (ok_build (zs := [.nl _]) (ys := [.hd 2]) (qs := [(0, [.hd 2])]) (pl := fun i => ([(0, 1)] : List (Nat × Nat))[i]?) rfl zero_impl_Run ⟨rfl, ⟨3, by decide, sz_impl_Row⟩, trivial⟩ ⟨⟨rfl, false, rfl, (fun _ => rfl), rfl⟩, trivial⟩ bld_impl_Run rfl) rfl (gle rfl)) rfl ?_
          refine SV.op (OpMk.ok (ok_lit1 (kk := 3) elt_impl_Run (ag := true) (xs := [.hd 2]) rfl rfl rfl rfl (fun h => by cases h) (outs_c rfl outs_n) (by simp [two]) rfl (gle rfl))) rfl ?_
          refine SV.op (OpMk.ok (ok_append (kk := 4) elt_impl_Run (ls := .hd 0) (lx := .hd 3) rfl rfl rfl rfl rfl rfl (by intro i h1 h2; first | (cases h1; done) | (cases h1; cases h2)) (by first | omega | (simp only [List.length_map]; omega) | (simp; done) | (simp; omega)) rfl (gle rfl))) rfl ?_
          refine SV.op (OpL.ok (nb := 1) (ok_move (v := V.one (.hd 4)) (.inr rfl) rfl) rfl (gle rfl)) rfl ?_
          refine SV.nil ?_
          refine SV.bn ?_
          refine SV.tn ?_
          refine SV.region ?_
          refine SV.op (OpL.ok (nb := 1) (ok_move (v := V.one (.sc _)) (.inl rfl) rfl) rfl (gle rfl)) rfl ?_
          refine SV.op (OpL.ok (nb := 1) (ok_s2 (x := .tmp 11) (x' := .const ((Value.int IntKind.i64 1))) (VScal.one rfl) (VScal.one rfl) (fun ρ h1 h2 w => by go_simp; (try go_bits); with_reducible rfl) rfl) rfl (gle rfl)) rfl ?_
          refine SV.op (OpL.ok (nb := 1) (ok_move (v := V.one (.sc _)) (.inr rfl) rfl) rfl (gle rfl)) rfl ?_
          refine SV.nil ?_
          refine SV.tn ?_
          refine SV.again (fun i => [4].getD i 0) ((p2, h2, n - 1, Y)) (⟨⟨hp2, (by show (0 : Int) ≤ n - 1; omega), (by show Y.length + (n - 1).toNat ≤ 4; omega), hYk⟩, (by show (n - 1).toNat < n.toNat; omega)⟩) (pinsC hE rfl) (VS.le.mk' (le_put (le_put (le_put (le_put (le_box (le_new le_nil)) (V.le.keep (ag := false) (xs := [.bp 0 0]) (ys := [.bp 0 0]) rfl rfl ⟨⟨rfl, (gle rfl)⟩, trivial⟩)) (V.le.keep (ag := false) (xs := [.sc _]) (ys := [.sc _]) rfl rfl ⟨rfl, trivial⟩)) (V.le.keep (ag := false) (xs := [.hd 4]) (ys := [.hd 0]) rfl rfl ⟨⟨rfl, (gle rfl), (gle rfl)⟩, trivial⟩)) (V.le.keep (ag := false) (xs := [.sc _]) (ys := [.sc _]) rfl rfl ⟨(by first | rfl | (show Leaf.sc _ = Leaf.sc _; refine congrArg Leaf.sc ?_; first | rfl | go_num | (simp [cntAll]; done)) | (simp [cntAll]; done) | (simp; omega)), trivial⟩)) ⟨⟨rfl, ⟨rfl, (by first | rfl | (show Leaf.sc _ = Leaf.sc _; refine congrArg Leaf.sc ?_; first | rfl | go_num | (simp [cntAll]; done)) | (simp [cntAll]; done) | (simp; omega)), (by first | rfl | (show Leaf.sc _ = Leaf.sc _; refine congrArg Leaf.sc ?_; first | rfl | go_num | (simp [cntAll]; done)) | (simp [cntAll]; done) | (simp; omega)), trivial⟩⟩, trivial⟩ ⟨.inr ⟨_, _, rfl, ?ob2_0, (gle rfl)⟩, trivial⟩ (new_ob nil_ob) (fun i j hi hj e => inj_list (l := [4]) (by decide) i j hi hj e))
          case ob2_0 =>
            show some (T.seq _ _) = some (T.seq _ _)
            rw [hY]; first | done | rfl | (simp [tRun]; done)
        · skip   -- c1.F
          cases hc1
      · skip   -- g0.F
        refine SV.opY (OpL.ok (nb := 1) (ok_move (v := V.one (.bp 0 0)) (.inl rfl) rfl) rfl (gle rfl)) rfl rfl rfl (gle rfl) rfl rfl ?_
        refine SV.callK (b := 0) hC rfl ⟨_, _, Try.func43, rfl, by decide⟩ (vk_once 20 (by decide) (by decide)) rfl ⟨rfl, trivial⟩ rfl hp2 rfl (gle rfl) (fun hr => wantedY hr rfl rfl rfl (gle rfl) rfl rfl) ?_
        rintro o0 p3 h3 - hp3
        refine SV.op (OpL.ok (nb := 1) (ok_pickF (v := V.one (.sc _)) rfl rfl rfl) rfl (gle rfl)) rfl ?_
        refine SV.nil ?_
        refine SV.tn ?_
        refine SV.cond rfl (fun hc2 => ?_) (fun hc2 => ?_)
        · skip   -- c2.T
          obtain ⟨Y, hY⟩ : ∃ Y, Y = X ++ [R.sort A] := ⟨_, rfl⟩
          have hYl : Y.length = X.length + 1 := by rw [hY]; simp
          have hYk : ∀ p ∈ Y, p.length ≤ 4 ∧ ∀ r ∈ p, r.wf := fun p hp => by
            rw [hY] at hp
            rcases List.mem_append.1 hp with h | h
            · exact hXk p h
            · rw [List.mem_singleton.1 h]; exact ⟨by rw [R.sort_length]; omega, R.sort_wf hwA⟩
          refine SV.region ?_
          refine SV.op (OpL.ok (nb := 1) (ok_move (v := V.one (.hd 0)) (.inl rfl) rfl) rfl (gle rfl)) rfl ?_
          refine SV.op (OpL.ok (nb := 1) (ok_move (v := V.one (.hd 2)) (.inl rfl) rfl) rfl (gle rfl)) rfl ?_
          refine SV.op (OpL.ok (nb := 1) (ok_build (zs := [.nl _]) (ys := [.hd 2]) (qs := [(0, [.hd 2])]) (pl := fun i => ([(0, 1)] : List (Nat × Nat))[i]?) rfl zero_impl_Run ⟨rfl, ⟨3, by decide, sz_impl_Row⟩, trivial⟩ ⟨⟨rfl, false, rfl, (fun _ => rfl), rfl⟩, trivial⟩ bld_impl_Run rfl) rfl (gle rfl)) rfl ?_
          refine SV.op (OpMk.ok (ok_lit1 (kk := 3) elt_impl_Run (ag := true) (xs := [.hd 2]) rfl rfl rfl rfl (fun h => by cases h) (outs_c rfl outs_n) (by simp [two]) rfl (gle rfl))) rfl ?_
          refine SV.op (OpMk.ok (ok_append (kk := 4) elt_impl_Run (ls := .hd 0) (lx := .hd 3) rfl rfl rfl rfl rfl rfl (by intro i h1 h2; first | (cases h1; done) | (cases h1; cases h2)) (by first | omega | (simp only [List.length_map]; omega) | (simp; done) | (simp; omega)) rfl (gle rfl))) rfl ?_
          refine SV.op (OpL.ok (nb := 1) (ok_move (v := V.one (.hd 4)) (.inr rfl) rfl) rfl (gle rfl)) rfl ?_
          refine SV.nil ?_
          refine SV.bn ?_
          refine SV.tn ?_
          refine SV.region ?_
          refine SV.op (OpL.ok (nb := 1) (ok_move (v := V.one (.sc _)) (.inl rfl) rfl) rfl (gle rfl)) rfl ?_
          refine SV.op (OpL.ok (nb := 1) (ok_s2 (x := .tmp 11) (x' := .const ((Value.int IntKind.i64 1))) (VScal.one rfl) (VScal.one rfl) (fun ρ h1 h2 w => by go_simp; (try go_bits); with_reducible rfl) rfl) rfl (gle rfl)) rfl ?_
          refine SV.op (OpL.ok (nb := 1) (ok_move (v := V.one (.sc _)) (.inr rfl) rfl) rfl (gle rfl)) rfl ?_
          refine SV.nil ?_
          refine SV.tn ?_
          refine SV.again (fun i => [4].getD i 0) ((p3, h3, n - 1, Y)) (⟨⟨hp3, (by show (0 : Int) ≤ n - 1; omega), (by show Y.length + (n - 1).toNat ≤ 4; omega), hYk⟩, (by show (n - 1).toNat < n.toNat; omega)⟩) (pinsC hE rfl) (VS.le.mk' (le_put (le_put (le_put (le_put (le_box (le_new le_nil)) (V.le.keep (ag := false) (xs := [.bp 0 0]) (ys := [.bp 0 0]) rfl rfl ⟨⟨rfl, (gle rfl)⟩, trivial⟩)) (V.le.keep (ag := false) (xs := [.sc _]) (ys := [.sc _]) rfl rfl ⟨rfl, trivial⟩)) (V.le.keep (ag := false) (xs := [.hd 4]) (ys := [.hd 0]) rfl rfl ⟨⟨rfl, (gle rfl), (gle rfl)⟩, trivial⟩)) (V.le.keep (ag := false) (xs := [.sc _]) (ys := [.sc _]) rfl rfl ⟨(by first | rfl | (show Leaf.sc _ = Leaf.sc _; refine congrArg Leaf.sc ?_; first | rfl | go_num | (simp [cntAll]; done)) | (simp [cntAll]; done) | (simp; omega)), trivial⟩)) ⟨⟨rfl, ⟨rfl, (by first | rfl | (show Leaf.sc _ = Leaf.sc _; refine congrArg Leaf.sc ?_; first | rfl | go_num | (simp [cntAll]; done)) | (simp [cntAll]; done) | (simp; omega)), (by first | rfl | (show Leaf.sc _ = Leaf.sc _; refine congrArg Leaf.sc ?_; first | rfl | go_num | (simp [cntAll]; done)) | (simp [cntAll]; done) | (simp; omega)), trivial⟩⟩, trivial⟩ ⟨.inr ⟨_, _, rfl, ?ob3_0, (gle rfl)⟩, trivial⟩ (new_ob nil_ob) (fun i j hi hj e => inj_list (l := [4]) (by decide) i j hi hj e))
          case ob3_0 =>
            show some (T.seq _ _) = some (T.seq _ _)
            rw [hY]; first | done | rfl | (simp [tRun]; done)
        · skip   -- c2.F
          obtain ⟨Y, hY⟩ : ∃ Y, Y = X := ⟨_, rfl⟩
          have hYl : Y.length = X.length := by rw [hY]
          have hYk : ∀ p ∈ Y, p.length ≤ 4 ∧ ∀ r ∈ p, r.wf := by rw [hY]; exact hXk
          refine SV.skip ?_
          refine SV.bn ?_
          refine SV.tn ?_
          refine SV.region ?_
          refine SV.op (OpL.ok (nb := 1) (ok_move (v := V.one (.sc _)) (.inl rfl) rfl) rfl (gle rfl)) rfl ?_
          refine SV.op (OpL.ok (nb := 1) (ok_s2 (x := .tmp 11) (x' := .const ((Value.int IntKind.i64 1))) (VScal.one rfl) (VScal.one rfl) (fun ρ h1 h2 w => by go_simp; (try go_bits); with_reducible rfl) rfl) rfl (gle rfl)) rfl ?_
          refine SV.op (OpL.ok (nb := 1) (ok_move (v := V.one (.sc _)) (.inr rfl) rfl) rfl (gle rfl)) rfl ?_
          refine SV.nil ?_
          refine SV.tn ?_
          refine SV.again (fun i => [0].getD i 0) ((p3, h3, n - 1, Y)) (⟨⟨hp3, (by show (0 : Int) ≤ n - 1; omega), (by show Y.length + (n - 1).toNat ≤ 4; omega), hYk⟩, (by show (n - 1).toNat < n.toNat; omega)⟩) (pinsC hE rfl) (VS.le.mk' (le_put (le_put (le_put (le_put (le_box (le_new le_nil)) (V.le.keep (ag := false) (xs := [.bp 0 0]) (ys := [.bp 0 0]) rfl rfl ⟨⟨rfl, (gle rfl)⟩, trivial⟩)) (V.le.keep (ag := false) (xs := [.sc _]) (ys := [.sc _]) rfl rfl ⟨rfl, trivial⟩)) (V.le.keep (ag := false) (xs := [.hd 0]) (ys := [.hd 0]) rfl rfl ⟨⟨rfl, (gle rfl), (gle rfl)⟩, trivial⟩)) (V.le.keep (ag := false) (xs := [.sc _]) (ys := [.sc _]) rfl rfl ⟨(by first | rfl | (show Leaf.sc _ = Leaf.sc _; refine congrArg Leaf.sc ?_; first | rfl | go_num | (simp [cntAll]; done)) | (simp [cntAll]; done) | (simp; omega)), trivial⟩)) ⟨⟨rfl, ⟨rfl, (by first | rfl | (show Leaf.sc _ = Leaf.sc _; refine congrArg Leaf.sc ?_; first | rfl | go_num | (simp [cntAll]; done)) | (simp [cntAll]; done) | (simp; omega)), (by first | rfl | (show Leaf.sc _ = Leaf.sc _; refine congrArg Leaf.sc ?_; first | rfl | go_num | (simp [cntAll]; done)) | (simp [cntAll]; done) | (simp; omega)), trivial⟩⟩, trivial⟩ ⟨.inr ⟨_, _, rfl, ?ob4_0, (gle rfl)⟩, trivial⟩ (new_ob nil_ob) (fun i j hi hj e => inj_list (l := [0]) (by decide) i j hi hj e))
          case ob4_0 =>
            show some (T.seq _ _) = some (T.seq _ _)
            rw [hY]; first | done | rfl | (simp [tRun]; done)
    · skip   -- c0.F
      refine SV.exit ?_
      refine SV.te ?_
      refine SV.te ?_
      refine SV.bh ?_
      refine SV.tn ?_
      refine SV.seq' ?_
      refine SV.seq' ?_
      refine SV.region ?_
      refine SV.op (OpL.ok (nb := 1) (ok_move (v := V.one (.hd 0)) (.inl rfl) rfl) rfl (gle rfl)) rfl ?_
      refine SV.op (OpL.ok (nb := 1) (ok_len (lf := .hd 0) rfl elt_impl_Run.und rfl rfl) rfl (gle rfl)) rfl ?_
      refine SV.op (OpL.ok (nb := 1) (ok_s2 (x := .tmp 29) (x' := .const ((Value.int IntKind.i64 0))) (VScal.one rfl) (VScal.one rfl) (fun ρ h1 h2 w => by go_simp; (try go_bits); with_reducible rfl) rfl) rfl (gle rfl)) rfl ?_
      refine SV.op (OpL.ok (nb := 1) (ok_move (v := V.one (.sc _)) (.inl rfl) rfl) rfl (gle rfl)) rfl ?_
      refine SV.split (d := 31) rfl (fun hg1 => ?_) (fun hg1 => ?_)
      · skip   -- g1.T
        have hX0 : 0 < X.length := by rcases Nat.eq_zero_or_pos X.length with h | h; (exfalso; simp [h] at hg1); (exact h)
        obtain ⟨p0, hx0⟩ : ∃ p0, X[0]? = some p0 := ⟨_, List.getElem?_eq_getElem hX0⟩
        refine SV.opY (OpL.ok (nb := 1) (ok_move (v := V.one (.bp 0 0)) (.inl rfl) rfl) rfl (gle rfl)) rfl rfl rfl (gle rfl) rfl rfl ?_
        refine SV.callK (b := 0) hC rfl ⟨_, _, Try.func43, rfl, by decide⟩ (vk_once 12 (by decide) (by decide)) rfl ⟨rfl, trivial⟩ rfl hq rfl (gle rfl) (fun hr => wantedY hr rfl rfl rfl (gle rfl) rfl rfl) ?_
        rintro o1 p4 h4 - hp4
        refine SV.op (OpL.ok (nb := 1) (ok_pickT (v := V.one (.sc _)) rfl rfl rfl) rfl (gle rfl)) rfl ?_
        refine SV.nil ?_
        refine SV.tn ?_
        refine SV.cond rfl (fun hc3 => ?_) (fun hc3 => ?_)
        · skip   -- c3.T
          refine SV.region ?_
          refine SV.op (OpL.ok (nb := 1) (ok_move (v := V.one (.hd 0)) (.inl rfl) rfl) rfl (gle rfl)) rfl ?_
          refine SV.op (OpL.ok (nb := 1) (ok_move (v := V.one (.bp 0 0)) (.inl rfl) rfl) rfl (gle rfl)) rfl ?_
          refine SV.callK (b := 0) hC rfl ⟨_, _, Try.func44, rfl, by decide⟩ (vk_rows 4 (by decide) (by decide)) rfl ⟨rfl, trivial⟩ rfl hp4 rfl (gle rfl) (fun _ => wanted0 rfl) ?_
          rintro B p5 h5 ⟨hB, hwB⟩ hp5
          refine SV.op (OpL.ok (nb := 1) (ok_index (n := 1) (lf := .hd 0) rfl elt_impl_Run.und sz_impl_Run rfl rfl rfl (map_at hx0)) rfl (gle rfl)) rfl ?_
          refine SV.op (OpL.ok (nb := 1) (ok_field_el (p := .ep 0 _ _ _) (off := 0) rfl rfl (cells_ep rfl (map_at hx0) rfl rfl) fld_impl_Run_0) rfl (gle rfl)) rfl ?_
          refine SV.op (ok_store_ep (i := 0) (n := 1) (m := 1) (ag := false) (zs := [.hd 1]) rfl rfl rfl rfl (map_at hx0) sz_s_impl_Row (fun _ => rfl) rfl sz_impl_Run (gle rfl) (outs_c rfl outs_n) (by simp [two]) rfl rfl rfl) rfl ?_
          refine SV.nil ?_
          refine SV.tn ?_
          refine SV.seq' ?_
          refine SV.region ?_
          refine SV.op (OpL.ok (nb := 1) (ok_move (v := V.one (.hd 0)) (.inl rfl) rfl) rfl (gle rfl)) rfl ?_
          refine SV.op (OpL.ok (nb := 1) (ok_move (v := V.one (.hd 0)) (.inr rfl) rfl) rfl (gle rfl)) rfl ?_
          refine SV.nil ?_
          refine SV.tn ?_
          refine SV.ret ?_
          apply SV.doneK (Pr := fun X : List (List R) => X.length ≤ 4 ∧ ∀ p ∈ X, p.length ≤ 4 ∧ ∀ r ∈ p, r.wf) (rs := fun X => [(false, [.seq 63 (X.map tRun)])]) (y := X.set 0 B) (hy := ⟨by rw [List.length_set]; omega, fun q hq2 => by rcases List.mem_or_eq_of_mem_set hq2 with h | h; (exact hXk q h); (rw [h]; exact ⟨by omega, hwB⟩)⟩) (hC := hC) (hpin := hpin) (hp := hp5) (hbx := rfl) (hf := Try.results46) (ht := rfl) (he := .inl rfl)
          case hr => exact (ResAll.cons (ResOk.tmp (ag := false) (xs := [.hd 0]) rfl) ResAll.nil')
          case h2 => simp [two]
          refine ⟨rfl, ⟨?_, trivial⟩, trivial⟩ <;> first | rfl | (show some (T.seq _ _) = some (T.seq _ _); refine congrArg (fun z => some (T.seq _ z)) ?_; simp [tRun, List.map_set])
        · skip   -- c3.F
          refine SV.skip ?_
          refine SV.tn ?_
          refine SV.seq' ?_
          refine SV.region ?_
          refine SV.op (OpL.ok (nb := 1) (ok_move (v := V.one (.hd 0)) (.inl rfl) rfl) rfl (gle rfl)) rfl ?_
          refine SV.op (OpL.ok (nb := 1) (ok_move (v := V.one (.hd 0)) (.inr rfl) rfl) rfl (gle rfl)) rfl ?_
          refine SV.nil ?_
          refine SV.tn ?_
          refine SV.ret ?_
          apply SV.doneK (Pr := fun X : List (List R) => X.length ≤ 4 ∧ ∀ p ∈ X, p.length ≤ 4 ∧ ∀ r ∈ p, r.wf) (rs := fun X => [(false, [.seq 63 (X.map tRun)])]) (y := X) (hy := ⟨by omega, hXk⟩) (hC := hC) (hpin := hpin) (hp := hp4) (hbx := rfl) (hf := Try.results46) (ht := rfl) (he := .inl rfl)
          case hr => exact (ResAll.cons (ResOk.tmp (ag := false) (xs := [.hd 0]) rfl) ResAll.nil')
          case h2 => simp [two]
          refine ⟨rfl, ⟨?_, trivial⟩, trivial⟩ <;> first | rfl | (show some (T.seq _ _) = some (T.seq _ _); refine congrArg (fun z => some (T.seq _ z)) ?_; simp [tRun, List.map_set])
      · skip   -- g1.F
        refine SV.opN rfl rfl rfl (gle rfl) rfl rfl rfl (gle rfl) ?_
        refine SV.opN rfl rfl rfl (gle rfl) rfl rfl rfl (gle rfl) ?_
        refine SV.op (OpL.ok (nb := 1) (ok_pickF (v := V.one (.sc _)) rfl rfl rfl) rfl (gle rfl)) rfl ?_
        refine SV.nil ?_
        refine SV.tn ?_
        refine SV.cond rfl (fun hc4 => ?_) (fun hc4 => ?_)
        · skip   -- c4.T
          cases hc4
        · skip   -- c4.F
          refine SV.skip ?_
          refine SV.tn ?_
          refine SV.seq' ?_
          refine SV.region ?_
          refine SV.op (OpL.ok (nb := 1) (ok_move (v := V.one (.hd 0)) (.inl rfl) rfl) rfl (gle rfl)) rfl ?_
          refine SV.op (OpL.ok (nb := 1) (ok_move (v := V.one (.hd 0)) (.inr rfl) rfl) rfl (gle rfl)) rfl ?_
          refine SV.nil ?_
          refine SV.tn ?_
          refine SV.ret ?_
          apply SV.doneK (Pr := fun X : List (List R) => X.length ≤ 4 ∧ ∀ p ∈ X, p.length ≤ 4 ∧ ∀ r ∈ p, r.wf) (rs := fun X => [(false, [.seq 63 (X.map tRun)])]) (y := X) (hy := ⟨by omega, hXk⟩) (hC := hC) (hpin := hpin) (hp := hq) (hbx := rfl) (hf := Try.results46) (ht := rfl) (he := .inl rfl)
          case hr => exact (ResAll.cons (ResOk.tmp (ag := false) (xs := [.hd 0]) rfl) ResAll.nil')
          case h2 => simp [two]
          refine ⟨rfl, ⟨?_, trivial⟩, trivial⟩ <;> first | rfl | (show some (T.seq _ _) = some (T.seq _ _); refine congrArg (fun z => some (T.seq _ z)) ?_; simp [tRun, List.map_set])
end Go.Proofs.Ytfionajnoaednaa
/- What the law of merging draws: told by trees. -/
namespace Go.Proofs.Ytfionajnoaednaa
open Go Go.RowKit V
set_option linter.unusedVariables false
set_option maxRecDepth 100000 in
set_option maxHeartbeats 2000000 in
theorem vd_ms {ad : Option Addr} {len cap : Nat} {zs : List Int} : VCE (fun w => Code ad len cap zs w) (fun y : List R × List R => (y.1.length ≤ 6 ∧ ∀ r ∈ y.1, r.wf) ∧ y.2.length ≤ 6 ∧ ∀ r ∈ y.2, r.wf) Try.prog 10 [(false, [.lit (.slice ad len cap)])] true (fun y => [(false, [.seq 59 (y.1.map tRow)]), (false, [.seq 59 (y.2.map tRow)])]) := by
  refine VCE.enter Try.func10 rfl Try.ntmps10 (gle rfl) fun E hE hC => ?_
  refine SV.seq' ?_
  refine SV.region ?_
  refine SV.op (OpL.ok (nb := 0) (ok_move (v := V.one (.sc _)) (.inr rfl) rfl) rfl (gle rfl)) rfl ?_
  refine SV.op (OpL.ok (nb := 0) (ok_move (v := V.one (.sc _)) (.inr rfl) rfl) rfl (gle rfl)) rfl ?_
  refine SV.nil ?_
  refine SV.tn ?_
  refine SV.seq' ?_
  refine SV.region ?_
  refine SV.op (OpL.ok (nb := 0) (ok_move (v := V.one (.sc _)) (.inl rfl) rfl) rfl (gle rfl)) rfl ?_
  refine SV.callNew hC (kk := 0) rfl ⟨_, _, Try.func40, rfl, by decide⟩ rfl rfl rfl (gle rfl) rfl fun hn1 => ?_
  refine SV.op (OpL.ok (nb := 1) (ok_move (v := V.one (.bp 0 0)) (.inr rfl) rfl) rfl (gle rfl)) rfl ?_
  refine SV.nil ?_
  refine SV.tn ?_
  refine SV.seq' ?_
  refine SV.region ?_
  refine SV.op (OpL.ok (nb := 1) (ok_move (v := V.one (.bp 0 0)) (.inl rfl) rfl) rfl (gle rfl)) rfl ?_
  refine SV.callK (b := 0) hC rfl ⟨_, _, Try.func42, rfl, by decide⟩ (vk_bent 5 (by decide) (by decide)) rfl ⟨rfl, trivial⟩ rfl ⟨Int.le_refl 0, Int.natCast_nonneg len⟩ rfl (gle rfl) (fun _ => wanted0 rfl) ?_
  rintro A p2 h2 ⟨hA, hwA⟩ hp2
  refine SV.op (OpMk.ok (ok_call (ls := [(false, [.hd 1])]) rfl rfl ⟨_, _, Try.func41, rfl, by decide⟩ (vsort_t A hwA (by omega)) ⟨⟨[.hd 0], rfl, ⟨rfl, trivial⟩⟩, trivial⟩ rfl (gle rfl))) rfl ?_
  refine SV.op (OpL.ok (nb := 1) (ok_move (v := V.one (.hd 1)) (.inr rfl) rfl) rfl (gle rfl)) rfl ?_
  refine SV.nil ?_
  refine SV.tn ?_
  refine SV.seq' ?_
  refine SV.region ?_
  refine SV.op (OpL.ok (nb := 1) (ok_move (v := V.one (.bp 0 0)) (.inl rfl) rfl) rfl (gle rfl)) rfl ?_
  refine SV.callK (b := 0) hC rfl ⟨_, _, Try.func42, rfl, by decide⟩ (vk_bent 5 (by decide) (by decide)) rfl ⟨rfl, trivial⟩ rfl hp2 rfl (gle rfl) (fun _ => wanted0 rfl) ?_
  rintro B p3 h3 ⟨hB, hwB⟩ hp3
  refine SV.op (OpMk.ok (ok_call (ls := [(false, [.hd 3])]) rfl rfl ⟨_, _, Try.func41, rfl, by decide⟩ (vsort_t B hwB (by omega)) ⟨⟨[.hd 2], rfl, ⟨rfl, trivial⟩⟩, trivial⟩ rfl (gle rfl))) rfl ?_
  refine SV.op (OpL.ok (nb := 1) (ok_move (v := V.one (.hd 3)) (.inr rfl) rfl) rfl (gle rfl)) rfl ?_
  refine SV.nil ?_
  refine SV.tn ?_
  refine SV.seq' ?_
  refine SV.seq' ?_
  refine SV.region ?_
  refine SV.op (OpL.ok (nb := 1) (ok_move (v := V.one (.bp 0 0)) (.inl rfl) rfl) rfl (gle rfl)) rfl ?_
  refine SV.callK (b := 0) hC rfl ⟨_, _, Try.func43, rfl, by decide⟩ (vk_once 10 (by decide) (by decide)) rfl ⟨rfl, trivial⟩ rfl hp3 rfl (gle rfl) (fun _ => wanted0 rfl) ?_
  rintro o0 p4 h4 - hp4
  refine SV.nil ?_
  refine SV.tn ?_
  refine SV.cond rfl (fun hc0 => ?_) (fun hc0 => ?_)
  · skip   -- c0.T
    refine SV.seq' ?_
    refine SV.region ?_
    refine SV.op (OpL.ok (nb := 1) (ok_move (v := V.one (.bp 0 0)) (.inl rfl) rfl) rfl (gle rfl)) rfl ?_
    refine SV.callK (b := 0) hC rfl ⟨_, _, Try.func44, rfl, by decide⟩ (vk_rows 5 (by decide) (by decide)) rfl ⟨rfl, trivial⟩ rfl hp4 rfl (gle rfl) (fun _ => wanted0 rfl) ?_
    rintro C p5 h5 ⟨hC, hwC⟩ hp5
    refine SV.op (OpL.ok (nb := 1) (ok_move (v := V.one (.hd 3)) (.inl rfl) rfl) rfl (gle rfl)) rfl ?_
    refine SV.op (OpL.ok (nb := 1) (ok_move (v := V.one (.hd 4)) (.inr rfl) rfl) rfl (gle rfl)) rfl ?_
    refine SV.op (OpL.ok (nb := 1) (ok_move (v := V.one (.hd 3)) (.inr rfl) rfl) rfl (gle rfl)) rfl ?_
    refine SV.nil ?_
    refine SV.tn ?_
    refine SV.ret ?_
    refine SV.tr ?_
    apply SV.doneE (Pr := fun y : List R × List R => (y.1.length ≤ 6 ∧ ∀ r ∈ y.1, r.wf) ∧ y.2.length ≤ 6 ∧ ∀ r ∈ y.2, r.wf) (rs := fun y => [(false, [.seq 59 (y.1.map tRow)]), (false, [.seq 59 (y.2.map tRow)])]) (y := (C, R.sort B)) (hy := ⟨⟨by show C.length ≤ 6; omega, hwC⟩, by show (R.sort B).length ≤ 6; rw [R.sort_length]; omega, R.sort_wf hwB⟩) (hf := Try.results10) (ht := rfl) (he := .inl rfl)
    case hr => exact (ResAll.cons (ResOk.tmp (ag := false) (xs := [.hd 4]) rfl) (ResAll.cons (ResOk.tmp (ag := false) (xs := [.hd 3]) rfl) ResAll.nil'))
    case h2 => simp [two]
    refine ⟨rfl, ⟨?_, trivial⟩, ⟨rfl, ⟨?_, trivial⟩, trivial⟩⟩ <;> rfl
  · skip   -- c0.F
    refine SV.skip ?_
    refine SV.tn ?_
    refine SV.seq' ?_
    refine SV.region ?_
    refine SV.op (OpL.ok (nb := 1) (ok_move (v := V.one (.hd 1)) (.inl rfl) rfl) rfl (gle rfl)) rfl ?_
    refine SV.op (OpL.ok (nb := 1) (ok_move (v := V.one (.hd 3)) (.inl rfl) rfl) rfl (gle rfl)) rfl ?_
    refine SV.op (OpL.ok (nb := 1) (ok_move (v := V.one (.hd 1)) (.inr rfl) rfl) rfl (gle rfl)) rfl ?_
    refine SV.op (OpL.ok (nb := 1) (ok_move (v := V.one (.hd 3)) (.inr rfl) rfl) rfl (gle rfl)) rfl ?_
    refine SV.nil ?_
    refine SV.tn ?_
    refine SV.ret ?_
    apply SV.doneE (Pr := fun y : List R × List R => (y.1.length ≤ 6 ∧ ∀ r ∈ y.1, r.wf) ∧ y.2.length ≤ 6 ∧ ∀ r ∈ y.2, r.wf) (rs := fun y => [(false, [.seq 59 (y.1.map tRow)]), (false, [.seq 59 (y.2.map tRow)])]) (y := (R.sort A, R.sort B)) (hy := ⟨⟨by show (R.sort A).length ≤ 6; rw [R.sort_length]; omega, R.sort_wf hwA⟩, by show (R.sort B).length ≤ 6; rw [R.sort_length]; omega, R.sort_wf hwB⟩) (hf := Try.results10) (ht := rfl) (he := .inl rfl)
    case hr => exact (ResAll.cons (ResOk.tmp (ag := false) (xs := [.hd 1]) rfl) (ResAll.cons (ResOk.tmp (ag := false) (xs := [.hd 3]) rfl) ResAll.nil'))
    case h2 => simp [two]
    refine ⟨rfl, ⟨?_, trivial⟩, ⟨rfl, ⟨?_, trivial⟩, trivial⟩⟩ <;> rfl
set_option maxRecDepth 100000 in
set_option maxHeartbeats 2000000 in
theorem vd_mp {ad : Option Addr} {len cap : Nat} {zs : List Int} : VCE (fun w => Code ad len cap zs w) (fun X : List (List R) => X.length ≤ 4 ∧ ∀ p ∈ X, p.length ≤ 4 ∧ ∀ r ∈ p, r.wf) Try.prog 15 [(false, [.lit (.slice ad len cap)])] false (fun X => [(false, [.seq 63 (X.map tRun)])]) := by
  refine VCE.enter Try.func15 rfl Try.ntmps15 (gle rfl) fun E hE hC => ?_
  refine SV.seq' ?_
  refine SV.region ?_
  refine SV.op (OpL.ok (nb := 0) (ok_move (v := V.one (.sc _)) (.inr rfl) rfl) rfl (gle rfl)) rfl ?_
  refine SV.nil ?_
  refine SV.tn ?_
  refine SV.seq' ?_
  refine SV.region ?_
  refine SV.op (OpL.ok (nb := 0) (ok_move (v := V.one (.sc _)) (.inl rfl) rfl) rfl (gle rfl)) rfl ?_
  refine SV.callNew hC (kk := 0) rfl ⟨_, _, Try.func40, rfl, by decide⟩ rfl rfl rfl (gle rfl) rfl fun hn1 => ?_
  refine SV.callK (b := 0) hC rfl ⟨_, _, Try.func46, rfl, by decide⟩ (vk_runs) rfl trivial rfl ⟨Int.le_refl 0, Int.natCast_nonneg len⟩ rfl (gle rfl) (fun _ => wanted0 rfl) ?_
  rintro X p2 h2 hX hp2
  refine SV.op (OpL.ok (nb := 1) (ok_move (v := V.one (.hd 0)) (.inr rfl) rfl) rfl (gle rfl)) rfl ?_
  refine SV.nil ?_
  refine SV.tn ?_
  refine SV.ret ?_
  apply SV.doneE (Pr := fun X : List (List R) => X.length ≤ 4 ∧ ∀ p ∈ X, p.length ≤ 4 ∧ ∀ r ∈ p, r.wf) (rs := fun X => [(false, [.seq 63 (X.map tRun)])]) (y := X) (hy := hX) (hf := Try.results15) (ht := rfl) (he := .inl rfl)
  case hr => exact (ResAll.cons (ResOk.tmp (ag := false) (xs := [.hd 0]) rfl) ResAll.nil')
  case h2 => simp [two]
  refine ⟨rfl, ⟨?_, trivial⟩, trivial⟩ <;> rfl
set_option maxRecDepth 100000 in
set_option maxHeartbeats 2000000 in
theorem vd_mr {ad : Option Addr} {len cap : Nat} {zs : List Int} : VCE (fun w => Code ad len cap zs w) (fun X : List (List R) => X.length ≤ 4 ∧ ∀ p ∈ X, p.length ≤ 4 ∧ ∀ r ∈ p, r.wf) Try.prog 12 [(false, [.lit (.slice ad len cap)])] false (fun X => [(false, [.seq 63 (X.map tRun)])]) := by
  refine VCE.enter Try.func12 rfl Try.ntmps12 (gle rfl) fun E hE hC => ?_
  refine SV.seq' ?_
  refine SV.region ?_
  refine SV.op (OpL.ok (nb := 0) (ok_move (v := V.one (.sc _)) (.inr rfl) rfl) rfl (gle rfl)) rfl ?_
  refine SV.nil ?_
  refine SV.tn ?_
  refine SV.seq' ?_
  refine SV.region ?_
  refine SV.op (OpL.ok (nb := 0) (ok_move (v := V.one (.sc _)) (.inl rfl) rfl) rfl (gle rfl)) rfl ?_
  refine SV.callNew hC (kk := 0) rfl ⟨_, _, Try.func40, rfl, by decide⟩ rfl rfl rfl (gle rfl) rfl fun hn1 => ?_
  refine SV.callK (b := 0) hC rfl ⟨_, _, Try.func46, rfl, by decide⟩ (vk_runs) rfl trivial rfl ⟨Int.le_refl 0, Int.natCast_nonneg len⟩ rfl (gle rfl) (fun _ => wanted0 rfl) ?_
  rintro X p2 h2 hX hp2
  refine SV.op (OpL.ok (nb := 1) (ok_move (v := V.one (.hd 0)) (.inr rfl) rfl) rfl (gle rfl)) rfl ?_
  refine SV.nil ?_
  refine SV.tn ?_
  refine SV.ret ?_
  apply SV.doneE (Pr := fun X : List (List R) => X.length ≤ 4 ∧ ∀ p ∈ X, p.length ≤ 4 ∧ ∀ r ∈ p, r.wf) (rs := fun X => [(false, [.seq 63 (X.map tRun)])]) (y := X) (hy := hX) (hf := Try.results12) (ht := rfl) (he := .inl rfl)
  case hr => exact (ResAll.cons (ResOk.tmp (ag := false) (xs := [.hd 0]) rfl) ResAll.nil')
  case h2 => simp [two]
  refine ⟨rfl, ⟨?_, trivial⟩, trivial⟩ <;> rfl
set_option maxRecDepth 100000 in
set_option maxHeartbeats 2000000 in
theorem vd_mpn {ad : Option Addr} {len cap : Nat} {zs : List Int} : VCE (fun w => Code ad len cap zs w) (fun _ : Int => True) Try.prog 17 [(false, [.lit (.slice ad len cap)])] false (fun n => [(false, [.lit (.int .i64 n)])]) := by
  refine VCE.enter Try.func17 rfl Try.ntmps17 (gle rfl) fun E hE hC => ?_
  refine SV.seq' ?_
  refine SV.region ?_
  refine SV.op (OpL.ok (nb := 0) (ok_move (v := V.one (.sc _)) (.inr rfl) rfl) rfl (gle rfl)) rfl ?_
  refine SV.nil ?_
  refine SV.tn ?_
  refine SV.seq' ?_
  refine SV.region ?_
  refine SV.op (OpL.ok (nb := 0) (ok_move (v := V.one (.sc _)) (.inl rfl) rfl) rfl (gle rfl)) rfl ?_
  refine SV.callNew hC (kk := 0) rfl ⟨_, _, Try.func40, rfl, by decide⟩ rfl rfl rfl (gle rfl) rfl fun hn1 => ?_
  refine SV.op (OpMk.ok (ok_litS (kk := 0) (xs := [.const ((Value.int IntKind.i64 (-1))), .const ((Value.int IntKind.i64 0)), .const ((Value.int IntKind.i64 1)), .const ((Value.int IntKind.i64 2)), .const ((Value.int IntKind.i64 3)), .const ((Value.int IntKind.i64 4)), .const ((Value.int IntKind.i64 5)), .const ((Value.int IntKind.i64 8)), .const ((Value.int IntKind.i64 9)), .const ((Value.int IntKind.i64 24)), .const ((Value.int IntKind.i64 1000))]) (us := [_, _, _, _, _, _, _, _, _, _, _]) elt_int rfl rfl rfl rfl (by decide) (by decide) ⟨rfl, rfl, rfl, rfl, rfl, rfl, rfl, rfl, rfl, rfl, rfl, trivial⟩ rfl (gle rfl))) rfl ?_
  refine SV.callKT (b := 0) hC rfl ⟨_, _, Try.func51, rfl, by decide⟩ (vk_pick [-1, 0, 1, 2, 3, 4, 5, 8, 9, 24, 1000] (by decide) (by decide)) rfl ⟨⟨[.hd 0], rfl, ⟨rfl, trivial⟩⟩, trivial⟩ rfl ⟨Int.le_refl 0, Int.natCast_nonneg len⟩ rfl (gle rfl) (fun _ => wanted0 rfl) ?_
  rintro x p2 h2 hx hp2
  refine SV.op (OpL.ok (nb := 1) (ok_move (v := V.one (.sc _)) (.inr rfl) rfl) rfl (gle rfl)) rfl ?_
  refine SV.nil ?_
  refine SV.tn ?_
  refine SV.ret ?_
  apply SV.doneE (Pr := fun _ : Int => True) (rs := fun n => [(false, [.lit (.int .i64 n)])]) (y := x) (hy := trivial) (hf := Try.results17) (ht := rfl) (he := .inl rfl)
  case hr => exact (ResAll.cons (ResOk.tmp (ag := false) (xs := [.sc _]) rfl) ResAll.nil')
  case h2 => simp [two]
  refine ⟨rfl, ⟨?_, trivial⟩, trivial⟩ <;> rfl
end Go.Proofs.Ytfionajnoaednaa
/- Runs by replacement selection, as plain mathematics: the first least row, the steps, and what holds of the runs; no function of program or reference is walked here. -/
namespace Go.Proofs.Ytfionajnoaednaa
open Go.RowKit
set_option linter.unusedVariables false
namespace Runs
/-! ### The first least row -/
def minAt (l : List R) : Nat → Nat
  | 0 => 0
  | t + 1 => match l[t]?, l[minAt l t]? with
    | some c, some d => if R.cmp c d < 0 then t else minAt l t
    | _, _ => minAt l t
def idxMin (l : List R) : Int := if l.length = 0 then -1 else (minAt l l.length : Nat)
theorem getlt {α : Type} {l : List α} {k : Nat} {x : α} (h : l[k]? = some x) : k < l.length := (List.getElem?_eq_some_iff.1 h).1
theorem minAt_le (l : List R) : ∀ t, minAt l t ≤ t - 1
  | 0 => Nat.le_refl 0
  | t + 1 => by
    have := minAt_le l t
    rw [minAt]
    split
    · split <;> omega
    · omega
theorem minAt_lt {l : List R} {t : Nat} (h : 0 < t) : minAt l t < t := by have := minAt_le l t; omega
theorem minAt_step {l : List R} {t : Nat} {c d : R} (hc : l[t]? = some c) (hd : l[minAt l t]? = some d) : minAt l (t + 1) = if R.cmp c d < 0 then t else minAt l t := by rw [minAt, hc, hd]
theorem minAt_one (l : List R) : minAt l 1 = 0 := by
  have := minAt_le l 1
  omega
theorem minAt_least {l : List R} : ∀ {t : Nat} {d : R}, t ≤ l.length → 0 < t → l[minAt l t]? = some d → ∀ u x, u < t → l[u]? = some x → R.cmp d x ≤ 0
  | t + 1, d, ht, _, hd, u, x, hu, hx => by
    obtain ⟨c, hc⟩ : ∃ c, l[t]? = some c := ⟨_, List.getElem?_eq_getElem (by omega)⟩
    rcases Nat.eq_zero_or_pos t with h0 | h0
    · subst h0
      have hu0 : u = 0 := by omega
      subst hu0
      rw [minAt_one, hx] at hd
      cases hd
      rw [(R.cmp_zero _ _).2 rfl]; exact Int.le_refl _
    · obtain ⟨e, he⟩ : ∃ e, l[minAt l t]? = some e := ⟨_, List.getElem?_eq_getElem (by have := minAt_lt (l := l) h0; omega)⟩
      have ih := minAt_least (t := t) (by omega) h0 he
      rw [minAt_step hc he] at hd
      by_cases hlt : R.cmp c e < 0
      · rw [if_pos hlt, hc] at hd
        cases hd
        rcases Nat.lt_or_ge u t with h | h
        · exact R.cmp_trans (Int.le_of_lt hlt) (ih u x h hx)
        · have e1 : u = t := by omega
          subst e1
          rw [hc] at hx
          cases hx
          rw [(R.cmp_zero _ _).2 rfl]; exact Int.le_refl _
      · rw [if_neg hlt, he] at hd
        cases hd
        rcases Nat.lt_or_ge u t with h | h
        · exact ih u x h hx
        · have e1 : u = t := by omega
          subst e1
          rw [hc] at hx
          cases hx
          have := R.cmp_anti x d
          omega
/-! ### The steps -/
structure St where
  i : Nat
  out : List (List R)
  cur : List R
  heap : List R
  next : List R
def init : St := ⟨0, [], [], [], []⟩
def room (mem : Int) (s : St) (r : R) : Bool := decide (total s.heap + total s.next + r.cost ≤ mem)
def later (cur : List R) (r : R) : Bool := match cur.getLast? with
  | some d => decide (R.cmp r d < 0)
  | none => false
def reads (l : List R) (mem : Int) (s : St) : Bool := match l[s.i]? with
  | some r => room mem s r
  | none => false
def take1 (s : St) (r : R) : St := if later s.cur r = true then ⟨s.i + 1, s.out, s.cur, s.heap, s.next ++ [r]⟩ else ⟨s.i + 1, s.out, s.cur, s.heap ++ [r], s.next⟩
def turn (s : St) : St := ⟨s.i, s.out ++ [s.cur], [], s.next, []⟩
def give (s : St) (r : R) : St := ⟨s.i, s.out, s.cur ++ [r], s.heap.eraseIdx (minAt s.heap s.heap.length), s.next⟩
def step (l : List R) (mem : Int) (s : St) : St := match l[s.i]? with
  | some r => if room mem s r = true then take1 s r else flow s
  | none => flow s
where flow (s : St) : St := match s.heap[minAt s.heap s.heap.length]? with
  | some r => give s r
  | none => turn s
def done (l : List R) (s : St) : Bool := decide (l.length ≤ s.i ∧ s.heap.length + s.next.length = 0)
def sts (l : List R) (mem : Int) : Nat → St
  | 0 => init
  | t + 1 => if done l (sts l mem t) = true then sts l mem t else step l mem (sts l mem t)
def fin (s : St) : List (List R) := if s.cur.length = 0 then s.out else s.out ++ [s.cur]
def isMem (m : Int) : Bool := decide (8 ≤ m ∧ m ≤ 60)
def can (l : List R) (m : Int) : Bool := okRows l && isMem m
def build (l : List R) (m : Int) : List (List R) := if can l m = true then fin (sts l m (3 * l.length)) else []
theorem step_read {l : List R} {m : Int} {s : St} {r : R} (h : l[s.i]? = some r) (hr : room m s r = true) : step l m s = take1 s r := by unfold step; rw [h]; exact if_pos hr
theorem step_flow {l : List R} {m : Int} {s : St} (h : reads l m s = false) : step l m s = step.flow s := by
  unfold step
  unfold reads at h
  split
  · rename_i r hr
    rw [hr] at h
    exact if_neg (by rw [show room m s r = false from h]; decide)
  · rfl
theorem flow_turn {s : St} (h : s.heap.length = 0) : step.flow s = turn s := by
  unfold step.flow
  rw [List.getElem?_eq_none (by omega)]
theorem flow_give {s : St} {r : R} (h : s.heap[minAt s.heap s.heap.length]? = some r) : step.flow s = give s r := by
  unfold step.flow
  rw [h]
/-! ### It ends -/
def mu (l : List R) (s : St) : Nat := 3 * (l.length - s.i) + 2 * s.next.length + s.heap.length
theorem cost_ok {r : R} (h : r.ok = true) : 1 ≤ r.cost ∧ r.cost ≤ 4 := by
  unfold R.cost
  rw [if_pos h]
  unfold R.ok at h
  rw [decide_eq_true_eq] at h
  omega
theorem room_empty {l : List R} {m : Int} {s : St} {r : R} (hl : okRows l = true) (hm : isMem m = true) (hr : l[s.i]? = some r) (h1 : s.heap.length = 0) (h2 : s.next.length = 0) : room m s r = true := by
  have e1 := List.eq_nil_of_length_eq_zero h1
  have e2 := List.eq_nil_of_length_eq_zero h2
  unfold okRows allOk at hl
  rw [Bool.and_eq_true, List.all_eq_true] at hl
  have := cost_ok (hl.2 r (List.mem_of_getElem? hr))
  unfold isMem at hm
  rw [decide_eq_true_eq] at hm
  unfold room
  rw [e1, e2, decide_eq_true_eq]
  have : total [] = 0 := rfl
  omega
theorem mu_step {l : List R} {m : Int} {s : St} (hl : okRows l = true) (hm : isMem m = true) (hd : done l s = false) : mu l (step l m s) < mu l s := by
  unfold done at hd
  rw [decide_eq_false_iff_not] at hd
  cases hrd : reads l m s with
  | true =>
    unfold reads at hrd
    split at hrd
    · rename_i r hr
      have hi := getlt hr
      rw [step_read hr hrd]
      unfold take1 mu
      split <;> simp only [List.length_append, List.length_cons, List.length_nil] <;> omega
    · cases hrd
  | false =>
    rw [step_flow hrd]
    rcases Nat.eq_zero_or_pos s.heap.length with h0 | h0
    · rw [flow_turn h0]
      have hn : 0 < s.next.length := by
        rcases Nat.eq_zero_or_pos s.next.length with h1 | h1
        · exfalso
          have hi : s.i < l.length := by omega
          unfold reads at hrd
          rw [List.getElem?_eq_getElem hi] at hrd
          have hrd' : room m s l[s.i] = false := hrd
          have := room_empty (s := s) hl hm (List.getElem?_eq_getElem hi) h0 h1
          rw [this] at hrd'
          cases hrd'
        · exact h1
      unfold turn mu
      simp only [List.length_nil]
      omega
    · have hk := minAt_lt (l := s.heap) h0
      rw [flow_give (List.getElem?_eq_getElem hk)]
      unfold give mu
      simp only [List.length_eraseIdx_of_lt hk]
      omega
theorem sts_done {l : List R} {m : Int} {t : Nat} (h : done l (sts l m t) = true) : ∀ n, t ≤ n → sts l m n = sts l m t
  | 0, hn => by have e : t = 0 := by omega
                subst e; rfl
  | n + 1, hn => by
    rcases Nat.lt_or_ge n t with h1 | h1
    · have e : t = n + 1 := by omega
      subst e; rfl
    · have ih := sts_done h n h1
      rw [sts, ih, if_pos h]
theorem sts_mu {l : List R} {m : Int} (hl : okRows l = true) (hm : isMem m = true) : ∀ t, (∀ u, u < t → done l (sts l m u) = false) → mu l (sts l m t) + t ≤ 3 * l.length
  | 0, _ => by unfold sts init mu; simp
  | t + 1, h => by
    have ih := sts_mu hl hm t fun u hu => h u (by omega)
    have hd := h t (Nat.lt_succ_self t)
    have := mu_step (m := m) hl hm hd
    rw [sts, if_neg (by rw [hd]; decide)]
    omega
theorem sts_end {l : List R} {m : Int} {t : Nat} (hl : okRows l = true) (hm : isMem m = true) (hn : ∀ u, u < t → done l (sts l m u) = false) (hd : done l (sts l m t) = true) : sts l m (3 * l.length) = sts l m t := by
  have := sts_mu hl hm t hn
  exact sts_done hd _ (by omega)
theorem sts_all {l : List R} {m : Int} (hl : okRows l = true) (hm : isMem m = true) : done l (sts l m (3 * l.length)) = true := by
  cases hd : done l (sts l m (3 * l.length)) with
  | true => rfl
  | false =>
    exfalso
    have hn : ∀ u, u < 3 * l.length + 1 → done l (sts l m u) = false := fun u hu => by
      cases hu' : done l (sts l m u) with
      | false => rfl
      | true =>
        rw [sts_done hu' _ (by omega), hu'] at hd
        cases hd
    have := sts_mu hl hm _ hn
    omega
end Runs
end Go.Proofs.Ytfionajnoaednaa
/- What holds of runs by replacement selection, as plain mathematics; no function of program or reference is walked here. -/
namespace Go.Proofs.Ytfionajnoaednaa
open Go.RowKit
set_option linter.unusedVariables false
namespace Runs
theorem total_app (a b : List R) : total (a ++ b) = total a + total b := by simp [total]
theorem total_one (r : R) : total [r] = r.cost := by simp [total]
theorem total_cons (r : R) (l : List R) : total (r :: l) = r.cost + total l := by simp [total]
theorem total_perm {a b : List R} (h : a.Perm b) : total a = total b := by
  induction h with
  | nil => rfl
  | cons x _ ih => rw [total_cons, total_cons, ih]
  | swap x y l => rw [total_cons, total_cons, total_cons, total_cons]; omega
  | trans _ _ h1 h2 => exact h1.trans h2
theorem total_pos (l : List R) : 0 ≤ total l := (total_range l).1
structure Inv (l : List R) (m : Int) (s : St) : Prop where
  ile : s.i ≤ l.length
  perm : (s.out.flatten ++ (s.cur ++ (s.heap ++ s.next))).Perm (l.take s.i)
  start : s.cur.length = 0 → s.next.length = 0
  full : 0 < s.cur.length → m - 4 < total s.cur + total s.heap ∨ (s.i = l.length ∧ s.next.length = 0)
  asc : s.cur.Pairwise fun a b => R.cmp a b ≤ 0
  low : ∀ a ∈ s.cur, ∀ b ∈ s.heap, R.cmp a b ≤ 0
  runs : ∀ p ∈ s.out, 0 < p.length ∧ (p.Pairwise fun a b => R.cmp a b ≤ 0) ∧ m - 4 < total p
  fits : total l ≤ m → s.out = [] ∧ s.next.length = 0 ∧ (s.i < l.length → s.cur.length = 0)
theorem inv_init (l : List R) (m : Int) : Inv l m init := ⟨Nat.zero_le _, by simp [init], fun _ => rfl, fun h => absurd h (Nat.lt_irrefl 0), List.Pairwise.nil, fun a ha => by simp [init] at ha, fun p hp => by simp [init] at hp, fun _ => ⟨rfl, rfl, fun _ => rfl⟩⟩
theorem take_next {l : List R} {i : Nat} {r : R} (h : l[i]? = some r) : l.take (i + 1) = l.take i ++ [r] := by
  have hl := getlt h
  rw [List.take_succ_eq_append_getElem hl]
  rw [List.getElem?_eq_getElem hl] at h
  rw [Option.some.inj h]
theorem later_cur {cur : List R} {r : R} (h : later cur r = true) : 0 < cur.length := by
  unfold later at h
  cases cur with
  | nil => simp at h
  | cons x c => simp
theorem not_later {cur : List R} {r : R} (h : later cur r = false) (ha : cur.Pairwise fun a b => R.cmp a b ≤ 0) : ∀ a ∈ cur, R.cmp a r ≤ 0 := by
  intro a hm
  unfold later at h
  split at h
  · rename_i d hd
    rw [decide_eq_false_iff_not] at h
    have h1 := R.cmp_anti r d
    have hdr : R.cmp d r ≤ 0 := by omega
    obtain ⟨ys, hys⟩ := List.getLast?_eq_some_iff.1 hd
    rw [hys] at ha hm
    rcases List.mem_append.1 hm with h2 | h2
    · exact R.cmp_trans ((List.pairwise_append.1 ha).2.2 a h2 d (List.mem_singleton_self d)) hdr
    · rw [List.mem_singleton.1 h2]; exact hdr
  · rename_i hd
    rw [List.getLast?_eq_none_iff] at hd
    rw [hd] at hm
    simp at hm
theorem erase_perm {h : List R} {k : Nat} {r : R} (hr : h[k]? = some r) : (r :: h.eraseIdx k).Perm h := by
  have hl := getlt hr
  rw [List.getElem?_eq_getElem hl] at hr
  have e : h[k] = r := Option.some.inj hr
  rw [List.eraseIdx_eq_take_drop_succ]
  have e2 : h = h.take k ++ r :: h.drop (k + 1) := by
    conv => lhs; rw [← List.take_append_drop k h, List.drop_eq_getElem_cons hl, e]
  exact List.Perm.trans List.perm_middle.symm (e2 ▸ List.Perm.refl _)
theorem inv_step {l : List R} {m : Int} {s : St} (hl : okRows l = true) (hm : isMem m = true) (hd : done l s = false) (h : Inv l m s) : Inv l m (step l m s) := by
  unfold done at hd
  rw [decide_eq_false_iff_not] at hd
  have hcost : ∀ (i : Nat) (r : R), l[i]? = some r → 1 ≤ r.cost ∧ r.cost ≤ 4 := fun i r hr => by
    have hl' := hl
    unfold okRows allOk at hl'
    rw [Bool.and_eq_true, List.all_eq_true] at hl'
    exact cost_ok (hl'.2 r (List.mem_of_getElem? hr))
  cases hrd : reads l m s with
  | true =>
    unfold reads at hrd
    split at hrd
    · rename_i r hr
      have hi := getlt hr
      have hc := hcost _ _ hr
      rw [step_read hr hrd]
      unfold take1
      cases hlt : later s.cur r with
      | true =>
        rw [if_pos rfl]
        refine ⟨hi, ?_, fun h0 => ?_, fun h0 => ?_, h.asc, h.low, h.runs, fun hf => ?_⟩
        · show (s.out.flatten ++ (s.cur ++ (s.heap ++ (s.next ++ [r])))).Perm (l.take (s.i + 1))
          rw [take_next hr]
          have := h.perm.append_right [r]
          simpa only [List.append_assoc] using this
        · have := later_cur hlt
          have h0' : s.cur.length = 0 := h0
          omega
        · rcases h.full h0 with h1 | h1
          · exact .inl h1
          · omega
        · have := later_cur hlt
          have := (h.fits hf).2.2 hi
          omega
      | false =>
        rw [if_neg (by decide)]
        refine ⟨hi, ?_, h.start, fun h0 => ?_, h.asc, fun a ha b hb => ?_, h.runs, fun hf => ?_⟩
        · show (s.out.flatten ++ (s.cur ++ ((s.heap ++ [r]) ++ s.next))).Perm (l.take (s.i + 1))
          rw [take_next hr]
          refine List.Perm.trans ?_ (h.perm.append_right [r])
          rw [List.append_assoc, List.append_assoc, List.append_assoc]
          refine List.Perm.append_left _ (List.Perm.append_left _ ?_)
          rw [List.append_assoc]
          exact List.Perm.append_left _ List.perm_append_comm
        · show m - 4 < total s.cur + total (s.heap ++ [r]) ∨ _
          rw [total_app, total_one]
          rcases h.full h0 with h1 | h1
          · exact .inl (by omega)
          · omega
        · rcases List.mem_append.1 hb with h1 | h1
          · exact h.low a ha b h1
          · rw [List.mem_singleton.1 h1]
            exact not_later hlt h.asc a ha
        · obtain ⟨f1, f2, f3⟩ := h.fits hf
          exact ⟨f1, f2, fun _ => f3 hi⟩
    · cases hrd
  | false =>
    have hno : ∀ r, l[s.i]? = some r → m < total s.heap + total s.next + r.cost := fun r hr => by
      unfold reads room at hrd
      rw [hr] at hrd
      simp only [decide_eq_false_iff_not] at hrd
      omega
    have hnf : total l ≤ m → ¬ s.i < l.length := fun hf hi => by
      obtain ⟨r, hr⟩ : ∃ r, l[s.i]? = some r := ⟨_, List.getElem?_eq_getElem hi⟩
      have h1 := hno r hr
      have h2 := total_perm h.perm
      have h3 : total l = total (l.take (s.i + 1)) + total (l.drop (s.i + 1)) := by rw [← total_app, List.take_append_drop]
      rw [take_next hr, total_app, total_one] at h3
      rw [total_app, total_app, total_app] at h2
      have p1 := total_pos s.out.flatten
      have p2 := total_pos s.cur
      have p3 := total_pos (l.drop (s.i + 1))
      omega
    rw [step_flow hrd]
    rcases Nat.eq_zero_or_pos s.heap.length with h0 | h0
    · rw [flow_turn h0]
      have e0 := List.eq_nil_of_length_eq_zero h0
      have hn : 0 < s.next.length := by
        rcases Nat.eq_zero_or_pos s.next.length with h1 | h1
        · exfalso
          have hi : s.i < l.length := by omega
          have := room_empty (s := s) hl hm (List.getElem?_eq_getElem hi) h0 h1
          unfold room at this
          rw [decide_eq_true_eq] at this
          have := hno _ (List.getElem?_eq_getElem hi)
          omega
        · exact h1
      have hc : 0 < s.cur.length := by
        rcases Nat.eq_zero_or_pos s.cur.length with h1 | h1
        · have := h.start h1; omega
        · exact h1
      unfold turn
      refine ⟨h.ile, ?_, fun _ => rfl, fun h1 => absurd h1 (Nat.lt_irrefl 0), List.Pairwise.nil, fun a ha => by simp at ha, fun p hp => ?_, fun hf => ?_⟩
      · show ((s.out ++ [s.cur]).flatten ++ ([] ++ (s.next ++ []))).Perm (l.take s.i)
        have := h.perm
        rw [e0] at this
        simpa [List.flatten_append, List.append_assoc] using this
      · rcases List.mem_append.1 hp with h1 | h1
        · exact h.runs p h1
        · rw [List.mem_singleton.1 h1]
          refine ⟨hc, h.asc, ?_⟩
          rcases h.full hc with h2 | h2
          · rw [e0, show total [] = 0 from rfl] at h2; omega
          · omega
      · have := (h.fits hf).2.1
        omega
    · have hk := minAt_lt (l := s.heap) h0
      obtain ⟨r, hr⟩ : ∃ r, s.heap[minAt s.heap s.heap.length]? = some r := ⟨_, List.getElem?_eq_getElem hk⟩
      rw [flow_give hr]
      have hp := erase_perm hr
      have ht := total_perm hp
      rw [total_cons] at ht
      have hrm : r ∈ s.heap := List.mem_of_getElem? hr
      unfold give
      refine ⟨h.ile, ?_, fun h1 => by simp at h1, fun _ => ?_, ?_, fun a ha b hb => ?_, h.runs, fun hf => ?_⟩
      · show (s.out.flatten ++ ((s.cur ++ [r]) ++ (s.heap.eraseIdx _ ++ s.next))).Perm (l.take s.i)
        refine List.Perm.trans (List.Perm.append_left _ ?_) h.perm
        rw [List.append_assoc]
        refine List.Perm.append_left _ ?_
        have := hp.append_right s.next
        simpa using this
      · show m - 4 < total (s.cur ++ [r]) + total (s.heap.eraseIdx _) ∨ (s.i = l.length ∧ s.next.length = 0)
        rw [total_app, total_one]
        rcases Nat.eq_zero_or_pos s.cur.length with h1 | h1
        · have hn := h.start h1
          have e1 := List.eq_nil_of_length_eq_zero h1
          have e2 := List.eq_nil_of_length_eq_zero hn
          rcases Nat.lt_or_ge s.i l.length with hi | hi
          · obtain ⟨x, hx⟩ : ∃ x, l[s.i]? = some x := ⟨_, List.getElem?_eq_getElem hi⟩
            have h2 := hno x hx
            have h3 := hcost _ _ hx
            rw [e2, show total [] = 0 from rfl] at h2
            rw [e1, show total [] = 0 from rfl]
            exact .inl (by omega)
          · exact .inr ⟨by have := h.ile; omega, hn⟩
        · rcases h.full h1 with h2 | h2
          · exact .inl (by omega)
          · exact .inr h2
      · refine List.pairwise_append.2 ⟨h.asc, List.pairwise_singleton _ _, fun a ha b hb => ?_⟩
        rw [List.mem_singleton.1 hb]
        exact h.low a ha r hrm
      · have hb' : b ∈ s.heap := List.mem_of_mem_eraseIdx hb
        rcases List.mem_append.1 ha with h1 | h1
        · exact h.low a h1 b hb'
        · rw [List.mem_singleton.1 h1]
          obtain ⟨u, hu, rfl⟩ := List.mem_iff_getElem.1 hb'
          exact minAt_least (Nat.le_refl _) h0 hr u _ hu (List.getElem?_eq_getElem hu)
      · obtain ⟨f1, f2, f3⟩ := h.fits hf
        exact ⟨f1, f2, fun hi => absurd hi (hnf hf)⟩
theorem inv_sts {l : List R} {m : Int} (hl : okRows l = true) (hm : isMem m = true) : ∀ t, Inv l m (sts l m t)
  | 0 => inv_init l m
  | t + 1 => by
    rw [sts]
    split
    · exact inv_sts hl hm t
    · rename_i h
      exact inv_step hl hm (by simpa using h) (inv_sts hl hm t)
def Going (l : List R) (m : Int) (s : St) : Prop := ∃ t, s = sts l m t ∧ ∀ u, u < t → done l (sts l m u) = false
theorem going_init (l : List R) (m : Int) : Going l m init := ⟨0, rfl, fun u hu => absurd hu (Nat.not_lt_zero u)⟩
theorem going_next {l : List R} {m : Int} {s s' : St} (hl : okRows l = true) (hm : isMem m = true) (h : Going l m s) (hd : done l s = false) (he : step l m s = s') : Going l m s' ∧ mu l s' < mu l s := by
  obtain ⟨t, rfl, hn⟩ := h
  refine ⟨⟨t + 1, by rw [sts, if_neg (by rw [hd]; decide), he], fun u hu => ?_⟩, by rw [← he]; exact mu_step hl hm hd⟩
  rcases Nat.lt_or_ge u t with h | h
  · exact hn u h
  · have e : u = t := by omega
    rw [e]; exact hd
theorem going_end {l : List R} {m : Int} {s : St} (hc : can l m = true) (h : Going l m s) (hd : done l s = true) : build l m = fin s := by
  have hc' := hc
  unfold can at hc'
  rw [Bool.and_eq_true] at hc'
  obtain ⟨t, rfl, hn⟩ := h
  unfold build
  rw [if_pos hc, sts_end hc'.1 hc'.2 hn hd]
theorem going_inv {l : List R} {m : Int} {s : St} (hc : can l m = true) (h : Going l m s) : Inv l m s := by
  unfold can at hc
  rw [Bool.and_eq_true] at hc
  obtain ⟨t, rfl, -⟩ := h
  exact inv_sts hc.1 hc.2 t
theorem build_facts {l : List R} {m : Int} (h : can l m = true) : (build l m).flatten.Perm l ∧ (∀ p ∈ build l m, 0 < p.length ∧ p.Pairwise fun a b => R.cmp a b ≤ 0) ∧ (∀ i p, i + 1 < (build l m).length → (build l m)[i]? = some p → m - 4 < total p) ∧ (total l ≤ m → (build l m).length ≤ 1) := by
  have h' := h
  unfold can at h'
  rw [Bool.and_eq_true] at h'
  obtain ⟨hl, hm⟩ := h'
  have hI := inv_sts hl hm (3 * l.length)
  have hd := sts_all hl hm
  unfold build
  rw [if_pos h]
  generalize sts l m (3 * l.length) = s at hI hd
  unfold done at hd
  rw [decide_eq_true_eq] at hd
  have e1 : s.heap = [] := List.eq_nil_of_length_eq_zero (by omega)
  have e2 : s.next = [] := List.eq_nil_of_length_eq_zero (by omega)
  have hp := hI.perm
  rw [e1, e2, List.take_of_length_le hd.1, List.append_nil, List.append_nil] at hp
  unfold fin
  by_cases hc : s.cur.length = 0
  · rw [if_pos hc]
    have e3 := List.eq_nil_of_length_eq_zero hc
    rw [e3, List.append_nil] at hp
    exact ⟨hp, fun p hm' => ⟨(hI.runs p hm').1, (hI.runs p hm').2.1⟩, fun i p _ hi => (hI.runs p (List.mem_of_getElem? hi)).2.2, fun hf => by rw [(hI.fits hf).1]; simp⟩
  · rw [if_neg hc]
    refine ⟨by rw [List.flatten_append]; simpa using hp, fun p hm' => ?_, fun i p hi hpi => ?_, fun hf => by rw [(hI.fits hf).1]; simp⟩
    · rcases List.mem_append.1 hm' with h1 | h1
      · exact ⟨(hI.runs p h1).1, (hI.runs p h1).2.1⟩
      · rw [List.mem_singleton.1 h1]; exact ⟨by omega, hI.asc⟩
    · rw [List.length_append, List.length_singleton] at hi
      rw [List.getElem?_append_left (by omega)] at hpi
      exact (hI.runs p (List.mem_of_getElem? hpi)).2.2
def okRun (p : List R) : Bool := decide (0 < p.length) && (R.asc p && okRows p)
def okRuns (X : List (List R)) : Bool := X.all okRun
def fmtRuns (X : List (List R)) : List UInt8 := Go.Lib.join (X.map fmtRows) [124]
theorem mem_len {p : List R} : ∀ {X : List (List R)}, p ∈ X → p.length ≤ X.flatten.length
  | q :: X, h => by
    rw [List.flatten_cons, List.length_append]
    rcases List.mem_cons.1 h with rfl | h
    · omega
    · have := mem_len h; omega
theorem build_ok {l : List R} {m : Int} (h : can l m = true) : okRuns (build l m) = true := by
  obtain ⟨h1, h2, -, -⟩ := build_facts h
  have hl : okRows l = true := by unfold can at h; rw [Bool.and_eq_true] at h; exact h.1
  unfold okRows allOk at hl
  rw [Bool.and_eq_true, List.all_eq_true, decide_eq_true_eq] at hl
  refine List.all_eq_true.2 fun p hp => ?_
  obtain ⟨k1, k2⟩ := h2 p hp
  unfold okRun okRows allOk
  rw [Bool.and_eq_true, Bool.and_eq_true, Bool.and_eq_true, decide_eq_true_eq, decide_eq_true_eq, List.all_eq_true]
  refine ⟨k1, R.asc_pairwise.2 (k2.imp fun h => R.leb_iff.2 h), ?_, fun r hr => hl.2 r (h1.mem_iff.1 (List.mem_flatten.2 ⟨p, hp, hr⟩))⟩
  have := mem_len hp
  have := h1.length_eq
  omega
end Runs
end Go.Proofs.Ytfionajnoaednaa
/- Merging runs: two lists into one, a pass, the passes; how many there are; no function of program or reference is walked here. -/
namespace Go.Proofs.Ytfionajnoaednaa
open Go.RowKit
set_option linter.unusedVariables false
namespace Runs
/-! ### Two lists -/
def merge2 (a b : List R) : List R := a.merge b R.leb
theorem merge2_nil (b : List R) : merge2 [] b = b := by unfold merge2; exact List.nil_merge ..
theorem merge2_none (a : List R) : merge2 a [] = a := by unfold merge2; exact List.merge_right ..
theorem merge2_le {a b : List R} {x y : R} (h : R.cmp x y ≤ 0) : merge2 (x :: a) (y :: b) = x :: merge2 a (y :: b) := by
  unfold merge2
  exact List.cons_merge_cons_pos R.leb a b (R.leb_iff.2 h)
theorem merge2_gt {a b : List R} {x y : R} (h : ¬ R.cmp x y ≤ 0) : merge2 (x :: a) (y :: b) = y :: merge2 (x :: a) b := by
  unfold merge2
  exact List.cons_merge_cons_neg R.leb a b (fun hh => h (R.leb_iff.1 hh))
theorem merge2_perm (a b : List R) : (merge2 a b).Perm (a ++ b) := List.merge_perm_append R.leb
theorem merge2_length (a b : List R) : (merge2 a b).length = a.length + b.length := by rw [(merge2_perm a b).length_eq, List.length_append]
theorem merge2_asc {a b : List R} (ha : a.Pairwise fun x y => R.leb x y = true) (hb : b.Pairwise fun x y => R.leb x y = true) : (merge2 a b).Pairwise fun x y => R.leb x y = true :=
  List.pairwise_merge (le := R.leb) (fun a b c h h' => R.leb_iff.2 (R.cmp_trans (R.leb_iff.1 h) (R.leb_iff.1 h'))) (fun a b => by
    rcases R.cmp_total a b with h | h
    · simp [R.leb_iff.2 h]
    · simp [R.leb_iff.2 h]) a b ha hb
theorem drop_at {α : Type} {l : List α} {i : Nat} {x : α} (h : l[i]? = some x) : l.drop i = x :: l.drop (i + 1) := by
  have hi : i < l.length := getlt h
  rw [List.getElem?_eq_getElem hi] at h
  rw [List.drop_eq_getElem_cons hi, Option.some.inj h]
theorem m_last {a b : List R} {i k : Nat} {x : R} (h : a[i]? = some x) (hk : b.length ≤ k) : merge2 (a.drop i) (b.drop k) = x :: merge2 (a.drop (i + 1)) (b.drop k) := by
  rw [List.drop_eq_nil_of_le hk, merge2_none, merge2_none, drop_at h]
theorem m_left {a b : List R} {i k : Nat} {x y : R} (h : a[i]? = some x) (h' : b[k]? = some y) (hc : R.cmp x y ≤ 0) : merge2 (a.drop i) (b.drop k) = x :: merge2 (a.drop (i + 1)) (b.drop k) := by
  rw [drop_at h, drop_at h', merge2_le hc]
theorem m_right {a b : List R} {i k : Nat} {x y : R} (h : a[i]? = some x) (h' : b[k]? = some y) (hc : ¬ R.cmp x y ≤ 0) : merge2 (a.drop i) (b.drop k) = y :: merge2 (a.drop i) (b.drop (k + 1)) := by
  rw [drop_at h, drop_at h', merge2_gt hc]
theorem m_rest {a b : List R} {i k : Nat} {y : R} (hi : a.length ≤ i) (h' : b[k]? = some y) : merge2 (a.drop i) (b.drop k) = y :: merge2 (a.drop i) (b.drop (k + 1)) := by
  rw [List.drop_eq_nil_of_le hi, merge2_nil, merge2_nil, drop_at h']
/-! ### A pass -/
def pass : List (List R) → List (List R)
  | [] => []
  | [p] => [p]
  | p :: q :: X => merge2 p q :: pass X
theorem pass_len : ∀ X : List (List R), (pass X).length = (X.length + 1) / 2
  | [] => rfl
  | [p] => by simp [pass]
  | p :: q :: X => by
    have := pass_len X
    simp only [pass, List.length_cons] at this ⊢
    omega
theorem pass_perm : ∀ X : List (List R), (pass X).flatten.Perm X.flatten
  | [] => List.Perm.refl _
  | [p] => List.Perm.refl _
  | p :: q :: X => by
    have := pass_perm X
    simp only [pass, List.flatten_cons]
    rw [← List.append_assoc]
    exact (merge2_perm p q).append this
theorem pass_asc : ∀ {X : List (List R)}, (∀ p ∈ X, p.Pairwise fun x y => R.leb x y = true) → ∀ p ∈ pass X, p.Pairwise fun x y => R.leb x y = true
  | [], _, p, hp => by simp [pass] at hp
  | [q], h, p, hp => h p hp
  | q :: r :: X, h, p, hp => by
    simp only [pass] at hp
    rcases List.mem_cons.1 hp with rfl | hp
    · exact merge2_asc (h q (by simp)) (h r (by simp))
    · exact pass_asc (fun z hz => h z (by simp [hz])) p hp
theorem pass_end {X : List (List R)} {i : Nat} {p : List R} (h : X[i]? = some p) (hi : i + 1 = X.length) : pass (X.drop i) = [p] := by
  rw [drop_at h, List.drop_eq_nil_of_le (by omega)]
  rfl
theorem pass_two {X : List (List R)} {i : Nat} {p q : List R} (h : X[i]? = some p) (h' : X[i + 1]? = some q) : pass (X.drop i) = merge2 p q :: pass (X.drop (i + 2)) := by
  rw [drop_at h, drop_at h']
  rfl
/-! ### The passes -/
def passes (X : List (List R)) : Nat → List (List R)
  | 0 => X
  | t + 1 => pass (passes X t)
def npass (L : Nat) : Nat := if h : L ≤ 1 then 0 else npass ((L + 1) / 2) + 1
termination_by L
decreasing_by omega
theorem npass_le {L : Nat} (h : L ≤ 1) : npass L = 0 := by rw [npass, dif_pos h]
theorem npass_gt {L : Nat} (h : 1 < L) : npass L = npass ((L + 1) / 2) + 1 := by rw [npass, dif_neg (by omega)]
def allIn (X : List (List R)) : List R := (passes X (npass X.length)).flatten
theorem passes_perm (X : List (List R)) : ∀ t, (passes X t).flatten.Perm X.flatten
  | 0 => List.Perm.refl _
  | t + 1 => (pass_perm _).trans (passes_perm X t)
theorem passes_asc {X : List (List R)} (h : ∀ p ∈ X, p.Pairwise fun x y => R.leb x y = true) : ∀ t, ∀ p ∈ passes X t, p.Pairwise fun x y => R.leb x y = true
  | 0 => h
  | t + 1 => pass_asc (passes_asc h t)
theorem npass_step {X : List (List R)} {t : Nat} (h : npass X.length = t + npass (passes X t).length) (h1 : 1 < (passes X t).length) : npass X.length = t + 1 + npass (passes X (t + 1)).length := by
  rw [h, npass_gt h1, show passes X (t + 1) = pass (passes X t) from rfl, pass_len]
  omega
theorem npass_done {X : List (List R)} {t : Nat} (h : npass X.length = t + npass (passes X t).length) (h1 : (passes X t).length ≤ 1) : npass X.length = t := by
  rw [h, npass_le h1]
  rfl
theorem passes_inv (X : List (List R)) : ∀ t, t ≤ npass X.length → npass X.length = t + npass (passes X t).length
  | 0, _ => by rw [Nat.zero_add]; rfl
  | t + 1, h => by
    have h0 := passes_inv X t (by omega)
    rcases Nat.lt_or_ge 1 (passes X t).length with h1 | h1
    · exact npass_step h0 h1
    · have := npass_done h0 h1
      omega
theorem passes_one (X : List (List R)) : (passes X (npass X.length)).length ≤ 1 := by
  have h := passes_inv X _ (Nat.le_refl _)
  rcases Nat.lt_or_ge 1 (passes X (npass X.length)).length with h1 | h1
  · rw [npass_gt h1] at h
    omega
  · exact h1
theorem allIn_perm (X : List (List R)) : (allIn X).Perm X.flatten := passes_perm X _
theorem allIn_sort {X : List (List R)} (h : ∀ p ∈ X, p.Pairwise fun x y => R.leb x y = true) : allIn X = R.sort X.flatten := by
  refine R.sort_unique (allIn_perm X) ?_
  have h1 := passes_one X
  have h2 := passes_asc h (npass X.length)
  unfold allIn
  generalize passes X (npass X.length) = Y at h1 h2
  match Y, h1, h2 with
  | [], _, _ => exact List.Pairwise.nil
  | [p], _, h2 => simpa using h2 p (by simp)
  | p :: q :: Y, h1, _ => simp at h1
theorem okRuns_asc {X : List (List R)} (h : okRuns X = true) : ∀ p ∈ X, p.Pairwise fun x y => R.leb x y = true := fun p hp => by
  have h1 := List.all_eq_true.1 h p hp
  unfold okRun at h1
  rw [Bool.and_eq_true, Bool.and_eq_true] at h1
  exact R.asc_pairwise.1 h1.2.1
/-! ### How often one is doubled -/
def dbl (n : Int) : Nat → Nat → Nat
  | 0, k => k
  | f + 1, k => if (2 : Int) ^ k < n then dbl n f (k + 1) else k
def mpass (n : Int) : Nat := dbl n 40 0
theorem dbl_go {n : Int} {k : Nat} (hk : k < 40) (h : (2 : Int) ^ k < n) : dbl n (40 - k) k = dbl n (40 - (k + 1)) (k + 1) := by
  have e : 40 - k = (40 - (k + 1)) + 1 := by omega
  rw [e, dbl, if_pos h]
theorem dbl_stop {n : Int} {k : Nat} (hk : k ≤ 40) (h : k = 40 ∨ ¬ (2 : Int) ^ k < n) : dbl n (40 - k) k = k := by
  rcases Nat.lt_or_ge k 40 with h1 | h1
  · have e : 40 - k = (40 - (k + 1)) + 1 := by omega
    rw [e, dbl, if_neg (by rcases h with h | h; (omega); (exact h))]
  · rw [show 40 - k = 0 by omega]; rfl
theorem mpass_eq {n : Int} {k : Nat} (hk : k ≤ 40) (hl : ∀ u, u < k → (2 : Int) ^ u < n) (hn : n ≤ (2 : Int) ^ k) : mpass n = k := by
  have key : ∀ u, u ≤ k → mpass n = dbl n (40 - u) u := by
    intro u
    induction u with
    | zero => intro _; rfl
    | succ u ih => intro h; rw [ih (by omega), dbl_go (by omega) (hl u (by omega))]
  rw [key k (Nat.le_refl _), dbl_stop hk (.inr (by omega))]
theorem npass_pow (L : Nat) : L ≤ 2 ^ npass L ∧ ∀ u, u < npass L → 2 ^ u < L := by
  induction L using Nat.strongRecOn with
  | _ L ih =>
    rcases Nat.lt_or_ge 1 L with h | h
    · obtain ⟨h1, h2⟩ := ih ((L + 1) / 2) (by omega)
      rw [npass_gt h, Nat.pow_succ]
      refine ⟨by omega, fun u hu => ?_⟩
      cases u with
      | zero => rw [Nat.pow_zero]; exact h
      | succ v =>
        have := h2 v (by omega)
        rw [Nat.pow_succ]
        omega
    · rw [npass_le h]
      exact ⟨by rw [Nat.pow_zero]; exact h, fun u hu => absurd hu (Nat.not_lt_zero u)⟩
theorem npass_mpass {L : Nat} (h : L ≤ 1099511627776) : mpass (L : Int) = npass L := by
  obtain ⟨h1, h2⟩ := npass_pow L
  refine mpass_eq ?_ (fun u hu => by have := h2 u hu; exact_mod_cast this) (by exact_mod_cast h1)
  rcases Nat.lt_or_ge 40 (npass L) with h3 | h3
  · have := h2 40 h3
    have e : (2 : Nat) ^ 40 = 1099511627776 := by decide
    omega
  · exact h3
end Runs
end Go.Proofs.Ytfionajnoaednaa
/- Operations that are passed over because the operation that guards them was passed over. -/
namespace Go.Proofs.Ytfionajnoaednaa.V
open Go Go.RowKit
set_option linter.unusedVariables false
variable {P : Program} {E : Env} {N nb : Nat} {σ σ' τ : VS} {o : Oper} {a : Act} {w : World} {G : Ghost} {Q : Exit → Act → World → Prop} {K : Act → World → Prop}
abbrev V.no : V := ⟨true, []⟩
theorem vno {G : Ghost} {E : Env} {w : World} {u : Value} : VHolds G σ E w V.no u ↔ u = undef := by
  constructor
  · rintro ⟨uss, h1, h2, -⟩
    match uss, h1 with
    | [], _ => exact h2
  · rintro rfl
    exact ⟨[], rfl, rfl, fun c ag xs us h => by simp at h⟩
theorem yielded_no {ops : Array Oper} {j d : Nat} {oj : Oper} (h : Rel E N σ a w G) (hj : ops[j]? = some oj) (hd : oj.dst = some d) (hdN : d < N) (hv : σ.tm d = V.no) : yielded ops a.tmps j = none := by
  have h1 : a.tmps[d]? = some undef := by
    have h2 := h.tmps d
    rw [hv, vno] at h2
    have h4 : d < a.tmps.size := by rw [h.nsz]; exact hdN
    simp only [Array.getD_eq_getD_getElem?] at h2
    rw [Array.getElem?_eq_getElem h4] at h2 ⊢
    simpa using h2
  simp [yielded, hj, hd, h1, undef]
theorem DW.qNu {l : List Oper} {zs : List Nat} {ps : Pl} {fr : List Nat} {cl : Bool} {i j d d' : Nat} {oj : Oper} {b c : Bool} (ho : nthO l i = some o) (hg : o.guard = some (j, b)) (hj : l.toArray[j]? = some oj) (hd : oj.dst = some d) (hdN : d < N) (hv : σ.tm d = V.one (.sc (.bool c))) (hc : c = !b) (hd' : o.dst = some d') (hdN' : d' < N) (hQ : ∀ c (a : Act) v w, Q (.panic c) (a.put o.dst v) w → Q (.panic c) a w)
    (k : DW E N τ fr cl (σ.put d' V.no) fun ws Gs a w => wpPi P l.toArray Q (SW E τ ws Gs) zs ps a w) : DW E N τ fr cl σ fun ws Gs a w => wpPi P l.toArray Q (SW E τ ws Gs) zs (.q i ps) a w := fun ws Gs a w G hr hl => by
  refine pi_pass ho (fun c a w => hQ c a undef w) ?_ ?_
  · have := yielded_at hr hj hd hdN hv
    cases b <;> simp [Region.wanted, hg, this, hc]
  · rw [hd']
    exact k ws Gs _ w G (hr.put hdN' (vno.2 rfl)) hl.put
theorem DW.qNN {l : List Oper} {zs : List Nat} {ps : Pl} {fr : List Nat} {cl : Bool} {i j d d' : Nat} {oj : Oper} {b : Bool} (ho : nthO l i = some o) (hg : o.guard = some (j, b)) (hj : l.toArray[j]? = some oj) (hd : oj.dst = some d) (hdN : d < N) (hv : σ.tm d = V.no) (hd' : o.dst = some d') (hdN' : d' < N) (hQ : ∀ c (a : Act) v w, Q (.panic c) (a.put o.dst v) w → Q (.panic c) a w)
    (k : DW E N τ fr cl (σ.put d' V.no) fun ws Gs a w => wpPi P l.toArray Q (SW E τ ws Gs) zs ps a w) : DW E N τ fr cl σ fun ws Gs a w => wpPi P l.toArray Q (SW E τ ws Gs) zs (.q i ps) a w := fun ws Gs a w G hr hl => by
  refine pi_pass ho (fun c a w => hQ c a undef w) ?_ ?_
  · have := yielded_no hr hj hd hdN hv
    simp [Region.wanted, hg, this]
  · rw [hd']
    exact k ws Gs _ w G (hr.put hdN' (vno.2 rfl)) hl.put
theorem DW.mNN {l : List Oper} {zs : List Nat} {ps : Pl} {fr : List Nat} {cl : Bool} {i j d d' : Nat} {oj : Oper} {b : Bool} (ho : nthO l i = some o) (hg : o.guard = some (j, b)) (hj : l.toArray[j]? = some oj) (hd : oj.dst = some d) (hdN : d < N) (hv : σ.tm d = V.no) (hd' : o.dst = some d') (hdN' : d' < N)
    (k : DW E N τ fr cl (σ.put d' V.no) fun ws Gs a w => wpPi P l.toArray Q (SW E τ ws Gs) zs ps a w) : DW E N τ fr cl σ fun ws Gs a w => wpPi P l.toArray Q (SW E τ ws Gs) zs (.m i ps) a w := fun ws Gs a w G hr hl => by
  refine pi_step ho fun K hK => ?_
  have hw : Region.wanted o (yielded l.toArray a.tmps) = false := by
    have := yielded_no hr hj hd hdN hv
    simp [Region.wanted, hg, this]
  rw [if_neg (by rw [hw]; simp)]
  refine hK.out _ w hl.same fun _ => ?_
  rw [hd']
  exact k ws Gs _ w G (hr.put hdN' (vno.2 rfl)) hl.put
end Go.Proofs.Ytfionajnoaednaa.V
/- A state told anew in short words: only the slots and objects that are still wanted. -/
namespace Go.Proofs.Ytfionajnoaednaa.V
open Go Go.RowKit
set_option linter.unusedVariables false
def lookV : List (Nat × V) → Nat → V
  | [], _ => V.one .dead
  | (d, v) :: L, s => bif Nat.beq s d then v else lookV L s
def lookO : List (Nat × Nat × T) → Nat → Option (Nat × T)
  | [], _ => none
  | (d, v, t) :: L, i => bif Nat.beq i d then some (v, t) else lookO L i
abbrev VS.of (L : List (Nat × V)) (B : List (TypeId × List Leaf)) (O : List (Nat × Nat × T)) (n : Nat) : VS := ⟨lookV L, B, lookO O, n⟩
def allV (σ : VS) : List (Nat × V) → Prop
  | [] => True
  | (d, v) :: L => σ.tm d = v ∧ allV σ L
def allO (σ : VS) : List (Nat × Nat × T) → Prop
  | [] => True
  | (i, v, t) :: L => σ.ob i = some (v, t) ∧ allO σ L
end Go.Proofs.Ytfionajnoaednaa.V
/- The reference's MergeSorted: told by trees. -/
namespace Go.Proofs.Ytfionajnoaednaa
open Go Go.RowKit V
set_option linter.unusedVariables false
set_option maxRecDepth 100000 in
set_option maxHeartbeats 2000000 in
theorem vms_s (a b : List R) (hL : a.length + b.length ≤ 1000000000) : VC Try.prog 19 [(false, [.seq 59 ((a).map tRow)]), (false, [.seq 59 ((b).map tRow)])] false [(false, [.seq 59 ((Runs.merge2 a b).map tRow)])] := by
  refine VC.enter Try.func19 rfl Try.ntmps19 (gle rfl) fun E hE => ?_
  refine SV.seq' ?_
  refine SV.region ?_
  refine SV.op (OpL.ok (nb := 0) (ok_move (v := V.one (.sc _)) (.inr rfl) rfl) rfl (gle rfl)) rfl ?_
  refine SV.nil ?_
  refine SV.tn ?_
  refine SV.seq' ?_
  refine SV.region ?_
  refine SV.op (OpMk.ok (ok_lit0 (kk := 0) elt_impl_Row rfl rfl rfl (gle rfl))) rfl ?_
  refine SV.op (OpL.ok (nb := 0) (ok_move (v := V.one (.hd 0)) (.inr rfl) rfl) rfl (gle rfl)) rfl ?_
  refine SV.nil ?_
  refine SV.tn ?_
  refine SV.seq' ?_
  refine SV.region ?_
  refine SV.op (OpL.ok (nb := 0) (ok_move (v := V.one (.sc _)) (.inr rfl) rfl) rfl (gle rfl)) rfl ?_
  refine SV.nil ?_
  refine SV.tn ?_
  refine SV.seq' ?_
  refine SV.region ?_
  refine SV.op (OpL.ok (nb := 0) (ok_move (v := V.one (.sc _)) (.inr rfl) rfl) rfl (gle rfl)) rfl ?_
  refine SV.nil ?_
  refine SV.tn ?_
  refine SV.seq' ?_
  refine SV.block ?_
  refine SV.loopF (X := Nat × Nat × List R) (fun (σ : VS) z => (((((((VS.nil.new (.seq 59 (z.2.2.map tRow))).put 0 (σ.tm 0)).put 1 (σ.tm 1)).put 4 (σ.tm 4)).put 5 (V.flat false [.hd 0])).put 6 (V.flat false [.sc (.int .i64 ((z.1 : Int)))])).put 7 (V.flat false [.sc (.int .i64 ((z.2.1 : Int)))]))) (fun z => z.1 ≤ a.length ∧ z.2.1 ≤ b.length ∧ z.2.2 ++ Runs.merge2 (a.drop z.1) (b.drop z.2.1) = Runs.merge2 a b) (fun z => (a.length - z.1) + (b.length - z.2.1)) ?_ ?_
  · skip
    refine SV.again (fun i => [0].getD i 0) (0, 0, []) (⟨Nat.zero_le _, Nat.zero_le _, rfl⟩) (pins hE rfl rfl) (VS.le.mk' (le_put (le_put (le_put (le_put (le_put (le_put (le_new le_nil) (V.le.keep (ag := false) (xs := [.ro _]) (ys := [.ro _]) rfl rfl ⟨rfl, trivial⟩)) (V.le.keep (ag := false) (xs := [.ro _]) (ys := [.ro _]) rfl rfl ⟨rfl, trivial⟩)) (V.le.keep (ag := false) (xs := [.sc _]) (ys := [.sc _]) rfl rfl ⟨rfl, trivial⟩)) (V.le.keep (ag := false) (xs := [.hd 0]) (ys := [.hd 0]) rfl rfl ⟨⟨rfl, (gle rfl), (gle rfl)⟩, trivial⟩)) (V.le.keep (ag := false) (xs := [.sc _]) (ys := [.sc _]) rfl rfl ⟨(by first | rfl | (show Leaf.sc _ = Leaf.sc _; refine congrArg Leaf.sc ?_; first | rfl | go_num | (rw [hz]; first | done | rfl; first | done | rfl | go_num | (simp; done) | (simp; omega)) | (simp [cntAll]; done)) | (simp [cntAll]; done) | (simp; omega)), trivial⟩)) (V.le.keep (ag := false) (xs := [.sc _]) (ys := [.sc _]) rfl rfl ⟨(by first | rfl | (show Leaf.sc _ = Leaf.sc _; refine congrArg Leaf.sc ?_; first | rfl | go_num | (rw [hz]; first | done | rfl; first | done | rfl | go_num | (simp; done) | (simp; omega)) | (simp [cntAll]; done)) | (simp [cntAll]; done) | (simp; omega)), trivial⟩)) trivial ⟨.inr ⟨_, _, rfl, ?ob1_0, (gle rfl)⟩, trivial⟩ (new_ob nil_ob) (fun i j hi hj e => inj_list (l := [0]) (by decide) i j hi hj e))
    case ob1_0 =>
      show some (T.seq _ _) = some (T.seq _ _)
      rfl
  · rintro ⟨i, k, o⟩ ⟨hi, hk, ho⟩
    dsimp only at hi hk ho
    have hol : o.length + (a.length - i + (b.length - k)) = a.length + b.length := by have h := congrArg List.length ho; rw [List.length_append, Runs.merge2_length, Runs.merge2_length, List.length_drop, List.length_drop] at h; exact h
    refine SV.seq' ?_
    refine SV.seq' ?_
    refine SV.region ?_
    refine SV.op (OpL.ok (nb := 0) (ok_move (v := V.one (.sc _)) (.inl rfl) rfl) rfl (gle rfl)) rfl ?_
    refine SV.op (OpL.ok (nb := 0) (ok_move (v := V.one (.ro _)) (.inl rfl) rfl) rfl (gle rfl)) rfl ?_
    refine SV.op (OpL.ok (nb := 0) (ok_len (lf := .ro _) rfl elt_impl_Row.und rfl rfl) rfl (gle rfl)) rfl ?_
    refine SV.op (OpL.ok (nb := 0) (ok_s2 (x := .tmp 9) (x' := .tmp 11) (VScal.one rfl) (VScal.one rfl) (fun ρ h1 h2 w => by go_simp; (try go_bits); with_reducible rfl) rfl) rfl (gle rfl)) rfl ?_
    refine SV.op (OpL.ok (nb := 0) (ok_move (v := V.one (.sc _)) (.inl rfl) rfl) rfl (gle rfl)) rfl ?_
    refine SV.split (d := 13) rfl (fun hg0 => ?_) (fun hg0 => ?_)
    · skip   -- g0.T
      have hil : i < a.length := by simpa using hg0
      obtain ⟨x, hx⟩ : ∃ x, a[i]? = some x := ⟨_, List.getElem?_eq_getElem hil⟩
      refine SV.opN rfl rfl rfl (gle rfl) rfl rfl rfl (gle rfl) ?_
      refine SV.opN rfl rfl rfl (gle rfl) rfl rfl rfl (gle rfl) ?_
      refine SV.opN rfl rfl rfl (gle rfl) rfl rfl rfl (gle rfl) ?_
      refine SV.opN rfl rfl rfl (gle rfl) rfl rfl rfl (gle rfl) ?_
      refine SV.op (OpL.ok (nb := 0) (ok_pickT (v := V.one (.sc _)) rfl rfl rfl) rfl (gle rfl)) rfl ?_
      refine SV.nil ?_
      refine SV.tn ?_
      refine SV.cond rfl (fun hc0 => ?_) (fun hc0 => ?_)
      · skip   -- c0.T
        refine SV.skip ?_
        refine SV.tn ?_
        refine SV.block ?_
        refine SV.seq' ?_
        refine SV.draw [.q 0, .q 1, .q 2, .q 3, .q 4, .q 5, .q 6, .q 7, .q 8, .q 9, .q 10, .q 11, .q 12, .q 13, .q 14, .q 15, .q 16, .q 17, .m 18, .q 19, .q 20, .q 21] [] (by kernel_rfl) (by kernel_rfl) ?_
        refine DW.q rfl (ok_move (v := V.one (.sc _)) (.inl rfl) rfl) rfl rfl (gle rfl) (fun _ _ _ _ h => h) ?_
        refine DW.q rfl (ok_move (v := V.one (.ro _)) (.inl rfl) rfl) rfl rfl (gle rfl) (fun _ _ _ _ h => h) ?_
        refine DW.q rfl (ok_len (lf := .ro _) rfl elt_impl_Row.und rfl rfl) rfl rfl (gle rfl) (fun _ _ _ _ h => h) ?_
        refine DW.q rfl (ok_s2 (x := .tmp 19) (x' := .tmp 21) (VScal.one rfl) (VScal.one rfl) (fun ρ h1 h2 w => by go_simp; (try go_bits); with_reducible rfl) rfl) rfl rfl (gle rfl) (fun _ _ _ _ h => h) ?_
        refine DW.q rfl (ok_move (v := V.one (.sc _)) (.inl rfl) rfl) rfl rfl (gle rfl) (fun _ _ _ _ h => h) ?_
        refine DW.split (d := 23) rfl (fun hg1 => ?_) (fun hg1 => ?_)
        · skip   -- g1.T
          refine DW.qN (V' := V.one .dead) rfl rfl rfl rfl (gle rfl) rfl rfl rfl (gle rfl) (fun _ _ _ _ h => h) ?_
          refine DW.qN (V' := V.one .dead) rfl rfl rfl rfl (gle rfl) rfl rfl rfl (gle rfl) (fun _ _ _ _ h => h) ?_
          refine DW.qN (V' := V.one .dead) rfl rfl rfl rfl (gle rfl) rfl rfl rfl (gle rfl) (fun _ _ _ _ h => h) ?_
          refine DW.qN (V' := V.one .dead) rfl rfl rfl rfl (gle rfl) rfl rfl rfl (gle rfl) (fun _ _ _ _ h => h) ?_
          refine DW.qNu rfl rfl rfl rfl (gle rfl) rfl rfl rfl (gle rfl) (fun _ _ _ _ h => h) ?_
          refine DW.qNN rfl rfl rfl rfl (gle rfl) rfl rfl (gle rfl) (fun _ _ _ _ h => h) ?_
          refine DW.qNN rfl rfl rfl rfl (gle rfl) rfl rfl (gle rfl) (fun _ _ _ _ h => h) ?_
          refine DW.qNN rfl rfl rfl rfl (gle rfl) rfl rfl (gle rfl) (fun _ _ _ _ h => h) ?_
          refine DW.qNN rfl rfl rfl rfl (gle rfl) rfl rfl (gle rfl) (fun _ _ _ _ h => h) ?_
          refine DW.qNN rfl rfl rfl rfl (gle rfl) rfl rfl (gle rfl) (fun _ _ _ _ h => h) ?_
          refine DW.qNN rfl rfl rfl rfl (gle rfl) rfl rfl (gle rfl) (fun _ _ _ _ h => h) ?_
          refine DW.qNN rfl rfl rfl rfl (gle rfl) rfl rfl (gle rfl) (fun _ _ _ _ h => h) ?_
          refine DW.qNN rfl rfl rfl rfl (gle rfl) rfl rfl (gle rfl) (fun _ _ _ _ h => h) ?_
          refine DW.mNN rfl rfl rfl rfl (gle rfl) rfl rfl (gle rfl) ?_
          refine DW.qNN rfl rfl rfl rfl (gle rfl) rfl rfl (gle rfl) (fun _ _ _ _ h => h) ?_
          refine DW.qN (V' := V.one .dead) rfl rfl rfl rfl (gle rfl) rfl rfl rfl (gle rfl) (fun _ _ _ _ h => h) ?_
          refine DW.q rfl (ok_pickT (v := V.one (.sc _)) rfl rfl rfl) rfl rfl (gle rfl) (fun _ _ _ _ h => h) ?_
          refine DW.stores ?_
          refine SV.zend ?_
          refine SV.tn ?_
          refine SV.cond rfl (fun hc1 => ?_) (fun hc1 => ?_)
          · skip   -- c1.T
            have hkl : k = b.length := by simp at hg1; omega
            obtain ⟨z', hz⟩ : ∃ z' : Nat × Nat × List R, z' = (i + 1, k, o ++ [x]) := ⟨_, rfl⟩
            have hz2 : (z'.1 ≤ a.length ∧ z'.2.1 ≤ b.length ∧ z'.2.2 ++ Runs.merge2 (a.drop z'.1) (b.drop z'.2.1) = Runs.merge2 a b) ∧ (a.length - z'.1) + (b.length - z'.2.1) < (a.length - i) + (b.length - k) := by
              rw [hz]
              refine ⟨⟨by show i + 1 ≤ a.length; omega, by show k ≤ b.length; omega, ?_⟩, by show (a.length - (i + 1)) + (b.length - k) < _; omega⟩
              show (o ++ [x]) ++ _ = _
              rw [List.append_assoc, ← ho, Runs.m_last hx (by omega)]
              rfl
            refine SV.seq' ?_
            refine SV.region ?_
            refine SV.op (OpL.ok (nb := 0) (ok_move (v := V.one (.hd 0)) (.inl rfl) rfl) rfl (gle rfl)) rfl ?_
            refine SV.op (OpL.ok (nb := 0) (ok_move (v := V.one (.ro _)) (.inl rfl) rfl) rfl (gle rfl)) rfl ?_
            refine SV.op (OpL.ok (nb := 0) (ok_move (v := V.one (.sc _)) (.inl rfl) rfl) rfl (gle rfl)) rfl ?_
            refine SV.op (OpL.ok (nb := 0) (ok_index (n := 3) (lf := .ro _) rfl elt_impl_Row.und sz_impl_Row rfl rfl rfl (map_at hx)) rfl (gle rfl)) rfl ?_
            refine SV.op (OpL.ok (nb := 0) (ok_load_rp (ag := true) (m := 3) (ys := [.sc _, .sc _, .sc _]) rfl rfl agg_impl_Row sz_impl_Row (fun h => by cases h) (gle rfl) rfl) rfl (gle rfl)) rfl ?_
            refine SV.op (OpMk.ok (ok_lit1 (kk := 1) elt_impl_Row (ag := true) (xs := [.sc _, .sc _, .sc _]) rfl rfl rfl rfl (fun h => by cases h) (outs_c rfl (outs_c rfl (outs_c rfl outs_n))) (by simp [two]) rfl (gle rfl))) rfl ?_
            refine SV.op (OpMk.ok (ok_append (kk := 2) elt_impl_Row (ls := .hd 0) (lx := .hd 1) rfl rfl rfl rfl rfl rfl (by intro i h1 h2; first | (cases h1; done) | (cases h1; cases h2)) (by first | omega | (simp only [List.length_map]; omega) | (simp; done) | (simp; omega)) rfl (gle rfl))) rfl ?_
            refine SV.op (OpL.ok (nb := 0) (ok_move (v := V.one (.hd 2)) (.inr rfl) rfl) rfl (gle rfl)) rfl ?_
            refine SV.nil ?_
            refine SV.tn ?_
            refine SV.region ?_
            refine SV.op (OpL.ok (nb := 0) (ok_move (v := V.one (.sc _)) (.inl rfl) rfl) rfl (gle rfl)) rfl ?_
            refine SV.op (OpL.ok (nb := 0) (ok_s2 (x := .tmp 48) (x' := .const ((Value.int IntKind.i64 1))) (VScal.one rfl) (VScal.one rfl) (fun ρ h1 h2 w => by go_simp; (try go_bits); with_reducible rfl) rfl) rfl (gle rfl)) rfl ?_
            refine SV.op (OpL.ok (nb := 0) (ok_move (v := V.one (.sc _)) (.inr rfl) rfl) rfl (gle rfl)) rfl ?_
            refine SV.nil ?_
            refine SV.bn ?_
            refine SV.tn ?_
            refine SV.again (fun i => [2].getD i 0) (z') (hz2) (pins hE rfl rfl) (VS.le.mk' (le_put (le_put (le_put (le_put (le_put (le_put (le_new le_nil) (V.le.keep (ag := false) (xs := [.ro _]) (ys := [.ro _]) rfl rfl ⟨rfl, trivial⟩)) (V.le.keep (ag := false) (xs := [.ro _]) (ys := [.ro _]) rfl rfl ⟨rfl, trivial⟩)) (V.le.keep (ag := false) (xs := [.sc _]) (ys := [.sc _]) rfl rfl ⟨rfl, trivial⟩)) (V.le.keep (ag := false) (xs := [.hd 2]) (ys := [.hd 0]) rfl rfl ⟨⟨rfl, (gle rfl), (gle rfl)⟩, trivial⟩)) (V.le.keep (ag := false) (xs := [.sc _]) (ys := [.sc _]) rfl rfl ⟨(by first | rfl | (show Leaf.sc _ = Leaf.sc _; refine congrArg Leaf.sc ?_; first | rfl | go_num | (rw [hz]; first | done | rfl; first | done | rfl | go_num | (simp; done) | (simp; omega)) | (simp [cntAll]; done)) | (simp [cntAll]; done) | (simp; omega)), trivial⟩)) (V.le.keep (ag := false) (xs := [.sc _]) (ys := [.sc _]) rfl rfl ⟨(by first | rfl | (show Leaf.sc _ = Leaf.sc _; refine congrArg Leaf.sc ?_; first | rfl | go_num | (rw [hz]; first | done | rfl; first | done | rfl | go_num | (simp; done) | (simp; omega)) | (simp [cntAll]; done)) | (simp [cntAll]; done) | (simp; omega)), trivial⟩)) trivial ⟨.inr ⟨_, _, rfl, ?ob2_0, (gle rfl)⟩, trivial⟩ (new_ob nil_ob) (fun i j hi hj e => inj_list (l := [2]) (by decide) i j hi hj e))
            case ob2_0 =>
              show some (T.seq _ _) = some (T.seq _ _)
              rw [hz]; first | done | rfl | (simp only [List.map_append]; rfl) | (simp [tRow]; done)
          · skip   -- c1.F
            cases hc1
        · skip   -- g1.F
          have hkl : k < b.length := by simp at hg1; omega
          obtain ⟨y, hy⟩ : ∃ y, b[k]? = some y := ⟨_, List.getElem?_eq_getElem (by omega)⟩
          refine DW.qY rfl (ok_move (v := V.one (.sc _)) (.inl rfl) rfl) rfl rfl rfl (gle rfl) rfl rfl rfl (gle rfl) (fun _ _ _ _ h => h) ?_
          refine DW.qY rfl (ok_move (v := V.one (.ro _)) (.inl rfl) rfl) rfl rfl rfl (gle rfl) rfl rfl rfl (gle rfl) (fun _ _ _ _ h => h) ?_
          refine DW.qY rfl (ok_len (lf := .ro _) rfl elt_impl_Row.und rfl rfl) rfl rfl rfl (gle rfl) rfl rfl rfl (gle rfl) (fun _ _ _ _ h => h) ?_
          refine DW.qY rfl (ok_s2 (x := .tmp 24) (x' := .tmp 26) (VScal.one rfl) (VScal.one rfl) (fun ρ h1 h2 w => by go_simp; (try go_bits); with_reducible rfl) rfl) rfl rfl rfl (gle rfl) rfl rfl rfl (gle rfl) (fun _ _ _ _ h => h) ?_
          refine DW.qY rfl (ok_move (v := V.one (.sc _)) (.inl rfl) rfl) rfl rfl rfl (gle rfl) rfl rfl rfl (gle rfl) (fun _ _ _ _ h => h) ?_
          refine DW.split (d := 28) rfl (fun hg2 => ?_) (fun hg2 => ?_)
          · skip   -- g2.T
            refine DW.qY rfl (ok_move (v := V.one (.ro _)) (.inl rfl) rfl) rfl rfl rfl (gle rfl) rfl rfl rfl (gle rfl) (fun _ _ _ _ h => h) ?_
            refine DW.qY rfl (ok_move (v := V.one (.sc _)) (.inl rfl) rfl) rfl rfl rfl (gle rfl) rfl rfl rfl (gle rfl) (fun _ _ _ _ h => h) ?_
            refine DW.qY rfl (ok_index (n := 3) (lf := .ro _) rfl elt_impl_Row.und sz_impl_Row rfl rfl rfl (map_at hx)) rfl rfl rfl (gle rfl) rfl rfl rfl (gle rfl) (fun _ _ _ _ h => h) ?_
            refine DW.qY rfl (ok_load_rp (ag := true) (m := 3) (ys := [.sc _, .sc _, .sc _]) rfl rfl agg_impl_Row sz_impl_Row (fun h => by cases h) (gle rfl) rfl) rfl rfl rfl (gle rfl) rfl rfl rfl (gle rfl) (fun _ _ _ _ h => h) ?_
            refine DW.qY rfl (ok_move (v := V.one (.ro _)) (.inl rfl) rfl) rfl rfl rfl (gle rfl) rfl rfl rfl (gle rfl) (fun _ _ _ _ h => h) ?_
            refine DW.qY rfl (ok_move (v := V.one (.sc _)) (.inl rfl) rfl) rfl rfl rfl (gle rfl) rfl rfl rfl (gle rfl) (fun _ _ _ _ h => h) ?_
            refine DW.qY rfl (ok_index (n := 3) (lf := .ro _) rfl elt_impl_Row.und sz_impl_Row rfl rfl rfl (map_at hy)) rfl rfl rfl (gle rfl) rfl rfl rfl (gle rfl) (fun _ _ _ _ h => h) ?_
            refine DW.qY rfl (ok_load_rp (ag := true) (m := 3) (ys := [.sc _, .sc _, .sc _]) rfl rfl agg_impl_Row sz_impl_Row (fun h => by cases h) (gle rfl) rfl) rfl rfl rfl (gle rfl) rfl rfl rfl (gle rfl) (fun _ _ _ _ h => h) ?_
            refine DW.m' [] rfl (ok_call (ls := [(false, [.sc _])]) rfl rfl ⟨_, _, Try.func52, rfl, by decide⟩ (vcmp_t x y) ⟨⟨[.sc _, .sc _, .sc _], rfl, ⟨rfl, rfl, rfl, trivial⟩⟩, ⟨[.sc _, .sc _, .sc _], rfl, ⟨rfl, rfl, rfl, trivial⟩⟩, trivial⟩ rfl (gle rfl)) (fun hr => wantedY hr rfl rfl rfl (gle rfl) rfl rfl) (gle rfl) (gle rfl) (.inl rfl) (fun j hj => by cases hj) ?_
            refine DW.qY rfl (ok_s2 (x := .tmp 37) (x' := .const ((Value.int IntKind.i64 0))) (VScal.one rfl) (VScal.one rfl) (fun ρ h1 h2 w => by go_simp; (try go_bits); with_reducible rfl) rfl) rfl rfl rfl (gle rfl) rfl rfl rfl (gle rfl) (fun _ _ _ _ h => h) ?_
            refine DW.qY rfl (ok_pickT (v := V.one (.sc _)) rfl rfl rfl) rfl rfl rfl (gle rfl) rfl rfl rfl (gle rfl) (fun _ _ _ _ h => h) ?_
            refine DW.q rfl (ok_pickF (v := V.one (.sc _)) rfl rfl rfl) rfl rfl (gle rfl) (fun _ _ _ _ h => h) ?_
            refine DW.stores ?_
            refine SV.zend ?_
            refine SV.tn ?_
            refine SV.cond rfl (fun hc2 => ?_) (fun hc2 => ?_)
            · skip   -- c2.T
              have hcl : R.cmp x y ≤ 0 := by simpa using hc2
              obtain ⟨z', hz⟩ : ∃ z' : Nat × Nat × List R, z' = (i + 1, k, o ++ [x]) := ⟨_, rfl⟩
              have hz2 : (z'.1 ≤ a.length ∧ z'.2.1 ≤ b.length ∧ z'.2.2 ++ Runs.merge2 (a.drop z'.1) (b.drop z'.2.1) = Runs.merge2 a b) ∧ (a.length - z'.1) + (b.length - z'.2.1) < (a.length - i) + (b.length - k) := by
                rw [hz]
                refine ⟨⟨by show i + 1 ≤ a.length; omega, by show k ≤ b.length; omega, ?_⟩, by show (a.length - (i + 1)) + (b.length - k) < _; omega⟩
                show (o ++ [x]) ++ _ = _
                rw [List.append_assoc, ← ho, Runs.m_left hx hy hcl]
                rfl
              refine SV.seq' ?_
              refine SV.region ?_
              refine SV.op (OpL.ok (nb := 0) (ok_move (v := V.one (.hd 0)) (.inl rfl) rfl) rfl (gle rfl)) rfl ?_
              refine SV.op (OpL.ok (nb := 0) (ok_move (v := V.one (.ro _)) (.inl rfl) rfl) rfl (gle rfl)) rfl ?_
              refine SV.op (OpL.ok (nb := 0) (ok_move (v := V.one (.sc _)) (.inl rfl) rfl) rfl (gle rfl)) rfl ?_
              refine SV.op (OpL.ok (nb := 0) (ok_index (n := 3) (lf := .ro _) rfl elt_impl_Row.und sz_impl_Row rfl rfl rfl (map_at hx)) rfl (gle rfl)) rfl ?_
              refine SV.op (OpL.ok (nb := 0) (ok_load_rp (ag := true) (m := 3) (ys := [.sc _, .sc _, .sc _]) rfl rfl agg_impl_Row sz_impl_Row (fun h => by cases h) (gle rfl) rfl) rfl (gle rfl)) rfl ?_
              refine SV.op (OpMk.ok (ok_lit1 (kk := 1) elt_impl_Row (ag := true) (xs := [.sc _, .sc _, .sc _]) rfl rfl rfl rfl (fun h => by cases h) (outs_c rfl (outs_c rfl (outs_c rfl outs_n))) (by simp [two]) rfl (gle rfl))) rfl ?_
              refine SV.op (OpMk.ok (ok_append (kk := 2) elt_impl_Row (ls := .hd 0) (lx := .hd 1) rfl rfl rfl rfl rfl rfl (by intro i h1 h2; first | (cases h1; done) | (cases h1; cases h2)) (by first | omega | (simp only [List.length_map]; omega) | (simp; done) | (simp; omega)) rfl (gle rfl))) rfl ?_
              refine SV.op (OpL.ok (nb := 0) (ok_move (v := V.one (.hd 2)) (.inr rfl) rfl) rfl (gle rfl)) rfl ?_
              refine SV.nil ?_
              refine SV.tn ?_
              refine SV.region ?_
              refine SV.op (OpL.ok (nb := 0) (ok_move (v := V.one (.sc _)) (.inl rfl) rfl) rfl (gle rfl)) rfl ?_
              refine SV.op (OpL.ok (nb := 0) (ok_s2 (x := .tmp 48) (x' := .const ((Value.int IntKind.i64 1))) (VScal.one rfl) (VScal.one rfl) (fun ρ h1 h2 w => by go_simp; (try go_bits); with_reducible rfl) rfl) rfl (gle rfl)) rfl ?_
              refine SV.op (OpL.ok (nb := 0) (ok_move (v := V.one (.sc _)) (.inr rfl) rfl) rfl (gle rfl)) rfl ?_
              refine SV.nil ?_
              refine SV.bn ?_
              refine SV.tn ?_
              refine SV.again (fun i => [2].getD i 0) (z') (hz2) (pins hE rfl rfl) (VS.le.mk' (le_put (le_put (le_put (le_put (le_put (le_put (le_new le_nil) (V.le.keep (ag := false) (xs := [.ro _]) (ys := [.ro _]) rfl rfl ⟨rfl, trivial⟩)) (V.le.keep (ag := false) (xs := [.ro _]) (ys := [.ro _]) rfl rfl ⟨rfl, trivial⟩)) (V.le.keep (ag := false) (xs := [.sc _]) (ys := [.sc _]) rfl rfl ⟨rfl, trivial⟩)) (V.le.keep (ag := false) (xs := [.hd 2]) (ys := [.hd 0]) rfl rfl ⟨⟨rfl, (gle rfl), (gle rfl)⟩, trivial⟩)) (V.le.keep (ag := false) (xs := [.sc _]) (ys := [.sc _]) rfl rfl ⟨(by first | rfl | (show Leaf.sc _ = Leaf.sc _; refine congrArg Leaf.sc ?_; first | rfl | go_num | (rw [hz]; first | done | rfl; first | done | rfl | go_num | (simp; done) | (simp; omega)) | (simp [cntAll]; done)) | (simp [cntAll]; done) | (simp; omega)), trivial⟩)) (V.le.keep (ag := false) (xs := [.sc _]) (ys := [.sc _]) rfl rfl ⟨(by first | rfl | (show Leaf.sc _ = Leaf.sc _; refine congrArg Leaf.sc ?_; first | rfl | go_num | (rw [hz]; first | done | rfl; first | done | rfl | go_num | (simp; done) | (simp; omega)) | (simp [cntAll]; done)) | (simp [cntAll]; done) | (simp; omega)), trivial⟩)) trivial ⟨.inr ⟨_, _, rfl, ?ob3_0, (gle rfl)⟩, trivial⟩ (new_ob nil_ob) (fun i j hi hj e => inj_list (l := [2]) (by decide) i j hi hj e))
              case ob3_0 =>
                show some (T.seq _ _) = some (T.seq _ _)
                rw [hz]; first | done | rfl | (simp only [List.map_append]; rfl) | (simp [tRow]; done)
            · skip   -- c2.F
              have hcl : ¬ R.cmp x y ≤ 0 := by simpa using hc2
              obtain ⟨z', hz⟩ : ∃ z' : Nat × Nat × List R, z' = (i, k + 1, o ++ [y]) := ⟨_, rfl⟩
              have hz2 : (z'.1 ≤ a.length ∧ z'.2.1 ≤ b.length ∧ z'.2.2 ++ Runs.merge2 (a.drop z'.1) (b.drop z'.2.1) = Runs.merge2 a b) ∧ (a.length - z'.1) + (b.length - z'.2.1) < (a.length - i) + (b.length - k) := by
                rw [hz]
                refine ⟨⟨by show i ≤ a.length; omega, by show k + 1 ≤ b.length; omega, ?_⟩, by show (a.length - i) + (b.length - (k + 1)) < _; omega⟩
                show (o ++ [y]) ++ _ = _
                rw [List.append_assoc, ← ho, Runs.m_right hx hy hcl]
                rfl
              refine SV.seq' ?_
              refine SV.region ?_
              refine SV.op (OpL.ok (nb := 0) (ok_move (v := V.one (.hd 0)) (.inl rfl) rfl) rfl (gle rfl)) rfl ?_
              refine SV.op (OpL.ok (nb := 0) (ok_move (v := V.one (.ro _)) (.inl rfl) rfl) rfl (gle rfl)) rfl ?_
              refine SV.op (OpL.ok (nb := 0) (ok_move (v := V.one (.sc _)) (.inl rfl) rfl) rfl (gle rfl)) rfl ?_
              refine SV.op (OpL.ok (nb := 0) (ok_index (n := 3) (lf := .ro _) rfl elt_impl_Row.und sz_impl_Row rfl rfl rfl (map_at hy)) rfl (gle rfl)) rfl ?_
              refine SV.op (OpL.ok (nb := 0) (ok_load_rp (ag := true) (m := 3) (ys := [.sc _, .sc _, .sc _]) rfl rfl agg_impl_Row sz_impl_Row (fun h => by cases h) (gle rfl) rfl) rfl (gle rfl)) rfl ?_
              refine SV.op (OpMk.ok (ok_lit1 (kk := 1) elt_impl_Row (ag := true) (xs := [.sc _, .sc _, .sc _]) rfl rfl rfl rfl (fun h => by cases h) (outs_c rfl (outs_c rfl (outs_c rfl outs_n))) (by simp [two]) rfl (gle rfl))) rfl ?_
              refine SV.op (OpMk.ok (ok_append (kk := 2) elt_impl_Row (ls := .hd 0) (lx := .hd 1) rfl rfl rfl rfl rfl rfl (by intro i h1 h2; first | (cases h1; done) | (cases h1; cases h2)) (by first | omega | (simp only [List.length_map]; omega) | (simp; done) | (simp; omega)) rfl (gle rfl))) rfl ?_
              refine SV.op (OpL.ok (nb := 0) (ok_move (v := V.one (.hd 2)) (.inr rfl) rfl) rfl (gle rfl)) rfl ?_
              refine SV.nil ?_
              refine SV.tn ?_
              refine SV.region ?_
              refine SV.op (OpL.ok (nb := 0) (ok_move (v := V.one (.sc _)) (.inl rfl) rfl) rfl (gle rfl)) rfl ?_
              refine SV.op (OpL.ok (nb := 0) (ok_s2 (x := .tmp 57) (x' := .const ((Value.int IntKind.i64 1))) (VScal.one rfl) (VScal.one rfl) (fun ρ h1 h2 w => by go_simp; (try go_bits); with_reducible rfl) rfl) rfl (gle rfl)) rfl ?_
              refine SV.op (OpL.ok (nb := 0) (ok_move (v := V.one (.sc _)) (.inr rfl) rfl) rfl (gle rfl)) rfl ?_
              refine SV.nil ?_
              refine SV.bn ?_
              refine SV.tn ?_
              refine SV.again (fun i => [2].getD i 0) (z') (hz2) (pins hE rfl rfl) (VS.le.mk' (le_put (le_put (le_put (le_put (le_put (le_put (le_new le_nil) (V.le.keep (ag := false) (xs := [.ro _]) (ys := [.ro _]) rfl rfl ⟨rfl, trivial⟩)) (V.le.keep (ag := false) (xs := [.ro _]) (ys := [.ro _]) rfl rfl ⟨rfl, trivial⟩)) (V.le.keep (ag := false) (xs := [.sc _]) (ys := [.sc _]) rfl rfl ⟨rfl, trivial⟩)) (V.le.keep (ag := false) (xs := [.hd 2]) (ys := [.hd 0]) rfl rfl ⟨⟨rfl, (gle rfl), (gle rfl)⟩, trivial⟩)) (V.le.keep (ag := false) (xs := [.sc _]) (ys := [.sc _]) rfl rfl ⟨(by first | rfl | (show Leaf.sc _ = Leaf.sc _; refine congrArg Leaf.sc ?_; first | rfl | go_num | (rw [hz]; first | done | rfl; first | done | rfl | go_num | (simp; done) | (simp; omega)) | (simp [cntAll]; done)) | (simp [cntAll]; done) | (simp; omega)), trivial⟩)) (V.le.keep (ag := false) (xs := [.sc _]) (ys := [.sc _]) rfl rfl ⟨(by first | rfl | (show Leaf.sc _ = Leaf.sc _; refine congrArg Leaf.sc ?_; first | rfl | go_num | (rw [hz]; first | done | rfl; first | done | rfl | go_num | (simp; done) | (simp; omega)) | (simp [cntAll]; done)) | (simp [cntAll]; done) | (simp; omega)), trivial⟩)) trivial ⟨.inr ⟨_, _, rfl, ?ob4_0, (gle rfl)⟩, trivial⟩ (new_ob nil_ob) (fun i j hi hj e => inj_list (l := [2]) (by decide) i j hi hj e))
              case ob4_0 =>
                show some (T.seq _ _) = some (T.seq _ _)
                rw [hz]; first | done | rfl | (simp only [List.map_append]; rfl) | (simp [tRow]; done)
          · skip   -- g2.F
            (exfalso; first | (cases hg2; done) | (rw [hg0] at hg2; cases hg2))
      · skip   -- c0.F
        cases hc0
    · skip   -- g0.F
      have hil : ¬ i < a.length := by simpa using hg0
      refine SV.opY (OpL.ok (nb := 0) (ok_move (v := V.one (.sc _)) (.inl rfl) rfl) rfl (gle rfl)) rfl rfl rfl (gle rfl) rfl rfl ?_
      refine SV.opY (OpL.ok (nb := 0) (ok_move (v := V.one (.ro _)) (.inl rfl) rfl) rfl (gle rfl)) rfl rfl rfl (gle rfl) rfl rfl ?_
      refine SV.opY (OpL.ok (nb := 0) (ok_len (lf := .ro _) rfl elt_impl_Row.und rfl rfl) rfl (gle rfl)) rfl rfl rfl (gle rfl) rfl rfl ?_
      refine SV.opY (OpL.ok (nb := 0) (ok_s2 (x := .tmp 14) (x' := .tmp 16) (VScal.one rfl) (VScal.one rfl) (fun ρ h1 h2 w => by go_simp; (try go_bits); with_reducible rfl) rfl) rfl (gle rfl)) rfl rfl rfl (gle rfl) rfl rfl ?_
      refine SV.op (OpL.ok (nb := 0) (ok_pickF (v := V.one (.sc _)) rfl rfl rfl) rfl (gle rfl)) rfl ?_
      refine SV.nil ?_
      refine SV.tn ?_
      refine SV.cond rfl (fun hc3 => ?_) (fun hc3 => ?_)
      · skip   -- c3.T
        have hkl : k < b.length := by simpa using hc3
        obtain ⟨y, hy⟩ : ∃ y, b[k]? = some y := ⟨_, List.getElem?_eq_getElem (by omega)⟩
        refine SV.skip ?_
        refine SV.tn ?_
        refine SV.block ?_
        refine SV.seq' ?_
        refine SV.draw [.q 0, .q 1, .q 2, .q 3, .q 4, .q 5, .q 6, .q 7, .q 8, .q 9, .q 10, .q 11, .q 12, .q 13, .q 14, .q 15, .q 16, .q 17, .m 18, .q 19, .q 20, .q 21] [] (by kernel_rfl) (by kernel_rfl) ?_
        refine DW.q rfl (ok_move (v := V.one (.sc _)) (.inl rfl) rfl) rfl rfl (gle rfl) (fun _ _ _ _ h => h) ?_
        refine DW.q rfl (ok_move (v := V.one (.ro _)) (.inl rfl) rfl) rfl rfl (gle rfl) (fun _ _ _ _ h => h) ?_
        refine DW.q rfl (ok_len (lf := .ro _) rfl elt_impl_Row.und rfl rfl) rfl rfl (gle rfl) (fun _ _ _ _ h => h) ?_
        refine DW.q rfl (ok_s2 (x := .tmp 19) (x' := .tmp 21) (VScal.one rfl) (VScal.one rfl) (fun ρ h1 h2 w => by go_simp; (try go_bits); with_reducible rfl) rfl) rfl rfl (gle rfl) (fun _ _ _ _ h => h) ?_
        refine DW.q rfl (ok_move (v := V.one (.sc _)) (.inl rfl) rfl) rfl rfl (gle rfl) (fun _ _ _ _ h => h) ?_
        refine DW.split (d := 23) rfl (fun hg3 => ?_) (fun hg3 => ?_)
        · skip   -- g3.T
          (exfalso; simp at hg3; omega)
        · skip   -- g3.F
          refine DW.qY rfl (ok_move (v := V.one (.sc _)) (.inl rfl) rfl) rfl rfl rfl (gle rfl) rfl rfl rfl (gle rfl) (fun _ _ _ _ h => h) ?_
          refine DW.qY rfl (ok_move (v := V.one (.ro _)) (.inl rfl) rfl) rfl rfl rfl (gle rfl) rfl rfl rfl (gle rfl) (fun _ _ _ _ h => h) ?_
          refine DW.qY rfl (ok_len (lf := .ro _) rfl elt_impl_Row.und rfl rfl) rfl rfl rfl (gle rfl) rfl rfl rfl (gle rfl) (fun _ _ _ _ h => h) ?_
          refine DW.qY rfl (ok_s2 (x := .tmp 24) (x' := .tmp 26) (VScal.one rfl) (VScal.one rfl) (fun ρ h1 h2 w => by go_simp; (try go_bits); with_reducible rfl) rfl) rfl rfl rfl (gle rfl) rfl rfl rfl (gle rfl) (fun _ _ _ _ h => h) ?_
          refine DW.qY rfl (ok_move (v := V.one (.sc _)) (.inl rfl) rfl) rfl rfl rfl (gle rfl) rfl rfl rfl (gle rfl) (fun _ _ _ _ h => h) ?_
          refine DW.split (d := 28) rfl (fun hg4 => ?_) (fun hg4 => ?_)
          · skip   -- g4.T
            (exfalso; first | (cases hg4; done) | (rw [hg0] at hg4; cases hg4))
          · skip   -- g4.F
            refine DW.qN (V' := V.one .dead) rfl rfl rfl rfl (gle rfl) rfl rfl rfl (gle rfl) (fun _ _ _ _ h => h) ?_
            refine DW.qN (V' := V.one .dead) rfl rfl rfl rfl (gle rfl) rfl rfl rfl (gle rfl) (fun _ _ _ _ h => h) ?_
            refine DW.qN (V' := V.one .dead) rfl rfl rfl rfl (gle rfl) rfl rfl rfl (gle rfl) (fun _ _ _ _ h => h) ?_
            refine DW.qN (V' := V.one .dead) rfl rfl rfl rfl (gle rfl) rfl rfl rfl (gle rfl) (fun _ _ _ _ h => h) ?_
            refine DW.qN (V' := V.one .dead) rfl rfl rfl rfl (gle rfl) rfl rfl rfl (gle rfl) (fun _ _ _ _ h => h) ?_
            refine DW.qN (V' := V.one .dead) rfl rfl rfl rfl (gle rfl) rfl rfl rfl (gle rfl) (fun _ _ _ _ h => h) ?_
            refine DW.qN (V' := V.one .dead) rfl rfl rfl rfl (gle rfl) rfl rfl rfl (gle rfl) (fun _ _ _ _ h => h) ?_
            refine DW.qN (V' := V.one .dead) rfl rfl rfl rfl (gle rfl) rfl rfl rfl (gle rfl) (fun _ _ _ _ h => h) ?_
            refine DW.mN rfl rfl rfl rfl (gle rfl) rfl rfl rfl (gle rfl) ?_
            refine DW.qN (V' := V.one .dead) rfl rfl rfl rfl (gle rfl) rfl rfl rfl (gle rfl) (fun _ _ _ _ h => h) ?_
            refine DW.qY rfl (ok_pickF (v := V.one (.sc _)) rfl rfl rfl) rfl rfl rfl (gle rfl) rfl rfl rfl (gle rfl) (fun _ _ _ _ h => h) ?_
            refine DW.q rfl (ok_pickF (v := V.one (.sc _)) rfl rfl rfl) rfl rfl (gle rfl) (fun _ _ _ _ h => h) ?_
            refine DW.stores ?_
            refine SV.zend ?_
            refine SV.tn ?_
            refine SV.cond rfl (fun hc4 => ?_) (fun hc4 => ?_)
            · skip   -- c4.T
              cases hc4
            · skip   -- c4.F
              obtain ⟨z', hz⟩ : ∃ z' : Nat × Nat × List R, z' = (i, k + 1, o ++ [y]) := ⟨_, rfl⟩
              have hz2 : (z'.1 ≤ a.length ∧ z'.2.1 ≤ b.length ∧ z'.2.2 ++ Runs.merge2 (a.drop z'.1) (b.drop z'.2.1) = Runs.merge2 a b) ∧ (a.length - z'.1) + (b.length - z'.2.1) < (a.length - i) + (b.length - k) := by
                rw [hz]
                refine ⟨⟨by show i ≤ a.length; omega, by show k + 1 ≤ b.length; omega, ?_⟩, by show (a.length - i) + (b.length - (k + 1)) < _; omega⟩
                show (o ++ [y]) ++ _ = _
                rw [List.append_assoc, ← ho, Runs.m_rest (by omega) hy]
                rfl
              refine SV.seq' ?_
              refine SV.region ?_
              refine SV.op (OpL.ok (nb := 0) (ok_move (v := V.one (.hd 0)) (.inl rfl) rfl) rfl (gle rfl)) rfl ?_
              refine SV.op (OpL.ok (nb := 0) (ok_move (v := V.one (.ro _)) (.inl rfl) rfl) rfl (gle rfl)) rfl ?_
              refine SV.op (OpL.ok (nb := 0) (ok_move (v := V.one (.sc _)) (.inl rfl) rfl) rfl (gle rfl)) rfl ?_
              refine SV.op (OpL.ok (nb := 0) (ok_index (n := 3) (lf := .ro _) rfl elt_impl_Row.und sz_impl_Row rfl rfl rfl (map_at hy)) rfl (gle rfl)) rfl ?_
              refine SV.op (OpL.ok (nb := 0) (ok_load_rp (ag := true) (m := 3) (ys := [.sc _, .sc _, .sc _]) rfl rfl agg_impl_Row sz_impl_Row (fun h => by cases h) (gle rfl) rfl) rfl (gle rfl)) rfl ?_
              refine SV.op (OpMk.ok (ok_lit1 (kk := 1) elt_impl_Row (ag := true) (xs := [.sc _, .sc _, .sc _]) rfl rfl rfl rfl (fun h => by cases h) (outs_c rfl (outs_c rfl (outs_c rfl outs_n))) (by simp [two]) rfl (gle rfl))) rfl ?_
              refine SV.op (OpMk.ok (ok_append (kk := 2) elt_impl_Row (ls := .hd 0) (lx := .hd 1) rfl rfl rfl rfl rfl rfl (by intro i h1 h2; first | (cases h1; done) | (cases h1; cases h2)) (by first | omega | (simp only [List.length_map]; omega) | (simp; done) | (simp; omega)) rfl (gle rfl))) rfl ?_
              refine SV.op (OpL.ok (nb := 0) (ok_move (v := V.one (.hd 2)) (.inr rfl) rfl) rfl (gle rfl)) rfl ?_
              refine SV.nil ?_
              refine SV.tn ?_
              refine SV.region ?_
              refine SV.op (OpL.ok (nb := 0) (ok_move (v := V.one (.sc _)) (.inl rfl) rfl) rfl (gle rfl)) rfl ?_
              refine SV.op (OpL.ok (nb := 0) (ok_s2 (x := .tmp 57) (x' := .const ((Value.int IntKind.i64 1))) (VScal.one rfl) (VScal.one rfl) (fun ρ h1 h2 w => by go_simp; (try go_bits); with_reducible rfl) rfl) rfl (gle rfl)) rfl ?_
              refine SV.op (OpL.ok (nb := 0) (ok_move (v := V.one (.sc _)) (.inr rfl) rfl) rfl (gle rfl)) rfl ?_
              refine SV.nil ?_
              refine SV.bn ?_
              refine SV.tn ?_
              refine SV.again (fun i => [2].getD i 0) (z') (hz2) (pins hE rfl rfl) (VS.le.mk' (le_put (le_put (le_put (le_put (le_put (le_put (le_new le_nil) (V.le.keep (ag := false) (xs := [.ro _]) (ys := [.ro _]) rfl rfl ⟨rfl, trivial⟩)) (V.le.keep (ag := false) (xs := [.ro _]) (ys := [.ro _]) rfl rfl ⟨rfl, trivial⟩)) (V.le.keep (ag := false) (xs := [.sc _]) (ys := [.sc _]) rfl rfl ⟨rfl, trivial⟩)) (V.le.keep (ag := false) (xs := [.hd 2]) (ys := [.hd 0]) rfl rfl ⟨⟨rfl, (gle rfl), (gle rfl)⟩, trivial⟩)) (V.le.keep (ag := false) (xs := [.sc _]) (ys := [.sc _]) rfl rfl ⟨(by first | rfl | (show Leaf.sc _ = Leaf.sc _; refine congrArg Leaf.sc ?_; first | rfl | go_num | (rw [hz]; first | done | rfl; first | done | rfl | go_num | (simp; done) | (simp; omega)) | (simp [cntAll]; done)) | (simp [cntAll]; done) | (simp; omega)), trivial⟩)) (V.le.keep (ag := false) (xs := [.sc _]) (ys := [.sc _]) rfl rfl ⟨(by first | rfl | (show Leaf.sc _ = Leaf.sc _; refine congrArg Leaf.sc ?_; first | rfl | go_num | (rw [hz]; first | done | rfl; first | done | rfl | go_num | (simp; done) | (simp; omega)) | (simp [cntAll]; done)) | (simp [cntAll]; done) | (simp; omega)), trivial⟩)) trivial ⟨.inr ⟨_, _, rfl, ?ob5_0, (gle rfl)⟩, trivial⟩ (new_ob nil_ob) (fun i j hi hj e => inj_list (l := [2]) (by decide) i j hi hj e))
              case ob5_0 =>
                show some (T.seq _ _) = some (T.seq _ _)
                rw [hz]; first | done | rfl | (simp only [List.map_append]; rfl) | (simp [tRow]; done)
      · skip   -- c3.F
        have hke : ¬ k < b.length := by simpa using hc3
        refine SV.exit ?_
        refine SV.te ?_
        refine SV.te ?_
        refine SV.bh ?_
        refine SV.tn ?_
        refine SV.seq' ?_
        refine SV.region ?_
        refine SV.op (OpL.ok (nb := 0) (ok_move (v := V.one (.hd 0)) (.inl rfl) rfl) rfl (gle rfl)) rfl ?_
        refine SV.op (OpL.ok (nb := 0) (ok_move (v := V.one (.hd 0)) (.inr rfl) rfl) rfl (gle rfl)) rfl ?_
        refine SV.nil ?_
        refine SV.tn ?_
        refine SV.ret ?_
        apply SV.done (hf := Try.results19) (ht := rfl) (he := .inl rfl)
        case hr => exact (ResAll.cons (ResOk.tmp (ag := false) (xs := [.hd 0]) rfl) ResAll.nil')
        case h2 => simp [two]
        refine ⟨rfl, ⟨?_, trivial⟩, trivial⟩ <;> (show some (T.seq _ _) = some (T.seq _ _); refine congrArg (fun z => some (T.seq _ z)) ?_; have e1 : a.drop i = [] := List.drop_eq_nil_of_le (by omega); have e2 : b.drop k = [] := List.drop_eq_nil_of_le (by omega); rw [e1, e2, Runs.merge2_nil, List.append_nil] at ho; rw [ho])
end Go.Proofs.Ytfionajnoaednaa
