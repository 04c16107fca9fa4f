/- The reference's SortRows (insertion), by contract. -/
import Derived.Test.YtcfemlnicpeagaaMem
import Derived.Test.YtcfemlnicpeagaaCmps
import Derived.Deep.RegionLaw
import Derived.Test.YtcfemlnicpeagaaClass
import Derived.Lib.SliceRun
namespace Go.Proofs.Ytcfemlnicpeagaa
open Go.RowKit

set_option maxRecDepth 100000 in
set_option maxHeartbeats 1000000 in
theorem ssort (a : Option Addr) (len cap : Nat) (L : List R) (w : World) (h : IsRows w a len L) (hlen : len ≤ 1000000000) :
    Calls Try.prog 33 #[.slice a len cap] w fun e w' => ∃ g c, e = .returned (.slice (some ⟨g, 0, none⟩) len c) ∧ Mine w' w.heap.size (.slice (some ⟨g, 0, none⟩) len c) (R.sort L) ∧ Below w.heap.size w w' := by
  have HL := Lib.hid h.1
  have HI := Lib.hid h
  have HZ := Lib.hid (mine_zero w w.heap.size (Nat.le_refl _))
  have hb0 : Below w.heap.size w (w.alloc (.cells #[] 34)) := (Below.refl _ _).alloc (Nat.le_refl _) _
  have HB0 := Lib.hid hb0
  clear h hb0
  go_enter Try.func33, Try.ntmps33
  go_wp2_with fail
  go_loopw [3, 4] (fun v x wr => ∃ i g c : Nat, v = .slice (some ⟨g, 0, none⟩) i c ∧ x = .int .i64 i ∧ i ≤ len ∧ Hid (Mine wr w.heap.size (.slice (some ⟨g, 0, none⟩) i c) (R.sort (L.take i))) ∧ Hid (Below w.heap.size w wr)) (fun _ x _ => len - (intOf x).toNat)
  case atStart => exact ⟨0, _, _, rfl, rfl, Nat.zero_le _, by rw [List.take_zero, R.sort_nil]; exact HZ.out, HB0.out⟩
  case round =>
    obtain ⟨i, g, c, rfl, rfl, hi, hm, hb⟩ := hrel
    obtain ⟨w1, hw1⟩ : ∃ w1, w1 = wr := ⟨_, rfl⟩
    subst hw1
    by_cases hlt : i < len
    · obtain ⟨b, o, rfl, hbl, hat⟩ := HI.out.at hlt
      obtain ⟨r, hr⟩ : ∃ r, r = L.getD i R.zero := ⟨_, rfl⟩
      rw [← hr] at hat
      have hat := hat.below hb.out hbl
      obtain ⟨S, hS⟩ : ∃ S, S = R.sort (L.take i) := ⟨_, rfl⟩
      rw [← hS] at hm
      have HAT := Lib.hid hat
      have HR := Lib.hid hr
      have HS := Lib.hid hS
      have HBL := Lib.hid (Nat.lt_of_lt_of_le hbl hb.out.size)
      clear hat hr hS hbl
      go_wp2_with fail
      go_loopw [5] (fun x wx => ∃ k : Nat, x = .int .i64 k ∧ k ≤ i ∧ Hid (∀ t, k ≤ t → t < i → 0 < R.cmp (S.getD t R.zero) r) ∧ Hid (Below w1.heap.size w1 wx)) (fun x _ => (intOf x).toNat)
      case atStart => exact ⟨i, rfl, Nat.le_refl _, fun t h1 h2 => by omega, Below.refl _ _⟩
      case round =>
        obtain ⟨k, rfl, hk, hup, hbx⟩ := hrel
        have hgl : g < w1.heap.size := hm.out.lt
        rcases Nat.eq_zero_or_pos k with h0 | h0
        · subst h0
          have hlow : 0 = 0 ∨ R.cmp (S.getD (0 - 1) R.zero) r ≤ 0 := .inl rfl
          have HLOW := Lib.hid hlow
          clear hlow
          go_wp2_with fail
          refine region_class (Below w1.heap.size w1) (by kernel_rfl) (by kernel_rfl) hbx.out.drew ?_
          repeat (first | go_big_quiet_skip | (go_big_quiet_want; go_big_quiet_op; first | go_big_quiet_on | (apply Exists.intro; refine ⟨fun v hv => ?_, ?_⟩; (focus (first | exact rfl | ((fail); done) | ((skip); go_simp; done) | ((skip); go_simp; exact rfl) | ((skip); go_simp; exact ⟨rfl, rfl⟩))); go_big_quiet_on)))
          refine wpQuiet_nil ?_
          intro v hv
          go_wp2_with fail
          have hwv : w.heap.size ≤ v.heap.size := Nat.le_trans hb.out.size hv.size
          have hbo : ∀ o : Obj, Below v.heap.size v (v.alloc o) := fun o => (Below.refl _ _).alloc (Nat.le_refl _) o
          have MO := Lib.hid fun (o : Obj) => (hm.out.keep hv).keep (hbo o)
          obtain ⟨d0, d1, d2⟩ := HAT.out.below hv HBL.out
          have HO := Lib.hid (mine_one v w.heap.size hwv r)
          have hw2 : w.heap.size ≤ (v.alloc (.cells #[.int .i64 r.key, .int .i64 r.value, .int .i64 r.width] 34)).heap.size := by simp; omega
          have HAL : Hid (S.length = i) := Lib.hid hm.out.len
          have HAC := Lib.hid fun (o : Obj) => (MO.out o).cells
          have hkc : 0 ≤ c := Nat.le_trans (Nat.zero_le i) hm.out.cap
          have hln : [r].length + i ≤ 1000000000000 := by simp; omega
          have HBO := Lib.hid hbo
          have HV := Lib.hid hv
          clear hv hbo
          go_region_law (refine step_appendR (w := (v.alloc (.cells #[.int .i64 r.key, .int .i64 r.value, .int .i64 r.width] 34)).drew) (L := S) (M := [r]) _ _ ⟨g, 0, none⟩ i c rfl rfl rfl rfl HO.out HAL.out (HAC.out _) hw2 hln ?_; intro v6 w6 hm6 hg6 hn6)
          have hn6' : v6 ≠ .slice none 0 0 := fun e => by first | exact hn6 e | (have h9 : Value.slice (some ⟨v.heap.size, 0, none⟩) 1 1 = .slice none 0 0 := (hn6.1 e).1; simp at h9)
          have hm6' : Mine w6 w.heap.size v6 (r :: S) := hm6
          clear hm6
          have hm6 := hm6'
          obtain ⟨g6, c6, rfl, -, hl6⟩ := hm6.addr hn6'
          have hsl : (([] : List R)).length = 0 := by have := hm.out.len; simp
          have e6 : (r :: S).length = 1 + i := by rw [List.length_cons, HAL.out]; omega
          rw [e6] at hm6 ⊢
          have hgv : g < v.heap.size := Nat.lt_of_lt_of_le hgl HV.out.size
          have M6 := Lib.hid hm6
          have G6 : Hid (Mine w6 w.heap.size (.slice (some ⟨g, 0, none⟩) i c) S) := Lib.hid (((MO.out _).drew).grown hg6 fun z hz e => by
            have hz' : some g = some z := hz
            have e' : some v.heap.size = some z := e
            simp only [Option.some.injEq] at hz' e'
            omega)
          have b6 : Below w.heap.size w w6 := (((hb.out.trans (HV.out.mono hb.out.size)).alloc hwv (.cells #[.int .i64 r.key, .int .i64 r.value, .int .i64 r.width] 34)).drew).grown hg6 hw2 (fun z hz => by have hz' : some v.heap.size = some z := hz; simp only [Option.some.injEq] at hz'; omega)
          have hw6 : w.heap.size ≤ w6.heap.size := b6.size
          have B6 := Lib.hid b6
          have HZ7 := Lib.hid (mine_zero w6 w.heap.size hw6)
          have C7 : Hid (Mine (w6.alloc (.cells #[] 34)) w.heap.size (.slice (some ⟨g, 0, none⟩) 0 c) (([] : List R))) := Lib.hid ((G6.out.keep ((Below.refl _ _).alloc (Nat.le_refl _) (.cells #[] 34))).take (Nat.zero_le i))
          have M7 := Lib.hid (M6.out.keep ((Below.refl _ _).alloc (Nat.le_refl _) (.cells #[] 34)))
          have hw7 : w.heap.size ≤ (w6.alloc (.cells #[] 34)).heap.size := by simp; omega
          have HSL := Lib.hid hsl
          clear hm6 hg6 hn6 b6 e6 hsl
          go_wp2_with (at_builtin; refine wpList_appendR (L := ([] : List R)) (M := []) _ _ ⟨g, 0, none⟩ 0 c rfl rfl rfl rfl HZ7.out HSL.out C7.out.cells hw7 ?qc4 ?_)
          case qc4 => simp <;> omega
          intro v8 w8 hm8 hg8 hn8
          have hn8' : v8 ≠ .slice none 0 0 := fun e => by first | exact hn8 e | (have h9 : Value.slice (some ⟨w6.heap.size, 0, none⟩) 0 0 = .slice none 0 0 := (hn8.1 e).1; simp at h9)
          have hm8' : Mine w8 w.heap.size v8 (([] : List R)) := hm8
          clear hm8
          have hm8 := hm8'
          obtain ⟨g8, c8, rfl, -, hl8⟩ := hm8.addr hn8'
          have e8 : (([] : List R)).length = 0 := HSL.out
          rw [e8] at hm8 ⊢
          have M8 := Lib.hid hm8
          have N8 : Hid (Mine w8 w.heap.size (.slice (some ⟨g6, 0, none⟩) (1 + i) c6) (r :: S)) := Lib.hid (M7.out.grown hg8 fun z hz e => by
            have hz' : some g6 = some z := hz
            have e' : some w6.heap.size = some z := e
            simp only [Option.some.injEq] at hz' e'
            omega)
          have b8 : Below w.heap.size w w8 := ((B6.out.alloc hw6 (.cells #[] 34))).grown hg8 hw7 (fun z hz => by have hz' : some w6.heap.size = some z := hz; simp only [Option.some.injEq] at hz'; omega)
          have B8 := Lib.hid b8
          have hw8 : w.heap.size ≤ w8.heap.size := b8.size
          clear hm8 hg8 hn8 b8 e8
          go_wp2_with (at_builtin; refine wpList_appendR (L := r :: S) (M := ([] : List R)) _ _ ⟨g6, 0, none⟩ (1 + i) c6 rfl rfl rfl rfl M8.out N8.out.len N8.out.cells hw8 ?qc5 ?_)
          case qc5 => rw [HSL.out]; omega
          intro v9 w9 hm9 hg9 hn9
          have hn9' : v9 ≠ .slice none 0 0 := fun e => by first | exact hn9 e | (have h9 := (hn9.1 e).1; simp at h9)
          have hm9' : Mine w9 w.heap.size v9 (([] : List R) ++ (r :: S)) := hm9
          clear hm9
          have hm9 := hm9'
          obtain ⟨g9, c9, rfl, -, hl9⟩ := hm9.addr hn9'
          have e9 : (([] : List R) ++ (r :: S)).length = i + 1 := by rw [List.length_append, List.length_cons, HAL.out, HSL.out]; omega
          rw [e9] at hm9 ⊢
          have hfin : ([] : List R) ++ r :: S = R.sort (L.take (i + 1)) := by
            have := R.sort_insert (L := L) (i := i) (k := 0) (by rw [HL.out]; exact hlt) (Nat.zero_le i) (by rw [← HS.out, ← HR.out]; exact .inl rfl) (fun t h1 h2 => by rw [← HS.out, ← HR.out]; exact hup.out t h1 h2)
            rw [← HS.out, ← HR.out] at this
            exact this
          rw [hfin] at hm9
          have M9 := Lib.hid hm9
          have B9 := Lib.hid (B8.out.grown hg9 hw8 M8.out.own')
          clear hm9 hg9 hn9 e9 hfin
          go_wp2_with fail
          go_roundw
          case rel => exact ⟨i + 1, g9, c9, rfl, by go_num, by omega, M9.out, B9.out⟩
          case measure => simp [intOf]; omega
        · obtain ⟨g', eg, -, -, hq, -, -⟩ := hm.out.at (k := k - 1) (by omega)
          injection eg with eg
          injection eg with eg
          subst eg
          obtain ⟨q, hqe⟩ : ∃ q, q = S.getD (k - 1) R.zero := ⟨_, rfl⟩
          rw [← hqe] at hq
          obtain ⟨x, hx⟩ : ∃ x, x = R.cmp q r := ⟨_, rfl⟩
          have HC := Lib.hid fun v (hv : Below w1.heap.size w1 v) => (scmp q r v).mono fun e v' (h : e = .returned (.int .i64 (R.cmp q r)) ∧ Below v.heap.size v v') => (⟨h.1, hv.trans (h.2.mono hv.size)⟩ : _ ∧ Below w1.heap.size w1 v')
          rw [← hx] at HC
          unfold R.val at HC
          have HX := Lib.hid hx
          have HQ := Lib.hid hq
          have HQE := Lib.hid hqe
          have hbl1 : b < w1.heap.size := HBL.out
          have hwr : IntKind.i64.wrap ((k : Int) - 1) = (k : Int) - 1 := by simp [IntKind.wrap, IntKind.bits, IntKind.signed]; omega
          have hmi : (k : Int) - 1 < i := by omega
          have hmp : 0 ≤ (k : Int) - 1 := by omega
          have hmn : ((k : Int) - 1).toNat = k - 1 := by omega
          have hp1 : 0 < (k : Int) := by omega
          clear hx hq hqe
          go_wp2_with fail
          refine region_class (Below w1.heap.size w1) (by kernel_rfl) (by kernel_rfl) hbx.out.drew ?_
          repeat (first | go_big_quiet_skip | (go_big_quiet_want; go_big_quiet_op; first | go_big_quiet_on | (apply Exists.intro; refine ⟨fun v hv => ?_, ?_⟩; (focus (first | exact rfl | ((go_at_call 41; exact HC.out v hv); done) | ((obtain ⟨c0, c1, c2⟩ := RowAt.below HQ.out hv hgl; obtain ⟨d0, d1, d2⟩ := RowAt.below HAT.out hv hbl1); go_simp; done) | ((obtain ⟨c0, c1, c2⟩ := RowAt.below HQ.out hv hgl; obtain ⟨d0, d1, d2⟩ := RowAt.below HAT.out hv hbl1); go_simp; exact rfl) | ((obtain ⟨c0, c1, c2⟩ := RowAt.below HQ.out hv hgl; obtain ⟨d0, d1, d2⟩ := RowAt.below HAT.out hv hbl1); go_simp; exact ⟨rfl, rfl⟩))); go_big_quiet_on)))
          refine wpQuiet_nil ?_
          intro v hv
          by_cases hgt : 0 < x
          · go_wp2_with fail
            go_roundw
            case rel =>
              refine ⟨k - 1, by go_num, by omega, fun t h1 h2 => ?_, hv⟩
              rcases Nat.lt_or_ge t k with h | h
              · obtain rfl : t = k - 1 := by omega
                rw [← HQE.out, ← HX.out]; exact hgt
              · exact hup.out t h h2
            case measure => simp [intOf]; omega
          · have hlow : k = 0 ∨ R.cmp (S.getD (k - 1) R.zero) r ≤ 0 := .inr (by rw [← HQE.out, ← HX.out]; omega)
            have HLOW := Lib.hid hlow
            clear hlow h0 hbl1 hwr hmi hmp hmn hp1
            go_wp2_with fail
            have hwv : w.heap.size ≤ v.heap.size := Nat.le_trans hb.out.size hv.size
            have hbo : ∀ o : Obj, Below v.heap.size v (v.alloc o) := fun o => (Below.refl _ _).alloc (Nat.le_refl _) o
            have MO := Lib.hid fun (o : Obj) => (hm.out.keep hv).keep (hbo o)
            obtain ⟨d0, d1, d2⟩ := HAT.out.below hv HBL.out
            have HO := Lib.hid (mine_one v w.heap.size hwv r)
            have hw2 : w.heap.size ≤ (v.alloc (.cells #[.int .i64 r.key, .int .i64 r.value, .int .i64 r.width] 34)).heap.size := by simp; omega
            obtain ⟨A, hA, hAl, hAc⟩ : ∃ A : Addr, (if c = k then some (⟨g, 0, none⟩ : Addr) else some ⟨g, k * 3, none⟩) = some A ∧ (S.drop k).length = i - k ∧ ∀ (o : Obj) j u, (cells3 (S.drop k))[j]? = some u → (v.alloc o).cell? (A.add j) = some u := by
              obtain ⟨A, hA, hAl, hAc⟩ := (hm.out.keep hv).from hk
              exact ⟨A, hA, hAl, fun o j u hj => Lib.cell?_alloc_some _ (hAc j u hj)⟩
            have HAL := Lib.hid hAl
            have HAC := Lib.hid hAc
            have HAE := Lib.hid hA
            clear hAl hAc
            have hkc : k ≤ c := Nat.le_trans hk hm.out.cap
            have hln : [r].length + (i - k) ≤ 1000000000000 := by simp; omega
            have HBO := Lib.hid hbo
            have HV := Lib.hid hv
            clear hv hbo
            go_region_law (refine step_appendR (w := (v.alloc (.cells #[.int .i64 r.key, .int .i64 r.value, .int .i64 r.width] 34)).drew) (L := S.drop k) (M := [r]) _ _ A (i - k) (c - k) rfl rfl rfl rfl HO.out HAL.out (HAC.out _) hw2 hln ?_; intro v6 w6 hm6 hg6 hn6)
            have hn6' : v6 ≠ .slice none 0 0 := fun e => by first | exact hn6 e | (have h9 : Value.slice (some ⟨v.heap.size, 0, none⟩) 1 1 = .slice none 0 0 := (hn6.1 e).1; simp at h9)
            have hm6' : Mine w6 w.heap.size v6 (r :: S.drop k) := hm6
            clear hm6
            have hm6 := hm6'
            obtain ⟨g6, c6, rfl, -, hl6⟩ := hm6.addr hn6'
            have hsl : (S.take k).length = k := by have := hm.out.len; rw [List.length_take]; omega
            have e6 : (r :: S.drop k).length = 1 + (i - k) := by rw [List.length_cons, HAL.out]; omega
            rw [e6] at hm6 ⊢
            have hgv : g < v.heap.size := Nat.lt_of_lt_of_le hgl HV.out.size
            have M6 := Lib.hid hm6
            have G6 : Hid (Mine w6 w.heap.size (.slice (some ⟨g, 0, none⟩) i c) S) := Lib.hid (((MO.out _).drew).grown hg6 fun z hz e => by
              have hz' : some g = some z := hz
              have e' : some v.heap.size = some z := e
              simp only [Option.some.injEq] at hz' e'
              omega)
            have b6 : Below w.heap.size w w6 := (((hb.out.trans (HV.out.mono hb.out.size)).alloc hwv (.cells #[.int .i64 r.key, .int .i64 r.value, .int .i64 r.width] 34)).drew).grown hg6 hw2 (fun z hz => by have hz' : some v.heap.size = some z := hz; simp only [Option.some.injEq] at hz'; omega)
            have hw6 : w.heap.size ≤ w6.heap.size := b6.size
            have B6 := Lib.hid b6
            have HZ7 := Lib.hid (mine_zero w6 w.heap.size hw6)
            have C7 : Hid (Mine (w6.alloc (.cells #[] 34)) w.heap.size (.slice (some ⟨g, 0, none⟩) k c) (S.take k)) := Lib.hid ((G6.out.keep ((Below.refl _ _).alloc (Nat.le_refl _) (.cells #[] 34))).take hk)
            have M7 := Lib.hid (M6.out.keep ((Below.refl _ _).alloc (Nat.le_refl _) (.cells #[] 34)))
            have hw7 : w.heap.size ≤ (w6.alloc (.cells #[] 34)).heap.size := by simp; omega
            have HSL := Lib.hid hsl
            clear hm6 hg6 hn6 b6 e6 hsl
            go_wp2_with (at_builtin; refine wpList_appendR (L := S.take k) (M := []) _ _ ⟨g, 0, none⟩ k c rfl rfl rfl rfl HZ7.out HSL.out C7.out.cells hw7 ?qc4 ?_)
            case qc4 => simp <;> omega
            intro v8 w8 hm8 hg8 hn8
            have hn8' : v8 ≠ .slice none 0 0 := fun e => by first | exact hn8 e | (have h9 : Value.slice (some ⟨w6.heap.size, 0, none⟩) 0 0 = .slice none 0 0 := (hn8.1 e).1; simp at h9)
            have hm8' : Mine w8 w.heap.size v8 (S.take k) := hm8
            clear hm8
            have hm8 := hm8'
            obtain ⟨g8, c8, rfl, -, hl8⟩ := hm8.addr hn8'
            have e8 : (S.take k).length = k := HSL.out
            rw [e8] at hm8 ⊢
            have M8 := Lib.hid hm8
            have N8 : Hid (Mine w8 w.heap.size (.slice (some ⟨g6, 0, none⟩) (1 + (i - k)) c6) (r :: S.drop k)) := Lib.hid (M7.out.grown hg8 fun z hz e => by
              have hz' : some g6 = some z := hz
              have e' : some w6.heap.size = some z := e
              simp only [Option.some.injEq] at hz' e'
              omega)
            have b8 : Below w.heap.size w w8 := ((B6.out.alloc hw6 (.cells #[] 34))).grown hg8 hw7 (fun z hz => by have hz' : some w6.heap.size = some z := hz; simp only [Option.some.injEq] at hz'; omega)
            have B8 := Lib.hid b8
            have hw8 : w.heap.size ≤ w8.heap.size := b8.size
            clear hm8 hg8 hn8 b8 e8
            go_wp2_with (at_builtin; refine wpList_appendR (L := r :: S.drop k) (M := S.take k) _ _ ⟨g6, 0, none⟩ (1 + (i - k)) c6 rfl rfl rfl rfl M8.out N8.out.len N8.out.cells hw8 ?qc5 ?_)
            case qc5 => rw [HSL.out]; omega
            intro v9 w9 hm9 hg9 hn9
            have hn9' : v9 ≠ .slice none 0 0 := fun e => by first | exact hn9 e | (have h9 := (hn9.1 e).1; simp at h9)
            have hm9' : Mine w9 w.heap.size v9 (S.take k ++ (r :: S.drop k)) := hm9
            clear hm9
            have hm9 := hm9'
            obtain ⟨g9, c9, rfl, -, hl9⟩ := hm9.addr hn9'
            have e9 : (S.take k ++ (r :: S.drop k)).length = i + 1 := by rw [List.length_append, List.length_cons, HAL.out, HSL.out]; omega
            rw [e9] at hm9 ⊢
            have hfin : S.take k ++ r :: S.drop k = R.sort (L.take (i + 1)) := by
              have := R.sort_insert (L := L) (i := i) (k := k) (by rw [HL.out]; exact hlt) hk (by rw [← HS.out, ← HR.out]; exact HLOW.out) (fun t h1 h2 => by rw [← HS.out, ← HR.out]; exact hup.out t h1 h2)
              rw [← HS.out, ← HR.out] at this
              exact this
            rw [hfin] at hm9
            have M9 := Lib.hid hm9
            have B9 := Lib.hid (B8.out.grown hg9 hw8 M8.out.own')
            clear hm9 hg9 hn9 e9 hfin
            go_wp2_with fail
            go_roundw
            case rel => exact ⟨i + 1, g9, c9, rfl, by go_num, by omega, M9.out, B9.out⟩
            case measure => simp [intOf]; omega
    · have hil : i = len := by omega
      have hfin : Mine w1 w.heap.size (.slice (some ⟨g, 0, none⟩) len c) (R.sort L) := by
        have := hm.out
        rw [hil, ← HL.out, List.take_length, HL.out] at this
        exact this
      have HF := Lib.hid hfin
      subst hil
      clear hfin
      go_wp2_with fail
      go_ret
      exact ⟨g, c, rfl, HF.out, hb.out⟩
theorem ssortv (a : Option Addr) (len cap : Nat) (L : List R) (w : World) (h : IsRows w a len L) (hlen : len ≤ 1000000000) :
    Calls Try.prog 33 #[.slice a len cap] w fun e w' => ∃ v, e = .returned v ∧ Mine w' w.heap.size v (R.sort L) ∧ Below w.heap.size w w' :=
  (ssort a len cap L w h hlen).mono fun _ _ ⟨_, _, he, hm, hb⟩ => ⟨_, he, hm, hb⟩
end Go.Proofs.Ytcfemlnicpeagaa
