/- The reference's EqualBags, BagDifference and DistinctRows, by contract. -/
import Derived.Test.YtedfjpfppipfhaaSorts
import Derived.Test.YtedfjpfppipfhaaClass
import Derived.Deep.AppendLies
namespace Go.Proofs.Ytedfjpfppipfhaa
open Go.RowKit

theorem getD_ext {A B : List R} (h : A.length = B.length) (he : ∀ t, t < A.length → A.getD t R.zero = B.getD t R.zero) : A = B := by
  apply List.ext_getElem h
  intro t h1 h2
  have := he t h1
  simpa [List.getD, h1, h2] using this
set_option maxRecDepth 100000 in
theorem seqbags (a a' : Option Addr) (len cap len' cap' : Nat) (L M : List R) (w : World) (h : IsRows w a len L) (h' : IsRows w a' len' M) (hlen : len ≤ 1000000000) (hlen' : len' ≤ 1000000000) :
    Calls Try.prog 25 #[.slice a len cap, .slice a' len' cap'] w fun e w' => e = .returned (.bool (R.eqBags L M)) ∧ Below w.heap.size w w' := by
  have HL := Lib.hid h.1
  have HL' := Lib.hid h'.1
  have HW := Lib.hid h.2.1
  have HW' := Lib.hid h'.2.1
  have HI := Lib.hid h
  have HI' := Lib.hid h'
  clear h h'
  go_enter Try.func25, Try.ntmps25
  go_wp2_with fail
  refine (ssort a len cap L _ HI.out hlen).mono ?_
  rintro e w1 ⟨g1, c1, rfl, m1, b1⟩
  have M1 := Lib.hid m1
  have B1 := Lib.hid b1
  have I1 := Lib.hid (HI'.out.keep b1)
  clear m1 b1
  go_wp2_with fail
  refine (ssort a' len' cap' M _ I1.out hlen').mono ?_
  rintro e w2 ⟨g2, c2, rfl, m2, b2⟩
  have X := Lib.hid ((M1.out.keep b2).rows (R.sort_wf HW.out))
  have Y := Lib.hid (m2.rows (R.sort_wf HW'.out))
  have B2 := Lib.hid (B1.out.trans (b2.mono B1.out.size))
  clear m2 b2
  by_cases hne : len = len'
  · subst hne
    go_wp2_with fail
    go_loopw [7] (fun x wr => ∃ k : Nat, x = .int .i64 k ∧ k ≤ len ∧ Hid (∀ t, t < k → (R.sort L).getD t R.zero = (R.sort M).getD t R.zero) ∧ Hid (Below w2.heap.size w2 wr)) (fun x _ => len - (intOf x).toNat)
    case atStart => exact ⟨0, rfl, Nat.zero_le _, fun t h => by omega, Below.refl _ _⟩
    case round =>
      obtain ⟨k, rfl, hk, hsame, hb⟩ := hrel
      by_cases hlt : k < len
      · obtain ⟨b, o, e1, hbl, hat⟩ := (X.out.keep hb.out).at hlt
        injection e1 with e1
        injection e1 with e1 e2
        subst e1
        subst e2
        obtain ⟨b', o', e1, hbl', hat'⟩ := (Y.out.keep hb.out).at hlt
        injection e1 with e1
        injection e1 with e1 e2
        subst e1
        subst e2
        obtain ⟨p, hp⟩ : ∃ p, p = (R.sort L).getD k R.zero := ⟨_, rfl⟩
        obtain ⟨q, hq⟩ : ∃ q, q = (R.sort M).getD k R.zero := ⟨_, rfl⟩
        rw [← hp] at hat
        rw [← hq] at hat'
        simp only [Nat.zero_add] at hat hat'
        obtain ⟨c0, c1, c2⟩ := hat
        obtain ⟨d0, d1, d2⟩ := hat'
        have HP := Lib.hid hp
        have HQ := Lib.hid hq
        have hn := row_neq p q
        clear hp hq
        by_cases he : p = q
        · have HE := Lib.hid he
          rw [decide_eq_true he] at hn
          clear he
          go_wp2_with fail
          go_still_tail 8, (by kernel_rfl)
          go_wp2_with fail
          go_roundw
          case rel =>
            refine ⟨k + 1, by go_num, by omega, fun t h => ?_, hb.out.drew⟩
            rcases Nat.lt_or_ge t k with h1 | h1
            · exact hsame.out t h1
            · obtain rfl : t = k := by omega
              rw [← HP.out, ← HQ.out, HE.out]
          case measure => simp [intOf]; omega
        · have hbad : R.eqBags L M = false := by
            unfold R.eqBags
            exact decide_eq_false fun e => he (by rw [HP.out, HQ.out, e])
          have HB := Lib.hid hbad
          rw [decide_eq_false he] at hn
          clear he hbad
          go_wp2_with fail
          go_still_tail 8, (by kernel_rfl)
          go_wp2_with fail
          go_ret
          exact ⟨by rw [HB.out]; rfl, B2.out.trans (hb.out.drew.mono B2.out.size)⟩
      · have hkl : k = len := by omega
        have hall : R.eqBags L M = true := by
          unfold R.eqBags
          have hl1 : (R.sort L).length = len := by rw [R.sort_length, HL.out]
          have hl2 : (R.sort M).length = len := by rw [R.sort_length, HL'.out]
          exact decide_eq_true (getD_ext (by rw [hl1, hl2]) fun t ht => hsame.out t (by omega))
        have HA := Lib.hid hall
        clear hall hkl
        go_wp2_with fail
        go_ret
        exact ⟨by rw [HA.out]; rfl, B2.out.trans (hb.out.mono B2.out.size)⟩
  · have hbad : R.eqBags L M = false := by
      unfold R.eqBags
      refine decide_eq_false fun e => hne ?_
      have := congrArg List.length e
      rw [R.sort_length, R.sort_length, HL.out, HL'.out] at this
      exact this
    have HB := Lib.hid hbad
    clear hbad
    go_wp2_with fail
    go_ret
    exact ⟨by rw [HB.out]; rfl, B2.out⟩
/-- 'out = append(out, r)', and where the new slice lies. -/
theorem wpList_pushM {ops : Array Oper} {rest : List Oper} {o : Oper} {a : Act} {Q : Exit → Act → World → Prop} {wr : World} {B : Nat} {M : List R} {v : Value} (s x : Operand) (r : R) (N : Nat) (hN : N = wr.heap.size)
    (hgd : o.guard = none) (ho : o.op = .call { callee := .builtin .append, args := #[s, x], argTypes := #[24, 24] })
    (hs : a.eval s = v) (hx : a.eval x = .slice (some ⟨N, 0, none⟩) 1 1) (hown : Mine wr B v M) (hB : B ≤ wr.heap.size) (hlen : M.length + 1 ≤ 1000000000000)
    (h : ∀ g c w', Mine w' B (.slice (some ⟨g, 0, none⟩) (M.length + 1) c) (M ++ [r]) → wr.grownBy w' v.ownBlock → (v.ownBlock = some g ∨ wr.heap.size ≤ g) → wpList Try.prog ops Q rest (a.put o.dst (.slice (some ⟨g, 0, none⟩) (M.length + 1) c)) w') :
    wpList Try.prog ops Q (o :: rest) a (wr.alloc (.cells #[.int .i64 r.key, .int .i64 r.value, .int .i64 r.width] 28)) := by
  subst hN
  obtain ⟨i0, hi, hz0, hz1, hz2⟩ := info_parts rowInfo
  refine wpList_append_lies _ hgd s x 24 ho B 28 i0 R.zero.val 3 24 Try.underlying24 hi hz0 hz1 hz2 rfl (by decide) v M.length (cells3 M) hs (World.ownsRow.alloc hown _)
    ⟨wr.heap.size, 0, none⟩ 1 1 [.int .i64 r.key, .int .i64 r.value, .int .i64 r.width] hx rfl ?_ (one_row r) (by omega) (by unfold maxLen; omega) (by omega) (by simp; omega) _ rfl ?_
  · exact World.news_of_block (heap_alloc_new wr (.cells #[.int .i64 r.key, .int .i64 r.value, .int .i64 r.width] 28))
  · intro g c w' hown' hg hat _
    have e : cells3 M ++ [.int .i64 r.key, .int .i64 r.value, .int .i64 r.width] = cells3 (M ++ [r]) := by rw [← cells3_append]; rfl
    rw [e] at hown'
    refine h g c w' ?_ ((World.grownBy_alloc wr _ _).trans hg) ?_
    · unfold Mine
      rw [List.length_append]
      exact hown'
    · rcases hat with hat | hat
      · exact .inl hat
      · refine .inr ?_
        rw [hat]
        simp
set_option maxRecDepth 100000 in
set_option maxHeartbeats 1000000 in
theorem sbagdif (a a' : Option Addr) (len cap len' cap' : Nat) (L M : List R) (w : World) (h : IsRows w a len L) (h' : IsRows w a' len' M) (hlen : len ≤ 1000000000) (hlen' : len' ≤ 1000000000) :
    Calls Try.prog 26 #[.slice a len cap, .slice a' len' cap'] w fun e w' => ∃ v', e = .returned v' ∧ Mine w' w.heap.size v' (R.dif L M) ∧ Below w.heap.size w w' := by
  have HL := Lib.hid h.1
  have HW := Lib.hid h.2.1
  have hb0 : Below w.heap.size w (w.alloc (.cells #[] 28)) := (Below.refl _ _).alloc (Nat.le_refl _) _
  have HZ := Lib.hid (mine_zero w w.heap.size (Nat.le_refl _))
  have HI0 := Lib.hid (h.keep hb0)
  have HI := Lib.hid h
  have HI' := Lib.hid h'
  have HB0 := Lib.hid hb0
  clear h h' hb0
  go_enter Try.func26, Try.ntmps26
  go_wp2_with fail
  refine (ssort a len cap L _ HI0.out hlen).mono ?_
  rintro e w1 ⟨gx, cx, rfl, m1, b1⟩
  have hs0 : (w.alloc (.cells #[] 28)).heap.size = w.heap.size + 1 := by simp
  have M1 := Lib.hid (m1.mono (show w.heap.size ≤ _ by omega))
  have Z1 := Lib.hid (HZ.out.keep b1)
  have hgx : w.heap.size < gx := by have := m1.own' gx rfl; omega
  have B1 := Lib.hid (HB0.out.trans (b1.mono (by omega)))
  clear m1 b1 hs0
  go_wp2_with fail
  go_loopw [5, 7] (fun v x wr => ∃ (k : Nat) (y : Value), y = v ∧ x = .int .i64 k ∧ k ≤ len ∧ y.ownBlock ≠ some gx ∧ Hid (Mine wr w.heap.size y (R.difTo (R.sort L) M k)) ∧ Hid (Mine wr w.heap.size (.slice (some ⟨gx, 0, none⟩) len cx) (R.sort L)) ∧ Hid (Below w.heap.size w wr)) (fun _ x _ => len - (intOf x).toNat)
  case atStart => exact ⟨0, _, rfl, rfl, Nat.zero_le _, (by intro e; have e' : some w.heap.size = some gx := e; simp only [Option.some.injEq] at e'; omega), Z1.out, M1.out, B1.out⟩
  case round =>
    obtain ⟨k, v0, rfl, rfl, hk, hne, hm, hx, hb⟩ := hrel
    by_cases hlt : k < len
    · obtain ⟨w2, hw2⟩ : ∃ w2, w2 = wr := ⟨_, rfl⟩
      subst hw2
      obtain ⟨g1, e1, -, hgl, hat, -, -⟩ := hx.out.at hlt
      injection e1 with e1
      injection e1 with e1
      subst e1
      have hcap : k + 1 ≤ cx := Nat.le_trans hlt hx.out.cap
      obtain ⟨q, hq⟩ : ∃ q, q = (R.sort L).getD k R.zero := ⟨_, rfl⟩
      rw [← hq] at hat
      have hsl : (R.sort L).length = len := hx.out.len
      have XR := Lib.hid ((hx.out.take hlt).rows fun r hr => R.sort_wf HW.out r (List.mem_of_mem_take hr))
      have YR := Lib.hid (HI'.out.keep hb.out)
      obtain ⟨n1, hn1⟩ : ∃ n1, n1 = ((R.sort L).take (k + 1)).count q := ⟨_, rfl⟩
      obtain ⟨n2, hn2⟩ : ∃ n2, n2 = M.count q := ⟨_, rfl⟩
      have HC1 := Lib.hid fun v (hv : Below w2.heap.size w2 v) => (scount _ (k + 1) cx _ q v (XR.out.keep hv) (by omega)).mono fun e v' (h : e = .returned (.int .i64 (((R.sort L).take (k + 1)).count q)) ∧ Below v.heap.size v v') => (⟨h.1, hv.trans (h.2.mono hv.size)⟩ : _ ∧ Below w2.heap.size w2 v')
      have HC2 := Lib.hid fun v (hv : Below w2.heap.size w2 v) => (scount a' len' cap' M q v (YR.out.keep hv) (by omega)).mono fun e v' (h : e = .returned (.int .i64 (M.count q)) ∧ Below v.heap.size v v') => (⟨h.1, hv.trans (h.2.mono hv.size)⟩ : _ ∧ Below w2.heap.size w2 v')
      rw [← hn1] at HC1
      rw [← hn2] at HC2
      have HSL := Lib.hid hsl
      have HQ := Lib.hid hq
      have HN1 := Lib.hid hn1
      have HN2 := Lib.hid hn2
      have HAT := Lib.hid hat
      have hk1 : (k : Int) + 1 ≤ cx := by omega
      have hk2 : ((k : Int) + 1).toNat = k + 1 := by omega
      clear hq hn1 hn2 hat hsl
      go_wp2_with fail
      refine region_class (Below w2.heap.size w2) (by kernel_rfl) (by kernel_rfl) (Below.refl _ _).drew ?_
      repeat (first | go_big_quiet_skip | (go_big_quiet_want; go_big_quiet_op; first | go_big_quiet_on | (apply Exists.intro; refine ⟨fun v hv => ?_, ?_⟩; (focus (first | exact rfl | ((go_at_call 28; first | with_reducible exact HC1.out v hv | with_reducible exact HC2.out v hv); done) | ((obtain ⟨c0, c1, c2⟩ := RowAt.below HAT.out hv hgl); go_simp; done) | ((obtain ⟨c0, c1, c2⟩ := RowAt.below HAT.out hv hgl); go_simp; exact rfl) | ((obtain ⟨c0, c1, c2⟩ := RowAt.below HAT.out hv hgl); go_simp; exact ⟨rfl, rfl⟩))); go_big_quiet_on)))
      refine wpQuiet_nil ?_
      intro v hv
      have hwv : w.heap.size ≤ v.heap.size := Nat.le_trans hb.out.size hv.size
      have hstep : R.difTo (R.sort L) M (k + 1) = if n2 < n1 then R.difTo (R.sort L) M k ++ [q] else R.difTo (R.sort L) M k := by
        rw [HN1.out, HN2.out, HQ.out]; rfl
      by_cases hgt : n2 < n1
      · rw [if_pos hgt] at hstep
        have HS := Lib.hid hstep
        obtain ⟨c0, c1, c2⟩ := HAT.out.below hv hgl
        have HV := Lib.hid hv
        have hdl : (R.difTo (R.sort L) M k).length ≤ k := R.difTo_length
        have MV := Lib.hid (hm.out.keep hv)
        clear hstep hv
        go_wp2_with (at_builtin; refine wpList_pushM (B := w.heap.size) (M := R.difTo (R.sort L) M k) (v := v0) _ _ q v.heap.size rfl rfl rfl rfl rfl ?qc1 ?qc2 ?qc3 ?_)
        case qc1 => exact MV.out
        case qc2 => exact hwv
        case qc3 => omega
        intro g3 c3 w3 hm3 hg3 hat3
        have hx3 : Mine w3 w.heap.size (.slice (some ⟨gx, 0, none⟩) len cx) (R.sort L) := (hx.out.keep HV.out).grown hg3 fun z hz e => by
          have hz' : some gx = some z := hz
          exact hne (e.trans hz'.symm)
        have hne3 : g3 ≠ gx := by
          rintro rfl
          rcases hat3 with h | h
          · exact hne h
          · have := HV.out.size; omega
        have X3 := Lib.hid hx3
        have M3 := Lib.hid hm3
        rw [← HS.out] at M3
        have B3 := Lib.hid ((hb.out.trans (HV.out.mono hb.out.size)).grown hg3 hwv hm.out.own')
        clear hm3 hg3 hat3 hx3
        go_wp2_with fail
        go_roundw
        case rel => exact ⟨k + 1, _, rfl, by go_num, by omega, (by intro e; have e' : some g3 = some gx := e; simp only [Option.some.injEq] at e'; exact hne3 e'), M3.out, X3.out, B3.out⟩
        case measure => simp [intOf]; omega
      · rw [if_neg hgt] at hstep
        have HS := Lib.hid hstep
        have M3 := Lib.hid (hm.out.keep hv)
        rw [← HS.out] at M3
        have X3 := Lib.hid (hx.out.keep hv)
        have B3 := Lib.hid (hb.out.trans (hv.mono hb.out.size))
        clear hstep hv
        go_wp2_with fail
        go_roundw
        case rel => exact ⟨k + 1, _, rfl, by go_num, by omega, hne, M3.out, X3.out, B3.out⟩
        case measure => simp [intOf]; omega
    · have hkl : k = len := by omega
      have hfin : R.difTo (R.sort L) M k = R.dif L M := by
        unfold R.dif
        rw [R.sort_length, HL.out, hkl]
      rw [hfin] at hm
      clear hfin hkl
      go_wp2_with fail
      go_ret
      exact ⟨_, rfl, hm.out, hb.out⟩
theorem row_ifs {α : Type} (q p : R) (h : q ≠ p) (X Y : α) : (if q.key = p.key then if q.value = p.value then if q.width = p.width then X else Y else Y else Y) = Y := by
  obtain ⟨a, b, c⟩ := q
  obtain ⟨a', b', c'⟩ := p
  (repeat' split) <;> first | rfl | (exfalso; simp_all)
set_option maxRecDepth 100000 in
set_option maxHeartbeats 1000000 in
theorem sdist (a : Option Addr) (len cap : Nat) (L : List R) (w : World) (h : IsRows w a len L) (hlen : len ≤ 1000000000) :
    Calls Try.prog 30 #[.slice a len cap] w fun e w' => ∃ v', e = .returned v' ∧ Mine w' w.heap.size v' (R.dist L) ∧ Below w.heap.size w w' := by
  have HL := Lib.hid h.1
  have hb0 : Below w.heap.size w (w.alloc (.cells #[] 28)) := (Below.refl _ _).alloc (Nat.le_refl _) _
  have HZ := Lib.hid (mine_zero w w.heap.size (Nat.le_refl _))
  have HI0 := Lib.hid (h.keep hb0)
  have HB0 := Lib.hid hb0
  clear h hb0
  go_enter Try.func30, Try.ntmps30
  go_wp2_with fail
  refine (ssort a len cap L _ HI0.out hlen).mono ?_
  rintro e w1 ⟨gx, cx, rfl, m1, b1⟩
  have hs0 : (w.alloc (.cells #[] 28)).heap.size = w.heap.size + 1 := by simp
  have M1 := Lib.hid (m1.mono (show w.heap.size ≤ _ by omega))
  have Z1 := Lib.hid (HZ.out.keep b1)
  have hgx : w.heap.size < gx := by have := m1.own' gx rfl; omega
  have B1 := Lib.hid (HB0.out.trans (b1.mono (by omega)))
  clear m1 b1 hs0
  go_wp2_with fail
  go_loopw [3, 5] (fun v x wr => ∃ (k : Nat) (y : Value), y = v ∧ x = .int .i64 k ∧ k ≤ len ∧ y.ownBlock ≠ some gx ∧ Hid (Mine wr w.heap.size y (R.distTo (R.sort L) k)) ∧ Hid (Mine wr w.heap.size (.slice (some ⟨gx, 0, none⟩) len cx) (R.sort L)) ∧ Hid (Below w.heap.size w wr)) (fun _ x _ => len - (intOf x).toNat)
  case atStart => exact ⟨0, _, rfl, rfl, Nat.zero_le _, (by intro e; have e' : some w.heap.size = some gx := e; simp only [Option.some.injEq] at e'; omega), Z1.out, M1.out, B1.out⟩
  case round =>
    obtain ⟨k, v0, rfl, rfl, hk, hne, hm, hx, hb⟩ := hrel
    by_cases hlt : k < len
    · obtain ⟨w2, hw2⟩ : ∃ w2, w2 = wr := ⟨_, rfl⟩
      subst hw2
      obtain ⟨g1, e1, -, hgl, hat, -, -⟩ := hx.out.at hlt
      injection e1 with e1
      injection e1 with e1
      subst e1
      obtain ⟨q, hq⟩ : ∃ q, q = (R.sort L).getD k R.zero := ⟨_, rfl⟩
      rw [← hq] at hat
      have HQ := Lib.hid hq
      have HAT := Lib.hid hat
      clear hq hat
      rcases Nat.eq_zero_or_pos k with h0 | h0
      · have hstep : R.distTo (R.sort L) (k + 1) = R.distTo (R.sort L) k ++ [q] := by
          rw [HQ.out]
          show (if k = 0 ∨ _ then _ else _) = _
          rw [if_pos (.inl h0)]
        have HS := Lib.hid hstep
        subst h0
        clear hstep
        go_wp2_with fail
        refine region_class (Below w2.heap.size w2) (by kernel_rfl) (by kernel_rfl) (Below.refl _ _).drew ?_
        repeat (first | go_big_quiet_skip | (go_big_quiet_want; go_big_quiet_op; first | go_big_quiet_on | (apply Exists.intro; refine ⟨fun v hv => ?_, ?_⟩; (focus (first | exact rfl | ((fail); done) | ((skip); go_simp; done) | ((skip); go_simp; exact rfl) | ((skip); go_simp; exact ⟨rfl, rfl⟩))); go_big_quiet_on)))
        refine wpQuiet_nil ?_
        intro v hv
        obtain ⟨c0, c1, c2⟩ := HAT.out.below hv hgl
        have HV := Lib.hid hv
        have hwv : w.heap.size ≤ v.heap.size := Nat.le_trans hb.out.size hv.size
        have hdl : (R.distTo (R.sort L) 0).length ≤ 0 := R.distTo_length
        have MV := Lib.hid (hm.out.keep hv)
        clear hv
        go_wp2_with (at_builtin; refine wpList_pushM (B := w.heap.size) (M := R.distTo (R.sort L) 0) (v := v0) _ _ q v.heap.size rfl rfl rfl rfl rfl ?qc1 ?qc2 ?qc3 ?_)
        case qc1 => exact MV.out
        case qc2 => exact hwv
        case qc3 => omega
        intro g3 c3 w3 hm3 hg3 hat3
        have hx3 : Mine w3 w.heap.size (.slice (some ⟨gx, 0, none⟩) len cx) (R.sort L) := (hx.out.keep HV.out).grown hg3 fun z hz e => by
          have hz' : some gx = some z := hz
          exact hne (e.trans hz'.symm)
        have hne3 : g3 ≠ gx := by
          rintro rfl
          rcases hat3 with h | h
          · exact hne h
          · have := HV.out.size; omega
        have X3 := Lib.hid hx3
        have M3 := Lib.hid hm3
        rw [← HS.out] at M3
        have B3 := Lib.hid ((hb.out.trans (HV.out.mono hb.out.size)).grown hg3 hwv hm.out.own')
        clear hm3 hg3 hat3 hx3
        go_wp2_with fail
        go_roundw
        case rel => exact ⟨0 + 1, _, rfl, by go_num, by omega, (by intro e; have e' : some g3 = some gx := e; simp only [Option.some.injEq] at e'; exact hne3 e'), M3.out, X3.out, B3.out⟩
        case measure => simp [intOf]; omega
      · obtain ⟨m, rfl⟩ : ∃ m, k = m + 1 := ⟨k - 1, by omega⟩
        obtain ⟨g1, e1, -, -, hat, -, -⟩ := hx.out.at (k := m) (by omega)
        injection e1 with e1
        injection e1 with e1
        subst e1
        obtain ⟨p, hp⟩ : ∃ p, p = (R.sort L).getD m R.zero := ⟨_, rfl⟩
        rw [← hp] at hat
        have HP := Lib.hid hp
        have HAP := Lib.hid hat
        have hwr : IntKind.i64.wrap ((m : Int)) = (m : Int) := by simp [IntKind.wrap, IntKind.bits, IntKind.signed]; omega
        have hmi : (m : Int) < len := by omega
        have hmp : 0 ≤ (m : Int) := by omega
        have hmn : ((m : Int)).toNat = m := by omega
        have hk0 : ¬ m + 1 = 0 := by omega
        have e1 : ((m + 1 : Nat) : Int) = (m : Int) + 1 := rfl
        rw [e1]
        have hk1 : (m : Int) + 1 < len := by omega
        have hbe : ((m : Int) + 1 == 0) = false := by simp; omega
        have hk2 : ((m : Int) + 1).toNat = m + 1 := by omega
        have hk3 : 0 ≤ (m : Int) + 1 := by omega
        have HN := Lib.hid fun W => row_neq q p W
        clear hp hat e1
        have hstep : R.distTo (R.sort L) (m + 1 + 1) = if q ≠ p then R.distTo (R.sort L) (m + 1) ++ [q] else R.distTo (R.sort L) (m + 1) := by
          rw [HQ.out, HP.out]
          show (if m + 1 = 0 ∨ _ then _ else _) = _
          by_cases he : (R.sort L).getD (m + 1) R.zero ≠ (R.sort L).getD m R.zero
          · rw [if_pos he, if_pos (.inr he)]
          · rw [if_neg he, if_neg (fun h => h.elim hk0 he)]
        by_cases he : q ≠ p
        · rw [if_pos he] at hstep
          have HS := Lib.hid hstep
          have HE := Lib.hid he
          clear hstep he HN
          go_wp2_with fail
          refine region_class (Below w2.heap.size w2) (by kernel_rfl) (by kernel_rfl) (Below.refl _ _).drew ?_
          repeat (first | go_big_quiet_skip | (go_big_quiet_want; go_big_quiet_op; first | go_big_quiet_on | (apply Exists.intro; refine ⟨fun v hv => ?_, ?_⟩; (focus (first | exact rfl | (((go_simp; rw [row_ifs q p HE.out]; exact ⟨rfl, rfl⟩)); done) | ((obtain ⟨c0, c1, c2⟩ := RowAt.below HAT.out hv hgl; obtain ⟨d0, d1, d2⟩ := RowAt.below HAP.out hv hgl); go_simp; done) | ((obtain ⟨c0, c1, c2⟩ := RowAt.below HAT.out hv hgl; obtain ⟨d0, d1, d2⟩ := RowAt.below HAP.out hv hgl); go_simp; exact rfl) | ((obtain ⟨c0, c1, c2⟩ := RowAt.below HAT.out hv hgl; obtain ⟨d0, d1, d2⟩ := RowAt.below HAP.out hv hgl); go_simp; exact ⟨rfl, rfl⟩))); go_big_quiet_on)))
          refine wpQuiet_nil ?_
          intro v hv
          obtain ⟨c0, c1, c2⟩ := HAT.out.below hv hgl
          have HV := Lib.hid hv
          have hwv : w.heap.size ≤ v.heap.size := Nat.le_trans hb.out.size hv.size
          have hdl : (R.distTo (R.sort L) (m + 1)).length ≤ m + 1 := R.distTo_length
          have MV := Lib.hid (hm.out.keep hv)
          clear hv
          go_wp2_with (at_builtin; refine wpList_pushM (B := w.heap.size) (M := R.distTo (R.sort L) (m + 1)) (v := v0) _ _ q v.heap.size rfl rfl rfl rfl rfl ?qc1 ?qc2 ?qc3 ?_)
          case qc1 => exact MV.out
          case qc2 => exact hwv
          case qc3 => omega
          intro g3 c3 w3 hm3 hg3 hat3
          have hx3 : Mine w3 w.heap.size (.slice (some ⟨gx, 0, none⟩) len cx) (R.sort L) := (hx.out.keep HV.out).grown hg3 fun z hz e => by
            have hz' : some gx = some z := hz
            exact hne (e.trans hz'.symm)
          have hne3 : g3 ≠ gx := by
            rintro rfl
            rcases hat3 with h | h
            · exact hne h
            · have := HV.out.size; omega
          have X3 := Lib.hid hx3
          have M3 := Lib.hid hm3
          rw [← HS.out] at M3
          have B3 := Lib.hid ((hb.out.trans (HV.out.mono hb.out.size)).grown hg3 hwv hm.out.own')
          clear hm3 hg3 hat3 hx3
          go_wp2_with fail
          go_roundw
          case rel => exact ⟨m + 1 + 1, _, rfl, by go_num, by omega, (by intro e; have e' : some g3 = some gx := e; simp only [Option.some.injEq] at e'; exact hne3 e'), M3.out, X3.out, B3.out⟩
          case measure => simp [intOf]; omega
        · rw [if_neg he] at hstep
          have HS := Lib.hid hstep
          have he' : q = p := Classical.not_not.1 he
          clear hstep he HN
          subst he'
          go_wp2_with fail
          refine region_class (Below w2.heap.size w2) (by kernel_rfl) (by kernel_rfl) (Below.refl _ _).drew ?_
          repeat (first | go_big_quiet_skip | (go_big_quiet_want; go_big_quiet_op; first | go_big_quiet_on | (apply Exists.intro; refine ⟨fun v hv => ?_, ?_⟩; (focus (first | exact rfl | ((fail); done) | ((obtain ⟨c0, c1, c2⟩ := RowAt.below HAT.out hv hgl; obtain ⟨d0, d1, d2⟩ := RowAt.below HAP.out hv hgl); go_simp; done) | ((obtain ⟨c0, c1, c2⟩ := RowAt.below HAT.out hv hgl; obtain ⟨d0, d1, d2⟩ := RowAt.below HAP.out hv hgl); go_simp; exact rfl) | ((obtain ⟨c0, c1, c2⟩ := RowAt.below HAT.out hv hgl; obtain ⟨d0, d1, d2⟩ := RowAt.below HAP.out hv hgl); go_simp; exact ⟨rfl, rfl⟩))); go_big_quiet_on)))
          refine wpQuiet_nil ?_
          intro v hv
          have M3 := Lib.hid (hm.out.keep hv)
          rw [← HS.out] at M3
          have X3 := Lib.hid (hx.out.keep hv)
          have B3 := Lib.hid (hb.out.trans (hv.mono hb.out.size))
          clear hv
          go_wp2_with fail
          go_roundw
          case rel => exact ⟨m + 1 + 1, _, rfl, by go_num, by omega, hne, M3.out, X3.out, B3.out⟩
          case measure => simp [intOf]; omega
    · have hkl : k = len := by omega
      have hfin : R.distTo (R.sort L) k = R.dist L := by
        unfold R.dist
        rw [R.sort_length, HL.out, hkl]
      rw [hfin] at hm
      clear hfin hkl
      go_wp2_with fail
      go_ret
      exact ⟨_, rfl, hm.out, hb.out⟩
end Go.Proofs.Ytedfjpfppipfhaa
