/- The program's countRows, EqualBags and BagDifference, the library's maps.Equal behind them (walked), by contract. -/
import Derived.Test.YtedfjpfppipfhaaCounts
import Derived.Test.YtedfjpfppipfhaaCounti
import Derived.Test.YtedfjpfppipfhaaSorti
import Derived.Test.YtedfjpfppipfhaaBags
import Derived.Deep.RegionWith
import Derived.Maps.RangeWalk
import Derived.Maps.Ext
import Derived.Laws.IdiomRangeMap
namespace Go.Proofs.Ytedfjpfppipfhaa
open Go Go.RowKit Go.Maps

set_option maxRecDepth 100000 in
set_option maxHeartbeats 1000000 in
theorem icounts (a : Option Addr) (len cap : Nat) (L : List R) (w : World) (h : IsRows w a len L) (hlen : len ≤ 100000000000) :
    Calls Try.prog 48 #[.slice a len cap] w fun e w' => ∃ b D, e = .returned (.map (some b)) ∧ w.heap.size ≤ b ∧ Own w' b len D ∧ AtD D (fun r => (L.count r : Int)) ∧ HasD D L ∧ Below w.heap.size w w' := by
  have HL := Lib.hid h.1
  have HW := Lib.hid h.2.1
  have HI := Lib.hid h
  have hmm := @run_makeMap Try.prog
  have hb0 : Below w.heap.size w (w.alloc (.map #[] 0)) := (Below.refl _ _).alloc (Nat.le_refl _) _
  have HB0 := Lib.hid hb0
  have HO := Lib.hid (World.ownsMap_made w Try.prog 28 (plainElem (H := Unit) Try.prog 3))
  clear h hb0
  go_enter Try.func48, Try.ntmps48
  go_wp2_with fail
  clear hmm
  go_loopw [9] (fun x wr => ∃ (k : Nat) (D : DataW Unit), x = .int .i64 k ∧ k ≤ len ∧ Hid (Own wr w.heap.size k D) ∧ Hid (AtD D (fun r => ((L.take k).count r : Int))) ∧ Hid (HasD D (L.take k)) ∧ Hid (Below w.heap.size w wr)) (fun x _ => len - (intOf x).toNat)
  case atStart => exact ⟨0, _, rfl, Nat.zero_le _, HO.out, atD_none, hasD_none, HB0.out⟩
  case round =>
    obtain ⟨k, D, rfl, hk, ho, hat, hhas, hb⟩ := hrel
    by_cases hlt : k < len
    · obtain ⟨b, o, rfl, hbl, hc⟩ := HI.out.at hlt
      obtain ⟨r, hr⟩ : ∃ r, r = L.getD k R.zero := ⟨_, rfl⟩
      rw [← hr] at hc
      obtain ⟨c0, c1, c2⟩ := hc.below hb.out hbl
      have hrw : r.wf := by rw [hr]; exact HI.out.wf k hlt
      obtain ⟨Wa, hWa⟩ : ∃ Wa, Wa = wr.alloc (.cells #[.int .i64 r.key, .int .i64 r.value, .int .i64 r.width] 28) := ⟨_, rfl⟩
      have hbx : RowAt Wa wr.heap.size 0 r := by rw [hWa]; refine ⟨?_, ?_, ?_⟩ <;> simp
      have hba : Below wr.heap.size wr Wa := by rw [hWa]; exact (Below.refl _ _).alloc (Nat.le_refl _) _
      have hoa : Own Wa w.heap.size k D := by rw [hWa]; exact ho.out.alloc _
      have hod : Own Wa.drew w.heap.size k D := hoa.drew
      obtain ⟨n, hn⟩ : ∃ n, n = (L.take k).count r := ⟨_, rfl⟩
      have hnk : n ≤ k := by rw [hn]; have := List.count_le_length (a := r) (l := L.take k); rw [List.length_take] at this; omega
      obtain ⟨st, W1, W2, hE, hL1, hS, hown2, hg2⟩ := hod.entry (by unfold maxLen; omega) hat.out r hrw ((n : Int) + 1) (lit_wf ⟨by omega, by omega⟩)
      have hL0 := hod.look hat.out r hrw
      simp only [← hn] at hE hL1 hL0
      have hE' : (Instr.mapEntry 58 (.map (some w.heap.size)) (.agg #[.int .i64 r.key, .int .i64 r.value, .int .i64 r.width])).run Try.prog Wa.drew = .ok (.tuple #[.int .i64 n, .int .i64 st]) W1 := hE
      have hL0' : (Instr.lookup 58 (.map (some w.heap.size)) (.agg #[.int .i64 r.key, .int .i64 r.value, .int .i64 r.width]) false).run Try.prog Wa.drew = .ok (.int .i64 n) Wa.drew := hL0
      have hL1' : (Instr.lookup 58 (.map (some w.heap.size)) (.agg #[.int .i64 r.key, .int .i64 r.value, .int .i64 r.width]) false).run Try.prog W1 = .ok (.int .i64 n) W1 := hL1
      have hS' : (Instr.entryStore 58 (.map (some w.heap.size)) (.int .i64 st) (.int .i64 (IntKind.i64.wrap ((n : Int) + 1)))).run Try.prog W1 = .ok () W2 := by rw [show IntKind.i64.wrap ((n : Int) + 1) = (n : Int) + 1 by simp [IntKind.wrap, IntKind.bits, IntKind.signed]; omega]; exact hS
      have HOWN := Lib.hid hown2
      have HG := Lib.hid hg2
      have HR := Lib.hid hr
      have HN := Lib.hid hn
      have HRW := Lib.hid hrw
      have HBA := Lib.hid hba
      have HMAP := Lib.hid ho.out.map
      obtain ⟨d0, d1, d2⟩ := hbx
      clear hE hL0 hL1 hS hown2 hg2 hr hn hrw hba hoa hod
      go_wp2_with fail
      rw [← hWa]
      clear hWa
      have hnext : Own W2 w.heap.size (k + 1) (D.put (kl r) (.lit (.int .i64 ((n : Int) + 1)))) ∧ AtD (D.put (kl r) (.lit (.int .i64 ((n : Int) + 1)))) (fun s => ((L.take (k + 1)).count s : Int)) ∧ HasD (D.put (kl r) (.lit (.int .i64 ((n : Int) + 1)))) (L.take (k + 1)) ∧ Below w.heap.size w W2 := by
        have hlk : k < L.length := by rw [HL.out]; exact hlt
        refine ⟨HOWN.out, ?_, ?_, ?_⟩
        · intro s hs
          rw [atD_put HMAP.out hat.out r HRW.out ((n : Int) + 1) s hs]
          have hct := R.count_take hlk s
          rw [← HR.out] at hct
          simp only [hct]
          by_cases he : s = r
          · subst he
            simp [HN.out]
          · have he' : ¬ r = s := fun e => he e.symm
            simp [he, he']
        · rw [R.take_succ hlk, ← HR.out]
          exact hasD_put HMAP.out hhas.out r HRW.out _
        · exact ((hb.out.trans (HBA.out.mono hb.out.size)).drew).grown HG.out (Nat.le_trans hb.out.size HBA.out.size) (fun z hz => by have hz' : some w.heap.size = some z := hz; simp only [Option.some.injEq] at hz'; omega)
      have HNX := Lib.hid hnext
      clear hnext
      go_region_with (fail)
      all_goals (
        go_wp2_with fail
        go_roundw
        case rel => exact ⟨k + 1, _, by go_num, by omega, HNX.out.1, HNX.out.2.1, HNX.out.2.2.1, HNX.out.2.2.2⟩
        case measure => simp [intOf]; omega)
    · have hkl : k = len := by omega
      have hall : L.take k = L := by rw [hkl, ← HL.out, List.take_length]
      rw [hall] at hat hhas
      subst hkl
      clear hall
      go_wp2_with fail
      go_ret
      exact ⟨_, D, rfl, Nat.le_refl _, ho.out, hat.out, hhas.out, hb.out⟩
theorem subset_back {α : Type} : ∀ (A B : List α), A.Nodup → (∀ x ∈ A, x ∈ B) → B.length ≤ A.length → ∀ x ∈ B, x ∈ A
  | [], B, _, _, hl => by
    have : B = [] := List.eq_nil_of_length_eq_zero (by simpa using hl)
    subst this
    simp
  | a :: A, B, hn, hs, hl => by
    intro x hx
    obtain ⟨B1, B2, rfl⟩ := List.append_of_mem (hs a (by simp))
    obtain ⟨hna, hn'⟩ := List.nodup_cons.1 hn
    have ih := subset_back A (B1 ++ B2) hn' (fun y hy => by
      have hy' := hs y (by simp [hy])
      rw [List.mem_append, List.mem_cons] at hy'
      rw [List.mem_append]
      rcases hy' with h | rfl | h
      · exact .inl h
      · exact absurd hy hna
      · exact .inr h) (by simp at hl ⊢; omega)
    rw [List.mem_append, List.mem_cons] at hx
    rcases hx with h | rfl | h
    · exact List.mem_cons_of_mem _ (ih x (List.mem_append.2 (.inl h)))
    · simp
    · exact List.mem_cons_of_mem _ (ih x (List.mem_append.2 (.inr h)))
theorem hasD_mem {es : List (Lit × DataW Unit)} (hk : ∀ p ∈ es, WideAt.IsKeyLit p.1) {k : Lit} : Maps.has (.map es : DataW Unit) k = true ↔ k ∈ es.map (·.1) := by
  rw [has_eq, List.any_eq_true, List.mem_map]
  constructor
  · rintro ⟨p, hp, hs⟩
    exact ⟨p, hp, WideAt.sameKey_eq hs⟩
  · rintro ⟨p, hp, rfl⟩
    exact ⟨p, hp, WideAt.sameKey_self (hk p hp)⟩
/-- Two maps of counts, with as many entries, the second agreeing wherever the first has one: equal multisets. -/
theorem counts_equal {w : World} {b1 n1 b2 n2 : Nat} {D1 D2 : DataW Unit} {L M : List R} (h1 : Own w b1 n1 D1) (h2 : Own w b2 n2 D2) (k1 : HasD D1 L) (k2 : HasD D2 M) (hL : ∀ r ∈ L, r.wf) (hM : ∀ r ∈ M, r.wf)
    (hsz : Maps.size D1 = Maps.size D2) (hG : ∀ r ∈ L, L.count r = M.count r) : R.eqBags L M = true := by
  obtain ⟨es1, rfl, p1, q1⟩ := h1.entries rowKeyed
  obtain ⟨es2, rfl, p2, q2⟩ := h2.entries rowKeyed
  have hn1 : (es1.map (·.1)).Nodup := by rw [List.Nodup, List.pairwise_map]; exact p1
  have hsub : ∀ k ∈ es1.map (·.1), k ∈ es2.map (·.1) := by
    intro k hk
    obtain ⟨r, hr, rfl⟩ := (k1 k).1 ((hasD_mem q1).2 hk)
    refine (hasD_mem q2).1 ((k2 _).2 ⟨r, ?_, rfl⟩)
    have hp := List.count_pos_iff.2 hr
    rw [hG r hr] at hp
    exact List.count_pos_iff.1 hp
  have hback := subset_back _ _ hn1 hsub (by rw [List.length_map, List.length_map]; exact Nat.le_of_eq hsz.symm)
  refine R.eqBags_iff.2 fun r => ?_
  by_cases hr : r ∈ L
  · exact hG r hr
  · by_cases hm : r ∈ M
    · obtain ⟨s, hs, e⟩ := (k1 _).1 ((hasD_mem q1).2 (hback _ ((hasD_mem q2).1 ((k2 (kl r)).2 ⟨r, hm, rfl⟩))))
      rw [kl_inj (hM r hm) (hL s hs) e] at hr
      exact absurd hs hr
    · rw [List.count_eq_zero.2 hr, List.count_eq_zero.2 hm]
theorem counts_sizes {w : World} {b1 n1 b2 n2 : Nat} {D1 D2 : DataW Unit} {L M : List R} (h1 : Own w b1 n1 D1) (h2 : Own w b2 n2 D2) (k1 : HasD D1 L) (k2 : HasD D2 M) (h : R.eqBags L M = true) : Maps.size D1 = Maps.size D2 := by
  have hc := R.eqBags_iff.1 h
  have hmem : ∀ r, r ∈ L ↔ r ∈ M := fun r => by rw [← List.count_pos_iff, ← List.count_pos_iff, hc r]
  obtain ⟨es1, rfl, p1, q1⟩ := h1.entries rowKeyed
  obtain ⟨es2, rfl, p2, q2⟩ := h2.entries rowKeyed
  have hn1 : (es1.map (·.1)).Nodup := by rw [List.Nodup, List.pairwise_map]; exact p1
  have hn2 : (es2.map (·.1)).Nodup := by rw [List.Nodup, List.pairwise_map]; exact p2
  have hp : (es1.map (·.1)).Perm (es2.map (·.1)) := (List.perm_ext_iff_of_nodup hn1 hn2).2 fun k => by
    rw [← hasD_mem q1, ← hasD_mem q2, k1 k, k2 k]
    exact ⟨fun ⟨r, hr, e⟩ => ⟨r, (hmem r).1 hr, e⟩, fun ⟨r, hr, e⟩ => ⟨r, (hmem r).2 hr, e⟩⟩
  have := hp.length_eq
  rw [List.length_map, List.length_map] at this
  exact this
set_option maxRecDepth 100000 in
set_option maxHeartbeats 4000000 in
theorem mapsequal (b1 b2 n1 n2 : Nat) (D1 D2 : DataW Unit) (L M : List R) (w : World) (h1 : Own w b1 n1 D1) (h2 : Own w b2 n2 D2) (a1 : AtD D1 (fun r => (L.count r : Int))) (a2 : AtD D2 (fun r => (M.count r : Int))) (k1 : HasD D1 L) (k2 : HasD D2 M)
    (hL : ∀ r ∈ L, r.wf) (hM : ∀ r ∈ M, r.wf) :
    Calls Try.prog 47 #[.map (some b1), .map (some b2)] w fun e w' => e = .returned (.bool (R.eqBags L M)) ∧ w.grownBy w' none := by
  have l1 := fun ty => h1.len (t := 58) Try.underlying58 ty
  have l2 := fun ty => h2.len (t := 58) Try.underlying58 ty
  have hb2 := h2.lt
  have H1 := Lib.hid h1
  have H2 := Lib.hid h2
  have A1 := Lib.hid a1
  have A2 := Lib.hid a2
  have K1 := Lib.hid k1
  have K2 := Lib.hid k2
  have HL := Lib.hid hL
  have HM := Lib.hid hM
  clear a1 a2 k1 k2 hL hM
  obtain ⟨z1, hz1⟩ : ∃ z, z = Maps.size D1 := ⟨_, rfl⟩
  obtain ⟨z2, hz2⟩ : ∃ z, z = Maps.size D2 := ⟨_, rfl⟩
  rw [← hz1] at l1
  rw [← hz2] at l2
  have Z1 := Lib.hid hz1
  have Z2 := Lib.hid hz2
  clear hz1 hz2
  by_cases hsz : z1 = z2
  · subst hsz
    go_enter Try.func47, Try.ntmps47
    go_wp2_with (first
      | (at_range; refine wpList_range_own _ rfl _ 58 rfl 28 3 rowKeyed Try.underlying58 (plainElem Try.prog 3) b1 n1 D1 rfl h1 ?_; intro w0 hrg0 hg0 hs0)
      | go_in)
    go_frame
    go_loopw [18] (fun _ wr => ∃ (left : Lit → Bool) (cnt : Nat), wr.ranges Try.prog 28 (plainElem Try.prog 3) b1 w.heap.size n1 D1 left cnt ∧ Hid (Own wr b2 n2 D2) ∧ Hid (w.grownBy wr none) ∧ Hid (∀ r ∈ L, left (kl r) = false → L.count r = M.count r))
      (fun _ wr => wr.rangeLeft b1 w.heap.size)
    case atStart =>
      refine ⟨_, _, hrg0, h2.kept hg0 (by simp), hg0, fun r hr h => ?_⟩
      rw [(K1.out _).2 ⟨r, hr, rfl⟩] at h
      cases h
    case round =>
      obtain ⟨left, cnt, hrg, h2r, hgw, G⟩ := hrel
      clear h1 h2 l1 l2 hrg0 hg0 hs0
      go_wp2_with (first
        | (at_next; refine wpList_next_ranges _ rfl _ rfl 28 rowKeyed (plainElem Try.prog 3) id (Value.int .i64) (fun key _ _ => ⟨key, rfl⟩) (fun v y hy => by obtain ⟨c, rfl, _⟩ := plainElem_int_inv Try.underlying3 hy; exact ⟨c, rfl⟩) b1 w.heap.size n1 _ _ _ rfl hrg ?_ ?_)
        | go_in)
      · intro _ hl0
        have hall := counts_equal H1.out H2.out K1.out K2.out HL.out HM.out (by rw [← Z1.out, ← Z2.out]) fun r hr => G.out r hr (hl0 _)
        have HA := Lib.hid hall
        clear hall hl0
        go_wp2
        go_ret
        exact ⟨by rw [HA.out]; rfl, hgw.out⟩
      · intro x c kx yd yp w2 cnt1 hkey hlx hv hat hrg1 hlt hg1 hs1 hen
        obtain ⟨r, hr, rfl⟩ := (K1.out kx).1 (has_true_of_atKey hat)
        have hrw := HL.out r hr
        have hx : x = r.val := rowKeyed.inj hkey (keyRow r hrw)
        subst hx
        obtain ⟨c', ec, ey, -⟩ := plainElem_int_inv Try.underlying3 hv
        injection ec with _ ec
        subst ec
        injection ey with ey1 ey2
        subst ey1 ey2
        have hcc : (DataW.lit (Lit.int .i64 c) : DataW Unit) = .lit (.int .i64 ((L.count r : Nat) : Int)) := (hat (.lit (.int .i64 0))).symm.trans (A1.out r hrw)
        injection hcc with hcc
        injection hcc with _ hcc
        subst hcc
        have hen' : (Instr.entry (.pointer (some ⟨w.heap.size, 0, none⟩))).run Try.prog w2 = .ok (.tuple #[.agg #[.int .i64 r.key, .int .i64 r.value, .int .i64 r.width], .int .i64 (L.count r)]) w2 := hen
        have hgw1 : w.grownBy w2 none := hgw.out.andThen hg1 (fun j hj => by cases hj; exact Or.inl (Nat.le_refl _))
        have h2w1 := h2r.out.kept hg1 (fun e => by have := Option.some.inj e; omega)
        have h2a : Own (w2.alloc (.cells #[.int .i64 r.key, .int .i64 r.value, .int .i64 r.width] 28)) b2 n2 D2 := h2w1.alloc _
        have hga : w.grownBy (w2.alloc (.cells #[.int .i64 r.key, .int .i64 r.value, .int .i64 r.width] 28)) none := hgw1.trans (World.grownBy_alloc w2 _ none)
        have HRG := Lib.hid hrg1
        have HGA := Lib.hid hga
        have hkr := keyRow r hrw
        have hpos := List.count_pos_iff.2 hr
        have hat2 : D2.atKey (kl r) (.lit (.int .i64 0)) = .lit (.int .i64 ((M.count r : Nat) : Int)) := A2.out r hrw
        clear hen hat hkey hv hgw1 h2w1 hga hrg1 hg1
        unfold R.val at hkr ⊢
        obtain ⟨x1, hx1⟩ : ∃ x, x = L.count r := ⟨_, rfl⟩
        obtain ⟨x2, hx2⟩ : ∃ x, x = M.count r := ⟨_, rfl⟩
        simp only [← hx1] at hen' hpos ⊢
        simp only [← hx2] at hat2
        have X1 := Lib.hid hx1
        have X2 := Lib.hid hx2
        clear hx1 hx2
        by_cases hcm : x1 = x2
        · subst hcm
          have hh : Maps.has D2 (kl r) = true := (K2.out _).2 ⟨r, List.count_pos_iff.1 (by rw [← X2.out]; exact hpos), rfl⟩
          go_wp2_with (first
            | (at_lookup; refine wpList_lookup_own_ok_int _ rfl _ _ 58 rfl 28 3 .i64 rowKeyed Try.underlying58 Try.underlying3 (zeroInt _) b2 n2 D2 rfl h2a _ (kl r) rfl hkr ?_; intro c2 hc2 hwc2; rw [hh]; go_frame; rw [hat2] at hc2; injection hc2 with hc2; injection hc2 with _ hc2; subst hc2)
            | go_in)
          have hga2 := HRG.out.alloc (.cells #[.int .i64 r.key, .int .i64 r.value, .int .i64 r.width] 28)
          go_roundw
          case rel =>
            refine ⟨_, cnt1, hga2, h2a, HGA.out, fun s hs hl => ?_⟩
            cases hls : left (kl s) with
            | false => exact G.out s hs hls
            | true =>
              rw [hls, Bool.true_and, Bool.not_eq_false'] at hl
              rw [kl_inj (HL.out s hs) hrw (WideAt.sameKey_eq hl), ← X1.out, ← X2.out]
          case measure => rw [hga2.left_eq, hrg.left_eq]; exact hlt
        · have hbad : R.eqBags L M = false := by
            cases he : R.eqBags L M with
            | false => rfl
            | true => exact absurd (by rw [X1.out, X2.out]; exact R.eqBags_iff.1 he r) hcm
          have HB := Lib.hid hbad
          clear hbad
          have hcm' : ¬ (x1 : Int) = x2 := by omega
          cases hh : Maps.has D2 (kl r) with
          | true =>
            go_wp2_with (first
              | (at_lookup; refine wpList_lookup_own_ok_int _ rfl _ _ 58 rfl 28 3 .i64 rowKeyed Try.underlying58 Try.underlying3 (zeroInt _) b2 n2 D2 rfl h2a _ (kl r) rfl hkr ?_; intro c2 hc2 hwc2; rw [hh]; go_frame; rw [hat2] at hc2; injection hc2 with hc2; injection hc2 with _ hc2; subst hc2)
              | go_in)
            go_ret
            exact ⟨by rw [HB.out]; rfl, HGA.out⟩
          | false =>
            go_wp2_with (first
              | (at_lookup; refine wpList_lookup_own_ok_int _ rfl _ _ 58 rfl 28 3 .i64 rowKeyed Try.underlying58 Try.underlying3 (zeroInt _) b2 n2 D2 rfl h2a _ (kl r) rfl hkr ?_; intro c2 hc2 hwc2; rw [hh]; go_frame; rw [hat2] at hc2; injection hc2 with hc2; injection hc2 with _ hc2; subst hc2)
              | go_in)
            go_ret
            exact ⟨by rw [HB.out]; rfl, HGA.out⟩
  · have hbad : R.eqBags L M = false := by
      cases he : R.eqBags L M with
      | false => rfl
      | true => exact absurd (by rw [Z1.out, Z2.out]; exact counts_sizes H1.out H2.out K1.out K2.out he) hsz
    have HB := Lib.hid hbad
    clear hbad h1 h2
    go_enter Try.func47, Try.ntmps47
    go_wp2_with fail
    go_ret
    exact ⟨by rw [HB.out]; rfl, World.grownBy.refl _ _⟩
theorem Own.keep {w w' : World} {b n : Nat} {D : DataW Unit} (h : Own w b n D) (hb : Below w.heap.size w w') : Own w' b n D := h.heap (hb.block b h.lt)
theorem below_grown {w w' : World} (h : w.grownBy w' none) : Below w.heap.size w w' := (Below.refl _ _).grown h (Nat.le_refl _) (fun k hk => by cases hk)
set_option maxRecDepth 100000 in
theorem ieqbags (a a' : Option Addr) (len cap len' cap' : Nat) (L M : List R) (w : World) (h : IsRows w a len L) (h' : IsRows w a' len' M) (hlen : len ≤ 100000000000) (hlen' : len' ≤ 100000000000) :
    Calls Try.prog 20 #[.slice a len cap, .slice a' len' cap'] w fun e w' => e = .returned (.bool (R.eqBags L M)) ∧ Below w.heap.size w w' := by
  have HW := Lib.hid h.2.1
  have HW' := Lib.hid h'.2.1
  have HI := Lib.hid h
  have HI' := Lib.hid h'
  clear h h'
  go_enter Try.func20, Try.ntmps20
  go_wp2_with fail
  refine (icounts a len cap L _ HI.out hlen).mono ?_
  rintro e w1 ⟨m1, D1, rfl, -, o1, t1, k1, b1⟩
  have O1 := Lib.hid o1
  have T1 := Lib.hid t1
  have K1 := Lib.hid k1
  have B1 := Lib.hid b1
  have I1 := Lib.hid (HI'.out.keep b1)
  clear o1 t1 k1 b1
  go_wp2_with fail
  refine (icounts a' len' cap' M _ I1.out hlen').mono ?_
  rintro e w2 ⟨m2, D2, rfl, -, o2, t2, k2, b2⟩
  have HC := Lib.hid (mapsequal m1 m2 len len' D1 D2 L M w2 (O1.out.keep b2) o2 T1.out t2 K1.out k2 HW.out HW'.out)
  have B2 := Lib.hid (B1.out.trans (b2.mono B1.out.size))
  clear o2 t2 k2 b2
  go_wp2_with fail
  refine HC.out.mono ?_
  rintro e w3 ⟨rfl, g3⟩
  have B3 := Lib.hid (B2.out.trans ((below_grown g3).mono B2.out.size))
  clear g3
  go_wp2_with fail
  go_ret
  exact ⟨rfl, B3.out⟩
set_option maxRecDepth 100000 in
set_option maxHeartbeats 1000000 in
theorem ibagdif (a a' : Option Addr) (len cap len' cap' : Nat) (L M : List R) (w : World) (h : IsRows w a len L) (h' : IsRows w a' len' M) (hlen : len ≤ 100000000000) (hlen' : len' ≤ 100000000000) :
    Calls Try.prog 24 #[.slice a len cap, .slice a' len' cap'] w fun e w' => ∃ v', e = .returned v' ∧ Mine w' w.heap.size v' (R.dif L M) ∧ Below w.heap.size w w' := by
  have HL := Lib.hid h.1
  have HW := Lib.hid h.2.1
  have HI := Lib.hid h
  have HI' := Lib.hid h'
  clear h h'
  go_enter Try.func24, Try.ntmps24
  go_wp2_with fail
  refine (icounts a' len' cap' M _ HI'.out hlen').mono ?_
  rintro e w1 ⟨bm, D1, rfl, hbm, o1, t1, -, b1⟩
  have hbm1 : bm < w1.heap.size := o1.lt
  have O1 := Lib.hid o1
  have T1 := Lib.hid t1
  have B1 := Lib.hid b1
  have I1 := Lib.hid (HI.out.keep b1)
  clear o1 t1 b1
  go_wp2_with fail
  refine (isort a len cap L _ I1.out hlen).mono ?_
  rintro e w2 ⟨vx, rfl, m2, b2⟩
  obtain ⟨ax, cx, rfl⟩ := m2.slice
  have hsl : (R.sort L).length = len := by rw [R.sort_length, HL.out]
  rw [hsl] at m2 ⊢
  obtain ⟨S, hS⟩ : ∃ S, S = R.sort L := ⟨_, rfl⟩
  rw [← hS] at m2 hsl
  have X2 := Lib.hid m2
  have O2 := Lib.hid (O1.out.keep b2)
  have HS := Lib.hid hS
  have HSL := Lib.hid hsl
  have HSW : Hid (∀ r ∈ S, r.wf) := Lib.hid (hS ▸ R.sort_wf HW.out)
  have B2 := Lib.hid (B1.out.trans (b2.mono B1.out.size))
  have hw12 : w1.heap.size ≤ w2.heap.size := b2.size
  clear m2 b2 hS hsl
  go_wp2_with fail
  go_loopw [6, 14] (fun v x wr => ∃ (k : Nat) (y : Value) (D : DataW Unit), y = v ∧ x = .int .i64 k ∧ k ≤ len ∧ (∀ z, (Value.slice ax len cx).ownBlock = some z → y.ownBlock ≠ some z) ∧ Hid (Mine wr w1.heap.size y (R.difTo S M k)) ∧ Hid (Mine wr w1.heap.size (.slice ax len cx) S) ∧ Hid (Own wr bm (len' + k) D) ∧ Hid (AtD D (fun r => ((M.count r - (S.take k).count r : Nat) : Int))) ∧ Hid (Below w.heap.size w wr) ∧ w1.heap.size ≤ wr.heap.size) (fun _ x _ => len - (intOf x).toNat)
  case atStart => exact ⟨0, _, D1, rfl, rfl, Nat.zero_le _, (fun z _ => by simp [Value.ownBlock]), mine_none _ _, X2.out, O2.out, T1.out, B2.out, hw12⟩
  case round =>
    obtain ⟨k, v0, D, rfl, rfl, hk, hne, hm, hx, ho, hat, hb, hwr⟩ := hrel
    by_cases hlt : k < len
    · obtain ⟨w3, hw3⟩ : ∃ w3, w3 = wr := ⟨_, rfl⟩
      subst hw3
      obtain ⟨g, rfl, hgB, hgl, hc, -, -⟩ := hx.out.at hlt
      obtain ⟨r, hr⟩ : ∃ r, r = S.getD k R.zero := ⟨_, rfl⟩
      rw [← hr] at hc
      obtain ⟨c0, c1, c2⟩ := hc
      have hks : k < S.length := by rw [HSL.out]; exact hlt
      have hrw : r.wf := by rw [hr]; exact HSW.out _ (R.getD_mem hks)
      obtain ⟨Wa, hWa⟩ : ∃ Wa, Wa = w3.alloc (.cells #[.int .i64 r.key, .int .i64 r.value, .int .i64 r.width] 28) := ⟨_, rfl⟩
      have hbx : RowAt Wa w3.heap.size 0 r := by rw [hWa]; refine ⟨?_, ?_, ?_⟩ <;> simp
      have hba : Below w3.heap.size w3 Wa := by rw [hWa]; exact (Below.refl _ _).alloc (Nat.le_refl _) _
      have hxs : w3.heap.size < Wa.heap.size := by rw [hWa]; simp
      have hoa : Own Wa bm (len' + k) D := ho.out.keep hba
      have hL0 := hoa.look hat.out r hrw
      obtain ⟨n, hn⟩ : ∃ n, n = M.count r - (S.take k).count r := ⟨_, rfl⟩
      simp only [← hn] at hL0
      have hct := R.count_take hks r
      rw [← hr, if_pos rfl] at hct
      have hstep : R.difTo S M (k + 1) = if M.count r < (S.take (k + 1)).count r then R.difTo S M k ++ [r] else R.difTo S M k := by
        rw [hr]; rfl
      have hoth : ∀ s, s ≠ r → (S.take (k + 1)).count s = (S.take k).count s := fun s hs => by
        rw [R.count_take hks s, ← hr, if_neg (fun e => hs e.symm), Nat.add_zero]
      obtain ⟨d0, d1, d2⟩ := hbx
      have HR := Lib.hid hr
      have HN := Lib.hid hn
      have HRW := Lib.hid hrw
      have HBA := Lib.hid hba
      have HOA := Lib.hid hoa
      have HCT := Lib.hid hct
      have HOTH := Lib.hid hoth
      unfold R.val at hL0
      clear hr hrw hba hoa hct hoth
      have hnb : n ≤ len' := by rw [hn]; have := List.count_le_length (a := r) (l := M); have := HI'.out.1; omega
      clear hn
      by_cases hpos : 0 < n
      · rw [if_neg (by have := HN.out; have := HCT.out; omega)] at hstep
        have HS2 := Lib.hid hstep
        clear hstep
        have hod : Own Wa.drew bm (len' + k) D := HOA.out
        obtain ⟨st, W1, W2, hE, hL1, hS, hown2, hg2⟩ := hod.entry (by unfold maxLen; omega) hat.out r HRW.out ((n : Int) - 1) (lit_wf ⟨by omega, by omega⟩)
        have hLd := hod.look hat.out r HRW.out
        simp only [← HN.out] at hE hL1 hLd
        unfold R.val at hE hL1 hLd
        have hE' : (Instr.mapEntry 58 (.map (some bm)) (.agg #[.int .i64 r.key, .int .i64 r.value, .int .i64 r.width])).run Try.prog Wa.drew = .ok (.tuple #[.int .i64 n, .int .i64 st]) W1 := hE
        have hS' : (Instr.entryStore 58 (.map (some bm)) (.int .i64 st) (.int .i64 (IntKind.i64.wrap ((n : Int) - 1)))).run Try.prog W1 = .ok () W2 := by rw [show IntKind.i64.wrap ((n : Int) - 1) = (n : Int) - 1 by simp [IntKind.wrap, IntKind.bits, IntKind.signed]; omega]; exact hS
        have hbelow : Below w3.heap.size w3 Wa.drew := HBA.out.drew
        have hnext : Own W2 bm (len' + (k + 1)) (D.put (kl r) (.lit (.int .i64 ((n : Int) - 1)))) ∧ AtD (D.put (kl r) (.lit (.int .i64 ((n : Int) - 1)))) (fun s => ((M.count s - (S.take (k + 1)).count s : Nat) : Int)) ∧ Below w.heap.size w W2 ∧ Mine W2 w1.heap.size v0 (R.difTo S M (k + 1)) ∧ Mine W2 w1.heap.size (.slice (some ⟨g, 0, none⟩) len cx) S ∧ w1.heap.size ≤ W2.heap.size := by
          have hsz := HBA.out.size
          have hne2 : ∀ (v : Value) (L : List R), Mine Wa.drew w1.heap.size v L → ∀ z, v.ownBlock = some z → some bm ≠ some z := fun v L hv z hz e => by
            have := hv.own' z hz
            simp only [Option.some.injEq] at e
            omega
          refine ⟨hown2, ?_, ?_, ?_, ?_, ?_⟩
          · intro s hs
            rw [atD_put HOA.out.map hat.out r HRW.out ((n : Int) - 1) s hs]
            by_cases he : s = r
            · subst he
              have hv : ((n : Int) - 1) = ((M.count s - (S.take (k + 1)).count s : Nat) : Int) := by
                have h1 := HN.out
                have h2 := HCT.out
                omega
              simp only [if_true, hv]
            · simp only [if_neg he, HOTH.out s he]
          · exact (hb.out.trans (hbelow.mono hb.out.size)).grown hg2 (Nat.le_trans hb.out.size hsz) (fun z hz => by have hz' : some bm = some z := hz; simp only [Option.some.injEq] at hz'; omega)
          · rw [HS2.out]
            have hmd := hm.out.keep hbelow
            exact hmd.grown hg2 (hne2 _ _ hmd)
          · have hxd := hx.out.keep hbelow
            exact hxd.grown hg2 (hne2 _ _ hxd)
          · exact Nat.le_trans hwr (Nat.le_trans hsz hg2.size)
        have HNX := Lib.hid hnext
        rw [hWa] at hL0
        clear hnext hbelow hE hS hown2 hg2 hod
        go_wp2_with fail
        rw [← hWa]
        clear hWa hL0
        go_region_with (fail)
        all_goals (
          go_wp2_with fail
          go_roundw
          case rel => exact ⟨k + 1, _, _, rfl, by go_num, by omega, hne, HNX.out.2.2.2.1, HNX.out.2.2.2.2.1, HNX.out.1, HNX.out.2.1, HNX.out.2.2.1, HNX.out.2.2.2.2.2⟩
          case measure => simp [intOf]; omega)
      · rw [if_pos (by have := HN.out; have := HCT.out; omega)] at hstep
        have HS2 := Lib.hid hstep
        have MA := Lib.hid (hm.out.keep HBA.out)
        have XA := Lib.hid (hx.out.keep HBA.out)
        have hwa : w1.heap.size ≤ Wa.heap.size := Nat.le_trans hwr HBA.out.size
        have hdl : (R.difTo S M k).length ≤ k := R.difTo_length
        have hwd : Below w.heap.size w Wa := hb.out.trans (HBA.out.mono hb.out.size)
        have HWD := Lib.hid hwd
        have HWA := Lib.hid hWa
        have HNN : Hid (w3.heap.size + 1 = (w3.alloc (.cells #[.int .i64 r.key, .int .i64 r.value, .int .i64 r.width] 28)).heap.size) := Lib.hid (by simp)
        rw [hWa] at hL0 hwa
        clear hstep hwd hWa
        go_wp2_with (at_builtin; refine wpList_pushM (B := w1.heap.size) (M := R.difTo S M k) (v := v0) _ _ r (w3.heap.size + 1) HNN.out rfl rfl rfl rfl ?qc1 ?qc2 ?qc3 ?_)
        case qc1 => rw [← HWA.out]; exact MA.out
        case qc2 => exact hwa
        case qc3 => omega
        intro g4 c4 w4 hm4 hg4 hat4
        rw [← HWA.out] at hg4
        have hx4 : Mine w4 w1.heap.size (.slice (some ⟨g, 0, none⟩) len cx) S := XA.out.grown hg4 fun z hz e => hne z hz e
        have ho4 : Own w4 bm (len' + k) D := HOA.out.heap (hg4.block bm HOA.out.lt (fun e => by have := MA.out.own' bm e.symm; omega))
        have hne4 : ∀ z, (Value.slice (some ⟨g, 0, none⟩) len cx).ownBlock = some z → (Value.slice (some ⟨g4, 0, none⟩) ((R.difTo S M k).length + 1) c4).ownBlock ≠ some z := by
          intro z hz e
          have hz' : some g = some z := hz
          have e' : some g4 = some z := e
          simp only [Option.some.injEq] at hz' e'
          rcases hat4 with h | h
          · exact hne z hz (by rw [h, ← e']; )
          · omega
        have hat5 : AtD D (fun s => ((M.count s - (S.take (k + 1)).count s : Nat) : Int)) := by
          intro s hs
          rw [hat.out s hs]
          by_cases he : s = r
          · subst he
            have hv : M.count s - (S.take k).count s = M.count s - (S.take (k + 1)).count s := by
              have h1 := HN.out
              have h2 := HCT.out
              omega
            simp only [hv]
          · simp only [HOTH.out s he]
        rw [← HS2.out] at hm4
        have M4 := Lib.hid hm4
        have X4 := Lib.hid hx4
        have O4 := Lib.hid (ho4.mono (Nat.add_le_add_left (Nat.le_succ k) len'))
        have T4 := Lib.hid hat5
        have B4 := Lib.hid (HWD.out.grown hg4 HWD.out.size (fun z hz => Nat.le_trans B1.out.size (MA.out.own' z hz)))
        have hw4 : w1.heap.size ≤ w4.heap.size := Nat.le_trans hwr (Nat.le_trans HBA.out.size hg4.size)
        clear hm4 hg4 hat4 hx4 ho4 hat5
        go_wp2_with fail
        go_roundw
        case rel => exact ⟨k + 1, _, _, rfl, by go_num, by omega, hne4, M4.out, X4.out, O4.out, T4.out, B4.out, hw4⟩
        case measure => simp [intOf]; omega
    · have hkl : k = len := by omega
      have hfin : R.difTo S M k = R.dif L M := by
        unfold R.dif
        rw [← HS.out, HSL.out, hkl]
      rw [hfin] at hm
      have hww := B1.out.size
      clear hfin hkl
      go_wp2_with fail
      go_ret
      exact ⟨_, rfl, hm.out.mono hww, hb.out⟩
end Go.Proofs.Ytedfjpfppipfhaa
