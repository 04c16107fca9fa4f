/- The program's ParseRows, by contract: its rows lie in memory of the call's own. -/
import Derived.Test.YtoiobaiiammehaaDoorProwi
import Derived.Test.YtoiobaiiammehaaDoorMem
namespace Go.Proofs.YtoiobaiiammehaaDoor
open Go.RowKit

/-- What ParseRows answers: a slice over a block of its own that holds the rows, and whether. -/
def RowsOwn (base : Nat) (l : List UInt8) (e : Ending) (w' : World) : Prop := ∃ a len cap, e = .returned (.tuple #[.slice a len cap, .bool (parseRows l).isSome]) ∧ len ≤ 24 ∧ OwnRows w' base a len ((parseRows l).getD [])
theorem rowsown_no {base : Nat} {l : List UInt8} {w' : World} {a : Option Addr} {cap : Nat} (h : parseRows l = none) : RowsOwn base l (.returned (.tuple #[.slice a 0 cap, .bool false])) w' := by
  refine ⟨a, 0, cap, ?_, Nat.zero_le _, ?_⟩
  · rw [h]; rfl
  · rw [h]; exact ⟨rfl, .inl rfl⟩
theorem rowsown_yes {base : Nat} {l : List UInt8} {w' : World} {a : Option Addr} {cap len : Nat} {M : List R} (h : parseRows l = some M) (hlen : len ≤ 24) (hr : OwnRows w' base a len M) : RowsOwn base l (.returned (.tuple #[.slice a len cap, .bool true])) w' := by
  refine ⟨a, len, cap, ?_, hlen, ?_⟩
  · rw [h]; rfl
  · rw [h]; exact hr
theorem rows_next (M : List R) (n k : Nat) (r : R) (hk : k < n) (hM : M.length = k) : (M ++ List.replicate (n - k) R.zero).set k r = (M ++ [r]) ++ List.replicate (n - (k + 1)) R.zero := set_next' M R.zero n k r hk hM
set_option maxRecDepth 100000 in
theorem iprows_none (s : ByteArray) (h0 : s.data.toList = []) (w : World) : Calls Tryd.prog 42 #[.string s] w fun e w' => RowsOwn w.heap.size s.data.toList e w' ∧ Below w.heap.size w w' := by
  have hs0 : s = ⟨#[]⟩ := by
    apply ByteArray.ext
    apply Array.toList_inj.1
    exact h0
  have HY := Lib.hid fun (a : Option Addr) (cap : Nat) (w' : World) => rowsown_yes (base := w.heap.size) (l := s.data.toList) (w' := w') (a := a) (cap := cap) (len := 0) (M := []) (by rw [h0]; rfl) (Nat.zero_le _) ⟨rfl, .inl rfl⟩
  clear h0
  subst hs0
  go_enter Tryd.func42, Tryd.ntmps42
  go_wp2_with fail
  go_ret2
  exact ⟨HY.out _ _ _, Below.refl _ _⟩
set_option maxRecDepth 100000 in
theorem iprows_long (s : ByteArray) (hs : s.size ≤ 4000000000) (hpos : s.data.toList ≠ []) (w : World) (hm : Mx w) (h24 : 24 < (Cut.cut 32 s.data.toList).length) : Calls Tryd.prog 42 #[.string s] w fun e w' => RowsOwn w.heap.size s.data.toList e w' ∧ Below w.heap.size w w' := by
  have hsne : (s.toList == []) = false := by rw [beq_eq_false_iff_ne, ByteArray.toList_eq]; exact hpos
  have HN := Lib.hid (parseRows_long s.data.toList hpos h24)
  have HM := Lib.hid hm
  clear hpos hm
  go_enter Tryd.func42, Tryd.ntmps42
  go_wp2_with fail
  refine (splitn_sign s 32 25 _ HM.out (by omega) (by omega) (by omega)).mono ?_
  rintro e w1 ⟨len, cap, rfl, b1, hor⟩
  have hlen : (24 : Int) < len := by rcases hor with ⟨_, h, _⟩ | ⟨_, h⟩ <;> omega
  have B1 := Lib.hid b1
  clear hor b1
  go_wp2_with fail
  go_ret2
  exact ⟨rowsown_no HN.out, B1.out⟩
set_option maxRecDepth 100000 in
theorem iprows_some (s : ByteArray) (hs : s.size ≤ 4000000000) (hpos : s.data.toList ≠ []) (w : World) (hm : Mx w) (hL : Tab w ∧ Syn w) (h24 : (Cut.cut 32 s.data.toList).length ≤ 24) : Calls Tryd.prog 42 #[.string s] w fun e w' => RowsOwn w.heap.size s.data.toList e w' ∧ Below w.heap.size w w' := by
  have hsl : s.data.toList.length = s.size := by simp
  have hsne : (s.toList == []) = false := by rw [beq_eq_false_iff_ne, ByteArray.toList_eq]; exact hpos
  have hmem : ∀ (t : Nat) (ht : t < (Cut.cut 32 s.data.toList).length), (Cut.cut 32 s.data.toList)[t].length ≤ s.size := by
    intro t ht
    have hj := Cut.join_cut 32 s.data.toList
    rw [← hsl]
    conv => rhs; rw [← hj]
    exact Cut.join_mem_length _ [32] _ (List.getElem_mem ht)
  have HMM := Lib.hid hmem
  obtain ⟨ps, hps⟩ : ∃ ps, ps = Cut.cut 32 s.data.toList := ⟨_, rfl⟩
  have HBAD := Lib.hid (parseRows_bad s.data.toList hpos)
  have HALL := Lib.hid (parseRows_all s.data.toList hpos)
  have HSP := Lib.hid fun v hv => splitn_sign s 32 25 v hv (by omega) (by omega) (by omega)
  rw [← hps] at HMM HBAD HALL HSP h24
  have HM := Lib.hid hm
  have HL := Lib.hid hL
  clear hps hsl hmem hpos hm hL
  go_enter Tryd.func42, Tryd.ntmps42
  go_wp2_with fail
  refine (HSP.out _ HM.out).mono ?_
  rintro e w1 ⟨len, cap, rfl, b1, hor⟩
  obtain ⟨g, hg⟩ : ∃ g, g = w.heap.size := ⟨_, rfl⟩
  obtain ⟨hlen, hst⟩ : len = ps.length ∧ IsStrs w1 g ps := by
    rcases hor with ⟨_, h, hst⟩ | ⟨h, _⟩
    · exact ⟨h, by rw [hg]; exact hst⟩
    · omega
  subst hlen
  rw [← hg]
  have HG := Lib.hid hg
  clear hor hg
  have B1 := Lib.hid b1
  have S1 := Lib.hid hst
  have hmk := run_make_rows ps.length (by omega)
  have hbw : Below w1.heap.size w1 (w1.alloc (.cells (cells3 (List.replicate ps.length R.zero)).toArray 65)) := (Below.refl _ _).alloc (Nat.le_refl _) _
  have GA := Lib.hid (heap_alloc_new w1 (.cells (cells3 (List.replicate ps.length R.zero)).toArray 65))
  have SA := Lib.hid (hst.keep hbw)
  have BA := Lib.hid (B1.out.trans (hbw.mono B1.out.size))
  have hle := B1.out.size
  have hgl := hst.lt
  clear b1 hst hbw
  go_wp2_with fail
  clear hmk
  go_loopw [22] (fun i wr => ∃ (k : Nat) (M : List R), i = .int .i64 k ∧ k ≤ ps.length ∧ Hid (M.length = k) ∧ Hid (readAll (ps.take k) = some M) ∧ Hid (wr.heap[w1.heap.size]? = some (.cells (cells3 (M ++ List.replicate (ps.length - k) R.zero)).toArray 65 (0, 0))) ∧ Hid (IsStrs wr g ps) ∧ Hid (Below w.heap.size w wr)) (fun i _ => ps.length - (intOf i).toNat)
  case atStart => exact ⟨0, [], rfl, Nat.zero_le _, rfl, rfl, GA, SA, BA⟩
  case round =>
    obtain ⟨k, M, rfl, hk, hml, hread, hown, hst, hb⟩ := hrel
    have hsz := hb.out.size
    by_cases hlt : k < ps.length
    · have hc : wr.cell? ⟨g, k, none⟩ = some (.string ⟨ps[k].toArray⟩) := hst.out.2 k hlt
      obtain ⟨p, hp⟩ : ∃ p, p = ps[k] := ⟨_, rfl⟩
      rw [← hp] at hc
      have hpl : p.length ≤ s.size := by rw [hp]; exact HMM.out k hlt
      have HN := Lib.hid (readAll_next ps k hlt M hread.out)
      have HB := Lib.hid (HBAD.out k hlt)
      rw [← hp] at HN HB
      clear hp
      have PR := Lib.hid (iprow ⟨p.toArray⟩ (by simp [ByteArray.size]; omega))
      unfold RowAns at PR
      have hpd : (⟨p.toArray⟩ : ByteArray).data.toList = p := by simp
      rw [hpd] at PR
      have M1 := Lib.hid (HM.out.stay hb.out)
      have L1 := Lib.hid (laid_stay HL.out hb.out)
      clear hpd
      cases hpr : parseRow p with
      | none =>
        rw [hpr] at PR HN
        have HNO := Lib.hid (HB.out hpr)
        clear hpr
        go_wp2_with fail
        refine (PR.out _ M1.out L1.out).mono ?_
        rintro e w2 ⟨rfl, b2⟩
        have B2 := Lib.hid (hb.out.trans (b2.mono hsz))
        clear b2
        go_wp2_with fail
        go_ret2
        exact ⟨rowsown_no HNO.out, B2.out.alloc B2.out.size _⟩
      | some r =>
        rw [hpr] at PR HN
        simp only [Option.getD_some, Option.isSome_some] at PR
        clear hpr
        go_wp2_with fail
        refine (PR.out _ M1.out L1.out).mono ?_
        rintro e w2 ⟨rfl, b2⟩
        have B2 := Lib.hid (hb.out.trans (b2.mono hsz))
        have O2 := Lib.hid ((b2.block _ (lt_of_block hown.out)).trans hown.out)
        have S2 := Lib.hid (hst.out.keep b2)
        clear b2
        have hbox : Below w2.heap.size w2 (w2.alloc (.cells #[.int .i64 r.key, .int .i64 r.value, .int .i64 r.width] 65)) := (Below.refl _ _).alloc (Nat.le_refl _) _
        have S3 := Lib.hid (S2.out.keep hbox)
        have B3 := Lib.hid (B2.out.trans (hbox.mono B2.out.size))
        have O3 := Lib.hid ((hbox.block _ (lt_of_block O2.out)).trans O2.out)
        have hml' : k < (M ++ List.replicate (ps.length - k) R.zero).length := by rw [List.length_append, List.length_replicate, hml.out]; omega
        obtain ⟨x, d0, d1, d2⟩ : ∃ x, RowAt (w2.alloc (.cells #[.int .i64 r.key, .int .i64 r.value, .int .i64 r.width] 65)) w1.heap.size (k * 3) x := ⟨_, rows_cells O3.out k hml'⟩
        have f0 := rows_free O3.out (k * 3)
        have f1 := rows_free O3.out (k * 3 + 1)
        have f2 := rows_free O3.out (k * 3 + 2)
        have HS := Lib.hid (rows_set O3.out k hml' r)
        rw [rows_next M ps.length k r hlt hml.out] at HS
        have hne : g ≠ w1.heap.size := Nat.ne_of_lt hgl
        have SS := Lib.hid (((S3.out.other (i := k * 3) hne (.int .i64 r.key)).other (i := k * 3 + 1) hne (.int .i64 r.value)).other (i := k * 3 + 2) hne (.int .i64 r.width))
        clear hbox hml' hne
        go_wp2_with fail
        go_roundw
        case rel =>
          refine ⟨k + 1, M ++ [r], by go_num, by omega, ?_, HN.out, HS, SS, below_set3 B3.out hle _ _ _ _ _ _⟩
          show _ = _
          rw [List.length_append, hml.out]; rfl
        case measure => simp [intOf]; omega
    · have hkl : k = ps.length := by omega
      have hall : readAll ps = some M := by have := hread.out; rwa [hkl, List.take_length] at this
      have hok : okRows M = true := by
        unfold okRows
        rw [(readAll_ok hall).1, Bool.and_true, decide_eq_true_eq, hml.out]; omega
      have HAN := Lib.hid (HALL.out M hall)
      have hfin : wr.heap[w1.heap.size]? = some (.cells (cells3 M).toArray 65 (0, 0)) := by
        rw [hown.out, hkl, Nat.sub_self]; simp
      have HF := Lib.hid hfin
      have HOK := Lib.hid hok
      have HK := Lib.hid (hml.out.trans hkl)
      clear hkl hall hok hfin
      go_wp2_with fail
      go_ret2
      refine ⟨rowsown_yes (by rw [HAN.out, if_pos HOK.out]) h24 ⟨HK.out, .inr ⟨_, rfl, hle, HF.out⟩⟩, hb.out⟩
theorem iprows (s : ByteArray) (hs : s.size ≤ 4000000000) (w : World) (hm : Mx w) (hL : Tab w ∧ Syn w) : Calls Tryd.prog 42 #[.string s] w fun e w' => RowsOwn w.heap.size s.data.toList e w' ∧ Below w.heap.size w w' := by
  by_cases h : s.data.toList = []
  · exact iprows_none s h w
  · by_cases h24 : (Cut.cut 32 s.data.toList).length ≤ 24
    · exact iprows_some s hs h w hm hL h24
    · exact iprows_long s hs h w hm (by omega)
end Go.Proofs.YtoiobaiiammehaaDoor
