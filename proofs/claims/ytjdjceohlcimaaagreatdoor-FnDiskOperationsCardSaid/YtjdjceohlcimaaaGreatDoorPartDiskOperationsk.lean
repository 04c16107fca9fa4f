/- Texts joined: Unpacki UnpackT ReadS VPr ReadI ReadW VFg PlanL. -/
import Derived.Test.YtjdjceohlcimaaaGreatDoorPartDiskOperationsj
/- The program's UnpackPages, by contract. -/
namespace Go.Proofs.YtjdjceohlcimaaaGreatDoor
open Go.RowKit
set_option maxRecDepth 100000 in
theorem iunpackM (a : Option Addr) (n c : Nat) (P : List (List R)) (w : World) (h : SeqIn pageRep w a n P) (hn : n ≤ 1000000000) (hf : P.flatten.length ≤ 10000000000) :
    Calls Tryz.prog 44 #[.slice a n c] w fun e w' => ∃ v, e = .returned v ∧ Mine w' w.heap.size v P.flatten ∧ Below w.heap.size w w' := by
  have HL := Lib.hid h.1
  have HI := Lib.hid h
  obtain ⟨N, hN⟩ : ∃ N, N = P.flatten.length := ⟨_, rfl⟩
  rw [← hN] at hf
  have HN := Lib.hid hN
  have M0 := Lib.hid (mine_none w w.heap.size)
  clear h hN
  go_enter Tryz.func44, Tryz.ntmps44
  go_wp2_with fail
  go_loopw [3, 8] (fun v i wr => ∃ (t : Nat) (y : Value), y = v ∧ i = .int .i64 t ∧ t ≤ n ∧ Hid (Mine wr w.heap.size y (P.take t).flatten) ∧ Hid (Below w.heap.size w wr)) (fun _ i _ => n - (intOf i).toNat)
  case atStart => exact ⟨0, _, rfl, rfl, Nat.zero_le _, (show Mine _ _ _ (P.take 0).flatten from M0.out), Below.refl _ _⟩
  case round =>
    obtain ⟨t, y, rfl, rfl, ht, hm, hb⟩ := hrel
    by_cases hlt : t < n
    · have htl : t < P.length := by have := HL.out; omega
      have hp : P[t]? = some P[t] := by simp [htl]
      obtain ⟨b, o, d, k, m, rfl, hbl, hcell, hin, hcap⟩ := (HI.out.keep hb.out).at hp
      have hnx := flat_next P t htl
      have hle := flat_take P (t + 1)
      rw [← HN.out] at hle
      have hpl : P[t].length = k := hin.1
      have hfl : (P.take (t + 1)).flatten = (P.take t).flatten ++ P[t] := by rw [List.take_succ_eq_append_getElem htl, List.flatten_append, List.flatten_cons, List.flatten_nil, List.append_nil]
      have HFL := Lib.hid hfl
      have hsz : w.heap.size ≤ wr.heap.size := hb.out.size
      have bx := (Below.refl wr.heap.size wr).alloc (Nat.le_refl _) (.cells #[.slice d k m] 29)
      have IN := Lib.hid ((rows_in hin).keep bx)
      have BX := Lib.hid (hb.out.trans (bx.mono hsz))
      have MX := Lib.hid (hm.out.keep bx)
      have hszx : w.heap.size ≤ (wr.alloc (.cells #[.slice d k m] 29)).heap.size := BX.out.size
      clear hfl hin hp bx
      have hln : (P.take t).flatten.length + k ≤ 1000000000000 := by omega
      have HLN := Lib.hid hln
      clear hln hnx hle
      cases d with
      | none =>
        have hm0 := hcap rfl
        subst hm0
        have hk0 : k = 0 := by
          obtain ⟨-, -, h0 | ⟨b', o', e, -⟩⟩ := IN.out
          · exact h0
          · cases e
        subst hk0
        have hpe : P[t] = [] := List.eq_nil_of_length_eq_zero hpl
        obtain ⟨i0, hi, hz0, hz1, hz2⟩ := info_parts rowInfo
        have HPE := Lib.hid hpe
        clear hpl hpe
        go_wp2_with (at_builtin; refine wpList_append_own_none rfl (.tmp 12) (.tmp 14) 27 rfl w.heap.size 72 i0 3 Tryz.underlying27 hi y (P.take t).flatten.length (cells3 (P.take t).flatten) rfl MX.out rfl ?_)
        go_roundw
        case rel => exact ⟨t + 1, _, rfl, by go_num, by omega, (by show Mine _ _ _ _; rw [HFL.out, HPE.out, List.append_nil]; exact MX.out), BX⟩
        case measure => simp [intOf]; omega
      | some ad =>
        obtain ⟨ad', had, hc⟩ := IN.out.cell
        have hcc : ∀ j u, (cells3 P[t])[j]? = some u → (wr.alloc (.cells #[.slice (some ad) k m] 29)).cell? (ad.add j) = some u := by
          rcases Nat.eq_zero_or_pos k with h0 | h0
          · intro j u hj
            have : P[t] = [] := List.eq_nil_of_length_eq_zero (by omega)
            rw [this] at hj
            simp [cells3] at hj
          · have := had h0
            injection this with this
            rw [← this] at hc
            exact hc
        have HCC := Lib.hid hcc
        have HPL := Lib.hid hpl
        clear hcc hc had hpl
        go_wp2_with (at_builtin; refine wpList_appendR (.tmp 12) (.tmp 14) ad k m rfl rfl rfl rfl MX.out HPL.out HCC.out hszx HLN.out ?_; intro v6 w6 hm6 hg6 hn6)
        have B6 := Lib.hid (BX.out.grown hg6 hszx MX.out.own')
        rw [← HFL.out] at hm6
        have M6 := Lib.hid hm6
        clear hm6 hg6 hn6
        go_roundw
        case rel => exact ⟨t + 1, _, rfl, by go_num, by omega, M6, B6⟩
        case measure => simp [intOf]; omega
    · have hkl : t = n := by omega
      have hfin : Mine wr w.heap.size y P.flatten := by
        have := hm.out
        rw [hkl, List.take_of_length_le (by have := HL.out; omega)] at this
        exact this
      have HF := Lib.hid hfin
      clear hfin hkl
      go_wp2_with fail
      go_ret
      exact ⟨_, rfl, HF.out, hb.out⟩
end Go.Proofs.YtjdjceohlcimaaaGreatDoor
/- UnpackPages: told by trees. -/
namespace Go.Proofs.YtjdjceohlcimaaaGreatDoor
open Go Go.RowKit V
set_option linter.unusedVariables false
theorem own_mine {w : World} {B : Nat} {v : Value} {L : List R} (h : Mine w B v L) : Own w 0 (.seq 72 (L.map tRow)) v (fun b => v.ownBlock = some b) := by
  have hc : ∀ (k j : Nat) (e : List T) (t : T) (u : Value), (L.map tRow)[k]? = some e → e[j]? = some t → (cells3 L)[k * 3 + j]? = some u → t = .lit u ∧ u.oneCell' = true := fun k j e t u h1 h2 h3 => by
    rw [List.getElem?_map] at h1
    obtain ⟨r, hr, rfl⟩ := Option.map_eq_some_iff.1 h1
    have hk := V.get_lt hr
    obtain ⟨e0, e1, e2⟩ := cells3_get L k hk
    have hd : L.getD k R.zero = r := by simp [List.getD, hr]
    rw [hd] at e0 e1 e2
    match j, h2, h3 with
    | 0, h2, h3 => cases h2; rw [Nat.add_zero, e0] at h3; cases h3; exact ⟨rfl, rfl⟩
    | 1, h2, h3 => cases h2; rw [e1] at h3; cases h3; exact ⟨rfl, rfl⟩
    | 2, h2, h3 => cases h2; rw [e2] at h3; cases h3; exact ⟨rfl, rfl⟩
  refine .seq 3 (by decide) sz_impl_Row (fun e he => by obtain ⟨x, -, rfl⟩ := List.mem_map.1 he; rfl) (cells3 L) (by rw [List.length_map]; exact ownsRow_lower h (Nat.zero_le _)) (fun _ _ => False) (fun k e j t u h1 h2 h3 => ?_) (fun u hu => ?_) (fun b hb => hb) (fun q b hb => hb.elim) (fun q b hb => hb.elim) fun q q' b hb => hb.elim
  · obtain ⟨rfl, ho⟩ := hc k j e t u h1 h2 h3
    exact .lit ho
  · obtain ⟨r, -, hr⟩ := List.mem_flatMap.1 (show u ∈ L.flatMap fun r => [.int .i64 r.key, .int .i64 r.value, .int .i64 r.width] from hu)
    simp at hr
    rcases hr with rfl | rfl | rfl <;> rfl
theorem gives_mineT {w w' : World} {v : Value} {L : List R} (hm : Mine w' w.heap.size v L) (hb : Below w.heap.size w w') : V.Gives (Env.of w) false [(false, [.seq 72 (L.map tRow)])] (.returned v) w' := by
  refine ⟨[[v]], fun c j b => c = 0 ∧ j = 0 ∧ v.ownBlock = some b, rfl, rfl, fun c ag ts us hc hu => ?_, fun c j c' j' b hb hb' => ⟨hb.1.trans hb'.1.symm, hb.2.1.trans hb'.2.1.symm⟩, fun c j b hb => ?_, .of_below hb⟩
  · match c, hc, hu with
    | 0, hc, hu => cases hc; cases hu; exact ⟨rfl, fun j t u h h' => by match j, h, h' with | 0, h, h' => cases h; cases h'; exact (own_mine hm).mono fun b hb => ⟨rfl, rfl, hb⟩⟩
  · have := World.ownsRow.lt hm b hb.2.2
    exact ⟨.inl this.1, this.2⟩
theorem vunpack_s (P : List (List R)) (hP : ∀ p ∈ P, goodPage p) (hw : wtPages P ≤ 1000000000) : VC Tryz.prog 45 [(false, [.seq 29 (P.map tPage)])] false [(false, [.seq 72 (P.flatten.map tRow)])] := fun w vs hv => by
  obtain ⟨k, vs', rfl, h1, h2⟩ := hv.shape (Fits.slice 29 fitsPage) hP
  rw [h2.none]
  have e : k.2.1 = P.length := h1.1.1.symm
  have hl := wt_page_len P
  have hf := flat_wt P
  exact (sunpack k.1 k.2.1 k.2.2 P w h1.1 (by omega) (by omega)).mono fun e w' ⟨v, he, hm, hb⟩ => he ▸ gives_mineT hm hb
theorem vunpack_i (P : List (List R)) (hP : ∀ p ∈ P, goodPage p) (hw : wtPages P ≤ 1000000000) : VC Tryz.prog 44 [(false, [.seq 29 (P.map tPage)])] false [(false, [.seq 72 (P.flatten.map tRow)])] := fun w vs hv => by
  obtain ⟨k, vs', rfl, h1, h2⟩ := hv.shape (Fits.slice 29 fitsPage) hP
  rw [h2.none]
  have e : k.2.1 = P.length := h1.1.1.symm
  have hl := wt_page_len P
  have hf := flat_wt P
  exact (iunpackM k.1 k.2.1 k.2.2 P w h1.1 (by omega) (by omega)).mono fun e w' ⟨v, he, hm, hb⟩ => he ▸ gives_mineT hm hb
end Go.Proofs.YtjdjceohlcimaaaGreatDoor
/- The reference's ReadFile: told by trees. -/
namespace Go.Proofs.YtjdjceohlcimaaaGreatDoor
open Go Go.RowKit V
set_option linter.unusedVariables false
set_option maxRecDepth 100000 in
set_option maxHeartbeats 2000000 in
theorem vread_s0 (X : DiskD) (name ki : Int) (hX : goodDisk X) (hL : wtDisk X ≤ 1000000000) (hki : DiskD.atI X.fFiles name = ki) : VC Tryz.prog 16 [(true, tDisk X), (false, [.lit (.int .i64 (name))])] true [(false, [.seq 72 (((DiskD.read X name).getD []).map tRow)]), (false, [.lit (.bool (DiskD.read X name).isSome)])] := by
  refine VC.enter Tryz.func16 rfl Tryz.ntmps16 (gle rfl) fun E hE => ?_
  refine SV.seq' ?_
  refine SV.region ?_
  refine SV.op (OpMk.ok (ok_box (kk := 0) (ag := true) (xs := [.ro _, .sc _]) rfl rfl rfl (fun h => by cases h) rfl rfl (gle rfl))) rfl ?_
  refine SV.op (OpL.ok (nb := 1) (ok_move (v := V.one (.sc _)) (.inr rfl) rfl) rfl (gle rfl)) rfl ?_
  refine SV.op (OpL.ok (nb := 1) (ok_move (v := V.one (.sc _)) (.inr rfl) rfl) rfl (gle rfl)) rfl ?_
  refine SV.nil ?_
  refine SV.tn ?_
  refine SV.seq' ?_
  refine SV.region ?_
  refine SV.op (OpL.ok (nb := 1) (ok_load_bp (b := 0) (i := 0) (ag := true) (m := 2) (ys := [.ro _, .sc _]) rfl rfl rfl agg_impl_Disk sz_impl_Disk (fun h => by cases h) rfl rfl (gle rfl)) rfl (gle rfl)) rfl ?_
  refine SV.op (OpL.ok (nb := 1) (ok_move (v := V.one (.sc _)) (.inl rfl) rfl) rfl (gle rfl)) rfl ?_
  refine SV.op (OpMk.ok (ok_call (ls := [(false, [.sc _])]) rfl rfl ⟨_, _, Tryz.func34, rfl, by decide⟩ (vat_s' X name ki hX hki) ⟨⟨[.ro _, .sc _], rfl, ⟨rfl, rfl, trivial⟩⟩, ⟨[.sc _], rfl, ⟨rfl, trivial⟩⟩, trivial⟩ rfl (gle rfl))) rfl ?_
  refine SV.op (OpL.ok (nb := 1) (ok_move (v := V.one (.sc _)) (.inr rfl) rfl) rfl (gle rfl)) rfl ?_
  refine SV.nil ?_
  refine SV.tn ?_
  refine SV.seq' ?_
  refine SV.seq' ?_
  refine SV.draw [.q 0, .m 1, .q 2, .q 3, .q 4, .q 5, .q 6, .q 7, .q 8, .q 9, .q 10, .q 11, .q 12, .q 13, .q 14, .q 15, .q 16, .q 17, .q 18, .q 19, .q 20, .q 21, .q 22, .q 23, .q 24, .q 25, .q 26, .q 27, .q 28, .m 29, .m 30, .q 31, .q 32] [] (by kernel_rfl) (by kernel_rfl) ?_
  refine DW.q rfl (ok_load_bp (b := 0) (i := 0) (ag := true) (m := 2) (ys := [.ro _, .sc _]) rfl rfl rfl agg_impl_Disk sz_impl_Disk (fun h => by cases h) rfl rfl (gle rfl)) rfl rfl (gle rfl) (fun _ _ _ _ h => h) ?_
  refine DW.m [] rfl (ok_call (ls := [(false, [.sc _])]) rfl rfl ⟨_, _, Tryz.func35, rfl, by decide⟩ (vokdisk_s X hX hL) ⟨⟨[.ro _, .sc _], rfl, ⟨rfl, rfl, trivial⟩⟩, trivial⟩ rfl (gle rfl)) rfl (gle rfl) (gle rfl) (.inl rfl) (fun j hj => by cases hj) ?_
  refine DW.q rfl (ok_s1 (x := .tmp 11) (VScal.one rfl) (fun ρ h1 w => by go_simp; (try go_bits); with_reducible rfl) rfl) rfl rfl (gle rfl) (fun _ _ _ _ h => h) ?_
  refine DW.q rfl (ok_move (v := V.one (.sc _)) (.inl rfl) rfl) rfl rfl (gle rfl) (fun _ _ _ _ h => h) ?_
  refine DW.split (d := 13) rfl (fun hg0 => ?_) (fun hg0 => ?_)
  · skip   -- g0.T
    have ho : DiskD.read X name = none := DiskD.read_none (DiskD.file_bad (by simpa using hg0))
    refine DW.qN (V' := V.one .dead) rfl rfl rfl rfl (gle rfl) rfl rfl rfl (gle rfl) (fun _ _ _ _ h => h) ?_
    refine DW.qN (V' := V.one .dead) rfl rfl rfl rfl (gle rfl) rfl rfl rfl (gle rfl) (fun _ _ _ _ h => h) ?_
    refine DW.q rfl (ok_pickT (v := V.one (.sc _)) rfl rfl rfl) rfl rfl (gle rfl) (fun _ _ _ _ h => h) ?_
    refine DW.q rfl (ok_move (v := V.one (.sc _)) (.inl rfl) rfl) rfl rfl (gle rfl) (fun _ _ _ _ h => h) ?_
    refine DW.split (d := 17) rfl (fun hg1 => ?_) (fun hg1 => ?_)
    · skip   -- g1.T
      refine DW.qN (V' := V.one .dead) rfl rfl rfl rfl (gle rfl) rfl rfl rfl (gle rfl) (fun _ _ _ _ h => h) ?_
      refine DW.qN (V' := V.one .dead) rfl rfl rfl rfl (gle rfl) rfl rfl rfl (gle rfl) (fun _ _ _ _ h => h) ?_
      refine DW.qN (V' := V.one .dead) rfl rfl rfl rfl (gle rfl) rfl rfl rfl (gle rfl) (fun _ _ _ _ h => h) ?_
      refine DW.qN (V' := V.one .dead) rfl rfl rfl rfl (gle rfl) rfl rfl rfl (gle rfl) (fun _ _ _ _ h => h) ?_
      refine DW.qN (V' := V.one .dead) rfl rfl rfl rfl (gle rfl) rfl rfl rfl (gle rfl) (fun _ _ _ _ h => h) ?_
      refine DW.qN (V' := V.one .dead) rfl rfl rfl rfl (gle rfl) rfl rfl rfl (gle rfl) (fun _ _ _ _ h => h) ?_
      refine DW.qN (V' := V.one .dead) rfl rfl rfl rfl (gle rfl) rfl rfl rfl (gle rfl) (fun _ _ _ _ h => h) ?_
      refine DW.q rfl (ok_pickT (v := V.one (.sc _)) rfl rfl rfl) rfl rfl (gle rfl) (fun _ _ _ _ h => h) ?_
      refine DW.q rfl (ok_move (v := V.one (.sc _)) (.inl rfl) rfl) rfl rfl (gle rfl) (fun _ _ _ _ h => h) ?_
      refine DW.split (d := 26) rfl (fun hg2 => ?_) (fun hg2 => ?_)
      · skip   -- g2.T
        refine DW.qN (V' := V.one .dead) rfl rfl rfl rfl (gle rfl) rfl rfl rfl (gle rfl) (fun _ _ _ _ h => h) ?_
        refine DW.qN (V' := V.one .dead) rfl rfl rfl rfl (gle rfl) rfl rfl rfl (gle rfl) (fun _ _ _ _ h => h) ?_
        refine DW.qN (V' := V.one .dead) rfl rfl rfl rfl (gle rfl) rfl rfl rfl (gle rfl) (fun _ _ _ _ h => h) ?_
        refine DW.qN (V' := V.one .dead) rfl rfl rfl rfl (gle rfl) rfl rfl rfl (gle rfl) (fun _ _ _ _ h => h) ?_
        refine DW.qN (V' := V.one .dead) rfl rfl rfl rfl (gle rfl) rfl rfl rfl (gle rfl) (fun _ _ _ _ h => h) ?_
        refine DW.qN (V' := V.one .dead) rfl rfl rfl rfl (gle rfl) rfl rfl rfl (gle rfl) (fun _ _ _ _ h => h) ?_
        refine DW.qN (V' := V.one .dead) rfl rfl rfl rfl (gle rfl) rfl rfl rfl (gle rfl) (fun _ _ _ _ h => h) ?_
        refine DW.qN (V' := V.one .dead) rfl rfl rfl rfl (gle rfl) rfl rfl rfl (gle rfl) (fun _ _ _ _ h => h) ?_
        refine DW.qN (V' := V.one .dead) rfl rfl rfl rfl (gle rfl) rfl rfl rfl (gle rfl) (fun _ _ _ _ h => h) ?_
        refine DW.qN (V' := V.one .dead) rfl rfl rfl rfl (gle rfl) rfl rfl rfl (gle rfl) (fun _ _ _ _ h => h) ?_
        refine DW.qN (V' := V.one .dead) rfl rfl rfl rfl (gle rfl) rfl rfl rfl (gle rfl) (fun _ _ _ _ h => h) ?_
        refine DW.qN (V' := V.one .dead) rfl rfl rfl rfl (gle rfl) rfl rfl rfl (gle rfl) (fun _ _ _ _ h => h) ?_
        refine DW.mN rfl rfl rfl rfl (gle rfl) rfl rfl rfl (gle rfl) ?_
        refine DW.mN rfl rfl rfl rfl (gle rfl) rfl rfl rfl (gle rfl) ?_
        refine DW.qN (V' := V.one .dead) rfl rfl rfl rfl (gle rfl) rfl rfl rfl (gle rfl) (fun _ _ _ _ h => h) ?_
        refine DW.q rfl (ok_pickT (v := V.one (.sc _)) rfl rfl rfl) rfl rfl (gle rfl) (fun _ _ _ _ h => h) ?_
        refine DW.stores ?_
        refine SV.zend ?_
        refine SV.tn ?_
        refine SV.cond rfl (fun hc0 => ?_) (fun hc0 => ?_)
        · skip   -- c0.T
          refine SV.seq' ?_
          refine SV.region ?_
          refine SV.op (OpMk.ok (ok_lit0 (kk := 0) elt_impl_Row rfl rfl rfl (gle rfl))) rfl ?_
          refine SV.op (OpL.ok (nb := 1) (ok_move (v := V.one (.hd 0)) (.inr rfl) rfl) rfl (gle rfl)) rfl ?_
          refine SV.op (OpL.ok (nb := 1) (ok_move (v := V.one (.sc _)) (.inr rfl) rfl) rfl (gle rfl)) rfl ?_
          refine SV.nil ?_
          refine SV.tn ?_
          refine SV.ret ?_
          refine SV.tr ?_
          apply SV.done (hf := Tryz.results16) (ht := rfl) (he := .inl rfl)
          case hr => exact (ResAll.cons (ResOk.tmp (ag := false) (xs := [.hd 0]) rfl) (ResAll.cons (ResOk.tmp (ag := false) (xs := [.sc _]) rfl) ResAll.nil'))
          case h2 => simp [two]
          refine ⟨rfl, ⟨?_, trivial⟩, ⟨rfl, ⟨?_, trivial⟩, trivial⟩⟩ <;> (rw [ho]; rfl)
        · skip   -- c0.F
          cases hc0
      · skip   -- g2.F
        simp at hg2
    · skip   -- g1.F
      simp at hg1
  · skip   -- g0.F
    have hok : DiskD.okD X = true := by simpa using hg0
    refine DW.qY rfl (ok_move (v := V.one (.sc _)) (.inl rfl) rfl) rfl rfl rfl (gle rfl) rfl rfl rfl (gle rfl) (fun _ _ _ _ h => h) ?_
    refine DW.qY rfl (ok_s2 (x := .tmp 14) (x' := .const ((Value.int IntKind.i64 0))) (VScal.one rfl) (VScal.one rfl) (fun ρ h1 h2 w => by go_simp; (try go_bits); with_reducible rfl) rfl) rfl rfl rfl (gle rfl) rfl rfl rfl (gle rfl) (fun _ _ _ _ h => h) ?_
    refine DW.q rfl (ok_pickF (v := V.one (.sc _)) rfl rfl rfl) rfl rfl (gle rfl) (fun _ _ _ _ h => h) ?_
    refine DW.q rfl (ok_move (v := V.one (.sc _)) (.inl rfl) rfl) rfl rfl (gle rfl) (fun _ _ _ _ h => h) ?_
    refine DW.split (d := 17) rfl (fun hg3 => ?_) (fun hg3 => ?_)
    · skip   -- g3.T
      have hk : DiskD.at? X.fFiles name = none := by
        rcases DiskD.atI_cases X.fFiles name with h | ⟨k, f, h1, h2, h3⟩
        · exact h.1
        · exfalso; simp at hg3; omega
      have ho : DiskD.read X name = none := DiskD.read_none (DiskD.file_none hk)
      refine DW.qN (V' := V.one .dead) rfl rfl rfl rfl (gle rfl) rfl rfl rfl (gle rfl) (fun _ _ _ _ h => h) ?_
      refine DW.qN (V' := V.one .dead) rfl rfl rfl rfl (gle rfl) rfl rfl rfl (gle rfl) (fun _ _ _ _ h => h) ?_
      refine DW.qN (V' := V.one .dead) rfl rfl rfl rfl (gle rfl) rfl rfl rfl (gle rfl) (fun _ _ _ _ h => h) ?_
      refine DW.qN (V' := V.one .dead) rfl rfl rfl rfl (gle rfl) rfl rfl rfl (gle rfl) (fun _ _ _ _ h => h) ?_
      refine DW.qN (V' := V.one .dead) rfl rfl rfl rfl (gle rfl) rfl rfl rfl (gle rfl) (fun _ _ _ _ h => h) ?_
      refine DW.qN (V' := V.one .dead) rfl rfl rfl rfl (gle rfl) rfl rfl rfl (gle rfl) (fun _ _ _ _ h => h) ?_
      refine DW.qN (V' := V.one .dead) rfl rfl rfl rfl (gle rfl) rfl rfl rfl (gle rfl) (fun _ _ _ _ h => h) ?_
      refine DW.q rfl (ok_pickT (v := V.one (.sc _)) rfl rfl rfl) rfl rfl (gle rfl) (fun _ _ _ _ h => h) ?_
      refine DW.q rfl (ok_move (v := V.one (.sc _)) (.inl rfl) rfl) rfl rfl (gle rfl) (fun _ _ _ _ h => h) ?_
      refine DW.split (d := 26) rfl (fun hg4 => ?_) (fun hg4 => ?_)
      · skip   -- g4.T
        refine DW.qN (V' := V.one .dead) rfl rfl rfl rfl (gle rfl) rfl rfl rfl (gle rfl) (fun _ _ _ _ h => h) ?_
        refine DW.qN (V' := V.one .dead) rfl rfl rfl rfl (gle rfl) rfl rfl rfl (gle rfl) (fun _ _ _ _ h => h) ?_
        refine DW.qN (V' := V.one .dead) rfl rfl rfl rfl (gle rfl) rfl rfl rfl (gle rfl) (fun _ _ _ _ h => h) ?_
        refine DW.qN (V' := V.one .dead) rfl rfl rfl rfl (gle rfl) rfl rfl rfl (gle rfl) (fun _ _ _ _ h => h) ?_
        refine DW.qN (V' := V.one .dead) rfl rfl rfl rfl (gle rfl) rfl rfl rfl (gle rfl) (fun _ _ _ _ h => h) ?_
        refine DW.qN (V' := V.one .dead) rfl rfl rfl rfl (gle rfl) rfl rfl rfl (gle rfl) (fun _ _ _ _ h => h) ?_
        refine DW.qN (V' := V.one .dead) rfl rfl rfl rfl (gle rfl) rfl rfl rfl (gle rfl) (fun _ _ _ _ h => h) ?_
        refine DW.qN (V' := V.one .dead) rfl rfl rfl rfl (gle rfl) rfl rfl rfl (gle rfl) (fun _ _ _ _ h => h) ?_
        refine DW.qN (V' := V.one .dead) rfl rfl rfl rfl (gle rfl) rfl rfl rfl (gle rfl) (fun _ _ _ _ h => h) ?_
        refine DW.qN (V' := V.one .dead) rfl rfl rfl rfl (gle rfl) rfl rfl rfl (gle rfl) (fun _ _ _ _ h => h) ?_
        refine DW.qN (V' := V.one .dead) rfl rfl rfl rfl (gle rfl) rfl rfl rfl (gle rfl) (fun _ _ _ _ h => h) ?_
        refine DW.qN (V' := V.one .dead) rfl rfl rfl rfl (gle rfl) rfl rfl rfl (gle rfl) (fun _ _ _ _ h => h) ?_
        refine DW.mN rfl rfl rfl rfl (gle rfl) rfl rfl rfl (gle rfl) ?_
        refine DW.mN rfl rfl rfl rfl (gle rfl) rfl rfl rfl (gle rfl) ?_
        refine DW.qN (V' := V.one .dead) rfl rfl rfl rfl (gle rfl) rfl rfl rfl (gle rfl) (fun _ _ _ _ h => h) ?_
        refine DW.q rfl (ok_pickT (v := V.one (.sc _)) rfl rfl rfl) rfl rfl (gle rfl) (fun _ _ _ _ h => h) ?_
        refine DW.stores ?_
        refine SV.zend ?_
        refine SV.tn ?_
        refine SV.cond rfl (fun hc1 => ?_) (fun hc1 => ?_)
        · skip   -- c1.T
          refine SV.seq' ?_
          refine SV.region ?_
          refine SV.op (OpMk.ok (ok_lit0 (kk := 0) elt_impl_Row rfl rfl rfl (gle rfl))) rfl ?_
          refine SV.op (OpL.ok (nb := 1) (ok_move (v := V.one (.hd 0)) (.inr rfl) rfl) rfl (gle rfl)) rfl ?_
          refine SV.op (OpL.ok (nb := 1) (ok_move (v := V.one (.sc _)) (.inr rfl) rfl) rfl (gle rfl)) rfl ?_
          refine SV.nil ?_
          refine SV.tn ?_
          refine SV.ret ?_
          refine SV.tr ?_
          apply SV.done (hf := Tryz.results16) (ht := rfl) (he := .inl rfl)
          case hr => exact (ResAll.cons (ResOk.tmp (ag := false) (xs := [.hd 0]) rfl) (ResAll.cons (ResOk.tmp (ag := false) (xs := [.sc _]) rfl) ResAll.nil'))
          case h2 => simp [two]
          refine ⟨rfl, ⟨?_, trivial⟩, ⟨rfl, ⟨?_, trivial⟩, trivial⟩⟩ <;> (rw [ho]; rfl)
        · skip   -- c1.F
          cases hc1
      · skip   -- g4.F
        simp at hg4
    · skip   -- g3.F
      obtain ⟨k, f, h1, hx, h3⟩ : ∃ (k : Nat) (f : FileD), DiskD.at? X.fFiles name = some k ∧ X.fFiles[k]? = some f ∧ DiskD.atI X.fFiles name = (k : Int) := by
        rcases DiskD.atI_cases X.fFiles name with h | h
        · exfalso; simp at hg3; omega
        · exact h
      obtain rfl : ki = (k : Int) := hki.symm.trans h3
      have hf := DiskD.read_eq (DiskD.file_some hok h1 hx)
      have hkl : k < X.fFiles.length := get_lt hx
      have hP := (hX.1 f (get_mem hx)).2.1
      have hw1 : wtPages f.fPages ≤ wtDisk X := by
        have h4 := wt_file_at X.fFiles k hkl
        have h5 : X.fFiles[k] = f := by have := hx; rw [List.getElem?_eq_getElem hkl] at this; exact Option.some.inj this
        rw [h5] at h4; exact h4
      have hw2 := wt_page_len f.fPages
      have hw3 := flat_wt f.fPages
      have hK : (R.fmtPages f.fPages).length ≤ 1000000000000 := by have := fmtPages_len f.fPages; omega
      refine DW.qY rfl (ok_field_bp (b := 0) (o' := 0) (off := 0) rfl rfl fld_impl_Disk_0) rfl rfl rfl (gle rfl) rfl rfl rfl (gle rfl) (fun _ _ _ _ h => h) ?_
      refine DW.qY rfl (ok_load_bp (b := 0) (i := 0) (ag := false) (m := 1) (ys := [.ro _]) rfl rfl rfl agg_s_impl_File sz_s_impl_File (fun _ => rfl) rfl rfl (gle rfl)) rfl rfl rfl (gle rfl) rfl rfl rfl (gle rfl) (fun _ _ _ _ h => h) ?_
      refine DW.qY rfl (ok_move (v := V.one (.sc _)) (.inl rfl) rfl) rfl rfl rfl (gle rfl) rfl rfl rfl (gle rfl) (fun _ _ _ _ h => h) ?_
      refine DW.qY rfl (ok_index (n := 4) (lf := .ro _) rfl elt_impl_File.und sz_impl_File rfl rfl rfl (map_at (by assumption))) rfl rfl rfl (gle rfl) rfl rfl rfl (gle rfl) (fun _ _ _ _ h => h) ?_
      refine DW.qY rfl (ok_field_el (p := .rp _) (off := 3) rfl rfl rfl fld_impl_File_3) rfl rfl rfl (gle rfl) rfl rfl rfl (gle rfl) (fun _ _ _ _ h => h) ?_
      refine DW.qY rfl (ok_load_rp (ag := false) (m := 1) (ys := [.sc _]) rfl rfl agg_bool sz_bool (fun _ => rfl) (gle rfl) rfl) rfl rfl rfl (gle rfl) rfl rfl rfl (gle rfl) (fun _ _ _ _ h => h) ?_
      refine DW.qY rfl (ok_s1 (x := .tmp 23) (VScal.one rfl) (fun ρ h1 w => by go_simp; (try go_bits); with_reducible rfl) rfl) rfl rfl rfl (gle rfl) rfl rfl rfl (gle rfl) (fun _ _ _ _ h => h) ?_
      refine DW.q rfl (ok_pickF (v := V.one (.sc _)) rfl rfl rfl) rfl rfl (gle rfl) (fun _ _ _ _ h => h) ?_
      refine DW.q rfl (ok_move (v := V.one (.sc _)) (.inl rfl) rfl) rfl rfl (gle rfl) (fun _ _ _ _ h => h) ?_
      refine DW.split (d := 26) rfl (fun hg5 => ?_) (fun hg5 => ?_)
      · skip   -- g5.T
        have ho : DiskD.read X name = none := by rw [hf, if_neg (by unfold FileD.whole; simp at hg5; simp [hg5])]
        refine DW.qN (V' := V.one .dead) rfl rfl rfl rfl (gle rfl) rfl rfl rfl (gle rfl) (fun _ _ _ _ h => h) ?_
        refine DW.qN (V' := V.one .dead) rfl rfl rfl rfl (gle rfl) rfl rfl rfl (gle rfl) (fun _ _ _ _ h => h) ?_
        refine DW.qN (V' := V.one .dead) rfl rfl rfl rfl (gle rfl) rfl rfl rfl (gle rfl) (fun _ _ _ _ h => h) ?_
        refine DW.qN (V' := V.one .dead) rfl rfl rfl rfl (gle rfl) rfl rfl rfl (gle rfl) (fun _ _ _ _ h => h) ?_
        refine DW.qN (V' := V.one .dead) rfl rfl rfl rfl (gle rfl) rfl rfl rfl (gle rfl) (fun _ _ _ _ h => h) ?_
        refine DW.qN (V' := V.one .dead) rfl rfl rfl rfl (gle rfl) rfl rfl rfl (gle rfl) (fun _ _ _ _ h => h) ?_
        refine DW.qN (V' := V.one .dead) rfl rfl rfl rfl (gle rfl) rfl rfl rfl (gle rfl) (fun _ _ _ _ h => h) ?_
        refine DW.qN (V' := V.one .dead) rfl rfl rfl rfl (gle rfl) rfl rfl rfl (gle rfl) (fun _ _ _ _ h => h) ?_
        refine DW.qN (V' := V.one .dead) rfl rfl rfl rfl (gle rfl) rfl rfl rfl (gle rfl) (fun _ _ _ _ h => h) ?_
        refine DW.qN (V' := V.one .dead) rfl rfl rfl rfl (gle rfl) rfl rfl rfl (gle rfl) (fun _ _ _ _ h => h) ?_
        refine DW.qN (V' := V.one .dead) rfl rfl rfl rfl (gle rfl) rfl rfl rfl (gle rfl) (fun _ _ _ _ h => h) ?_
        refine DW.qN (V' := V.one .dead) rfl rfl rfl rfl (gle rfl) rfl rfl rfl (gle rfl) (fun _ _ _ _ h => h) ?_
        refine DW.mN rfl rfl rfl rfl (gle rfl) rfl rfl rfl (gle rfl) ?_
        refine DW.mN rfl rfl rfl rfl (gle rfl) rfl rfl rfl (gle rfl) ?_
        refine DW.qN (V' := V.one .dead) rfl rfl rfl rfl (gle rfl) rfl rfl rfl (gle rfl) (fun _ _ _ _ h => h) ?_
        refine DW.q rfl (ok_pickT (v := V.one (.sc _)) rfl rfl rfl) rfl rfl (gle rfl) (fun _ _ _ _ h => h) ?_
        refine DW.stores ?_
        refine SV.zend ?_
        refine SV.tn ?_
        refine SV.cond rfl (fun hc2 => ?_) (fun hc2 => ?_)
        · skip   -- c2.T
          refine SV.seq' ?_
          refine SV.region ?_
          refine SV.op (OpMk.ok (ok_lit0 (kk := 0) elt_impl_Row rfl rfl rfl (gle rfl))) rfl ?_
          refine SV.op (OpL.ok (nb := 1) (ok_move (v := V.one (.hd 0)) (.inr rfl) rfl) rfl (gle rfl)) rfl ?_
          refine SV.op (OpL.ok (nb := 1) (ok_move (v := V.one (.sc _)) (.inr rfl) rfl) rfl (gle rfl)) rfl ?_
          refine SV.nil ?_
          refine SV.tn ?_
          refine SV.ret ?_
          refine SV.tr ?_
          apply SV.done (hf := Tryz.results16) (ht := rfl) (he := .inl rfl)
          case hr => exact (ResAll.cons (ResOk.tmp (ag := false) (xs := [.hd 0]) rfl) (ResAll.cons (ResOk.tmp (ag := false) (xs := [.sc _]) rfl) ResAll.nil'))
          case h2 => simp [two]
          refine ⟨rfl, ⟨?_, trivial⟩, ⟨rfl, ⟨?_, trivial⟩, trivial⟩⟩ <;> (rw [ho]; rfl)
        · skip   -- c2.F
          cases hc2
      · skip   -- g5.F
        refine DW.qY rfl (ok_field_bp (b := 0) (o' := 0) (off := 0) rfl rfl fld_impl_Disk_0) rfl rfl rfl (gle rfl) rfl rfl rfl (gle rfl) (fun _ _ _ _ h => h) ?_
        refine DW.qY rfl (ok_load_bp (b := 0) (i := 0) (ag := false) (m := 1) (ys := [.ro _]) rfl rfl rfl agg_s_impl_File sz_s_impl_File (fun _ => rfl) rfl rfl (gle rfl)) rfl rfl rfl (gle rfl) rfl rfl rfl (gle rfl) (fun _ _ _ _ h => h) ?_
        refine DW.qY rfl (ok_move (v := V.one (.sc _)) (.inl rfl) rfl) rfl rfl rfl (gle rfl) rfl rfl rfl (gle rfl) (fun _ _ _ _ h => h) ?_
        refine DW.qY rfl (ok_index (n := 4) (lf := .ro _) rfl elt_impl_File.und sz_impl_File rfl rfl rfl (map_at (by assumption))) rfl rfl rfl (gle rfl) rfl rfl rfl (gle rfl) (fun _ _ _ _ h => h) ?_
        refine DW.qY rfl (ok_field_el (p := .rp _) (off := 2) rfl rfl rfl fld_impl_File_2) rfl rfl rfl (gle rfl) rfl rfl rfl (gle rfl) (fun _ _ _ _ h => h) ?_
        refine DW.qY rfl (ok_load_rp (ag := false) (m := 1) (ys := [.sc _]) rfl rfl agg_int sz_int (fun _ => rfl) (gle rfl) rfl) rfl rfl rfl (gle rfl) rfl rfl rfl (gle rfl) (fun _ _ _ _ h => h) ?_
        refine DW.qY rfl (ok_field_bp (b := 0) (o' := 0) (off := 0) rfl rfl fld_impl_Disk_0) rfl rfl rfl (gle rfl) rfl rfl rfl (gle rfl) (fun _ _ _ _ h => h) ?_
        refine DW.qY rfl (ok_load_bp (b := 0) (i := 0) (ag := false) (m := 1) (ys := [.ro _]) rfl rfl rfl agg_s_impl_File sz_s_impl_File (fun _ => rfl) rfl rfl (gle rfl)) rfl rfl rfl (gle rfl) rfl rfl rfl (gle rfl) (fun _ _ _ _ h => h) ?_
        refine DW.qY rfl (ok_move (v := V.one (.sc _)) (.inl rfl) rfl) rfl rfl rfl (gle rfl) rfl rfl rfl (gle rfl) (fun _ _ _ _ h => h) ?_
        refine DW.qY rfl (ok_index (n := 4) (lf := .ro _) rfl elt_impl_File.und sz_impl_File rfl rfl rfl (map_at (by assumption))) rfl rfl rfl (gle rfl) rfl rfl rfl (gle rfl) (fun _ _ _ _ h => h) ?_
        refine DW.qY rfl (ok_field_el (p := .rp _) (off := 1) rfl rfl rfl fld_impl_File_1) rfl rfl rfl (gle rfl) rfl rfl rfl (gle rfl) (fun _ _ _ _ h => h) ?_
        refine DW.qY rfl (ok_load_rp (ag := false) (m := 1) (ys := [.ro _]) rfl rfl agg_s_impl_Page sz_s_impl_Page (fun _ => rfl) (gle rfl) rfl) rfl rfl rfl (gle rfl) rfl rfl rfl (gle rfl) (fun _ _ _ _ h => h) ?_
        refine DW.m' [] rfl (ok_call (ls := [(false, [.sc _])]) rfl rfl ⟨_, _, Tryz.func39, rfl, by decide⟩ (vfpages_s f.fPages hP (by omega) (by omega)) ⟨⟨[.ro _], rfl, ⟨rfl, trivial⟩⟩, trivial⟩ rfl (gle rfl)) (fun hr => wantedY hr rfl rfl rfl (gle rfl) rfl rfl) (gle rfl) (gle rfl) (.inl rfl) (fun j hj => by cases hj) ?_
        refine DW.m' [] rfl (ok_call (ls := [(false, [.sc _])]) rfl rfl ⟨_, _, Tryz.func24, rfl, by decide⟩ (vck_s (R.fmtPages f.fPages) hK) ⟨⟨[.sc _], rfl, ⟨rfl, trivial⟩⟩, trivial⟩ rfl (gle rfl)) (fun hr => wantedY hr rfl rfl rfl (gle rfl) rfl rfl) (gle rfl) (gle rfl) (.inl rfl) (fun j hj => by cases hj) ?_
        refine DW.qY rfl (ok_s2 (x := .tmp 32) (x' := .tmp 40) (VScal.one rfl) (VScal.one rfl) (fun ρ h1 h2 w => by go_simp; (try go_bits); with_reducible rfl) rfl) rfl rfl rfl (gle rfl) rfl rfl rfl (gle rfl) (fun _ _ _ _ h => h) ?_
        refine DW.q rfl (ok_pickF (v := V.one (.sc _)) rfl rfl rfl) rfl rfl (gle rfl) (fun _ _ _ _ h => h) ?_
        refine DW.stores ?_
        refine SV.zend ?_
        refine SV.tn ?_
        refine SV.cond rfl (fun hc3 => ?_) (fun hc3 => ?_)
        · skip   -- c3.T
          have ho : DiskD.read X name = none := by rw [hf, if_neg (by unfold FileD.whole; simp at hg5 hc3; simp [hg5, hc3])]
          refine SV.seq' ?_
          refine SV.region ?_
          refine SV.op (OpMk.ok (ok_lit0 (kk := 0) elt_impl_Row rfl rfl rfl (gle rfl))) rfl ?_
          refine SV.op (OpL.ok (nb := 1) (ok_move (v := V.one (.hd 0)) (.inr rfl) rfl) rfl (gle rfl)) rfl ?_
          refine SV.op (OpL.ok (nb := 1) (ok_move (v := V.one (.sc _)) (.inr rfl) rfl) rfl (gle rfl)) rfl ?_
          refine SV.nil ?_
          refine SV.tn ?_
          refine SV.ret ?_
          refine SV.tr ?_
          apply SV.done (hf := Tryz.results16) (ht := rfl) (he := .inl rfl)
          case hr => exact (ResAll.cons (ResOk.tmp (ag := false) (xs := [.hd 0]) rfl) (ResAll.cons (ResOk.tmp (ag := false) (xs := [.sc _]) rfl) ResAll.nil'))
          case h2 => simp [two]
          refine ⟨rfl, ⟨?_, trivial⟩, ⟨rfl, ⟨?_, trivial⟩, trivial⟩⟩ <;> (rw [ho]; rfl)
        · skip   -- c3.F
          have ho := hf.trans (if_pos (by unfold FileD.whole; simp at hg5 hc3; simp [hg5, hc3]))
          refine SV.skip ?_
          refine SV.tn ?_
          refine SV.seq' ?_
          refine SV.region ?_
          refine SV.op (OpL.ok (nb := 1) (ok_field_bp (b := 0) (o' := 0) (off := 0) rfl rfl fld_impl_Disk_0) rfl (gle rfl)) rfl ?_
          refine SV.op (OpL.ok (nb := 1) (ok_load_bp (b := 0) (i := 0) (ag := false) (m := 1) (ys := [.ro _]) rfl rfl rfl agg_s_impl_File sz_s_impl_File (fun _ => rfl) rfl rfl (gle rfl)) rfl (gle rfl)) rfl ?_
          refine SV.op (OpL.ok (nb := 1) (ok_move (v := V.one (.sc _)) (.inl rfl) rfl) rfl (gle rfl)) rfl ?_
          refine SV.op (OpL.ok (nb := 1) (ok_index (n := 4) (lf := .ro _) rfl elt_impl_File.und sz_impl_File rfl rfl rfl (map_at (by assumption))) rfl (gle rfl)) rfl ?_
          refine SV.op (OpL.ok (nb := 1) (ok_field_el (p := .rp _) (off := 1) rfl rfl rfl fld_impl_File_1) rfl (gle rfl)) rfl ?_
          refine SV.op (OpL.ok (nb := 1) (ok_load_rp (ag := false) (m := 1) (ys := [.ro _]) rfl rfl agg_s_impl_Page sz_s_impl_Page (fun _ => rfl) (gle rfl) rfl) rfl (gle rfl)) rfl ?_
          refine SV.op (OpMk.ok (ok_call (ls := [(false, [.hd 0])]) rfl rfl ⟨_, _, Tryz.func45, rfl, by decide⟩ (vunpack_s f.fPages hP (by omega)) ⟨⟨[.ro _], rfl, ⟨rfl, trivial⟩⟩, trivial⟩ rfl (gle rfl))) rfl ?_
          refine SV.op (OpL.ok (nb := 1) (ok_move (v := V.one (.hd 0)) (.inr rfl) rfl) rfl (gle rfl)) rfl ?_
          refine SV.op (OpL.ok (nb := 1) (ok_move (v := V.one (.sc _)) (.inr rfl) rfl) rfl (gle rfl)) rfl ?_
          refine SV.nil ?_
          refine SV.tn ?_
          refine SV.ret ?_
          apply SV.done (hf := Tryz.results16) (ht := rfl) (he := .inl rfl)
          case hr => exact (ResAll.cons (ResOk.tmp (ag := false) (xs := [.hd 0]) rfl) (ResAll.cons (ResOk.tmp (ag := false) (xs := [.sc _]) rfl) ResAll.nil'))
          case h2 => simp [two]
          refine ⟨rfl, ⟨?_, trivial⟩, ⟨rfl, ⟨?_, trivial⟩, trivial⟩⟩ <;> (rw [ho]; rfl)
end Go.Proofs.YtjdjceohlcimaaaGreatDoor
/- Calls that yield the address of an element of a slice that may only be read: told by trees. -/
namespace Go.Proofs.YtjdjceohlcimaaaGreatDoor.V
open Go Go.RowKit
set_option linter.unusedVariables false
variable {P : Program} {E : Env} {N nb : Nat} {σ : VS} {o : Oper} {w : World} {G : Ghost}
theorem ok_callPtR {d : Nat} {f : FuncId} {x0 : Operand} {xs : List Operand} {ats : Array TypeId} {qs : List (Bool × List T)} {n k : Nat} {ls : List Leaf} {ty : TypeId} {es : List (List T)} {e : List T} (ho : o.op = .call { callee := .value (.func f), args := (x0 :: xs).toArray, argTypes := ats }) (hb : ∃ fn c, P.funcs[f]? = some fn ∧ fn.body = some c ∧ fn.name ≠ "runtime.NumGoroutine")
    (hc : VPt P f qs n (some k)) (hx : σ.argss (x0 :: xs) qs) (h0 : σ.ev x0 = V.flat true (.ro (.seq ty es) :: ls)) (hz : Sz ty n) (he : es[k]? = some e) (hd : o.dst = some d) (hdN : d < N) : OpMk P E N none σ o (σ.put d ⟨true, [(false, [.rp e]), (false, [.sc (.bool true)])]⟩) :=
  fun a w G K Q h kk => by
    obtain ⟨fn, c, h1, h2, h2'⟩ := hb
    have hcall := hc w ((x0 :: xs).map a.eval) (h.args hx)
    have hrun : (execOp a.eval o).run P w = .ok (.enter f ((x0 :: xs).map a.eval).toArray) w := by
      simp [execOp, ho, resolve, Act.eval, Deferred.ofValue, invoke, callFunc, h1, h2, h2', Result.andThen]
    have hev := h.ev x0
    rw [h0, vflat] at hev
    obtain ⟨us, e1, e2, e3⟩ := hev
    obtain ⟨u0, hu0⟩ : ∃ u0, us[0]? = some u0 := ⟨us[0]'(by rw [e2]; simp), List.getElem?_eq_getElem _⟩
    obtain ⟨hi, -⟩ := e3 0 _ u0 rfl hu0
    have hi' : Inn E.old w (.seq ty es) u0 := hi
    cases hi' with
    | @seq ty es ad c n' hp hz' hn hc' hm ha0 b o' us' ha hb hcell hr =>
      have hnn := hz'.eq hz
      subst hnn
      have hkl := get_lt he
      have hne : es ≠ [] := fun hh => by rw [hh] at he; simp at he
      have had : ad = some ⟨b, o', none⟩ := by
        cases had : ad with
        | none => have := ha0 had; omega
        | some y => rw [ha y had hne]
      subst had
      unfold Oper.wp
      rw [hrun]
      refine hcall.mono fun r w' ⟨h7, _, h5⟩ => ?_
      obtain rfl := h5 k rfl us b o' es.length c (by show some (a.eval x0) = _; rw [e1]) hu0
      rw [hd]
      refine kk _ _ G ((h.ext h7).put hdN (vtwo ⟨⟨b, o' + k * n', fun j => us' (k * n' + j), rfl, (hb hne).1, fun j t hj => ⟨?_, ?_⟩⟩, .inr rfl⟩ ⟨rfl, .inr rfl⟩)) ⟨h7.size, .of_below (h7.mono h.low), fun _ _ => rfl, fun _ _ => rfl, fun b hb => .inl (h7.block b hb), fun i e1 e2 => absurd e2 (Nat.not_lt.2 e1)⟩
      · rw [Nat.add_assoc]
        exact (h7.cell (hb hne).2).trans (hcell k e j t he hj)
      · exact (hr k e j t he hj).frame h7.size fun b hb hb' => ⟨hb, h7.block b hb'⟩
theorem ok_nilcheckR {x : Operand} {es : List T} (ho : o.op = .nilCheck x) (hx : σ.ev x = V.one (.rp es)) : OpL P E N nb σ o (V.one (.rp es)) :=
  fun a w G h => ⟨a.eval x, fun v' _ => by
    have h0 := h.ev x
    rw [hx, vone] at h0
    obtain ⟨⟨b, q, us, h1, -⟩, -⟩ := h0
    simp [execOp, ho, h1], by rw [← hx]; exact h.ev x⟩
end Go.Proofs.YtjdjceohlcimaaaGreatDoor.V
/- The program's ReadFile: told by trees. -/
namespace Go.Proofs.YtjdjceohlcimaaaGreatDoor
open Go Go.RowKit V
set_option linter.unusedVariables false
set_option maxRecDepth 100000 in
set_option maxHeartbeats 2000000 in
theorem vwhole_i (x : FileD) (hP : ∀ p ∈ x.fPages, goodPage p) (hw : wtFile x ≤ 1000000000) : VCD Tryz.prog 43 [(true, tFile x)] false [(false, [.lit (.bool x.whole)])] := by
  refine VCD.enter Tryz.func43 rfl Tryz.ntmps43 (gle rfl) fun E hE hD => ?_
  have hw1 : wtPages x.fPages ≤ 1000000000 := hw
  have hw2 := wt_page_len x.fPages
  have hK : (R.fmtPages x.fPages).length ≤ 1000000000000 := by have := fmtPages_len x.fPages; omega
  refine SV.seq' ?_
  refine SV.region ?_
  refine SV.op (OpMk.ok (ok_box (kk := 0) (ag := true) (xs := [.sc _, .ro _, .sc _, .sc _]) rfl rfl rfl (fun h => by cases h) rfl rfl (gle rfl))) rfl ?_
  refine SV.op (OpL.ok (nb := 1) (ok_move (v := V.one (.sc _)) (.inr rfl) rfl) rfl (gle rfl)) rfl ?_
  refine SV.nil ?_
  refine SV.tn ?_
  refine SV.seq' ?_
  refine SV.draw [.q 0, .q 1, .q 2, .q 3, .q 4, .q 5, .q 6, .m 7, .q 8, .q 9, .q 10] [] (by kernel_rfl) (by kernel_rfl) ?_
  refine DW.q rfl (ok_field_bp (b := 0) (o' := 0) (off := 3) rfl rfl fld_impl_File_3) rfl rfl (gle rfl) (fun _ _ _ _ h => h) ?_
  refine DW.q rfl (ok_load_bp (b := 0) (i := 3) (ag := false) (m := 1) (ys := [.sc _]) rfl rfl rfl agg_bool sz_bool (fun _ => rfl) rfl rfl (gle rfl)) rfl rfl (gle rfl) (fun _ _ _ _ h => h) ?_
  refine DW.q rfl (ok_move (v := V.one (.sc _)) (.inl rfl) rfl) rfl rfl (gle rfl) (fun _ _ _ _ h => h) ?_
  refine DW.split (d := 5) rfl (fun hg0 => ?_) (fun hg0 => ?_)
  · skip   -- g0.T
    refine DW.qY rfl (ok_field_bp (b := 0) (o' := 0) (off := 2) rfl rfl fld_impl_File_2) rfl rfl rfl (gle rfl) rfl rfl rfl (gle rfl) (fun _ _ _ _ h => h) ?_
    refine DW.qY rfl (ok_load_bp (b := 0) (i := 2) (ag := false) (m := 1) (ys := [.sc _]) rfl rfl rfl agg_int sz_int (fun _ => rfl) rfl rfl (gle rfl)) rfl rfl rfl (gle rfl) rfl rfl rfl (gle rfl) (fun _ _ _ _ h => h) ?_
    refine DW.qY rfl (ok_field_bp (b := 0) (o' := 0) (off := 1) rfl rfl fld_impl_File_1) rfl rfl rfl (gle rfl) rfl rfl rfl (gle rfl) (fun _ _ _ _ h => h) ?_
    refine DW.qY rfl (ok_load_bp (b := 0) (i := 1) (ag := false) (m := 1) (ys := [.ro _]) rfl rfl rfl agg_s_impl_Page sz_s_impl_Page (fun _ => rfl) rfl rfl (gle rfl)) rfl rfl rfl (gle rfl) rfl rfl rfl (gle rfl) (fun _ _ _ _ h => h) ?_
    refine DW.m' [] rfl (ok_callD (ls := [(false, [.sc _])]) hD rfl rfl ⟨_, _, Tryz.func38, rfl, by decide⟩ (vcksp_i x.fPages hP (by omega) (by omega) hK) ⟨⟨[.ro _], rfl, ⟨rfl, trivial⟩⟩, trivial⟩ rfl (gle rfl)) (fun hr => wantedY hr rfl rfl rfl (gle rfl) rfl rfl) (gle rfl) (gle rfl) (.inl rfl) (fun j hj => by cases hj) ?_
    refine DW.qY rfl (ok_s2 (x := .tmp 7) (x' := .tmp 10) (VScal.one rfl) (VScal.one rfl) (fun ρ h1 h2 w => by go_simp; (try go_bits); with_reducible rfl) rfl) rfl rfl rfl (gle rfl) rfl rfl rfl (gle rfl) (fun _ _ _ _ h => h) ?_
    refine DW.q rfl (ok_pickT (v := V.one (.sc _)) rfl rfl rfl) rfl rfl (gle rfl) (fun _ _ _ _ h => h) ?_
    refine DW.q rfl (ok_move (v := V.one (.sc _)) (.inr rfl) rfl) rfl rfl (gle rfl) (fun _ _ _ _ h => h) ?_
    refine DW.stores ?_
    refine SV.zend ?_
    refine SV.tn ?_
    refine SV.ret ?_
    apply SV.done (hf := Tryz.results43) (ht := rfl) (he := .inl rfl)
    case hr => exact (ResAll.cons (ResOk.tmp (ag := false) (xs := [.sc _]) rfl) ResAll.nil')
    case h2 => simp [two]
    refine ⟨rfl, ⟨?_, trivial⟩, trivial⟩ <;> (show some (T.lit (Value.bool _)) = some (T.lit (Value.bool _)); refine congrArg (fun z => some (T.lit (Value.bool z))) ?_; unfold FileD.whole; first | (simp_all; done) | (simp_all; first | rfl | (rw [Bool.eq_iff_iff]; simp; done)))
  · skip   -- g0.F
    refine DW.qN (V' := V.one .dead) rfl rfl rfl rfl (gle rfl) rfl rfl rfl (gle rfl) (fun _ _ _ _ h => h) ?_
    refine DW.qN (V' := V.one .dead) rfl rfl rfl rfl (gle rfl) rfl rfl rfl (gle rfl) (fun _ _ _ _ h => h) ?_
    refine DW.qN (V' := V.one .dead) rfl rfl rfl rfl (gle rfl) rfl rfl rfl (gle rfl) (fun _ _ _ _ h => h) ?_
    refine DW.qN (V' := V.one .dead) rfl rfl rfl rfl (gle rfl) rfl rfl rfl (gle rfl) (fun _ _ _ _ h => h) ?_
    refine DW.mN rfl rfl rfl rfl (gle rfl) rfl rfl rfl (gle rfl) ?_
    refine DW.qN (V' := V.one .dead) rfl rfl rfl rfl (gle rfl) rfl rfl rfl (gle rfl) (fun _ _ _ _ h => h) ?_
    refine DW.q rfl (ok_pickF (v := V.one (.sc _)) rfl rfl rfl) rfl rfl (gle rfl) (fun _ _ _ _ h => h) ?_
    refine DW.q rfl (ok_move (v := V.one (.sc _)) (.inr rfl) rfl) rfl rfl (gle rfl) (fun _ _ _ _ h => h) ?_
    refine DW.stores ?_
    refine SV.zend ?_
    refine SV.tn ?_
    refine SV.ret ?_
    apply SV.done (hf := Tryz.results43) (ht := rfl) (he := .inl rfl)
    case hr => exact (ResAll.cons (ResOk.tmp (ag := false) (xs := [.sc _]) rfl) ResAll.nil')
    case h2 => simp [two]
    refine ⟨rfl, ⟨?_, trivial⟩, trivial⟩ <;> (show some (T.lit (Value.bool _)) = some (T.lit (Value.bool _)); refine congrArg (fun z => some (T.lit (Value.bool z))) ?_; unfold FileD.whole; first | (simp_all; done) | (simp_all; first | rfl | (rw [Bool.eq_iff_iff]; simp; done)))
set_option maxRecDepth 100000 in
set_option maxHeartbeats 2000000 in
theorem vread_i0 (X : DiskD) (name : Int) (hX : goodDisk X) (hL : wtDisk X ≤ 1000000000) (hf : DiskD.file X name = none) : VCD Tryz.prog 15 [(true, tDisk X), (false, [.lit (.int .i64 (name))])] true [(false, [.seq 72 (((DiskD.read X name).getD []).map tRow)]), (false, [.lit (.bool (DiskD.read X name).isSome)])] := by
  refine VCD.enter Tryz.func15 rfl Tryz.ntmps15 (gle rfl) fun E hE hD => ?_
  have ho : DiskD.read X name = none := DiskD.read_none hf
  have hv := vfind_i X name hX hL
  rw [hf] at hv
  refine SV.seq' ?_
  refine SV.region ?_
  refine SV.op (OpMk.ok (ok_box (kk := 0) (ag := true) (xs := [.ro _, .sc _]) rfl rfl rfl (fun h => by cases h) rfl rfl (gle rfl))) rfl ?_
  refine SV.op (OpL.ok (nb := 1) (ok_move (v := V.one (.sc _)) (.inr rfl) rfl) rfl (gle rfl)) rfl ?_
  refine SV.op (OpL.ok (nb := 1) (ok_move (v := V.one (.sc _)) (.inr rfl) rfl) rfl (gle rfl)) rfl ?_
  refine SV.nil ?_
  refine SV.tn ?_
  refine SV.seq' ?_
  refine SV.region ?_
  refine SV.op (OpL.ok (nb := 1) (ok_load_bp (b := 0) (i := 0) (ag := true) (m := 2) (ys := [.ro _, .sc _]) rfl rfl rfl agg_impl_Disk sz_impl_Disk (fun h => by cases h) rfl rfl (gle rfl)) rfl (gle rfl)) rfl ?_
  refine SV.op (OpL.ok (nb := 1) (ok_move (v := V.one (.sc _)) (.inl rfl) rfl) rfl (gle rfl)) rfl ?_
  refine SV.op (OpMk.ok (ok_callPt0 rfl ⟨_, _, Tryz.func30, rfl, by decide⟩ (hv) ⟨⟨[.ro _, .sc _], rfl, ⟨rfl, rfl, trivial⟩⟩, ⟨[.sc _], rfl, ⟨rfl, trivial⟩⟩, trivial⟩ rfl (gle rfl))) rfl ?_
  refine SV.op (OpL.ok (nb := 1) (ok_move (v := ⟨true, [(false, [.sc _]), (false, [.sc _])]⟩) (.inl rfl) rfl) rfl (gle rfl)) rfl ?_
  refine SV.op (OpL.ok (nb := 1) (ok_extract (ag := false) (xs := [.sc _]) rfl rfl rfl) rfl (gle rfl)) rfl ?_
  refine SV.op (OpL.ok (nb := 1) (ok_extract (ag := false) (xs := [.sc _]) rfl rfl rfl) rfl (gle rfl)) rfl ?_
  refine SV.op (OpL.ok (nb := 1) (ok_move (v := V.one (.sc _)) (.inr rfl) rfl) rfl (gle rfl)) rfl ?_
  refine SV.op (OpL.ok (nb := 1) (ok_move (v := V.one (.sc _)) (.inr rfl) rfl) rfl (gle rfl)) rfl ?_
  refine SV.nil ?_
  refine SV.tn ?_
  refine SV.seq' ?_
  refine SV.seq' ?_
  refine SV.region ?_
  refine SV.op (OpL.ok (nb := 1) (ok_move (v := V.one (.sc _)) (.inl rfl) rfl) rfl (gle rfl)) rfl ?_
  refine SV.op (OpL.ok (nb := 1) (ok_s1 (x := .tmp 14) (VScal.one rfl) (fun ρ h1 w => by go_simp; (try go_bits); with_reducible rfl) rfl) rfl (gle rfl)) rfl ?_
  refine SV.op (OpL.ok (nb := 1) (ok_move (v := V.one (.sc _)) (.inl rfl) rfl) rfl (gle rfl)) rfl ?_
  refine SV.split (d := 16) rfl (fun hg0 => ?_) (fun hg0 => ?_)
  · skip   -- g0.T
    refine SV.opN rfl rfl rfl (gle rfl) rfl rfl rfl (gle rfl) ?_
    refine SV.opN rfl rfl rfl (gle rfl) rfl rfl rfl (gle rfl) ?_
    refine SV.opN rfl rfl rfl (gle rfl) rfl rfl rfl (gle rfl) ?_
    refine SV.opN rfl rfl rfl (gle rfl) rfl rfl rfl (gle rfl) ?_
    refine SV.opN rfl rfl rfl (gle rfl) rfl rfl rfl (gle rfl) ?_
    refine SV.op (OpL.ok (nb := 1) (ok_pickT (v := V.one (.sc _)) rfl rfl rfl) rfl (gle rfl)) rfl ?_
    refine SV.nil ?_
    refine SV.tn ?_
    refine SV.cond rfl (fun hc0 => ?_) (fun hc0 => ?_)
    · skip   -- c0.T
      refine SV.seq' ?_
      refine SV.region ?_
      refine SV.op (OpL.ok (nb := 1) (ok_move (v := V.one (.sc _)) (.inr rfl) rfl) rfl (gle rfl)) rfl ?_
      refine SV.op (OpL.ok (nb := 1) (ok_move (v := V.one (.sc _)) (.inr rfl) rfl) rfl (gle rfl)) rfl ?_
      refine SV.nil ?_
      refine SV.tn ?_
      refine SV.ret ?_
      refine SV.tr ?_
      refine SV.nlsc (s := 4) (kk := 0) (n := 3) rfl rfl (by decide) sz_impl_Row (gle rfl) ?_
      apply SV.done (hf := Tryz.results15) (ht := rfl) (he := .inr rfl)
      case hr => exact (ResAll.cons (ResOk.tmp (ag := false) (xs := [.hd 0]) rfl) (ResAll.cons (ResOk.tmp (ag := false) (xs := [.sc _]) rfl) ResAll.nil'))
      case h2 => simp [two]
      refine ⟨rfl, ⟨?_, trivial⟩, ⟨rfl, ⟨?_, trivial⟩, trivial⟩⟩ <;> (rw [ho]; rfl)
    · skip   -- c0.F
      cases hc0
  · skip   -- g0.F
    simp at hg0
set_option maxRecDepth 100000 in
set_option maxHeartbeats 2000000 in
theorem vread_i1 (X : DiskD) (name : Int) (k : Nat) (f : FileD) (hX : goodDisk X) (hL : wtDisk X ≤ 1000000000) (hf : DiskD.file X name = some (k, f)) (hx : X.fFiles[k]? = some f) : VCD Tryz.prog 15 [(true, tDisk X), (false, [.lit (.int .i64 (name))])] true [(false, [.seq 72 (((DiskD.read X name).getD []).map tRow)]), (false, [.lit (.bool (DiskD.read X name).isSome)])] := by
  refine VCD.enter Tryz.func15 rfl Tryz.ntmps15 (gle rfl) fun E hE hD => ?_
  have hv := vfind_i X name hX hL
  rw [hf] at hv
  have hs := DiskD.read_eq hf
  have hkl : k < X.fFiles.length := get_lt hx
  have hP := (hX.1 f (get_mem hx)).2.1
  have hw1 : wtPages f.fPages ≤ wtDisk X := by
    have h4 := wt_file_at X.fFiles k hkl
    have h5 : X.fFiles[k] = f := by have := hx; rw [List.getElem?_eq_getElem hkl] at this; exact Option.some.inj this
    rw [h5] at h4; exact h4
  refine SV.seq' ?_
  refine SV.region ?_
  refine SV.op (OpMk.ok (ok_box (kk := 0) (ag := true) (xs := [.ro _, .sc _]) rfl rfl rfl (fun h => by cases h) rfl rfl (gle rfl))) rfl ?_
  refine SV.op (OpL.ok (nb := 1) (ok_move (v := V.one (.sc _)) (.inr rfl) rfl) rfl (gle rfl)) rfl ?_
  refine SV.op (OpL.ok (nb := 1) (ok_move (v := V.one (.sc _)) (.inr rfl) rfl) rfl (gle rfl)) rfl ?_
  refine SV.nil ?_
  refine SV.tn ?_
  refine SV.seq' ?_
  refine SV.region ?_
  refine SV.op (OpL.ok (nb := 1) (ok_load_bp (b := 0) (i := 0) (ag := true) (m := 2) (ys := [.ro _, .sc _]) rfl rfl rfl agg_impl_Disk sz_impl_Disk (fun h => by cases h) rfl rfl (gle rfl)) rfl (gle rfl)) rfl ?_
  refine SV.op (OpL.ok (nb := 1) (ok_move (v := V.one (.sc _)) (.inl rfl) rfl) rfl (gle rfl)) rfl ?_
  refine SV.op (OpMk.ok (ok_callPtR rfl ⟨_, _, Tryz.func30, rfl, by decide⟩ (hv) ⟨⟨[.ro _, .sc _], rfl, ⟨rfl, rfl, trivial⟩⟩, ⟨[.sc _], rfl, ⟨rfl, trivial⟩⟩, trivial⟩ rfl sz_impl_File (by rw [List.getElem?_map, hx]; rfl) rfl (gle rfl))) rfl ?_
  refine SV.op (OpL.ok (nb := 1) (ok_move (v := ⟨true, [(false, [.rp _]), (false, [.sc _])]⟩) (.inl rfl) rfl) rfl (gle rfl)) rfl ?_
  refine SV.op (OpL.ok (nb := 1) (ok_extract (ag := false) (xs := [.rp _]) rfl rfl rfl) rfl (gle rfl)) rfl ?_
  refine SV.op (OpL.ok (nb := 1) (ok_extract (ag := false) (xs := [.sc _]) rfl rfl rfl) rfl (gle rfl)) rfl ?_
  refine SV.op (OpL.ok (nb := 1) (ok_move (v := V.one (.rp _)) (.inr rfl) rfl) rfl (gle rfl)) rfl ?_
  refine SV.op (OpL.ok (nb := 1) (ok_move (v := V.one (.sc _)) (.inr rfl) rfl) rfl (gle rfl)) rfl ?_
  refine SV.nil ?_
  refine SV.tn ?_
  refine SV.seq' ?_
  refine SV.seq' ?_
  refine SV.region ?_
  refine SV.op (OpL.ok (nb := 1) (ok_move (v := V.one (.sc _)) (.inl rfl) rfl) rfl (gle rfl)) rfl ?_
  refine SV.op (OpL.ok (nb := 1) (ok_s1 (x := .tmp 14) (VScal.one rfl) (fun ρ h1 w => by go_simp; (try go_bits); with_reducible rfl) rfl) rfl (gle rfl)) rfl ?_
  refine SV.op (OpL.ok (nb := 1) (ok_move (v := V.one (.sc _)) (.inl rfl) rfl) rfl (gle rfl)) rfl ?_
  refine SV.split (d := 16) rfl (fun hg0 => ?_) (fun hg0 => ?_)
  · skip   -- g0.T
    simp at hg0
  · skip   -- g0.F
    refine SV.opY (OpL.ok (nb := 1) (ok_move (v := V.one (.rp _)) (.inl rfl) rfl) rfl (gle rfl)) rfl rfl rfl (gle rfl) rfl rfl ?_
    refine SV.opY (OpL.ok (nb := 1) (ok_nilcheckR rfl rfl) rfl (gle rfl)) rfl rfl rfl (gle rfl) rfl rfl ?_
    refine SV.opY (OpL.ok (nb := 1) (ok_load_rp (ag := true) (m := 4) (ys := [.sc _, .ro _, .sc _, .sc _]) rfl rfl agg_impl_File sz_impl_File (fun h => by cases h) (gle rfl) rfl) rfl (gle rfl)) rfl rfl rfl (gle rfl) rfl rfl ?_
    refine SV.opY (OpMk.ok (ok_callD (ls := [(false, [.sc _])]) hD rfl rfl ⟨_, _, Tryz.func43, rfl, by decide⟩ (vwhole_i f hP (by show wtPages f.fPages ≤ _; omega)) ⟨⟨[.sc _, .ro _, .sc _, .sc _], rfl, ⟨rfl, rfl, rfl, rfl, trivial⟩⟩, trivial⟩ rfl (gle rfl))) rfl rfl rfl (gle rfl) rfl rfl ?_
    refine SV.opY (OpL.ok (nb := 1) (ok_s1 (x := .tmp 20) (VScal.one rfl) (fun ρ h1 w => by go_simp; (try go_bits); with_reducible rfl) rfl) rfl (gle rfl)) rfl rfl rfl (gle rfl) rfl rfl ?_
    refine SV.op (OpL.ok (nb := 1) (ok_pickF (v := V.one (.sc _)) rfl rfl rfl) rfl (gle rfl)) rfl ?_
    refine SV.nil ?_
    refine SV.tn ?_
    refine SV.cond rfl (fun hc0 => ?_) (fun hc0 => ?_)
    · skip   -- c0.T
      have ho : DiskD.read X name = none := by rw [hs, if_neg (by simpa using hc0)]
      refine SV.seq' ?_
      refine SV.region ?_
      refine SV.op (OpL.ok (nb := 1) (ok_move (v := V.one (.sc _)) (.inr rfl) rfl) rfl (gle rfl)) rfl ?_
      refine SV.op (OpL.ok (nb := 1) (ok_move (v := V.one (.sc _)) (.inr rfl) rfl) rfl (gle rfl)) rfl ?_
      refine SV.nil ?_
      refine SV.tn ?_
      refine SV.ret ?_
      refine SV.tr ?_
      refine SV.nlsc (s := 4) (kk := 0) (n := 3) rfl rfl (by decide) sz_impl_Row (gle rfl) ?_
      apply SV.done (hf := Tryz.results15) (ht := rfl) (he := .inr rfl)
      case hr => exact (ResAll.cons (ResOk.tmp (ag := false) (xs := [.hd 0]) rfl) (ResAll.cons (ResOk.tmp (ag := false) (xs := [.sc _]) rfl) ResAll.nil'))
      case h2 => simp [two]
      refine ⟨rfl, ⟨?_, trivial⟩, ⟨rfl, ⟨?_, trivial⟩, trivial⟩⟩ <;> (rw [ho]; rfl)
    · skip   -- c0.F
      have ho := hs.trans (if_pos (by simpa using hc0))
      refine SV.skip ?_
      refine SV.tn ?_
      refine SV.seq' ?_
      refine SV.region ?_
      refine SV.op (OpL.ok (nb := 1) (ok_move (v := V.one (.rp _)) (.inl rfl) rfl) rfl (gle rfl)) rfl ?_
      refine SV.op (OpL.ok (nb := 1) (ok_nilcheckR rfl rfl) rfl (gle rfl)) rfl ?_
      refine SV.op (OpL.ok (nb := 1) (ok_field_el (p := .rp _) (off := 1) rfl rfl rfl fld_impl_File_1) rfl (gle rfl)) rfl ?_
      refine SV.op (OpL.ok (nb := 1) (ok_load_rp (ag := false) (m := 1) (ys := [.ro _]) rfl rfl agg_s_impl_Page sz_s_impl_Page (fun _ => rfl) (gle rfl) rfl) rfl (gle rfl)) rfl ?_
      refine SV.op (OpMk.ok (ok_call (ls := [(false, [.hd 0])]) rfl rfl ⟨_, _, Tryz.func44, rfl, by decide⟩ (vunpack_i f.fPages hP (by omega)) ⟨⟨[.ro _], rfl, ⟨rfl, trivial⟩⟩, trivial⟩ rfl (gle rfl))) rfl ?_
      refine SV.op (OpL.ok (nb := 1) (ok_move (v := V.one (.hd 0)) (.inr rfl) rfl) rfl (gle rfl)) rfl ?_
      refine SV.op (OpL.ok (nb := 1) (ok_move (v := V.one (.sc _)) (.inr rfl) rfl) rfl (gle rfl)) rfl ?_
      refine SV.nil ?_
      refine SV.tn ?_
      refine SV.ret ?_
      apply SV.done (hf := Tryz.results15) (ht := rfl) (he := .inl rfl)
      case hr => exact (ResAll.cons (ResOk.tmp (ag := false) (xs := [.hd 0]) rfl) (ResAll.cons (ResOk.tmp (ag := false) (xs := [.sc _]) rfl) ResAll.nil'))
      case h2 => simp [two]
      refine ⟨rfl, ⟨?_, trivial⟩, ⟨rfl, ⟨?_, trivial⟩, trivial⟩⟩ <;> (rw [ho]; rfl)
end Go.Proofs.YtjdjceohlcimaaaGreatDoor
/- ReadFile, whole: told by trees. -/
namespace Go.Proofs.YtjdjceohlcimaaaGreatDoor
open Go Go.RowKit V
set_option linter.unusedVariables false
theorem vread_s (X : DiskD) (name : Int) (hX : goodDisk X) (hL : wtDisk X ≤ 1000000000) : VC Tryz.prog 16 [(true, tDisk X), (false, [.lit (.int .i64 name)])] true [(false, [.seq 72 (((DiskD.read X name).getD []).map tRow)]), (false, [.lit (.bool (DiskD.read X name).isSome)])] := vread_s0 X name _ hX hL rfl
theorem vread_i (X : DiskD) (name : Int) (hX : goodDisk X) (hL : wtDisk X ≤ 1000000000) : VCD Tryz.prog 15 [(true, tDisk X), (false, [.lit (.int .i64 name)])] true [(false, [.seq 72 (((DiskD.read X name).getD []).map tRow)]), (false, [.lit (.bool (DiskD.read X name).isSome)])] := by
  cases h : DiskD.file X name with
  | none => exact vread_i0 X name hX hL h
  | some kf => exact vread_i1 X name kf.1 kf.2 hX hL h (DiskD.file_get h)
end Go.Proofs.YtjdjceohlcimaaaGreatDoor
/- A state told anew in short words: only the slots and objects that are still wanted. -/
namespace Go.Proofs.YtjdjceohlcimaaaGreatDoor.V
open Go Go.RowKit
set_option linter.unusedVariables false
def lookV : List (Nat × V) → Nat → V
  | [], _ => V.one .dead
  | (d, v) :: L, s => bif Nat.beq s d then v else lookV L s
def lookO : List (Nat × Nat × T) → Nat → Option (Nat × T)
  | [], _ => none
  | (d, v, t) :: L, i => bif Nat.beq i d then some (v, t) else lookO L i
abbrev VS.of (L : List (Nat × V)) (B : List (TypeId × List Leaf)) (O : List (Nat × Nat × T)) (n : Nat) : VS := ⟨lookV L, B, lookO O, n⟩
def allV (σ : VS) : List (Nat × V) → Prop
  | [] => True
  | (d, v) :: L => σ.tm d = v ∧ allV σ L
def allO (σ : VS) : List (Nat × Nat × T) → Prop
  | [] => True
  | (i, v, t) :: L => σ.ob i = some (v, t) ∧ allO σ L
theorem lookV_or {σ : VS} : ∀ {L : List (Nat × V)}, allV σ L → ∀ s, lookV L s = σ.tm s ∨ lookV L s = V.one .dead
  | [], _, s => .inr rfl
  | (d, v) :: L, h, s => by
    show (bif Nat.beq s d then v else lookV L s) = _ ∨ (bif Nat.beq s d then v else lookV L s) = _
    cases hb : Nat.beq s d with
    | true =>
      rw [Nat.eq_of_beq_eq_true hb]
      exact .inl h.1.symm
    | false => exact lookV_or h.2 s
theorem lookO_or {σ : VS} : ∀ {O : List (Nat × Nat × T)}, allO σ O → ∀ i, lookO O i = σ.ob i ∨ lookO O i = none
  | [], _, i => .inr rfl
  | (d, v, t) :: O, h, i => by
    show (bif Nat.beq i d then some (v, t) else lookO O i) = _ ∨ (bif Nat.beq i d then some (v, t) else lookO O i) = _
    cases hb : Nat.beq i d with
    | true =>
      rw [Nat.eq_of_beq_eq_true hb]
      exact .inl h.1.symm
    | false => exact lookO_or h.2 i
theorem Holds.forget {G : Ghost} {σ τ : VS} {E : Env} {w : World} {x : Leaf} {u : Value} (hn : τ.nx = σ.nx) (hb : τ.bs = σ.bs) (ho : ∀ i, τ.ob i = σ.ob i ∨ τ.ob i = none) (h : Holds G σ E w x u) : Holds G τ E w x u := by
  refine ⟨?_, h.2⟩
  have h1 := h.1
  cases x with
  | dead => trivial
  | sc v => exact h1
  | nl ty => exact h1
  | ro t => exact h1
  | rp es => exact h1
  | hd i => exact ⟨by rw [hn]; exact h1.1, h1.2⟩
  | nd i ver t loc =>
    rcases ho i with e | e
    · unfold Holds0 at h1 ⊢
      simp only [e, hn]
      exact h1
    · refine ⟨by rw [hn]; exact h1.1, fun v t' h => (by rw [e] at h; cases h), fun ⟨t', h⟩ => (by rw [e] at h; cases h)⟩
  | np i ver es =>
    rcases ho i with e | e
    · unfold Holds0 at h1 ⊢
      simp only [e, hn]
      exact h1
    · refine ⟨by rw [hn]; exact h1.1, fun v t' h => (by rw [e] at h; cases h), fun ⟨t', h⟩ => (by rw [e] at h; cases h)⟩
  | ep i k n o => exact ⟨by rw [hn]; exact h1.1, h1.2⟩
  | bp b o => exact ⟨by rw [hb]; exact h1.1, h1.2⟩
theorem VHolds.forget {G : Ghost} {σ τ : VS} {E : Env} {w : World} {v : V} {u : Value} (hn : τ.nx = σ.nx) (hb : τ.bs = σ.bs) (ho : ∀ i, τ.ob i = σ.ob i ∨ τ.ob i = none) (h : VHolds G σ E w v u) : VHolds G τ E w v u := by
  obtain ⟨uss, h1, h2, h3⟩ := h
  exact ⟨uss, h1, h2, fun c ag xs us a b => ⟨(h3 c ag xs us a b).1, fun j x u p q => ((h3 c ag xs us a b).2 j x u p q).forget hn hb ho⟩⟩
theorem Rel.forget {E : Env} {N n : Nat} {σ : VS} {a : Act} {w : World} {G : Ghost} {L : List (Nat × V)} {B : List (TypeId × List Leaf)} {O : List (Nat × Nat × T)} (hL : allV σ L) (hB : σ.bs = B) (hO : allO σ O) (hn : σ.nx = n) (h : Rel E N σ a w G) : Rel E N (VS.of L B O n) a w G := by
  have hn' : (VS.of L B O n).nx = σ.nx := hn.symm
  have hb' : (VS.of L B O n).bs = σ.bs := hB.symm
  have ho' : ∀ i, (VS.of L B O n).ob i = σ.ob i ∨ (VS.of L B O n).ob i = none := lookO_or hO
  have live : ∀ i, (VS.of L B O n).ob i ≠ none → (VS.of L B O n).ob i = σ.ob i := fun i hi => (ho' i).resolve_right hi
  refine ⟨h.below, h.dfr, h.nsz, fun s => ?_, fun b ty xs hb => ?_, fun b b' h1 h2 => h.inj b b' (by rw [← hb']; exact h1) (by rw [← hb']; exact h2), fun b i h1 h2 => h.boxft b i (by rw [← hb']; exact h1) (by rw [← live i h2]; exact h2), fun i ver t hi => ?_, fun i j b hi hj => h.disj i j b (by rw [← live i hi]; exact hi) (by rw [← live j hj]; exact hj), fun i b hi => h.ftlt i b (by rw [← live i hi]; exact hi), ⟨by rw [hn']; exact h.lent.1, h.lent.2.1, fun c hc => by rw [hb']; exact h.lent.2.2 c hc⟩⟩
  · rcases lookV_or hL s with e | e
    · show VHolds G _ E w (lookV L s) _
      rw [e]
      exact (h.tmps s).forget hn' hb' ho'
    · show VHolds G _ E w (lookV L s) _
      rw [e, vone]
      exact ⟨trivial, .inl rfl⟩
  · rw [hb'] at hb
    obtain ⟨h1, us, h2, h3, h4⟩ := h.boxes b ty xs hb
    exact ⟨h1, us, h2, h3, fun j x u p q => ⟨((h4 j x u p q).1).forget hn' hb' ho', (h4 j x u p q).2⟩⟩
  · have e := live i (by rw [hi]; simp)
    obtain ⟨h1, h2, h3⟩ := h.objs i ver t (by rw [← e]; exact hi)
    exact ⟨by rw [hn']; exact h1, h2, h3⟩
theorem SV.forget {E : Env} {N n : Nat} {σ : VS} {K : Act → World → Prop} {L : List (Nat × V)} {B : List (TypeId × List Leaf)} {O : List (Nat × Nat × T)} (hL : allV σ L) (hB : σ.bs = B) (hO : allO σ O) (hn : σ.nx = n) (k : SV E N (VS.of L B O n) K) : SV E N σ K := fun a w G h => k a w G (h.forget hL hB hO hn)
theorem DW.forget {E : Env} {N n : Nat} {τ σ : VS} {fr : List Nat} {cl : Bool} {Ψ : World → Ghost → Act → World → Prop} {L : List (Nat × V)} {B : List (TypeId × List Leaf)} {O : List (Nat × Nat × T)} (hL : allV σ L) (hB : σ.bs = B) (hO : allO σ O) (hn : σ.nx = n) (k : DW E N τ fr false (VS.of L B O n) Ψ) : DW E N τ fr cl σ Ψ := fun ws Gs a w G h l =>
  k ws Gs a w G (h.forget hL hB hO hn) ⟨l.start, l.same, l.vl, l.β, by rw [show (VS.of L B O n).nx = σ.nx from hn.symm]; exact l.nx, by rw [show (VS.of L B O n).bs = σ.bs from hB.symm]; exact l.bs, fun i hi => ⟨by rw [show (VS.of L B O n).nx = σ.nx from hn.symm]; exact (l.fresh i hi).1, (l.fresh i hi).2⟩, fun h => by cases h⟩
end Go.Proofs.YtjdjceohlcimaaaGreatDoor.V
/- A region that draws its order, along a plan that lists its operations one by one to the end: a lighter test of the plan, for large regions. -/
namespace Go.Proofs.YtjdjceohlcimaaaGreatDoor
open Go
set_option linter.unusedVariables false
section
variable {ops : Array Oper} {md : Region.Mode}
def waitAt (md : Region.Mode) (ops : Array Oper) (i : Nat) (D : Array Bool) (k : Nat) : Bool :=
  match ops[k]? with | some o => o.after.any (fun e => Region.binds md e && (e.on == i || D.getD e.on false)) | none => false
def waitN (md : Region.Mode) (ops : Array Oper) (i n : Nat) : Array Bool := (List.range n).foldl (fun D k => D.push (waitAt md ops i D k)) #[]
theorem waitN_succ (i n : Nat) : waitN md ops i (n + 1) = (waitN md ops i n).push (waitAt md ops i (waitN md ops i n) n) := by
  unfold waitN
  rw [List.range_succ, List.foldl_append]
  rfl
theorem waitN_size (i : Nat) : ∀ n, (waitN md ops i n).size = n
  | 0 => rfl
  | n + 1 => by rw [waitN_succ, Array.size_push, waitN_size i n]
theorem getD_push_lt {D : Array Bool} {x b : Bool} {d : Nat} (h : d < D.size) : (D.push x).getD d b = D.getD d b := by
  simp only [Array.getD_eq_getD_getElem?]
  rw [Array.getElem?_push_lt h, Array.getElem?_eq_getElem h]
theorem getD_push_eq {D : Array Bool} {x b : Bool} : (D.push x).getD D.size b = x := by simp [Array.getD_eq_getD_getElem?]
theorem getD_ge {D : Array Bool} {d : Nat} (h : D.getD d false = true) : d < D.size := by
  rcases Nat.lt_or_ge d D.size with h1 | h1
  · exact h1
  · simp [Array.getD_eq_getD_getElem?, Array.getElem?_eq_none h1] at h
theorem waitN_at (i : Nat) : ∀ n d, d < n → (waitN md ops i n).getD d false = waitAt md ops i (waitN md ops i d) d
  | n + 1, d, h => by
    rw [waitN_succ]
    rcases Nat.lt_or_ge d n with h1 | h1
    · rw [getD_push_lt (by rw [waitN_size]; exact h1)]
      exact waitN_at i n d h1
    · have e : d = n := by omega
      subst e
      have := getD_push_eq (D := waitN md ops i d) (x := waitAt md ops i (waitN md ops i d) d) (b := false)
      rwa [waitN_size] at this
theorem waitN_pre (i : Nat) {n d e : Nat} (hd : d ≤ n) (he : e < d) : (waitN md ops i d).getD e false = (waitN md ops i n).getD e false := by
  rw [waitN_at i d e he, waitN_at i n e (Nat.lt_of_lt_of_le he hd)]
theorem waiters_eq (i : Nat) : waiters md ops i = waitN md ops i ops.size := rfl
theorem waiters_spec {i d : Nat} (h : (waiters md ops i).getD d false = true) : d < ops.size ∧ ∃ o, ops[d]? = some o ∧ ∃ e ∈ o.after, Region.binds md e = true ∧ (e.on = i ∨ ((waiters md ops i).getD e.on false = true ∧ e.on < d)) := by
  rw [waiters_eq] at h ⊢
  have hd := getD_ge h
  rw [waitN_size] at hd
  rw [waitN_at i _ d hd] at h
  refine ⟨hd, ?_⟩
  unfold waitAt at h
  cases ho : ops[d]? with
  | none => rw [ho] at h; cases h
  | some o =>
    rw [ho] at h
    obtain ⟨e, he, hb⟩ := Array.any_eq_true'.1 h
    simp only [Bool.and_eq_true, Bool.or_eq_true, beq_iff_eq] at hb
    refine ⟨o, rfl, e, he, hb.1, ?_⟩
    rcases hb.2 with h1 | h1
    · exact .inl h1
    · have h2 := getD_ge h1
      rw [waitN_size] at h2
      exact .inr ⟨by rw [← waitN_pre i (Nat.le_of_lt hd) h2]; exact h1, h2⟩
def Closed (md : Region.Mode) (ops : Array Oper) (listed : Array Bool) : Prop := ∀ d o, ops[d]? = some o → listed.getD d false = true → ∀ e ∈ o.after, Region.binds md e = true → listed.getD e.on false = true
theorem getD_tf {L : Array Bool} {i : Nat} (h : L.getD i true = false) : L.getD i false = false := by
  rcases Nat.lt_or_ge i L.size with h' | h'
  · simp [h'] at h ⊢; exact h
  · simp [Array.getElem?_eq_none h'] at h ⊢
theorem getD_set_mono {L : Array Bool} {i d : Nat} (h : L.getD d false = true) : (L.setIfInBounds i true).getD d false = true := by
  by_cases e : i = d
  · subst e
    have := getD_ge h
    simp [Array.getD_eq_getD_getElem?, Array.getElem?_setIfInBounds, this]
  · rw [getD_set_ne false e]; exact h
theorem Closed.set {listed : Array Bool} {i : Nat} (hc : Closed md ops listed) (hr : i ∈ Region.ready md ops listed) : Closed md ops (listed.setIfInBounds i true) := fun d o ho hd e he hb => by
  by_cases h : i = d
  · subst h
    obtain ⟨-, o', ho', h1⟩ := mem_ready.1 hr
    rw [ho] at ho'
    cases ho'
    exact getD_set_mono (h1 e he hb)
  · rw [getD_set_ne false h] at hd
    exact getD_set_mono (hc d o ho hd e he hb)
theorem Closed.unlisted {listed : Array Bool} {i : Nat} (hc : Closed md ops listed) (hi : listed.getD i false = false) : ∀ d, (waiters md ops i).getD d false = true → listed.getD d false = false := fun d => by
  induction d using Nat.strongRecOn with
  | _ d ih =>
    intro h
    obtain ⟨-, o, ho, e, he, hb, h1⟩ := waiters_spec h
    cases hl : listed.getD d false with
    | false => rfl
    | true =>
      have h2 := hc d o ho hl e he hb
      rcases h1 with h1 | ⟨h1, h3⟩
      · rw [h1, hi] at h2; cases h2
      · rw [ih _ h3 h1] at h2; cases h2
def planL (md : Region.Mode) (ops : Array Oper) : Pl → Array Bool → Bool
  | .nil, listed => (Region.ready md ops listed).isEmpty
  | .q i ps, listed => (Region.ready md ops listed).contains i && Region.free md ops listed i && planL md ops ps (listed.setIfInBounds i true)
  | .m i ps, listed => decide (Region.ready md ops listed = [i]) && planL md ops ps (listed.setIfInBounds i true)
  | .alt .., _ => false
def planLB (md : Region.Mode) (ops : Array Oper) (ps : Pl) : Bool := Region.noSelect ops && decide (ps.len = ops.size) && planL md ops ps (Array.replicate ops.size false)
theorem planL_P : ∀ (ps : Pl) (listed : Array Bool), Closed md ops listed → planL md ops ps listed = true → planP md ops [] ps listed = true
  | .nil, listed, _, h => h
  | .alt .., _, _, h => by cases h
  | .m i ps, listed, hc, h => by
    simp only [planL, Bool.and_eq_true, decide_eq_true_eq] at h
    have hr : i ∈ Region.ready md ops listed := by rw [h.1]; exact List.mem_singleton.2 rfl
    simp only [planP, Bool.and_eq_true, decide_eq_true_eq]
    exact ⟨⟨h.1, rfl⟩, planL_P ps _ (hc.set hr) h.2⟩
  | .q i ps, listed, hc, h => by
    simp only [planL, Bool.and_eq_true] at h
    have hr : i ∈ Region.ready md ops listed := by simpa using h.1.1
    obtain ⟨hu, oi, hoi, hdeps⟩ := mem_ready.1 hr
    have hi := getD_tf hu
    have hn := hc.unlisted hi
    simp only [planP, Bool.and_eq_true, Bool.not_eq_true']
    refine ⟨⟨⟨h.1, ?_⟩, ?_⟩, planL_P ps _ (hc.set hr) h.2⟩
    · unfold lateB
      rw [List.all_eq_true]
      intro d hd
      simp only [Bool.and_eq_true, Bool.or_eq_true, Bool.not_eq_true']
      refine ⟨.inl rfl, ?_⟩
      cases hw : (waiters md ops i).getD d false with
      | false => exact .inl rfl
      | true =>
        refine .inr ⟨hn d hw, ?_⟩
        obtain ⟨hds, o, ho, e, he, hb, h1⟩ := waiters_spec hw
        rw [ho]
        refine Array.any_eq_true'.2 ⟨e, he, ?_⟩
        simp only [Bool.and_eq_true, Bool.or_eq_true, beq_iff_eq, decide_eq_true_eq]
        exact ⟨hb, h1.imp id fun h2 => ⟨h2.1, Nat.lt_trans h2.2 hds⟩⟩
    · cases hw : (waiters md ops i).getD i false with
      | false => rfl
      | true =>
        obtain ⟨-, o, ho, e, he, hb, h1⟩ := waiters_spec hw
        rw [hoi] at ho
        cases ho
        have h2 := hdeps e he hb
        rcases h1 with h1 | ⟨h1, -⟩
        · rw [h1, hi] at h2; cases h2
        · rw [hn _ h1] at h2; cases h2
theorem planLB_ok {ps : Pl} (h : planLB md ops ps = true) : planB md ops ps [] = true := by
  unfold planLB at h
  simp only [Bool.and_eq_true] at h
  unfold planB
  simp only [Bool.and_eq_true]
  refine ⟨⟨h.1.1, h.1.2⟩, planL_P ps _ (fun d o _ hd => ?_) h.2⟩
  simp only [Array.getD_eq_getD_getElem?, Array.getElem?_replicate] at hd
  split at hd <;> cases hd
end
namespace V
variable {P : Program} {E : Env} {N : Nat} {τ : VS} {Q : Exit → Act → World → Prop}
theorem SV.drawL {id : Nat} {l : List Oper} (ps : Pl) (hm : P.follows .mixedOrders = true) (hB : planLB .any l.toArray ps = true) (h : DW E N τ [] true τ fun ws Gs a w => wpPi P l.toArray Q (SW E τ ws Gs) [] ps a w) : SV E N τ ((Code.region id l.toArray true).wp P Q) := SV.drawT ps [] hm (planLB_ok hB) h
end V
end Go.Proofs.YtjdjceohlcimaaaGreatDoor
