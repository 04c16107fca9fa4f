/- Texts joined: SealS UnpackS Unpacki UnpackT ReadS VPt FindI FindT CloneT Frowi Strs. -/
import Derived.Test.YtmlcdhblofjpbaaDoorPartDeleteUnreadableFilesj
import Derived.Deep.CutRange
import Derived.Deep.RegionHeld3
import Derived.Lib.SmallJoins
import Derived.Deep.OwnRows
/- The reference's SealFile: told by trees. -/
namespace Go.Proofs.YtmlcdhblofjpbaaDoor
open Go Go.RowKit V
set_option linter.unusedVariables false
theorem DiskD.atI_cases (F : List FileD) (name : Int) : (DiskD.at? F name = none ∧ DiskD.atI F name = -1) ∨ ∃ (k : Nat) (f : FileD), DiskD.at? F name = some k ∧ F[k]? = some f ∧ DiskD.atI F name = (k : Int) := by
  unfold DiskD.atI
  cases h : DiskD.at? F name with
  | none => exact .inl ⟨rfl, rfl⟩
  | some k => obtain ⟨f, hf, -⟩ := DiskD.at_some h; exact .inr ⟨k, f, rfl, hf, rfl⟩
theorem fmtPages_len (P : List (List R)) : (R.fmtPages P).length ≤ 218 * P.length := by
  have h : ∀ Q : List (List R), (Q.flatMap R.pageTxt).length ≤ 218 * Q.length := fun Q => by
    induction Q with
    | nil => simp
    | cons q Q ih =>
      have h1 := fmtRows_length q
      have h2 : (R.pageTxt q).length = (fmtRows q).length + 2 := by simp [R.pageTxt]
      rw [List.flatMap_cons, List.length_append, List.length_cons]
      omega
  unfold R.fmtPages
  split
  · exact h P
  · simp
theorem vat_s' (X : DiskD) (name ki : Int) (hX : goodDisk X) (h : DiskD.atI X.fFiles name = ki) : VC Tryd.prog 106 [(true, tDisk X), (false, [.lit (.int .i64 name)])] false [(false, [.lit (.int .i64 ki)])] := h ▸ vat_s X name hX
theorem vck_s (l : List UInt8) (hl : l.length ≤ 1000000000000) : VC Tryd.prog 107 [(false, [.lit (.string ⟨l.toArray⟩)])] false [(false, [.lit (.int .i64 ((ck l : Nat) : Int))])] :=
  VC.plain (ins := [(false, [.string ⟨l.toArray⟩])]) (ag := false) (rs := [.int .i64 ((ck l : Nat) : Int)]) (fun u hu => by rw [List.mem_singleton.1 hu]; rfl) (fun w => (scheck ⟨l.toArray⟩ w (by show l.toArray.size ≤ _; simpa using hl)).mono fun e w' ⟨he, hw⟩ => ⟨he, hw ▸ Below.refl _ _⟩)
set_option maxRecDepth 100000 in
set_option maxHeartbeats 2000000 in
theorem vseal_s0 (X : DiskD) (name ki : Int) (hX : goodDisk X) (hL : wtDisk X ≤ 1000000000) (hki : DiskD.atI X.fFiles name = ki) : VC Tryd.prog 115 [(true, tDisk X), (false, [.lit (.int .i64 (name))])] true [(true, tDisk ((DiskD.sealF X name).getD X)), (false, [.lit (.bool (DiskD.sealF X name).isSome)])] := by
  refine VC.enter Tryd.func115 rfl Tryd.ntmps115 (Nat.le_of_ble_eq_true rfl) fun E hE => ?_
  refine SV.seq' ?_
  refine SV.region ?_
  refine SV.op (OpMk.ok (ok_box (kk := 0) (ag := true) (xs := [.ro _, .sc _]) rfl rfl rfl (fun h => by cases h) rfl rfl (Nat.le_of_ble_eq_true rfl))) rfl ?_
  refine SV.op (OpMk.ok (ok_alloc (kk := 1) (xs := [.nl _, .sc _]) rfl rfl zero_impl_Disk ⟨rfl, ⟨4, by decide, sz_impl_File⟩, rfl, rfl, trivial⟩ rfl (Nat.le_of_ble_eq_true rfl))) rfl ?_
  refine SV.op (OpL.ok (nb := 2) (ok_move (v := V.one (.sc _)) (.inr rfl) rfl) rfl (Nat.le_of_ble_eq_true rfl)) rfl ?_
  refine SV.nil ?_
  refine SV.tn ?_
  refine SV.seq' ?_
  refine SV.region ?_
  refine SV.op (OpL.ok (nb := 2) (ok_load_bp (b := 0) (i := 0) (ag := true) (m := 2) (ys := [.ro _, .sc _]) rfl rfl rfl agg_impl_Disk sz_impl_Disk (fun h => by cases h) rfl rfl (Nat.le_of_ble_eq_true rfl)) rfl (Nat.le_of_ble_eq_true rfl)) rfl ?_
  refine SV.op (OpMk.ok (ok_call (ls := [(true, [.hd 0, .sc _])]) rfl rfl ⟨_, _, Tryd.func70, rfl, by decide⟩ (vcopy_s X hL) ⟨⟨[.ro _, .sc _], rfl, ⟨rfl, rfl, trivial⟩⟩, trivial⟩ rfl (Nat.le_of_ble_eq_true rfl))) rfl ?_
  refine SV.op (OpMk.ok (ok_alloc (kk := 2) (xs := [.nl _, .sc _]) rfl rfl zero_impl_Disk ⟨rfl, ⟨4, by decide, sz_impl_File⟩, rfl, rfl, trivial⟩ rfl (Nat.le_of_ble_eq_true rfl))) rfl ?_
  refine SV.op (ok_store_bp (b := 2) (i := 0) (m := 2) (ag := true) (zs := [.hd 0, .sc _]) (ys := [.hd 0, .sc _]) rfl rfl rfl rfl sz_impl_Disk (fun h => by cases h) rfl (Nat.le_of_ble_eq_true rfl) rfl rfl rfl) rfl ?_
  refine SV.nil ?_
  refine SV.tn ?_
  refine SV.seq' ?_
  refine SV.region ?_
  refine SV.op (OpL.ok (nb := 3) (ok_load_bp (b := 0) (i := 0) (ag := true) (m := 2) (ys := [.ro _, .sc _]) rfl rfl rfl agg_impl_Disk sz_impl_Disk (fun h => by cases h) rfl rfl (Nat.le_of_ble_eq_true rfl)) rfl (Nat.le_of_ble_eq_true rfl)) rfl ?_
  refine SV.op (OpL.ok (nb := 3) (ok_move (v := V.one (.sc _)) (.inl rfl) rfl) rfl (Nat.le_of_ble_eq_true rfl)) rfl ?_
  refine SV.op (OpMk.ok (ok_call (ls := [(false, [.sc _])]) rfl rfl ⟨_, _, Tryd.func106, rfl, by decide⟩ (vat_s' X name ki hX hki) ⟨⟨[.ro _, .sc _], rfl, ⟨rfl, rfl, trivial⟩⟩, ⟨[.sc _], rfl, ⟨rfl, trivial⟩⟩, trivial⟩ rfl (Nat.le_of_ble_eq_true rfl))) rfl ?_
  refine SV.op (OpL.ok (nb := 3) (ok_move (v := V.one (.sc _)) (.inr rfl) rfl) rfl (Nat.le_of_ble_eq_true rfl)) rfl ?_
  refine SV.nil ?_
  refine SV.tn ?_
  refine SV.seq' ?_
  refine SV.seq' ?_
  refine SV.region ?_
  refine SV.op (OpL.ok (nb := 3) (ok_load_bp (b := 0) (i := 0) (ag := true) (m := 2) (ys := [.ro _, .sc _]) rfl rfl rfl agg_impl_Disk sz_impl_Disk (fun h => by cases h) rfl rfl (Nat.le_of_ble_eq_true rfl)) rfl (Nat.le_of_ble_eq_true rfl)) rfl ?_
  refine SV.op (OpMk.ok (ok_call (ls := [(false, [.sc _])]) rfl rfl ⟨_, _, Tryd.func42, rfl, by decide⟩ (vokdisk_s X hX hL) ⟨⟨[.ro _, .sc _], rfl, ⟨rfl, rfl, trivial⟩⟩, trivial⟩ rfl (Nat.le_of_ble_eq_true rfl))) rfl ?_
  refine SV.op (OpL.ok (nb := 3) (ok_s1 (x := .tmp 14) (VScal.one rfl) (fun ρ h1 w => by go_simp; (try go_bits); with_reducible rfl) rfl) rfl (Nat.le_of_ble_eq_true rfl)) rfl ?_
  refine SV.op (OpL.ok (nb := 3) (ok_move (v := V.one (.sc _)) (.inl rfl) rfl) rfl (Nat.le_of_ble_eq_true rfl)) rfl ?_
  refine SV.split (d := 16) rfl (fun hg0 => ?_) (fun hg0 => ?_)
  · skip   -- g0.T
    have ho : DiskD.sealF X name = none := DiskD.sealF_none (DiskD.file_bad (by simpa using hg0))
    refine SV.opN rfl rfl rfl (Nat.le_of_ble_eq_true rfl) rfl rfl rfl (Nat.le_of_ble_eq_true rfl) ?_
    refine SV.opN rfl rfl rfl (Nat.le_of_ble_eq_true rfl) rfl rfl rfl (Nat.le_of_ble_eq_true rfl) ?_
    refine SV.op (OpL.ok (nb := 3) (ok_pickT (v := V.one (.sc _)) rfl rfl rfl) rfl (Nat.le_of_ble_eq_true rfl)) rfl ?_
    refine SV.op (OpL.ok (nb := 3) (ok_move (v := V.one (.sc _)) (.inl rfl) rfl) rfl (Nat.le_of_ble_eq_true rfl)) rfl ?_
    refine SV.split (d := 20) rfl (fun hg1 => ?_) (fun hg1 => ?_)
    · skip   -- g1.T
      refine SV.opN rfl rfl rfl (Nat.le_of_ble_eq_true rfl) rfl rfl rfl (Nat.le_of_ble_eq_true rfl) ?_
      refine SV.opN rfl rfl rfl (Nat.le_of_ble_eq_true rfl) rfl rfl rfl (Nat.le_of_ble_eq_true rfl) ?_
      refine SV.opN rfl rfl rfl (Nat.le_of_ble_eq_true rfl) rfl rfl rfl (Nat.le_of_ble_eq_true rfl) ?_
      refine SV.opN rfl rfl rfl (Nat.le_of_ble_eq_true rfl) rfl rfl rfl (Nat.le_of_ble_eq_true rfl) ?_
      refine SV.opN rfl rfl rfl (Nat.le_of_ble_eq_true rfl) rfl rfl rfl (Nat.le_of_ble_eq_true rfl) ?_
      refine SV.opN rfl rfl rfl (Nat.le_of_ble_eq_true rfl) rfl rfl rfl (Nat.le_of_ble_eq_true rfl) ?_
      refine SV.op (OpL.ok (nb := 3) (ok_pickT (v := V.one (.sc _)) rfl rfl rfl) rfl (Nat.le_of_ble_eq_true rfl)) rfl ?_
      refine SV.nil ?_
      refine SV.tn ?_
      refine SV.cond rfl (fun hc0 => ?_) (fun hc0 => ?_)
      · skip   -- c0.T
        refine SV.seq' ?_
        refine SV.region ?_
        refine SV.op (OpL.ok (nb := 3) (ok_load_bp (b := 2) (i := 0) (ag := true) (m := 2) (ys := [.hd 0, .sc _]) rfl rfl rfl agg_impl_Disk sz_impl_Disk (fun h => by cases h) rfl rfl (Nat.le_of_ble_eq_true rfl)) rfl (Nat.le_of_ble_eq_true rfl)) rfl ?_
        refine SV.op (ok_store_bp (b := 1) (i := 0) (m := 2) (ag := true) (zs := [.hd 0, .sc _]) (ys := [.hd 0, .sc _]) rfl rfl rfl rfl sz_impl_Disk (fun h => by cases h) rfl (Nat.le_of_ble_eq_true rfl) rfl rfl rfl) rfl ?_
        refine SV.op (OpL.ok (nb := 3) (ok_move (v := V.one (.sc _)) (.inr rfl) rfl) rfl (Nat.le_of_ble_eq_true rfl)) rfl ?_
        refine SV.nil ?_
        refine SV.tn ?_
        refine SV.ret ?_
        refine SV.tr ?_
        apply SV.done (hf := Tryd.results115) (ht := rfl) (he := .inl rfl)
        case hr => exact (ResAll.cons (ResOk.cell (b := 1) (ag := true) (xs := [.hd 0, .sc _]) rfl rfl agg_impl_Disk sz_impl_Disk (fun h => by cases h)) (ResAll.cons (ResOk.tmp (ag := false) (xs := [.sc _]) rfl) ResAll.nil'))
        case h2 => simp [two]
        refine ⟨rfl, ⟨?_, ?_, trivial⟩, ⟨rfl, ⟨?_, trivial⟩, trivial⟩⟩ <;> (rw [ho]; first | rfl | (show some (T.seq _ _) = some (T.seq _ _); simp [tFile, List.map_set]; done))
      · skip   -- c0.F
        cases hc0
    · skip   -- g1.F
      simp at hg1
  · skip   -- g0.F
    have hok : DiskD.okD X = true := by simpa using hg0
    refine SV.opY (OpL.ok (nb := 3) (ok_move (v := V.one (.sc _)) (.inl rfl) rfl) rfl (Nat.le_of_ble_eq_true rfl)) rfl rfl rfl (Nat.le_of_ble_eq_true rfl) rfl rfl ?_
    refine SV.opY (OpL.ok (nb := 3) (ok_s2 (x := .tmp 17) (x' := .const ((Value.int IntKind.i64 0))) (VScal.one rfl) (VScal.one rfl) (fun ρ h1 h2 w => by go_simp; (try go_bits); with_reducible rfl) rfl) rfl (Nat.le_of_ble_eq_true rfl)) rfl rfl rfl (Nat.le_of_ble_eq_true rfl) rfl rfl ?_
    refine SV.op (OpL.ok (nb := 3) (ok_pickF (v := V.one (.sc _)) rfl rfl rfl) rfl (Nat.le_of_ble_eq_true rfl)) rfl ?_
    refine SV.op (OpL.ok (nb := 3) (ok_move (v := V.one (.sc _)) (.inl rfl) rfl) rfl (Nat.le_of_ble_eq_true rfl)) rfl ?_
    refine SV.split (d := 20) rfl (fun hg2 => ?_) (fun hg2 => ?_)
    · skip   -- g2.T
      have hk : DiskD.at? X.fFiles name = none := by
        rcases DiskD.atI_cases X.fFiles name with h | ⟨k, f, h1, h2, h3⟩
        · exact h.1
        · exfalso; simp at hg2; omega
      have ho : DiskD.sealF X name = none := DiskD.sealF_none (DiskD.file_none hk)
      refine SV.opN rfl rfl rfl (Nat.le_of_ble_eq_true rfl) rfl rfl rfl (Nat.le_of_ble_eq_true rfl) ?_
      refine SV.opN rfl rfl rfl (Nat.le_of_ble_eq_true rfl) rfl rfl rfl (Nat.le_of_ble_eq_true rfl) ?_
      refine SV.opN rfl rfl rfl (Nat.le_of_ble_eq_true rfl) rfl rfl rfl (Nat.le_of_ble_eq_true rfl) ?_
      refine SV.opN rfl rfl rfl (Nat.le_of_ble_eq_true rfl) rfl rfl rfl (Nat.le_of_ble_eq_true rfl) ?_
      refine SV.opN rfl rfl rfl (Nat.le_of_ble_eq_true rfl) rfl rfl rfl (Nat.le_of_ble_eq_true rfl) ?_
      refine SV.opN rfl rfl rfl (Nat.le_of_ble_eq_true rfl) rfl rfl rfl (Nat.le_of_ble_eq_true rfl) ?_
      refine SV.op (OpL.ok (nb := 3) (ok_pickT (v := V.one (.sc _)) rfl rfl rfl) rfl (Nat.le_of_ble_eq_true rfl)) rfl ?_
      refine SV.nil ?_
      refine SV.tn ?_
      refine SV.cond rfl (fun hc1 => ?_) (fun hc1 => ?_)
      · skip   -- c1.T
        refine SV.seq' ?_
        refine SV.region ?_
        refine SV.op (OpL.ok (nb := 3) (ok_load_bp (b := 2) (i := 0) (ag := true) (m := 2) (ys := [.hd 0, .sc _]) rfl rfl rfl agg_impl_Disk sz_impl_Disk (fun h => by cases h) rfl rfl (Nat.le_of_ble_eq_true rfl)) rfl (Nat.le_of_ble_eq_true rfl)) rfl ?_
        refine SV.op (ok_store_bp (b := 1) (i := 0) (m := 2) (ag := true) (zs := [.hd 0, .sc _]) (ys := [.hd 0, .sc _]) rfl rfl rfl rfl sz_impl_Disk (fun h => by cases h) rfl (Nat.le_of_ble_eq_true rfl) rfl rfl rfl) rfl ?_
        refine SV.op (OpL.ok (nb := 3) (ok_move (v := V.one (.sc _)) (.inr rfl) rfl) rfl (Nat.le_of_ble_eq_true rfl)) rfl ?_
        refine SV.nil ?_
        refine SV.tn ?_
        refine SV.ret ?_
        refine SV.tr ?_
        apply SV.done (hf := Tryd.results115) (ht := rfl) (he := .inl rfl)
        case hr => exact (ResAll.cons (ResOk.cell (b := 1) (ag := true) (xs := [.hd 0, .sc _]) rfl rfl agg_impl_Disk sz_impl_Disk (fun h => by cases h)) (ResAll.cons (ResOk.tmp (ag := false) (xs := [.sc _]) rfl) ResAll.nil'))
        case h2 => simp [two]
        refine ⟨rfl, ⟨?_, ?_, trivial⟩, ⟨rfl, ⟨?_, trivial⟩, trivial⟩⟩ <;> (rw [ho]; first | rfl | (show some (T.seq _ _) = some (T.seq _ _); simp [tFile, List.map_set]; done))
      · skip   -- c1.F
        cases hc1
    · skip   -- g2.F
      obtain ⟨k, f, h1, hx, h3⟩ : ∃ (k : Nat) (f : FileD), DiskD.at? X.fFiles name = some k ∧ X.fFiles[k]? = some f ∧ DiskD.atI X.fFiles name = (k : Int) := by
        rcases DiskD.atI_cases X.fFiles name with h | h
        · exfalso; simp at hg2; omega
        · exact h
      obtain rfl : ki = (k : Int) := hki.symm.trans h3
      have hf := DiskD.sealF_eq (DiskD.file_some hok h1 hx)
      have hkl : k < X.fFiles.length := get_lt hx
      have hP := (hX.1 f (get_mem hx)).2.1
      have hw1 : wtPages f.fPages ≤ wtDisk X := by
        have h4 := wt_file_at X.fFiles k hkl
        have h5 : X.fFiles[k] = f := by have := hx; rw [List.getElem?_eq_getElem hkl] at this; exact Option.some.inj this
        rw [h5] at h4; exact h4
      have hw2 := wt_page_len f.fPages
      have hw3 := flat_wt f.fPages
      have hK : (R.fmtPages f.fPages).length ≤ 1000000000000 := by have := fmtPages_len f.fPages; omega
      refine SV.opY (OpL.ok (nb := 3) (ok_field_bp (b := 0) (o' := 0) (off := 0) rfl rfl fld_impl_Disk_0) rfl (Nat.le_of_ble_eq_true rfl)) rfl rfl rfl (Nat.le_of_ble_eq_true rfl) rfl rfl ?_
      refine SV.opY (OpL.ok (nb := 3) (ok_load_bp (b := 0) (i := 0) (ag := false) (m := 1) (ys := [.ro _]) rfl rfl rfl agg_s_impl_File sz_s_impl_File (fun _ => rfl) rfl rfl (Nat.le_of_ble_eq_true rfl)) rfl (Nat.le_of_ble_eq_true rfl)) rfl rfl rfl (Nat.le_of_ble_eq_true rfl) rfl rfl ?_
      refine SV.opY (OpL.ok (nb := 3) (ok_move (v := V.one (.sc _)) (.inl rfl) rfl) rfl (Nat.le_of_ble_eq_true rfl)) rfl rfl rfl (Nat.le_of_ble_eq_true rfl) rfl rfl ?_
      refine SV.opY (OpL.ok (nb := 3) (ok_index (n := 4) (lf := .ro _) rfl elt_impl_File.und sz_impl_File rfl rfl rfl (map_at (by assumption))) rfl (Nat.le_of_ble_eq_true rfl)) rfl rfl rfl (Nat.le_of_ble_eq_true rfl) rfl rfl ?_
      refine SV.opY (OpL.ok (nb := 3) (ok_field_el (p := .rp _) (off := 3) rfl rfl rfl fld_impl_File_3) rfl (Nat.le_of_ble_eq_true rfl)) rfl rfl rfl (Nat.le_of_ble_eq_true rfl) rfl rfl ?_
      refine SV.opY (OpL.ok (nb := 3) (ok_load_rp (ag := false) (m := 1) (ys := [.sc _]) rfl rfl agg_bool sz_bool (fun _ => rfl) (Nat.le_of_ble_eq_true rfl) rfl) rfl (Nat.le_of_ble_eq_true rfl)) rfl rfl rfl (Nat.le_of_ble_eq_true rfl) rfl rfl ?_
      refine SV.op (OpL.ok (nb := 3) (ok_pickF (v := V.one (.sc _)) rfl rfl rfl) rfl (Nat.le_of_ble_eq_true rfl)) rfl ?_
      refine SV.nil ?_
      refine SV.tn ?_
      refine SV.cond rfl (fun hc2 => ?_) (fun hc2 => ?_)
      · skip   -- c2.T
        have ho : DiskD.sealF X name = none := by rw [hf, if_pos (by simpa using hc2)]
        refine SV.seq' ?_
        refine SV.region ?_
        refine SV.op (OpL.ok (nb := 3) (ok_load_bp (b := 2) (i := 0) (ag := true) (m := 2) (ys := [.hd 0, .sc _]) rfl rfl rfl agg_impl_Disk sz_impl_Disk (fun h => by cases h) rfl rfl (Nat.le_of_ble_eq_true rfl)) rfl (Nat.le_of_ble_eq_true rfl)) rfl ?_
        refine SV.op (ok_store_bp (b := 1) (i := 0) (m := 2) (ag := true) (zs := [.hd 0, .sc _]) (ys := [.hd 0, .sc _]) rfl rfl rfl rfl sz_impl_Disk (fun h => by cases h) rfl (Nat.le_of_ble_eq_true rfl) rfl rfl rfl) rfl ?_
        refine SV.op (OpL.ok (nb := 3) (ok_move (v := V.one (.sc _)) (.inr rfl) rfl) rfl (Nat.le_of_ble_eq_true rfl)) rfl ?_
        refine SV.nil ?_
        refine SV.tn ?_
        refine SV.ret ?_
        refine SV.tr ?_
        apply SV.done (hf := Tryd.results115) (ht := rfl) (he := .inl rfl)
        case hr => exact (ResAll.cons (ResOk.cell (b := 1) (ag := true) (xs := [.hd 0, .sc _]) rfl rfl agg_impl_Disk sz_impl_Disk (fun h => by cases h)) (ResAll.cons (ResOk.tmp (ag := false) (xs := [.sc _]) rfl) ResAll.nil'))
        case h2 => simp [two]
        refine ⟨rfl, ⟨?_, ?_, trivial⟩, ⟨rfl, ⟨?_, trivial⟩, trivial⟩⟩ <;> (rw [ho]; first | rfl | (show some (T.seq _ _) = some (T.seq _ _); simp [tFile, List.map_set]; done))
      · skip   -- c2.F
        have ho := hf.trans (if_neg (by simpa using hc2))
        refine SV.skip ?_
        refine SV.tn ?_
        refine SV.seq' ?_
        refine SV.region ?_
        refine SV.op (OpL.ok (nb := 3) (ok_field_bp (b := 2) (o' := 0) (off := 0) rfl rfl fld_impl_Disk_0) rfl (Nat.le_of_ble_eq_true rfl)) rfl ?_
        refine SV.op (OpL.ok (nb := 3) (ok_load_bp (b := 2) (i := 0) (ag := false) (m := 1) (ys := [.hd 0]) rfl rfl rfl agg_s_impl_File sz_s_impl_File (fun _ => rfl) rfl rfl (Nat.le_of_ble_eq_true rfl)) rfl (Nat.le_of_ble_eq_true rfl)) rfl ?_
        refine SV.op (OpL.ok (nb := 3) (ok_move (v := V.one (.sc _)) (.inl rfl) rfl) rfl (Nat.le_of_ble_eq_true rfl)) rfl ?_
        refine SV.op (OpL.ok (nb := 3) (ok_index (n := 4) (lf := .hd 0) rfl elt_impl_File.und sz_impl_File rfl rfl rfl (map_at (by assumption))) rfl (Nat.le_of_ble_eq_true rfl)) rfl ?_
        refine SV.op (OpL.ok (nb := 3) (ok_field_el (p := .ep 0 _ _ _) (off := 3) rfl rfl (cells_ep rfl (map_at (by assumption)) rfl rfl) fld_impl_File_3) rfl (Nat.le_of_ble_eq_true rfl)) rfl ?_
        refine SV.op (ok_store_ep (i := 0) (n := 4) (m := 1) (ag := false) (zs := [.sc _]) rfl rfl rfl rfl (map_at (by assumption)) sz_bool (fun _ => rfl) rfl sz_impl_File (Nat.le_of_ble_eq_true rfl) (outs_c rfl outs_n) (by simp [two]) rfl rfl rfl) rfl ?_
        refine SV.nil ?_
        refine SV.tn ?_
        refine SV.seq' ?_
        refine SV.draw [.q 0, .q 1, .q 2, .q 3, .q 4, .q 5, .q 6, .q 7, .q 8, .m 9, .m 10, .q 11, .q 12] [13] (by kernel_rfl) (by kernel_rfl) ?_
        refine DW.q rfl (ok_field_bp (b := 2) (o' := 0) (off := 0) rfl rfl fld_impl_Disk_0) rfl rfl (Nat.le_of_ble_eq_true rfl) (fun _ _ _ _ h => h) ?_
        refine DW.q rfl (ok_load_bp (b := 2) (i := 0) (ag := false) (m := 1) (ys := [.hd 0]) rfl rfl rfl agg_s_impl_File sz_s_impl_File (fun _ => rfl) rfl rfl (Nat.le_of_ble_eq_true rfl)) rfl rfl (Nat.le_of_ble_eq_true rfl) (fun _ _ _ _ h => h) ?_
        refine DW.q rfl (ok_move (v := V.one (.sc _)) (.inl rfl) rfl) rfl rfl (Nat.le_of_ble_eq_true rfl) (fun _ _ _ _ h => h) ?_
        refine DW.q rfl (ok_field_bp (b := 0) (o' := 0) (off := 0) rfl rfl fld_impl_Disk_0) rfl rfl (Nat.le_of_ble_eq_true rfl) (fun _ _ _ _ h => h) ?_
        refine DW.q rfl (ok_load_bp (b := 0) (i := 0) (ag := false) (m := 1) (ys := [.ro _]) rfl rfl rfl agg_s_impl_File sz_s_impl_File (fun _ => rfl) rfl rfl (Nat.le_of_ble_eq_true rfl)) rfl rfl (Nat.le_of_ble_eq_true rfl) (fun _ _ _ _ h => h) ?_
        refine DW.q rfl (ok_move (v := V.one (.sc _)) (.inl rfl) rfl) rfl rfl (Nat.le_of_ble_eq_true rfl) (fun _ _ _ _ h => h) ?_
        refine DW.q rfl (ok_index (n := 4) (lf := .ro _) rfl elt_impl_File.und sz_impl_File rfl rfl rfl (map_at (by assumption))) rfl rfl (Nat.le_of_ble_eq_true rfl) (fun _ _ _ _ h => h) ?_
        refine DW.q rfl (ok_field_el (p := .rp _) (off := 1) rfl rfl rfl fld_impl_File_1) rfl rfl (Nat.le_of_ble_eq_true rfl) (fun _ _ _ _ h => h) ?_
        refine DW.q rfl (ok_load_rp (ag := false) (m := 1) (ys := [.ro _]) rfl rfl agg_s_impl_Page sz_s_impl_Page (fun _ => rfl) (Nat.le_of_ble_eq_true rfl) rfl) rfl rfl (Nat.le_of_ble_eq_true rfl) (fun _ _ _ _ h => h) ?_
        refine DW.m [] rfl (ok_call (ls := [(false, [.sc _])]) rfl rfl ⟨_, _, Tryd.func108, rfl, by decide⟩ (vfpages_s f.fPages hP (by omega) (by omega)) ⟨⟨[.ro _], rfl, ⟨rfl, trivial⟩⟩, trivial⟩ rfl (Nat.le_of_ble_eq_true rfl)) rfl (Nat.le_of_ble_eq_true rfl) (Nat.le_of_ble_eq_true rfl) (.inl rfl) (fun j hj => by cases hj) ?_
        refine DW.m [] rfl (ok_call (ls := [(false, [.sc _])]) rfl rfl ⟨_, _, Tryd.func107, rfl, by decide⟩ (vck_s (R.fmtPages f.fPages) hK) ⟨⟨[.sc _], rfl, ⟨rfl, trivial⟩⟩, trivial⟩ rfl (Nat.le_of_ble_eq_true rfl)) rfl (Nat.le_of_ble_eq_true rfl) (Nat.le_of_ble_eq_true rfl) (.inl rfl) (fun j hj => by cases hj) ?_
        refine DW.q rfl (ok_index (n := 4) (lf := .hd 0) rfl elt_impl_File.und sz_impl_File rfl rfl rfl (set_self (by rw [List.length_map]; exact hkl))) rfl rfl (Nat.le_of_ble_eq_true rfl) (fun _ _ _ _ h => h) ?_
        refine DW.q rfl (ok_field_el (p := .ep 0 _ _ _) (off := 2) rfl rfl (cells_ep rfl (set_self (by rw [List.length_map]; exact hkl)) rfl rfl) fld_impl_File_2) rfl rfl (Nat.le_of_ble_eq_true rfl) (fun _ _ _ _ h => h) ?_
        refine DW.stores ?_
        refine SV.z rfl (ok_store_ep (i := 0) (n := 4) (m := 1) (ag := false) (zs := [.sc _]) rfl rfl rfl rfl (set_self (by rw [List.length_map]; exact hkl)) sz_int (fun _ => rfl) rfl sz_impl_File (Nat.le_of_ble_eq_true rfl) (outs_c rfl outs_n) (by simp [two]) rfl (set_twice (by rfl)) rfl) rfl ?_
        refine SV.zend ?_
        refine SV.tn ?_
        refine SV.seq' ?_
        refine SV.region ?_
        refine SV.op (OpL.ok (nb := 3) (ok_load_bp (b := 2) (i := 0) (ag := true) (m := 2) (ys := [.hd 0, .sc _]) rfl rfl rfl agg_impl_Disk sz_impl_Disk (fun h => by cases h) rfl rfl (Nat.le_of_ble_eq_true rfl)) rfl (Nat.le_of_ble_eq_true rfl)) rfl ?_
        refine SV.op (ok_store_bp (b := 1) (i := 0) (m := 2) (ag := true) (zs := [.hd 0, .sc _]) (ys := [.hd 0, .sc _]) rfl rfl rfl rfl sz_impl_Disk (fun h => by cases h) rfl (Nat.le_of_ble_eq_true rfl) rfl rfl rfl) rfl ?_
        refine SV.op (OpL.ok (nb := 3) (ok_move (v := V.one (.sc _)) (.inr rfl) rfl) rfl (Nat.le_of_ble_eq_true rfl)) rfl ?_
        refine SV.nil ?_
        refine SV.tn ?_
        refine SV.ret ?_
        apply SV.done (hf := Tryd.results115) (ht := rfl) (he := .inl rfl)
        case hr => exact (ResAll.cons (ResOk.cell (b := 1) (ag := true) (xs := [.hd 0, .sc _]) rfl rfl agg_impl_Disk sz_impl_Disk (fun h => by cases h)) (ResAll.cons (ResOk.tmp (ag := false) (xs := [.sc _]) rfl) ResAll.nil'))
        case h2 => simp [two]
        refine ⟨rfl, ⟨?_, ?_, trivial⟩, ⟨rfl, ⟨?_, trivial⟩, trivial⟩⟩ <;> (rw [ho]; first | rfl | (show some (T.seq _ _) = some (T.seq _ _); simp [tFile, List.map_set]; done))
end Go.Proofs.YtmlcdhblofjpbaaDoor
/- The reference's UnpackPages, by contract. -/
namespace Go.Proofs.YtmlcdhblofjpbaaDoor
open Go.RowKit

set_option maxRecDepth 100000 in
theorem sunpack (a : Option Addr) (n c : Nat) (P : List (List R)) (w : World) (h : SeqIn pageRep w a n P) (hn : n ≤ 1000000000) (hf : P.flatten.length ≤ 10000000000) :
    Calls Tryd.prog 109 #[.slice a n c] w fun e w' => ∃ v, e = .returned v ∧ Mine w' w.heap.size v P.flatten ∧ Below w.heap.size w w' := by
  have HL := Lib.hid h.1
  have HI := Lib.hid h
  obtain ⟨N, hN⟩ : ∃ N, N = P.flatten.length := ⟨_, rfl⟩
  rw [← hN] at hf
  have HN := Lib.hid hN
  have M0 := Lib.hid (mine_zero w w.heap.size (Nat.le_refl _))
  have B0 := Lib.hid ((Below.refl w.heap.size w).alloc (Nat.le_refl _) (.cells #[] 41))
  clear h hN
  go_enter Tryd.func109, Tryd.ntmps109
  go_wp2_with fail
  go_loopw [3, 4] (fun v i wr => ∃ (t : Nat) (y : Value), y = v ∧ i = .int .i64 t ∧ t ≤ n ∧ Hid (Mine wr w.heap.size y (P.take t).flatten) ∧ Hid (Below w.heap.size w wr)) (fun _ i _ => n - (intOf i).toNat)
  case atStart => exact ⟨0, _, rfl, rfl, Nat.zero_le _, (show Mine _ _ _ (P.take 0).flatten from M0.out), B0⟩
  case round =>
    obtain ⟨t, y, rfl, rfl, ht, hm, hb⟩ := hrel
    by_cases hlt : t < n
    · have htl : t < P.length := by have := HL.out; omega
      have hp : P[t]? = some P[t] := by simp [htl]
      obtain ⟨b, o, d, k, m, rfl, hbl, hcell, hin, hcap⟩ := (HI.out.keep hb.out).at hp
      have hnx := flat_next P t htl
      have hle := flat_take P (t + 1)
      rw [← HN.out] at hle
      have hpl : P[t].length = k := hin.1
      have hfl : (P.take (t + 1)).flatten = (P.take t).flatten ++ P[t] := by rw [List.take_succ_eq_append_getElem htl, List.flatten_append, List.flatten_cons, List.flatten_nil, List.append_nil]
      have HFL := Lib.hid hfl
      have hsz : w.heap.size ≤ wr.heap.size := hb.out.size
      have IN := Lib.hid (rows_in hin)
      clear hfl hin hp
      have hln : (P.take t).flatten.length + k ≤ 1000000000000 := by omega
      have HLN := Lib.hid hln
      clear hln hnx hle
      cases d with
      | none =>
        have hm0 := hcap rfl
        subst hm0
        have hk0 : k = 0 := by
          obtain ⟨-, -, h0 | ⟨b', o', e, -⟩⟩ := IN.out
          · exact h0
          · cases e
        subst hk0
        have hpe : P[t] = [] := List.eq_nil_of_length_eq_zero hpl
        obtain ⟨i0, hi, hz0, hz1, hz2⟩ := info_parts rowInfo
        have HPE := Lib.hid hpe
        clear hpl hpe
        go_wp2_with (at_builtin; refine wpList_append_own_none rfl (.tmp 12) (.tmp 17) 24 rfl w.heap.size 41 i0 3 Tryd.underlying24 hi y (P.take t).flatten.length (cells3 (P.take t).flatten) rfl hm.out rfl ?_)
        go_roundw
        case rel => exact ⟨t + 1, _, rfl, by go_num, by omega, (by show Mine _ _ _ _; rw [HFL.out, HPE.out, List.append_nil]; exact hm.out), hb⟩
        case measure => simp [intOf]; omega
      | some ad =>
        obtain ⟨ad', had, hc⟩ := IN.out.cell
        have hcc : ∀ j u, (cells3 P[t])[j]? = some u → wr.cell? (ad.add j) = some u := by
          rcases Nat.eq_zero_or_pos k with h0 | h0
          · intro j u hj
            have : P[t] = [] := List.eq_nil_of_length_eq_zero (by omega)
            rw [this] at hj
            simp [cells3] at hj
          · have := had h0
            injection this with this
            rw [this]
            exact hc
        have HCC := Lib.hid hcc
        have HPL := Lib.hid hpl
        clear hcc hc had hpl
        go_wp2_with (at_builtin; refine wpList_appendR (.tmp 12) (.tmp 17) ad k m rfl rfl rfl rfl hm.out HPL.out HCC.out hsz HLN.out ?_; intro v6 w6 hm6 hg6 hn6)
        have B6 := Lib.hid (hb.out.grown hg6 hsz hm.out.own')
        rw [← HFL.out] at hm6
        have M6 := Lib.hid hm6
        clear hm6 hg6 hn6
        go_roundw
        case rel => exact ⟨t + 1, _, rfl, by go_num, by omega, M6, B6⟩
        case measure => simp [intOf]; omega
    · have hkl : t = n := by omega
      have hfin : Mine wr w.heap.size y P.flatten := by
        have := hm.out
        rw [hkl, List.take_of_length_le (by have := HL.out; omega)] at this
        exact this
      have HF := Lib.hid hfin
      clear hfin hkl
      go_wp2_with fail
      go_ret
      exact ⟨_, rfl, HF.out, hb.out⟩
theorem flat_wf {w : World} {a : Option Addr} {n : Nat} {P : List (List R)} (h : SeqIn pageRep w a n P) : ∀ r ∈ P.flatten, r.wf := by
  intro r hr
  obtain ⟨p, hp, hr⟩ := List.mem_flatten.1 hr
  obtain ⟨t, ht, rfl⟩ := List.getElem_of_mem hp
  obtain ⟨b, o, d, k, m, -, -, -, hin, -⟩ := h.at (t := t) (x := P[t]) (by simp [ht])
  exact (rows_in hin).2.1 r hr
theorem sunpackG (a : Option Addr) (n c : Nat) (P : List (List R)) (w : World) (h : SeqIn pageRep w a n P) (hn : n ≤ 1000000000) (hf : P.flatten.length ≤ 10000000000) : Calls Tryd.prog 109 #[.slice a n c] w (Gives rowRep P.flatten w) :=
  (sunpack a n c P w h hn hf).mono fun _ _ ⟨_, he, hm, hb⟩ => gives_mine he hm hb (flat_wf h) (by unfold maxLen; omega)
end Go.Proofs.YtmlcdhblofjpbaaDoor
/- The program's UnpackPages, by contract. -/
namespace Go.Proofs.YtmlcdhblofjpbaaDoor
open Go.RowKit

set_option maxRecDepth 100000 in
theorem iunpackM (a : Option Addr) (n c : Nat) (P : List (List R)) (w : World) (h : SeqIn pageRep w a n P) (hn : n ≤ 1000000000) (hf : P.flatten.length ≤ 10000000000) :
    Calls Tryd.prog 85 #[.slice a n c] w fun e w' => ∃ v, e = .returned v ∧ Mine w' w.heap.size v P.flatten ∧ Below w.heap.size w w' := by
  have HL := Lib.hid h.1
  have HI := Lib.hid h
  obtain ⟨N, hN⟩ : ∃ N, N = P.flatten.length := ⟨_, rfl⟩
  rw [← hN] at hf
  have HN := Lib.hid hN
  have M0 := Lib.hid (mine_none w w.heap.size)
  clear h hN
  go_enter Tryd.func85, Tryd.ntmps85
  go_wp2_with fail
  go_loopw [3, 8] (fun v i wr => ∃ (t : Nat) (y : Value), y = v ∧ i = .int .i64 t ∧ t ≤ n ∧ Hid (Mine wr w.heap.size y (P.take t).flatten) ∧ Hid (Below w.heap.size w wr)) (fun _ i _ => n - (intOf i).toNat)
  case atStart => exact ⟨0, _, rfl, rfl, Nat.zero_le _, (show Mine _ _ _ (P.take 0).flatten from M0.out), Below.refl _ _⟩
  case round =>
    obtain ⟨t, y, rfl, rfl, ht, hm, hb⟩ := hrel
    by_cases hlt : t < n
    · have htl : t < P.length := by have := HL.out; omega
      have hp : P[t]? = some P[t] := by simp [htl]
      obtain ⟨b, o, d, k, m, rfl, hbl, hcell, hin, hcap⟩ := (HI.out.keep hb.out).at hp
      have hnx := flat_next P t htl
      have hle := flat_take P (t + 1)
      rw [← HN.out] at hle
      have hpl : P[t].length = k := hin.1
      have hfl : (P.take (t + 1)).flatten = (P.take t).flatten ++ P[t] := by rw [List.take_succ_eq_append_getElem htl, List.flatten_append, List.flatten_cons, List.flatten_nil, List.append_nil]
      have HFL := Lib.hid hfl
      have hsz : w.heap.size ≤ wr.heap.size := hb.out.size
      have bx := (Below.refl wr.heap.size wr).alloc (Nat.le_refl _) (.cells #[.slice d k m] 72)
      have IN := Lib.hid ((rows_in hin).keep bx)
      have BX := Lib.hid (hb.out.trans (bx.mono hsz))
      have MX := Lib.hid (hm.out.keep bx)
      have hszx : w.heap.size ≤ (wr.alloc (.cells #[.slice d k m] 72)).heap.size := BX.out.size
      clear hfl hin hp bx
      have hln : (P.take t).flatten.length + k ≤ 1000000000000 := by omega
      have HLN := Lib.hid hln
      clear hln hnx hle
      cases d with
      | none =>
        have hm0 := hcap rfl
        subst hm0
        have hk0 : k = 0 := by
          obtain ⟨-, -, h0 | ⟨b', o', e, -⟩⟩ := IN.out
          · exact h0
          · cases e
        subst hk0
        have hpe : P[t] = [] := List.eq_nil_of_length_eq_zero hpl
        obtain ⟨i0, hi, hz0, hz1, hz2⟩ := info_parts rowInfo
        have HPE := Lib.hid hpe
        clear hpl hpe
        go_wp2_with (at_builtin; refine wpList_append_own_none rfl (.tmp 12) (.tmp 14) 24 rfl w.heap.size 41 i0 3 Tryd.underlying24 hi y (P.take t).flatten.length (cells3 (P.take t).flatten) rfl MX.out rfl ?_)
        go_roundw
        case rel => exact ⟨t + 1, _, rfl, by go_num, by omega, (by show Mine _ _ _ _; rw [HFL.out, HPE.out, List.append_nil]; exact MX.out), BX⟩
        case measure => simp [intOf]; omega
      | some ad =>
        obtain ⟨ad', had, hc⟩ := IN.out.cell
        have hcc : ∀ j u, (cells3 P[t])[j]? = some u → (wr.alloc (.cells #[.slice (some ad) k m] 72)).cell? (ad.add j) = some u := by
          rcases Nat.eq_zero_or_pos k with h0 | h0
          · intro j u hj
            have : P[t] = [] := List.eq_nil_of_length_eq_zero (by omega)
            rw [this] at hj
            simp [cells3] at hj
          · have := had h0
            injection this with this
            rw [← this] at hc
            exact hc
        have HCC := Lib.hid hcc
        have HPL := Lib.hid hpl
        clear hcc hc had hpl
        go_wp2_with (at_builtin; refine wpList_appendR (.tmp 12) (.tmp 14) ad k m rfl rfl rfl rfl MX.out HPL.out HCC.out hszx HLN.out ?_; intro v6 w6 hm6 hg6 hn6)
        have B6 := Lib.hid (BX.out.grown hg6 hszx MX.out.own')
        rw [← HFL.out] at hm6
        have M6 := Lib.hid hm6
        clear hm6 hg6 hn6
        go_roundw
        case rel => exact ⟨t + 1, _, rfl, by go_num, by omega, M6, B6⟩
        case measure => simp [intOf]; omega
    · have hkl : t = n := by omega
      have hfin : Mine wr w.heap.size y P.flatten := by
        have := hm.out
        rw [hkl, List.take_of_length_le (by have := HL.out; omega)] at this
        exact this
      have HF := Lib.hid hfin
      clear hfin hkl
      go_wp2_with fail
      go_ret
      exact ⟨_, rfl, HF.out, hb.out⟩
theorem flat_wf' {w : World} {a : Option Addr} {n : Nat} {P : List (List R)} (h : SeqIn pageRep w a n P) : ∀ r ∈ P.flatten, r.wf := by
  intro r hr
  obtain ⟨p, hp, hr⟩ := List.mem_flatten.1 hr
  obtain ⟨t, ht, rfl⟩ := List.getElem_of_mem hp
  obtain ⟨b, o, d, k, m, -, -, -, hin, -⟩ := h.at (t := t) (x := P[t]) (by simp [ht])
  exact (rows_in hin).2.1 r hr
theorem iunpack (a : Option Addr) (n c : Nat) (P : List (List R)) (w : World) (h : SeqIn pageRep w a n P) (hn : n ≤ 1000000000) (hf : P.flatten.length ≤ 10000000000) : Calls Tryd.prog 85 #[.slice a n c] w (Gives rowRep P.flatten w) :=
  (iunpackM a n c P w h hn hf).mono fun _ _ ⟨_, he, hm, hb⟩ => gives_mine he hm hb (flat_wf' h) (by unfold maxLen; omega)
end Go.Proofs.YtmlcdhblofjpbaaDoor
/- UnpackPages: told by trees. -/
namespace Go.Proofs.YtmlcdhblofjpbaaDoor
open Go Go.RowKit V
set_option linter.unusedVariables false
theorem own_mine {w : World} {B : Nat} {v : Value} {L : List R} (h : Mine w B v L) : Own w 0 (.seq 41 (L.map tRow)) v (fun b => v.ownBlock = some b) := by
  have hc : ∀ (k j : Nat) (e : List T) (t : T) (u : Value), (L.map tRow)[k]? = some e → e[j]? = some t → (cells3 L)[k * 3 + j]? = some u → t = .lit u ∧ u.oneCell' = true := fun k j e t u h1 h2 h3 => by
    rw [List.getElem?_map] at h1
    obtain ⟨r, hr, rfl⟩ := Option.map_eq_some_iff.1 h1
    have hk := V.get_lt hr
    obtain ⟨e0, e1, e2⟩ := cells3_get L k hk
    have hd : L.getD k R.zero = r := by simp [List.getD, hr]
    rw [hd] at e0 e1 e2
    match j, h2, h3 with
    | 0, h2, h3 => cases h2; rw [Nat.add_zero, e0] at h3; cases h3; exact ⟨rfl, rfl⟩
    | 1, h2, h3 => cases h2; rw [e1] at h3; cases h3; exact ⟨rfl, rfl⟩
    | 2, h2, h3 => cases h2; rw [e2] at h3; cases h3; exact ⟨rfl, rfl⟩
  refine .seq 3 (by decide) sz_impl_Row (fun e he => by obtain ⟨x, -, rfl⟩ := List.mem_map.1 he; rfl) (cells3 L) (by rw [List.length_map]; exact ownsRow_lower h (Nat.zero_le _)) (fun _ _ => False) (fun k e j t u h1 h2 h3 => ?_) (fun u hu => ?_) (fun b hb => hb) (fun q b hb => hb.elim) (fun q b hb => hb.elim) fun q q' b hb => hb.elim
  · obtain ⟨rfl, ho⟩ := hc k j e t u h1 h2 h3
    exact .lit ho
  · obtain ⟨r, -, hr⟩ := List.mem_flatMap.1 (show u ∈ L.flatMap fun r => [.int .i64 r.key, .int .i64 r.value, .int .i64 r.width] from hu)
    simp at hr
    rcases hr with rfl | rfl | rfl <;> rfl
theorem gives_mineT {w w' : World} {v : Value} {L : List R} (hm : Mine w' w.heap.size v L) (hb : Below w.heap.size w w') : V.Gives (Env.of w) false [(false, [.seq 41 (L.map tRow)])] (.returned v) w' := by
  refine ⟨[[v]], fun c j b => c = 0 ∧ j = 0 ∧ v.ownBlock = some b, rfl, rfl, fun c ag ts us hc hu => ?_, fun c j c' j' b hb hb' => ⟨hb.1.trans hb'.1.symm, hb.2.1.trans hb'.2.1.symm⟩, fun c j b hb => ?_, .of_below hb⟩
  · match c, hc, hu with
    | 0, hc, hu => cases hc; cases hu; exact ⟨rfl, fun j t u h h' => by match j, h, h' with | 0, h, h' => cases h; cases h'; exact (own_mine hm).mono fun b hb => ⟨rfl, rfl, hb⟩⟩
  · have := World.ownsRow.lt hm b hb.2.2
    exact ⟨.inl this.1, this.2⟩
theorem vunpack_s (P : List (List R)) (hP : ∀ p ∈ P, goodPage p) (hw : wtPages P ≤ 1000000000) : VC Tryd.prog 109 [(false, [.seq 72 (P.map tPage)])] false [(false, [.seq 41 (P.flatten.map tRow)])] := fun w vs hv => by
  obtain ⟨k, vs', rfl, h1, h2⟩ := hv.shape (Fits.slice 72 fitsPage) hP
  rw [h2.none]
  have e : k.2.1 = P.length := h1.1.1.symm
  have hl := wt_page_len P
  have hf := flat_wt P
  exact (sunpack k.1 k.2.1 k.2.2 P w h1.1 (by omega) (by omega)).mono fun e w' ⟨v, he, hm, hb⟩ => he ▸ gives_mineT hm hb
theorem vunpack_i (P : List (List R)) (hP : ∀ p ∈ P, goodPage p) (hw : wtPages P ≤ 1000000000) : VC Tryd.prog 85 [(false, [.seq 72 (P.map tPage)])] false [(false, [.seq 41 (P.flatten.map tRow)])] := fun w vs hv => by
  obtain ⟨k, vs', rfl, h1, h2⟩ := hv.shape (Fits.slice 72 fitsPage) hP
  rw [h2.none]
  have e : k.2.1 = P.length := h1.1.1.symm
  have hl := wt_page_len P
  have hf := flat_wt P
  exact (iunpackM k.1 k.2.1 k.2.2 P w h1.1 (by omega) (by omega)).mono fun e w' ⟨v, he, hm, hb⟩ => he ▸ gives_mineT hm hb
end Go.Proofs.YtmlcdhblofjpbaaDoor
/- The reference's ReadFile: told by trees. -/
namespace Go.Proofs.YtmlcdhblofjpbaaDoor
open Go Go.RowKit V
set_option linter.unusedVariables false
set_option maxRecDepth 100000 in
set_option maxHeartbeats 2000000 in
theorem vread_s0 (X : DiskD) (name ki : Int) (hX : goodDisk X) (hL : wtDisk X ≤ 1000000000) (hki : DiskD.atI X.fFiles name = ki) : VC Tryd.prog 71 [(true, tDisk X), (false, [.lit (.int .i64 (name))])] true [(false, [.seq 41 (((DiskD.read X name).getD []).map tRow)]), (false, [.lit (.bool (DiskD.read X name).isSome)])] := by
  refine VC.enter Tryd.func71 rfl Tryd.ntmps71 (Nat.le_of_ble_eq_true rfl) fun E hE => ?_
  refine SV.seq' ?_
  refine SV.region ?_
  refine SV.op (OpMk.ok (ok_box (kk := 0) (ag := true) (xs := [.ro _, .sc _]) rfl rfl rfl (fun h => by cases h) rfl rfl (Nat.le_of_ble_eq_true rfl))) rfl ?_
  refine SV.op (OpL.ok (nb := 1) (ok_move (v := V.one (.sc _)) (.inr rfl) rfl) rfl (Nat.le_of_ble_eq_true rfl)) rfl ?_
  refine SV.op (OpL.ok (nb := 1) (ok_move (v := V.one (.sc _)) (.inr rfl) rfl) rfl (Nat.le_of_ble_eq_true rfl)) rfl ?_
  refine SV.nil ?_
  refine SV.tn ?_
  refine SV.seq' ?_
  refine SV.region ?_
  refine SV.op (OpL.ok (nb := 1) (ok_load_bp (b := 0) (i := 0) (ag := true) (m := 2) (ys := [.ro _, .sc _]) rfl rfl rfl agg_impl_Disk sz_impl_Disk (fun h => by cases h) rfl rfl (Nat.le_of_ble_eq_true rfl)) rfl (Nat.le_of_ble_eq_true rfl)) rfl ?_
  refine SV.op (OpL.ok (nb := 1) (ok_move (v := V.one (.sc _)) (.inl rfl) rfl) rfl (Nat.le_of_ble_eq_true rfl)) rfl ?_
  refine SV.op (OpMk.ok (ok_call (ls := [(false, [.sc _])]) rfl rfl ⟨_, _, Tryd.func106, rfl, by decide⟩ (vat_s' X name ki hX hki) ⟨⟨[.ro _, .sc _], rfl, ⟨rfl, rfl, trivial⟩⟩, ⟨[.sc _], rfl, ⟨rfl, trivial⟩⟩, trivial⟩ rfl (Nat.le_of_ble_eq_true rfl))) rfl ?_
  refine SV.op (OpL.ok (nb := 1) (ok_move (v := V.one (.sc _)) (.inr rfl) rfl) rfl (Nat.le_of_ble_eq_true rfl)) rfl ?_
  refine SV.nil ?_
  refine SV.tn ?_
  refine SV.seq' ?_
  refine SV.seq' ?_
  refine SV.draw [.q 0, .m 1, .q 2, .q 3, .q 4, .q 5, .q 6, .q 7, .q 8, .q 9, .q 10, .q 11, .q 12, .q 13, .q 14, .q 15, .q 16, .q 17, .q 18, .q 19, .q 20, .q 21, .q 22, .q 23, .q 24, .q 25, .q 26, .q 27, .q 28, .m 29, .m 30, .q 31, .q 32] [] (by kernel_rfl) (by kernel_rfl) ?_
  refine DW.q rfl (ok_load_bp (b := 0) (i := 0) (ag := true) (m := 2) (ys := [.ro _, .sc _]) rfl rfl rfl agg_impl_Disk sz_impl_Disk (fun h => by cases h) rfl rfl (Nat.le_of_ble_eq_true rfl)) rfl rfl (Nat.le_of_ble_eq_true rfl) (fun _ _ _ _ h => h) ?_
  refine DW.m [] rfl (ok_call (ls := [(false, [.sc _])]) rfl rfl ⟨_, _, Tryd.func42, rfl, by decide⟩ (vokdisk_s X hX hL) ⟨⟨[.ro _, .sc _], rfl, ⟨rfl, rfl, trivial⟩⟩, trivial⟩ rfl (Nat.le_of_ble_eq_true rfl)) rfl (Nat.le_of_ble_eq_true rfl) (Nat.le_of_ble_eq_true rfl) (.inl rfl) (fun j hj => by cases hj) ?_
  refine DW.q rfl (ok_s1 (x := .tmp 11) (VScal.one rfl) (fun ρ h1 w => by go_simp; (try go_bits); with_reducible rfl) rfl) rfl rfl (Nat.le_of_ble_eq_true rfl) (fun _ _ _ _ h => h) ?_
  refine DW.q rfl (ok_move (v := V.one (.sc _)) (.inl rfl) rfl) rfl rfl (Nat.le_of_ble_eq_true rfl) (fun _ _ _ _ h => h) ?_
  refine DW.split (d := 13) rfl (fun hg0 => ?_) (fun hg0 => ?_)
  · skip   -- g0.T
    have ho : DiskD.read X name = none := DiskD.read_none (DiskD.file_bad (by simpa using hg0))
    refine DW.qN (V' := V.one .dead) rfl rfl rfl rfl (Nat.le_of_ble_eq_true rfl) rfl rfl rfl (Nat.le_of_ble_eq_true rfl) (fun _ _ _ _ h => h) ?_
    refine DW.qN (V' := V.one .dead) rfl rfl rfl rfl (Nat.le_of_ble_eq_true rfl) rfl rfl rfl (Nat.le_of_ble_eq_true rfl) (fun _ _ _ _ h => h) ?_
    refine DW.q rfl (ok_pickT (v := V.one (.sc _)) rfl rfl rfl) rfl rfl (Nat.le_of_ble_eq_true rfl) (fun _ _ _ _ h => h) ?_
    refine DW.q rfl (ok_move (v := V.one (.sc _)) (.inl rfl) rfl) rfl rfl (Nat.le_of_ble_eq_true rfl) (fun _ _ _ _ h => h) ?_
    refine DW.split (d := 17) rfl (fun hg1 => ?_) (fun hg1 => ?_)
    · skip   -- g1.T
      refine DW.qN (V' := V.one .dead) rfl rfl rfl rfl (Nat.le_of_ble_eq_true rfl) rfl rfl rfl (Nat.le_of_ble_eq_true rfl) (fun _ _ _ _ h => h) ?_
      refine DW.qN (V' := V.one .dead) rfl rfl rfl rfl (Nat.le_of_ble_eq_true rfl) rfl rfl rfl (Nat.le_of_ble_eq_true rfl) (fun _ _ _ _ h => h) ?_
      refine DW.qN (V' := V.one .dead) rfl rfl rfl rfl (Nat.le_of_ble_eq_true rfl) rfl rfl rfl (Nat.le_of_ble_eq_true rfl) (fun _ _ _ _ h => h) ?_
      refine DW.qN (V' := V.one .dead) rfl rfl rfl rfl (Nat.le_of_ble_eq_true rfl) rfl rfl rfl (Nat.le_of_ble_eq_true rfl) (fun _ _ _ _ h => h) ?_
      refine DW.qN (V' := V.one .dead) rfl rfl rfl rfl (Nat.le_of_ble_eq_true rfl) rfl rfl rfl (Nat.le_of_ble_eq_true rfl) (fun _ _ _ _ h => h) ?_
      refine DW.qN (V' := V.one .dead) rfl rfl rfl rfl (Nat.le_of_ble_eq_true rfl) rfl rfl rfl (Nat.le_of_ble_eq_true rfl) (fun _ _ _ _ h => h) ?_
      refine DW.qN (V' := V.one .dead) rfl rfl rfl rfl (Nat.le_of_ble_eq_true rfl) rfl rfl rfl (Nat.le_of_ble_eq_true rfl) (fun _ _ _ _ h => h) ?_
      refine DW.q rfl (ok_pickT (v := V.one (.sc _)) rfl rfl rfl) rfl rfl (Nat.le_of_ble_eq_true rfl) (fun _ _ _ _ h => h) ?_
      refine DW.q rfl (ok_move (v := V.one (.sc _)) (.inl rfl) rfl) rfl rfl (Nat.le_of_ble_eq_true rfl) (fun _ _ _ _ h => h) ?_
      refine DW.split (d := 26) rfl (fun hg2 => ?_) (fun hg2 => ?_)
      · skip   -- g2.T
        refine DW.qN (V' := V.one .dead) rfl rfl rfl rfl (Nat.le_of_ble_eq_true rfl) rfl rfl rfl (Nat.le_of_ble_eq_true rfl) (fun _ _ _ _ h => h) ?_
        refine DW.qN (V' := V.one .dead) rfl rfl rfl rfl (Nat.le_of_ble_eq_true rfl) rfl rfl rfl (Nat.le_of_ble_eq_true rfl) (fun _ _ _ _ h => h) ?_
        refine DW.qN (V' := V.one .dead) rfl rfl rfl rfl (Nat.le_of_ble_eq_true rfl) rfl rfl rfl (Nat.le_of_ble_eq_true rfl) (fun _ _ _ _ h => h) ?_
        refine DW.qN (V' := V.one .dead) rfl rfl rfl rfl (Nat.le_of_ble_eq_true rfl) rfl rfl rfl (Nat.le_of_ble_eq_true rfl) (fun _ _ _ _ h => h) ?_
        refine DW.qN (V' := V.one .dead) rfl rfl rfl rfl (Nat.le_of_ble_eq_true rfl) rfl rfl rfl (Nat.le_of_ble_eq_true rfl) (fun _ _ _ _ h => h) ?_
        refine DW.qN (V' := V.one .dead) rfl rfl rfl rfl (Nat.le_of_ble_eq_true rfl) rfl rfl rfl (Nat.le_of_ble_eq_true rfl) (fun _ _ _ _ h => h) ?_
        refine DW.qN (V' := V.one .dead) rfl rfl rfl rfl (Nat.le_of_ble_eq_true rfl) rfl rfl rfl (Nat.le_of_ble_eq_true rfl) (fun _ _ _ _ h => h) ?_
        refine DW.qN (V' := V.one .dead) rfl rfl rfl rfl (Nat.le_of_ble_eq_true rfl) rfl rfl rfl (Nat.le_of_ble_eq_true rfl) (fun _ _ _ _ h => h) ?_
        refine DW.qN (V' := V.one .dead) rfl rfl rfl rfl (Nat.le_of_ble_eq_true rfl) rfl rfl rfl (Nat.le_of_ble_eq_true rfl) (fun _ _ _ _ h => h) ?_
        refine DW.qN (V' := V.one .dead) rfl rfl rfl rfl (Nat.le_of_ble_eq_true rfl) rfl rfl rfl (Nat.le_of_ble_eq_true rfl) (fun _ _ _ _ h => h) ?_
        refine DW.qN (V' := V.one .dead) rfl rfl rfl rfl (Nat.le_of_ble_eq_true rfl) rfl rfl rfl (Nat.le_of_ble_eq_true rfl) (fun _ _ _ _ h => h) ?_
        refine DW.qN (V' := V.one .dead) rfl rfl rfl rfl (Nat.le_of_ble_eq_true rfl) rfl rfl rfl (Nat.le_of_ble_eq_true rfl) (fun _ _ _ _ h => h) ?_
        refine DW.mN rfl rfl rfl rfl (Nat.le_of_ble_eq_true rfl) rfl rfl rfl (Nat.le_of_ble_eq_true rfl) ?_
        refine DW.mN rfl rfl rfl rfl (Nat.le_of_ble_eq_true rfl) rfl rfl rfl (Nat.le_of_ble_eq_true rfl) ?_
        refine DW.qN (V' := V.one .dead) rfl rfl rfl rfl (Nat.le_of_ble_eq_true rfl) rfl rfl rfl (Nat.le_of_ble_eq_true rfl) (fun _ _ _ _ h => h) ?_
        refine DW.q rfl (ok_pickT (v := V.one (.sc _)) rfl rfl rfl) rfl rfl (Nat.le_of_ble_eq_true rfl) (fun _ _ _ _ h => h) ?_
        refine DW.stores ?_
        refine SV.zend ?_
        refine SV.tn ?_
        refine SV.cond rfl (fun hc0 => ?_) (fun hc0 => ?_)
        · skip   -- c0.T
          refine SV.seq' ?_
          refine SV.region ?_
          refine SV.op (OpMk.ok (ok_lit0 (kk := 0) elt_impl_Row rfl rfl rfl (Nat.le_of_ble_eq_true rfl))) rfl ?_
          refine SV.op (OpL.ok (nb := 1) (ok_move (v := V.one (.hd 0)) (.inr rfl) rfl) rfl (Nat.le_of_ble_eq_true rfl)) rfl ?_
          refine SV.op (OpL.ok (nb := 1) (ok_move (v := V.one (.sc _)) (.inr rfl) rfl) rfl (Nat.le_of_ble_eq_true rfl)) rfl ?_
          refine SV.nil ?_
          refine SV.tn ?_
          refine SV.ret ?_
          refine SV.tr ?_
          apply SV.done (hf := Tryd.results71) (ht := rfl) (he := .inl rfl)
          case hr => exact (ResAll.cons (ResOk.tmp (ag := false) (xs := [.hd 0]) rfl) (ResAll.cons (ResOk.tmp (ag := false) (xs := [.sc _]) rfl) ResAll.nil'))
          case h2 => simp [two]
          refine ⟨rfl, ⟨?_, trivial⟩, ⟨rfl, ⟨?_, trivial⟩, trivial⟩⟩ <;> (rw [ho]; rfl)
        · skip   -- c0.F
          cases hc0
      · skip   -- g2.F
        simp at hg2
    · skip   -- g1.F
      simp at hg1
  · skip   -- g0.F
    have hok : DiskD.okD X = true := by simpa using hg0
    refine DW.qY rfl (ok_move (v := V.one (.sc _)) (.inl rfl) rfl) rfl rfl rfl (Nat.le_of_ble_eq_true rfl) rfl rfl rfl (Nat.le_of_ble_eq_true rfl) (fun _ _ _ _ h => h) ?_
    refine DW.qY rfl (ok_s2 (x := .tmp 14) (x' := .const ((Value.int IntKind.i64 0))) (VScal.one rfl) (VScal.one rfl) (fun ρ h1 h2 w => by go_simp; (try go_bits); with_reducible rfl) rfl) rfl rfl rfl (Nat.le_of_ble_eq_true rfl) rfl rfl rfl (Nat.le_of_ble_eq_true rfl) (fun _ _ _ _ h => h) ?_
    refine DW.q rfl (ok_pickF (v := V.one (.sc _)) rfl rfl rfl) rfl rfl (Nat.le_of_ble_eq_true rfl) (fun _ _ _ _ h => h) ?_
    refine DW.q rfl (ok_move (v := V.one (.sc _)) (.inl rfl) rfl) rfl rfl (Nat.le_of_ble_eq_true rfl) (fun _ _ _ _ h => h) ?_
    refine DW.split (d := 17) rfl (fun hg3 => ?_) (fun hg3 => ?_)
    · skip   -- g3.T
      have hk : DiskD.at? X.fFiles name = none := by
        rcases DiskD.atI_cases X.fFiles name with h | ⟨k, f, h1, h2, h3⟩
        · exact h.1
        · exfalso; simp at hg3; omega
      have ho : DiskD.read X name = none := DiskD.read_none (DiskD.file_none hk)
      refine DW.qN (V' := V.one .dead) rfl rfl rfl rfl (Nat.le_of_ble_eq_true rfl) rfl rfl rfl (Nat.le_of_ble_eq_true rfl) (fun _ _ _ _ h => h) ?_
      refine DW.qN (V' := V.one .dead) rfl rfl rfl rfl (Nat.le_of_ble_eq_true rfl) rfl rfl rfl (Nat.le_of_ble_eq_true rfl) (fun _ _ _ _ h => h) ?_
      refine DW.qN (V' := V.one .dead) rfl rfl rfl rfl (Nat.le_of_ble_eq_true rfl) rfl rfl rfl (Nat.le_of_ble_eq_true rfl) (fun _ _ _ _ h => h) ?_
      refine DW.qN (V' := V.one .dead) rfl rfl rfl rfl (Nat.le_of_ble_eq_true rfl) rfl rfl rfl (Nat.le_of_ble_eq_true rfl) (fun _ _ _ _ h => h) ?_
      refine DW.qN (V' := V.one .dead) rfl rfl rfl rfl (Nat.le_of_ble_eq_true rfl) rfl rfl rfl (Nat.le_of_ble_eq_true rfl) (fun _ _ _ _ h => h) ?_
      refine DW.qN (V' := V.one .dead) rfl rfl rfl rfl (Nat.le_of_ble_eq_true rfl) rfl rfl rfl (Nat.le_of_ble_eq_true rfl) (fun _ _ _ _ h => h) ?_
      refine DW.qN (V' := V.one .dead) rfl rfl rfl rfl (Nat.le_of_ble_eq_true rfl) rfl rfl rfl (Nat.le_of_ble_eq_true rfl) (fun _ _ _ _ h => h) ?_
      refine DW.q rfl (ok_pickT (v := V.one (.sc _)) rfl rfl rfl) rfl rfl (Nat.le_of_ble_eq_true rfl) (fun _ _ _ _ h => h) ?_
      refine DW.q rfl (ok_move (v := V.one (.sc _)) (.inl rfl) rfl) rfl rfl (Nat.le_of_ble_eq_true rfl) (fun _ _ _ _ h => h) ?_
      refine DW.split (d := 26) rfl (fun hg4 => ?_) (fun hg4 => ?_)
      · skip   -- g4.T
        refine DW.qN (V' := V.one .dead) rfl rfl rfl rfl (Nat.le_of_ble_eq_true rfl) rfl rfl rfl (Nat.le_of_ble_eq_true rfl) (fun _ _ _ _ h => h) ?_
        refine DW.qN (V' := V.one .dead) rfl rfl rfl rfl (Nat.le_of_ble_eq_true rfl) rfl rfl rfl (Nat.le_of_ble_eq_true rfl) (fun _ _ _ _ h => h) ?_
        refine DW.qN (V' := V.one .dead) rfl rfl rfl rfl (Nat.le_of_ble_eq_true rfl) rfl rfl rfl (Nat.le_of_ble_eq_true rfl) (fun _ _ _ _ h => h) ?_
        refine DW.qN (V' := V.one .dead) rfl rfl rfl rfl (Nat.le_of_ble_eq_true rfl) rfl rfl rfl (Nat.le_of_ble_eq_true rfl) (fun _ _ _ _ h => h) ?_
        refine DW.qN (V' := V.one .dead) rfl rfl rfl rfl (Nat.le_of_ble_eq_true rfl) rfl rfl rfl (Nat.le_of_ble_eq_true rfl) (fun _ _ _ _ h => h) ?_
        refine DW.qN (V' := V.one .dead) rfl rfl rfl rfl (Nat.le_of_ble_eq_true rfl) rfl rfl rfl (Nat.le_of_ble_eq_true rfl) (fun _ _ _ _ h => h) ?_
        refine DW.qN (V' := V.one .dead) rfl rfl rfl rfl (Nat.le_of_ble_eq_true rfl) rfl rfl rfl (Nat.le_of_ble_eq_true rfl) (fun _ _ _ _ h => h) ?_
        refine DW.qN (V' := V.one .dead) rfl rfl rfl rfl (Nat.le_of_ble_eq_true rfl) rfl rfl rfl (Nat.le_of_ble_eq_true rfl) (fun _ _ _ _ h => h) ?_
        refine DW.qN (V' := V.one .dead) rfl rfl rfl rfl (Nat.le_of_ble_eq_true rfl) rfl rfl rfl (Nat.le_of_ble_eq_true rfl) (fun _ _ _ _ h => h) ?_
        refine DW.qN (V' := V.one .dead) rfl rfl rfl rfl (Nat.le_of_ble_eq_true rfl) rfl rfl rfl (Nat.le_of_ble_eq_true rfl) (fun _ _ _ _ h => h) ?_
        refine DW.qN (V' := V.one .dead) rfl rfl rfl rfl (Nat.le_of_ble_eq_true rfl) rfl rfl rfl (Nat.le_of_ble_eq_true rfl) (fun _ _ _ _ h => h) ?_
        refine DW.qN (V' := V.one .dead) rfl rfl rfl rfl (Nat.le_of_ble_eq_true rfl) rfl rfl rfl (Nat.le_of_ble_eq_true rfl) (fun _ _ _ _ h => h) ?_
        refine DW.mN rfl rfl rfl rfl (Nat.le_of_ble_eq_true rfl) rfl rfl rfl (Nat.le_of_ble_eq_true rfl) ?_
        refine DW.mN rfl rfl rfl rfl (Nat.le_of_ble_eq_true rfl) rfl rfl rfl (Nat.le_of_ble_eq_true rfl) ?_
        refine DW.qN (V' := V.one .dead) rfl rfl rfl rfl (Nat.le_of_ble_eq_true rfl) rfl rfl rfl (Nat.le_of_ble_eq_true rfl) (fun _ _ _ _ h => h) ?_
        refine DW.q rfl (ok_pickT (v := V.one (.sc _)) rfl rfl rfl) rfl rfl (Nat.le_of_ble_eq_true rfl) (fun _ _ _ _ h => h) ?_
        refine DW.stores ?_
        refine SV.zend ?_
        refine SV.tn ?_
        refine SV.cond rfl (fun hc1 => ?_) (fun hc1 => ?_)
        · skip   -- c1.T
          refine SV.seq' ?_
          refine SV.region ?_
          refine SV.op (OpMk.ok (ok_lit0 (kk := 0) elt_impl_Row rfl rfl rfl (Nat.le_of_ble_eq_true rfl))) rfl ?_
          refine SV.op (OpL.ok (nb := 1) (ok_move (v := V.one (.hd 0)) (.inr rfl) rfl) rfl (Nat.le_of_ble_eq_true rfl)) rfl ?_
          refine SV.op (OpL.ok (nb := 1) (ok_move (v := V.one (.sc _)) (.inr rfl) rfl) rfl (Nat.le_of_ble_eq_true rfl)) rfl ?_
          refine SV.nil ?_
          refine SV.tn ?_
          refine SV.ret ?_
          refine SV.tr ?_
          apply SV.done (hf := Tryd.results71) (ht := rfl) (he := .inl rfl)
          case hr => exact (ResAll.cons (ResOk.tmp (ag := false) (xs := [.hd 0]) rfl) (ResAll.cons (ResOk.tmp (ag := false) (xs := [.sc _]) rfl) ResAll.nil'))
          case h2 => simp [two]
          refine ⟨rfl, ⟨?_, trivial⟩, ⟨rfl, ⟨?_, trivial⟩, trivial⟩⟩ <;> (rw [ho]; rfl)
        · skip   -- c1.F
          cases hc1
      · skip   -- g4.F
        simp at hg4
    · skip   -- g3.F
      obtain ⟨k, f, h1, hx, h3⟩ : ∃ (k : Nat) (f : FileD), DiskD.at? X.fFiles name = some k ∧ X.fFiles[k]? = some f ∧ DiskD.atI X.fFiles name = (k : Int) := by
        rcases DiskD.atI_cases X.fFiles name with h | h
        · exfalso; simp at hg3; omega
        · exact h
      obtain rfl : ki = (k : Int) := hki.symm.trans h3
      have hf := DiskD.read_eq (DiskD.file_some hok h1 hx)
      have hkl : k < X.fFiles.length := get_lt hx
      have hP := (hX.1 f (get_mem hx)).2.1
      have hw1 : wtPages f.fPages ≤ wtDisk X := by
        have h4 := wt_file_at X.fFiles k hkl
        have h5 : X.fFiles[k] = f := by have := hx; rw [List.getElem?_eq_getElem hkl] at this; exact Option.some.inj this
        rw [h5] at h4; exact h4
      have hw2 := wt_page_len f.fPages
      have hw3 := flat_wt f.fPages
      have hK : (R.fmtPages f.fPages).length ≤ 1000000000000 := by have := fmtPages_len f.fPages; omega
      refine DW.qY rfl (ok_field_bp (b := 0) (o' := 0) (off := 0) rfl rfl fld_impl_Disk_0) rfl rfl rfl (Nat.le_of_ble_eq_true rfl) rfl rfl rfl (Nat.le_of_ble_eq_true rfl) (fun _ _ _ _ h => h) ?_
      refine DW.qY rfl (ok_load_bp (b := 0) (i := 0) (ag := false) (m := 1) (ys := [.ro _]) rfl rfl rfl agg_s_impl_File sz_s_impl_File (fun _ => rfl) rfl rfl (Nat.le_of_ble_eq_true rfl)) rfl rfl rfl (Nat.le_of_ble_eq_true rfl) rfl rfl rfl (Nat.le_of_ble_eq_true rfl) (fun _ _ _ _ h => h) ?_
      refine DW.qY rfl (ok_move (v := V.one (.sc _)) (.inl rfl) rfl) rfl rfl rfl (Nat.le_of_ble_eq_true rfl) rfl rfl rfl (Nat.le_of_ble_eq_true rfl) (fun _ _ _ _ h => h) ?_
      refine DW.qY rfl (ok_index (n := 4) (lf := .ro _) rfl elt_impl_File.und sz_impl_File rfl rfl rfl (map_at (by assumption))) rfl rfl rfl (Nat.le_of_ble_eq_true rfl) rfl rfl rfl (Nat.le_of_ble_eq_true rfl) (fun _ _ _ _ h => h) ?_
      refine DW.qY rfl (ok_field_el (p := .rp _) (off := 3) rfl rfl rfl fld_impl_File_3) rfl rfl rfl (Nat.le_of_ble_eq_true rfl) rfl rfl rfl (Nat.le_of_ble_eq_true rfl) (fun _ _ _ _ h => h) ?_
      refine DW.qY rfl (ok_load_rp (ag := false) (m := 1) (ys := [.sc _]) rfl rfl agg_bool sz_bool (fun _ => rfl) (Nat.le_of_ble_eq_true rfl) rfl) rfl rfl rfl (Nat.le_of_ble_eq_true rfl) rfl rfl rfl (Nat.le_of_ble_eq_true rfl) (fun _ _ _ _ h => h) ?_
      refine DW.qY rfl (ok_s1 (x := .tmp 23) (VScal.one rfl) (fun ρ h1 w => by go_simp; (try go_bits); with_reducible rfl) rfl) rfl rfl rfl (Nat.le_of_ble_eq_true rfl) rfl rfl rfl (Nat.le_of_ble_eq_true rfl) (fun _ _ _ _ h => h) ?_
      refine DW.q rfl (ok_pickF (v := V.one (.sc _)) rfl rfl rfl) rfl rfl (Nat.le_of_ble_eq_true rfl) (fun _ _ _ _ h => h) ?_
      refine DW.q rfl (ok_move (v := V.one (.sc _)) (.inl rfl) rfl) rfl rfl (Nat.le_of_ble_eq_true rfl) (fun _ _ _ _ h => h) ?_
      refine DW.split (d := 26) rfl (fun hg5 => ?_) (fun hg5 => ?_)
      · skip   -- g5.T
        have ho : DiskD.read X name = none := by rw [hf, if_neg (by unfold FileD.whole; simp at hg5; simp [hg5])]
        refine DW.qN (V' := V.one .dead) rfl rfl rfl rfl (Nat.le_of_ble_eq_true rfl) rfl rfl rfl (Nat.le_of_ble_eq_true rfl) (fun _ _ _ _ h => h) ?_
        refine DW.qN (V' := V.one .dead) rfl rfl rfl rfl (Nat.le_of_ble_eq_true rfl) rfl rfl rfl (Nat.le_of_ble_eq_true rfl) (fun _ _ _ _ h => h) ?_
        refine DW.qN (V' := V.one .dead) rfl rfl rfl rfl (Nat.le_of_ble_eq_true rfl) rfl rfl rfl (Nat.le_of_ble_eq_true rfl) (fun _ _ _ _ h => h) ?_
        refine DW.qN (V' := V.one .dead) rfl rfl rfl rfl (Nat.le_of_ble_eq_true rfl) rfl rfl rfl (Nat.le_of_ble_eq_true rfl) (fun _ _ _ _ h => h) ?_
        refine DW.qN (V' := V.one .dead) rfl rfl rfl rfl (Nat.le_of_ble_eq_true rfl) rfl rfl rfl (Nat.le_of_ble_eq_true rfl) (fun _ _ _ _ h => h) ?_
        refine DW.qN (V' := V.one .dead) rfl rfl rfl rfl (Nat.le_of_ble_eq_true rfl) rfl rfl rfl (Nat.le_of_ble_eq_true rfl) (fun _ _ _ _ h => h) ?_
        refine DW.qN (V' := V.one .dead) rfl rfl rfl rfl (Nat.le_of_ble_eq_true rfl) rfl rfl rfl (Nat.le_of_ble_eq_true rfl) (fun _ _ _ _ h => h) ?_
        refine DW.qN (V' := V.one .dead) rfl rfl rfl rfl (Nat.le_of_ble_eq_true rfl) rfl rfl rfl (Nat.le_of_ble_eq_true rfl) (fun _ _ _ _ h => h) ?_
        refine DW.qN (V' := V.one .dead) rfl rfl rfl rfl (Nat.le_of_ble_eq_true rfl) rfl rfl rfl (Nat.le_of_ble_eq_true rfl) (fun _ _ _ _ h => h) ?_
        refine DW.qN (V' := V.one .dead) rfl rfl rfl rfl (Nat.le_of_ble_eq_true rfl) rfl rfl rfl (Nat.le_of_ble_eq_true rfl) (fun _ _ _ _ h => h) ?_
        refine DW.qN (V' := V.one .dead) rfl rfl rfl rfl (Nat.le_of_ble_eq_true rfl) rfl rfl rfl (Nat.le_of_ble_eq_true rfl) (fun _ _ _ _ h => h) ?_
        refine DW.qN (V' := V.one .dead) rfl rfl rfl rfl (Nat.le_of_ble_eq_true rfl) rfl rfl rfl (Nat.le_of_ble_eq_true rfl) (fun _ _ _ _ h => h) ?_
        refine DW.mN rfl rfl rfl rfl (Nat.le_of_ble_eq_true rfl) rfl rfl rfl (Nat.le_of_ble_eq_true rfl) ?_
        refine DW.mN rfl rfl rfl rfl (Nat.le_of_ble_eq_true rfl) rfl rfl rfl (Nat.le_of_ble_eq_true rfl) ?_
        refine DW.qN (V' := V.one .dead) rfl rfl rfl rfl (Nat.le_of_ble_eq_true rfl) rfl rfl rfl (Nat.le_of_ble_eq_true rfl) (fun _ _ _ _ h => h) ?_
        refine DW.q rfl (ok_pickT (v := V.one (.sc _)) rfl rfl rfl) rfl rfl (Nat.le_of_ble_eq_true rfl) (fun _ _ _ _ h => h) ?_
        refine DW.stores ?_
        refine SV.zend ?_
        refine SV.tn ?_
        refine SV.cond rfl (fun hc2 => ?_) (fun hc2 => ?_)
        · skip   -- c2.T
          refine SV.seq' ?_
          refine SV.region ?_
          refine SV.op (OpMk.ok (ok_lit0 (kk := 0) elt_impl_Row rfl rfl rfl (Nat.le_of_ble_eq_true rfl))) rfl ?_
          refine SV.op (OpL.ok (nb := 1) (ok_move (v := V.one (.hd 0)) (.inr rfl) rfl) rfl (Nat.le_of_ble_eq_true rfl)) rfl ?_
          refine SV.op (OpL.ok (nb := 1) (ok_move (v := V.one (.sc _)) (.inr rfl) rfl) rfl (Nat.le_of_ble_eq_true rfl)) rfl ?_
          refine SV.nil ?_
          refine SV.tn ?_
          refine SV.ret ?_
          refine SV.tr ?_
          apply SV.done (hf := Tryd.results71) (ht := rfl) (he := .inl rfl)
          case hr => exact (ResAll.cons (ResOk.tmp (ag := false) (xs := [.hd 0]) rfl) (ResAll.cons (ResOk.tmp (ag := false) (xs := [.sc _]) rfl) ResAll.nil'))
          case h2 => simp [two]
          refine ⟨rfl, ⟨?_, trivial⟩, ⟨rfl, ⟨?_, trivial⟩, trivial⟩⟩ <;> (rw [ho]; rfl)
        · skip   -- c2.F
          cases hc2
      · skip   -- g5.F
        refine DW.qY rfl (ok_field_bp (b := 0) (o' := 0) (off := 0) rfl rfl fld_impl_Disk_0) rfl rfl rfl (Nat.le_of_ble_eq_true rfl) rfl rfl rfl (Nat.le_of_ble_eq_true rfl) (fun _ _ _ _ h => h) ?_
        refine DW.qY rfl (ok_load_bp (b := 0) (i := 0) (ag := false) (m := 1) (ys := [.ro _]) rfl rfl rfl agg_s_impl_File sz_s_impl_File (fun _ => rfl) rfl rfl (Nat.le_of_ble_eq_true rfl)) rfl rfl rfl (Nat.le_of_ble_eq_true rfl) rfl rfl rfl (Nat.le_of_ble_eq_true rfl) (fun _ _ _ _ h => h) ?_
        refine DW.qY rfl (ok_move (v := V.one (.sc _)) (.inl rfl) rfl) rfl rfl rfl (Nat.le_of_ble_eq_true rfl) rfl rfl rfl (Nat.le_of_ble_eq_true rfl) (fun _ _ _ _ h => h) ?_
        refine DW.qY rfl (ok_index (n := 4) (lf := .ro _) rfl elt_impl_File.und sz_impl_File rfl rfl rfl (map_at (by assumption))) rfl rfl rfl (Nat.le_of_ble_eq_true rfl) rfl rfl rfl (Nat.le_of_ble_eq_true rfl) (fun _ _ _ _ h => h) ?_
        refine DW.qY rfl (ok_field_el (p := .rp _) (off := 2) rfl rfl rfl fld_impl_File_2) rfl rfl rfl (Nat.le_of_ble_eq_true rfl) rfl rfl rfl (Nat.le_of_ble_eq_true rfl) (fun _ _ _ _ h => h) ?_
        refine DW.qY rfl (ok_load_rp (ag := false) (m := 1) (ys := [.sc _]) rfl rfl agg_int sz_int (fun _ => rfl) (Nat.le_of_ble_eq_true rfl) rfl) rfl rfl rfl (Nat.le_of_ble_eq_true rfl) rfl rfl rfl (Nat.le_of_ble_eq_true rfl) (fun _ _ _ _ h => h) ?_
        refine DW.qY rfl (ok_field_bp (b := 0) (o' := 0) (off := 0) rfl rfl fld_impl_Disk_0) rfl rfl rfl (Nat.le_of_ble_eq_true rfl) rfl rfl rfl (Nat.le_of_ble_eq_true rfl) (fun _ _ _ _ h => h) ?_
        refine DW.qY rfl (ok_load_bp (b := 0) (i := 0) (ag := false) (m := 1) (ys := [.ro _]) rfl rfl rfl agg_s_impl_File sz_s_impl_File (fun _ => rfl) rfl rfl (Nat.le_of_ble_eq_true rfl)) rfl rfl rfl (Nat.le_of_ble_eq_true rfl) rfl rfl rfl (Nat.le_of_ble_eq_true rfl) (fun _ _ _ _ h => h) ?_
        refine DW.qY rfl (ok_move (v := V.one (.sc _)) (.inl rfl) rfl) rfl rfl rfl (Nat.le_of_ble_eq_true rfl) rfl rfl rfl (Nat.le_of_ble_eq_true rfl) (fun _ _ _ _ h => h) ?_
        refine DW.qY rfl (ok_index (n := 4) (lf := .ro _) rfl elt_impl_File.und sz_impl_File rfl rfl rfl (map_at (by assumption))) rfl rfl rfl (Nat.le_of_ble_eq_true rfl) rfl rfl rfl (Nat.le_of_ble_eq_true rfl) (fun _ _ _ _ h => h) ?_
        refine DW.qY rfl (ok_field_el (p := .rp _) (off := 1) rfl rfl rfl fld_impl_File_1) rfl rfl rfl (Nat.le_of_ble_eq_true rfl) rfl rfl rfl (Nat.le_of_ble_eq_true rfl) (fun _ _ _ _ h => h) ?_
        refine DW.qY rfl (ok_load_rp (ag := false) (m := 1) (ys := [.ro _]) rfl rfl agg_s_impl_Page sz_s_impl_Page (fun _ => rfl) (Nat.le_of_ble_eq_true rfl) rfl) rfl rfl rfl (Nat.le_of_ble_eq_true rfl) rfl rfl rfl (Nat.le_of_ble_eq_true rfl) (fun _ _ _ _ h => h) ?_
        refine DW.m' [] rfl (ok_call (ls := [(false, [.sc _])]) rfl rfl ⟨_, _, Tryd.func108, rfl, by decide⟩ (vfpages_s f.fPages hP (by omega) (by omega)) ⟨⟨[.ro _], rfl, ⟨rfl, trivial⟩⟩, trivial⟩ rfl (Nat.le_of_ble_eq_true rfl)) (fun hr => wantedY hr rfl rfl rfl (Nat.le_of_ble_eq_true rfl) rfl rfl) (Nat.le_of_ble_eq_true rfl) (Nat.le_of_ble_eq_true rfl) (.inl rfl) (fun j hj => by cases hj) ?_
        refine DW.m' [] rfl (ok_call (ls := [(false, [.sc _])]) rfl rfl ⟨_, _, Tryd.func107, rfl, by decide⟩ (vck_s (R.fmtPages f.fPages) hK) ⟨⟨[.sc _], rfl, ⟨rfl, trivial⟩⟩, trivial⟩ rfl (Nat.le_of_ble_eq_true rfl)) (fun hr => wantedY hr rfl rfl rfl (Nat.le_of_ble_eq_true rfl) rfl rfl) (Nat.le_of_ble_eq_true rfl) (Nat.le_of_ble_eq_true rfl) (.inl rfl) (fun j hj => by cases hj) ?_
        refine DW.qY rfl (ok_s2 (x := .tmp 32) (x' := .tmp 40) (VScal.one rfl) (VScal.one rfl) (fun ρ h1 h2 w => by go_simp; (try go_bits); with_reducible rfl) rfl) rfl rfl rfl (Nat.le_of_ble_eq_true rfl) rfl rfl rfl (Nat.le_of_ble_eq_true rfl) (fun _ _ _ _ h => h) ?_
        refine DW.q rfl (ok_pickF (v := V.one (.sc _)) rfl rfl rfl) rfl rfl (Nat.le_of_ble_eq_true rfl) (fun _ _ _ _ h => h) ?_
        refine DW.stores ?_
        refine SV.zend ?_
        refine SV.tn ?_
        refine SV.cond rfl (fun hc3 => ?_) (fun hc3 => ?_)
        · skip   -- c3.T
          have ho : DiskD.read X name = none := by rw [hf, if_neg (by unfold FileD.whole; simp at hg5 hc3; simp [hg5, hc3])]
          refine SV.seq' ?_
          refine SV.region ?_
          refine SV.op (OpMk.ok (ok_lit0 (kk := 0) elt_impl_Row rfl rfl rfl (Nat.le_of_ble_eq_true rfl))) rfl ?_
          refine SV.op (OpL.ok (nb := 1) (ok_move (v := V.one (.hd 0)) (.inr rfl) rfl) rfl (Nat.le_of_ble_eq_true rfl)) rfl ?_
          refine SV.op (OpL.ok (nb := 1) (ok_move (v := V.one (.sc _)) (.inr rfl) rfl) rfl (Nat.le_of_ble_eq_true rfl)) rfl ?_
          refine SV.nil ?_
          refine SV.tn ?_
          refine SV.ret ?_
          refine SV.tr ?_
          apply SV.done (hf := Tryd.results71) (ht := rfl) (he := .inl rfl)
          case hr => exact (ResAll.cons (ResOk.tmp (ag := false) (xs := [.hd 0]) rfl) (ResAll.cons (ResOk.tmp (ag := false) (xs := [.sc _]) rfl) ResAll.nil'))
          case h2 => simp [two]
          refine ⟨rfl, ⟨?_, trivial⟩, ⟨rfl, ⟨?_, trivial⟩, trivial⟩⟩ <;> (rw [ho]; rfl)
        · skip   -- c3.F
          have ho := hf.trans (if_pos (by unfold FileD.whole; simp at hg5 hc3; simp [hg5, hc3]))
          refine SV.skip ?_
          refine SV.tn ?_
          refine SV.seq' ?_
          refine SV.region ?_
          refine SV.op (OpL.ok (nb := 1) (ok_field_bp (b := 0) (o' := 0) (off := 0) rfl rfl fld_impl_Disk_0) rfl (Nat.le_of_ble_eq_true rfl)) rfl ?_
          refine SV.op (OpL.ok (nb := 1) (ok_load_bp (b := 0) (i := 0) (ag := false) (m := 1) (ys := [.ro _]) rfl rfl rfl agg_s_impl_File sz_s_impl_File (fun _ => rfl) rfl rfl (Nat.le_of_ble_eq_true rfl)) rfl (Nat.le_of_ble_eq_true rfl)) rfl ?_
          refine SV.op (OpL.ok (nb := 1) (ok_move (v := V.one (.sc _)) (.inl rfl) rfl) rfl (Nat.le_of_ble_eq_true rfl)) rfl ?_
          refine SV.op (OpL.ok (nb := 1) (ok_index (n := 4) (lf := .ro _) rfl elt_impl_File.und sz_impl_File rfl rfl rfl (map_at (by assumption))) rfl (Nat.le_of_ble_eq_true rfl)) rfl ?_
          refine SV.op (OpL.ok (nb := 1) (ok_field_el (p := .rp _) (off := 1) rfl rfl rfl fld_impl_File_1) rfl (Nat.le_of_ble_eq_true rfl)) rfl ?_
          refine SV.op (OpL.ok (nb := 1) (ok_load_rp (ag := false) (m := 1) (ys := [.ro _]) rfl rfl agg_s_impl_Page sz_s_impl_Page (fun _ => rfl) (Nat.le_of_ble_eq_true rfl) rfl) rfl (Nat.le_of_ble_eq_true rfl)) rfl ?_
          refine SV.op (OpMk.ok (ok_call (ls := [(false, [.hd 0])]) rfl rfl ⟨_, _, Tryd.func109, rfl, by decide⟩ (vunpack_s f.fPages hP (by omega)) ⟨⟨[.ro _], rfl, ⟨rfl, trivial⟩⟩, trivial⟩ rfl (Nat.le_of_ble_eq_true rfl))) rfl ?_
          refine SV.op (OpL.ok (nb := 1) (ok_move (v := V.one (.hd 0)) (.inr rfl) rfl) rfl (Nat.le_of_ble_eq_true rfl)) rfl ?_
          refine SV.op (OpL.ok (nb := 1) (ok_move (v := V.one (.sc _)) (.inr rfl) rfl) rfl (Nat.le_of_ble_eq_true rfl)) rfl ?_
          refine SV.nil ?_
          refine SV.tn ?_
          refine SV.ret ?_
          apply SV.done (hf := Tryd.results71) (ht := rfl) (he := .inl rfl)
          case hr => exact (ResAll.cons (ResOk.tmp (ag := false) (xs := [.hd 0]) rfl) (ResAll.cons (ResOk.tmp (ag := false) (xs := [.sc _]) rfl) ResAll.nil'))
          case h2 => simp [two]
          refine ⟨rfl, ⟨?_, trivial⟩, ⟨rfl, ⟨?_, trivial⟩, trivial⟩⟩ <;> (rw [ho]; rfl)
end Go.Proofs.YtmlcdhblofjpbaaDoor
/- Calls that yield the address of an element of an argument's slice: told by trees. -/
namespace Go.Proofs.YtmlcdhblofjpbaaDoor.V
open Go Go.RowKit
set_option linter.unusedVariables false
variable {P : Program} {E : Env} {N nb : Nat} {σ : VS} {o : Oper} {w : World} {G : Ghost}
/-- The call answers the address of element k of the slice that its first argument begins with, and true; or nil and false. -/
def VPt (P : Program) (f : FuncId) (ins : List (Bool × List T)) (n : Nat) (r : Option Nat) : Prop := ∀ (w : World) (vs : List Value), ArgsIn (Env.of w) w ins vs → Calls P f vs.toArray w fun e w' => Below w.heap.size w w' ∧
  (r = none → e = .returned (.tuple #[.pointer none, .bool false])) ∧ ∀ k, r = some k → ∀ (us : List Value) (b q N c : Nat), vs[0]? = some (cval true us) → us[0]? = some (.slice (some ⟨b, q, none⟩) N c) → e = .returned (.tuple #[.pointer (some ⟨b, q + k * n, none⟩), .bool true])
theorem vtwo {x y : Leaf} {u v : Value} (h1 : Holds G σ E w x u) (h2 : Holds G σ E w y v) : VHolds G σ E w ⟨true, [(false, [x]), (false, [y])]⟩ (.tuple #[u, v]) := ⟨[[u], [v]], rfl, rfl, fun c ag xs us hc hu => by
  match c, hc, hu with
  | 0, hc, hu => cases hc; cases hu; exact ⟨rfl, fun j z u' hz hu => by match j, hz, hu with | 0, hz, hu => cases hz; cases hu; exact h1⟩
  | 1, hc, hu => cases hc; cases hu; exact ⟨rfl, fun j z u' hz hu => by match j, hz, hu with | 0, hz, hu => cases hz; cases hu; exact h2⟩⟩
theorem ok_callPt0 {d : Nat} {f : FuncId} {xs : List Operand} {ats : Array TypeId} {qs : List (Bool × List T)} {n : Nat} (ho : o.op = .call { callee := .value (.func f), args := xs.toArray, argTypes := ats }) (hb : ∃ fn c, P.funcs[f]? = some fn ∧ fn.body = some c ∧ fn.name ≠ "runtime.NumGoroutine")
    (hc : VPt P f qs n none) (hx : σ.argss xs qs) (hd : o.dst = some d) (hdN : d < N) : OpMk P E N none σ o (σ.put d ⟨true, [(false, [.sc (.pointer none)]), (false, [.sc (.bool false)])]⟩) :=
  fun a w G K Q h k => by
    obtain ⟨fn, c, h1, h2, h2'⟩ := hb
    have hcall := hc w (xs.map a.eval) (h.args hx)
    have hrun : (execOp a.eval o).run P w = .ok (.enter f (xs.map a.eval).toArray) w := by
      simp [execOp, ho, resolve, Act.eval, Deferred.ofValue, invoke, callFunc, h1, h2, h2', Result.andThen]
    unfold Oper.wp
    rw [hrun]
    refine hcall.mono fun e w' ⟨h7, h4, _⟩ => ?_
    obtain rfl := h4 rfl
    rw [hd]
    exact k _ _ G ((h.ext h7).put hdN (vtwo ⟨rfl, .inr rfl⟩ ⟨rfl, .inr rfl⟩)) ⟨h7.size, .of_below (h7.mono h.low), fun _ _ => rfl, fun _ _ => rfl, fun b hb => .inl (h7.block b hb), fun i e1 e2 => absurd e2 (Nat.not_lt.2 e1)⟩
theorem ok_callPt {d : Nat} {f : FuncId} {x0 : Operand} {xs : List Operand} {ats : Array TypeId} {qs : List (Bool × List T)} {n k i : Nat} {ls : List Leaf} {ty : TypeId} {es : List (List T)} (ho : o.op = .call { callee := .value (.func f), args := (x0 :: xs).toArray, argTypes := ats }) (hb : ∃ fn c, P.funcs[f]? = some fn ∧ fn.body = some c ∧ fn.name ≠ "runtime.NumGoroutine")
    (hc : VPt P f qs n (some k)) (hx : σ.argss (x0 :: xs) qs) (h0 : σ.ev x0 = V.flat true (.hd i :: ls)) (ht : σ.tr (.hd i) = some (.seq ty es)) (hl : k < es.length) (hd : o.dst = some d) (hdN : d < N) : OpMk P E N none σ o (σ.put d ⟨true, [(false, [.ep i k n 0]), (false, [.sc (.bool true)])]⟩) :=
  fun a w G K Q h kk => by
    obtain ⟨fn, c, h1, h2, h2'⟩ := hb
    have hcall := hc w ((x0 :: xs).map a.eval) (h.args hx)
    have hrun : (execOp a.eval o).run P w = .ok (.enter f ((x0 :: xs).map a.eval).toArray) w := by
      simp [execOp, ho, resolve, Act.eval, Deferred.ofValue, invoke, callFunc, h1, h2, h2', Result.andThen]
    have he := h.ev x0
    rw [h0, vflat] at he
    obtain ⟨us, e1, e2, e3⟩ := he
    obtain ⟨u0, hu0⟩ : ∃ u0, us[0]? = some u0 := ⟨us[0]'(by rw [e2]; simp), List.getElem?_eq_getElem _⟩
    obtain ⟨⟨hi1, hi2⟩, -⟩ := e3 0 _ u0 rfl hu0
    obtain ⟨⟨ver, s⟩, ho1, ho2⟩ := Option.map_eq_some_iff.1 ht
    obtain ⟨-, ho3, -⟩ := h.objs i ver s ho1
    have ho2' : s = .seq ty es := ho2
    subst ho2'
    cases ho3 with
    | seq n2 hp2 hz2 hn2 ys hown =>
      obtain ⟨a2, c2, h4, -, -, -, h7⟩ := own_slice hown
      obtain ⟨g, h8, -⟩ := h7 (by omega)
      rw [h8] at h4
      unfold Oper.wp
      rw [hrun]
      refine hcall.mono fun e w' ⟨h7, _, h5⟩ => ?_
      obtain rfl := h5 k rfl us g 0 es.length c2 (by show some (a.eval x0) = _; rw [e1]) (by rw [hu0, hi2, h4])
      rw [hd]
      exact kk _ _ G ((h.ext h7).put hdN (vtwo ⟨⟨hi1, g, es.length, c2, h4, by rw [Nat.zero_add, Nat.add_zero]⟩, .inr rfl⟩ ⟨rfl, .inr rfl⟩)) ⟨h7.size, .of_below (h7.mono h.low), fun _ _ => rfl, fun _ _ => rfl, fun b hb => .inl (h7.block b hb), fun i e1 e2 => absurd e2 (Nat.not_lt.2 e1)⟩
theorem ok_nilcheck {x : Operand} {i k n q : Nat} (ho : o.op = .nilCheck x) (hx : σ.ev x = V.one (.ep i k n q)) : OpL P E N nb σ o (V.one (.ep i k n q)) :=
  fun a w G h => ⟨a.eval x, fun v' _ => by
    have h0 := h.ev x
    rw [hx, vone] at h0
    obtain ⟨⟨-, g, M, c, -, h1⟩, -⟩ := h0
    simp [execOp, ho, h1], by rw [← hx]; exact h.ev x⟩
end Go.Proofs.YtmlcdhblofjpbaaDoor.V
/- The program's findFile, by contract. -/
namespace Go.Proofs.YtmlcdhblofjpbaaDoor
open Go.RowKit
set_option linter.unusedVariables false

/-- The answer of findFile: the address of the file that an operation reaches, and whether there is one. -/
def GivesFound (X : DiskD) (name : Int) (a : Option Addr) (w : World) (e : Ending) (w' : World) : Prop :=
  ((DiskD.file X name = none ∧ e = .returned (.tuple #[.pointer none, .bool false])) ∨ (∃ (k : Nat) (f : FileD) (b o : Nat), DiskD.file X name = some (k, f) ∧ X.fFiles[k]? = some f ∧ a = some ⟨b, o, none⟩ ∧ e = .returned (.tuple #[.pointer (some ⟨b, o + k * 4, none⟩), .bool true]))) ∧ Below w.heap.size w w'
set_option maxRecDepth 100000 in
set_option maxHeartbeats 1000000 in
theorem ifind (a : Option Addr) (n c : Nat) (X : DiskD) (name : Int) (w : World) (h : diskRep.inn w X ((a, n, c), ())) (hw : wtDisk X ≤ 1000000000) :
    Calls Tryd.prog 84 #[.agg #[.slice a n c, .int .i64 X.fNextName], .int .i64 name] w (GivesFound X name a w) := by
  obtain ⟨W, hW⟩ : ∃ W, W = w.alloc (.cells #[.slice a n c, .int .i64 X.fNextName] 55) := ⟨_, rfl⟩
  have hb : Below w.heap.size w W := by rw [hW]; exact (Below.refl _ _).alloc (Nat.le_refl _) _
  have k0 : W.heap[w.heap.size]? = some (.cells #[.slice a n c, .int .i64 X.fNextName] 55 (0, 0)) := by rw [hW]; exact heap_alloc_new _ _
  have HB := Lib.hid hb
  have HX := Lib.hid (h.keep hb)
  have HI := Lib.hid (disk_in (h.keep hb)).1
  have HL := Lib.hid (disk_len h).1
  have hnm := (disk_len h).2
  unfold maxLen at hnm
  have HW := Lib.hid hw
  have FF : Hid (∀ v, Kept W.heap.size W v → v.cell? ⟨w.heap.size, 0, none⟩ = some (.slice a n c) ∧ v.cell? ⟨w.heap.size, 1, none⟩ = some (.int .i64 X.fNextName)) := Lib.hid fun v hv =>
    ⟨hv.cell (lt_of_block k0) (box_cell k0 0 _ rfl), hv.cell (lt_of_block k0) (box_cell k0 1 _ rfl)⟩
  obtain ⟨p0, p1⟩ := FF.out W (Kept.refl (Nat.le_refl _))
  clear h hb k0 hw
  go_enter Tryd.func84, Tryd.ntmps84
  go_upto_region 1 with fail
  rw [← hW]
  clear hW
  go_wp2_with fail
  clear p0 p1
  refine (iokdisk a n c X W HX.out HW.out).mono ?_
  rintro e w1 ⟨rfl, b1⟩
  have K1 : Hid (Kept W.heap.size W w1) := Lib.hid ⟨b1, b1.size⟩
  obtain ⟨p0, p1⟩ := FF.out _ K1.out
  have KB1 := Lib.hid (HB.out.trans (b1.mono HB.out.size))
  clear b1
  cases hok : DiskD.okD X with
  | false =>
    have HN := Lib.hid (DiskD.file_bad (name := name) hok)
    clear hok
    go_wp2_with fail
    go_ret2
    exact ⟨.inl ⟨HN.out, rfl⟩, KB1.out⟩
  | true =>
    have HOK := Lib.hid hok
    clear hok
    go_wp2_with fail
    go_loopw [13] (fun i wr => ∃ (t : Nat), i = .int .i64 t ∧ t ≤ n ∧ Hid (∀ (s : Nat) (g : FileD), s < t → X.fFiles[s]? = some g → g.fName ≠ name) ∧ Hid (w1 = wr)) (fun i _ => n - (intOf i).toNat)
    case atStart => exact ⟨0, rfl, Nat.zero_le _, fun s g hs => absurd hs (Nat.not_lt_zero _), rfl⟩
    case round =>
      obtain ⟨t, rfl, ht, hno, hwr⟩ := hrel
      obtain rfl := hwr.out
      by_cases hlt : t < n
      · have htl : t < X.fFiles.length := by have := HL.out; omega
        obtain ⟨f, hf⟩ : ∃ f, X.fFiles[t]? = some f := ⟨X.fFiles[t], by simp [htl]⟩
        obtain ⟨b, o, hd, rfl, hbl, hce, hin⟩ := HI.out.el hf
        have HF := Lib.hid hf
        obtain ⟨x0, x1, x2, x3⟩ := f
        obtain ⟨⟨a1, n1, k1⟩, ⟨⟩⟩ := hd
        have c1 : w1.cell? ⟨b, o + t * 4, none⟩ = some (.int .i64 x0) := K1.out.cell hbl (hce 0 _ rfl)
        clear hf hce hin
        by_cases he : x0 = name
        · have HA := Lib.hid (DiskD.file_some HOK.out (DiskD.at_hit HF.out he hno.out) HF.out)
          go_wp2_with fail
          go_ret2
          exact ⟨.inr ⟨t, _, b, o, HA.out, HF.out, rfl, rfl⟩, KB1.out⟩
        · have hne : (x0 == name) = false := by simpa using he
          have HE := Lib.hid he
          clear he
          go_wp2_with fail
          go_roundw
          case rel =>
            refine ⟨t + 1, by go_num, by omega, fun s g hs hg => ?_, trivial⟩
            rcases Nat.lt_or_ge s t with h1 | h1
            · exact hno.out s g h1 hg
            · obtain rfl : s = t := by omega
              rw [HF.out] at hg
              cases hg
              exact HE.out
          case measure => simp [intOf]; omega
      · have HA := Lib.hid (DiskD.file_none (d := X) (name := name) (DiskD.at_miss fun s g hg => hno.out s g (by have := idx_lt hg; have := HL.out; omega) hg))
        go_wp2_with fail
        go_ret2
        exact ⟨.inl ⟨HA.out, rfl⟩, KB1.out⟩
end Go.Proofs.YtmlcdhblofjpbaaDoor
/- The program's findFile: told by trees. -/
namespace Go.Proofs.YtmlcdhblofjpbaaDoor
open Go Go.RowKit V
set_option linter.unusedVariables false
theorem vfind_i (X : DiskD) (name : Int) (hX : goodDisk X) (hw : wtDisk X ≤ 1000000000) : VPt Tryd.prog 84 [(true, tDisk X), (false, [.lit (.int .i64 name)])] 4 ((DiskD.file X name).map fun kf => kf.1) := fun w vs hv => by
  obtain ⟨k0, vs', rfl, h1, h2⟩ := hv.shape fitsDisk hX
  obtain ⟨vs', rfl, h3⟩ := h2.lit
  rw [h3.none]
  refine (ifind k0.1.1 k0.1.2.1 k0.1.2.2 X name w h1 hw).mono fun e w' ⟨hr, hb⟩ => ⟨hb, fun hn => ?_, fun k hk us b q N c e1 e2 => ?_⟩
  · rcases hr with ⟨hf, he⟩ | ⟨k, f, b, o, hf, hk, ha, he⟩
    · exact he
    · rw [hf] at hn; cases hn
  · rcases hr with ⟨hf, he⟩ | ⟨k', f, b', o, hf, hk', ha, he⟩
    · rw [hf] at hk; cases hk
    · rw [hf] at hk
      have hkk : k' = k := Option.some.inj hk
      subst hkk
      have e3 : cval true (diskRep.cells X k0) = cval true us := Option.some.inj e1
      have e4 : (diskRep.cells X k0).toArray = us.toArray := by injection e3
      have e5 : diskRep.cells X k0 = us := by simpa using e4
      rw [← e5] at e2
      have e6 : Value.slice k0.1.1 k0.1.2.1 k0.1.2.2 = .slice (some ⟨b, q, none⟩) N c := Option.some.inj e2
      injection e6 with e6 _ _
      rw [ha] at e6
      injection e6 with e6
      injection e6 with e7 e8
      subst e7 e8
      exact he
end Go.Proofs.YtmlcdhblofjpbaaDoor
/- The program's copy of a disk: told by trees. -/
namespace Go.Proofs.YtmlcdhblofjpbaaDoor
open Go Go.RowKit V
set_option linter.unusedVariables false
set_option maxRecDepth 100000 in
set_option maxHeartbeats 2000000 in
theorem vclonerows (p : List R) (hp : p.length ≤ 1000000000) : VC Tryd.prog 122 [(false, [.seq 41 (p.map tRow)])] false [(false, [.seq 41 (p.map tRow)])] := by
  refine VC.enter Tryd.func122 rfl Tryd.ntmps122 (Nat.le_of_ble_eq_true rfl) fun E hE => ?_
  refine SV.seq' ?_
  refine SV.region ?_
  refine SV.op (OpL.ok (nb := 0) (ok_move (v := V.one (.sc _)) (.inr rfl) rfl) rfl (Nat.le_of_ble_eq_true rfl)) rfl ?_
  refine SV.nil ?_
  refine SV.tn ?_
  refine SV.seq' ?_
  refine SV.seq' ?_
  refine SV.region ?_
  refine SV.op (OpL.ok (nb := 0) (ok_move (v := V.one (.ro _)) (.inl rfl) rfl) rfl (Nat.le_of_ble_eq_true rfl)) rfl ?_
  refine SV.isnil (d := 4) (x := .tmp 3) (y := .const ((Value.slice none 0 0))) rfl rfl rfl (Nat.le_of_ble_eq_true rfl) rfl (fun ρ ad n c w h1 h2 => by (cases ad <;> (go_simp; first | done | rfl | (simp [h1, h2]; done)))) (fun hg0 => ?_) ?_
  · skip   -- g0.T
    refine SV.nil ?_
    refine SV.tn ?_
    refine SV.cond rfl (fun hc0 => ?_) (fun hc0 => ?_)
    · skip   -- c0.T
      refine SV.seq' ?_
      refine SV.region ?_
      refine SV.op (OpL.ok (nb := 0) (ok_move (v := V.one (.sc _)) (.inr rfl) rfl) rfl (Nat.le_of_ble_eq_true rfl)) rfl ?_
      refine SV.nil ?_
      refine SV.tn ?_
      refine SV.ret ?_
      refine SV.tr ?_
      refine SV.nlsc (s := 2) (kk := 0) (n := 3) rfl rfl (by decide) sz_impl_Row (Nat.le_of_ble_eq_true rfl) ?_
      apply SV.done (hf := Tryd.results122) (ht := rfl) (he := .inr rfl)
      case hr => exact (ResAll.cons (ResOk.tmp (ag := false) (xs := [.hd 0]) rfl) ResAll.nil')
      case h2 => simp [two]
      refine ⟨rfl, ⟨?_, trivial⟩, trivial⟩ <;> (show some (T.seq _ _) = some (T.seq _ _); first | rfl | (rw [hg0]; done) | (simp; done))
    · skip   -- c0.F
      cases hc0
  · skip   -- g0.F
    refine SV.nil ?_
    refine SV.tn ?_
    refine SV.cond rfl (fun hc1 => ?_) (fun hc1 => ?_)
    · skip   -- c1.T
      cases hc1
    · skip   -- c1.F
      refine SV.skip ?_
      refine SV.tn ?_
      refine SV.seq' ?_
      refine SV.region ?_
      refine SV.op (OpMk.ok (ok_lit0 (kk := 0) elt_impl_Row rfl rfl rfl (Nat.le_of_ble_eq_true rfl))) rfl ?_
      refine SV.op (OpL.ok (nb := 0) (ok_move (v := V.one (.ro _)) (.inl rfl) rfl) rfl (Nat.le_of_ble_eq_true rfl)) rfl ?_
      refine SV.op (OpMk.ok (ok_append_ro (kk := 1) elt_impl_Row (ls := .hd 0) (lx := .ro _) rfl rfl rfl rfl rfl rfl (flat_impl_Row _) (by simp; omega) rfl (Nat.le_of_ble_eq_true rfl))) rfl ?_
      refine SV.op (OpL.ok (nb := 0) (ok_move (v := V.one (.hd 1)) (.inr rfl) rfl) rfl (Nat.le_of_ble_eq_true rfl)) rfl ?_
      refine SV.nil ?_
      refine SV.tn ?_
      refine SV.ret ?_
      apply SV.done (hf := Tryd.results122) (ht := rfl) (he := .inl rfl)
      case hr => exact (ResAll.cons (ResOk.tmp (ag := false) (xs := [.hd 1]) rfl) ResAll.nil')
      case h2 => simp [two]
      refine ⟨rfl, ⟨?_, trivial⟩, trivial⟩ <;> (show some (T.seq _ _) = some (T.seq _ _); first | rfl | (rw [hg0]; done) | (simp; done))
set_option maxRecDepth 100000 in
set_option maxHeartbeats 2000000 in
theorem vclonepage_i (p : List R) (hp : p.length ≤ 1000000000) : VC Tryd.prog 88 [(true, tPage p)] false [(true, tPage p)] := by
  refine VC.enter Tryd.func88 rfl Tryd.ntmps88 (Nat.le_of_ble_eq_true rfl) fun E hE => ?_
  refine SV.seq' ?_
  refine SV.region ?_
  refine SV.op (OpMk.ok (ok_box (kk := 0) (ag := true) (xs := [.ro _]) rfl rfl rfl (fun h => by cases h) rfl rfl (Nat.le_of_ble_eq_true rfl))) rfl ?_
  refine SV.op (OpMk.ok (ok_alloc (kk := 1) (xs := [.nl _]) rfl rfl zero_impl_Page ⟨rfl, ⟨3, by decide, sz_impl_Row⟩, trivial⟩ rfl (Nat.le_of_ble_eq_true rfl))) rfl ?_
  refine SV.nil ?_
  refine SV.tn ?_
  refine SV.seq' ?_
  refine SV.region ?_
  refine SV.op (OpL.ok (nb := 2) (ok_field_bp (b := 0) (o' := 0) (off := 0) rfl rfl fld_impl_Page_0) rfl (Nat.le_of_ble_eq_true rfl)) rfl ?_
  refine SV.op (OpL.ok (nb := 2) (ok_load_bp (b := 0) (i := 0) (ag := false) (m := 1) (ys := [.ro _]) rfl rfl rfl agg_s_impl_Row sz_s_impl_Row (fun _ => rfl) rfl rfl (Nat.le_of_ble_eq_true rfl)) rfl (Nat.le_of_ble_eq_true rfl)) rfl ?_
  refine SV.op (OpMk.ok (ok_call (ls := [(false, [.hd 0])]) rfl rfl ⟨_, _, Tryd.func122, rfl, by decide⟩ (vclonerows p hp) ⟨⟨[.ro _], rfl, ⟨rfl, trivial⟩⟩, trivial⟩ rfl (Nat.le_of_ble_eq_true rfl))) rfl ?_
  refine SV.op (OpL.ok (nb := 2) (ok_build (zs := [.nl _]) (ys := [.hd 0]) (qs := [(0, [.hd 0])]) (pl := fun i => ([(0, 1)] : List (Nat × Nat))[i]?) rfl zero_impl_Page ⟨rfl, ⟨3, by decide, sz_impl_Row⟩, trivial⟩ ⟨⟨rfl, false, rfl, (fun _ => rfl), rfl⟩, trivial⟩ bld_impl_Page rfl) rfl (Nat.le_of_ble_eq_true rfl)) rfl ?_
  refine SV.op (ok_store_bp (b := 1) (i := 0) (m := 1) (ag := true) (zs := [.hd 0]) (ys := [.hd 0]) rfl rfl rfl rfl sz_impl_Page (fun h => by cases h) rfl (Nat.le_of_ble_eq_true rfl) rfl rfl rfl) rfl ?_
  refine SV.nil ?_
  refine SV.tn ?_
  refine SV.ret ?_
  apply SV.done (hf := Tryd.results88) (ht := rfl) (he := .inl rfl)
  case hr => exact (ResAll.cons (ResOk.cell (b := 1) (ag := true) (xs := [.hd 0]) rfl rfl agg_impl_Page sz_impl_Page (fun h => by cases h)) ResAll.nil')
  case h2 => simp [two]
  refine ⟨rfl, ⟨?_, trivial⟩, trivial⟩ <;> rfl
set_option maxRecDepth 100000 in
set_option maxHeartbeats 2000000 in
theorem vclonefile_i (x : FileD) (hL : wtFile x ≤ 1000000000) : VC Tryd.prog 74 [(true, tFile x)] false [(true, tFile x)] := by
  refine VC.enter Tryd.func74 rfl Tryd.ntmps74 (Nat.le_of_ble_eq_true rfl) fun E hE => ?_
  have hFL : x.fPages.length ≤ 1000000000 := by have h4 := wt_page_len x.fPages; have h9 : wtFile x = wtPages x.fPages := rfl; omega
  refine SV.seq' ?_
  refine SV.region ?_
  refine SV.op (OpMk.ok (ok_box (kk := 0) (ag := true) (xs := [.sc _, .ro _, .sc _, .sc _]) rfl rfl rfl (fun h => by cases h) rfl rfl (Nat.le_of_ble_eq_true rfl))) rfl ?_
  refine SV.op (OpMk.ok (ok_alloc (kk := 1) (xs := [.sc _, .nl _, .sc _, .sc _]) rfl rfl zero_impl_File ⟨rfl, rfl, rfl, ⟨1, by decide, sz_impl_Page⟩, rfl, rfl, rfl, rfl, trivial⟩ rfl (Nat.le_of_ble_eq_true rfl))) rfl ?_
  refine SV.nil ?_
  refine SV.tn ?_
  refine SV.seq' ?_
  refine SV.region ?_
  refine SV.op (OpL.ok (nb := 2) (ok_load_bp (b := 0) (i := 0) (ag := true) (m := 4) (ys := [.sc _, .ro _, .sc _, .sc _]) rfl rfl rfl agg_impl_File sz_impl_File (fun h => by cases h) rfl rfl (Nat.le_of_ble_eq_true rfl)) rfl (Nat.le_of_ble_eq_true rfl)) rfl ?_
  refine SV.op (OpMk.ok (ok_alloc (kk := 2) (xs := [.sc _, .nl _, .sc _, .sc _]) rfl rfl zero_impl_File ⟨rfl, rfl, rfl, ⟨1, by decide, sz_impl_Page⟩, rfl, rfl, rfl, rfl, trivial⟩ rfl (Nat.le_of_ble_eq_true rfl))) rfl ?_
  refine SV.op (ok_store_bp (b := 2) (i := 0) (m := 4) (ag := true) (zs := [.sc _, .ro _, .sc _, .sc _]) (ys := [.sc _, .ro _, .sc _, .sc _]) rfl rfl rfl rfl sz_impl_File (fun h => by cases h) rfl (Nat.le_of_ble_eq_true rfl) rfl rfl rfl) rfl ?_
  refine SV.nil ?_
  refine SV.tn ?_
  refine SV.seq' ?_
  refine SV.region ?_
  refine SV.op (OpL.ok (nb := 3) (ok_field_bp (b := 2) (o' := 0) (off := 1) rfl rfl fld_impl_File_1) rfl (Nat.le_of_ble_eq_true rfl)) rfl ?_
  refine SV.op (ok_store_bp (b := 2) (i := 1) (m := 1) (ag := false) (zs := [.sc _]) (ys := [.sc _, .sc _, .sc _, .sc _]) rfl rfl rfl rfl sz_s_impl_Page (fun _ => rfl) rfl (Nat.le_of_ble_eq_true rfl) rfl rfl rfl) rfl ?_
  refine SV.nil ?_
  refine SV.tn ?_
  refine SV.seq' ?_
  refine SV.seq' ?_
  refine SV.region ?_
  refine SV.op (OpL.ok (nb := 3) (ok_field_bp (b := 0) (o' := 0) (off := 1) rfl rfl fld_impl_File_1) rfl (Nat.le_of_ble_eq_true rfl)) rfl ?_
  refine SV.op (OpL.ok (nb := 3) (ok_load_bp (b := 0) (i := 1) (ag := false) (m := 1) (ys := [.ro _]) rfl rfl rfl agg_s_impl_Page sz_s_impl_Page (fun _ => rfl) rfl rfl (Nat.le_of_ble_eq_true rfl)) rfl (Nat.le_of_ble_eq_true rfl)) rfl ?_
  refine SV.op (OpL.ok (nb := 3) (ok_len (lf := .ro _) rfl elt_impl_Page.und rfl rfl) rfl (Nat.le_of_ble_eq_true rfl)) rfl ?_
  refine SV.op (OpL.ok (nb := 3) (ok_move (v := V.one (.sc _)) (.inl rfl) rfl) rfl (Nat.le_of_ble_eq_true rfl)) rfl ?_
  refine SV.nil ?_
  refine SV.tn ?_
  refine SV.block ?_
  refine SV.nlscb (b := 2) (j := 1) (kk := 0) (n := 1) rfl rfl rfl (by decide) sz_impl_Page (ys := [.sc _, .hd 0, .sc _, .sc _]) rfl ?_
  refine SV.loopF (X := Nat) (fun (σ : VS) t => (((((((((VS.nil.new (.seq 72 ((x.fPages.take t).map tPage))).box 102 [σ.bl 0 0, σ.bl 0 1, σ.bl 0 2, σ.bl 0 3]).box 102 [σ.bl 1 0, σ.bl 1 1, σ.bl 1 2, σ.bl 1 3]).box 102 [σ.bl 2 0, .hd 0, σ.bl 2 2, σ.bl 2 3]).put 2 (V.flat false [.bp 1 0])).put 3 (V.flat false [.bp 2 0])).put 9 (σ.tm 9)).put 10 (σ.tm 10)).put 11 (V.flat false [.sc (.int .i64 ((t : Int)))]))) (fun t => t ≤ x.fPages.length) (fun t => x.fPages.length - t) ?_ ?_
  · skip
    refine SV.again (fun i => [0].getD i 0) 0 ((by first | exact Nat.zero_le _ | (refine ⟨Nat.zero_le _, ?_⟩; simp; done) | (simp; done) | omega)) (pins hE rfl rfl) (VS.le.mk' (le_put (le_put (le_put (le_put (le_put (le_box (le_box (le_box (le_new le_nil)))) (V.le.keep (ag := false) (xs := [.bp 1 0]) (ys := [.bp 1 0]) rfl rfl ⟨⟨rfl, (Nat.le_of_ble_eq_true rfl)⟩, trivial⟩)) (V.le.keep (ag := false) (xs := [.bp 2 0]) (ys := [.bp 2 0]) rfl rfl ⟨⟨rfl, (Nat.le_of_ble_eq_true rfl)⟩, trivial⟩)) (V.le.keep (ag := false) (xs := [.ro _]) (ys := [.ro _]) rfl rfl ⟨rfl, trivial⟩)) (V.le.keep (ag := false) (xs := [.sc _]) (ys := [.sc _]) rfl rfl ⟨rfl, trivial⟩)) (V.le.keep (ag := false) (xs := [.sc _]) (ys := [.sc _]) rfl rfl ⟨(by first | rfl | (show Leaf.sc _ = Leaf.sc _; refine congrArg Leaf.sc ?_; first | rfl | go_num | (simp [cntAll]; done)) | (simp [cntAll]; done) | (simp; omega)), trivial⟩)) ⟨⟨rfl, ⟨rfl, rfl, rfl, rfl, trivial⟩⟩, ⟨⟨rfl, ⟨rfl, rfl, rfl, rfl, trivial⟩⟩, ⟨⟨rfl, ⟨rfl, ⟨rfl, (Nat.le_of_ble_eq_true rfl), (Nat.le_of_ble_eq_true rfl)⟩, rfl, rfl, trivial⟩⟩, trivial⟩⟩⟩ ⟨.inr ⟨_, _, rfl, ?ob1_0, (Nat.le_of_ble_eq_true rfl)⟩, trivial⟩ (new_ob nil_ob) (fun i j hi hj e => inj_list (l := [0]) (by decide) i j hi hj e))
    case ob1_0 =>
      show some (T.seq _ _) = some (T.seq _ _)
      first | rfl | exact congrArg some (congrArg (T.seq _) (by simp))
  · rintro t ht
    refine SV.seq' ?_
    refine SV.region ?_
    refine SV.op (OpL.ok (nb := 3) (ok_s2 (x := .tmp 11) (x' := .tmp 10) (VScal.one rfl) (VScal.one rfl) (fun ρ h1 h2 w => by go_simp; (try go_bits); with_reducible rfl) rfl) rfl (Nat.le_of_ble_eq_true rfl)) rfl ?_
    refine SV.nil ?_
    refine SV.tn ?_
    refine SV.seq' ?_
    refine SV.cond rfl (fun hc0 => ?_) (fun hc0 => ?_)
    · skip   -- c0.T
      have htl : t < x.fPages.length := by simpa using hc0
      have hx : x.fPages[t]? = some x.fPages[t] := by simp [htl]
      have hPR : x.fPages[t].length ≤ 1000000000 := by have h0 := wtAll_at wtPage x.fPages t htl; have h9 : wtFile x = wtAll wtPage x.fPages := rfl; have h10 : wtPage x.fPages[t] = x.fPages[t].length := rfl; omega
      refine SV.skip ?_
      refine SV.tn ?_
      refine SV.seq' ?_
      refine SV.block ?_
      refine SV.seq' ?_
      refine SV.region ?_
      refine SV.op (OpL.ok (nb := 3) (ok_index (n := 1) (lf := .ro _) rfl elt_impl_Page.und sz_impl_Page rfl rfl rfl (map_at (by assumption))) rfl (Nat.le_of_ble_eq_true rfl)) rfl ?_
      refine SV.op (OpL.ok (nb := 3) (ok_load_rp (ag := true) (m := 1) (ys := [.ro _]) rfl rfl agg_impl_Page sz_impl_Page (fun h => by cases h) (Nat.le_of_ble_eq_true rfl) rfl) rfl (Nat.le_of_ble_eq_true rfl)) rfl ?_
      refine SV.op (OpMk.ok (ok_alloc (kk := 3) (xs := [.nl _]) rfl rfl zero_impl_Page ⟨rfl, ⟨3, by decide, sz_impl_Row⟩, trivial⟩ rfl (Nat.le_of_ble_eq_true rfl))) rfl ?_
      refine SV.op (ok_store_bp (b := 3) (i := 0) (m := 1) (ag := true) (zs := [.ro _]) (ys := [.ro _]) rfl rfl rfl rfl sz_impl_Page (fun h => by cases h) rfl (Nat.le_of_ble_eq_true rfl) rfl rfl rfl) rfl ?_
      refine SV.nil ?_
      refine SV.tn ?_
      refine SV.draw [.q 0, .q 1, .q 2, .m 3, .m 4, .m 5, .q 6] [7] (by kernel_rfl) (by kernel_rfl) ?_
      refine DW.q rfl (ok_field_bp (b := 2) (o' := 0) (off := 1) rfl rfl fld_impl_File_1) rfl rfl (Nat.le_of_ble_eq_true rfl) (fun _ _ _ _ h => h) ?_
      refine DW.q rfl (ok_load_bp (b := 2) (i := 1) (ag := false) (m := 1) (ys := [.hd 0]) rfl rfl rfl agg_s_impl_Page sz_s_impl_Page (fun _ => rfl) rfl rfl (Nat.le_of_ble_eq_true rfl)) rfl rfl (Nat.le_of_ble_eq_true rfl) (fun _ _ _ _ h => h) ?_
      refine DW.q rfl (ok_load_bp (b := 3) (i := 0) (ag := true) (m := 1) (ys := [.ro _]) rfl rfl rfl agg_impl_Page sz_impl_Page (fun h => by cases h) rfl rfl (Nat.le_of_ble_eq_true rfl)) rfl rfl (Nat.le_of_ble_eq_true rfl) (fun _ _ _ _ h => h) ?_
      refine DW.m [1] rfl (ok_call (ls := [(true, [.hd 1])]) rfl rfl ⟨_, _, Tryd.func88, rfl, by decide⟩ (vclonepage_i x.fPages[t] hPR) ⟨⟨[.ro _], rfl, ⟨rfl, trivial⟩⟩, trivial⟩ rfl (Nat.le_of_ble_eq_true rfl)) rfl (Nat.le_of_ble_eq_true rfl) (Nat.le_of_ble_eq_true rfl) (.inl rfl) (fun j hj => by
          simp only [List.mem_cons, List.not_mem_nil, or_false] at hj
          rcases hj with rfl
          · exact .inr ⟨(Nat.le_of_ble_eq_true rfl), (Nat.le_of_ble_eq_true rfl), .inl rfl⟩) ?_
      refine DW.m [2, 1] rfl (ok_lit1 (kk := 2) elt_impl_Page (ag := true) (xs := [.hd 1]) rfl rfl rfl rfl (fun h => by cases h) (outs_c rfl outs_n) (by simp [two]) rfl (Nat.le_of_ble_eq_true rfl)) rfl (Nat.le_of_ble_eq_true rfl) (Nat.le_of_ble_eq_true rfl) (.inl rfl) (fun j hj => by
          simp only [List.mem_cons, List.not_mem_nil, or_false] at hj
          rcases hj with rfl | rfl
          · exact .inr ⟨(Nat.le_of_ble_eq_true rfl), (Nat.le_of_ble_eq_true rfl), .inl rfl⟩
          · exact .inl (by decide)) ?_
      refine DW.m [2, 1] rfl (ok_append (kk := 3) elt_impl_Page (ls := .hd 0) (lx := .hd 2) rfl rfl rfl rfl rfl rfl (by intro i h1 h2; cases h1; cases h2) (by first | omega | (simp only [List.length_map]; omega) | (simp; done) | (simp; omega)) rfl (Nat.le_of_ble_eq_true rfl)) rfl (Nat.le_of_ble_eq_true rfl) (Nat.le_of_ble_eq_true rfl) (.inr ⟨0, rfl, .inr ⟨(Nat.le_of_ble_eq_true rfl), rfl⟩⟩) (fun j hj => by
          simp only [List.mem_cons, List.not_mem_nil, or_false] at hj
          rcases hj with rfl | rfl
          · exact .inl (by decide)
          · exact .inl (by decide)) ?_
      refine DW.q rfl (ok_field_bp (b := 2) (o' := 0) (off := 1) rfl rfl fld_impl_File_1) rfl rfl (Nat.le_of_ble_eq_true rfl) (fun _ _ _ _ h => h) ?_
      refine DW.stores ?_
      refine SV.z rfl (ok_store_bp (b := 2) (i := 1) (m := 1) (ag := false) (zs := [.hd 3]) (ys := [.sc _, .hd 3, .sc _, .sc _]) rfl rfl rfl rfl sz_s_impl_Page (fun _ => rfl) rfl (Nat.le_of_ble_eq_true rfl) rfl rfl rfl) rfl ?_
      refine SV.zend ?_
      refine SV.bn ?_
      refine SV.tn ?_
      refine SV.region ?_
      refine SV.op (OpL.ok (nb := 4) (ok_s2 (x := .tmp 11) (x' := .const ((Value.int IntKind.i64 1))) (VScal.one rfl) (VScal.one rfl) (fun ρ h1 h2 w => by go_simp; (try go_bits); with_reducible rfl) rfl) rfl (Nat.le_of_ble_eq_true rfl)) rfl ?_
      refine SV.op (OpL.ok (nb := 4) (ok_move (v := V.one (.sc _)) (.inl rfl) rfl) rfl (Nat.le_of_ble_eq_true rfl)) rfl ?_
      refine SV.nil ?_
      refine SV.tn ?_
      refine SV.again (fun i => [3].getD i 0) (t + 1) (⟨by omega, by omega⟩) (pins hE rfl rfl) (VS.le.mk' (le_put (le_put (le_put (le_put (le_put (le_box (le_box (le_box (le_new le_nil)))) (V.le.keep (ag := false) (xs := [.bp 1 0]) (ys := [.bp 1 0]) rfl rfl ⟨⟨rfl, (Nat.le_of_ble_eq_true rfl)⟩, trivial⟩)) (V.le.keep (ag := false) (xs := [.bp 2 0]) (ys := [.bp 2 0]) rfl rfl ⟨⟨rfl, (Nat.le_of_ble_eq_true rfl)⟩, trivial⟩)) (V.le.keep (ag := false) (xs := [.ro _]) (ys := [.ro _]) rfl rfl ⟨rfl, trivial⟩)) (V.le.keep (ag := false) (xs := [.sc _]) (ys := [.sc _]) rfl rfl ⟨rfl, trivial⟩)) (V.le.keep (ag := false) (xs := [.sc _]) (ys := [.sc _]) rfl rfl ⟨(by first | rfl | (show Leaf.sc _ = Leaf.sc _; refine congrArg Leaf.sc ?_; first | rfl | go_num | (simp [cntAll]; done)) | (simp [cntAll]; done) | (simp; omega)), trivial⟩)) ⟨⟨rfl, ⟨rfl, rfl, rfl, rfl, trivial⟩⟩, ⟨⟨rfl, ⟨rfl, rfl, rfl, rfl, trivial⟩⟩, ⟨⟨rfl, ⟨rfl, ⟨rfl, (Nat.le_of_ble_eq_true rfl), (Nat.le_of_ble_eq_true rfl)⟩, rfl, rfl, trivial⟩⟩, trivial⟩⟩⟩ ⟨.inr ⟨_, _, rfl, ?ob2_0, (Nat.le_of_ble_eq_true rfl)⟩, trivial⟩ (new_ob nil_ob) (fun i j hi hj e => inj_list (l := [3]) (by decide) i j hi hj e))
      case ob2_0 =>
        show some (T.seq _ _) = some (T.seq _ _)
        rw [List.take_succ_eq_append_getElem htl, List.map_append]
        first | rfl | (simp [tPage]; done)
    · skip   -- c0.F
      have hte : x.fPages.take t = x.fPages := by have : ¬ t < x.fPages.length := (by simpa using hc0); exact List.take_of_length_le (by omega)
      refine SV.exit ?_
      refine SV.te ?_
      refine SV.te ?_
      refine SV.bh ?_
      refine SV.tn ?_
      refine SV.seq' ?_
      refine SV.region ?_
      refine SV.op (OpL.ok (nb := 3) (ok_load_bp (b := 2) (i := 0) (ag := true) (m := 4) (ys := [.sc _, .hd 0, .sc _, .sc _]) rfl rfl rfl agg_impl_File sz_impl_File (fun h => by cases h) rfl rfl (Nat.le_of_ble_eq_true rfl)) rfl (Nat.le_of_ble_eq_true rfl)) rfl ?_
      refine SV.op (ok_store_bp (b := 1) (i := 0) (m := 4) (ag := true) (zs := [.sc _, .hd 0, .sc _, .sc _]) (ys := [.sc _, .hd 0, .sc _, .sc _]) rfl rfl rfl rfl sz_impl_File (fun h => by cases h) rfl (Nat.le_of_ble_eq_true rfl) rfl rfl rfl) rfl ?_
      refine SV.nil ?_
      refine SV.tn ?_
      refine SV.ret ?_
      apply SV.done (hf := Tryd.results74) (ht := rfl) (he := .inl rfl)
      case hr => exact (ResAll.cons (ResOk.cell (b := 1) (ag := true) (xs := [.sc _, .hd 0, .sc _, .sc _]) rfl rfl agg_impl_File sz_impl_File (fun h => by cases h)) ResAll.nil')
      case h2 => simp [two]
      refine ⟨rfl, ⟨?_, ?_, ?_, ?_, trivial⟩, trivial⟩ <;> first | (show some (T.seq _ _) = some (T.seq _ _); rw [hte]; done) | rfl
set_option maxRecDepth 100000 in
set_option maxHeartbeats 2000000 in
theorem vclonedisk_i (X : DiskD) (hL : wtDisk X ≤ 1000000000) : VC Tryd.prog 79 [(true, tDisk X)] false [(true, tDisk X)] := by
  refine VC.enter Tryd.func79 rfl Tryd.ntmps79 (Nat.le_of_ble_eq_true rfl) fun E hE => ?_
  have hFL : X.fFiles.length ≤ 1000000000 := by have h4 := wt_file_len X.fFiles; have h8 : wtDisk X = wtFiles X.fFiles := rfl; omega
  refine SV.seq' ?_
  refine SV.region ?_
  refine SV.op (OpMk.ok (ok_box (kk := 0) (ag := true) (xs := [.ro _, .sc _]) rfl rfl rfl (fun h => by cases h) rfl rfl (Nat.le_of_ble_eq_true rfl))) rfl ?_
  refine SV.op (OpMk.ok (ok_alloc (kk := 1) (xs := [.nl _, .sc _]) rfl rfl zero_impl_Disk ⟨rfl, ⟨4, by decide, sz_impl_File⟩, rfl, rfl, trivial⟩ rfl (Nat.le_of_ble_eq_true rfl))) rfl ?_
  refine SV.nil ?_
  refine SV.tn ?_
  refine SV.seq' ?_
  refine SV.region ?_
  refine SV.op (OpL.ok (nb := 2) (ok_field_bp (b := 0) (o' := 0) (off := 1) rfl rfl fld_impl_Disk_1) rfl (Nat.le_of_ble_eq_true rfl)) rfl ?_
  refine SV.op (OpL.ok (nb := 2) (ok_load_bp (b := 0) (i := 1) (ag := false) (m := 1) (ys := [.sc _]) rfl rfl rfl agg_int sz_int (fun _ => rfl) rfl rfl (Nat.le_of_ble_eq_true rfl)) rfl (Nat.le_of_ble_eq_true rfl)) rfl ?_
  refine SV.op (OpL.ok (nb := 2) (ok_build (zs := [.nl _, .sc _]) (ys := [.nl _, .sc _]) (qs := [(1, [.sc _])]) (pl := fun i => ([(0, 1), (1, 1)] : List (Nat × Nat))[i]?) rfl zero_impl_Disk ⟨rfl, ⟨4, by decide, sz_impl_File⟩, rfl, rfl, trivial⟩ ⟨⟨rfl, false, rfl, (fun _ => rfl), rfl⟩, trivial⟩ bld_impl_Disk rfl) rfl (Nat.le_of_ble_eq_true rfl)) rfl ?_
  refine SV.op (OpMk.ok (ok_alloc (kk := 2) (xs := [.nl _, .sc _]) rfl rfl zero_impl_Disk ⟨rfl, ⟨4, by decide, sz_impl_File⟩, rfl, rfl, trivial⟩ rfl (Nat.le_of_ble_eq_true rfl))) rfl ?_
  refine SV.op (ok_store_bp (b := 2) (i := 0) (m := 2) (ag := true) (zs := [.nl _, .sc _]) (ys := [.nl _, .sc _]) rfl rfl rfl rfl sz_impl_Disk (fun h => by cases h) rfl (Nat.le_of_ble_eq_true rfl) rfl rfl rfl) rfl ?_
  refine SV.nil ?_
  refine SV.tn ?_
  refine SV.seq' ?_
  refine SV.seq' ?_
  refine SV.region ?_
  refine SV.op (OpL.ok (nb := 3) (ok_field_bp (b := 0) (o' := 0) (off := 0) rfl rfl fld_impl_Disk_0) rfl (Nat.le_of_ble_eq_true rfl)) rfl ?_
  refine SV.op (OpL.ok (nb := 3) (ok_load_bp (b := 0) (i := 0) (ag := false) (m := 1) (ys := [.ro _]) rfl rfl rfl agg_s_impl_File sz_s_impl_File (fun _ => rfl) rfl rfl (Nat.le_of_ble_eq_true rfl)) rfl (Nat.le_of_ble_eq_true rfl)) rfl ?_
  refine SV.op (OpL.ok (nb := 3) (ok_len (lf := .ro _) rfl elt_impl_File.und rfl rfl) rfl (Nat.le_of_ble_eq_true rfl)) rfl ?_
  refine SV.op (OpL.ok (nb := 3) (ok_move (v := V.one (.sc _)) (.inl rfl) rfl) rfl (Nat.le_of_ble_eq_true rfl)) rfl ?_
  refine SV.nil ?_
  refine SV.tn ?_
  refine SV.block ?_
  refine SV.nlbox (b := 2) (j := 0) (kk := 0) rfl rfl rfl (ys := [.hd 0, .sc _]) rfl ?_
  refine SV.loopF (X := Nat) (fun (σ : VS) t => (((((((((VS.nil.new (.seq 102 ((X.fFiles.take t).map tFile))).box 55 [σ.bl 0 0, σ.bl 0 1]).box 55 [σ.bl 1 0, σ.bl 1 1]).box 55 [.hd 0, σ.bl 2 1]).put 2 (V.flat false [.bp 1 0])).put 3 (V.flat false [.bp 2 0])).put 10 (σ.tm 10)).put 11 (σ.tm 11)).put 12 (V.flat false [.sc (.int .i64 ((t : Int)))]))) (fun t => t ≤ X.fFiles.length) (fun t => X.fFiles.length - t) ?_ ?_
  · skip
    refine SV.again (fun i => [0].getD i 0) 0 ((by first | exact Nat.zero_le _ | (refine ⟨Nat.zero_le _, ?_⟩; simp; done) | (simp; done) | omega)) (pins hE rfl rfl) (VS.le.mk' (le_put (le_put (le_put (le_put (le_put (le_box (le_box (le_box (le_new le_nil)))) (V.le.keep (ag := false) (xs := [.bp 1 0]) (ys := [.bp 1 0]) rfl rfl ⟨⟨rfl, (Nat.le_of_ble_eq_true rfl)⟩, trivial⟩)) (V.le.keep (ag := false) (xs := [.bp 2 0]) (ys := [.bp 2 0]) rfl rfl ⟨⟨rfl, (Nat.le_of_ble_eq_true rfl)⟩, trivial⟩)) (V.le.keep (ag := false) (xs := [.ro _]) (ys := [.ro _]) rfl rfl ⟨rfl, trivial⟩)) (V.le.keep (ag := false) (xs := [.sc _]) (ys := [.sc _]) rfl rfl ⟨rfl, trivial⟩)) (V.le.keep (ag := false) (xs := [.sc _]) (ys := [.sc _]) rfl rfl ⟨(by first | rfl | (show Leaf.sc _ = Leaf.sc _; refine congrArg Leaf.sc ?_; first | rfl | go_num | (simp [cntAll]; done)) | (simp [cntAll]; done) | (simp; omega)), trivial⟩)) ⟨⟨rfl, ⟨rfl, rfl, trivial⟩⟩, ⟨⟨rfl, ⟨rfl, rfl, trivial⟩⟩, ⟨⟨rfl, ⟨⟨rfl, (Nat.le_of_ble_eq_true rfl), (Nat.le_of_ble_eq_true rfl)⟩, rfl, trivial⟩⟩, trivial⟩⟩⟩ ⟨.inr ⟨_, _, rfl, ?ob1_0, (Nat.le_of_ble_eq_true rfl)⟩, trivial⟩ (new_ob nil_ob) (fun i j hi hj e => inj_list (l := [0]) (by decide) i j hi hj e))
    case ob1_0 =>
      show some (T.seq _ _) = some (T.seq _ _)
      first | rfl | exact congrArg some (congrArg (T.seq _) (by simp))
  · rintro t ht
    refine SV.seq' ?_
    refine SV.region ?_
    refine SV.op (OpL.ok (nb := 3) (ok_s2 (x := .tmp 12) (x' := .tmp 11) (VScal.one rfl) (VScal.one rfl) (fun ρ h1 h2 w => by go_simp; (try go_bits); with_reducible rfl) rfl) rfl (Nat.le_of_ble_eq_true rfl)) rfl ?_
    refine SV.nil ?_
    refine SV.tn ?_
    refine SV.seq' ?_
    refine SV.cond rfl (fun hc0 => ?_) (fun hc0 => ?_)
    · skip   -- c0.T
      have htl : t < X.fFiles.length := by simpa using hc0
      have hx : X.fFiles[t]? = some X.fFiles[t] := by simp [htl]
      have hFR : wtFile X.fFiles[t] ≤ 1000000000 := by have h1 := wt_file_at X.fFiles t htl; have h8 : wtDisk X = wtFiles X.fFiles := rfl; omega
      refine SV.skip ?_
      refine SV.tn ?_
      refine SV.seq' ?_
      refine SV.block ?_
      refine SV.seq' ?_
      refine SV.region ?_
      refine SV.op (OpL.ok (nb := 3) (ok_index (n := 4) (lf := .ro _) rfl elt_impl_File.und sz_impl_File rfl rfl rfl (map_at (by assumption))) rfl (Nat.le_of_ble_eq_true rfl)) rfl ?_
      refine SV.op (OpL.ok (nb := 3) (ok_load_rp (ag := true) (m := 4) (ys := [.sc _, .ro _, .sc _, .sc _]) rfl rfl agg_impl_File sz_impl_File (fun h => by cases h) (Nat.le_of_ble_eq_true rfl) rfl) rfl (Nat.le_of_ble_eq_true rfl)) rfl ?_
      refine SV.op (OpMk.ok (ok_alloc (kk := 3) (xs := [.sc _, .nl _, .sc _, .sc _]) rfl rfl zero_impl_File ⟨rfl, rfl, rfl, ⟨1, by decide, sz_impl_Page⟩, rfl, rfl, rfl, rfl, trivial⟩ rfl (Nat.le_of_ble_eq_true rfl))) rfl ?_
      refine SV.op (ok_store_bp (b := 3) (i := 0) (m := 4) (ag := true) (zs := [.sc _, .ro _, .sc _, .sc _]) (ys := [.sc _, .ro _, .sc _, .sc _]) rfl rfl rfl rfl sz_impl_File (fun h => by cases h) rfl (Nat.le_of_ble_eq_true rfl) rfl rfl rfl) rfl ?_
      refine SV.nil ?_
      refine SV.tn ?_
      refine SV.draw [.q 0, .q 1, .q 2, .m 3, .m 4, .m 5, .q 6] [7] (by kernel_rfl) (by kernel_rfl) ?_
      refine DW.q rfl (ok_field_bp (b := 2) (o' := 0) (off := 0) rfl rfl fld_impl_Disk_0) rfl rfl (Nat.le_of_ble_eq_true rfl) (fun _ _ _ _ h => h) ?_
      refine DW.q rfl (ok_load_bp (b := 2) (i := 0) (ag := false) (m := 1) (ys := [.hd 0]) rfl rfl rfl agg_s_impl_File sz_s_impl_File (fun _ => rfl) rfl rfl (Nat.le_of_ble_eq_true rfl)) rfl rfl (Nat.le_of_ble_eq_true rfl) (fun _ _ _ _ h => h) ?_
      refine DW.q rfl (ok_load_bp (b := 3) (i := 0) (ag := true) (m := 4) (ys := [.sc _, .ro _, .sc _, .sc _]) rfl rfl rfl agg_impl_File sz_impl_File (fun h => by cases h) rfl rfl (Nat.le_of_ble_eq_true rfl)) rfl rfl (Nat.le_of_ble_eq_true rfl) (fun _ _ _ _ h => h) ?_
      refine DW.m [1] rfl (ok_call (ls := [(true, [.sc _, .hd 1, .sc _, .sc _])]) rfl rfl ⟨_, _, Tryd.func74, rfl, by decide⟩ (vclonefile_i X.fFiles[t] hFR) ⟨⟨[.sc _, .ro _, .sc _, .sc _], rfl, ⟨rfl, rfl, rfl, rfl, trivial⟩⟩, trivial⟩ rfl (Nat.le_of_ble_eq_true rfl)) rfl (Nat.le_of_ble_eq_true rfl) (Nat.le_of_ble_eq_true rfl) (.inl rfl) (fun j hj => by
          simp only [List.mem_cons, List.not_mem_nil, or_false] at hj
          rcases hj with rfl
          · exact .inr ⟨(Nat.le_of_ble_eq_true rfl), (Nat.le_of_ble_eq_true rfl), .inl rfl⟩) ?_
      refine DW.m [2, 1] rfl (ok_lit1 (kk := 2) elt_impl_File (ag := true) (xs := [.sc _, .hd 1, .sc _, .sc _]) rfl rfl rfl rfl (fun h => by cases h) (outs_c rfl (outs_c rfl (outs_c rfl (outs_c rfl outs_n)))) (by simp [two]) rfl (Nat.le_of_ble_eq_true rfl)) rfl (Nat.le_of_ble_eq_true rfl) (Nat.le_of_ble_eq_true rfl) (.inl rfl) (fun j hj => by
          simp only [List.mem_cons, List.not_mem_nil, or_false] at hj
          rcases hj with rfl | rfl
          · exact .inr ⟨(Nat.le_of_ble_eq_true rfl), (Nat.le_of_ble_eq_true rfl), .inl rfl⟩
          · exact .inl (by decide)) ?_
      refine DW.m [2, 1] rfl (ok_append (kk := 3) elt_impl_File (ls := .hd 0) (lx := .hd 2) rfl rfl rfl rfl rfl rfl (by intro i h1 h2; cases h1; cases h2) (by first | omega | (simp only [List.length_map]; omega) | (simp; done) | (simp; omega)) rfl (Nat.le_of_ble_eq_true rfl)) rfl (Nat.le_of_ble_eq_true rfl) (Nat.le_of_ble_eq_true rfl) (.inr ⟨0, rfl, .inr ⟨(Nat.le_of_ble_eq_true rfl), rfl⟩⟩) (fun j hj => by
          simp only [List.mem_cons, List.not_mem_nil, or_false] at hj
          rcases hj with rfl | rfl
          · exact .inl (by decide)
          · exact .inl (by decide)) ?_
      refine DW.q rfl (ok_field_bp (b := 2) (o' := 0) (off := 0) rfl rfl fld_impl_Disk_0) rfl rfl (Nat.le_of_ble_eq_true rfl) (fun _ _ _ _ h => h) ?_
      refine DW.stores ?_
      refine SV.z rfl (ok_store_bp (b := 2) (i := 0) (m := 1) (ag := false) (zs := [.hd 3]) (ys := [.hd 3, .sc _]) rfl rfl rfl rfl sz_s_impl_File (fun _ => rfl) rfl (Nat.le_of_ble_eq_true rfl) rfl rfl rfl) rfl ?_
      refine SV.zend ?_
      refine SV.bn ?_
      refine SV.tn ?_
      refine SV.region ?_
      refine SV.op (OpL.ok (nb := 4) (ok_s2 (x := .tmp 12) (x' := .const ((Value.int IntKind.i64 1))) (VScal.one rfl) (VScal.one rfl) (fun ρ h1 h2 w => by go_simp; (try go_bits); with_reducible rfl) rfl) rfl (Nat.le_of_ble_eq_true rfl)) rfl ?_
      refine SV.op (OpL.ok (nb := 4) (ok_move (v := V.one (.sc _)) (.inl rfl) rfl) rfl (Nat.le_of_ble_eq_true rfl)) rfl ?_
      refine SV.nil ?_
      refine SV.tn ?_
      refine SV.again (fun i => [3].getD i 0) (t + 1) (⟨by omega, by omega⟩) (pins hE rfl rfl) (VS.le.mk' (le_put (le_put (le_put (le_put (le_put (le_box (le_box (le_box (le_new le_nil)))) (V.le.keep (ag := false) (xs := [.bp 1 0]) (ys := [.bp 1 0]) rfl rfl ⟨⟨rfl, (Nat.le_of_ble_eq_true rfl)⟩, trivial⟩)) (V.le.keep (ag := false) (xs := [.bp 2 0]) (ys := [.bp 2 0]) rfl rfl ⟨⟨rfl, (Nat.le_of_ble_eq_true rfl)⟩, trivial⟩)) (V.le.keep (ag := false) (xs := [.ro _]) (ys := [.ro _]) rfl rfl ⟨rfl, trivial⟩)) (V.le.keep (ag := false) (xs := [.sc _]) (ys := [.sc _]) rfl rfl ⟨rfl, trivial⟩)) (V.le.keep (ag := false) (xs := [.sc _]) (ys := [.sc _]) rfl rfl ⟨(by first | rfl | (show Leaf.sc _ = Leaf.sc _; refine congrArg Leaf.sc ?_; first | rfl | go_num | (simp [cntAll]; done)) | (simp [cntAll]; done) | (simp; omega)), trivial⟩)) ⟨⟨rfl, ⟨rfl, rfl, trivial⟩⟩, ⟨⟨rfl, ⟨rfl, rfl, trivial⟩⟩, ⟨⟨rfl, ⟨⟨rfl, (Nat.le_of_ble_eq_true rfl), (Nat.le_of_ble_eq_true rfl)⟩, rfl, trivial⟩⟩, trivial⟩⟩⟩ ⟨.inr ⟨_, _, rfl, ?ob2_0, (Nat.le_of_ble_eq_true rfl)⟩, trivial⟩ (new_ob nil_ob) (fun i j hi hj e => inj_list (l := [3]) (by decide) i j hi hj e))
      case ob2_0 =>
        show some (T.seq _ _) = some (T.seq _ _)
        rw [List.take_succ_eq_append_getElem htl, List.map_append]
        first | rfl | (simp [tFile]; done)
    · skip   -- c0.F
      have hte : X.fFiles.take t = X.fFiles := by have : ¬ t < X.fFiles.length := (by simpa using hc0); exact List.take_of_length_le (by omega)
      refine SV.exit ?_
      refine SV.te ?_
      refine SV.te ?_
      refine SV.bh ?_
      refine SV.tn ?_
      refine SV.seq' ?_
      refine SV.region ?_
      refine SV.op (OpL.ok (nb := 3) (ok_load_bp (b := 2) (i := 0) (ag := true) (m := 2) (ys := [.hd 0, .sc _]) rfl rfl rfl agg_impl_Disk sz_impl_Disk (fun h => by cases h) rfl rfl (Nat.le_of_ble_eq_true rfl)) rfl (Nat.le_of_ble_eq_true rfl)) rfl ?_
      refine SV.op (ok_store_bp (b := 1) (i := 0) (m := 2) (ag := true) (zs := [.hd 0, .sc _]) (ys := [.hd 0, .sc _]) rfl rfl rfl rfl sz_impl_Disk (fun h => by cases h) rfl (Nat.le_of_ble_eq_true rfl) rfl rfl rfl) rfl ?_
      refine SV.nil ?_
      refine SV.tn ?_
      refine SV.ret ?_
      apply SV.done (hf := Tryd.results79) (ht := rfl) (he := .inl rfl)
      case hr => exact (ResAll.cons (ResOk.cell (b := 1) (ag := true) (xs := [.hd 0, .sc _]) rfl rfl agg_impl_Disk sz_impl_Disk (fun h => by cases h)) ResAll.nil')
      case h2 => simp [two]
      refine ⟨rfl, ⟨?_, ?_, trivial⟩, trivial⟩ <;> first | (show some (T.seq _ _) = some (T.seq _ _); rw [hte]; done) | rfl
end Go.Proofs.YtmlcdhblofjpbaaDoor
/- The program's FormatRow, by contract. -/
namespace Go.Proofs.YtmlcdhblofjpbaaDoor
open Go.RowKit Go.Lib

/-- The row lies in its box, and the table of powers of ten as the library lays it. -/
def BoxedT (w : World) (r : R) (v : World) : Prop := Boxed w r v ∧ Tab v
theorem BoxedT.facts {w v : World} {r : R} (h : BoxedT w r v) : v.cell? ⟨w.heap.size, 0, none⟩ = some (.int .i64 r.key) ∧ v.cell? ⟨w.heap.size, 1, none⟩ = some (.int .i64 r.value) ∧ v.cell? ⟨w.heap.size, 2, none⟩ = some (.int .i64 r.width) ∧ Hid (BoxedT w r v) := ⟨h.1.c0, h.1.c1, h.1.c2, h⟩
theorem boxed_tab {w w' : World} {r : R} {t : TypeId} (hb : Below (w.alloc (.cells #[.int .i64 r.key, .int .i64 r.value, .int .i64 r.width] t)).heap.size (w.alloc (.cells #[.int .i64 r.key, .int .i64 r.value, .int .i64 r.width] t)) w') (ht : Tab w) : BoxedT w r w'.drew :=
  ⟨(boxed_start hb).drew, ht.stay (boxed_start hb).drew.old⟩
theorem ifmt_keep (w : World) (r : R) (n : Int) (v : World) (h0 : -9223372036854775808 ≤ n) (h1 : n ≤ 9223372036854775807) (hv : Hid (BoxedT w r v)) :
    Calls Tryd.prog 98 #[.int .i64 n] v fun e v' => e = .returned (.string ⟨(itoa n).toArray⟩) ∧ Hid (BoxedT w r v') :=
  (ifmt n v h0 h1 hv.out.2).mono fun _ _ ⟨he, hb⟩ => ⟨he, hv.out.1.next hb, hv.out.2.stay hb⟩
set_option maxRecDepth 100000 in
theorem ifrow (r : R) (w : World) (ht : Tab w) : Calls Tryd.prog 160 #[r.val] w fun e w' => e = .returned (.string ⟨r.fmt.toArray⟩) ∧ Below w.heap.size w w' := by
  have HV := Lib.hid (ivalid r)
  have HT := Lib.hid ht
  clear ht
  cases hok : r.ok with
  | false =>
    have hf : r.fmt = [] := by unfold R.fmt; rw [hok]; rfl
    have HF := Lib.hid hf
    rw [hok] at HV
    clear hf hok
    unfold R.val at HV ⊢
    go_enter Tryd.func160, Tryd.ntmps160
    go_wp2_with fail
    refine (HV.out _).mono ?_
    rintro e w1 ⟨rfl, b1⟩
    have HB := Lib.hid (boxed_start b1)
    clear b1
    go_wp2_with fail
    go_ret
    exact ⟨by rw [HF.out]; rfl, HB.out.old⟩
  | true =>
    have hf : r.fmt = itoa r.key ++ 46 :: (itoa r.value ++ 46 :: itoa r.width) := by unfold R.fmt; rw [hok]; rfl
    have HF := Lib.hid hf
    have hk := R.ok_iff.1 hok
    have l0 := dd_small r.key (by omega) (by omega)
    have l1 := dd_small r.value (by omega) (by omega)
    have l2 := dd_small r.width (by omega) (by omega)
    have F0 := Lib.hid fun v hv => ifmt_keep w r r.key v (by omega) (by omega) hv
    have F1 := Lib.hid fun v hv => ifmt_keep w r r.value v (by omega) (by omega) hv
    have F2 := Lib.hid fun v hv => ifmt_keep w r r.width v (by omega) (by omega) hv
    rw [hok] at HV
    clear hf hok hk
    obtain ⟨a, ha⟩ : ∃ a, a = itoa r.key := ⟨_, rfl⟩
    obtain ⟨b, hb⟩ : ∃ a, a = itoa r.value := ⟨_, rfl⟩
    obtain ⟨c, hc⟩ : ∃ a, a = itoa r.width := ⟨_, rfl⟩
    rw [← ha] at F0 HF l0
    rw [← hb] at F1 HF l1
    rw [← hc] at F2 HF l2
    clear ha hb hc
    have n0 : ¬ 9223372036854775807 < a.length + 1 := by omega
    have n1 : ¬ 9223372036854775807 < a.length + 1 + b.length := by omega
    have n2 : ¬ 9223372036854775807 < a.length + 1 + b.length + 1 := by omega
    have n3 : ¬ 9223372036854775807 < a.length + 1 + b.length + 1 + c.length := by omega
    unfold R.val at HV ⊢
    go_enter Tryd.func160, Tryd.ntmps160
    go_wp2_with fail
    refine (HV.out _).mono ?_
    rintro e w1 ⟨rfl, b1⟩
    have HB := Lib.hid (boxed_tab b1 HT.out)
    have hb := boxed_start b1
    obtain ⟨c0, c1, c2, _, _⟩ := hb
    clear b1
    go_wp2_with fail
    go_region_held3 (fun v => v.cell? ⟨w.heap.size, 0, none⟩ = some (.int .i64 r.key) ∧ v.cell? ⟨w.heap.size, 1, none⟩ = some (.int .i64 r.value) ∧ v.cell? ⟨w.heap.size, 2, none⟩ = some (.int .i64 r.width) ∧ Hid (BoxedT w r v)) (first | assumption | exact HB.out.facts | exact BoxedT.facts (Hid.out (by assumption))) (first | (go_at_call_of 98 r.key; refine (F0.out _ (And.right (And.right (And.right (by first | assumption | exact HB.out.facts))))).mono ?_; rintro e w' ⟨rfl, b2⟩) | (go_at_call_of 98 r.value; refine (F1.out _ (And.right (And.right (And.right (by first | assumption | exact HB.out.facts))))).mono ?_; rintro e w' ⟨rfl, b2⟩) | (go_at_call_of 98 r.width; refine (F2.out _ (And.right (And.right (And.right (by first | assumption | exact HB.out.facts))))).mono ?_; rintro e w' ⟨rfl, b2⟩))
    have hold := (Hid.out (And.right (And.right (And.right (by assumption : _ ∧ _ ∧ _ ∧ Hid (BoxedT w r w'))))) : BoxedT w r w').1.old
    go_wp2_with fail
    go_ret
    exact ⟨by rw [HF.out, ← fmt_str]; rfl, hold⟩
end Go.Proofs.YtmlcdhblofjpbaaDoor
/- Rows of strings that a call made itself: what one append adds, and what lies there; no function of the program. -/
namespace Go.Proofs.YtmlcdhblofjpbaaDoor
open Go.RowKit

/-- A row of strings as cells. -/
def strs (l : List (List UInt8)) : List Value := l.map fun p => Value.string ⟨p.toArray⟩
theorem strs_length (l : List (List UInt8)) : (strs l).length = l.length := by simp [strs]
theorem strs_snoc (l : List (List UInt8)) (p : List UInt8) (s : ByteArray) (h : s = ⟨p.toArray⟩) : strs l ++ [Value.string s] = strs (l ++ [p]) := by subst h; simp [strs]
theorem strs_get (l : List (List UInt8)) (j : Nat) (hj : j < l.length) : (strs l)[j]? = some (Value.string ⟨l[j].toArray⟩) := by simp [strs, hj]
theorem str_info : (Tryd.prog.info? 9).map (fun i => (i.zero, i.size, i.bytes)) = some (some (.string ByteArray.empty), 1, 16) := by kernel_rfl
/-- A piece of a string. -/
theorem piece (s : ByteArray) (a b : Nat) : s.extract a b = ⟨((s.data.toList.take b).drop a).toArray⟩ := by
  apply ByteArray.ext
  apply Array.toList_inj.1
  simp [List.drop_take]
/-- 'out = append(out, s)'. -/
theorem wpList_pushS {ops : Array Oper} {rest : List Oper} {o : Oper} {a : Act} {Q : Exit → Act → World → Prop} {wr : World} {B : Nat} {out : List (List UInt8)} {v : Value} (s x : Operand) (p : List UInt8) (b : ByteArray)
    (hgd : o.guard = none) (ho : o.op = .call { callee := .builtin .append, args := #[s, x], argTypes := #[87, 87] })
    (hs : a.eval s = v) (hx : a.eval x = .slice (some ⟨wr.heap.size, 0, none⟩) 1 1) (hown : wr.ownsRow B 9 1 v out.length (strs out)) (hB : B ≤ wr.heap.size)
    (hlen : (out.length + 1) * 16 ≤ 140737488355328) (hb : b = ⟨p.toArray⟩)
    (h : ∀ v' w', w'.ownsRow B 9 1 v' (out ++ [p]).length (strs (out ++ [p])) → Below B wr w' → wpList Tryd.prog ops Q rest (a.put o.dst v') w') :
    wpList Tryd.prog ops Q (o :: rest) a (wr.alloc (.cells #[.string b] 9)) := by
  obtain ⟨i0, hi, hz0, hz1, hz2⟩ := info_parts str_info
  refine wpList_append_own _ hgd s x 87 ho B 9 i0 (.string ByteArray.empty) 1 16 Tryd.underlying87 hi hz0 hz1 hz2 rfl (by decide) v out.length (strs out) hs (hown.alloc _)
    ⟨wr.heap.size, 0, none⟩ 1 1 [.string b] hx rfl (cell_new1 _ _ _) (by intro u hu; simp at hu; subst hu; rfl) (by unfold maxLen; omega) (by omega) (by simp; omega) ?_
  intro v' w' hown' hg _
  rw [strs_snoc out p b hb] at hown'
  exact h v' w' (by simpa using hown') (((Below.refl B wr).alloc hB _).grown hg (by simp; omega) fun k hk => (hown.lt k hk).1)
/-- A slice of strings: its cells hold them. -/
def IsStrs (w : World) (g : Nat) (l : List (List UInt8)) : Prop := (∃ cs fz, w.heap[g]? = some (.cells cs 9 fz)) ∧ ∀ t (h : t < l.length), w.cell? ⟨g, t, none⟩ = some (.string ⟨l[t].toArray⟩)
theorem IsStrs.lt {w : World} {g : Nat} {l : List (List UInt8)} (h : IsStrs w g l) : g < w.heap.size := by
  obtain ⟨⟨cs, fz, h⟩, -⟩ := h
  exact lt_of_block h
theorem IsStrs.same {w w' : World} {g : Nat} {l : List (List UInt8)} (h : IsStrs w g l) (hb : w'.heap[g]? = w.heap[g]?) : IsStrs w' g l :=
  ⟨by obtain ⟨⟨cs, fz, h⟩, -⟩ := h; exact ⟨cs, fz, hb.trans h⟩, fun t ht => (World.cell?_of_block hb).trans (h.2 t ht)⟩
theorem IsStrs.below {w w' : World} {g B : Nat} {l : List (List UInt8)} (h : IsStrs w g l) (hb : Below B w w') (hg : g < B) : IsStrs w' g l := h.same (hb.block g hg)
theorem IsStrs.keep {w w' : World} {g : Nat} {l : List (List UInt8)} (h : IsStrs w g l) (hb : Below w.heap.size w w') : IsStrs w' g l := h.below hb h.lt
theorem IsStrs.other {w : World} {g g' i : Nat} {l : List (List UInt8)} (h : IsStrs w g l) (hne : g ≠ g') (u : Value) : IsStrs (w.setCell ⟨g', i, none⟩ u) g l := h.same (Below.heap_setCell _ _ _ _ (fun e => hne e))
theorem strs_of_own {w : World} {B : Nat} {v : Value} {l : List (List UInt8)} (h : w.ownsRow B 9 1 v l.length (strs l)) (hl : 0 < l.length) : ∃ g cap, v = .slice (some ⟨g, 0, none⟩) l.length cap ∧ B ≤ g ∧ IsStrs w g l := by
  have h' := h
  obtain ⟨g, cap, rfl⟩ := Joins.ownsRow_form h hl
  have hc : ∀ t (ht : t < l.length), w.cell? ⟨g, t, none⟩ = some (.string ⟨l[t].toArray⟩) := fun t ht => by
    have := h.cells (g := g) rfl t _ (strs_get l t ht)
    by_cases h0 : t = 0
    · subst h0; simpa [Addr.add] using this
    · simpa [Addr.add, h0] using this
  refine ⟨g, cap, rfl, ?_, ?_, hc⟩
  · exact (h.lt g rfl).1
  · rcases h'.2 with ⟨h0, _⟩ | ⟨g', cap', cur, h0, _, hh, _⟩
    · cases h0
    · cases h0
      exact ⟨cur, _, hh⟩
/-- 'make([]string, n)'. -/
theorem run_make_strs (n : Nat) (hn : n ≤ 1000000000000) (w : World) :
    (Instr.makeSlice 87 (.int .i64 (n : Int)) (.int .i64 (n : Int))).run Tryd.prog w = .ok (.slice (some ⟨w.heap.size, 0, none⟩) n n) (w.alloc (.cells (strs (List.replicate n [])).toArray 9)) := by
  have h := run_make_row' (P := Tryd.prog) 87 9 (.string ByteArray.empty) 16 Tryd.underlying87 str_info rfl .i64 .i64 n (by omega) (by omega) w
  rw [h]
  have e : madeCells #[Value.string ByteArray.empty] n = (strs (List.replicate n [])).toArray := by
    apply Array.toList_inj.1
    rw [toList_madeCells_one]
    simp only [strs, List.map_replicate]
    rfl
  rw [e]
theorem strs_block {w : World} {g : Nat} {M : List (List UInt8)} {t : TypeId} (h : w.heap[g]? = some (.cells (strs M).toArray t (0, 0))) (k : Nat) (hk : k < M.length) : w.cell? ⟨g, k, none⟩ = some (.string ⟨M[k].toArray⟩) ∧ w.frozen? ⟨g, k, none⟩ = false := by
  refine ⟨?_, by simp [World.frozen?, h]⟩
  simp only [World.cell?, h]
  rw [List.getElem?_toArray]
  exact strs_get M k hk
theorem strs_set {w : World} {g : Nat} {M : List (List UInt8)} {t : TypeId} (h : w.heap[g]? = some (.cells (strs M).toArray t (0, 0))) (k : Nat) (x : List UInt8) : (w.setCell ⟨g, k, none⟩ (.string ⟨x.toArray⟩)).heap[g]? = some (.cells (strs (M.set k x)).toArray t (0, 0)) := by
  rw [Joins.block_setCell h (i := k)]
  congr 2
  simp [strs, List.map_set]
theorem set_next' {α : Type} (F : List α) (z : α) (n k : Nat) (x : α) (hk : k < n) (hF : F.length = k) : (F ++ List.replicate (n - k) z).set k x = (F ++ [x]) ++ List.replicate (n - (k + 1)) z := by
  have e : n - k = (n - (k + 1)) + 1 := by omega
  rw [List.set_append_right _ _ (by omega), hF, Nat.sub_self, e, List.replicate_succ, List.set_cons_zero, List.append_assoc]
  rfl
end Go.Proofs.YtmlcdhblofjpbaaDoor
