/- Texts joined: SealS VPt FindI FindT CloneT Frowi Strs FmtRowi Build FmtPagei FitsFmt SealI SealW. -/
import Derived.Test.YtlnjgoommpeioaaDoorPartSealFilej
import Derived.Deep.CutRange
import Derived.Deep.RegionHeld3
import Derived.Lib.SmallJoins
import Derived.Deep.OwnRows
import Derived.Shelf.Strings.Builder2
/- The reference's SealFile: told by trees. -/
namespace Go.Proofs.YtlnjgoommpeioaaDoor
open Go Go.RowKit V
set_option linter.unusedVariables false
theorem DiskD.atI_cases (F : List FileD) (name : Int) : (DiskD.at? F name = none ∧ DiskD.atI F name = -1) ∨ ∃ (k : Nat) (f : FileD), DiskD.at? F name = some k ∧ F[k]? = some f ∧ DiskD.atI F name = (k : Int) := by
  unfold DiskD.atI
  cases h : DiskD.at? F name with
  | none => exact .inl ⟨rfl, rfl⟩
  | some k => obtain ⟨f, hf, -⟩ := DiskD.at_some h; exact .inr ⟨k, f, rfl, hf, rfl⟩
theorem fmtPages_len (P : List (List R)) : (R.fmtPages P).length ≤ 218 * P.length := by
  have h : ∀ Q : List (List R), (Q.flatMap R.pageTxt).length ≤ 218 * Q.length := fun Q => by
    induction Q with
    | nil => simp
    | cons q Q ih =>
      have h1 := fmtRows_length q
      have h2 : (R.pageTxt q).length = (fmtRows q).length + 2 := by simp [R.pageTxt]
      rw [List.flatMap_cons, List.length_append, List.length_cons]
      omega
  unfold R.fmtPages
  split
  · exact h P
  · simp
theorem vat_s' (X : DiskD) (name ki : Int) (hX : goodDisk X) (h : DiskD.atI X.fFiles name = ki) : VC Tryd.prog 94 [(true, tDisk X), (false, [.lit (.int .i64 name)])] false [(false, [.lit (.int .i64 ki)])] := h ▸ vat_s X name hX
theorem vck_s (l : List UInt8) (hl : l.length ≤ 1000000000000) : VC Tryd.prog 95 [(false, [.lit (.string ⟨l.toArray⟩)])] false [(false, [.lit (.int .i64 ((ck l : Nat) : Int))])] :=
  VC.plain (ins := [(false, [.string ⟨l.toArray⟩])]) (ag := false) (rs := [.int .i64 ((ck l : Nat) : Int)]) (fun u hu => by rw [List.mem_singleton.1 hu]; rfl) (fun w => (scheck ⟨l.toArray⟩ w (by show l.toArray.size ≤ _; simpa using hl)).mono fun e w' ⟨he, hw⟩ => ⟨he, hw ▸ Below.refl _ _⟩)
set_option maxRecDepth 100000 in
set_option maxHeartbeats 2000000 in
theorem vseal_s0 (X : DiskD) (name ki : Int) (hX : goodDisk X) (hL : wtDisk X ≤ 1000000000) (hki : DiskD.atI X.fFiles name = ki) : VC Tryd.prog 41 [(true, tDisk X), (false, [.lit (.int .i64 (name))])] true [(true, tDisk ((DiskD.sealF X name).getD X)), (false, [.lit (.bool (DiskD.sealF X name).isSome)])] := by
  refine VC.enter Tryd.func41 rfl Tryd.ntmps41 (Nat.le_of_ble_eq_true rfl) fun E hE => ?_
  refine SV.seq' ?_
  refine SV.region ?_
  refine SV.op (OpMk.ok (ok_box (kk := 0) (ag := true) (xs := [.ro _, .sc _]) rfl rfl rfl (fun h => by cases h) rfl rfl (Nat.le_of_ble_eq_true rfl))) rfl ?_
  refine SV.op (OpMk.ok (ok_alloc (kk := 1) (xs := [.nl _, .sc _]) rfl rfl zero_impl_Disk ⟨rfl, ⟨4, by decide, sz_impl_File⟩, rfl, rfl, trivial⟩ rfl (Nat.le_of_ble_eq_true rfl))) rfl ?_
  refine SV.op (OpL.ok (nb := 2) (ok_move (v := V.one (.sc _)) (.inr rfl) rfl) rfl (Nat.le_of_ble_eq_true rfl)) rfl ?_
  refine SV.nil ?_
  refine SV.tn ?_
  refine SV.seq' ?_
  refine SV.region ?_
  refine SV.op (OpL.ok (nb := 2) (ok_load_bp (b := 0) (i := 0) (ag := true) (m := 2) (ys := [.ro _, .sc _]) rfl rfl rfl agg_impl_Disk sz_impl_Disk (fun h => by cases h) rfl rfl (Nat.le_of_ble_eq_true rfl)) rfl (Nat.le_of_ble_eq_true rfl)) rfl ?_
  refine SV.op (OpMk.ok (ok_call (ls := [(true, [.hd 0, .sc _])]) rfl rfl ⟨_, _, Tryd.func56, rfl, by decide⟩ (vcopy_s X hL) ⟨⟨[.ro _, .sc _], rfl, ⟨rfl, rfl, trivial⟩⟩, trivial⟩ rfl (Nat.le_of_ble_eq_true rfl))) rfl ?_
  refine SV.op (OpMk.ok (ok_alloc (kk := 2) (xs := [.nl _, .sc _]) rfl rfl zero_impl_Disk ⟨rfl, ⟨4, by decide, sz_impl_File⟩, rfl, rfl, trivial⟩ rfl (Nat.le_of_ble_eq_true rfl))) rfl ?_
  refine SV.op (ok_store_bp (b := 2) (i := 0) (m := 2) (ag := true) (zs := [.hd 0, .sc _]) (ys := [.hd 0, .sc _]) rfl rfl rfl rfl sz_impl_Disk (fun h => by cases h) rfl (Nat.le_of_ble_eq_true rfl) rfl rfl rfl) rfl ?_
  refine SV.nil ?_
  refine SV.tn ?_
  refine SV.seq' ?_
  refine SV.region ?_
  refine SV.op (OpL.ok (nb := 3) (ok_load_bp (b := 0) (i := 0) (ag := true) (m := 2) (ys := [.ro _, .sc _]) rfl rfl rfl agg_impl_Disk sz_impl_Disk (fun h => by cases h) rfl rfl (Nat.le_of_ble_eq_true rfl)) rfl (Nat.le_of_ble_eq_true rfl)) rfl ?_
  refine SV.op (OpL.ok (nb := 3) (ok_move (v := V.one (.sc _)) (.inl rfl) rfl) rfl (Nat.le_of_ble_eq_true rfl)) rfl ?_
  refine SV.op (OpMk.ok (ok_call (ls := [(false, [.sc _])]) rfl rfl ⟨_, _, Tryd.func94, rfl, by decide⟩ (vat_s' X name ki hX hki) ⟨⟨[.ro _, .sc _], rfl, ⟨rfl, rfl, trivial⟩⟩, ⟨[.sc _], rfl, ⟨rfl, trivial⟩⟩, trivial⟩ rfl (Nat.le_of_ble_eq_true rfl))) rfl ?_
  refine SV.op (OpL.ok (nb := 3) (ok_move (v := V.one (.sc _)) (.inr rfl) rfl) rfl (Nat.le_of_ble_eq_true rfl)) rfl ?_
  refine SV.nil ?_
  refine SV.tn ?_
  refine SV.seq' ?_
  refine SV.seq' ?_
  refine SV.region ?_
  refine SV.op (OpL.ok (nb := 3) (ok_load_bp (b := 0) (i := 0) (ag := true) (m := 2) (ys := [.ro _, .sc _]) rfl rfl rfl agg_impl_Disk sz_impl_Disk (fun h => by cases h) rfl rfl (Nat.le_of_ble_eq_true rfl)) rfl (Nat.le_of_ble_eq_true rfl)) rfl ?_
  refine SV.op (OpMk.ok (ok_call (ls := [(false, [.sc _])]) rfl rfl ⟨_, _, Tryd.func14, rfl, by decide⟩ (vokdisk_s X hX hL) ⟨⟨[.ro _, .sc _], rfl, ⟨rfl, rfl, trivial⟩⟩, trivial⟩ rfl (Nat.le_of_ble_eq_true rfl))) rfl ?_
  refine SV.op (OpL.ok (nb := 3) (ok_s1 (x := .tmp 14) (VScal.one rfl) (fun ρ h1 w => by go_simp; (try go_bits); with_reducible rfl) rfl) rfl (Nat.le_of_ble_eq_true rfl)) rfl ?_
  refine SV.op (OpL.ok (nb := 3) (ok_move (v := V.one (.sc _)) (.inl rfl) rfl) rfl (Nat.le_of_ble_eq_true rfl)) rfl ?_
  refine SV.split (d := 16) rfl (fun hg0 => ?_) (fun hg0 => ?_)
  · skip   -- g0.T
    have ho : DiskD.sealF X name = none := DiskD.sealF_none (DiskD.file_bad (by simpa using hg0))
    refine SV.opN rfl rfl rfl (Nat.le_of_ble_eq_true rfl) rfl rfl rfl (Nat.le_of_ble_eq_true rfl) ?_
    refine SV.opN rfl rfl rfl (Nat.le_of_ble_eq_true rfl) rfl rfl rfl (Nat.le_of_ble_eq_true rfl) ?_
    refine SV.op (OpL.ok (nb := 3) (ok_pickT (v := V.one (.sc _)) rfl rfl rfl) rfl (Nat.le_of_ble_eq_true rfl)) rfl ?_
    refine SV.op (OpL.ok (nb := 3) (ok_move (v := V.one (.sc _)) (.inl rfl) rfl) rfl (Nat.le_of_ble_eq_true rfl)) rfl ?_
    refine SV.split (d := 20) rfl (fun hg1 => ?_) (fun hg1 => ?_)
    · skip   -- g1.T
      refine SV.opN rfl rfl rfl (Nat.le_of_ble_eq_true rfl) rfl rfl rfl (Nat.le_of_ble_eq_true rfl) ?_
      refine SV.opN rfl rfl rfl (Nat.le_of_ble_eq_true rfl) rfl rfl rfl (Nat.le_of_ble_eq_true rfl) ?_
      refine SV.opN rfl rfl rfl (Nat.le_of_ble_eq_true rfl) rfl rfl rfl (Nat.le_of_ble_eq_true rfl) ?_
      refine SV.opN rfl rfl rfl (Nat.le_of_ble_eq_true rfl) rfl rfl rfl (Nat.le_of_ble_eq_true rfl) ?_
      refine SV.opN rfl rfl rfl (Nat.le_of_ble_eq_true rfl) rfl rfl rfl (Nat.le_of_ble_eq_true rfl) ?_
      refine SV.opN rfl rfl rfl (Nat.le_of_ble_eq_true rfl) rfl rfl rfl (Nat.le_of_ble_eq_true rfl) ?_
      refine SV.op (OpL.ok (nb := 3) (ok_pickT (v := V.one (.sc _)) rfl rfl rfl) rfl (Nat.le_of_ble_eq_true rfl)) rfl ?_
      refine SV.nil ?_
      refine SV.tn ?_
      refine SV.cond rfl (fun hc0 => ?_) (fun hc0 => ?_)
      · skip   -- c0.T
        refine SV.seq' ?_
        refine SV.region ?_
        refine SV.op (OpL.ok (nb := 3) (ok_load_bp (b := 2) (i := 0) (ag := true) (m := 2) (ys := [.hd 0, .sc _]) rfl rfl rfl agg_impl_Disk sz_impl_Disk (fun h => by cases h) rfl rfl (Nat.le_of_ble_eq_true rfl)) rfl (Nat.le_of_ble_eq_true rfl)) rfl ?_
        refine SV.op (ok_store_bp (b := 1) (i := 0) (m := 2) (ag := true) (zs := [.hd 0, .sc _]) (ys := [.hd 0, .sc _]) rfl rfl rfl rfl sz_impl_Disk (fun h => by cases h) rfl (Nat.le_of_ble_eq_true rfl) rfl rfl rfl) rfl ?_
        refine SV.op (OpL.ok (nb := 3) (ok_move (v := V.one (.sc _)) (.inr rfl) rfl) rfl (Nat.le_of_ble_eq_true rfl)) rfl ?_
        refine SV.nil ?_
        refine SV.tn ?_
        refine SV.ret ?_
        refine SV.tr ?_
        apply SV.done (hf := Tryd.results41) (ht := rfl) (he := .inl rfl)
        case hr => exact (ResAll.cons (ResOk.cell (b := 1) (ag := true) (xs := [.hd 0, .sc _]) rfl rfl agg_impl_Disk sz_impl_Disk (fun h => by cases h)) (ResAll.cons (ResOk.tmp (ag := false) (xs := [.sc _]) rfl) ResAll.nil'))
        case h2 => simp [two]
        refine ⟨rfl, ⟨?_, ?_, trivial⟩, ⟨rfl, ⟨?_, trivial⟩, trivial⟩⟩ <;> (rw [ho]; first | rfl | (show some (T.seq _ _) = some (T.seq _ _); simp [tFile, List.map_set]; done))
      · skip   -- c0.F
        cases hc0
    · skip   -- g1.F
      simp at hg1
  · skip   -- g0.F
    have hok : DiskD.okD X = true := by simpa using hg0
    refine SV.opY (OpL.ok (nb := 3) (ok_move (v := V.one (.sc _)) (.inl rfl) rfl) rfl (Nat.le_of_ble_eq_true rfl)) rfl rfl rfl (Nat.le_of_ble_eq_true rfl) rfl rfl ?_
    refine SV.opY (OpL.ok (nb := 3) (ok_s2 (x := .tmp 17) (x' := .const ((Value.int IntKind.i64 0))) (VScal.one rfl) (VScal.one rfl) (fun ρ h1 h2 w => by go_simp; (try go_bits); with_reducible rfl) rfl) rfl (Nat.le_of_ble_eq_true rfl)) rfl rfl rfl (Nat.le_of_ble_eq_true rfl) rfl rfl ?_
    refine SV.op (OpL.ok (nb := 3) (ok_pickF (v := V.one (.sc _)) rfl rfl rfl) rfl (Nat.le_of_ble_eq_true rfl)) rfl ?_
    refine SV.op (OpL.ok (nb := 3) (ok_move (v := V.one (.sc _)) (.inl rfl) rfl) rfl (Nat.le_of_ble_eq_true rfl)) rfl ?_
    refine SV.split (d := 20) rfl (fun hg2 => ?_) (fun hg2 => ?_)
    · skip   -- g2.T
      have hk : DiskD.at? X.fFiles name = none := by
        rcases DiskD.atI_cases X.fFiles name with h | ⟨k, f, h1, h2, h3⟩
        · exact h.1
        · exfalso; simp at hg2; omega
      have ho : DiskD.sealF X name = none := DiskD.sealF_none (DiskD.file_none hk)
      refine SV.opN rfl rfl rfl (Nat.le_of_ble_eq_true rfl) rfl rfl rfl (Nat.le_of_ble_eq_true rfl) ?_
      refine SV.opN rfl rfl rfl (Nat.le_of_ble_eq_true rfl) rfl rfl rfl (Nat.le_of_ble_eq_true rfl) ?_
      refine SV.opN rfl rfl rfl (Nat.le_of_ble_eq_true rfl) rfl rfl rfl (Nat.le_of_ble_eq_true rfl) ?_
      refine SV.opN rfl rfl rfl (Nat.le_of_ble_eq_true rfl) rfl rfl rfl (Nat.le_of_ble_eq_true rfl) ?_
      refine SV.opN rfl rfl rfl (Nat.le_of_ble_eq_true rfl) rfl rfl rfl (Nat.le_of_ble_eq_true rfl) ?_
      refine SV.opN rfl rfl rfl (Nat.le_of_ble_eq_true rfl) rfl rfl rfl (Nat.le_of_ble_eq_true rfl) ?_
      refine SV.op (OpL.ok (nb := 3) (ok_pickT (v := V.one (.sc _)) rfl rfl rfl) rfl (Nat.le_of_ble_eq_true rfl)) rfl ?_
      refine SV.nil ?_
      refine SV.tn ?_
      refine SV.cond rfl (fun hc1 => ?_) (fun hc1 => ?_)
      · skip   -- c1.T
        refine SV.seq' ?_
        refine SV.region ?_
        refine SV.op (OpL.ok (nb := 3) (ok_load_bp (b := 2) (i := 0) (ag := true) (m := 2) (ys := [.hd 0, .sc _]) rfl rfl rfl agg_impl_Disk sz_impl_Disk (fun h => by cases h) rfl rfl (Nat.le_of_ble_eq_true rfl)) rfl (Nat.le_of_ble_eq_true rfl)) rfl ?_
        refine SV.op (ok_store_bp (b := 1) (i := 0) (m := 2) (ag := true) (zs := [.hd 0, .sc _]) (ys := [.hd 0, .sc _]) rfl rfl rfl rfl sz_impl_Disk (fun h => by cases h) rfl (Nat.le_of_ble_eq_true rfl) rfl rfl rfl) rfl ?_
        refine SV.op (OpL.ok (nb := 3) (ok_move (v := V.one (.sc _)) (.inr rfl) rfl) rfl (Nat.le_of_ble_eq_true rfl)) rfl ?_
        refine SV.nil ?_
        refine SV.tn ?_
        refine SV.ret ?_
        refine SV.tr ?_
        apply SV.done (hf := Tryd.results41) (ht := rfl) (he := .inl rfl)
        case hr => exact (ResAll.cons (ResOk.cell (b := 1) (ag := true) (xs := [.hd 0, .sc _]) rfl rfl agg_impl_Disk sz_impl_Disk (fun h => by cases h)) (ResAll.cons (ResOk.tmp (ag := false) (xs := [.sc _]) rfl) ResAll.nil'))
        case h2 => simp [two]
        refine ⟨rfl, ⟨?_, ?_, trivial⟩, ⟨rfl, ⟨?_, trivial⟩, trivial⟩⟩ <;> (rw [ho]; first | rfl | (show some (T.seq _ _) = some (T.seq _ _); simp [tFile, List.map_set]; done))
      · skip   -- c1.F
        cases hc1
    · skip   -- g2.F
      obtain ⟨k, f, h1, hx, h3⟩ : ∃ (k : Nat) (f : FileD), DiskD.at? X.fFiles name = some k ∧ X.fFiles[k]? = some f ∧ DiskD.atI X.fFiles name = (k : Int) := by
        rcases DiskD.atI_cases X.fFiles name with h | h
        · exfalso; simp at hg2; omega
        · exact h
      obtain rfl : ki = (k : Int) := hki.symm.trans h3
      have hf := DiskD.sealF_eq (DiskD.file_some hok h1 hx)
      have hkl : k < X.fFiles.length := get_lt hx
      have hP := (hX.1 f (get_mem hx)).2.1
      have hw1 : wtPages f.fPages ≤ wtDisk X := by
        have h4 := wt_file_at X.fFiles k hkl
        have h5 : X.fFiles[k] = f := by have := hx; rw [List.getElem?_eq_getElem hkl] at this; exact Option.some.inj this
        rw [h5] at h4; exact h4
      have hw2 := wt_page_len f.fPages
      have hw3 := flat_wt f.fPages
      have hK : (R.fmtPages f.fPages).length ≤ 1000000000000 := by have := fmtPages_len f.fPages; omega
      refine SV.opY (OpL.ok (nb := 3) (ok_field_bp (b := 0) (o' := 0) (off := 0) rfl rfl fld_impl_Disk_0) rfl (Nat.le_of_ble_eq_true rfl)) rfl rfl rfl (Nat.le_of_ble_eq_true rfl) rfl rfl ?_
      refine SV.opY (OpL.ok (nb := 3) (ok_load_bp (b := 0) (i := 0) (ag := false) (m := 1) (ys := [.ro _]) rfl rfl rfl agg_s_impl_File sz_s_impl_File (fun _ => rfl) rfl rfl (Nat.le_of_ble_eq_true rfl)) rfl (Nat.le_of_ble_eq_true rfl)) rfl rfl rfl (Nat.le_of_ble_eq_true rfl) rfl rfl ?_
      refine SV.opY (OpL.ok (nb := 3) (ok_move (v := V.one (.sc _)) (.inl rfl) rfl) rfl (Nat.le_of_ble_eq_true rfl)) rfl rfl rfl (Nat.le_of_ble_eq_true rfl) rfl rfl ?_
      refine SV.opY (OpL.ok (nb := 3) (ok_index (n := 4) (lf := .ro _) rfl elt_impl_File.und sz_impl_File rfl rfl rfl (map_at (by assumption))) rfl (Nat.le_of_ble_eq_true rfl)) rfl rfl rfl (Nat.le_of_ble_eq_true rfl) rfl rfl ?_
      refine SV.opY (OpL.ok (nb := 3) (ok_field_el (p := .rp _) (off := 3) rfl rfl rfl fld_impl_File_3) rfl (Nat.le_of_ble_eq_true rfl)) rfl rfl rfl (Nat.le_of_ble_eq_true rfl) rfl rfl ?_
      refine SV.opY (OpL.ok (nb := 3) (ok_load_rp (ag := false) (m := 1) (ys := [.sc _]) rfl rfl agg_bool sz_bool (fun _ => rfl) (Nat.le_of_ble_eq_true rfl) rfl) rfl (Nat.le_of_ble_eq_true rfl)) rfl rfl rfl (Nat.le_of_ble_eq_true rfl) rfl rfl ?_
      refine SV.op (OpL.ok (nb := 3) (ok_pickF (v := V.one (.sc _)) rfl rfl rfl) rfl (Nat.le_of_ble_eq_true rfl)) rfl ?_
      refine SV.nil ?_
      refine SV.tn ?_
      refine SV.cond rfl (fun hc2 => ?_) (fun hc2 => ?_)
      · skip   -- c2.T
        have ho : DiskD.sealF X name = none := by rw [hf, if_pos (by simpa using hc2)]
        refine SV.seq' ?_
        refine SV.region ?_
        refine SV.op (OpL.ok (nb := 3) (ok_load_bp (b := 2) (i := 0) (ag := true) (m := 2) (ys := [.hd 0, .sc _]) rfl rfl rfl agg_impl_Disk sz_impl_Disk (fun h => by cases h) rfl rfl (Nat.le_of_ble_eq_true rfl)) rfl (Nat.le_of_ble_eq_true rfl)) rfl ?_
        refine SV.op (ok_store_bp (b := 1) (i := 0) (m := 2) (ag := true) (zs := [.hd 0, .sc _]) (ys := [.hd 0, .sc _]) rfl rfl rfl rfl sz_impl_Disk (fun h => by cases h) rfl (Nat.le_of_ble_eq_true rfl) rfl rfl rfl) rfl ?_
        refine SV.op (OpL.ok (nb := 3) (ok_move (v := V.one (.sc _)) (.inr rfl) rfl) rfl (Nat.le_of_ble_eq_true rfl)) rfl ?_
        refine SV.nil ?_
        refine SV.tn ?_
        refine SV.ret ?_
        refine SV.tr ?_
        apply SV.done (hf := Tryd.results41) (ht := rfl) (he := .inl rfl)
        case hr => exact (ResAll.cons (ResOk.cell (b := 1) (ag := true) (xs := [.hd 0, .sc _]) rfl rfl agg_impl_Disk sz_impl_Disk (fun h => by cases h)) (ResAll.cons (ResOk.tmp (ag := false) (xs := [.sc _]) rfl) ResAll.nil'))
        case h2 => simp [two]
        refine ⟨rfl, ⟨?_, ?_, trivial⟩, ⟨rfl, ⟨?_, trivial⟩, trivial⟩⟩ <;> (rw [ho]; first | rfl | (show some (T.seq _ _) = some (T.seq _ _); simp [tFile, List.map_set]; done))
      · skip   -- c2.F
        have ho := hf.trans (if_neg (by simpa using hc2))
        refine SV.skip ?_
        refine SV.tn ?_
        refine SV.seq' ?_
        refine SV.region ?_
        refine SV.op (OpL.ok (nb := 3) (ok_field_bp (b := 2) (o' := 0) (off := 0) rfl rfl fld_impl_Disk_0) rfl (Nat.le_of_ble_eq_true rfl)) rfl ?_
        refine SV.op (OpL.ok (nb := 3) (ok_load_bp (b := 2) (i := 0) (ag := false) (m := 1) (ys := [.hd 0]) rfl rfl rfl agg_s_impl_File sz_s_impl_File (fun _ => rfl) rfl rfl (Nat.le_of_ble_eq_true rfl)) rfl (Nat.le_of_ble_eq_true rfl)) rfl ?_
        refine SV.op (OpL.ok (nb := 3) (ok_move (v := V.one (.sc _)) (.inl rfl) rfl) rfl (Nat.le_of_ble_eq_true rfl)) rfl ?_
        refine SV.op (OpL.ok (nb := 3) (ok_index (n := 4) (lf := .hd 0) rfl elt_impl_File.und sz_impl_File rfl rfl rfl (map_at (by assumption))) rfl (Nat.le_of_ble_eq_true rfl)) rfl ?_
        refine SV.op (OpL.ok (nb := 3) (ok_field_el (p := .ep 0 _ _ _) (off := 3) rfl rfl (cells_ep rfl (map_at (by assumption)) rfl rfl) fld_impl_File_3) rfl (Nat.le_of_ble_eq_true rfl)) rfl ?_
        refine SV.op (ok_store_ep (i := 0) (n := 4) (m := 1) (ag := false) (zs := [.sc _]) rfl rfl rfl rfl (map_at (by assumption)) sz_bool (fun _ => rfl) rfl sz_impl_File (Nat.le_of_ble_eq_true rfl) (outs_c rfl outs_n) (by simp [two]) rfl rfl rfl) rfl ?_
        refine SV.nil ?_
        refine SV.tn ?_
        refine SV.seq' ?_
        refine SV.draw [.q 0, .q 1, .q 2, .q 3, .q 4, .q 5, .q 6, .q 7, .q 8, .m 9, .m 10, .q 11, .q 12] [13] (by kernel_rfl) (by kernel_rfl) ?_
        refine DW.q rfl (ok_field_bp (b := 2) (o' := 0) (off := 0) rfl rfl fld_impl_Disk_0) rfl rfl (Nat.le_of_ble_eq_true rfl) (fun _ _ _ _ h => h) ?_
        refine DW.q rfl (ok_load_bp (b := 2) (i := 0) (ag := false) (m := 1) (ys := [.hd 0]) rfl rfl rfl agg_s_impl_File sz_s_impl_File (fun _ => rfl) rfl rfl (Nat.le_of_ble_eq_true rfl)) rfl rfl (Nat.le_of_ble_eq_true rfl) (fun _ _ _ _ h => h) ?_
        refine DW.q rfl (ok_move (v := V.one (.sc _)) (.inl rfl) rfl) rfl rfl (Nat.le_of_ble_eq_true rfl) (fun _ _ _ _ h => h) ?_
        refine DW.q rfl (ok_field_bp (b := 0) (o' := 0) (off := 0) rfl rfl fld_impl_Disk_0) rfl rfl (Nat.le_of_ble_eq_true rfl) (fun _ _ _ _ h => h) ?_
        refine DW.q rfl (ok_load_bp (b := 0) (i := 0) (ag := false) (m := 1) (ys := [.ro _]) rfl rfl rfl agg_s_impl_File sz_s_impl_File (fun _ => rfl) rfl rfl (Nat.le_of_ble_eq_true rfl)) rfl rfl (Nat.le_of_ble_eq_true rfl) (fun _ _ _ _ h => h) ?_
        refine DW.q rfl (ok_move (v := V.one (.sc _)) (.inl rfl) rfl) rfl rfl (Nat.le_of_ble_eq_true rfl) (fun _ _ _ _ h => h) ?_
        refine DW.q rfl (ok_index (n := 4) (lf := .ro _) rfl elt_impl_File.und sz_impl_File rfl rfl rfl (map_at (by assumption))) rfl rfl (Nat.le_of_ble_eq_true rfl) (fun _ _ _ _ h => h) ?_
        refine DW.q rfl (ok_field_el (p := .rp _) (off := 1) rfl rfl rfl fld_impl_File_1) rfl rfl (Nat.le_of_ble_eq_true rfl) (fun _ _ _ _ h => h) ?_
        refine DW.q rfl (ok_load_rp (ag := false) (m := 1) (ys := [.ro _]) rfl rfl agg_s_impl_Page sz_s_impl_Page (fun _ => rfl) (Nat.le_of_ble_eq_true rfl) rfl) rfl rfl (Nat.le_of_ble_eq_true rfl) (fun _ _ _ _ h => h) ?_
        refine DW.m [] rfl (ok_call (ls := [(false, [.sc _])]) rfl rfl ⟨_, _, Tryd.func96, rfl, by decide⟩ (vfpages_s f.fPages hP (by omega) (by omega)) ⟨⟨[.ro _], rfl, ⟨rfl, trivial⟩⟩, trivial⟩ rfl (Nat.le_of_ble_eq_true rfl)) rfl (Nat.le_of_ble_eq_true rfl) (Nat.le_of_ble_eq_true rfl) (.inl rfl) (fun j hj => by cases hj) ?_
        refine DW.m [] rfl (ok_call (ls := [(false, [.sc _])]) rfl rfl ⟨_, _, Tryd.func95, rfl, by decide⟩ (vck_s (R.fmtPages f.fPages) hK) ⟨⟨[.sc _], rfl, ⟨rfl, trivial⟩⟩, trivial⟩ rfl (Nat.le_of_ble_eq_true rfl)) rfl (Nat.le_of_ble_eq_true rfl) (Nat.le_of_ble_eq_true rfl) (.inl rfl) (fun j hj => by cases hj) ?_
        refine DW.q rfl (ok_index (n := 4) (lf := .hd 0) rfl elt_impl_File.und sz_impl_File rfl rfl rfl (set_self (by rw [List.length_map]; exact hkl))) rfl rfl (Nat.le_of_ble_eq_true rfl) (fun _ _ _ _ h => h) ?_
        refine DW.q rfl (ok_field_el (p := .ep 0 _ _ _) (off := 2) rfl rfl (cells_ep rfl (set_self (by rw [List.length_map]; exact hkl)) rfl rfl) fld_impl_File_2) rfl rfl (Nat.le_of_ble_eq_true rfl) (fun _ _ _ _ h => h) ?_
        refine DW.stores ?_
        refine SV.z rfl (ok_store_ep (i := 0) (n := 4) (m := 1) (ag := false) (zs := [.sc _]) rfl rfl rfl rfl (set_self (by rw [List.length_map]; exact hkl)) sz_int (fun _ => rfl) rfl sz_impl_File (Nat.le_of_ble_eq_true rfl) (outs_c rfl outs_n) (by simp [two]) rfl (set_twice (by rfl)) rfl) rfl ?_
        refine SV.zend ?_
        refine SV.tn ?_
        refine SV.seq' ?_
        refine SV.region ?_
        refine SV.op (OpL.ok (nb := 3) (ok_load_bp (b := 2) (i := 0) (ag := true) (m := 2) (ys := [.hd 0, .sc _]) rfl rfl rfl agg_impl_Disk sz_impl_Disk (fun h => by cases h) rfl rfl (Nat.le_of_ble_eq_true rfl)) rfl (Nat.le_of_ble_eq_true rfl)) rfl ?_
        refine SV.op (ok_store_bp (b := 1) (i := 0) (m := 2) (ag := true) (zs := [.hd 0, .sc _]) (ys := [.hd 0, .sc _]) rfl rfl rfl rfl sz_impl_Disk (fun h => by cases h) rfl (Nat.le_of_ble_eq_true rfl) rfl rfl rfl) rfl ?_
        refine SV.op (OpL.ok (nb := 3) (ok_move (v := V.one (.sc _)) (.inr rfl) rfl) rfl (Nat.le_of_ble_eq_true rfl)) rfl ?_
        refine SV.nil ?_
        refine SV.tn ?_
        refine SV.ret ?_
        apply SV.done (hf := Tryd.results41) (ht := rfl) (he := .inl rfl)
        case hr => exact (ResAll.cons (ResOk.cell (b := 1) (ag := true) (xs := [.hd 0, .sc _]) rfl rfl agg_impl_Disk sz_impl_Disk (fun h => by cases h)) (ResAll.cons (ResOk.tmp (ag := false) (xs := [.sc _]) rfl) ResAll.nil'))
        case h2 => simp [two]
        refine ⟨rfl, ⟨?_, ?_, trivial⟩, ⟨rfl, ⟨?_, trivial⟩, trivial⟩⟩ <;> (rw [ho]; first | rfl | (show some (T.seq _ _) = some (T.seq _ _); simp [tFile, List.map_set]; done))
end Go.Proofs.YtlnjgoommpeioaaDoor
/- Calls that yield the address of an element of an argument's slice: told by trees. -/
namespace Go.Proofs.YtlnjgoommpeioaaDoor.V
open Go Go.RowKit
set_option linter.unusedVariables false
variable {P : Program} {E : Env} {N nb : Nat} {σ : VS} {o : Oper} {w : World} {G : Ghost}
/-- The call answers the address of element k of the slice that its first argument begins with, and true; or nil and false. -/
def VPt (P : Program) (f : FuncId) (ins : List (Bool × List T)) (n : Nat) (r : Option Nat) : Prop := ∀ (w : World) (vs : List Value), ArgsIn (Env.of w) w ins vs → Calls P f vs.toArray w fun e w' => Below w.heap.size w w' ∧
  (r = none → e = .returned (.tuple #[.pointer none, .bool false])) ∧ ∀ k, r = some k → ∀ (us : List Value) (b q N c : Nat), vs[0]? = some (cval true us) → us[0]? = some (.slice (some ⟨b, q, none⟩) N c) → e = .returned (.tuple #[.pointer (some ⟨b, q + k * n, none⟩), .bool true])
theorem vtwo {x y : Leaf} {u v : Value} (h1 : Holds G σ E w x u) (h2 : Holds G σ E w y v) : VHolds G σ E w ⟨true, [(false, [x]), (false, [y])]⟩ (.tuple #[u, v]) := ⟨[[u], [v]], rfl, rfl, fun c ag xs us hc hu => by
  match c, hc, hu with
  | 0, hc, hu => cases hc; cases hu; exact ⟨rfl, fun j z u' hz hu => by match j, hz, hu with | 0, hz, hu => cases hz; cases hu; exact h1⟩
  | 1, hc, hu => cases hc; cases hu; exact ⟨rfl, fun j z u' hz hu => by match j, hz, hu with | 0, hz, hu => cases hz; cases hu; exact h2⟩⟩
theorem ok_callPt0 {d : Nat} {f : FuncId} {xs : List Operand} {ats : Array TypeId} {qs : List (Bool × List T)} {n : Nat} (ho : o.op = .call { callee := .value (.func f), args := xs.toArray, argTypes := ats }) (hb : ∃ fn c, P.funcs[f]? = some fn ∧ fn.body = some c ∧ fn.name ≠ "runtime.NumGoroutine")
    (hc : VPt P f qs n none) (hx : σ.argss xs qs) (hd : o.dst = some d) (hdN : d < N) : OpMk P E N none σ o (σ.put d ⟨true, [(false, [.sc (.pointer none)]), (false, [.sc (.bool false)])]⟩) :=
  fun a w G K Q h k => by
    obtain ⟨fn, c, h1, h2, h2'⟩ := hb
    have hcall := hc w (xs.map a.eval) (h.args hx)
    have hrun : (execOp a.eval o).run P w = .ok (.enter f (xs.map a.eval).toArray) w := by
      simp [execOp, ho, resolve, Act.eval, Deferred.ofValue, invoke, callFunc, h1, h2, h2', Result.andThen]
    unfold Oper.wp
    rw [hrun]
    refine hcall.mono fun e w' ⟨h7, h4, _⟩ => ?_
    obtain rfl := h4 rfl
    rw [hd]
    exact k _ _ G ((h.ext h7).put hdN (vtwo ⟨rfl, .inr rfl⟩ ⟨rfl, .inr rfl⟩)) ⟨h7.size, .of_below (h7.mono h.low), fun _ _ => rfl, fun _ _ => rfl, fun b hb => .inl (h7.block b hb), fun i e1 e2 => absurd e2 (Nat.not_lt.2 e1)⟩
theorem ok_callPt {d : Nat} {f : FuncId} {x0 : Operand} {xs : List Operand} {ats : Array TypeId} {qs : List (Bool × List T)} {n k i : Nat} {ls : List Leaf} {ty : TypeId} {es : List (List T)} (ho : o.op = .call { callee := .value (.func f), args := (x0 :: xs).toArray, argTypes := ats }) (hb : ∃ fn c, P.funcs[f]? = some fn ∧ fn.body = some c ∧ fn.name ≠ "runtime.NumGoroutine")
    (hc : VPt P f qs n (some k)) (hx : σ.argss (x0 :: xs) qs) (h0 : σ.ev x0 = V.flat true (.hd i :: ls)) (ht : σ.tr (.hd i) = some (.seq ty es)) (hl : k < es.length) (hd : o.dst = some d) (hdN : d < N) : OpMk P E N none σ o (σ.put d ⟨true, [(false, [.ep i k n 0]), (false, [.sc (.bool true)])]⟩) :=
  fun a w G K Q h kk => by
    obtain ⟨fn, c, h1, h2, h2'⟩ := hb
    have hcall := hc w ((x0 :: xs).map a.eval) (h.args hx)
    have hrun : (execOp a.eval o).run P w = .ok (.enter f ((x0 :: xs).map a.eval).toArray) w := by
      simp [execOp, ho, resolve, Act.eval, Deferred.ofValue, invoke, callFunc, h1, h2, h2', Result.andThen]
    have he := h.ev x0
    rw [h0, vflat] at he
    obtain ⟨us, e1, e2, e3⟩ := he
    obtain ⟨u0, hu0⟩ : ∃ u0, us[0]? = some u0 := ⟨us[0]'(by rw [e2]; simp), List.getElem?_eq_getElem _⟩
    obtain ⟨⟨hi1, hi2⟩, -⟩ := e3 0 _ u0 rfl hu0
    obtain ⟨⟨ver, s⟩, ho1, ho2⟩ := Option.map_eq_some_iff.1 ht
    obtain ⟨-, ho3, -⟩ := h.objs i ver s ho1
    have ho2' : s = .seq ty es := ho2
    subst ho2'
    cases ho3 with
    | seq n2 hp2 hz2 hn2 ys hown =>
      obtain ⟨a2, c2, h4, -, -, -, h7⟩ := own_slice hown
      obtain ⟨g, h8, -⟩ := h7 (by omega)
      rw [h8] at h4
      unfold Oper.wp
      rw [hrun]
      refine hcall.mono fun e w' ⟨h7, _, h5⟩ => ?_
      obtain rfl := h5 k rfl us g 0 es.length c2 (by show some (a.eval x0) = _; rw [e1]) (by rw [hu0, hi2, h4])
      rw [hd]
      exact kk _ _ G ((h.ext h7).put hdN (vtwo ⟨⟨hi1, g, es.length, c2, h4, by rw [Nat.zero_add, Nat.add_zero]⟩, .inr rfl⟩ ⟨rfl, .inr rfl⟩)) ⟨h7.size, .of_below (h7.mono h.low), fun _ _ => rfl, fun _ _ => rfl, fun b hb => .inl (h7.block b hb), fun i e1 e2 => absurd e2 (Nat.not_lt.2 e1)⟩
theorem ok_nilcheck {x : Operand} {i k n q : Nat} (ho : o.op = .nilCheck x) (hx : σ.ev x = V.one (.ep i k n q)) : OpL P E N nb σ o (V.one (.ep i k n q)) :=
  fun a w G h => ⟨a.eval x, fun v' _ => by
    have h0 := h.ev x
    rw [hx, vone] at h0
    obtain ⟨⟨-, g, M, c, -, h1⟩, -⟩ := h0
    simp [execOp, ho, h1], by rw [← hx]; exact h.ev x⟩
end Go.Proofs.YtlnjgoommpeioaaDoor.V
/- The program's findFile, by contract. -/
namespace Go.Proofs.YtlnjgoommpeioaaDoor
open Go.RowKit
set_option linter.unusedVariables false

/-- The answer of findFile: the address of the file that an operation reaches, and whether there is one. -/
def GivesFound (X : DiskD) (name : Int) (a : Option Addr) (w : World) (e : Ending) (w' : World) : Prop :=
  ((DiskD.file X name = none ∧ e = .returned (.tuple #[.pointer none, .bool false])) ∨ (∃ (k : Nat) (f : FileD) (b o : Nat), DiskD.file X name = some (k, f) ∧ X.fFiles[k]? = some f ∧ a = some ⟨b, o, none⟩ ∧ e = .returned (.tuple #[.pointer (some ⟨b, o + k * 4, none⟩), .bool true]))) ∧ Below w.heap.size w w'
set_option maxRecDepth 100000 in
set_option maxHeartbeats 1000000 in
theorem ifind (a : Option Addr) (n c : Nat) (X : DiskD) (name : Int) (w : World) (h : diskRep.inn w X ((a, n, c), ())) (hw : wtDisk X ≤ 1000000000) :
    Calls Tryd.prog 63 #[.agg #[.slice a n c, .int .i64 X.fNextName], .int .i64 name] w (GivesFound X name a w) := by
  obtain ⟨W, hW⟩ : ∃ W, W = w.alloc (.cells #[.slice a n c, .int .i64 X.fNextName] 26) := ⟨_, rfl⟩
  have hb : Below w.heap.size w W := by rw [hW]; exact (Below.refl _ _).alloc (Nat.le_refl _) _
  have k0 : W.heap[w.heap.size]? = some (.cells #[.slice a n c, .int .i64 X.fNextName] 26 (0, 0)) := by rw [hW]; exact heap_alloc_new _ _
  have HB := Lib.hid hb
  have HX := Lib.hid (h.keep hb)
  have HI := Lib.hid (disk_in (h.keep hb)).1
  have HL := Lib.hid (disk_len h).1
  have hnm := (disk_len h).2
  unfold maxLen at hnm
  have HW := Lib.hid hw
  have FF : Hid (∀ v, Kept W.heap.size W v → v.cell? ⟨w.heap.size, 0, none⟩ = some (.slice a n c) ∧ v.cell? ⟨w.heap.size, 1, none⟩ = some (.int .i64 X.fNextName)) := Lib.hid fun v hv =>
    ⟨hv.cell (lt_of_block k0) (box_cell k0 0 _ rfl), hv.cell (lt_of_block k0) (box_cell k0 1 _ rfl)⟩
  obtain ⟨p0, p1⟩ := FF.out W (Kept.refl (Nat.le_refl _))
  clear h hb k0 hw
  go_enter Tryd.func63, Tryd.ntmps63
  go_upto_region 1 with fail
  rw [← hW]
  clear hW
  go_wp2_with fail
  clear p0 p1
  refine (iokdisk a n c X W HX.out HW.out).mono ?_
  rintro e w1 ⟨rfl, b1⟩
  have K1 : Hid (Kept W.heap.size W w1) := Lib.hid ⟨b1, b1.size⟩
  obtain ⟨p0, p1⟩ := FF.out _ K1.out
  have KB1 := Lib.hid (HB.out.trans (b1.mono HB.out.size))
  clear b1
  cases hok : DiskD.okD X with
  | false =>
    have HN := Lib.hid (DiskD.file_bad (name := name) hok)
    clear hok
    go_wp2_with fail
    go_ret2
    exact ⟨.inl ⟨HN.out, rfl⟩, KB1.out⟩
  | true =>
    have HOK := Lib.hid hok
    clear hok
    go_wp2_with fail
    go_loopw [13] (fun i wr => ∃ (t : Nat), i = .int .i64 t ∧ t ≤ n ∧ Hid (∀ (s : Nat) (g : FileD), s < t → X.fFiles[s]? = some g → g.fName ≠ name) ∧ Hid (w1 = wr)) (fun i _ => n - (intOf i).toNat)
    case atStart => exact ⟨0, rfl, Nat.zero_le _, fun s g hs => absurd hs (Nat.not_lt_zero _), rfl⟩
    case round =>
      obtain ⟨t, rfl, ht, hno, hwr⟩ := hrel
      obtain rfl := hwr.out
      by_cases hlt : t < n
      · have htl : t < X.fFiles.length := by have := HL.out; omega
        obtain ⟨f, hf⟩ : ∃ f, X.fFiles[t]? = some f := ⟨X.fFiles[t], by simp [htl]⟩
        obtain ⟨b, o, hd, rfl, hbl, hce, hin⟩ := HI.out.el hf
        have HF := Lib.hid hf
        obtain ⟨x0, x1, x2, x3⟩ := f
        obtain ⟨⟨a1, n1, k1⟩, ⟨⟩⟩ := hd
        have c1 : w1.cell? ⟨b, o + t * 4, none⟩ = some (.int .i64 x0) := K1.out.cell hbl (hce 0 _ rfl)
        clear hf hce hin
        by_cases he : x0 = name
        · have HA := Lib.hid (DiskD.file_some HOK.out (DiskD.at_hit HF.out he hno.out) HF.out)
          go_wp2_with fail
          go_ret2
          exact ⟨.inr ⟨t, _, b, o, HA.out, HF.out, rfl, rfl⟩, KB1.out⟩
        · have hne : (x0 == name) = false := by simpa using he
          have HE := Lib.hid he
          clear he
          go_wp2_with fail
          go_roundw
          case rel =>
            refine ⟨t + 1, by go_num, by omega, fun s g hs hg => ?_, trivial⟩
            rcases Nat.lt_or_ge s t with h1 | h1
            · exact hno.out s g h1 hg
            · obtain rfl : s = t := by omega
              rw [HF.out] at hg
              cases hg
              exact HE.out
          case measure => simp [intOf]; omega
      · have HA := Lib.hid (DiskD.file_none (d := X) (name := name) (DiskD.at_miss fun s g hg => hno.out s g (by have := idx_lt hg; have := HL.out; omega) hg))
        go_wp2_with fail
        go_ret2
        exact ⟨.inl ⟨HA.out, rfl⟩, KB1.out⟩
end Go.Proofs.YtlnjgoommpeioaaDoor
/- The program's findFile: told by trees. -/
namespace Go.Proofs.YtlnjgoommpeioaaDoor
open Go Go.RowKit V
set_option linter.unusedVariables false
theorem vfind_i (X : DiskD) (name : Int) (hX : goodDisk X) (hw : wtDisk X ≤ 1000000000) : VPt Tryd.prog 63 [(true, tDisk X), (false, [.lit (.int .i64 name)])] 4 ((DiskD.file X name).map fun kf => kf.1) := fun w vs hv => by
  obtain ⟨k0, vs', rfl, h1, h2⟩ := hv.shape fitsDisk hX
  obtain ⟨vs', rfl, h3⟩ := h2.lit
  rw [h3.none]
  refine (ifind k0.1.1 k0.1.2.1 k0.1.2.2 X name w h1 hw).mono fun e w' ⟨hr, hb⟩ => ⟨hb, fun hn => ?_, fun k hk us b q N c e1 e2 => ?_⟩
  · rcases hr with ⟨hf, he⟩ | ⟨k, f, b, o, hf, hk, ha, he⟩
    · exact he
    · rw [hf] at hn; cases hn
  · rcases hr with ⟨hf, he⟩ | ⟨k', f, b', o, hf, hk', ha, he⟩
    · rw [hf] at hk; cases hk
    · rw [hf] at hk
      have hkk : k' = k := Option.some.inj hk
      subst hkk
      have e3 : cval true (diskRep.cells X k0) = cval true us := Option.some.inj e1
      have e4 : (diskRep.cells X k0).toArray = us.toArray := by injection e3
      have e5 : diskRep.cells X k0 = us := by simpa using e4
      rw [← e5] at e2
      have e6 : Value.slice k0.1.1 k0.1.2.1 k0.1.2.2 = .slice (some ⟨b, q, none⟩) N c := Option.some.inj e2
      injection e6 with e6 _ _
      rw [ha] at e6
      injection e6 with e6
      injection e6 with e7 e8
      subst e7 e8
      exact he
end Go.Proofs.YtlnjgoommpeioaaDoor
/- The program's copy of a disk: told by trees. -/
namespace Go.Proofs.YtlnjgoommpeioaaDoor
open Go Go.RowKit V
set_option linter.unusedVariables false
set_option maxRecDepth 100000 in
set_option maxHeartbeats 2000000 in
theorem vclonerows (p : List R) (hp : p.length ≤ 1000000000) : VC Tryd.prog 115 [(false, [.seq 55 (p.map tRow)])] false [(false, [.seq 55 (p.map tRow)])] := by
  refine VC.enter Tryd.func115 rfl Tryd.ntmps115 (Nat.le_of_ble_eq_true rfl) fun E hE => ?_
  refine SV.seq' ?_
  refine SV.region ?_
  refine SV.op (OpL.ok (nb := 0) (ok_move (v := V.one (.sc _)) (.inr rfl) rfl) rfl (Nat.le_of_ble_eq_true rfl)) rfl ?_
  refine SV.nil ?_
  refine SV.tn ?_
  refine SV.seq' ?_
  refine SV.seq' ?_
  refine SV.region ?_
  refine SV.op (OpL.ok (nb := 0) (ok_move (v := V.one (.ro _)) (.inl rfl) rfl) rfl (Nat.le_of_ble_eq_true rfl)) rfl ?_
  refine SV.isnil (d := 4) (x := .tmp 3) (y := .const ((Value.slice none 0 0))) rfl rfl rfl (Nat.le_of_ble_eq_true rfl) rfl (fun ρ ad n c w h1 h2 => by (cases ad <;> (go_simp; first | done | rfl | (simp [h1, h2]; done)))) (fun hg0 => ?_) ?_
  · skip   -- g0.T
    refine SV.nil ?_
    refine SV.tn ?_
    refine SV.cond rfl (fun hc0 => ?_) (fun hc0 => ?_)
    · skip   -- c0.T
      refine SV.seq' ?_
      refine SV.region ?_
      refine SV.op (OpL.ok (nb := 0) (ok_move (v := V.one (.sc _)) (.inr rfl) rfl) rfl (Nat.le_of_ble_eq_true rfl)) rfl ?_
      refine SV.nil ?_
      refine SV.tn ?_
      refine SV.ret ?_
      refine SV.tr ?_
      refine SV.nlsc (s := 2) (kk := 0) (n := 3) rfl rfl (by decide) sz_impl_Row (Nat.le_of_ble_eq_true rfl) ?_
      apply SV.done (hf := Tryd.results115) (ht := rfl) (he := .inr rfl)
      case hr => exact (ResAll.cons (ResOk.tmp (ag := false) (xs := [.hd 0]) rfl) ResAll.nil')
      case h2 => simp [two]
      refine ⟨rfl, ⟨?_, trivial⟩, trivial⟩ <;> (show some (T.seq _ _) = some (T.seq _ _); first | rfl | (rw [hg0]; done) | (simp; done))
    · skip   -- c0.F
      cases hc0
  · skip   -- g0.F
    refine SV.nil ?_
    refine SV.tn ?_
    refine SV.cond rfl (fun hc1 => ?_) (fun hc1 => ?_)
    · skip   -- c1.T
      cases hc1
    · skip   -- c1.F
      refine SV.skip ?_
      refine SV.tn ?_
      refine SV.seq' ?_
      refine SV.region ?_
      refine SV.op (OpMk.ok (ok_lit0 (kk := 0) elt_impl_Row rfl rfl rfl (Nat.le_of_ble_eq_true rfl))) rfl ?_
      refine SV.op (OpL.ok (nb := 0) (ok_move (v := V.one (.ro _)) (.inl rfl) rfl) rfl (Nat.le_of_ble_eq_true rfl)) rfl ?_
      refine SV.op (OpMk.ok (ok_append_ro (kk := 1) elt_impl_Row (ls := .hd 0) (lx := .ro _) rfl rfl rfl rfl rfl rfl (flat_impl_Row _) (by simp; omega) rfl (Nat.le_of_ble_eq_true rfl))) rfl ?_
      refine SV.op (OpL.ok (nb := 0) (ok_move (v := V.one (.hd 1)) (.inr rfl) rfl) rfl (Nat.le_of_ble_eq_true rfl)) rfl ?_
      refine SV.nil ?_
      refine SV.tn ?_
      refine SV.ret ?_
      apply SV.done (hf := Tryd.results115) (ht := rfl) (he := .inl rfl)
      case hr => exact (ResAll.cons (ResOk.tmp (ag := false) (xs := [.hd 1]) rfl) ResAll.nil')
      case h2 => simp [two]
      refine ⟨rfl, ⟨?_, trivial⟩, trivial⟩ <;> (show some (T.seq _ _) = some (T.seq _ _); first | rfl | (rw [hg0]; done) | (simp; done))
set_option maxRecDepth 100000 in
set_option maxHeartbeats 2000000 in
theorem vclonepage_i (p : List R) (hp : p.length ≤ 1000000000) : VC Tryd.prog 70 [(true, tPage p)] false [(true, tPage p)] := by
  refine VC.enter Tryd.func70 rfl Tryd.ntmps70 (Nat.le_of_ble_eq_true rfl) fun E hE => ?_
  refine SV.seq' ?_
  refine SV.region ?_
  refine SV.op (OpMk.ok (ok_box (kk := 0) (ag := true) (xs := [.ro _]) rfl rfl rfl (fun h => by cases h) rfl rfl (Nat.le_of_ble_eq_true rfl))) rfl ?_
  refine SV.op (OpMk.ok (ok_alloc (kk := 1) (xs := [.nl _]) rfl rfl zero_impl_Page ⟨rfl, ⟨3, by decide, sz_impl_Row⟩, trivial⟩ rfl (Nat.le_of_ble_eq_true rfl))) rfl ?_
  refine SV.nil ?_
  refine SV.tn ?_
  refine SV.seq' ?_
  refine SV.region ?_
  refine SV.op (OpL.ok (nb := 2) (ok_field_bp (b := 0) (o' := 0) (off := 0) rfl rfl fld_impl_Page_0) rfl (Nat.le_of_ble_eq_true rfl)) rfl ?_
  refine SV.op (OpL.ok (nb := 2) (ok_load_bp (b := 0) (i := 0) (ag := false) (m := 1) (ys := [.ro _]) rfl rfl rfl agg_s_impl_Row sz_s_impl_Row (fun _ => rfl) rfl rfl (Nat.le_of_ble_eq_true rfl)) rfl (Nat.le_of_ble_eq_true rfl)) rfl ?_
  refine SV.op (OpMk.ok (ok_call (ls := [(false, [.hd 0])]) rfl rfl ⟨_, _, Tryd.func115, rfl, by decide⟩ (vclonerows p hp) ⟨⟨[.ro _], rfl, ⟨rfl, trivial⟩⟩, trivial⟩ rfl (Nat.le_of_ble_eq_true rfl))) rfl ?_
  refine SV.op (OpL.ok (nb := 2) (ok_build (zs := [.nl _]) (ys := [.hd 0]) (qs := [(0, [.hd 0])]) (pl := fun i => ([(0, 1)] : List (Nat × Nat))[i]?) rfl zero_impl_Page ⟨rfl, ⟨3, by decide, sz_impl_Row⟩, trivial⟩ ⟨⟨rfl, false, rfl, (fun _ => rfl), rfl⟩, trivial⟩ bld_impl_Page rfl) rfl (Nat.le_of_ble_eq_true rfl)) rfl ?_
  refine SV.op (ok_store_bp (b := 1) (i := 0) (m := 1) (ag := true) (zs := [.hd 0]) (ys := [.hd 0]) rfl rfl rfl rfl sz_impl_Page (fun h => by cases h) rfl (Nat.le_of_ble_eq_true rfl) rfl rfl rfl) rfl ?_
  refine SV.nil ?_
  refine SV.tn ?_
  refine SV.ret ?_
  apply SV.done (hf := Tryd.results70) (ht := rfl) (he := .inl rfl)
  case hr => exact (ResAll.cons (ResOk.cell (b := 1) (ag := true) (xs := [.hd 0]) rfl rfl agg_impl_Page sz_impl_Page (fun h => by cases h)) ResAll.nil')
  case h2 => simp [two]
  refine ⟨rfl, ⟨?_, trivial⟩, trivial⟩ <;> rfl
set_option maxRecDepth 100000 in
set_option maxHeartbeats 2000000 in
theorem vclonefile_i (x : FileD) (hL : wtFile x ≤ 1000000000) : VC Tryd.prog 72 [(true, tFile x)] false [(true, tFile x)] := by
  refine VC.enter Tryd.func72 rfl Tryd.ntmps72 (Nat.le_of_ble_eq_true rfl) fun E hE => ?_
  have hFL : x.fPages.length ≤ 1000000000 := by have h4 := wt_page_len x.fPages; have h9 : wtFile x = wtPages x.fPages := rfl; omega
  refine SV.seq' ?_
  refine SV.region ?_
  refine SV.op (OpMk.ok (ok_box (kk := 0) (ag := true) (xs := [.sc _, .ro _, .sc _, .sc _]) rfl rfl rfl (fun h => by cases h) rfl rfl (Nat.le_of_ble_eq_true rfl))) rfl ?_
  refine SV.op (OpMk.ok (ok_alloc (kk := 1) (xs := [.sc _, .nl _, .sc _, .sc _]) rfl rfl zero_impl_File ⟨rfl, rfl, rfl, ⟨1, by decide, sz_impl_Page⟩, rfl, rfl, rfl, rfl, trivial⟩ rfl (Nat.le_of_ble_eq_true rfl))) rfl ?_
  refine SV.nil ?_
  refine SV.tn ?_
  refine SV.seq' ?_
  refine SV.region ?_
  refine SV.op (OpL.ok (nb := 2) (ok_load_bp (b := 0) (i := 0) (ag := true) (m := 4) (ys := [.sc _, .ro _, .sc _, .sc _]) rfl rfl rfl agg_impl_File sz_impl_File (fun h => by cases h) rfl rfl (Nat.le_of_ble_eq_true rfl)) rfl (Nat.le_of_ble_eq_true rfl)) rfl ?_
  refine SV.op (OpMk.ok (ok_alloc (kk := 2) (xs := [.sc _, .nl _, .sc _, .sc _]) rfl rfl zero_impl_File ⟨rfl, rfl, rfl, ⟨1, by decide, sz_impl_Page⟩, rfl, rfl, rfl, rfl, trivial⟩ rfl (Nat.le_of_ble_eq_true rfl))) rfl ?_
  refine SV.op (ok_store_bp (b := 2) (i := 0) (m := 4) (ag := true) (zs := [.sc _, .ro _, .sc _, .sc _]) (ys := [.sc _, .ro _, .sc _, .sc _]) rfl rfl rfl rfl sz_impl_File (fun h => by cases h) rfl (Nat.le_of_ble_eq_true rfl) rfl rfl rfl) rfl ?_
  refine SV.nil ?_
  refine SV.tn ?_
  refine SV.seq' ?_
  refine SV.region ?_
  refine SV.op (OpL.ok (nb := 3) (ok_field_bp (b := 2) (o' := 0) (off := 1) rfl rfl fld_impl_File_1) rfl (Nat.le_of_ble_eq_true rfl)) rfl ?_
  refine SV.op (ok_store_bp (b := 2) (i := 1) (m := 1) (ag := false) (zs := [.sc _]) (ys := [.sc _, .sc _, .sc _, .sc _]) rfl rfl rfl rfl sz_s_impl_Page (fun _ => rfl) rfl (Nat.le_of_ble_eq_true rfl) rfl rfl rfl) rfl ?_
  refine SV.nil ?_
  refine SV.tn ?_
  refine SV.seq' ?_
  refine SV.seq' ?_
  refine SV.region ?_
  refine SV.op (OpL.ok (nb := 3) (ok_field_bp (b := 0) (o' := 0) (off := 1) rfl rfl fld_impl_File_1) rfl (Nat.le_of_ble_eq_true rfl)) rfl ?_
  refine SV.op (OpL.ok (nb := 3) (ok_load_bp (b := 0) (i := 1) (ag := false) (m := 1) (ys := [.ro _]) rfl rfl rfl agg_s_impl_Page sz_s_impl_Page (fun _ => rfl) rfl rfl (Nat.le_of_ble_eq_true rfl)) rfl (Nat.le_of_ble_eq_true rfl)) rfl ?_
  refine SV.op (OpL.ok (nb := 3) (ok_len (lf := .ro _) rfl elt_impl_Page.und rfl rfl) rfl (Nat.le_of_ble_eq_true rfl)) rfl ?_
  refine SV.op (OpL.ok (nb := 3) (ok_move (v := V.one (.sc _)) (.inl rfl) rfl) rfl (Nat.le_of_ble_eq_true rfl)) rfl ?_
  refine SV.nil ?_
  refine SV.tn ?_
  refine SV.block ?_
  refine SV.nlscb (b := 2) (j := 1) (kk := 0) (n := 1) rfl rfl rfl (by decide) sz_impl_Page (ys := [.sc _, .hd 0, .sc _, .sc _]) rfl ?_
  refine SV.loopF (X := Nat) (fun (σ : VS) t => (((((((((VS.nil.new (.seq 41 ((x.fPages.take t).map tPage))).box 80 [σ.bl 0 0, σ.bl 0 1, σ.bl 0 2, σ.bl 0 3]).box 80 [σ.bl 1 0, σ.bl 1 1, σ.bl 1 2, σ.bl 1 3]).box 80 [σ.bl 2 0, .hd 0, σ.bl 2 2, σ.bl 2 3]).put 2 (V.flat false [.bp 1 0])).put 3 (V.flat false [.bp 2 0])).put 9 (σ.tm 9)).put 10 (σ.tm 10)).put 11 (V.flat false [.sc (.int .i64 ((t : Int)))]))) (fun t => t ≤ x.fPages.length) (fun t => x.fPages.length - t) ?_ ?_
  · skip
    refine SV.again (fun i => [0].getD i 0) 0 ((by first | exact Nat.zero_le _ | (refine ⟨Nat.zero_le _, ?_⟩; simp; done) | (simp; done) | omega)) (pins hE rfl rfl) (VS.le.mk' (le_put (le_put (le_put (le_put (le_put (le_box (le_box (le_box (le_new le_nil)))) (V.le.keep (ag := false) (xs := [.bp 1 0]) (ys := [.bp 1 0]) rfl rfl ⟨⟨rfl, (Nat.le_of_ble_eq_true rfl)⟩, trivial⟩)) (V.le.keep (ag := false) (xs := [.bp 2 0]) (ys := [.bp 2 0]) rfl rfl ⟨⟨rfl, (Nat.le_of_ble_eq_true rfl)⟩, trivial⟩)) (V.le.keep (ag := false) (xs := [.ro _]) (ys := [.ro _]) rfl rfl ⟨rfl, trivial⟩)) (V.le.keep (ag := false) (xs := [.sc _]) (ys := [.sc _]) rfl rfl ⟨rfl, trivial⟩)) (V.le.keep (ag := false) (xs := [.sc _]) (ys := [.sc _]) rfl rfl ⟨(by first | rfl | (show Leaf.sc _ = Leaf.sc _; refine congrArg Leaf.sc ?_; first | rfl | go_num | (simp [cntAll]; done)) | (simp [cntAll]; done) | (simp; omega)), trivial⟩)) ⟨⟨rfl, ⟨rfl, rfl, rfl, rfl, trivial⟩⟩, ⟨⟨rfl, ⟨rfl, rfl, rfl, rfl, trivial⟩⟩, ⟨⟨rfl, ⟨rfl, ⟨rfl, (Nat.le_of_ble_eq_true rfl), (Nat.le_of_ble_eq_true rfl)⟩, rfl, rfl, trivial⟩⟩, trivial⟩⟩⟩ ⟨.inr ⟨_, _, rfl, ?ob1_0, (Nat.le_of_ble_eq_true rfl)⟩, trivial⟩ (new_ob nil_ob) (fun i j hi hj e => inj_list (l := [0]) (by decide) i j hi hj e))
    case ob1_0 =>
      show some (T.seq _ _) = some (T.seq _ _)
      first | rfl | exact congrArg some (congrArg (T.seq _) (by simp))
  · rintro t ht
    refine SV.seq' ?_
    refine SV.region ?_
    refine SV.op (OpL.ok (nb := 3) (ok_s2 (x := .tmp 11) (x' := .tmp 10) (VScal.one rfl) (VScal.one rfl) (fun ρ h1 h2 w => by go_simp; (try go_bits); with_reducible rfl) rfl) rfl (Nat.le_of_ble_eq_true rfl)) rfl ?_
    refine SV.nil ?_
    refine SV.tn ?_
    refine SV.seq' ?_
    refine SV.cond rfl (fun hc0 => ?_) (fun hc0 => ?_)
    · skip   -- c0.T
      have htl : t < x.fPages.length := by simpa using hc0
      have hx : x.fPages[t]? = some x.fPages[t] := by simp [htl]
      have hPR : x.fPages[t].length ≤ 1000000000 := by have h0 := wtAll_at wtPage x.fPages t htl; have h9 : wtFile x = wtAll wtPage x.fPages := rfl; have h10 : wtPage x.fPages[t] = x.fPages[t].length := rfl; omega
      refine SV.skip ?_
      refine SV.tn ?_
      refine SV.seq' ?_
      refine SV.block ?_
      refine SV.seq' ?_
      refine SV.region ?_
      refine SV.op (OpL.ok (nb := 3) (ok_index (n := 1) (lf := .ro _) rfl elt_impl_Page.und sz_impl_Page rfl rfl rfl (map_at (by assumption))) rfl (Nat.le_of_ble_eq_true rfl)) rfl ?_
      refine SV.op (OpL.ok (nb := 3) (ok_load_rp (ag := true) (m := 1) (ys := [.ro _]) rfl rfl agg_impl_Page sz_impl_Page (fun h => by cases h) (Nat.le_of_ble_eq_true rfl) rfl) rfl (Nat.le_of_ble_eq_true rfl)) rfl ?_
      refine SV.op (OpMk.ok (ok_alloc (kk := 3) (xs := [.nl _]) rfl rfl zero_impl_Page ⟨rfl, ⟨3, by decide, sz_impl_Row⟩, trivial⟩ rfl (Nat.le_of_ble_eq_true rfl))) rfl ?_
      refine SV.op (ok_store_bp (b := 3) (i := 0) (m := 1) (ag := true) (zs := [.ro _]) (ys := [.ro _]) rfl rfl rfl rfl sz_impl_Page (fun h => by cases h) rfl (Nat.le_of_ble_eq_true rfl) rfl rfl rfl) rfl ?_
      refine SV.nil ?_
      refine SV.tn ?_
      refine SV.draw [.q 0, .q 1, .q 2, .m 3, .m 4, .m 5, .q 6] [7] (by kernel_rfl) (by kernel_rfl) ?_
      refine DW.q rfl (ok_field_bp (b := 2) (o' := 0) (off := 1) rfl rfl fld_impl_File_1) rfl rfl (Nat.le_of_ble_eq_true rfl) (fun _ _ _ _ h => h) ?_
      refine DW.q rfl (ok_load_bp (b := 2) (i := 1) (ag := false) (m := 1) (ys := [.hd 0]) rfl rfl rfl agg_s_impl_Page sz_s_impl_Page (fun _ => rfl) rfl rfl (Nat.le_of_ble_eq_true rfl)) rfl rfl (Nat.le_of_ble_eq_true rfl) (fun _ _ _ _ h => h) ?_
      refine DW.q rfl (ok_load_bp (b := 3) (i := 0) (ag := true) (m := 1) (ys := [.ro _]) rfl rfl rfl agg_impl_Page sz_impl_Page (fun h => by cases h) rfl rfl (Nat.le_of_ble_eq_true rfl)) rfl rfl (Nat.le_of_ble_eq_true rfl) (fun _ _ _ _ h => h) ?_
      refine DW.m [1] rfl (ok_call (ls := [(true, [.hd 1])]) rfl rfl ⟨_, _, Tryd.func70, rfl, by decide⟩ (vclonepage_i x.fPages[t] hPR) ⟨⟨[.ro _], rfl, ⟨rfl, trivial⟩⟩, trivial⟩ rfl (Nat.le_of_ble_eq_true rfl)) rfl (Nat.le_of_ble_eq_true rfl) (Nat.le_of_ble_eq_true rfl) (.inl rfl) (fun j hj => by
          simp only [List.mem_cons, List.not_mem_nil, or_false] at hj
          rcases hj with rfl
          · exact .inr ⟨(Nat.le_of_ble_eq_true rfl), (Nat.le_of_ble_eq_true rfl), .inl rfl⟩) ?_
      refine DW.m [2, 1] rfl (ok_lit1 (kk := 2) elt_impl_Page (ag := true) (xs := [.hd 1]) rfl rfl rfl rfl (fun h => by cases h) (outs_c rfl outs_n) (by simp [two]) rfl (Nat.le_of_ble_eq_true rfl)) rfl (Nat.le_of_ble_eq_true rfl) (Nat.le_of_ble_eq_true rfl) (.inl rfl) (fun j hj => by
          simp only [List.mem_cons, List.not_mem_nil, or_false] at hj
          rcases hj with rfl | rfl
          · exact .inr ⟨(Nat.le_of_ble_eq_true rfl), (Nat.le_of_ble_eq_true rfl), .inl rfl⟩
          · exact .inl (by decide)) ?_
      refine DW.m [2, 1] rfl (ok_append (kk := 3) elt_impl_Page (ls := .hd 0) (lx := .hd 2) rfl rfl rfl rfl rfl rfl (by intro i h1 h2; cases h1; cases h2) (by first | omega | (simp only [List.length_map]; omega) | (simp; done) | (simp; omega)) rfl (Nat.le_of_ble_eq_true rfl)) rfl (Nat.le_of_ble_eq_true rfl) (Nat.le_of_ble_eq_true rfl) (.inr ⟨0, rfl, .inr ⟨(Nat.le_of_ble_eq_true rfl), rfl⟩⟩) (fun j hj => by
          simp only [List.mem_cons, List.not_mem_nil, or_false] at hj
          rcases hj with rfl | rfl
          · exact .inl (by decide)
          · exact .inl (by decide)) ?_
      refine DW.q rfl (ok_field_bp (b := 2) (o' := 0) (off := 1) rfl rfl fld_impl_File_1) rfl rfl (Nat.le_of_ble_eq_true rfl) (fun _ _ _ _ h => h) ?_
      refine DW.stores ?_
      refine SV.z rfl (ok_store_bp (b := 2) (i := 1) (m := 1) (ag := false) (zs := [.hd 3]) (ys := [.sc _, .hd 3, .sc _, .sc _]) rfl rfl rfl rfl sz_s_impl_Page (fun _ => rfl) rfl (Nat.le_of_ble_eq_true rfl) rfl rfl rfl) rfl ?_
      refine SV.zend ?_
      refine SV.bn ?_
      refine SV.tn ?_
      refine SV.region ?_
      refine SV.op (OpL.ok (nb := 4) (ok_s2 (x := .tmp 11) (x' := .const ((Value.int IntKind.i64 1))) (VScal.one rfl) (VScal.one rfl) (fun ρ h1 h2 w => by go_simp; (try go_bits); with_reducible rfl) rfl) rfl (Nat.le_of_ble_eq_true rfl)) rfl ?_
      refine SV.op (OpL.ok (nb := 4) (ok_move (v := V.one (.sc _)) (.inl rfl) rfl) rfl (Nat.le_of_ble_eq_true rfl)) rfl ?_
      refine SV.nil ?_
      refine SV.tn ?_
      refine SV.again (fun i => [3].getD i 0) (t + 1) (⟨by omega, by omega⟩) (pins hE rfl rfl) (VS.le.mk' (le_put (le_put (le_put (le_put (le_put (le_box (le_box (le_box (le_new le_nil)))) (V.le.keep (ag := false) (xs := [.bp 1 0]) (ys := [.bp 1 0]) rfl rfl ⟨⟨rfl, (Nat.le_of_ble_eq_true rfl)⟩, trivial⟩)) (V.le.keep (ag := false) (xs := [.bp 2 0]) (ys := [.bp 2 0]) rfl rfl ⟨⟨rfl, (Nat.le_of_ble_eq_true rfl)⟩, trivial⟩)) (V.le.keep (ag := false) (xs := [.ro _]) (ys := [.ro _]) rfl rfl ⟨rfl, trivial⟩)) (V.le.keep (ag := false) (xs := [.sc _]) (ys := [.sc _]) rfl rfl ⟨rfl, trivial⟩)) (V.le.keep (ag := false) (xs := [.sc _]) (ys := [.sc _]) rfl rfl ⟨(by first | rfl | (show Leaf.sc _ = Leaf.sc _; refine congrArg Leaf.sc ?_; first | rfl | go_num | (simp [cntAll]; done)) | (simp [cntAll]; done) | (simp; omega)), trivial⟩)) ⟨⟨rfl, ⟨rfl, rfl, rfl, rfl, trivial⟩⟩, ⟨⟨rfl, ⟨rfl, rfl, rfl, rfl, trivial⟩⟩, ⟨⟨rfl, ⟨rfl, ⟨rfl, (Nat.le_of_ble_eq_true rfl), (Nat.le_of_ble_eq_true rfl)⟩, rfl, rfl, trivial⟩⟩, trivial⟩⟩⟩ ⟨.inr ⟨_, _, rfl, ?ob2_0, (Nat.le_of_ble_eq_true rfl)⟩, trivial⟩ (new_ob nil_ob) (fun i j hi hj e => inj_list (l := [3]) (by decide) i j hi hj e))
      case ob2_0 =>
        show some (T.seq _ _) = some (T.seq _ _)
        rw [List.take_succ_eq_append_getElem htl, List.map_append]
        first | rfl | (simp [tPage]; done)
    · skip   -- c0.F
      have hte : x.fPages.take t = x.fPages := by have : ¬ t < x.fPages.length := (by simpa using hc0); exact List.take_of_length_le (by omega)
      refine SV.exit ?_
      refine SV.te ?_
      refine SV.te ?_
      refine SV.bh ?_
      refine SV.tn ?_
      refine SV.seq' ?_
      refine SV.region ?_
      refine SV.op (OpL.ok (nb := 3) (ok_load_bp (b := 2) (i := 0) (ag := true) (m := 4) (ys := [.sc _, .hd 0, .sc _, .sc _]) rfl rfl rfl agg_impl_File sz_impl_File (fun h => by cases h) rfl rfl (Nat.le_of_ble_eq_true rfl)) rfl (Nat.le_of_ble_eq_true rfl)) rfl ?_
      refine SV.op (ok_store_bp (b := 1) (i := 0) (m := 4) (ag := true) (zs := [.sc _, .hd 0, .sc _, .sc _]) (ys := [.sc _, .hd 0, .sc _, .sc _]) rfl rfl rfl rfl sz_impl_File (fun h => by cases h) rfl (Nat.le_of_ble_eq_true rfl) rfl rfl rfl) rfl ?_
      refine SV.nil ?_
      refine SV.tn ?_
      refine SV.ret ?_
      apply SV.done (hf := Tryd.results72) (ht := rfl) (he := .inl rfl)
      case hr => exact (ResAll.cons (ResOk.cell (b := 1) (ag := true) (xs := [.sc _, .hd 0, .sc _, .sc _]) rfl rfl agg_impl_File sz_impl_File (fun h => by cases h)) ResAll.nil')
      case h2 => simp [two]
      refine ⟨rfl, ⟨?_, ?_, ?_, ?_, trivial⟩, trivial⟩ <;> first | (show some (T.seq _ _) = some (T.seq _ _); rw [hte]; done) | rfl
set_option maxRecDepth 100000 in
set_option maxHeartbeats 2000000 in
theorem vclonedisk_i (X : DiskD) (hL : wtDisk X ≤ 1000000000) : VC Tryd.prog 55 [(true, tDisk X)] false [(true, tDisk X)] := by
  refine VC.enter Tryd.func55 rfl Tryd.ntmps55 (Nat.le_of_ble_eq_true rfl) fun E hE => ?_
  have hFL : X.fFiles.length ≤ 1000000000 := by have h4 := wt_file_len X.fFiles; have h8 : wtDisk X = wtFiles X.fFiles := rfl; omega
  refine SV.seq' ?_
  refine SV.region ?_
  refine SV.op (OpMk.ok (ok_box (kk := 0) (ag := true) (xs := [.ro _, .sc _]) rfl rfl rfl (fun h => by cases h) rfl rfl (Nat.le_of_ble_eq_true rfl))) rfl ?_
  refine SV.op (OpMk.ok (ok_alloc (kk := 1) (xs := [.nl _, .sc _]) rfl rfl zero_impl_Disk ⟨rfl, ⟨4, by decide, sz_impl_File⟩, rfl, rfl, trivial⟩ rfl (Nat.le_of_ble_eq_true rfl))) rfl ?_
  refine SV.nil ?_
  refine SV.tn ?_
  refine SV.seq' ?_
  refine SV.region ?_
  refine SV.op (OpL.ok (nb := 2) (ok_field_bp (b := 0) (o' := 0) (off := 1) rfl rfl fld_impl_Disk_1) rfl (Nat.le_of_ble_eq_true rfl)) rfl ?_
  refine SV.op (OpL.ok (nb := 2) (ok_load_bp (b := 0) (i := 1) (ag := false) (m := 1) (ys := [.sc _]) rfl rfl rfl agg_int sz_int (fun _ => rfl) rfl rfl (Nat.le_of_ble_eq_true rfl)) rfl (Nat.le_of_ble_eq_true rfl)) rfl ?_
  refine SV.op (OpL.ok (nb := 2) (ok_build (zs := [.nl _, .sc _]) (ys := [.nl _, .sc _]) (qs := [(1, [.sc _])]) (pl := fun i => ([(0, 1), (1, 1)] : List (Nat × Nat))[i]?) rfl zero_impl_Disk ⟨rfl, ⟨4, by decide, sz_impl_File⟩, rfl, rfl, trivial⟩ ⟨⟨rfl, false, rfl, (fun _ => rfl), rfl⟩, trivial⟩ bld_impl_Disk rfl) rfl (Nat.le_of_ble_eq_true rfl)) rfl ?_
  refine SV.op (OpMk.ok (ok_alloc (kk := 2) (xs := [.nl _, .sc _]) rfl rfl zero_impl_Disk ⟨rfl, ⟨4, by decide, sz_impl_File⟩, rfl, rfl, trivial⟩ rfl (Nat.le_of_ble_eq_true rfl))) rfl ?_
  refine SV.op (ok_store_bp (b := 2) (i := 0) (m := 2) (ag := true) (zs := [.nl _, .sc _]) (ys := [.nl _, .sc _]) rfl rfl rfl rfl sz_impl_Disk (fun h => by cases h) rfl (Nat.le_of_ble_eq_true rfl) rfl rfl rfl) rfl ?_
  refine SV.nil ?_
  refine SV.tn ?_
  refine SV.seq' ?_
  refine SV.seq' ?_
  refine SV.region ?_
  refine SV.op (OpL.ok (nb := 3) (ok_field_bp (b := 0) (o' := 0) (off := 0) rfl rfl fld_impl_Disk_0) rfl (Nat.le_of_ble_eq_true rfl)) rfl ?_
  refine SV.op (OpL.ok (nb := 3) (ok_load_bp (b := 0) (i := 0) (ag := false) (m := 1) (ys := [.ro _]) rfl rfl rfl agg_s_impl_File sz_s_impl_File (fun _ => rfl) rfl rfl (Nat.le_of_ble_eq_true rfl)) rfl (Nat.le_of_ble_eq_true rfl)) rfl ?_
  refine SV.op (OpL.ok (nb := 3) (ok_len (lf := .ro _) rfl elt_impl_File.und rfl rfl) rfl (Nat.le_of_ble_eq_true rfl)) rfl ?_
  refine SV.op (OpL.ok (nb := 3) (ok_move (v := V.one (.sc _)) (.inl rfl) rfl) rfl (Nat.le_of_ble_eq_true rfl)) rfl ?_
  refine SV.nil ?_
  refine SV.tn ?_
  refine SV.block ?_
  refine SV.nlbox (b := 2) (j := 0) (kk := 0) rfl rfl rfl (ys := [.hd 0, .sc _]) rfl ?_
  refine SV.loopF (X := Nat) (fun (σ : VS) t => (((((((((VS.nil.new (.seq 80 ((X.fFiles.take t).map tFile))).box 26 [σ.bl 0 0, σ.bl 0 1]).box 26 [σ.bl 1 0, σ.bl 1 1]).box 26 [.hd 0, σ.bl 2 1]).put 2 (V.flat false [.bp 1 0])).put 3 (V.flat false [.bp 2 0])).put 10 (σ.tm 10)).put 11 (σ.tm 11)).put 12 (V.flat false [.sc (.int .i64 ((t : Int)))]))) (fun t => t ≤ X.fFiles.length) (fun t => X.fFiles.length - t) ?_ ?_
  · skip
    refine SV.again (fun i => [0].getD i 0) 0 ((by first | exact Nat.zero_le _ | (refine ⟨Nat.zero_le _, ?_⟩; simp; done) | (simp; done) | omega)) (pins hE rfl rfl) (VS.le.mk' (le_put (le_put (le_put (le_put (le_put (le_box (le_box (le_box (le_new le_nil)))) (V.le.keep (ag := false) (xs := [.bp 1 0]) (ys := [.bp 1 0]) rfl rfl ⟨⟨rfl, (Nat.le_of_ble_eq_true rfl)⟩, trivial⟩)) (V.le.keep (ag := false) (xs := [.bp 2 0]) (ys := [.bp 2 0]) rfl rfl ⟨⟨rfl, (Nat.le_of_ble_eq_true rfl)⟩, trivial⟩)) (V.le.keep (ag := false) (xs := [.ro _]) (ys := [.ro _]) rfl rfl ⟨rfl, trivial⟩)) (V.le.keep (ag := false) (xs := [.sc _]) (ys := [.sc _]) rfl rfl ⟨rfl, trivial⟩)) (V.le.keep (ag := false) (xs := [.sc _]) (ys := [.sc _]) rfl rfl ⟨(by first | rfl | (show Leaf.sc _ = Leaf.sc _; refine congrArg Leaf.sc ?_; first | rfl | go_num | (simp [cntAll]; done)) | (simp [cntAll]; done) | (simp; omega)), trivial⟩)) ⟨⟨rfl, ⟨rfl, rfl, trivial⟩⟩, ⟨⟨rfl, ⟨rfl, rfl, trivial⟩⟩, ⟨⟨rfl, ⟨⟨rfl, (Nat.le_of_ble_eq_true rfl), (Nat.le_of_ble_eq_true rfl)⟩, rfl, trivial⟩⟩, trivial⟩⟩⟩ ⟨.inr ⟨_, _, rfl, ?ob1_0, (Nat.le_of_ble_eq_true rfl)⟩, trivial⟩ (new_ob nil_ob) (fun i j hi hj e => inj_list (l := [0]) (by decide) i j hi hj e))
    case ob1_0 =>
      show some (T.seq _ _) = some (T.seq _ _)
      first | rfl | exact congrArg some (congrArg (T.seq _) (by simp))
  · rintro t ht
    refine SV.seq' ?_
    refine SV.region ?_
    refine SV.op (OpL.ok (nb := 3) (ok_s2 (x := .tmp 12) (x' := .tmp 11) (VScal.one rfl) (VScal.one rfl) (fun ρ h1 h2 w => by go_simp; (try go_bits); with_reducible rfl) rfl) rfl (Nat.le_of_ble_eq_true rfl)) rfl ?_
    refine SV.nil ?_
    refine SV.tn ?_
    refine SV.seq' ?_
    refine SV.cond rfl (fun hc0 => ?_) (fun hc0 => ?_)
    · skip   -- c0.T
      have htl : t < X.fFiles.length := by simpa using hc0
      have hx : X.fFiles[t]? = some X.fFiles[t] := by simp [htl]
      have hFR : wtFile X.fFiles[t] ≤ 1000000000 := by have h1 := wt_file_at X.fFiles t htl; have h8 : wtDisk X = wtFiles X.fFiles := rfl; omega
      refine SV.skip ?_
      refine SV.tn ?_
      refine SV.seq' ?_
      refine SV.block ?_
      refine SV.seq' ?_
      refine SV.region ?_
      refine SV.op (OpL.ok (nb := 3) (ok_index (n := 4) (lf := .ro _) rfl elt_impl_File.und sz_impl_File rfl rfl rfl (map_at (by assumption))) rfl (Nat.le_of_ble_eq_true rfl)) rfl ?_
      refine SV.op (OpL.ok (nb := 3) (ok_load_rp (ag := true) (m := 4) (ys := [.sc _, .ro _, .sc _, .sc _]) rfl rfl agg_impl_File sz_impl_File (fun h => by cases h) (Nat.le_of_ble_eq_true rfl) rfl) rfl (Nat.le_of_ble_eq_true rfl)) rfl ?_
      refine SV.op (OpMk.ok (ok_alloc (kk := 3) (xs := [.sc _, .nl _, .sc _, .sc _]) rfl rfl zero_impl_File ⟨rfl, rfl, rfl, ⟨1, by decide, sz_impl_Page⟩, rfl, rfl, rfl, rfl, trivial⟩ rfl (Nat.le_of_ble_eq_true rfl))) rfl ?_
      refine SV.op (ok_store_bp (b := 3) (i := 0) (m := 4) (ag := true) (zs := [.sc _, .ro _, .sc _, .sc _]) (ys := [.sc _, .ro _, .sc _, .sc _]) rfl rfl rfl rfl sz_impl_File (fun h => by cases h) rfl (Nat.le_of_ble_eq_true rfl) rfl rfl rfl) rfl ?_
      refine SV.nil ?_
      refine SV.tn ?_
      refine SV.draw [.q 0, .q 1, .q 2, .m 3, .m 4, .m 5, .q 6] [7] (by kernel_rfl) (by kernel_rfl) ?_
      refine DW.q rfl (ok_field_bp (b := 2) (o' := 0) (off := 0) rfl rfl fld_impl_Disk_0) rfl rfl (Nat.le_of_ble_eq_true rfl) (fun _ _ _ _ h => h) ?_
      refine DW.q rfl (ok_load_bp (b := 2) (i := 0) (ag := false) (m := 1) (ys := [.hd 0]) rfl rfl rfl agg_s_impl_File sz_s_impl_File (fun _ => rfl) rfl rfl (Nat.le_of_ble_eq_true rfl)) rfl rfl (Nat.le_of_ble_eq_true rfl) (fun _ _ _ _ h => h) ?_
      refine DW.q rfl (ok_load_bp (b := 3) (i := 0) (ag := true) (m := 4) (ys := [.sc _, .ro _, .sc _, .sc _]) rfl rfl rfl agg_impl_File sz_impl_File (fun h => by cases h) rfl rfl (Nat.le_of_ble_eq_true rfl)) rfl rfl (Nat.le_of_ble_eq_true rfl) (fun _ _ _ _ h => h) ?_
      refine DW.m [1] rfl (ok_call (ls := [(true, [.sc _, .hd 1, .sc _, .sc _])]) rfl rfl ⟨_, _, Tryd.func72, rfl, by decide⟩ (vclonefile_i X.fFiles[t] hFR) ⟨⟨[.sc _, .ro _, .sc _, .sc _], rfl, ⟨rfl, rfl, rfl, rfl, trivial⟩⟩, trivial⟩ rfl (Nat.le_of_ble_eq_true rfl)) rfl (Nat.le_of_ble_eq_true rfl) (Nat.le_of_ble_eq_true rfl) (.inl rfl) (fun j hj => by
          simp only [List.mem_cons, List.not_mem_nil, or_false] at hj
          rcases hj with rfl
          · exact .inr ⟨(Nat.le_of_ble_eq_true rfl), (Nat.le_of_ble_eq_true rfl), .inl rfl⟩) ?_
      refine DW.m [2, 1] rfl (ok_lit1 (kk := 2) elt_impl_File (ag := true) (xs := [.sc _, .hd 1, .sc _, .sc _]) rfl rfl rfl rfl (fun h => by cases h) (outs_c rfl (outs_c rfl (outs_c rfl (outs_c rfl outs_n)))) (by simp [two]) rfl (Nat.le_of_ble_eq_true rfl)) rfl (Nat.le_of_ble_eq_true rfl) (Nat.le_of_ble_eq_true rfl) (.inl rfl) (fun j hj => by
          simp only [List.mem_cons, List.not_mem_nil, or_false] at hj
          rcases hj with rfl | rfl
          · exact .inr ⟨(Nat.le_of_ble_eq_true rfl), (Nat.le_of_ble_eq_true rfl), .inl rfl⟩
          · exact .inl (by decide)) ?_
      refine DW.m [2, 1] rfl (ok_append (kk := 3) elt_impl_File (ls := .hd 0) (lx := .hd 2) rfl rfl rfl rfl rfl rfl (by intro i h1 h2; cases h1; cases h2) (by first | omega | (simp only [List.length_map]; omega) | (simp; done) | (simp; omega)) rfl (Nat.le_of_ble_eq_true rfl)) rfl (Nat.le_of_ble_eq_true rfl) (Nat.le_of_ble_eq_true rfl) (.inr ⟨0, rfl, .inr ⟨(Nat.le_of_ble_eq_true rfl), rfl⟩⟩) (fun j hj => by
          simp only [List.mem_cons, List.not_mem_nil, or_false] at hj
          rcases hj with rfl | rfl
          · exact .inl (by decide)
          · exact .inl (by decide)) ?_
      refine DW.q rfl (ok_field_bp (b := 2) (o' := 0) (off := 0) rfl rfl fld_impl_Disk_0) rfl rfl (Nat.le_of_ble_eq_true rfl) (fun _ _ _ _ h => h) ?_
      refine DW.stores ?_
      refine SV.z rfl (ok_store_bp (b := 2) (i := 0) (m := 1) (ag := false) (zs := [.hd 3]) (ys := [.hd 3, .sc _]) rfl rfl rfl rfl sz_s_impl_File (fun _ => rfl) rfl (Nat.le_of_ble_eq_true rfl) rfl rfl rfl) rfl ?_
      refine SV.zend ?_
      refine SV.bn ?_
      refine SV.tn ?_
      refine SV.region ?_
      refine SV.op (OpL.ok (nb := 4) (ok_s2 (x := .tmp 12) (x' := .const ((Value.int IntKind.i64 1))) (VScal.one rfl) (VScal.one rfl) (fun ρ h1 h2 w => by go_simp; (try go_bits); with_reducible rfl) rfl) rfl (Nat.le_of_ble_eq_true rfl)) rfl ?_
      refine SV.op (OpL.ok (nb := 4) (ok_move (v := V.one (.sc _)) (.inl rfl) rfl) rfl (Nat.le_of_ble_eq_true rfl)) rfl ?_
      refine SV.nil ?_
      refine SV.tn ?_
      refine SV.again (fun i => [3].getD i 0) (t + 1) (⟨by omega, by omega⟩) (pins hE rfl rfl) (VS.le.mk' (le_put (le_put (le_put (le_put (le_put (le_box (le_box (le_box (le_new le_nil)))) (V.le.keep (ag := false) (xs := [.bp 1 0]) (ys := [.bp 1 0]) rfl rfl ⟨⟨rfl, (Nat.le_of_ble_eq_true rfl)⟩, trivial⟩)) (V.le.keep (ag := false) (xs := [.bp 2 0]) (ys := [.bp 2 0]) rfl rfl ⟨⟨rfl, (Nat.le_of_ble_eq_true rfl)⟩, trivial⟩)) (V.le.keep (ag := false) (xs := [.ro _]) (ys := [.ro _]) rfl rfl ⟨rfl, trivial⟩)) (V.le.keep (ag := false) (xs := [.sc _]) (ys := [.sc _]) rfl rfl ⟨rfl, trivial⟩)) (V.le.keep (ag := false) (xs := [.sc _]) (ys := [.sc _]) rfl rfl ⟨(by first | rfl | (show Leaf.sc _ = Leaf.sc _; refine congrArg Leaf.sc ?_; first | rfl | go_num | (simp [cntAll]; done)) | (simp [cntAll]; done) | (simp; omega)), trivial⟩)) ⟨⟨rfl, ⟨rfl, rfl, trivial⟩⟩, ⟨⟨rfl, ⟨rfl, rfl, trivial⟩⟩, ⟨⟨rfl, ⟨⟨rfl, (Nat.le_of_ble_eq_true rfl), (Nat.le_of_ble_eq_true rfl)⟩, rfl, trivial⟩⟩, trivial⟩⟩⟩ ⟨.inr ⟨_, _, rfl, ?ob2_0, (Nat.le_of_ble_eq_true rfl)⟩, trivial⟩ (new_ob nil_ob) (fun i j hi hj e => inj_list (l := [3]) (by decide) i j hi hj e))
      case ob2_0 =>
        show some (T.seq _ _) = some (T.seq _ _)
        rw [List.take_succ_eq_append_getElem htl, List.map_append]
        first | rfl | (simp [tFile]; done)
    · skip   -- c0.F
      have hte : X.fFiles.take t = X.fFiles := by have : ¬ t < X.fFiles.length := (by simpa using hc0); exact List.take_of_length_le (by omega)
      refine SV.exit ?_
      refine SV.te ?_
      refine SV.te ?_
      refine SV.bh ?_
      refine SV.tn ?_
      refine SV.seq' ?_
      refine SV.region ?_
      refine SV.op (OpL.ok (nb := 3) (ok_load_bp (b := 2) (i := 0) (ag := true) (m := 2) (ys := [.hd 0, .sc _]) rfl rfl rfl agg_impl_Disk sz_impl_Disk (fun h => by cases h) rfl rfl (Nat.le_of_ble_eq_true rfl)) rfl (Nat.le_of_ble_eq_true rfl)) rfl ?_
      refine SV.op (ok_store_bp (b := 1) (i := 0) (m := 2) (ag := true) (zs := [.hd 0, .sc _]) (ys := [.hd 0, .sc _]) rfl rfl rfl rfl sz_impl_Disk (fun h => by cases h) rfl (Nat.le_of_ble_eq_true rfl) rfl rfl rfl) rfl ?_
      refine SV.nil ?_
      refine SV.tn ?_
      refine SV.ret ?_
      apply SV.done (hf := Tryd.results55) (ht := rfl) (he := .inl rfl)
      case hr => exact (ResAll.cons (ResOk.cell (b := 1) (ag := true) (xs := [.hd 0, .sc _]) rfl rfl agg_impl_Disk sz_impl_Disk (fun h => by cases h)) ResAll.nil')
      case h2 => simp [two]
      refine ⟨rfl, ⟨?_, ?_, trivial⟩, trivial⟩ <;> first | (show some (T.seq _ _) = some (T.seq _ _); rw [hte]; done) | rfl
end Go.Proofs.YtlnjgoommpeioaaDoor
/- The program's FormatRow, by contract. -/
namespace Go.Proofs.YtlnjgoommpeioaaDoor
open Go.RowKit Go.Lib

/-- The row lies in its box, and the table of powers of ten as the library lays it. -/
def BoxedT (w : World) (r : R) (v : World) : Prop := Boxed w r v ∧ Tab v
theorem BoxedT.facts {w v : World} {r : R} (h : BoxedT w r v) : v.cell? ⟨w.heap.size, 0, none⟩ = some (.int .i64 r.key) ∧ v.cell? ⟨w.heap.size, 1, none⟩ = some (.int .i64 r.value) ∧ v.cell? ⟨w.heap.size, 2, none⟩ = some (.int .i64 r.width) ∧ Hid (BoxedT w r v) := ⟨h.1.c0, h.1.c1, h.1.c2, h⟩
theorem boxed_tab {w w' : World} {r : R} {t : TypeId} (hb : Below (w.alloc (.cells #[.int .i64 r.key, .int .i64 r.value, .int .i64 r.width] t)).heap.size (w.alloc (.cells #[.int .i64 r.key, .int .i64 r.value, .int .i64 r.width] t)) w') (ht : Tab w) : BoxedT w r w'.drew :=
  ⟨(boxed_start hb).drew, ht.stay (boxed_start hb).drew.old⟩
theorem ifmt_keep (w : World) (r : R) (n : Int) (v : World) (h0 : -9223372036854775808 ≤ n) (h1 : n ≤ 9223372036854775807) (hv : Hid (BoxedT w r v)) :
    Calls Tryd.prog 141 #[.int .i64 n] v fun e v' => e = .returned (.string ⟨(itoa n).toArray⟩) ∧ Hid (BoxedT w r v') :=
  (ifmt n v h0 h1 hv.out.2).mono fun _ _ ⟨he, hb⟩ => ⟨he, hv.out.1.next hb, hv.out.2.stay hb⟩
set_option maxRecDepth 100000 in
theorem ifrow (r : R) (w : World) (ht : Tab w) : Calls Tryd.prog 121 #[r.val] w fun e w' => e = .returned (.string ⟨r.fmt.toArray⟩) ∧ Below w.heap.size w w' := by
  have HV := Lib.hid (ivalid r)
  have HT := Lib.hid ht
  clear ht
  cases hok : r.ok with
  | false =>
    have hf : r.fmt = [] := by unfold R.fmt; rw [hok]; rfl
    have HF := Lib.hid hf
    rw [hok] at HV
    clear hf hok
    unfold R.val at HV ⊢
    go_enter Tryd.func121, Tryd.ntmps121
    go_wp2_with fail
    refine (HV.out _).mono ?_
    rintro e w1 ⟨rfl, b1⟩
    have HB := Lib.hid (boxed_start b1)
    clear b1
    go_wp2_with fail
    go_ret
    exact ⟨by rw [HF.out]; rfl, HB.out.old⟩
  | true =>
    have hf : r.fmt = itoa r.key ++ 46 :: (itoa r.value ++ 46 :: itoa r.width) := by unfold R.fmt; rw [hok]; rfl
    have HF := Lib.hid hf
    have hk := R.ok_iff.1 hok
    have l0 := dd_small r.key (by omega) (by omega)
    have l1 := dd_small r.value (by omega) (by omega)
    have l2 := dd_small r.width (by omega) (by omega)
    have F0 := Lib.hid fun v hv => ifmt_keep w r r.key v (by omega) (by omega) hv
    have F1 := Lib.hid fun v hv => ifmt_keep w r r.value v (by omega) (by omega) hv
    have F2 := Lib.hid fun v hv => ifmt_keep w r r.width v (by omega) (by omega) hv
    rw [hok] at HV
    clear hf hok hk
    obtain ⟨a, ha⟩ : ∃ a, a = itoa r.key := ⟨_, rfl⟩
    obtain ⟨b, hb⟩ : ∃ a, a = itoa r.value := ⟨_, rfl⟩
    obtain ⟨c, hc⟩ : ∃ a, a = itoa r.width := ⟨_, rfl⟩
    rw [← ha] at F0 HF l0
    rw [← hb] at F1 HF l1
    rw [← hc] at F2 HF l2
    clear ha hb hc
    have n0 : ¬ 9223372036854775807 < a.length + 1 := by omega
    have n1 : ¬ 9223372036854775807 < a.length + 1 + b.length := by omega
    have n2 : ¬ 9223372036854775807 < a.length + 1 + b.length + 1 := by omega
    have n3 : ¬ 9223372036854775807 < a.length + 1 + b.length + 1 + c.length := by omega
    unfold R.val at HV ⊢
    go_enter Tryd.func121, Tryd.ntmps121
    go_wp2_with fail
    refine (HV.out _).mono ?_
    rintro e w1 ⟨rfl, b1⟩
    have HB := Lib.hid (boxed_tab b1 HT.out)
    have hb := boxed_start b1
    obtain ⟨c0, c1, c2, _, _⟩ := hb
    clear b1
    go_wp2_with fail
    go_region_held3 (fun v => v.cell? ⟨w.heap.size, 0, none⟩ = some (.int .i64 r.key) ∧ v.cell? ⟨w.heap.size, 1, none⟩ = some (.int .i64 r.value) ∧ v.cell? ⟨w.heap.size, 2, none⟩ = some (.int .i64 r.width) ∧ Hid (BoxedT w r v)) (first | assumption | exact HB.out.facts | exact BoxedT.facts (Hid.out (by assumption))) (first | (go_at_call_of 141 r.key; refine (F0.out _ (And.right (And.right (And.right (by first | assumption | exact HB.out.facts))))).mono ?_; rintro e w' ⟨rfl, b2⟩) | (go_at_call_of 141 r.value; refine (F1.out _ (And.right (And.right (And.right (by first | assumption | exact HB.out.facts))))).mono ?_; rintro e w' ⟨rfl, b2⟩) | (go_at_call_of 141 r.width; refine (F2.out _ (And.right (And.right (And.right (by first | assumption | exact HB.out.facts))))).mono ?_; rintro e w' ⟨rfl, b2⟩))
    have hold := (Hid.out (And.right (And.right (And.right (by assumption : _ ∧ _ ∧ _ ∧ Hid (BoxedT w r w'))))) : BoxedT w r w').1.old
    go_wp2_with fail
    go_ret
    exact ⟨by rw [HF.out, ← fmt_str]; rfl, hold⟩
end Go.Proofs.YtlnjgoommpeioaaDoor
/- Rows of strings that a call made itself: what one append adds, and what lies there; no function of the program. -/
namespace Go.Proofs.YtlnjgoommpeioaaDoor
open Go.RowKit

/-- A row of strings as cells. -/
def strs (l : List (List UInt8)) : List Value := l.map fun p => Value.string ⟨p.toArray⟩
theorem strs_length (l : List (List UInt8)) : (strs l).length = l.length := by simp [strs]
theorem strs_snoc (l : List (List UInt8)) (p : List UInt8) (s : ByteArray) (h : s = ⟨p.toArray⟩) : strs l ++ [Value.string s] = strs (l ++ [p]) := by subst h; simp [strs]
theorem strs_get (l : List (List UInt8)) (j : Nat) (hj : j < l.length) : (strs l)[j]? = some (Value.string ⟨l[j].toArray⟩) := by simp [strs, hj]
theorem str_info : (Tryd.prog.info? 9).map (fun i => (i.zero, i.size, i.bytes)) = some (some (.string ByteArray.empty), 1, 16) := by kernel_rfl
/-- A piece of a string. -/
theorem piece (s : ByteArray) (a b : Nat) : s.extract a b = ⟨((s.data.toList.take b).drop a).toArray⟩ := by
  apply ByteArray.ext
  apply Array.toList_inj.1
  simp [List.drop_take]
/-- 'out = append(out, s)'. -/
theorem wpList_pushS {ops : Array Oper} {rest : List Oper} {o : Oper} {a : Act} {Q : Exit → Act → World → Prop} {wr : World} {B : Nat} {out : List (List UInt8)} {v : Value} (s x : Operand) (p : List UInt8) (b : ByteArray)
    (hgd : o.guard = none) (ho : o.op = .call { callee := .builtin .append, args := #[s, x], argTypes := #[102, 102] })
    (hs : a.eval s = v) (hx : a.eval x = .slice (some ⟨wr.heap.size, 0, none⟩) 1 1) (hown : wr.ownsRow B 9 1 v out.length (strs out)) (hB : B ≤ wr.heap.size)
    (hlen : (out.length + 1) * 16 ≤ 140737488355328) (hb : b = ⟨p.toArray⟩)
    (h : ∀ v' w', w'.ownsRow B 9 1 v' (out ++ [p]).length (strs (out ++ [p])) → Below B wr w' → wpList Tryd.prog ops Q rest (a.put o.dst v') w') :
    wpList Tryd.prog ops Q (o :: rest) a (wr.alloc (.cells #[.string b] 9)) := by
  obtain ⟨i0, hi, hz0, hz1, hz2⟩ := info_parts str_info
  refine wpList_append_own _ hgd s x 102 ho B 9 i0 (.string ByteArray.empty) 1 16 Tryd.underlying102 hi hz0 hz1 hz2 rfl (by decide) v out.length (strs out) hs (hown.alloc _)
    ⟨wr.heap.size, 0, none⟩ 1 1 [.string b] hx rfl (cell_new1 _ _ _) (by intro u hu; simp at hu; subst hu; rfl) (by unfold maxLen; omega) (by omega) (by simp; omega) ?_
  intro v' w' hown' hg _
  rw [strs_snoc out p b hb] at hown'
  exact h v' w' (by simpa using hown') (((Below.refl B wr).alloc hB _).grown hg (by simp; omega) fun k hk => (hown.lt k hk).1)
/-- A slice of strings: its cells hold them. -/
def IsStrs (w : World) (g : Nat) (l : List (List UInt8)) : Prop := (∃ cs fz, w.heap[g]? = some (.cells cs 9 fz)) ∧ ∀ t (h : t < l.length), w.cell? ⟨g, t, none⟩ = some (.string ⟨l[t].toArray⟩)
theorem IsStrs.lt {w : World} {g : Nat} {l : List (List UInt8)} (h : IsStrs w g l) : g < w.heap.size := by
  obtain ⟨⟨cs, fz, h⟩, -⟩ := h
  exact lt_of_block h
theorem IsStrs.same {w w' : World} {g : Nat} {l : List (List UInt8)} (h : IsStrs w g l) (hb : w'.heap[g]? = w.heap[g]?) : IsStrs w' g l :=
  ⟨by obtain ⟨⟨cs, fz, h⟩, -⟩ := h; exact ⟨cs, fz, hb.trans h⟩, fun t ht => (World.cell?_of_block hb).trans (h.2 t ht)⟩
theorem IsStrs.below {w w' : World} {g B : Nat} {l : List (List UInt8)} (h : IsStrs w g l) (hb : Below B w w') (hg : g < B) : IsStrs w' g l := h.same (hb.block g hg)
theorem IsStrs.keep {w w' : World} {g : Nat} {l : List (List UInt8)} (h : IsStrs w g l) (hb : Below w.heap.size w w') : IsStrs w' g l := h.below hb h.lt
theorem IsStrs.other {w : World} {g g' i : Nat} {l : List (List UInt8)} (h : IsStrs w g l) (hne : g ≠ g') (u : Value) : IsStrs (w.setCell ⟨g', i, none⟩ u) g l := h.same (Below.heap_setCell _ _ _ _ (fun e => hne e))
theorem strs_of_own {w : World} {B : Nat} {v : Value} {l : List (List UInt8)} (h : w.ownsRow B 9 1 v l.length (strs l)) (hl : 0 < l.length) : ∃ g cap, v = .slice (some ⟨g, 0, none⟩) l.length cap ∧ B ≤ g ∧ IsStrs w g l := by
  have h' := h
  obtain ⟨g, cap, rfl⟩ := Joins.ownsRow_form h hl
  have hc : ∀ t (ht : t < l.length), w.cell? ⟨g, t, none⟩ = some (.string ⟨l[t].toArray⟩) := fun t ht => by
    have := h.cells (g := g) rfl t _ (strs_get l t ht)
    by_cases h0 : t = 0
    · subst h0; simpa [Addr.add] using this
    · simpa [Addr.add, h0] using this
  refine ⟨g, cap, rfl, ?_, ?_, hc⟩
  · exact (h.lt g rfl).1
  · rcases h'.2 with ⟨h0, _⟩ | ⟨g', cap', cur, h0, _, hh, _⟩
    · cases h0
    · cases h0
      exact ⟨cur, _, hh⟩
/-- 'make([]string, n)'. -/
theorem run_make_strs (n : Nat) (hn : n ≤ 1000000000000) (w : World) :
    (Instr.makeSlice 102 (.int .i64 (n : Int)) (.int .i64 (n : Int))).run Tryd.prog w = .ok (.slice (some ⟨w.heap.size, 0, none⟩) n n) (w.alloc (.cells (strs (List.replicate n [])).toArray 9)) := by
  have h := run_make_row' (P := Tryd.prog) 102 9 (.string ByteArray.empty) 16 Tryd.underlying102 str_info rfl .i64 .i64 n (by omega) (by omega) w
  rw [h]
  have e : madeCells #[Value.string ByteArray.empty] n = (strs (List.replicate n [])).toArray := by
    apply Array.toList_inj.1
    rw [toList_madeCells_one]
    simp only [strs, List.map_replicate]
    rfl
  rw [e]
theorem strs_block {w : World} {g : Nat} {M : List (List UInt8)} {t : TypeId} (h : w.heap[g]? = some (.cells (strs M).toArray t (0, 0))) (k : Nat) (hk : k < M.length) : w.cell? ⟨g, k, none⟩ = some (.string ⟨M[k].toArray⟩) ∧ w.frozen? ⟨g, k, none⟩ = false := by
  refine ⟨?_, by simp [World.frozen?, h]⟩
  simp only [World.cell?, h]
  rw [List.getElem?_toArray]
  exact strs_get M k hk
theorem strs_set {w : World} {g : Nat} {M : List (List UInt8)} {t : TypeId} (h : w.heap[g]? = some (.cells (strs M).toArray t (0, 0))) (k : Nat) (x : List UInt8) : (w.setCell ⟨g, k, none⟩ (.string ⟨x.toArray⟩)).heap[g]? = some (.cells (strs (M.set k x)).toArray t (0, 0)) := by
  rw [Joins.block_setCell h (i := k)]
  congr 2
  simp [strs, List.map_set]
theorem set_next' {α : Type} (F : List α) (z : α) (n k : Nat) (x : α) (hk : k < n) (hF : F.length = k) : (F ++ List.replicate (n - k) z).set k x = (F ++ [x]) ++ List.replicate (n - (k + 1)) z := by
  have e : n - k = (n - (k + 1)) + 1 := by omega
  rw [List.set_append_right _ _ (by omega), hF, Nat.sub_self, e, List.replicate_succ, List.set_cons_zero, List.append_assoc]
  rfl
end Go.Proofs.YtlnjgoommpeioaaDoor
/- The program's FormatRows, by contract. -/
namespace Go.Proofs.YtlnjgoommpeioaaDoor
open Go.RowKit Go.Lib

theorem join_rows {w : World} {g len : Nat} {L : List R} {t : TypeId} (h : w.heap[g]? = some (.cells (strs (L.map R.fmt)).toArray t (0, 0))) (hl : L.length = len) (h24 : L.length ≤ 24) :
    Calls Tryd.prog 82 #[.slice (some ⟨g, 0, none⟩) len len, .string ⟨#[32]⟩] w fun e w' => e = .returned (.string ⟨(join (L.map R.fmt) [32]).toArray⟩) ∧ Below w.heap.size w w' := by
  have hx : ((L.map R.fmt).map fun p => (⟨p.toArray⟩ : ByteArray)).length = len := by simp [hl]
  have hd : ((L.map R.fmt).map fun p => (⟨p.toArray⟩ : ByteArray)).map (·.data.toList) = L.map R.fmt := by simp
  have hj := join_fmt_length L
  have hc := Tryd.strings_Join g 0 len ((L.map R.fmt).map fun p => ⟨p.toArray⟩) ⟨#[32]⟩ w (fun j x hx => by
    rw [Nat.zero_add]
    rw [List.getElem?_map] at hx
    obtain ⟨y, hy, rfl⟩ := Option.map_eq_some_iff.1 hx
    obtain ⟨hjl, rfl⟩ := List.getElem?_eq_some_iff.1 hy
    exact (strs_block h j hjl).1) (lt_of_block h) (by rw [hx]; omega) (by rw [hx]; exact Nat.le_refl _) (by rw [hd]; show (join (L.map R.fmt) [32]).length ≤ _; omega)
  rw [hx, hd] at hc
  exact hc
set_option maxRecDepth 100000 in
theorem ifrows (a : Option Addr) (len cap : Nat) (L : List R) (w : World) (h : IsRows w a len L) (hlen : len ≤ 1000000000000) (ht : Tab w) :
    Calls Tryd.prog 140 #[.slice a len cap] w fun e w' => e = .returned (.string ⟨(fmtRows L).toArray⟩) ∧ Below w.heap.size w w' := by
  have HI := Lib.hid h
  obtain ⟨hl, hwf, hc⟩ := h
  have HL := Lib.hid hl
  have HC := Lib.hid hc
  have HT := Lib.hid ht
  clear hl hwf hc ht
  have hmk := run_make_strs len hlen
  go_enter Tryd.func140, Tryd.ntmps140
  go_wp2_with fail
  refine (iare _ len cap L _ HI.out (by omega)).mono ?_
  rintro e w0 ⟨rfl, b0⟩
  have B0 := Lib.hid b0
  have T0 := Lib.hid (HT.out.stay b0)
  clear b0
  cases hok : okRows L with
  | false =>
    have HF : Hid (fmtRows L = []) := by show _ = _; unfold fmtRows; rw [hok]; rfl
    clear hok hmk
    go_wp2_with fail
    go_ret
    exact ⟨by rw [HF.out]; rfl, B0.out⟩
  | true =>
    have HF : Hid (fmtRows L = join (L.map R.fmt) [32]) := by show _ = _; unfold fmtRows; rw [if_pos hok]
    have h24 := okRows_length hok
    have hl24 : len ≤ 24 := by rw [← HL.out]; exact h24
    clear hok h24
    have hbw : Below w0.heap.size w0 (w0.alloc (.cells (strs (List.replicate len [])).toArray 9)) := (Below.refl _ _).alloc (Nat.le_refl _) _
    have hgw : (w0.alloc (.cells (strs (List.replicate len [])).toArray 9)).heap[w0.heap.size]? = some (.cells (strs (List.replicate len [])).toArray 9 (0, 0)) := heap_alloc_new w0 _
    have BA := Lib.hid (B0.out.trans (hbw.mono B0.out.size))
    have GA := Lib.hid hgw
    have hle := B0.out.size
    clear hbw hgw
    go_wp2_with fail
    clear hmk
    go_loopw [14] (fun i wr => ∃ k : Nat, i = .int .i64 k ∧ k ≤ len ∧ Hid (wr.heap[w0.heap.size]? = some (.cells (strs ((L.take k).map R.fmt ++ List.replicate (len - k) [])).toArray 9 (0, 0))) ∧ Hid (Below w.heap.size w wr)) (fun i _ => len - (RowKit.intOf i).toNat)
    case atStart => exact ⟨0, rfl, Nat.zero_le _, GA, BA⟩
    case round =>
      obtain ⟨k, rfl, hk, hg, hb⟩ := hrel
      have htab := Lib.hid (HT.out.stay hb.out)
      by_cases hlt : k < len
      · obtain ⟨b, o, rfl, hbl, hc⟩ : ∃ b o : Nat, a = some ⟨b, o, none⟩ ∧ b < w.heap.size ∧ ∀ t, t < len → RowAt w b (o + t * 3) (L.getD t R.zero) := by
          rcases HC.out with h0 | h0
          · omega
          · exact h0
        obtain ⟨r, hr⟩ : ∃ r, r = L.getD k R.zero := ⟨_, rfl⟩
        have hat : RowAt wr b (o + k * 3) r := by rw [hr]; exact (hc k hlt).below hb.out hbl
        obtain ⟨c0, c1, c2⟩ := hat
        have HR := Lib.hid hr
        clear hr hc
        have hba : Below wr.heap.size wr (wr.alloc (.cells #[.int .i64 r.key, .int .i64 r.value, .int .i64 r.width] 55)) := (Below.refl _ _).alloc (Nat.le_refl _) _
        have T1 := Lib.hid (htab.out.stay hba)
        clear hba
        go_wp2_with fail
        refine (ifrow r _ T1.out).mono ?_
        rintro e w1 ⟨rfl, b1⟩
        have hgl : w0.heap.size < wr.heap.size := lt_of_block hg.out
        have b2 := (box_row (r := r) b1).2
        have hg1 : w1.heap[w0.heap.size]? = some (.cells (strs ((L.take k).map R.fmt ++ List.replicate (len - k) [])).toArray 9 (0, 0)) := (b2.block _ hgl).trans hg.out
        have HG1 := Lib.hid hg1
        have B1 := Lib.hid (hb.out.trans (b2.mono hb.out.size))
        obtain ⟨d0, f0⟩ := strs_block hg1 k (by simp [HL.out]; omega)
        clear hg1 b1 b2 hgl
        go_wp2_with fail
        go_roundw
        case rel =>
          refine ⟨k + 1, by go_num, by omega, ?_, B1.out.setCell (p := ⟨w0.heap.size, k, none⟩) hle _⟩
          show _ = _
          rw [strs_set HG1.out k, set_next' ((L.take k).map R.fmt) [] len k r.fmt hlt (by simp [HL.out]; omega)]
          have hkl : k < L.length := by rw [HL.out]; exact hlt
          have e3 : r = L[k] := by rw [HR.out]; simp [List.getD, hkl]
          rw [List.take_succ_eq_append_getElem hkl, List.map_append, List.map_cons, List.map_nil, ← e3]
        case measure => simp [RowKit.intOf]; omega
      · have hkl : k = len := by omega
        have hfin : wr.heap[w0.heap.size]? = some (.cells (strs (L.map R.fmt)).toArray 9 (0, 0)) := by
          rw [hg.out, hkl, ← HL.out, List.take_length, Nat.sub_self]; simp
        have HJ := Lib.hid (join_rows hfin HL.out (by rw [HL.out]; exact hl24))
        clear hfin hkl
        go_wp2_with fail
        refine HJ.out.mono ?_
        rintro e w1 ⟨rfl, b1⟩
        go_wp2_with fail
        go_ret
        exact ⟨by rw [HF.out]; rfl, hb.out.trans (b1.mono hb.out.size)⟩
end Go.Proofs.YtlnjgoommpeioaaDoor
/- strings.Builder over the program: copyCheck and WriteString walked here (their text in this program is not the library's laid one to the sign), String by the library's contract. -/
namespace Go.Proofs.YtlnjgoommpeioaaDoor
open Go Go.RowKit Go.Shelf

abbrev IsB (B b : Nat) (bs : List Value) (w : World) : Prop := Lib.IsBuilder 136 5 B b bs w
theorem owns_keep {w w' : World} {B : Nat} {e : TypeId} {k n : Nat} {v : Value} {xs : List Value} (h : w.ownsRow B e k v n xs) (hb : Below w.heap.size w w') : w'.ownsRow B e k v n xs := by
  obtain ⟨h1, h0 | ⟨g, cap, cur, hv, hB, hh, h2⟩⟩ := h
  · exact ⟨h1, .inl h0⟩
  · exact ⟨h1, .inr ⟨g, cap, cur, hv, hB, (hb.block g (lt_of_block hh)).trans hh, h2⟩⟩
theorem isb_keep {B b : Nat} {bs : List Value} {w w' : World} (h : IsB B b bs w) (hb : Below w.heap.size w w') : IsB B b bs w' := by
  have key : ∀ p, Lib.BuilderAt 136 5 B b p bs w → Lib.BuilderAt 136 5 B b p bs w' := by
    rintro p ⟨hB, v, hh, hown, hne⟩
    exact ⟨hB, v, (hb.block b (lt_of_block hh)).trans hh, owns_keep hown hb, hne⟩
  exact h.imp (key _) (key _)
theorem isb_new (w : World) : IsB w.heap.size w.heap.size [] (w.alloc (.cells #[.pointer none, .slice none 0 0] 136)) :=
  .inl ⟨Nat.le_refl _, _, heap_alloc_new w _, ⟨rfl, .inl ⟨rfl, rfl⟩⟩, by simp [Value.ownBlock]⟩
theorem bInfo : (Tryd.prog.info? 136).map (·.size) = some 2 := by kernel_rfl
theorem bLies : liesAt Tryd.prog Tryd.prog.depth 136 (2 / Tryd.prog.cellsOf 136) 0 136 1 = true := by kernel_rfl
theorem byteInfo : (Tryd.prog.info? 5).map (fun i => (i.zero, i.size, i.bytes)) = some (some (.int .u8 0), 1, 1) := by kernel_rfl
set_option maxRecDepth 100000 in
theorem copycheck_used (b : Nat) (w : World) (h0 : w.cell? ⟨b, 0, none⟩ = some (.pointer (some ⟨b, 0, none⟩))) :
    Calls Tryd.prog 142 #[.pointer (some ⟨b, 0, none⟩)] w fun e w' => e = .returned (.tuple #[]) ∧ w' = w := by
  obtain ⟨j, hj, _⟩ := Option.map_eq_some_iff.1 bInfo
  go_enter Tryd.func142, Tryd.ntmps142
  go_wp2
  rw [Lib.run_neq_ptr_same w _ Tryd.underlying134 hj]
  go_wp2
  go_end0
  exact ⟨rfl, rfl⟩
set_option maxRecDepth 100000 in
theorem copycheck_fresh (b : Nat) (w : World) (h0 : w.cell? ⟨b, 0, none⟩ = some (.pointer none)) (hsh : w.shape? b = some (136, 2)) (hfz : w.frozen? ⟨b, 0, none⟩ = false) :
    Calls Tryd.prog 142 #[.pointer (some ⟨b, 0, none⟩)] w fun e w' => e = .returned (.tuple #[]) ∧ w' = w.setCell ⟨b, 0, none⟩ (.pointer (some ⟨b, 0, none⟩)) := by
  obtain ⟨j, hj, hjs⟩ := Option.map_eq_some_iff.1 bInfo
  go_enter Tryd.func142, Tryd.ntmps142
  go_wp2
  rw [Lib.run_to_unsafe w ⟨b, 0, none⟩ Tryd.underlying134 Tryd.underlying163 hj (by rw [hjs]; decide) hsh (Nat.zero_lt_succ 1)]
  simp only [Result.andThen]
  rw [Oper.upon_value]
  go_wp2
  rw [run_callFunc_extern Tryd.func151 (by kernel_rfl) (by kernel_rfl) (by kernel_rfl) (e := Extern.AbiNoEscape.same) (by kernel_rfl)]
  rw [Lib.run_noEscape]
  simp only [Result.andThen]
  rw [Oper.upon_value]
  go_wp2
  rw [Lib.run_from_unsafe w ⟨b, 0, none⟩ Tryd.underlying163 Tryd.underlying134 hj hsh bLies]
  simp only [Result.andThen]
  rw [Oper.upon_value]
  go_wp2
  go_end0
  exact ⟨rfl, rfl⟩
theorem copycheck (B b : Nat) (bs : List Value) (w : World) (h : IsB B b bs w) :
    Calls Tryd.prog 142 #[.pointer (some ⟨b, 0, none⟩)] w fun e w' => e = .returned (.tuple #[]) ∧ (Lib.BuilderAt 136 5 B b (.pointer (some ⟨b, 0, none⟩)) bs w' ∧ Below B w w') := by
  rcases h with h | h
  · refine (copycheck_fresh b w h.cell0 h.shape h.frozen0).mono ?_
    rintro e w' ⟨rfl, rfl⟩
    exact ⟨rfl, h.used _, (Below.refl B w).setCell (p := ⟨b, 0, none⟩) h.1 _⟩
  · refine (copycheck_used b w h.cell0).mono ?_
    rintro e w' ⟨rfl, rfl⟩
    exact ⟨rfl, h, Below.refl B _⟩
set_option maxRecDepth 100000 in
theorem writestr (B b : Nat) (bs : List Value) (s : ByteArray) (w : World) (h : IsB B b bs w) (hlen : bs.length + s.size ≤ 140737488355328) (hBw : B ≤ w.heap.size) :
    Calls Tryd.prog 123 #[.pointer (some ⟨b, 0, none⟩), .string s] w fun e w' => e = .returned (.tuple #[.int .i64 s.size, .nilIface]) ∧ (IsB B b (bs ++ Lib.strCells s) w' ∧ Below B w w') := by
  obtain ⟨i0, hi, hz0, hz1, hz2⟩ := info_parts byteInfo
  go_enter Tryd.func123, Tryd.ntmps123
  go_wp2_with fail
  refine (copycheck B b bs _ h).mono ?_
  rintro e w1 ⟨rfl, h1, hb1⟩
  obtain ⟨hB, v, hbk, hown, hne⟩ := h1
  have c0 : w1.cell? ⟨b, 0, none⟩ = some (.pointer (some ⟨b, 0, none⟩)) := by rw [Lib.cell_of_heap hbk]; rfl
  have c1 : w1.cell? ⟨b, 1, none⟩ = some v := by rw [Lib.cell_of_heap hbk]; rfl
  go_wp2_with (at_builtin; refine Lib.wpList_append_own_string _ rfl _ _ 22 9 rfl B 5 i0 Tryd.underlying22 Tryd.underlying9 hi hz0 hz1 hz2 _ _ _ rfl hown s rfl ?c3 ?c4 ?c5 ?_)
  case c3 => unfold maxLen; omega
  case c4 => omega
  case c5 => have := hb1.size; omega
  intro v' w2 hown' hgrow _
  have hlt : b < w1.heap.size := lt_of_block hbk
  have hb2 : w2.heap[b]? = some (.cells #[.pointer (some ⟨b, 0, none⟩), v] 136 (0, 0)) := by
    rw [hgrow.block b hlt (fun e => hne e.symm)]
    exact hbk
  have d0 : w2.cell? ⟨b, 0, none⟩ = some (.pointer (some ⟨b, 0, none⟩)) := by rw [Lib.cell_of_heap hb2]; rfl
  have d1 : w2.cell? ⟨b, 1, none⟩ = some v := by rw [Lib.cell_of_heap hb2]; rfl
  have f1 : w2.frozen? ⟨b, 1, none⟩ = false := Lib.frozen_of_heap hb2 1
  obtain ⟨ao, n', cap, rfl⟩ : ∃ ao n' cap, v' = .slice ao n' cap := by
    rcases hown'.2 with ⟨hv, _⟩ | ⟨g, cap, cur, hv, _⟩
    · exact ⟨_, _, _, hv⟩
    · exact ⟨_, _, _, hv⟩
  go_wp2
  go_ret2
  refine ⟨rfl, .inr ?_, ?_⟩
  · exact Lib.BuilderAt.put hB hb2 (bs' := bs ++ Lib.strCells s) (by simpa [Lib.strCells_length] using hown') (by decide)
  · exact (hb1.grown hgrow (by have := hb1.size; omega) (fun k hk => (hown.lt k hk).1)).setCell (p := ⟨b, 1, none⟩) hB _
theorem strcells (l : List UInt8) : Lib.strCells ⟨l.toArray⟩ = Lib.byteCells l := by
  first | rfl | simp [Lib.strCells, Lib.byteCells]
theorem buildstr (B b : Nat) (l : List UInt8) (w : World) (h : IsB B b (Lib.byteCells l) w) (hB : B ≤ w.heap.size) :
    Calls Tryd.prog 124 #[.pointer (some ⟨b, 0, none⟩)] w fun e w' => e = .returned (.string ⟨l.toArray⟩) ∧ Below B w w' := Tryd.Builder_String_any B b l w h hB
end Go.Proofs.YtlnjgoommpeioaaDoor
/- The program's FormatPages, by contract. -/
namespace Go.Proofs.YtlnjgoommpeioaaDoor
open Go.RowKit Go.Lib

theorem txt_page (b : List UInt8) : ((⟨#[91]⟩ : ByteArray) ++ ⟨b.toArray⟩) ++ ⟨#[93]⟩ = ⟨(91 :: (b ++ [93])).toArray⟩ := by
  have e : (⟨#[91]⟩ : ByteArray) = ⟨[91].toArray⟩ := rfl
  have e2 : (⟨#[93]⟩ : ByteArray) = ⟨[93].toArray⟩ := rfl
  rw [e, e2, ByteArray.mk_append_mk, ByteArray.mk_append_mk]
  congr 1
theorem txt_len (P : List (List R)) : (P.flatMap R.pageTxt).length ≤ 218 * P.length := by
  induction P with
  | nil => simp
  | cons p P ih =>
    have h1 := fmtRows_length p
    rw [List.flatMap_cons, List.length_append, List.length_cons]
    have : (R.pageTxt p).length = (fmtRows p).length + 2 := by simp [R.pageTxt]
    omega
theorem txt_step (P : List (List R)) (t : Nat) (ht : t < P.length) : (P.take (t + 1)).flatMap R.pageTxt = (P.take t).flatMap R.pageTxt ++ (91 :: (fmtRows P[t] ++ [93])) := by
  rw [List.take_succ_eq_append_getElem ht, List.flatMap_append, List.flatMap_singleton]
  rfl
theorem bytecells_app (a b : List UInt8) : Lib.byteCells a ++ Lib.byteCells b = Lib.byteCells (a ++ b) := by simp [Lib.byteCells]
set_option maxRecDepth 100000 in
theorem ifpages (a : Option Addr) (n c : Nat) (P : List (List R)) (w : World) (h : SeqIn pageRep w a n P) (hn : n ≤ 1000000000) (hf : P.flatten.length ≤ 1000000000000) (ht : Tab w) :
    Calls Tryd.prog 117 #[.slice a n c] w fun e w' => e = .returned (.string ⟨(R.fmtPages P).toArray⟩) ∧ Below w.heap.size w w' := by
  have HL := Lib.hid h.1
  have HI := Lib.hid h
  have HT := Lib.hid ht
  obtain ⟨N, hN⟩ : ∃ N, N = P.flatten.length := ⟨_, rfl⟩
  rw [← hN] at hf
  have HN := Lib.hid hN
  have S0 := Lib.hid (isb_new w)
  have B0 := Lib.hid ((Below.refl w.heap.size w).alloc (Nat.le_refl _) (.cells #[.pointer none, .slice none 0 0] 136))
  clear h hN ht
  go_enter Tryd.func117, Tryd.ntmps117
  go_wp2_with fail
  go_loopw [8] (fun i wr => ∃ t : Nat, i = .int .i64 t ∧ t ≤ n ∧ Hid (R.allPages (P.take t) = true) ∧ Hid (IsB w.heap.size w.heap.size (Lib.byteCells ((P.take t).flatMap R.pageTxt)) wr) ∧ Hid (Below w.heap.size w wr)) (fun i _ => n - (RowKit.intOf i).toNat)
  case atStart => exact ⟨0, rfl, Nat.zero_le _, (show R.allPages (P.take 0) = true by simp [R.allPages]), S0, B0⟩
  case round =>
    obtain ⟨t, rfl, ht, hok, hS, hb⟩ := hrel
    have hsz : w.heap.size ≤ wr.heap.size := hb.out.size
    by_cases hlt : t < n
    · have htl : t < P.length := by have := HL.out; omega
      have hp : P[t]? = some P[t] := by simp [htl]
      obtain ⟨b, o, d, k, m, rfl, hbl, hcell, hin, -⟩ := (HI.out.keep hb.out).at hp
      have hkn : k ≤ 1000000000000 := by
        have h1 := flat_mem P t htl
        rw [hin.1, ← HN.out] at h1
        omega
      have hxl : ((P.take t).flatMap R.pageTxt).length ≤ 218000000000 := by
        have h2 := txt_len (P.take t)
        rw [List.length_take] at h2
        omega
      have HXL := Lib.hid hxl
      have HNX := Lib.hid (txt_step P t htl)
      have HTK := Lib.hid (R.allPages_take htl)
      have HBAD := Lib.hid (R.allPages_bad t htl)
      obtain ⟨p, hpp⟩ : ∃ p, p = P[t] := ⟨_, rfl⟩
      rw [← hpp] at hin HNX HTK HBAD
      have bx := (Below.refl wr.heap.size wr).alloc (Nat.le_refl _) (.cells #[.slice d k m] 41)
      have IX := Lib.hid (hin.keep bx)
      have SX := Lib.hid (isb_keep hS.out bx)
      have BX := Lib.hid (hb.out.trans (bx.mono hsz))
      have CX := Lib.hid (heap_alloc_new wr (.cells #[.slice d k m] 41))
      have hlx : wr.heap.size < (wr.alloc (.cells #[.slice d k m] 41)).heap.size := by simp
      clear hin hp hpp bx hxl
      go_wp2_with fail
      refine (ivalidpage d k m p _ IX.out hkn).mono ?_
      rintro e w1 ⟨rfl, b1⟩
      have B1 := Lib.hid (BX.out.trans (b1.mono BX.out.size))
      have I1 := Lib.hid (IX.out.keep b1)
      have S1 := Lib.hid (isb_keep SX.out b1)
      have q1 := (b1.block _ hlx).trans CX.out
      have c1 : w1.cell? ⟨wr.heap.size, 0, none⟩ = some (.slice d k m) := by simp [World.cell?, q1]
      clear b1 q1
      cases hv : R.pageOk p with
      | false =>
        have HF := Lib.hid (show R.fmtPages P = [] by unfold R.fmtPages; rw [HBAD.out hv]; rfl)
        clear hv
        go_wp2_with fail
        go_ret
        exact ⟨by rw [HF.out]; rfl, B1.out⟩
      | true =>
        have HV := Lib.hid hv
        clear hv
        go_wp2_with fail
        refine (ifrows d k m p _ (rows_in I1.out) hkn (HT.out.stay B1.out)).mono ?_
        rintro e w2 ⟨rfl, b2⟩
        have B2 := Lib.hid (B1.out.trans (b2.mono B1.out.size))
        have S2 := Lib.hid (isb_keep S1.out b2)
        have hpl := fmtRows_length p
        obtain ⟨z, hz⟩ : ∃ z, z = fmtRows p := ⟨_, rfl⟩
        rw [← hz] at HNX hpl ⊢
        clear b2 hz
        have n1 : ¬ 9223372036854775807 < 1 + z.length := by omega
        have n2 : ¬ 9223372036854775807 < 1 + z.length + 1 := by omega
        go_wp2_with fail
        rw [txt_page]
        have hsl : (⟨(91 :: (z ++ [93])).toArray⟩ : ByteArray).size = z.length + 2 := by simp [ByteArray.size]
        refine (writestr w.heap.size w.heap.size _ ⟨(91 :: (z ++ [93])).toArray⟩ w2 S2.out (by rw [hsl, Lib.byteCells_length]; have := HXL.out; omega) B2.out.size).mono ?_
        rintro e w3 ⟨rfl, hS3, b3⟩
        rw [strcells, bytecells_app, ← HNX.out] at hS3
        have S3 := Lib.hid hS3
        have B3 := Lib.hid (B2.out.trans b3)
        clear hS3 b3 hsl
        go_wp2_with fail
        go_roundw
        case rel => exact ⟨t + 1, by go_num, by omega, (by show _ = _; rw [HTK.out, hok.out, HV.out]; rfl), S3, B3⟩
        case measure => simp [RowKit.intOf]; omega
    · have hkl : t = n := by omega
      have htk : P.take t = P := by rw [hkl, List.take_of_length_le (by have := HL.out; omega)]
      rw [htk] at hok hS
      have HF := Lib.hid (show R.fmtPages P = P.flatMap R.pageTxt by unfold R.fmtPages; rw [if_pos hok.out])
      clear hkl htk
      go_wp2_with fail
      refine (buildstr w.heap.size w.heap.size _ wr hS.out hsz).mono ?_
      rintro e w1 ⟨rfl, b1⟩
      have B1 := Lib.hid (hb.out.trans b1)
      clear b1
      go_wp2_with fail
      go_ret
      exact ⟨by rw [HF.out]; rfl, B1.out⟩
end Go.Proofs.YtlnjgoommpeioaaDoor
/- The program's FormatPages told by trees. -/
namespace Go.Proofs.YtlnjgoommpeioaaDoor
open Go Go.RowKit V
set_option linter.unusedVariables false
theorem vfpages_i (P : List (List R)) (hP : ∀ p ∈ P, goodPage p) (hn : P.length ≤ 1000000000) (hf : P.flatten.length ≤ 1000000000000) : VCD Tryd.prog 117 [(false, [.seq 41 (P.map tPage)])] false [(false, [.lit (.string ⟨(R.fmtPages P).toArray⟩)])] := fun w hT =>
  VC.shape1At (Fits.slice 41 fitsPage) hP (ag := false) rfl fun k h => by
    have e : k.2.1 = P.length := h.1.1.symm
    exact ifpages k.1 k.2.1 k.2.2 P w h.1 (by omega) hf hT
end Go.Proofs.YtlnjgoommpeioaaDoor
/- The program's SealFile: told by trees. -/
namespace Go.Proofs.YtlnjgoommpeioaaDoor
open Go Go.RowKit V
set_option linter.unusedVariables false
theorem vck_i (l : List UInt8) (hl : l.length ≤ 1000000000000) : VC Tryd.prog 116 [(false, [.lit (.string ⟨l.toArray⟩)])] false [(false, [.lit (.int .i64 ((ck l : Nat) : Int))])] :=
  VC.plain (ins := [(false, [.string ⟨l.toArray⟩])]) (ag := false) (rs := [.int .i64 ((ck l : Nat) : Int)]) (fun u hu => by rw [List.mem_singleton.1 hu]; rfl) (fun w => (icheck ⟨l.toArray⟩ w (by show l.toArray.size ≤ _; simpa using hl)).mono fun e w' ⟨he, hw⟩ => ⟨he, hw ▸ Below.refl _ _⟩)
set_option maxRecDepth 100000 in
set_option maxHeartbeats 2000000 in
theorem vcksp_i (P : List (List R)) (hP : ∀ p ∈ P, goodPage p) (hn : P.length ≤ 1000000000) (hw : wtPages P ≤ 1000000000) (hK : (R.fmtPages P).length ≤ 1000000000000) : VCD Tryd.prog 71 [(false, [.seq 41 (P.map tPage)])] false [(false, [.lit (.int .i64 ((ck (R.fmtPages P) : Nat) : Int))])] := by
  refine VCD.enter Tryd.func71 rfl Tryd.ntmps71 (Nat.le_of_ble_eq_true rfl) fun E hE hD => ?_
  refine SV.seq' ?_
  refine SV.region ?_
  refine SV.op (OpL.ok (nb := 0) (ok_move (v := V.one (.sc _)) (.inr rfl) rfl) rfl (Nat.le_of_ble_eq_true rfl)) rfl ?_
  refine SV.nil ?_
  refine SV.tn ?_
  refine SV.seq' ?_
  refine SV.region ?_
  refine SV.op (OpL.ok (nb := 0) (ok_move (v := V.one (.ro _)) (.inl rfl) rfl) rfl (Nat.le_of_ble_eq_true rfl)) rfl ?_
  refine SV.op (OpMk.ok (ok_callD (ls := [(false, [.sc _])]) hD rfl rfl ⟨_, _, Tryd.func117, rfl, by decide⟩ (vfpages_i P hP hn (by have := flat_wt P; omega)) ⟨⟨[.ro _], rfl, ⟨rfl, trivial⟩⟩, trivial⟩ rfl (Nat.le_of_ble_eq_true rfl))) rfl ?_
  refine SV.op (OpMk.ok (ok_call (ls := [(false, [.sc _])]) rfl rfl ⟨_, _, Tryd.func116, rfl, by decide⟩ (vck_i (R.fmtPages P) hK) ⟨⟨[.sc _], rfl, ⟨rfl, trivial⟩⟩, trivial⟩ rfl (Nat.le_of_ble_eq_true rfl))) rfl ?_
  refine SV.op (OpL.ok (nb := 0) (ok_move (v := V.one (.sc _)) (.inr rfl) rfl) rfl (Nat.le_of_ble_eq_true rfl)) rfl ?_
  refine SV.nil ?_
  refine SV.tn ?_
  refine SV.ret ?_
  apply SV.done (hf := Tryd.results71) (ht := rfl) (he := .inl rfl)
  case hr => exact (ResAll.cons (ResOk.tmp (ag := false) (xs := [.sc _]) rfl) ResAll.nil')
  case h2 => simp [two]
  refine ⟨rfl, ⟨?_, trivial⟩, trivial⟩ <;> rfl
set_option maxRecDepth 100000 in
set_option maxHeartbeats 2000000 in
theorem vseal_i0 (X : DiskD) (name : Int) (hX : goodDisk X) (hL : wtDisk X ≤ 1000000000) (hf : DiskD.file X name = none) : VCD Tryd.prog 21 [(true, tDisk X), (false, [.lit (.int .i64 (name))])] true [(true, tDisk ((DiskD.sealF X name).getD X)), (false, [.lit (.bool (DiskD.sealF X name).isSome)])] := by
  refine VCD.enter Tryd.func21 rfl Tryd.ntmps21 (Nat.le_of_ble_eq_true rfl) fun E hE hD => ?_
  have ho : DiskD.sealF X name = none := DiskD.sealF_none hf
  have hv := vfind_i X name hX hL
  rw [hf] at hv
  refine SV.seq' ?_
  refine SV.region ?_
  refine SV.op (OpMk.ok (ok_box (kk := 0) (ag := true) (xs := [.ro _, .sc _]) rfl rfl rfl (fun h => by cases h) rfl rfl (Nat.le_of_ble_eq_true rfl))) rfl ?_
  refine SV.op (OpMk.ok (ok_alloc (kk := 1) (xs := [.nl _, .sc _]) rfl rfl zero_impl_Disk ⟨rfl, ⟨4, by decide, sz_impl_File⟩, rfl, rfl, trivial⟩ rfl (Nat.le_of_ble_eq_true rfl))) rfl ?_
  refine SV.op (OpL.ok (nb := 2) (ok_move (v := V.one (.sc _)) (.inr rfl) rfl) rfl (Nat.le_of_ble_eq_true rfl)) rfl ?_
  refine SV.nil ?_
  refine SV.tn ?_
  refine SV.seq' ?_
  refine SV.region ?_
  refine SV.op (OpL.ok (nb := 2) (ok_load_bp (b := 0) (i := 0) (ag := true) (m := 2) (ys := [.ro _, .sc _]) rfl rfl rfl agg_impl_Disk sz_impl_Disk (fun h => by cases h) rfl rfl (Nat.le_of_ble_eq_true rfl)) rfl (Nat.le_of_ble_eq_true rfl)) rfl ?_
  refine SV.op (OpMk.ok (ok_call (ls := [(true, [.hd 0, .sc _])]) rfl rfl ⟨_, _, Tryd.func55, rfl, by decide⟩ (vclonedisk_i X hL) ⟨⟨[.ro _, .sc _], rfl, ⟨rfl, rfl, trivial⟩⟩, trivial⟩ rfl (Nat.le_of_ble_eq_true rfl))) rfl ?_
  refine SV.op (OpMk.ok (ok_alloc (kk := 2) (xs := [.nl _, .sc _]) rfl rfl zero_impl_Disk ⟨rfl, ⟨4, by decide, sz_impl_File⟩, rfl, rfl, trivial⟩ rfl (Nat.le_of_ble_eq_true rfl))) rfl ?_
  refine SV.op (ok_store_bp (b := 2) (i := 0) (m := 2) (ag := true) (zs := [.hd 0, .sc _]) (ys := [.hd 0, .sc _]) rfl rfl rfl rfl sz_impl_Disk (fun h => by cases h) rfl (Nat.le_of_ble_eq_true rfl) rfl rfl rfl) rfl ?_
  refine SV.nil ?_
  refine SV.tn ?_
  refine SV.seq' ?_
  refine SV.region ?_
  refine SV.op (OpL.ok (nb := 3) (ok_load_bp (b := 2) (i := 0) (ag := true) (m := 2) (ys := [.hd 0, .sc _]) rfl rfl rfl agg_impl_Disk sz_impl_Disk (fun h => by cases h) rfl rfl (Nat.le_of_ble_eq_true rfl)) rfl (Nat.le_of_ble_eq_true rfl)) rfl ?_
  refine SV.op (OpL.ok (nb := 3) (ok_move (v := V.one (.sc _)) (.inl rfl) rfl) rfl (Nat.le_of_ble_eq_true rfl)) rfl ?_
  refine SV.op (OpMk.ok (ok_callPt0 rfl ⟨_, _, Tryd.func63, rfl, by decide⟩ (hv) ⟨⟨[.hd 0, .sc _], rfl, ⟨rfl, rfl, trivial⟩⟩, ⟨[.sc _], rfl, ⟨rfl, trivial⟩⟩, trivial⟩ rfl (Nat.le_of_ble_eq_true rfl))) rfl ?_
  refine SV.op (OpL.ok (nb := 3) (ok_move (v := ⟨true, [(false, [.sc _]), (false, [.sc _])]⟩) (.inl rfl) rfl) rfl (Nat.le_of_ble_eq_true rfl)) rfl ?_
  refine SV.op (OpL.ok (nb := 3) (ok_extract (ag := false) (xs := [.sc _]) rfl rfl rfl) rfl (Nat.le_of_ble_eq_true rfl)) rfl ?_
  refine SV.op (OpL.ok (nb := 3) (ok_extract (ag := false) (xs := [.sc _]) rfl rfl rfl) rfl (Nat.le_of_ble_eq_true rfl)) rfl ?_
  refine SV.op (OpL.ok (nb := 3) (ok_move (v := V.one (.sc _)) (.inr rfl) rfl) rfl (Nat.le_of_ble_eq_true rfl)) rfl ?_
  refine SV.op (OpL.ok (nb := 3) (ok_move (v := V.one (.sc _)) (.inr rfl) rfl) rfl (Nat.le_of_ble_eq_true rfl)) rfl ?_
  refine SV.nil ?_
  refine SV.tn ?_
  refine SV.seq' ?_
  refine SV.seq' ?_
  refine SV.region ?_
  refine SV.op (OpL.ok (nb := 3) (ok_move (v := V.one (.sc _)) (.inl rfl) rfl) rfl (Nat.le_of_ble_eq_true rfl)) rfl ?_
  refine SV.op (OpL.ok (nb := 3) (ok_s1 (x := .tmp 17) (VScal.one rfl) (fun ρ h1 w => by go_simp; (try go_bits); with_reducible rfl) rfl) rfl (Nat.le_of_ble_eq_true rfl)) rfl ?_
  refine SV.op (OpL.ok (nb := 3) (ok_move (v := V.one (.sc _)) (.inl rfl) rfl) rfl (Nat.le_of_ble_eq_true rfl)) rfl ?_
  refine SV.split (d := 19) rfl (fun hg0 => ?_) (fun hg0 => ?_)
  · skip   -- g0.T
    refine SV.opN rfl rfl rfl (Nat.le_of_ble_eq_true rfl) rfl rfl rfl (Nat.le_of_ble_eq_true rfl) ?_
    refine SV.opN rfl rfl rfl (Nat.le_of_ble_eq_true rfl) rfl rfl rfl (Nat.le_of_ble_eq_true rfl) ?_
    refine SV.opN rfl rfl rfl (Nat.le_of_ble_eq_true rfl) rfl rfl rfl (Nat.le_of_ble_eq_true rfl) ?_
    refine SV.opN rfl rfl rfl (Nat.le_of_ble_eq_true rfl) rfl rfl rfl (Nat.le_of_ble_eq_true rfl) ?_
    refine SV.op (OpL.ok (nb := 3) (ok_pickT (v := V.one (.sc _)) rfl rfl rfl) rfl (Nat.le_of_ble_eq_true rfl)) rfl ?_
    refine SV.nil ?_
    refine SV.tn ?_
    refine SV.cond rfl (fun hc0 => ?_) (fun hc0 => ?_)
    · skip   -- c0.T
      refine SV.seq' ?_
      refine SV.region ?_
      refine SV.op (OpL.ok (nb := 3) (ok_load_bp (b := 2) (i := 0) (ag := true) (m := 2) (ys := [.hd 0, .sc _]) rfl rfl rfl agg_impl_Disk sz_impl_Disk (fun h => by cases h) rfl rfl (Nat.le_of_ble_eq_true rfl)) rfl (Nat.le_of_ble_eq_true rfl)) rfl ?_
      refine SV.op (ok_store_bp (b := 1) (i := 0) (m := 2) (ag := true) (zs := [.hd 0, .sc _]) (ys := [.hd 0, .sc _]) rfl rfl rfl rfl sz_impl_Disk (fun h => by cases h) rfl (Nat.le_of_ble_eq_true rfl) rfl rfl rfl) rfl ?_
      refine SV.op (OpL.ok (nb := 3) (ok_move (v := V.one (.sc _)) (.inr rfl) rfl) rfl (Nat.le_of_ble_eq_true rfl)) rfl ?_
      refine SV.nil ?_
      refine SV.tn ?_
      refine SV.ret ?_
      refine SV.tr ?_
      apply SV.done (hf := Tryd.results21) (ht := rfl) (he := .inl rfl)
      case hr => exact (ResAll.cons (ResOk.cell (b := 1) (ag := true) (xs := [.hd 0, .sc _]) rfl rfl agg_impl_Disk sz_impl_Disk (fun h => by cases h)) (ResAll.cons (ResOk.tmp (ag := false) (xs := [.sc _]) rfl) ResAll.nil'))
      case h2 => simp [two]
      refine ⟨rfl, ⟨?_, ?_, trivial⟩, ⟨rfl, ⟨?_, trivial⟩, trivial⟩⟩ <;> (rw [ho]; rfl)
    · skip   -- c0.F
      cases hc0
  · skip   -- g0.F
    simp at hg0
set_option maxRecDepth 100000 in
set_option maxHeartbeats 2000000 in
theorem vseal_i1 (X : DiskD) (name : Int) (k : Nat) (f : FileD) (hX : goodDisk X) (hL : wtDisk X ≤ 1000000000) (hf : DiskD.file X name = some (k, f)) (hx : X.fFiles[k]? = some f) : VCD Tryd.prog 21 [(true, tDisk X), (false, [.lit (.int .i64 (name))])] true [(true, tDisk ((DiskD.sealF X name).getD X)), (false, [.lit (.bool (DiskD.sealF X name).isSome)])] := by
  refine VCD.enter Tryd.func21 rfl Tryd.ntmps21 (Nat.le_of_ble_eq_true rfl) fun E hE hD => ?_
  have hv := vfind_i X name hX hL
  rw [hf] at hv
  have hs := DiskD.sealF_eq hf
  have hkl : k < X.fFiles.length := get_lt hx
  have hP := (hX.1 f (get_mem hx)).2.1
  have hw1 : wtPages f.fPages ≤ wtDisk X := by
    have h4 := wt_file_at X.fFiles k hkl
    have h5 : X.fFiles[k] = f := by have := hx; rw [List.getElem?_eq_getElem hkl] at this; exact Option.some.inj this
    rw [h5] at h4; exact h4
  have hw2 := wt_page_len f.fPages
  have hK : (R.fmtPages f.fPages).length ≤ 1000000000000 := by have := fmtPages_len f.fPages; omega
  refine SV.seq' ?_
  refine SV.region ?_
  refine SV.op (OpMk.ok (ok_box (kk := 0) (ag := true) (xs := [.ro _, .sc _]) rfl rfl rfl (fun h => by cases h) rfl rfl (Nat.le_of_ble_eq_true rfl))) rfl ?_
  refine SV.op (OpMk.ok (ok_alloc (kk := 1) (xs := [.nl _, .sc _]) rfl rfl zero_impl_Disk ⟨rfl, ⟨4, by decide, sz_impl_File⟩, rfl, rfl, trivial⟩ rfl (Nat.le_of_ble_eq_true rfl))) rfl ?_
  refine SV.op (OpL.ok (nb := 2) (ok_move (v := V.one (.sc _)) (.inr rfl) rfl) rfl (Nat.le_of_ble_eq_true rfl)) rfl ?_
  refine SV.nil ?_
  refine SV.tn ?_
  refine SV.seq' ?_
  refine SV.region ?_
  refine SV.op (OpL.ok (nb := 2) (ok_load_bp (b := 0) (i := 0) (ag := true) (m := 2) (ys := [.ro _, .sc _]) rfl rfl rfl agg_impl_Disk sz_impl_Disk (fun h => by cases h) rfl rfl (Nat.le_of_ble_eq_true rfl)) rfl (Nat.le_of_ble_eq_true rfl)) rfl ?_
  refine SV.op (OpMk.ok (ok_call (ls := [(true, [.hd 0, .sc _])]) rfl rfl ⟨_, _, Tryd.func55, rfl, by decide⟩ (vclonedisk_i X hL) ⟨⟨[.ro _, .sc _], rfl, ⟨rfl, rfl, trivial⟩⟩, trivial⟩ rfl (Nat.le_of_ble_eq_true rfl))) rfl ?_
  refine SV.op (OpMk.ok (ok_alloc (kk := 2) (xs := [.nl _, .sc _]) rfl rfl zero_impl_Disk ⟨rfl, ⟨4, by decide, sz_impl_File⟩, rfl, rfl, trivial⟩ rfl (Nat.le_of_ble_eq_true rfl))) rfl ?_
  refine SV.op (ok_store_bp (b := 2) (i := 0) (m := 2) (ag := true) (zs := [.hd 0, .sc _]) (ys := [.hd 0, .sc _]) rfl rfl rfl rfl sz_impl_Disk (fun h => by cases h) rfl (Nat.le_of_ble_eq_true rfl) rfl rfl rfl) rfl ?_
  refine SV.nil ?_
  refine SV.tn ?_
  refine SV.seq' ?_
  refine SV.region ?_
  refine SV.op (OpL.ok (nb := 3) (ok_load_bp (b := 2) (i := 0) (ag := true) (m := 2) (ys := [.hd 0, .sc _]) rfl rfl rfl agg_impl_Disk sz_impl_Disk (fun h => by cases h) rfl rfl (Nat.le_of_ble_eq_true rfl)) rfl (Nat.le_of_ble_eq_true rfl)) rfl ?_
  refine SV.op (OpL.ok (nb := 3) (ok_move (v := V.one (.sc _)) (.inl rfl) rfl) rfl (Nat.le_of_ble_eq_true rfl)) rfl ?_
  refine SV.op (OpMk.ok (ok_callPt (i := 0) rfl ⟨_, _, Tryd.func63, rfl, by decide⟩ (hv) ⟨⟨[.hd 0, .sc _], rfl, ⟨rfl, rfl, trivial⟩⟩, ⟨[.sc _], rfl, ⟨rfl, trivial⟩⟩, trivial⟩ rfl rfl (by rw [List.length_map]; exact hkl) rfl (Nat.le_of_ble_eq_true rfl))) rfl ?_
  refine SV.op (OpL.ok (nb := 3) (ok_move (v := ⟨true, [(false, [.ep 0 _ _ _]), (false, [.sc _])]⟩) (.inl rfl) rfl) rfl (Nat.le_of_ble_eq_true rfl)) rfl ?_
  refine SV.op (OpL.ok (nb := 3) (ok_extract (ag := false) (xs := [.ep 0 _ _ _]) rfl rfl rfl) rfl (Nat.le_of_ble_eq_true rfl)) rfl ?_
  refine SV.op (OpL.ok (nb := 3) (ok_extract (ag := false) (xs := [.sc _]) rfl rfl rfl) rfl (Nat.le_of_ble_eq_true rfl)) rfl ?_
  refine SV.op (OpL.ok (nb := 3) (ok_move (v := V.one (.ep 0 _ _ _)) (.inr rfl) rfl) rfl (Nat.le_of_ble_eq_true rfl)) rfl ?_
  refine SV.op (OpL.ok (nb := 3) (ok_move (v := V.one (.sc _)) (.inr rfl) rfl) rfl (Nat.le_of_ble_eq_true rfl)) rfl ?_
  refine SV.nil ?_
  refine SV.tn ?_
  refine SV.seq' ?_
  refine SV.seq' ?_
  refine SV.region ?_
  refine SV.op (OpL.ok (nb := 3) (ok_move (v := V.one (.sc _)) (.inl rfl) rfl) rfl (Nat.le_of_ble_eq_true rfl)) rfl ?_
  refine SV.op (OpL.ok (nb := 3) (ok_s1 (x := .tmp 17) (VScal.one rfl) (fun ρ h1 w => by go_simp; (try go_bits); with_reducible rfl) rfl) rfl (Nat.le_of_ble_eq_true rfl)) rfl ?_
  refine SV.op (OpL.ok (nb := 3) (ok_move (v := V.one (.sc _)) (.inl rfl) rfl) rfl (Nat.le_of_ble_eq_true rfl)) rfl ?_
  refine SV.split (d := 19) rfl (fun hg0 => ?_) (fun hg0 => ?_)
  · skip   -- g0.T
    simp at hg0
  · skip   -- g0.F
    refine SV.opY (OpL.ok (nb := 3) (ok_move (v := V.one (.ep 0 _ _ _)) (.inl rfl) rfl) rfl (Nat.le_of_ble_eq_true rfl)) rfl rfl rfl (Nat.le_of_ble_eq_true rfl) rfl rfl ?_
    refine SV.opY (OpL.ok (nb := 3) (ok_nilcheck rfl rfl) rfl (Nat.le_of_ble_eq_true rfl)) rfl rfl rfl (Nat.le_of_ble_eq_true rfl) rfl rfl ?_
    refine SV.opY (OpL.ok (nb := 3) (ok_field_el (p := .ep 0 _ _ _) (off := 3) rfl rfl (cells_ep rfl (map_at (by assumption)) rfl rfl) fld_impl_File_3) rfl (Nat.le_of_ble_eq_true rfl)) rfl rfl rfl (Nat.le_of_ble_eq_true rfl) rfl rfl ?_
    refine SV.opY (ok_load_el (p := .ep 0 _ _ _) (ag := false) (m := 1) (ys := [.sc _]) rfl rfl (cells_ep rfl (map_at (by assumption)) rfl rfl) agg_bool sz_bool (fun _ => rfl) (Nat.le_of_ble_eq_true rfl) rfl rfl (Nat.le_of_ble_eq_true rfl)) rfl rfl rfl (Nat.le_of_ble_eq_true rfl) rfl rfl ?_
    refine SV.op (OpL.ok (nb := 3) (ok_pickF (v := V.one (.sc _)) rfl rfl rfl) rfl (Nat.le_of_ble_eq_true rfl)) rfl ?_
    refine SV.nil ?_
    refine SV.tn ?_
    refine SV.cond rfl (fun hc0 => ?_) (fun hc0 => ?_)
    · skip   -- c0.T
      have ho : DiskD.sealF X name = none := by rw [hs, if_pos (by simpa using hc0)]
      refine SV.seq' ?_
      refine SV.region ?_
      refine SV.op (OpL.ok (nb := 3) (ok_load_bp (b := 2) (i := 0) (ag := true) (m := 2) (ys := [.hd 0, .sc _]) rfl rfl rfl agg_impl_Disk sz_impl_Disk (fun h => by cases h) rfl rfl (Nat.le_of_ble_eq_true rfl)) rfl (Nat.le_of_ble_eq_true rfl)) rfl ?_
      refine SV.op (ok_store_bp (b := 1) (i := 0) (m := 2) (ag := true) (zs := [.hd 0, .sc _]) (ys := [.hd 0, .sc _]) rfl rfl rfl rfl sz_impl_Disk (fun h => by cases h) rfl (Nat.le_of_ble_eq_true rfl) rfl rfl rfl) rfl ?_
      refine SV.op (OpL.ok (nb := 3) (ok_move (v := V.one (.sc _)) (.inr rfl) rfl) rfl (Nat.le_of_ble_eq_true rfl)) rfl ?_
      refine SV.nil ?_
      refine SV.tn ?_
      refine SV.ret ?_
      refine SV.tr ?_
      apply SV.done (hf := Tryd.results21) (ht := rfl) (he := .inl rfl)
      case hr => exact (ResAll.cons (ResOk.cell (b := 1) (ag := true) (xs := [.hd 0, .sc _]) rfl rfl agg_impl_Disk sz_impl_Disk (fun h => by cases h)) (ResAll.cons (ResOk.tmp (ag := false) (xs := [.sc _]) rfl) ResAll.nil'))
      case h2 => simp [two]
      refine ⟨rfl, ⟨?_, ?_, trivial⟩, ⟨rfl, ⟨?_, trivial⟩, trivial⟩⟩ <;> (rw [ho]; first | rfl | (show some (T.seq _ _) = some (T.seq _ _); simp [tFile, List.map_set]; done))
    · skip   -- c0.F
      have ho := hs.trans (if_neg (by simpa using hc0))
      refine SV.skip ?_
      refine SV.tn ?_
      refine SV.seq' ?_
      refine SV.region ?_
      refine SV.op (OpL.ok (nb := 3) (ok_move (v := V.one (.ep 0 _ _ _)) (.inl rfl) rfl) rfl (Nat.le_of_ble_eq_true rfl)) rfl ?_
      refine SV.op (OpL.ok (nb := 3) (ok_move (v := V.one (.ep 0 _ _ _)) (.inl rfl) rfl) rfl (Nat.le_of_ble_eq_true rfl)) rfl ?_
      refine SV.op (OpL.ok (nb := 3) (ok_nilcheck rfl rfl) rfl (Nat.le_of_ble_eq_true rfl)) rfl ?_
      refine SV.op (OpL.ok (nb := 3) (ok_field_el (p := .ep 0 _ _ _) (off := 1) rfl rfl (cells_ep rfl (map_at (by assumption)) rfl rfl) fld_impl_File_1) rfl (Nat.le_of_ble_eq_true rfl)) rfl ?_
      refine SV.op (ok_load_el (p := .ep 0 _ _ _) (ag := false) (m := 1) (ys := [.nd 0 _ _ (some _)]) rfl rfl (cells_ep rfl (map_at (by assumption)) rfl rfl) agg_s_impl_Page sz_s_impl_Page (fun _ => rfl) (Nat.le_of_ble_eq_true rfl) rfl rfl (Nat.le_of_ble_eq_true rfl)) rfl ?_
      refine SV.op (OpMk.ok (ok_callD (ls := [(false, [.sc _])]) hD rfl rfl ⟨_, _, Tryd.func71, rfl, by decide⟩ (vcksp_i f.fPages hP (by omega) (by omega) hK) ⟨⟨[.nd 0 _ _ (some _)], rfl, ⟨rfl, trivial⟩⟩, trivial⟩ rfl (Nat.le_of_ble_eq_true rfl))) rfl ?_
      refine SV.op (OpL.ok (nb := 3) (ok_nilcheck rfl rfl) rfl (Nat.le_of_ble_eq_true rfl)) rfl ?_
      refine SV.op (OpL.ok (nb := 3) (ok_field_el (p := .ep 0 _ _ _) (off := 2) rfl rfl (cells_ep rfl (map_at (by assumption)) rfl rfl) fld_impl_File_2) rfl (Nat.le_of_ble_eq_true rfl)) rfl ?_
      refine SV.op (ok_store_ep (i := 0) (n := 4) (m := 1) (ag := false) (zs := [.sc _]) rfl rfl rfl rfl (map_at (by assumption)) sz_int (fun _ => rfl) rfl sz_impl_File (Nat.le_of_ble_eq_true rfl) (outs_c rfl outs_n) (by simp [two]) rfl rfl rfl) rfl ?_
      refine SV.nil ?_
      refine SV.tn ?_
      refine SV.seq' ?_
      refine SV.region ?_
      refine SV.op (OpL.ok (nb := 3) (ok_move (v := V.one (.ep 0 _ _ _)) (.inl rfl) rfl) rfl (Nat.le_of_ble_eq_true rfl)) rfl ?_
      refine SV.op (OpL.ok (nb := 3) (ok_nilcheck rfl rfl) rfl (Nat.le_of_ble_eq_true rfl)) rfl ?_
      refine SV.op (OpL.ok (nb := 3) (ok_field_el (p := .ep 0 _ _ _) (off := 3) rfl rfl (cells_ep rfl (set_self (by rw [List.length_map]; exact hkl)) rfl rfl) fld_impl_File_3) rfl (Nat.le_of_ble_eq_true rfl)) rfl ?_
      refine SV.op (ok_store_ep (i := 0) (n := 4) (m := 1) (ag := false) (zs := [.sc _]) rfl rfl rfl rfl (set_self (by rw [List.length_map]; exact hkl)) sz_bool (fun _ => rfl) rfl sz_impl_File (Nat.le_of_ble_eq_true rfl) (outs_c rfl outs_n) (by simp [two]) rfl (set_twice (by rfl)) rfl) rfl ?_
      refine SV.nil ?_
      refine SV.tn ?_
      refine SV.seq' ?_
      refine SV.region ?_
      refine SV.op (OpL.ok (nb := 3) (ok_load_bp (b := 2) (i := 0) (ag := true) (m := 2) (ys := [.hd 0, .sc _]) rfl rfl rfl agg_impl_Disk sz_impl_Disk (fun h => by cases h) rfl rfl (Nat.le_of_ble_eq_true rfl)) rfl (Nat.le_of_ble_eq_true rfl)) rfl ?_
      refine SV.op (ok_store_bp (b := 1) (i := 0) (m := 2) (ag := true) (zs := [.hd 0, .sc _]) (ys := [.hd 0, .sc _]) rfl rfl rfl rfl sz_impl_Disk (fun h => by cases h) rfl (Nat.le_of_ble_eq_true rfl) rfl rfl rfl) rfl ?_
      refine SV.op (OpL.ok (nb := 3) (ok_move (v := V.one (.sc _)) (.inr rfl) rfl) rfl (Nat.le_of_ble_eq_true rfl)) rfl ?_
      refine SV.nil ?_
      refine SV.tn ?_
      refine SV.ret ?_
      apply SV.done (hf := Tryd.results21) (ht := rfl) (he := .inl rfl)
      case hr => exact (ResAll.cons (ResOk.cell (b := 1) (ag := true) (xs := [.hd 0, .sc _]) rfl rfl agg_impl_Disk sz_impl_Disk (fun h => by cases h)) (ResAll.cons (ResOk.tmp (ag := false) (xs := [.sc _]) rfl) ResAll.nil'))
      case h2 => simp [two]
      refine ⟨rfl, ⟨?_, ?_, trivial⟩, ⟨rfl, ⟨?_, trivial⟩, trivial⟩⟩ <;> (rw [ho]; first | rfl | (show some (T.seq _ _) = some (T.seq _ _); simp [tFile, List.map_set]; done))
end Go.Proofs.YtlnjgoommpeioaaDoor
/- SealFile, whole: told by trees. -/
namespace Go.Proofs.YtlnjgoommpeioaaDoor
open Go Go.RowKit V
set_option linter.unusedVariables false
theorem DiskD.file_get {d : DiskD} {name : Int} {k : Nat} {f : FileD} (h : DiskD.file d name = some (k, f)) : d.fFiles[k]? = some f := by
  unfold DiskD.file at h
  split at h
  · obtain ⟨k', h1, h2⟩ := Option.bind_eq_some_iff.1 h
    obtain ⟨f', h3, h4⟩ := Option.map_eq_some_iff.1 h2
    cases h4
    exact h3
  · cases h
theorem vseal_s (X : DiskD) (name : Int) (hX : goodDisk X) (hL : wtDisk X ≤ 1000000000) : VC Tryd.prog 41 [(true, tDisk X), (false, [.lit (.int .i64 name)])] true [(true, tDisk ((DiskD.sealF X name).getD X)), (false, [.lit (.bool (DiskD.sealF X name).isSome)])] := vseal_s0 X name _ hX hL rfl
theorem vseal_i (X : DiskD) (name : Int) (hX : goodDisk X) (hL : wtDisk X ≤ 1000000000) : VCD Tryd.prog 21 [(true, tDisk X), (false, [.lit (.int .i64 name)])] true [(true, tDisk ((DiskD.sealF X name).getD X)), (false, [.lit (.bool (DiskD.sealF X name).isSome)])] := by
  cases h : DiskD.file X name with
  | none => exact vseal_i0 X name hX hL h
  | some kf => exact vseal_i1 X name kf.1 kf.2 hX hL h (DiskD.file_get h)
theorem good_disk {X : DiskD} (h : okDisk X) : goodDisk X := ⟨fun f hf => ⟨((h.1.1 f hf).1), fun p hp => ((h.1.1 f hf).2.1.1 p hp).1, (h.1.1 f hf).2.2.1, trivial⟩, h.2, trivial⟩
theorem wt_set {α : Type} (f : α → Nat) (L : List α) (k : Nat) (x y : α) (hk : L[k]? = some x) (h : f y = f x) : wtAll f (L.set k y) = wtAll f L := by
  unfold wtAll
  rw [List.length_set, List.map_set, h]
  congr 2
  apply List.ext_getElem?
  intro i
  rw [List.getElem?_set]
  split
  · rename_i e
    subst e
    split
    · rw [List.getElem?_map, hk]; rfl
    · rename_i e; exact absurd (by rw [List.length_map]; exact (List.getElem?_eq_some_iff.1 hk).1) e
  · rfl
theorem wt_seal (X : DiskD) (name : Int) : wtDisk ((DiskD.sealF X name).getD X) = wtDisk X := by
  cases h : DiskD.file X name with
  | none => rw [DiskD.sealF_none h]; rfl
  | some kf =>
    obtain ⟨k, f⟩ := kf
    rw [DiskD.sealF_eq h]
    split
    · rfl
    · exact wt_set wtFile X.fFiles k f _ (DiskD.file_get h) rfl
end Go.Proofs.YtlnjgoommpeioaaDoor
