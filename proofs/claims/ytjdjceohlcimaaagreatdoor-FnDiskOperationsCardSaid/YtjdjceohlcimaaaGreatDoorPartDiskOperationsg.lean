/- Texts joined: AppendS FindI AppendI BlkMany DeleteS IdxI Erase DelFnI DeleteI SameRows EqRowsS. -/
import Derived.Test.YtjdjceohlcimaaaGreatDoorPartDiskOperationsf
import Derived.Deep.CutRange
import Derived.Maps.AppendAt
import Derived.Lib.SliceRun
import Derived.Deep.QuietTactic
import Derived.BigQuiet
import Derived.StillTailTactics
import Derived.Laws.StructEq
/- The reference's AppendPage, by contract. -/
namespace Go.Proofs.YtjdjceohlcimaaaGreatDoor
open Go.RowKit
set_option linter.unusedVariables false
set_option maxRecDepth 100000 in
set_option maxHeartbeats 4000000 in
theorem sappend0 (a : Option Addr) (n c : Nat) (X : DiskD) (name : Int) (ap : Option Addr) (np cp : Nat) (p : List R) (w : World) (h : diskRep.inn w X ((a, n, c), ())) (hp : pageRep.inn w p (ap, np, cp)) (hw : wtDisk X ≤ 1000000000) (hwp : wtPage p ≤ 1000000000) (Y : DiskD) (b : Bool)
    (HR : Hid (∀ r, DiskD.appendTo X name p = r → Y = r.getD X ∧ b = r.isSome)) :
    Calls Tryz.prog 7 #[.agg #[.slice a n c, .int .i64 X.fNextName], .int .i64 name, .agg #[.slice ap np cp]] w (DiskAnd Y [.bool b] w) := by
  obtain ⟨W, hW⟩ : ∃ W, W = ((w.alloc (.cells #[.slice a n c, .int .i64 X.fNextName] 26)).alloc (.cells #[.slice ap np cp] 29)).alloc (.cells #[.slice none 0 0, .int .i64 0] 26) := ⟨_, rfl⟩
  obtain ⟨hz, b0, k0, k1, k2⟩ := boxes3 w W hW
  have HZ := Lib.hid hz
  have B0 := Lib.hid b0
  have K0 := Lib.hid k0
  have K1 := Lib.hid k1
  have K2 := Lib.hid k2
  have HI := Lib.hid (h.keep b0)
  have HP := Lib.hid ((pageRep.inn_keep hp b0).1)
  have HPC : Hid (ap = none → cp = 0) := Lib.hid hp.2
  have HW := Lib.hid hw
  have HNX := Lib.hid (disk_in h).2.2
  have HL := Lib.hid (disk_len h).1
  have hnp : np ≤ 1000000000 := by
    have h1 := hp.1.1
    have h2 : wtPage p = p.length := rfl
    have h3 : p.length = np := h1
    omega
  have hnm := (disk_len h).2
  unfold maxLen at hnm
  have FF : Hid (∀ v, Kept W.heap.size W v → v.cell? ⟨w.heap.size, 0, none⟩ = some (.slice a n c) ∧ v.cell? ⟨w.heap.size, 1, none⟩ = some (.int .i64 X.fNextName) ∧ v.cell? ⟨w.heap.size + 1, 0, none⟩ = some (.slice ap np cp) ∧
      v.cell? ⟨w.heap.size + 2, 0, none⟩ = some (.slice none 0 0) ∧ v.cell? ⟨w.heap.size + 2, 1, none⟩ = some (.int .i64 0) ∧ ∀ j, v.frozen? ⟨w.heap.size + 2, j, none⟩ = false) := Lib.hid fun v hv =>
    ⟨hv.cell (by omega) (box_cell k0 0 _ rfl), hv.cell (by omega) (box_cell k0 1 _ rfl), hv.cell (by omega) (box_cell k1 0 _ rfl), hv.cell (by omega) (box_cell k2 0 _ rfl), hv.cell (by omega) (box_cell k2 1 _ rfl), fun j => hv.frozen (by omega) (by simp [World.frozen?, k2])⟩
  clear h hp b0 k0 k1 k2 hz hw hwp
  go_enter Tryz.func7, Tryz.ntmps7
  go_wp2_with fail
  rw [← hW]
  clear hW
  refine (scopy a n c X W HI.out HW.out).mono ?_
  rintro e w1 ⟨a1, n1, c1, G1, rfl, hd1, b1⟩
  obtain ⟨fs, rfl, hfs, hst⟩ := dop_start hd1 b1
  have HFS := Lib.hid hfs
  obtain ⟨xb, hxb⟩ : ∃ g, g = w1.heap.size := ⟨_, rfl⟩
  obtain ⟨w2, hw2⟩ : ∃ u, u = w1.alloc (.cells #[.slice a1 fs.length c1, .int .i64 X.fNextName] 26) := ⟨_, rfl⟩
  have D2 := Lib.hid (hst xb w2 hxb hw2)
  obtain ⟨p0, p1, -⟩ := FF.out _ D2.out.kept
  clear hd1 b1 hst hfs
  go_upto_region 2 with fail
  rw [← hxb, ← hw2]
  clear hw2 hxb
  go_wp2_with fail
  clear p0 p1
  refine (sat a n c X name w2 (HI.out.keep ⟨D2.out.kept.1.os, D2.out.kept.1.tape, D2.out.kept.1.output, D2.out.kept.1.size, D2.out.kept.1.block⟩)).mono ?_
  rintro e w3 ⟨rfl, b3⟩
  have D3 := Lib.hid (D2.out.below b3)
  obtain ⟨p0, p1, -⟩ := FF.out _ D3.out.kept
  obtain ⟨ki, hki⟩ : ∃ i, i = DiskD.atI X.fFiles name := ⟨_, rfl⟩
  rw [← hki]
  have HK := Lib.hid hki
  clear b3 hki
  go_wp2_with fail
  clear p0 p1
  refine (sokdisk a n c X w3 (HI.out.keep D3.out.kept.1) HW.out).mono ?_
  rintro e w4 ⟨rfl, b4⟩
  have D4 := Lib.hid (D3.out.below b4)
  obtain ⟨p0, p1, p2, r0, r1, rf⟩ := FF.out _ D4.out.kept
  obtain ⟨x0, x1, -⟩ := D4.out.x
  clear b4
  cases hok : DiskD.okD X with
  | false =>
    have hno := DiskD.appendTo_none (name := name) (p := p) (DiskD.file_bad hok)
    have hY : X = Y := (HR.out _ hno).1.symm
    have hb : b = false := (HR.out _ hno).2
    subst hb
    subst hY
    clear hno
    clear hok
    go_wp2_with fail
    refine bodyPost_ret (v := .tuple #[.agg #[.slice a1 fs.length c1, .int .i64 X.fNextName], .bool false]) (by simp [results, Tryz.results7, go_sem, *]) rfl ?_
    exact disk_done (vs := [.bool false]) B0.out (D4.out.disk HFS.out HNX.out) D4.out.kept (by omega) (by have := HZ.out; omega) _ _
  | true =>
    have HOK := Lib.hid hok
    clear hok
    cases hat : DiskD.at? X.fFiles name with
    | none =>
      have hno := DiskD.appendTo_none (p := p) (DiskD.file_none hat)
      have hY : X = Y := (HR.out _ hno).1.symm
      have hb : b = false := (HR.out _ hno).2
      subst hb
      subst hY
      clear hno
      have hk1 : ki = -1 := by rw [HK.out]; unfold DiskD.atI; rw [hat]
      subst hk1
      clear hat
      go_wp2_with fail
      refine bodyPost_ret (v := .tuple #[.agg #[.slice a1 fs.length c1, .int .i64 X.fNextName], .bool false]) (by simp [results, Tryz.results7, go_sem, *]) rfl ?_
      exact disk_done (vs := [.bool false]) B0.out (D4.out.disk HFS.out HNX.out) D4.out.kept (by omega) (by have := HZ.out; omega) _ _
    | some k =>
      obtain ⟨f, hf, hfn⟩ := DiskD.at_some hat
      have hfile := DiskD.file_some HOK.out hat hf
      have hk1 : ki = k := by rw [HK.out]; unfold DiskD.atI; rw [hat]
      subst hk1
      have HFILE := Lib.hid hfile
      have HAE := Lib.hid (DiskD.appendTo_eq (p := p) hfile)
      obtain ⟨bb, o, hd, rfl, hbl, hce, hin⟩ := (disk_in HI.out).1.el hf
      have hkl : k < n := by have := idx_lt hf; have := HL.out; omega
      have HF := Lib.hid hf
      obtain ⟨f0, f1, f2, f3⟩ := f
      obtain ⟨⟨fa, fn, fc⟩, ⟨⟩⟩ := hd
      have CF : Hid (∀ v, Kept W.heap.size W v → v.cell? ⟨bb, o + k * 4 + 3, none⟩ = some (.bool f3)) := Lib.hid fun v hv => hv.cell hbl (hce 3 _ rfl)
      have cf := CF.out _ D4.out.kept
      clear hat hfile hce hin hf hfn
      cases f3 with
      | true =>
        have hno := (HAE.out.trans (if_neg (by simp)))
        have hY : X = Y := (HR.out _ hno).1.symm
        have hb : b = false := (HR.out _ hno).2
        subst hb
        subst hY
        clear hno
        go_wp2_with fail
        refine bodyPost_ret (v := .tuple #[.agg #[.slice a1 fs.length c1, .int .i64 X.fNextName], .bool false]) (by simp [results, Tryz.results7, go_sem, *]) rfl ?_
        exact disk_done (vs := [.bool false]) B0.out (D4.out.disk HFS.out HNX.out) D4.out.kept (by omega) (by have := HZ.out; omega) _ _
      | false =>
        go_wp2_with fail
        clear p0 p1 p2 r0 r1 rf x0 x1 cf
        refine (svalidpage ap np cp p w4 (HP.out.keep D4.out.kept.1) (by omega)).mono ?_
        rintro e w5 ⟨rfl, b5⟩
        have D5 := Lib.hid (D4.out.below b5)
        obtain ⟨p0, p1, p2, r0, r1, rf⟩ := FF.out _ D5.out.kept
        obtain ⟨x0, x1, -⟩ := D5.out.x
        clear b5
        cases hpo : R.pageOk p with
        | false =>
          have hno := (HAE.out.trans (if_neg (by rw [hpo]; simp)))
          have hY : X = Y := (HR.out _ hno).1.symm
          have hb : b = false := (HR.out _ hno).2
          subst hb
          subst hY
          clear hno
          clear hpo
          go_wp2_with fail
          refine bodyPost_ret (v := .tuple #[.agg #[.slice a1 fs.length c1, .int .i64 X.fNextName], .bool false]) (by simp [results, Tryz.results7, go_sem, *]) rfl ?_
          exact disk_done (vs := [.bool false]) B0.out (D5.out.disk HFS.out HNX.out) D5.out.kept (by omega) (by have := HZ.out; omega) _ _
        | true =>
          have HPO := Lib.hid hpo
          clear hpo
          go_wp2_with fail
          clear p0 p1 p2 r0 r1 rf x0 x1
          refine (scountp _ n c X w5 (HI.out.keep D5.out.kept.1) HW.out).mono ?_
          rintro e w6 ⟨rfl, b6⟩
          have D6 := Lib.hid (D5.out.below b6)
          obtain ⟨p0, p1, p2, r0, r1, rf⟩ := FF.out _ D6.out.kept
          obtain ⟨x0, x1, xf⟩ := D6.out.x
          clear b6
          obtain ⟨m, hm⟩ : ∃ m, m = DiskD.count X.fFiles := ⟨_, rfl⟩
          rw [← hm]
          by_cases hfull : (m : Int) = 40
          · have hm40 : DiskD.count X.fFiles = 40 := by omega
            have hno := (HAE.out.trans (if_neg (by rw [hm40]; simp)))
            have hY : X = Y := (HR.out _ hno).1.symm
            have hb : b = false := (HR.out _ hno).2
            subst hb
            subst hY
            clear hno
            clear hm hm40
            go_wp2_with fail
            refine bodyPost_ret (v := .tuple #[.agg #[.slice a1 fs.length c1, .int .i64 X.fNextName], .bool false]) (by simp [results, Tryz.results7, go_sem, *]) rfl ?_
            exact disk_done (vs := [.bool false]) B0.out (D6.out.disk HFS.out HNX.out) D6.out.kept (by omega) (by have := HZ.out; omega) _ _
          · have hm40 : DiskD.count X.fFiles ≠ 40 := by omega
            have hyes := (HAE.out.trans (if_pos (by rw [HPO.out, decide_eq_true hm40]; rfl)))
            have hY := (HR.out _ hyes).1
            have hb : b = true := (HR.out _ hyes).2
            subst hb
            have HYE := Lib.hid hY
            have hfl2 : ((m : Int) == 40) = false := by simpa using hfull
            clear hyes hm hm40 hY hfull
            have hkf : k < fs.length := by have := idx_lt HF.out; rw [HFS.out, List.length_map] at this; exact this
            obtain ⟨g, c1', ea, hgB, hgl, -, -⟩ := D6.out.blk.addr (by omega)
            injection ea with ea1 ea2 ea3
            subst ea1 ea3
            clear ea2
            obtain ⟨e, he⟩ : ∃ e, fs[k]? = some e := ⟨fs[k], by simp [hkf]⟩
            have hex : e.x = ⟨f0, f1, f2, false⟩ := by
              have h1 := HF.out
              rw [HFS.out, List.getElem?_map, he] at h1
              exact Option.some.inj h1
            obtain ⟨ex, ⟨⟨pa, pn, pc⟩, ⟨⟩⟩, eG⟩ := e
            simp only at hex
            subst hex
            have hbe := D6.out.blk.all _ (List.mem_of_getElem? he)
            obtain ⟨ps, hps, hpl, heG, hf0, hf2⟩ := of_file_blk hbe
            obtain ⟨rfl, -⟩ := hpl.caps
            have HE := Lib.hid he
            have HPS := Lib.hid (show f1 = ps.map BEl.x from hps)
            have HPL := Lib.hid hpl
            have HEG := Lib.hid (show eG = blkOf (.slice pa ps.length pc) ++ gsOf ps from heG)
            have HF0 := Lib.hid (show I64 f0 from hf0)
            have HF2 := Lib.hid (show I64 f2 from hf2)
            have hcell1 := D6.out.blk.cell he 1 (.slice pa ps.length pc) rfl
            have hcell : w6.cell? ⟨g, k * 4 + 1, none⟩ = some (.slice pa ps.length pc) := hcell1
            have HGG : Hid (∀ z ∈ blkOf (.slice pa ps.length pc) ++ gsOf ps, z ∈ gsOf fs) := Lib.hid fun z hz => mem_gs.2 ⟨_, List.mem_of_getElem? HE.out, by rw [HEG.out]; exact hz⟩
            have HGN : Hid (g ∉ gsOf fs) := Lib.hid (by
              have h1 := D6.out.blk.nodup
              rw [blkOf_some, List.singleton_append, List.nodup_cons] at h1
              exact h1.1)
            have HXN : Hid (xb ∉ gsOf fs ∧ xb ≠ g) := Lib.hid ⟨fun hm => D6.out.out (List.mem_append_right _ hm), fun e => D6.out.out (List.mem_append_left _ (by rw [blkOf_some, e]; exact List.mem_singleton.2 rfl))⟩
            have hps1 : ps.length ≤ 1000000000 := by
              have h1 := DiskD.count_mem (List.mem_of_getElem? HF.out)
              have h2 := DiskD.count_wt X.fFiles
              have h3 : wtDisk X = wtFiles X.fFiles := rfl
              have h4 := HW.out
              have h5 : f1.length = ps.length := by rw [show f1 = ps.map BEl.x from hps, List.length_map]
              simp only at h1
              omega
            have MZ := Lib.hid (mine_zero w6 w6.heap.size (Nat.le_refl _))
            have KZ := Lib.hid (show Kept w6.heap.size w6 (w6.alloc (.cells #[] 72)).drew from (Kept.refl (Nat.le_refl _)).drew.alloc _)
            have RZ : Hid (IsRows (w6.alloc (.cells #[] 72)).drew ap np p) := Lib.hid (((rows_in HP.out).keep D6.out.kept.1).keep KZ.out.1)
            have HBZ : Hid (w6.heap.size ≤ (w6.alloc (.cells #[] 72)).drew.heap.size) := Lib.hid KZ.out.1.size
            have HMZ : Hid (([] : List R).length + np ≤ 1000000000000) := Lib.hid (by simp; omega)
            have HWF := Lib.hid (rows_in HP.out).2.1
            have HPE : Hid (p.length = np) := Lib.hid HP.out.1
            have HFEW : Hid (ps.length + 1 ≤ 1000000000000) := Lib.hid (by omega)
            have HLOW := Lib.hid D6.out.kept.2
            have KS : Hid (∀ v, Kept w6.heap.size w6 v → v.cell? ⟨xb, 0, none⟩ = some (.slice (some ⟨g, 0, none⟩) fs.length c1) ∧ v.cell? ⟨g, k * 4 + 1, none⟩ = some (.slice pa ps.length pc) ∧ v.cell? ⟨w.heap.size + 1, 0, none⟩ = some (.slice ap np cp)) := Lib.hid fun v hv =>
              ⟨hv.cell (lt_of_block D6.out.box) D6.out.x.1, hv.cell hgl hcell, hv.cell (by have := D6.out.kept.2; have := HZ.out; omega) (FF.out _ D6.out.kept).2.2.1⟩
            have AFT : Hid (∀ (a7 : Option Addr) (c7 : Nat) (w7 w8 : World), PageIn W.heap.size w6 (.slice pa ps.length pc) ps p a7 np c7 w7 → (w7.alloc (.cells #[.slice a7 np c7] 29)).grownBy w8 (Value.slice pa ps.length pc).ownBlock →
                (w8.cell? ⟨xb, 0, none⟩ = some (.slice (some ⟨g, 0, none⟩) fs.length c1) ∧ w8.cell? ⟨g, k * 4 + 1, none⟩ = some (.slice pa ps.length pc) ∧ w8.cell? ⟨w.heap.size + 1, 0, none⟩ = some (.slice ap np cp)) ∧ w8.frozen? ⟨g, k * 4 + 1, none⟩ = false ∧ w8.heap[xb]? = some (.cells #[.slice (some ⟨g, 0, none⟩) fs.length c1, .int .i64 X.fNextName] 26 (0, 0)) ∧
                (∀ z, z < w6.heap.size → z ∉ eG → w8.heap[z]? = w6.heap[z]?) ∧ Kept W.heap.size W w8) := Lib.hid fun a7 c7 w7 w8 hP hg => by
              have hk := hP.k7
              have hrow : ∀ z, (Value.slice pa ps.length pc).ownBlock = some z → z ∈ eG := fun z hz => by rw [HEG.out]; exact List.mem_append_left _ (blkOf_mem.2 hz)
              have hsame : ∀ z, z < w6.heap.size → z ∉ eG → w8.heap[z]? = w6.heap[z]? := fun z hz hn => (hg.block z (Nat.lt_of_lt_of_le hz hk.2) fun e => hn (hrow z e.symm)).trans (hk.1.block z hz)
              have heg : ∀ z ∈ eG, z ∈ gsOf fs := fun z hz => HGG.out z (by rw [← HEG.out]; exact hz)
              have hg8 := hsame g hgl fun hm => HGN.out (heg g hm)
              have hx8 := (hsame xb (lt_of_block D6.out.box) fun hm => HXN.out.1 (heg xb hm)).trans D6.out.box
              have hp8 := hsame (w.heap.size + 1) (by have := D6.out.kept.2; have := HZ.out; omega) fun hm => by
                have := (D6.out.blk.lt _ (List.mem_append_right _ (heg _ hm))).1
                have := HZ.out
                omega
              exact ⟨⟨box_cell hx8 0 _ rfl, (World.cell?_of_block hg8).trans hcell, (World.cell?_of_block hp8).trans (FF.out _ D6.out.kept).2.2.1⟩, (World.frozen?_of_block hg8).trans (D6.out.blk.frozen _), hx8, hsame,
                D6.out.kept.trans (((hk.mono HLOW.out)).grown hg fun z hz => (D6.out.blk.lt z (List.mem_append_right _ (heg z (hrow z hz)))).1)⟩
            have hki1 : (k : Int) < fs.length := by omega
            have hki0 : (0 : Int) ≤ k := by omega
            clear he hbe hps hpl heG hf0 hf2 hcell1
            go_wp2_with fail
            clear p0 p1 p2 r0 r1 rf x0 x1 xf hcell
            refine region_plan (fun v => v.cell? ⟨xb, 0, none⟩ = some (.slice (some ⟨g, 0, none⟩) fs.length c1) ∧ v.cell? ⟨g, k * 4 + 1, none⟩ = some (.slice pa ps.length pc) ∧ v.cell? ⟨w.heap.size + 1, 0, none⟩ = some (.slice ap np cp)) (Pl.of [.q 0, .q 1, .q 2, .q 3, .q 4, .q 5, .q 6, .q 7, .q 8, .q 10, .q 11, .m 9, .m 12, .q 13, .m 14, .m 15, .q 16, .q 17]) [18] (by kernel_rfl) (by kernel_rfl) (KS.out _ (Kept.refl (Nat.le_refl _)).drew) (fun hHeld => ?_)
            first | (refine pi_take (v := ?pv1_0) rfl (fun _ _ _ h => h) (by rfl) (fun v hv => ?pr1_0) ?rest1_0; case pr1_0 => (obtain ⟨d0, d1, d2⟩ := hv; go_simp; first | done | with_reducible rfl)) | (refine pi_pass rfl (fun _ _ _ h => h) (by rfl) ?_)
            try simp only [Act.put, List.setIfInBounds_toArray, List.set_cons_zero, List.set_cons_succ]
            first | (refine pi_take (v := ?pv1_1) rfl (fun _ _ _ h => h) (by rfl) (fun v hv => ?pr1_1) ?rest1_1; case pr1_1 => (obtain ⟨d0, d1, d2⟩ := hv; go_simp; first | done | with_reducible rfl)) | (refine pi_pass rfl (fun _ _ _ h => h) (by rfl) ?_)
            try simp only [Act.put, List.setIfInBounds_toArray, List.set_cons_zero, List.set_cons_succ]
            first | (refine pi_take (v := ?pv1_2) rfl (fun _ _ _ h => h) (by rfl) (fun v hv => ?pr1_2) ?rest1_2; case pr1_2 => (obtain ⟨d0, d1, d2⟩ := hv; go_simp; first | done | with_reducible rfl)) | (refine pi_pass rfl (fun _ _ _ h => h) (by rfl) ?_)
            try simp only [Act.put, List.setIfInBounds_toArray, List.set_cons_zero, List.set_cons_succ]
            first | (refine pi_take (v := ?pv1_3) rfl (fun _ _ _ h => h) (by rfl) (fun v hv => ?pr1_3) ?rest1_3; case pr1_3 => (obtain ⟨d0, d1, d2⟩ := hv; go_simp; first | done | with_reducible rfl)) | (refine pi_pass rfl (fun _ _ _ h => h) (by rfl) ?_)
            try simp only [Act.put, List.setIfInBounds_toArray, List.set_cons_zero, List.set_cons_succ]
            first | (refine pi_take (v := ?pv1_4) rfl (fun _ _ _ h => h) (by rfl) (fun v hv => ?pr1_4) ?rest1_4; case pr1_4 => (obtain ⟨d0, d1, d2⟩ := hv; go_simp; first | done | with_reducible rfl)) | (refine pi_pass rfl (fun _ _ _ h => h) (by rfl) ?_)
            try simp only [Act.put, List.setIfInBounds_toArray, List.set_cons_zero, List.set_cons_succ]
            first | (refine pi_take (v := ?pv1_5) rfl (fun _ _ _ h => h) (by rfl) (fun v hv => ?pr1_5) ?rest1_5; case pr1_5 => (obtain ⟨d0, d1, d2⟩ := hv; go_simp; first | done | with_reducible rfl)) | (refine pi_pass rfl (fun _ _ _ h => h) (by rfl) ?_)
            try simp only [Act.put, List.setIfInBounds_toArray, List.set_cons_zero, List.set_cons_succ]
            first | (refine pi_take (v := ?pv1_6) rfl (fun _ _ _ h => h) (by rfl) (fun v hv => ?pr1_6) ?rest1_6; case pr1_6 => (obtain ⟨d0, d1, d2⟩ := hv; go_simp; first | done | with_reducible rfl)) | (refine pi_pass rfl (fun _ _ _ h => h) (by rfl) ?_)
            try simp only [Act.put, List.setIfInBounds_toArray, List.set_cons_zero, List.set_cons_succ]
            first | (refine pi_take (v := ?pv1_7) rfl (fun _ _ _ h => h) (by rfl) (fun v hv => ?pr1_7) ?rest1_7; case pr1_7 => (obtain ⟨d0, d1, d2⟩ := hv; go_simp; first | done | with_reducible rfl)) | (refine pi_pass rfl (fun _ _ _ h => h) (by rfl) ?_)
            try simp only [Act.put, List.setIfInBounds_toArray, List.set_cons_zero, List.set_cons_succ]
            first | (refine pi_take (v := ?pv1_8) rfl (fun _ _ _ h => h) (by rfl) (fun v hv => ?pr1_8) ?rest1_8; case pr1_8 => (obtain ⟨d0, d1, d2⟩ := hv; go_simp; first | done | with_reducible rfl)) | (refine pi_pass rfl (fun _ _ _ h => h) (by rfl) ?_)
            try simp only [Act.put, List.setIfInBounds_toArray, List.set_cons_zero, List.set_cons_succ]
            first | (refine pi_take (v := ?pv1_10) rfl (fun _ _ _ h => h) (by rfl) (fun v hv => ?pr1_10) ?rest1_10; case pr1_10 => (obtain ⟨d0, d1, d2⟩ := hv; go_simp; first | done | with_reducible rfl)) | (refine pi_pass rfl (fun _ _ _ h => h) (by rfl) ?_)
            try simp only [Act.put, List.setIfInBounds_toArray, List.set_cons_zero, List.set_cons_succ]
            first | (refine pi_take (v := ?pv1_11) rfl (fun _ _ _ h => h) (by rfl) (fun v hv => ?pr1_11) ?rest1_11; case pr1_11 => (obtain ⟨d0, d1, d2⟩ := hv; go_simp; first | done | with_reducible rfl)) | (refine pi_pass rfl (fun _ _ _ h => h) (by rfl) ?_)
            try simp only [Act.put, List.setIfInBounds_toArray, List.set_cons_zero, List.set_cons_succ]
            refine pi_step rfl (fun K hK => ?_)
            go_simp
            refine hK.out _ _ (by first | exact hT8.out.1 | exact KS.out _ hS7.out.kept | exact ⟨Lib.cell?_alloc_some _ hHeld.1, Lib.cell?_alloc_some _ hHeld.2.1, Lib.cell?_alloc_some _ hHeld.2.2⟩) (fun hHeld2 => ?_)
            clear hK K hHeld
            have hHeld := hHeld2
            clear hHeld2
            try simp only [Act.put, List.setIfInBounds_toArray, List.set_cons_zero, List.set_cons_succ]
            refine pi_step rfl (fun K hK => ?_)
            first | (first | (refine step_appendRows (M := []) (L := p) (w := (w6.alloc (.cells #[] 72)).drew) (.tmp 50) (.tmp 52) ap np cp (by rfl) (by rfl) (by rfl) (by rfl) MZ.out.drew RZ.out HPC.out HBZ.out HMZ.out ?_; intro v7 w7 hm7 hg7; obtain ⟨a7, c7, rfl, hP7⟩ := page_in (B := W.heap.size) hm7 hg7 HPE.out HWF.out HPL.out HLOW.out HFEW.out; have hS7 := Lib.hid hP7; clear hm7 hg7 hP7) | (refine step_pushE pageE (w := w7.alloc (.cells #[.slice a7 np c7] 29)) (es := ps) (v := .slice pa ps.length pc) ⟨p, (a7, np, c7), blkOf (.slice a7 np c7)⟩ (.tmp 49) (.tmp 55) ⟨w7.heap.size, 0, none⟩ (by rfl) (by rfl) (by rfl) (by rfl) hS7.out.cells hS7.out.pages hS7.out.elem hS7.out.apart hS7.out.base hS7.out.few ?_; intro g8 c8 w8 hm8 hg8 hat8; have hT8 := Lib.hid (AFT.out a7 c7 w7 w8 hS7.out hg8); have hM8 := Lib.hid hm8; have hA8 := Lib.hid hat8; obtain ⟨-, u0, -⟩ := hT8.out.1; have u1 := hT8.out.2.1; have HSZ := Lib.hid hg8.size; clear hm8 hg8 hat8)) | (go_simp; first | (refine step_appendRows (M := []) (L := p) (w := (w6.alloc (.cells #[] 72)).drew) (.tmp 50) (.tmp 52) ap np cp (by rfl) (by rfl) (by rfl) (by rfl) MZ.out.drew RZ.out HPC.out HBZ.out HMZ.out ?_; intro v7 w7 hm7 hg7; obtain ⟨a7, c7, rfl, hP7⟩ := page_in (B := W.heap.size) hm7 hg7 HPE.out HWF.out HPL.out HLOW.out HFEW.out; have hS7 := Lib.hid hP7; clear hm7 hg7 hP7) | (refine step_pushE pageE (w := w7.alloc (.cells #[.slice a7 np c7] 29)) (es := ps) (v := .slice pa ps.length pc) ⟨p, (a7, np, c7), blkOf (.slice a7 np c7)⟩ (.tmp 49) (.tmp 55) ⟨w7.heap.size, 0, none⟩ (by rfl) (by rfl) (by rfl) (by rfl) hS7.out.cells hS7.out.pages hS7.out.elem hS7.out.apart hS7.out.base hS7.out.few ?_; intro g8 c8 w8 hm8 hg8 hat8; have hT8 := Lib.hid (AFT.out a7 c7 w7 w8 hS7.out hg8); have hM8 := Lib.hid hm8; have hA8 := Lib.hid hat8; obtain ⟨-, u0, -⟩ := hT8.out.1; have u1 := hT8.out.2.1; have HSZ := Lib.hid hg8.size; clear hm8 hg8 hat8))
            refine hK.out _ _ (by first | exact hT8.out.1 | exact KS.out _ hS7.out.kept | exact ⟨Lib.cell?_alloc_some _ hHeld.1, Lib.cell?_alloc_some _ hHeld.2.1, Lib.cell?_alloc_some _ hHeld.2.2⟩) (fun hHeld2 => ?_)
            clear hK K hHeld
            have hHeld := hHeld2
            clear hHeld2
            try simp only [Act.put, List.setIfInBounds_toArray, List.set_cons_zero, List.set_cons_succ]
            first | (refine pi_take (v := ?pv1_13) rfl (fun _ _ _ h => h) (by rfl) (fun v hv => ?pr1_13) ?rest1_13; case pr1_13 => (obtain ⟨d0, d1, d2⟩ := hv; go_simp; first | done | with_reducible rfl)) | (refine pi_pass rfl (fun _ _ _ h => h) (by rfl) ?_)
            try simp only [Act.put, List.setIfInBounds_toArray, List.set_cons_zero, List.set_cons_succ]
            refine pi_step rfl (fun K hK => ?_)
            go_simp
            refine hK.out _ _ (by first | exact hT8.out.1 | exact KS.out _ hS7.out.kept | exact ⟨Lib.cell?_alloc_some _ hHeld.1, Lib.cell?_alloc_some _ hHeld.2.1, Lib.cell?_alloc_some _ hHeld.2.2⟩) (fun hHeld2 => ?_)
            clear hK K hHeld
            have hHeld := hHeld2
            clear hHeld2
            try simp only [Act.put, List.setIfInBounds_toArray, List.set_cons_zero, List.set_cons_succ]
            refine pi_step rfl (fun K hK => ?_)
            first | (first | (refine step_appendRows (M := []) (L := p) (w := (w6.alloc (.cells #[] 72)).drew) (.tmp 50) (.tmp 52) ap np cp (by rfl) (by rfl) (by rfl) (by rfl) MZ.out.drew RZ.out HPC.out HBZ.out HMZ.out ?_; intro v7 w7 hm7 hg7; obtain ⟨a7, c7, rfl, hP7⟩ := page_in (B := W.heap.size) hm7 hg7 HPE.out HWF.out HPL.out HLOW.out HFEW.out; have hS7 := Lib.hid hP7; clear hm7 hg7 hP7) | (refine step_pushE pageE (w := w7.alloc (.cells #[.slice a7 np c7] 29)) (es := ps) (v := .slice pa ps.length pc) ⟨p, (a7, np, c7), blkOf (.slice a7 np c7)⟩ (.tmp 49) (.tmp 55) ⟨w7.heap.size, 0, none⟩ (by rfl) (by rfl) (by rfl) (by rfl) hS7.out.cells hS7.out.pages hS7.out.elem hS7.out.apart hS7.out.base hS7.out.few ?_; intro g8 c8 w8 hm8 hg8 hat8; have hT8 := Lib.hid (AFT.out a7 c7 w7 w8 hS7.out hg8); have hM8 := Lib.hid hm8; have hA8 := Lib.hid hat8; obtain ⟨-, u0, -⟩ := hT8.out.1; have u1 := hT8.out.2.1; have HSZ := Lib.hid hg8.size; clear hm8 hg8 hat8)) | (go_simp; first | (refine step_appendRows (M := []) (L := p) (w := (w6.alloc (.cells #[] 72)).drew) (.tmp 50) (.tmp 52) ap np cp (by rfl) (by rfl) (by rfl) (by rfl) MZ.out.drew RZ.out HPC.out HBZ.out HMZ.out ?_; intro v7 w7 hm7 hg7; obtain ⟨a7, c7, rfl, hP7⟩ := page_in (B := W.heap.size) hm7 hg7 HPE.out HWF.out HPL.out HLOW.out HFEW.out; have hS7 := Lib.hid hP7; clear hm7 hg7 hP7) | (refine step_pushE pageE (w := w7.alloc (.cells #[.slice a7 np c7] 29)) (es := ps) (v := .slice pa ps.length pc) ⟨p, (a7, np, c7), blkOf (.slice a7 np c7)⟩ (.tmp 49) (.tmp 55) ⟨w7.heap.size, 0, none⟩ (by rfl) (by rfl) (by rfl) (by rfl) hS7.out.cells hS7.out.pages hS7.out.elem hS7.out.apart hS7.out.base hS7.out.few ?_; intro g8 c8 w8 hm8 hg8 hat8; have hT8 := Lib.hid (AFT.out a7 c7 w7 w8 hS7.out hg8); have hM8 := Lib.hid hm8; have hA8 := Lib.hid hat8; obtain ⟨-, u0, -⟩ := hT8.out.1; have u1 := hT8.out.2.1; have HSZ := Lib.hid hg8.size; clear hm8 hg8 hat8))
            refine hK.out _ _ (by first | exact hT8.out.1 | exact KS.out _ hS7.out.kept | exact ⟨Lib.cell?_alloc_some _ hHeld.1, Lib.cell?_alloc_some _ hHeld.2.1, Lib.cell?_alloc_some _ hHeld.2.2⟩) (fun hHeld2 => ?_)
            clear hK K hHeld
            have hHeld := hHeld2
            clear hHeld2
            try simp only [Act.put, List.setIfInBounds_toArray, List.set_cons_zero, List.set_cons_succ]
            first | (refine pi_take (v := ?pv1_16) rfl (fun _ _ _ h => h) (by rfl) (fun v hv => ?pr1_16) ?rest1_16; case pr1_16 => (obtain ⟨d0, d1, d2⟩ := hv; go_simp; first | done | with_reducible rfl)) | (refine pi_pass rfl (fun _ _ _ h => h) (by rfl) ?_)
            try simp only [Act.put, List.setIfInBounds_toArray, List.set_cons_zero, List.set_cons_succ]
            first | (refine pi_take (v := ?pv1_17) rfl (fun _ _ _ h => h) (by rfl) (fun v hv => ?pr1_17) ?rest1_17; case pr1_17 => (obtain ⟨d0, d1, d2⟩ := hv; go_simp; first | done | with_reducible rfl)) | (refine pi_pass rfl (fun _ _ _ h => h) (by rfl) ?_)
            try simp only [Act.put, List.setIfInBounds_toArray, List.set_cons_zero, List.set_cons_succ]
            refine pi_end ?_
            refine z_step rfl (fun K hK => ?_)
            go_simp
            refine hK.out _ _ ?_
            clear hK K
            try simp only [Act.put, List.setIfInBounds_toArray, List.set_cons_zero, List.set_cons_succ]
            refine z_end ?_
            clear hHeld
            obtain ⟨w9, hw9⟩ : ∃ u, u = w8.setCell ⟨g, k * 4 + 1, none⟩ (.slice (some ⟨g8, 0, none⟩) (ps.length + 1) c8) := ⟨_, rfl⟩
            have hchg := D6.out.blk.change (w' := w8) (k := k) (j := 1) HE.out (by show 1 < 4; decide) (.slice (some ⟨g8, 0, none⟩) (ps.length + 1) c8) ⟨⟨f0, f1 ++ [p], f2, false⟩, ((some ⟨g8, 0, none⟩, ps.length + 1, c8), ()), blkOf (.slice (some ⟨g8, 0, none⟩) (ps.length + 1) c8) ++ gsOf (ps ++ [(⟨p, (a7, np, c7), blkOf (.slice a7 np c7)⟩ : BEl rowsB)])⟩ rfl (Nat.le_trans hS7.out.k7.1.size HSZ.out) hT8.out.2.2.2.1
              (by
                have h1 := file_blk (x3 := false) hM8.out HF0.out HF2.out
                rw [List.map_append, ← HPS.out] at h1
                exact h1)
              (fun z hz => by
                rw [blkOf_some, gs_snoc, List.singleton_append] at hz
                have hnew : ∀ y ∈ blkOf (.slice a7 np c7), w6.heap.size ≤ y := fun y hy => (rowsB.blk_lt hS7.out.rows y hy).1
                rcases List.mem_cons.1 hz with hz | hz
                · rcases hA8.out with h1 | h1
                  · left; rw [HEG.out]; exact List.mem_append_left _ (blkOf_mem.2 (by rw [h1, hz]))
                  · right
                    have h2 : z = g8 := hz
                    have h3 := hS7.out.k7.2
                    omega
                · rcases List.mem_append.1 hz with hz | hz
                  · left; rw [HEG.out]; exact List.mem_append_right _ hz
                  · right; exact hnew z hz)
            have hmap : (fs.set k ⟨⟨f0, f1 ++ [p], f2, false⟩, ((some ⟨g8, 0, none⟩, ps.length + 1, c8), ()), blkOf (.slice (some ⟨g8, 0, none⟩) (ps.length + 1) c8) ++ gsOf (ps ++ [(⟨p, (a7, np, c7), blkOf (.slice a7 np c7)⟩ : BEl rowsB)])⟩).map BEl.x = X.fFiles.set k ⟨f0, f1 ++ [p], f2, false⟩ := by rw [List.map_set, ← HFS.out]
            have hdd := disk_blk hchg HNX.out
            rw [hmap, show k * fileB.rep.size + 1 = k * 4 + 1 from rfl] at hdd
            have hne : g ≠ xb := fun e => HXN.out.2 e.symm
            have X9 : Hid (w9.heap[xb]? = some (.cells #[.slice (some ⟨g, 0, none⟩) fs.length c1, .int .i64 X.fNextName] 26 (0, 0))) := Lib.hid (by rw [hw9]; exact blk_far hT8.out.2.2.1 hne.symm)
            have K9 : Hid (Kept W.heap.size W w9) := Lib.hid (by rw [hw9]; exact hT8.out.2.2.2.2.set hgB _)
            rw [← hw9] at hdd ⊢
            have DD := Lib.hid hdd
            have y0 := box_cell X9.out 0 _ rfl
            have y1 := box_cell X9.out 1 _ rfl
            obtain ⟨-, -, -, r0, r1, rf⟩ := FF.out _ K9.out
            clear hchg hmap hdd hw9 u0 u1
            go_wp2_with fail
            refine bodyPost_ret (v := .tuple #[.agg #[.slice (some ⟨g, 0, none⟩) fs.length c1, .int .i64 X.fNextName], .bool true]) (by simp [results, Tryz.results7, go_sem, *]) rfl ?_
            rw [HYE.out]
            exact disk_done (Y := ⟨X.fFiles.set k ⟨f0, f1 ++ [p], f2, false⟩, X.fNextName⟩) (vs := [.bool true]) B0.out DD.out K9.out (by omega) (by have := HZ.out; omega) _ _
theorem sappend (a : Option Addr) (n c : Nat) (X : DiskD) (name : Int) (ap : Option Addr) (np cp : Nat) (p : List R) (w : World) (h : diskRep.inn w X ((a, n, c), ())) (hp : pageRep.inn w p (ap, np, cp)) (hw : wtDisk X ≤ 1000000000) (hwp : wtPage p ≤ 1000000000) :
    Calls Tryz.prog 7 #[.agg #[.slice a n c, .int .i64 X.fNextName], .int .i64 name, .agg #[.slice ap np cp]] w (DiskAnd ((DiskD.appendTo X name p).getD X) [.bool (DiskD.appendTo X name p).isSome] w) :=
  sappend0 a n c X name ap np cp p w h hp hw hwp _ _ fun r hr => by rw [hr]; exact ⟨rfl, rfl⟩
end Go.Proofs.YtjdjceohlcimaaaGreatDoor
/- The program's findFile, by contract. -/
namespace Go.Proofs.YtjdjceohlcimaaaGreatDoor
open Go.RowKit
set_option linter.unusedVariables false
def GivesFound (X : DiskD) (name : Int) (a : Option Addr) (w : World) (e : Ending) (w' : World) : Prop :=
  ((DiskD.file X name = none ∧ e = .returned (.tuple #[.pointer none, .bool false])) ∨ (∃ (k : Nat) (f : FileD) (b o : Nat), DiskD.file X name = some (k, f) ∧ X.fFiles[k]? = some f ∧ a = some ⟨b, o, none⟩ ∧ e = .returned (.tuple #[.pointer (some ⟨b, o + k * 4, none⟩), .bool true]))) ∧ Below w.heap.size w w'
set_option maxRecDepth 100000 in
set_option maxHeartbeats 1000000 in
theorem ifind (a : Option Addr) (n c : Nat) (X : DiskD) (name : Int) (w : World) (h : diskRep.inn w X ((a, n, c), ())) (hw : wtDisk X ≤ 1000000000) :
    Calls Tryz.prog 30 #[.agg #[.slice a n c, .int .i64 X.fNextName], .int .i64 name] w (GivesFound X name a w) := by
  obtain ⟨W, hW⟩ : ∃ W, W = w.alloc (.cells #[.slice a n c, .int .i64 X.fNextName] 26) := ⟨_, rfl⟩
  have hb : Below w.heap.size w W := by rw [hW]; exact (Below.refl _ _).alloc (Nat.le_refl _) _
  have k0 : W.heap[w.heap.size]? = some (.cells #[.slice a n c, .int .i64 X.fNextName] 26 (0, 0)) := by rw [hW]; exact heap_alloc_new _ _
  have HB := Lib.hid hb
  have HX := Lib.hid (h.keep hb)
  have HI := Lib.hid (disk_in (h.keep hb)).1
  have HL := Lib.hid (disk_len h).1
  have hnm := (disk_len h).2
  unfold maxLen at hnm
  have HW := Lib.hid hw
  have FF : Hid (∀ v, Kept W.heap.size W v → v.cell? ⟨w.heap.size, 0, none⟩ = some (.slice a n c) ∧ v.cell? ⟨w.heap.size, 1, none⟩ = some (.int .i64 X.fNextName)) := Lib.hid fun v hv =>
    ⟨hv.cell (lt_of_block k0) (box_cell k0 0 _ rfl), hv.cell (lt_of_block k0) (box_cell k0 1 _ rfl)⟩
  obtain ⟨p0, p1⟩ := FF.out W (Kept.refl (Nat.le_refl _))
  clear h hb k0 hw
  go_enter Tryz.func30, Tryz.ntmps30
  go_upto_region 1 with fail
  rw [← hW]
  clear hW
  go_wp2_with fail
  clear p0 p1
  refine (iokdisk a n c X W HX.out HW.out).mono ?_
  rintro e w1 ⟨rfl, b1⟩
  have K1 : Hid (Kept W.heap.size W w1) := Lib.hid ⟨b1, b1.size⟩
  obtain ⟨p0, p1⟩ := FF.out _ K1.out
  have KB1 := Lib.hid (HB.out.trans (b1.mono HB.out.size))
  clear b1
  cases hok : DiskD.okD X with
  | false =>
    have HN := Lib.hid (DiskD.file_bad (name := name) hok)
    clear hok
    go_wp2_with fail
    go_ret2
    exact ⟨.inl ⟨HN.out, rfl⟩, KB1.out⟩
  | true =>
    have HOK := Lib.hid hok
    clear hok
    go_wp2_with fail
    go_loopw [13] (fun i wr => ∃ (t : Nat), i = .int .i64 t ∧ t ≤ n ∧ Hid (∀ (s : Nat) (g : FileD), s < t → X.fFiles[s]? = some g → g.fName ≠ name) ∧ Hid (w1 = wr)) (fun i _ => n - (intOf i).toNat)
    case atStart => exact ⟨0, rfl, Nat.zero_le _, fun s g hs => absurd hs (Nat.not_lt_zero _), rfl⟩
    case round =>
      obtain ⟨t, rfl, ht, hno, hwr⟩ := hrel
      obtain rfl := hwr.out
      by_cases hlt : t < n
      · have htl : t < X.fFiles.length := by have := HL.out; omega
        obtain ⟨f, hf⟩ : ∃ f, X.fFiles[t]? = some f := ⟨X.fFiles[t], by simp [htl]⟩
        obtain ⟨b, o, hd, rfl, hbl, hce, hin⟩ := HI.out.el hf
        have HF := Lib.hid hf
        obtain ⟨x0, x1, x2, x3⟩ := f
        obtain ⟨⟨a1, n1, k1⟩, ⟨⟩⟩ := hd
        have c1 : w1.cell? ⟨b, o + t * 4, none⟩ = some (.int .i64 x0) := K1.out.cell hbl (hce 0 _ rfl)
        clear hf hce hin
        by_cases he : x0 = name
        · have HA := Lib.hid (DiskD.file_some HOK.out (DiskD.at_hit HF.out he hno.out) HF.out)
          go_wp2_with fail
          go_ret2
          exact ⟨.inr ⟨t, _, b, o, HA.out, HF.out, rfl, rfl⟩, KB1.out⟩
        · have hne : (x0 == name) = false := by simpa using he
          have HE := Lib.hid he
          clear he
          go_wp2_with fail
          go_roundw
          case rel =>
            refine ⟨t + 1, by go_num, by omega, fun s g hs hg => ?_, trivial⟩
            rcases Nat.lt_or_ge s t with h1 | h1
            · exact hno.out s g h1 hg
            · obtain rfl : s = t := by omega
              rw [HF.out] at hg
              cases hg
              exact HE.out
          case measure => simp [intOf]; omega
      · have HA := Lib.hid (DiskD.file_none (d := X) (name := name) (DiskD.at_miss fun s g hg => hno.out s g (by have := idx_lt hg; have := HL.out; omega) hg))
        go_wp2_with fail
        go_ret2
        exact ⟨.inl ⟨HA.out, rfl⟩, KB1.out⟩
end Go.Proofs.YtjdjceohlcimaaaGreatDoor
/- The program's AppendPage, by contract. -/
namespace Go.Proofs.YtjdjceohlcimaaaGreatDoor
open Go.RowKit
set_option linter.unusedVariables false
set_option maxRecDepth 100000 in
set_option maxHeartbeats 4000000 in
theorem iappend0 (a : Option Addr) (n c : Nat) (X : DiskD) (name : Int) (ap : Option Addr) (np cp : Nat) (p : List R) (w : World) (h : diskRep.inn w X ((a, n, c), ())) (hp : pageRep.inn w p (ap, np, cp)) (hw : wtDisk X ≤ 1000000000) (hwp : wtPage p ≤ 1000000000) (Y : DiskD) (b : Bool)
    (HR : Hid (∀ r, DiskD.appendTo X name p = r → Y = r.getD X ∧ b = r.isSome)) :
    Calls Tryz.prog 6 #[.agg #[.slice a n c, .int .i64 X.fNextName], .int .i64 name, .agg #[.slice ap np cp]] w (DiskAnd Y [.bool b] w) := by
  obtain ⟨W, hW⟩ : ∃ W, W = ((w.alloc (.cells #[.slice a n c, .int .i64 X.fNextName] 26)).alloc (.cells #[.slice ap np cp] 29)).alloc (.cells #[.slice none 0 0, .int .i64 0] 26) := ⟨_, rfl⟩
  obtain ⟨hz, b0, k0, k1, k2⟩ := boxes3 w W hW
  have HZ := Lib.hid hz
  have B0 := Lib.hid b0
  have K0 := Lib.hid k0
  have K1 := Lib.hid k1
  have K2 := Lib.hid k2
  have HI := Lib.hid (h.keep b0)
  have HP := Lib.hid ((pageRep.inn_keep hp b0).1)
  have HPC : Hid (ap = none → cp = 0) := Lib.hid hp.2
  have HW := Lib.hid hw
  have HNX := Lib.hid (disk_in h).2.2
  have HL := Lib.hid (disk_len h).1
  have hnp : np ≤ 1000000000 := by
    have h1 := hp.1.1
    have h2 : wtPage p = p.length := rfl
    have h3 : p.length = np := h1
    omega
  have hnm := (disk_len h).2
  unfold maxLen at hnm
  have FF : Hid (∀ v, Kept W.heap.size W v → v.cell? ⟨w.heap.size, 0, none⟩ = some (.slice a n c) ∧ v.cell? ⟨w.heap.size, 1, none⟩ = some (.int .i64 X.fNextName) ∧ v.cell? ⟨w.heap.size + 1, 0, none⟩ = some (.slice ap np cp) ∧
      v.cell? ⟨w.heap.size + 2, 0, none⟩ = some (.slice none 0 0) ∧ v.cell? ⟨w.heap.size + 2, 1, none⟩ = some (.int .i64 0) ∧ ∀ j, v.frozen? ⟨w.heap.size + 2, j, none⟩ = false) := Lib.hid fun v hv =>
    ⟨hv.cell (by omega) (box_cell k0 0 _ rfl), hv.cell (by omega) (box_cell k0 1 _ rfl), hv.cell (by omega) (box_cell k1 0 _ rfl), hv.cell (by omega) (box_cell k2 0 _ rfl), hv.cell (by omega) (box_cell k2 1 _ rfl), fun j => hv.frozen (by omega) (by simp [World.frozen?, k2])⟩
  clear h hp b0 k0 k1 k2 hz hw hwp
  go_enter Tryz.func6, Tryz.ntmps6
  go_wp2_with fail
  rw [← hW]
  clear hW
  refine (iclonedisk a n c X W HI.out HW.out).mono ?_
  rintro e w1 ⟨a1, n1, c1, G1, rfl, hd1, b1⟩
  obtain ⟨fs, rfl, hfs, hst⟩ := dop_start hd1 b1
  have HFS := Lib.hid hfs
  obtain ⟨xb, hxb⟩ : ∃ g, g = w1.heap.size := ⟨_, rfl⟩
  obtain ⟨w2, hw2⟩ : ∃ u, u = w1.alloc (.cells #[.slice a1 fs.length c1, .int .i64 X.fNextName] 26) := ⟨_, rfl⟩
  have D2 := Lib.hid (hst xb w2 hxb hw2)
  obtain ⟨p0, p1, -⟩ := FF.out _ D2.out.kept
  clear hd1 b1 hst hfs
  go_upto_region 2 with fail
  rw [← hxb, ← hw2]
  clear hw2 hxb
  obtain ⟨x0, x1, -⟩ := D2.out.x
  go_wp2_with fail
  clear p0 p1 x0 x1
  have IN2 := Lib.hid (show diskRep.inn w2 X ((a1, fs.length, c1), ()) from diskB.blk_inn (D2.out.disk HFS.out HNX.out))
  refine (ifind a1 fs.length c1 X name w2 IN2.out HW.out).mono ?_
  rintro e w3 ⟨hres, b3⟩
  have D3 := Lib.hid (D2.out.below b3)
  obtain ⟨p0, p1, p2, r0, r1, rf⟩ := FF.out _ D3.out.kept
  obtain ⟨x0, x1, xf⟩ := D3.out.x
  clear b3
  rcases hres with ⟨hfile, rfl⟩ | ⟨k, f, g, og, hfile, hf, rfl, rfl⟩
  · have hno := DiskD.appendTo_none (p := p) hfile
    have hY : X = Y := (HR.out _ hno).1.symm
    have hb : b = false := (HR.out _ hno).2
    subst hb
    subst hY
    clear hno hfile
    go_wp2_with fail
    refine bodyPost_ret (v := .tuple #[.agg #[.slice a1 fs.length c1, .int .i64 X.fNextName], .bool false]) (by simp [results, Tryz.results6, go_sem, *]) rfl ?_
    exact disk_done (vs := [.bool false]) B0.out (D3.out.disk HFS.out HNX.out) D3.out.kept (by omega) (by have := HZ.out; omega) _ _
  · have HAE := Lib.hid (DiskD.appendTo_eq (p := p) hfile)
    have HF := Lib.hid hf
    have hkf : k < fs.length := by have := idx_lt HF.out; rw [HFS.out, List.length_map] at this; exact this
    obtain ⟨g1, c1', ea, hgB, hgl, -, -⟩ := D3.out.blk.addr (by omega)
    injection ea with ea1 ea2 ea3
    injection ea1 with ea1
    injection ea1 with ea4 ea5
    subst ea3 ea4 ea5
    clear ea2 hf hfile hgl
    obtain ⟨f0, f1, f2, f3⟩ := f
    obtain ⟨e, he⟩ : ∃ e, fs[k]? = some e := ⟨fs[k], by simp [hkf]⟩
    have hex : e.x = ⟨f0, f1, f2, f3⟩ := by
      have h1 := HF.out
      rw [HFS.out, List.getElem?_map, he] at h1
      exact Option.some.inj h1
    obtain ⟨ex, ⟨⟨pa, pn, pc⟩, ⟨⟩⟩, eG⟩ := e
    simp only at hex
    subst hex
    have HE := Lib.hid he
    have cf : w3.cell? ⟨g, k * 4 + 3, none⟩ = some (.bool f3) := D3.out.blk.cell HE.out 3 _ rfl
    clear he
    cases f3 with
    | true =>
      have hno := (HAE.out.trans (if_neg (by simp)))
      have hY : X = Y := (HR.out _ hno).1.symm
      have hb : b = false := (HR.out _ hno).2
      subst hb
      subst hY
      clear hno
      go_wp2_with fail
      refine bodyPost_ret (v := .tuple #[.agg #[.slice (some ⟨g, 0, none⟩) fs.length c1, .int .i64 X.fNextName], .bool false]) (by simp [results, Tryz.results6, go_sem, *]) rfl ?_
      exact disk_done (vs := [.bool false]) B0.out (D3.out.disk HFS.out HNX.out) D3.out.kept (by omega) (by have := HZ.out; omega) _ _
    | false =>
      go_wp2_with fail
      clear p0 p1 p2 r0 r1 rf x0 x1 cf
      refine (ivalidpage ap np cp p w3 (HP.out.keep D3.out.kept.1) (by omega)).mono ?_
      rintro e w5 ⟨rfl, b5⟩
      have D5 := Lib.hid (D3.out.below b5)
      obtain ⟨p0, p1, p2, r0, r1, rf⟩ := FF.out _ D5.out.kept
      obtain ⟨x0, x1, -⟩ := D5.out.x
      clear b5
      cases hpo : R.pageOk p with
      | false =>
        have hno := (HAE.out.trans (if_neg (by rw [hpo]; simp)))
        have hY : X = Y := (HR.out _ hno).1.symm
        have hb : b = false := (HR.out _ hno).2
        subst hb
        subst hY
        clear hno
        clear hpo
        go_wp2_with fail
        refine bodyPost_ret (v := .tuple #[.agg #[.slice (some ⟨g, 0, none⟩) fs.length c1, .int .i64 X.fNextName], .bool false]) (by simp [results, Tryz.results6, go_sem, *]) rfl ?_
        exact disk_done (vs := [.bool false]) B0.out (D5.out.disk HFS.out HNX.out) D5.out.kept (by omega) (by have := HZ.out; omega) _ _
      | true =>
        have HPO := Lib.hid hpo
        clear hpo
        go_wp2_with fail
        clear p0 p1 p2 r0 r1 rf x0 x1
        refine (icountp _ n c X w5 (HI.out.keep D5.out.kept.1) HW.out).mono ?_
        rintro e w6 ⟨rfl, b6⟩
        have D6 := Lib.hid (D5.out.below b6)
        obtain ⟨p0, p1, p2, r0, r1, rf⟩ := FF.out _ D6.out.kept
        obtain ⟨x0, x1, xf⟩ := D6.out.x
        clear b6
        obtain ⟨m, hm⟩ : ∃ m, m = DiskD.count X.fFiles := ⟨_, rfl⟩
        rw [← hm]
        by_cases hfull : (m : Int) = 40
        · have hm40 : DiskD.count X.fFiles = 40 := by omega
          have hno := (HAE.out.trans (if_neg (by rw [hm40]; simp)))
          have hY : X = Y := (HR.out _ hno).1.symm
          have hb : b = false := (HR.out _ hno).2
          subst hb
          subst hY
          clear hno
          clear hm hm40
          go_wp2_with fail
          refine bodyPost_ret (v := .tuple #[.agg #[.slice (some ⟨g, 0, none⟩) fs.length c1, .int .i64 X.fNextName], .bool false]) (by simp [results, Tryz.results6, go_sem, *]) rfl ?_
          exact disk_done (vs := [.bool false]) B0.out (D6.out.disk HFS.out HNX.out) D6.out.kept (by omega) (by have := HZ.out; omega) _ _
        · have hm40 : DiskD.count X.fFiles ≠ 40 := by omega
          have hyes := (HAE.out.trans (if_pos (by rw [HPO.out, decide_eq_true hm40]; rfl)))
          have hY := (HR.out _ hyes).1
          have hb : b = true := (HR.out _ hyes).2
          subst hb
          have HYE := Lib.hid hY
          have hfl2 : ((m : Int) == 40) = false := by simpa using hfull
          clear hyes hm hm40 hY hfull
          have he := HE.out
          have hgl : g < w6.heap.size := (D6.out.blk.lt g (List.mem_append_left _ (by rw [blkOf_some]; exact List.mem_singleton.2 rfl))).2
          have hbe := D6.out.blk.all _ (List.mem_of_getElem? he)
          obtain ⟨ps, hps, hpl, heG, hf0, hf2⟩ := of_file_blk hbe
          obtain ⟨rfl, -⟩ := hpl.caps
          have HE := Lib.hid he
          have HPS := Lib.hid (show f1 = ps.map BEl.x from hps)
          have HPL := Lib.hid hpl
          have HEG := Lib.hid (show eG = blkOf (.slice pa ps.length pc) ++ gsOf ps from heG)
          have HF0 := Lib.hid (show I64 f0 from hf0)
          have HF2 := Lib.hid (show I64 f2 from hf2)
          have hcell1 := D6.out.blk.cell he 1 (.slice pa ps.length pc) rfl
          have hcell : w6.cell? ⟨g, k * 4 + 1, none⟩ = some (.slice pa ps.length pc) := hcell1
          have HGG : Hid (∀ z ∈ blkOf (.slice pa ps.length pc) ++ gsOf ps, z ∈ gsOf fs) := Lib.hid fun z hz => mem_gs.2 ⟨_, List.mem_of_getElem? HE.out, by rw [HEG.out]; exact hz⟩
          have HGN : Hid (g ∉ gsOf fs) := Lib.hid (by
            have h1 := D6.out.blk.nodup
            rw [blkOf_some, List.singleton_append, List.nodup_cons] at h1
            exact h1.1)
          have HXN : Hid (xb ∉ gsOf fs ∧ xb ≠ g) := Lib.hid ⟨fun hm => D6.out.out (List.mem_append_right _ hm), fun e => D6.out.out (List.mem_append_left _ (by rw [blkOf_some, e]; exact List.mem_singleton.2 rfl))⟩
          have hps1 : ps.length ≤ 1000000000 := by
            have h1 := DiskD.count_mem (List.mem_of_getElem? HF.out)
            have h2 := DiskD.count_wt X.fFiles
            have h3 : wtDisk X = wtFiles X.fFiles := rfl
            have h4 := HW.out
            have h5 : f1.length = ps.length := by rw [show f1 = ps.map BEl.x from hps, List.length_map]
            simp only at h1
            omega
          have HPE : Hid (p.length = np) := Lib.hid HP.out.1
          have HFEW : Hid (ps.length + 1 ≤ 1000000000000) := Lib.hid (by omega)
          have HLOW := Lib.hid D6.out.kept.2
          have PIN := Lib.hid (show SeqIn rowRep w6 ap np p from HP.out.keep D6.out.kept.1)
          have CC : Hid (∀ v, Kept w6.heap.size w6 v → Calls Tryz.prog 32 #[.agg #[.slice ap np cp]] v fun e v' => ∃ (a6 : Option Addr) (c6 : Nat), e = .returned (.agg #[.slice a6 np c6]) ∧ PageIn W.heap.size w6 (.slice pa ps.length pc) ps p a6 np c6 v') := Lib.hid fun v hv =>
            (iclonepage ap np cp p v (PIN.out.keep hv.1) (by omega)).mono fun e v' ⟨a6, c6, he, hr, hb⟩ => by
              rw [HPE.out] at he hr
              exact ⟨a6, c6, he, ⟨hv.below hb, rowsB.blk_mono hr hv.2, HPL.out, HLOW.out, HFEW.out⟩⟩
          have KS : Hid (∀ v, Kept w6.heap.size w6 v → v.cell? ⟨xb, 0, none⟩ = some (.slice (some ⟨g, 0, none⟩) fs.length c1) ∧ v.cell? ⟨g, k * 4 + 1, none⟩ = some (.slice pa ps.length pc) ∧ v.cell? ⟨w.heap.size + 1, 0, none⟩ = some (.slice ap np cp)) := Lib.hid fun v hv =>
            ⟨hv.cell (lt_of_block D6.out.box) D6.out.x.1, hv.cell hgl hcell, hv.cell (by have := D6.out.kept.2; have := HZ.out; omega) (FF.out _ D6.out.kept).2.2.1⟩
          have AFT : Hid (∀ (a7 : Option Addr) (c7 : Nat) (w7 w8 : World), PageIn W.heap.size w6 (.slice pa ps.length pc) ps p a7 np c7 w7 → (w7.alloc (.cells #[.slice a7 np c7] 29)).grownBy w8 (Value.slice pa ps.length pc).ownBlock →
              (w8.cell? ⟨xb, 0, none⟩ = some (.slice (some ⟨g, 0, none⟩) fs.length c1) ∧ w8.cell? ⟨g, k * 4 + 1, none⟩ = some (.slice pa ps.length pc) ∧ w8.cell? ⟨w.heap.size + 1, 0, none⟩ = some (.slice ap np cp)) ∧ w8.frozen? ⟨g, k * 4 + 1, none⟩ = false ∧ w8.heap[xb]? = some (.cells #[.slice (some ⟨g, 0, none⟩) fs.length c1, .int .i64 X.fNextName] 26 (0, 0)) ∧
              (∀ z, z < w6.heap.size → z ∉ eG → w8.heap[z]? = w6.heap[z]?) ∧ Kept W.heap.size W w8) := Lib.hid fun a7 c7 w7 w8 hP hg => by
            have hk := hP.k7
            have hrow : ∀ z, (Value.slice pa ps.length pc).ownBlock = some z → z ∈ eG := fun z hz => by rw [HEG.out]; exact List.mem_append_left _ (blkOf_mem.2 hz)
            have hsame : ∀ z, z < w6.heap.size → z ∉ eG → w8.heap[z]? = w6.heap[z]? := fun z hz hn => (hg.block z (Nat.lt_of_lt_of_le hz hk.2) fun e => hn (hrow z e.symm)).trans (hk.1.block z hz)
            have heg : ∀ z ∈ eG, z ∈ gsOf fs := fun z hz => HGG.out z (by rw [← HEG.out]; exact hz)
            have hg8 := hsame g hgl fun hm => HGN.out (heg g hm)
            have hx8 := (hsame xb (lt_of_block D6.out.box) fun hm => HXN.out.1 (heg xb hm)).trans D6.out.box
            have hp8 := hsame (w.heap.size + 1) (by have := D6.out.kept.2; have := HZ.out; omega) fun hm => by
              have := (D6.out.blk.lt _ (List.mem_append_right _ (heg _ hm))).1
              have := HZ.out
              omega
            exact ⟨⟨box_cell hx8 0 _ rfl, (World.cell?_of_block hg8).trans hcell, (World.cell?_of_block hp8).trans (FF.out _ D6.out.kept).2.2.1⟩, (World.frozen?_of_block hg8).trans (D6.out.blk.frozen _), hx8, hsame,
              D6.out.kept.trans (((hk.mono HLOW.out)).grown hg fun z hz => (D6.out.blk.lt z (List.mem_append_right _ (heg z (hrow z hz)))).1)⟩
          have hki1 : (k : Int) < fs.length := by omega
          have hki0 : (0 : Int) ≤ k := by omega
          clear he hbe hps hpl heG hf0 hf2 hcell1
          go_wp2_with fail
          clear p0 p1 p2 r0 r1 rf x0 x1 xf hcell
          refine region_plan (fun v => v.cell? ⟨g, k * 4 + 1, none⟩ = some (.slice pa ps.length pc) ∧ v.cell? ⟨w.heap.size + 1, 0, none⟩ = some (.slice ap np cp)) (Pl.of [.q 0, .q 1, .q 2, .q 3, .q 4, .q 5, .m 6, .m 7, .m 8, .q 9, .q 10]) [11] (by kernel_rfl) (by kernel_rfl) (KS.out _ (Kept.refl (Nat.le_refl _)).drew).2 (fun hHeld => ?_)
          first | (refine pi_take (v := ?pv1_0) rfl (fun _ _ _ h => h) (by rfl) (fun v hv => ?pr1_0) ?rest1_0; case pr1_0 => (obtain ⟨d1, d2⟩ := hv; go_simp; first | done | with_reducible rfl)) | (refine pi_pass rfl (fun _ _ _ h => h) (by rfl) ?_)
          try simp only [Act.put, List.setIfInBounds_toArray, List.set_cons_zero, List.set_cons_succ]
          first | (refine pi_take (v := ?pv1_1) rfl (fun _ _ _ h => h) (by rfl) (fun v hv => ?pr1_1) ?rest1_1; case pr1_1 => (obtain ⟨d1, d2⟩ := hv; go_simp; first | done | with_reducible rfl)) | (refine pi_pass rfl (fun _ _ _ h => h) (by rfl) ?_)
          try simp only [Act.put, List.setIfInBounds_toArray, List.set_cons_zero, List.set_cons_succ]
          first | (refine pi_take (v := ?pv1_2) rfl (fun _ _ _ h => h) (by rfl) (fun v hv => ?pr1_2) ?rest1_2; case pr1_2 => (obtain ⟨d1, d2⟩ := hv; go_simp; first | done | with_reducible rfl)) | (refine pi_pass rfl (fun _ _ _ h => h) (by rfl) ?_)
          try simp only [Act.put, List.setIfInBounds_toArray, List.set_cons_zero, List.set_cons_succ]
          first | (refine pi_take (v := ?pv1_3) rfl (fun _ _ _ h => h) (by rfl) (fun v hv => ?pr1_3) ?rest1_3; case pr1_3 => (obtain ⟨d1, d2⟩ := hv; go_simp; first | done | with_reducible rfl)) | (refine pi_pass rfl (fun _ _ _ h => h) (by rfl) ?_)
          try simp only [Act.put, List.setIfInBounds_toArray, List.set_cons_zero, List.set_cons_succ]
          first | (refine pi_take (v := ?pv1_4) rfl (fun _ _ _ h => h) (by rfl) (fun v hv => ?pr1_4) ?rest1_4; case pr1_4 => (obtain ⟨d1, d2⟩ := hv; go_simp; first | done | with_reducible rfl)) | (refine pi_pass rfl (fun _ _ _ h => h) (by rfl) ?_)
          try simp only [Act.put, List.setIfInBounds_toArray, List.set_cons_zero, List.set_cons_succ]
          first | (refine pi_take (v := ?pv1_5) rfl (fun _ _ _ h => h) (by rfl) (fun v hv => ?pr1_5) ?rest1_5; case pr1_5 => (obtain ⟨d1, d2⟩ := hv; go_simp; first | done | with_reducible rfl)) | (refine pi_pass rfl (fun _ _ _ h => h) (by rfl) ?_)
          try simp only [Act.put, List.setIfInBounds_toArray, List.set_cons_zero, List.set_cons_succ]
          refine pi_step rfl (fun K hK => ?_)
          first | (first | (go_at_call 32; refine (CC.out _ (Kept.refl (Nat.le_refl _)).drew).mono ?_; rintro e w7 ⟨a7, c7, rfl, hP7⟩; have hS7 := Lib.hid hP7; clear hP7) | (refine step_pushE pageE (w := w7.alloc (.cells #[.slice a7 np c7] 29)) (es := ps) (v := .slice pa ps.length pc) ⟨p, (a7, np, c7), blkOf (.slice a7 np c7)⟩ (.tmp 42) (.tmp 45) ⟨w7.heap.size, 0, none⟩ (by rfl) (by rfl) (by rfl) (by rfl) hS7.out.cells hS7.out.pages hS7.out.elem hS7.out.apart hS7.out.base hS7.out.few ?_; intro g8 c8 w8 hm8 hg8 hat8; have hT8 := Lib.hid (AFT.out a7 c7 w7 w8 hS7.out hg8); have hM8 := Lib.hid hm8; have hA8 := Lib.hid hat8; obtain ⟨-, u0, -⟩ := hT8.out.1; have u1 := hT8.out.2.1; have HSZ := Lib.hid hg8.size; clear hm8 hg8 hat8)) | (go_simp; first | (go_at_call 32; refine (CC.out _ (Kept.refl (Nat.le_refl _)).drew).mono ?_; rintro e w7 ⟨a7, c7, rfl, hP7⟩; have hS7 := Lib.hid hP7; clear hP7) | (refine step_pushE pageE (w := w7.alloc (.cells #[.slice a7 np c7] 29)) (es := ps) (v := .slice pa ps.length pc) ⟨p, (a7, np, c7), blkOf (.slice a7 np c7)⟩ (.tmp 42) (.tmp 45) ⟨w7.heap.size, 0, none⟩ (by rfl) (by rfl) (by rfl) (by rfl) hS7.out.cells hS7.out.pages hS7.out.elem hS7.out.apart hS7.out.base hS7.out.few ?_; intro g8 c8 w8 hm8 hg8 hat8; have hT8 := Lib.hid (AFT.out a7 c7 w7 w8 hS7.out hg8); have hM8 := Lib.hid hm8; have hA8 := Lib.hid hat8; obtain ⟨-, u0, -⟩ := hT8.out.1; have u1 := hT8.out.2.1; have HSZ := Lib.hid hg8.size; clear hm8 hg8 hat8))
          refine hK.out _ _ (by first | exact hT8.out.1.2 | exact (KS.out _ hS7.out.k7).2 | exact (KS.out _ hS7.out.kept).2) (fun hHeld2 => ?_)
          clear hK K hHeld
          have hHeld := hHeld2
          clear hHeld2
          try simp only [Act.put, List.setIfInBounds_toArray, List.set_cons_zero, List.set_cons_succ]
          refine pi_step rfl (fun K hK => ?_)
          go_simp
          refine hK.out _ _ (by first | exact hT8.out.1.2 | exact (KS.out _ hS7.out.k7).2 | exact (KS.out _ hS7.out.kept).2) (fun hHeld2 => ?_)
          clear hK K hHeld
          have hHeld := hHeld2
          clear hHeld2
          try simp only [Act.put, List.setIfInBounds_toArray, List.set_cons_zero, List.set_cons_succ]
          refine pi_step rfl (fun K hK => ?_)
          first | (first | (go_at_call 32; refine (CC.out _ (Kept.refl (Nat.le_refl _)).drew).mono ?_; rintro e w7 ⟨a7, c7, rfl, hP7⟩; have hS7 := Lib.hid hP7; clear hP7) | (refine step_pushE pageE (w := w7.alloc (.cells #[.slice a7 np c7] 29)) (es := ps) (v := .slice pa ps.length pc) ⟨p, (a7, np, c7), blkOf (.slice a7 np c7)⟩ (.tmp 42) (.tmp 45) ⟨w7.heap.size, 0, none⟩ (by rfl) (by rfl) (by rfl) (by rfl) hS7.out.cells hS7.out.pages hS7.out.elem hS7.out.apart hS7.out.base hS7.out.few ?_; intro g8 c8 w8 hm8 hg8 hat8; have hT8 := Lib.hid (AFT.out a7 c7 w7 w8 hS7.out hg8); have hM8 := Lib.hid hm8; have hA8 := Lib.hid hat8; obtain ⟨-, u0, -⟩ := hT8.out.1; have u1 := hT8.out.2.1; have HSZ := Lib.hid hg8.size; clear hm8 hg8 hat8)) | (go_simp; first | (go_at_call 32; refine (CC.out _ (Kept.refl (Nat.le_refl _)).drew).mono ?_; rintro e w7 ⟨a7, c7, rfl, hP7⟩; have hS7 := Lib.hid hP7; clear hP7) | (refine step_pushE pageE (w := w7.alloc (.cells #[.slice a7 np c7] 29)) (es := ps) (v := .slice pa ps.length pc) ⟨p, (a7, np, c7), blkOf (.slice a7 np c7)⟩ (.tmp 42) (.tmp 45) ⟨w7.heap.size, 0, none⟩ (by rfl) (by rfl) (by rfl) (by rfl) hS7.out.cells hS7.out.pages hS7.out.elem hS7.out.apart hS7.out.base hS7.out.few ?_; intro g8 c8 w8 hm8 hg8 hat8; have hT8 := Lib.hid (AFT.out a7 c7 w7 w8 hS7.out hg8); have hM8 := Lib.hid hm8; have hA8 := Lib.hid hat8; obtain ⟨-, u0, -⟩ := hT8.out.1; have u1 := hT8.out.2.1; have HSZ := Lib.hid hg8.size; clear hm8 hg8 hat8))
          refine hK.out _ _ (by first | exact hT8.out.1.2 | exact (KS.out _ hS7.out.k7).2 | exact (KS.out _ hS7.out.kept).2) (fun hHeld2 => ?_)
          clear hK K hHeld
          have hHeld := hHeld2
          clear hHeld2
          try simp only [Act.put, List.setIfInBounds_toArray, List.set_cons_zero, List.set_cons_succ]
          first | (refine pi_take (v := ?pv1_9) rfl (fun _ _ _ h => h) (by rfl) (fun v hv => ?pr1_9) ?rest1_9; case pr1_9 => (obtain ⟨d1, d2⟩ := hv; go_simp; first | done | with_reducible rfl)) | (refine pi_pass rfl (fun _ _ _ h => h) (by rfl) ?_)
          try simp only [Act.put, List.setIfInBounds_toArray, List.set_cons_zero, List.set_cons_succ]
          first | (refine pi_take (v := ?pv1_10) rfl (fun _ _ _ h => h) (by rfl) (fun v hv => ?pr1_10) ?rest1_10; case pr1_10 => (obtain ⟨d1, d2⟩ := hv; go_simp; first | done | with_reducible rfl)) | (refine pi_pass rfl (fun _ _ _ h => h) (by rfl) ?_)
          try simp only [Act.put, List.setIfInBounds_toArray, List.set_cons_zero, List.set_cons_succ]
          refine pi_end ?_
          refine z_step rfl (fun K hK => ?_)
          go_simp
          refine hK.out _ _ ?_
          clear hK K
          try simp only [Act.put, List.setIfInBounds_toArray, List.set_cons_zero, List.set_cons_succ]
          refine z_end ?_
          clear hHeld
          obtain ⟨w9, hw9⟩ : ∃ u, u = w8.setCell ⟨g, k * 4 + 1, none⟩ (.slice (some ⟨g8, 0, none⟩) (ps.length + 1) c8) := ⟨_, rfl⟩
          have hchg := D6.out.blk.change (w' := w8) (k := k) (j := 1) HE.out (by show 1 < 4; decide) (.slice (some ⟨g8, 0, none⟩) (ps.length + 1) c8) ⟨⟨f0, f1 ++ [p], f2, false⟩, ((some ⟨g8, 0, none⟩, ps.length + 1, c8), ()), blkOf (.slice (some ⟨g8, 0, none⟩) (ps.length + 1) c8) ++ gsOf (ps ++ [(⟨p, (a7, np, c7), blkOf (.slice a7 np c7)⟩ : BEl rowsB)])⟩ rfl (Nat.le_trans hS7.out.k7.1.size HSZ.out) hT8.out.2.2.2.1
            (by
              have h1 := file_blk (x3 := false) hM8.out HF0.out HF2.out
              rw [List.map_append, ← HPS.out] at h1
              exact h1)
            (fun z hz => by
              rw [blkOf_some, gs_snoc, List.singleton_append] at hz
              have hnew : ∀ y ∈ blkOf (.slice a7 np c7), w6.heap.size ≤ y := fun y hy => (rowsB.blk_lt hS7.out.rows y hy).1
              rcases List.mem_cons.1 hz with hz | hz
              · rcases hA8.out with h1 | h1
                · left; rw [HEG.out]; exact List.mem_append_left _ (blkOf_mem.2 (by rw [h1, hz]))
                · right
                  have h2 : z = g8 := hz
                  have h3 := hS7.out.k7.2
                  omega
              · rcases List.mem_append.1 hz with hz | hz
                · left; rw [HEG.out]; exact List.mem_append_right _ hz
                · right; exact hnew z hz)
          have hmap : (fs.set k ⟨⟨f0, f1 ++ [p], f2, false⟩, ((some ⟨g8, 0, none⟩, ps.length + 1, c8), ()), blkOf (.slice (some ⟨g8, 0, none⟩) (ps.length + 1) c8) ++ gsOf (ps ++ [(⟨p, (a7, np, c7), blkOf (.slice a7 np c7)⟩ : BEl rowsB)])⟩).map BEl.x = X.fFiles.set k ⟨f0, f1 ++ [p], f2, false⟩ := by rw [List.map_set, ← HFS.out]
          have hdd := disk_blk hchg HNX.out
          rw [hmap, show k * fileB.rep.size + 1 = k * 4 + 1 from rfl] at hdd
          have hne : g ≠ xb := fun e => HXN.out.2 e.symm
          have X9 : Hid (w9.heap[xb]? = some (.cells #[.slice (some ⟨g, 0, none⟩) fs.length c1, .int .i64 X.fNextName] 26 (0, 0))) := Lib.hid (by rw [hw9]; exact blk_far hT8.out.2.2.1 hne.symm)
          have K9 : Hid (Kept W.heap.size W w9) := Lib.hid (by rw [hw9]; exact hT8.out.2.2.2.2.set hgB _)
          rw [← hw9] at hdd ⊢
          have DD := Lib.hid hdd
          have y0 := box_cell X9.out 0 _ rfl
          have y1 := box_cell X9.out 1 _ rfl
          obtain ⟨-, -, -, r0, r1, rf⟩ := FF.out _ K9.out
          clear hchg hmap hdd hw9 u0 u1
          go_wp2_with fail
          refine bodyPost_ret (v := .tuple #[.agg #[.slice (some ⟨g, 0, none⟩) fs.length c1, .int .i64 X.fNextName], .bool true]) (by simp [results, Tryz.results6, go_sem, *]) rfl ?_
          rw [HYE.out]
          exact disk_done (Y := ⟨X.fFiles.set k ⟨f0, f1 ++ [p], f2, false⟩, X.fNextName⟩) (vs := [.bool true]) B0.out DD.out K9.out (by omega) (by have := HZ.out; omega) _ _
theorem iappend (a : Option Addr) (n c : Nat) (X : DiskD) (name : Int) (ap : Option Addr) (np cp : Nat) (p : List R) (w : World) (h : diskRep.inn w X ((a, n, c), ())) (hp : pageRep.inn w p (ap, np, cp)) (hw : wtDisk X ≤ 1000000000) (hwp : wtPage p ≤ 1000000000) :
    Calls Tryz.prog 6 #[.agg #[.slice a n c, .int .i64 X.fNextName], .int .i64 name, .agg #[.slice ap np cp]] w (DiskAnd ((DiskD.appendTo X name p).getD X) [.bool (DiskD.appendTo X name p).isSome] w) :=
  iappend0 a n c X name ap np cp p w h hp hw hwp _ _ fun r hr => by rw [hr]; exact ⟨rfl, rfl⟩
end Go.Proofs.YtjdjceohlcimaaaGreatDoor
/- Several elements appended at once onto a slice in a block of the call's own; parts of such a slice; no function of program or reference is walked here. -/
namespace Go.Proofs.YtjdjceohlcimaaaGreatDoor
open Go.RowKit
set_option linter.unusedVariables false
theorem Blk.many {α : Type} {T : TypeId} {s : BRep α} {w w' : World} {B : Nat} {v v' : Value} {es fs : List (BEl s)} (h : Blk T s w B v es) (hf : ∀ f ∈ fs, s.blk w B f.x f.h f.G) (hn : (blkOf v ++ gsOf (es ++ fs)).Nodup)
    (hown : w'.ownsRow B T s.rep.size v' (es.length + fs.length) (bcells es ++ bcells fs)) (hg : w.grownBy w' v.ownBlock) (hat : v'.ownBlock = v.ownBlock ∨ v'.ownBlock = some w.heap.size) : Blk T s w' B v' (es ++ fs) := by
  have hlt := h.lt
  have hn' := hn
  rw [List.nodup_append] at hn'
  have hall : ∀ f ∈ es ++ fs, s.blk w B f.x f.h f.G := fun f hfm => (List.mem_append.1 hfm).elim (h.all f) (hf f)
  refine ⟨by rw [bcells_append, List.length_append]; exact hown, fun f hfm => s.blk_keep (hall f hfm) (SameBlk.of_grown hg (fun b hb => (s.blk_lt (hall f hfm) b hb).2) fun b hb e => hn'.2.2 b (blkOf_mem.2 e) b (mem_gs.2 ⟨f, hfm, hb⟩) rfl), ?_⟩
  rw [List.nodup_append]
  refine ⟨by unfold blkOf; cases v'.ownBlock <;> simp, hn'.2.1, fun a ha b hb e => ?_⟩
  subst e
  rcases hat with h1 | h1
  · exact hn'.2.2 a (blkOf_mem.2 (by rw [← h1]; exact blkOf_mem.1 ha)) a hb rfl
  · have h2 := blkOf_mem.1 ha
    rw [h1] at h2
    obtain ⟨f, hfm, hb⟩ := mem_gs.1 hb
    have := (s.blk_lt (hall f hfm) a hb).2
    have h3 : w.heap.size = a := Option.some.inj h2
    omega
theorem ElInfo.cells {α : Type} {T St : TypeId} {s : BRep α} {z : Value} {bytes : Nat} (I : ElInfo T St s z bytes) (fs : List (BEl s)) : ∀ u ∈ bcells fs, u.oneCell' = true := fun u hu => by
  obtain ⟨f, -, hf⟩ := List.mem_flatMap.1 hu
  exact I.one _ _ u hf
theorem step_manyE {α : Type} {T St : TypeId} {s : BRep α} {z : Value} {bytes : Nat} (I : ElInfo T St s z bytes) {ops : Array Oper} {o : Oper} {a : Act} {K : Act → World → Prop} {Q : Exit → Act → World → Prop} {E : Prop} {w : World} {B : Nat} {v : Value} {es : List (BEl s)} (fs : List (BEl s)) (so xo : Operand) (ad : Addr) (m c : Nat)
    (hgd : o.guard = none) (ho : o.op = .call { callee := .builtin .append, args := #[so, xo], argTypes := #[St, St] })
    (hs : a.eval so = v) (hx : a.eval xo = .slice (some ad) m c) (hm : fs.length = m) (hc : ∀ j u, (bcells fs)[j]? = some u → w.cell? (ad.add j) = some u)
    (h : Blk T s w B v es) (hf : ∀ f ∈ fs, s.blk w B f.x f.h f.G) (hn : (blkOf v ++ gsOf (es ++ fs)).Nodup) (hB : B ≤ w.heap.size) (hlen : es.length + m ≤ 1000000000000)
    (k : ∀ v' w', Blk T s w' B v' (es ++ fs) → w.grownBy w' v.ownBlock → (v'.ownBlock = v.ownBlock ∨ v'.ownBlock = some w.heap.size) → K (a.put o.dst v') w') :
    if Region.wanted o (yielded ops a.tmps) = true then Oper.wp Tryz.prog o a w K Q else E := by
  have hw : Region.wanted o (yielded ops a.tmps) = true := by simp [Region.wanted, hgd]
  rw [if_pos hw]
  obtain ⟨i0, hi, hz0, hz1, hz2⟩ := info_parts I.inf
  obtain ⟨v', w', hr, h2, h3, h4, h5⟩ := run_append_own_at (P := Tryz.prog) w B St o.type T i0 z s.rep.size bytes I.und hi hz0 hz1 hz2 I.zs I.pos v es.length (bcells es) h.own ad m c (bcells fs) (by rw [bcells_length, hm]) hc (I.cells fs) (by unfold maxLen; omega)
    (by have h1 : (es.length + m) * bytes ≤ 1000000000000 * 100 := Nat.mul_le_mul hlen I.small
        omega) hB
  unfold Oper.wp
  simp [execOp, ho, resolve, invoke, builtin, hs, hx, hr, Result.andThen]
  exact k v' w' (h.many hf hn (by rw [hm]; exact h2) h3 h5) h3 h5
theorem Blk.from {α : Type} {T : TypeId} {s : BRep α} {w : World} {B g n c : Nat} {es : List (BEl s)} (h : Blk T s w B (.slice (some ⟨g, 0, none⟩) n c) es) {k : Nat} (hk : k ≤ n) :
    ∃ A : Addr, (if c = k then (some ⟨g, 0, none⟩ : Option Addr) else some ⟨g, k * s.rep.size, none⟩) = some A ∧ ∀ j u, (bcells (es.drop k))[j]? = some u → w.cell? (A.add j) = some u := by
  obtain ⟨hn, hc, -⟩ := h.caps
  by_cases e : c = k
  · refine ⟨_, by rw [if_pos e], fun j u hj => ?_⟩
    have : es.drop k = [] := List.drop_eq_nil_of_le (by omega)
    rw [this] at hj
    simp [bcells] at hj
  · refine ⟨_, by rw [if_neg e], fun j u hj => ?_⟩
    have hjl := idx_lt hj
    rw [bcells_length, List.length_drop] at hjl
    have hown := h.own
    rw [← hn] at hown
    rw [Addr.add_lit, hown.cellAt (k * s.rep.size + j) ?_]
    · have e1 : bcells es = bcells (es.take k) ++ bcells (es.drop k) := by rw [← bcells_append, List.take_append_drop]
      have e2 : (bcells (es.take k)).length = k * s.rep.size := by rw [bcells_length, List.length_take]; congr 1; omega
      rw [e1, List.getElem?_append_right (by omega), e2, Nat.add_sub_cancel_left]
      exact hj
    · have h3 : (es.length - k) * s.rep.size = es.length * s.rep.size - k * s.rep.size := Nat.sub_mul _ _ _
      have h4 : k * s.rep.size ≤ es.length * s.rep.size := Nat.mul_le_mul_right _ (by omega)
      rw [hn]
      omega
theorem Blk.upto {α : Type} {T : TypeId} {s : BRep α} {w : World} {B g n c : Nat} {es : List (BEl s)} (h : Blk T s w B (.slice (some ⟨g, 0, none⟩) n c) es) (k : Nat) :
    ∀ j u, (bcells (es.take k))[j]? = some u → w.cell? ((⟨g, 0, none⟩ : Addr).add j) = some u := fun j u hj => by
  have hjl := idx_lt hj
  have e1 : bcells es = bcells (es.take k) ++ bcells (es.drop k) := by rw [← bcells_append, List.take_append_drop]
  have hj2 : (bcells es)[j]? = some u := by rw [e1, List.getElem?_append_left hjl]; exact hj
  have hj3 := idx_lt hj2
  rw [bcells_length] at hj3
  have hown := h.own
  rw [← h.caps.1] at hown hj3
  rw [Addr.add_lit, Nat.zero_add, hown.cellAt j hj3]
  exact hj2
theorem gs_sub {α : Type} {s : BRep α} {xs ys : List (BEl s)} (h : xs.Sublist ys) : (gsOf xs).Sublist (gsOf ys) := by
  unfold gsOf
  induction h with
  | slnil => exact List.Sublist.refl _
  | cons a _ ih => rw [List.flatMap_cons]; exact ih.trans (List.sublist_append_right _ _)
  | cons_cons a _ ih => rw [List.flatMap_cons, List.flatMap_cons]; exact List.Sublist.append (List.Sublist.refl _) ih
theorem gs_erase {α : Type} {s : BRep α} {es : List (BEl s)} (k : Nat) (h : (gsOf es).Nodup) : (gsOf (es.take k ++ es.drop (k + 1))).Nodup := by
  have hs : (es.take k ++ es.drop (k + 1)).Sublist es := by
    conv => rhs; rw [← List.take_append_drop k es]
    refine List.Sublist.append (List.Sublist.refl _) ?_
    rw [← List.drop_drop]
    exact List.drop_sublist _ _
  exact h.sublist (gs_sub hs)
end Go.Proofs.YtjdjceohlcimaaaGreatDoor
/- The reference's DeleteFile, by contract. -/
namespace Go.Proofs.YtjdjceohlcimaaaGreatDoor
open Go.RowKit
set_option linter.unusedVariables false
set_option maxRecDepth 100000 in
set_option maxHeartbeats 4000000 in
theorem sdelete0 (a : Option Addr) (n c : Nat) (X : DiskD) (name : Int) (w : World) (h : diskRep.inn w X ((a, n, c), ())) (hw : wtDisk X ≤ 1000000000) (Y : DiskD) (b : Bool)
    (HR : Hid (∀ r, DiskD.delete X name = r → Y = r.getD X ∧ b = r.isSome)) :
    Calls Tryz.prog 13 #[.agg #[.slice a n c, .int .i64 X.fNextName], .int .i64 name] w (DiskAnd Y [.bool b] w) := by
  obtain ⟨W, hW⟩ : ∃ W, W = (w.alloc (.cells #[.slice a n c, .int .i64 X.fNextName] 26)).alloc (.cells #[.slice none 0 0, .int .i64 0] 26) := ⟨_, rfl⟩
  obtain ⟨b0, k0, k1⟩ := boxes2 w W hW
  have hz : W.heap.size = w.heap.size + 2 := by rw [hW]; simp
  have HZ := Lib.hid hz
  have B0 := Lib.hid b0
  have HI := Lib.hid (h.keep b0)
  have HW := Lib.hid hw
  have HNX := Lib.hid (disk_in h).2.2
  have HL := Lib.hid (disk_len h).1
  have hnm := (disk_len h).2
  unfold maxLen at hnm
  have FF : Hid (∀ v, Kept W.heap.size W v → v.cell? ⟨w.heap.size, 0, none⟩ = some (.slice a n c) ∧ v.cell? ⟨w.heap.size, 1, none⟩ = some (.int .i64 X.fNextName) ∧
      v.cell? ⟨w.heap.size + 1, 0, none⟩ = some (.slice none 0 0) ∧ v.cell? ⟨w.heap.size + 1, 1, none⟩ = some (.int .i64 0) ∧ ∀ j, v.frozen? ⟨w.heap.size + 1, j, none⟩ = false) := Lib.hid fun v hv =>
    ⟨hv.cell (by omega) (box_cell k0 0 _ rfl), hv.cell (by omega) (box_cell k0 1 _ rfl), hv.cell (by omega) (box_cell k1 0 _ rfl), hv.cell (by omega) (box_cell k1 1 _ rfl), fun j => hv.frozen (by omega) (by simp [World.frozen?, k1])⟩
  clear h b0 k0 k1 hz hw
  go_enter Tryz.func13, Tryz.ntmps13
  go_wp2_with fail
  rw [← hW]
  clear hW
  refine (scopy a n c X W HI.out HW.out).mono ?_
  rintro e w1 ⟨a1, n1, c1, G1, rfl, hd1, b1⟩
  obtain ⟨fs, rfl, hfs, hst⟩ := dop_start hd1 b1
  have HFS := Lib.hid hfs
  obtain ⟨xb, hxb⟩ : ∃ g, g = w1.heap.size := ⟨_, rfl⟩
  obtain ⟨w2, hw2⟩ : ∃ u, u = w1.alloc (.cells #[.slice a1 fs.length c1, .int .i64 X.fNextName] 26) := ⟨_, rfl⟩
  have D2 := Lib.hid (hst xb w2 hxb hw2)
  obtain ⟨p0, p1, -⟩ := FF.out _ D2.out.kept
  clear hd1 b1 hst hfs
  go_upto_region 2 with fail
  rw [← hxb, ← hw2]
  clear hw2 hxb
  go_wp2_with fail
  clear p0 p1
  refine (sat a n c X name w2 (HI.out.keep D2.out.kept.1)).mono ?_
  rintro e w3 ⟨rfl, b3⟩
  have D3 := Lib.hid (D2.out.below b3)
  obtain ⟨p0, p1, -⟩ := FF.out _ D3.out.kept
  obtain ⟨ki, hki⟩ : ∃ i, i = DiskD.atI X.fFiles name := ⟨_, rfl⟩
  rw [← hki]
  have HK := Lib.hid hki
  clear b3 hki
  go_wp2_with fail
  clear p0 p1
  refine (sokdisk a n c X w3 (HI.out.keep D3.out.kept.1) HW.out).mono ?_
  rintro e w4 ⟨rfl, b4⟩
  have D4 := Lib.hid (D3.out.below b4)
  obtain ⟨p0, p1, r0, r1, rf⟩ := FF.out _ D4.out.kept
  obtain ⟨x0, x1, xf⟩ := D4.out.x
  clear b4
  cases hok : DiskD.okD X with
  | false =>
    have hno := DiskD.delete_none (name := name) (DiskD.file_bad hok)
    have hY : X = Y := (HR.out _ hno).1.symm
    have hb : b = false := (HR.out _ hno).2
    subst hb
    subst hY
    clear hno
    clear hok
    go_wp2_with fail
    refine bodyPost_ret (v := .tuple #[.agg #[.slice a1 fs.length c1, .int .i64 X.fNextName], .bool false]) (by simp [results, Tryz.results13, go_sem, *]) rfl ?_
    exact disk_done (vs := [.bool false]) B0.out (D4.out.disk HFS.out HNX.out) D4.out.kept (by omega) (by have := HZ.out; omega) _ _
  | true =>
    have HOK := Lib.hid hok
    clear hok
    cases hat : DiskD.at? X.fFiles name with
    | none =>
      have hno := DiskD.delete_none (DiskD.file_none hat)
      have hY : X = Y := (HR.out _ hno).1.symm
      have hb : b = false := (HR.out _ hno).2
      subst hb
      subst hY
      clear hno
      have hk1 : ki = -1 := by rw [HK.out]; unfold DiskD.atI; rw [hat]
      subst hk1
      clear hat
      go_wp2_with fail
      refine bodyPost_ret (v := .tuple #[.agg #[.slice a1 fs.length c1, .int .i64 X.fNextName], .bool false]) (by simp [results, Tryz.results13, go_sem, *]) rfl ?_
      exact disk_done (vs := [.bool false]) B0.out (D4.out.disk HFS.out HNX.out) D4.out.kept (by omega) (by have := HZ.out; omega) _ _
    | some k =>
      obtain ⟨f, hf, hfn⟩ := DiskD.at_some hat
      have hfile := DiskD.file_some HOK.out hat hf
      have hk1 : ki = k := by rw [HK.out]; unfold DiskD.atI; rw [hat]
      subst hk1
      have HAE := Lib.hid (DiskD.delete_eq hfile)
      obtain ⟨bb, o, hd, rfl, hbl, hce, hin⟩ := (disk_in HI.out).1.el hf
      have hkl : k < n := by have := idx_lt hf; have := HL.out; omega
      have HF := Lib.hid hf
      obtain ⟨f0, f1, f2, f3⟩ := f
      obtain ⟨⟨fa, fn, fc⟩, ⟨⟩⟩ := hd
      have HIN := Lib.hid hin.2.1
      have CF : Hid (∀ v, Kept W.heap.size W v → v.cell? ⟨bb, o + k * 4, none⟩ = some (.int .i64 f0) ∧ v.cell? ⟨bb, o + k * 4 + 1, none⟩ = some (.slice fa fn fc) ∧ v.cell? ⟨bb, o + k * 4 + 2, none⟩ = some (.int .i64 f2) ∧ v.cell? ⟨bb, o + k * 4 + 3, none⟩ = some (.bool f3)) := Lib.hid fun v hv => ⟨hv.cell hbl (hce 0 _ rfl), hv.cell hbl (hce 1 _ rfl), hv.cell hbl (hce 2 _ rfl), hv.cell hbl (hce 3 _ rfl)⟩
      clear hat hfile hce hin hf hfn
      have hkf : k < fs.length := by have := idx_lt HF.out; rw [HFS.out, List.length_map] at this; exact this
      obtain ⟨g, c1', ea, hgB, hgl, -, -⟩ := D4.out.blk.addr (by omega)
      injection ea with ea1 ea2 ea3
      subst ea1 ea3
      clear ea2
      obtain ⟨e, he⟩ : ∃ e, fs[k]? = some e := ⟨fs[k], by simp [hkf]⟩
      have hex : e.x = ⟨f0, f1, f2, f3⟩ := by
        have h1 := HF.out
        rw [HFS.out, List.getElem?_map, he] at h1
        exact Option.some.inj h1
      obtain ⟨ex, ⟨⟨pa, pn, pc⟩, ⟨⟩⟩, eG⟩ := e
      simp only at hex
      subst hex
      have HE := Lib.hid he
      have HGN : Hid (g ∉ gsOf fs) := Lib.hid (by
        have h1 := D4.out.blk.nodup
        rw [blkOf_some, List.singleton_append, List.nodup_cons] at h1
        exact h1.1)
      have HXN : Hid (xb ∉ gsOf fs ∧ xb ≠ g) := Lib.hid ⟨fun hm => D4.out.out (List.mem_append_right _ hm), fun e => D4.out.out (List.mem_append_left _ (by rw [blkOf_some, e]; exact List.mem_singleton.2 rfl))⟩
      have hki1 : (k : Int) < fs.length := by omega
      have hki0 : (0 : Int) ≤ k := by omega
      clear he
      have hY := (HR.out _ HAE.out).1
      have hb : b = true := (HR.out _ HAE.out).2
      subst hb
      have HYE := Lib.hid hY
      clear hY
      have hps1 : fs.length ≤ 1000000000 := by
        have h2 := wt_file_len X.fFiles
        have h3 : wtDisk X = wtFiles X.fFiles := rfl
        have h4 := HW.out
        have h5 : X.fFiles.length = fs.length := by rw [HFS.out, List.length_map]
        omega
      have hcap := D4.out.blk.caps
      unfold maxLen at hcap
      obtain ⟨A, hA, hAc⟩ := D4.out.blk.from (k := k + 1) (by omega)
      have hA' : (if c1 = k + 1 then (some ⟨g, 0, none⟩ : Option Addr) else some ⟨g, (k + 1) * 4, none⟩) = some A := hA
      have HAC := Lib.hid hAc
      have HUP := Lib.hid (D4.out.blk.upto k)
      have HLOW := Lib.hid D4.out.kept.2
      have HND := Lib.hid D4.out.blk.nodup
      have HLT := Lib.hid D4.out.blk.lt
      have HTL : Hid ((fs.take k).length = k) := Lib.hid (by rw [List.length_take]; omega)
      have HDL : Hid ((fs.drop (k + 1)).length = fs.length - (k + 1)) := Lib.hid (List.length_drop ..)
      have KZ := Lib.hid (show Kept w4.heap.size w4 (w4.alloc (.cells #[] 58)).drew from (Kept.refl (Nat.le_refl _)).drew.alloc _)
      have MZ := Lib.hid (Blk.made 58 fileB w4 W.heap.size HLOW.out)
      have hnd2 : (gsOf fs).Nodup := (List.nodup_append.1 HND.out).2.1
      have HGS : Hid (∀ z ∈ gsOf (fs.take k ++ fs.drop (k + 1)), z < w4.heap.size) := Lib.hid fun z hz => by
        obtain ⟨f, hf, hz⟩ := mem_gs.1 hz
        have hf' : f ∈ fs := (List.mem_append.1 hf).elim List.mem_of_mem_take List.mem_of_mem_drop
        exact (HLT.out z (List.mem_append_right _ (mem_gs.2 ⟨f, hf', hz⟩))).2
      have HG1 : Hid (∀ z ∈ gsOf (fs.take k), z < w4.heap.size) := Lib.hid fun z hz => HGS.out z (by rw [gs_append]; exact List.mem_append_left _ hz)
      have HN1 : Hid ((blkOf (.slice (some ⟨w4.heap.size, 0, none⟩) 0 0) ++ gsOf (([] : List (BEl fileB)) ++ fs.take k)).Nodup) := Lib.hid (by
        have h1 := gs_erase k hnd2
        rw [gs_append] at h1
        rw [blkOf_some, List.singleton_append, List.nil_append, List.nodup_cons]
        exact ⟨fun hm => by have h2 : w4.heap.size < w4.heap.size := HG1.out _ hm; omega, (List.nodup_append.1 h1).1⟩)
      have HF1 : Hid (∀ f ∈ fs.take k, fileB.blk (w4.alloc (.cells #[] 58)).drew W.heap.size f.x f.h f.G) := Lib.hid fun f hf => fileB.blk_below (D4.out.blk.all f (List.mem_of_mem_take hf)) KZ.out.1
      have HC1 : Hid (∀ j u, (bcells (fs.take k))[j]? = some u → (w4.alloc (.cells #[] 58)).drew.cell? ((⟨g, 0, none⟩ : Addr).add j) = some u) := Lib.hid fun j u hj => Lib.cell?_alloc_some _ (HUP.out j u hj)
      have HL1 : Hid (([] : List (BEl fileB)).length + k ≤ 1000000000000) := Lib.hid (by simp; omega)
      have HL2 : Hid ((fs.take k).length + (fs.length - (k + 1)) ≤ 1000000000000) := Lib.hid (by rw [HTL.out]; omega)
      have HS1 : Hid (W.heap.size ≤ (w4.alloc (.cells #[] 58)).drew.heap.size) := Lib.hid (Nat.le_trans HLOW.out KZ.out.2)
      have AFT : Hid (∀ v6 w6, Blk 58 fileB w6 W.heap.size v6 (([] : List (BEl fileB)) ++ fs.take k) → ((w4.alloc (.cells #[] 58)).drew).grownBy w6 (Value.slice (some ⟨w4.heap.size, 0, none⟩) 0 0).ownBlock →
          (v6.ownBlock = (Value.slice (some ⟨w4.heap.size, 0, none⟩) 0 0).ownBlock ∨ v6.ownBlock = some (w4.alloc (.cells #[] 58)).drew.heap.size) →
          Kept w4.heap.size w4 w6 ∧ (∀ z, v6.ownBlock = some z → w4.heap.size ≤ z) ∧ Blk 58 fileB w6 W.heap.size v6 (fs.take k) ∧ (∀ f ∈ fs.drop (k + 1), fileB.blk w6 W.heap.size f.x f.h f.G) ∧ (blkOf v6 ++ gsOf (fs.take k ++ fs.drop (k + 1))).Nodup ∧
          (∀ j u, (bcells (fs.drop (k + 1)))[j]? = some u → w6.cell? (A.add j) = some u)) := Lib.hid fun v6 w6 hm hg hat => by
        have hk : Kept w4.heap.size w4 w6 := KZ.out.grown hg fun z hz => by simp [Value.ownBlock] at hz; omega
        have hv : ∀ z, v6.ownBlock = some z → w4.heap.size ≤ z := fun z hz => by
          rcases hat with h1 | h1
          · rw [h1] at hz; simp [Value.ownBlock] at hz; omega
          · rw [h1] at hz; have := Option.some.inj hz; have := KZ.out.2; omega
        rw [List.nil_append] at hm
        refine ⟨hk, hv, hm, fun f hf => fileB.blk_below (D4.out.blk.all f (List.mem_of_mem_drop hf)) hk.1, ?_, fun j u hj => ?_⟩
        · rw [List.nodup_append]
          refine ⟨by unfold blkOf; cases v6.ownBlock <;> simp, gs_erase k hnd2, fun x hx y hy e => ?_⟩
          have h1 := hv x (blkOf_mem.1 hx)
          have h2 := HGS.out y hy
          omega
        · have h1 := HAC.out j u hj
          exact (hk.1.cell (World.block_lt_of_cell? _ _ h1)).trans h1
      have HXL := Lib.hid (lt_of_block D4.out.box)
      have AFU : Hid (∀ (v6 v7 : Value) (w6 w7 : World), Kept w4.heap.size w4 w6 → (∀ z, v6.ownBlock = some z → w4.heap.size ≤ z) → w6.grownBy w7 v6.ownBlock → (v7.ownBlock = v6.ownBlock ∨ v7.ownBlock = some w6.heap.size) → Kept w4.heap.size w4 w7 ∧ ∀ z, v7.ownBlock = some z → w4.heap.size ≤ z) := Lib.hid fun v6 v7 w6 w7 hk hv hg hat =>
        ⟨hk.grown hg hv, fun z hz => by
          rcases hat with h1 | h1
          · exact hv z (by rw [← h1]; exact hz)
          · rw [h1] at hz; have := Option.some.inj hz; have := hk.2; omega⟩
      have hlen2 : ((k : Int) + 1) ≤ fs.length := by omega
      have hlen3 : ((k : Int) + 1) ≤ c1 := by omega
      have hlen4 : (k : Int) ≤ c1 := by omega
      have hlen5 : (fs.length : Int) ≤ c1 := by omega
      have hlen7 : (0 : Int) ≤ (k : Int) + 1 := by omega
      have hlen6 : ((k : Int) + 1).toNat = k + 1 := by omega
      clear hA hAc hcap
      go_wp2_with fail
      clear p0 p1 x0 x1 xf r0 r1 rf
      have hwr : IntKind.i64.wrap ((k : Int) + 1) = (k : Int) + 1 := by simp [IntKind.wrap, IntKind.bits, IntKind.signed]; omega
      refine region_plan (Kept w4.heap.size w4) (Pl.of [.q 1, .q 2, .q 3, .q 4, .q 6, .q 7, .q 8, .q 9, .q 10, .m 0, .m 5, .m 11, .q 12]) [13] (by kernel_rfl) (by kernel_rfl) (Kept.refl (Nat.le_refl _)).drew (fun hHeld => ?_)
      first | (refine pi_take (v := ?pv1_1) rfl (fun _ _ _ h => h) (by rfl) (fun v hv => ?pr1_1) ?rest1_1; case pr1_1 => (have d0 := hv.cell HXL.out D4.out.x.1; go_simp; first | done | with_reducible rfl)) | (refine pi_pass rfl (fun _ _ _ h => h) (by rfl) ?_)
      try simp only [Act.put, List.setIfInBounds_toArray, List.set_cons_zero, List.set_cons_succ]
      first | (refine pi_take (v := ?pv1_2) rfl (fun _ _ _ h => h) (by rfl) (fun v hv => ?pr1_2) ?rest1_2; case pr1_2 => (have d0 := hv.cell HXL.out D4.out.x.1; go_simp; first | done | with_reducible rfl)) | (refine pi_pass rfl (fun _ _ _ h => h) (by rfl) ?_)
      try simp only [Act.put, List.setIfInBounds_toArray, List.set_cons_zero, List.set_cons_succ]
      first | (refine pi_take (v := ?pv1_3) rfl (fun _ _ _ h => h) (by rfl) (fun v hv => ?pr1_3) ?rest1_3; case pr1_3 => (have d0 := hv.cell HXL.out D4.out.x.1; go_simp; first | done | with_reducible rfl)) | (refine pi_pass rfl (fun _ _ _ h => h) (by rfl) ?_)
      try simp only [Act.put, List.setIfInBounds_toArray, List.set_cons_zero, List.set_cons_succ]
      first | (refine pi_take (v := ?pv1_4) rfl (fun _ _ _ h => h) (by rfl) (fun v hv => ?pr1_4) ?rest1_4; case pr1_4 => (have d0 := hv.cell HXL.out D4.out.x.1; go_simp; first | done | with_reducible rfl)) | (refine pi_pass rfl (fun _ _ _ h => h) (by rfl) ?_)
      try simp only [Act.put, List.setIfInBounds_toArray, List.set_cons_zero, List.set_cons_succ]
      first | (refine pi_take (v := ?pv1_6) rfl (fun _ _ _ h => h) (by rfl) (fun v hv => ?pr1_6) ?rest1_6; case pr1_6 => (have d0 := hv.cell HXL.out D4.out.x.1; go_simp; first | done | with_reducible rfl)) | (refine pi_pass rfl (fun _ _ _ h => h) (by rfl) ?_)
      try simp only [Act.put, List.setIfInBounds_toArray, List.set_cons_zero, List.set_cons_succ]
      first | (refine pi_take (v := ?pv1_7) rfl (fun _ _ _ h => h) (by rfl) (fun v hv => ?pr1_7) ?rest1_7; case pr1_7 => (have d0 := hv.cell HXL.out D4.out.x.1; go_simp; first | done | with_reducible rfl)) | (refine pi_pass rfl (fun _ _ _ h => h) (by rfl) ?_)
      try simp only [Act.put, List.setIfInBounds_toArray, List.set_cons_zero, List.set_cons_succ]
      first | (refine pi_take (v := ?pv1_8) rfl (fun _ _ _ h => h) (by rfl) (fun v hv => ?pr1_8) ?rest1_8; case pr1_8 => (have d0 := hv.cell HXL.out D4.out.x.1; go_simp; first | done | with_reducible rfl)) | (refine pi_pass rfl (fun _ _ _ h => h) (by rfl) ?_)
      try simp only [Act.put, List.setIfInBounds_toArray, List.set_cons_zero, List.set_cons_succ]
      first | (refine pi_take (v := ?pv1_9) rfl (fun _ _ _ h => h) (by rfl) (fun v hv => ?pr1_9) ?rest1_9; case pr1_9 => (have d0 := hv.cell HXL.out D4.out.x.1; go_simp; first | done | with_reducible rfl)) | (refine pi_pass rfl (fun _ _ _ h => h) (by rfl) ?_)
      try simp only [Act.put, List.setIfInBounds_toArray, List.set_cons_zero, List.set_cons_succ]
      first | (refine pi_take (v := ?pv1_10) rfl (fun _ _ _ h => h) (by rfl) (fun v hv => ?pr1_10) ?rest1_10; case pr1_10 => (have d0 := hv.cell HXL.out D4.out.x.1; go_simp; first | done | with_reducible rfl)) | (refine pi_pass rfl (fun _ _ _ h => h) (by rfl) ?_)
      try simp only [Act.put, List.setIfInBounds_toArray, List.set_cons_zero, List.set_cons_succ]
      refine pi_step rfl (fun K hK => ?_)
      go_simp
      refine hK.out _ _ (by first | exact hU7.out.1 | exact hT6.out.1 | exact hHeld.alloc _) (fun hHeld2 => ?_)
      clear hK K hHeld
      have hHeld := hHeld2
      clear hHeld2
      try simp only [Act.put, List.setIfInBounds_toArray, List.set_cons_zero, List.set_cons_succ]
      refine pi_step rfl (fun K hK => ?_)
      first | (first | (refine step_manyE fileE (w := (w4.alloc (.cells #[] 58)).drew) (es := []) (fs.take k) (.tmp 21) (.tmp 25) ⟨g, 0, none⟩ k c1 (by rfl) (by rfl) (by rfl) (by rfl) HTL.out HC1.out (MZ.out.below (Below.refl _ _).drew) HF1.out HN1.out HS1.out HL1.out ?_; intro v6 w6 hm6 hg6 hat6; have hT6 := Lib.hid (AFT.out v6 w6 hm6 hg6 hat6); clear hm6 hg6 hat6) | (refine step_manyE fileE (w := w6) (es := fs.take k) (fs.drop (k + 1)) (.tmp 26) (.tmp 31) A (fs.length - (k + 1)) (c1 - (k + 1)) (by rfl) (by rfl) (by rfl) (by rfl) HDL.out hT6.out.2.2.2.2.2 hT6.out.2.2.1 hT6.out.2.2.2.1 hT6.out.2.2.2.2.1 (Nat.le_trans HLOW.out hT6.out.1.2) HL2.out ?_; intro v7 w7 hm7 hg7 hat7; obtain ⟨a7, c7, hv7, -⟩ := hm7.slice; obtain ⟨m, hm⟩ : ∃ m, m = (fs.take k ++ fs.drop (k + 1)).length := ⟨_, rfl⟩; rw [← hm] at hv7; subst hv7; clear hm; have hU7 := Lib.hid (AFU.out v6 _ w6 w7 hT6.out.1 hT6.out.2.1 hg7 hat7); have hM7 := Lib.hid hm7; have y0 := hU7.out.1.cell HXL.out D4.out.x.1; have yf := hU7.out.1.frozen (j := 0) HXL.out (D4.out.x.2.2 0); clear hm7 hg7 hat7)) | (go_simp; first | (refine step_manyE fileE (w := (w4.alloc (.cells #[] 58)).drew) (es := []) (fs.take k) (.tmp 21) (.tmp 25) ⟨g, 0, none⟩ k c1 (by rfl) (by rfl) (by rfl) (by rfl) HTL.out HC1.out (MZ.out.below (Below.refl _ _).drew) HF1.out HN1.out HS1.out HL1.out ?_; intro v6 w6 hm6 hg6 hat6; have hT6 := Lib.hid (AFT.out v6 w6 hm6 hg6 hat6); clear hm6 hg6 hat6) | (refine step_manyE fileE (w := w6) (es := fs.take k) (fs.drop (k + 1)) (.tmp 26) (.tmp 31) A (fs.length - (k + 1)) (c1 - (k + 1)) (by rfl) (by rfl) (by rfl) (by rfl) HDL.out hT6.out.2.2.2.2.2 hT6.out.2.2.1 hT6.out.2.2.2.1 hT6.out.2.2.2.2.1 (Nat.le_trans HLOW.out hT6.out.1.2) HL2.out ?_; intro v7 w7 hm7 hg7 hat7; obtain ⟨a7, c7, hv7, -⟩ := hm7.slice; obtain ⟨m, hm⟩ : ∃ m, m = (fs.take k ++ fs.drop (k + 1)).length := ⟨_, rfl⟩; rw [← hm] at hv7; subst hv7; clear hm; have hU7 := Lib.hid (AFU.out v6 _ w6 w7 hT6.out.1 hT6.out.2.1 hg7 hat7); have hM7 := Lib.hid hm7; have y0 := hU7.out.1.cell HXL.out D4.out.x.1; have yf := hU7.out.1.frozen (j := 0) HXL.out (D4.out.x.2.2 0); clear hm7 hg7 hat7))
      refine hK.out _ _ (by first | exact hU7.out.1 | exact hT6.out.1 | exact hHeld.alloc _) (fun hHeld2 => ?_)
      clear hK K hHeld
      have hHeld := hHeld2
      clear hHeld2
      try simp only [Act.put, List.setIfInBounds_toArray, List.set_cons_zero, List.set_cons_succ]
      refine pi_step rfl (fun K hK => ?_)
      first | (first | (refine step_manyE fileE (w := (w4.alloc (.cells #[] 58)).drew) (es := []) (fs.take k) (.tmp 21) (.tmp 25) ⟨g, 0, none⟩ k c1 (by rfl) (by rfl) (by rfl) (by rfl) HTL.out HC1.out (MZ.out.below (Below.refl _ _).drew) HF1.out HN1.out HS1.out HL1.out ?_; intro v6 w6 hm6 hg6 hat6; have hT6 := Lib.hid (AFT.out v6 w6 hm6 hg6 hat6); clear hm6 hg6 hat6) | (refine step_manyE fileE (w := w6) (es := fs.take k) (fs.drop (k + 1)) (.tmp 26) (.tmp 31) A (fs.length - (k + 1)) (c1 - (k + 1)) (by rfl) (by rfl) (by rfl) (by rfl) HDL.out hT6.out.2.2.2.2.2 hT6.out.2.2.1 hT6.out.2.2.2.1 hT6.out.2.2.2.2.1 (Nat.le_trans HLOW.out hT6.out.1.2) HL2.out ?_; intro v7 w7 hm7 hg7 hat7; obtain ⟨a7, c7, hv7, -⟩ := hm7.slice; obtain ⟨m, hm⟩ : ∃ m, m = (fs.take k ++ fs.drop (k + 1)).length := ⟨_, rfl⟩; rw [← hm] at hv7; subst hv7; clear hm; have hU7 := Lib.hid (AFU.out v6 _ w6 w7 hT6.out.1 hT6.out.2.1 hg7 hat7); have hM7 := Lib.hid hm7; have y0 := hU7.out.1.cell HXL.out D4.out.x.1; have yf := hU7.out.1.frozen (j := 0) HXL.out (D4.out.x.2.2 0); clear hm7 hg7 hat7)) | (go_simp; first | (refine step_manyE fileE (w := (w4.alloc (.cells #[] 58)).drew) (es := []) (fs.take k) (.tmp 21) (.tmp 25) ⟨g, 0, none⟩ k c1 (by rfl) (by rfl) (by rfl) (by rfl) HTL.out HC1.out (MZ.out.below (Below.refl _ _).drew) HF1.out HN1.out HS1.out HL1.out ?_; intro v6 w6 hm6 hg6 hat6; have hT6 := Lib.hid (AFT.out v6 w6 hm6 hg6 hat6); clear hm6 hg6 hat6) | (refine step_manyE fileE (w := w6) (es := fs.take k) (fs.drop (k + 1)) (.tmp 26) (.tmp 31) A (fs.length - (k + 1)) (c1 - (k + 1)) (by rfl) (by rfl) (by rfl) (by rfl) HDL.out hT6.out.2.2.2.2.2 hT6.out.2.2.1 hT6.out.2.2.2.1 hT6.out.2.2.2.2.1 (Nat.le_trans HLOW.out hT6.out.1.2) HL2.out ?_; intro v7 w7 hm7 hg7 hat7; obtain ⟨a7, c7, hv7, -⟩ := hm7.slice; obtain ⟨m, hm⟩ : ∃ m, m = (fs.take k ++ fs.drop (k + 1)).length := ⟨_, rfl⟩; rw [← hm] at hv7; subst hv7; clear hm; have hU7 := Lib.hid (AFU.out v6 _ w6 w7 hT6.out.1 hT6.out.2.1 hg7 hat7); have hM7 := Lib.hid hm7; have y0 := hU7.out.1.cell HXL.out D4.out.x.1; have yf := hU7.out.1.frozen (j := 0) HXL.out (D4.out.x.2.2 0); clear hm7 hg7 hat7))
      refine hK.out _ _ (by first | exact hU7.out.1 | exact hT6.out.1 | exact hHeld.alloc _) (fun hHeld2 => ?_)
      clear hK K hHeld
      have hHeld := hHeld2
      clear hHeld2
      try simp only [Act.put, List.setIfInBounds_toArray, List.set_cons_zero, List.set_cons_succ]
      first | (refine pi_take (v := ?pv1_12) rfl (fun _ _ _ h => h) (by rfl) (fun v hv => ?pr1_12) ?rest1_12; case pr1_12 => (have d0 := hv.cell HXL.out D4.out.x.1; go_simp; first | done | with_reducible rfl)) | (refine pi_pass rfl (fun _ _ _ h => h) (by rfl) ?_)
      try simp only [Act.put, List.setIfInBounds_toArray, List.set_cons_zero, List.set_cons_succ]
      refine pi_end ?_
      refine z_step rfl (fun K hK => ?_)
      go_simp
      refine hK.out _ _ ?_
      clear hK K
      try simp only [Act.put, List.setIfInBounds_toArray, List.set_cons_zero, List.set_cons_succ]
      refine z_end ?_
      clear hHeld
      obtain ⟨w8, hw8⟩ : ∃ u, u = w7.setCell ⟨xb, 0, none⟩ (.slice a7 m c7) := ⟨_, rfl⟩
      have hxn : xb ∉ blkOf (.slice a7 m c7) ++ gsOf (fs.take k ++ fs.drop (k + 1)) := fun hmm => by
        rcases List.mem_append.1 hmm with h1 | h1
        · have h2 := hU7.out.2 xb (blkOf_mem.1 h1)
          have h3 := HXL.out
          omega
        · obtain ⟨f, hf, hz⟩ := mem_gs.1 h1
          have hf' : f ∈ fs := (List.mem_append.1 hf).elim List.mem_of_mem_take List.mem_of_mem_drop
          exact HXN.out.1 (mem_gs.2 ⟨f, hf', hz⟩)
      have X8 : Hid (w8.heap[xb]? = some (.cells #[.slice a7 m c7, .int .i64 X.fNextName] 26 (0, 0))) := Lib.hid (by rw [hw8]; exact blk_put (hU7.out.1.heap HXL.out D4.out.box) rfl)
      have K8 : Hid (Kept W.heap.size W w8) := Lib.hid (by rw [hw8]; exact (D4.out.kept.trans (hU7.out.1.mono HLOW.out)).set D4.out.low _)
      have hdd := disk_blk (hM7.out.keep ((SameBlk.refl _ _).set (g := xb) (i := 0) (.slice a7 m c7) hxn)) HNX.out
      have hmap : (fs.take k ++ fs.drop (k + 1)).map BEl.x = X.fFiles.eraseIdx k := by rw [HFS.out, List.eraseIdx_eq_take_drop_succ, List.map_append, List.map_take, List.map_drop]
      rw [hmap] at hdd
      rw [← hw8] at hdd ⊢
      have DD := Lib.hid hdd
      have y1 := box_cell X8.out 1 _ rfl
      have y2 := box_cell X8.out 0 _ rfl
      obtain ⟨-, -, r0, r1, rf⟩ := FF.out _ K8.out
      clear hdd hmap hw8 y0 yf
      go_wp2_with fail
      refine bodyPost_ret (v := .tuple #[.agg #[.slice a7 m c7, .int .i64 X.fNextName], .bool true]) (by simp [results, Tryz.results13, go_sem, *]) rfl ?_
      rw [HYE.out]
      exact disk_done (Y := ⟨X.fFiles.eraseIdx k, X.fNextName⟩) (vs := [.bool true]) B0.out DD.out K8.out (by omega) (by have := HZ.out; omega) _ _
theorem sdelete (a : Option Addr) (n c : Nat) (X : DiskD) (name : Int) (w : World) (h : diskRep.inn w X ((a, n, c), ())) (hw : wtDisk X ≤ 1000000000) :
    Calls Tryz.prog 13 #[.agg #[.slice a n c, .int .i64 X.fNextName], .int .i64 name] w (DiskAnd ((DiskD.delete X name).getD X) [.bool (DiskD.delete X name).isSome] w) :=
  sdelete0 a n c X name w h hw _ _ fun r hr => by rw [hr]; exact ⟨rfl, rfl⟩
end Go.Proofs.YtjdjceohlcimaaaGreatDoor
/- The program's test of a file's name (a closure) and slices.IndexFunc with it, by contract. -/
namespace Go.Proofs.YtjdjceohlcimaaaGreatDoor
open Go.RowKit
set_option linter.unusedVariables false
theorem inamed (x0 : Int) (a : Option Addr) (n c : Nat) (x2 : Int) (x3 : Bool) (nb : Nat) (name : Int) (w : World) (h : w.cell? ⟨nb, 0, none⟩ = some (.int .i64 name)) (hb : nb < w.heap.size) :
    Calls Tryz.prog 41 #[.agg #[.int .i64 x0, .slice a n c, .int .i64 x2, .bool x3], .pointer (some ⟨nb, 0, none⟩)] w fun e w' => e = .returned (.bool (x0 == name)) ∧ Below w.heap.size w w' := by
  have hne : nb ≠ w.heap.size := by omega
  have b0 : Below w.heap.size w (w.alloc (.cells #[.int .i64 x0, .slice a n c, .int .i64 x2, .bool x3] 58)) := (Below.refl _ _).alloc (Nat.le_refl _) _
  have B0 := Lib.hid b0
  have h1 : (w.alloc (.cells #[.int .i64 x0, .slice a n c, .int .i64 x2, .bool x3] 58)).cell? ⟨nb, 0, none⟩ = some (.int .i64 name) := Lib.cell?_alloc_some _ h
  clear b0 h
  go_enter Tryz.func41, Tryz.ntmps41
  go_wp2_with fail
  go_ret
  exact ⟨rfl, B0.out⟩
set_option maxRecDepth 100000 in
set_option maxHeartbeats 1000000 in
theorem iindexfn (a : Option Addr) (n c : Nat) (F : List FileD) (nb : Nat) (name : Int) (w : World) (hi : SeqIn fileRep w a n F) (hn : n ≤ 1000000000) (h : w.cell? ⟨nb, 0, none⟩ = some (.int .i64 name)) (hb : nb < w.heap.size) :
    Calls Tryz.prog 67 #[.slice a n c, .func (.func 41) #[] #[.pointer (some ⟨nb, 0, none⟩)]] w fun e w' => e = .returned (.int .i64 (DiskD.atI F name)) ∧ Below w.heap.size w w' := by
  have HI := Lib.hid hi
  have HC := Lib.hid h
  have HB := Lib.hid hb
  have HL := Lib.hid hi.1
  clear hi h hb
  go_enter Tryz.func67, Tryz.ntmps67
  go_wp2_with fail
  go_loopw [8] (fun i wr => ∃ (t : Nat), i = .int .i64 t ∧ t ≤ n ∧ Hid (∀ (s : Nat) (g : FileD), s < t → F[s]? = some g → g.fName ≠ name) ∧ Hid (Below w.heap.size w wr)) (fun i _ => n - (intOf i).toNat)
  case atStart => exact ⟨0, rfl, Nat.zero_le _, fun s g hs => absurd hs (Nat.not_lt_zero _), Below.refl _ _⟩
  case round =>
    obtain ⟨t, rfl, ht, hno, hwr⟩ := hrel
    by_cases hlt : t < n
    · have htl : t < F.length := by have := HL.out; omega
      obtain ⟨f, hf⟩ : ∃ f, F[t]? = some f := ⟨F[t], by simp [htl]⟩
      obtain ⟨b, o, hd, rfl, hbl, hce, hin⟩ := HI.out.el hf
      have HF := Lib.hid hf
      obtain ⟨x0, x1, x2, x3⟩ := f
      obtain ⟨⟨a1, n1, k1⟩, ⟨⟩⟩ := hd
      have d0 : wr.cell? ⟨b, o + t * 4, none⟩ = some (.int .i64 x0) := (hwr.out.cell hbl).trans (hce 0 _ rfl)
      have d1 : wr.cell? ⟨b, o + t * 4 + 1, none⟩ = some (.slice a1 n1 k1) := (hwr.out.cell hbl).trans (hce 1 _ rfl)
      have d2 : wr.cell? ⟨b, o + t * 4 + 2, none⟩ = some (.int .i64 x2) := (hwr.out.cell hbl).trans (hce 2 _ rfl)
      have d3 : wr.cell? ⟨b, o + t * 4 + 3, none⟩ = some (.bool x3) := (hwr.out.cell hbl).trans (hce 3 _ rfl)
      clear hf hce hin
      go_wp2_with fail
      clear d0 d1 d2 d3
      refine (inamed x0 a1 n1 k1 x2 x3 nb name wr ((hwr.out.cell HB.out).trans HC.out) (Nat.lt_of_lt_of_le HB.out hwr.out.size)).mono ?_
      rintro e w5 ⟨rfl, b5⟩
      have B5 := Lib.hid (hwr.out.trans (b5.mono hwr.out.size))
      clear b5
      by_cases he : x0 = name
      · have HA := Lib.hid (show DiskD.atI F name = t by unfold DiskD.atI; rw [DiskD.at_hit HF.out he hno.out])
        have he' : (x0 == name) = true := by simpa using he
        clear he
        go_wp2_with fail
        go_ret
        exact ⟨by rw [HA.out]; rfl, B5.out⟩
      · have hne : (x0 == name) = false := by simpa using he
        have HE := Lib.hid he
        clear he
        go_wp2_with fail
        go_roundw
        case rel =>
          refine ⟨t + 1, by go_num, by omega, fun s g hs hg => ?_, B5⟩
          rcases Nat.lt_or_ge s t with h1 | h1
          · exact hno.out s g h1 hg
          · obtain rfl : s = t := by omega
            rw [HF.out] at hg
            cases hg
            exact HE.out
        case measure => simp [intOf]; omega
    · have HA := Lib.hid (show DiskD.atI F name = -1 by
        unfold DiskD.atI
        rw [DiskD.at_miss fun s g hg => hno.out s g (by have := idx_lt hg; have := HL.out; omega) hg])
      go_wp2_with fail
      go_ret
      exact ⟨by rw [HA.out]; rfl, hwr.out⟩
end Go.Proofs.YtjdjceohlcimaaaGreatDoor
/- One element cut out of a row in place, as mathematics and as memory; no function of program or reference is walked here. -/
namespace Go.Proofs.YtjdjceohlcimaaaGreatDoor
open Go.RowKit
set_option linter.unusedVariables false
def midRow {α : Type} (es : List α) (k i : Nat) : List α := es.take k ++ ((es.drop (k + 1)).take (i - k) ++ es.drop i)
theorem midRow_start {α : Type} (es : List α) (k : Nat) : midRow es k k = es := by simp [midRow]
theorem midRow_length {α : Type} {es : List α} {k i : Nat} (h1 : k ≤ i) (h2 : i < es.length) : (midRow es k i).length = es.length := by
  simp only [midRow, List.length_append, List.length_take, List.length_drop]; omega
theorem midRow_get {α : Type} {es : List α} {k i : Nat} (h1 : k ≤ i) (h2 : i < es.length) {s : Nat} (hs : i ≤ s) : (midRow es k i)[s]? = es[s]? := by
  unfold midRow
  rw [List.getElem?_append_right (by simp; omega), List.getElem?_append_right (by simp only [List.length_take, List.length_drop]; omega), List.getElem?_drop]
  congr 1
  simp only [List.length_take, List.length_drop]
  omega
theorem midRow_next {α : Type} {es : List α} {k i : Nat} {e : α} (h1 : k ≤ i) (h2 : es[i + 1]? = some e) : (midRow es k i).set i e = midRow es k (i + 1) := by
  have hl := idx_lt h2
  have e0 : es.drop i = es[i] :: es.drop (i + 1) := List.drop_eq_getElem_cons (by omega)
  have e1 : i + 1 - k = (i - k) + 1 := by omega
  have hd : i - k < (es.drop (k + 1)).length := by simp; omega
  have e2 : (es.drop (k + 1))[i - k]'hd = e := by
    have h3 : (es.drop (k + 1))[i - k]? = some e := by rw [List.getElem?_drop]; rw [show k + 1 + (i - k) = i + 1 by omega]; exact h2
    rw [List.getElem?_eq_getElem hd] at h3
    exact Option.some.inj h3
  unfold midRow
  rw [e1, List.take_succ_eq_append_getElem hd, e2, e0, List.set_append_right _ _ (by simp; omega), List.set_append_right _ _ (by simp only [List.length_take, List.length_drop]; omega)]
  have e3 : i - (es.take k).length - ((es.drop (k + 1)).take (i - k)).length = 0 := by simp only [List.length_take, List.length_drop]; omega
  rw [e3, List.set_cons_zero]
  simp
theorem midRow_end {α : Type} {es : List α} {k n : Nat} (h1 : k ≤ n) (hn : es.length = n + 1) : (midRow es k n).take n = es.eraseIdx k := by
  have e1 : ((es.drop (k + 1)).take (n - k)) = es.drop (k + 1) := List.take_of_length_le (by simp only [List.length_drop]; omega)
  have e2 : (es.take k ++ es.drop (k + 1)).length = n := by simp only [List.length_append, List.length_take, List.length_drop]; omega
  unfold midRow
  rw [e1, ← List.append_assoc, List.take_append_of_le_length (by omega), List.take_of_length_le (by omega), List.eraseIdx_eq_take_drop_succ]
theorem set4 {α : Type} (pre post : List α) (p : Nat) (hp : pre.length = p) (y0 y1 y2 y3 x0 x1 x2 x3 : α) :
    ((((pre ++ ([y0, y1, y2, y3] ++ post)).set p x0).set (p + 1) x1).set (p + 2) x2).set (p + 3) x3 = pre ++ ([x0, x1, x2, x3] ++ post) := by
  subst hp
  rw [List.set_append_right _ _ (Nat.le_refl _), Nat.sub_self, List.set_append_right _ _ (by omega), show pre.length + 1 - pre.length = 1 by omega, List.set_append_right _ _ (by omega), show pre.length + 2 - pre.length = 2 by omega, List.set_append_right _ _ (by omega), show pre.length + 3 - pre.length = 3 by omega]
  rfl
def fcells (e : BEl fileB) : List Value := [.int .i64 e.x.fName, .slice e.h.1.1 e.h.1.2.1 e.h.1.2.2, .int .i64 e.x.fChecksum, .bool e.x.fSealed]
theorem fcells_eq (e : BEl fileB) : fileB.rep.cells e.x e.h = fcells e := rfl
theorem bcells_put {L : List (BEl fileB)} {i : Nat} {e : BEl fileB} (hi : i < L.length) :
    (((((bcells L).set (i * 4) (.int .i64 e.x.fName)).set (i * 4 + 1) (.slice e.h.1.1 e.h.1.2.1 e.h.1.2.2)).set (i * 4 + 2) (.int .i64 e.x.fChecksum)).set (i * 4 + 3) (.bool e.x.fSealed)) = bcells (L.set i e) := by
  obtain ⟨e0, h0⟩ : ∃ e0, L[i]? = some e0 := ⟨L[i], by simp [hi]⟩
  have h1 : bcells (L.set i e) = bcells (L.take i) ++ (fcells e ++ bcells (L.drop (i + 1))) := by
    rw [List.set_eq_take_append_cons_drop, if_pos hi, bcells_append]; simp [bcells, fcells_eq]
  rw [h1, bcells_split L i e0 h0, fcells_eq]
  exact set4 _ _ _ (bcells_take_len L i hi) _ _ _ _ _ _ _ _
def FilesAt (w : World) (g c : Nat) (L : List (BEl fileB)) : Prop := ∃ cur, w.heap[g]? = some (.cells cur 58 (0, 0)) ∧ cur.size = c * 4 ∧ cur.toList.take (L.length * 4) = bcells L
theorem FilesAt.cell {w : World} {g c : Nat} {L : List (BEl fileB)} (h : FilesAt w g c L) {s : Nat} {e : BEl fileB} (hs : L[s]? = some e) (m : Nat) (u : Value) (hm : (fcells e)[m]? = some u) : w.cell? ⟨g, s * 4 + m, none⟩ = some u := by
  obtain ⟨cur, h1, h2, h3⟩ := h
  have h4 : (bcells L)[s * 4 + m]? = some u := bcells_get L s e hs m u hm
  rw [← h3, List.getElem?_take] at h4
  split at h4
  · exact box_cell h1 _ u (by simpa using h4)
  · cases h4
theorem FilesAt.frozen {w : World} {g c : Nat} {L : List (BEl fileB)} (h : FilesAt w g c L) (j : Nat) : w.frozen? ⟨g, j, none⟩ = false := by
  obtain ⟨cur, h1, h2, h3⟩ := h
  simp [World.frozen?, h1]
theorem FilesAt.keep {w w' : World} {g c : Nat} {L : List (BEl fileB)} (h : FilesAt w g c L) (hb : w'.heap[g]? = w.heap[g]?) : FilesAt w' g c L := by
  obtain ⟨cur, h1, h2⟩ := h
  exact ⟨cur, hb.trans h1, h2⟩
theorem FilesAt.put {w : World} {g c : Nat} {L : List (BEl fileB)} (h : FilesAt w g c L) {i : Nat} (hi : i < L.length) (e : BEl fileB) :
    FilesAt ((((w.setCell ⟨g, i * 4, none⟩ (.int .i64 e.x.fName)).setCell ⟨g, i * 4 + 1, none⟩ (.slice e.h.1.1 e.h.1.2.1 e.h.1.2.2)).setCell ⟨g, i * 4 + 2, none⟩ (.int .i64 e.x.fChecksum)).setCell ⟨g, i * 4 + 3, none⟩ (.bool e.x.fSealed)) g c (L.set i e) := by
  obtain ⟨cur, h1, h2, h3⟩ := h
  refine ⟨_, Joins.block_setCell (Joins.block_setCell (Joins.block_setCell (Joins.block_setCell h1 _) _) _) _, by simpa using h2, ?_⟩
  rw [List.length_set, ← bcells_put hi, ← h3]
  simp [List.take_set]
theorem FilesAt.cut {w w' : World} {B g c n m k : Nat} {es L : List (BEl fileB)} (h : FilesAt w' g c L) (hbl : Blk 58 fileB w B (.slice (some ⟨g, 0, none⟩) n c) es) (hg : w.grownBy w' (some g)) (hL : L.take m = es.eraseIdx k) (hm : (es.eraseIdx k).length = m) (hml : m ≤ L.length) :
    Blk 58 fileB w' B (.slice (some ⟨g, 0, none⟩) m c) (es.eraseIdx k) := by
  have hnd := hbl.nodup
  have hgl := hbl.lt g (List.mem_append_left _ (by rw [blkOf_some]; exact List.mem_singleton.2 rfl))
  have hsub : (es.eraseIdx k).Sublist es := List.eraseIdx_sublist _ _
  refine ⟨⟨by rw [bcells_length], .inr ?_⟩, fun e he => ?_, ?_⟩
  · obtain ⟨cur, h1, h2, h3⟩ := h
    obtain ⟨hc1, hc2, hc3⟩ := hbl.caps
    have hle : (es.eraseIdx k).length ≤ es.length := hsub.length_le
    refine ⟨g, c, cur, by rw [hm], hgl.1, h1, by omega, hc3, h2, ?_⟩
    rw [hm, ← hL]
    have e1 : bcells L = bcells (L.take m) ++ bcells (L.drop m) := by rw [← bcells_append, List.take_append_drop]
    have e2 : (bcells (L.take m)).length = m * 4 := by rw [bcells_length, List.length_take, Nat.min_eq_left hml]; rfl
    have e3 : cur.toList.take (m * 4) = (cur.toList.take (L.length * 4)).take (m * 4) := by rw [List.take_take, Nat.min_eq_left (by omega)]
    show cur.toList.take (m * 4) = _
    rw [e3, h3, e1, List.take_append_of_le_length (by omega), List.take_of_length_le (by omega)]
  · have hmem := hsub.subset he
    refine fileB.blk_keep (hbl.all e hmem) ⟨hg.size, fun z hz => hg.block z (fileB.blk_lt (hbl.all e hmem) z hz).2 fun e1 => ?_⟩
    have hz2 := mem_gs.2 ⟨e, hmem, hz⟩
    rw [blkOf_some, List.singleton_append, List.nodup_cons] at hnd
    exact hnd.1 (by rw [show g = z from (Option.some.inj e1).symm]; exact hz2)
  · exact hnd.sublist (by
      rw [blkOf_some, blkOf_some]
      exact List.Sublist.append (List.Sublist.refl _) (gs_sub hsub))
end Go.Proofs.YtjdjceohlcimaaaGreatDoor
/- slices.DeleteFunc at files, with the program's test of a name, by contract: one file has the name. -/
namespace Go.Proofs.YtjdjceohlcimaaaGreatDoor
open Go.RowKit
set_option linter.unusedVariables false
theorem run_clear_file (w : World) (ty : TypeId) (g o c : Nat) (u0 u1 u2 u3 : Value) (h0 : w.cell? ⟨g, o, none⟩ = some u0) (h1 : w.cell? ⟨g, o + 1, none⟩ = some u1) (h2 : w.cell? ⟨g, o + 2, none⟩ = some u2) (h3 : w.cell? ⟨g, o + 3, none⟩ = some u3) (hf : ∀ j, w.frozen? ⟨g, j, none⟩ = false) :
    (Builtin.clear_ #[24] ty #[.slice (some ⟨g, o, none⟩) 1 c]).run Tryz.prog w = .ok (.tuple #[]) ((((w.setCell ⟨g, o, none⟩ (.int .i64 0)).setCell ⟨g, o + 1, none⟩ (.slice none 0 0)).setCell ⟨g, o + 2, none⟩ (.int .i64 0)).setCell ⟨g, o + 3, none⟩ (.bool false)) := by
  have hz : ∀ w, (zeroValue 58).run Tryz.prog w = .ok (.agg #[.int .i64 0, .slice none 0 0, .int .i64 0, .bool false]) w := fun w => by kernel_rfl
  have hzc : (Builtin.zeroCells (Value.agg #[.int .i64 0, .slice none 0 0, .int .i64 0, .bool false]).cells 1).toList = [.int .i64 0, .slice none 0 0, .int .i64 0, .bool false] := by kernel_rfl
  have hst := run_storeCells_cells (P := Tryz.prog) g o [.int .i64 0, .slice none 0 0, .int .i64 0, .bool false] 0 w (fun j hj => by
    match j, hj with
    | 0, _ => simp [h0]
    | 1, _ => simp [h1]
    | 2, _ => simp [h2]
    | 3, _ => simp [h3]) (fun j hj => hf _) (fun v hv => by
    simp only [List.mem_cons, List.not_mem_nil, or_false] at hv
    rcases hv with rfl | rfl | rfl | rfl <;> rfl)
  simp only [Nat.add_zero] at hst
  simp [Builtin.clear_, run_underlying Tryz.underlying24, hz, hzc, hst]
  rfl
theorem grown_put {w w' : World} {g p : Nat} {u : Value} (h : w.grownBy w' (some g)) : w.grownBy (w'.setCell ⟨g, p, none⟩ u) (some g) :=
  ⟨h.os, h.tape, h.output, by simpa [World.setCell] using h.size, fun z hz hn => (Below.heap_setCell w' ⟨g, p, none⟩ u z (fun e => hn (by rw [show z = g from e]))).trans (h.block z hz hn)⟩
set_option maxRecDepth 100000 in
set_option maxHeartbeats 2000000 in
theorem ideletefn (g n m c : Nat) (es : List (BEl fileB)) (k : Nat) (f : BEl fileB) (B nb : Nat) (name : Int) (w : World) (hbl : Blk 58 fileB w B (.slice (some ⟨g, 0, none⟩) n c) es) (hk : es[k]? = some f) (hf : f.x.fName = name)
    (hu : ∀ (s : Nat) (e : BEl fileB), es[s]? = some e → s ≠ k → e.x.fName ≠ name) (hm : n = m + 1) (hn : n ≤ 1000000000) (hc : w.cell? ⟨nb, 0, none⟩ = some (.int .i64 name)) (hb : nb < w.heap.size) (hne : nb ≠ g) :
    Calls Tryz.prog 40 #[.slice (some ⟨g, 0, none⟩) n c, .func (.func 41) #[] #[.pointer (some ⟨nb, 0, none⟩)]] w fun e w' =>
      e = .returned (.slice (some ⟨g, 0, none⟩) m c) ∧ Blk 58 fileB w' B (.slice (some ⟨g, 0, none⟩) m c) (es.eraseIdx k) ∧ w.grownBy w' (some g) := by
  have hkl := idx_lt hk
  obtain ⟨hnl, hnc, hcm⟩ := hbl.caps
  unfold maxLen at hcm
  have HBL := Lib.hid hbl
  have HM := Lib.hid hm
  have HC := Lib.hid hc
  have HB := Lib.hid hb
  have HNE := Lib.hid hne
  have HNL := Lib.hid hnl
  have HK := Lib.hid hk
  have HU := Lib.hid hu
  have HGL : Hid (B ≤ g ∧ g < w.heap.size) := Lib.hid (hbl.lt g (List.mem_append_left _ (by rw [blkOf_some]; exact List.mem_singleton.2 rfl)))
  have HIN : Hid (SeqIn fileRep w (some ⟨g, 0, none⟩) n (es.map BEl.x)) := Lib.hid (by
    obtain ⟨F, hF, -⟩ := hbl.seq
    exact hF.inn)
  have HAT : Hid (DiskD.atI (es.map BEl.x) name = k) := Lib.hid (by
    unfold DiskD.atI
    rw [DiskD.at_hit (f := f.x) (by rw [List.getElem?_map, hk]; rfl) hf fun s e hs he => by
      rw [List.getElem?_map] at he
      obtain ⟨e', h1, h2⟩ := Option.map_eq_some_iff.1 he
      rw [← h2]
      exact hu s e' h1 (by omega)])
  have HROW : Hid (FilesAt w g c (midRow es k k)) := Lib.hid (by
    rw [midRow_start]
    obtain ⟨h1, ⟨h2, -⟩ | ⟨g', cap, cur, h2, h3, h4, h5, h6, h7, h8⟩⟩ := hbl.own
    · cases h2
    · injection h2 with e1 e2 e3
      injection e1 with e1
      injection e1 with e1
      subst e1 e3
      exact ⟨cur, h4, h7, h8⟩)
  have hkn : k < n := by omega
  clear hbl hk hu hc hb hne hnl hf hkl hm
  go_enter Tryz.func40, Tryz.ntmps40
  go_wp2_with fail
  refine (iindexfn (some ⟨g, 0, none⟩) n c (es.map BEl.x) nb name w HIN.out hn HC.out HB.out).mono ?_
  rintro e w1 ⟨rfl, b1⟩
  rw [HAT.out]
  have G1 : Hid (w.grownBy w1 (some g)) := Lib.hid ⟨b1.os, b1.tape, b1.output, b1.size, fun z hz _ => b1.block z hz⟩
  have R1 := Lib.hid (HROW.out.keep (b1.block _ HGL.out.2))
  have hkm : ((k : Int) == -1) = false := by rw [beq_eq_false_iff_ne]; omega
  clear b1
  go_wp2_with fail
  go_loopw [5, 6] (fun q j wr => ∃ (i : Nat), q = .int .i64 i ∧ j = .int .i64 ((i : Int) + 1) ∧ k ≤ i ∧ i < n ∧ Hid (w.grownBy wr (some g)) ∧ Hid (FilesAt wr g c (midRow es k i))) (fun q _ _ => n - (intOf q).toNat)
  case atStart => exact ⟨k, rfl, rfl, Nat.le_refl _, hkn, G1, R1⟩
  case round =>
    obtain ⟨i, rfl, rfl, hi1, hi2, hg, hr⟩ := hrel
    have hnl := HNL.out
    have t1 : ((i : Int) + 1).toNat = i + 1 := by omega
    have t2 : (0 : Int) ≤ (i : Int) + 1 := by omega
    by_cases hlt : i + 1 < n
    · obtain ⟨e, he⟩ : ∃ e, es[i + 1]? = some e := ⟨es[i + 1]'(by omega), by simp⟩
      obtain ⟨e', he'⟩ : ∃ e', es[i]? = some e' := ⟨es[i]'(by omega), by simp⟩
      have HE := Lib.hid he
      have HE' := Lib.hid he'
      have hm1 := (midRow_get (es := es) hi1 (by omega) (Nat.le_succ i)).trans he
      have hm0 := (midRow_get (es := es) hi1 (by omega) (Nat.le_refl i)).trans he'
      have HM0 := Lib.hid hm0
      have hnm := HU.out _ _ he (by omega)
      have hnm' : (e.x.fName == name) = false := by simpa using hnm
      have d0 : wr.cell? ⟨g, (i + 1) * 4, none⟩ = some (.int .i64 e.x.fName) := hr.out.cell hm1 0 _ rfl
      have d1 : wr.cell? ⟨g, (i + 1) * 4 + 1, none⟩ = some (.slice e.h.1.1 e.h.1.2.1 e.h.1.2.2) := hr.out.cell hm1 1 _ rfl
      have d2 : wr.cell? ⟨g, (i + 1) * 4 + 2, none⟩ = some (.int .i64 e.x.fChecksum) := hr.out.cell hm1 2 _ rfl
      have d3 : wr.cell? ⟨g, (i + 1) * 4 + 3, none⟩ = some (.bool e.x.fSealed) := hr.out.cell hm1 3 _ rfl
      have lt1 : (i : Int) + 1 < (n : Int) := by omega
      have lt0 : (i : Int) < (n : Int) := by omega
      obtain ⟨w2, hw2⟩ : ∃ u, u = wr.alloc (.cells #[.int .i64 e.x.fName, .slice e.h.1.1 e.h.1.2.1 e.h.1.2.2, .int .i64 e.x.fChecksum, .bool e.x.fSealed] 58) := ⟨_, rfl⟩
      obtain ⟨vb, hvb⟩ : ∃ v, v = wr.heap.size := ⟨_, rfl⟩
      have b2 : Below wr.heap.size wr w2 := by rw [hw2]; exact (Below.refl _ _).alloc (Nat.le_refl _) _
      have hx2 : w2.heap[vb]? = some (.cells #[.int .i64 e.x.fName, .slice e.h.1.1 e.h.1.2.1 e.h.1.2.2, .int .i64 e.x.fChecksum, .bool e.x.fSealed] 58 (0, 0)) := by rw [hw2, hvb]; exact heap_alloc_new _ _
      have X2 := Lib.hid hx2
      have B2 := Lib.hid b2
      have HSZ : Hid (w.heap.size ≤ wr.heap.size ∧ vb = wr.heap.size) := Lib.hid ⟨hg.out.size, hvb⟩
      clear b2 hx2 he he' hm1 hm0 hnm
      go_upto_region 8 with fail
      rw [← hvb, ← hw2]
      clear hvb hw2 d0 d1 d2 d3
      have u0 := box_cell X2.out 0 _ rfl
      have u1 := box_cell X2.out 1 _ rfl
      have u2 := box_cell X2.out 2 _ rfl
      have u3 := box_cell X2.out 3 _ rfl
      go_wp2_with fail
      clear u0 u1 u2 u3
      have C2 : w2.cell? ⟨nb, 0, none⟩ = some (.int .i64 name) := (B2.out.cell (p := ⟨nb, 0, none⟩) (Nat.lt_of_lt_of_le HB.out HSZ.out.1)).trans ((World.cell?_of_block (hg.out.block nb HB.out (fun e => HNE.out (Option.some.inj e)))).trans HC.out)
      refine (inamed e.x.fName e.h.1.1 e.h.1.2.1 e.h.1.2.2 e.x.fChecksum e.x.fSealed nb name w2 C2 (Nat.lt_of_lt_of_le HB.out (Nat.le_trans HSZ.out.1 B2.out.size))).mono ?_
      rintro e3 w3 ⟨rfl, b3⟩
      have B3 := Lib.hid (B2.out.trans (b3.mono B2.out.size))
      have X3 := Lib.hid ((b3.block _ (lt_of_block X2.out)).trans X2.out)
      have G3 : Hid (w.grownBy w3 (some g)) := Lib.hid ⟨B3.out.os.trans hg.out.os, B3.out.tape.trans hg.out.tape, B3.out.output.trans hg.out.output, Nat.le_trans HSZ.out.1 B3.out.size, fun z hz hn => (B3.out.block z (Nat.lt_of_lt_of_le hz HSZ.out.1)).trans (hg.out.block z hz hn)⟩
      have R3 := Lib.hid (hr.out.keep (B3.out.block g (Nat.lt_of_lt_of_le HGL.out.2 HSZ.out.1)))
      have u0 := box_cell X3.out 0 _ rfl
      have u1 := box_cell X3.out 1 _ rfl
      have u2 := box_cell X3.out 2 _ rfl
      have u3 := box_cell X3.out 3 _ rfl
      have v0 : w3.cell? ⟨g, i * 4, none⟩ = some (.int .i64 e'.x.fName) := R3.out.cell HM0.out 0 _ rfl
      have v1 : w3.cell? ⟨g, i * 4 + 1, none⟩ = some (.slice e'.h.1.1 e'.h.1.2.1 e'.h.1.2.2) := R3.out.cell HM0.out 1 _ rfl
      have v2 : w3.cell? ⟨g, i * 4 + 2, none⟩ = some (.int .i64 e'.x.fChecksum) := R3.out.cell HM0.out 2 _ rfl
      have v3 : w3.cell? ⟨g, i * 4 + 3, none⟩ = some (.bool e'.x.fSealed) := R3.out.cell HM0.out 3 _ rfl
      have vf := R3.out.frozen
      clear b3 C2
      have R5 := Lib.hid (R3.out.put (i := i) (by rw [midRow_length hi1 (by omega)]; omega) e)
      rw [midRow_next hi1 HE.out] at R5
      have G5 : Hid (w.grownBy ((((w3.setCell ⟨g, i * 4, none⟩ (.int .i64 e.x.fName)).setCell ⟨g, i * 4 + 1, none⟩ (.slice e.h.1.1 e.h.1.2.1 e.h.1.2.2)).setCell ⟨g, i * 4 + 2, none⟩ (.int .i64 e.x.fChecksum)).setCell ⟨g, i * 4 + 3, none⟩ (.bool e.x.fSealed)) (some g)) := Lib.hid (grown_put (grown_put (grown_put (grown_put G3.out))))
      clear hnl
      go_wp2_with fail
      go_roundw
      case rel => exact ⟨i + 1, by go_num, by go_num, by omega, by omega, G5, R5⟩
      case measure => simp [intOf]; omega
    · have hin : i + 1 = n := by omega
      have HIN1 := Lib.hid hin
      obtain ⟨e', he'⟩ : ∃ e', es[i]? = some e' := ⟨es[i]'(by omega), by simp⟩
      have hm0 := (midRow_get (es := es) hi1 (by omega) (Nat.le_refl i)).trans he'
      have v0 : wr.cell? ⟨g, i * 4, none⟩ = some (.int .i64 e'.x.fName) := hr.out.cell hm0 0 _ rfl
      have v1 : wr.cell? ⟨g, i * 4 + 1, none⟩ = some (.slice e'.h.1.1 e'.h.1.2.1 e'.h.1.2.2) := hr.out.cell hm0 1 _ rfl
      have v2 : wr.cell? ⟨g, i * 4 + 2, none⟩ = some (.int .i64 e'.x.fChecksum) := hr.out.cell hm0 2 _ rfl
      have v3 : wr.cell? ⟨g, i * 4 + 3, none⟩ = some (.bool e'.x.fSealed) := hr.out.cell hm0 3 _ rfl
      have hcl : ∀ ty c', (Builtin.clear_ #[24] ty #[.slice (some ⟨g, i * 4, none⟩) 1 c']).run Tryz.prog wr = _ := fun ty c' => run_clear_file wr ty g (i * 4) c' _ _ _ _ v0 v1 v2 v3 hr.out.frozen
      have lt1 : decide ((i : Int) + 1 < (n : Int)) = false := decide_eq_false (by omega)
      have lt0 : (i : Int) < (n : Int) := by omega
      have hic : (i : Int) ≤ (c : Int) := by omega
      have hci : c ≠ i := by omega
      have hni : n - i = 1 := by omega
      obtain rfl : i = m := by have := HM.out; omega
      clear hnl hin hm0 he'
      go_wp2_with (simp only [hcl])
      go_ret
      have hml := midRow_length hi1 (show i < es.length by have := HNL.out; omega)
      have hnl := HNL.out
      have hkl := idx_lt HK.out
      have hlen : (es.eraseIdx k).length = i := by rw [List.length_eraseIdx_of_lt hkl]; omega
      have HG := grown_put (u := .bool false) (p := i * 4 + 3) (grown_put (u := .int .i64 0) (p := i * 4 + 2) (grown_put (u := .slice none 0 0) (p := i * 4 + 1) (grown_put (u := .int .i64 0) (p := i * 4) hg.out)))
      refine ⟨rfl, ?_, HG⟩
      refine FilesAt.cut (hr.out.put (i := i) (by omega) ⟨⟨0, [], 0, false⟩, ((none, 0, 0), ()), []⟩) HBL.out HG ?_ hlen (by rw [List.length_set]; omega)
      rw [List.take_set_of_le (Nat.le_refl _)]
      exact midRow_end hi1 (by omega)
end Go.Proofs.YtjdjceohlcimaaaGreatDoor
/- The program's DeleteFile, by contract. -/
namespace Go.Proofs.YtjdjceohlcimaaaGreatDoor
open Go.RowKit
set_option linter.unusedVariables false
set_option maxRecDepth 100000 in
set_option maxHeartbeats 4000000 in
theorem idelete0 (a : Option Addr) (n c : Nat) (X : DiskD) (name : Int) (w : World) (h : diskRep.inn w X ((a, n, c), ())) (hw : wtDisk X ≤ 1000000000) (Y : DiskD) (b : Bool)
    (HR : Hid (∀ r, DiskD.delete X name = r → Y = r.getD X ∧ b = r.isSome)) :
    Calls Tryz.prog 12 #[.agg #[.slice a n c, .int .i64 X.fNextName], .int .i64 name] w (DiskAnd Y [.bool b] w) := by
  obtain ⟨W, hW⟩ : ∃ W, W = ((w.alloc (.cells #[.slice a n c, .int .i64 X.fNextName] 26)).alloc (.cells #[.int .i64 name] 3)).alloc (.cells #[.slice none 0 0, .int .i64 0] 26) := ⟨_, rfl⟩
  obtain ⟨hz, b0, k0, k1, k2⟩ := boxes3 w W hW
  have HZ := Lib.hid hz
  have B0 := Lib.hid b0
  have HI := Lib.hid (h.keep b0)
  have HW := Lib.hid hw
  have HNX := Lib.hid (disk_in h).2.2
  have HL := Lib.hid (disk_len h).1
  have hnm := (disk_len h).2
  unfold maxLen at hnm
  have FF : Hid (∀ v, Kept W.heap.size W v → v.cell? ⟨w.heap.size, 0, none⟩ = some (.slice a n c) ∧ v.cell? ⟨w.heap.size, 1, none⟩ = some (.int .i64 X.fNextName) ∧ v.cell? ⟨w.heap.size + 1, 0, none⟩ = some (.int .i64 name) ∧
      v.cell? ⟨w.heap.size + 2, 0, none⟩ = some (.slice none 0 0) ∧ v.cell? ⟨w.heap.size + 2, 1, none⟩ = some (.int .i64 0) ∧ ∀ j, v.frozen? ⟨w.heap.size + 2, j, none⟩ = false) := Lib.hid fun v hv =>
    ⟨hv.cell (by omega) (box_cell k0 0 _ rfl), hv.cell (by omega) (box_cell k0 1 _ rfl), hv.cell (by omega) (box_cell k1 0 _ rfl), hv.cell (by omega) (box_cell k2 0 _ rfl), hv.cell (by omega) (box_cell k2 1 _ rfl), fun j => hv.frozen (by omega) (by simp [World.frozen?, k2])⟩
  clear h b0 k0 k1 k2 hz hw
  go_enter Tryz.func12, Tryz.ntmps12
  go_wp2_with fail
  rw [← hW]
  clear hW
  refine (iclonedisk a n c X W HI.out HW.out).mono ?_
  rintro e w1 ⟨a1, n1, c1, G1, rfl, hd1, b1⟩
  obtain ⟨fs, rfl, hfs, hst⟩ := dop_start hd1 b1
  have HFS := Lib.hid hfs
  obtain ⟨xb, hxb⟩ : ∃ g, g = w1.heap.size := ⟨_, rfl⟩
  obtain ⟨w2, hw2⟩ : ∃ u, u = w1.alloc (.cells #[.slice a1 fs.length c1, .int .i64 X.fNextName] 26) := ⟨_, rfl⟩
  have D2 := Lib.hid (hst xb w2 hxb hw2)
  obtain ⟨p0, p1, p2, -⟩ := FF.out _ D2.out.kept
  clear hd1 b1 hst hfs
  go_upto_region 2 with fail
  rw [← hxb, ← hw2]
  clear hw2 hxb
  go_wp2_with fail
  clear p0 p1 p2
  refine (ifind a n c X name w2 (HI.out.keep D2.out.kept.1) HW.out).mono ?_
  rintro e w3 ⟨hres, b3⟩
  have D3 := Lib.hid (D2.out.below b3)
  obtain ⟨p0, p1, p2, r0, r1, rf⟩ := FF.out _ D3.out.kept
  obtain ⟨x0, x1, xf⟩ := D3.out.x
  clear b3
  rcases hres with ⟨hfile, rfl⟩ | ⟨k, f, gb, og, hfile, hf, rfl, rfl⟩
  · have hno := DiskD.delete_none hfile
    have hY : X = Y := (HR.out _ hno).1.symm
    have hb : b = false := (HR.out _ hno).2
    subst hb
    subst hY
    clear hno hfile
    go_wp2_with fail
    refine bodyPost_ret (v := .tuple #[.agg #[.slice a1 fs.length c1, .int .i64 X.fNextName], .bool false]) (by simp [results, Tryz.results12, go_sem, *]) rfl ?_
    exact disk_done (vs := [.bool false]) B0.out (D3.out.disk HFS.out HNX.out) D3.out.kept (by omega) (by have := HZ.out; omega) _ _
  · have hyes := DiskD.delete_eq hfile
    have HYE := Lib.hid (HR.out _ hyes).1
    have hb : b = true := (HR.out _ hyes).2
    subst hb
    have HF := Lib.hid hf
    have HUQ := Lib.hid (DiskD.file_one hfile)
    have hkf : k < fs.length := by have := idx_lt HF.out; rw [HFS.out, List.length_map] at this; exact this
    obtain ⟨g, c1', ea, hgB, hgl, -, -⟩ := D3.out.blk.addr (by omega)
    injection ea with ea1 ea2 ea3
    subst ea1 ea3
    obtain ⟨e, he⟩ : ∃ e, fs[k]? = some e := ⟨fs[k], by simp [hkf]⟩
    have hex : e.x = f := by
      have h1 := HF.out
      rw [HFS.out, List.getElem?_map, he] at h1
      exact Option.some.inj h1
    have HE := Lib.hid he
    have HEX := Lib.hid hex
    have hps1 : fs.length ≤ 1000000000 := by
      have h2 := wt_file_len X.fFiles
      have h3 : wtDisk X = wtFiles X.fFiles := rfl
      have h4 := HW.out
      have h5 : X.fFiles.length = fs.length := by rw [HFS.out, List.length_map]
      omega
    obtain ⟨m, hm⟩ : ∃ m, fs.length = m + 1 := ⟨fs.length - 1, by omega⟩
    have HM := Lib.hid hm
    have HFL := Lib.hid hps1
    have CALL := Lib.hid (ideletefn g fs.length m c1 fs k e W.heap.size (w.heap.size + 1) name w3 D3.out.blk HE.out (by rw [HEX.out]; exact HUQ.out.1)
      (fun s e' hs hne => by
        have h1 : X.fFiles[s]? = some e'.x := by rw [HFS.out, List.getElem?_map, hs]; rfl
        exact HUQ.out.2 s e'.x h1 hne) HM.out HFL.out p2 (by have := D3.out.kept.2; have := HZ.out; omega) (by have := HZ.out; omega))
    clear ea2 hf hfile hyes he hex hm hps1
    go_wp2_with fail
    clear p0 p1 p2 r0 r1 rf x0 x1 xf
    refine CALL.out.mono ?_
    rintro e4 w4 ⟨rfl, hbl4, hg4⟩
    have hxg : xb ≠ g := fun e => D3.out.out (List.mem_append_left _ (by rw [blkOf_some, e]; exact List.mem_singleton.2 rfl))
    have hx4 := (hg4.block xb (lt_of_block D3.out.box) (fun e => hxg (Option.some.inj e))).trans D3.out.box
    have K4 := Lib.hid (D3.out.kept.grown hg4 fun z hz => by rw [← Option.some.inj hz]; exact hgB)
    have M4 := Lib.hid hbl4
    have X4 := Lib.hid hx4
    have NE4 : Hid (xb ∉ blkOf (.slice (some ⟨g, 0, none⟩) m c1) ++ gsOf (fs.eraseIdx k)) := Lib.hid fun hm => by
      rcases List.mem_append.1 hm with h1 | h1
      · exact hxg (by rw [blkOf_some] at h1; exact List.mem_singleton.1 h1)
      · exact D3.out.out (List.mem_append_right _ ((gs_sub (List.eraseIdx_sublist _ _)).subset h1))
    have y0 := box_cell X4.out 0 _ rfl
    have yf : ∀ j, w4.frozen? ⟨xb, j, none⟩ = false := fun j => by simp [World.frozen?, X4.out]
    clear hbl4 hg4 hx4
    go_upto_region 6 with fail
    obtain ⟨w6, hw6⟩ : ∃ u, u = w4.setCell ⟨xb, 0, none⟩ (.slice (some ⟨g, 0, none⟩) m c1) := ⟨_, rfl⟩
    have X6 : Hid (w6.heap[xb]? = some (.cells #[.slice (some ⟨g, 0, none⟩) m c1, .int .i64 X.fNextName] 26 (0, 0))) := Lib.hid (by rw [hw6]; exact blk_put X4.out rfl)
    have M6 := Lib.hid (M4.out.keep ((SameBlk.refl _ _).set (g := xb) (i := 0) (.slice (some ⟨g, 0, none⟩) m c1) NE4.out))
    have K6 : Hid (Kept W.heap.size W w6) := Lib.hid (by rw [hw6]; exact K4.out.set D3.out.low _)
    rw [← hw6] at M6 ⊢
    clear hw6 y0 yf
    obtain ⟨-, -, -, r0, r1, rf⟩ := FF.out _ K6.out
    have x0 := box_cell X6.out 0 _ rfl
    have x1 := box_cell X6.out 1 _ rfl
    have DD : Hid (diskB.blk w6 W.heap.size ⟨X.fFiles.eraseIdx k, X.fNextName⟩ ((some ⟨g, 0, none⟩, m, c1), ()) (blkOf (.slice (some ⟨g, 0, none⟩) m c1) ++ gsOf (fs.eraseIdx k))) := Lib.hid (by
      have h1 := disk_blk (nx := X.fNextName) M6.out HNX.out
      rw [show (fs.eraseIdx k).map BEl.x = X.fFiles.eraseIdx k by rw [HFS.out, List.eraseIdx_eq_take_drop_succ, List.eraseIdx_eq_take_drop_succ, List.map_append, List.map_take, List.map_drop]] at h1
      exact h1)
    go_wp2_with fail
    refine bodyPost_ret (v := .tuple #[.agg #[.slice (some ⟨g, 0, none⟩) m c1, .int .i64 X.fNextName], .bool true]) (by simp [results, Tryz.results12, go_sem, *]) rfl ?_
    rw [HYE.out]
    exact disk_done (Y := ⟨X.fFiles.eraseIdx k, X.fNextName⟩) (vs := [.bool true]) (r := w.heap.size + 2) B0.out DD.out K6.out (by omega) (by have := HZ.out; omega) _ _
theorem idelete (a : Option Addr) (n c : Nat) (X : DiskD) (name : Int) (w : World) (h : diskRep.inn w X ((a, n, c), ())) (hw : wtDisk X ≤ 1000000000) :
    Calls Tryz.prog 12 #[.agg #[.slice a n c, .int .i64 X.fNextName], .int .i64 name] w (DiskAnd ((DiskD.delete X name).getD X) [.bool (DiskD.delete X name).isSome] w) :=
  idelete0 a n c X name w h hw _ _ fun r hr => by rw [hr]; exact ⟨rfl, rfl⟩
end Go.Proofs.YtjdjceohlcimaaaGreatDoor
/- The laws' comparison of two slices of rows by '!=' on the structs (sameRows), by contract: where both read as the same rows. -/
namespace Go.Proofs.YtjdjceohlcimaaaGreatDoor
open Go.RowKit
theorem row_neq (a b : R) (w : World) : (binOp .neq 72 (.agg #[.int .i64 a.key, .int .i64 a.value, .int .i64 a.width]) (.agg #[.int .i64 b.key, .int .i64 b.value, .int .i64 b.width])).run Tryz.prog w = .ok (.bool (!decide (a = b))) w := by
  have h1 : (Op.equalIn 10000 72 (.agg #[.int .i64 a.key, .int .i64 a.value, .int .i64 a.width]) (.agg #[.int .i64 b.key, .int .i64 b.value, .int .i64 b.width])).run Tryz.prog w = .ok (decide (a = b)) w := by
    rw [run_equalIn_agg w 9999 72 _ _ (by kernel_rfl) (by kernel_rfl)]
    obtain ⟨k, v, d⟩ := a
    obtain ⟨k', v', d'⟩ := b
    have e : decide (R.mk k v d = R.mk k' v' d') = decide (k = k' ∧ v = v' ∧ d = d') := by simp
    rw [e]
    by_cases hk : k = k' <;> by_cases hv : v = v' <;> by_cases hd : d = d' <;> simp [go_sem, Tryz.underlying72, Tryz.underlying3, hk, hv, hd]
  rw [run_neq_struct, h1]
  rfl
set_option maxRecDepth 100000 in
theorem samerows (a a' : Option Addr) (len cap len' cap' : Nat) (L : List R) (w : World) (h : IsRows w a len L) (h' : IsRows w a' len' L) (hlen : len ≤ 9223372036854775807) :
    Calls Tryz.prog 20 #[.slice a len cap, .slice a' len' cap'] w fun e w' => e = .returned (.bool true) ∧ Below w.heap.size w w' := by
  obtain ⟨hl, -, hc⟩ := h
  obtain ⟨hl', -, hc'⟩ := h'
  obtain rfl : len = len' := hl.symm.trans hl'
  have HC := Lib.hid hc
  have HC' := Lib.hid hc'
  clear hl hc hl' hc'
  go_enter Tryz.func20, Tryz.ntmps20
  go_wp2_with fail
  go_loopw [5] (fun i wr => ∃ k : Nat, i = .int .i64 k ∧ k ≤ len ∧ Hid (Below w.heap.size w wr)) (fun i _ => len - (intOf i).toNat)
  case atStart => exact ⟨0, rfl, Nat.zero_le _, Below.refl _ _⟩
  case round =>
    obtain ⟨k, rfl, hk, hb⟩ := hrel
    by_cases hlt : k < len
    · obtain ⟨b, o, rfl, hbl, hc⟩ : ∃ b o : Nat, a = some ⟨b, o, none⟩ ∧ b < w.heap.size ∧ ∀ t, t < len → RowAt w b (o + t * 3) (L.getD t R.zero) := by
        rcases HC.out with h0 | h0
        · omega
        · exact h0
      obtain ⟨b', o', rfl, hbl', hc'⟩ : ∃ b o : Nat, a' = some ⟨b, o, none⟩ ∧ b < w.heap.size ∧ ∀ t, t < len → RowAt w b (o + t * 3) (L.getD t R.zero) := by
        rcases HC'.out with h0 | h0
        · omega
        · exact h0
      obtain ⟨r, hr⟩ : ∃ r, r = L.getD k R.zero := ⟨_, rfl⟩
      have hat : RowAt wr b (o + k * 3) r := by rw [hr]; exact (hc k hlt).below hb.out hbl
      have hat' : RowAt wr b' (o' + k * 3) r := by rw [hr]; exact (hc' k hlt).below hb.out hbl'
      obtain ⟨c0, c1, c2⟩ := hat
      obtain ⟨d0, d1, d2⟩ := hat'
      clear hr hc hc'
      go_wp2_with fail
      go_still_tail 8, (by kernel_rfl)
      go_wp2_with fail
      go_roundw
      case rel => exact ⟨k + 1, by go_num, by omega, hb.out.drew⟩
      case measure => simp [intOf]; omega
    · go_wp2_with fail
      go_ret
      exact ⟨rfl, hb.out⟩
end Go.Proofs.YtjdjceohlcimaaaGreatDoor
/- The reference's comparison of two slices of rows (l6Rows), by contract. -/
namespace Go.Proofs.YtjdjceohlcimaaaGreatDoor
open Go.RowKit
set_option linter.unusedVariables false
set_option maxRecDepth 100000 in
theorem seqrows (a a' : Option Addr) (len cap len' cap' : Nat) (L M : List R) (w : World) (h : IsRows w a len L) (h' : IsRows w a' len' M) (hlen : len ≤ 9223372036854775807) (hlen' : len' ≤ 9223372036854775807) :
    Calls Tryz.prog 47 #[.slice a len cap, .slice a' len' cap'] w fun e w' => e = .returned (.bool (decide (L = M))) ∧ Below w.heap.size w w' := by
  have HL := Lib.hid h.1
  have HM := Lib.hid h'.1
  have HI := Lib.hid h
  have HI' := Lib.hid h'
  clear h h'
  by_cases hne : len = len'
  · subst hne
    go_enter Tryz.func47, Tryz.ntmps47
    go_wp2_with fail
    go_loopw [5] (fun i wr => ∃ k : Nat, i = .int .i64 k ∧ k ≤ len ∧ Hid (∀ s, s < k → L.getD s R.zero = M.getD s R.zero) ∧ Hid (Below w.heap.size w wr)) (fun i _ => len - (intOf i).toNat)
    case atStart => exact ⟨0, rfl, Nat.zero_le _, fun s hs => absurd hs (Nat.not_lt_zero _), Below.refl _ _⟩
    case round =>
      obtain ⟨k, rfl, hk, hsm, hb⟩ := hrel
      by_cases hlt : k < len
      · obtain ⟨b, o, rfl, hbl, hat⟩ := HI.out.at hlt
        obtain ⟨b', o', rfl, hbl', hat'⟩ := HI'.out.at hlt
        obtain ⟨r, hr⟩ : ∃ r, r = L.getD k R.zero := ⟨_, rfl⟩
        obtain ⟨r', hr'⟩ : ∃ r, r = M.getD k R.zero := ⟨_, rfl⟩
        rw [← hr] at hat
        rw [← hr'] at hat'
        obtain ⟨c0, c1, c2⟩ := hat.below hb.out hbl
        obtain ⟨d0, d1, d2⟩ := hat'.below hb.out hbl'
        have HR := Lib.hid hr
        have HR' := Lib.hid hr'
        clear hr hr' hat hat'
        have hq : ∀ v, (binOp .neq 72 (.agg #[.int .i64 r.key, .int .i64 r.value, .int .i64 r.width]) (.agg #[.int .i64 r'.key, .int .i64 r'.value, .int .i64 r'.width])).run Tryz.prog v = .ok (.bool (!decide (r = r'))) v := fun v => row_neq r r' v
        by_cases he : r = r'
        · have hd : decide (r = r') = true := decide_eq_true he
          have HE := Lib.hid he
          clear he
          go_wp2_with fail
          go_still_tail 8, (by kernel_rfl)
          go_wp2_with fail
          go_roundw
          case rel =>
            refine ⟨k + 1, by go_num, by omega, fun s hs => ?_, hb.out.drew⟩
            rcases Nat.lt_or_ge s k with h1 | h1
            · exact hsm.out s h1
            · obtain rfl : s = k := by omega
              rw [← HR.out, ← HR'.out]; exact HE.out
          case measure => simp [intOf]; omega
        · have hd : decide (r = r') = false := decide_eq_false he
          have HN := Lib.hid (show decide (L = M) = false from decide_eq_false fun e => he (by rw [HR.out, HR'.out, e]))
          clear he
          go_wp2_with fail
          go_still_tail 8, (by kernel_rfl)
          go_wp2_with fail
          go_ret
          exact ⟨by rw [HN.out]; rfl, hb.out.drew⟩
      · have HN := Lib.hid (show decide (L = M) = true from decide_eq_true (getD_ext (by rw [HL.out, HM.out]) fun s hs => hsm.out s (by rw [HL.out] at hs; omega)))
        go_wp2_with fail
        go_ret
        exact ⟨by rw [HN.out]; rfl, hb.out⟩
  · have HN := Lib.hid (show decide (L = M) = false from decide_eq_false fun e => hne (by rw [← HL.out, ← HM.out, e]))
    have hne2 : ¬ (len : Int) = (len' : Int) := by omega
    go_enter Tryz.func47, Tryz.ntmps47
    go_wp2_with fail
    go_ret
    exact ⟨by rw [HN.out]; rfl, Below.refl _ _⟩
end Go.Proofs.YtjdjceohlcimaaaGreatDoor
