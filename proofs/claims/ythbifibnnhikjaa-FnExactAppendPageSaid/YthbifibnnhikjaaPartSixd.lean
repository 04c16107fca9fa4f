/- Texts joined: MkVPage DPage AppendS AppendI. -/
import Derived.Test.YthbifibnnhikjaaPartSixc
import Derived.Deep.CutRange
/- Page: the laws' marks on one, by value; no function of program or reference is walked here. -/
namespace Go.Proofs.Ythbifibnnhikjaa
open Go.RowKit
set_option linter.unusedVariables false

set_option maxRecDepth 100000 in
set_option maxHeartbeats 1000000 in
theorem mkV_page (B : Nat) (a0 : Option Addr) (n0 k0 : Nat) (x0 : List R) (F : List Reg) (q : Int) (w : World) (h : pageRep.own w B x0 (a0, n0, k0) F) (hq0 : 0 ≤ q) (hq1 : q + 64 * (wtPage x0 : Int) ≤ 1000000000000) :
    Calls Try.prog 26 #[.agg #[.slice a0 n0 k0], .int .i64 q] w fun e w' => e = .returned (.int .i64 (q + (pageMkV.cnt x0 : Nat))) ∧ pageRep.own w' B (pageMkV.mark q x0) (a0, n0, k0) F ∧ OnlyAt F w w' := by
  have hq1 : q + 64 * ((wtRows x0 : Nat) : Int) ≤ 1000000000000 := hq1
  obtain ⟨h0, hc0⟩ := h
  obtain ⟨G0, hG0⟩ : ∃ G0, G0 = F := ⟨_, rfl⟩
  subst hG0
  have B0 := Lib.hid (show Below w.heap.size w (w.alloc (.cells #[.slice a0 n0 k0] 46)) from (Below.refl _ _).alloc (Nat.le_refl _) _)
  have K0 := Lib.hid (show (w.alloc (.cells #[.slice a0 n0 k0] 46)).heap[w.heap.size]? = some (.cells #[.slice a0 n0 k0] 46 (0, 0)) from heap_alloc_new _ _)
  have L0 := Lib.hid (fun y hy => (h0.lt y hy).2)
  have O0 := Lib.hid (h0.keep B0.out)
  have hcn0 := cnt_rows x0
  have T0 : Hid (OnlyAt (G0) w (w.alloc (.cells #[.slice a0 n0 k0] 46))) := Lib.hid (OnlyAt.of_below B0.out)
  clear h0
  go_enter Try.func26, Try.ntmps26
  go_wp2_with fail
  refine (mkS_row B n0 k0 a0 x0 G0 (q) _ O0.out (by omega) (by omega)).mono ?_
  rintro e w1 ⟨rfl, m1, p1⟩
  have O0 := Lib.hid m1
  have K1 := Lib.hid ((p1.block _ (lt_of_block K0.out) (fun y hy e => by have := L0.out y hy; omega)).trans K0.out)
  have T1 := Lib.hid (T0.out.trans (p1.mono (fun y hy => by simp [hy])))
  clear m1 p1
  have hv : q + (rowsMk.cnt x0 : Nat) = q + (pageMkV.cnt x0 : Nat) := by
    show _ = q + ((rowsMk.cnt x0 : Nat) : Int)
    omega
  have HV := Lib.hid hv
  clear hv
  go_wp2_with fail
  go_ret
  exact ⟨by rw [← HV.out]; rfl, ⟨O0.out, hc0⟩, T1.out⟩
end Go.Proofs.Ythbifibnnhikjaa
/- Page as a whole: size, copy, comparison, marks; no function of program or reference is walked here. -/
namespace Go.Proofs.Ythbifibnnhikjaa
open Go.RowKit
set_option linter.unusedVariables false

theorem szD_page (X : List R) (a0 : Option Addr) (n0 k0 : Nat) (left : Int) (w : World) (h : pageRep.inn w X (a0, n0, k0)) (p0 : 0 ≤ left) (p1 : left ≤ 1048576) :
    Calls Try.prog 21 #[.agg #[.slice a0 n0 k0], .int .i64 left] w fun e w' => e = .returned (.int .i64 (szR left (wtPage X))) ∧ Below w.heap.size w w' := by
  obtain ⟨h0, hc0⟩ := h
  exact szV_page a0 n0 k0 X left w h0 p0 p1
theorem toD_page (X : List R) (a0 : Option Addr) (n0 k0 : Nat) (w : World) (h : pageRep.inn w X (a0, n0, k0)) (hw : wtPage X ≤ 1000000000) :
    Calls Try.prog 23 #[.agg #[.slice a0 n0 k0]] w fun e w' => ∃ (g0 : Nat) (F : List Reg), e = .returned (.agg #[.slice (some ⟨g0, 0, none⟩) n0 n0]) ∧ pageRep.own w' w.heap.size X (some ⟨g0, 0, none⟩, n0, n0) F ∧ Below w.heap.size w w' := by
  obtain ⟨h0, hc0⟩ := h
  exact (toV_page a0 n0 k0 X w h0  hw).mono fun e w' h => by
    obtain ⟨g0, F0, he, ho, hb⟩ := h
    exact ⟨g0, _, he, ho, hb⟩
theorem eqD_page (X Y : List R) (a0 : Option Addr) (n0 k0 : Nat) (b0 : Option Addr) (m0 d0 : Nat) (w : World) (h : pageRep.inn w X (a0, n0, k0)) (h' : pageRep.inn w Y (b0, m0, d0)) :
    Calls Try.prog 25 #[.agg #[.slice a0 n0 k0], .agg #[.slice b0 m0 d0]] w fun e w' => e = .returned (.bool (decide (X = Y))) ∧ Below w.heap.size w w' := by
  obtain ⟨h0, hc0⟩ := h
  obtain ⟨h'0, hc'0⟩ := h'
  exact eqV_page a0 n0 k0 X b0 m0 d0 Y w h0 h'0
theorem mkD_page (B : Nat) (X : List R) (a0 : Option Addr) (n0 k0 : Nat) (F : List Reg) (q : Int) (w : World) (h : pageRep.own w B X (a0, n0, k0) F) (hq0 : 0 ≤ q) (hq1 : q + 64 * (wtPage X : Int) ≤ 1000000000000) :
    Calls Try.prog 26 #[.agg #[.slice a0 n0 k0], .int .i64 q] w fun e w' => e = .returned (.int .i64 (q + (pageMkV.cnt X : Nat))) ∧ pageRep.own w' B (pageMkV.mark q X) (a0, n0, k0) F ∧ OnlyAt F w w' :=
  mkV_page B a0 n0 k0 X F q w h hq0 hq1
theorem cntV_page (X : List R) : pageMkV.cnt X ≤ 64 * wtPage X := by
  have h0 := cnt_rows X
  show rowsMk.cnt X ≤ 64 * (wtRows X)
  omega
end Go.Proofs.Ythbifibnnhikjaa
/- The reference's AppendPage, by contract. -/
namespace Go.Proofs.Ythbifibnnhikjaa
open Go.RowKit
set_option linter.unusedVariables false

set_option maxRecDepth 100000 in
set_option maxHeartbeats 4000000 in
theorem sappend0 (a : Option Addr) (n c : Nat) (X : DiskD) (name : Int) (ap : Option Addr) (np cp : Nat) (p : List R) (w : World) (h : diskRep.inn w X ((a, n, c), ())) (hp : pageRep.inn w p (ap, np, cp)) (hw : wtDisk X ≤ 1000000000) (hwp : wtPage p ≤ 1000000000) (Y : DiskD) (b : Bool)
    (HR : Hid (∀ r, DiskD.appendTo X name p = r → Y = r.getD X ∧ b = r.isSome)) :
    Calls Try.prog 22 #[.agg #[.slice a n c, .int .i64 X.fNextName], .int .i64 name, .agg #[.slice ap np cp]] w (DiskAnd Y [.bool b] w) := by
  obtain ⟨W, hW⟩ : ∃ W, W = ((w.alloc (.cells #[.slice a n c, .int .i64 X.fNextName] 31)).alloc (.cells #[.slice ap np cp] 46)).alloc (.cells #[.slice none 0 0, .int .i64 0] 31) := ⟨_, rfl⟩
  obtain ⟨hz, b0, k0, k1, k2⟩ := boxes3 w W hW
  have HZ := Lib.hid hz
  have B0 := Lib.hid b0
  have K0 := Lib.hid k0
  have K1 := Lib.hid k1
  have K2 := Lib.hid k2
  have HI := Lib.hid (h.keep b0)
  have HP := Lib.hid ((pageRep.inn_keep hp b0).1)
  have HPC : Hid (ap = none → cp = 0) := Lib.hid hp.2
  have HW := Lib.hid hw
  have HNX := Lib.hid (disk_in h).2.2
  have HL := Lib.hid (disk_len h).1
  have hnp : np ≤ 1000000000 := by
    have h1 := hp.1.1
    have h2 : wtPage p = p.length := rfl
    have h3 : p.length = np := h1
    omega
  have hnm := (disk_len h).2
  unfold maxLen at hnm
  have FF : Hid (∀ v, Kept W.heap.size W v → v.cell? ⟨w.heap.size, 0, none⟩ = some (.slice a n c) ∧ v.cell? ⟨w.heap.size, 1, none⟩ = some (.int .i64 X.fNextName) ∧ v.cell? ⟨w.heap.size + 1, 0, none⟩ = some (.slice ap np cp) ∧
      v.cell? ⟨w.heap.size + 2, 0, none⟩ = some (.slice none 0 0) ∧ v.cell? ⟨w.heap.size + 2, 1, none⟩ = some (.int .i64 0) ∧ ∀ j, v.frozen? ⟨w.heap.size + 2, j, none⟩ = false) := Lib.hid fun v hv =>
    ⟨hv.cell (by omega) (box_cell k0 0 _ rfl), hv.cell (by omega) (box_cell k0 1 _ rfl), hv.cell (by omega) (box_cell k1 0 _ rfl), hv.cell (by omega) (box_cell k2 0 _ rfl), hv.cell (by omega) (box_cell k2 1 _ rfl), fun j => hv.frozen (by omega) (by simp [World.frozen?, k2])⟩
  clear h hp b0 k0 k1 k2 hz hw hwp
  go_enter Try.func22, Try.ntmps22
  go_wp2_with fail
  rw [← hW]
  clear hW
  refine (scopy a n c X W HI.out HW.out).mono ?_
  rintro e w1 ⟨a1, n1, c1, G1, rfl, hd1, b1⟩
  obtain ⟨fs, rfl, hfs, hst⟩ := dop_start hd1 b1
  have HFS := Lib.hid hfs
  obtain ⟨xb, hxb⟩ : ∃ g, g = w1.heap.size := ⟨_, rfl⟩
  obtain ⟨w2, hw2⟩ : ∃ u, u = w1.alloc (.cells #[.slice a1 fs.length c1, .int .i64 X.fNextName] 31) := ⟨_, rfl⟩
  have D2 := Lib.hid (hst xb w2 hxb hw2)
  obtain ⟨p0, p1, -⟩ := FF.out _ D2.out.kept
  clear hd1 b1 hst hfs
  go_upto_region 2 with fail
  rw [← hxb, ← hw2]
  clear hw2 hxb
  go_wp2_with fail
  clear p0 p1
  refine (sat a n c X name w2 (HI.out.keep ⟨D2.out.kept.1.os, D2.out.kept.1.tape, D2.out.kept.1.output, D2.out.kept.1.size, D2.out.kept.1.block⟩)).mono ?_
  rintro e w3 ⟨rfl, b3⟩
  have D3 := Lib.hid (D2.out.below b3)
  obtain ⟨p0, p1, -⟩ := FF.out _ D3.out.kept
  obtain ⟨ki, hki⟩ : ∃ i, i = DiskD.atI X.fFiles name := ⟨_, rfl⟩
  rw [← hki]
  have HK := Lib.hid hki
  clear b3 hki
  go_wp2_with fail
  clear p0 p1
  refine (sokdisk a n c X w3 (HI.out.keep D3.out.kept.1) HW.out).mono ?_
  rintro e w4 ⟨rfl, b4⟩
  have D4 := Lib.hid (D3.out.below b4)
  obtain ⟨p0, p1, p2, r0, r1, rf⟩ := FF.out _ D4.out.kept
  obtain ⟨x0, x1, -⟩ := D4.out.x
  clear b4
  cases hok : DiskD.okD X with
  | false =>
    have hno := DiskD.appendTo_none (name := name) (p := p) (DiskD.file_bad hok)
    have hY : X = Y := (HR.out _ hno).1.symm
    have hb : b = false := (HR.out _ hno).2
    subst hb
    subst hY
    clear hno
    clear hok
    go_wp2_with fail
    refine bodyPost_ret (v := .tuple #[.agg #[.slice a1 fs.length c1, .int .i64 X.fNextName], .bool false]) (by simp [results, Try.results22, go_sem, *]) rfl ?_
    exact disk_done (vs := [.bool false]) B0.out (D4.out.disk HFS.out HNX.out) D4.out.kept (by omega) (by have := HZ.out; omega) _ _
  | true =>
    have HOK := Lib.hid hok
    clear hok
    cases hat : DiskD.at? X.fFiles name with
    | none =>
      have hno := DiskD.appendTo_none (p := p) (DiskD.file_none hat)
      have hY : X = Y := (HR.out _ hno).1.symm
      have hb : b = false := (HR.out _ hno).2
      subst hb
      subst hY
      clear hno
      have hk1 : ki = -1 := by rw [HK.out]; unfold DiskD.atI; rw [hat]
      subst hk1
      clear hat
      go_wp2_with fail
      refine bodyPost_ret (v := .tuple #[.agg #[.slice a1 fs.length c1, .int .i64 X.fNextName], .bool false]) (by simp [results, Try.results22, go_sem, *]) rfl ?_
      exact disk_done (vs := [.bool false]) B0.out (D4.out.disk HFS.out HNX.out) D4.out.kept (by omega) (by have := HZ.out; omega) _ _
    | some k =>
      obtain ⟨f, hf, hfn⟩ := DiskD.at_some hat
      have hfile := DiskD.file_some HOK.out hat hf
      have hk1 : ki = k := by rw [HK.out]; unfold DiskD.atI; rw [hat]
      subst hk1
      have HFILE := Lib.hid hfile
      have HAE := Lib.hid (DiskD.appendTo_eq (p := p) hfile)
      obtain ⟨bb, o, hd, rfl, hbl, hce, hin⟩ := (disk_in HI.out).1.el hf
      have hkl : k < n := by have := idx_lt hf; have := HL.out; omega
      have HF := Lib.hid hf
      obtain ⟨f0, f1, f2, f3⟩ := f
      obtain ⟨⟨fa, fn, fc⟩, ⟨⟩⟩ := hd
      have CF : Hid (∀ v, Kept W.heap.size W v → v.cell? ⟨bb, o + k * 4 + 3, none⟩ = some (.bool f3)) := Lib.hid fun v hv => hv.cell hbl (hce 3 _ rfl)
      have cf := CF.out _ D4.out.kept
      clear hat hfile hce hin hf hfn
      cases f3 with
      | true =>
        have hno := (HAE.out.trans (if_neg (by simp)))
        have hY : X = Y := (HR.out _ hno).1.symm
        have hb : b = false := (HR.out _ hno).2
        subst hb
        subst hY
        clear hno
        go_wp2_with fail
        refine bodyPost_ret (v := .tuple #[.agg #[.slice a1 fs.length c1, .int .i64 X.fNextName], .bool false]) (by simp [results, Try.results22, go_sem, *]) rfl ?_
        exact disk_done (vs := [.bool false]) B0.out (D4.out.disk HFS.out HNX.out) D4.out.kept (by omega) (by have := HZ.out; omega) _ _
      | false =>
        go_wp2_with fail
        clear p0 p1 p2 r0 r1 rf x0 x1 cf
        refine (svalidpage ap np cp p w4 (HP.out.keep D4.out.kept.1) (by omega)).mono ?_
        rintro e w5 ⟨rfl, b5⟩
        have D5 := Lib.hid (D4.out.below b5)
        obtain ⟨p0, p1, p2, r0, r1, rf⟩ := FF.out _ D5.out.kept
        obtain ⟨x0, x1, -⟩ := D5.out.x
        clear b5
        cases hpo : R.pageOk p with
        | false =>
          have hno := (HAE.out.trans (if_neg (by rw [hpo]; simp)))
          have hY : X = Y := (HR.out _ hno).1.symm
          have hb : b = false := (HR.out _ hno).2
          subst hb
          subst hY
          clear hno
          clear hpo
          go_wp2_with fail
          refine bodyPost_ret (v := .tuple #[.agg #[.slice a1 fs.length c1, .int .i64 X.fNextName], .bool false]) (by simp [results, Try.results22, go_sem, *]) rfl ?_
          exact disk_done (vs := [.bool false]) B0.out (D5.out.disk HFS.out HNX.out) D5.out.kept (by omega) (by have := HZ.out; omega) _ _
        | true =>
          have HPO := Lib.hid hpo
          clear hpo
          go_wp2_with fail
          clear p0 p1 p2 r0 r1 rf x0 x1
          refine (scountp _ n c X w5 (HI.out.keep D5.out.kept.1) HW.out).mono ?_
          rintro e w6 ⟨rfl, b6⟩
          have D6 := Lib.hid (D5.out.below b6)
          obtain ⟨p0, p1, p2, r0, r1, rf⟩ := FF.out _ D6.out.kept
          obtain ⟨x0, x1, xf⟩ := D6.out.x
          clear b6
          obtain ⟨m, hm⟩ : ∃ m, m = DiskD.count X.fFiles := ⟨_, rfl⟩
          rw [← hm]
          by_cases hfull : (m : Int) = 40
          · have hm40 : DiskD.count X.fFiles = 40 := by omega
            have hno := (HAE.out.trans (if_neg (by rw [hm40]; simp)))
            have hY : X = Y := (HR.out _ hno).1.symm
            have hb : b = false := (HR.out _ hno).2
            subst hb
            subst hY
            clear hno
            clear hm hm40
            go_wp2_with fail
            refine bodyPost_ret (v := .tuple #[.agg #[.slice a1 fs.length c1, .int .i64 X.fNextName], .bool false]) (by simp [results, Try.results22, go_sem, *]) rfl ?_
            exact disk_done (vs := [.bool false]) B0.out (D6.out.disk HFS.out HNX.out) D6.out.kept (by omega) (by have := HZ.out; omega) _ _
          · have hm40 : DiskD.count X.fFiles ≠ 40 := by omega
            have hyes := (HAE.out.trans (if_pos (by rw [HPO.out, decide_eq_true hm40]; rfl)))
            have hY := (HR.out _ hyes).1
            have hb : b = true := (HR.out _ hyes).2
            subst hb
            have HYE := Lib.hid hY
            have hfl2 : ((m : Int) == 40) = false := by simpa using hfull
            clear hyes hm hm40 hY hfull
            have hkf : k < fs.length := by have := idx_lt HF.out; rw [HFS.out, List.length_map] at this; exact this
            obtain ⟨g, c1', ea, hgB, hgl, -, -⟩ := D6.out.blk.addr (by omega)
            injection ea with ea1 ea2 ea3
            subst ea1 ea3
            clear ea2
            obtain ⟨e, he⟩ : ∃ e, fs[k]? = some e := ⟨fs[k], by simp [hkf]⟩
            have hex : e.x = ⟨f0, f1, f2, false⟩ := by
              have h1 := HF.out
              rw [HFS.out, List.getElem?_map, he] at h1
              exact Option.some.inj h1
            obtain ⟨ex, ⟨⟨pa, pn, pc⟩, ⟨⟩⟩, eG⟩ := e
            simp only at hex
            subst hex
            have hbe := D6.out.blk.all _ (List.mem_of_getElem? he)
            obtain ⟨ps, hps, hpl, heG, hf0, hf2⟩ := of_file_blk hbe
            obtain ⟨rfl, -⟩ := hpl.caps
            have HE := Lib.hid he
            have HPS := Lib.hid (show f1 = ps.map BEl.x from hps)
            have HPL := Lib.hid hpl
            have HEG := Lib.hid (show eG = blkOf (.slice pa ps.length pc) ++ gsOf ps from heG)
            have HF0 := Lib.hid (show I64 f0 from hf0)
            have HF2 := Lib.hid (show I64 f2 from hf2)
            have hcell1 := D6.out.blk.cell he 1 (.slice pa ps.length pc) rfl
            have hcell : w6.cell? ⟨g, k * 4 + 1, none⟩ = some (.slice pa ps.length pc) := hcell1
            have HGG : Hid (∀ z ∈ blkOf (.slice pa ps.length pc) ++ gsOf ps, z ∈ gsOf fs) := Lib.hid fun z hz => mem_gs.2 ⟨_, List.mem_of_getElem? HE.out, by rw [HEG.out]; exact hz⟩
            have HGN : Hid (g ∉ gsOf fs) := Lib.hid (by
              have h1 := D6.out.blk.nodup
              rw [blkOf_some, List.singleton_append, List.nodup_cons] at h1
              exact h1.1)
            have HXN : Hid (xb ∉ gsOf fs ∧ xb ≠ g) := Lib.hid ⟨fun hm => D6.out.out (List.mem_append_right _ hm), fun e => D6.out.out (List.mem_append_left _ (by rw [blkOf_some, e]; exact List.mem_singleton.2 rfl))⟩
            have hps1 : ps.length ≤ 1000000000 := by
              have h1 := DiskD.count_mem (List.mem_of_getElem? HF.out)
              have h2 := DiskD.count_wt X.fFiles
              have h3 : wtDisk X = wtFiles X.fFiles := rfl
              have h4 := HW.out
              have h5 : f1.length = ps.length := by rw [show f1 = ps.map BEl.x from hps, List.length_map]
              simp only at h1
              omega
            have MZ := Lib.hid (mine_zero w6 w6.heap.size (Nat.le_refl _))
            have KZ := Lib.hid (show Kept w6.heap.size w6 (w6.alloc (.cells #[] 89)).drew from (Kept.refl (Nat.le_refl _)).drew.alloc _)
            have RZ : Hid (IsRows (w6.alloc (.cells #[] 89)).drew ap np p) := Lib.hid (((rows_in HP.out).keep D6.out.kept.1).keep KZ.out.1)
            have HBZ : Hid (w6.heap.size ≤ (w6.alloc (.cells #[] 89)).drew.heap.size) := Lib.hid KZ.out.1.size
            have HMZ : Hid (([] : List R).length + np ≤ 1000000000000) := Lib.hid (by simp; omega)
            have HWF := Lib.hid (rows_in HP.out).2.1
            have HPE : Hid (p.length = np) := Lib.hid HP.out.1
            have HFEW : Hid (ps.length + 1 ≤ 1000000000000) := Lib.hid (by omega)
            have HLOW := Lib.hid D6.out.kept.2
            have KS : Hid (∀ v, Kept w6.heap.size w6 v → v.cell? ⟨xb, 0, none⟩ = some (.slice (some ⟨g, 0, none⟩) fs.length c1) ∧ v.cell? ⟨g, k * 4 + 1, none⟩ = some (.slice pa ps.length pc) ∧ v.cell? ⟨w.heap.size + 1, 0, none⟩ = some (.slice ap np cp)) := Lib.hid fun v hv =>
              ⟨hv.cell (lt_of_block D6.out.box) D6.out.x.1, hv.cell hgl hcell, hv.cell (by have := D6.out.kept.2; have := HZ.out; omega) (FF.out _ D6.out.kept).2.2.1⟩
            have AFT : Hid (∀ (a7 : Option Addr) (c7 : Nat) (w7 w8 : World), PageIn W.heap.size w6 (.slice pa ps.length pc) ps p a7 np c7 w7 → (w7.alloc (.cells #[.slice a7 np c7] 46)).grownBy w8 (Value.slice pa ps.length pc).ownBlock →
                (w8.cell? ⟨xb, 0, none⟩ = some (.slice (some ⟨g, 0, none⟩) fs.length c1) ∧ w8.cell? ⟨g, k * 4 + 1, none⟩ = some (.slice pa ps.length pc) ∧ w8.cell? ⟨w.heap.size + 1, 0, none⟩ = some (.slice ap np cp)) ∧ w8.frozen? ⟨g, k * 4 + 1, none⟩ = false ∧ w8.heap[xb]? = some (.cells #[.slice (some ⟨g, 0, none⟩) fs.length c1, .int .i64 X.fNextName] 31 (0, 0)) ∧
                (∀ z, z < w6.heap.size → z ∉ eG → w8.heap[z]? = w6.heap[z]?) ∧ Kept W.heap.size W w8) := Lib.hid fun a7 c7 w7 w8 hP hg => by
              have hk := hP.k7
              have hrow : ∀ z, (Value.slice pa ps.length pc).ownBlock = some z → z ∈ eG := fun z hz => by rw [HEG.out]; exact List.mem_append_left _ (blkOf_mem.2 hz)
              have hsame : ∀ z, z < w6.heap.size → z ∉ eG → w8.heap[z]? = w6.heap[z]? := fun z hz hn => (hg.block z (Nat.lt_of_lt_of_le hz hk.2) fun e => hn (hrow z e.symm)).trans (hk.1.block z hz)
              have heg : ∀ z ∈ eG, z ∈ gsOf fs := fun z hz => HGG.out z (by rw [← HEG.out]; exact hz)
              have hg8 := hsame g hgl fun hm => HGN.out (heg g hm)
              have hx8 := (hsame xb (lt_of_block D6.out.box) fun hm => HXN.out.1 (heg xb hm)).trans D6.out.box
              have hp8 := hsame (w.heap.size + 1) (by have := D6.out.kept.2; have := HZ.out; omega) fun hm => by
                have := (D6.out.blk.lt _ (List.mem_append_right _ (heg _ hm))).1
                have := HZ.out
                omega
              exact ⟨⟨box_cell hx8 0 _ rfl, (World.cell?_of_block hg8).trans hcell, (World.cell?_of_block hp8).trans (FF.out _ D6.out.kept).2.2.1⟩, (World.frozen?_of_block hg8).trans (D6.out.blk.frozen _), hx8, hsame,
                D6.out.kept.trans (((hk.mono HLOW.out)).grown hg fun z hz => (D6.out.blk.lt z (List.mem_append_right _ (heg z (hrow z hz)))).1)⟩
            have hki1 : (k : Int) < fs.length := by omega
            have hki0 : (0 : Int) ≤ k := by omega
            clear he hbe hps hpl heG hf0 hf2 hcell1
            go_wp2_with fail
            clear p0 p1 p2 r0 r1 rf x0 x1 xf hcell
            refine region_plan (fun v => v.cell? ⟨xb, 0, none⟩ = some (.slice (some ⟨g, 0, none⟩) fs.length c1) ∧ v.cell? ⟨g, k * 4 + 1, none⟩ = some (.slice pa ps.length pc) ∧ v.cell? ⟨w.heap.size + 1, 0, none⟩ = some (.slice ap np cp)) [.q 0, .q 1, .q 2, .q 3, .q 4, .q 5, .q 6, .q 7, .q 8, .q 10, .q 11, .m 9, .m 12, .q 13, .m 14, .m 15, .q 16, .q 17] [18] (by kernel_rfl) (by kernel_rfl) (KS.out _ (Kept.refl (Nat.le_refl _)).drew) (fun hHeld => ?_)
            first | (refine pi_take (v := ?pv1_0) rfl (fun _ _ _ h => h) (by rfl) (fun v hv => ?pr1_0) ?rest1_0; case pr1_0 => (obtain ⟨d0, d1, d2⟩ := hv; go_simp; first | done | with_reducible rfl)) | (refine pi_pass rfl (fun _ _ _ h => h) (by rfl) ?_)
            try simp only [Act.put, List.setIfInBounds_toArray, List.set_cons_zero, List.set_cons_succ]
            first | (refine pi_take (v := ?pv1_1) rfl (fun _ _ _ h => h) (by rfl) (fun v hv => ?pr1_1) ?rest1_1; case pr1_1 => (obtain ⟨d0, d1, d2⟩ := hv; go_simp; first | done | with_reducible rfl)) | (refine pi_pass rfl (fun _ _ _ h => h) (by rfl) ?_)
            try simp only [Act.put, List.setIfInBounds_toArray, List.set_cons_zero, List.set_cons_succ]
            first | (refine pi_take (v := ?pv1_2) rfl (fun _ _ _ h => h) (by rfl) (fun v hv => ?pr1_2) ?rest1_2; case pr1_2 => (obtain ⟨d0, d1, d2⟩ := hv; go_simp; first | done | with_reducible rfl)) | (refine pi_pass rfl (fun _ _ _ h => h) (by rfl) ?_)
            try simp only [Act.put, List.setIfInBounds_toArray, List.set_cons_zero, List.set_cons_succ]
            first | (refine pi_take (v := ?pv1_3) rfl (fun _ _ _ h => h) (by rfl) (fun v hv => ?pr1_3) ?rest1_3; case pr1_3 => (obtain ⟨d0, d1, d2⟩ := hv; go_simp; first | done | with_reducible rfl)) | (refine pi_pass rfl (fun _ _ _ h => h) (by rfl) ?_)
            try simp only [Act.put, List.setIfInBounds_toArray, List.set_cons_zero, List.set_cons_succ]
            first | (refine pi_take (v := ?pv1_4) rfl (fun _ _ _ h => h) (by rfl) (fun v hv => ?pr1_4) ?rest1_4; case pr1_4 => (obtain ⟨d0, d1, d2⟩ := hv; go_simp; first | done | with_reducible rfl)) | (refine pi_pass rfl (fun _ _ _ h => h) (by rfl) ?_)
            try simp only [Act.put, List.setIfInBounds_toArray, List.set_cons_zero, List.set_cons_succ]
            first | (refine pi_take (v := ?pv1_5) rfl (fun _ _ _ h => h) (by rfl) (fun v hv => ?pr1_5) ?rest1_5; case pr1_5 => (obtain ⟨d0, d1, d2⟩ := hv; go_simp; first | done | with_reducible rfl)) | (refine pi_pass rfl (fun _ _ _ h => h) (by rfl) ?_)
            try simp only [Act.put, List.setIfInBounds_toArray, List.set_cons_zero, List.set_cons_succ]
            first | (refine pi_take (v := ?pv1_6) rfl (fun _ _ _ h => h) (by rfl) (fun v hv => ?pr1_6) ?rest1_6; case pr1_6 => (obtain ⟨d0, d1, d2⟩ := hv; go_simp; first | done | with_reducible rfl)) | (refine pi_pass rfl (fun _ _ _ h => h) (by rfl) ?_)
            try simp only [Act.put, List.setIfInBounds_toArray, List.set_cons_zero, List.set_cons_succ]
            first | (refine pi_take (v := ?pv1_7) rfl (fun _ _ _ h => h) (by rfl) (fun v hv => ?pr1_7) ?rest1_7; case pr1_7 => (obtain ⟨d0, d1, d2⟩ := hv; go_simp; first | done | with_reducible rfl)) | (refine pi_pass rfl (fun _ _ _ h => h) (by rfl) ?_)
            try simp only [Act.put, List.setIfInBounds_toArray, List.set_cons_zero, List.set_cons_succ]
            first | (refine pi_take (v := ?pv1_8) rfl (fun _ _ _ h => h) (by rfl) (fun v hv => ?pr1_8) ?rest1_8; case pr1_8 => (obtain ⟨d0, d1, d2⟩ := hv; go_simp; first | done | with_reducible rfl)) | (refine pi_pass rfl (fun _ _ _ h => h) (by rfl) ?_)
            try simp only [Act.put, List.setIfInBounds_toArray, List.set_cons_zero, List.set_cons_succ]
            first | (refine pi_take (v := ?pv1_10) rfl (fun _ _ _ h => h) (by rfl) (fun v hv => ?pr1_10) ?rest1_10; case pr1_10 => (obtain ⟨d0, d1, d2⟩ := hv; go_simp; first | done | with_reducible rfl)) | (refine pi_pass rfl (fun _ _ _ h => h) (by rfl) ?_)
            try simp only [Act.put, List.setIfInBounds_toArray, List.set_cons_zero, List.set_cons_succ]
            first | (refine pi_take (v := ?pv1_11) rfl (fun _ _ _ h => h) (by rfl) (fun v hv => ?pr1_11) ?rest1_11; case pr1_11 => (obtain ⟨d0, d1, d2⟩ := hv; go_simp; first | done | with_reducible rfl)) | (refine pi_pass rfl (fun _ _ _ h => h) (by rfl) ?_)
            try simp only [Act.put, List.setIfInBounds_toArray, List.set_cons_zero, List.set_cons_succ]
            refine pi_step rfl (fun K hK => ?_)
            go_simp
            refine hK.out _ _ (by first | exact hT8.out.1 | exact KS.out _ hS7.out.kept | exact ⟨Lib.cell?_alloc_some _ hHeld.1, Lib.cell?_alloc_some _ hHeld.2.1, Lib.cell?_alloc_some _ hHeld.2.2⟩) (fun hHeld2 => ?_)
            clear hK K hHeld
            have hHeld := hHeld2
            clear hHeld2
            try simp only [Act.put, List.setIfInBounds_toArray, List.set_cons_zero, List.set_cons_succ]
            refine pi_step rfl (fun K hK => ?_)
            first | (first | (refine step_appendRows (M := []) (L := p) (w := (w6.alloc (.cells #[] 89)).drew) (.tmp 50) (.tmp 52) ap np cp (by rfl) (by rfl) (by rfl) (by rfl) MZ.out.drew RZ.out HPC.out HBZ.out HMZ.out ?_; intro v7 w7 hm7 hg7; obtain ⟨a7, c7, rfl, hP7⟩ := page_in (B := W.heap.size) hm7 hg7 HPE.out HWF.out HPL.out HLOW.out HFEW.out; have hS7 := Lib.hid hP7; clear hm7 hg7 hP7) | (refine step_pushE pageE (w := w7.alloc (.cells #[.slice a7 np c7] 46)) (es := ps) (v := .slice pa ps.length pc) ⟨p, (a7, np, c7), blkOf (.slice a7 np c7)⟩ (.tmp 49) (.tmp 55) ⟨w7.heap.size, 0, none⟩ (by rfl) (by rfl) (by rfl) (by rfl) hS7.out.cells hS7.out.pages hS7.out.elem hS7.out.apart hS7.out.base hS7.out.few ?_; intro g8 c8 w8 hm8 hg8 hat8; have hT8 := Lib.hid (AFT.out a7 c7 w7 w8 hS7.out hg8); have hM8 := Lib.hid hm8; have hA8 := Lib.hid hat8; obtain ⟨-, u0, -⟩ := hT8.out.1; have u1 := hT8.out.2.1; have HSZ := Lib.hid hg8.size; clear hm8 hg8 hat8)) | (go_simp; first | (refine step_appendRows (M := []) (L := p) (w := (w6.alloc (.cells #[] 89)).drew) (.tmp 50) (.tmp 52) ap np cp (by rfl) (by rfl) (by rfl) (by rfl) MZ.out.drew RZ.out HPC.out HBZ.out HMZ.out ?_; intro v7 w7 hm7 hg7; obtain ⟨a7, c7, rfl, hP7⟩ := page_in (B := W.heap.size) hm7 hg7 HPE.out HWF.out HPL.out HLOW.out HFEW.out; have hS7 := Lib.hid hP7; clear hm7 hg7 hP7) | (refine step_pushE pageE (w := w7.alloc (.cells #[.slice a7 np c7] 46)) (es := ps) (v := .slice pa ps.length pc) ⟨p, (a7, np, c7), blkOf (.slice a7 np c7)⟩ (.tmp 49) (.tmp 55) ⟨w7.heap.size, 0, none⟩ (by rfl) (by rfl) (by rfl) (by rfl) hS7.out.cells hS7.out.pages hS7.out.elem hS7.out.apart hS7.out.base hS7.out.few ?_; intro g8 c8 w8 hm8 hg8 hat8; have hT8 := Lib.hid (AFT.out a7 c7 w7 w8 hS7.out hg8); have hM8 := Lib.hid hm8; have hA8 := Lib.hid hat8; obtain ⟨-, u0, -⟩ := hT8.out.1; have u1 := hT8.out.2.1; have HSZ := Lib.hid hg8.size; clear hm8 hg8 hat8))
            refine hK.out _ _ (by first | exact hT8.out.1 | exact KS.out _ hS7.out.kept | exact ⟨Lib.cell?_alloc_some _ hHeld.1, Lib.cell?_alloc_some _ hHeld.2.1, Lib.cell?_alloc_some _ hHeld.2.2⟩) (fun hHeld2 => ?_)
            clear hK K hHeld
            have hHeld := hHeld2
            clear hHeld2
            try simp only [Act.put, List.setIfInBounds_toArray, List.set_cons_zero, List.set_cons_succ]
            first | (refine pi_take (v := ?pv1_13) rfl (fun _ _ _ h => h) (by rfl) (fun v hv => ?pr1_13) ?rest1_13; case pr1_13 => (obtain ⟨d0, d1, d2⟩ := hv; go_simp; first | done | with_reducible rfl)) | (refine pi_pass rfl (fun _ _ _ h => h) (by rfl) ?_)
            try simp only [Act.put, List.setIfInBounds_toArray, List.set_cons_zero, List.set_cons_succ]
            refine pi_step rfl (fun K hK => ?_)
            go_simp
            refine hK.out _ _ (by first | exact hT8.out.1 | exact KS.out _ hS7.out.kept | exact ⟨Lib.cell?_alloc_some _ hHeld.1, Lib.cell?_alloc_some _ hHeld.2.1, Lib.cell?_alloc_some _ hHeld.2.2⟩) (fun hHeld2 => ?_)
            clear hK K hHeld
            have hHeld := hHeld2
            clear hHeld2
            try simp only [Act.put, List.setIfInBounds_toArray, List.set_cons_zero, List.set_cons_succ]
            refine pi_step rfl (fun K hK => ?_)
            first | (first | (refine step_appendRows (M := []) (L := p) (w := (w6.alloc (.cells #[] 89)).drew) (.tmp 50) (.tmp 52) ap np cp (by rfl) (by rfl) (by rfl) (by rfl) MZ.out.drew RZ.out HPC.out HBZ.out HMZ.out ?_; intro v7 w7 hm7 hg7; obtain ⟨a7, c7, rfl, hP7⟩ := page_in (B := W.heap.size) hm7 hg7 HPE.out HWF.out HPL.out HLOW.out HFEW.out; have hS7 := Lib.hid hP7; clear hm7 hg7 hP7) | (refine step_pushE pageE (w := w7.alloc (.cells #[.slice a7 np c7] 46)) (es := ps) (v := .slice pa ps.length pc) ⟨p, (a7, np, c7), blkOf (.slice a7 np c7)⟩ (.tmp 49) (.tmp 55) ⟨w7.heap.size, 0, none⟩ (by rfl) (by rfl) (by rfl) (by rfl) hS7.out.cells hS7.out.pages hS7.out.elem hS7.out.apart hS7.out.base hS7.out.few ?_; intro g8 c8 w8 hm8 hg8 hat8; have hT8 := Lib.hid (AFT.out a7 c7 w7 w8 hS7.out hg8); have hM8 := Lib.hid hm8; have hA8 := Lib.hid hat8; obtain ⟨-, u0, -⟩ := hT8.out.1; have u1 := hT8.out.2.1; have HSZ := Lib.hid hg8.size; clear hm8 hg8 hat8)) | (go_simp; first | (refine step_appendRows (M := []) (L := p) (w := (w6.alloc (.cells #[] 89)).drew) (.tmp 50) (.tmp 52) ap np cp (by rfl) (by rfl) (by rfl) (by rfl) MZ.out.drew RZ.out HPC.out HBZ.out HMZ.out ?_; intro v7 w7 hm7 hg7; obtain ⟨a7, c7, rfl, hP7⟩ := page_in (B := W.heap.size) hm7 hg7 HPE.out HWF.out HPL.out HLOW.out HFEW.out; have hS7 := Lib.hid hP7; clear hm7 hg7 hP7) | (refine step_pushE pageE (w := w7.alloc (.cells #[.slice a7 np c7] 46)) (es := ps) (v := .slice pa ps.length pc) ⟨p, (a7, np, c7), blkOf (.slice a7 np c7)⟩ (.tmp 49) (.tmp 55) ⟨w7.heap.size, 0, none⟩ (by rfl) (by rfl) (by rfl) (by rfl) hS7.out.cells hS7.out.pages hS7.out.elem hS7.out.apart hS7.out.base hS7.out.few ?_; intro g8 c8 w8 hm8 hg8 hat8; have hT8 := Lib.hid (AFT.out a7 c7 w7 w8 hS7.out hg8); have hM8 := Lib.hid hm8; have hA8 := Lib.hid hat8; obtain ⟨-, u0, -⟩ := hT8.out.1; have u1 := hT8.out.2.1; have HSZ := Lib.hid hg8.size; clear hm8 hg8 hat8))
            refine hK.out _ _ (by first | exact hT8.out.1 | exact KS.out _ hS7.out.kept | exact ⟨Lib.cell?_alloc_some _ hHeld.1, Lib.cell?_alloc_some _ hHeld.2.1, Lib.cell?_alloc_some _ hHeld.2.2⟩) (fun hHeld2 => ?_)
            clear hK K hHeld
            have hHeld := hHeld2
            clear hHeld2
            try simp only [Act.put, List.setIfInBounds_toArray, List.set_cons_zero, List.set_cons_succ]
            first | (refine pi_take (v := ?pv1_16) rfl (fun _ _ _ h => h) (by rfl) (fun v hv => ?pr1_16) ?rest1_16; case pr1_16 => (obtain ⟨d0, d1, d2⟩ := hv; go_simp; first | done | with_reducible rfl)) | (refine pi_pass rfl (fun _ _ _ h => h) (by rfl) ?_)
            try simp only [Act.put, List.setIfInBounds_toArray, List.set_cons_zero, List.set_cons_succ]
            first | (refine pi_take (v := ?pv1_17) rfl (fun _ _ _ h => h) (by rfl) (fun v hv => ?pr1_17) ?rest1_17; case pr1_17 => (obtain ⟨d0, d1, d2⟩ := hv; go_simp; first | done | with_reducible rfl)) | (refine pi_pass rfl (fun _ _ _ h => h) (by rfl) ?_)
            try simp only [Act.put, List.setIfInBounds_toArray, List.set_cons_zero, List.set_cons_succ]
            refine pi_end ?_
            refine z_step rfl (fun K hK => ?_)
            go_simp
            refine hK.out _ _ ?_
            clear hK K
            try simp only [Act.put, List.setIfInBounds_toArray, List.set_cons_zero, List.set_cons_succ]
            refine z_end ?_
            clear hHeld
            obtain ⟨w9, hw9⟩ : ∃ u, u = w8.setCell ⟨g, k * 4 + 1, none⟩ (.slice (some ⟨g8, 0, none⟩) (ps.length + 1) c8) := ⟨_, rfl⟩
            have hchg := D6.out.blk.change (w' := w8) (k := k) (j := 1) HE.out (by show 1 < 4; decide) (.slice (some ⟨g8, 0, none⟩) (ps.length + 1) c8) ⟨⟨f0, f1 ++ [p], f2, false⟩, ((some ⟨g8, 0, none⟩, ps.length + 1, c8), ()), blkOf (.slice (some ⟨g8, 0, none⟩) (ps.length + 1) c8) ++ gsOf (ps ++ [(⟨p, (a7, np, c7), blkOf (.slice a7 np c7)⟩ : BEl rowsB)])⟩ rfl (Nat.le_trans hS7.out.k7.1.size HSZ.out) hT8.out.2.2.2.1
              (by
                have h1 := file_blk (x3 := false) hM8.out HF0.out HF2.out
                rw [List.map_append, ← HPS.out] at h1
                exact h1)
              (fun z hz => by
                rw [blkOf_some, gs_snoc, List.singleton_append] at hz
                have hnew : ∀ y ∈ blkOf (.slice a7 np c7), w6.heap.size ≤ y := fun y hy => (rowsB.blk_lt hS7.out.rows y hy).1
                rcases List.mem_cons.1 hz with hz | hz
                · rcases hA8.out with h1 | h1
                  · left; rw [HEG.out]; exact List.mem_append_left _ (blkOf_mem.2 (by rw [h1, hz]))
                  · right
                    have h2 : z = g8 := hz
                    have h3 := hS7.out.k7.2
                    omega
                · rcases List.mem_append.1 hz with hz | hz
                  · left; rw [HEG.out]; exact List.mem_append_right _ hz
                  · right; exact hnew z hz)
            have hmap : (fs.set k ⟨⟨f0, f1 ++ [p], f2, false⟩, ((some ⟨g8, 0, none⟩, ps.length + 1, c8), ()), blkOf (.slice (some ⟨g8, 0, none⟩) (ps.length + 1) c8) ++ gsOf (ps ++ [(⟨p, (a7, np, c7), blkOf (.slice a7 np c7)⟩ : BEl rowsB)])⟩).map BEl.x = X.fFiles.set k ⟨f0, f1 ++ [p], f2, false⟩ := by rw [List.map_set, ← HFS.out]
            have hdd := disk_blk hchg HNX.out
            rw [hmap, show k * fileB.rep.size + 1 = k * 4 + 1 from rfl] at hdd
            have hne : g ≠ xb := fun e => HXN.out.2 e.symm
            have X9 : Hid (w9.heap[xb]? = some (.cells #[.slice (some ⟨g, 0, none⟩) fs.length c1, .int .i64 X.fNextName] 31 (0, 0))) := Lib.hid (by rw [hw9]; exact blk_far hT8.out.2.2.1 hne.symm)
            have K9 : Hid (Kept W.heap.size W w9) := Lib.hid (by rw [hw9]; exact hT8.out.2.2.2.2.set hgB _)
            rw [← hw9] at hdd ⊢
            have DD := Lib.hid hdd
            have y0 := box_cell X9.out 0 _ rfl
            have y1 := box_cell X9.out 1 _ rfl
            obtain ⟨-, -, -, r0, r1, rf⟩ := FF.out _ K9.out
            clear hchg hmap hdd hw9 u0 u1
            go_wp2_with fail
            refine bodyPost_ret (v := .tuple #[.agg #[.slice (some ⟨g, 0, none⟩) fs.length c1, .int .i64 X.fNextName], .bool true]) (by simp [results, Try.results22, go_sem, *]) rfl ?_
            rw [HYE.out]
            exact disk_done (Y := ⟨X.fFiles.set k ⟨f0, f1 ++ [p], f2, false⟩, X.fNextName⟩) (vs := [.bool true]) B0.out DD.out K9.out (by omega) (by have := HZ.out; omega) _ _
theorem sappend (a : Option Addr) (n c : Nat) (X : DiskD) (name : Int) (ap : Option Addr) (np cp : Nat) (p : List R) (w : World) (h : diskRep.inn w X ((a, n, c), ())) (hp : pageRep.inn w p (ap, np, cp)) (hw : wtDisk X ≤ 1000000000) (hwp : wtPage p ≤ 1000000000) :
    Calls Try.prog 22 #[.agg #[.slice a n c, .int .i64 X.fNextName], .int .i64 name, .agg #[.slice ap np cp]] w (DiskAnd ((DiskD.appendTo X name p).getD X) [.bool (DiskD.appendTo X name p).isSome] w) :=
  sappend0 a n c X name ap np cp p w h hp hw hwp _ _ fun r hr => by rw [hr]; exact ⟨rfl, rfl⟩
end Go.Proofs.Ythbifibnnhikjaa
/- The program's AppendPage, by contract. -/
namespace Go.Proofs.Ythbifibnnhikjaa
open Go.RowKit
set_option linter.unusedVariables false

set_option maxRecDepth 100000 in
set_option maxHeartbeats 4000000 in
theorem iappend0 (a : Option Addr) (n c : Nat) (X : DiskD) (name : Int) (ap : Option Addr) (np cp : Nat) (p : List R) (w : World) (h : diskRep.inn w X ((a, n, c), ())) (hp : pageRep.inn w p (ap, np, cp)) (hw : wtDisk X ≤ 1000000000) (hwp : wtPage p ≤ 1000000000) (Y : DiskD) (b : Bool)
    (HR : Hid (∀ r, DiskD.appendTo X name p = r → Y = r.getD X ∧ b = r.isSome)) :
    Calls Try.prog 24 #[.agg #[.slice a n c, .int .i64 X.fNextName], .int .i64 name, .agg #[.slice ap np cp]] w (DiskAnd Y [.bool b] w) := by
  obtain ⟨W, hW⟩ : ∃ W, W = ((w.alloc (.cells #[.slice a n c, .int .i64 X.fNextName] 31)).alloc (.cells #[.slice ap np cp] 46)).alloc (.cells #[.slice none 0 0, .int .i64 0] 31) := ⟨_, rfl⟩
  obtain ⟨hz, b0, k0, k1, k2⟩ := boxes3 w W hW
  have HZ := Lib.hid hz
  have B0 := Lib.hid b0
  have K0 := Lib.hid k0
  have K1 := Lib.hid k1
  have K2 := Lib.hid k2
  have HI := Lib.hid (h.keep b0)
  have HP := Lib.hid ((pageRep.inn_keep hp b0).1)
  have HPC : Hid (ap = none → cp = 0) := Lib.hid hp.2
  have HW := Lib.hid hw
  have HNX := Lib.hid (disk_in h).2.2
  have HL := Lib.hid (disk_len h).1
  have hnp : np ≤ 1000000000 := by
    have h1 := hp.1.1
    have h2 : wtPage p = p.length := rfl
    have h3 : p.length = np := h1
    omega
  have hnm := (disk_len h).2
  unfold maxLen at hnm
  have FF : Hid (∀ v, Kept W.heap.size W v → v.cell? ⟨w.heap.size, 0, none⟩ = some (.slice a n c) ∧ v.cell? ⟨w.heap.size, 1, none⟩ = some (.int .i64 X.fNextName) ∧ v.cell? ⟨w.heap.size + 1, 0, none⟩ = some (.slice ap np cp) ∧
      v.cell? ⟨w.heap.size + 2, 0, none⟩ = some (.slice none 0 0) ∧ v.cell? ⟨w.heap.size + 2, 1, none⟩ = some (.int .i64 0) ∧ ∀ j, v.frozen? ⟨w.heap.size + 2, j, none⟩ = false) := Lib.hid fun v hv =>
    ⟨hv.cell (by omega) (box_cell k0 0 _ rfl), hv.cell (by omega) (box_cell k0 1 _ rfl), hv.cell (by omega) (box_cell k1 0 _ rfl), hv.cell (by omega) (box_cell k2 0 _ rfl), hv.cell (by omega) (box_cell k2 1 _ rfl), fun j => hv.frozen (by omega) (by simp [World.frozen?, k2])⟩
  clear h hp b0 k0 k1 k2 hz hw hwp
  go_enter Try.func24, Try.ntmps24
  go_wp2_with fail
  rw [← hW]
  clear hW
  refine (iclonedisk a n c X W HI.out HW.out).mono ?_
  rintro e w1 ⟨a1, n1, c1, G1, rfl, hd1, b1⟩
  obtain ⟨fs, rfl, hfs, hst⟩ := dop_start hd1 b1
  have HFS := Lib.hid hfs
  obtain ⟨xb, hxb⟩ : ∃ g, g = w1.heap.size := ⟨_, rfl⟩
  obtain ⟨w2, hw2⟩ : ∃ u, u = w1.alloc (.cells #[.slice a1 fs.length c1, .int .i64 X.fNextName] 31) := ⟨_, rfl⟩
  have D2 := Lib.hid (hst xb w2 hxb hw2)
  obtain ⟨p0, p1, -⟩ := FF.out _ D2.out.kept
  clear hd1 b1 hst hfs
  go_upto_region 2 with fail
  rw [← hxb, ← hw2]
  clear hw2 hxb
  obtain ⟨x0, x1, -⟩ := D2.out.x
  go_wp2_with fail
  clear p0 p1 x0 x1
  have IN2 := Lib.hid (show diskRep.inn w2 X ((a1, fs.length, c1), ()) from diskB.blk_inn (D2.out.disk HFS.out HNX.out))
  refine (ifind a1 fs.length c1 X name w2 IN2.out HW.out).mono ?_
  rintro e w3 ⟨hres, b3⟩
  have D3 := Lib.hid (D2.out.below b3)
  obtain ⟨p0, p1, p2, r0, r1, rf⟩ := FF.out _ D3.out.kept
  obtain ⟨x0, x1, xf⟩ := D3.out.x
  clear b3
  rcases hres with ⟨hfile, rfl⟩ | ⟨k, f, g, og, hfile, hf, rfl, rfl⟩
  · have hno := DiskD.appendTo_none (p := p) hfile
    have hY : X = Y := (HR.out _ hno).1.symm
    have hb : b = false := (HR.out _ hno).2
    subst hb
    subst hY
    clear hno hfile
    go_wp2_with fail
    refine bodyPost_ret (v := .tuple #[.agg #[.slice a1 fs.length c1, .int .i64 X.fNextName], .bool false]) (by simp [results, Try.results24, go_sem, *]) rfl ?_
    exact disk_done (vs := [.bool false]) B0.out (D3.out.disk HFS.out HNX.out) D3.out.kept (by omega) (by have := HZ.out; omega) _ _
  · have HAE := Lib.hid (DiskD.appendTo_eq (p := p) hfile)
    have HF := Lib.hid hf
    have hkf : k < fs.length := by have := idx_lt HF.out; rw [HFS.out, List.length_map] at this; exact this
    obtain ⟨g1, c1', ea, hgB, hgl, -, -⟩ := D3.out.blk.addr (by omega)
    injection ea with ea1 ea2 ea3
    injection ea1 with ea1
    injection ea1 with ea4 ea5
    subst ea3 ea4 ea5
    clear ea2 hf hfile hgl
    obtain ⟨f0, f1, f2, f3⟩ := f
    obtain ⟨e, he⟩ : ∃ e, fs[k]? = some e := ⟨fs[k], by simp [hkf]⟩
    have hex : e.x = ⟨f0, f1, f2, f3⟩ := by
      have h1 := HF.out
      rw [HFS.out, List.getElem?_map, he] at h1
      exact Option.some.inj h1
    obtain ⟨ex, ⟨⟨pa, pn, pc⟩, ⟨⟩⟩, eG⟩ := e
    simp only at hex
    subst hex
    have HE := Lib.hid he
    have cf : w3.cell? ⟨g, k * 4 + 3, none⟩ = some (.bool f3) := D3.out.blk.cell HE.out 3 _ rfl
    clear he
    cases f3 with
    | true =>
      have hno := (HAE.out.trans (if_neg (by simp)))
      have hY : X = Y := (HR.out _ hno).1.symm
      have hb : b = false := (HR.out _ hno).2
      subst hb
      subst hY
      clear hno
      go_wp2_with fail
      refine bodyPost_ret (v := .tuple #[.agg #[.slice (some ⟨g, 0, none⟩) fs.length c1, .int .i64 X.fNextName], .bool false]) (by simp [results, Try.results24, go_sem, *]) rfl ?_
      exact disk_done (vs := [.bool false]) B0.out (D3.out.disk HFS.out HNX.out) D3.out.kept (by omega) (by have := HZ.out; omega) _ _
    | false =>
      go_wp2_with fail
      clear p0 p1 p2 r0 r1 rf x0 x1 cf
      refine (ivalidpage ap np cp p w3 (HP.out.keep D3.out.kept.1) (by omega)).mono ?_
      rintro e w5 ⟨rfl, b5⟩
      have D5 := Lib.hid (D3.out.below b5)
      obtain ⟨p0, p1, p2, r0, r1, rf⟩ := FF.out _ D5.out.kept
      obtain ⟨x0, x1, -⟩ := D5.out.x
      clear b5
      cases hpo : R.pageOk p with
      | false =>
        have hno := (HAE.out.trans (if_neg (by rw [hpo]; simp)))
        have hY : X = Y := (HR.out _ hno).1.symm
        have hb : b = false := (HR.out _ hno).2
        subst hb
        subst hY
        clear hno
        clear hpo
        go_wp2_with fail
        refine bodyPost_ret (v := .tuple #[.agg #[.slice (some ⟨g, 0, none⟩) fs.length c1, .int .i64 X.fNextName], .bool false]) (by simp [results, Try.results24, go_sem, *]) rfl ?_
        exact disk_done (vs := [.bool false]) B0.out (D5.out.disk HFS.out HNX.out) D5.out.kept (by omega) (by have := HZ.out; omega) _ _
      | true =>
        have HPO := Lib.hid hpo
        clear hpo
        go_wp2_with fail
        clear p0 p1 p2 r0 r1 rf x0 x1
        refine (icountp _ n c X w5 (HI.out.keep D5.out.kept.1) HW.out).mono ?_
        rintro e w6 ⟨rfl, b6⟩
        have D6 := Lib.hid (D5.out.below b6)
        obtain ⟨p0, p1, p2, r0, r1, rf⟩ := FF.out _ D6.out.kept
        obtain ⟨x0, x1, xf⟩ := D6.out.x
        clear b6
        obtain ⟨m, hm⟩ : ∃ m, m = DiskD.count X.fFiles := ⟨_, rfl⟩
        rw [← hm]
        by_cases hfull : (m : Int) = 40
        · have hm40 : DiskD.count X.fFiles = 40 := by omega
          have hno := (HAE.out.trans (if_neg (by rw [hm40]; simp)))
          have hY : X = Y := (HR.out _ hno).1.symm
          have hb : b = false := (HR.out _ hno).2
          subst hb
          subst hY
          clear hno
          clear hm hm40
          go_wp2_with fail
          refine bodyPost_ret (v := .tuple #[.agg #[.slice (some ⟨g, 0, none⟩) fs.length c1, .int .i64 X.fNextName], .bool false]) (by simp [results, Try.results24, go_sem, *]) rfl ?_
          exact disk_done (vs := [.bool false]) B0.out (D6.out.disk HFS.out HNX.out) D6.out.kept (by omega) (by have := HZ.out; omega) _ _
        · have hm40 : DiskD.count X.fFiles ≠ 40 := by omega
          have hyes := (HAE.out.trans (if_pos (by rw [HPO.out, decide_eq_true hm40]; rfl)))
          have hY := (HR.out _ hyes).1
          have hb : b = true := (HR.out _ hyes).2
          subst hb
          have HYE := Lib.hid hY
          have hfl2 : ((m : Int) == 40) = false := by simpa using hfull
          clear hyes hm hm40 hY hfull
          have he := HE.out
          have hgl : g < w6.heap.size := (D6.out.blk.lt g (List.mem_append_left _ (by rw [blkOf_some]; exact List.mem_singleton.2 rfl))).2
          have hbe := D6.out.blk.all _ (List.mem_of_getElem? he)
          obtain ⟨ps, hps, hpl, heG, hf0, hf2⟩ := of_file_blk hbe
          obtain ⟨rfl, -⟩ := hpl.caps
          have HE := Lib.hid he
          have HPS := Lib.hid (show f1 = ps.map BEl.x from hps)
          have HPL := Lib.hid hpl
          have HEG := Lib.hid (show eG = blkOf (.slice pa ps.length pc) ++ gsOf ps from heG)
          have HF0 := Lib.hid (show I64 f0 from hf0)
          have HF2 := Lib.hid (show I64 f2 from hf2)
          have hcell1 := D6.out.blk.cell he 1 (.slice pa ps.length pc) rfl
          have hcell : w6.cell? ⟨g, k * 4 + 1, none⟩ = some (.slice pa ps.length pc) := hcell1
          have HGG : Hid (∀ z ∈ blkOf (.slice pa ps.length pc) ++ gsOf ps, z ∈ gsOf fs) := Lib.hid fun z hz => mem_gs.2 ⟨_, List.mem_of_getElem? HE.out, by rw [HEG.out]; exact hz⟩
          have HGN : Hid (g ∉ gsOf fs) := Lib.hid (by
            have h1 := D6.out.blk.nodup
            rw [blkOf_some, List.singleton_append, List.nodup_cons] at h1
            exact h1.1)
          have HXN : Hid (xb ∉ gsOf fs ∧ xb ≠ g) := Lib.hid ⟨fun hm => D6.out.out (List.mem_append_right _ hm), fun e => D6.out.out (List.mem_append_left _ (by rw [blkOf_some, e]; exact List.mem_singleton.2 rfl))⟩
          have hps1 : ps.length ≤ 1000000000 := by
            have h1 := DiskD.count_mem (List.mem_of_getElem? HF.out)
            have h2 := DiskD.count_wt X.fFiles
            have h3 : wtDisk X = wtFiles X.fFiles := rfl
            have h4 := HW.out
            have h5 : f1.length = ps.length := by rw [show f1 = ps.map BEl.x from hps, List.length_map]
            simp only at h1
            omega
          have HPE : Hid (p.length = np) := Lib.hid HP.out.1
          have HFEW : Hid (ps.length + 1 ≤ 1000000000000) := Lib.hid (by omega)
          have HLOW := Lib.hid D6.out.kept.2
          have PIN := Lib.hid (show SeqIn rowRep w6 ap np p from HP.out.keep D6.out.kept.1)
          have CC : Hid (∀ v, Kept w6.heap.size w6 v → Calls Try.prog 50 #[.agg #[.slice ap np cp]] v fun e v' => ∃ (a6 : Option Addr) (c6 : Nat), e = .returned (.agg #[.slice a6 np c6]) ∧ PageIn W.heap.size w6 (.slice pa ps.length pc) ps p a6 np c6 v') := Lib.hid fun v hv =>
            (iclonepage ap np cp p v (PIN.out.keep hv.1) (by omega)).mono fun e v' ⟨a6, c6, he, hr, hb⟩ => by
              rw [HPE.out] at he hr
              exact ⟨a6, c6, he, ⟨hv.below hb, rowsB.blk_mono hr hv.2, HPL.out, HLOW.out, HFEW.out⟩⟩
          have KS : Hid (∀ v, Kept w6.heap.size w6 v → v.cell? ⟨xb, 0, none⟩ = some (.slice (some ⟨g, 0, none⟩) fs.length c1) ∧ v.cell? ⟨g, k * 4 + 1, none⟩ = some (.slice pa ps.length pc) ∧ v.cell? ⟨w.heap.size + 1, 0, none⟩ = some (.slice ap np cp)) := Lib.hid fun v hv =>
            ⟨hv.cell (lt_of_block D6.out.box) D6.out.x.1, hv.cell hgl hcell, hv.cell (by have := D6.out.kept.2; have := HZ.out; omega) (FF.out _ D6.out.kept).2.2.1⟩
          have AFT : Hid (∀ (a7 : Option Addr) (c7 : Nat) (w7 w8 : World), PageIn W.heap.size w6 (.slice pa ps.length pc) ps p a7 np c7 w7 → (w7.alloc (.cells #[.slice a7 np c7] 46)).grownBy w8 (Value.slice pa ps.length pc).ownBlock →
              (w8.cell? ⟨xb, 0, none⟩ = some (.slice (some ⟨g, 0, none⟩) fs.length c1) ∧ w8.cell? ⟨g, k * 4 + 1, none⟩ = some (.slice pa ps.length pc) ∧ w8.cell? ⟨w.heap.size + 1, 0, none⟩ = some (.slice ap np cp)) ∧ w8.frozen? ⟨g, k * 4 + 1, none⟩ = false ∧ w8.heap[xb]? = some (.cells #[.slice (some ⟨g, 0, none⟩) fs.length c1, .int .i64 X.fNextName] 31 (0, 0)) ∧
              (∀ z, z < w6.heap.size → z ∉ eG → w8.heap[z]? = w6.heap[z]?) ∧ Kept W.heap.size W w8) := Lib.hid fun a7 c7 w7 w8 hP hg => by
            have hk := hP.k7
            have hrow : ∀ z, (Value.slice pa ps.length pc).ownBlock = some z → z ∈ eG := fun z hz => by rw [HEG.out]; exact List.mem_append_left _ (blkOf_mem.2 hz)
            have hsame : ∀ z, z < w6.heap.size → z ∉ eG → w8.heap[z]? = w6.heap[z]? := fun z hz hn => (hg.block z (Nat.lt_of_lt_of_le hz hk.2) fun e => hn (hrow z e.symm)).trans (hk.1.block z hz)
            have heg : ∀ z ∈ eG, z ∈ gsOf fs := fun z hz => HGG.out z (by rw [← HEG.out]; exact hz)
            have hg8 := hsame g hgl fun hm => HGN.out (heg g hm)
            have hx8 := (hsame xb (lt_of_block D6.out.box) fun hm => HXN.out.1 (heg xb hm)).trans D6.out.box
            have hp8 := hsame (w.heap.size + 1) (by have := D6.out.kept.2; have := HZ.out; omega) fun hm => by
              have := (D6.out.blk.lt _ (List.mem_append_right _ (heg _ hm))).1
              have := HZ.out
              omega
            exact ⟨⟨box_cell hx8 0 _ rfl, (World.cell?_of_block hg8).trans hcell, (World.cell?_of_block hp8).trans (FF.out _ D6.out.kept).2.2.1⟩, (World.frozen?_of_block hg8).trans (D6.out.blk.frozen _), hx8, hsame,
              D6.out.kept.trans (((hk.mono HLOW.out)).grown hg fun z hz => (D6.out.blk.lt z (List.mem_append_right _ (heg z (hrow z hz)))).1)⟩
          have hki1 : (k : Int) < fs.length := by omega
          have hki0 : (0 : Int) ≤ k := by omega
          clear he hbe hps hpl heG hf0 hf2 hcell1
          go_wp2_with fail
          clear p0 p1 p2 r0 r1 rf x0 x1 xf hcell
          refine region_plan (fun v => v.cell? ⟨g, k * 4 + 1, none⟩ = some (.slice pa ps.length pc) ∧ v.cell? ⟨w.heap.size + 1, 0, none⟩ = some (.slice ap np cp)) [.q 0, .q 1, .q 2, .q 3, .q 4, .q 5, .m 6, .m 7, .m 8, .q 9, .q 10] [11] (by kernel_rfl) (by kernel_rfl) (KS.out _ (Kept.refl (Nat.le_refl _)).drew).2 (fun hHeld => ?_)
          first | (refine pi_take (v := ?pv1_0) rfl (fun _ _ _ h => h) (by rfl) (fun v hv => ?pr1_0) ?rest1_0; case pr1_0 => (obtain ⟨d1, d2⟩ := hv; go_simp; first | done | with_reducible rfl)) | (refine pi_pass rfl (fun _ _ _ h => h) (by rfl) ?_)
          try simp only [Act.put, List.setIfInBounds_toArray, List.set_cons_zero, List.set_cons_succ]
          first | (refine pi_take (v := ?pv1_1) rfl (fun _ _ _ h => h) (by rfl) (fun v hv => ?pr1_1) ?rest1_1; case pr1_1 => (obtain ⟨d1, d2⟩ := hv; go_simp; first | done | with_reducible rfl)) | (refine pi_pass rfl (fun _ _ _ h => h) (by rfl) ?_)
          try simp only [Act.put, List.setIfInBounds_toArray, List.set_cons_zero, List.set_cons_succ]
          first | (refine pi_take (v := ?pv1_2) rfl (fun _ _ _ h => h) (by rfl) (fun v hv => ?pr1_2) ?rest1_2; case pr1_2 => (obtain ⟨d1, d2⟩ := hv; go_simp; first | done | with_reducible rfl)) | (refine pi_pass rfl (fun _ _ _ h => h) (by rfl) ?_)
          try simp only [Act.put, List.setIfInBounds_toArray, List.set_cons_zero, List.set_cons_succ]
          first | (refine pi_take (v := ?pv1_3) rfl (fun _ _ _ h => h) (by rfl) (fun v hv => ?pr1_3) ?rest1_3; case pr1_3 => (obtain ⟨d1, d2⟩ := hv; go_simp; first | done | with_reducible rfl)) | (refine pi_pass rfl (fun _ _ _ h => h) (by rfl) ?_)
          try simp only [Act.put, List.setIfInBounds_toArray, List.set_cons_zero, List.set_cons_succ]
          first | (refine pi_take (v := ?pv1_4) rfl (fun _ _ _ h => h) (by rfl) (fun v hv => ?pr1_4) ?rest1_4; case pr1_4 => (obtain ⟨d1, d2⟩ := hv; go_simp; first | done | with_reducible rfl)) | (refine pi_pass rfl (fun _ _ _ h => h) (by rfl) ?_)
          try simp only [Act.put, List.setIfInBounds_toArray, List.set_cons_zero, List.set_cons_succ]
          first | (refine pi_take (v := ?pv1_5) rfl (fun _ _ _ h => h) (by rfl) (fun v hv => ?pr1_5) ?rest1_5; case pr1_5 => (obtain ⟨d1, d2⟩ := hv; go_simp; first | done | with_reducible rfl)) | (refine pi_pass rfl (fun _ _ _ h => h) (by rfl) ?_)
          try simp only [Act.put, List.setIfInBounds_toArray, List.set_cons_zero, List.set_cons_succ]
          refine pi_step rfl (fun K hK => ?_)
          first | (first | (go_at_call 50; refine (CC.out _ (Kept.refl (Nat.le_refl _)).drew).mono ?_; rintro e w7 ⟨a7, c7, rfl, hP7⟩; have hS7 := Lib.hid hP7; clear hP7) | (refine step_pushE pageE (w := w7.alloc (.cells #[.slice a7 np c7] 46)) (es := ps) (v := .slice pa ps.length pc) ⟨p, (a7, np, c7), blkOf (.slice a7 np c7)⟩ (.tmp 42) (.tmp 45) ⟨w7.heap.size, 0, none⟩ (by rfl) (by rfl) (by rfl) (by rfl) hS7.out.cells hS7.out.pages hS7.out.elem hS7.out.apart hS7.out.base hS7.out.few ?_; intro g8 c8 w8 hm8 hg8 hat8; have hT8 := Lib.hid (AFT.out a7 c7 w7 w8 hS7.out hg8); have hM8 := Lib.hid hm8; have hA8 := Lib.hid hat8; obtain ⟨-, u0, -⟩ := hT8.out.1; have u1 := hT8.out.2.1; have HSZ := Lib.hid hg8.size; clear hm8 hg8 hat8)) | (go_simp; first | (go_at_call 50; refine (CC.out _ (Kept.refl (Nat.le_refl _)).drew).mono ?_; rintro e w7 ⟨a7, c7, rfl, hP7⟩; have hS7 := Lib.hid hP7; clear hP7) | (refine step_pushE pageE (w := w7.alloc (.cells #[.slice a7 np c7] 46)) (es := ps) (v := .slice pa ps.length pc) ⟨p, (a7, np, c7), blkOf (.slice a7 np c7)⟩ (.tmp 42) (.tmp 45) ⟨w7.heap.size, 0, none⟩ (by rfl) (by rfl) (by rfl) (by rfl) hS7.out.cells hS7.out.pages hS7.out.elem hS7.out.apart hS7.out.base hS7.out.few ?_; intro g8 c8 w8 hm8 hg8 hat8; have hT8 := Lib.hid (AFT.out a7 c7 w7 w8 hS7.out hg8); have hM8 := Lib.hid hm8; have hA8 := Lib.hid hat8; obtain ⟨-, u0, -⟩ := hT8.out.1; have u1 := hT8.out.2.1; have HSZ := Lib.hid hg8.size; clear hm8 hg8 hat8))
          refine hK.out _ _ (by first | exact hT8.out.1.2 | exact (KS.out _ hS7.out.k7).2 | exact (KS.out _ hS7.out.kept).2) (fun hHeld2 => ?_)
          clear hK K hHeld
          have hHeld := hHeld2
          clear hHeld2
          try simp only [Act.put, List.setIfInBounds_toArray, List.set_cons_zero, List.set_cons_succ]
          refine pi_step rfl (fun K hK => ?_)
          go_simp
          refine hK.out _ _ (by first | exact hT8.out.1.2 | exact (KS.out _ hS7.out.k7).2 | exact (KS.out _ hS7.out.kept).2) (fun hHeld2 => ?_)
          clear hK K hHeld
          have hHeld := hHeld2
          clear hHeld2
          try simp only [Act.put, List.setIfInBounds_toArray, List.set_cons_zero, List.set_cons_succ]
          refine pi_step rfl (fun K hK => ?_)
          first | (first | (go_at_call 50; refine (CC.out _ (Kept.refl (Nat.le_refl _)).drew).mono ?_; rintro e w7 ⟨a7, c7, rfl, hP7⟩; have hS7 := Lib.hid hP7; clear hP7) | (refine step_pushE pageE (w := w7.alloc (.cells #[.slice a7 np c7] 46)) (es := ps) (v := .slice pa ps.length pc) ⟨p, (a7, np, c7), blkOf (.slice a7 np c7)⟩ (.tmp 42) (.tmp 45) ⟨w7.heap.size, 0, none⟩ (by rfl) (by rfl) (by rfl) (by rfl) hS7.out.cells hS7.out.pages hS7.out.elem hS7.out.apart hS7.out.base hS7.out.few ?_; intro g8 c8 w8 hm8 hg8 hat8; have hT8 := Lib.hid (AFT.out a7 c7 w7 w8 hS7.out hg8); have hM8 := Lib.hid hm8; have hA8 := Lib.hid hat8; obtain ⟨-, u0, -⟩ := hT8.out.1; have u1 := hT8.out.2.1; have HSZ := Lib.hid hg8.size; clear hm8 hg8 hat8)) | (go_simp; first | (go_at_call 50; refine (CC.out _ (Kept.refl (Nat.le_refl _)).drew).mono ?_; rintro e w7 ⟨a7, c7, rfl, hP7⟩; have hS7 := Lib.hid hP7; clear hP7) | (refine step_pushE pageE (w := w7.alloc (.cells #[.slice a7 np c7] 46)) (es := ps) (v := .slice pa ps.length pc) ⟨p, (a7, np, c7), blkOf (.slice a7 np c7)⟩ (.tmp 42) (.tmp 45) ⟨w7.heap.size, 0, none⟩ (by rfl) (by rfl) (by rfl) (by rfl) hS7.out.cells hS7.out.pages hS7.out.elem hS7.out.apart hS7.out.base hS7.out.few ?_; intro g8 c8 w8 hm8 hg8 hat8; have hT8 := Lib.hid (AFT.out a7 c7 w7 w8 hS7.out hg8); have hM8 := Lib.hid hm8; have hA8 := Lib.hid hat8; obtain ⟨-, u0, -⟩ := hT8.out.1; have u1 := hT8.out.2.1; have HSZ := Lib.hid hg8.size; clear hm8 hg8 hat8))
          refine hK.out _ _ (by first | exact hT8.out.1.2 | exact (KS.out _ hS7.out.k7).2 | exact (KS.out _ hS7.out.kept).2) (fun hHeld2 => ?_)
          clear hK K hHeld
          have hHeld := hHeld2
          clear hHeld2
          try simp only [Act.put, List.setIfInBounds_toArray, List.set_cons_zero, List.set_cons_succ]
          first | (refine pi_take (v := ?pv1_9) rfl (fun _ _ _ h => h) (by rfl) (fun v hv => ?pr1_9) ?rest1_9; case pr1_9 => (obtain ⟨d1, d2⟩ := hv; go_simp; first | done | with_reducible rfl)) | (refine pi_pass rfl (fun _ _ _ h => h) (by rfl) ?_)
          try simp only [Act.put, List.setIfInBounds_toArray, List.set_cons_zero, List.set_cons_succ]
          first | (refine pi_take (v := ?pv1_10) rfl (fun _ _ _ h => h) (by rfl) (fun v hv => ?pr1_10) ?rest1_10; case pr1_10 => (obtain ⟨d1, d2⟩ := hv; go_simp; first | done | with_reducible rfl)) | (refine pi_pass rfl (fun _ _ _ h => h) (by rfl) ?_)
          try simp only [Act.put, List.setIfInBounds_toArray, List.set_cons_zero, List.set_cons_succ]
          refine pi_end ?_
          refine z_step rfl (fun K hK => ?_)
          go_simp
          refine hK.out _ _ ?_
          clear hK K
          try simp only [Act.put, List.setIfInBounds_toArray, List.set_cons_zero, List.set_cons_succ]
          refine z_end ?_
          clear hHeld
          obtain ⟨w9, hw9⟩ : ∃ u, u = w8.setCell ⟨g, k * 4 + 1, none⟩ (.slice (some ⟨g8, 0, none⟩) (ps.length + 1) c8) := ⟨_, rfl⟩
          have hchg := D6.out.blk.change (w' := w8) (k := k) (j := 1) HE.out (by show 1 < 4; decide) (.slice (some ⟨g8, 0, none⟩) (ps.length + 1) c8) ⟨⟨f0, f1 ++ [p], f2, false⟩, ((some ⟨g8, 0, none⟩, ps.length + 1, c8), ()), blkOf (.slice (some ⟨g8, 0, none⟩) (ps.length + 1) c8) ++ gsOf (ps ++ [(⟨p, (a7, np, c7), blkOf (.slice a7 np c7)⟩ : BEl rowsB)])⟩ rfl (Nat.le_trans hS7.out.k7.1.size HSZ.out) hT8.out.2.2.2.1
            (by
              have h1 := file_blk (x3 := false) hM8.out HF0.out HF2.out
              rw [List.map_append, ← HPS.out] at h1
              exact h1)
            (fun z hz => by
              rw [blkOf_some, gs_snoc, List.singleton_append] at hz
              have hnew : ∀ y ∈ blkOf (.slice a7 np c7), w6.heap.size ≤ y := fun y hy => (rowsB.blk_lt hS7.out.rows y hy).1
              rcases List.mem_cons.1 hz with hz | hz
              · rcases hA8.out with h1 | h1
                · left; rw [HEG.out]; exact List.mem_append_left _ (blkOf_mem.2 (by rw [h1, hz]))
                · right
                  have h2 : z = g8 := hz
                  have h3 := hS7.out.k7.2
                  omega
              · rcases List.mem_append.1 hz with hz | hz
                · left; rw [HEG.out]; exact List.mem_append_right _ hz
                · right; exact hnew z hz)
          have hmap : (fs.set k ⟨⟨f0, f1 ++ [p], f2, false⟩, ((some ⟨g8, 0, none⟩, ps.length + 1, c8), ()), blkOf (.slice (some ⟨g8, 0, none⟩) (ps.length + 1) c8) ++ gsOf (ps ++ [(⟨p, (a7, np, c7), blkOf (.slice a7 np c7)⟩ : BEl rowsB)])⟩).map BEl.x = X.fFiles.set k ⟨f0, f1 ++ [p], f2, false⟩ := by rw [List.map_set, ← HFS.out]
          have hdd := disk_blk hchg HNX.out
          rw [hmap, show k * fileB.rep.size + 1 = k * 4 + 1 from rfl] at hdd
          have hne : g ≠ xb := fun e => HXN.out.2 e.symm
          have X9 : Hid (w9.heap[xb]? = some (.cells #[.slice (some ⟨g, 0, none⟩) fs.length c1, .int .i64 X.fNextName] 31 (0, 0))) := Lib.hid (by rw [hw9]; exact blk_far hT8.out.2.2.1 hne.symm)
          have K9 : Hid (Kept W.heap.size W w9) := Lib.hid (by rw [hw9]; exact hT8.out.2.2.2.2.set hgB _)
          rw [← hw9] at hdd ⊢
          have DD := Lib.hid hdd
          have y0 := box_cell X9.out 0 _ rfl
          have y1 := box_cell X9.out 1 _ rfl
          obtain ⟨-, -, -, r0, r1, rf⟩ := FF.out _ K9.out
          clear hchg hmap hdd hw9 u0 u1
          go_wp2_with fail
          refine bodyPost_ret (v := .tuple #[.agg #[.slice (some ⟨g, 0, none⟩) fs.length c1, .int .i64 X.fNextName], .bool true]) (by simp [results, Try.results24, go_sem, *]) rfl ?_
          rw [HYE.out]
          exact disk_done (Y := ⟨X.fFiles.set k ⟨f0, f1 ++ [p], f2, false⟩, X.fNextName⟩) (vs := [.bool true]) B0.out DD.out K9.out (by omega) (by have := HZ.out; omega) _ _
theorem iappend (a : Option Addr) (n c : Nat) (X : DiskD) (name : Int) (ap : Option Addr) (np cp : Nat) (p : List R) (w : World) (h : diskRep.inn w X ((a, n, c), ())) (hp : pageRep.inn w p (ap, np, cp)) (hw : wtDisk X ≤ 1000000000) (hwp : wtPage p ≤ 1000000000) :
    Calls Try.prog 24 #[.agg #[.slice a n c, .int .i64 X.fNextName], .int .i64 name, .agg #[.slice ap np cp]] w (DiskAnd ((DiskD.appendTo X name p).getD X) [.bool (DiskD.appendTo X name p).isSome] w) :=
  iappend0 a n c X name ap np cp p w h hp hw hwp _ _ fun r hr => by rw [hr]; exact ⟨rfl, rfl⟩
end Go.Proofs.Ythbifibnnhikjaa
