/- Texts joined: EqualS EqRowsI EqualI DiskV DiskW VQ CopyT Ck SealS VPt FindT. -/
import Derived.Test.YtjdjceohlcimaaaGreatDoorPartDiskOperationsg
import Derived.Deep.CutRange
import Derived.Lib.Hide
/- The reference's EqualDisks, by contract. -/
namespace Go.Proofs.YtjdjceohlcimaaaGreatDoor
open Go.RowKit
set_option linter.unusedVariables false
theorem disk_ne {X Y : DiskD} {t : Nat} {f f' : FileD} (h : X.fFiles[t]? = some f) (h' : Y.fFiles[t]? = some f') (hne : f ≠ f') : decide (X = Y) = false := decide_eq_false fun e => by
  subst e
  rw [h] at h'
  exact hne (Option.some.inj h')
set_option maxRecDepth 100000 in
set_option maxHeartbeats 2000000 in
theorem sequal (a : Option Addr) (n c : Nat) (X : DiskD) (a' : Option Addr) (n' c' : Nat) (Y : DiskD) (w : World) (h : diskRep.inn w X ((a, n, c), ())) (h' : diskRep.inn w Y ((a', n', c'), ())) :
    Calls Tryz.prog 18 #[.agg #[.slice a n c, .int .i64 X.fNextName], .agg #[.slice a' n' c', .int .i64 Y.fNextName]] w fun e w' => e = .returned (.bool (decide (X = Y))) ∧ Below w.heap.size w w' := by
  obtain ⟨W, hW⟩ : ∃ W, W = (w.alloc (.cells #[.slice a n c, .int .i64 X.fNextName] 26)).alloc (.cells #[.slice a' n' c', .int .i64 Y.fNextName] 26) := ⟨_, rfl⟩
  obtain ⟨b0, k0, k1⟩ := boxes2 w W hW
  have hz : W.heap.size = w.heap.size + 2 := by rw [hW]; simp
  have HZ := Lib.hid hz
  have B0 := Lib.hid b0
  have HI := Lib.hid (disk_in (h.keep b0)).1
  have HI' := Lib.hid (disk_in (h'.keep b0)).1
  have HL := Lib.hid (disk_len h).1
  have HL' := Lib.hid (disk_len h').1
  have hnm := (disk_len h).2
  have hnm' := (disk_len h').2
  unfold maxLen at hnm hnm'
  have FF : Hid (∀ v, Kept W.heap.size W v → v.cell? ⟨w.heap.size, 0, none⟩ = some (.slice a n c) ∧ v.cell? ⟨w.heap.size, 1, none⟩ = some (.int .i64 X.fNextName) ∧ v.cell? ⟨w.heap.size + 1, 0, none⟩ = some (.slice a' n' c') ∧ v.cell? ⟨w.heap.size + 1, 1, none⟩ = some (.int .i64 Y.fNextName)) := Lib.hid fun v hv =>
    ⟨hv.cell (by omega) (box_cell k0 0 _ rfl), hv.cell (by omega) (box_cell k0 1 _ rfl), hv.cell (by omega) (box_cell k1 0 _ rfl), hv.cell (by omega) (box_cell k1 1 _ rfl)⟩
  obtain ⟨p0, p1, q0, q1⟩ := FF.out W (Kept.refl (Nat.le_refl _))
  obtain ⟨nx, hnx⟩ : ∃ nx, nx = X.fNextName := ⟨_, rfl⟩
  obtain ⟨ny, hny⟩ : ∃ ny, ny = Y.fNextName := ⟨_, rfl⟩
  rw [← hnx] at p1 FF hW ⊢
  rw [← hny] at q1 FF hW ⊢
  have HX := Lib.hid hnx
  have HY := Lib.hid hny
  clear h h' b0 k0 k1 hz hnx hny
  go_enter Tryz.func18, Tryz.ntmps18
  go_upto_region 1 with fail
  rw [← hW]
  clear hW
  by_cases hne : nx = ny
  case' neg =>
    have HN := Lib.hid (show decide (X = Y) = false from decide_eq_false fun e => hne (by rw [HX.out, HY.out, e]))
    have hne2 : (nx != ny) = true := by simpa using hne
    go_wp2_with fail
    go_ret
    exact ⟨by rw [HN.out]; rfl, B0.out⟩
  subst hne
  by_cases hnn : n = n'
  case' neg =>
    have HN := Lib.hid (show decide (X = Y) = false from decide_eq_false fun e => hnn (by rw [← HL.out, ← HL'.out, e]))
    have hne2 : ¬ (n : Int) = (n' : Int) := by omega
    go_wp2_with fail
    go_ret
    exact ⟨by rw [HN.out]; rfl, B0.out⟩
  subst hnn
  go_wp2_with fail
  clear p0 p1 q0 q1
  go_loopw [5] (fun i wr => ∃ (t : Nat), i = .int .i64 t ∧ t ≤ n ∧ Hid (∀ s, s < t → X.fFiles[s]? = Y.fFiles[s]?) ∧ Hid (Kept W.heap.size W wr)) (fun i _ => n - (intOf i).toNat)
  case atStart => exact ⟨0, rfl, Nat.zero_le _, fun s hs => absurd hs (Nat.not_lt_zero _), Kept.refl (Nat.le_refl _)⟩
  case round =>
    obtain ⟨t, rfl, ht, hsm, hk⟩ := hrel
    obtain ⟨p0, p1, q0, q1⟩ := FF.out wr hk.out
    by_cases hlt : t < n
    · have htl : t < X.fFiles.length := by have := HL.out; omega
      have htl' : t < Y.fFiles.length := by have := HL'.out; omega
      obtain ⟨f, hf⟩ : ∃ f, X.fFiles[t]? = some f := ⟨X.fFiles[t], by simp [htl]⟩
      obtain ⟨f', hf'⟩ : ∃ f, Y.fFiles[t]? = some f := ⟨Y.fFiles[t], by simp [htl']⟩
      obtain ⟨b, o, hd, rfl, hbl, hce, hin⟩ := HI.out.el hf
      obtain ⟨b', o', hd', rfl, hbl', hce', hin'⟩ := HI'.out.el hf'
      have HF := Lib.hid hf
      have HF' := Lib.hid hf'
      obtain ⟨x0, x1, x2, x3⟩ := f
      obtain ⟨y0, y1, y2, y3⟩ := f'
      obtain ⟨⟨a1, n1, k1⟩, ⟨⟩⟩ := hd
      obtain ⟨⟨a2, n2, k2⟩, ⟨⟩⟩ := hd'
      have IN := Lib.hid hin.2.1.1
      have IN' := Lib.hid hin'.2.1.1
      have CF : Hid (∀ v, Kept W.heap.size W v → (v.cell? ⟨b, o + t * 4, none⟩ = some (.int .i64 x0) ∧ v.cell? ⟨b, o + t * 4 + 1, none⟩ = some (.slice a1 n1 k1) ∧ v.cell? ⟨b, o + t * 4 + 2, none⟩ = some (.int .i64 x2) ∧ v.cell? ⟨b, o + t * 4 + 3, none⟩ = some (.bool x3)) ∧
          (v.cell? ⟨b', o' + t * 4, none⟩ = some (.int .i64 y0) ∧ v.cell? ⟨b', o' + t * 4 + 1, none⟩ = some (.slice a2 n2 k2) ∧ v.cell? ⟨b', o' + t * 4 + 2, none⟩ = some (.int .i64 y2) ∧ v.cell? ⟨b', o' + t * 4 + 3, none⟩ = some (.bool y3))) := Lib.hid fun v hv =>
        ⟨⟨hv.cell hbl (hce 0 _ rfl), hv.cell hbl (hce 1 _ rfl), hv.cell hbl (hce 2 _ rfl), hv.cell hbl (hce 3 _ rfl)⟩, ⟨hv.cell hbl' (hce' 0 _ rfl), hv.cell hbl' (hce' 1 _ rfl), hv.cell hbl' (hce' 2 _ rfl), hv.cell hbl' (hce' 3 _ rfl)⟩⟩
      obtain ⟨⟨c0, c1, c2, c3⟩, -⟩ := CF.out _ hk.out
      clear hce hce' hin hin' hf hf' q0 q1
      obtain ⟨w1, hw1⟩ : ∃ u, u = wr.alloc (.cells #[.int .i64 x0, .slice a1 n1 k1, .int .i64 x2, .bool x3] 58) := ⟨_, rfl⟩
      obtain ⟨w2, hw2⟩ : ∃ u, u = w1.alloc (.cells #[.int .i64 y0, .slice a2 n2 k2, .int .i64 y2, .bool y3] 58) := ⟨_, rfl⟩
      obtain ⟨xg, hxg⟩ : ∃ g, g = wr.heap.size := ⟨_, rfl⟩
      obtain ⟨yg, hyg⟩ : ∃ g, g = w1.heap.size := ⟨_, rfl⟩
      have b1 : Below wr.heap.size wr w1 := by rw [hw1]; exact (Below.refl _ _).alloc (Nat.le_refl _) _
      have b2 : Below w1.heap.size w1 w2 := by rw [hw2]; exact (Below.refl _ _).alloc (Nat.le_refl _) _
      have g1 : w1.heap[xg]? = some (.cells #[.int .i64 x0, .slice a1 n1 k1, .int .i64 x2, .bool x3] 58 (0, 0)) := by rw [hw1, hxg]; exact heap_alloc_new _ _
      have X2 := Lib.hid ((b2.block _ (lt_of_block g1)).trans g1)
      have Y2 : Hid (w2.heap[yg]? = some (.cells #[.int .i64 y0, .slice a2 n2 k2, .int .i64 y2, .bool y3] 58 (0, 0))) := Lib.hid (by rw [hw2, hyg]; exact heap_alloc_new _ _)
      have KK1 := Lib.hid (hk.out.below b1)
      have KK2 := Lib.hid (KK1.out.below b2)
      have hne12 : (wr.alloc (.cells #[.int .i64 x0, .slice a1 n1 k1, .int .i64 x2, .bool x3] 58)).heap.size = wr.heap.size + 1 := by simp
      have hyg2 : yg = xg + 1 := by rw [hyg, hw1, hxg]; exact hne12
      clear b1 b2 g1 hne12
      go_upto_region 7 with fail
      rw [← hxg, ← hw1]
      clear hw1 hxg c0 c1 c2 c3 p0 p1
      obtain ⟨p0, p1, q0, q1⟩ := FF.out _ KK1.out
      obtain ⟨-, ⟨d0, d1, d2, d3⟩⟩ := CF.out _ KK1.out
      go_upto_region 8 with fail
      rw [← hyg, ← hw2]
      clear hw2 hyg hyg2 d0 d1 d2 d3 p0 p1 q0 q1
      have e0 := box_cell X2.out 0 _ rfl
      have e1 := box_cell X2.out 1 _ rfl
      have e2 := box_cell X2.out 2 _ rfl
      have e3 := box_cell X2.out 3 _ rfl
      have g0 := box_cell Y2.out 0 _ rfl
      have g1 := box_cell Y2.out 1 _ rfl
      have g2 := box_cell Y2.out 2 _ rfl
      have g3 := box_cell Y2.out 3 _ rfl
      have KB := Lib.hid (B0.out.trans (KK2.out.1.mono B0.out.size))
      by_cases he0 : x0 = y0
      case' neg =>
        have HN := Lib.hid (disk_ne HF.out HF'.out (fun e => he0 (congrArg FileD.fName e)))
        have hh : (x0 != y0) = true := by simpa using he0
        go_wp2_with fail
        go_ret
        exact ⟨by rw [HN.out]; rfl, KB.out⟩
      subst he0
      by_cases he2 : x2 = y2
      case' neg =>
        have HN := Lib.hid (disk_ne HF.out HF'.out (fun e => he2 (congrArg FileD.fChecksum e)))
        have hh : (x2 != y2) = true := by simpa using he2
        go_wp2_with fail
        go_ret
        exact ⟨by rw [HN.out]; rfl, KB.out⟩
      subst he2
      by_cases he3 : x3 = y3
      case' neg =>
        have HN := Lib.hid (disk_ne HF.out HF'.out (fun e => he3 (congrArg FileD.fSealed e)))
        have hh : (x3 != y3) = true := by simpa using he3
        go_wp2_with fail
        go_ret
        exact ⟨by rw [HN.out]; rfl, KB.out⟩
      subst he3
      by_cases hnn : n1 = n2
      case' neg =>
        have HN := Lib.hid (disk_ne HF.out HF'.out (fun e => hnn (by have h1 := IN.out.1; have h2 := IN'.out.1; have h3 := congrArg FileD.fPages e; simp only at h1 h2 h3; rw [← h1, ← h2, h3])))
        have hh : ¬ (n1 : Int) = (n2 : Int) := by omega
        go_wp2_with fail
        go_ret
        exact ⟨by rw [HN.out]; rfl, KB.out⟩
      subst hnn
      go_wp2_with fail
      clear e0 e1 e2 e3 g0 g1 g2 g3
      have hn1m := IN.out.2.1
      unfold maxLen at hn1m
      go_loopw [8] (fun i wr => ∃ (k : Nat), i = .int .i64 k ∧ k ≤ n1 ∧ Hid (∀ s, s < k → x1[s]? = y1[s]?) ∧ Hid (Kept w2.heap.size w2 wr)) (fun i _ => n1 - (intOf i).toNat)
      case atStart => exact ⟨0, rfl, Nat.zero_le _, fun s hs => absurd hs (Nat.not_lt_zero _), Kept.refl (Nat.le_refl _)⟩
      case round =>
        obtain ⟨k, rfl, hk1, hsp, hkq⟩ := hrel
        have XX : Hid (∀ v, Kept w2.heap.size w2 v → v.cell? ⟨xg, 1, none⟩ = some (.slice a1 n1 k1) ∧ v.cell? ⟨yg, 1, none⟩ = some (.slice a2 n1 k2)) := Lib.hid fun v hv => ⟨hv.cell (lt_of_block X2.out) (box_cell X2.out 1 _ rfl), hv.cell (lt_of_block Y2.out) (box_cell Y2.out 1 _ rfl)⟩
        obtain ⟨e1, g1⟩ := XX.out _ hkq.out
        by_cases hklt : k < n1
        · have hkl : k < x1.length := by have := IN.out.1; omega
          have hkl' : k < y1.length := by have := IN'.out.1; omega
          obtain ⟨p, hp⟩ : ∃ p, x1[k]? = some p := ⟨x1[k], by simp [hkl]⟩
          obtain ⟨p', hp'⟩ : ∃ p, y1[k]? = some p := ⟨y1[k], by simp [hkl']⟩
          obtain ⟨b1, o1, d, m, q, rfl, hb1, hcp, hpin, -⟩ := (show SeqIn pageRep W a1 n1 x1 from IN.out).at hp
          obtain ⟨b2, o2, d', m', q', rfl, hb2, hcp', hpin', -⟩ := (show SeqIn pageRep W a2 n1 y1 from IN'.out).at hp'
          have HP := Lib.hid hp
          have HP' := Lib.hid hp'
          have PIN := Lib.hid hpin
          have PIN' := Lib.hid hpin'
          have KT : Hid (∀ v, Kept w2.heap.size w2 v → Kept W.heap.size W v) := Lib.hid fun v hv => KK2.out.trans (hv.mono KK2.out.2)
          have CC : Hid (∀ v, Kept w2.heap.size w2 v → v.cell? ⟨b1, o1 + k, none⟩ = some (.slice d m q) ∧ v.cell? ⟨b2, o2 + k, none⟩ = some (.slice d' m' q')) := Lib.hid fun v hv => ⟨(KT.out v hv).cell hb1 hcp, (KT.out v hv).cell hb2 hcp'⟩
          have CS : Hid (∀ v, Kept w2.heap.size w2 v → Calls Tryz.prog 47 #[.slice d m q, .slice d' m' q'] v fun e v' => e = .returned (.bool (decide (p = p'))) ∧ Kept w2.heap.size w2 v') := Lib.hid fun v hv =>
            (seqrows d d' m q m' q' p p' v ((rows_in PIN.out).keep (KT.out v hv).1) ((rows_in PIN'.out).keep (KT.out v hv).1) (by have := PIN.out.2.1; unfold maxLen at this; omega) (by have := PIN'.out.2.1; unfold maxLen at this; omega)).mono fun e v' ⟨he, hb⟩ => ⟨he, hv.below hb⟩
          clear hp hp' hcp hcp' hpin hpin'
          by_cases hpp : p = p'
          · rw [decide_eq_true hpp] at CS
            have HPP := Lib.hid hpp
            clear hpp
            go_wp2_with fail
            clear e1 g1
            refine region_plan (Kept w2.heap.size w2) (Pl.of [.q 0, .q 1, .q 2, .q 3, .q 4, .q 5, .q 6, .q 7, .q 8, .q 9, .q 10, .q 11, .m 12, .q 13]) [] (by kernel_rfl) (by kernel_rfl) hkq.out.drew (fun hHeld => ?_)
            first | (refine pi_take (v := ?pv1_0) rfl (fun _ _ _ h => h) (by rfl) (fun v hv => ?pr1_0) ?rest1_0; case pr1_0 => (obtain ⟨u0, u1⟩ := XX.out v hv; obtain ⟨u2, u3⟩ := CC.out v hv; go_simp; first | done | with_reducible rfl)) | (refine pi_pass rfl (fun _ _ _ h => h) (by rfl) ?_)
            try simp only [Act.put, List.setIfInBounds_toArray, List.set_cons_zero, List.set_cons_succ]
            first | (refine pi_take (v := ?pv1_1) rfl (fun _ _ _ h => h) (by rfl) (fun v hv => ?pr1_1) ?rest1_1; case pr1_1 => (obtain ⟨u0, u1⟩ := XX.out v hv; obtain ⟨u2, u3⟩ := CC.out v hv; go_simp; first | done | with_reducible rfl)) | (refine pi_pass rfl (fun _ _ _ h => h) (by rfl) ?_)
            try simp only [Act.put, List.setIfInBounds_toArray, List.set_cons_zero, List.set_cons_succ]
            first | (refine pi_take (v := ?pv1_2) rfl (fun _ _ _ h => h) (by rfl) (fun v hv => ?pr1_2) ?rest1_2; case pr1_2 => (obtain ⟨u0, u1⟩ := XX.out v hv; obtain ⟨u2, u3⟩ := CC.out v hv; go_simp; first | done | with_reducible rfl)) | (refine pi_pass rfl (fun _ _ _ h => h) (by rfl) ?_)
            try simp only [Act.put, List.setIfInBounds_toArray, List.set_cons_zero, List.set_cons_succ]
            first | (refine pi_take (v := ?pv1_3) rfl (fun _ _ _ h => h) (by rfl) (fun v hv => ?pr1_3) ?rest1_3; case pr1_3 => (obtain ⟨u0, u1⟩ := XX.out v hv; obtain ⟨u2, u3⟩ := CC.out v hv; go_simp; first | done | with_reducible rfl)) | (refine pi_pass rfl (fun _ _ _ h => h) (by rfl) ?_)
            try simp only [Act.put, List.setIfInBounds_toArray, List.set_cons_zero, List.set_cons_succ]
            first | (refine pi_take (v := ?pv1_4) rfl (fun _ _ _ h => h) (by rfl) (fun v hv => ?pr1_4) ?rest1_4; case pr1_4 => (obtain ⟨u0, u1⟩ := XX.out v hv; obtain ⟨u2, u3⟩ := CC.out v hv; go_simp; first | done | with_reducible rfl)) | (refine pi_pass rfl (fun _ _ _ h => h) (by rfl) ?_)
            try simp only [Act.put, List.setIfInBounds_toArray, List.set_cons_zero, List.set_cons_succ]
            first | (refine pi_take (v := ?pv1_5) rfl (fun _ _ _ h => h) (by rfl) (fun v hv => ?pr1_5) ?rest1_5; case pr1_5 => (obtain ⟨u0, u1⟩ := XX.out v hv; obtain ⟨u2, u3⟩ := CC.out v hv; go_simp; first | done | with_reducible rfl)) | (refine pi_pass rfl (fun _ _ _ h => h) (by rfl) ?_)
            try simp only [Act.put, List.setIfInBounds_toArray, List.set_cons_zero, List.set_cons_succ]
            first | (refine pi_take (v := ?pv1_6) rfl (fun _ _ _ h => h) (by rfl) (fun v hv => ?pr1_6) ?rest1_6; case pr1_6 => (obtain ⟨u0, u1⟩ := XX.out v hv; obtain ⟨u2, u3⟩ := CC.out v hv; go_simp; first | done | with_reducible rfl)) | (refine pi_pass rfl (fun _ _ _ h => h) (by rfl) ?_)
            try simp only [Act.put, List.setIfInBounds_toArray, List.set_cons_zero, List.set_cons_succ]
            first | (refine pi_take (v := ?pv1_7) rfl (fun _ _ _ h => h) (by rfl) (fun v hv => ?pr1_7) ?rest1_7; case pr1_7 => (obtain ⟨u0, u1⟩ := XX.out v hv; obtain ⟨u2, u3⟩ := CC.out v hv; go_simp; first | done | with_reducible rfl)) | (refine pi_pass rfl (fun _ _ _ h => h) (by rfl) ?_)
            try simp only [Act.put, List.setIfInBounds_toArray, List.set_cons_zero, List.set_cons_succ]
            first | (refine pi_take (v := ?pv1_8) rfl (fun _ _ _ h => h) (by rfl) (fun v hv => ?pr1_8) ?rest1_8; case pr1_8 => (obtain ⟨u0, u1⟩ := XX.out v hv; obtain ⟨u2, u3⟩ := CC.out v hv; go_simp; first | done | with_reducible rfl)) | (refine pi_pass rfl (fun _ _ _ h => h) (by rfl) ?_)
            try simp only [Act.put, List.setIfInBounds_toArray, List.set_cons_zero, List.set_cons_succ]
            first | (refine pi_take (v := ?pv1_9) rfl (fun _ _ _ h => h) (by rfl) (fun v hv => ?pr1_9) ?rest1_9; case pr1_9 => (obtain ⟨u0, u1⟩ := XX.out v hv; obtain ⟨u2, u3⟩ := CC.out v hv; go_simp; first | done | with_reducible rfl)) | (refine pi_pass rfl (fun _ _ _ h => h) (by rfl) ?_)
            try simp only [Act.put, List.setIfInBounds_toArray, List.set_cons_zero, List.set_cons_succ]
            first | (refine pi_take (v := ?pv1_10) rfl (fun _ _ _ h => h) (by rfl) (fun v hv => ?pr1_10) ?rest1_10; case pr1_10 => (obtain ⟨u0, u1⟩ := XX.out v hv; obtain ⟨u2, u3⟩ := CC.out v hv; go_simp; first | done | with_reducible rfl)) | (refine pi_pass rfl (fun _ _ _ h => h) (by rfl) ?_)
            try simp only [Act.put, List.setIfInBounds_toArray, List.set_cons_zero, List.set_cons_succ]
            first | (refine pi_take (v := ?pv1_11) rfl (fun _ _ _ h => h) (by rfl) (fun v hv => ?pr1_11) ?rest1_11; case pr1_11 => (obtain ⟨u0, u1⟩ := XX.out v hv; obtain ⟨u2, u3⟩ := CC.out v hv; go_simp; first | done | with_reducible rfl)) | (refine pi_pass rfl (fun _ _ _ h => h) (by rfl) ?_)
            try simp only [Act.put, List.setIfInBounds_toArray, List.set_cons_zero, List.set_cons_succ]
            refine pi_step rfl (fun K hK => ?_)
            first | ((go_at_call 47; refine (CS.out _ hHeld).mono ?_; rintro e v9 ⟨rfl, hv9⟩)) | (go_simp; (go_at_call 47; refine (CS.out _ hHeld).mono ?_; rintro e v9 ⟨rfl, hv9⟩))
            refine hK.out _ _ (by exact hv9) (fun hHeld2 => ?_)
            clear hK K hHeld
            have hHeld := hHeld2
            clear hHeld2
            try simp only [Act.put, List.setIfInBounds_toArray, List.set_cons_zero, List.set_cons_succ]
            first | (refine pi_take (v := ?pv1_13) rfl (fun _ _ _ h => h) (by rfl) (fun v hv => ?pr1_13) ?rest1_13; case pr1_13 => (obtain ⟨u0, u1⟩ := XX.out v hv; obtain ⟨u2, u3⟩ := CC.out v hv; go_simp; first | done | with_reducible rfl)) | (refine pi_pass rfl (fun _ _ _ h => h) (by rfl) ?_)
            try simp only [Act.put, List.setIfInBounds_toArray, List.set_cons_zero, List.set_cons_succ]
            refine pi_end ?_
            refine z_end ?_
            clear hHeld
            have HV9 := Lib.hid hv9
            clear hv9
            go_wp2_with fail
            go_roundw
            case rel =>
              refine ⟨k + 1, by go_num, by omega, fun s hs => ?_, HV9⟩
              rcases Nat.lt_or_ge s k with h1 | h1
              · exact hsp.out s h1
              · obtain rfl : s = k := by omega
                rw [HP.out, HP'.out, HPP.out]
            case measure => simp [intOf]; omega
          · rw [decide_eq_false hpp] at CS
            have HN := Lib.hid (disk_ne HF.out HF'.out (fun e => hpp (by
              have h1 := congrArg FileD.fPages e
              simp only at h1
              have h2 := HP.out
              rw [h1, HP'.out] at h2
              exact (Option.some.inj h2).symm)))
            clear hpp
            go_wp2_with fail
            clear e1 g1
            refine region_plan (Kept w2.heap.size w2) (Pl.of [.q 0, .q 1, .q 2, .q 3, .q 4, .q 5, .q 6, .q 7, .q 8, .q 9, .q 10, .q 11, .m 12, .q 13]) [] (by kernel_rfl) (by kernel_rfl) hkq.out.drew (fun hHeld => ?_)
            first | (refine pi_take (v := ?pv2_0) rfl (fun _ _ _ h => h) (by rfl) (fun v hv => ?pr2_0) ?rest2_0; case pr2_0 => (obtain ⟨u0, u1⟩ := XX.out v hv; obtain ⟨u2, u3⟩ := CC.out v hv; go_simp; first | done | with_reducible rfl)) | (refine pi_pass rfl (fun _ _ _ h => h) (by rfl) ?_)
            try simp only [Act.put, List.setIfInBounds_toArray, List.set_cons_zero, List.set_cons_succ]
            first | (refine pi_take (v := ?pv2_1) rfl (fun _ _ _ h => h) (by rfl) (fun v hv => ?pr2_1) ?rest2_1; case pr2_1 => (obtain ⟨u0, u1⟩ := XX.out v hv; obtain ⟨u2, u3⟩ := CC.out v hv; go_simp; first | done | with_reducible rfl)) | (refine pi_pass rfl (fun _ _ _ h => h) (by rfl) ?_)
            try simp only [Act.put, List.setIfInBounds_toArray, List.set_cons_zero, List.set_cons_succ]
            first | (refine pi_take (v := ?pv2_2) rfl (fun _ _ _ h => h) (by rfl) (fun v hv => ?pr2_2) ?rest2_2; case pr2_2 => (obtain ⟨u0, u1⟩ := XX.out v hv; obtain ⟨u2, u3⟩ := CC.out v hv; go_simp; first | done | with_reducible rfl)) | (refine pi_pass rfl (fun _ _ _ h => h) (by rfl) ?_)
            try simp only [Act.put, List.setIfInBounds_toArray, List.set_cons_zero, List.set_cons_succ]
            first | (refine pi_take (v := ?pv2_3) rfl (fun _ _ _ h => h) (by rfl) (fun v hv => ?pr2_3) ?rest2_3; case pr2_3 => (obtain ⟨u0, u1⟩ := XX.out v hv; obtain ⟨u2, u3⟩ := CC.out v hv; go_simp; first | done | with_reducible rfl)) | (refine pi_pass rfl (fun _ _ _ h => h) (by rfl) ?_)
            try simp only [Act.put, List.setIfInBounds_toArray, List.set_cons_zero, List.set_cons_succ]
            first | (refine pi_take (v := ?pv2_4) rfl (fun _ _ _ h => h) (by rfl) (fun v hv => ?pr2_4) ?rest2_4; case pr2_4 => (obtain ⟨u0, u1⟩ := XX.out v hv; obtain ⟨u2, u3⟩ := CC.out v hv; go_simp; first | done | with_reducible rfl)) | (refine pi_pass rfl (fun _ _ _ h => h) (by rfl) ?_)
            try simp only [Act.put, List.setIfInBounds_toArray, List.set_cons_zero, List.set_cons_succ]
            first | (refine pi_take (v := ?pv2_5) rfl (fun _ _ _ h => h) (by rfl) (fun v hv => ?pr2_5) ?rest2_5; case pr2_5 => (obtain ⟨u0, u1⟩ := XX.out v hv; obtain ⟨u2, u3⟩ := CC.out v hv; go_simp; first | done | with_reducible rfl)) | (refine pi_pass rfl (fun _ _ _ h => h) (by rfl) ?_)
            try simp only [Act.put, List.setIfInBounds_toArray, List.set_cons_zero, List.set_cons_succ]
            first | (refine pi_take (v := ?pv2_6) rfl (fun _ _ _ h => h) (by rfl) (fun v hv => ?pr2_6) ?rest2_6; case pr2_6 => (obtain ⟨u0, u1⟩ := XX.out v hv; obtain ⟨u2, u3⟩ := CC.out v hv; go_simp; first | done | with_reducible rfl)) | (refine pi_pass rfl (fun _ _ _ h => h) (by rfl) ?_)
            try simp only [Act.put, List.setIfInBounds_toArray, List.set_cons_zero, List.set_cons_succ]
            first | (refine pi_take (v := ?pv2_7) rfl (fun _ _ _ h => h) (by rfl) (fun v hv => ?pr2_7) ?rest2_7; case pr2_7 => (obtain ⟨u0, u1⟩ := XX.out v hv; obtain ⟨u2, u3⟩ := CC.out v hv; go_simp; first | done | with_reducible rfl)) | (refine pi_pass rfl (fun _ _ _ h => h) (by rfl) ?_)
            try simp only [Act.put, List.setIfInBounds_toArray, List.set_cons_zero, List.set_cons_succ]
            first | (refine pi_take (v := ?pv2_8) rfl (fun _ _ _ h => h) (by rfl) (fun v hv => ?pr2_8) ?rest2_8; case pr2_8 => (obtain ⟨u0, u1⟩ := XX.out v hv; obtain ⟨u2, u3⟩ := CC.out v hv; go_simp; first | done | with_reducible rfl)) | (refine pi_pass rfl (fun _ _ _ h => h) (by rfl) ?_)
            try simp only [Act.put, List.setIfInBounds_toArray, List.set_cons_zero, List.set_cons_succ]
            first | (refine pi_take (v := ?pv2_9) rfl (fun _ _ _ h => h) (by rfl) (fun v hv => ?pr2_9) ?rest2_9; case pr2_9 => (obtain ⟨u0, u1⟩ := XX.out v hv; obtain ⟨u2, u3⟩ := CC.out v hv; go_simp; first | done | with_reducible rfl)) | (refine pi_pass rfl (fun _ _ _ h => h) (by rfl) ?_)
            try simp only [Act.put, List.setIfInBounds_toArray, List.set_cons_zero, List.set_cons_succ]
            first | (refine pi_take (v := ?pv2_10) rfl (fun _ _ _ h => h) (by rfl) (fun v hv => ?pr2_10) ?rest2_10; case pr2_10 => (obtain ⟨u0, u1⟩ := XX.out v hv; obtain ⟨u2, u3⟩ := CC.out v hv; go_simp; first | done | with_reducible rfl)) | (refine pi_pass rfl (fun _ _ _ h => h) (by rfl) ?_)
            try simp only [Act.put, List.setIfInBounds_toArray, List.set_cons_zero, List.set_cons_succ]
            first | (refine pi_take (v := ?pv2_11) rfl (fun _ _ _ h => h) (by rfl) (fun v hv => ?pr2_11) ?rest2_11; case pr2_11 => (obtain ⟨u0, u1⟩ := XX.out v hv; obtain ⟨u2, u3⟩ := CC.out v hv; go_simp; first | done | with_reducible rfl)) | (refine pi_pass rfl (fun _ _ _ h => h) (by rfl) ?_)
            try simp only [Act.put, List.setIfInBounds_toArray, List.set_cons_zero, List.set_cons_succ]
            refine pi_step rfl (fun K hK => ?_)
            first | ((go_at_call 47; refine (CS.out _ hHeld).mono ?_; rintro e v9 ⟨rfl, hv9⟩)) | (go_simp; (go_at_call 47; refine (CS.out _ hHeld).mono ?_; rintro e v9 ⟨rfl, hv9⟩))
            refine hK.out _ _ (by exact hv9) (fun hHeld2 => ?_)
            clear hK K hHeld
            have hHeld := hHeld2
            clear hHeld2
            try simp only [Act.put, List.setIfInBounds_toArray, List.set_cons_zero, List.set_cons_succ]
            first | (refine pi_take (v := ?pv2_13) rfl (fun _ _ _ h => h) (by rfl) (fun v hv => ?pr2_13) ?rest2_13; case pr2_13 => (obtain ⟨u0, u1⟩ := XX.out v hv; obtain ⟨u2, u3⟩ := CC.out v hv; go_simp; first | done | with_reducible rfl)) | (refine pi_pass rfl (fun _ _ _ h => h) (by rfl) ?_)
            try simp only [Act.put, List.setIfInBounds_toArray, List.set_cons_zero, List.set_cons_succ]
            refine pi_end ?_
            refine z_end ?_
            clear hHeld
            have HV9 := Lib.hid (B0.out.trans ((KT.out _ hv9).1.mono B0.out.size))
            clear hv9
            go_wp2_with fail
            go_ret
            exact ⟨by rw [HN.out]; rfl, HV9.out⟩
        · have hkn : k = n1 := by omega
          have HXY : Hid (x1 = y1) := Lib.hid (List.ext_getElem? fun s => by
            rcases Nat.lt_or_ge s n1 with h1 | h1
            · exact hsp.out s (by omega)
            · have h2 := IN.out.1
              have h3 := IN'.out.1
              rw [List.getElem?_eq_none (by omega), List.getElem?_eq_none (by omega)])
          have HKK := Lib.hid (KK2.out.trans (hkq.out.mono KK2.out.2))
          clear hkn
          go_wp2_with fail
          go_roundw
          case rel =>
            refine ⟨t + 1, by go_num, by omega, fun s hs => ?_, HKK⟩
            rcases Nat.lt_or_ge s t with h1 | h1
            · exact hsm.out s h1
            · obtain rfl : s = t := by omega
              rw [HF.out, HF'.out, HXY.out]
          case measure => simp [intOf]; omega
    · have HN := Lib.hid (show decide (X = Y) = true from decide_eq_true (by
        have e1 : X.fFiles = Y.fFiles := List.ext_getElem? fun s => by
          rcases Nat.lt_or_ge s n with h1 | h1
          · exact hsm.out s (by omega)
          · rw [List.getElem?_eq_none (by have := HL.out; omega), List.getElem?_eq_none (by have := HL'.out; omega)]
        have e2 : X.fNextName = Y.fNextName := by rw [← HX.out, ← HY.out]
        cases X
        cases Y
        simp only at e1 e2
        rw [e1, e2]))
      have KB := Lib.hid (B0.out.trans (hk.out.1.mono B0.out.size))
      go_wp2_with fail
      go_ret
      exact ⟨by rw [HN.out]; rfl, KB.out⟩
end Go.Proofs.YtjdjceohlcimaaaGreatDoor
/- The library's slices.Equal at rows, by contract. -/
namespace Go.Proofs.YtjdjceohlcimaaaGreatDoor
open Go.RowKit
set_option linter.unusedVariables false
set_option maxRecDepth 100000 in
theorem ieqrows (a a' : Option Addr) (len cap len' cap' : Nat) (L M : List R) (w : World) (h : IsRows w a len L) (h' : IsRows w a' len' M) (hlen : len ≤ 9223372036854775807) (hlen' : len' ≤ 9223372036854775807) :
    Calls Tryz.prog 81 #[.slice a len cap, .slice a' len' cap'] w fun e w' => e = .returned (.bool (decide (L = M))) ∧ Below w.heap.size w w' := by
  have HL := Lib.hid h.1
  have HM := Lib.hid h'.1
  have HI := Lib.hid h
  have HI' := Lib.hid h'
  clear h h'
  by_cases hne : len = len'
  · subst hne
    go_enter Tryz.func81, Tryz.ntmps81
    go_wp2_with fail
    go_loopw [13] (fun i wr => ∃ k : Nat, i = .int .i64 k ∧ k ≤ len ∧ Hid (∀ s, s < k → L.getD s R.zero = M.getD s R.zero) ∧ Hid (Below w.heap.size w wr)) (fun i _ => len - (intOf i).toNat)
    case atStart => exact ⟨0, rfl, Nat.zero_le _, fun s hs => absurd hs (Nat.not_lt_zero _), Below.refl _ _⟩
    case round =>
      obtain ⟨k, rfl, hk, hsm, hb⟩ := hrel
      by_cases hlt : k < len
      · obtain ⟨b, o, rfl, hbl, hat⟩ := HI.out.at hlt
        obtain ⟨b', o', rfl, hbl', hat'⟩ := HI'.out.at hlt
        obtain ⟨r, hr⟩ : ∃ r, r = L.getD k R.zero := ⟨_, rfl⟩
        obtain ⟨r', hr'⟩ : ∃ r, r = M.getD k R.zero := ⟨_, rfl⟩
        rw [← hr] at hat
        rw [← hr'] at hat'
        obtain ⟨c0, c1, c2⟩ := hat.below hb.out hbl
        obtain ⟨d0, d1, d2⟩ := hat'.below hb.out hbl'
        have HR := Lib.hid hr
        have HR' := Lib.hid hr'
        clear hr hr' hat hat'
        have hq : ∀ v, (binOp .neq 72 (.agg #[.int .i64 r.key, .int .i64 r.value, .int .i64 r.width]) (.agg #[.int .i64 r'.key, .int .i64 r'.value, .int .i64 r'.width])).run Tryz.prog v = .ok (.bool (!decide (r = r'))) v := fun v => row_neq r r' v
        by_cases he : r = r'
        · have hd : decide (r = r') = true := decide_eq_true he
          have HE := Lib.hid he
          clear he
          go_wp2_with fail
          go_still_tail 8, (by kernel_rfl)
          go_wp2_with fail
          go_roundw
          case rel =>
            refine ⟨k + 1, by go_num, by omega, fun s hs => ?_, hb.out.drew⟩
            rcases Nat.lt_or_ge s k with h1 | h1
            · exact hsm.out s h1
            · obtain rfl : s = k := by omega
              rw [← HR.out, ← HR'.out]; exact HE.out
          case measure => simp [intOf]; omega
        · have hd : decide (r = r') = false := decide_eq_false he
          have HN := Lib.hid (show decide (L = M) = false from decide_eq_false fun e => he (by rw [HR.out, HR'.out, e]))
          clear he
          go_wp2_with fail
          go_still_tail 8, (by kernel_rfl)
          go_wp2_with fail
          go_ret
          exact ⟨by rw [HN.out]; rfl, hb.out.drew⟩
      · have HN := Lib.hid (show decide (L = M) = true from decide_eq_true (getD_ext (by rw [HL.out, HM.out]) fun s hs => hsm.out s (by rw [HL.out] at hs; omega)))
        go_wp2_with fail
        go_ret
        exact ⟨by rw [HN.out]; rfl, hb.out⟩
  · have HN := Lib.hid (show decide (L = M) = false from decide_eq_false fun e => hne (by rw [← HL.out, ← HM.out, e]))
    have hne2 : ¬ (len : Int) = (len' : Int) := by omega
    go_enter Tryz.func81, Tryz.ntmps81
    go_wp2_with fail
    go_ret
    exact ⟨by rw [HN.out]; rfl, Below.refl _ _⟩
end Go.Proofs.YtjdjceohlcimaaaGreatDoor
/- The program's comparison of disks, by contract. -/
namespace Go.Proofs.YtjdjceohlcimaaaGreatDoor
open Go.RowKit
set_option linter.unusedVariables false
set_option maxRecDepth 100000 in
theorem seqin_len {α : Type} {r : Rep α} {w : World} {a : Option Addr} {n : Nat} {xs : List α} (h : SeqIn r w a n xs) : n ≤ 9223372036854775807 := by
  have := h.2.1
  unfold maxLen at this
  omega
set_option maxRecDepth 100000 in
theorem iequalpage (a : Option Addr) (n c : Nat) (p : List R) (a' : Option Addr) (n' c' : Nat) (p' : List R) (w : World) (h : SeqIn rowRep w a n p) (h' : SeqIn rowRep w a' n' p') :
    Calls Tryz.prog 69 #[.agg #[.slice a n c], .agg #[.slice a' n' c']] w fun e w' => e = .returned (.bool (decide (p = p'))) ∧ Below w.heap.size w w' := by
  obtain ⟨W, hW⟩ : ∃ W, W = (w.alloc (.cells #[.slice a n c] 29)).alloc (.cells #[.slice a' n' c'] 29) := ⟨_, rfl⟩
  obtain ⟨b0, k0, k1⟩ := boxes2 w W hW
  have B0 := Lib.hid b0
  have HI := Lib.hid (rows_in (h.keep b0))
  have HI' := Lib.hid (rows_in (h'.keep b0))
  have p0 := box_cell k0 0 _ rfl
  have p1 := box_cell k1 0 _ rfl
  have hn := seqin_len h
  have hn' := seqin_len h'
  clear h h' b0 k0 k1
  go_enter Tryz.func69, Tryz.ntmps69
  go_upto_region 1 with fail
  rw [← hW]
  clear hW
  go_wp2_with fail
  clear p0 p1
  refine (ieqrows a a' n c n' c' p p' W HI.out HI'.out hn hn').mono ?_
  rintro e w1 ⟨rfl, b1⟩
  have B1 := Lib.hid (B0.out.trans (b1.mono B0.out.size))
  clear b1
  go_wp2_with fail
  go_ret
  exact ⟨rfl, B1.out⟩
set_option maxRecDepth 100000 in
set_option maxHeartbeats 2000000 in
theorem ieqpages (a a' : Option Addr) (n c n' c' : Nat) (F F' : List (List R)) (w : World) (h : SeqIn pageRep w a n F) (h' : SeqIn pageRep w a' n' F') (hn : n ≤ 9223372036854775807) (hn' : n' ≤ 9223372036854775807) :
    Calls Tryz.prog 68 #[.slice a n c, .slice a' n' c', .func (.func 69) #[] #[]] w fun e w' => e = .returned (.bool (decide (F = F'))) ∧ Below w.heap.size w w' := by
  have HI := Lib.hid h
  have HI' := Lib.hid h'
  have HL := Lib.hid h.1
  have HL' := Lib.hid h'.1
  clear h h'
  by_cases hne : n = n'
  · subst hne
    go_enter Tryz.func68, Tryz.ntmps68
    go_wp2_with fail
    go_loopw [17] (fun i wr => ∃ (t : Nat), i = .int .i64 t ∧ t ≤ n ∧ Hid (∀ s, s < t → F[s]? = F'[s]?) ∧ Hid (Below w.heap.size w wr)) (fun i _ => n - (intOf i).toNat)
    case atStart => exact ⟨0, rfl, Nat.zero_le _, fun s hs => absurd hs (Nat.not_lt_zero _), Below.refl _ _⟩
    case round =>
      obtain ⟨t, rfl, ht, hsm, hwr⟩ := hrel
      by_cases hlt : t < n
      · have htl : t < F.length := by have := HL.out; omega
        have htl' : t < F'.length := by have := HL'.out; omega
        obtain ⟨f, hf⟩ : ∃ f, F[t]? = some f := ⟨F[t], by simp [htl]⟩
        obtain ⟨f', hf'⟩ : ∃ f, F'[t]? = some f := ⟨F'[t], by simp [htl']⟩
        have HF := Lib.hid hf
        have HF' := Lib.hid hf'
        obtain ⟨b, o, d, k, m, rfl, hbl, hce, hin, hcap⟩ := HI.out.at hf
        obtain ⟨b', o', d', k', m', rfl, hbl', hce', hin', hcap'⟩ := HI'.out.at hf'
        have d0 : wr.cell? ⟨b, o + t, none⟩ = some (.slice d k m) := (hwr.out.cell hbl).trans hce
        have d1 : wr.cell? ⟨b', o' + t, none⟩ = some (.slice d' k' m') := (hwr.out.cell hbl').trans hce'
        have e1 : (wr.alloc (.cells #[.slice d k m] 29)).cell? ⟨b', o' + t, none⟩ = some (.slice d' k' m') := Lib.cell?_alloc_some _ d1
        have IN := Lib.hid (show SeqIn rowRep w d k f from hin)
        have IN' := Lib.hid (show SeqIn rowRep w d' k' f' from hin')
        clear hce hce' hin hin' hcap hcap' 
        obtain ⟨v0, hv0⟩ : ∃ v, v = wr.heap.size := ⟨_, rfl⟩
        obtain ⟨w5, hw5⟩ : ∃ u, u = (wr.alloc (.cells #[.slice d k m] 29)).alloc (.cells #[.slice d' k' m'] 29) := ⟨_, rfl⟩
        obtain ⟨b5, k5, k6⟩ := boxes2 wr w5 hw5
        rw [← hv0] at k5 k6
        have K5 := Lib.hid k5
        have K6 := Lib.hid k6
        have B5 := Lib.hid (hwr.out.trans (b5.mono hwr.out.size))
        have hsz : wr.heap.size + 1 = v0 + 1 := by omega
        clear b5 k5 k6 hf hf'
        go_upto_region 7 with fail
        rw [← hw5, ← hv0]
        clear hw5 hv0 hsz d0 d1 e1
        have u0 := box_cell K5.out 0 _ rfl
        have u1 := box_cell K6.out 0 _ rfl
        go_wp2_with fail
        clear u0 u1
        refine (iequalpage d k m f d' k' m' f' w5 (IN.out.keep B5.out) (IN'.out.keep B5.out)).mono ?_
        rintro e w6 ⟨rfl, b6⟩
        have B6 := Lib.hid (B5.out.trans (b6.mono B5.out.size))
        clear b6
        cases hd : decide (f = f') with
        | true =>
          have HE := Lib.hid (of_decide_eq_true hd)
          clear hd
          go_wp2_with fail
          go_roundw
          case rel =>
            refine ⟨t + 1, by go_num, by omega, fun s hs => ?_, B6⟩
            rcases Nat.lt_or_ge s t with h1 | h1
            · exact hsm.out s h1
            · obtain rfl : s = t := by omega
              rw [HF.out, HF'.out, HE.out]
          case measure => simp [intOf]; omega
        | false =>
          have HN := Lib.hid (show decide (F = F') = false from decide_eq_false fun e => of_decide_eq_false hd (by
            have h1 := HF.out
            rw [e, HF'.out] at h1
            exact (Option.some.inj h1).symm))
          clear hd
          go_wp2_with fail
          go_ret
          exact ⟨by rw [HN.out]; rfl, B6.out⟩
      · have HN := Lib.hid (show decide (F = F') = true from decide_eq_true (List.ext_getElem? fun s => by
          rcases Nat.lt_or_ge s t with h1 | h1
          · exact hsm.out s h1
          · rw [List.getElem?_eq_none (by have := HL.out; omega), List.getElem?_eq_none (by have := HL'.out; omega)]))
        go_wp2_with fail
        go_ret
        exact ⟨by rw [HN.out]; rfl, hwr.out⟩
  · have HN := Lib.hid (show decide (F = F') = false from decide_eq_false fun e => hne (by rw [← HL.out, ← HL'.out, e]))
    go_enter Tryz.func68, Tryz.ntmps68
    have hne' : ((n : Int) != (n' : Int)) = true := by
      rw [bne_iff_ne]; omega
    go_wp2_with fail
    go_ret
    exact ⟨by rw [HN.out]; rfl, Below.refl _ _⟩
theorem file_eq_if (x0 : Int) (x1 : List (List R)) (x2 : Int) (x3 : Bool) (y0 : Int) (y1 : List (List R)) (y2 : Int) (y3 : Bool) : decide ((⟨x0, x1, x2, x3⟩ : FileD) = ⟨y0, y1, y2, y3⟩) = ((x0 == y0) && (x2 == y2) && (x3 == y3) && decide (x1 = y1)) := by
  by_cases h0 : x0 = y0
  · by_cases h2 : x2 = y2
    · by_cases h3 : x3 = y3
      · by_cases h1 : x1 = y1 <;> simp [h0, h1, h2, h3]
      · simp [h0, h2, h3]
    · simp [h0, h2]
  · simp [h0]
set_option maxRecDepth 100000 in
set_option maxHeartbeats 1000000 in
theorem iequalfile (x0 : Int) (a : Option Addr) (n c : Nat) (x1 : List (List R)) (x2 : Int) (x3 : Bool) (y0 : Int) (a' : Option Addr) (n' c' : Nat) (y1 : List (List R)) (y2 : Int) (y3 : Bool) (w : World) (h : SeqIn pageRep w a n x1) (h' : SeqIn pageRep w a' n' y1) :
    Calls Tryz.prog 49 #[.agg #[.int .i64 x0, .slice a n c, .int .i64 x2, .bool x3], .agg #[.int .i64 y0, .slice a' n' c', .int .i64 y2, .bool y3]] w fun e w' => e = .returned (.bool (decide ((⟨x0, x1, x2, x3⟩ : FileD) = ⟨y0, y1, y2, y3⟩))) ∧ Below w.heap.size w w' := by
  obtain ⟨W, hW⟩ : ∃ W, W = (w.alloc (.cells #[.int .i64 x0, .slice a n c, .int .i64 x2, .bool x3] 58)).alloc (.cells #[.int .i64 y0, .slice a' n' c', .int .i64 y2, .bool y3] 58) := ⟨_, rfl⟩
  obtain ⟨b0, k0, k1⟩ := boxes2 w W hW
  have B0 := Lib.hid b0
  have HI := Lib.hid (h.keep b0)
  have HI' := Lib.hid (h'.keep b0)
  have hn := seqin_len h
  have hn' := seqin_len h'
  have q0 := box_cell k0 0 _ rfl
  have q1 := box_cell k0 1 _ rfl
  have q2 := box_cell k0 2 _ rfl
  have q3 := box_cell k0 3 _ rfl
  have s0 := box_cell k1 0 _ rfl
  have s1 := box_cell k1 1 _ rfl
  have s2 := box_cell k1 2 _ rfl
  have s3 := box_cell k1 3 _ rfl
  have EQ := Lib.hid (file_eq_if x0 x1 x2 x3 y0 y1 y2 y3)
  clear h h' b0 k0 k1
  go_enter Tryz.func49, Tryz.ntmps49
  go_upto_region 1 with fail
  rw [← hW]
  clear hW
  cases e0 : (x0 == y0) with
  | false =>
    have HN := Lib.hid (EQ.out.trans (show _ = false by rw [e0]; rfl))
    go_wp2_with fail
    go_ret
    exact ⟨by rw [HN.out]; rfl, B0.out⟩
  | true =>
    cases e2 : (x2 == y2) with
    | false =>
      have HN := Lib.hid (EQ.out.trans (show _ = false by rw [e0, e2]; rfl))
      go_wp2_with fail
      go_ret
      exact ⟨by rw [HN.out]; rfl, B0.out⟩
    | true =>
      cases e3 : (x3 == y3) with
      | false =>
        have HN := Lib.hid (EQ.out.trans (show _ = false by rw [e0, e2, e3]; rfl))
        go_wp2_with fail
        go_ret
        exact ⟨by rw [HN.out]; rfl, B0.out⟩
      | true =>
        have HN := Lib.hid (EQ.out.trans (show _ = decide (x1 = y1) by rw [e0, e2, e3]; rfl))
        go_wp2_with fail
        clear q0 q1 q2 q3 s0 s1 s2 s3
        refine (ieqpages a a' n c n' c' x1 y1 W HI.out HI'.out hn hn').mono ?_
        rintro e w1 ⟨rfl, b1⟩
        have B1 := Lib.hid (B0.out.trans (b1.mono B0.out.size))
        clear b1
        go_wp2_with fail
        go_ret
        exact ⟨by rw [HN.out]; rfl, B1.out⟩
set_option maxRecDepth 100000 in
set_option maxHeartbeats 2000000 in
theorem ieqfiles (a a' : Option Addr) (n c n' c' : Nat) (F F' : List FileD) (w : World) (h : SeqIn fileRep w a n F) (h' : SeqIn fileRep w a' n' F') (hn : n ≤ 9223372036854775807) (hn' : n' ≤ 9223372036854775807) :
    Calls Tryz.prog 48 #[.slice a n c, .slice a' n' c', .func (.func 49) #[] #[]] w fun e w' => e = .returned (.bool (decide (F = F'))) ∧ Below w.heap.size w w' := by
  have HI := Lib.hid h
  have HI' := Lib.hid h'
  have HL := Lib.hid h.1
  have HL' := Lib.hid h'.1
  clear h h'
  by_cases hne : n = n'
  · subst hne
    go_enter Tryz.func48, Tryz.ntmps48
    go_wp2_with fail
    go_loopw [17] (fun i wr => ∃ (t : Nat), i = .int .i64 t ∧ t ≤ n ∧ Hid (∀ s, s < t → F[s]? = F'[s]?) ∧ Hid (Below w.heap.size w wr)) (fun i _ => n - (intOf i).toNat)
    case atStart => exact ⟨0, rfl, Nat.zero_le _, fun s hs => absurd hs (Nat.not_lt_zero _), Below.refl _ _⟩
    case round =>
      obtain ⟨t, rfl, ht, hsm, hwr⟩ := hrel
      by_cases hlt : t < n
      · have htl : t < F.length := by have := HL.out; omega
        have htl' : t < F'.length := by have := HL'.out; omega
        obtain ⟨f, hf⟩ : ∃ f, F[t]? = some f := ⟨F[t], by simp [htl]⟩
        obtain ⟨f', hf'⟩ : ∃ f, F'[t]? = some f := ⟨F'[t], by simp [htl']⟩
        have HF := Lib.hid hf
        have HF' := Lib.hid hf'
        obtain ⟨b, o, hd, rfl, hbl, hce, hin⟩ := HI.out.el hf
        obtain ⟨b', o', hd', rfl, hbl', hce', hin'⟩ := HI'.out.el hf'
        obtain ⟨x0, x1, x2, x3⟩ := f
        obtain ⟨y0, y1, y2, y3⟩ := f'
        obtain ⟨⟨d, k, m⟩, ⟨⟩⟩ := hd
        obtain ⟨⟨d', k', m'⟩, ⟨⟩⟩ := hd'
        have d0 : wr.cell? ⟨b, o + t * 4, none⟩ = some (.int .i64 x0) := (hwr.out.cell hbl).trans (hce 0 _ rfl)
        have d1 : wr.cell? ⟨b, o + t * 4 + 1, none⟩ = some (.slice d k m) := (hwr.out.cell hbl).trans (hce 1 _ rfl)
        have d2 : wr.cell? ⟨b, o + t * 4 + 2, none⟩ = some (.int .i64 x2) := (hwr.out.cell hbl).trans (hce 2 _ rfl)
        have d3 : wr.cell? ⟨b, o + t * 4 + 3, none⟩ = some (.bool x3) := (hwr.out.cell hbl).trans (hce 3 _ rfl)
        have e0 : (wr.alloc (.cells #[.int .i64 x0, .slice d k m, .int .i64 x2, .bool x3] 58)).cell? ⟨b', o' + t * 4, none⟩ = some (.int .i64 y0) := Lib.cell?_alloc_some _ ((hwr.out.cell hbl').trans (hce' 0 _ rfl))
        have e1 : (wr.alloc (.cells #[.int .i64 x0, .slice d k m, .int .i64 x2, .bool x3] 58)).cell? ⟨b', o' + t * 4 + 1, none⟩ = some (.slice d' k' m') := Lib.cell?_alloc_some _ ((hwr.out.cell hbl').trans (hce' 1 _ rfl))
        have e2 : (wr.alloc (.cells #[.int .i64 x0, .slice d k m, .int .i64 x2, .bool x3] 58)).cell? ⟨b', o' + t * 4 + 2, none⟩ = some (.int .i64 y2) := Lib.cell?_alloc_some _ ((hwr.out.cell hbl').trans (hce' 2 _ rfl))
        have e3 : (wr.alloc (.cells #[.int .i64 x0, .slice d k m, .int .i64 x2, .bool x3] 58)).cell? ⟨b', o' + t * 4 + 3, none⟩ = some (.bool y3) := Lib.cell?_alloc_some _ ((hwr.out.cell hbl').trans (hce' 3 _ rfl))
        have IN := Lib.hid (show SeqIn pageRep w d k x1 from hin.2.1.1)
        have IN' := Lib.hid (show SeqIn pageRep w d' k' y1 from hin'.2.1.1)
        clear hce hce' hin hin' 
        obtain ⟨v0, hv0⟩ : ∃ v, v = wr.heap.size := ⟨_, rfl⟩
        obtain ⟨w5, hw5⟩ : ∃ u, u = (wr.alloc (.cells #[.int .i64 x0, .slice d k m, .int .i64 x2, .bool x3] 58)).alloc (.cells #[.int .i64 y0, .slice d' k' m', .int .i64 y2, .bool y3] 58) := ⟨_, rfl⟩
        obtain ⟨b5, k5, k6⟩ := boxes2 wr w5 hw5
        rw [← hv0] at k5 k6
        have K5 := Lib.hid k5
        have K6 := Lib.hid k6
        have B5 := Lib.hid (hwr.out.trans (b5.mono hwr.out.size))
        have hsz : wr.heap.size + 1 = v0 + 1 := by omega
        clear b5 k5 k6 hf hf'
        go_upto_region 7 with fail
        rw [← hw5, ← hv0]
        clear hw5 hv0 hsz d0 d1 d2 d3 e0 e1 e2 e3
        have u0 := box_cell K5.out 0 _ rfl
        have z0 := box_cell K6.out 0 _ rfl
        have u1 := box_cell K5.out 1 _ rfl
        have z1 := box_cell K6.out 1 _ rfl
        have u2 := box_cell K5.out 2 _ rfl
        have z2 := box_cell K6.out 2 _ rfl
        have u3 := box_cell K5.out 3 _ rfl
        have z3 := box_cell K6.out 3 _ rfl
        go_wp2_with fail
        clear u0 u1 u2 u3 z0 z1 z2 z3
        refine (iequalfile x0 d k m x1 x2 x3 y0 d' k' m' y1 y2 y3 w5 (IN.out.keep B5.out) (IN'.out.keep B5.out)).mono ?_
        rintro e w6 ⟨rfl, b6⟩
        have B6 := Lib.hid (B5.out.trans (b6.mono B5.out.size))
        clear b6
        cases hd : decide ((⟨x0, x1, x2, x3⟩ : FileD) = ⟨y0, y1, y2, y3⟩) with
        | true =>
          have HE := Lib.hid (of_decide_eq_true hd)
          clear hd
          go_wp2_with fail
          go_roundw
          case rel =>
            refine ⟨t + 1, by go_num, by omega, fun s hs => ?_, B6⟩
            rcases Nat.lt_or_ge s t with h1 | h1
            · exact hsm.out s h1
            · obtain rfl : s = t := by omega
              rw [HF.out, HF'.out, HE.out]
          case measure => simp [intOf]; omega
        | false =>
          have HN := Lib.hid (show decide (F = F') = false from decide_eq_false fun e => of_decide_eq_false hd (by
            have h1 := HF.out
            rw [e, HF'.out] at h1
            exact (Option.some.inj h1).symm))
          clear hd
          go_wp2_with fail
          go_ret
          exact ⟨by rw [HN.out]; rfl, B6.out⟩
      · have HN := Lib.hid (show decide (F = F') = true from decide_eq_true (List.ext_getElem? fun s => by
          rcases Nat.lt_or_ge s t with h1 | h1
          · exact hsm.out s h1
          · rw [List.getElem?_eq_none (by have := HL.out; omega), List.getElem?_eq_none (by have := HL'.out; omega)]))
        go_wp2_with fail
        go_ret
        exact ⟨by rw [HN.out]; rfl, hwr.out⟩
  · have HN := Lib.hid (show decide (F = F') = false from decide_eq_false fun e => hne (by rw [← HL.out, ← HL'.out, e]))
    go_enter Tryz.func48, Tryz.ntmps48
    have hne' : ((n : Int) != (n' : Int)) = true := by
      rw [bne_iff_ne]; omega
    go_wp2_with fail
    go_ret
    exact ⟨by rw [HN.out]; rfl, Below.refl _ _⟩
set_option maxRecDepth 100000 in
set_option maxHeartbeats 1000000 in
theorem iequal (a : Option Addr) (n c : Nat) (X : DiskD) (a' : Option Addr) (n' c' : Nat) (Y : DiskD) (w : World) (h : diskRep.inn w X ((a, n, c), ())) (h' : diskRep.inn w Y ((a', n', c'), ())) :
    Calls Tryz.prog 19 #[.agg #[.slice a n c, .int .i64 X.fNextName], .agg #[.slice a' n' c', .int .i64 Y.fNextName]] w fun e w' => e = .returned (.bool (decide (X = Y))) ∧ Below w.heap.size w w' := by
  obtain ⟨W, hW⟩ : ∃ W, W = (w.alloc (.cells #[.slice a n c, .int .i64 X.fNextName] 26)).alloc (.cells #[.slice a' n' c', .int .i64 Y.fNextName] 26) := ⟨_, rfl⟩
  obtain ⟨b0, k0, k1⟩ := boxes2 w W hW
  have B0 := Lib.hid b0
  have HI := Lib.hid (disk_in (h.keep b0)).1
  have HI' := Lib.hid (disk_in (h'.keep b0)).1
  have hn := (disk_len h).2
  have hn' := (disk_len h').2
  unfold maxLen at hn hn'
  have q0 := box_cell k0 0 _ rfl
  have q1 := box_cell k0 1 _ rfl
  have s0 := box_cell k1 0 _ rfl
  have s1 := box_cell k1 1 _ rfl
  have EQ : Hid (decide (X = Y) = ((X.fNextName == Y.fNextName) && decide (X.fFiles = Y.fFiles))) := Lib.hid (by
    cases X; cases Y
    rename_i x0 x1 y0 y1
    by_cases h0 : x0 = y0 <;> by_cases h1 : x1 = y1 <;> simp [h0, h1])
  clear h h' b0 k0 k1
  go_enter Tryz.func19, Tryz.ntmps19
  go_upto_region 1 with fail
  rw [← hW]
  clear hW
  cases e0 : (X.fNextName == Y.fNextName) with
  | false =>
    have HN := Lib.hid (EQ.out.trans (show _ = false by rw [e0]; rfl))
    go_wp2_with fail
    go_ret
    exact ⟨by rw [HN.out]; rfl, B0.out⟩
  | true =>
    have HN := Lib.hid (EQ.out.trans (show _ = decide (X.fFiles = Y.fFiles) by rw [e0]; rfl))
    go_wp2_with fail
    clear q0 q1 s0 s1
    refine (ieqfiles a a' n c n' c' X.fFiles Y.fFiles W HI.out HI'.out hn hn').mono ?_
    rintro e w1 ⟨rfl, b1⟩
    have B1 := Lib.hid (B0.out.trans (b1.mono B0.out.size))
    clear b1
    go_wp2_with fail
    go_ret
    exact ⟨by rw [HN.out]; rfl, B1.out⟩
end Go.Proofs.YtjdjceohlcimaaaGreatDoor
/- The contracts of chapter 6 that change a disk, told by trees, out of those over shapes. -/
namespace Go.Proofs.YtjdjceohlcimaaaGreatDoor
open Go Go.RowKit V
set_option linter.unusedVariables false
theorem one_mem {vs : List Value} (h : vs.all (fun u => u.oneCell') = true) : ∀ u ∈ vs, u.oneCell' = true := fun u hu => List.all_eq_true.1 h u hu
theorem vcreate_s (X : DiskD) (hX : goodDisk X) (hw : wtDisk X ≤ 1000000000) : VC Tryz.prog 52 [(true, tDisk X)] true [(true, tDisk ((DiskD.create X).getD X)), (false, [.lit (.int .i64 (if (DiskD.create X).isSome then X.fNextName else 0))]), (false, [.lit (.bool (DiskD.create X).isSome)])] := fun w vs hv => by
  obtain ⟨k, vs', rfl, h1, h2⟩ := hv.shape fitsDisk hX
  rw [h2.none]
  exact (screate k.1.1 k.1.2.1 k.1.2.2 X w h1 hw).mono fun e w' h => gives_disk (one_mem rfl) h
theorem vdelete_s (X : DiskD) (name : Int) (hX : goodDisk X) (hw : wtDisk X ≤ 1000000000) : VC Tryz.prog 13 [(true, tDisk X), (false, [.lit (.int .i64 name)])] true [(true, tDisk ((DiskD.delete X name).getD X)), (false, [.lit (.bool (DiskD.delete X name).isSome)])] := fun w vs hv => by
  obtain ⟨k, vs', rfl, h1, h2⟩ := hv.shape fitsDisk hX
  obtain ⟨vs', rfl, h3⟩ := h2.lit
  rw [h3.none]
  exact (sdelete k.1.1 k.1.2.1 k.1.2.2 X name w h1 hw).mono fun e w' h => gives_disk (one_mem rfl) h
theorem vdelete_i (X : DiskD) (name : Int) (hX : goodDisk X) (hw : wtDisk X ≤ 1000000000) : VC Tryz.prog 12 [(true, tDisk X), (false, [.lit (.int .i64 name)])] true [(true, tDisk ((DiskD.delete X name).getD X)), (false, [.lit (.bool (DiskD.delete X name).isSome)])] := fun w vs hv => by
  obtain ⟨k, vs', rfl, h1, h2⟩ := hv.shape fitsDisk hX
  obtain ⟨vs', rfl, h3⟩ := h2.lit
  rw [h3.none]
  exact (idelete k.1.1 k.1.2.1 k.1.2.2 X name w h1 hw).mono fun e w' h => gives_disk (one_mem rfl) h
theorem vappend_s (X : DiskD) (name : Int) (p : List R) (hX : goodDisk X) (hp : goodPage p) (hw : wtDisk X ≤ 1000000000) (hwp : wtPage p ≤ 1000000000) : VC Tryz.prog 7 [(true, tDisk X), (false, [.lit (.int .i64 name)]), (true, tPage p)] true [(true, tDisk ((DiskD.appendTo X name p).getD X)), (false, [.lit (.bool (DiskD.appendTo X name p).isSome)])] := fun w vs hv => by
  obtain ⟨k, vs', rfl, h1, h2⟩ := hv.shape fitsDisk hX
  obtain ⟨vs', rfl, h3⟩ := h2.lit
  obtain ⟨q, vs', rfl, h4, h5⟩ := h3.shape fitsPage hp
  rw [h5.none]
  exact (sappend k.1.1 k.1.2.1 k.1.2.2 X name q.1 q.2.1 q.2.2 p w h1 h4 hw hwp).mono fun e w' h => gives_disk (one_mem rfl) h
theorem vappend_i (X : DiskD) (name : Int) (p : List R) (hX : goodDisk X) (hp : goodPage p) (hw : wtDisk X ≤ 1000000000) (hwp : wtPage p ≤ 1000000000) : VC Tryz.prog 6 [(true, tDisk X), (false, [.lit (.int .i64 name)]), (true, tPage p)] true [(true, tDisk ((DiskD.appendTo X name p).getD X)), (false, [.lit (.bool (DiskD.appendTo X name p).isSome)])] := fun w vs hv => by
  obtain ⟨k, vs', rfl, h1, h2⟩ := hv.shape fitsDisk hX
  obtain ⟨vs', rfl, h3⟩ := h2.lit
  obtain ⟨q, vs', rfl, h4, h5⟩ := h3.shape fitsPage hp
  rw [h5.none]
  exact (iappend k.1.1 k.1.2.1 k.1.2.2 X name q.1 q.2.1 q.2.2 p w h1 h4 hw hwp).mono fun e w' h => gives_disk (one_mem rfl) h
theorem vcount_i (X : DiskD) (hX : goodDisk X) (hw : wtDisk X ≤ 1000000000) : VC Tryz.prog 21 [(true, tDisk X)] false [(false, [.lit (.int .i64 (DiskD.count X.fFiles : Nat))])] :=
  VC.shape1 fitsDisk hX (ag := true) rfl fun w k h => icountp k.1.1 k.1.2.1 k.1.2.2 X w h hw
theorem veqd_s (X Y : DiskD) (hX : goodDisk X) (hY : goodDisk Y) : VC Tryz.prog 18 [(true, tDisk X), (true, tDisk Y)] false [(false, [.lit (.bool (decide (X = Y)))])] := fun w vs hv => by
  obtain ⟨k, vs', rfl, h1, h2⟩ := hv.shape fitsDisk hX
  obtain ⟨q, vs', rfl, h4, h5⟩ := h2.shape fitsDisk hY
  rw [h5.none]
  exact (sequal k.1.1 k.1.2.1 k.1.2.2 X q.1.1 q.1.2.1 q.1.2.2 Y w h1 h4).mono fun e w' he => Gives.plain (ag := false) (rs := [.bool (decide (X = Y))]) (one_mem rfl) he
theorem veqd_i (X Y : DiskD) (hX : goodDisk X) (hY : goodDisk Y) : VC Tryz.prog 19 [(true, tDisk X), (true, tDisk Y)] false [(false, [.lit (.bool (decide (X = Y)))])] := fun w vs hv => by
  obtain ⟨k, vs', rfl, h1, h2⟩ := hv.shape fitsDisk hX
  obtain ⟨q, vs', rfl, h4, h5⟩ := h2.shape fitsDisk hY
  rw [h5.none]
  exact (iequal k.1.1 k.1.2.1 k.1.2.2 X q.1.1 q.1.2.1 q.1.2.2 Y w h1 h4).mono fun e w' he => Gives.plain (ag := false) (rs := [.bool (decide (X = Y))]) (one_mem rfl) he
end Go.Proofs.YtjdjceohlcimaaaGreatDoor
/- What the operations on a disk make is a valid disk, hence small; no function of program or reference is walked here. -/
namespace Go.Proofs.YtjdjceohlcimaaaGreatDoor.DiskD
open Go.RowKit
set_option linter.unusedVariables false
theorem Ok.create {d e : DiskD} (h : create d = some e) : Ok e := by
  unfold DiskD.create at h
  split at h
  · rename_i hc
    rw [Bool.and_eq_true, decide_eq_true_eq] at hc
    have ho := Ok.of hc.1
    have hlo := ho.lo
    cases h
    have hget : ∀ (i : Nat) (f : FileD), (d.fFiles ++ [⟨d.fNextName, [], 0, false⟩])[i]? = some f → (i < d.fFiles.length ∧ d.fFiles[i]? = some f) ∨ (i = d.fFiles.length ∧ f = ⟨d.fNextName, [], 0, false⟩) := fun i f hf => by
      rcases Nat.lt_or_ge i d.fFiles.length with h1 | h1
      · rw [List.getElem?_append_left h1] at hf; exact .inl ⟨h1, hf⟩
      · have h2 := idx_lt hf
        rw [List.length_append, List.length_singleton] at h2
        obtain rfl : i = d.fFiles.length := by omega
        rw [List.getElem?_append_right (Nat.le_refl _), Nat.sub_self] at hf
        exact .inr ⟨rfl, (Option.some.inj hf).symm⟩
    refine ⟨by show 0 ≤ d.fNextName + 1; omega, by show d.fNextName + 1 ≤ 1000; omega, ?_, fun f hf => ?_, fun i j f g hf hg hij => ?_⟩
    · show count (d.fFiles ++ [⟨d.fNextName, [], 0, false⟩]) ≤ 40
      have := ho.few
      rw [count_append, count_cons]
      show count d.fFiles + (0 + 0) ≤ 40
      omega
    · show 0 ≤ f.fName ∧ f.fName < d.fNextName + 1 ∧ f.ok = true
      rcases List.mem_append.1 hf with h1 | h1
      · obtain ⟨h2, h3, h4⟩ := ho.each f h1
        exact ⟨h2, by omega, h4⟩
      · rw [List.mem_singleton.1 h1]
        exact ⟨hlo, by show d.fNextName < d.fNextName + 1; omega, rfl⟩
    · rcases hget i f hf with ⟨h1, h2⟩ | ⟨h1, h2⟩
      · rcases hget j g hg with ⟨h3, h4⟩ | ⟨h3, h4⟩
        · exact ho.asc i j f g h2 h4 hij
        · rw [h4]; exact (ho.each f (List.mem_of_getElem? h2)).2.1
      · rcases hget j g hg with ⟨h3, h4⟩ | ⟨h3, h4⟩ <;> omega
  · cases h
theorem Ok.appendTo {d e : DiskD} {name : Int} {p : List R} (h : appendTo d name p = some e) : Ok e := by
  unfold DiskD.appendTo at h
  cases hfi : file d name with
  | none => rw [hfi] at h; cases h
  | some kf =>
    obtain ⟨k, f⟩ := kf
    rw [hfi] at h
    have h' : (if !f.fSealed && R.pageOk p && decide (count d.fFiles ≠ 40) then some (⟨d.fFiles.set k { f with fPages := f.fPages ++ [p] }, d.fNextName⟩ : DiskD) else none) = some e := h
    obtain ⟨hok, -, hk, -⟩ := of_file hfi
    have ho := Ok.of hok
    split at h'
    · rename_i hc
      simp only [Bool.and_eq_true, decide_eq_true_eq, Bool.not_eq_true'] at hc
      cases h'
      refine ho.set hk rfl ?_ ?_
      · have h1 := (ho.each f (List.mem_of_getElem? hk)).2.2
        unfold FileD.ok at h1 ⊢
        rw [Bool.and_eq_true] at h1 ⊢
        refine ⟨?_, h1.2⟩
        have h2 := h1.1
        unfold R.allPages at h2 ⊢
        rw [List.all_append, h2]
        simp [hc.1.2]
      · have h1 := count_set hk { f with fPages := f.fPages ++ [p] }
        have h2 := ho.few
        have h3 := hc.2
        simp only [List.length_append, List.length_singleton] at h1
        omega
    · cases h'
theorem Ok.sealF {d e : DiskD} {name : Int} (h : sealF d name = some e) : Ok e := by
  unfold DiskD.sealF at h
  cases hfi : file d name with
  | none => rw [hfi] at h; cases h
  | some kf =>
    obtain ⟨k, f⟩ := kf
    rw [hfi] at h
    have h' : (if f.fSealed then none else some (⟨d.fFiles.set k { f with fChecksum := ck (R.fmtPages f.fPages), fSealed := true }, d.fNextName⟩ : DiskD)) = some e := h
    obtain ⟨hok, -, hk, -⟩ := of_file hfi
    have ho := Ok.of hok
    split at h'
    · cases h'
    · cases h'
      refine ho.set hk rfl ?_ ?_
      · have h1 := (ho.each f (List.mem_of_getElem? hk)).2.2
        unfold FileD.ok at h1 ⊢
        rw [Bool.and_eq_true] at h1 ⊢
        exact ⟨h1.1, rfl⟩
      · have h1 := count_set hk { f with fChecksum := ck (R.fmtPages f.fPages), fSealed := true }
        have h2 := ho.few
        simp only at h1
        omega
theorem Ok.sub {d : DiskD} (h : Ok d) {F : List FileD} (hs : F.Sublist d.fFiles) : Ok ⟨F, d.fNextName⟩ := by
  refine ⟨h.lo, h.hi, Nat.le_trans (count_sub hs) h.few, fun f hf => h.each f (hs.subset hf), fun i j f g hf hg hij => ?_⟩
  have hp : d.fFiles.Pairwise fun a b => a.fName < b.fName := List.pairwise_iff_getElem.2 fun i j hi hj hij => h.asc i j _ _ (by simp [hi]) (by simp [hj]) hij
  have hq := hp.sublist hs
  have hi := idx_lt hf
  have hj := idx_lt hg
  have h1 := List.pairwise_iff_getElem.1 hq i j hi hj hij
  have hf' : F[i]? = some f := hf
  have hg' : F[j]? = some g := hg
  rw [List.getElem?_eq_getElem hi] at hf'
  rw [List.getElem?_eq_getElem hj] at hg'
  rw [Option.some.inj hf', Option.some.inj hg'] at h1
  exact h1
theorem Ok.delete {d e : DiskD} {name : Int} (h : delete d name = some e) : Ok e := by
  unfold DiskD.delete at h
  cases hfi : file d name with
  | none => rw [hfi] at h; cases h
  | some kf =>
    obtain ⟨k, f⟩ := kf
    rw [hfi] at h
    have h' : some (⟨d.fFiles.eraseIdx k, d.fNextName⟩ : DiskD) = some e := h
    obtain ⟨hok, -, -, -⟩ := of_file hfi
    cases h'
    exact (Ok.of hok).sub (List.eraseIdx_sublist _ _)
theorem wt_getD {X : DiskD} {o : Option DiskD} (h : ∀ e, o = some e → Ok e) (hX : wtDisk X ≤ 1048576) : wtDisk (o.getD X) ≤ 1048576 := by
  cases ho : o with
  | none => exact hX
  | some e => have := (h e ho).wt; show wtDisk e ≤ _; omega
theorem wt_create {X : DiskD} (hX : wtDisk X ≤ 1048576) : wtDisk ((create X).getD X) ≤ 1048576 := wt_getD (fun _ => Ok.create) hX
theorem wt_appendTo {X : DiskD} {name : Int} {p : List R} (hX : wtDisk X ≤ 1048576) : wtDisk ((appendTo X name p).getD X) ≤ 1048576 := wt_getD (fun _ => Ok.appendTo) hX
theorem wt_sealF {X : DiskD} {name : Int} (hX : wtDisk X ≤ 1048576) : wtDisk ((sealF X name).getD X) ≤ 1048576 := wt_getD (fun _ => Ok.sealF) hX
theorem wt_delete {X : DiskD} {name : Int} (hX : wtDisk X ≤ 1048576) : wtDisk ((delete X name).getD X) ≤ 1048576 := wt_getD (fun _ => Ok.delete) hX
end Go.Proofs.YtjdjceohlcimaaaGreatDoor.DiskD
/- States told by trees: comparisons with nil, calls that write into what they are lent and answer nothing. -/
namespace Go.Proofs.YtjdjceohlcimaaaGreatDoor.V
open Go Go.RowKit
set_option linter.unusedVariables false
variable {P : Program} {E : Env} {N nb : Nat} {σ σ' τ : VS} {o : Oper} {a : Act} {w : World} {G : Ghost} {Q : Exit → Act → World → Prop} {K : Act → World → Prop}
def VU (P : Program) (f : FuncId) (ins : List (Bool × List AC)) (ls ls' : List T) : Prop :=
  ∀ (w : World) (lv : Nat → Value) (F : Nat → Nat → Prop) (hF : ∀ i b, i < ls.length → F i b → b < w.heap.size) (vs : List Value), (∀ i t, ls[i]? = some t → Own w 0 t (lv i) (F i) ∧ ∃ ty es, t = .seq ty es) → (∀ i j b, i < ls.length → j < ls.length → i ≠ j → F i b → ¬ F j b) → ArgsM (Env.lend w lv F ls.length hF) ins vs →
    Calls P f vs.toArray w fun e w' => (∃ v, e = .returned v ∧ Same (Env.lend w lv F ls.length hF) (Env.lend w lv F ls.length hF).w0 w') ∧ Lents (Env.lend w lv F ls.length hF) ls' w'
theorem SV.isnil {d : Nat} {x y : Operand} {ty : TypeId} {es : List (List T)} {rest : List Oper} {ops : Array Oper} (hx : σ.ev x = V.one (.ro (.seq ty es))) (hy : σ.ev y = V.one (.sc (.slice none 0 0))) (hd : o.dst = some d) (hdN : d < N) (hg : o.guard = none)
    (hrun : ∀ (ρ : Operand → Value) (ad : Option Addr) (n c : Nat) (w : World), ρ x = .slice ad n c → ρ y = .slice none 0 0 → (execOp ρ o).run P w = .ok (.value (.bool ad.isNone)) w)
    (ht : es = [] → SV E N (σ.put d (V.one (.sc (.bool true)))) (wpList P ops Q rest)) (hf : SV E N (σ.put d (V.one (.sc (.bool false)))) (wpList P ops Q rest)) : SV E N σ (wpList P ops Q (o :: rest)) := fun a w G hr => by
  have h1 := hr.ev x
  rw [hx, vone] at h1
  have h2 := hr.sc hy
  have h3 : Inn E.old w (.seq ty es) (a.eval x) := h1.1
  cases hv : a.eval x with
  | slice ad n c =>
    rw [hv] at h3
    refine wpList_step fun K hK => ?_
    rw [if_pos (by simp [Region.wanted, hg])]
    refine wp_value (v := .bool ad.isNone) (w' := w) (hrun _ ad n c w hv h2) ?_
    rw [hd]
    cases ad with
    | none =>
      have he : es = [] := by
        cases h3 with
        | seq n' hp hz hn hc hm h0 => have := h0 rfl; subst this; exact List.eq_nil_of_length_eq_zero (by omega)
      exact hK _ _ (ht he _ _ G (hr.put hdN (vone.2 ⟨rfl, .inr rfl⟩)))
    | some ad => exact hK _ _ (hf _ _ G (hr.put hdN (vone.2 ⟨rfl, .inr rfl⟩)))
  | _ => rw [hv] at h3; cases h3
theorem SV.nlscb {b j kk n : Nat} {ty ty' : TypeId} {xs : List Leaf} (hb : σ.bs[b]? = some (ty', xs)) (hk : σ.nx = kk) (hj : xs[j]? = some (.sc (.slice none 0 0))) (hp : 0 < n) (hz : Sz ty n) {ys : List Leaf} (hy : xs.set j (.hd kk) = ys) (k : SV E N ((σ.new (.seq ty [])).setb b ty' ys) K) : SV E N σ K := fun a w G h => by
  subst hk
  subst hy
  obtain ⟨hB, us, h1, h2, h3⟩ := h.boxes b ty' xs hb
  have hjl := get_lt hj
  obtain ⟨⟨h4, -⟩, -⟩ := h3 j _ us[j] hj (List.getElem?_eq_getElem (by omega))
  obtain ⟨G', k1, k2, hβ, k3⟩ := h.newnil hp hz
  have h4' : us[j] = .slice none 0 0 := h4
  have k4 := k1.setbox (b := b) (ty := ty') (xs := xs) (xs' := xs.set j (.hd σ.nx)) (us' := us) (w' := w) hb (Same.refl _ _) (fun _ _ => rfl) (by rw [hβ]; exact h1) (by simpa using h2) (fun q x u hq hu => by
    by_cases hqj : j = q
    · subst hqj
      rw [List.getElem?_set_self hjl] at hq
      have hu' : us[j] = u := by rw [List.getElem?_eq_getElem (by omega)] at hu; exact Option.some.inj hu
      rw [← Option.some.inj hq, ← hu', h4']
      exact ⟨⟨⟨Nat.lt_succ_self _, k2.symm⟩, .inr rfl⟩, rfl⟩
    · rw [List.getElem?_set_ne hqj] at hq
      exact ⟨k3 x u (h3 q x u hq hu).1, (h3 q x u hq hu).2⟩)
  exact k a w G' k4
end Go.Proofs.YtjdjceohlcimaaaGreatDoor.V
/- The reference's copy of a disk: told by trees. -/
namespace Go.Proofs.YtjdjceohlcimaaaGreatDoor
open Go Go.RowKit V
set_option linter.unusedVariables false
set_option maxRecDepth 100000 in
set_option maxHeartbeats 2000000 in
theorem vcopy_s (X : DiskD) (hL : wtDisk X ≤ 1000000000) : VC Tryz.prog 33 [(true, tDisk X)] false [(true, tDisk X)] := by
  refine VC.enter Tryz.func33 rfl Tryz.ntmps33 (gle rfl) fun E hE => ?_
  have hFL : X.fFiles.length ≤ 1000000000 := by have h4 := wt_file_len X.fFiles; have h8 : wtDisk X = wtFiles X.fFiles := rfl; omega
  refine SV.seq' ?_
  refine SV.region ?_
  refine SV.op (OpMk.ok (ok_box (kk := 0) (ag := true) (xs := [.ro _, .sc _]) rfl rfl rfl (fun h => by cases h) rfl rfl (gle rfl))) rfl ?_
  refine SV.op (OpMk.ok (ok_alloc (kk := 1) (xs := [.nl _, .sc _]) rfl rfl zero_impl_Disk ⟨rfl, ⟨4, by decide, sz_impl_File⟩, rfl, rfl, trivial⟩ rfl (gle rfl))) rfl ?_
  refine SV.nil ?_
  refine SV.tn ?_
  refine SV.seq' ?_
  refine SV.region ?_
  refine SV.op (OpL.ok (nb := 2) (ok_field_bp (b := 0) (o' := 0) (off := 1) rfl rfl fld_impl_Disk_1) rfl (gle rfl)) rfl ?_
  refine SV.op (OpL.ok (nb := 2) (ok_load_bp (b := 0) (i := 1) (ag := false) (m := 1) (ys := [.sc _]) rfl rfl rfl agg_int sz_int (fun _ => rfl) rfl rfl (gle rfl)) rfl (gle rfl)) rfl ?_
  refine SV.op (OpL.ok (nb := 2) (ok_build (zs := [.nl _, .sc _]) (ys := [.nl _, .sc _]) (qs := [(1, [.sc _])]) (pl := fun i => ([(0, 1), (1, 1)] : List (Nat × Nat))[i]?) rfl zero_impl_Disk ⟨rfl, ⟨4, by decide, sz_impl_File⟩, rfl, rfl, trivial⟩ ⟨⟨rfl, false, rfl, (fun _ => rfl), rfl⟩, trivial⟩ bld_impl_Disk rfl) rfl (gle rfl)) rfl ?_
  refine SV.op (OpMk.ok (ok_alloc (kk := 2) (xs := [.nl _, .sc _]) rfl rfl zero_impl_Disk ⟨rfl, ⟨4, by decide, sz_impl_File⟩, rfl, rfl, trivial⟩ rfl (gle rfl))) rfl ?_
  refine SV.op (ok_store_bp (b := 2) (i := 0) (m := 2) (ag := true) (zs := [.nl _, .sc _]) (ys := [.nl _, .sc _]) rfl rfl rfl rfl sz_impl_Disk (fun h => by cases h) rfl (gle rfl) rfl rfl rfl) rfl ?_
  refine SV.nil ?_
  refine SV.tn ?_
  refine SV.seq' ?_
  refine SV.seq' ?_
  refine SV.region ?_
  refine SV.op (OpL.ok (nb := 3) (ok_move (v := V.one (.sc _)) (.inr rfl) rfl) rfl (gle rfl)) rfl ?_
  refine SV.nil ?_
  refine SV.tn ?_
  refine SV.block ?_
  refine SV.nlbox (b := 2) (j := 0) (kk := 0) rfl rfl rfl (ys := [.hd 0, .sc _]) rfl ?_
  refine SV.loopF (X := Nat) (fun (σ : VS) t => ((((((((VS.nil.new (.seq 58 ((X.fFiles.take t).map tFile))).box 26 [σ.bl 0 0, σ.bl 0 1]).box 26 [σ.bl 1 0, σ.bl 1 1]).box 26 [.hd 0, σ.bl 2 1]).put 1 (V.flat false [.bp 0 0])).put 2 (V.flat false [.bp 1 0])).put 3 (V.flat false [.bp 2 0])).put 4 (V.flat false [.sc (.int .i64 ((t : Int)))]))) (fun t => t ≤ X.fFiles.length) (fun t => X.fFiles.length - t) ?_ ?_
  · skip
    refine SV.again (fun i => [0].getD i 0) 0 ((by first | exact Nat.zero_le _ | (refine ⟨Nat.zero_le _, ?_⟩; simp; done) | (simp; done) | omega)) (pins hE rfl rfl) (VS.le.mk' (le_put (le_put (le_put (le_put (le_box (le_box (le_box (le_new le_nil)))) (V.le.keep (ag := false) (xs := [.bp 0 0]) (ys := [.bp 0 0]) rfl rfl ⟨⟨rfl, (gle rfl)⟩, trivial⟩)) (V.le.keep (ag := false) (xs := [.bp 1 0]) (ys := [.bp 1 0]) rfl rfl ⟨⟨rfl, (gle rfl)⟩, trivial⟩)) (V.le.keep (ag := false) (xs := [.bp 2 0]) (ys := [.bp 2 0]) rfl rfl ⟨⟨rfl, (gle rfl)⟩, trivial⟩)) (V.le.keep (ag := false) (xs := [.sc _]) (ys := [.sc _]) rfl rfl ⟨(by first | rfl | (show Leaf.sc _ = Leaf.sc _; refine congrArg Leaf.sc ?_; first | rfl | go_num | (simp [cntAll]; done)) | (simp [cntAll]; done) | (simp; omega)), trivial⟩)) ⟨⟨rfl, ⟨rfl, rfl, trivial⟩⟩, ⟨⟨rfl, ⟨rfl, rfl, trivial⟩⟩, ⟨⟨rfl, ⟨⟨rfl, (gle rfl), (gle rfl)⟩, rfl, trivial⟩⟩, trivial⟩⟩⟩ ⟨.inr ⟨_, _, rfl, ?ob1_0, (gle rfl)⟩, trivial⟩ (new_ob nil_ob) (fun i j hi hj e => inj_list (l := [0]) (by decide) i j hi hj e))
    case ob1_0 =>
      show some (T.seq _ _) = some (T.seq _ _)
      first | rfl | exact congrArg some (congrArg (T.seq _) (by simp))
  · rintro t ht
    refine SV.seq' ?_
    refine SV.seq' ?_
    refine SV.region ?_
    refine SV.op (OpL.ok (nb := 3) (ok_move (v := V.one (.sc _)) (.inl rfl) rfl) rfl (gle rfl)) rfl ?_
    refine SV.op (OpL.ok (nb := 3) (ok_field_bp (b := 0) (o' := 0) (off := 0) rfl rfl fld_impl_Disk_0) rfl (gle rfl)) rfl ?_
    refine SV.op (OpL.ok (nb := 3) (ok_load_bp (b := 0) (i := 0) (ag := false) (m := 1) (ys := [.ro _]) rfl rfl rfl agg_s_impl_File sz_s_impl_File (fun _ => rfl) rfl rfl (gle rfl)) rfl (gle rfl)) rfl ?_
    refine SV.op (OpL.ok (nb := 3) (ok_len (lf := .ro _) rfl elt_impl_File.und rfl rfl) rfl (gle rfl)) rfl ?_
    refine SV.op (OpL.ok (nb := 3) (ok_s2 (x := .tmp 10) (x' := .tmp 13) (VScal.one rfl) (VScal.one rfl) (fun ρ h1 h2 w => by go_simp; (try go_bits); with_reducible rfl) rfl) rfl (gle rfl)) rfl ?_
    refine SV.nil ?_
    refine SV.tn ?_
    refine SV.cond rfl (fun hc0 => ?_) (fun hc0 => ?_)
    · skip   -- c0.T
      have htl : t < X.fFiles.length := by simpa using hc0
      have hx : X.fFiles[t]? = some X.fFiles[t] := by simp [htl]
      have hPL : X.fFiles[t].fPages.length ≤ 1000000000 := by have h1 := wt_file_at X.fFiles t htl; have h4 := wt_page_len X.fFiles[t].fPages; have h8 : wtDisk X = wtFiles X.fFiles := rfl; have h9 : wtFile X.fFiles[t] = wtPages X.fFiles[t].fPages := rfl; omega
      refine SV.skip ?_
      refine SV.tn ?_
      refine SV.seq' ?_
      refine SV.block ?_
      refine SV.seq' ?_
      refine SV.draw [.q 0, .q 1, .q 2, .q 3, .q 4, .q 5, .q 6, .q 7, .q 8, .q 9, .q 10, .q 11, .q 12, .q 13, .q 14, .q 15, .q 16, .q 17, .q 18, .m 19] [20] (by kernel_rfl) (by kernel_rfl) ?_
      refine DW.q rfl (ok_field_bp (b := 0) (o' := 0) (off := 0) rfl rfl fld_impl_Disk_0) rfl rfl (gle rfl) (fun _ _ _ _ h => h) ?_
      refine DW.q rfl (ok_load_bp (b := 0) (i := 0) (ag := false) (m := 1) (ys := [.ro _]) rfl rfl rfl agg_s_impl_File sz_s_impl_File (fun _ => rfl) rfl rfl (gle rfl)) rfl rfl (gle rfl) (fun _ _ _ _ h => h) ?_
      refine DW.q rfl (ok_move (v := V.one (.sc _)) (.inl rfl) rfl) rfl rfl (gle rfl) (fun _ _ _ _ h => h) ?_
      refine DW.q rfl (ok_index (n := 4) (lf := .ro _) rfl elt_impl_File.und sz_impl_File rfl rfl rfl (map_at (by assumption))) rfl rfl (gle rfl) (fun _ _ _ _ h => h) ?_
      refine DW.q rfl (ok_field_el (p := .rp _) (off := 0) rfl rfl rfl fld_impl_File_0) rfl rfl (gle rfl) (fun _ _ _ _ h => h) ?_
      refine DW.q rfl (ok_load_rp (ag := false) (m := 1) (ys := [.sc _]) rfl rfl agg_int sz_int (fun _ => rfl) (gle rfl) rfl) rfl rfl (gle rfl) (fun _ _ _ _ h => h) ?_
      refine DW.q rfl (ok_field_bp (b := 0) (o' := 0) (off := 0) rfl rfl fld_impl_Disk_0) rfl rfl (gle rfl) (fun _ _ _ _ h => h) ?_
      refine DW.q rfl (ok_load_bp (b := 0) (i := 0) (ag := false) (m := 1) (ys := [.ro _]) rfl rfl rfl agg_s_impl_File sz_s_impl_File (fun _ => rfl) rfl rfl (gle rfl)) rfl rfl (gle rfl) (fun _ _ _ _ h => h) ?_
      refine DW.q rfl (ok_move (v := V.one (.sc _)) (.inl rfl) rfl) rfl rfl (gle rfl) (fun _ _ _ _ h => h) ?_
      refine DW.q rfl (ok_index (n := 4) (lf := .ro _) rfl elt_impl_File.und sz_impl_File rfl rfl rfl (map_at (by assumption))) rfl rfl (gle rfl) (fun _ _ _ _ h => h) ?_
      refine DW.q rfl (ok_field_el (p := .rp _) (off := 2) rfl rfl rfl fld_impl_File_2) rfl rfl (gle rfl) (fun _ _ _ _ h => h) ?_
      refine DW.q rfl (ok_load_rp (ag := false) (m := 1) (ys := [.sc _]) rfl rfl agg_int sz_int (fun _ => rfl) (gle rfl) rfl) rfl rfl (gle rfl) (fun _ _ _ _ h => h) ?_
      refine DW.q rfl (ok_field_bp (b := 0) (o' := 0) (off := 0) rfl rfl fld_impl_Disk_0) rfl rfl (gle rfl) (fun _ _ _ _ h => h) ?_
      refine DW.q rfl (ok_load_bp (b := 0) (i := 0) (ag := false) (m := 1) (ys := [.ro _]) rfl rfl rfl agg_s_impl_File sz_s_impl_File (fun _ => rfl) rfl rfl (gle rfl)) rfl rfl (gle rfl) (fun _ _ _ _ h => h) ?_
      refine DW.q rfl (ok_move (v := V.one (.sc _)) (.inl rfl) rfl) rfl rfl (gle rfl) (fun _ _ _ _ h => h) ?_
      refine DW.q rfl (ok_index (n := 4) (lf := .ro _) rfl elt_impl_File.und sz_impl_File rfl rfl rfl (map_at (by assumption))) rfl rfl (gle rfl) (fun _ _ _ _ h => h) ?_
      refine DW.q rfl (ok_field_el (p := .rp _) (off := 3) rfl rfl rfl fld_impl_File_3) rfl rfl (gle rfl) (fun _ _ _ _ h => h) ?_
      refine DW.q rfl (ok_load_rp (ag := false) (m := 1) (ys := [.sc _]) rfl rfl agg_bool sz_bool (fun _ => rfl) (gle rfl) rfl) rfl rfl (gle rfl) (fun _ _ _ _ h => h) ?_
      refine DW.q rfl (ok_build (zs := [.sc _, .nl _, .sc _, .sc _]) (ys := [.sc _, .nl _, .sc _, .sc _]) (qs := [(0, [.sc _]), (2, [.sc _]), (3, [.sc _])]) (pl := fun i => ([(0, 1), (1, 1), (2, 1), (3, 1)] : List (Nat × Nat))[i]?) rfl zero_impl_File ⟨rfl, rfl, rfl, ⟨1, by decide, sz_impl_Page⟩, rfl, rfl, rfl, rfl, trivial⟩ ⟨⟨rfl, false, rfl, (fun _ => rfl), rfl⟩, ⟨rfl, false, rfl, (fun _ => rfl), rfl⟩, ⟨rfl, false, rfl, (fun _ => rfl), rfl⟩, trivial⟩ bld_impl_File rfl) rfl rfl (gle rfl) (fun _ _ _ _ h => h) ?_
      refine DW.m [] rfl (ok_alloc (kk := 3) (xs := [.sc _, .nl _, .sc _, .sc _]) rfl rfl zero_impl_File ⟨rfl, rfl, rfl, ⟨1, by decide, sz_impl_Page⟩, rfl, rfl, rfl, rfl, trivial⟩ rfl (gle rfl)) rfl (gle rfl) (gle rfl) (.inl rfl) (fun j hj => by cases hj) ?_
      refine DW.stores ?_
      refine SV.z rfl (ok_store_bp (b := 3) (i := 0) (m := 4) (ag := true) (zs := [.sc _, .nl _, .sc _, .sc _]) (ys := [.sc _, .nl _, .sc _, .sc _]) rfl rfl rfl rfl sz_impl_File (fun h => by cases h) rfl (gle rfl) rfl rfl rfl) rfl ?_
      refine SV.zend ?_
      refine SV.tn ?_
      refine SV.seq' ?_
      refine SV.seq' ?_
      refine SV.region ?_
      refine SV.op (OpL.ok (nb := 4) (ok_move (v := V.one (.sc _)) (.inr rfl) rfl) rfl (gle rfl)) rfl ?_
      refine SV.nil ?_
      refine SV.tn ?_
      refine SV.block ?_
      refine SV.nlbox (b := 3) (j := 1) (kk := 1) rfl rfl rfl (ys := [.sc _, .hd 1, .sc _, .sc _]) rfl ?_
      refine SV.loopF (X := Nat) (fun (σ : VS) q => ((((((((((((VS.nil.new (σ.tree 0)).new (.seq 29 ((X.fFiles[t].fPages.take q).map tPage))).box 26 [σ.bl 0 0, σ.bl 0 1]).box 26 [σ.bl 1 0, σ.bl 1 1]).box 26 [.hd 0, σ.bl 2 1]).box 58 [σ.bl 3 0, .hd 1, σ.bl 3 2, σ.bl 3 3]).put 1 (V.flat false [.bp 0 0])).put 2 (V.flat false [.bp 1 0])).put 3 (V.flat false [.bp 2 0])).put 4 (σ.tm 4)).put 5 (V.flat false [.bp 3 0])).put 6 (V.flat false [.sc (.int .i64 ((q : Int)))]))) (fun q => q ≤ X.fFiles[t].fPages.length) (fun q => X.fFiles[t].fPages.length - q) ?_ ?_
      · skip
        refine SV.again (fun i => [0, 1].getD i 0) 0 ((by first | exact Nat.zero_le _ | (refine ⟨Nat.zero_le _, ?_⟩; simp; done) | (simp; done) | omega)) (pins hE rfl rfl) (VS.le.mk' (le_put (le_put (le_put (le_put (le_put (le_put (le_box (le_box (le_box (le_box (le_new (le_new le_nil)))))) (V.le.keep (ag := false) (xs := [.bp 0 0]) (ys := [.bp 0 0]) rfl rfl ⟨⟨rfl, (gle rfl)⟩, trivial⟩)) (V.le.keep (ag := false) (xs := [.bp 1 0]) (ys := [.bp 1 0]) rfl rfl ⟨⟨rfl, (gle rfl)⟩, trivial⟩)) (V.le.keep (ag := false) (xs := [.bp 2 0]) (ys := [.bp 2 0]) rfl rfl ⟨⟨rfl, (gle rfl)⟩, trivial⟩)) (V.le.keep (ag := false) (xs := [.sc _]) (ys := [.sc _]) rfl rfl ⟨rfl, trivial⟩)) (V.le.keep (ag := false) (xs := [.bp 3 0]) (ys := [.bp 3 0]) rfl rfl ⟨⟨rfl, (gle rfl)⟩, trivial⟩)) (V.le.keep (ag := false) (xs := [.sc _]) (ys := [.sc _]) rfl rfl ⟨(by first | rfl | (show Leaf.sc _ = Leaf.sc _; refine congrArg Leaf.sc ?_; first | rfl | go_num | (simp [cntAll]; done)) | (simp [cntAll]; done) | (simp; omega)), trivial⟩)) ⟨⟨rfl, ⟨rfl, rfl, trivial⟩⟩, ⟨⟨rfl, ⟨rfl, rfl, trivial⟩⟩, ⟨⟨rfl, ⟨⟨rfl, (gle rfl), (gle rfl)⟩, rfl, trivial⟩⟩, ⟨⟨rfl, ⟨rfl, ⟨rfl, (gle rfl), (gle rfl)⟩, rfl, rfl, trivial⟩⟩, trivial⟩⟩⟩⟩ ⟨.inr ⟨_, _, rfl, ?ob2_1, (gle rfl)⟩, ⟨.inr ⟨_, _, rfl, rfl, (gle rfl)⟩, trivial⟩⟩ (new_ob (new_ob nil_ob)) (fun i j hi hj e => inj_list (l := [0, 1]) (by decide) i j hi hj e))
        case ob2_1 =>
          show some (T.seq _ _) = some (T.seq _ _)
          first | rfl | exact congrArg some (congrArg (T.seq _) (by simp))
      · rintro q hq
        refine SV.seq' ?_
        refine SV.seq' ?_
        refine SV.region ?_
        refine SV.op (OpL.ok (nb := 4) (ok_move (v := V.one (.sc _)) (.inl rfl) rfl) rfl (gle rfl)) rfl ?_
        refine SV.op (OpL.ok (nb := 4) (ok_field_bp (b := 0) (o' := 0) (off := 0) rfl rfl fld_impl_Disk_0) rfl (gle rfl)) rfl ?_
        refine SV.op (OpL.ok (nb := 4) (ok_load_bp (b := 0) (i := 0) (ag := false) (m := 1) (ys := [.ro _]) rfl rfl rfl agg_s_impl_File sz_s_impl_File (fun _ => rfl) rfl rfl (gle rfl)) rfl (gle rfl)) rfl ?_
        refine SV.op (OpL.ok (nb := 4) (ok_move (v := V.one (.sc _)) (.inl rfl) rfl) rfl (gle rfl)) rfl ?_
        refine SV.op (OpL.ok (nb := 4) (ok_index (n := 4) (lf := .ro _) rfl elt_impl_File.und sz_impl_File rfl rfl rfl (map_at (by assumption))) rfl (gle rfl)) rfl ?_
        refine SV.op (OpL.ok (nb := 4) (ok_field_el (p := .rp _) (off := 1) rfl rfl rfl fld_impl_File_1) rfl (gle rfl)) rfl ?_
        refine SV.op (OpL.ok (nb := 4) (ok_load_rp (ag := false) (m := 1) (ys := [.ro _]) rfl rfl agg_s_impl_Page sz_s_impl_Page (fun _ => rfl) (gle rfl) rfl) rfl (gle rfl)) rfl ?_
        refine SV.op (OpL.ok (nb := 4) (ok_len (lf := .ro _) rfl elt_impl_Page.und rfl rfl) rfl (gle rfl)) rfl ?_
        refine SV.op (OpL.ok (nb := 4) (ok_s2 (x := .tmp 36) (x' := .tmp 43) (VScal.one rfl) (VScal.one rfl) (fun ρ h1 h2 w => by go_simp; (try go_bits); with_reducible rfl) rfl) rfl (gle rfl)) rfl ?_
        refine SV.nil ?_
        refine SV.tn ?_
        refine SV.cond rfl (fun hc1 => ?_) (fun hc1 => ?_)
        · skip   -- c1.T
          have hql : q < X.fFiles[t].fPages.length := by simpa using hc1
          have hp : X.fFiles[t].fPages[q]? = some X.fFiles[t].fPages[q] := by simp [hql]
          have hPR : X.fFiles[t].fPages[q].length ≤ 1000000000 := by have h0 := wtAll_at wtPage X.fFiles[t].fPages q hql; have h1 := wt_file_at X.fFiles t htl; have h8 : wtDisk X = wtFiles X.fFiles := rfl; have h9 : wtFile X.fFiles[t] = wtAll wtPage X.fFiles[t].fPages := rfl; have h10 : wtPage X.fFiles[t].fPages[q] = X.fFiles[t].fPages[q].length := rfl; omega
          refine SV.skip ?_
          refine SV.tn ?_
          refine SV.seq' ?_
          refine SV.block ?_
          refine SV.draw [.q 0, .q 1, .q 3, .q 4, .q 5, .q 6, .q 7, .q 8, .q 9, .q 10, .q 11, .q 12, .m 2, .m 13, .q 14, .m 15, .m 16, .q 17] [18] (by kernel_rfl) (by kernel_rfl) ?_
          refine DW.q rfl (ok_field_bp (b := 3) (o' := 0) (off := 1) rfl rfl fld_impl_File_1) rfl rfl (gle rfl) (fun _ _ _ _ h => h) ?_
          refine DW.q rfl (ok_load_bp (b := 3) (i := 1) (ag := false) (m := 1) (ys := [.hd 1]) rfl rfl rfl agg_s_impl_Page sz_s_impl_Page (fun _ => rfl) rfl rfl (gle rfl)) rfl rfl (gle rfl) (fun _ _ _ _ h => h) ?_
          refine DW.q rfl (ok_field_bp (b := 0) (o' := 0) (off := 0) rfl rfl fld_impl_Disk_0) rfl rfl (gle rfl) (fun _ _ _ _ h => h) ?_
          refine DW.q rfl (ok_load_bp (b := 0) (i := 0) (ag := false) (m := 1) (ys := [.ro _]) rfl rfl rfl agg_s_impl_File sz_s_impl_File (fun _ => rfl) rfl rfl (gle rfl)) rfl rfl (gle rfl) (fun _ _ _ _ h => h) ?_
          refine DW.q rfl (ok_move (v := V.one (.sc _)) (.inl rfl) rfl) rfl rfl (gle rfl) (fun _ _ _ _ h => h) ?_
          refine DW.q rfl (ok_index (n := 4) (lf := .ro _) rfl elt_impl_File.und sz_impl_File rfl rfl rfl (map_at (by assumption))) rfl rfl (gle rfl) (fun _ _ _ _ h => h) ?_
          refine DW.q rfl (ok_field_el (p := .rp _) (off := 1) rfl rfl rfl fld_impl_File_1) rfl rfl (gle rfl) (fun _ _ _ _ h => h) ?_
          refine DW.q rfl (ok_load_rp (ag := false) (m := 1) (ys := [.ro _]) rfl rfl agg_s_impl_Page sz_s_impl_Page (fun _ => rfl) (gle rfl) rfl) rfl rfl (gle rfl) (fun _ _ _ _ h => h) ?_
          refine DW.q rfl (ok_move (v := V.one (.sc _)) (.inl rfl) rfl) rfl rfl (gle rfl) (fun _ _ _ _ h => h) ?_
          refine DW.q rfl (ok_index (n := 1) (lf := .ro _) rfl elt_impl_Page.und sz_impl_Page rfl rfl rfl (map_at (by assumption))) rfl rfl (gle rfl) (fun _ _ _ _ h => h) ?_
          refine DW.q rfl (ok_field_el (p := .rp _) (off := 0) rfl rfl rfl fld_impl_Page_0) rfl rfl (gle rfl) (fun _ _ _ _ h => h) ?_
          refine DW.q rfl (ok_load_rp (ag := false) (m := 1) (ys := [.ro _]) rfl rfl agg_s_impl_Row sz_s_impl_Row (fun _ => rfl) (gle rfl) rfl) rfl rfl (gle rfl) (fun _ _ _ _ h => h) ?_
          refine DW.m [2] rfl (ok_lit0 (kk := 2) elt_impl_Row rfl rfl rfl (gle rfl)) rfl (gle rfl) (gle rfl) (.inl rfl) (fun j hj => by
              simp only [List.mem_cons, List.not_mem_nil, or_false] at hj
              rcases hj with rfl
              · exact .inr ⟨(gle rfl), (gle rfl), .inl rfl⟩) ?_
          refine DW.m [3, 2] rfl (ok_append_ro (kk := 3) elt_impl_Row (ls := .hd 2) (lx := .ro _) rfl rfl rfl rfl rfl rfl (flat_impl_Row _) (by first | omega | (simp only [List.length_map]; omega) | (simp; done) | (simp; omega)) rfl (gle rfl)) rfl (gle rfl) (gle rfl) (.inr ⟨2, rfl, .inl (by decide)⟩) (fun j hj => by
              simp only [List.mem_cons, List.not_mem_nil, or_false] at hj
              rcases hj with rfl | rfl
              · exact .inr ⟨(gle rfl), (gle rfl), .inr ⟨2, rfl, by decide⟩⟩
              · exact .inl (by decide)) ?_
          refine DW.q rfl (ok_build (zs := [.nl _]) (ys := [.hd 3]) (qs := [(0, [.hd 3])]) (pl := fun i => ([(0, 1)] : List (Nat × Nat))[i]?) rfl zero_impl_Page ⟨rfl, ⟨3, by decide, sz_impl_Row⟩, trivial⟩ ⟨⟨rfl, false, rfl, (fun _ => rfl), rfl⟩, trivial⟩ bld_impl_Page rfl) rfl rfl (gle rfl) (fun _ _ _ _ h => h) ?_
          refine DW.m [4, 3, 2] rfl (ok_lit1 (kk := 4) elt_impl_Page (ag := true) (xs := [.hd 3]) rfl rfl rfl rfl (fun h => by cases h) (outs_c rfl outs_n) (by simp [two]) rfl (gle rfl)) rfl (gle rfl) (gle rfl) (.inl rfl) (fun j hj => by
              simp only [List.mem_cons, List.not_mem_nil, or_false] at hj
              rcases hj with rfl | rfl | rfl
              · exact .inr ⟨(gle rfl), (gle rfl), .inl rfl⟩
              · exact .inl (by decide)
              · exact .inl (by decide)) ?_
          refine DW.m [4, 3, 2] rfl (ok_append (kk := 5) elt_impl_Page (ls := .hd 1) (lx := .hd 4) rfl rfl rfl rfl rfl rfl (by intro i h1 h2; cases h1; cases h2) (by first | omega | (simp only [List.length_map]; omega) | (simp; done) | (simp; omega)) rfl (gle rfl)) rfl (gle rfl) (gle rfl) (.inr ⟨1, rfl, .inr ⟨(gle rfl), rfl⟩⟩) (fun j hj => by
              simp only [List.mem_cons, List.not_mem_nil, or_false] at hj
              rcases hj with rfl | rfl | rfl
              · exact .inl (by decide)
              · exact .inl (by decide)
              · exact .inl (by decide)) ?_
          refine DW.q rfl (ok_field_bp (b := 3) (o' := 0) (off := 1) rfl rfl fld_impl_File_1) rfl rfl (gle rfl) (fun _ _ _ _ h => h) ?_
          refine DW.stores ?_
          refine SV.z rfl (ok_store_bp (b := 3) (i := 1) (m := 1) (ag := false) (zs := [.hd 5]) (ys := [.sc _, .hd 5, .sc _, .sc _]) rfl rfl rfl rfl sz_s_impl_Page (fun _ => rfl) rfl (gle rfl) rfl rfl rfl) rfl ?_
          refine SV.zend ?_
          refine SV.bn ?_
          refine SV.tn ?_
          refine SV.region ?_
          refine SV.op (OpL.ok (nb := 4) (ok_move (v := V.one (.sc _)) (.inl rfl) rfl) rfl (gle rfl)) rfl ?_
          refine SV.op (OpL.ok (nb := 4) (ok_s2 (x := .tmp 45) (x' := .const ((Value.int IntKind.i64 1))) (VScal.one rfl) (VScal.one rfl) (fun ρ h1 h2 w => by go_simp; (try go_bits); with_reducible rfl) rfl) rfl (gle rfl)) rfl ?_
          refine SV.op (OpL.ok (nb := 4) (ok_move (v := V.one (.sc _)) (.inr rfl) rfl) rfl (gle rfl)) rfl ?_
          refine SV.nil ?_
          refine SV.tn ?_
          refine SV.again (fun i => [0, 5].getD i 0) (q + 1) (⟨by omega, by omega⟩) (pins hE rfl rfl) (VS.le.mk' (le_put (le_put (le_put (le_put (le_put (le_put (le_box (le_box (le_box (le_box (le_new (le_new le_nil)))))) (V.le.keep (ag := false) (xs := [.bp 0 0]) (ys := [.bp 0 0]) rfl rfl ⟨⟨rfl, (gle rfl)⟩, trivial⟩)) (V.le.keep (ag := false) (xs := [.bp 1 0]) (ys := [.bp 1 0]) rfl rfl ⟨⟨rfl, (gle rfl)⟩, trivial⟩)) (V.le.keep (ag := false) (xs := [.bp 2 0]) (ys := [.bp 2 0]) rfl rfl ⟨⟨rfl, (gle rfl)⟩, trivial⟩)) (V.le.keep (ag := false) (xs := [.sc _]) (ys := [.sc _]) rfl rfl ⟨rfl, trivial⟩)) (V.le.keep (ag := false) (xs := [.bp 3 0]) (ys := [.bp 3 0]) rfl rfl ⟨⟨rfl, (gle rfl)⟩, trivial⟩)) (V.le.keep (ag := false) (xs := [.sc _]) (ys := [.sc _]) rfl rfl ⟨(by first | rfl | (show Leaf.sc _ = Leaf.sc _; refine congrArg Leaf.sc ?_; first | rfl | go_num | (simp [cntAll]; done)) | (simp [cntAll]; done) | (simp; omega)), trivial⟩)) ⟨⟨rfl, ⟨rfl, rfl, trivial⟩⟩, ⟨⟨rfl, ⟨rfl, rfl, trivial⟩⟩, ⟨⟨rfl, ⟨⟨rfl, (gle rfl), (gle rfl)⟩, rfl, trivial⟩⟩, ⟨⟨rfl, ⟨rfl, ⟨rfl, (gle rfl), (gle rfl)⟩, rfl, rfl, trivial⟩⟩, trivial⟩⟩⟩⟩ ⟨.inr ⟨_, _, rfl, ?ob3_1, (gle rfl)⟩, ⟨.inr ⟨_, _, rfl, rfl, (gle rfl)⟩, trivial⟩⟩ (new_ob (new_ob nil_ob)) (fun i j hi hj e => inj_list (l := [0, 5]) (by decide) i j hi hj e))
          case ob3_1 =>
            show some (T.seq _ _) = some (T.seq _ _)
            rw [List.take_succ_eq_append_getElem hql, List.map_append]
            first | rfl | (simp [tPage]; done)
        · skip   -- c1.F
          have hqe : X.fFiles[t].fPages.take q = X.fFiles[t].fPages := by have : ¬ q < X.fFiles[t].fPages.length := (by simpa using hc1); exact List.take_of_length_le (by omega)
          refine SV.exit ?_
          refine SV.te ?_
          refine SV.te ?_
          refine SV.bh ?_
          refine SV.tn ?_
          refine SV.region ?_
          refine SV.op (OpL.ok (nb := 4) (ok_field_bp (b := 2) (o' := 0) (off := 0) rfl rfl fld_impl_Disk_0) rfl (gle rfl)) rfl ?_
          refine SV.op (OpL.ok (nb := 4) (ok_load_bp (b := 2) (i := 0) (ag := false) (m := 1) (ys := [.hd 0]) rfl rfl rfl agg_s_impl_File sz_s_impl_File (fun _ => rfl) rfl rfl (gle rfl)) rfl (gle rfl)) rfl ?_
          refine SV.op (OpL.ok (nb := 4) (ok_load_bp (b := 3) (i := 0) (ag := true) (m := 4) (ys := [.sc _, .hd 1, .sc _, .sc _]) rfl rfl rfl agg_impl_File sz_impl_File (fun h => by cases h) rfl rfl (gle rfl)) rfl (gle rfl)) rfl ?_
          refine SV.op (OpMk.ok (ok_lit1 (kk := 2) elt_impl_File (ag := true) (xs := [.sc _, .hd 1, .sc _, .sc _]) rfl rfl rfl rfl (fun h => by cases h) (outs_c rfl (outs_c rfl (outs_c rfl (outs_c rfl outs_n)))) (by simp [two]) rfl (gle rfl))) rfl ?_
          refine SV.op (OpMk.ok (ok_append (kk := 3) elt_impl_File (ls := .hd 0) (lx := .hd 2) rfl rfl rfl rfl rfl rfl (by intro i h1 h2; cases h1; cases h2) (by first | omega | (simp only [List.length_map]; omega) | (simp; done) | (simp; omega)) rfl (gle rfl))) rfl ?_
          refine SV.op (OpL.ok (nb := 4) (ok_field_bp (b := 2) (o' := 0) (off := 0) rfl rfl fld_impl_Disk_0) rfl (gle rfl)) rfl ?_
          refine SV.op (ok_store_bp (b := 2) (i := 0) (m := 1) (ag := false) (zs := [.hd 3]) (ys := [.hd 3, .sc _]) rfl rfl rfl rfl sz_s_impl_File (fun _ => rfl) rfl (gle rfl) rfl rfl rfl) rfl ?_
          refine SV.nil ?_
          refine SV.bn ?_
          refine SV.tn ?_
          refine SV.region ?_
          refine SV.op (OpL.ok (nb := 4) (ok_move (v := V.one (.sc _)) (.inl rfl) rfl) rfl (gle rfl)) rfl ?_
          refine SV.op (OpL.ok (nb := 4) (ok_s2 (x := .tmp 15) (x' := .const ((Value.int IntKind.i64 1))) (VScal.one rfl) (VScal.one rfl) (fun ρ h1 h2 w => by go_simp; (try go_bits); with_reducible rfl) rfl) rfl (gle rfl)) rfl ?_
          refine SV.op (OpL.ok (nb := 4) (ok_move (v := V.one (.sc _)) (.inr rfl) rfl) rfl (gle rfl)) rfl ?_
          refine SV.nil ?_
          refine SV.tn ?_
          refine SV.again (fun i => [3].getD i 0) (t + 1) (⟨by omega, by omega⟩) (pins hE rfl rfl) (VS.le.mk' (le_put (le_put (le_put (le_put (le_box (le_box (le_box (le_new le_nil)))) (V.le.keep (ag := false) (xs := [.bp 0 0]) (ys := [.bp 0 0]) rfl rfl ⟨⟨rfl, (gle rfl)⟩, trivial⟩)) (V.le.keep (ag := false) (xs := [.bp 1 0]) (ys := [.bp 1 0]) rfl rfl ⟨⟨rfl, (gle rfl)⟩, trivial⟩)) (V.le.keep (ag := false) (xs := [.bp 2 0]) (ys := [.bp 2 0]) rfl rfl ⟨⟨rfl, (gle rfl)⟩, trivial⟩)) (V.le.keep (ag := false) (xs := [.sc _]) (ys := [.sc _]) rfl rfl ⟨(by first | rfl | (show Leaf.sc _ = Leaf.sc _; refine congrArg Leaf.sc ?_; first | rfl | go_num | (simp [cntAll]; done)) | (simp [cntAll]; done) | (simp; omega)), trivial⟩)) ⟨⟨rfl, ⟨rfl, rfl, trivial⟩⟩, ⟨⟨rfl, ⟨rfl, rfl, trivial⟩⟩, ⟨⟨rfl, ⟨⟨rfl, (gle rfl), (gle rfl)⟩, rfl, trivial⟩⟩, trivial⟩⟩⟩ ⟨.inr ⟨_, _, rfl, ?ob4_0, (gle rfl)⟩, trivial⟩ (new_ob nil_ob) (fun i j hi hj e => inj_list (l := [3]) (by decide) i j hi hj e))
          case ob4_0 =>
            show some (T.seq _ _) = some (T.seq _ _)
            rw [List.take_succ_eq_append_getElem htl, List.map_append]
            first | rfl | (simp [tFile, hqe]; done)
    · skip   -- c0.F
      have hte : X.fFiles.take t = X.fFiles := by have : ¬ t < X.fFiles.length := (by simpa using hc0); exact List.take_of_length_le (by omega)
      refine SV.exit ?_
      refine SV.te ?_
      refine SV.te ?_
      refine SV.bh ?_
      refine SV.tn ?_
      refine SV.seq' ?_
      refine SV.region ?_
      refine SV.op (OpL.ok (nb := 3) (ok_load_bp (b := 2) (i := 0) (ag := true) (m := 2) (ys := [.hd 0, .sc _]) rfl rfl rfl agg_impl_Disk sz_impl_Disk (fun h => by cases h) rfl rfl (gle rfl)) rfl (gle rfl)) rfl ?_
      refine SV.op (ok_store_bp (b := 1) (i := 0) (m := 2) (ag := true) (zs := [.hd 0, .sc _]) (ys := [.hd 0, .sc _]) rfl rfl rfl rfl sz_impl_Disk (fun h => by cases h) rfl (gle rfl) rfl rfl rfl) rfl ?_
      refine SV.nil ?_
      refine SV.tn ?_
      refine SV.ret ?_
      apply SV.done (hf := Tryz.results33) (ht := rfl) (he := .inl rfl)
      case hr => exact (ResAll.cons (ResOk.cell (b := 1) (ag := true) (xs := [.hd 0, .sc _]) rfl rfl agg_impl_Disk sz_impl_Disk (fun h => by cases h)) ResAll.nil')
      case h2 => simp [two]
      refine ⟨rfl, ⟨?_, ?_, trivial⟩, trivial⟩ <;> first | (show some (T.seq _ _) = some (T.seq _ _); rw [hte]; done) | rfl
end Go.Proofs.YtjdjceohlcimaaaGreatDoor
/- ChecksumOf, the program's and the reference's, by contract. -/
namespace Go.Proofs.YtjdjceohlcimaaaGreatDoor
open Go.RowKit
theorem byte_at (s : ByteArray) (k : Nat) (h : k < s.size) : s.data.toList[k]'(by simpa using h) = s[k] := by simp; rfl
set_option maxRecDepth 100000 in
theorem scheck (s : ByteArray) (w : World) (hs : s.size ≤ 1000000000000) : Calls Tryz.prog 24 #[.string s] w fun e w' => e = .returned (.int .i64 (ck s.data.toList : Nat)) ∧ w = w' := by
  have HSL := Lib.hid (show s.data.toList.length = s.size by simp)
  go_enter Tryz.func24, Tryz.ntmps24
  go_wp2_with fail
  go_loopw [3, 4] (fun n i wr => ∃ (t m : Nat), n = .int .i64 m ∧ i = .int .i64 t ∧ t ≤ s.size ∧ m < 65521 ∧ Hid (m = ck (s.data.toList.take t)) ∧ Hid (w = wr)) (fun _ i _ => s.size - (intOf i).toNat)
  case atStart => exact ⟨0, 11, rfl, rfl, Nat.zero_le _, by omega, rfl, rfl⟩
  case round =>
    obtain ⟨t, m, rfl, rfl, ht, hm, hc, hw⟩ := hrel
    by_cases hlt : t < s.size
    · have hnx := ck_next s.data.toList t (by rw [HSL.out]; exact hlt)
      rw [byte_at s t hlt] at hnx
      have HNX := Lib.hid hnx
      have hb : s[t].toNat < 256 := UInt8.toNat_lt _
      clear hnx
      go_wp2_with fail
      go_roundw
      case rel => exact ⟨t + 1, _, rfl, by go_num, by omega, Nat.mod_lt _ (by decide), (by show _ = _; rw [HNX.out, ← hc.out]; rfl), hw⟩
      case measure => simp [intOf]; omega
    · have hk : s.data.toList.take t = s.data.toList := List.take_of_length_le (by rw [HSL.out]; omega)
      rw [hk] at hc
      clear hk
      go_wp2_with fail
      go_ret
      exact ⟨by rw [hc.out]; rfl, hw.out⟩
set_option maxRecDepth 100000 in
theorem icheck (s : ByteArray) (w : World) (hs : s.size ≤ 1000000000000) : Calls Tryz.prog 23 #[.string s] w fun e w' => e = .returned (.int .i64 (ck s.data.toList : Nat)) ∧ w = w' := by
  have HSL := Lib.hid (show s.data.toList.length = s.size by simp)
  go_enter Tryz.func23, Tryz.ntmps23
  go_wp2_with fail
  go_loopw [3, 7] (fun n i wr => ∃ (t m : Nat), n = .int .i64 m ∧ i = .int .i64 t ∧ t ≤ s.size ∧ m < 65521 ∧ Hid (m = ck (s.data.toList.take t)) ∧ Hid (w = wr)) (fun _ i _ => s.size - (intOf i).toNat)
  case atStart => exact ⟨0, 11, rfl, rfl, Nat.zero_le _, by omega, rfl, rfl⟩
  case round =>
    obtain ⟨t, m, rfl, rfl, ht, hm, hc, hw⟩ := hrel
    by_cases hlt : t < s.size
    · have hnx := ck_next s.data.toList t (by rw [HSL.out]; exact hlt)
      rw [byte_at s t hlt] at hnx
      have HNX := Lib.hid hnx
      have hb : s[t].toNat < 256 := UInt8.toNat_lt _
      clear hnx
      go_wp2_with fail
      go_roundw
      case rel => exact ⟨t + 1, _, rfl, by go_num, by omega, Nat.mod_lt _ (by decide), (by show _ = _; rw [HNX.out, ← hc.out]; unfold ckStep; rw [Nat.mul_comm m 37]; rfl), hw⟩
      case measure => simp [intOf]; omega
    · have hk : s.data.toList.take t = s.data.toList := List.take_of_length_le (by rw [HSL.out]; omega)
      rw [hk] at hc
      clear hk
      go_wp2_with fail
      go_ret
      exact ⟨by rw [hc.out]; rfl, hw.out⟩
end Go.Proofs.YtjdjceohlcimaaaGreatDoor
/- The reference's SealFile: told by trees. -/
namespace Go.Proofs.YtjdjceohlcimaaaGreatDoor
open Go Go.RowKit V
set_option linter.unusedVariables false
theorem DiskD.atI_cases (F : List FileD) (name : Int) : (DiskD.at? F name = none ∧ DiskD.atI F name = -1) ∨ ∃ (k : Nat) (f : FileD), DiskD.at? F name = some k ∧ F[k]? = some f ∧ DiskD.atI F name = (k : Int) := by
  unfold DiskD.atI
  cases h : DiskD.at? F name with
  | none => exact .inl ⟨rfl, rfl⟩
  | some k => obtain ⟨f, hf, -⟩ := DiskD.at_some h; exact .inr ⟨k, f, rfl, hf, rfl⟩
theorem fmtPages_len (P : List (List R)) : (R.fmtPages P).length ≤ 218 * P.length := by
  have h : ∀ Q : List (List R), (Q.flatMap R.pageTxt).length ≤ 218 * Q.length := fun Q => by
    induction Q with
    | nil => simp
    | cons q Q ih =>
      have h1 := fmtRows_length q
      have h2 : (R.pageTxt q).length = (fmtRows q).length + 2 := by simp [R.pageTxt]
      rw [List.flatMap_cons, List.length_append, List.length_cons]
      omega
  unfold R.fmtPages
  split
  · exact h P
  · simp
theorem vat_s' (X : DiskD) (name ki : Int) (hX : goodDisk X) (h : DiskD.atI X.fFiles name = ki) : VC Tryz.prog 34 [(true, tDisk X), (false, [.lit (.int .i64 name)])] false [(false, [.lit (.int .i64 ki)])] := h ▸ vat_s X name hX
theorem vck_s (l : List UInt8) (hl : l.length ≤ 1000000000000) : VC Tryz.prog 24 [(false, [.lit (.string ⟨l.toArray⟩)])] false [(false, [.lit (.int .i64 ((ck l : Nat) : Int))])] :=
  VC.plain (ins := [(false, [.string ⟨l.toArray⟩])]) (ag := false) (rs := [.int .i64 ((ck l : Nat) : Int)]) (fun u hu => by rw [List.mem_singleton.1 hu]; rfl) (fun w => (scheck ⟨l.toArray⟩ w (by show l.toArray.size ≤ _; simpa using hl)).mono fun e w' ⟨he, hw⟩ => ⟨he, hw ▸ Below.refl _ _⟩)
set_option maxRecDepth 100000 in
set_option maxHeartbeats 2000000 in
theorem vseal_s0 (X : DiskD) (name ki : Int) (hX : goodDisk X) (hL : wtDisk X ≤ 1000000000) (hki : DiskD.atI X.fFiles name = ki) : VC Tryz.prog 10 [(true, tDisk X), (false, [.lit (.int .i64 (name))])] true [(true, tDisk ((DiskD.sealF X name).getD X)), (false, [.lit (.bool (DiskD.sealF X name).isSome)])] := by
  refine VC.enter Tryz.func10 rfl Tryz.ntmps10 (gle rfl) fun E hE => ?_
  refine SV.seq' ?_
  refine SV.region ?_
  refine SV.op (OpMk.ok (ok_box (kk := 0) (ag := true) (xs := [.ro _, .sc _]) rfl rfl rfl (fun h => by cases h) rfl rfl (gle rfl))) rfl ?_
  refine SV.op (OpMk.ok (ok_alloc (kk := 1) (xs := [.nl _, .sc _]) rfl rfl zero_impl_Disk ⟨rfl, ⟨4, by decide, sz_impl_File⟩, rfl, rfl, trivial⟩ rfl (gle rfl))) rfl ?_
  refine SV.op (OpL.ok (nb := 2) (ok_move (v := V.one (.sc _)) (.inr rfl) rfl) rfl (gle rfl)) rfl ?_
  refine SV.nil ?_
  refine SV.tn ?_
  refine SV.seq' ?_
  refine SV.region ?_
  refine SV.op (OpL.ok (nb := 2) (ok_load_bp (b := 0) (i := 0) (ag := true) (m := 2) (ys := [.ro _, .sc _]) rfl rfl rfl agg_impl_Disk sz_impl_Disk (fun h => by cases h) rfl rfl (gle rfl)) rfl (gle rfl)) rfl ?_
  refine SV.op (OpMk.ok (ok_call (ls := [(true, [.hd 0, .sc _])]) rfl rfl ⟨_, _, Tryz.func33, rfl, by decide⟩ (vcopy_s X hL) ⟨⟨[.ro _, .sc _], rfl, ⟨rfl, rfl, trivial⟩⟩, trivial⟩ rfl (gle rfl))) rfl ?_
  refine SV.op (OpMk.ok (ok_alloc (kk := 2) (xs := [.nl _, .sc _]) rfl rfl zero_impl_Disk ⟨rfl, ⟨4, by decide, sz_impl_File⟩, rfl, rfl, trivial⟩ rfl (gle rfl))) rfl ?_
  refine SV.op (ok_store_bp (b := 2) (i := 0) (m := 2) (ag := true) (zs := [.hd 0, .sc _]) (ys := [.hd 0, .sc _]) rfl rfl rfl rfl sz_impl_Disk (fun h => by cases h) rfl (gle rfl) rfl rfl rfl) rfl ?_
  refine SV.nil ?_
  refine SV.tn ?_
  refine SV.seq' ?_
  refine SV.region ?_
  refine SV.op (OpL.ok (nb := 3) (ok_load_bp (b := 0) (i := 0) (ag := true) (m := 2) (ys := [.ro _, .sc _]) rfl rfl rfl agg_impl_Disk sz_impl_Disk (fun h => by cases h) rfl rfl (gle rfl)) rfl (gle rfl)) rfl ?_
  refine SV.op (OpL.ok (nb := 3) (ok_move (v := V.one (.sc _)) (.inl rfl) rfl) rfl (gle rfl)) rfl ?_
  refine SV.op (OpMk.ok (ok_call (ls := [(false, [.sc _])]) rfl rfl ⟨_, _, Tryz.func34, rfl, by decide⟩ (vat_s' X name ki hX hki) ⟨⟨[.ro _, .sc _], rfl, ⟨rfl, rfl, trivial⟩⟩, ⟨[.sc _], rfl, ⟨rfl, trivial⟩⟩, trivial⟩ rfl (gle rfl))) rfl ?_
  refine SV.op (OpL.ok (nb := 3) (ok_move (v := V.one (.sc _)) (.inr rfl) rfl) rfl (gle rfl)) rfl ?_
  refine SV.nil ?_
  refine SV.tn ?_
  refine SV.seq' ?_
  refine SV.seq' ?_
  refine SV.region ?_
  refine SV.op (OpL.ok (nb := 3) (ok_load_bp (b := 0) (i := 0) (ag := true) (m := 2) (ys := [.ro _, .sc _]) rfl rfl rfl agg_impl_Disk sz_impl_Disk (fun h => by cases h) rfl rfl (gle rfl)) rfl (gle rfl)) rfl ?_
  refine SV.op (OpMk.ok (ok_call (ls := [(false, [.sc _])]) rfl rfl ⟨_, _, Tryz.func35, rfl, by decide⟩ (vokdisk_s X hX hL) ⟨⟨[.ro _, .sc _], rfl, ⟨rfl, rfl, trivial⟩⟩, trivial⟩ rfl (gle rfl))) rfl ?_
  refine SV.op (OpL.ok (nb := 3) (ok_s1 (x := .tmp 14) (VScal.one rfl) (fun ρ h1 w => by go_simp; (try go_bits); with_reducible rfl) rfl) rfl (gle rfl)) rfl ?_
  refine SV.op (OpL.ok (nb := 3) (ok_move (v := V.one (.sc _)) (.inl rfl) rfl) rfl (gle rfl)) rfl ?_
  refine SV.split (d := 16) rfl (fun hg0 => ?_) (fun hg0 => ?_)
  · skip   -- g0.T
    have ho : DiskD.sealF X name = none := DiskD.sealF_none (DiskD.file_bad (by simpa using hg0))
    refine SV.opN rfl rfl rfl (gle rfl) rfl rfl rfl (gle rfl) ?_
    refine SV.opN rfl rfl rfl (gle rfl) rfl rfl rfl (gle rfl) ?_
    refine SV.op (OpL.ok (nb := 3) (ok_pickT (v := V.one (.sc _)) rfl rfl rfl) rfl (gle rfl)) rfl ?_
    refine SV.op (OpL.ok (nb := 3) (ok_move (v := V.one (.sc _)) (.inl rfl) rfl) rfl (gle rfl)) rfl ?_
    refine SV.split (d := 20) rfl (fun hg1 => ?_) (fun hg1 => ?_)
    · skip   -- g1.T
      refine SV.opN rfl rfl rfl (gle rfl) rfl rfl rfl (gle rfl) ?_
      refine SV.opN rfl rfl rfl (gle rfl) rfl rfl rfl (gle rfl) ?_
      refine SV.opN rfl rfl rfl (gle rfl) rfl rfl rfl (gle rfl) ?_
      refine SV.opN rfl rfl rfl (gle rfl) rfl rfl rfl (gle rfl) ?_
      refine SV.opN rfl rfl rfl (gle rfl) rfl rfl rfl (gle rfl) ?_
      refine SV.opN rfl rfl rfl (gle rfl) rfl rfl rfl (gle rfl) ?_
      refine SV.op (OpL.ok (nb := 3) (ok_pickT (v := V.one (.sc _)) rfl rfl rfl) rfl (gle rfl)) rfl ?_
      refine SV.nil ?_
      refine SV.tn ?_
      refine SV.cond rfl (fun hc0 => ?_) (fun hc0 => ?_)
      · skip   -- c0.T
        refine SV.seq' ?_
        refine SV.region ?_
        refine SV.op (OpL.ok (nb := 3) (ok_load_bp (b := 2) (i := 0) (ag := true) (m := 2) (ys := [.hd 0, .sc _]) rfl rfl rfl agg_impl_Disk sz_impl_Disk (fun h => by cases h) rfl rfl (gle rfl)) rfl (gle rfl)) rfl ?_
        refine SV.op (ok_store_bp (b := 1) (i := 0) (m := 2) (ag := true) (zs := [.hd 0, .sc _]) (ys := [.hd 0, .sc _]) rfl rfl rfl rfl sz_impl_Disk (fun h => by cases h) rfl (gle rfl) rfl rfl rfl) rfl ?_
        refine SV.op (OpL.ok (nb := 3) (ok_move (v := V.one (.sc _)) (.inr rfl) rfl) rfl (gle rfl)) rfl ?_
        refine SV.nil ?_
        refine SV.tn ?_
        refine SV.ret ?_
        refine SV.tr ?_
        apply SV.done (hf := Tryz.results10) (ht := rfl) (he := .inl rfl)
        case hr => exact (ResAll.cons (ResOk.cell (b := 1) (ag := true) (xs := [.hd 0, .sc _]) rfl rfl agg_impl_Disk sz_impl_Disk (fun h => by cases h)) (ResAll.cons (ResOk.tmp (ag := false) (xs := [.sc _]) rfl) ResAll.nil'))
        case h2 => simp [two]
        refine ⟨rfl, ⟨?_, ?_, trivial⟩, ⟨rfl, ⟨?_, trivial⟩, trivial⟩⟩ <;> (rw [ho]; first | rfl | (show some (T.seq _ _) = some (T.seq _ _); simp [tFile, List.map_set]; done))
      · skip   -- c0.F
        cases hc0
    · skip   -- g1.F
      simp at hg1
  · skip   -- g0.F
    have hok : DiskD.okD X = true := by simpa using hg0
    refine SV.opY (OpL.ok (nb := 3) (ok_move (v := V.one (.sc _)) (.inl rfl) rfl) rfl (gle rfl)) rfl rfl rfl (gle rfl) rfl rfl ?_
    refine SV.opY (OpL.ok (nb := 3) (ok_s2 (x := .tmp 17) (x' := .const ((Value.int IntKind.i64 0))) (VScal.one rfl) (VScal.one rfl) (fun ρ h1 h2 w => by go_simp; (try go_bits); with_reducible rfl) rfl) rfl (gle rfl)) rfl rfl rfl (gle rfl) rfl rfl ?_
    refine SV.op (OpL.ok (nb := 3) (ok_pickF (v := V.one (.sc _)) rfl rfl rfl) rfl (gle rfl)) rfl ?_
    refine SV.op (OpL.ok (nb := 3) (ok_move (v := V.one (.sc _)) (.inl rfl) rfl) rfl (gle rfl)) rfl ?_
    refine SV.split (d := 20) rfl (fun hg2 => ?_) (fun hg2 => ?_)
    · skip   -- g2.T
      have hk : DiskD.at? X.fFiles name = none := by
        rcases DiskD.atI_cases X.fFiles name with h | ⟨k, f, h1, h2, h3⟩
        · exact h.1
        · exfalso; simp at hg2; omega
      have ho : DiskD.sealF X name = none := DiskD.sealF_none (DiskD.file_none hk)
      refine SV.opN rfl rfl rfl (gle rfl) rfl rfl rfl (gle rfl) ?_
      refine SV.opN rfl rfl rfl (gle rfl) rfl rfl rfl (gle rfl) ?_
      refine SV.opN rfl rfl rfl (gle rfl) rfl rfl rfl (gle rfl) ?_
      refine SV.opN rfl rfl rfl (gle rfl) rfl rfl rfl (gle rfl) ?_
      refine SV.opN rfl rfl rfl (gle rfl) rfl rfl rfl (gle rfl) ?_
      refine SV.opN rfl rfl rfl (gle rfl) rfl rfl rfl (gle rfl) ?_
      refine SV.op (OpL.ok (nb := 3) (ok_pickT (v := V.one (.sc _)) rfl rfl rfl) rfl (gle rfl)) rfl ?_
      refine SV.nil ?_
      refine SV.tn ?_
      refine SV.cond rfl (fun hc1 => ?_) (fun hc1 => ?_)
      · skip   -- c1.T
        refine SV.seq' ?_
        refine SV.region ?_
        refine SV.op (OpL.ok (nb := 3) (ok_load_bp (b := 2) (i := 0) (ag := true) (m := 2) (ys := [.hd 0, .sc _]) rfl rfl rfl agg_impl_Disk sz_impl_Disk (fun h => by cases h) rfl rfl (gle rfl)) rfl (gle rfl)) rfl ?_
        refine SV.op (ok_store_bp (b := 1) (i := 0) (m := 2) (ag := true) (zs := [.hd 0, .sc _]) (ys := [.hd 0, .sc _]) rfl rfl rfl rfl sz_impl_Disk (fun h => by cases h) rfl (gle rfl) rfl rfl rfl) rfl ?_
        refine SV.op (OpL.ok (nb := 3) (ok_move (v := V.one (.sc _)) (.inr rfl) rfl) rfl (gle rfl)) rfl ?_
        refine SV.nil ?_
        refine SV.tn ?_
        refine SV.ret ?_
        refine SV.tr ?_
        apply SV.done (hf := Tryz.results10) (ht := rfl) (he := .inl rfl)
        case hr => exact (ResAll.cons (ResOk.cell (b := 1) (ag := true) (xs := [.hd 0, .sc _]) rfl rfl agg_impl_Disk sz_impl_Disk (fun h => by cases h)) (ResAll.cons (ResOk.tmp (ag := false) (xs := [.sc _]) rfl) ResAll.nil'))
        case h2 => simp [two]
        refine ⟨rfl, ⟨?_, ?_, trivial⟩, ⟨rfl, ⟨?_, trivial⟩, trivial⟩⟩ <;> (rw [ho]; first | rfl | (show some (T.seq _ _) = some (T.seq _ _); simp [tFile, List.map_set]; done))
      · skip   -- c1.F
        cases hc1
    · skip   -- g2.F
      obtain ⟨k, f, h1, hx, h3⟩ : ∃ (k : Nat) (f : FileD), DiskD.at? X.fFiles name = some k ∧ X.fFiles[k]? = some f ∧ DiskD.atI X.fFiles name = (k : Int) := by
        rcases DiskD.atI_cases X.fFiles name with h | h
        · exfalso; simp at hg2; omega
        · exact h
      obtain rfl : ki = (k : Int) := hki.symm.trans h3
      have hf := DiskD.sealF_eq (DiskD.file_some hok h1 hx)
      have hkl : k < X.fFiles.length := get_lt hx
      have hP := (hX.1 f (get_mem hx)).2.1
      have hw1 : wtPages f.fPages ≤ wtDisk X := by
        have h4 := wt_file_at X.fFiles k hkl
        have h5 : X.fFiles[k] = f := by have := hx; rw [List.getElem?_eq_getElem hkl] at this; exact Option.some.inj this
        rw [h5] at h4; exact h4
      have hw2 := wt_page_len f.fPages
      have hw3 := flat_wt f.fPages
      have hK : (R.fmtPages f.fPages).length ≤ 1000000000000 := by have := fmtPages_len f.fPages; omega
      refine SV.opY (OpL.ok (nb := 3) (ok_field_bp (b := 0) (o' := 0) (off := 0) rfl rfl fld_impl_Disk_0) rfl (gle rfl)) rfl rfl rfl (gle rfl) rfl rfl ?_
      refine SV.opY (OpL.ok (nb := 3) (ok_load_bp (b := 0) (i := 0) (ag := false) (m := 1) (ys := [.ro _]) rfl rfl rfl agg_s_impl_File sz_s_impl_File (fun _ => rfl) rfl rfl (gle rfl)) rfl (gle rfl)) rfl rfl rfl (gle rfl) rfl rfl ?_
      refine SV.opY (OpL.ok (nb := 3) (ok_move (v := V.one (.sc _)) (.inl rfl) rfl) rfl (gle rfl)) rfl rfl rfl (gle rfl) rfl rfl ?_
      refine SV.opY (OpL.ok (nb := 3) (ok_index (n := 4) (lf := .ro _) rfl elt_impl_File.und sz_impl_File rfl rfl rfl (map_at (by assumption))) rfl (gle rfl)) rfl rfl rfl (gle rfl) rfl rfl ?_
      refine SV.opY (OpL.ok (nb := 3) (ok_field_el (p := .rp _) (off := 3) rfl rfl rfl fld_impl_File_3) rfl (gle rfl)) rfl rfl rfl (gle rfl) rfl rfl ?_
      refine SV.opY (OpL.ok (nb := 3) (ok_load_rp (ag := false) (m := 1) (ys := [.sc _]) rfl rfl agg_bool sz_bool (fun _ => rfl) (gle rfl) rfl) rfl (gle rfl)) rfl rfl rfl (gle rfl) rfl rfl ?_
      refine SV.op (OpL.ok (nb := 3) (ok_pickF (v := V.one (.sc _)) rfl rfl rfl) rfl (gle rfl)) rfl ?_
      refine SV.nil ?_
      refine SV.tn ?_
      refine SV.cond rfl (fun hc2 => ?_) (fun hc2 => ?_)
      · skip   -- c2.T
        have ho : DiskD.sealF X name = none := by rw [hf, if_pos (by simpa using hc2)]
        refine SV.seq' ?_
        refine SV.region ?_
        refine SV.op (OpL.ok (nb := 3) (ok_load_bp (b := 2) (i := 0) (ag := true) (m := 2) (ys := [.hd 0, .sc _]) rfl rfl rfl agg_impl_Disk sz_impl_Disk (fun h => by cases h) rfl rfl (gle rfl)) rfl (gle rfl)) rfl ?_
        refine SV.op (ok_store_bp (b := 1) (i := 0) (m := 2) (ag := true) (zs := [.hd 0, .sc _]) (ys := [.hd 0, .sc _]) rfl rfl rfl rfl sz_impl_Disk (fun h => by cases h) rfl (gle rfl) rfl rfl rfl) rfl ?_
        refine SV.op (OpL.ok (nb := 3) (ok_move (v := V.one (.sc _)) (.inr rfl) rfl) rfl (gle rfl)) rfl ?_
        refine SV.nil ?_
        refine SV.tn ?_
        refine SV.ret ?_
        refine SV.tr ?_
        apply SV.done (hf := Tryz.results10) (ht := rfl) (he := .inl rfl)
        case hr => exact (ResAll.cons (ResOk.cell (b := 1) (ag := true) (xs := [.hd 0, .sc _]) rfl rfl agg_impl_Disk sz_impl_Disk (fun h => by cases h)) (ResAll.cons (ResOk.tmp (ag := false) (xs := [.sc _]) rfl) ResAll.nil'))
        case h2 => simp [two]
        refine ⟨rfl, ⟨?_, ?_, trivial⟩, ⟨rfl, ⟨?_, trivial⟩, trivial⟩⟩ <;> (rw [ho]; first | rfl | (show some (T.seq _ _) = some (T.seq _ _); simp [tFile, List.map_set]; done))
      · skip   -- c2.F
        have ho := hf.trans (if_neg (by simpa using hc2))
        refine SV.skip ?_
        refine SV.tn ?_
        refine SV.seq' ?_
        refine SV.region ?_
        refine SV.op (OpL.ok (nb := 3) (ok_field_bp (b := 2) (o' := 0) (off := 0) rfl rfl fld_impl_Disk_0) rfl (gle rfl)) rfl ?_
        refine SV.op (OpL.ok (nb := 3) (ok_load_bp (b := 2) (i := 0) (ag := false) (m := 1) (ys := [.hd 0]) rfl rfl rfl agg_s_impl_File sz_s_impl_File (fun _ => rfl) rfl rfl (gle rfl)) rfl (gle rfl)) rfl ?_
        refine SV.op (OpL.ok (nb := 3) (ok_move (v := V.one (.sc _)) (.inl rfl) rfl) rfl (gle rfl)) rfl ?_
        refine SV.op (OpL.ok (nb := 3) (ok_index (n := 4) (lf := .hd 0) rfl elt_impl_File.und sz_impl_File rfl rfl rfl (map_at (by assumption))) rfl (gle rfl)) rfl ?_
        refine SV.op (OpL.ok (nb := 3) (ok_field_el (p := .ep 0 _ _ _) (off := 3) rfl rfl (cells_ep rfl (map_at (by assumption)) rfl rfl) fld_impl_File_3) rfl (gle rfl)) rfl ?_
        refine SV.op (ok_store_ep (i := 0) (n := 4) (m := 1) (ag := false) (zs := [.sc _]) rfl rfl rfl rfl (map_at (by assumption)) sz_bool (fun _ => rfl) rfl sz_impl_File (gle rfl) (outs_c rfl outs_n) (by simp [two]) rfl rfl rfl) rfl ?_
        refine SV.nil ?_
        refine SV.tn ?_
        refine SV.seq' ?_
        refine SV.draw [.q 0, .q 1, .q 2, .q 3, .q 4, .q 5, .q 6, .q 7, .q 8, .m 9, .m 10, .q 11, .q 12] [13] (by kernel_rfl) (by kernel_rfl) ?_
        refine DW.q rfl (ok_field_bp (b := 2) (o' := 0) (off := 0) rfl rfl fld_impl_Disk_0) rfl rfl (gle rfl) (fun _ _ _ _ h => h) ?_
        refine DW.q rfl (ok_load_bp (b := 2) (i := 0) (ag := false) (m := 1) (ys := [.hd 0]) rfl rfl rfl agg_s_impl_File sz_s_impl_File (fun _ => rfl) rfl rfl (gle rfl)) rfl rfl (gle rfl) (fun _ _ _ _ h => h) ?_
        refine DW.q rfl (ok_move (v := V.one (.sc _)) (.inl rfl) rfl) rfl rfl (gle rfl) (fun _ _ _ _ h => h) ?_
        refine DW.q rfl (ok_field_bp (b := 0) (o' := 0) (off := 0) rfl rfl fld_impl_Disk_0) rfl rfl (gle rfl) (fun _ _ _ _ h => h) ?_
        refine DW.q rfl (ok_load_bp (b := 0) (i := 0) (ag := false) (m := 1) (ys := [.ro _]) rfl rfl rfl agg_s_impl_File sz_s_impl_File (fun _ => rfl) rfl rfl (gle rfl)) rfl rfl (gle rfl) (fun _ _ _ _ h => h) ?_
        refine DW.q rfl (ok_move (v := V.one (.sc _)) (.inl rfl) rfl) rfl rfl (gle rfl) (fun _ _ _ _ h => h) ?_
        refine DW.q rfl (ok_index (n := 4) (lf := .ro _) rfl elt_impl_File.und sz_impl_File rfl rfl rfl (map_at (by assumption))) rfl rfl (gle rfl) (fun _ _ _ _ h => h) ?_
        refine DW.q rfl (ok_field_el (p := .rp _) (off := 1) rfl rfl rfl fld_impl_File_1) rfl rfl (gle rfl) (fun _ _ _ _ h => h) ?_
        refine DW.q rfl (ok_load_rp (ag := false) (m := 1) (ys := [.ro _]) rfl rfl agg_s_impl_Page sz_s_impl_Page (fun _ => rfl) (gle rfl) rfl) rfl rfl (gle rfl) (fun _ _ _ _ h => h) ?_
        refine DW.m [] rfl (ok_call (ls := [(false, [.sc _])]) rfl rfl ⟨_, _, Tryz.func39, rfl, by decide⟩ (vfpages_s f.fPages hP (by omega) (by omega)) ⟨⟨[.ro _], rfl, ⟨rfl, trivial⟩⟩, trivial⟩ rfl (gle rfl)) rfl (gle rfl) (gle rfl) (.inl rfl) (fun j hj => by cases hj) ?_
        refine DW.m [] rfl (ok_call (ls := [(false, [.sc _])]) rfl rfl ⟨_, _, Tryz.func24, rfl, by decide⟩ (vck_s (R.fmtPages f.fPages) hK) ⟨⟨[.sc _], rfl, ⟨rfl, trivial⟩⟩, trivial⟩ rfl (gle rfl)) rfl (gle rfl) (gle rfl) (.inl rfl) (fun j hj => by cases hj) ?_
        refine DW.q rfl (ok_index (n := 4) (lf := .hd 0) rfl elt_impl_File.und sz_impl_File rfl rfl rfl (set_self (by rw [List.length_map]; exact hkl))) rfl rfl (gle rfl) (fun _ _ _ _ h => h) ?_
        refine DW.q rfl (ok_field_el (p := .ep 0 _ _ _) (off := 2) rfl rfl (cells_ep rfl (set_self (by rw [List.length_map]; exact hkl)) rfl rfl) fld_impl_File_2) rfl rfl (gle rfl) (fun _ _ _ _ h => h) ?_
        refine DW.stores ?_
        refine SV.z rfl (ok_store_ep (i := 0) (n := 4) (m := 1) (ag := false) (zs := [.sc _]) rfl rfl rfl rfl (set_self (by rw [List.length_map]; exact hkl)) sz_int (fun _ => rfl) rfl sz_impl_File (gle rfl) (outs_c rfl outs_n) (by simp [two]) rfl (set_twice (by rfl)) rfl) rfl ?_
        refine SV.zend ?_
        refine SV.tn ?_
        refine SV.seq' ?_
        refine SV.region ?_
        refine SV.op (OpL.ok (nb := 3) (ok_load_bp (b := 2) (i := 0) (ag := true) (m := 2) (ys := [.hd 0, .sc _]) rfl rfl rfl agg_impl_Disk sz_impl_Disk (fun h => by cases h) rfl rfl (gle rfl)) rfl (gle rfl)) rfl ?_
        refine SV.op (ok_store_bp (b := 1) (i := 0) (m := 2) (ag := true) (zs := [.hd 0, .sc _]) (ys := [.hd 0, .sc _]) rfl rfl rfl rfl sz_impl_Disk (fun h => by cases h) rfl (gle rfl) rfl rfl rfl) rfl ?_
        refine SV.op (OpL.ok (nb := 3) (ok_move (v := V.one (.sc _)) (.inr rfl) rfl) rfl (gle rfl)) rfl ?_
        refine SV.nil ?_
        refine SV.tn ?_
        refine SV.ret ?_
        apply SV.done (hf := Tryz.results10) (ht := rfl) (he := .inl rfl)
        case hr => exact (ResAll.cons (ResOk.cell (b := 1) (ag := true) (xs := [.hd 0, .sc _]) rfl rfl agg_impl_Disk sz_impl_Disk (fun h => by cases h)) (ResAll.cons (ResOk.tmp (ag := false) (xs := [.sc _]) rfl) ResAll.nil'))
        case h2 => simp [two]
        refine ⟨rfl, ⟨?_, ?_, trivial⟩, ⟨rfl, ⟨?_, trivial⟩, trivial⟩⟩ <;> (rw [ho]; first | rfl | (show some (T.seq _ _) = some (T.seq _ _); simp [tFile, List.map_set]; done))
end Go.Proofs.YtjdjceohlcimaaaGreatDoor
/- Calls that yield the address of an element of an argument's slice: told by trees. -/
namespace Go.Proofs.YtjdjceohlcimaaaGreatDoor.V
open Go Go.RowKit
set_option linter.unusedVariables false
variable {P : Program} {E : Env} {N nb : Nat} {σ : VS} {o : Oper} {w : World} {G : Ghost}
def VPt (P : Program) (f : FuncId) (ins : List (Bool × List T)) (n : Nat) (r : Option Nat) : Prop := ∀ (w : World) (vs : List Value), ArgsIn (Env.of w) w ins vs → Calls P f vs.toArray w fun e w' => Below w.heap.size w w' ∧
  (r = none → e = .returned (.tuple #[.pointer none, .bool false])) ∧ ∀ k, r = some k → ∀ (us : List Value) (b q N c : Nat), vs[0]? = some (cval true us) → us[0]? = some (.slice (some ⟨b, q, none⟩) N c) → e = .returned (.tuple #[.pointer (some ⟨b, q + k * n, none⟩), .bool true])
theorem vtwo {x y : Leaf} {u v : Value} (h1 : Holds G σ E w x u) (h2 : Holds G σ E w y v) : VHolds G σ E w ⟨true, [(false, [x]), (false, [y])]⟩ (.tuple #[u, v]) := ⟨[[u], [v]], rfl, rfl, fun c ag xs us hc hu => by
  match c, hc, hu with
  | 0, hc, hu => cases hc; cases hu; exact ⟨rfl, fun j z u' hz hu => by match j, hz, hu with | 0, hz, hu => cases hz; cases hu; exact h1⟩
  | 1, hc, hu => cases hc; cases hu; exact ⟨rfl, fun j z u' hz hu => by match j, hz, hu with | 0, hz, hu => cases hz; cases hu; exact h2⟩⟩
theorem ok_callPt0 {d : Nat} {f : FuncId} {xs : List Operand} {ats : Array TypeId} {qs : List (Bool × List T)} {n : Nat} (ho : o.op = .call { callee := .value (.func f), args := xs.toArray, argTypes := ats }) (hb : ∃ fn c, P.funcs[f]? = some fn ∧ fn.body = some c ∧ fn.name ≠ "runtime.NumGoroutine")
    (hc : VPt P f qs n none) (hx : σ.argss xs qs) (hd : o.dst = some d) (hdN : d < N) : OpMk P E N none σ o (σ.put d ⟨true, [(false, [.sc (.pointer none)]), (false, [.sc (.bool false)])]⟩) :=
  fun a w G K Q h k => by
    obtain ⟨fn, c, h1, h2, h2'⟩ := hb
    have hcall := hc w (xs.map a.eval) (h.args hx)
    have hrun : (execOp a.eval o).run P w = .ok (.enter f (xs.map a.eval).toArray) w := by
      simp [execOp, ho, resolve, Act.eval, Deferred.ofValue, invoke, callFunc, h1, h2, h2', Result.andThen]
    unfold Oper.wp
    rw [hrun]
    refine hcall.mono fun e w' ⟨h7, h4, _⟩ => ?_
    obtain rfl := h4 rfl
    rw [hd]
    exact k _ _ G ((h.ext h7).put hdN (vtwo ⟨rfl, .inr rfl⟩ ⟨rfl, .inr rfl⟩)) ⟨h7.size, .of_below (h7.mono h.low), fun _ _ => rfl, fun _ _ => rfl, fun b hb => .inl (h7.block b hb), fun i e1 e2 => absurd e2 (Nat.not_lt.2 e1)⟩
theorem ok_callPt {d : Nat} {f : FuncId} {x0 : Operand} {xs : List Operand} {ats : Array TypeId} {qs : List (Bool × List T)} {n k i : Nat} {ls : List Leaf} {ty : TypeId} {es : List (List T)} (ho : o.op = .call { callee := .value (.func f), args := (x0 :: xs).toArray, argTypes := ats }) (hb : ∃ fn c, P.funcs[f]? = some fn ∧ fn.body = some c ∧ fn.name ≠ "runtime.NumGoroutine")
    (hc : VPt P f qs n (some k)) (hx : σ.argss (x0 :: xs) qs) (h0 : σ.ev x0 = V.flat true (.hd i :: ls)) (ht : σ.tr (.hd i) = some (.seq ty es)) (hl : k < es.length) (hd : o.dst = some d) (hdN : d < N) : OpMk P E N none σ o (σ.put d ⟨true, [(false, [.ep i k n 0]), (false, [.sc (.bool true)])]⟩) :=
  fun a w G K Q h kk => by
    obtain ⟨fn, c, h1, h2, h2'⟩ := hb
    have hcall := hc w ((x0 :: xs).map a.eval) (h.args hx)
    have hrun : (execOp a.eval o).run P w = .ok (.enter f ((x0 :: xs).map a.eval).toArray) w := by
      simp [execOp, ho, resolve, Act.eval, Deferred.ofValue, invoke, callFunc, h1, h2, h2', Result.andThen]
    have he := h.ev x0
    rw [h0, vflat] at he
    obtain ⟨us, e1, e2, e3⟩ := he
    obtain ⟨u0, hu0⟩ : ∃ u0, us[0]? = some u0 := ⟨us[0]'(by rw [e2]; simp), List.getElem?_eq_getElem _⟩
    obtain ⟨⟨hi1, hi2⟩, -⟩ := e3 0 _ u0 rfl hu0
    obtain ⟨⟨ver, s⟩, ho1, ho2⟩ := Option.map_eq_some_iff.1 ht
    obtain ⟨-, ho3, -⟩ := h.objs i ver s ho1
    have ho2' : s = .seq ty es := ho2
    subst ho2'
    cases ho3 with
    | seq n2 hp2 hz2 hn2 ys hown =>
      obtain ⟨a2, c2, h4, -, -, -, h7⟩ := own_slice hown
      obtain ⟨g, h8, -⟩ := h7 (by omega)
      rw [h8] at h4
      unfold Oper.wp
      rw [hrun]
      refine hcall.mono fun e w' ⟨h7, _, h5⟩ => ?_
      obtain rfl := h5 k rfl us g 0 es.length c2 (by show some (a.eval x0) = _; rw [e1]) (by rw [hu0, hi2, h4])
      rw [hd]
      exact kk _ _ G ((h.ext h7).put hdN (vtwo ⟨⟨hi1, g, es.length, c2, h4, by rw [Nat.zero_add, Nat.add_zero]⟩, .inr rfl⟩ ⟨rfl, .inr rfl⟩)) ⟨h7.size, .of_below (h7.mono h.low), fun _ _ => rfl, fun _ _ => rfl, fun b hb => .inl (h7.block b hb), fun i e1 e2 => absurd e2 (Nat.not_lt.2 e1)⟩
theorem ok_nilcheck {x : Operand} {i k n q : Nat} (ho : o.op = .nilCheck x) (hx : σ.ev x = V.one (.ep i k n q)) : OpL P E N nb σ o (V.one (.ep i k n q)) :=
  fun a w G h => ⟨a.eval x, fun v' _ => by
    have h0 := h.ev x
    rw [hx, vone] at h0
    obtain ⟨⟨-, g, M, c, -, h1⟩, -⟩ := h0
    simp [execOp, ho, h1], by rw [← hx]; exact h.ev x⟩
end Go.Proofs.YtjdjceohlcimaaaGreatDoor.V
/- The program's findFile: told by trees. -/
namespace Go.Proofs.YtjdjceohlcimaaaGreatDoor
open Go Go.RowKit V
set_option linter.unusedVariables false
theorem vfind_i (X : DiskD) (name : Int) (hX : goodDisk X) (hw : wtDisk X ≤ 1000000000) : VPt Tryz.prog 30 [(true, tDisk X), (false, [.lit (.int .i64 name)])] 4 ((DiskD.file X name).map fun kf => kf.1) := fun w vs hv => by
  obtain ⟨k0, vs', rfl, h1, h2⟩ := hv.shape fitsDisk hX
  obtain ⟨vs', rfl, h3⟩ := h2.lit
  rw [h3.none]
  refine (ifind k0.1.1 k0.1.2.1 k0.1.2.2 X name w h1 hw).mono fun e w' ⟨hr, hb⟩ => ⟨hb, fun hn => ?_, fun k hk us b q N c e1 e2 => ?_⟩
  · rcases hr with ⟨hf, he⟩ | ⟨k, f, b, o, hf, hk, ha, he⟩
    · exact he
    · rw [hf] at hn; cases hn
  · rcases hr with ⟨hf, he⟩ | ⟨k', f, b', o, hf, hk', ha, he⟩
    · rw [hf] at hk; cases hk
    · rw [hf] at hk
      have hkk : k' = k := Option.some.inj hk
      subst hkk
      have e3 : cval true (diskRep.cells X k0) = cval true us := Option.some.inj e1
      have e4 : (diskRep.cells X k0).toArray = us.toArray := by injection e3
      have e5 : diskRep.cells X k0 = us := by simpa using e4
      rw [← e5] at e2
      have e6 : Value.slice k0.1.1 k0.1.2.1 k0.1.2.2 = .slice (some ⟨b, q, none⟩) N c := Option.some.inj e2
      injection e6 with e6 _ _
      rw [ha] at e6
      injection e6 with e6
      injection e6 with e7 e8
      subst e7 e8
      exact he
end Go.Proofs.YtjdjceohlcimaaaGreatDoor
