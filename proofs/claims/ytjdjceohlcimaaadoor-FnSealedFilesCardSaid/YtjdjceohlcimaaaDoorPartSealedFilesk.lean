/- Texts joined: SealedM PurgeS PurgeI VSeal. -/
import Derived.Test.YtjdjceohlcimaaaDoorPartSealedFilesj
/- A disk on which a file is created, written, sealed and removed. -/
namespace Go.Proofs.YtjdjceohlcimaaaDoor
open Go Go.RowKit V
set_option linter.unusedVariables false
def dk (X : DiskD) (Q : List (List R)) : DiskD := ⟨X.fFiles ++ [⟨X.fNextName, Q, 0, false⟩], X.fNextName + 1⟩
def dz (X : DiskD) (Q : List (List R)) : DiskD := ⟨X.fFiles ++ [⟨X.fNextName, Q, (ck (R.fmtPages Q) : Nat), true⟩], X.fNextName + 1⟩
namespace DiskD
theorem create_cases {X : DiskD} : (create X = none) ∨ (Ok X ∧ X.fNextName < 1000 ∧ create X = some (dk X [])) := by
  unfold create
  split
  · rename_i h
    rw [Bool.and_eq_true, decide_eq_true_eq] at h
    exact .inr ⟨Ok.of h.1, h.2, rfl⟩
  · exact .inl rfl
theorem at_new {X : DiskD} (h : Ok X) {f : FileD} (hf : f.fName = X.fNextName) : at? (X.fFiles ++ [f]) X.fNextName = some X.fFiles.length := by
  refine at_hit (f := f) (by simp) hf fun s g hs hg e => ?_
  rw [List.getElem?_append_left hs] at hg
  have := (h.each g (List.mem_of_getElem? hg)).2.1
  omega
theorem file_new {X : DiskD} (h : Ok X) {f : FileD} {n : Int} (hf : f.fName = X.fNextName) (ho : Ok ⟨X.fFiles ++ [f], n⟩) : file ⟨X.fFiles ++ [f], n⟩ X.fNextName = some (X.fFiles.length, f) :=
  file_some ho.yes (at_new h hf) (by simp)
theorem file_dk {X : DiskD} {Q : List (List R)} (h : Ok X) (ho : Ok (dk X Q)) : file (dk X Q) X.fNextName = some (X.fFiles.length, ⟨X.fNextName, Q, 0, false⟩) := file_new h rfl ho
theorem file_dz {X : DiskD} {Q : List (List R)} (h : Ok X) (ho : Ok (dz X Q)) : file (dz X Q) X.fNextName = some (X.fFiles.length, ⟨X.fNextName, Q, (ck (R.fmtPages Q) : Nat), true⟩) := file_new h rfl ho
theorem read_dk {X : DiskD} {Q : List (List R)} (h : Ok X) (ho : Ok (dk X Q)) : read (dk X Q) X.fNextName = none := by
  rw [read_eq (file_dk h ho)]; rfl
theorem app_dk {X : DiskD} {Q : List (List R)} {p : List R} (h : Ok X) (ho : Ok (dk X Q)) (hp : R.pageOk p = true) : appendTo (dk X Q) X.fNextName p = if count (dk X Q).fFiles = 40 then none else some (dk X (Q ++ [p])) := by
  rw [appendTo_eq (file_dk h ho)]
  by_cases hc : count (dk X Q).fFiles = 40
  · rw [if_pos hc, if_neg (by simp [hc])]
  · rw [if_neg hc, if_pos (by simp [hc, hp])]
    show some _ = some _
    unfold dk
    simp
theorem seal_dk {X : DiskD} {Q : List (List R)} (h : Ok X) (ho : Ok (dk X Q)) : sealF (dk X Q) X.fNextName = some (dz X Q) := by
  rw [sealF_eq (file_dk h ho), if_neg (by simp)]
  unfold dk dz
  simp
theorem read_dz {X : DiskD} {Q : List (List R)} (h : Ok X) (ho : Ok (dz X Q)) : read (dz X Q) X.fNextName = some Q.flatten := by
  rw [read_eq (file_dz h ho), if_pos (by simp [FileD.whole])]
theorem delete_dz {X : DiskD} {Q : List (List R)} (h : Ok X) (ho : Ok (dz X Q)) : delete (dz X Q) X.fNextName = some ⟨X.fFiles, X.fNextName + 1⟩ := by
  rw [delete_eq (file_dz h ho)]
  unfold dz
  simp [List.eraseIdx_append_of_length_le]
theorem read_gone {X : DiskD} {F : List FileD} {n : Int} (h : Ok X) (hF : ∀ f ∈ F, f ∈ X.fFiles) : read ⟨F, n⟩ X.fNextName = none :=
  read_none (file_none (at_miss fun s g hg e => by
    have := (h.each g (hF g (List.mem_of_getElem? hg))).2.1
    omega))
theorem purge_dk {X : DiskD} {Q : List (List R)} (ho : Ok (dk X Q)) : purge (dk X Q) = ⟨X.fFiles.filter FileD.whole, X.fNextName + 1⟩ := by
  unfold purge
  rw [if_pos ho.yes]
  unfold dk
  simp [FileD.whole]
theorem sum_filter (F : List FileD) (q : FileD → Bool) : count (F.filter q) ≤ count F := by
  unfold count
  induction F with
  | nil => exact Nat.le_refl _
  | cons f F ih =>
    rw [List.filter_cons]
    split
    · simp only [List.map_cons, List.sum_cons]; omega
    · simp only [List.map_cons, List.sum_cons]; omega
theorem Ok.filter {X : DiskD} (h : Ok X) (hn : X.fNextName < 1000) (q : FileD → Bool) : Ok ⟨X.fFiles.filter q, X.fNextName + 1⟩ := by
  have h1 := h.lo
  refine ⟨by show (0 : Int) ≤ X.fNextName + 1; omega, by show X.fNextName + 1 ≤ (1000 : Int); omega, Nat.le_trans (sum_filter _ _) h.few, fun f hf => ?_, ?_⟩
  · obtain ⟨a, b, c⟩ := h.each f (List.mem_filter.1 hf).1
    exact ⟨a, by show f.fName < X.fNextName + 1; omega, c⟩
  · have hp : X.fFiles.Pairwise fun f g => f.fName < g.fName := List.pairwise_iff_getElem.2 fun i j hi hj hij => h.asc i j _ _ (List.getElem?_eq_getElem hi) (List.getElem?_eq_getElem hj) hij
    have hq := hp.filter q
    intro i j f g hf hg hij
    have hil := V.get_lt hf
    have hjl := V.get_lt hg
    have := (List.pairwise_iff_getElem.1 hq) i j hil hjl hij
    rw [List.getElem?_eq_getElem hil] at hf
    rw [List.getElem?_eq_getElem hjl] at hg
    cases hf
    cases hg
    exact this
theorem purge_again {X : DiskD} (h : Ok X) (hn : X.fNextName < 1000) : purge ⟨X.fFiles.filter FileD.whole, X.fNextName + 1⟩ = ⟨X.fFiles.filter FileD.whole, X.fNextName + 1⟩ := by
  unfold purge
  rw [if_pos (h.filter hn _).yes]
  simp
theorem wt_dk {X : DiskD} {Q : List (List R)} (ho : Ok (dk X Q)) : wtDisk (dk X Q) ≤ 1048576 := Nat.le_trans ho.wt (by decide)
end DiskD
theorem good_dk {X : DiskD} {Q : List (List R)} (hX : goodDisk X) (h : DiskD.Ok X) (hn : X.fNextName < 1000) (hQ : ∀ p ∈ Q, goodPage p) : goodDisk (dk X Q) := by
  have h1 := h.lo
  have h2 := good_snoc (X := X) (f := ⟨X.fNextName, Q, 0, false⟩) hX ⟨hX.2.1, hQ, i64_of (Int.le_refl _) (by show (0:Int) ≤ 1000000000; decide), trivial⟩
  exact ⟨h2.1, i64_of (by show (0:Int) ≤ X.fNextName + 1; omega) (by show X.fNextName + 1 ≤ (1000000000:Int); omega), trivial⟩
theorem good_dz {X : DiskD} {Q : List (List R)} (hX : goodDisk X) (h : DiskD.Ok X) (hn : X.fNextName < 1000) (hQ : ∀ p ∈ Q, goodPage p) : goodDisk (dz X Q) := by
  have h1 := h.lo
  have hc := ck_lt (R.fmtPages Q)
  have h2 := good_snoc (X := X) (f := ⟨X.fNextName, Q, (ck (R.fmtPages Q) : Nat), true⟩) hX ⟨hX.2.1, hQ, i64_of (by show (0:Int) ≤ ((ck _ : Nat) : Int); omega) (by show ((ck _ : Nat) : Int) ≤ 1000000000; omega), trivial⟩
  exact ⟨h2.1, i64_of (by show (0:Int) ≤ X.fNextName + 1; omega) (by show X.fNextName + 1 ≤ (1000000000:Int); omega), trivial⟩
theorem good_part {X : DiskD} {F : List FileD} (hX : goodDisk X) (h : DiskD.Ok X) (hn : X.fNextName < 1000) (hF : ∀ f ∈ F, f ∈ X.fFiles) : goodDisk ⟨F, X.fNextName + 1⟩ := by
  have h1 := h.lo
  exact ⟨fun f hf => hX.1 f (hF f hf), i64_of (by show (0:Int) ≤ X.fNextName + 1; omega) (by show X.fNextName + 1 ≤ (1000000000:Int); omega), trivial⟩
end Go.Proofs.YtjdjceohlcimaaaDoor
/- The reference's DeleteUnreadableFiles: told by trees. -/
namespace Go.Proofs.YtjdjceohlcimaaaDoor
open Go Go.RowKit V
set_option linter.unusedVariables false
set_option maxRecDepth 100000 in
set_option maxHeartbeats 2000000 in
theorem vpurge_s (X : DiskD) (hX : goodDisk X) (hL : wtDisk X ≤ 1000000000) : VC Tryd.prog 20 [(true, tDisk X)] false [(true, tDisk (DiskD.purge X))] := by
  refine VC.enter Tryd.func20 rfl Tryd.ntmps20 (gle rfl) fun E hE => ?_
  have hFL : X.fFiles.length ≤ 1000000000 := by have h4 := wt_file_len X.fFiles; have h8 : wtDisk X = wtFiles X.fFiles := rfl; omega
  have ho := DiskD.purge_rd X
  refine SV.seq' ?_
  refine SV.region ?_
  refine SV.op (OpMk.ok (ok_box (kk := 0) (ag := true) (xs := [.ro _, .sc _]) rfl rfl rfl (fun h => by cases h) rfl rfl (gle rfl))) rfl ?_
  refine SV.op (OpMk.ok (ok_alloc (kk := 1) (xs := [.nl _, .sc _]) rfl rfl zero_impl_Disk ⟨rfl, ⟨4, by decide, sz_impl_File⟩, rfl, rfl, trivial⟩ rfl (gle rfl))) rfl ?_
  refine SV.nil ?_
  refine SV.tn ?_
  refine SV.seq' ?_
  refine SV.region ?_
  refine SV.op (OpL.ok (nb := 2) (ok_load_bp (b := 0) (i := 0) (ag := true) (m := 2) (ys := [.ro _, .sc _]) rfl rfl rfl agg_impl_Disk sz_impl_Disk (fun h => by cases h) rfl rfl (gle rfl)) rfl (gle rfl)) rfl ?_
  refine SV.op (OpMk.ok (ok_call (ls := [(true, [.hd 0, .sc _])]) rfl rfl ⟨_, _, Tryd.func24, rfl, by decide⟩ (vcopy_s X hL) ⟨⟨[.ro _, .sc _], rfl, ⟨rfl, rfl, trivial⟩⟩, trivial⟩ rfl (gle rfl))) rfl ?_
  refine SV.op (OpMk.ok (ok_alloc (kk := 2) (xs := [.nl _, .sc _]) rfl rfl zero_impl_Disk ⟨rfl, ⟨4, by decide, sz_impl_File⟩, rfl, rfl, trivial⟩ rfl (gle rfl))) rfl ?_
  refine SV.op (ok_store_bp (b := 2) (i := 0) (m := 2) (ag := true) (zs := [.hd 0, .sc _]) (ys := [.hd 0, .sc _]) rfl rfl rfl rfl sz_impl_Disk (fun h => by cases h) rfl (gle rfl) rfl rfl rfl) rfl ?_
  refine SV.nil ?_
  refine SV.tn ?_
  refine SV.seq' ?_
  refine SV.region ?_
  refine SV.op (OpL.ok (nb := 3) (ok_field_bp (b := 2) (o' := 0) (off := 0) rfl rfl fld_impl_Disk_0) rfl (gle rfl)) rfl ?_
  refine SV.op (ok_store_bp (b := 2) (i := 0) (m := 1) (ag := false) (zs := [.sc _]) (ys := [.sc _, .sc _]) rfl rfl rfl rfl sz_s_impl_File (fun _ => rfl) rfl (gle rfl) rfl rfl rfl) rfl ?_
  refine SV.nil ?_
  refine SV.tn ?_
  refine SV.seq' ?_
  refine SV.region ?_
  refine SV.op (OpL.ok (nb := 3) (ok_load_bp (b := 0) (i := 0) (ag := true) (m := 2) (ys := [.ro _, .sc _]) rfl rfl rfl agg_impl_Disk sz_impl_Disk (fun h => by cases h) rfl rfl (gle rfl)) rfl (gle rfl)) rfl ?_
  refine SV.op (OpMk.ok (ok_call (ls := [(true, [.hd 1, .sc _])]) rfl rfl ⟨_, _, Tryd.func24, rfl, by decide⟩ (vcopy_s X hL) ⟨⟨[.ro _, .sc _], rfl, ⟨rfl, rfl, trivial⟩⟩, trivial⟩ rfl (gle rfl))) rfl ?_
  refine SV.op (OpMk.ok (ok_alloc (kk := 3) (xs := [.nl _, .sc _]) rfl rfl zero_impl_Disk ⟨rfl, ⟨4, by decide, sz_impl_File⟩, rfl, rfl, trivial⟩ rfl (gle rfl))) rfl ?_
  refine SV.op (ok_store_bp (b := 3) (i := 0) (m := 2) (ag := true) (zs := [.hd 1, .sc _]) (ys := [.hd 1, .sc _]) rfl rfl rfl rfl sz_impl_Disk (fun h => by cases h) rfl (gle rfl) rfl rfl rfl) rfl ?_
  refine SV.nil ?_
  refine SV.tn ?_
  refine SV.seq' ?_
  refine SV.seq' ?_
  refine SV.region ?_
  refine SV.op (OpL.ok (nb := 4) (ok_move (v := V.one (.sc _)) (.inr rfl) rfl) rfl (gle rfl)) rfl ?_
  refine SV.nil ?_
  refine SV.tn ?_
  refine SV.block ?_
  refine SV.nlscb (b := 2) (j := 0) (kk := 2) (n := 4) rfl rfl rfl (by decide) sz_impl_File (ys := [.hd 2, .sc _]) rfl ?_
  refine SV.loopF (X := Nat) (fun (σ : VS) t => (((((((((((VS.nil.new (.seq 50 (((X.fFiles.take t).filter (rdOk X)).map tFile))).new (.seq 50 (takeT (rdOk X) X.fFiles t))).box 26 [σ.bl 0 0, σ.bl 0 1]).box 26 [σ.bl 1 0, σ.bl 1 1]).box 26 [.hd 0, σ.bl 2 1]).box 26 [.hd 1, σ.bl 3 1]).put 1 (V.flat false [.bp 0 0])).put 2 (V.flat false [.bp 1 0])).put 3 (V.flat false [.bp 2 0])).put 4 (V.flat false [.bp 3 0])).put 5 (V.flat false [.sc (.int .i64 ((t : Int)))]))) (fun t => t ≤ X.fFiles.length) (fun t => X.fFiles.length - t) ?_ ?_
  · skip
    refine SV.again (fun i => [2, 1].getD i 0) 0 ((by first | exact Nat.zero_le _ | (refine ⟨Nat.zero_le _, ?_⟩; simp; done) | (simp; done) | omega)) (pins hE rfl rfl) (VS.le.mk' (le_put (le_put (le_put (le_put (le_put (le_box (le_box (le_box (le_box (le_new (le_new le_nil)))))) (V.le.keep (ag := false) (xs := [.bp 0 0]) (ys := [.bp 0 0]) rfl rfl ⟨⟨rfl, (gle rfl)⟩, trivial⟩)) (V.le.keep (ag := false) (xs := [.bp 1 0]) (ys := [.bp 1 0]) rfl rfl ⟨⟨rfl, (gle rfl)⟩, trivial⟩)) (V.le.keep (ag := false) (xs := [.bp 2 0]) (ys := [.bp 2 0]) rfl rfl ⟨⟨rfl, (gle rfl)⟩, trivial⟩)) (V.le.keep (ag := false) (xs := [.bp 3 0]) (ys := [.bp 3 0]) rfl rfl ⟨⟨rfl, (gle rfl)⟩, trivial⟩)) (V.le.keep (ag := false) (xs := [.sc _]) (ys := [.sc _]) rfl rfl ⟨(by first | rfl | (show Leaf.sc _ = Leaf.sc _; refine congrArg Leaf.sc ?_; first | rfl | go_num | (simp [cntAll]; done)) | (simp [cntAll]; done) | (simp; omega)), trivial⟩)) ⟨⟨rfl, ⟨rfl, rfl, trivial⟩⟩, ⟨⟨rfl, ⟨rfl, rfl, trivial⟩⟩, ⟨⟨rfl, ⟨⟨rfl, (gle rfl), (gle rfl)⟩, rfl, trivial⟩⟩, ⟨⟨rfl, ⟨⟨rfl, (gle rfl), (gle rfl)⟩, rfl, trivial⟩⟩, trivial⟩⟩⟩⟩ ⟨.inr ⟨_, _, rfl, ?ob1_1, (gle rfl)⟩, ⟨.inr ⟨_, _, rfl, ?ob1_0, (gle rfl)⟩, trivial⟩⟩ (new_ob (new_ob nil_ob)) (fun i j hi hj e => inj_list (l := [2, 1]) (by decide) i j hi hj e))
    case ob1_0 =>
      show some (T.seq _ _) = some (T.seq _ _)
      first | rfl | exact congrArg some (congrArg (T.seq _) (by simp))
    case ob1_1 =>
      show some (T.seq _ _) = some (T.seq _ _)
      exact congrArg (fun z => some (T.seq _ z)) (takeT_zero (rdOk X) X.fFiles)
  · rintro t ht
    refine SV.seq' ?_
    refine SV.seq' ?_
    refine SV.region ?_
    refine SV.op (OpL.ok (nb := 4) (ok_move (v := V.one (.sc _)) (.inl rfl) rfl) rfl (gle rfl)) rfl ?_
    refine SV.op (OpL.ok (nb := 4) (ok_field_bp (b := 3) (o' := 0) (off := 0) rfl rfl fld_impl_Disk_0) rfl (gle rfl)) rfl ?_
    refine SV.op (OpL.ok (nb := 4) (ok_load_bp (b := 3) (i := 0) (ag := false) (m := 1) (ys := [.hd 1]) rfl rfl rfl agg_s_impl_File sz_s_impl_File (fun _ => rfl) rfl rfl (gle rfl)) rfl (gle rfl)) rfl ?_
    refine SV.op (OpL.ok (nb := 4) (ok_len (lf := .hd 1) rfl elt_impl_File.und rfl rfl) rfl (gle rfl)) rfl ?_
    refine SV.op (OpL.ok (nb := 4) (ok_s2 (x := .tmp 13) (x' := .tmp 16) (VScal.one rfl) (VScal.one rfl) (fun ρ h1 h2 w => by go_simp; (try go_bits); with_reducible rfl) rfl) rfl (gle rfl)) rfl ?_
    refine SV.nil ?_
    refine SV.tn ?_
    refine SV.cond rfl (fun hc0 => ?_) (fun hc0 => ?_)
    · skip   -- c0.T
      have htl : t < X.fFiles.length := by simpa [takeT_len] using hc0
      have hx : X.fFiles[t]? = some X.fFiles[t] := by simp [htl]
      have hfl := List.length_filter_le (rdOk X) (X.fFiles.take t)
      have htk : (X.fFiles.take t).length ≤ t := by simp; omega
      refine SV.skip ?_
      refine SV.tn ?_
      refine SV.seq' ?_
      refine SV.block ?_
      refine SV.seq' ?_
      refine SV.draw [.q 0, .q 1, .q 2, .q 3, .q 4, .q 5, .q 6, .m 7, .q 8, .q 9, .q 10, .q 11, .q 12] [] (by kernel_rfl) (by kernel_rfl) ?_
      refine DW.q rfl (ok_load_bp (b := 0) (i := 0) (ag := true) (m := 2) (ys := [.ro _, .sc _]) rfl rfl rfl agg_impl_Disk sz_impl_Disk (fun h => by cases h) rfl rfl (gle rfl)) rfl rfl (gle rfl) (fun _ _ _ _ h => h) ?_
      refine DW.q rfl (ok_field_bp (b := 3) (o' := 0) (off := 0) rfl rfl fld_impl_Disk_0) rfl rfl (gle rfl) (fun _ _ _ _ h => h) ?_
      refine DW.q rfl (ok_load_bp (b := 3) (i := 0) (ag := false) (m := 1) (ys := [.hd 1]) rfl rfl rfl agg_s_impl_File sz_s_impl_File (fun _ => rfl) rfl rfl (gle rfl)) rfl rfl (gle rfl) (fun _ _ _ _ h => h) ?_
      refine DW.q rfl (ok_move (v := V.one (.sc _)) (.inl rfl) rfl) rfl rfl (gle rfl) (fun _ _ _ _ h => h) ?_
      refine DW.q rfl (ok_index (n := 4) (lf := .hd 1) rfl elt_impl_File.und sz_impl_File rfl rfl rfl (takeT_at hx)) rfl rfl (gle rfl) (fun _ _ _ _ h => h) ?_
      refine DW.q rfl (ok_field_el (p := .ep 1 _ _ _) (off := 0) rfl rfl (cells_ep rfl (takeT_at hx) rfl rfl) fld_impl_File_0) rfl rfl (gle rfl) (fun _ _ _ _ h => h) ?_
      refine DW.el (ag := false) (m := 1) (ys := [.sc _]) rfl rfl rfl (cells_ep rfl (takeT_at hx) rfl rfl) agg_int sz_int (fun _ => rfl) (gle rfl) rfl rfl rfl (gle rfl) (fun _ _ _ _ h => h) ?_
      refine DW.m [2] rfl (ok_call (ls := [(false, [.hd 2]), (false, [.sc _])]) rfl rfl ⟨_, _, Tryd.func43, rfl, by decide⟩ (vread_s X X.fFiles[t].fName hX hL) ⟨⟨[.ro _, .sc _], rfl, ⟨rfl, rfl, trivial⟩⟩, ⟨[.sc _], rfl, ⟨rfl, trivial⟩⟩, trivial⟩ rfl (gle rfl)) rfl (gle rfl) (gle rfl) (.inl rfl) (fun j hj => by
          simp only [List.mem_cons, List.not_mem_nil, or_false] at hj
          rcases hj with rfl
          · exact .inr ⟨(gle rfl), (gle rfl), .inl rfl⟩) ?_
      refine DW.q rfl (ok_move (v := ⟨true, [(false, [.hd 2]), (false, [.sc _])]⟩) (.inl rfl) rfl) rfl rfl (gle rfl) (fun _ _ _ _ h => h) ?_
      refine DW.q rfl (ok_extract (ag := false) (xs := [.hd 2]) rfl rfl rfl) rfl rfl (gle rfl) (fun _ _ _ _ h => h) ?_
      refine DW.q rfl (ok_extract (ag := false) (xs := [.sc _]) rfl rfl rfl) rfl rfl (gle rfl) (fun _ _ _ _ h => h) ?_
      refine DW.q rfl (ok_move (v := V.one (.hd 2)) (.inr rfl) rfl) rfl rfl (gle rfl) (fun _ _ _ _ h => h) ?_
      refine DW.q rfl (ok_move (v := V.one (.sc _)) (.inr rfl) rfl) rfl rfl (gle rfl) (fun _ _ _ _ h => h) ?_
      refine DW.stores ?_
      refine SV.zend ?_
      refine SV.tn ?_
      refine SV.seq' ?_
      refine SV.region ?_
      refine SV.op (OpL.ok (nb := 4) (ok_move (v := V.one (.sc _)) (.inl rfl) rfl) rfl (gle rfl)) rfl ?_
      refine SV.nil ?_
      refine SV.tn ?_
      refine SV.cond rfl (fun hc1 => ?_) (fun hc1 => ?_)
      · skip   -- c1.T
        have hk : rdOk X X.fFiles[t] = true := by unfold rdOk; simpa using hc1
        refine SV.draw [.q 0, .q 1, .q 2, .q 3, .q 4, .q 5, .q 6, .m 7, .m 8, .q 9] [10] (by kernel_rfl) (by kernel_rfl) ?_
        refine DW.q rfl (ok_field_bp (b := 2) (o' := 0) (off := 0) rfl rfl fld_impl_Disk_0) rfl rfl (gle rfl) (fun _ _ _ _ h => h) ?_
        refine DW.q rfl (ok_load_bp (b := 2) (i := 0) (ag := false) (m := 1) (ys := [.hd 0]) rfl rfl rfl agg_s_impl_File sz_s_impl_File (fun _ => rfl) rfl rfl (gle rfl)) rfl rfl (gle rfl) (fun _ _ _ _ h => h) ?_
        refine DW.q rfl (ok_field_bp (b := 3) (o' := 0) (off := 0) rfl rfl fld_impl_Disk_0) rfl rfl (gle rfl) (fun _ _ _ _ h => h) ?_
        refine DW.q rfl (ok_load_bp (b := 3) (i := 0) (ag := false) (m := 1) (ys := [.hd 1]) rfl rfl rfl agg_s_impl_File sz_s_impl_File (fun _ => rfl) rfl rfl (gle rfl)) rfl rfl (gle rfl) (fun _ _ _ _ h => h) ?_
        refine DW.q rfl (ok_move (v := V.one (.sc _)) (.inl rfl) rfl) rfl rfl (gle rfl) (fun _ _ _ _ h => h) ?_
        refine DW.q rfl (ok_index (n := 4) (lf := .hd 1) rfl elt_impl_File.und sz_impl_File rfl rfl rfl (takeT_at hx)) rfl rfl (gle rfl) (fun _ _ _ _ h => h) ?_
        refine DW.el (ag := true) (m := 4) (ys := [.sc _, .nd 1 _ _ (some _), .sc _, .sc _]) rfl rfl rfl (cells_ep rfl (takeT_at hx) rfl rfl) agg_impl_File sz_impl_File (fun h => by cases h) (gle rfl) rfl rfl rfl (gle rfl) (fun _ _ _ _ h => h) ?_
        refine DW.take (d := 38) (p := 1) rfl rfl rfl (takeT_at hx) rfl (gle rfl) ?_
        refine DW.m [4] rfl (ok_lit1 (kk := 4) elt_impl_File (ag := true) (xs := [.sc _, .hd 3, .sc _, .sc _]) rfl rfl rfl rfl (fun h => by cases h) (outs_c rfl (outs_c rfl (outs_c rfl (outs_c rfl outs_n)))) (by simp [two]) rfl (gle rfl)) rfl (gle rfl) (gle rfl) (.inl rfl) (fun j hj => by
            simp only [List.mem_cons, List.not_mem_nil, or_false] at hj
            rcases hj with rfl
            · exact .inr ⟨(gle rfl), (gle rfl), .inl rfl⟩) ?_
        refine DW.m [4] rfl (ok_append (kk := 5) elt_impl_File (ls := .hd 0) (lx := .hd 4) rfl rfl rfl rfl rfl rfl (by intro i h1 h2; cases h1; cases h2) (by simp; omega) rfl (gle rfl)) rfl (gle rfl) (gle rfl) (.inr ⟨0, rfl, .inr ⟨(gle rfl), rfl⟩⟩) (fun j hj => by
            simp only [List.mem_cons, List.not_mem_nil, or_false] at hj
            rcases hj with rfl
            · exact .inl (by decide)) ?_
        refine DW.q rfl (ok_field_bp (b := 2) (o' := 0) (off := 0) rfl rfl fld_impl_Disk_0) rfl rfl (gle rfl) (fun _ _ _ _ h => h) ?_
        refine DW.stores ?_
        refine SV.z rfl (ok_store_bp (b := 2) (i := 0) (m := 1) (ag := false) (zs := [.hd 5]) (ys := [.hd 5, .sc _]) rfl rfl rfl rfl sz_s_impl_File (fun _ => rfl) rfl (gle rfl) rfl rfl rfl) rfl ?_
        refine SV.zend ?_
        refine SV.bn ?_
        refine SV.tn ?_
        refine SV.region ?_
        refine SV.op (OpL.ok (nb := 4) (ok_move (v := V.one (.sc _)) (.inl rfl) rfl) rfl (gle rfl)) rfl ?_
        refine SV.op (OpL.ok (nb := 4) (ok_s2 (x := .tmp 18) (x' := .const ((Value.int IntKind.i64 1))) (VScal.one rfl) (VScal.one rfl) (fun ρ h1 h2 w => by go_simp; (try go_bits); with_reducible rfl) rfl) rfl (gle rfl)) rfl ?_
        refine SV.op (OpL.ok (nb := 4) (ok_move (v := V.one (.sc _)) (.inr rfl) rfl) rfl (gle rfl)) rfl ?_
        refine SV.nil ?_
        refine SV.tn ?_
        refine SV.again (fun i => [5, 1].getD i 0) (t + 1) (⟨by omega, by omega⟩) (pins hE rfl rfl) (VS.le.mk' (le_put (le_put (le_put (le_put (le_put (le_box (le_box (le_box (le_box (le_new (le_new le_nil)))))) (V.le.keep (ag := false) (xs := [.bp 0 0]) (ys := [.bp 0 0]) rfl rfl ⟨⟨rfl, (gle rfl)⟩, trivial⟩)) (V.le.keep (ag := false) (xs := [.bp 1 0]) (ys := [.bp 1 0]) rfl rfl ⟨⟨rfl, (gle rfl)⟩, trivial⟩)) (V.le.keep (ag := false) (xs := [.bp 2 0]) (ys := [.bp 2 0]) rfl rfl ⟨⟨rfl, (gle rfl)⟩, trivial⟩)) (V.le.keep (ag := false) (xs := [.bp 3 0]) (ys := [.bp 3 0]) rfl rfl ⟨⟨rfl, (gle rfl)⟩, trivial⟩)) (V.le.keep (ag := false) (xs := [.sc _]) (ys := [.sc _]) rfl rfl ⟨(by first | rfl | (show Leaf.sc _ = Leaf.sc _; refine congrArg Leaf.sc ?_; first | rfl | go_num | (simp [cntAll]; done)) | (simp [cntAll]; done) | (simp; omega)), trivial⟩)) ⟨⟨rfl, ⟨rfl, rfl, trivial⟩⟩, ⟨⟨rfl, ⟨rfl, rfl, trivial⟩⟩, ⟨⟨rfl, ⟨⟨rfl, (gle rfl), (gle rfl)⟩, rfl, trivial⟩⟩, ⟨⟨rfl, ⟨⟨rfl, (gle rfl), (gle rfl)⟩, rfl, trivial⟩⟩, trivial⟩⟩⟩⟩ ⟨.inr ⟨_, _, rfl, ?ob2_1, (gle rfl)⟩, ⟨.inr ⟨_, _, rfl, ?ob2_0, (gle rfl)⟩, trivial⟩⟩ (new_ob (new_ob nil_ob)) (fun i j hi hj e => inj_list (l := [5, 1]) (by decide) i j hi hj e))
        case ob2_0 =>
          show some (T.seq _ _) = some (T.seq _ _)
          rw [List.take_succ_eq_append_getElem htl, List.filter_append, List.map_append]
          (first | (simp [hk]; rfl) | (simp [hk]; done) | (simp [hk, tFile]; done) | trace_state)
        case ob2_1 =>
          show some (T.seq _ _) = some (T.seq _ _)
          first | exact congrArg (fun z => some (T.seq _ z)) (takeT_yes htl hk) | exact congrArg (fun z => some (T.seq _ z)) (takeT_no htl hk) | trace_state
      · skip   -- c1.F
        have hk : rdOk X X.fFiles[t] = false := by unfold rdOk; simpa using hc1
        refine SV.skip ?_
        refine SV.bn ?_
        refine SV.tn ?_
        refine SV.region ?_
        refine SV.op (OpL.ok (nb := 4) (ok_move (v := V.one (.sc _)) (.inl rfl) rfl) rfl (gle rfl)) rfl ?_
        refine SV.op (OpL.ok (nb := 4) (ok_s2 (x := .tmp 18) (x' := .const ((Value.int IntKind.i64 1))) (VScal.one rfl) (VScal.one rfl) (fun ρ h1 h2 w => by go_simp; (try go_bits); with_reducible rfl) rfl) rfl (gle rfl)) rfl ?_
        refine SV.op (OpL.ok (nb := 4) (ok_move (v := V.one (.sc _)) (.inr rfl) rfl) rfl (gle rfl)) rfl ?_
        refine SV.nil ?_
        refine SV.tn ?_
        refine SV.again (fun i => [0, 1].getD i 0) (t + 1) (⟨by omega, by omega⟩) (pins hE rfl rfl) (VS.le.mk' (le_put (le_put (le_put (le_put (le_put (le_box (le_box (le_box (le_box (le_new (le_new le_nil)))))) (V.le.keep (ag := false) (xs := [.bp 0 0]) (ys := [.bp 0 0]) rfl rfl ⟨⟨rfl, (gle rfl)⟩, trivial⟩)) (V.le.keep (ag := false) (xs := [.bp 1 0]) (ys := [.bp 1 0]) rfl rfl ⟨⟨rfl, (gle rfl)⟩, trivial⟩)) (V.le.keep (ag := false) (xs := [.bp 2 0]) (ys := [.bp 2 0]) rfl rfl ⟨⟨rfl, (gle rfl)⟩, trivial⟩)) (V.le.keep (ag := false) (xs := [.bp 3 0]) (ys := [.bp 3 0]) rfl rfl ⟨⟨rfl, (gle rfl)⟩, trivial⟩)) (V.le.keep (ag := false) (xs := [.sc _]) (ys := [.sc _]) rfl rfl ⟨(by first | rfl | (show Leaf.sc _ = Leaf.sc _; refine congrArg Leaf.sc ?_; first | rfl | go_num | (simp [cntAll]; done)) | (simp [cntAll]; done) | (simp; omega)), trivial⟩)) ⟨⟨rfl, ⟨rfl, rfl, trivial⟩⟩, ⟨⟨rfl, ⟨rfl, rfl, trivial⟩⟩, ⟨⟨rfl, ⟨⟨rfl, (gle rfl), (gle rfl)⟩, rfl, trivial⟩⟩, ⟨⟨rfl, ⟨⟨rfl, (gle rfl), (gle rfl)⟩, rfl, trivial⟩⟩, trivial⟩⟩⟩⟩ ⟨.inr ⟨_, _, rfl, ?ob3_1, (gle rfl)⟩, ⟨.inr ⟨_, _, rfl, ?ob3_0, (gle rfl)⟩, trivial⟩⟩ (new_ob (new_ob nil_ob)) (fun i j hi hj e => inj_list (l := [0, 1]) (by decide) i j hi hj e))
        case ob3_0 =>
          show some (T.seq _ _) = some (T.seq _ _)
          rw [List.take_succ_eq_append_getElem htl, List.filter_append, List.map_append]
          (first | (simp [hk]; rfl) | (simp [hk]; done) | (simp [hk, tFile]; done) | trace_state)
        case ob3_1 =>
          show some (T.seq _ _) = some (T.seq _ _)
          first | exact congrArg (fun z => some (T.seq _ z)) (takeT_yes htl hk) | exact congrArg (fun z => some (T.seq _ z)) (takeT_no htl hk) | trace_state
    · skip   -- c0.F
      have hte : X.fFiles.take t = X.fFiles := by have : ¬ t < X.fFiles.length := (by simpa [takeT_len] using hc0); exact List.take_of_length_le (by omega)
      refine SV.exit ?_
      refine SV.te ?_
      refine SV.te ?_
      refine SV.bh ?_
      refine SV.tn ?_
      refine SV.seq' ?_
      refine SV.region ?_
      refine SV.op (OpL.ok (nb := 4) (ok_load_bp (b := 2) (i := 0) (ag := true) (m := 2) (ys := [.hd 0, .sc _]) rfl rfl rfl agg_impl_Disk sz_impl_Disk (fun h => by cases h) rfl rfl (gle rfl)) rfl (gle rfl)) rfl ?_
      refine SV.op (ok_store_bp (b := 1) (i := 0) (m := 2) (ag := true) (zs := [.hd 0, .sc _]) (ys := [.hd 0, .sc _]) rfl rfl rfl rfl sz_impl_Disk (fun h => by cases h) rfl (gle rfl) rfl rfl rfl) rfl ?_
      refine SV.nil ?_
      refine SV.tn ?_
      refine SV.ret ?_
      apply SV.done (hf := Tryd.results20) (ht := rfl) (he := .inl rfl)
      case hr => exact (ResAll.cons (ResOk.cell (b := 1) (ag := true) (xs := [.hd 0, .sc _]) rfl rfl agg_impl_Disk sz_impl_Disk (fun h => by cases h)) ResAll.nil')
      case h2 => simp [two]
      refine ⟨rfl, ⟨?_, ?_, trivial⟩, trivial⟩ <;> (rw [ho]; first | rfl | (show some (T.seq _ _) = some (T.seq _ _); rw [hte]; done))
end Go.Proofs.YtjdjceohlcimaaaDoor
/- The program's DeleteUnreadableFiles: told by trees. -/
namespace Go.Proofs.YtjdjceohlcimaaaDoor
open Go Go.RowKit V
set_option linter.unusedVariables false
set_option maxRecDepth 100000 in
set_option maxHeartbeats 2000000 in
theorem vpurge_i (X : DiskD) (hX : goodDisk X) (hL : wtDisk X ≤ 1000000000) : VCD Tryd.prog 17 [(true, tDisk X)] false [(true, tDisk (DiskD.purge X))] := by
  refine VCD.enter Tryd.func17 rfl Tryd.ntmps17 (gle rfl) fun E hE hD => ?_
  have hFL : X.fFiles.length ≤ 1000000000 := by have h4 := wt_file_len X.fFiles; have h8 : wtDisk X = wtFiles X.fFiles := rfl; omega
  refine SV.seq' ?_
  refine SV.region ?_
  refine SV.op (OpMk.ok (ok_box (kk := 0) (ag := true) (xs := [.ro _, .sc _]) rfl rfl rfl (fun h => by cases h) rfl rfl (gle rfl))) rfl ?_
  refine SV.op (OpMk.ok (ok_alloc (kk := 1) (xs := [.nl _, .sc _]) rfl rfl zero_impl_Disk ⟨rfl, ⟨4, by decide, sz_impl_File⟩, rfl, rfl, trivial⟩ rfl (gle rfl))) rfl ?_
  refine SV.nil ?_
  refine SV.tn ?_
  refine SV.seq' ?_
  refine SV.region ?_
  refine SV.op (OpL.ok (nb := 2) (ok_field_bp (b := 0) (o' := 0) (off := 1) rfl rfl fld_impl_Disk_1) rfl (gle rfl)) rfl ?_
  refine SV.op (OpL.ok (nb := 2) (ok_load_bp (b := 0) (i := 1) (ag := false) (m := 1) (ys := [.sc _]) rfl rfl rfl agg_int sz_int (fun _ => rfl) rfl rfl (gle rfl)) rfl (gle rfl)) rfl ?_
  refine SV.op (OpL.ok (nb := 2) (ok_build (zs := [.nl _, .sc _]) (ys := [.nl _, .sc _]) (qs := [(1, [.sc _])]) (pl := fun i => ([(0, 1), (1, 1)] : List (Nat × Nat))[i]?) rfl zero_impl_Disk ⟨rfl, ⟨4, by decide, sz_impl_File⟩, rfl, rfl, trivial⟩ ⟨⟨rfl, false, rfl, (fun _ => rfl), rfl⟩, trivial⟩ bld_impl_Disk rfl) rfl (gle rfl)) rfl ?_
  refine SV.op (OpMk.ok (ok_alloc (kk := 2) (xs := [.nl _, .sc _]) rfl rfl zero_impl_Disk ⟨rfl, ⟨4, by decide, sz_impl_File⟩, rfl, rfl, trivial⟩ rfl (gle rfl))) rfl ?_
  refine SV.op (ok_store_bp (b := 2) (i := 0) (m := 2) (ag := true) (zs := [.nl _, .sc _]) (ys := [.nl _, .sc _]) rfl rfl rfl rfl sz_impl_Disk (fun h => by cases h) rfl (gle rfl) rfl rfl rfl) rfl ?_
  refine SV.nil ?_
  refine SV.tn ?_
  refine SV.seq' ?_
  refine SV.seq' ?_
  refine SV.region ?_
  refine SV.op (OpL.ok (nb := 3) (ok_load_bp (b := 0) (i := 0) (ag := true) (m := 2) (ys := [.ro _, .sc _]) rfl rfl rfl agg_impl_Disk sz_impl_Disk (fun h => by cases h) rfl rfl (gle rfl)) rfl (gle rfl)) rfl ?_
  refine SV.op (OpMk.ok (ok_call (ls := [(false, [.sc _])]) rfl rfl ⟨_, _, Tryd.func8, rfl, by decide⟩ (vokdisk_i X hX hL) ⟨⟨[.ro _, .sc _], rfl, ⟨rfl, rfl, trivial⟩⟩, trivial⟩ rfl (gle rfl))) rfl ?_
  refine SV.op (OpL.ok (nb := 3) (ok_s1 (x := .tmp 10) (VScal.one rfl) (fun ρ h1 w => by go_simp; (try go_bits); with_reducible rfl) rfl) rfl (gle rfl)) rfl ?_
  refine SV.nil ?_
  refine SV.tn ?_
  refine SV.cond rfl (fun hc0 => ?_) (fun hc0 => ?_)
  · skip   -- c0.T
    have ho : DiskD.purge X = ⟨[], X.fNextName⟩ := by unfold DiskD.purge; simp at hc0; rw [hc0]; rfl
    refine SV.seq' ?_
    refine SV.region ?_
    refine SV.op (OpL.ok (nb := 3) (ok_load_bp (b := 2) (i := 0) (ag := true) (m := 2) (ys := [.nl _, .sc _]) rfl rfl rfl agg_impl_Disk sz_impl_Disk (fun h => by cases h) rfl rfl (gle rfl)) rfl (gle rfl)) rfl ?_
    refine SV.op (ok_store_bp (b := 1) (i := 0) (m := 2) (ag := true) (zs := [.nl _, .sc _]) (ys := [.nl _, .sc _]) rfl rfl rfl rfl sz_impl_Disk (fun h => by cases h) rfl (gle rfl) rfl rfl rfl) rfl ?_
    refine SV.nil ?_
    refine SV.tn ?_
    refine SV.ret ?_
    refine SV.tr ?_
    apply SV.done (hf := Tryd.results17) (ht := rfl) (he := .inl rfl)
    case hr => exact (ResAll.cons (ResOk.cell (b := 1) (ag := true) (xs := [.nl _, .sc _]) rfl rfl agg_impl_Disk sz_impl_Disk (fun h => by cases h)) ResAll.nil')
    case h2 => simp [two]
    refine ⟨rfl, ⟨?_, ?_, trivial⟩, trivial⟩ <;> (rw [ho]; first | rfl | (show some (T.seq _ _) = some (T.seq _ _); rw [hte]; done))
  · skip   -- c0.F
    have ho : DiskD.purge X = ⟨X.fFiles.filter FileD.whole, X.fNextName⟩ := by unfold DiskD.purge; simp at hc0; rw [hc0]; rfl
    refine SV.skip ?_
    refine SV.tn ?_
    refine SV.seq' ?_
    refine SV.seq' ?_
    refine SV.region ?_
    refine SV.op (OpL.ok (nb := 3) (ok_field_bp (b := 0) (o' := 0) (off := 0) rfl rfl fld_impl_Disk_0) rfl (gle rfl)) rfl ?_
    refine SV.op (OpL.ok (nb := 3) (ok_load_bp (b := 0) (i := 0) (ag := false) (m := 1) (ys := [.ro _]) rfl rfl rfl agg_s_impl_File sz_s_impl_File (fun _ => rfl) rfl rfl (gle rfl)) rfl (gle rfl)) rfl ?_
    refine SV.op (OpL.ok (nb := 3) (ok_len (lf := .ro _) rfl elt_impl_File.und rfl rfl) rfl (gle rfl)) rfl ?_
    refine SV.op (OpL.ok (nb := 3) (ok_move (v := V.one (.sc _)) (.inl rfl) rfl) rfl (gle rfl)) rfl ?_
    refine SV.nil ?_
    refine SV.tn ?_
    refine SV.block ?_
    refine SV.nlbox (b := 2) (j := 0) (kk := 0) rfl rfl rfl (ys := [.hd 0, .sc _]) rfl ?_
    refine SV.loopF (X := Nat) (fun (σ : VS) t => (((((((((VS.nil.new (.seq 50 (((X.fFiles.take t).filter FileD.whole).map tFile))).box 26 [σ.bl 0 0, σ.bl 0 1]).box 26 [σ.bl 1 0, σ.bl 1 1]).box 26 [.hd 0, σ.bl 2 1]).put 2 (V.flat false [.bp 1 0])).put 3 (V.flat false [.bp 2 0])).put 14 (σ.tm 14)).put 15 (σ.tm 15)).put 16 (V.flat false [.sc (.int .i64 ((t : Int)))]))) (fun t => t ≤ X.fFiles.length) (fun t => X.fFiles.length - t) ?_ ?_
    · skip
      refine SV.again (fun i => [0].getD i 0) 0 ((by first | exact Nat.zero_le _ | (refine ⟨Nat.zero_le _, ?_⟩; simp; done) | (simp; done) | omega)) (pins hE rfl rfl) (VS.le.mk' (le_put (le_put (le_put (le_put (le_put (le_box (le_box (le_box (le_new le_nil)))) (V.le.keep (ag := false) (xs := [.bp 1 0]) (ys := [.bp 1 0]) rfl rfl ⟨⟨rfl, (gle rfl)⟩, trivial⟩)) (V.le.keep (ag := false) (xs := [.bp 2 0]) (ys := [.bp 2 0]) rfl rfl ⟨⟨rfl, (gle rfl)⟩, trivial⟩)) (V.le.keep (ag := false) (xs := [.ro _]) (ys := [.ro _]) rfl rfl ⟨rfl, trivial⟩)) (V.le.keep (ag := false) (xs := [.sc _]) (ys := [.sc _]) rfl rfl ⟨rfl, trivial⟩)) (V.le.keep (ag := false) (xs := [.sc _]) (ys := [.sc _]) rfl rfl ⟨(by first | rfl | (show Leaf.sc _ = Leaf.sc _; refine congrArg Leaf.sc ?_; first | rfl | go_num | (simp [cntAll]; done)) | (simp [cntAll]; done) | (simp; omega)), trivial⟩)) ⟨⟨rfl, ⟨rfl, rfl, trivial⟩⟩, ⟨⟨rfl, ⟨rfl, rfl, trivial⟩⟩, ⟨⟨rfl, ⟨⟨rfl, (gle rfl), (gle rfl)⟩, rfl, trivial⟩⟩, trivial⟩⟩⟩ ⟨.inr ⟨_, _, rfl, ?ob1_0, (gle rfl)⟩, trivial⟩ (new_ob nil_ob) (fun i j hi hj e => inj_list (l := [0]) (by decide) i j hi hj e))
      case ob1_0 =>
        show some (T.seq _ _) = some (T.seq _ _)
        first | rfl | exact congrArg some (congrArg (T.seq _) (by simp))
    · rintro t ht
      refine SV.seq' ?_
      refine SV.region ?_
      refine SV.op (OpL.ok (nb := 3) (ok_s2 (x := .tmp 16) (x' := .tmp 15) (VScal.one rfl) (VScal.one rfl) (fun ρ h1 h2 w => by go_simp; (try go_bits); with_reducible rfl) rfl) rfl (gle rfl)) rfl ?_
      refine SV.nil ?_
      refine SV.tn ?_
      refine SV.seq' ?_
      refine SV.cond rfl (fun hc1 => ?_) (fun hc1 => ?_)
      · skip   -- c1.T
        have htl : t < X.fFiles.length := by simpa using hc1
        have hx : X.fFiles[t]? = some X.fFiles[t] := by simp [htl]
        have hFR : wtFile X.fFiles[t] ≤ 1000000000 := by have h1 := wt_file_at X.fFiles t htl; have h8 : wtDisk X = wtFiles X.fFiles := rfl; omega
        have hP := (hX.1 X.fFiles[t] (get_mem hx)).2.1
        have hfl := List.length_filter_le FileD.whole (X.fFiles.take t)
        have htk : (X.fFiles.take t).length ≤ t := by simp; omega
        refine SV.skip ?_
        refine SV.tn ?_
        refine SV.seq' ?_
        refine SV.block ?_
        refine SV.seq' ?_
        refine SV.region ?_
        refine SV.op (OpL.ok (nb := 3) (ok_index (n := 4) (lf := .ro _) rfl elt_impl_File.und sz_impl_File rfl rfl rfl (map_at (by assumption))) rfl (gle rfl)) rfl ?_
        refine SV.op (OpL.ok (nb := 3) (ok_load_rp (ag := true) (m := 4) (ys := [.sc _, .ro _, .sc _, .sc _]) rfl rfl agg_impl_File sz_impl_File (fun h => by cases h) (gle rfl) rfl) rfl (gle rfl)) rfl ?_
        refine SV.op (OpMk.ok (ok_alloc (kk := 3) (xs := [.sc _, .nl _, .sc _, .sc _]) rfl rfl zero_impl_File ⟨rfl, rfl, rfl, ⟨1, by decide, sz_impl_Page⟩, rfl, rfl, rfl, rfl, trivial⟩ rfl (gle rfl))) rfl ?_
        refine SV.op (ok_store_bp (b := 3) (i := 0) (m := 4) (ag := true) (zs := [.sc _, .ro _, .sc _, .sc _]) (ys := [.sc _, .ro _, .sc _, .sc _]) rfl rfl rfl rfl sz_impl_File (fun h => by cases h) rfl (gle rfl) rfl rfl rfl) rfl ?_
        refine SV.nil ?_
        refine SV.tn ?_
        refine SV.seq' ?_
        refine SV.region ?_
        refine SV.op (OpL.ok (nb := 4) (ok_load_bp (b := 3) (i := 0) (ag := true) (m := 4) (ys := [.sc _, .ro _, .sc _, .sc _]) rfl rfl rfl agg_impl_File sz_impl_File (fun h => by cases h) rfl rfl (gle rfl)) rfl (gle rfl)) rfl ?_
        refine SV.op (OpMk.ok (ok_callD (ls := [(false, [.sc _])]) hD rfl rfl ⟨_, _, Tryd.func32, rfl, by decide⟩ (vwhole_i X.fFiles[t] hP hFR) ⟨⟨[.sc _, .ro _, .sc _, .sc _], rfl, ⟨rfl, rfl, rfl, rfl, trivial⟩⟩, trivial⟩ rfl (gle rfl))) rfl ?_
        refine SV.nil ?_
        refine SV.tn ?_
        refine SV.cond rfl (fun hc2 => ?_) (fun hc2 => ?_)
        · skip   -- c2.T
          refine SV.draw [.q 0, .q 1, .q 2, .m 3, .m 4, .m 5, .q 6] [7] (by kernel_rfl) (by kernel_rfl) ?_
          refine DW.q rfl (ok_field_bp (b := 2) (o' := 0) (off := 0) rfl rfl fld_impl_Disk_0) rfl rfl (gle rfl) (fun _ _ _ _ h => h) ?_
          refine DW.q rfl (ok_load_bp (b := 2) (i := 0) (ag := false) (m := 1) (ys := [.hd 0]) rfl rfl rfl agg_s_impl_File sz_s_impl_File (fun _ => rfl) rfl rfl (gle rfl)) rfl rfl (gle rfl) (fun _ _ _ _ h => h) ?_
          refine DW.q rfl (ok_load_bp (b := 3) (i := 0) (ag := true) (m := 4) (ys := [.sc _, .ro _, .sc _, .sc _]) rfl rfl rfl agg_impl_File sz_impl_File (fun h => by cases h) rfl rfl (gle rfl)) rfl rfl (gle rfl) (fun _ _ _ _ h => h) ?_
          refine DW.m [1] rfl (ok_call (ls := [(true, [.sc _, .hd 1, .sc _, .sc _])]) rfl rfl ⟨_, _, Tryd.func40, rfl, by decide⟩ (vclonefile_i X.fFiles[t] hFR) ⟨⟨[.sc _, .ro _, .sc _, .sc _], rfl, ⟨rfl, rfl, rfl, rfl, trivial⟩⟩, trivial⟩ rfl (gle rfl)) rfl (gle rfl) (gle rfl) (.inl rfl) (fun j hj => by
              simp only [List.mem_cons, List.not_mem_nil, or_false] at hj
              rcases hj with rfl
              · exact .inr ⟨(gle rfl), (gle rfl), .inl rfl⟩) ?_
          refine DW.m [2, 1] rfl (ok_lit1 (kk := 2) elt_impl_File (ag := true) (xs := [.sc _, .hd 1, .sc _, .sc _]) rfl rfl rfl rfl (fun h => by cases h) (outs_c rfl (outs_c rfl (outs_c rfl (outs_c rfl outs_n)))) (by simp [two]) rfl (gle rfl)) rfl (gle rfl) (gle rfl) (.inl rfl) (fun j hj => by
              simp only [List.mem_cons, List.not_mem_nil, or_false] at hj
              rcases hj with rfl | rfl
              · exact .inr ⟨(gle rfl), (gle rfl), .inl rfl⟩
              · exact .inl (by decide)) ?_
          refine DW.m [2, 1] rfl (ok_append (kk := 3) elt_impl_File (ls := .hd 0) (lx := .hd 2) rfl rfl rfl rfl rfl rfl (by intro i h1 h2; cases h1; cases h2) (by simp; omega) rfl (gle rfl)) rfl (gle rfl) (gle rfl) (.inr ⟨0, rfl, .inr ⟨(gle rfl), rfl⟩⟩) (fun j hj => by
              simp only [List.mem_cons, List.not_mem_nil, or_false] at hj
              rcases hj with rfl | rfl
              · exact .inl (by decide)
              · exact .inl (by decide)) ?_
          refine DW.q rfl (ok_field_bp (b := 2) (o' := 0) (off := 0) rfl rfl fld_impl_Disk_0) rfl rfl (gle rfl) (fun _ _ _ _ h => h) ?_
          refine DW.stores ?_
          refine SV.z rfl (ok_store_bp (b := 2) (i := 0) (m := 1) (ag := false) (zs := [.hd 3]) (ys := [.hd 3, .sc _]) rfl rfl rfl rfl sz_s_impl_File (fun _ => rfl) rfl (gle rfl) rfl rfl rfl) rfl ?_
          refine SV.zend ?_
          refine SV.bn ?_
          refine SV.tn ?_
          refine SV.region ?_
          refine SV.op (OpL.ok (nb := 4) (ok_s2 (x := .tmp 16) (x' := .const ((Value.int IntKind.i64 1))) (VScal.one rfl) (VScal.one rfl) (fun ρ h1 h2 w => by go_simp; (try go_bits); with_reducible rfl) rfl) rfl (gle rfl)) rfl ?_
          refine SV.op (OpL.ok (nb := 4) (ok_move (v := V.one (.sc _)) (.inl rfl) rfl) rfl (gle rfl)) rfl ?_
          refine SV.nil ?_
          refine SV.tn ?_
          refine SV.again (fun i => [3].getD i 0) (t + 1) (⟨by omega, by omega⟩) (pins hE rfl rfl) (VS.le.mk' (le_put (le_put (le_put (le_put (le_put (le_box (le_box (le_box (le_new le_nil)))) (V.le.keep (ag := false) (xs := [.bp 1 0]) (ys := [.bp 1 0]) rfl rfl ⟨⟨rfl, (gle rfl)⟩, trivial⟩)) (V.le.keep (ag := false) (xs := [.bp 2 0]) (ys := [.bp 2 0]) rfl rfl ⟨⟨rfl, (gle rfl)⟩, trivial⟩)) (V.le.keep (ag := false) (xs := [.ro _]) (ys := [.ro _]) rfl rfl ⟨rfl, trivial⟩)) (V.le.keep (ag := false) (xs := [.sc _]) (ys := [.sc _]) rfl rfl ⟨rfl, trivial⟩)) (V.le.keep (ag := false) (xs := [.sc _]) (ys := [.sc _]) rfl rfl ⟨(by first | rfl | (show Leaf.sc _ = Leaf.sc _; refine congrArg Leaf.sc ?_; first | rfl | go_num | (simp [cntAll]; done)) | (simp [cntAll]; done) | (simp; omega)), trivial⟩)) ⟨⟨rfl, ⟨rfl, rfl, trivial⟩⟩, ⟨⟨rfl, ⟨rfl, rfl, trivial⟩⟩, ⟨⟨rfl, ⟨⟨rfl, (gle rfl), (gle rfl)⟩, rfl, trivial⟩⟩, trivial⟩⟩⟩ ⟨.inr ⟨_, _, rfl, ?ob2_0, (gle rfl)⟩, trivial⟩ (new_ob nil_ob) (fun i j hi hj e => inj_list (l := [3]) (by decide) i j hi hj e))
          case ob2_0 =>
            show some (T.seq _ _) = some (T.seq _ _)
            rw [List.take_succ_eq_append_getElem htl, List.filter_append, List.map_append]
            (first | (simp [show X.fFiles[t].whole = true from hc2]; rfl) | (simp [show X.fFiles[t].whole = false from hc2]; done) | (simp [show X.fFiles[t].whole = true from hc2, tFile]; done) | trace_state)
        · skip   -- c2.F
          refine SV.skip ?_
          refine SV.bn ?_
          refine SV.tn ?_
          refine SV.region ?_
          refine SV.op (OpL.ok (nb := 4) (ok_s2 (x := .tmp 16) (x' := .const ((Value.int IntKind.i64 1))) (VScal.one rfl) (VScal.one rfl) (fun ρ h1 h2 w => by go_simp; (try go_bits); with_reducible rfl) rfl) rfl (gle rfl)) rfl ?_
          refine SV.op (OpL.ok (nb := 4) (ok_move (v := V.one (.sc _)) (.inl rfl) rfl) rfl (gle rfl)) rfl ?_
          refine SV.nil ?_
          refine SV.tn ?_
          refine SV.again (fun i => [0].getD i 0) (t + 1) (⟨by omega, by omega⟩) (pins hE rfl rfl) (VS.le.mk' (le_put (le_put (le_put (le_put (le_put (le_box (le_box (le_box (le_new le_nil)))) (V.le.keep (ag := false) (xs := [.bp 1 0]) (ys := [.bp 1 0]) rfl rfl ⟨⟨rfl, (gle rfl)⟩, trivial⟩)) (V.le.keep (ag := false) (xs := [.bp 2 0]) (ys := [.bp 2 0]) rfl rfl ⟨⟨rfl, (gle rfl)⟩, trivial⟩)) (V.le.keep (ag := false) (xs := [.ro _]) (ys := [.ro _]) rfl rfl ⟨rfl, trivial⟩)) (V.le.keep (ag := false) (xs := [.sc _]) (ys := [.sc _]) rfl rfl ⟨rfl, trivial⟩)) (V.le.keep (ag := false) (xs := [.sc _]) (ys := [.sc _]) rfl rfl ⟨(by first | rfl | (show Leaf.sc _ = Leaf.sc _; refine congrArg Leaf.sc ?_; first | rfl | go_num | (simp [cntAll]; done)) | (simp [cntAll]; done) | (simp; omega)), trivial⟩)) ⟨⟨rfl, ⟨rfl, rfl, trivial⟩⟩, ⟨⟨rfl, ⟨rfl, rfl, trivial⟩⟩, ⟨⟨rfl, ⟨⟨rfl, (gle rfl), (gle rfl)⟩, rfl, trivial⟩⟩, trivial⟩⟩⟩ ⟨.inr ⟨_, _, rfl, ?ob3_0, (gle rfl)⟩, trivial⟩ (new_ob nil_ob) (fun i j hi hj e => inj_list (l := [0]) (by decide) i j hi hj e))
          case ob3_0 =>
            show some (T.seq _ _) = some (T.seq _ _)
            rw [List.take_succ_eq_append_getElem htl, List.filter_append, List.map_append]
            (first | (simp [show X.fFiles[t].whole = true from hc2]; rfl) | (simp [show X.fFiles[t].whole = false from hc2]; done) | (simp [show X.fFiles[t].whole = true from hc2, tFile]; done) | trace_state)
      · skip   -- c1.F
        have hte : X.fFiles.take t = X.fFiles := by have : ¬ t < X.fFiles.length := (by simpa using hc1); exact List.take_of_length_le (by omega)
        refine SV.exit ?_
        refine SV.te ?_
        refine SV.te ?_
        refine SV.bh ?_
        refine SV.tn ?_
        refine SV.seq' ?_
        refine SV.region ?_
        refine SV.op (OpL.ok (nb := 3) (ok_load_bp (b := 2) (i := 0) (ag := true) (m := 2) (ys := [.hd 0, .sc _]) rfl rfl rfl agg_impl_Disk sz_impl_Disk (fun h => by cases h) rfl rfl (gle rfl)) rfl (gle rfl)) rfl ?_
        refine SV.op (ok_store_bp (b := 1) (i := 0) (m := 2) (ag := true) (zs := [.hd 0, .sc _]) (ys := [.hd 0, .sc _]) rfl rfl rfl rfl sz_impl_Disk (fun h => by cases h) rfl (gle rfl) rfl rfl rfl) rfl ?_
        refine SV.nil ?_
        refine SV.tn ?_
        refine SV.ret ?_
        apply SV.done (hf := Tryd.results17) (ht := rfl) (he := .inl rfl)
        case hr => exact (ResAll.cons (ResOk.cell (b := 1) (ag := true) (xs := [.hd 0, .sc _]) rfl rfl agg_impl_Disk sz_impl_Disk (fun h => by cases h)) ResAll.nil')
        case h2 => simp [two]
        refine ⟨rfl, ⟨?_, ?_, trivial⟩, trivial⟩ <;> (rw [ho]; first | rfl | (show some (T.seq _ _) = some (T.seq _ _); rw [hte]; done))
end Go.Proofs.YtjdjceohlcimaaaDoor
/- The law of sealed files: told by trees. -/
namespace Go.Proofs.YtjdjceohlcimaaaDoor
open Go Go.RowKit V
set_option linter.unusedVariables false
theorem VCD.toP {Φ : World → Prop} {f : FuncId} {ins rs : List (Bool × List V.T)} {tup : Bool} (h : ∀ w, Φ w → Tab w) (k : VCD Tryd.prog f ins tup rs) : VCP Φ Tryd.prog f ins tup rs := fun w hw => k w (h w hw)
theorem VCE.mono {Y : Type} {Φ Ψ : World → Prop} {Pr : Y → Prop} {f : FuncId} {ins : List (Bool × List V.T)} {tup : Bool} {rs : Y → List (Bool × List V.T)} (h : ∀ w, Φ w → Ψ w) (k : VCE Ψ Pr Tryd.prog f ins tup rs) : VCE Φ Pr Tryd.prog f ins tup rs := fun w hw => k w (h w hw)
theorem VCI.mono {Y : Type} {Φ Ψ : World → Prop} {Pr : Y → Prop} {f : FuncId} {ins : List (Bool × List V.T)} {tup : Bool} {rs : Y → List (Bool × List V.T)} (h : ∀ w, Φ w → Ψ w) (k : VCI Ψ Pr Tryd.prog f ins tup rs) : VCI Φ Pr Tryd.prog f ins tup rs := fun w hw => k w (h w hw)
theorem vbigQ {ad : Option Addr} {len cap : Nat} {zs : List Int} : VCP (fun w => Code ad len cap zs w ∧ Tab w) Tryd.prog 4 [(false, [.lit (.slice ad len cap)])] false [(false, [.lit (.bool false)])] := fun w hw vs hv => VC.plainAt (ins := [(false, [.slice ad len cap])]) (ag := false) (rs := [.bool false]) (fun u hu => by rw [List.mem_singleton.1 hu]; rfl) ((big_no ad len cap w hw.1.small).mono fun e w' ⟨he, hw'⟩ => ⟨he, hw' ▸ Below.refl _ _⟩) vs hv
theorem vsame (L : List R) (hL : ∀ r ∈ L, r.wf) (hl : L.length ≤ 1000000000) : VC Tryd.prog 19 [(false, [.seq 62 (L.map tRow)]), (false, [.seq 62 (L.map tRow)])] false [(false, [.lit (.bool true)])] := fun w vs hv => by
  obtain ⟨k, vs', rfl, h1, h2⟩ := hv.shape (Fits.slice 62 fitsRow) hL
  obtain ⟨q, vs', rfl, h4, h5⟩ := h2.shape (Fits.slice 62 fitsRow) hL
  rw [h5.none]
  have e : k.2.1 = L.length := h1.1.1.symm
  exact (samerows k.1 q.1 k.2.1 k.2.2 q.2.1 q.2.2 L w (rows_in h1.1) (rows_in h4.1) (by omega)).mono fun e w' he => Gives.plain (ag := false) (rs := [.bool true]) (one_mem rfl) he
theorem flat_good {Q : List (List R)} (hQ : ∀ p ∈ Q, goodPage p) : ∀ r ∈ Q.flatten, r.wf := fun r hr => by
  obtain ⟨p, hp, hr⟩ := List.mem_flatten.1 hr
  exact hQ p hp r hr
theorem flat_len {X : DiskD} {Q : List (List R)} (ho : DiskD.Ok (dk X Q)) : Q.flatten.length ≤ 1000000000 := by
  have h1 := flat_wt Q
  have h2 := DiskD.wt_dk ho
  have h3 := wt_file_at (dk X Q).fFiles X.fFiles.length (by simp [dk])
  have h4 : (dk X Q).fFiles[X.fFiles.length]'(by simp [dk]) = ⟨X.fNextName, Q, 0, false⟩ := by simp [dk]
  rw [h4] at h3
  have h5 : wtFile ⟨X.fNextName, Q, 0, false⟩ = wtPages Q := rfl
  have h6 : wtDisk (dk X Q) = wtFiles (dk X Q).fFiles := rfl
  omega
theorem ok_dz {X : DiskD} {Q : List (List R)} (hO : DiskD.Ok X) (ho : DiskD.Ok (dk X Q)) : DiskD.Ok (dz X Q) := DiskD.Ok.sealF (DiskD.seal_dk hO ho)
theorem L_read (X : DiskD) (Q : List (List R)) (hX : goodDisk X) (hO : DiskD.Ok X) (hn : X.fNextName < 1000) (hQ : ∀ p ∈ Q, goodPage p) (ho : DiskD.Ok (dk X Q)) : VCD Tryd.prog 11 [(true, tDisk (dk X Q)), (false, [.lit (.int .i64 X.fNextName)])] true [(false, [.seq 62 ([] : List (List V.T))]), (false, [.lit (.bool false)])] := by
  have h := vread_i (dk X Q) X.fNextName (good_dk hX hO hn hQ) (Nat.le_trans (DiskD.wt_dk ho) (by decide))
  rw [DiskD.read_dk hO ho] at h
  exact h
theorem L_seal (X : DiskD) (Q : List (List R)) (hX : goodDisk X) (hO : DiskD.Ok X) (hn : X.fNextName < 1000) (hQ : ∀ p ∈ Q, goodPage p) (ho : DiskD.Ok (dk X Q)) : VCD Tryd.prog 16 [(true, tDisk (dk X Q)), (false, [.lit (.int .i64 X.fNextName)])] true [(true, tDisk (dz X Q)), (false, [.lit (.bool true)])] := by
  have h := vseal_i (dk X Q) X.fNextName (good_dk hX hO hn hQ) (Nat.le_trans (DiskD.wt_dk ho) (by decide))
  rw [DiskD.seal_dk hO ho] at h
  exact h
theorem L_readz (X : DiskD) (Q : List (List R)) (hX : goodDisk X) (hO : DiskD.Ok X) (hn : X.fNextName < 1000) (hQ : ∀ p ∈ Q, goodPage p) (ho : DiskD.Ok (dk X Q)) : VCD Tryd.prog 11 [(true, tDisk (dz X Q)), (false, [.lit (.int .i64 X.fNextName)])] true [(false, [.seq 62 (Q.flatten.map tRow)]), (false, [.lit (.bool true)])] := by
  have hz := ok_dz hO ho
  have h := vread_i (dz X Q) X.fNextName (good_dz hX hO hn hQ) (Nat.le_trans hz.wt (by decide))
  rw [DiskD.read_dz hO hz] at h
  exact h
theorem L_purgei (X : DiskD) (Q : List (List R)) (hX : goodDisk X) (hO : DiskD.Ok X) (hn : X.fNextName < 1000) (hQ : ∀ p ∈ Q, goodPage p) (ho : DiskD.Ok (dk X Q)) : VCD Tryd.prog 17 [(true, tDisk (dk X Q))] false [(true, tDisk (⟨X.fFiles.filter FileD.whole, X.fNextName + 1⟩ : DiskD))] := by
  have h := vpurge_i (dk X Q) (good_dk hX hO hn hQ) (Nat.le_trans (DiskD.wt_dk ho) (by decide))
  rw [DiskD.purge_dk ho] at h
  exact h
theorem L_purges (X : DiskD) (Q : List (List R)) (hX : goodDisk X) (hO : DiskD.Ok X) (hn : X.fNextName < 1000) (hQ : ∀ p ∈ Q, goodPage p) (ho : DiskD.Ok (dk X Q)) : VC Tryd.prog 20 [(true, tDisk (dk X Q))] false [(true, tDisk (⟨X.fFiles.filter FileD.whole, X.fNextName + 1⟩ : DiskD))] := by
  have h := vpurge_s (dk X Q) (good_dk hX hO hn hQ) (Nat.le_trans (DiskD.wt_dk ho) (by decide))
  rw [DiskD.purge_dk ho] at h
  exact h
theorem L_readk (X : DiskD) (hX : goodDisk X) (hO : DiskD.Ok X) (hn : X.fNextName < 1000) : VCD Tryd.prog 11 [(true, tDisk (⟨X.fFiles.filter FileD.whole, X.fNextName + 1⟩ : DiskD)), (false, [.lit (.int .i64 X.fNextName)])] true [(false, [.seq 62 ([] : List (List V.T))]), (false, [.lit (.bool false)])] := by
  have h := vread_i (⟨X.fFiles.filter FileD.whole, X.fNextName + 1⟩ : DiskD) X.fNextName (good_part hX hO hn fun f hf => (List.mem_filter.1 hf).1) (Nat.le_trans (hO.filter hn _).wt (by decide))
  rw [DiskD.read_gone hO fun f hf => (List.mem_filter.1 hf).1] at h
  exact h
theorem L_delete (X : DiskD) (Q : List (List R)) (hX : goodDisk X) (hO : DiskD.Ok X) (hn : X.fNextName < 1000) (hQ : ∀ p ∈ Q, goodPage p) (ho : DiskD.Ok (dk X Q)) : VC Tryd.prog 18 [(true, tDisk (dz X Q)), (false, [.lit (.int .i64 X.fNextName)])] true [(true, tDisk (⟨X.fFiles, X.fNextName + 1⟩ : DiskD)), (false, [.lit (.bool true)])] := by
  have hz := ok_dz hO ho
  have h := vdelete_i (dz X Q) X.fNextName (good_dz hX hO hn hQ) (Nat.le_trans hz.wt (by decide))
  rw [DiskD.delete_dz hO hz] at h
  exact h
theorem ok_gone {X : DiskD} (hO : DiskD.Ok X) (hn : X.fNextName < 1000) : DiskD.Ok (⟨X.fFiles, X.fNextName + 1⟩ : DiskD) := by
  have h := hO.filter hn fun _ => true
  rw [List.filter_eq_self.2 fun _ _ => rfl] at h
  exact h
theorem L_readg (X : DiskD) (hX : goodDisk X) (hO : DiskD.Ok X) (hn : X.fNextName < 1000) : VCD Tryd.prog 11 [(true, tDisk (⟨X.fFiles, X.fNextName + 1⟩ : DiskD)), (false, [.lit (.int .i64 X.fNextName)])] true [(false, [.seq 62 ([] : List (List V.T))]), (false, [.lit (.bool false)])] := by
  have h := vread_i (⟨X.fFiles, X.fNextName + 1⟩ : DiskD) X.fNextName (good_part hX hO hn fun f hf => hf) (Nat.le_trans (ok_gone hO hn).wt (by decide))
  rw [DiskD.read_gone hO fun f hf => hf] at h
  exact h
theorem L_okk (X : DiskD) (hX : goodDisk X) (hO : DiskD.Ok X) (hn : X.fNextName < 1000) : VC Tryd.prog 8 [(true, tDisk (⟨X.fFiles.filter FileD.whole, X.fNextName + 1⟩ : DiskD))] false [(false, [.lit (.bool true)])] := by
  have h := vokdisk_i (⟨X.fFiles.filter FileD.whole, X.fNextName + 1⟩ : DiskD) (good_part hX hO hn fun f hf => (List.mem_filter.1 hf).1) (Nat.le_trans (hO.filter hn _).wt (by decide))
  rw [(hO.filter hn _).yes] at h
  exact h
theorem L_again (X : DiskD) (hX : goodDisk X) (hO : DiskD.Ok X) (hn : X.fNextName < 1000) : VCD Tryd.prog 17 [(true, tDisk (⟨X.fFiles.filter FileD.whole, X.fNextName + 1⟩ : DiskD))] false [(true, tDisk (⟨X.fFiles.filter FileD.whole, X.fNextName + 1⟩ : DiskD))] := by
  have h := vpurge_i (⟨X.fFiles.filter FileD.whole, X.fNextName + 1⟩ : DiskD) (good_part hX hO hn fun f hf => (List.mem_filter.1 hf).1) (Nat.le_trans (hO.filter hn _).wt (by decide))
  rw [DiskD.purge_again hO hn] at h
  exact h
theorem L_eqk (X : DiskD) (hX : goodDisk X) (hO : DiskD.Ok X) (hn : X.fNextName < 1000) : VC Tryd.prog 10 [(true, tDisk (⟨X.fFiles.filter FileD.whole, X.fNextName + 1⟩ : DiskD)), (true, tDisk (⟨X.fFiles.filter FileD.whole, X.fNextName + 1⟩ : DiskD))] false [(false, [.lit (.bool true)])] := by
  have h := veqd_s (⟨X.fFiles.filter FileD.whole, X.fNextName + 1⟩ : DiskD) (⟨X.fFiles.filter FileD.whole, X.fNextName + 1⟩ : DiskD) (good_part hX hO hn fun f hf => (List.mem_filter.1 hf).1) (good_part hX hO hn fun f hf => (List.mem_filter.1 hf).1)
  rw [decide_eq_true rfl] at h
  exact h
set_option maxRecDepth 100000 in
set_option maxHeartbeats 2000000 in
theorem vlaw (ad : Option Addr) (len cap : Nat) (zs : List Int) : VCP (fun w => Code ad len cap zs w ∧ Tab w) Tryd.prog 3 [(false, [.lit (.slice ad len cap)])] false [(false, [.lit (.bool true)])] := by
  refine VCP.enter (fun w w' h hb => ⟨h.1.below hb, h.2.stay hb⟩) Tryd.func3 rfl Tryd.ntmps3 (gle rfl) fun E hE hD => ?_
  refine SV.seq' ?_
  refine SV.region ?_
  refine SV.op (OpL.ok (nb := 0) (ok_move (v := V.one (.sc _)) (.inr rfl) rfl) rfl (gle rfl)) rfl ?_
  refine SV.nil ?_
  refine SV.tn ?_
  refine SV.seq' ?_
  refine SV.seq' ?_
  refine SV.region ?_
  refine SV.op (OpL.ok (nb := 0) (ok_move (v := V.one (.sc _)) (.inl rfl) rfl) rfl (gle rfl)) rfl ?_
  refine SV.op (OpMk.ok (ok_callP (ls := [(false, [.sc _])]) hD rfl rfl ⟨_, _, Tryd.func4, rfl, by decide⟩ (vbigQ) ⟨⟨[.sc _], rfl, ⟨rfl, trivial⟩⟩, trivial⟩ rfl (gle rfl))) rfl ?_
  refine SV.nil ?_
  refine SV.tn ?_
  refine SV.cond rfl (fun hc0 => ?_) (fun hc0 => ?_)
  · skip   -- c0.T
    simp at hc0
  · skip   -- c0.F
    refine SV.skip ?_
    refine SV.tn ?_
    refine SV.seq' ?_
    refine SV.region ?_
    refine SV.op (OpL.ok (nb := 0) (ok_move (v := V.one (.sc _)) (.inl rfl) rfl) rfl (gle rfl)) rfl ?_
    refine SV.callEI hD rfl ⟨_, _, Tryd.func5, rfl, by decide⟩ (VCI.mono (fun w h => h.1) vd_create) ⟨⟨[.sc _], rfl, ⟨rfl, trivial⟩⟩, trivial⟩ rfl (gle rfl) rfl ?_
    rintro X ⟨hX, hw⟩
    have hvi := vcreate_i X hX (by omega)
    have hvs := vcreate_s X hX (by omega)
    obtain ⟨D1, hD1⟩ : ∃ D1, (DiskD.create X).getD X = D1 := ⟨_, rfl⟩
    obtain ⟨b1, hb1⟩ : ∃ b1, (DiskD.create X).isSome = b1 := ⟨_, rfl⟩
    have hG1 : goodDisk D1 := by rw [← hD1]; exact good_create hX
    rw [hD1, hb1] at hvi hvs
    refine SV.op (OpMk.ok (ok_alloc (kk := 0) (xs := [.nl _, .sc _]) rfl rfl zero_impl_Disk ⟨rfl, ⟨4, by decide, sz_impl_File⟩, rfl, rfl, trivial⟩ rfl (gle rfl))) rfl ?_
    refine SV.op (ok_store_bp (b := 0) (i := 0) (m := 2) (ag := true) (zs := [.nd 0 _ _ none, .sc _]) (ys := [.nd 0 _ _ none, .sc _]) rfl rfl rfl rfl sz_impl_Disk (fun h => by cases h) rfl (gle rfl) rfl rfl rfl) rfl ?_
    refine SV.nil ?_
    refine SV.tn ?_
    refine SV.seq' ?_
    refine SV.region ?_
    refine SV.op (OpL.ok (nb := 1) (ok_load_bp (b := 0) (i := 0) (ag := true) (m := 2) (ys := [.nd 0 _ _ none, .sc _]) rfl rfl rfl agg_impl_Disk sz_impl_Disk (fun h => by cases h) rfl rfl (gle rfl)) rfl (gle rfl)) rfl ?_
    refine SV.op (OpMk.ok (ok_call (ls := [(true, [.hd 1, .sc _]), (false, [.sc _]), (false, [.sc _])]) rfl rfl ⟨_, _, Tryd.func6, rfl, by decide⟩ (hvi) ⟨⟨[.nd 0 _ _ none, .sc _], rfl, ⟨rfl, rfl, trivial⟩⟩, trivial⟩ rfl (gle rfl))) rfl ?_
    refine SV.op (OpL.ok (nb := 1) (ok_move (v := ⟨true, [(true, [.hd 1, .sc _]), (false, [.sc _]), (false, [.sc _])]⟩) (.inl rfl) rfl) rfl (gle rfl)) rfl ?_
    refine SV.op (OpL.ok (nb := 1) (ok_extract (ag := true) (xs := [.hd 1, .sc _]) rfl rfl rfl) rfl (gle rfl)) rfl ?_
    refine SV.op (OpL.ok (nb := 1) (ok_extract (ag := false) (xs := [.sc _]) rfl rfl rfl) rfl (gle rfl)) rfl ?_
    refine SV.op (OpL.ok (nb := 1) (ok_extract (ag := false) (xs := [.sc _]) rfl rfl rfl) rfl (gle rfl)) rfl ?_
    refine SV.op (OpMk.ok (ok_alloc (kk := 1) (xs := [.nl _, .sc _]) rfl rfl zero_impl_Disk ⟨rfl, ⟨4, by decide, sz_impl_File⟩, rfl, rfl, trivial⟩ rfl (gle rfl))) rfl ?_
    refine SV.op (ok_store_bp (b := 1) (i := 0) (m := 2) (ag := true) (zs := [.hd 1, .sc _]) (ys := [.hd 1, .sc _]) rfl rfl rfl rfl sz_impl_Disk (fun h => by cases h) rfl (gle rfl) rfl rfl rfl) rfl ?_
    refine SV.op (OpL.ok (nb := 2) (ok_move (v := V.one (.sc _)) (.inr rfl) rfl) rfl (gle rfl)) rfl ?_
    refine SV.op (OpL.ok (nb := 2) (ok_move (v := V.one (.sc _)) (.inr rfl) rfl) rfl (gle rfl)) rfl ?_
    refine SV.nil ?_
    refine SV.tn ?_
    refine SV.seq' ?_
    refine SV.region ?_
    refine SV.op (OpL.ok (nb := 2) (ok_load_bp (b := 0) (i := 0) (ag := true) (m := 2) (ys := [.nd 0 _ _ none, .sc _]) rfl rfl rfl agg_impl_Disk sz_impl_Disk (fun h => by cases h) rfl rfl (gle rfl)) rfl (gle rfl)) rfl ?_
    refine SV.op (OpMk.ok (ok_call (ls := [(true, [.hd 2, .sc _]), (false, [.sc _]), (false, [.sc _])]) rfl rfl ⟨_, _, Tryd.func7, rfl, by decide⟩ (hvs) ⟨⟨[.nd 0 _ _ none, .sc _], rfl, ⟨rfl, rfl, trivial⟩⟩, trivial⟩ rfl (gle rfl))) rfl ?_
    refine SV.op (OpL.ok (nb := 2) (ok_move (v := ⟨true, [(true, [.hd 2, .sc _]), (false, [.sc _]), (false, [.sc _])]⟩) (.inl rfl) rfl) rfl (gle rfl)) rfl ?_
    refine SV.op (OpL.ok (nb := 2) (ok_extract (ag := true) (xs := [.hd 2, .sc _]) rfl rfl rfl) rfl (gle rfl)) rfl ?_
    refine SV.op (OpL.ok (nb := 2) (ok_extract (ag := false) (xs := [.sc _]) rfl rfl rfl) rfl (gle rfl)) rfl ?_
    refine SV.op (OpL.ok (nb := 2) (ok_extract (ag := false) (xs := [.sc _]) rfl rfl rfl) rfl (gle rfl)) rfl ?_
    refine SV.op (OpMk.ok (ok_alloc (kk := 2) (xs := [.nl _, .sc _]) rfl rfl zero_impl_Disk ⟨rfl, ⟨4, by decide, sz_impl_File⟩, rfl, rfl, trivial⟩ rfl (gle rfl))) rfl ?_
    refine SV.op (ok_store_bp (b := 2) (i := 0) (m := 2) (ag := true) (zs := [.hd 2, .sc _]) (ys := [.hd 2, .sc _]) rfl rfl rfl rfl sz_impl_Disk (fun h => by cases h) rfl (gle rfl) rfl rfl rfl) rfl ?_
    refine SV.op (OpL.ok (nb := 3) (ok_move (v := V.one (.sc _)) (.inr rfl) rfl) rfl (gle rfl)) rfl ?_
    refine SV.op (OpL.ok (nb := 3) (ok_move (v := V.one (.sc _)) (.inr rfl) rfl) rfl (gle rfl)) rfl ?_
    refine SV.nil ?_
    refine SV.tn ?_
    refine SV.seq' ?_
    refine SV.seq' ?_
    refine SV.draw [.q 0, .q 1, .q 2, .q 3, .q 4, .q 5, .q 6, .q 7, .q 8, .q 9, .q 11, .m 10, .m 12, .q 13, .q 14, .q 15, .q 16, .q 17, .q 18, .q 19, .q 20, .m 21, .q 22, .q 23, .q 24] [] (by kernel_rfl) (by kernel_rfl) ?_
    refine DW.q rfl (ok_move (v := V.one (.sc _)) (.inl rfl) rfl) rfl rfl (gle rfl) (fun _ _ _ _ h => h) ?_
    refine DW.q rfl (ok_move (v := V.one (.sc _)) (.inl rfl) rfl) rfl rfl (gle rfl) (fun _ _ _ _ h => h) ?_
    refine DW.q rfl (ok_s2 (x := .tmp 46) (x' := .tmp 47) (VScal.one rfl) (VScal.one rfl) (fun ρ h1 h2 w => by go_simp; (try go_bits); with_reducible rfl) rfl) rfl rfl (gle rfl) (fun _ _ _ _ h => h) ?_
    refine DW.q rfl (ok_move (v := V.one (.sc _)) (.inl rfl) rfl) rfl rfl (gle rfl) (fun _ _ _ _ h => h) ?_
    refine DW.split (d := 49) rfl (fun hg0 => ?_) (fun hg0 => ?_)
    · skip   -- g0.T
      (exfalso; first | (simp at hg0; done) | (simp at hg0; omega))
    · skip   -- g0.F
      refine DW.qY rfl (ok_move (v := V.one (.sc _)) (.inl rfl) rfl) rfl rfl rfl (gle rfl) rfl rfl rfl (gle rfl) (fun _ _ _ _ h => h) ?_
      refine DW.qY rfl (ok_move (v := V.one (.sc _)) (.inl rfl) rfl) rfl rfl rfl (gle rfl) rfl rfl rfl (gle rfl) (fun _ _ _ _ h => h) ?_
      refine DW.qY rfl (ok_s2 (x := .tmp 50) (x' := .tmp 51) (VScal.one rfl) (VScal.one rfl) (fun ρ h1 h2 w => by go_simp; (try go_bits); with_reducible rfl) rfl) rfl rfl rfl (gle rfl) rfl rfl rfl (gle rfl) (fun _ _ _ _ h => h) ?_
      refine DW.q rfl (ok_pickF (v := V.one (.sc _)) rfl rfl rfl) rfl rfl (gle rfl) (fun _ _ _ _ h => h) ?_
      refine DW.q rfl (ok_move (v := V.one (.sc _)) (.inl rfl) rfl) rfl rfl (gle rfl) (fun _ _ _ _ h => h) ?_
      refine DW.split (d := 54) rfl (fun hg1 => ?_) (fun hg1 => ?_)
      · skip   -- g1.T
        (exfalso; first | (simp at hg1; done) | (simp at hg1; omega))
      · skip   -- g1.F
        refine DW.qY rfl (ok_load_bp (b := 0) (i := 0) (ag := true) (m := 2) (ys := [.nd 0 _ _ none, .sc _]) rfl rfl rfl agg_impl_Disk sz_impl_Disk (fun h => by cases h) rfl rfl (gle rfl)) rfl rfl rfl (gle rfl) rfl rfl rfl (gle rfl) (fun _ _ _ _ h => h) ?_
        refine DW.qY rfl (ok_load_bp (b := 0) (i := 0) (ag := true) (m := 2) (ys := [.nd 0 _ _ none, .sc _]) rfl rfl rfl agg_impl_Disk sz_impl_Disk (fun h => by cases h) rfl rfl (gle rfl)) rfl rfl rfl (gle rfl) rfl rfl rfl (gle rfl) (fun _ _ _ _ h => h) ?_
        refine DW.m' [] rfl (ok_call (ls := [(false, [.sc _])]) rfl rfl ⟨_, _, Tryd.func8, rfl, by decide⟩ (vokdisk_i X hX (by omega)) ⟨⟨[.nd 0 _ _ none, .sc _], rfl, ⟨rfl, rfl, trivial⟩⟩, trivial⟩ rfl (gle rfl)) (fun hr => wantedY hr rfl rfl rfl (gle rfl) rfl rfl) (gle rfl) (gle rfl) (.inl rfl) (fun j hj => by cases hj) ?_
        refine DW.m' [] rfl (ok_call (ls := [(false, [.sc _])]) rfl rfl ⟨_, _, Tryd.func9, rfl, by decide⟩ (vokdisk_s X hX (by omega)) ⟨⟨[.nd 0 _ _ none, .sc _], rfl, ⟨rfl, rfl, trivial⟩⟩, trivial⟩ rfl (gle rfl)) (fun hr => wantedY hr rfl rfl rfl (gle rfl) rfl rfl) (gle rfl) (gle rfl) (.inl rfl) (fun j hj => by cases hj) ?_
        refine DW.qY rfl (ok_s2 (x := .tmp 56) (x' := .tmp 58) (VScal.one rfl) (VScal.one rfl) (fun ρ h1 h2 w => by go_simp; (try go_bits); with_reducible rfl) rfl) rfl rfl rfl (gle rfl) rfl rfl rfl (gle rfl) (fun _ _ _ _ h => h) ?_
        refine DW.q rfl (ok_pickF (v := V.one (.sc _)) rfl rfl rfl) rfl rfl (gle rfl) (fun _ _ _ _ h => h) ?_
        refine DW.q rfl (ok_move (v := V.one (.sc _)) (.inl rfl) rfl) rfl rfl (gle rfl) (fun _ _ _ _ h => h) ?_
        refine DW.split (d := 61) rfl (fun hg2 => ?_) (fun hg2 => ?_)
        · skip   -- g2.T
          (exfalso; first | (simp at hg2; done) | (simp at hg2; omega))
        · skip   -- g2.F
          refine DW.qY rfl (ok_move (v := V.one (.sc _)) (.inl rfl) rfl) rfl rfl rfl (gle rfl) rfl rfl rfl (gle rfl) (fun _ _ _ _ h => h) ?_
          refine DW.qY rfl (ok_s1 (x := .tmp 62) (VScal.one rfl) (fun ρ h1 w => by go_simp; (try go_bits); with_reducible rfl) rfl) rfl rfl rfl (gle rfl) rfl rfl rfl (gle rfl) (fun _ _ _ _ h => h) ?_
          refine DW.qY rfl (ok_move (v := V.one (.sc _)) (.inl rfl) rfl) rfl rfl rfl (gle rfl) rfl rfl rfl (gle rfl) (fun _ _ _ _ h => h) ?_
          refine DW.split (d := 64) rfl (fun hg3 => ?_) (fun hg3 => ?_)
          · skip   -- g3.T
            have hbf : b1 = false := by simpa using hg3
            have hDX : D1 = X := by rw [← hD1]; rw [hbf] at hb1; cases h : DiskD.create X with | none => rfl | some e => rw [h] at hb1; cases hb1
            refine DW.qY rfl (ok_load_bp (b := 1) (i := 0) (ag := true) (m := 2) (ys := [.hd 1, .sc _]) rfl rfl rfl agg_impl_Disk sz_impl_Disk (fun h => by cases h) rfl rfl (gle rfl)) rfl rfl rfl (gle rfl) rfl rfl rfl (gle rfl) (fun _ _ _ _ h => h) ?_
            refine DW.qY rfl (ok_load_bp (b := 0) (i := 0) (ag := true) (m := 2) (ys := [.nd 0 _ _ none, .sc _]) rfl rfl rfl agg_impl_Disk sz_impl_Disk (fun h => by cases h) rfl rfl (gle rfl)) rfl rfl rfl (gle rfl) rfl rfl rfl (gle rfl) (fun _ _ _ _ h => h) ?_
            refine DW.m' [] rfl (ok_call (ls := [(false, [.sc _])]) rfl rfl ⟨_, _, Tryd.func10, rfl, by decide⟩ (veqd_s D1 X hG1 hX) ⟨⟨[.hd 1, .sc _], rfl, ⟨rfl, rfl, trivial⟩⟩, ⟨[.nd 0 _ _ none, .sc _], rfl, ⟨rfl, rfl, trivial⟩⟩, trivial⟩ rfl (gle rfl)) (fun hr => wantedY hr rfl rfl rfl (gle rfl) rfl rfl) (gle rfl) (gle rfl) (.inl rfl) (fun j hj => by cases hj) ?_
            refine DW.qY rfl (ok_s1 (x := .tmp 67) (VScal.one rfl) (fun ρ h1 w => by go_simp; (try go_bits); with_reducible rfl) rfl) rfl rfl rfl (gle rfl) rfl rfl rfl (gle rfl) (fun _ _ _ _ h => h) ?_
            refine DW.qY rfl (ok_pickT (v := V.one (.sc _)) rfl rfl rfl) rfl rfl rfl (gle rfl) rfl rfl rfl (gle rfl) (fun _ _ _ _ h => h) ?_
            refine DW.q rfl (ok_pickF (v := V.one (.sc _)) rfl rfl rfl) rfl rfl (gle rfl) (fun _ _ _ _ h => h) ?_
            refine DW.stores ?_
            refine SV.zend ?_
            refine SV.tn ?_
            refine SV.cond rfl (fun hc1 => ?_) (fun hc1 => ?_)
            · skip   -- c1.T
              (exfalso; simp [hDX] at hc1)
            · skip   -- c1.F
              refine SV.skip ?_
              refine SV.tn ?_
              refine SV.seq' ?_
              refine SV.seq' ?_
              refine SV.region ?_
              refine SV.op (OpL.ok (nb := 3) (ok_move (v := V.one (.sc _)) (.inl rfl) rfl) rfl (gle rfl)) rfl ?_
              refine SV.op (OpL.ok (nb := 3) (ok_s1 (x := .tmp 71) (VScal.one rfl) (fun ρ h1 w => by go_simp; (try go_bits); with_reducible rfl) rfl) rfl (gle rfl)) rfl ?_
              refine SV.nil ?_
              refine SV.tn ?_
              refine SV.cond rfl (fun hc2 => ?_) (fun hc2 => ?_)
              · skip   -- c2.T
                refine SV.seq' ?_
                refine SV.region ?_
                refine SV.op (OpL.ok (nb := 3) (ok_move (v := V.one (.sc _)) (.inr rfl) rfl) rfl (gle rfl)) rfl ?_
                refine SV.nil ?_
                refine SV.tn ?_
                refine SV.ret ?_
                refine SV.tr ?_
                apply SV.done (hf := Tryd.results3) (ht := rfl) (he := .inl rfl)
                case hr => exact (ResAll.cons (ResOk.tmp (ag := false) (xs := [.sc _]) rfl) ResAll.nil')
                case h2 => simp [two]
                refine ⟨rfl, ⟨?_, trivial⟩, trivial⟩ <;> first | rfl | (show some (T.lit (Value.bool _)) = some (T.lit (Value.bool _)); refine congrArg (fun z => some (T.lit (Value.bool z))) ?_; simp)
              · skip   -- c2.F
                (exfalso; simp [hbf] at hc2)
          · skip   -- g3.F
            have hbt : b1 = true := by simpa using hg3
            refine DW.qN (V' := V.one .dead) rfl rfl rfl rfl (gle rfl) rfl rfl rfl (gle rfl) (fun _ _ _ _ h => h) ?_
            refine DW.qN (V' := V.one .dead) rfl rfl rfl rfl (gle rfl) rfl rfl rfl (gle rfl) (fun _ _ _ _ h => h) ?_
            refine DW.mN rfl rfl rfl rfl (gle rfl) rfl rfl rfl (gle rfl) ?_
            refine DW.qN (V' := V.one .dead) rfl rfl rfl rfl (gle rfl) rfl rfl rfl (gle rfl) (fun _ _ _ _ h => h) ?_
            refine DW.qY rfl (ok_pickF (v := V.one (.sc _)) rfl rfl rfl) rfl rfl rfl (gle rfl) rfl rfl rfl (gle rfl) (fun _ _ _ _ h => h) ?_
            refine DW.q rfl (ok_pickF (v := V.one (.sc _)) rfl rfl rfl) rfl rfl (gle rfl) (fun _ _ _ _ h => h) ?_
            refine DW.stores ?_
            refine SV.zend ?_
            refine SV.tn ?_
            refine SV.cond rfl (fun hc3 => ?_) (fun hc3 => ?_)
            · skip   -- c3.T
              cases hc3
            · skip   -- c3.F
              refine SV.skip ?_
              refine SV.tn ?_
              refine SV.seq' ?_
              refine SV.seq' ?_
              refine SV.region ?_
              refine SV.op (OpL.ok (nb := 3) (ok_move (v := V.one (.sc _)) (.inl rfl) rfl) rfl (gle rfl)) rfl ?_
              refine SV.op (OpL.ok (nb := 3) (ok_s1 (x := .tmp 71) (VScal.one rfl) (fun ρ h1 w => by go_simp; (try go_bits); with_reducible rfl) rfl) rfl (gle rfl)) rfl ?_
              refine SV.nil ?_
              refine SV.tn ?_
              refine SV.cond rfl (fun hc4 => ?_) (fun hc4 => ?_)
              · skip   -- c4.T
                (exfalso; simp [hbt] at hc4)
              · skip   -- c4.F
                obtain ⟨hO, hn, hcr⟩ : DiskD.Ok X ∧ X.fNextName < 1000 ∧ DiskD.create X = some (dk X []) := by
                  rcases DiskD.create_cases (X := X) with h | h
                  · rw [h] at hb1; rw [hbt] at hb1; cases hb1
                  · exact h
                have hd1 : D1 = dk X [] := by rw [← hD1, hcr]; rfl
                subst hd1
                subst hbt
                have hOk0 := DiskD.Ok.create hcr
                refine SV.skip ?_
                refine SV.tn ?_
                refine SV.seq' ?_
                refine SV.region ?_
                refine SV.op (OpL.ok (nb := 3) (ok_load_bp (b := 1) (i := 0) (ag := true) (m := 2) (ys := [.hd 1, .sc _]) rfl rfl rfl agg_impl_Disk sz_impl_Disk (fun h => by cases h) rfl rfl (gle rfl)) rfl (gle rfl)) rfl ?_
                refine SV.op (OpL.ok (nb := 3) (ok_move (v := V.one (.sc _)) (.inl rfl) rfl) rfl (gle rfl)) rfl ?_
                refine SV.op (OpMk.ok (ok_callP (ls := [(false, [.hd 3]), (false, [.sc _])]) hD rfl rfl ⟨_, _, Tryd.func11, rfl, by decide⟩ (VCD.toP (fun w h => h.2) (L_read X [] hX hO hn (fun p hp => by cases hp) hOk0)) ⟨⟨[.hd 1, .sc _], rfl, ⟨rfl, rfl, trivial⟩⟩, ⟨[.sc _], rfl, ⟨rfl, trivial⟩⟩, trivial⟩ rfl (gle rfl))) rfl ?_
                refine SV.op (OpL.ok (nb := 3) (ok_move (v := ⟨true, [(false, [.hd 3]), (false, [.sc _])]⟩) (.inl rfl) rfl) rfl (gle rfl)) rfl ?_
                refine SV.op (OpL.ok (nb := 3) (ok_extract (ag := false) (xs := [.hd 3]) rfl rfl rfl) rfl (gle rfl)) rfl ?_
                refine SV.op (OpL.ok (nb := 3) (ok_extract (ag := false) (xs := [.sc _]) rfl rfl rfl) rfl (gle rfl)) rfl ?_
                refine SV.op (OpL.ok (nb := 3) (ok_move (v := V.one (.hd 3)) (.inr rfl) rfl) rfl (gle rfl)) rfl ?_
                refine SV.op (OpL.ok (nb := 3) (ok_move (v := V.one (.sc _)) (.inr rfl) rfl) rfl (gle rfl)) rfl ?_
                refine SV.nil ?_
                refine SV.tn ?_
                refine SV.seq' ?_
                refine SV.region ?_
                refine SV.op (OpL.ok (nb := 3) (ok_move (v := V.one (.sc _)) (.inl rfl) rfl) rfl (gle rfl)) rfl ?_
                refine SV.callE hD rfl ⟨_, _, Tryd.func13, rfl, by decide⟩ (VCE.mono (fun w h => h.1) vd_rows12) ⟨⟨[.sc _], rfl, ⟨rfl, trivial⟩⟩, trivial⟩ rfl (gle rfl) rfl ?_
                rintro A ⟨hA, hwA⟩
                refine SV.op (OpMk.ok (ok_call (ls := [(false, [.hd 5])]) rfl rfl ⟨_, _, Tryd.func12, rfl, by decide⟩ (vpack_s A hwA (by omega)) ⟨⟨[.hd 4], rfl, ⟨rfl, trivial⟩⟩, trivial⟩ rfl (gle rfl))) rfl ?_
                refine SV.op (OpL.ok (nb := 3) (ok_move (v := V.one (.hd 5)) (.inr rfl) rfl) rfl (gle rfl)) rfl ?_
                refine SV.nil ?_
                refine SV.tn ?_
                refine SV.seq' ?_
                refine SV.region ?_
                refine SV.op (OpMk.ok (ok_lit0 (kk := 6) elt_impl_Row rfl rfl rfl (gle rfl))) rfl ?_
                refine SV.op (OpL.ok (nb := 3) (ok_move (v := V.one (.hd 6)) (.inr rfl) rfl) rfl (gle rfl)) rfl ?_
                refine SV.nil ?_
                refine SV.tn ?_
                refine SV.seq' ?_
                refine SV.seq' ?_
                refine SV.region ?_
                refine SV.op (OpL.ok (nb := 3) (ok_move (v := V.one (.sc _)) (.inr rfl) rfl) rfl (gle rfl)) rfl ?_
                refine SV.nil ?_
                refine SV.tn ?_
                refine SV.block ?_
                refine SV.loopF (X := List (List R) × Nat) (fun (σ : VS) z => (((((((((((((VS.nil.new (σ.tree 5)).new (.seq 62 ((z.1).flatten.map tRow))).new (.seq 50 ((dk X z.1).fFiles.map tFile))).box 26 [.dead, σ.bl 0 1]).box 26 [.hd 2, .sc (.int .i64 ((dk X z.1).fNextName))]).box 26 [.dead, .dead]).put 2 (V.flat false [.sc (.bool false)])).put 4 (V.flat false [.bp 1 0])).put 5 (V.flat false [.sc (.int .i64 (X.fNextName))])).put 11 (V.flat false [.sc (.bool false)])).put 12 (V.flat false [.hd 0])).put 13 (V.flat false [.hd 1])).put 14 (V.flat false [.sc (.int .i64 ((z.2 : Int)))]))) (fun z => z.2 ≤ (R.pack A).length ∧ DiskD.Ok (dk X z.1) ∧ ∀ p ∈ z.1, goodPage p) (fun z => (R.pack A).length - z.2) ?_ ?_
                · skip
                  refine SV.again (fun i => [5, 6, 1].getD i 0) ([], 0) (⟨Nat.zero_le _, hOk0, fun p hp => by cases hp⟩) (pins hE rfl rfl) (VS.le.mk' (le_put (le_put (le_put (le_put (le_put (le_put (le_put (le_box (le_box (le_box (le_new (le_new (le_new le_nil)))))) (V.le.keep (ag := false) (xs := [.sc _]) (ys := [.sc _]) rfl rfl ⟨(by first | rfl | (show Leaf.sc _ = Leaf.sc _; refine congrArg Leaf.sc ?_; first | rfl | go_num | (simp [cntAll]; done)) | (simp [cntAll]; done) | (simp; omega)), trivial⟩)) (V.le.keep (ag := false) (xs := [.bp 1 0]) (ys := [.bp 1 0]) rfl rfl ⟨⟨rfl, (gle rfl)⟩, trivial⟩)) (V.le.keep (ag := false) (xs := [.sc _]) (ys := [.sc _]) rfl rfl ⟨(by first | rfl | (show Leaf.sc _ = Leaf.sc _; refine congrArg Leaf.sc ?_; first | rfl | go_num | (simp [cntAll]; done)) | (simp [cntAll]; done) | (simp; omega)), trivial⟩)) (V.le.keep (ag := false) (xs := [.sc _]) (ys := [.sc _]) rfl rfl ⟨(by first | rfl | (show Leaf.sc _ = Leaf.sc _; refine congrArg Leaf.sc ?_; first | rfl | go_num | (simp [cntAll]; done)) | (simp [cntAll]; done) | (simp; omega)), trivial⟩)) (V.le.keep (ag := false) (xs := [.hd 5]) (ys := [.hd 0]) rfl rfl ⟨⟨rfl, (gle rfl), (gle rfl)⟩, trivial⟩)) (V.le.keep (ag := false) (xs := [.hd 6]) (ys := [.hd 1]) rfl rfl ⟨⟨rfl, (gle rfl), (gle rfl)⟩, trivial⟩)) (V.le.keep (ag := false) (xs := [.sc _]) (ys := [.sc _]) rfl rfl ⟨(by first | rfl | (show Leaf.sc _ = Leaf.sc _; refine congrArg Leaf.sc ?_; first | rfl | go_num | (simp [cntAll]; done)) | (simp [cntAll]; done) | (simp; omega)), trivial⟩)) ⟨⟨rfl, ⟨trivial, rfl, trivial⟩⟩, ⟨⟨rfl, ⟨⟨rfl, (gle rfl), (gle rfl)⟩, (by first | rfl | (show Leaf.sc _ = Leaf.sc _; refine congrArg Leaf.sc ?_; first | rfl | go_num | (simp [cntAll]; done)) | (simp [cntAll]; done) | (simp; omega)), trivial⟩⟩, ⟨⟨rfl, ⟨trivial, trivial, trivial⟩⟩, trivial⟩⟩⟩ ⟨.inr ⟨_, _, rfl, ?ob1_2, (gle rfl)⟩, ⟨.inr ⟨_, _, rfl, ?ob1_1, (gle rfl)⟩, ⟨.inr ⟨_, _, rfl, rfl, (gle rfl)⟩, trivial⟩⟩⟩ (new_ob (new_ob (new_ob nil_ob))) (fun i j hi hj e => inj_list (l := [5, 6, 1]) (by decide) i j hi hj e))
                  case ob1_1 =>
                    show some (T.seq _ _) = some (T.seq _ _)
                    rfl
                  case ob1_2 =>
                    show some (T.seq _ _) = some (T.seq _ _)
                    rfl
                · rintro ⟨Q, t⟩ ⟨ht, ho, hQ⟩
                  dsimp only at ht ho hQ
                  refine SV.seq' ?_
                  refine SV.seq' ?_
                  refine SV.region ?_
                  refine SV.op (OpL.ok (nb := 3) (ok_move (v := V.one (.sc _)) (.inl rfl) rfl) rfl (gle rfl)) rfl ?_
                  refine SV.op (OpL.ok (nb := 3) (ok_move (v := V.one (.hd 0)) (.inl rfl) rfl) rfl (gle rfl)) rfl ?_
                  refine SV.op (OpL.ok (nb := 3) (ok_len (lf := .hd 0) rfl elt_impl_Page.und rfl rfl) rfl (gle rfl)) rfl ?_
                  refine SV.op (OpL.ok (nb := 3) (ok_s2 (x := .tmp 83) (x' := .tmp 85) (VScal.one rfl) (VScal.one rfl) (fun ρ h1 h2 w => by go_simp; (try go_bits); with_reducible rfl) rfl) rfl (gle rfl)) rfl ?_
                  refine SV.nil ?_
                  refine SV.tn ?_
                  refine SV.cond rfl (fun hc5 => ?_) (fun hc5 => ?_)
                  · skip   -- c5.T
                    have htl : t < (R.pack A).length := by simpa using hc5
                    have hx : (R.pack A)[t]? = some (R.pack A)[t] := by simp [htl]
                    have hpo := (R.pack_ok (L := A) _ (get_mem hx)).1
                    have hgp : goodPage (R.pack A)[t] := pack_good hwA (get_mem hx)
                    have hap := DiskD.app_dk hO ho hpo
                    have hwp : wtPage (R.pack A)[t] ≤ 1000000000 := by have h1 := DiskD.ok_page_len hpo; show (R.pack A)[t].length ≤ _; omega
                    have hva := vappend_i (dk X Q) X.fNextName (R.pack A)[t] (good_dk hX hO hn hQ) hgp (Nat.le_trans (DiskD.wt_dk ho) (by decide)) hwp
                    obtain ⟨Y, hY⟩ : ∃ Y, (DiskD.appendTo (dk X Q) X.fNextName (R.pack A)[t]).getD (dk X Q) = Y := ⟨_, rfl⟩
                    obtain ⟨b2, hb2⟩ : ∃ b2, (DiskD.appendTo (dk X Q) X.fNextName (R.pack A)[t]).isSome = b2 := ⟨_, rfl⟩
                    rw [hY, hb2] at hva
                    have hpl := R.pack_length (L := A)
                    refine SV.skip ?_
                    refine SV.tn ?_
                    refine SV.seq' ?_
                    refine SV.block ?_
                    refine SV.seq' ?_
                    apply SV.shared
                    case k =>
                      intro hjn
                      refine SV.drawCT [] (.q 0 (.q 1 (.q 2 (.q 3 (.q 4 (.q 5 (.alt 6 (.q 7 (.q 8 (.q 9 (.m 10 (.m 11 (.q 12 .nil)))))) 10 (.m 6 (.q 7 (.q 8 (.q 9 (.m 11 (.q 12 .nil))))))))))))) [] (by kernel_rfl) (by kernel_rfl) ?_
                      refine DC.lb (b := 1) (i' := 0) (ag := true) (m := 2) (ys := [.hd 2, .sc _]) rfl rfl rfl rfl agg_impl_Disk sz_impl_Disk (fun h => by cases h) rfl rfl (gle rfl) (by decide) rfl rfl (gle rfl) (fun _ _ _ _ h => h) ?_
                      refine DC.q rfl (ok_move (v := V.one (.sc _)) (.inl rfl) rfl) rfl rfl (gle rfl) (fun _ _ _ _ h => h) ?_
                      refine DC.q rfl (ok_move (v := V.one (.hd 0)) (.inl rfl) rfl) rfl rfl (gle rfl) (fun _ _ _ _ h => h) ?_
                      refine DC.q rfl (ok_move (v := V.one (.sc _)) (.inl rfl) rfl) rfl rfl (gle rfl) (fun _ _ _ _ h => h) ?_
                      refine DC.q rfl (ok_index (n := 1) (lf := .hd 0) rfl elt_impl_Page.und sz_impl_Page rfl rfl rfl (map_at hx)) rfl rfl (gle rfl) (fun _ _ _ _ h => h) ?_
                      refine DC.el (ag := true) (m := 1) (ys := [.nd 0 _ _ (some _)]) rfl rfl rfl ⟨(gle rfl), rfl⟩ (cells_ep rfl (map_at hx) rfl rfl) agg_impl_Page sz_impl_Page (fun h => by cases h) (gle rfl) rfl rfl rfl (gle rfl) (fun _ _ _ _ h => h) ?_
                      refine DC.alt ?_ ?_
                      · skip   -- first 6
                        refine DC.m rfl (ok_call (ls := [(true, [.hd 3, .sc _]), (false, [.sc _])]) rfl rfl ⟨_, _, Tryd.func14, rfl, by decide⟩ (hva) ⟨⟨[.hd 2, .sc _], rfl, ⟨rfl, rfl, trivial⟩⟩, ⟨[.sc _], rfl, ⟨rfl, trivial⟩⟩, ⟨[.nd 0 _ _ (some _)], rfl, ⟨rfl, trivial⟩⟩, trivial⟩ rfl (gle rfl)) rfl rfl (gle rfl) ?_
                        refine DC.q rfl (ok_move (v := ⟨true, [(true, [.hd 3, .sc _]), (false, [.sc _])]⟩) (.inl rfl) rfl) rfl rfl (gle rfl) (fun _ _ _ _ h => h) ?_
                        refine DC.q rfl (ok_extract (ag := true) (xs := [.hd 3, .sc _]) rfl rfl rfl) rfl rfl (gle rfl) (fun _ _ _ _ h => h) ?_
                        refine DC.q rfl (ok_extract (ag := false) (xs := [.sc _]) rfl rfl rfl) rfl rfl (gle rfl) (fun _ _ _ _ h => h) ?_
                        refine DC.alloc (kk := 3) (xs := [.nl _, .sc _]) rfl rfl rfl zero_impl_Disk ⟨rfl, ⟨4, by decide, sz_impl_File⟩, rfl, rfl, trivial⟩ rfl (gle rfl) rfl ?_
                        refine DC.storeN (b := 3) (i' := 0) (m := 2) (ag := true) (zs1 := [.hd 3, .sc _]) (ys := [.hd 3, .sc _]) rfl rfl rfl rfl sz_impl_Disk (fun h => by cases h) rfl (gle rfl) rfl rfl rfl rfl (gle rfl) rfl ?_
                        refine DC.q rfl (ok_move (v := V.one (.sc _)) (.inr rfl) rfl) rfl rfl (gle rfl) (fun _ _ _ _ h => h) ?_
                        refine DC.stores ?_
                        refine SV.zend ?_
                        exact hjn
                      · skip   -- first 10
                        refine DC.alloc (kk := 3) (xs := [.nl _, .sc _]) rfl rfl rfl zero_impl_Disk ⟨rfl, ⟨4, by decide, sz_impl_File⟩, rfl, rfl, trivial⟩ rfl (gle rfl) rfl ?_
                        refine DC.m rfl (ok_call (ls := [(true, [.hd 3, .sc _]), (false, [.sc _])]) rfl rfl ⟨_, _, Tryd.func14, rfl, by decide⟩ (hva) ⟨⟨[.hd 2, .sc _], rfl, ⟨rfl, rfl, trivial⟩⟩, ⟨[.sc _], rfl, ⟨rfl, trivial⟩⟩, ⟨[.nd 0 _ _ (some _)], rfl, ⟨rfl, trivial⟩⟩, trivial⟩ rfl (gle rfl)) rfl rfl (gle rfl) ?_
                        refine DC.q rfl (ok_move (v := ⟨true, [(true, [.hd 3, .sc _]), (false, [.sc _])]⟩) (.inl rfl) rfl) rfl rfl (gle rfl) (fun _ _ _ _ h => h) ?_
                        refine DC.q rfl (ok_extract (ag := true) (xs := [.hd 3, .sc _]) rfl rfl rfl) rfl rfl (gle rfl) (fun _ _ _ _ h => h) ?_
                        refine DC.q rfl (ok_extract (ag := false) (xs := [.sc _]) rfl rfl rfl) rfl rfl (gle rfl) (fun _ _ _ _ h => h) ?_
                        refine DC.storeN (b := 3) (i' := 0) (m := 2) (ag := true) (zs1 := [.hd 3, .sc _]) (ys := [.hd 3, .sc _]) rfl rfl rfl rfl sz_impl_Disk (fun h => by cases h) rfl (gle rfl) rfl rfl rfl rfl (gle rfl) rfl ?_
                        refine DC.q rfl (ok_move (v := V.one (.sc _)) (.inr rfl) rfl) rfl rfl (gle rfl) (fun _ _ _ _ h => h) ?_
                        refine DC.stores ?_
                        refine SV.zend ?_
                        refine hjn.eqv (fun s => ?_) rfl rfl rfl
                        by_cases h90 : s = 90
                        · subst h90; rfl
                        by_cases h91 : s = 91
                        · subst h91; rfl
                        by_cases h92 : s = 92
                        · subst h92; rfl
                        by_cases h93 : s = 93
                        · subst h93; rfl
                        by_cases h94 : s = 94
                        · subst h94; rfl
                        by_cases h95 : s = 95
                        · subst h95; rfl
                        by_cases h96 : s = 96
                        · subst h96; rfl
                        by_cases h89 : s = 89
                        · subst h89; rfl
                        by_cases h97 : s = 97
                        · subst h97; rfl
                        by_cases h98 : s = 98
                        · subst h98; rfl
                        by_cases h15 : s = 15
                        · subst h15; rfl
                        by_cases h16 : s = 16
                        · subst h16; rfl
                        simp only [ansSs_tm, VS.put, VS.box, VS.setb, cond_false, nbne h90, nbne h91, nbne h92, nbne h93, nbne h94, nbne h95, nbne h96, nbne h89, nbne h97, nbne h98, nbne h15, nbne h16]
                    case h =>
                      refine SV.tn ?_
                      refine SV.seq' ?_
                      refine SV.region ?_
                      refine SV.op (OpL.ok (nb := 4) (ok_move (v := V.one (.sc _)) (.inl rfl) rfl) rfl (gle rfl)) rfl ?_
                      refine SV.nil ?_
                      refine SV.tn ?_
                      refine SV.cond rfl (fun hc6 => ?_) (fun hc6 => ?_)
                      · skip   -- c6.T
                        have hbt : b2 = true := by simpa using hc6
                        have hne : ¬ DiskD.count (dk X Q).fFiles = 40 := fun e => by rw [if_pos e] at hap; rw [hap] at hb2; rw [hbt] at hb2; cases hb2
                        rw [if_neg hne] at hap
                        have hyd : Y = dk X (Q ++ [(R.pack A)[t]]) := by rw [← hY, hap]; rfl
                        subst hyd
                        have ho2 := DiskD.Ok.appendTo hap
                        have hQ2 : ∀ p ∈ Q ++ [(R.pack A)[t]], goodPage p := fun p hp => by
                          rcases List.mem_append.1 hp with h | h
                          · exact hQ p h
                          · rw [List.mem_singleton.1 h]; exact hgp
                        refine SV.seq' ?_
                        refine SV.region ?_
                        refine SV.op (OpL.ok (nb := 4) (ok_move (v := V.one (.hd 1)) (.inl rfl) rfl) rfl (gle rfl)) rfl ?_
                        refine SV.op (OpL.ok (nb := 4) (ok_move (v := V.one (.hd 0)) (.inl rfl) rfl) rfl (gle rfl)) rfl ?_
                        refine SV.op (OpL.ok (nb := 4) (ok_move (v := V.one (.sc _)) (.inl rfl) rfl) rfl (gle rfl)) rfl ?_
                        refine SV.op (OpL.ok (nb := 4) (ok_index (n := 1) (lf := .hd 0) rfl elt_impl_Page.und sz_impl_Page rfl rfl rfl (map_at hx)) rfl (gle rfl)) rfl ?_
                        refine SV.op (OpL.ok (nb := 4) (ok_field_el (p := .ep 0 _ _ _) (off := 0) rfl rfl (cells_ep rfl (map_at hx) rfl rfl) fld_impl_Page_0) rfl (gle rfl)) rfl ?_
                        refine SV.op (ok_load_el (p := .ep 0 _ _ _) (ag := false) (m := 1) (ys := [.nd 0 _ _ (some _)]) rfl rfl (cells_ep rfl (map_at hx) rfl rfl) agg_s_impl_Row sz_s_impl_Row (fun _ => rfl) (gle rfl) rfl rfl (gle rfl)) rfl ?_
                        refine SV.op (OpMk.ok (ok_append_ro (kk := 4) elt_impl_Row (ls := .hd 1) (lx := .nd 0 _ _ (some _)) rfl rfl rfl rfl rfl rfl (flat_impl_Row _) (by have h1 := flat_len ho; have h2 := DiskD.ok_page_len hpo; first | (rw [List.length_map, List.length_map]; omega) | (simp only [List.length_map, List.length_append]; omega)) rfl (gle rfl))) rfl ?_
                        refine SV.op (OpL.ok (nb := 4) (ok_move (v := V.one (.hd 4)) (.inr rfl) rfl) rfl (gle rfl)) rfl ?_
                        refine SV.nil ?_
                        refine SV.tn ?_
                        refine SV.region ?_
                        refine SV.op (OpL.ok (nb := 4) (ok_load_bp (b := 3) (i := 0) (ag := true) (m := 2) (ys := [.hd 3, .sc _]) rfl rfl rfl agg_impl_Disk sz_impl_Disk (fun h => by cases h) rfl rfl (gle rfl)) rfl (gle rfl)) rfl ?_
                        refine SV.op (ok_store_bp (b := 1) (i := 0) (m := 2) (ag := true) (zs := [.hd 3, .sc _]) (ys := [.hd 3, .sc _]) rfl rfl rfl rfl sz_impl_Disk (fun h => by cases h) rfl (gle rfl) rfl rfl rfl) rfl ?_
                        refine SV.nil ?_
                        refine SV.bn ?_
                        refine SV.tn ?_
                        refine SV.region ?_
                        refine SV.op (OpL.ok (nb := 4) (ok_move (v := V.one (.sc _)) (.inl rfl) rfl) rfl (gle rfl)) rfl ?_
                        refine SV.op (OpL.ok (nb := 4) (ok_s2 (x := .tmp 87) (x' := .const ((Value.int IntKind.i64 1))) (VScal.one rfl) (VScal.one rfl) (fun ρ h1 h2 w => by go_simp; (try go_bits); with_reducible rfl) rfl) rfl (gle rfl)) rfl ?_
                        refine SV.op (OpL.ok (nb := 4) (ok_move (v := V.one (.sc _)) (.inr rfl) rfl) rfl (gle rfl)) rfl ?_
                        refine SV.nil ?_
                        refine SV.tn ?_
                        refine SV.again (fun i => [0, 4, 3].getD i 0) ((Q ++ [(R.pack A)[t]], t + 1)) (⟨⟨(by show t + 1 ≤ (R.pack A).length; omega), ho2, hQ2⟩, (by show (R.pack A).length - (t + 1) < (R.pack A).length - t; omega)⟩) (pins hE rfl rfl) (VS.le.mk' (le_put (le_put (le_put (le_put (le_put (le_put (le_put (le_box (le_box (le_box (le_new (le_new (le_new le_nil)))))) (V.le.keep (ag := false) (xs := [.sc _]) (ys := [.sc _]) rfl rfl ⟨(by first | rfl | (show Leaf.sc _ = Leaf.sc _; refine congrArg Leaf.sc ?_; first | rfl | go_num | (simp [cntAll]; done)) | (simp [cntAll]; done) | (simp; omega)), trivial⟩)) (V.le.keep (ag := false) (xs := [.bp 1 0]) (ys := [.bp 1 0]) rfl rfl ⟨⟨rfl, (gle rfl)⟩, trivial⟩)) (V.le.keep (ag := false) (xs := [.sc _]) (ys := [.sc _]) rfl rfl ⟨(by first | rfl | (show Leaf.sc _ = Leaf.sc _; refine congrArg Leaf.sc ?_; first | rfl | go_num | (simp [cntAll]; done)) | (simp [cntAll]; done) | (simp; omega)), trivial⟩)) (V.le.keep (ag := false) (xs := [.sc _]) (ys := [.sc _]) rfl rfl ⟨(by first | rfl | (show Leaf.sc _ = Leaf.sc _; refine congrArg Leaf.sc ?_; first | rfl | go_num | (simp [cntAll]; done)) | (simp [cntAll]; done) | (simp; omega)), trivial⟩)) (V.le.keep (ag := false) (xs := [.hd 0]) (ys := [.hd 0]) rfl rfl ⟨⟨rfl, (gle rfl), (gle rfl)⟩, trivial⟩)) (V.le.keep (ag := false) (xs := [.hd 4]) (ys := [.hd 1]) rfl rfl ⟨⟨rfl, (gle rfl), (gle rfl)⟩, trivial⟩)) (V.le.keep (ag := false) (xs := [.sc _]) (ys := [.sc _]) rfl rfl ⟨(by first | rfl | (show Leaf.sc _ = Leaf.sc _; refine congrArg Leaf.sc ?_; first | rfl | go_num | (simp [cntAll]; done)) | (simp [cntAll]; done) | (simp; omega)), trivial⟩)) ⟨⟨rfl, ⟨trivial, rfl, trivial⟩⟩, ⟨⟨rfl, ⟨⟨rfl, (gle rfl), (gle rfl)⟩, (by first | rfl | (show Leaf.sc _ = Leaf.sc _; refine congrArg Leaf.sc ?_; first | rfl | go_num | (simp [cntAll]; done)) | (simp [cntAll]; done) | (simp; omega)), trivial⟩⟩, ⟨⟨rfl, ⟨trivial, trivial, trivial⟩⟩, trivial⟩⟩⟩ ⟨.inr ⟨_, _, rfl, ?ob2_2, (gle rfl)⟩, ⟨.inr ⟨_, _, rfl, ?ob2_1, (gle rfl)⟩, ⟨.inr ⟨_, _, rfl, rfl, (gle rfl)⟩, trivial⟩⟩⟩ (new_ob (new_ob (new_ob nil_ob))) (fun i j hi hj e => inj_list (l := [0, 4, 3]) (by decide) i j hi hj e))
                        case ob2_1 =>
                          show some (T.seq _ _) = some (T.seq _ _)
                          first | rfl | (simp [List.map_append]; done) | (simp; rfl)
                        case ob2_2 =>
                          show some (T.seq _ _) = some (T.seq _ _)
                          first | rfl | (simp [dk]; done)
                      · skip   -- c6.F
                        have hbf : b2 = false := by simpa using hc6
                        have hct : DiskD.count (dk X Q).fFiles = 40 := by
                          by_cases e : DiskD.count (dk X Q).fFiles = 40
                          · exact e
                          · rw [if_neg e] at hap; rw [hap] at hb2; rw [hbf] at hb2; cases hb2
                        refine SV.seq' ?_
                        refine SV.region ?_
                        refine SV.op (OpL.ok (nb := 4) (ok_load_bp (b := 1) (i := 0) (ag := true) (m := 2) (ys := [.hd 2, .sc _]) rfl rfl rfl agg_impl_Disk sz_impl_Disk (fun h => by cases h) rfl rfl (gle rfl)) rfl (gle rfl)) rfl ?_
                        refine SV.op (OpMk.ok (ok_call (ls := [(false, [.sc _])]) rfl rfl ⟨_, _, Tryd.func15, rfl, by decide⟩ (vcount_s (dk X Q) (good_dk hX hO hn hQ) (Nat.le_trans (DiskD.wt_dk ho) (by decide))) ⟨⟨[.hd 2, .sc _], rfl, ⟨rfl, rfl, trivial⟩⟩, trivial⟩ rfl (gle rfl))) rfl ?_
                        refine SV.op (OpL.ok (nb := 4) (ok_s2 (x := .tmp 109) (x' := .const ((Value.int IntKind.i64 40))) (VScal.one rfl) (VScal.one rfl) (fun ρ h1 h2 w => by go_simp; (try go_bits); with_reducible rfl) rfl) rfl (gle rfl)) rfl ?_
                        refine SV.nil ?_
                        refine SV.tn ?_
                        refine SV.cond rfl (fun hc7 => ?_) (fun hc7 => ?_)
                        · skip   -- c7.T
                          (exfalso; simp [hct] at hc7)
                        · skip   -- c7.F
                          refine SV.skip ?_
                          refine SV.bn ?_
                          refine SV.tn ?_
                          refine SV.region ?_
                          refine SV.op (OpL.ok (nb := 4) (ok_move (v := V.one (.sc _)) (.inl rfl) rfl) rfl (gle rfl)) rfl ?_
                          refine SV.op (OpL.ok (nb := 4) (ok_s2 (x := .tmp 87) (x' := .const ((Value.int IntKind.i64 1))) (VScal.one rfl) (VScal.one rfl) (fun ρ h1 h2 w => by go_simp; (try go_bits); with_reducible rfl) rfl) rfl (gle rfl)) rfl ?_
                          refine SV.op (OpL.ok (nb := 4) (ok_move (v := V.one (.sc _)) (.inr rfl) rfl) rfl (gle rfl)) rfl ?_
                          refine SV.nil ?_
                          refine SV.tn ?_
                          refine SV.again (fun i => [0, 1, 2].getD i 0) ((Q, t + 1)) (⟨⟨(by show t + 1 ≤ (R.pack A).length; omega), ho, hQ⟩, (by show (R.pack A).length - (t + 1) < (R.pack A).length - t; omega)⟩) (pins hE rfl rfl) (VS.le.mk' (le_put (le_put (le_put (le_put (le_put (le_put (le_put (le_box (le_box (le_box (le_new (le_new (le_new le_nil)))))) (V.le.keep (ag := false) (xs := [.sc _]) (ys := [.sc _]) rfl rfl ⟨(by first | rfl | (show Leaf.sc _ = Leaf.sc _; refine congrArg Leaf.sc ?_; first | rfl | go_num | (simp [cntAll]; done)) | (simp [cntAll]; done) | (simp; omega)), trivial⟩)) (V.le.keep (ag := false) (xs := [.bp 1 0]) (ys := [.bp 1 0]) rfl rfl ⟨⟨rfl, (gle rfl)⟩, trivial⟩)) (V.le.keep (ag := false) (xs := [.sc _]) (ys := [.sc _]) rfl rfl ⟨(by first | rfl | (show Leaf.sc _ = Leaf.sc _; refine congrArg Leaf.sc ?_; first | rfl | go_num | (simp [cntAll]; done)) | (simp [cntAll]; done) | (simp; omega)), trivial⟩)) (V.le.keep (ag := false) (xs := [.sc _]) (ys := [.sc _]) rfl rfl ⟨(by first | rfl | (show Leaf.sc _ = Leaf.sc _; refine congrArg Leaf.sc ?_; first | rfl | go_num | (simp [cntAll]; done)) | (simp [cntAll]; done) | (simp; omega)), trivial⟩)) (V.le.keep (ag := false) (xs := [.hd 0]) (ys := [.hd 0]) rfl rfl ⟨⟨rfl, (gle rfl), (gle rfl)⟩, trivial⟩)) (V.le.keep (ag := false) (xs := [.hd 1]) (ys := [.hd 1]) rfl rfl ⟨⟨rfl, (gle rfl), (gle rfl)⟩, trivial⟩)) (V.le.keep (ag := false) (xs := [.sc _]) (ys := [.sc _]) rfl rfl ⟨(by first | rfl | (show Leaf.sc _ = Leaf.sc _; refine congrArg Leaf.sc ?_; first | rfl | go_num | (simp [cntAll]; done)) | (simp [cntAll]; done) | (simp; omega)), trivial⟩)) ⟨⟨rfl, ⟨trivial, rfl, trivial⟩⟩, ⟨⟨rfl, ⟨⟨rfl, (gle rfl), (gle rfl)⟩, (by first | rfl | (show Leaf.sc _ = Leaf.sc _; refine congrArg Leaf.sc ?_; first | rfl | go_num | (simp [cntAll]; done)) | (simp [cntAll]; done) | (simp; omega)), trivial⟩⟩, ⟨⟨rfl, ⟨trivial, trivial, trivial⟩⟩, trivial⟩⟩⟩ ⟨.inr ⟨_, _, rfl, ?ob3_2, (gle rfl)⟩, ⟨.inr ⟨_, _, rfl, ?ob3_1, (gle rfl)⟩, ⟨.inr ⟨_, _, rfl, rfl, (gle rfl)⟩, trivial⟩⟩⟩ (new_ob (new_ob (new_ob nil_ob))) (fun i j hi hj e => inj_list (l := [0, 1, 2]) (by decide) i j hi hj e))
                          case ob3_1 =>
                            show some (T.seq _ _) = some (T.seq _ _)
                            first | rfl | (simp [List.map_append]; done) | (simp; rfl)
                          case ob3_2 =>
                            show some (T.seq _ _) = some (T.seq _ _)
                            first | rfl | (simp [dk]; done)
                  · skip   -- c5.F
                    refine SV.exit ?_
                    refine SV.te ?_
                    refine SV.te ?_
                    refine SV.bh ?_
                    refine SV.tn ?_
                    refine SV.seq' ?_
                    refine SV.region ?_
                    refine SV.op (OpL.ok (nb := 3) (ok_load_bp (b := 1) (i := 0) (ag := true) (m := 2) (ys := [.hd 2, .sc _]) rfl rfl rfl agg_impl_Disk sz_impl_Disk (fun h => by cases h) rfl rfl (gle rfl)) rfl (gle rfl)) rfl ?_
                    refine SV.op (OpL.ok (nb := 3) (ok_move (v := V.one (.sc _)) (.inl rfl) rfl) rfl (gle rfl)) rfl ?_
                    refine SV.op (OpMk.ok (ok_callP (ls := [(false, [.hd 3]), (false, [.sc _])]) hD rfl rfl ⟨_, _, Tryd.func11, rfl, by decide⟩ (VCD.toP (fun w h => h.2) (L_read X Q hX hO hn hQ ho)) ⟨⟨[.hd 2, .sc _], rfl, ⟨rfl, rfl, trivial⟩⟩, ⟨[.sc _], rfl, ⟨rfl, trivial⟩⟩, trivial⟩ rfl (gle rfl))) rfl ?_
                    refine SV.op (OpL.ok (nb := 3) (ok_move (v := ⟨true, [(false, [.hd 3]), (false, [.sc _])]⟩) (.inl rfl) rfl) rfl (gle rfl)) rfl ?_
                    refine SV.op (OpL.ok (nb := 3) (ok_extract (ag := false) (xs := [.hd 3]) rfl rfl rfl) rfl (gle rfl)) rfl ?_
                    refine SV.op (OpL.ok (nb := 3) (ok_extract (ag := false) (xs := [.sc _]) rfl rfl rfl) rfl (gle rfl)) rfl ?_
                    refine SV.op (OpL.ok (nb := 3) (ok_move (v := V.one (.hd 3)) (.inr rfl) rfl) rfl (gle rfl)) rfl ?_
                    refine SV.op (OpL.ok (nb := 3) (ok_move (v := V.one (.sc _)) (.inr rfl) rfl) rfl (gle rfl)) rfl ?_
                    refine SV.nil ?_
                    refine SV.tn ?_
                    refine SV.seq' ?_
                    refine SV.region ?_
                    refine SV.op (OpL.ok (nb := 3) (ok_load_bp (b := 1) (i := 0) (ag := true) (m := 2) (ys := [.hd 2, .sc _]) rfl rfl rfl agg_impl_Disk sz_impl_Disk (fun h => by cases h) rfl rfl (gle rfl)) rfl (gle rfl)) rfl ?_
                    refine SV.op (OpL.ok (nb := 3) (ok_move (v := V.one (.sc _)) (.inl rfl) rfl) rfl (gle rfl)) rfl ?_
                    refine SV.op (OpMk.ok (ok_callP (ls := [(true, [.hd 4, .sc _]), (false, [.sc _])]) hD rfl rfl ⟨_, _, Tryd.func16, rfl, by decide⟩ (VCD.toP (fun w h => h.2) (L_seal X Q hX hO hn hQ ho)) ⟨⟨[.hd 2, .sc _], rfl, ⟨rfl, rfl, trivial⟩⟩, ⟨[.sc _], rfl, ⟨rfl, trivial⟩⟩, trivial⟩ rfl (gle rfl))) rfl ?_
                    refine SV.op (OpL.ok (nb := 3) (ok_move (v := ⟨true, [(true, [.hd 4, .sc _]), (false, [.sc _])]⟩) (.inl rfl) rfl) rfl (gle rfl)) rfl ?_
                    refine SV.op (OpL.ok (nb := 3) (ok_extract (ag := true) (xs := [.hd 4, .sc _]) rfl rfl rfl) rfl (gle rfl)) rfl ?_
                    refine SV.op (OpL.ok (nb := 3) (ok_extract (ag := false) (xs := [.sc _]) rfl rfl rfl) rfl (gle rfl)) rfl ?_
                    refine SV.op (OpMk.ok (ok_alloc (kk := 3) (xs := [.nl _, .sc _]) rfl rfl zero_impl_Disk ⟨rfl, ⟨4, by decide, sz_impl_File⟩, rfl, rfl, trivial⟩ rfl (gle rfl))) rfl ?_
                    refine SV.op (ok_store_bp (b := 3) (i := 0) (m := 2) (ag := true) (zs := [.hd 4, .sc _]) (ys := [.hd 4, .sc _]) rfl rfl rfl rfl sz_impl_Disk (fun h => by cases h) rfl (gle rfl) rfl rfl rfl) rfl ?_
                    refine SV.op (OpL.ok (nb := 4) (ok_move (v := V.one (.sc _)) (.inr rfl) rfl) rfl (gle rfl)) rfl ?_
                    refine SV.nil ?_
                    refine SV.tn ?_
                    refine SV.seq' ?_
                    refine SV.region ?_
                    refine SV.op (OpL.ok (nb := 4) (ok_load_bp (b := 3) (i := 0) (ag := true) (m := 2) (ys := [.hd 4, .sc _]) rfl rfl rfl agg_impl_Disk sz_impl_Disk (fun h => by cases h) rfl rfl (gle rfl)) rfl (gle rfl)) rfl ?_
                    refine SV.op (OpL.ok (nb := 4) (ok_move (v := V.one (.sc _)) (.inl rfl) rfl) rfl (gle rfl)) rfl ?_
                    refine SV.op (OpMk.ok (ok_callP (ls := [(false, [.hd 5]), (false, [.sc _])]) hD rfl rfl ⟨_, _, Tryd.func11, rfl, by decide⟩ (VCD.toP (fun w h => h.2) (L_readz X Q hX hO hn hQ ho)) ⟨⟨[.hd 4, .sc _], rfl, ⟨rfl, rfl, trivial⟩⟩, ⟨[.sc _], rfl, ⟨rfl, trivial⟩⟩, trivial⟩ rfl (gle rfl))) rfl ?_
                    refine SV.op (OpL.ok (nb := 4) (ok_move (v := ⟨true, [(false, [.hd 5]), (false, [.sc _])]⟩) (.inl rfl) rfl) rfl (gle rfl)) rfl ?_
                    refine SV.op (OpL.ok (nb := 4) (ok_extract (ag := false) (xs := [.hd 5]) rfl rfl rfl) rfl (gle rfl)) rfl ?_
                    refine SV.op (OpL.ok (nb := 4) (ok_extract (ag := false) (xs := [.sc _]) rfl rfl rfl) rfl (gle rfl)) rfl ?_
                    refine SV.op (OpL.ok (nb := 4) (ok_move (v := V.one (.hd 5)) (.inr rfl) rfl) rfl (gle rfl)) rfl ?_
                    refine SV.op (OpL.ok (nb := 4) (ok_move (v := V.one (.sc _)) (.inr rfl) rfl) rfl (gle rfl)) rfl ?_
                    refine SV.nil ?_
                    refine SV.tn ?_
                    refine SV.seq' ?_
                    refine SV.region ?_
                    refine SV.op (OpL.ok (nb := 4) (ok_load_bp (b := 1) (i := 0) (ag := true) (m := 2) (ys := [.hd 2, .sc _]) rfl rfl rfl agg_impl_Disk sz_impl_Disk (fun h => by cases h) rfl rfl (gle rfl)) rfl (gle rfl)) rfl ?_
                    refine SV.op (OpMk.ok (ok_callP (ls := [(true, [.hd 6, .sc _])]) hD rfl rfl ⟨_, _, Tryd.func17, rfl, by decide⟩ (VCD.toP (fun w h => h.2) (L_purgei X Q hX hO hn hQ ho)) ⟨⟨[.hd 2, .sc _], rfl, ⟨rfl, rfl, trivial⟩⟩, trivial⟩ rfl (gle rfl))) rfl ?_
                    refine SV.op (OpMk.ok (ok_alloc (kk := 4) (xs := [.nl _, .sc _]) rfl rfl zero_impl_Disk ⟨rfl, ⟨4, by decide, sz_impl_File⟩, rfl, rfl, trivial⟩ rfl (gle rfl))) rfl ?_
                    refine SV.op (ok_store_bp (b := 4) (i := 0) (m := 2) (ag := true) (zs := [.hd 6, .sc _]) (ys := [.hd 6, .sc _]) rfl rfl rfl rfl sz_impl_Disk (fun h => by cases h) rfl (gle rfl) rfl rfl rfl) rfl ?_
                    refine SV.nil ?_
                    refine SV.tn ?_
                    refine SV.seq' ?_
                    refine SV.region ?_
                    refine SV.op (OpL.ok (nb := 5) (ok_load_bp (b := 4) (i := 0) (ag := true) (m := 2) (ys := [.hd 6, .sc _]) rfl rfl rfl agg_impl_Disk sz_impl_Disk (fun h => by cases h) rfl rfl (gle rfl)) rfl (gle rfl)) rfl ?_
                    refine SV.op (OpL.ok (nb := 5) (ok_move (v := V.one (.sc _)) (.inl rfl) rfl) rfl (gle rfl)) rfl ?_
                    refine SV.op (OpMk.ok (ok_callP (ls := [(false, [.hd 7]), (false, [.sc _])]) hD rfl rfl ⟨_, _, Tryd.func11, rfl, by decide⟩ (VCD.toP (fun w h => h.2) (L_readk X hX hO hn)) ⟨⟨[.hd 6, .sc _], rfl, ⟨rfl, rfl, trivial⟩⟩, ⟨[.sc _], rfl, ⟨rfl, trivial⟩⟩, trivial⟩ rfl (gle rfl))) rfl ?_
                    refine SV.op (OpL.ok (nb := 5) (ok_move (v := ⟨true, [(false, [.hd 7]), (false, [.sc _])]⟩) (.inl rfl) rfl) rfl (gle rfl)) rfl ?_
                    refine SV.op (OpL.ok (nb := 5) (ok_extract (ag := false) (xs := [.hd 7]) rfl rfl rfl) rfl (gle rfl)) rfl ?_
                    refine SV.op (OpL.ok (nb := 5) (ok_extract (ag := false) (xs := [.sc _]) rfl rfl rfl) rfl (gle rfl)) rfl ?_
                    refine SV.op (OpL.ok (nb := 5) (ok_move (v := V.one (.hd 7)) (.inr rfl) rfl) rfl (gle rfl)) rfl ?_
                    refine SV.op (OpL.ok (nb := 5) (ok_move (v := V.one (.sc _)) (.inr rfl) rfl) rfl (gle rfl)) rfl ?_
                    refine SV.nil ?_
                    refine SV.tn ?_
                    refine SV.seq' ?_
                    refine SV.region ?_
                    refine SV.op (OpL.ok (nb := 5) (ok_load_bp (b := 3) (i := 0) (ag := true) (m := 2) (ys := [.hd 4, .sc _]) rfl rfl rfl agg_impl_Disk sz_impl_Disk (fun h => by cases h) rfl rfl (gle rfl)) rfl (gle rfl)) rfl ?_
                    refine SV.op (OpL.ok (nb := 5) (ok_move (v := V.one (.sc _)) (.inl rfl) rfl) rfl (gle rfl)) rfl ?_
                    refine SV.op (OpMk.ok (ok_call (ls := [(true, [.hd 8, .sc _]), (false, [.sc _])]) rfl rfl ⟨_, _, Tryd.func18, rfl, by decide⟩ (L_delete X Q hX hO hn hQ ho) ⟨⟨[.hd 4, .sc _], rfl, ⟨rfl, rfl, trivial⟩⟩, ⟨[.sc _], rfl, ⟨rfl, trivial⟩⟩, trivial⟩ rfl (gle rfl))) rfl ?_
                    refine SV.op (OpL.ok (nb := 5) (ok_move (v := ⟨true, [(true, [.hd 8, .sc _]), (false, [.sc _])]⟩) (.inl rfl) rfl) rfl (gle rfl)) rfl ?_
                    refine SV.op (OpL.ok (nb := 5) (ok_extract (ag := true) (xs := [.hd 8, .sc _]) rfl rfl rfl) rfl (gle rfl)) rfl ?_
                    refine SV.op (OpL.ok (nb := 5) (ok_extract (ag := false) (xs := [.sc _]) rfl rfl rfl) rfl (gle rfl)) rfl ?_
                    refine SV.op (OpMk.ok (ok_alloc (kk := 5) (xs := [.nl _, .sc _]) rfl rfl zero_impl_Disk ⟨rfl, ⟨4, by decide, sz_impl_File⟩, rfl, rfl, trivial⟩ rfl (gle rfl))) rfl ?_
                    refine SV.op (ok_store_bp (b := 5) (i := 0) (m := 2) (ag := true) (zs := [.hd 8, .sc _]) (ys := [.hd 8, .sc _]) rfl rfl rfl rfl sz_impl_Disk (fun h => by cases h) rfl (gle rfl) rfl rfl rfl) rfl ?_
                    refine SV.op (OpL.ok (nb := 6) (ok_move (v := V.one (.sc _)) (.inr rfl) rfl) rfl (gle rfl)) rfl ?_
                    refine SV.nil ?_
                    refine SV.tn ?_
                    refine SV.seq' ?_
                    refine SV.region ?_
                    refine SV.op (OpL.ok (nb := 6) (ok_load_bp (b := 5) (i := 0) (ag := true) (m := 2) (ys := [.hd 8, .sc _]) rfl rfl rfl agg_impl_Disk sz_impl_Disk (fun h => by cases h) rfl rfl (gle rfl)) rfl (gle rfl)) rfl ?_
                    refine SV.op (OpL.ok (nb := 6) (ok_move (v := V.one (.sc _)) (.inl rfl) rfl) rfl (gle rfl)) rfl ?_
                    refine SV.op (OpMk.ok (ok_callP (ls := [(false, [.hd 9]), (false, [.sc _])]) hD rfl rfl ⟨_, _, Tryd.func11, rfl, by decide⟩ (VCD.toP (fun w h => h.2) (L_readg X hX hO hn)) ⟨⟨[.hd 8, .sc _], rfl, ⟨rfl, rfl, trivial⟩⟩, ⟨[.sc _], rfl, ⟨rfl, trivial⟩⟩, trivial⟩ rfl (gle rfl))) rfl ?_
                    refine SV.op (OpL.ok (nb := 6) (ok_move (v := ⟨true, [(false, [.hd 9]), (false, [.sc _])]⟩) (.inl rfl) rfl) rfl (gle rfl)) rfl ?_
                    refine SV.op (OpL.ok (nb := 6) (ok_extract (ag := false) (xs := [.hd 9]) rfl rfl rfl) rfl (gle rfl)) rfl ?_
                    refine SV.op (OpL.ok (nb := 6) (ok_extract (ag := false) (xs := [.sc _]) rfl rfl rfl) rfl (gle rfl)) rfl ?_
                    refine SV.op (OpL.ok (nb := 6) (ok_move (v := V.one (.hd 9)) (.inr rfl) rfl) rfl (gle rfl)) rfl ?_
                    refine SV.op (OpL.ok (nb := 6) (ok_move (v := V.one (.sc _)) (.inr rfl) rfl) rfl (gle rfl)) rfl ?_
                    refine SV.nil ?_
                    refine SV.tn ?_
                    refine SV.seq' ?_
                    refine SV.draw [.q 0, .q 1, .q 2, .q 3, .q 4, .q 5, .q 6, .q 7, .q 8, .q 9, .q 10, .q 11, .q 12, .q 13, .q 14, .m 15, .q 16, .q 17, .q 18, .q 19, .q 20, .q 21, .q 22, .m 23, .q 24, .q 25, .q 26, .q 27, .q 28, .q 29, .q 30, .q 31, .q 32, .q 33, .q 35, .m 34, .m 36, .q 37, .q 38, .q 39, .q 40, .m 41, .m 42, .q 43, .q 44] [] (by kernel_rfl) (by kernel_rfl) ?_
                    refine DW.q rfl (ok_move (v := V.one (.sc _)) (.inl rfl) rfl) rfl rfl (gle rfl) (fun _ _ _ _ h => h) ?_
                    refine DW.q rfl (ok_s1 (x := .tmp 149) (VScal.one rfl) (fun ρ h1 w => by go_simp; (try go_bits); with_reducible rfl) rfl) rfl rfl (gle rfl) (fun _ _ _ _ h => h) ?_
                    refine DW.q rfl (ok_move (v := V.one (.sc _)) (.inl rfl) rfl) rfl rfl (gle rfl) (fun _ _ _ _ h => h) ?_
                    refine DW.split (d := 151) rfl (fun hg4 => ?_) (fun hg4 => ?_)
                    · skip   -- g4.T
                      refine DW.qY rfl (ok_move (v := V.one (.sc _)) (.inl rfl) rfl) rfl rfl rfl (gle rfl) rfl rfl rfl (gle rfl) (fun _ _ _ _ h => h) ?_
                      refine DW.qY rfl (ok_s1 (x := .tmp 152) (VScal.one rfl) (fun ρ h1 w => by go_simp; (try go_bits); with_reducible rfl) rfl) rfl rfl rfl (gle rfl) rfl rfl rfl (gle rfl) (fun _ _ _ _ h => h) ?_
                      refine DW.q rfl (ok_pickT (v := V.one (.sc _)) rfl rfl rfl) rfl rfl (gle rfl) (fun _ _ _ _ h => h) ?_
                      refine DW.q rfl (ok_move (v := V.one (.sc _)) (.inl rfl) rfl) rfl rfl (gle rfl) (fun _ _ _ _ h => h) ?_
                      refine DW.split (d := 155) rfl (fun hg5 => ?_) (fun hg5 => ?_)
                      · skip   -- g5.T
                        refine DW.qY rfl (ok_move (v := V.one (.sc _)) (.inl rfl) rfl) rfl rfl rfl (gle rfl) rfl rfl rfl (gle rfl) (fun _ _ _ _ h => h) ?_
                        refine DW.q rfl (ok_pickT (v := V.one (.sc _)) rfl rfl rfl) rfl rfl (gle rfl) (fun _ _ _ _ h => h) ?_
                        refine DW.q rfl (ok_move (v := V.one (.sc _)) (.inl rfl) rfl) rfl rfl (gle rfl) (fun _ _ _ _ h => h) ?_
                        refine DW.split (d := 158) rfl (fun hg6 => ?_) (fun hg6 => ?_)
                        · skip   -- g6.T
                          refine DW.qY rfl (ok_move (v := V.one (.sc _)) (.inl rfl) rfl) rfl rfl rfl (gle rfl) rfl rfl rfl (gle rfl) (fun _ _ _ _ h => h) ?_
                          refine DW.q rfl (ok_pickT (v := V.one (.sc _)) rfl rfl rfl) rfl rfl (gle rfl) (fun _ _ _ _ h => h) ?_
                          refine DW.q rfl (ok_move (v := V.one (.sc _)) (.inl rfl) rfl) rfl rfl (gle rfl) (fun _ _ _ _ h => h) ?_
                          refine DW.split (d := 161) rfl (fun hg7 => ?_) (fun hg7 => ?_)
                          · skip   -- g7.T
                            refine DW.qY rfl (ok_move (v := V.one (.hd 5)) (.inl rfl) rfl) rfl rfl rfl (gle rfl) rfl rfl rfl (gle rfl) (fun _ _ _ _ h => h) ?_
                            refine DW.qY rfl (ok_move (v := V.one (.hd 1)) (.inl rfl) rfl) rfl rfl rfl (gle rfl) rfl rfl rfl (gle rfl) (fun _ _ _ _ h => h) ?_
                            refine DW.m' [] rfl (ok_call (ls := [(false, [.sc _])]) rfl rfl ⟨_, _, Tryd.func19, rfl, by decide⟩ (vsame Q.flatten (flat_good hQ) (flat_len ho)) ⟨⟨[.hd 5], rfl, ⟨rfl, trivial⟩⟩, ⟨[.hd 1], rfl, ⟨rfl, trivial⟩⟩, trivial⟩ rfl (gle rfl)) (fun hr => wantedY hr rfl rfl rfl (gle rfl) rfl rfl) (gle rfl) (gle rfl) (.inl rfl) (fun j hj => by cases hj) ?_
                            refine DW.q rfl (ok_pickT (v := V.one (.sc _)) rfl rfl rfl) rfl rfl (gle rfl) (fun _ _ _ _ h => h) ?_
                            refine DW.q rfl (ok_move (v := V.one (.sc _)) (.inl rfl) rfl) rfl rfl (gle rfl) (fun _ _ _ _ h => h) ?_
                            refine DW.split (d := 166) rfl (fun hg8 => ?_) (fun hg8 => ?_)
                            · skip   -- g8.T
                              refine DW.qY rfl (ok_move (v := V.one (.sc _)) (.inl rfl) rfl) rfl rfl rfl (gle rfl) rfl rfl rfl (gle rfl) (fun _ _ _ _ h => h) ?_
                              refine DW.qY rfl (ok_s1 (x := .tmp 167) (VScal.one rfl) (fun ρ h1 w => by go_simp; (try go_bits); with_reducible rfl) rfl) rfl rfl rfl (gle rfl) rfl rfl rfl (gle rfl) (fun _ _ _ _ h => h) ?_
                              refine DW.q rfl (ok_pickT (v := V.one (.sc _)) rfl rfl rfl) rfl rfl (gle rfl) (fun _ _ _ _ h => h) ?_
                              refine DW.q rfl (ok_move (v := V.one (.sc _)) (.inl rfl) rfl) rfl rfl (gle rfl) (fun _ _ _ _ h => h) ?_
                              refine DW.split (d := 170) rfl (fun hg9 => ?_) (fun hg9 => ?_)
                              · skip   -- g9.T
                                refine DW.qY rfl (ok_load_bp (b := 4) (i := 0) (ag := true) (m := 2) (ys := [.hd 6, .sc _]) rfl rfl rfl agg_impl_Disk sz_impl_Disk (fun h => by cases h) rfl rfl (gle rfl)) rfl rfl rfl (gle rfl) rfl rfl rfl (gle rfl) (fun _ _ _ _ h => h) ?_
                                refine DW.m' [] rfl (ok_call (ls := [(false, [.sc _])]) rfl rfl ⟨_, _, Tryd.func8, rfl, by decide⟩ (L_okk X hX hO hn) ⟨⟨[.hd 6, .sc _], rfl, ⟨rfl, rfl, trivial⟩⟩, trivial⟩ rfl (gle rfl)) (fun hr => wantedY hr rfl rfl rfl (gle rfl) rfl rfl) (gle rfl) (gle rfl) (.inl rfl) (fun j hj => by cases hj) ?_
                                refine DW.q rfl (ok_pickT (v := V.one (.sc _)) rfl rfl rfl) rfl rfl (gle rfl) (fun _ _ _ _ h => h) ?_
                                refine DW.q rfl (ok_move (v := V.one (.sc _)) (.inl rfl) rfl) rfl rfl (gle rfl) (fun _ _ _ _ h => h) ?_
                                refine DW.split (d := 174) rfl (fun hg10 => ?_) (fun hg10 => ?_)
                                · skip   -- g10.T
                                  refine DW.qY rfl (ok_move (v := V.one (.sc _)) (.inl rfl) rfl) rfl rfl rfl (gle rfl) rfl rfl rfl (gle rfl) (fun _ _ _ _ h => h) ?_
                                  refine DW.q rfl (ok_pickT (v := V.one (.sc _)) rfl rfl rfl) rfl rfl (gle rfl) (fun _ _ _ _ h => h) ?_
                                  refine DW.q rfl (ok_move (v := V.one (.sc _)) (.inl rfl) rfl) rfl rfl (gle rfl) (fun _ _ _ _ h => h) ?_
                                  refine DW.split (d := 177) rfl (fun hg11 => ?_) (fun hg11 => ?_)
                                  · skip   -- g11.T
                                    refine DW.qY rfl (ok_move (v := V.one (.sc _)) (.inl rfl) rfl) rfl rfl rfl (gle rfl) rfl rfl rfl (gle rfl) (fun _ _ _ _ h => h) ?_
                                    refine DW.qY rfl (ok_s1 (x := .tmp 178) (VScal.one rfl) (fun ρ h1 w => by go_simp; (try go_bits); with_reducible rfl) rfl) rfl rfl rfl (gle rfl) rfl rfl rfl (gle rfl) (fun _ _ _ _ h => h) ?_
                                    refine DW.q rfl (ok_pickT (v := V.one (.sc _)) rfl rfl rfl) rfl rfl (gle rfl) (fun _ _ _ _ h => h) ?_
                                    refine DW.q rfl (ok_move (v := V.one (.sc _)) (.inl rfl) rfl) rfl rfl (gle rfl) (fun _ _ _ _ h => h) ?_
                                    refine DW.split (d := 181) rfl (fun hg12 => ?_) (fun hg12 => ?_)
                                    · skip   -- g12.T
                                      refine DW.qY rfl (ok_load_bp (b := 4) (i := 0) (ag := true) (m := 2) (ys := [.hd 6, .sc _]) rfl rfl rfl agg_impl_Disk sz_impl_Disk (fun h => by cases h) rfl rfl (gle rfl)) rfl rfl rfl (gle rfl) rfl rfl rfl (gle rfl) (fun _ _ _ _ h => h) ?_
                                      refine DW.qY rfl (ok_load_bp (b := 4) (i := 0) (ag := true) (m := 2) (ys := [.hd 6, .sc _]) rfl rfl rfl agg_impl_Disk sz_impl_Disk (fun h => by cases h) rfl rfl (gle rfl)) rfl rfl rfl (gle rfl) rfl rfl rfl (gle rfl) (fun _ _ _ _ h => h) ?_
                                      refine DW.m' [10] rfl (ok_callP (ls := [(true, [.hd 10, .sc _])]) hD rfl rfl ⟨_, _, Tryd.func17, rfl, by decide⟩ (VCD.toP (fun w h => h.2) (L_again X hX hO hn)) ⟨⟨[.hd 6, .sc _], rfl, ⟨rfl, rfl, trivial⟩⟩, trivial⟩ rfl (gle rfl)) (fun hr => wantedY hr rfl rfl rfl (gle rfl) rfl rfl) (gle rfl) (gle rfl) (.inl rfl) (fun j hj => by
                                          simp only [List.mem_cons, List.not_mem_nil, or_false] at hj
                                          rcases hj with rfl
                                          · exact .inr ⟨(gle rfl), (gle rfl), .inl rfl⟩) ?_
                                      refine DW.m' [10] rfl (ok_call (ls := [(false, [.sc _])]) rfl rfl ⟨_, _, Tryd.func10, rfl, by decide⟩ (L_eqk X hX hO hn) ⟨⟨[.hd 10, .sc _], rfl, ⟨rfl, rfl, trivial⟩⟩, ⟨[.hd 6, .sc _], rfl, ⟨rfl, rfl, trivial⟩⟩, trivial⟩ rfl (gle rfl)) (fun hr => wantedY hr rfl rfl rfl (gle rfl) rfl rfl) (gle rfl) (gle rfl) (.inl rfl) (fun j hj => by
                                          simp only [List.mem_cons, List.not_mem_nil, or_false] at hj
                                          rcases hj with rfl
                                          · exact .inl (by decide)) ?_
                                      refine DW.q rfl (ok_pickT (v := V.one (.sc _)) rfl rfl rfl) rfl rfl (gle rfl) (fun _ _ _ _ h => h) ?_
                                      refine DW.q rfl (ok_move (v := V.one (.sc _)) (.inl rfl) rfl) rfl rfl (gle rfl) (fun _ _ _ _ h => h) ?_
                                      refine DW.split (d := 187) rfl (fun hg13 => ?_) (fun hg13 => ?_)
                                      · skip   -- g13.T
                                        refine DW.qY rfl (ok_load_bp (b := 4) (i := 0) (ag := true) (m := 2) (ys := [.hd 6, .sc _]) rfl rfl rfl agg_impl_Disk sz_impl_Disk (fun h => by cases h) rfl rfl (gle rfl)) rfl rfl rfl (gle rfl) rfl rfl rfl (gle rfl) (fun _ _ _ _ h => h) ?_
                                        refine DW.qY rfl (ok_load_bp (b := 1) (i := 0) (ag := true) (m := 2) (ys := [.hd 2, .sc _]) rfl rfl rfl agg_impl_Disk sz_impl_Disk (fun h => by cases h) rfl rfl (gle rfl)) rfl rfl rfl (gle rfl) rfl rfl rfl (gle rfl) (fun _ _ _ _ h => h) ?_
                                        refine DW.m' [11, 10] rfl (ok_call (ls := [(true, [.hd 11, .sc _])]) rfl rfl ⟨_, _, Tryd.func20, rfl, by decide⟩ (L_purges X Q hX hO hn hQ ho) ⟨⟨[.hd 2, .sc _], rfl, ⟨rfl, rfl, trivial⟩⟩, trivial⟩ rfl (gle rfl)) (fun hr => wantedY hr rfl rfl rfl (gle rfl) rfl rfl) (gle rfl) (gle rfl) (.inl rfl) (fun j hj => by
                                            simp only [List.mem_cons, List.not_mem_nil, or_false] at hj
                                            rcases hj with rfl | rfl
                                            · exact .inr ⟨(gle rfl), (gle rfl), .inl rfl⟩
                                            · exact .inl (by decide)) ?_
                                        refine DW.m' [11, 10] rfl (ok_call (ls := [(false, [.sc _])]) rfl rfl ⟨_, _, Tryd.func10, rfl, by decide⟩ (L_eqk X hX hO hn) ⟨⟨[.hd 6, .sc _], rfl, ⟨rfl, rfl, trivial⟩⟩, ⟨[.hd 11, .sc _], rfl, ⟨rfl, rfl, trivial⟩⟩, trivial⟩ rfl (gle rfl)) (fun hr => wantedY hr rfl rfl rfl (gle rfl) rfl rfl) (gle rfl) (gle rfl) (.inl rfl) (fun j hj => by
                                            simp only [List.mem_cons, List.not_mem_nil, or_false] at hj
                                            rcases hj with rfl | rfl
                                            · exact .inl (by decide)
                                            · exact .inl (by decide)) ?_
                                        refine DW.q rfl (ok_pickT (v := V.one (.sc _)) rfl rfl rfl) rfl rfl (gle rfl) (fun _ _ _ _ h => h) ?_
                                        refine DW.q rfl (ok_move (v := V.one (.sc _)) (.inr rfl) rfl) rfl rfl (gle rfl) (fun _ _ _ _ h => h) ?_
                                        refine DW.stores ?_
                                        refine SV.zend ?_
                                        refine SV.tn ?_
                                        refine SV.ret ?_
                                        apply SV.done (hf := Tryd.results3) (ht := rfl) (he := .inl rfl)
                                        case hr => exact (ResAll.cons (ResOk.tmp (ag := false) (xs := [.sc _]) rfl) ResAll.nil')
                                        case h2 => simp [two]
                                        refine ⟨rfl, ⟨?_, trivial⟩, trivial⟩ <;> first | rfl | (show some (T.lit (Value.bool _)) = some (T.lit (Value.bool _)); refine congrArg (fun z => some (T.lit (Value.bool z))) ?_; simp)
                                      · skip   -- g13.F
                                        (exfalso; first | (simp at hg13; done) | (simp at hg13; omega))
                                    · skip   -- g12.F
                                      (exfalso; first | (simp at hg12; done) | (simp at hg12; omega))
                                  · skip   -- g11.F
                                    (exfalso; first | (simp at hg11; done) | (simp at hg11; omega))
                                · skip   -- g10.F
                                  (exfalso; first | (simp at hg10; done) | (simp at hg10; omega))
                              · skip   -- g9.F
                                (exfalso; first | (simp at hg9; done) | (simp at hg9; omega))
                            · skip   -- g8.F
                              (exfalso; first | (simp at hg8; done) | (simp at hg8; omega))
                          · skip   -- g7.F
                            (exfalso; first | (simp at hg7; done) | (simp at hg7; omega))
                        · skip   -- g6.F
                          (exfalso; first | (simp at hg6; done) | (simp at hg6; omega))
                      · skip   -- g5.F
                        (exfalso; first | (simp at hg5; done) | (simp at hg5; omega))
                    · skip   -- g4.F
                      (exfalso; first | (simp at hg4; done) | (simp at hg4; omega))
end Go.Proofs.YtjdjceohlcimaaaDoor
