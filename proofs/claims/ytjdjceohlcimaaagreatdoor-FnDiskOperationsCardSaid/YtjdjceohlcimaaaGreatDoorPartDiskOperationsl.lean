/- Texts joined: VDiskO. -/
import Derived.Test.YtjdjceohlcimaaaGreatDoorPartDiskOperationsk
/- The law of a disk's operations: told by trees. -/
namespace Go.Proofs.YtjdjceohlcimaaaGreatDoor
open Go Go.RowKit V
set_option linter.unusedVariables false
theorem VCD.toP {Φ : World → Prop} {f : FuncId} {ins rs : List (Bool × List V.T)} {tup : Bool} (h : ∀ w, Φ w → Tab w) (k : VCD Tryz.prog f ins tup rs) : VCP Φ Tryz.prog f ins tup rs := fun w hw => k w (h w hw)
theorem VCE.mono {Y : Type} {Φ Ψ : World → Prop} {Pr : Y → Prop} {f : FuncId} {ins : List (Bool × List V.T)} {tup : Bool} {rs : Y → List (Bool × List V.T)} (h : ∀ w, Φ w → Ψ w) (k : VCE Ψ Pr Tryz.prog f ins tup rs) : VCE Φ Pr Tryz.prog f ins tup rs := fun w hw => k w (h w hw)
theorem VCI.mono {Y : Type} {Φ Ψ : World → Prop} {Pr : Y → Prop} {f : FuncId} {ins : List (Bool × List V.T)} {tup : Bool} {rs : Y → List (Bool × List V.T)} (h : ∀ w, Φ w → Ψ w) (k : VCI Ψ Pr Tryz.prog f ins tup rs) : VCI Φ Pr Tryz.prog f ins tup rs := fun w hw => k w (h w hw)
theorem vbigQ {ad : Option Addr} {len cap : Nat} {zs : List Int} : VCP (fun w => Code ad len cap zs w ∧ Tab w) Tryz.prog 4 [(false, [.lit (.slice ad len cap)])] false [(false, [.lit (.bool false)])] := fun w hw vs hv => VC.plainAt (ins := [(false, [.slice ad len cap])]) (ag := false) (rs := [.bool false]) (fun u hu => by rw [List.mem_singleton.1 hu]; rfl) ((big_no ad len cap w hw.1.small).mono fun e w' ⟨he, hw'⟩ => ⟨he, hw' ▸ Below.refl _ _⟩) vs hv
theorem vsame (L : List R) (hL : ∀ r ∈ L, r.wf) (hl : L.length ≤ 1000000000) : VC Tryz.prog 20 [(false, [.seq 72 (L.map tRow)]), (false, [.seq 72 (L.map tRow)])] false [(false, [.lit (.bool true)])] := fun w vs hv => by
  obtain ⟨k, vs', rfl, h1, h2⟩ := hv.shape (Fits.slice 72 fitsRow) hL
  obtain ⟨q, vs', rfl, h4, h5⟩ := h2.shape (Fits.slice 72 fitsRow) hL
  rw [h5.none]
  have e : k.2.1 = L.length := h1.1.1.symm
  exact (samerows k.1 q.1 k.2.1 k.2.2 q.2.1 q.2.2 L w (rows_in h1.1) (rows_in h4.1) (by omega)).mono fun e w' he => Gives.plain (ag := false) (rs := [.bool true]) (one_mem rfl) he
set_option maxRecDepth 100000 in
set_option maxHeartbeats 2000000 in
theorem vlaw (ad : Option Addr) (len cap : Nat) (zs : List Int) : VCP (fun w => Code ad len cap zs w ∧ Tab w) Tryz.prog 3 [(false, [.lit (.slice ad len cap)])] false [(false, [.lit (.bool true)])] := by
  refine VCP.enter (fun w w' h hb => ⟨h.1.below hb, h.2.stay hb⟩) Tryz.func3 rfl Tryz.ntmps3 (gle rfl) fun E hE hD => ?_
  refine SV.seq' ?_
  refine SV.region ?_
  refine SV.op (OpL.ok (nb := 0) (ok_move (v := V.one (.sc _)) (.inr rfl) rfl) rfl (gle rfl)) rfl ?_
  refine SV.nil ?_
  refine SV.tn ?_
  refine SV.seq' ?_
  refine SV.seq' ?_
  refine SV.region ?_
  refine SV.op (OpL.ok (nb := 0) (ok_move (v := V.one (.sc _)) (.inl rfl) rfl) rfl (gle rfl)) rfl ?_
  refine SV.op (OpMk.ok (ok_callP (ls := [(false, [.sc _])]) hD rfl rfl ⟨_, _, Tryz.func4, rfl, by decide⟩ (vbigQ) ⟨⟨[.sc _], rfl, ⟨rfl, trivial⟩⟩, trivial⟩ rfl (gle rfl))) rfl ?_
  refine SV.nil ?_
  refine SV.tn ?_
  refine SV.cond rfl (fun hc0 => ?_) (fun hc0 => ?_)
  · skip   -- c0.T
    simp at hc0
  · skip   -- c0.F
    refine SV.skip ?_
    refine SV.tn ?_
    refine SV.seq' ?_
    refine SV.region ?_
    refine SV.op (OpL.ok (nb := 0) (ok_move (v := V.one (.sc _)) (.inl rfl) rfl) rfl (gle rfl)) rfl ?_
    refine SV.callEI hD rfl ⟨_, _, Tryz.func5, rfl, by decide⟩ (VCI.mono (fun w h => h.1) vd_app) ⟨⟨[.sc _], rfl, ⟨rfl, trivial⟩⟩, trivial⟩ rfl (gle rfl) rfl ?_
    rintro ⟨X, n, p⟩ ⟨⟨hX, hw⟩, hp, hwp⟩
    replace hw : wtDisk X ≤ 3000000 := hw
    replace hp : p.length ≤ 5 := hp
    have hvi := vappend_i X n p hX hwp (by omega) (by show p.length ≤ _; omega)
    have hvs := vappend_s X n p hX hwp (by omega) (by show p.length ≤ _; omega)
    obtain ⟨Y, hY⟩ : ∃ z, (DiskD.appendTo X n p).getD X = z := ⟨_, rfl⟩
    obtain ⟨b1, hb1⟩ : ∃ z, (DiskD.appendTo X n p).isSome = z := ⟨_, rfl⟩
    have hGY : goodDisk Y := by rw [← hY]; exact good_append hX hwp
    have hcnt : b1 = true → DiskD.count Y.fFiles = DiskD.count X.fFiles + 1 ∧ DiskD.count Y.fFiles ≤ 40 ∧ DiskD.okD Y = true := fun h => by
      rw [← hb1] at h
      obtain ⟨Z, hZ⟩ := Option.isSome_iff_exists.1 h
      rw [hZ] at hY
      obtain rfl : Z = Y := hY
      exact DiskD.app_facts hZ
    rw [hY, hb1] at hvi hvs
    refine SV.op (OpL.ok (nb := 0) (ok_move (v := ⟨true, [(true, [.nd 0 _ _ none, .sc _]), (false, [.sc _]), (true, [.nd 0 _ _ none])]⟩) (.inl rfl) rfl) rfl (gle rfl)) rfl ?_
    refine SV.op (OpL.ok (nb := 0) (ok_extract (ag := true) (xs := [.nd 0 _ _ none, .sc _]) rfl rfl rfl) rfl (gle rfl)) rfl ?_
    refine SV.op (OpL.ok (nb := 0) (ok_extract (ag := false) (xs := [.sc _]) rfl rfl rfl) rfl (gle rfl)) rfl ?_
    refine SV.op (OpL.ok (nb := 0) (ok_extract (ag := true) (xs := [.nd 0 _ _ none]) rfl rfl rfl) rfl (gle rfl)) rfl ?_
    refine SV.op (OpMk.ok (ok_alloc (kk := 0) (xs := [.nl _, .sc _]) rfl rfl zero_impl_Disk ⟨rfl, ⟨4, by decide, sz_impl_File⟩, rfl, rfl, trivial⟩ rfl (gle rfl))) rfl ?_
    refine SV.op (OpMk.ok (ok_alloc (kk := 1) (xs := [.nl _]) rfl rfl zero_impl_Page ⟨rfl, ⟨3, by decide, sz_impl_Row⟩, trivial⟩ rfl (gle rfl))) rfl ?_
    refine SV.op (ok_store_bp (b := 0) (i := 0) (m := 2) (ag := true) (zs := [.nd 0 _ _ none, .sc _]) (ys := [.nd 0 _ _ none, .sc _]) rfl rfl rfl rfl sz_impl_Disk (fun h => by cases h) rfl (gle rfl) rfl rfl rfl) rfl ?_
    refine SV.op (OpL.ok (nb := 2) (ok_move (v := V.one (.sc _)) (.inr rfl) rfl) rfl (gle rfl)) rfl ?_
    refine SV.op (ok_store_bp (b := 1) (i := 0) (m := 1) (ag := true) (zs := [.nd 0 _ _ none]) (ys := [.nd 0 _ _ none]) rfl rfl rfl rfl sz_impl_Page (fun h => by cases h) rfl (gle rfl) rfl rfl rfl) rfl ?_
    refine SV.nil ?_
    refine SV.tn ?_
    refine SV.seq' ?_
    refine SV.forget (L := [(0, V.one (.sc _)), (2, V.one (.sc _)), (3, V.one (.bp 0 0)), (4, V.one (.sc _)), (5, V.one (.bp 1 0))]) (B := [(26, [.nd 0 _ _ none, .sc _]), (29, [.nd 0 _ _ none])]) (O := [(0, _, _)]) (n := 1) ⟨rfl, rfl, rfl, rfl, rfl, trivial⟩ rfl ⟨rfl, trivial⟩ rfl ?_
    refine SV.region ?_
    refine SV.op (OpL.ok (nb := 2) (ok_load_bp (b := 0) (i := 0) (ag := true) (m := 2) (ys := [.nd 0 _ _ none, .sc _]) rfl rfl rfl agg_impl_Disk sz_impl_Disk (fun h => by cases h) rfl rfl (gle rfl)) rfl (gle rfl)) rfl ?_
    refine SV.op (OpL.ok (nb := 2) (ok_move (v := V.one (.sc _)) (.inl rfl) rfl) rfl (gle rfl)) rfl ?_
    refine SV.op (OpL.ok (nb := 2) (ok_load_bp (b := 1) (i := 0) (ag := true) (m := 1) (ys := [.nd 0 _ _ none]) rfl rfl rfl agg_impl_Page sz_impl_Page (fun h => by cases h) rfl rfl (gle rfl)) rfl (gle rfl)) rfl ?_
    refine SV.op (OpMk.ok (ok_call (ls := [(true, [.hd 1, .sc _]), (false, [.sc _])]) rfl rfl ⟨_, _, Tryz.func6, rfl, by decide⟩ (hvi) ⟨⟨[.nd 0 _ _ none, .sc _], rfl, ⟨rfl, rfl, trivial⟩⟩, ⟨[.sc _], rfl, ⟨rfl, trivial⟩⟩, ⟨[.nd 0 _ _ none], rfl, ⟨rfl, trivial⟩⟩, trivial⟩ rfl (gle rfl))) rfl ?_
    refine SV.op (OpL.ok (nb := 2) (ok_move (v := ⟨true, [(true, [.hd 1, .sc _]), (false, [.sc _])]⟩) (.inl rfl) rfl) rfl (gle rfl)) rfl ?_
    refine SV.op (OpL.ok (nb := 2) (ok_extract (ag := true) (xs := [.hd 1, .sc _]) rfl rfl rfl) rfl (gle rfl)) rfl ?_
    refine SV.op (OpL.ok (nb := 2) (ok_extract (ag := false) (xs := [.sc _]) rfl rfl rfl) rfl (gle rfl)) rfl ?_
    refine SV.op (OpMk.ok (ok_alloc (kk := 2) (xs := [.nl _, .sc _]) rfl rfl zero_impl_Disk ⟨rfl, ⟨4, by decide, sz_impl_File⟩, rfl, rfl, trivial⟩ rfl (gle rfl))) rfl ?_
    refine SV.op (ok_store_bp (b := 2) (i := 0) (m := 2) (ag := true) (zs := [.hd 1, .sc _]) (ys := [.hd 1, .sc _]) rfl rfl rfl rfl sz_impl_Disk (fun h => by cases h) rfl (gle rfl) rfl rfl rfl) rfl ?_
    refine SV.op (OpL.ok (nb := 3) (ok_move (v := V.one (.sc _)) (.inr rfl) rfl) rfl (gle rfl)) rfl ?_
    refine SV.nil ?_
    refine SV.tn ?_
    refine SV.seq' ?_
    refine SV.forget (L := [(0, V.one (.sc _)), (2, V.one (.sc _)), (3, V.one (.bp 0 0)), (4, V.one (.sc _)), (5, V.one (.bp 1 0)), (6, V.one (.bp 2 0)), (7, V.one (.sc _))]) (B := [(26, [.nd 0 _ _ none, .sc _]), (29, [.nd 0 _ _ none]), (26, [.hd 1, .sc _])]) (O := [(0, _, _), (1, _, _)]) (n := 2) ⟨rfl, rfl, rfl, rfl, rfl, rfl, rfl, trivial⟩ rfl ⟨rfl, rfl, trivial⟩ rfl ?_
    refine SV.region ?_
    refine SV.op (OpL.ok (nb := 3) (ok_load_bp (b := 0) (i := 0) (ag := true) (m := 2) (ys := [.nd 0 _ _ none, .sc _]) rfl rfl rfl agg_impl_Disk sz_impl_Disk (fun h => by cases h) rfl rfl (gle rfl)) rfl (gle rfl)) rfl ?_
    refine SV.op (OpL.ok (nb := 3) (ok_move (v := V.one (.sc _)) (.inl rfl) rfl) rfl (gle rfl)) rfl ?_
    refine SV.op (OpL.ok (nb := 3) (ok_load_bp (b := 1) (i := 0) (ag := true) (m := 1) (ys := [.nd 0 _ _ none]) rfl rfl rfl agg_impl_Page sz_impl_Page (fun h => by cases h) rfl rfl (gle rfl)) rfl (gle rfl)) rfl ?_
    refine SV.op (OpMk.ok (ok_call (ls := [(true, [.hd 2, .sc _]), (false, [.sc _])]) rfl rfl ⟨_, _, Tryz.func7, rfl, by decide⟩ (hvs) ⟨⟨[.nd 0 _ _ none, .sc _], rfl, ⟨rfl, rfl, trivial⟩⟩, ⟨[.sc _], rfl, ⟨rfl, trivial⟩⟩, ⟨[.nd 0 _ _ none], rfl, ⟨rfl, trivial⟩⟩, trivial⟩ rfl (gle rfl))) rfl ?_
    refine SV.op (OpL.ok (nb := 3) (ok_move (v := ⟨true, [(true, [.hd 2, .sc _]), (false, [.sc _])]⟩) (.inl rfl) rfl) rfl (gle rfl)) rfl ?_
    refine SV.op (OpL.ok (nb := 3) (ok_extract (ag := true) (xs := [.hd 2, .sc _]) rfl rfl rfl) rfl (gle rfl)) rfl ?_
    refine SV.op (OpL.ok (nb := 3) (ok_extract (ag := false) (xs := [.sc _]) rfl rfl rfl) rfl (gle rfl)) rfl ?_
    refine SV.op (OpMk.ok (ok_alloc (kk := 3) (xs := [.nl _, .sc _]) rfl rfl zero_impl_Disk ⟨rfl, ⟨4, by decide, sz_impl_File⟩, rfl, rfl, trivial⟩ rfl (gle rfl))) rfl ?_
    refine SV.op (ok_store_bp (b := 3) (i := 0) (m := 2) (ag := true) (zs := [.hd 2, .sc _]) (ys := [.hd 2, .sc _]) rfl rfl rfl rfl sz_impl_Disk (fun h => by cases h) rfl (gle rfl) rfl rfl rfl) rfl ?_
    refine SV.op (OpL.ok (nb := 4) (ok_move (v := V.one (.sc _)) (.inr rfl) rfl) rfl (gle rfl)) rfl ?_
    refine SV.nil ?_
    refine SV.tn ?_
    refine SV.seq' ?_
    refine SV.forget (L := [(0, V.one (.sc _)), (2, V.one (.sc _)), (3, V.one (.bp 0 0)), (6, V.one (.bp 2 0)), (7, V.one (.sc _)), (8, V.one (.bp 3 0)), (9, V.one (.sc _))]) (B := [(26, [.nd 0 _ _ none, .sc _]), (29, [.nd 0 _ _ none]), (26, [.hd 1, .sc _]), (26, [.hd 2, .sc _])]) (O := [(0, _, _), (1, _, _), (2, _, _)]) (n := 3) ⟨rfl, rfl, rfl, rfl, rfl, rfl, rfl, trivial⟩ rfl ⟨rfl, rfl, rfl, trivial⟩ rfl ?_
    refine SV.region ?_
    refine SV.op (OpL.ok (nb := 4) (ok_move (v := V.one (.sc _)) (.inl rfl) rfl) rfl (gle rfl)) rfl ?_
    refine SV.callEI hD rfl ⟨_, _, Tryz.func8, rfl, by decide⟩ (VCI.mono (fun w h => h.1) vd_sealf) ⟨⟨[.sc _], rfl, ⟨rfl, trivial⟩⟩, trivial⟩ rfl (gle rfl) rfl ?_
    rintro ⟨e, m⟩ ⟨he, hwe⟩
    replace hwe : wtDisk e ≤ 3000000 := hwe
    have hsi := vseal_i e m he (by omega)
    have hss := vseal_s e m he (by omega)
    obtain ⟨U, hU⟩ : ∃ z, (DiskD.sealF e m).getD e = z := ⟨_, rfl⟩
    obtain ⟨b3, hb3⟩ : ∃ z, (DiskD.sealF e m).isSome = z := ⟨_, rfl⟩
    have hGU : goodDisk U := by rw [← hU]; exact good_seal he
    rw [hU, hb3] at hsi hss
    have hri := vread_i e m he (by omega)
    have hrs := vread_s e m he (by omega)
    obtain ⟨RL, hRL⟩ : ∃ z, (DiskD.read e m).getD [] = z := ⟨_, rfl⟩
    obtain ⟨br, hbr⟩ : ∃ z, (DiskD.read e m).isSome = z := ⟨_, rfl⟩
    have hRw : ∀ r ∈ RL, r.wf := by rw [← hRL]; exact DiskD.read_good he
    have hRl : RL.length ≤ 1000000000 := by rw [← hRL]; exact DiskD.read_len (by omega)
    rw [hRL, hbr] at hri hrs
    refine SV.op (OpL.ok (nb := 4) (ok_move (v := ⟨true, [(true, [.nd 3 _ _ none, .sc _]), (false, [.sc _])]⟩) (.inl rfl) rfl) rfl (gle rfl)) rfl ?_
    refine SV.op (OpL.ok (nb := 4) (ok_extract (ag := true) (xs := [.nd 3 _ _ none, .sc _]) rfl rfl rfl) rfl (gle rfl)) rfl ?_
    refine SV.op (OpL.ok (nb := 4) (ok_extract (ag := false) (xs := [.sc _]) rfl rfl rfl) rfl (gle rfl)) rfl ?_
    refine SV.op (OpMk.ok (ok_alloc (kk := 4) (xs := [.nl _, .sc _]) rfl rfl zero_impl_Disk ⟨rfl, ⟨4, by decide, sz_impl_File⟩, rfl, rfl, trivial⟩ rfl (gle rfl))) rfl ?_
    refine SV.op (ok_store_bp (b := 4) (i := 0) (m := 2) (ag := true) (zs := [.nd 3 _ _ none, .sc _]) (ys := [.nd 3 _ _ none, .sc _]) rfl rfl rfl rfl sz_impl_Disk (fun h => by cases h) rfl (gle rfl) rfl rfl rfl) rfl ?_
    refine SV.op (OpL.ok (nb := 5) (ok_move (v := V.one (.sc _)) (.inr rfl) rfl) rfl (gle rfl)) rfl ?_
    refine SV.nil ?_
    refine SV.tn ?_
    refine SV.seq' ?_
    refine SV.forget (L := [(0, V.one (.sc _)), (2, V.one (.sc _)), (3, V.one (.bp 0 0)), (6, V.one (.bp 2 0)), (7, V.one (.sc _)), (8, V.one (.bp 3 0)), (9, V.one (.sc _)), (10, V.one (.bp 4 0)), (11, V.one (.sc _))]) (B := [(26, [.nd 0 _ _ none, .sc _]), (29, [.nd 0 _ _ none]), (26, [.hd 1, .sc _]), (26, [.hd 2, .sc _]), (26, [.nd 3 _ _ none, .sc _])]) (O := [(0, _, _), (1, _, _), (2, _, _), (3, _, _)]) (n := 4) ⟨rfl, rfl, rfl, rfl, rfl, rfl, rfl, rfl, rfl, trivial⟩ rfl ⟨rfl, rfl, rfl, rfl, trivial⟩ rfl ?_
    refine SV.region ?_
    refine SV.op (OpL.ok (nb := 5) (ok_load_bp (b := 4) (i := 0) (ag := true) (m := 2) (ys := [.nd 3 _ _ none, .sc _]) rfl rfl rfl agg_impl_Disk sz_impl_Disk (fun h => by cases h) rfl rfl (gle rfl)) rfl (gle rfl)) rfl ?_
    refine SV.op (OpL.ok (nb := 5) (ok_move (v := V.one (.sc _)) (.inl rfl) rfl) rfl (gle rfl)) rfl ?_
    refine SV.op (OpMk.ok (ok_callP (ls := [(true, [.hd 4, .sc _]), (false, [.sc _])]) hD rfl rfl ⟨_, _, Tryz.func9, rfl, by decide⟩ (VCD.toP (fun w h => h.2) hsi) ⟨⟨[.nd 3 _ _ none, .sc _], rfl, ⟨rfl, rfl, trivial⟩⟩, ⟨[.sc _], rfl, ⟨rfl, trivial⟩⟩, trivial⟩ rfl (gle rfl))) rfl ?_
    refine SV.op (OpL.ok (nb := 5) (ok_move (v := ⟨true, [(true, [.hd 4, .sc _]), (false, [.sc _])]⟩) (.inl rfl) rfl) rfl (gle rfl)) rfl ?_
    refine SV.op (OpL.ok (nb := 5) (ok_extract (ag := true) (xs := [.hd 4, .sc _]) rfl rfl rfl) rfl (gle rfl)) rfl ?_
    refine SV.op (OpL.ok (nb := 5) (ok_extract (ag := false) (xs := [.sc _]) rfl rfl rfl) rfl (gle rfl)) rfl ?_
    refine SV.op (OpMk.ok (ok_alloc (kk := 5) (xs := [.nl _, .sc _]) rfl rfl zero_impl_Disk ⟨rfl, ⟨4, by decide, sz_impl_File⟩, rfl, rfl, trivial⟩ rfl (gle rfl))) rfl ?_
    refine SV.op (ok_store_bp (b := 5) (i := 0) (m := 2) (ag := true) (zs := [.hd 4, .sc _]) (ys := [.hd 4, .sc _]) rfl rfl rfl rfl sz_impl_Disk (fun h => by cases h) rfl (gle rfl) rfl rfl rfl) rfl ?_
    refine SV.op (OpL.ok (nb := 6) (ok_move (v := V.one (.sc _)) (.inr rfl) rfl) rfl (gle rfl)) rfl ?_
    refine SV.nil ?_
    refine SV.tn ?_
    refine SV.seq' ?_
    refine SV.forget (L := [(0, V.one (.sc _)), (2, V.one (.sc _)), (3, V.one (.bp 0 0)), (6, V.one (.bp 2 0)), (7, V.one (.sc _)), (8, V.one (.bp 3 0)), (9, V.one (.sc _)), (10, V.one (.bp 4 0)), (11, V.one (.sc _)), (12, V.one (.bp 5 0)), (13, V.one (.sc _))]) (B := [(26, [.nd 0 _ _ none, .sc _]), (29, [.nd 0 _ _ none]), (26, [.hd 1, .sc _]), (26, [.hd 2, .sc _]), (26, [.nd 3 _ _ none, .sc _]), (26, [.hd 4, .sc _])]) (O := [(0, _, _), (1, _, _), (2, _, _), (3, _, _), (4, _, _)]) (n := 5) ⟨rfl, rfl, rfl, rfl, rfl, rfl, rfl, rfl, rfl, rfl, rfl, trivial⟩ rfl ⟨rfl, rfl, rfl, rfl, rfl, trivial⟩ rfl ?_
    refine SV.region ?_
    refine SV.op (OpL.ok (nb := 6) (ok_load_bp (b := 4) (i := 0) (ag := true) (m := 2) (ys := [.nd 3 _ _ none, .sc _]) rfl rfl rfl agg_impl_Disk sz_impl_Disk (fun h => by cases h) rfl rfl (gle rfl)) rfl (gle rfl)) rfl ?_
    refine SV.op (OpL.ok (nb := 6) (ok_move (v := V.one (.sc _)) (.inl rfl) rfl) rfl (gle rfl)) rfl ?_
    refine SV.op (OpMk.ok (ok_call (ls := [(true, [.hd 5, .sc _]), (false, [.sc _])]) rfl rfl ⟨_, _, Tryz.func10, rfl, by decide⟩ (hss) ⟨⟨[.nd 3 _ _ none, .sc _], rfl, ⟨rfl, rfl, trivial⟩⟩, ⟨[.sc _], rfl, ⟨rfl, trivial⟩⟩, trivial⟩ rfl (gle rfl))) rfl ?_
    refine SV.op (OpL.ok (nb := 6) (ok_move (v := ⟨true, [(true, [.hd 5, .sc _]), (false, [.sc _])]⟩) (.inl rfl) rfl) rfl (gle rfl)) rfl ?_
    refine SV.op (OpL.ok (nb := 6) (ok_extract (ag := true) (xs := [.hd 5, .sc _]) rfl rfl rfl) rfl (gle rfl)) rfl ?_
    refine SV.op (OpL.ok (nb := 6) (ok_extract (ag := false) (xs := [.sc _]) rfl rfl rfl) rfl (gle rfl)) rfl ?_
    refine SV.op (OpMk.ok (ok_alloc (kk := 6) (xs := [.nl _, .sc _]) rfl rfl zero_impl_Disk ⟨rfl, ⟨4, by decide, sz_impl_File⟩, rfl, rfl, trivial⟩ rfl (gle rfl))) rfl ?_
    refine SV.op (ok_store_bp (b := 6) (i := 0) (m := 2) (ag := true) (zs := [.hd 5, .sc _]) (ys := [.hd 5, .sc _]) rfl rfl rfl rfl sz_impl_Disk (fun h => by cases h) rfl (gle rfl) rfl rfl rfl) rfl ?_
    refine SV.op (OpL.ok (nb := 7) (ok_move (v := V.one (.sc _)) (.inr rfl) rfl) rfl (gle rfl)) rfl ?_
    refine SV.nil ?_
    refine SV.tn ?_
    refine SV.seq' ?_
    refine SV.forget (L := [(0, V.one (.sc _)), (2, V.one (.sc _)), (3, V.one (.bp 0 0)), (6, V.one (.bp 2 0)), (7, V.one (.sc _)), (8, V.one (.bp 3 0)), (9, V.one (.sc _)), (10, V.one (.bp 4 0)), (11, V.one (.sc _)), (12, V.one (.bp 5 0)), (13, V.one (.sc _)), (14, V.one (.bp 6 0)), (15, V.one (.sc _))]) (B := [(26, [.nd 0 _ _ none, .sc _]), (29, [.nd 0 _ _ none]), (26, [.hd 1, .sc _]), (26, [.hd 2, .sc _]), (26, [.nd 3 _ _ none, .sc _]), (26, [.hd 4, .sc _]), (26, [.hd 5, .sc _])]) (O := [(0, _, _), (1, _, _), (2, _, _), (3, _, _), (4, _, _), (5, _, _)]) (n := 6) ⟨rfl, rfl, rfl, rfl, rfl, rfl, rfl, rfl, rfl, rfl, rfl, rfl, rfl, trivial⟩ rfl ⟨rfl, rfl, rfl, rfl, rfl, rfl, trivial⟩ rfl ?_
    refine SV.region ?_
    refine SV.op (OpL.ok (nb := 7) (ok_move (v := V.one (.sc _)) (.inl rfl) rfl) rfl (gle rfl)) rfl ?_
    refine SV.callEI hD rfl ⟨_, _, Tryz.func11, rfl, by decide⟩ (VCI.mono (fun w h => h.1) vd_delf) ⟨⟨[.sc _], rfl, ⟨rfl, trivial⟩⟩, trivial⟩ rfl (gle rfl) rfl ?_
    rintro ⟨f, k⟩ ⟨hf, hwf⟩
    replace hwf : wtDisk f ≤ 3000000 := hwf
    have hdi := vdelete_i f k hf (by omega)
    have hds := vdelete_s f k hf (by omega)
    obtain ⟨W, hW⟩ : ∃ z, (DiskD.delete f k).getD f = z := ⟨_, rfl⟩
    obtain ⟨b5, hb5⟩ : ∃ z, (DiskD.delete f k).isSome = z := ⟨_, rfl⟩
    have hGW : goodDisk W := by rw [← hW]; exact good_delete hf
    rw [hW, hb5] at hdi hds
    refine SV.op (OpL.ok (nb := 7) (ok_move (v := ⟨true, [(true, [.nd 6 _ _ none, .sc _]), (false, [.sc _])]⟩) (.inl rfl) rfl) rfl (gle rfl)) rfl ?_
    refine SV.op (OpL.ok (nb := 7) (ok_extract (ag := true) (xs := [.nd 6 _ _ none, .sc _]) rfl rfl rfl) rfl (gle rfl)) rfl ?_
    refine SV.op (OpL.ok (nb := 7) (ok_extract (ag := false) (xs := [.sc _]) rfl rfl rfl) rfl (gle rfl)) rfl ?_
    refine SV.op (OpMk.ok (ok_alloc (kk := 7) (xs := [.nl _, .sc _]) rfl rfl zero_impl_Disk ⟨rfl, ⟨4, by decide, sz_impl_File⟩, rfl, rfl, trivial⟩ rfl (gle rfl))) rfl ?_
    refine SV.op (ok_store_bp (b := 7) (i := 0) (m := 2) (ag := true) (zs := [.nd 6 _ _ none, .sc _]) (ys := [.nd 6 _ _ none, .sc _]) rfl rfl rfl rfl sz_impl_Disk (fun h => by cases h) rfl (gle rfl) rfl rfl rfl) rfl ?_
    refine SV.op (OpL.ok (nb := 8) (ok_move (v := V.one (.sc _)) (.inr rfl) rfl) rfl (gle rfl)) rfl ?_
    refine SV.nil ?_
    refine SV.tn ?_
    refine SV.seq' ?_
    refine SV.forget (L := [(0, V.one (.sc _)), (2, V.one (.sc _)), (3, V.one (.bp 0 0)), (6, V.one (.bp 2 0)), (7, V.one (.sc _)), (8, V.one (.bp 3 0)), (9, V.one (.sc _)), (10, V.one (.bp 4 0)), (11, V.one (.sc _)), (12, V.one (.bp 5 0)), (13, V.one (.sc _)), (14, V.one (.bp 6 0)), (15, V.one (.sc _)), (16, V.one (.bp 7 0)), (17, V.one (.sc _))]) (B := [(26, [.nd 0 _ _ none, .sc _]), (29, [.nd 0 _ _ none]), (26, [.hd 1, .sc _]), (26, [.hd 2, .sc _]), (26, [.nd 3 _ _ none, .sc _]), (26, [.hd 4, .sc _]), (26, [.hd 5, .sc _]), (26, [.nd 6 _ _ none, .sc _])]) (O := [(0, _, _), (1, _, _), (2, _, _), (3, _, _), (4, _, _), (5, _, _), (6, _, _)]) (n := 7) ⟨rfl, rfl, rfl, rfl, rfl, rfl, rfl, rfl, rfl, rfl, rfl, rfl, rfl, rfl, rfl, trivial⟩ rfl ⟨rfl, rfl, rfl, rfl, rfl, rfl, rfl, trivial⟩ rfl ?_
    refine SV.region ?_
    refine SV.op (OpL.ok (nb := 8) (ok_load_bp (b := 7) (i := 0) (ag := true) (m := 2) (ys := [.nd 6 _ _ none, .sc _]) rfl rfl rfl agg_impl_Disk sz_impl_Disk (fun h => by cases h) rfl rfl (gle rfl)) rfl (gle rfl)) rfl ?_
    refine SV.op (OpL.ok (nb := 8) (ok_move (v := V.one (.sc _)) (.inl rfl) rfl) rfl (gle rfl)) rfl ?_
    refine SV.op (OpMk.ok (ok_call (ls := [(true, [.hd 7, .sc _]), (false, [.sc _])]) rfl rfl ⟨_, _, Tryz.func12, rfl, by decide⟩ (hdi) ⟨⟨[.nd 6 _ _ none, .sc _], rfl, ⟨rfl, rfl, trivial⟩⟩, ⟨[.sc _], rfl, ⟨rfl, trivial⟩⟩, trivial⟩ rfl (gle rfl))) rfl ?_
    refine SV.op (OpL.ok (nb := 8) (ok_move (v := ⟨true, [(true, [.hd 7, .sc _]), (false, [.sc _])]⟩) (.inl rfl) rfl) rfl (gle rfl)) rfl ?_
    refine SV.op (OpL.ok (nb := 8) (ok_extract (ag := true) (xs := [.hd 7, .sc _]) rfl rfl rfl) rfl (gle rfl)) rfl ?_
    refine SV.op (OpL.ok (nb := 8) (ok_extract (ag := false) (xs := [.sc _]) rfl rfl rfl) rfl (gle rfl)) rfl ?_
    refine SV.op (OpMk.ok (ok_alloc (kk := 8) (xs := [.nl _, .sc _]) rfl rfl zero_impl_Disk ⟨rfl, ⟨4, by decide, sz_impl_File⟩, rfl, rfl, trivial⟩ rfl (gle rfl))) rfl ?_
    refine SV.op (ok_store_bp (b := 8) (i := 0) (m := 2) (ag := true) (zs := [.hd 7, .sc _]) (ys := [.hd 7, .sc _]) rfl rfl rfl rfl sz_impl_Disk (fun h => by cases h) rfl (gle rfl) rfl rfl rfl) rfl ?_
    refine SV.op (OpL.ok (nb := 9) (ok_move (v := V.one (.sc _)) (.inr rfl) rfl) rfl (gle rfl)) rfl ?_
    refine SV.nil ?_
    refine SV.tn ?_
    refine SV.seq' ?_
    refine SV.forget (L := [(0, V.one (.sc _)), (2, V.one (.sc _)), (3, V.one (.bp 0 0)), (6, V.one (.bp 2 0)), (7, V.one (.sc _)), (8, V.one (.bp 3 0)), (9, V.one (.sc _)), (10, V.one (.bp 4 0)), (11, V.one (.sc _)), (12, V.one (.bp 5 0)), (13, V.one (.sc _)), (14, V.one (.bp 6 0)), (15, V.one (.sc _)), (16, V.one (.bp 7 0)), (17, V.one (.sc _)), (18, V.one (.bp 8 0)), (19, V.one (.sc _))]) (B := [(26, [.nd 0 _ _ none, .sc _]), (29, [.nd 0 _ _ none]), (26, [.hd 1, .sc _]), (26, [.hd 2, .sc _]), (26, [.nd 3 _ _ none, .sc _]), (26, [.hd 4, .sc _]), (26, [.hd 5, .sc _]), (26, [.nd 6 _ _ none, .sc _]), (26, [.hd 7, .sc _])]) (O := [(0, _, _), (1, _, _), (2, _, _), (3, _, _), (4, _, _), (5, _, _), (6, _, _), (7, _, _)]) (n := 8) ⟨rfl, rfl, rfl, rfl, rfl, rfl, rfl, rfl, rfl, rfl, rfl, rfl, rfl, rfl, rfl, rfl, rfl, trivial⟩ rfl ⟨rfl, rfl, rfl, rfl, rfl, rfl, rfl, rfl, trivial⟩ rfl ?_
    refine SV.region ?_
    refine SV.op (OpL.ok (nb := 9) (ok_load_bp (b := 7) (i := 0) (ag := true) (m := 2) (ys := [.nd 6 _ _ none, .sc _]) rfl rfl rfl agg_impl_Disk sz_impl_Disk (fun h => by cases h) rfl rfl (gle rfl)) rfl (gle rfl)) rfl ?_
    refine SV.op (OpL.ok (nb := 9) (ok_move (v := V.one (.sc _)) (.inl rfl) rfl) rfl (gle rfl)) rfl ?_
    refine SV.op (OpMk.ok (ok_call (ls := [(true, [.hd 8, .sc _]), (false, [.sc _])]) rfl rfl ⟨_, _, Tryz.func13, rfl, by decide⟩ (hds) ⟨⟨[.nd 6 _ _ none, .sc _], rfl, ⟨rfl, rfl, trivial⟩⟩, ⟨[.sc _], rfl, ⟨rfl, trivial⟩⟩, trivial⟩ rfl (gle rfl))) rfl ?_
    refine SV.op (OpL.ok (nb := 9) (ok_move (v := ⟨true, [(true, [.hd 8, .sc _]), (false, [.sc _])]⟩) (.inl rfl) rfl) rfl (gle rfl)) rfl ?_
    refine SV.op (OpL.ok (nb := 9) (ok_extract (ag := true) (xs := [.hd 8, .sc _]) rfl rfl rfl) rfl (gle rfl)) rfl ?_
    refine SV.op (OpL.ok (nb := 9) (ok_extract (ag := false) (xs := [.sc _]) rfl rfl rfl) rfl (gle rfl)) rfl ?_
    refine SV.op (OpMk.ok (ok_alloc (kk := 9) (xs := [.nl _, .sc _]) rfl rfl zero_impl_Disk ⟨rfl, ⟨4, by decide, sz_impl_File⟩, rfl, rfl, trivial⟩ rfl (gle rfl))) rfl ?_
    refine SV.op (ok_store_bp (b := 9) (i := 0) (m := 2) (ag := true) (zs := [.hd 8, .sc _]) (ys := [.hd 8, .sc _]) rfl rfl rfl rfl sz_impl_Disk (fun h => by cases h) rfl (gle rfl) rfl rfl rfl) rfl ?_
    refine SV.op (OpL.ok (nb := 10) (ok_move (v := V.one (.sc _)) (.inr rfl) rfl) rfl (gle rfl)) rfl ?_
    refine SV.nil ?_
    refine SV.tn ?_
    refine SV.seq' ?_
    refine SV.forget (L := [(0, V.one (.sc _)), (2, V.one (.sc _)), (3, V.one (.bp 0 0)), (6, V.one (.bp 2 0)), (7, V.one (.sc _)), (8, V.one (.bp 3 0)), (9, V.one (.sc _)), (10, V.one (.bp 4 0)), (11, V.one (.sc _)), (12, V.one (.bp 5 0)), (13, V.one (.sc _)), (14, V.one (.bp 6 0)), (15, V.one (.sc _)), (18, V.one (.bp 8 0)), (19, V.one (.sc _)), (20, V.one (.bp 9 0)), (21, V.one (.sc _))]) (B := [(26, [.nd 0 _ _ none, .sc _]), (29, [.nd 0 _ _ none]), (26, [.hd 1, .sc _]), (26, [.hd 2, .sc _]), (26, [.nd 3 _ _ none, .sc _]), (26, [.hd 4, .sc _]), (26, [.hd 5, .sc _]), (26, [.nd 6 _ _ none, .sc _]), (26, [.hd 7, .sc _]), (26, [.hd 8, .sc _])]) (O := [(0, _, _), (1, _, _), (2, _, _), (3, _, _), (4, _, _), (5, _, _), (6, _, _), (7, _, _), (8, _, _)]) (n := 9) ⟨rfl, rfl, rfl, rfl, rfl, rfl, rfl, rfl, rfl, rfl, rfl, rfl, rfl, rfl, rfl, rfl, rfl, trivial⟩ rfl ⟨rfl, rfl, rfl, rfl, rfl, rfl, rfl, rfl, rfl, trivial⟩ rfl ?_
    refine SV.region ?_
    refine SV.op (OpL.ok (nb := 10) (ok_move (v := V.one (.sc _)) (.inl rfl) rfl) rfl (gle rfl)) rfl ?_
    refine SV.callEI hD rfl ⟨_, _, Tryz.func14, rfl, by decide⟩ (VCI.mono (fun w h => h.1) vd_eqd) ⟨⟨[.sc _], rfl, ⟨rfl, trivial⟩⟩, trivial⟩ rfl (gle rfl) rfl ?_
    rintro ⟨a, b⟩ ⟨⟨ha, hwa⟩, hb, hwb⟩
    refine SV.op (OpL.ok (nb := 10) (ok_move (v := ⟨true, [(true, [.nd 9 _ _ none, .sc _]), (true, [.nd 9 _ _ none, .sc _])]⟩) (.inl rfl) rfl) rfl (gle rfl)) rfl ?_
    refine SV.op (OpL.ok (nb := 10) (ok_extract (ag := true) (xs := [.nd 9 _ _ none, .sc _]) rfl rfl rfl) rfl (gle rfl)) rfl ?_
    refine SV.op (OpL.ok (nb := 10) (ok_extract (ag := true) (xs := [.nd 9 _ _ none, .sc _]) rfl rfl rfl) rfl (gle rfl)) rfl ?_
    refine SV.op (OpMk.ok (ok_alloc (kk := 10) (xs := [.nl _, .sc _]) rfl rfl zero_impl_Disk ⟨rfl, ⟨4, by decide, sz_impl_File⟩, rfl, rfl, trivial⟩ rfl (gle rfl))) rfl ?_
    refine SV.op (OpMk.ok (ok_alloc (kk := 11) (xs := [.nl _, .sc _]) rfl rfl zero_impl_Disk ⟨rfl, ⟨4, by decide, sz_impl_File⟩, rfl, rfl, trivial⟩ rfl (gle rfl))) rfl ?_
    refine SV.op (ok_store_bp (b := 10) (i := 0) (m := 2) (ag := true) (zs := [.nd 9 _ _ none, .sc _]) (ys := [.nd 9 _ _ none, .sc _]) rfl rfl rfl rfl sz_impl_Disk (fun h => by cases h) rfl (gle rfl) rfl rfl rfl) rfl ?_
    refine SV.op (ok_store_bp (b := 11) (i := 0) (m := 2) (ag := true) (zs := [.nd 9 _ _ none, .sc _]) (ys := [.nd 9 _ _ none, .sc _]) rfl rfl rfl rfl sz_impl_Disk (fun h => by cases h) rfl (gle rfl) rfl rfl rfl) rfl ?_
    refine SV.nil ?_
    refine SV.tn ?_
    refine SV.seq' ?_
    refine SV.forget (L := [(0, V.one (.sc _)), (2, V.one (.sc _)), (3, V.one (.bp 0 0)), (6, V.one (.bp 2 0)), (7, V.one (.sc _)), (8, V.one (.bp 3 0)), (9, V.one (.sc _)), (10, V.one (.bp 4 0)), (11, V.one (.sc _)), (12, V.one (.bp 5 0)), (13, V.one (.sc _)), (14, V.one (.bp 6 0)), (15, V.one (.sc _)), (18, V.one (.bp 8 0)), (19, V.one (.sc _)), (20, V.one (.bp 9 0)), (21, V.one (.sc _)), (22, V.one (.bp 10 0)), (23, V.one (.bp 11 0))]) (B := [(26, [.nd 0 _ _ none, .sc _]), (29, [.nd 0 _ _ none]), (26, [.hd 1, .sc _]), (26, [.hd 2, .sc _]), (26, [.nd 3 _ _ none, .sc _]), (26, [.hd 4, .sc _]), (26, [.hd 5, .sc _]), (26, [.nd 6 _ _ none, .sc _]), (26, [.hd 7, .sc _]), (26, [.hd 8, .sc _]), (26, [.nd 9 _ _ none, .sc _]), (26, [.nd 9 _ _ none, .sc _])]) (O := [(0, _, _), (1, _, _), (2, _, _), (3, _, _), (4, _, _), (5, _, _), (6, _, _), (7, _, _), (8, _, _), (9, _, _)]) (n := 10) ⟨rfl, rfl, rfl, rfl, rfl, rfl, rfl, rfl, rfl, rfl, rfl, rfl, rfl, rfl, rfl, rfl, rfl, rfl, rfl, trivial⟩ rfl ⟨rfl, rfl, rfl, rfl, rfl, rfl, rfl, rfl, rfl, rfl, trivial⟩ rfl ?_
    refine SV.region ?_
    refine SV.op (OpL.ok (nb := 12) (ok_load_bp (b := 4) (i := 0) (ag := true) (m := 2) (ys := [.nd 3 _ _ none, .sc _]) rfl rfl rfl agg_impl_Disk sz_impl_Disk (fun h => by cases h) rfl rfl (gle rfl)) rfl (gle rfl)) rfl ?_
    refine SV.op (OpL.ok (nb := 12) (ok_move (v := V.one (.sc _)) (.inl rfl) rfl) rfl (gle rfl)) rfl ?_
    refine SV.op (OpMk.ok (ok_callP (ls := [(false, [.hd 10]), (false, [.sc _])]) hD rfl rfl ⟨_, _, Tryz.func15, rfl, by decide⟩ (VCD.toP (fun w h => h.2) hri) ⟨⟨[.nd 3 _ _ none, .sc _], rfl, ⟨rfl, rfl, trivial⟩⟩, ⟨[.sc _], rfl, ⟨rfl, trivial⟩⟩, trivial⟩ rfl (gle rfl))) rfl ?_
    refine SV.op (OpL.ok (nb := 12) (ok_move (v := ⟨true, [(false, [.hd 10]), (false, [.sc _])]⟩) (.inl rfl) rfl) rfl (gle rfl)) rfl ?_
    refine SV.op (OpL.ok (nb := 12) (ok_extract (ag := false) (xs := [.hd 10]) rfl rfl rfl) rfl (gle rfl)) rfl ?_
    refine SV.op (OpL.ok (nb := 12) (ok_extract (ag := false) (xs := [.sc _]) rfl rfl rfl) rfl (gle rfl)) rfl ?_
    refine SV.op (OpL.ok (nb := 12) (ok_move (v := V.one (.hd 10)) (.inr rfl) rfl) rfl (gle rfl)) rfl ?_
    refine SV.op (OpL.ok (nb := 12) (ok_move (v := V.one (.sc _)) (.inr rfl) rfl) rfl (gle rfl)) rfl ?_
    refine SV.nil ?_
    refine SV.tn ?_
    refine SV.seq' ?_
    refine SV.forget (L := [(0, V.one (.sc _)), (2, V.one (.sc _)), (3, V.one (.bp 0 0)), (6, V.one (.bp 2 0)), (7, V.one (.sc _)), (8, V.one (.bp 3 0)), (9, V.one (.sc _)), (10, V.one (.bp 4 0)), (11, V.one (.sc _)), (12, V.one (.bp 5 0)), (13, V.one (.sc _)), (14, V.one (.bp 6 0)), (15, V.one (.sc _)), (18, V.one (.bp 8 0)), (19, V.one (.sc _)), (20, V.one (.bp 9 0)), (21, V.one (.sc _)), (22, V.one (.bp 10 0)), (23, V.one (.bp 11 0)), (24, V.one (.hd 10)), (25, V.one (.sc _))]) (B := [(26, [.nd 0 _ _ none, .sc _]), (29, [.nd 0 _ _ none]), (26, [.hd 1, .sc _]), (26, [.hd 2, .sc _]), (26, [.nd 3 _ _ none, .sc _]), (26, [.hd 4, .sc _]), (26, [.hd 5, .sc _]), (26, [.nd 6 _ _ none, .sc _]), (26, [.hd 7, .sc _]), (26, [.hd 8, .sc _]), (26, [.nd 9 _ _ none, .sc _]), (26, [.nd 9 _ _ none, .sc _])]) (O := [(0, _, _), (1, _, _), (2, _, _), (3, _, _), (4, _, _), (5, _, _), (6, _, _), (7, _, _), (8, _, _), (9, _, _), (10, _, _)]) (n := 11) ⟨rfl, rfl, rfl, rfl, rfl, rfl, rfl, rfl, rfl, rfl, rfl, rfl, rfl, rfl, rfl, rfl, rfl, rfl, rfl, rfl, rfl, trivial⟩ rfl ⟨rfl, rfl, rfl, rfl, rfl, rfl, rfl, rfl, rfl, rfl, rfl, trivial⟩ rfl ?_
    refine SV.region ?_
    refine SV.op (OpL.ok (nb := 12) (ok_load_bp (b := 4) (i := 0) (ag := true) (m := 2) (ys := [.nd 3 _ _ none, .sc _]) rfl rfl rfl agg_impl_Disk sz_impl_Disk (fun h => by cases h) rfl rfl (gle rfl)) rfl (gle rfl)) rfl ?_
    refine SV.op (OpL.ok (nb := 12) (ok_move (v := V.one (.sc _)) (.inl rfl) rfl) rfl (gle rfl)) rfl ?_
    refine SV.op (OpMk.ok (ok_call (ls := [(false, [.hd 11]), (false, [.sc _])]) rfl rfl ⟨_, _, Tryz.func16, rfl, by decide⟩ (hrs) ⟨⟨[.nd 3 _ _ none, .sc _], rfl, ⟨rfl, rfl, trivial⟩⟩, ⟨[.sc _], rfl, ⟨rfl, trivial⟩⟩, trivial⟩ rfl (gle rfl))) rfl ?_
    refine SV.op (OpL.ok (nb := 12) (ok_move (v := ⟨true, [(false, [.hd 11]), (false, [.sc _])]⟩) (.inl rfl) rfl) rfl (gle rfl)) rfl ?_
    refine SV.op (OpL.ok (nb := 12) (ok_extract (ag := false) (xs := [.hd 11]) rfl rfl rfl) rfl (gle rfl)) rfl ?_
    refine SV.op (OpL.ok (nb := 12) (ok_extract (ag := false) (xs := [.sc _]) rfl rfl rfl) rfl (gle rfl)) rfl ?_
    refine SV.op (OpL.ok (nb := 12) (ok_move (v := V.one (.hd 11)) (.inr rfl) rfl) rfl (gle rfl)) rfl ?_
    refine SV.op (OpL.ok (nb := 12) (ok_move (v := V.one (.sc _)) (.inr rfl) rfl) rfl (gle rfl)) rfl ?_
    refine SV.nil ?_
    refine SV.tn ?_
    refine SV.seq' ?_
    refine SV.forget (L := [(0, V.one (.sc _)), (2, V.one (.sc _)), (3, V.one (.bp 0 0)), (6, V.one (.bp 2 0)), (7, V.one (.sc _)), (8, V.one (.bp 3 0)), (9, V.one (.sc _)), (12, V.one (.bp 5 0)), (13, V.one (.sc _)), (14, V.one (.bp 6 0)), (15, V.one (.sc _)), (18, V.one (.bp 8 0)), (19, V.one (.sc _)), (20, V.one (.bp 9 0)), (21, V.one (.sc _)), (22, V.one (.bp 10 0)), (23, V.one (.bp 11 0)), (24, V.one (.hd 10)), (25, V.one (.sc _)), (26, V.one (.hd 11)), (27, V.one (.sc _))]) (B := [(26, [.nd 0 _ _ none, .sc _]), (29, [.nd 0 _ _ none]), (26, [.hd 1, .sc _]), (26, [.hd 2, .sc _]), (26, [.nd 3 _ _ none, .sc _]), (26, [.hd 4, .sc _]), (26, [.hd 5, .sc _]), (26, [.nd 6 _ _ none, .sc _]), (26, [.hd 7, .sc _]), (26, [.hd 8, .sc _]), (26, [.nd 9 _ _ none, .sc _]), (26, [.nd 9 _ _ none, .sc _])]) (O := [(0, _, _), (1, _, _), (2, _, _), (3, _, _), (4, _, _), (5, _, _), (6, _, _), (7, _, _), (8, _, _), (9, _, _), (10, _, _), (11, _, _)]) (n := 12) ⟨rfl, rfl, rfl, rfl, rfl, rfl, rfl, rfl, rfl, rfl, rfl, rfl, rfl, rfl, rfl, rfl, rfl, rfl, rfl, rfl, rfl, trivial⟩ rfl ⟨rfl, rfl, rfl, rfl, rfl, rfl, rfl, rfl, rfl, rfl, rfl, rfl, trivial⟩ rfl ?_
    refine SV.region ?_
    refine SV.op (OpL.ok (nb := 12) (ok_move (v := V.one (.sc _)) (.inl rfl) rfl) rfl (gle rfl)) rfl ?_
    refine SV.callE hD rfl ⟨_, _, Tryz.func17, rfl, by decide⟩ (VCE.mono (fun w h => h.1) vd_ck) ⟨⟨[.sc _], rfl, ⟨rfl, trivial⟩⟩, trivial⟩ rfl (gle rfl) rfl ?_
    rintro l hl
    replace hl : l.length ≤ 8 := hl
    refine SV.op (OpL.ok (nb := 12) (ok_move (v := V.one (.sc _)) (.inr rfl) rfl) rfl (gle rfl)) rfl ?_
    refine SV.nil ?_
    refine SV.tn ?_
    refine SV.seq' ?_
    refine SV.forget (L := [(2, V.one (.sc _)), (3, V.one (.bp 0 0)), (6, V.one (.bp 2 0)), (7, V.one (.sc _)), (8, V.one (.bp 3 0)), (9, V.one (.sc _)), (12, V.one (.bp 5 0)), (13, V.one (.sc _)), (14, V.one (.bp 6 0)), (15, V.one (.sc _)), (18, V.one (.bp 8 0)), (19, V.one (.sc _)), (20, V.one (.bp 9 0)), (21, V.one (.sc _)), (22, V.one (.bp 10 0)), (23, V.one (.bp 11 0)), (24, V.one (.hd 10)), (25, V.one (.sc _)), (26, V.one (.hd 11)), (27, V.one (.sc _)), (28, V.one (.sc _))]) (B := [(26, [.nd 0 _ _ none, .sc _]), (29, [.nd 0 _ _ none]), (26, [.hd 1, .sc _]), (26, [.hd 2, .sc _]), (26, [.nd 3 _ _ none, .sc _]), (26, [.hd 4, .sc _]), (26, [.hd 5, .sc _]), (26, [.nd 6 _ _ none, .sc _]), (26, [.hd 7, .sc _]), (26, [.hd 8, .sc _]), (26, [.nd 9 _ _ none, .sc _]), (26, [.nd 9 _ _ none, .sc _])]) (O := [(0, _, _), (1, _, _), (2, _, _), (3, _, _), (4, _, _), (5, _, _), (6, _, _), (7, _, _), (8, _, _), (9, _, _), (10, _, _), (11, _, _)]) (n := 12) ⟨rfl, rfl, rfl, rfl, rfl, rfl, rfl, rfl, rfl, rfl, rfl, rfl, rfl, rfl, rfl, rfl, rfl, rfl, rfl, rfl, rfl, trivial⟩ rfl ⟨rfl, rfl, rfl, rfl, rfl, rfl, rfl, rfl, rfl, rfl, rfl, rfl, trivial⟩ rfl ?_
    refine SV.drawL (.q 0 (.q 1 (.q 2 (.q 3 (.q 4 (.q 5 (.m 6 (.q 7 (.q 8 (.q 9 (.q 10 (.q 11 (.q 12 (.q 13 (.q 14 (.q 15 (.m 16 (.q 17 (.q 18 (.q 19 (.q 20 (.q 21 (.q 22 (.q 23 (.q 24 (.q 25 (.m 26 (.q 27 (.q 28 (.q 29 (.q 30 (.q 32 (.q 33 (.m 31 (.m 34 (.q 35 (.q 36 (.q 37 (.q 38 (.q 39 (.q 40 (.q 41 (.q 42 (.q 43 (.q 44 (.m 45 (.q 46 (.q 47 (.q 48 (.q 49 (.q 50 (.q 51 (.q 53 (.m 52 (.m 54 (.q 55 (.q 56 (.q 57 (.q 58 (.m 59 (.q 60 (.q 61 (.q 62 (.q 63 (.m 64 (.q 65 (.q 66 (.q 67 (.q 68 (.q 69 (.q 71 (.m 70 (.m 72 (.q 73 (.q 74 (.q 75 .nil)))))))))))))))))))))))))))))))))))))))))))))))))))))))))))))))))))))))))))) (by kernel_rfl) (by kernel_rfl) ?_
    refine DW.q rfl (ok_move (v := V.one (.sc _)) (.inl rfl) rfl) rfl rfl (gle rfl) (fun _ _ _ _ h => h) ?_
    refine DW.q rfl (ok_move (v := V.one (.sc _)) (.inl rfl) rfl) rfl rfl (gle rfl) (fun _ _ _ _ h => h) ?_
    refine DW.q rfl (ok_s2 (x := .tmp 104) (x' := .tmp 105) (VScal.one rfl) (VScal.one rfl) (fun ρ h1 h2 w => by go_simp; (try go_bits); with_reducible rfl) rfl) rfl rfl (gle rfl) (fun _ _ _ _ h => h) ?_
    refine DW.q rfl (ok_move (v := V.one (.sc _)) (.inl rfl) rfl) rfl rfl (gle rfl) (fun _ _ _ _ h => h) ?_
    refine DW.split (d := 107) rfl (fun hg0 => ?_) (fun hg0 => ?_)
    · skip   -- g0.T
      refine DW.forget (L := [(2, V.one (.sc _)), (3, V.one (.bp 0 0)), (6, V.one (.bp 2 0)), (7, V.one (.sc _)), (8, V.one (.bp 3 0)), (12, V.one (.bp 5 0)), (13, V.one (.sc _)), (14, V.one (.bp 6 0)), (15, V.one (.sc _)), (18, V.one (.bp 8 0)), (19, V.one (.sc _)), (20, V.one (.bp 9 0)), (21, V.one (.sc _)), (22, V.one (.bp 10 0)), (23, V.one (.bp 11 0)), (24, V.one (.hd 10)), (25, V.one (.sc _)), (26, V.one (.hd 11)), (27, V.one (.sc _)), (28, V.one (.sc _)), (107, V.one (.sc _))]) (B := [(26, [.nd 0 _ _ none, .sc _]), (29, [.nd 0 _ _ none]), (26, [.hd 1, .sc _]), (26, [.hd 2, .sc _]), (26, [.nd 3 _ _ none, .sc _]), (26, [.hd 4, .sc _]), (26, [.hd 5, .sc _]), (26, [.nd 6 _ _ none, .sc _]), (26, [.hd 7, .sc _]), (26, [.hd 8, .sc _]), (26, [.nd 9 _ _ none, .sc _]), (26, [.nd 9 _ _ none, .sc _])]) (O := [(0, _, _), (1, _, _), (2, _, _), (3, _, _), (4, _, _), (5, _, _), (6, _, _), (7, _, _), (8, _, _), (9, _, _), (10, _, _), (11, _, _)]) (n := 12) ⟨rfl, rfl, rfl, rfl, rfl, rfl, rfl, rfl, rfl, rfl, rfl, rfl, rfl, rfl, rfl, rfl, rfl, rfl, rfl, rfl, rfl, trivial⟩ rfl ⟨rfl, rfl, rfl, rfl, rfl, rfl, rfl, rfl, rfl, rfl, rfl, rfl, trivial⟩ rfl ?_
      refine DW.qY rfl (ok_load_bp (b := 2) (i := 0) (ag := true) (m := 2) (ys := [.hd 1, .sc _]) rfl rfl rfl agg_impl_Disk sz_impl_Disk (fun h => by cases h) rfl rfl (gle rfl)) rfl rfl rfl (gle rfl) rfl rfl rfl (gle rfl) (fun _ _ _ _ h => h) ?_
      refine DW.qY rfl (ok_load_bp (b := 3) (i := 0) (ag := true) (m := 2) (ys := [.hd 2, .sc _]) rfl rfl rfl agg_impl_Disk sz_impl_Disk (fun h => by cases h) rfl rfl (gle rfl)) rfl rfl rfl (gle rfl) rfl rfl rfl (gle rfl) (fun _ _ _ _ h => h) ?_
      refine DW.m' [] rfl (ok_call (ls := [(false, [.sc _])]) rfl rfl ⟨_, _, Tryz.func18, rfl, by decide⟩ (veqd_s Y Y hGY hGY) ⟨⟨[.hd 1, .sc _], rfl, ⟨rfl, rfl, trivial⟩⟩, ⟨[.hd 2, .sc _], rfl, ⟨rfl, rfl, trivial⟩⟩, trivial⟩ rfl (gle rfl)) (fun hr => wantedY hr rfl rfl rfl (gle rfl) rfl rfl) (gle rfl) (gle rfl) (.inl rfl) (fun j hj => by cases hj) ?_
      refine DW.q rfl (ok_pickT (v := V.one (.sc _)) rfl rfl rfl) rfl rfl (gle rfl) (fun _ _ _ _ h => h) ?_
      refine DW.q rfl (ok_move (v := V.one (.sc _)) (.inl rfl) rfl) rfl rfl (gle rfl) (fun _ _ _ _ h => h) ?_
      refine DW.split (d := 112) rfl (fun hg1 => ?_) (fun hg1 => ?_)
      · skip   -- g1.T
        refine DW.forget (L := [(2, V.one (.sc _)), (3, V.one (.bp 0 0)), (6, V.one (.bp 2 0)), (7, V.one (.sc _)), (12, V.one (.bp 5 0)), (13, V.one (.sc _)), (14, V.one (.bp 6 0)), (15, V.one (.sc _)), (18, V.one (.bp 8 0)), (19, V.one (.sc _)), (20, V.one (.bp 9 0)), (21, V.one (.sc _)), (22, V.one (.bp 10 0)), (23, V.one (.bp 11 0)), (24, V.one (.hd 10)), (25, V.one (.sc _)), (26, V.one (.hd 11)), (27, V.one (.sc _)), (28, V.one (.sc _)), (112, V.one (.sc _))]) (B := [(26, [.nd 0 _ _ none, .sc _]), (29, [.nd 0 _ _ none]), (26, [.hd 1, .sc _]), (26, [.hd 2, .sc _]), (26, [.nd 3 _ _ none, .sc _]), (26, [.hd 4, .sc _]), (26, [.hd 5, .sc _]), (26, [.nd 6 _ _ none, .sc _]), (26, [.hd 7, .sc _]), (26, [.hd 8, .sc _]), (26, [.nd 9 _ _ none, .sc _]), (26, [.nd 9 _ _ none, .sc _])]) (O := [(0, _, _), (1, _, _), (2, _, _), (3, _, _), (4, _, _), (5, _, _), (6, _, _), (7, _, _), (8, _, _), (9, _, _), (10, _, _), (11, _, _)]) (n := 12) ⟨rfl, rfl, rfl, rfl, rfl, rfl, rfl, rfl, rfl, rfl, rfl, rfl, rfl, rfl, rfl, rfl, rfl, rfl, rfl, rfl, trivial⟩ rfl ⟨rfl, rfl, rfl, rfl, rfl, rfl, rfl, rfl, rfl, rfl, rfl, rfl, trivial⟩ rfl ?_
        refine DW.qY rfl (ok_move (v := V.one (.sc _)) (.inl rfl) rfl) rfl rfl rfl (gle rfl) rfl rfl rfl (gle rfl) (fun _ _ _ _ h => h) ?_
        refine DW.qY rfl (ok_move (v := V.one (.sc _)) (.inl rfl) rfl) rfl rfl rfl (gle rfl) rfl rfl rfl (gle rfl) (fun _ _ _ _ h => h) ?_
        refine DW.qY rfl (ok_s2 (x := .tmp 113) (x' := .tmp 114) (VScal.one rfl) (VScal.one rfl) (fun ρ h1 h2 w => by go_simp; (try go_bits); with_reducible rfl) rfl) rfl rfl rfl (gle rfl) rfl rfl rfl (gle rfl) (fun _ _ _ _ h => h) ?_
        refine DW.q rfl (ok_pickT (v := V.one (.sc _)) rfl rfl rfl) rfl rfl (gle rfl) (fun _ _ _ _ h => h) ?_
        refine DW.q rfl (ok_move (v := V.one (.sc _)) (.inl rfl) rfl) rfl rfl (gle rfl) (fun _ _ _ _ h => h) ?_
        refine DW.split (d := 117) rfl (fun hg2 => ?_) (fun hg2 => ?_)
        · skip   -- g2.T
          refine DW.forget (L := [(2, V.one (.sc _)), (3, V.one (.bp 0 0)), (6, V.one (.bp 2 0)), (7, V.one (.sc _)), (12, V.one (.bp 5 0)), (14, V.one (.bp 6 0)), (18, V.one (.bp 8 0)), (19, V.one (.sc _)), (20, V.one (.bp 9 0)), (21, V.one (.sc _)), (22, V.one (.bp 10 0)), (23, V.one (.bp 11 0)), (24, V.one (.hd 10)), (25, V.one (.sc _)), (26, V.one (.hd 11)), (27, V.one (.sc _)), (28, V.one (.sc _)), (117, V.one (.sc _))]) (B := [(26, [.nd 0 _ _ none, .sc _]), (29, [.nd 0 _ _ none]), (26, [.hd 1, .sc _]), (26, [.hd 2, .sc _]), (26, [.nd 3 _ _ none, .sc _]), (26, [.hd 4, .sc _]), (26, [.hd 5, .sc _]), (26, [.nd 6 _ _ none, .sc _]), (26, [.hd 7, .sc _]), (26, [.hd 8, .sc _]), (26, [.nd 9 _ _ none, .sc _]), (26, [.nd 9 _ _ none, .sc _])]) (O := [(0, _, _), (1, _, _), (2, _, _), (3, _, _), (4, _, _), (5, _, _), (6, _, _), (7, _, _), (8, _, _), (9, _, _), (10, _, _), (11, _, _)]) (n := 12) ⟨rfl, rfl, rfl, rfl, rfl, rfl, rfl, rfl, rfl, rfl, rfl, rfl, rfl, rfl, rfl, rfl, rfl, rfl, trivial⟩ rfl ⟨rfl, rfl, rfl, rfl, rfl, rfl, rfl, rfl, rfl, rfl, rfl, rfl, trivial⟩ rfl ?_
          refine DW.qY rfl (ok_load_bp (b := 5) (i := 0) (ag := true) (m := 2) (ys := [.hd 4, .sc _]) rfl rfl rfl agg_impl_Disk sz_impl_Disk (fun h => by cases h) rfl rfl (gle rfl)) rfl rfl rfl (gle rfl) rfl rfl rfl (gle rfl) (fun _ _ _ _ h => h) ?_
          refine DW.qY rfl (ok_load_bp (b := 6) (i := 0) (ag := true) (m := 2) (ys := [.hd 5, .sc _]) rfl rfl rfl agg_impl_Disk sz_impl_Disk (fun h => by cases h) rfl rfl (gle rfl)) rfl rfl rfl (gle rfl) rfl rfl rfl (gle rfl) (fun _ _ _ _ h => h) ?_
          refine DW.m' [] rfl (ok_call (ls := [(false, [.sc _])]) rfl rfl ⟨_, _, Tryz.func18, rfl, by decide⟩ (veqd_s U U hGU hGU) ⟨⟨[.hd 4, .sc _], rfl, ⟨rfl, rfl, trivial⟩⟩, ⟨[.hd 5, .sc _], rfl, ⟨rfl, rfl, trivial⟩⟩, trivial⟩ rfl (gle rfl)) (fun hr => wantedY hr rfl rfl rfl (gle rfl) rfl rfl) (gle rfl) (gle rfl) (.inl rfl) (fun j hj => by cases hj) ?_
          refine DW.q rfl (ok_pickT (v := V.one (.sc _)) rfl rfl rfl) rfl rfl (gle rfl) (fun _ _ _ _ h => h) ?_
          refine DW.q rfl (ok_move (v := V.one (.sc _)) (.inl rfl) rfl) rfl rfl (gle rfl) (fun _ _ _ _ h => h) ?_
          refine DW.split (d := 122) rfl (fun hg3 => ?_) (fun hg3 => ?_)
          · skip   -- g3.T
            refine DW.forget (L := [(2, V.one (.sc _)), (3, V.one (.bp 0 0)), (6, V.one (.bp 2 0)), (7, V.one (.sc _)), (18, V.one (.bp 8 0)), (19, V.one (.sc _)), (20, V.one (.bp 9 0)), (21, V.one (.sc _)), (22, V.one (.bp 10 0)), (23, V.one (.bp 11 0)), (24, V.one (.hd 10)), (25, V.one (.sc _)), (26, V.one (.hd 11)), (27, V.one (.sc _)), (28, V.one (.sc _)), (122, V.one (.sc _))]) (B := [(26, [.nd 0 _ _ none, .sc _]), (29, [.nd 0 _ _ none]), (26, [.hd 1, .sc _]), (26, [.hd 2, .sc _]), (26, [.nd 3 _ _ none, .sc _]), (26, [.hd 4, .sc _]), (26, [.hd 5, .sc _]), (26, [.nd 6 _ _ none, .sc _]), (26, [.hd 7, .sc _]), (26, [.hd 8, .sc _]), (26, [.nd 9 _ _ none, .sc _]), (26, [.nd 9 _ _ none, .sc _])]) (O := [(0, _, _), (1, _, _), (2, _, _), (3, _, _), (4, _, _), (5, _, _), (6, _, _), (7, _, _), (8, _, _), (9, _, _), (10, _, _), (11, _, _)]) (n := 12) ⟨rfl, rfl, rfl, rfl, rfl, rfl, rfl, rfl, rfl, rfl, rfl, rfl, rfl, rfl, rfl, rfl, trivial⟩ rfl ⟨rfl, rfl, rfl, rfl, rfl, rfl, rfl, rfl, rfl, rfl, rfl, rfl, trivial⟩ rfl ?_
            refine DW.qY rfl (ok_move (v := V.one (.sc _)) (.inl rfl) rfl) rfl rfl rfl (gle rfl) rfl rfl rfl (gle rfl) (fun _ _ _ _ h => h) ?_
            refine DW.qY rfl (ok_move (v := V.one (.sc _)) (.inl rfl) rfl) rfl rfl rfl (gle rfl) rfl rfl rfl (gle rfl) (fun _ _ _ _ h => h) ?_
            refine DW.qY rfl (ok_s2 (x := .tmp 123) (x' := .tmp 124) (VScal.one rfl) (VScal.one rfl) (fun ρ h1 h2 w => by go_simp; (try go_bits); with_reducible rfl) rfl) rfl rfl rfl (gle rfl) rfl rfl rfl (gle rfl) (fun _ _ _ _ h => h) ?_
            refine DW.q rfl (ok_pickT (v := V.one (.sc _)) rfl rfl rfl) rfl rfl (gle rfl) (fun _ _ _ _ h => h) ?_
            refine DW.q rfl (ok_move (v := V.one (.sc _)) (.inl rfl) rfl) rfl rfl (gle rfl) (fun _ _ _ _ h => h) ?_
            refine DW.split (d := 127) rfl (fun hg4 => ?_) (fun hg4 => ?_)
            · skip   -- g4.T
              refine DW.forget (L := [(2, V.one (.sc _)), (3, V.one (.bp 0 0)), (6, V.one (.bp 2 0)), (7, V.one (.sc _)), (18, V.one (.bp 8 0)), (20, V.one (.bp 9 0)), (22, V.one (.bp 10 0)), (23, V.one (.bp 11 0)), (24, V.one (.hd 10)), (25, V.one (.sc _)), (26, V.one (.hd 11)), (27, V.one (.sc _)), (28, V.one (.sc _)), (127, V.one (.sc _))]) (B := [(26, [.nd 0 _ _ none, .sc _]), (29, [.nd 0 _ _ none]), (26, [.hd 1, .sc _]), (26, [.hd 2, .sc _]), (26, [.nd 3 _ _ none, .sc _]), (26, [.hd 4, .sc _]), (26, [.hd 5, .sc _]), (26, [.nd 6 _ _ none, .sc _]), (26, [.hd 7, .sc _]), (26, [.hd 8, .sc _]), (26, [.nd 9 _ _ none, .sc _]), (26, [.nd 9 _ _ none, .sc _])]) (O := [(0, _, _), (1, _, _), (2, _, _), (3, _, _), (4, _, _), (5, _, _), (6, _, _), (7, _, _), (8, _, _), (9, _, _), (10, _, _), (11, _, _)]) (n := 12) ⟨rfl, rfl, rfl, rfl, rfl, rfl, rfl, rfl, rfl, rfl, rfl, rfl, rfl, rfl, trivial⟩ rfl ⟨rfl, rfl, rfl, rfl, rfl, rfl, rfl, rfl, rfl, rfl, rfl, rfl, trivial⟩ rfl ?_
              refine DW.qY rfl (ok_load_bp (b := 8) (i := 0) (ag := true) (m := 2) (ys := [.hd 7, .sc _]) rfl rfl rfl agg_impl_Disk sz_impl_Disk (fun h => by cases h) rfl rfl (gle rfl)) rfl rfl rfl (gle rfl) rfl rfl rfl (gle rfl) (fun _ _ _ _ h => h) ?_
              refine DW.qY rfl (ok_load_bp (b := 9) (i := 0) (ag := true) (m := 2) (ys := [.hd 8, .sc _]) rfl rfl rfl agg_impl_Disk sz_impl_Disk (fun h => by cases h) rfl rfl (gle rfl)) rfl rfl rfl (gle rfl) rfl rfl rfl (gle rfl) (fun _ _ _ _ h => h) ?_
              refine DW.m' [] rfl (ok_call (ls := [(false, [.sc _])]) rfl rfl ⟨_, _, Tryz.func18, rfl, by decide⟩ (veqd_s W W hGW hGW) ⟨⟨[.hd 7, .sc _], rfl, ⟨rfl, rfl, trivial⟩⟩, ⟨[.hd 8, .sc _], rfl, ⟨rfl, rfl, trivial⟩⟩, trivial⟩ rfl (gle rfl)) (fun hr => wantedY hr rfl rfl rfl (gle rfl) rfl rfl) (gle rfl) (gle rfl) (.inl rfl) (fun j hj => by cases hj) ?_
              refine DW.q rfl (ok_pickT (v := V.one (.sc _)) rfl rfl rfl) rfl rfl (gle rfl) (fun _ _ _ _ h => h) ?_
              refine DW.q rfl (ok_move (v := V.one (.sc _)) (.inl rfl) rfl) rfl rfl (gle rfl) (fun _ _ _ _ h => h) ?_
              refine DW.split (d := 132) rfl (fun hg5 => ?_) (fun hg5 => ?_)
              · skip   -- g5.T
                refine DW.forget (L := [(2, V.one (.sc _)), (3, V.one (.bp 0 0)), (6, V.one (.bp 2 0)), (7, V.one (.sc _)), (22, V.one (.bp 10 0)), (23, V.one (.bp 11 0)), (24, V.one (.hd 10)), (25, V.one (.sc _)), (26, V.one (.hd 11)), (27, V.one (.sc _)), (28, V.one (.sc _)), (132, V.one (.sc _))]) (B := [(26, [.nd 0 _ _ none, .sc _]), (29, [.nd 0 _ _ none]), (26, [.hd 1, .sc _]), (26, [.hd 2, .sc _]), (26, [.nd 3 _ _ none, .sc _]), (26, [.hd 4, .sc _]), (26, [.hd 5, .sc _]), (26, [.nd 6 _ _ none, .sc _]), (26, [.hd 7, .sc _]), (26, [.hd 8, .sc _]), (26, [.nd 9 _ _ none, .sc _]), (26, [.nd 9 _ _ none, .sc _])]) (O := [(0, _, _), (1, _, _), (2, _, _), (3, _, _), (4, _, _), (5, _, _), (6, _, _), (7, _, _), (8, _, _), (9, _, _), (10, _, _), (11, _, _)]) (n := 12) ⟨rfl, rfl, rfl, rfl, rfl, rfl, rfl, rfl, rfl, rfl, rfl, rfl, trivial⟩ rfl ⟨rfl, rfl, rfl, rfl, rfl, rfl, rfl, rfl, rfl, rfl, rfl, rfl, trivial⟩ rfl ?_
                refine DW.qY rfl (ok_load_bp (b := 10) (i := 0) (ag := true) (m := 2) (ys := [.nd 9 _ _ none, .sc _]) rfl rfl rfl agg_impl_Disk sz_impl_Disk (fun h => by cases h) rfl rfl (gle rfl)) rfl rfl rfl (gle rfl) rfl rfl rfl (gle rfl) (fun _ _ _ _ h => h) ?_
                refine DW.qY rfl (ok_load_bp (b := 11) (i := 0) (ag := true) (m := 2) (ys := [.nd 9 _ _ none, .sc _]) rfl rfl rfl agg_impl_Disk sz_impl_Disk (fun h => by cases h) rfl rfl (gle rfl)) rfl rfl rfl (gle rfl) rfl rfl rfl (gle rfl) (fun _ _ _ _ h => h) ?_
                refine DW.qY rfl (ok_load_bp (b := 10) (i := 0) (ag := true) (m := 2) (ys := [.nd 9 _ _ none, .sc _]) rfl rfl rfl agg_impl_Disk sz_impl_Disk (fun h => by cases h) rfl rfl (gle rfl)) rfl rfl rfl (gle rfl) rfl rfl rfl (gle rfl) (fun _ _ _ _ h => h) ?_
                refine DW.qY rfl (ok_load_bp (b := 11) (i := 0) (ag := true) (m := 2) (ys := [.nd 9 _ _ none, .sc _]) rfl rfl rfl agg_impl_Disk sz_impl_Disk (fun h => by cases h) rfl rfl (gle rfl)) rfl rfl rfl (gle rfl) rfl rfl rfl (gle rfl) (fun _ _ _ _ h => h) ?_
                refine DW.m' [] rfl (ok_call (ls := [(false, [.sc _])]) rfl rfl ⟨_, _, Tryz.func19, rfl, by decide⟩ (veqd_i a b ha hb) ⟨⟨[.nd 9 _ _ none, .sc _], rfl, ⟨rfl, rfl, trivial⟩⟩, ⟨[.nd 9 _ _ none, .sc _], rfl, ⟨rfl, rfl, trivial⟩⟩, trivial⟩ rfl (gle rfl)) (fun hr => wantedY hr rfl rfl rfl (gle rfl) rfl rfl) (gle rfl) (gle rfl) (.inl rfl) (fun j hj => by cases hj) ?_
                refine DW.m' [] rfl (ok_call (ls := [(false, [.sc _])]) rfl rfl ⟨_, _, Tryz.func18, rfl, by decide⟩ (veqd_s a b ha hb) ⟨⟨[.nd 9 _ _ none, .sc _], rfl, ⟨rfl, rfl, trivial⟩⟩, ⟨[.nd 9 _ _ none, .sc _], rfl, ⟨rfl, rfl, trivial⟩⟩, trivial⟩ rfl (gle rfl)) (fun hr => wantedY hr rfl rfl rfl (gle rfl) rfl rfl) (gle rfl) (gle rfl) (.inl rfl) (fun j hj => by cases hj) ?_
                refine DW.qY rfl (ok_s2 (x := .tmp 135) (x' := .tmp 138) (VScal.one rfl) (VScal.one rfl) (fun ρ h1 h2 w => by go_simp; (try go_bits); with_reducible rfl) rfl) rfl rfl rfl (gle rfl) rfl rfl rfl (gle rfl) (fun _ _ _ _ h => h) ?_
                refine DW.q rfl (ok_pickT (v := V.one (.sc _)) rfl rfl rfl) rfl rfl (gle rfl) (fun _ _ _ _ h => h) ?_
                refine DW.q rfl (ok_move (v := V.one (.sc _)) (.inl rfl) rfl) rfl rfl (gle rfl) (fun _ _ _ _ h => h) ?_
                refine DW.split (d := 141) rfl (fun hg6 => ?_) (fun hg6 => ?_)
                · skip   -- g6.T
                  refine DW.forget (L := [(2, V.one (.sc _)), (3, V.one (.bp 0 0)), (6, V.one (.bp 2 0)), (7, V.one (.sc _)), (24, V.one (.hd 10)), (25, V.one (.sc _)), (26, V.one (.hd 11)), (27, V.one (.sc _)), (28, V.one (.sc _)), (141, V.one (.sc _))]) (B := [(26, [.nd 0 _ _ none, .sc _]), (29, [.nd 0 _ _ none]), (26, [.hd 1, .sc _]), (26, [.hd 2, .sc _]), (26, [.nd 3 _ _ none, .sc _]), (26, [.hd 4, .sc _]), (26, [.hd 5, .sc _]), (26, [.nd 6 _ _ none, .sc _]), (26, [.hd 7, .sc _]), (26, [.hd 8, .sc _]), (26, [.nd 9 _ _ none, .sc _]), (26, [.nd 9 _ _ none, .sc _])]) (O := [(0, _, _), (1, _, _), (2, _, _), (3, _, _), (4, _, _), (5, _, _), (6, _, _), (7, _, _), (8, _, _), (9, _, _), (10, _, _), (11, _, _)]) (n := 12) ⟨rfl, rfl, rfl, rfl, rfl, rfl, rfl, rfl, rfl, rfl, trivial⟩ rfl ⟨rfl, rfl, rfl, rfl, rfl, rfl, rfl, rfl, rfl, rfl, rfl, rfl, trivial⟩ rfl ?_
                  refine DW.qY rfl (ok_move (v := V.one (.sc _)) (.inl rfl) rfl) rfl rfl rfl (gle rfl) rfl rfl rfl (gle rfl) (fun _ _ _ _ h => h) ?_
                  refine DW.qY rfl (ok_move (v := V.one (.sc _)) (.inl rfl) rfl) rfl rfl rfl (gle rfl) rfl rfl rfl (gle rfl) (fun _ _ _ _ h => h) ?_
                  refine DW.qY rfl (ok_s2 (x := .tmp 142) (x' := .tmp 143) (VScal.one rfl) (VScal.one rfl) (fun ρ h1 h2 w => by go_simp; (try go_bits); with_reducible rfl) rfl) rfl rfl rfl (gle rfl) rfl rfl rfl (gle rfl) (fun _ _ _ _ h => h) ?_
                  refine DW.q rfl (ok_pickT (v := V.one (.sc _)) rfl rfl rfl) rfl rfl (gle rfl) (fun _ _ _ _ h => h) ?_
                  refine DW.q rfl (ok_move (v := V.one (.sc _)) (.inl rfl) rfl) rfl rfl (gle rfl) (fun _ _ _ _ h => h) ?_
                  refine DW.split (d := 146) rfl (fun hg7 => ?_) (fun hg7 => ?_)
                  · skip   -- g7.T
                    refine DW.forget (L := [(2, V.one (.sc _)), (3, V.one (.bp 0 0)), (6, V.one (.bp 2 0)), (7, V.one (.sc _)), (24, V.one (.hd 10)), (26, V.one (.hd 11)), (28, V.one (.sc _)), (146, V.one (.sc _))]) (B := [(26, [.nd 0 _ _ none, .sc _]), (29, [.nd 0 _ _ none]), (26, [.hd 1, .sc _]), (26, [.hd 2, .sc _]), (26, [.nd 3 _ _ none, .sc _]), (26, [.hd 4, .sc _]), (26, [.hd 5, .sc _]), (26, [.nd 6 _ _ none, .sc _]), (26, [.hd 7, .sc _]), (26, [.hd 8, .sc _]), (26, [.nd 9 _ _ none, .sc _]), (26, [.nd 9 _ _ none, .sc _])]) (O := [(0, _, _), (1, _, _), (2, _, _), (3, _, _), (4, _, _), (5, _, _), (6, _, _), (7, _, _), (8, _, _), (9, _, _), (10, _, _), (11, _, _)]) (n := 12) ⟨rfl, rfl, rfl, rfl, rfl, rfl, rfl, rfl, trivial⟩ rfl ⟨rfl, rfl, rfl, rfl, rfl, rfl, rfl, rfl, rfl, rfl, rfl, rfl, trivial⟩ rfl ?_
                    refine DW.qY rfl (ok_move (v := V.one (.hd 10)) (.inl rfl) rfl) rfl rfl rfl (gle rfl) rfl rfl rfl (gle rfl) (fun _ _ _ _ h => h) ?_
                    refine DW.qY rfl (ok_move (v := V.one (.hd 11)) (.inl rfl) rfl) rfl rfl rfl (gle rfl) rfl rfl rfl (gle rfl) (fun _ _ _ _ h => h) ?_
                    refine DW.m' [] rfl (ok_call (ls := [(false, [.sc _])]) rfl rfl ⟨_, _, Tryz.func20, rfl, by decide⟩ (vsame RL hRw hRl) ⟨⟨[.hd 10], rfl, ⟨rfl, trivial⟩⟩, ⟨[.hd 11], rfl, ⟨rfl, trivial⟩⟩, trivial⟩ rfl (gle rfl)) (fun hr => wantedY hr rfl rfl rfl (gle rfl) rfl rfl) (gle rfl) (gle rfl) (.inl rfl) (fun j hj => by cases hj) ?_
                    refine DW.q rfl (ok_pickT (v := V.one (.sc _)) rfl rfl rfl) rfl rfl (gle rfl) (fun _ _ _ _ h => h) ?_
                    refine DW.q rfl (ok_move (v := V.one (.sc _)) (.inl rfl) rfl) rfl rfl (gle rfl) (fun _ _ _ _ h => h) ?_
                    refine DW.split (d := 151) rfl (fun hg8 => ?_) (fun hg8 => ?_)
                    · skip   -- g8.T
                      refine DW.forget (L := [(2, V.one (.sc _)), (3, V.one (.bp 0 0)), (6, V.one (.bp 2 0)), (7, V.one (.sc _)), (28, V.one (.sc _)), (151, V.one (.sc _))]) (B := [(26, [.nd 0 _ _ none, .sc _]), (29, [.nd 0 _ _ none]), (26, [.hd 1, .sc _]), (26, [.hd 2, .sc _]), (26, [.nd 3 _ _ none, .sc _]), (26, [.hd 4, .sc _]), (26, [.hd 5, .sc _]), (26, [.nd 6 _ _ none, .sc _]), (26, [.hd 7, .sc _]), (26, [.hd 8, .sc _]), (26, [.nd 9 _ _ none, .sc _]), (26, [.nd 9 _ _ none, .sc _])]) (O := [(0, _, _), (1, _, _), (2, _, _), (3, _, _), (4, _, _), (5, _, _), (6, _, _), (7, _, _), (8, _, _), (9, _, _)]) (n := 12) ⟨rfl, rfl, rfl, rfl, rfl, rfl, trivial⟩ rfl ⟨rfl, rfl, rfl, rfl, rfl, rfl, rfl, rfl, rfl, rfl, trivial⟩ rfl ?_
                      refine DW.qY rfl (ok_move (v := V.one (.sc _)) (.inl rfl) rfl) rfl rfl rfl (gle rfl) rfl rfl rfl (gle rfl) (fun _ _ _ _ h => h) ?_
                      refine DW.qY rfl (ok_s1 (x := .tmp 152) (VScal.one rfl) (fun ρ h1 w => by go_simp; (try go_bits); with_reducible rfl) rfl) rfl rfl rfl (gle rfl) rfl rfl rfl (gle rfl) (fun _ _ _ _ h => h) ?_
                      refine DW.qY rfl (ok_move (v := V.one (.sc _)) (.inl rfl) rfl) rfl rfl rfl (gle rfl) rfl rfl rfl (gle rfl) (fun _ _ _ _ h => h) ?_
                      refine DW.split (d := 154) rfl (fun hg9 => ?_) (fun hg9 => ?_)
                      · skip   -- g9.T
                        refine DW.forget (L := [(2, V.one (.sc _)), (3, V.one (.bp 0 0)), (6, V.one (.bp 2 0)), (28, V.one (.sc _)), (151, V.one (.sc _)), (154, V.one (.sc _))]) (B := [(26, [.nd 0 _ _ none, .sc _]), (29, [.nd 0 _ _ none]), (26, [.hd 1, .sc _]), (26, [.hd 2, .sc _]), (26, [.nd 3 _ _ none, .sc _]), (26, [.hd 4, .sc _]), (26, [.hd 5, .sc _]), (26, [.nd 6 _ _ none, .sc _]), (26, [.hd 7, .sc _]), (26, [.hd 8, .sc _]), (26, [.nd 9 _ _ none, .sc _]), (26, [.nd 9 _ _ none, .sc _])]) (O := [(0, _, _), (1, _, _), (2, _, _), (3, _, _), (4, _, _), (5, _, _), (6, _, _), (7, _, _), (8, _, _), (9, _, _)]) (n := 12) ⟨rfl, rfl, rfl, rfl, rfl, rfl, trivial⟩ rfl ⟨rfl, rfl, rfl, rfl, rfl, rfl, rfl, rfl, rfl, rfl, trivial⟩ rfl ?_
                        refine DW.qN (V' := V.one .dead) rfl rfl rfl rfl (gle rfl) rfl rfl rfl (gle rfl) (fun _ _ _ _ h => h) ?_
                        refine DW.qN (V' := V.one .dead) rfl rfl rfl rfl (gle rfl) rfl rfl rfl (gle rfl) (fun _ _ _ _ h => h) ?_
                        refine DW.mN rfl rfl rfl rfl (gle rfl) rfl rfl rfl (gle rfl) ?_
                        refine DW.mN rfl rfl rfl rfl (gle rfl) rfl rfl rfl (gle rfl) ?_
                        refine DW.qN (V' := V.one .dead) rfl rfl rfl rfl (gle rfl) rfl rfl rfl (gle rfl) (fun _ _ _ _ h => h) ?_
                        refine DW.qN (V' := V.one .dead) rfl rfl rfl rfl (gle rfl) rfl rfl rfl (gle rfl) (fun _ _ _ _ h => h) ?_
                        refine DW.qNu rfl rfl rfl rfl (gle rfl) rfl rfl rfl (gle rfl) (fun _ _ _ _ h => h) ?_
                        refine DW.qNN rfl rfl rfl rfl (gle rfl) rfl rfl (gle rfl) (fun _ _ _ _ h => h) ?_
                        refine DW.mNN rfl rfl rfl rfl (gle rfl) rfl rfl (gle rfl) ?_
                        refine DW.qNN rfl rfl rfl rfl (gle rfl) rfl rfl (gle rfl) (fun _ _ _ _ h => h) ?_
                        refine DW.qN (V' := V.one .dead) rfl rfl rfl rfl (gle rfl) rfl rfl rfl (gle rfl) (fun _ _ _ _ h => h) ?_
                        refine DW.qNu rfl rfl rfl rfl (gle rfl) rfl rfl rfl (gle rfl) (fun _ _ _ _ h => h) ?_
                        refine DW.qNN rfl rfl rfl rfl (gle rfl) rfl rfl (gle rfl) (fun _ _ _ _ h => h) ?_
                        refine DW.mNN rfl rfl rfl rfl (gle rfl) rfl rfl (gle rfl) ?_
                        refine DW.qN (V' := V.one .dead) rfl rfl rfl rfl (gle rfl) rfl rfl rfl (gle rfl) (fun _ _ _ _ h => h) ?_
                        refine DW.qY rfl (ok_pickT (v := V.one (.sc _)) rfl rfl rfl) rfl rfl rfl (gle rfl) rfl rfl rfl (gle rfl) (fun _ _ _ _ h => h) ?_
                        refine DW.q rfl (ok_pickT (v := V.one (.sc _)) rfl rfl rfl) rfl rfl (gle rfl) (fun _ _ _ _ h => h) ?_
                        refine DW.q rfl (ok_move (v := V.one (.sc _)) (.inl rfl) rfl) rfl rfl (gle rfl) (fun _ _ _ _ h => h) ?_
                        refine DW.split (d := 172) rfl (fun hg10 => ?_) (fun hg10 => ?_)
                        · skip   -- g10.T
                          refine DW.forget (L := [(2, V.one (.sc _)), (28, V.one (.sc _)), (172, V.one (.sc _))]) (B := [(26, [.nd 0 _ _ none, .sc _]), (29, [.nd 0 _ _ none]), (26, [.hd 1, .sc _]), (26, [.hd 2, .sc _]), (26, [.nd 3 _ _ none, .sc _]), (26, [.hd 4, .sc _]), (26, [.hd 5, .sc _]), (26, [.nd 6 _ _ none, .sc _]), (26, [.hd 7, .sc _]), (26, [.hd 8, .sc _]), (26, [.nd 9 _ _ none, .sc _]), (26, [.nd 9 _ _ none, .sc _])]) (O := [(0, _, _), (1, _, _), (2, _, _), (3, _, _), (4, _, _), (5, _, _), (6, _, _), (7, _, _), (8, _, _), (9, _, _)]) (n := 12) ⟨rfl, rfl, rfl, trivial⟩ rfl ⟨rfl, rfl, rfl, rfl, rfl, rfl, rfl, rfl, rfl, rfl, trivial⟩ rfl ?_
                          refine DW.qY rfl (ok_move (v := V.one (.sc _)) (.inl rfl) rfl) rfl rfl rfl (gle rfl) rfl rfl rfl (gle rfl) (fun _ _ _ _ h => h) ?_
                          refine DW.qY rfl (ok_move (v := V.one (.sc _)) (.inl rfl) rfl) rfl rfl rfl (gle rfl) rfl rfl rfl (gle rfl) (fun _ _ _ _ h => h) ?_
                          refine DW.m' [] rfl (ok_call (ls := [(false, [.sc _])]) rfl rfl ⟨_, _, Tryz.func23, rfl, by decide⟩ (vck_i l (by omega)) ⟨⟨[.sc _], rfl, ⟨rfl, trivial⟩⟩, trivial⟩ rfl (gle rfl)) (fun hr => wantedY hr rfl rfl rfl (gle rfl) rfl rfl) (gle rfl) (gle rfl) (.inl rfl) (fun j hj => by cases hj) ?_
                          refine DW.m' [] rfl (ok_call (ls := [(false, [.sc _])]) rfl rfl ⟨_, _, Tryz.func24, rfl, by decide⟩ (vck_s l (by omega)) ⟨⟨[.sc _], rfl, ⟨rfl, trivial⟩⟩, trivial⟩ rfl (gle rfl)) (fun hr => wantedY hr rfl rfl rfl (gle rfl) rfl rfl) (gle rfl) (gle rfl) (.inl rfl) (fun j hj => by cases hj) ?_
                          refine DW.qY rfl (ok_s2 (x := .tmp 174) (x' := .tmp 176) (VScal.one rfl) (VScal.one rfl) (fun ρ h1 h2 w => by go_simp; (try go_bits); with_reducible rfl) rfl) rfl rfl rfl (gle rfl) rfl rfl rfl (gle rfl) (fun _ _ _ _ h => h) ?_
                          refine DW.q rfl (ok_pickT (v := V.one (.sc _)) rfl rfl rfl) rfl rfl (gle rfl) (fun _ _ _ _ h => h) ?_
                          refine DW.q rfl (ok_move (v := V.one (.sc _)) (.inr rfl) rfl) rfl rfl (gle rfl) (fun _ _ _ _ h => h) ?_
                          refine DW.stores ?_
                          refine SV.zend ?_
                          refine SV.tn ?_
                          refine SV.ret ?_
                          apply SV.done (hf := Tryz.results3) (ht := rfl) (he := .inl rfl)
                          case hr => exact (ResAll.cons (ResOk.tmp (ag := false) (xs := [.sc _]) rfl) ResAll.nil')
                          case h2 => simp [two]
                          refine ⟨rfl, ⟨?_, trivial⟩, trivial⟩ <;> first | rfl | (show some (T.lit (Value.bool _)) = some (T.lit (Value.bool _)); refine congrArg (fun z => some (T.lit (Value.bool z))) ?_; simp)
                        · skip   -- g10.F
                          (exfalso; first | (simp at hg10; done) | (simp [hc3] at hg10; done) | (simp [hc1] at hg10; done) | (simp at hg10; omega))
                      · skip   -- g9.F
                        have hbt : b1 = true := by simpa using hg9
                        obtain ⟨hc1, hc2, hc3⟩ := hcnt hbt
                        have hwY : wtDisk Y ≤ 1000000000 := Nat.le_trans (DiskD.Ok.of hc3).wt (by decide)
                        refine DW.forget (L := [(2, V.one (.sc _)), (3, V.one (.bp 0 0)), (6, V.one (.bp 2 0)), (28, V.one (.sc _)), (151, V.one (.sc _)), (154, V.one (.sc _))]) (B := [(26, [.nd 0 _ _ none, .sc _]), (29, [.nd 0 _ _ none]), (26, [.hd 1, .sc _]), (26, [.hd 2, .sc _]), (26, [.nd 3 _ _ none, .sc _]), (26, [.hd 4, .sc _]), (26, [.hd 5, .sc _]), (26, [.nd 6 _ _ none, .sc _]), (26, [.hd 7, .sc _]), (26, [.hd 8, .sc _]), (26, [.nd 9 _ _ none, .sc _]), (26, [.nd 9 _ _ none, .sc _])]) (O := [(0, _, _), (1, _, _), (2, _, _), (3, _, _), (4, _, _), (5, _, _), (6, _, _), (7, _, _), (8, _, _), (9, _, _)]) (n := 12) ⟨rfl, rfl, rfl, rfl, rfl, rfl, trivial⟩ rfl ⟨rfl, rfl, rfl, rfl, rfl, rfl, rfl, rfl, rfl, rfl, trivial⟩ rfl ?_
                        refine DW.qY rfl (ok_load_bp (b := 2) (i := 0) (ag := true) (m := 2) (ys := [.hd 1, .sc _]) rfl rfl rfl agg_impl_Disk sz_impl_Disk (fun h => by cases h) rfl rfl (gle rfl)) rfl rfl rfl (gle rfl) rfl rfl rfl (gle rfl) (fun _ _ _ _ h => h) ?_
                        refine DW.qY rfl (ok_load_bp (b := 0) (i := 0) (ag := true) (m := 2) (ys := [.nd 0 _ _ none, .sc _]) rfl rfl rfl agg_impl_Disk sz_impl_Disk (fun h => by cases h) rfl rfl (gle rfl)) rfl rfl rfl (gle rfl) rfl rfl rfl (gle rfl) (fun _ _ _ _ h => h) ?_
                        refine DW.m' [] rfl (ok_call (ls := [(false, [.sc _])]) rfl rfl ⟨_, _, Tryz.func21, rfl, by decide⟩ (vcount_i Y hGY hwY) ⟨⟨[.hd 1, .sc _], rfl, ⟨rfl, rfl, trivial⟩⟩, trivial⟩ rfl (gle rfl)) (fun hr => wantedY hr rfl rfl rfl (gle rfl) rfl rfl) (gle rfl) (gle rfl) (.inl rfl) (fun j hj => by cases hj) ?_
                        refine DW.m' [] rfl (ok_call (ls := [(false, [.sc _])]) rfl rfl ⟨_, _, Tryz.func21, rfl, by decide⟩ (vcount_i X hX (by omega)) ⟨⟨[.nd 0 _ _ none, .sc _], rfl, ⟨rfl, rfl, trivial⟩⟩, trivial⟩ rfl (gle rfl)) (fun hr => wantedY hr rfl rfl rfl (gle rfl) rfl rfl) (gle rfl) (gle rfl) (.inl rfl) (fun j hj => by cases hj) ?_
                        refine DW.qY rfl (ok_s2 (v := .int .i64 (((DiskD.count X.fFiles : Nat) : Int) + 1)) (x := .tmp 158) (x' := .const ((Value.int IntKind.i64 1))) (VScal.one rfl) (VScal.one rfl) (fun ρ h1 h2 w => by go_simp; rw [IntWalk.i64_left, IntWalk.wrap64_in _ ⟨by omega, by omega⟩]) rfl) rfl rfl rfl (gle rfl) rfl rfl rfl (gle rfl) (fun _ _ _ _ h => h) ?_
                        refine DW.qY rfl (ok_s2 (x := .tmp 156) (x' := .tmp 159) (VScal.one rfl) (VScal.one rfl) (fun ρ h1 h2 w => by go_simp; (try go_bits); with_reducible rfl) rfl) rfl rfl rfl (gle rfl) rfl rfl rfl (gle rfl) (fun _ _ _ _ h => h) ?_
                        refine DW.qY rfl (ok_move (v := V.one (.sc _)) (.inl rfl) rfl) rfl rfl rfl (gle rfl) rfl rfl rfl (gle rfl) (fun _ _ _ _ h => h) ?_
                        refine DW.split (d := 161) rfl (fun hg11 => ?_) (fun hg11 => ?_)
                        · skip   -- g11.T
                          refine DW.forget (L := [(2, V.one (.sc _)), (6, V.one (.bp 2 0)), (28, V.one (.sc _)), (151, V.one (.sc _)), (154, V.one (.sc _)), (161, V.one (.sc _))]) (B := [(26, [.nd 0 _ _ none, .sc _]), (29, [.nd 0 _ _ none]), (26, [.hd 1, .sc _]), (26, [.hd 2, .sc _]), (26, [.nd 3 _ _ none, .sc _]), (26, [.hd 4, .sc _]), (26, [.hd 5, .sc _]), (26, [.nd 6 _ _ none, .sc _]), (26, [.hd 7, .sc _]), (26, [.hd 8, .sc _]), (26, [.nd 9 _ _ none, .sc _]), (26, [.nd 9 _ _ none, .sc _])]) (O := [(0, _, _), (1, _, _), (2, _, _), (3, _, _), (4, _, _), (5, _, _), (6, _, _), (7, _, _), (8, _, _), (9, _, _)]) (n := 12) ⟨rfl, rfl, rfl, rfl, rfl, rfl, trivial⟩ rfl ⟨rfl, rfl, rfl, rfl, rfl, rfl, rfl, rfl, rfl, rfl, trivial⟩ rfl ?_
                          refine DW.qY rfl (ok_load_bp (b := 2) (i := 0) (ag := true) (m := 2) (ys := [.hd 1, .sc _]) rfl rfl rfl agg_impl_Disk sz_impl_Disk (fun h => by cases h) rfl rfl (gle rfl)) rfl rfl rfl (gle rfl) rfl rfl rfl (gle rfl) (fun _ _ _ _ h => h) ?_
                          refine DW.m' [] rfl (ok_call (ls := [(false, [.sc _])]) rfl rfl ⟨_, _, Tryz.func21, rfl, by decide⟩ (vcount_i Y hGY hwY) ⟨⟨[.hd 1, .sc _], rfl, ⟨rfl, rfl, trivial⟩⟩, trivial⟩ rfl (gle rfl)) (fun hr => wantedY hr rfl rfl rfl (gle rfl) rfl rfl) (gle rfl) (gle rfl) (.inl rfl) (fun j hj => by cases hj) ?_
                          refine DW.qY rfl (ok_s2 (x := .tmp 163) (x' := .const ((Value.int IntKind.i64 40))) (VScal.one rfl) (VScal.one rfl) (fun ρ h1 h2 w => by go_simp; (try go_bits); with_reducible rfl) rfl) rfl rfl rfl (gle rfl) rfl rfl rfl (gle rfl) (fun _ _ _ _ h => h) ?_
                          refine DW.qY rfl (ok_pickT (v := V.one (.sc _)) rfl rfl rfl) rfl rfl rfl (gle rfl) rfl rfl rfl (gle rfl) (fun _ _ _ _ h => h) ?_
                          refine DW.qY rfl (ok_move (v := V.one (.sc _)) (.inl rfl) rfl) rfl rfl rfl (gle rfl) rfl rfl rfl (gle rfl) (fun _ _ _ _ h => h) ?_
                          refine DW.split (d := 166) rfl (fun hg12 => ?_) (fun hg12 => ?_)
                          · skip   -- g12.T
                            refine DW.forget (L := [(2, V.one (.sc _)), (6, V.one (.bp 2 0)), (28, V.one (.sc _)), (151, V.one (.sc _)), (154, V.one (.sc _)), (166, V.one (.sc _))]) (B := [(26, [.nd 0 _ _ none, .sc _]), (29, [.nd 0 _ _ none]), (26, [.hd 1, .sc _]), (26, [.hd 2, .sc _]), (26, [.nd 3 _ _ none, .sc _]), (26, [.hd 4, .sc _]), (26, [.hd 5, .sc _]), (26, [.nd 6 _ _ none, .sc _]), (26, [.hd 7, .sc _]), (26, [.hd 8, .sc _]), (26, [.nd 9 _ _ none, .sc _]), (26, [.nd 9 _ _ none, .sc _])]) (O := [(0, _, _), (1, _, _), (2, _, _), (3, _, _), (4, _, _), (5, _, _), (6, _, _), (7, _, _), (8, _, _), (9, _, _)]) (n := 12) ⟨rfl, rfl, rfl, rfl, rfl, rfl, trivial⟩ rfl ⟨rfl, rfl, rfl, rfl, rfl, rfl, rfl, rfl, rfl, rfl, trivial⟩ rfl ?_
                            refine DW.qY rfl (ok_load_bp (b := 2) (i := 0) (ag := true) (m := 2) (ys := [.hd 1, .sc _]) rfl rfl rfl agg_impl_Disk sz_impl_Disk (fun h => by cases h) rfl rfl (gle rfl)) rfl rfl rfl (gle rfl) rfl rfl rfl (gle rfl) (fun _ _ _ _ h => h) ?_
                            refine DW.m' [] rfl (ok_call (ls := [(false, [.sc _])]) rfl rfl ⟨_, _, Tryz.func22, rfl, by decide⟩ (vokdisk_i Y hGY hwY) ⟨⟨[.hd 1, .sc _], rfl, ⟨rfl, rfl, trivial⟩⟩, trivial⟩ rfl (gle rfl)) (fun hr => wantedY hr rfl rfl rfl (gle rfl) rfl rfl) (gle rfl) (gle rfl) (.inl rfl) (fun j hj => by cases hj) ?_
                            refine DW.qY rfl (ok_pickT (v := V.one (.sc _)) rfl rfl rfl) rfl rfl rfl (gle rfl) rfl rfl rfl (gle rfl) (fun _ _ _ _ h => h) ?_
                            refine DW.qY rfl (ok_pickF (v := V.one (.sc _)) rfl rfl rfl) rfl rfl rfl (gle rfl) rfl rfl rfl (gle rfl) (fun _ _ _ _ h => h) ?_
                            refine DW.q rfl (ok_pickT (v := V.one (.sc _)) rfl rfl rfl) rfl rfl (gle rfl) (fun _ _ _ _ h => h) ?_
                            refine DW.q rfl (ok_move (v := V.one (.sc _)) (.inl rfl) rfl) rfl rfl (gle rfl) (fun _ _ _ _ h => h) ?_
                            refine DW.split (d := 172) rfl (fun hg13 => ?_) (fun hg13 => ?_)
                            · skip   -- g13.T
                              refine DW.forget (L := [(2, V.one (.sc _)), (28, V.one (.sc _)), (172, V.one (.sc _))]) (B := [(26, [.nd 0 _ _ none, .sc _]), (29, [.nd 0 _ _ none]), (26, [.hd 1, .sc _]), (26, [.hd 2, .sc _]), (26, [.nd 3 _ _ none, .sc _]), (26, [.hd 4, .sc _]), (26, [.hd 5, .sc _]), (26, [.nd 6 _ _ none, .sc _]), (26, [.hd 7, .sc _]), (26, [.hd 8, .sc _]), (26, [.nd 9 _ _ none, .sc _]), (26, [.nd 9 _ _ none, .sc _])]) (O := [(0, _, _), (1, _, _), (2, _, _), (3, _, _), (4, _, _), (5, _, _), (6, _, _), (7, _, _), (8, _, _), (9, _, _)]) (n := 12) ⟨rfl, rfl, rfl, trivial⟩ rfl ⟨rfl, rfl, rfl, rfl, rfl, rfl, rfl, rfl, rfl, rfl, trivial⟩ rfl ?_
                              refine DW.qY rfl (ok_move (v := V.one (.sc _)) (.inl rfl) rfl) rfl rfl rfl (gle rfl) rfl rfl rfl (gle rfl) (fun _ _ _ _ h => h) ?_
                              refine DW.qY rfl (ok_move (v := V.one (.sc _)) (.inl rfl) rfl) rfl rfl rfl (gle rfl) rfl rfl rfl (gle rfl) (fun _ _ _ _ h => h) ?_
                              refine DW.m' [] rfl (ok_call (ls := [(false, [.sc _])]) rfl rfl ⟨_, _, Tryz.func23, rfl, by decide⟩ (vck_i l (by omega)) ⟨⟨[.sc _], rfl, ⟨rfl, trivial⟩⟩, trivial⟩ rfl (gle rfl)) (fun hr => wantedY hr rfl rfl rfl (gle rfl) rfl rfl) (gle rfl) (gle rfl) (.inl rfl) (fun j hj => by cases hj) ?_
                              refine DW.m' [] rfl (ok_call (ls := [(false, [.sc _])]) rfl rfl ⟨_, _, Tryz.func24, rfl, by decide⟩ (vck_s l (by omega)) ⟨⟨[.sc _], rfl, ⟨rfl, trivial⟩⟩, trivial⟩ rfl (gle rfl)) (fun hr => wantedY hr rfl rfl rfl (gle rfl) rfl rfl) (gle rfl) (gle rfl) (.inl rfl) (fun j hj => by cases hj) ?_
                              refine DW.qY rfl (ok_s2 (x := .tmp 174) (x' := .tmp 176) (VScal.one rfl) (VScal.one rfl) (fun ρ h1 h2 w => by go_simp; (try go_bits); with_reducible rfl) rfl) rfl rfl rfl (gle rfl) rfl rfl rfl (gle rfl) (fun _ _ _ _ h => h) ?_
                              refine DW.q rfl (ok_pickT (v := V.one (.sc _)) rfl rfl rfl) rfl rfl (gle rfl) (fun _ _ _ _ h => h) ?_
                              refine DW.q rfl (ok_move (v := V.one (.sc _)) (.inr rfl) rfl) rfl rfl (gle rfl) (fun _ _ _ _ h => h) ?_
                              refine DW.stores ?_
                              refine SV.zend ?_
                              refine SV.tn ?_
                              refine SV.ret ?_
                              apply SV.done (hf := Tryz.results3) (ht := rfl) (he := .inl rfl)
                              case hr => exact (ResAll.cons (ResOk.tmp (ag := false) (xs := [.sc _]) rfl) ResAll.nil')
                              case h2 => simp [two]
                              refine ⟨rfl, ⟨?_, trivial⟩, trivial⟩ <;> first | rfl | (show some (T.lit (Value.bool _)) = some (T.lit (Value.bool _)); refine congrArg (fun z => some (T.lit (Value.bool z))) ?_; simp)
                            · skip   -- g13.F
                              (exfalso; first | (simp at hg13; done) | (simp [hc3] at hg13; done) | (simp [hc1] at hg13; done) | (simp at hg13; omega))
                          · skip   -- g12.F
                            (exfalso; first | (simp at hg12; done) | (simp [hc3] at hg12; done) | (simp [hc1] at hg12; done) | (simp at hg12; omega))
                        · skip   -- g11.F
                          (exfalso; first | (simp at hg11; done) | (simp [hc3] at hg11; done) | (simp [hc1] at hg11; done) | (simp at hg11; omega))
                    · skip   -- g8.F
                      (exfalso; first | (simp at hg8; done) | (simp [hc3] at hg8; done) | (simp [hc1] at hg8; done) | (simp at hg8; omega))
                  · skip   -- g7.F
                    (exfalso; first | (simp at hg7; done) | (simp [hc3] at hg7; done) | (simp [hc1] at hg7; done) | (simp at hg7; omega))
                · skip   -- g6.F
                  (exfalso; first | (simp at hg6; done) | (simp [hc3] at hg6; done) | (simp [hc1] at hg6; done) | (simp at hg6; omega))
              · skip   -- g5.F
                (exfalso; first | (simp at hg5; done) | (simp [hc3] at hg5; done) | (simp [hc1] at hg5; done) | (simp at hg5; omega))
            · skip   -- g4.F
              (exfalso; first | (simp at hg4; done) | (simp [hc3] at hg4; done) | (simp [hc1] at hg4; done) | (simp at hg4; omega))
          · skip   -- g3.F
            (exfalso; first | (simp at hg3; done) | (simp [hc3] at hg3; done) | (simp [hc1] at hg3; done) | (simp at hg3; omega))
        · skip   -- g2.F
          (exfalso; first | (simp at hg2; done) | (simp [hc3] at hg2; done) | (simp [hc1] at hg2; done) | (simp at hg2; omega))
      · skip   -- g1.F
        (exfalso; first | (simp at hg1; done) | (simp [hc3] at hg1; done) | (simp [hc1] at hg1; done) | (simp at hg1; omega))
    · skip   -- g0.F
      (exfalso; first | (simp at hg0; done) | (simp [hc3] at hg0; done) | (simp [hc1] at hg0; done) | (simp at hg0; omega))
end Go.Proofs.YtjdjceohlcimaaaGreatDoor
