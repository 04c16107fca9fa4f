/- Texts joined: DrawK DrawF1 UnpackS Unpacki UnpackT ReadS VPr ReadI ReadW PurgeM. -/
import Derived.Test.YtjdjceohlcimaaaDoorPartSealedFilesi
/- A disk that is drawn: told by trees. -/
namespace Go.Proofs.YtjdjceohlcimaaaDoor
open Go Go.RowKit V
set_option linter.unusedVariables false
theorem good_nil : goodDisk ⟨[], 0⟩ := ⟨fun f hf => (by cases hf), i64_of (Int.le_refl _) (by show (0:Int) ≤ 1000000000; decide), trivial⟩
theorem wt_nil : wtDisk ⟨[], 0⟩ ≤ 1048576 := by decide
theorem i64_wrap (x : Int) : I64 (wrap64 x) := by unfold I64 wrap64; omega
theorem wt_set_le {F : List FileD} {k : Nat} {f g : FileD} (hk : F[k]? = some f) (h : wtFile g ≤ wtFile f) : wtAll wtFile (F.set k g) ≤ wtAll wtFile F := by
  have hkl := V.get_lt hk
  have he : F[k] = f := by rw [List.getElem?_eq_getElem hkl] at hk; exact Option.some.inj hk
  unfold wtAll
  have e1 : F = F.take k ++ F[k] :: F.drop (k + 1) := by rw [← List.drop_eq_getElem_cons hkl, List.take_append_drop]
  have e2 : F.set k g = F.take k ++ g :: F.drop (k + 1) := by rw [List.set_eq_take_append_cons_drop, if_pos hkl]
  rw [List.length_set]
  have c1 : (F.map wtFile).sum = ((F.take k).map wtFile).sum + (wtFile f + ((F.drop (k + 1)).map wtFile).sum) := by conv => lhs; rw [e1, he, List.map_append, List.sum_append, List.map_cons, List.sum_cons]
  have c2 : ((F.set k g).map wtFile).sum = ((F.take k).map wtFile).sum + (wtFile g + ((F.drop (k + 1)).map wtFile).sum) := by rw [e2, List.map_append, List.sum_append, List.map_cons, List.sum_cons]
  omega
theorem wt_drop1 (P : List (List R)) : wtPages (P.drop 1) ≤ wtPages P := by
  unfold wtPages wtAll
  cases P with
  | nil => exact Nat.le_refl _
  | cons p P => simp only [List.drop_one, List.tail_cons, List.map_cons, List.sum_cons, List.length_cons]; omega
theorem wt_snoc_file {F : List FileD} {j : Nat} (hj : j < F.length) : wtAll wtFile (F ++ [F[j]]) ≤ 2 * wtAll wtFile F := by
  have e1 : F = F.take j ++ F[j] :: F.drop (j + 1) := by rw [← List.drop_eq_getElem_cons hj, List.take_append_drop]
  have c1 : (F.map wtFile).sum = ((F.take j).map wtFile).sum + (wtFile F[j] + ((F.drop (j + 1)).map wtFile).sum) := by conv => lhs; rw [e1, List.map_append, List.sum_append, List.map_cons, List.sum_cons]
  unfold wtAll
  simp only [List.map_append, List.sum_append, List.length_append, List.map_cons, List.map_nil, List.sum_cons, List.sum_nil, List.length_cons, List.length_nil]
  omega
theorem cell_cases {f : FileD} {u : Value} {i : Nat} {t t2 : T} (h3 : ((tFile f).set 1 (.lit u))[i]? = some t) (h4 : (tFile f)[i]? = some t2) : t2 = t ∨ (t = .lit u ∧ t2 = .seq 41 (f.fPages.map tPage)) := by
  by_cases hi : i = 1
  · subst hi
    cases h3
    cases h4
    exact .inr ⟨rfl, rfl⟩
  · rw [List.getElem?_set_ne (fun q => hi q.symm)] at h3
    rw [h3] at h4
    cases h4
    exact .inl rfl
theorem freeze_dup {F : List FileD} {j : Nat} {f : FileD} (hx : F[j]? = some f) {u : Value} : ∀ (k : Nat) (e e2 : List T) (i : Nat) (t t2 : T), ((F.map tFile).set j ((tFile f).set 1 (.lit u)) ++ [(tFile f).set 1 (.lit u)])[k]? = some e → ((F ++ [f]).map tFile)[k]? = some e2 → e[i]? = some t → e2[i]? = some t2 → t2 = t ∨ (t = .lit u ∧ t2 = .seq 41 (f.fPages.map tPage)) := by
  intro k e e2 i t t2 h1 h2 h3 h4
  have hjl := V.get_lt hx
  rw [List.map_append] at h2
  by_cases hk : k < F.length
  · rw [List.getElem?_append_left (by rw [List.length_set, List.length_map]; exact hk)] at h1
    rw [List.getElem?_append_left (by rw [List.length_map]; exact hk)] at h2
    by_cases hkj : k = j
    · subst hkj
      rw [List.getElem?_set_self (by rw [List.length_map]; exact hk)] at h1
      cases h1
      rw [List.getElem?_map, hx] at h2
      cases h2
      exact cell_cases h3 h4
    · rw [List.getElem?_set_ne (fun q => hkj q.symm), h2] at h1
      cases h1
      rw [h3] at h4
      cases h4
      exact .inl rfl
  · rw [List.getElem?_append_right (by rw [List.length_set, List.length_map]; omega), List.length_set, List.length_map] at h1
    rw [List.getElem?_append_right (by rw [List.length_map]; omega), List.length_map] at h2
    have hz : k - F.length = 0 := by have := V.get_lt h1; simp at this; omega
    rw [hz] at h1 h2
    cases h1
    cases h2
    exact cell_cases h3 h4
theorem freeze_tail {F : List FileD} {j : Nat} {f : FileD} (hx : F[j]? = some f) {u : Value} : ∀ (k : Nat) (e e2 : List T) (i : Nat) (t t2 : T), ((F.map tFile).set j ((tFile f).set 1 (.lit u)))[k]? = some e → ((F.set j { f with fPages := f.fPages.drop 1 }).map tFile)[k]? = some e2 → e[i]? = some t → e2[i]? = some t2 → t2 = t ∨ (t = .lit u ∧ t2 = .seq 41 ((f.fPages.map tPage).drop 1)) := by
  intro k e e2 i t t2 h1 h2 h3 h4
  have hjl := V.get_lt hx
  rw [List.map_set] at h2
  by_cases hkj : k = j
  · subst hkj
    rw [List.getElem?_set_self (by rw [List.length_map]; exact hjl)] at h1 h2
    cases h1
    cases h2
    by_cases hi : i = 1
    · subst hi
      cases h3
      cases h4
      exact .inr ⟨rfl, by rw [List.map_drop]⟩
    · rw [List.getElem?_set_ne (fun q => hi q.symm)] at h3
      match i, hi, h3, h4 with
      | 0, _, h3, h4 => cases h3; cases h4; exact .inl rfl
      | 2, _, h3, h4 => cases h3; cases h4; exact .inl rfl
      | 3, _, h3, h4 => cases h3; cases h4; exact .inl rfl
  · rw [List.getElem?_set_ne (fun q => hkj q.symm)] at h1 h2
    rw [h1] at h2
    cases h2
    rw [h3] at h4
    cases h4
    exact .inl rfl
theorem all4 {es : List (List T)} (h : ∀ e ∈ es, e.length = 4) {k : Nat} {e : List T} (hk : es[k]? = some e) : e.length = 4 := h e (V.get_mem hk)
theorem all4_map (F : List FileD) : ∀ e ∈ F.map tFile, e.length = 4 := fun e he => by obtain ⟨x, -, rfl⟩ := List.mem_map.1 he; rfl
theorem all4_set (F : List FileD) (j : Nat) (f : FileD) (u : T) : ∀ e ∈ (F.map tFile).set j ((tFile f).set 1 u), e.length = 4 := fun e he => by
  rcases List.mem_or_eq_of_mem_set he with h | h
  · exact all4_map F e h
  · rw [h]; rfl
theorem all4_dup (F : List FileD) (j : Nat) (f : FileD) (u : T) : ∀ e ∈ (F.map tFile).set j ((tFile f).set 1 u) ++ [(tFile f).set 1 u], e.length = 4 := fun e he => by
  rcases List.mem_append.1 he with h | h
  · exact all4_set F j f u e h
  · rw [List.mem_singleton.1 h]; rfl
theorem pack_good {L : List R} (hL : ∀ r ∈ L, r.wf) {p : List R} (hp : p ∈ R.pack L) : goodPage p := fun r hr => by
  cases ho : okRows L with
  | false => rw [R.pack_bad ho] at hp; cases hp
  | true => exact hL r (by rw [← R.pack_flat ho]; exact List.mem_flatten.2 ⟨p, hp, hr⟩)
set_option maxRecDepth 100000 in
set_option maxHeartbeats 2000000 in
theorem vk_disk {ad : Option Addr} {len cap : Nat} {zs : List Int}  : VKI ad len cap zs (fun X : DiskD => goodDisk X ∧ wtDisk X ≤ 3000000) Tryd.prog 21 [] false (fun X => [(true, tDisk X)]) := by
  refine VKI.enter Tryd.func21 rfl Tryd.ntmps21 (gle rfl) (by simp) fun E c p h0 hE hC hpin hp => ?_
  refine SV.seq' ?_
  refine SV.region ?_
  refine SV.op (OpMk.ok (ok_alloc (kk := 1) (xs := [.nl _, .sc _]) rfl rfl zero_impl_Disk ⟨rfl, ⟨4, by decide, sz_impl_File⟩, rfl, rfl, trivial⟩ rfl (gle rfl))) rfl ?_
  refine SV.nil ?_
  refine SV.tn ?_
  refine SV.seq' ?_
  refine SV.region ?_
  refine SV.op (OpL.ok (nb := 2) (ok_build (zs := [.nl _, .sc _]) (ys := [.nl _, .sc _]) (qs := []) (pl := fun i => ([(0, 1), (1, 1)] : List (Nat × Nat))[i]?) rfl zero_impl_Disk ⟨rfl, ⟨4, by decide, sz_impl_File⟩, rfl, rfl, trivial⟩ trivial bld_impl_Disk rfl) rfl (gle rfl)) rfl ?_
  refine SV.op (OpMk.ok (ok_alloc (kk := 2) (xs := [.nl _, .sc _]) rfl rfl zero_impl_Disk ⟨rfl, ⟨4, by decide, sz_impl_File⟩, rfl, rfl, trivial⟩ rfl (gle rfl))) rfl ?_
  refine SV.op (ok_store_bp (b := 2) (i := 0) (m := 2) (ag := true) (zs := [.nl _, .sc _]) (ys := [.nl _, .sc _]) rfl rfl rfl rfl sz_impl_Disk (fun h => by cases h) rfl (gle rfl) rfl rfl rfl) rfl ?_
  refine SV.nil ?_
  refine SV.tn ?_
  refine SV.seq' ?_
  refine SV.seq' ?_
  refine SV.region ?_
  refine SV.op (OpL.ok (nb := 3) (ok_move (v := V.one (.bp 0 0)) (.inl rfl) rfl) rfl (gle rfl)) rfl ?_
  refine SV.callK (b := 0) hC rfl ⟨_, _, Tryd.func44, rfl, by decide⟩ (vk_below 5 (by decide) (by decide)) rfl ⟨rfl, trivial⟩ rfl hp rfl (gle rfl) (fun _ => wanted0 rfl) ?_
  rintro k0 p1 h1 ⟨hk0, hk1⟩ hp1
  refine SV.op (OpL.ok (nb := 3) (ok_move (v := V.one (.sc _)) (.inr rfl) rfl) rfl (gle rfl)) rfl ?_
  refine SV.nil ?_
  refine SV.tn ?_
  refine SV.block ?_
  refine SV.nlbox (b := 2) (j := 0) (kk := 0) rfl rfl rfl (ys := [.hd 0, .sc _]) rfl ?_
  refine SV.loopF (X := Int × Int × Int × DiskD) (fun (σ : VS) z => ((((((((VS.nil.new (.seq 50 ((z.2.2.2).fFiles.map tFile))).box 72 [σ.bl 0 0, .sc (.int .i64 (z.1)), .sc (.int .i64 (z.2.1))]).box 26 [σ.bl 1 0, σ.bl 1 1]).box 26 [.hd 0, .sc (.int .i64 (z.2.2.2.fNextName))]).put 0 (V.flat false [.bp 0 0])).put 2 (V.flat false [.bp 1 0])).put 3 (V.flat false [.bp 2 0])).put 4 (V.flat false [.sc (.int .i64 (z.2.2.1))]))) (fun z => (0 ≤ z.1 ∧ z.1 ≤ len) ∧ (0 ≤ z.2.2.1 ∧ z.2.2.1 ≤ 5) ∧ goodDisk z.2.2.2 ∧ wtDisk z.2.2.2 ≤ 1048576) (fun z => z.2.2.1.toNat) ?_ ?_
  · skip
    refine SV.again (fun i => [0].getD i 0) (p1, h1, k0, (⟨[], 0⟩ : DiskD)) (⟨hp1, ⟨hk0, by show k0 ≤ 5; omega⟩, good_nil, wt_nil⟩) (pinsC hE rfl) (VS.le.mk' (le_put (le_put (le_put (le_put (le_box (le_box (le_box (le_new le_nil)))) (V.le.keep (ag := false) (xs := [.bp 0 0]) (ys := [.bp 0 0]) rfl rfl ⟨⟨rfl, (gle rfl)⟩, trivial⟩)) (V.le.keep (ag := false) (xs := [.bp 1 0]) (ys := [.bp 1 0]) rfl rfl ⟨⟨rfl, (gle rfl)⟩, trivial⟩)) (V.le.keep (ag := false) (xs := [.bp 2 0]) (ys := [.bp 2 0]) rfl rfl ⟨⟨rfl, (gle rfl)⟩, trivial⟩)) (V.le.keep (ag := false) (xs := [.sc _]) (ys := [.sc _]) rfl rfl ⟨(by first | rfl | (show Leaf.sc _ = Leaf.sc _; refine congrArg Leaf.sc ?_; first | rfl | go_num | (simp [cntAll]; done)) | (simp [cntAll]; done) | (simp; omega)), trivial⟩)) ⟨⟨rfl, ⟨rfl, (by first | rfl | (show Leaf.sc _ = Leaf.sc _; refine congrArg Leaf.sc ?_; first | rfl | go_num | (simp [cntAll]; done)) | (simp [cntAll]; done) | (simp; omega)), (by first | rfl | (show Leaf.sc _ = Leaf.sc _; refine congrArg Leaf.sc ?_; first | rfl | go_num | (simp [cntAll]; done)) | (simp [cntAll]; done) | (simp; omega)), trivial⟩⟩, ⟨⟨rfl, ⟨rfl, rfl, trivial⟩⟩, ⟨⟨rfl, ⟨⟨rfl, (gle rfl), (gle rfl)⟩, (by first | rfl | (show Leaf.sc _ = Leaf.sc _; refine congrArg Leaf.sc ?_; first | rfl | go_num | (simp [cntAll]; done)) | (simp [cntAll]; done) | (simp; omega)), trivial⟩⟩, trivial⟩⟩⟩ ⟨.inr ⟨_, _, rfl, ?ob1_0, (gle rfl)⟩, trivial⟩ (new_ob nil_ob) (fun i j hi hj e => inj_list (l := [0]) (by decide) i j hi hj e))
    case ob1_0 =>
      show some (T.seq _ _) = some (T.seq _ _)
      first | rfl | exact congrArg some (congrArg (T.seq _) (by simp))
  · rintro ⟨p, h, n, D⟩ ⟨hq, hn0, hX, hw⟩
    dsimp only at hq hn0 hX hw
    refine SV.seq' ?_
    refine SV.seq' ?_
    refine SV.region ?_
    refine SV.op (OpL.ok (nb := 3) (ok_move (v := V.one (.sc _)) (.inl rfl) rfl) rfl (gle rfl)) rfl ?_
    refine SV.op (OpL.ok (nb := 3) (ok_s2 (x := .tmp 14) (x' := .const ((Value.int IntKind.i64 0))) (VScal.one rfl) (VScal.one rfl) (fun ρ h1 h2 w => by go_simp; (try go_bits); with_reducible rfl) rfl) rfl (gle rfl)) rfl ?_
    refine SV.nil ?_
    refine SV.tn ?_
    refine SV.cond rfl (fun hc0 => ?_) (fun hc0 => ?_)
    · skip   -- c0.T
      have hn2 : 0 < n := by simpa using hc0
      refine SV.skip ?_
      refine SV.tn ?_
      refine SV.seq' ?_
      refine SV.block ?_
      refine SV.seq' ?_
      refine SV.region ?_
      refine SV.op (OpL.ok (nb := 3) (ok_load_bp (b := 2) (i := 0) (ag := true) (m := 2) (ys := [.hd 0, .sc _]) rfl rfl rfl agg_impl_Disk sz_impl_Disk (fun h => by cases h) rfl rfl (gle rfl)) rfl (gle rfl)) rfl ?_
      refine SV.op (OpMk.ok (ok_call (ls := [(true, [.hd 1, .sc _]), (false, [.sc _]), (false, [.sc _])]) rfl rfl ⟨_, _, Tryd.func7, rfl, by decide⟩ (vcreate_s D hX (by omega)) ⟨⟨[.hd 0, .sc _], rfl, ⟨rfl, rfl, trivial⟩⟩, trivial⟩ rfl (gle rfl))) rfl ?_
      refine SV.op (OpL.ok (nb := 3) (ok_move (v := ⟨true, [(true, [.hd 1, .sc _]), (false, [.sc _]), (false, [.sc _])]⟩) (.inl rfl) rfl) rfl (gle rfl)) rfl ?_
      refine SV.op (OpL.ok (nb := 3) (ok_extract (ag := true) (xs := [.hd 1, .sc _]) rfl rfl rfl) rfl (gle rfl)) rfl ?_
      refine SV.op (OpL.ok (nb := 3) (ok_extract (ag := false) (xs := [.sc _]) rfl rfl rfl) rfl (gle rfl)) rfl ?_
      refine SV.op (OpL.ok (nb := 3) (ok_extract (ag := false) (xs := [.sc _]) rfl rfl rfl) rfl (gle rfl)) rfl ?_
      refine SV.op (OpMk.ok (ok_alloc (kk := 3) (xs := [.nl _, .sc _]) rfl rfl zero_impl_Disk ⟨rfl, ⟨4, by decide, sz_impl_File⟩, rfl, rfl, trivial⟩ rfl (gle rfl))) rfl ?_
      refine SV.op (ok_store_bp (b := 3) (i := 0) (m := 2) (ag := true) (zs := [.hd 1, .sc _]) (ys := [.hd 1, .sc _]) rfl rfl rfl rfl sz_impl_Disk (fun h => by cases h) rfl (gle rfl) rfl rfl rfl) rfl ?_
      refine SV.op (OpL.ok (nb := 4) (ok_move (v := V.one (.sc _)) (.inr rfl) rfl) rfl (gle rfl)) rfl ?_
      refine SV.op (OpL.ok (nb := 4) (ok_move (v := V.one (.sc _)) (.inr rfl) rfl) rfl (gle rfl)) rfl ?_
      refine SV.nil ?_
      refine SV.tn ?_
      refine SV.seq' ?_
      refine SV.region ?_
      refine SV.op (OpL.ok (nb := 4) (ok_load_bp (b := 3) (i := 0) (ag := true) (m := 2) (ys := [.hd 1, .sc _]) rfl rfl rfl agg_impl_Disk sz_impl_Disk (fun h => by cases h) rfl rfl (gle rfl)) rfl (gle rfl)) rfl ?_
      refine SV.op (ok_store_bp (b := 2) (i := 0) (m := 2) (ag := true) (zs := [.hd 1, .sc _]) (ys := [.hd 1, .sc _]) rfl rfl rfl rfl sz_impl_Disk (fun h => by cases h) rfl (gle rfl) rfl rfl rfl) rfl ?_
      refine SV.nil ?_
      refine SV.tn ?_
      refine SV.seq' ?_
      refine SV.region ?_
      refine SV.op (OpL.ok (nb := 4) (ok_move (v := V.one (.bp 0 0)) (.inl rfl) rfl) rfl (gle rfl)) rfl ?_
      refine SV.callK (b := 0) hC rfl ⟨_, _, Tryd.func45, rfl, by decide⟩ (vk_rows 6 (by decide) (by decide)) rfl ⟨rfl, trivial⟩ rfl hq rfl (gle rfl) (fun _ => wanted0 rfl) ?_
      rintro A p2 h2 ⟨hA, hwA⟩ hp2
      have hpl := R.pack_length (L := A)
      have hpk := R.pack_ok (L := A)
      refine SV.op (OpMk.ok (ok_call (ls := [(false, [.hd 3])]) rfl rfl ⟨_, _, Tryd.func12, rfl, by decide⟩ (vpack_s A hwA (by omega)) ⟨⟨[.hd 2], rfl, ⟨rfl, trivial⟩⟩, trivial⟩ rfl (gle rfl))) rfl ?_
      refine SV.op (OpL.ok (nb := 4) (ok_move (v := V.one (.hd 3)) (.inr rfl) rfl) rfl (gle rfl)) rfl ?_
      refine SV.nil ?_
      refine SV.tn ?_
      refine SV.seq' ?_
      refine SV.seq' ?_
      refine SV.region ?_
      refine SV.op (OpL.ok (nb := 4) (ok_move (v := V.one (.sc _)) (.inr rfl) rfl) rfl (gle rfl)) rfl ?_
      refine SV.nil ?_
      refine SV.tn ?_
      refine SV.block ?_
      refine SV.loopF (X := DiskD × Nat) (fun (σ : VS) y => (((((((((((((VS.nil.new (σ.tree 3)).new (.seq 50 ((y.1).fFiles.map tFile))).box 72 [σ.bl 0 0, σ.bl 0 1, σ.bl 0 2]).box 26 [σ.bl 1 0, σ.bl 1 1]).box 26 [.hd 1, .sc (.int .i64 (y.1.fNextName))]).box 26 [.dead, .dead]).put 0 (V.flat false [.bp 0 0])).put 2 (V.flat false [.bp 1 0])).put 3 (V.flat false [.bp 2 0])).put 4 (σ.tm 4)).put 6 (σ.tm 6)).put 8 (V.flat false [.hd 0])).put 9 (V.flat false [.sc (.int .i64 ((y.2 : Int)))]))) (fun y => y.2 ≤ (R.pack A).length ∧ goodDisk y.1 ∧ wtDisk y.1 ≤ 1048576) (fun y => (R.pack A).length - y.2) ?_ ?_
      · skip
        refine SV.again (fun i => [3, 1].getD i 0) ((DiskD.create D).getD D, 0) (⟨Nat.zero_le _, good_create hX, DiskD.wt_create hw⟩) (pinsC hE rfl) (VS.le.mk' (le_put (le_put (le_put (le_put (le_put (le_put (le_put (le_box (le_box (le_box (le_box (le_new (le_new le_nil)))))) (V.le.keep (ag := false) (xs := [.bp 0 0]) (ys := [.bp 0 0]) rfl rfl ⟨⟨rfl, (gle rfl)⟩, trivial⟩)) (V.le.keep (ag := false) (xs := [.bp 1 0]) (ys := [.bp 1 0]) rfl rfl ⟨⟨rfl, (gle rfl)⟩, trivial⟩)) (V.le.keep (ag := false) (xs := [.bp 2 0]) (ys := [.bp 2 0]) rfl rfl ⟨⟨rfl, (gle rfl)⟩, trivial⟩)) (V.le.keep (ag := false) (xs := [.sc _]) (ys := [.sc _]) rfl rfl ⟨rfl, trivial⟩)) (V.le.keep (ag := false) (xs := [.sc _]) (ys := [.sc _]) rfl rfl ⟨rfl, trivial⟩)) (V.le.keep (ag := false) (xs := [.hd 3]) (ys := [.hd 0]) rfl rfl ⟨⟨rfl, (gle rfl), (gle rfl)⟩, trivial⟩)) (V.le.keep (ag := false) (xs := [.sc _]) (ys := [.sc _]) rfl rfl ⟨(by first | rfl | (show Leaf.sc _ = Leaf.sc _; refine congrArg Leaf.sc ?_; first | rfl | go_num | (simp [cntAll]; done)) | (simp [cntAll]; done) | (simp; omega)), trivial⟩)) ⟨⟨rfl, ⟨rfl, rfl, rfl, trivial⟩⟩, ⟨⟨rfl, ⟨rfl, rfl, trivial⟩⟩, ⟨⟨rfl, ⟨⟨rfl, (gle rfl), (gle rfl)⟩, (by first | rfl | (show Leaf.sc _ = Leaf.sc _; refine congrArg Leaf.sc ?_; first | rfl | go_num | (simp [cntAll]; done)) | (simp [cntAll]; done) | (simp; omega)), trivial⟩⟩, ⟨⟨rfl, ⟨trivial, trivial, trivial⟩⟩, trivial⟩⟩⟩⟩ ⟨.inr ⟨_, _, rfl, ?ob2_1, (gle rfl)⟩, ⟨.inr ⟨_, _, rfl, rfl, (gle rfl)⟩, trivial⟩⟩ (new_ob (new_ob nil_ob)) (fun i j hi hj e => inj_list (l := [3, 1]) (by decide) i j hi hj e))
        case ob2_1 =>
          show some (T.seq _ _) = some (T.seq _ _)
          first | rfl | exact congrArg some (congrArg (T.seq _) (by simp))
      · rintro ⟨Y, t⟩ ⟨ht, hY, hwY⟩
        dsimp only at ht hY hwY
        refine SV.seq' ?_
        refine SV.seq' ?_
        refine SV.region ?_
        refine SV.op (OpL.ok (nb := 4) (ok_move (v := V.one (.sc _)) (.inl rfl) rfl) rfl (gle rfl)) rfl ?_
        refine SV.op (OpL.ok (nb := 4) (ok_move (v := V.one (.hd 0)) (.inl rfl) rfl) rfl (gle rfl)) rfl ?_
        refine SV.op (OpL.ok (nb := 4) (ok_len (lf := .hd 0) rfl elt_impl_Page.und rfl rfl) rfl (gle rfl)) rfl ?_
        refine SV.op (OpL.ok (nb := 4) (ok_s2 (x := .tmp 28) (x' := .tmp 30) (VScal.one rfl) (VScal.one rfl) (fun ρ h1 h2 w => by go_simp; (try go_bits); with_reducible rfl) rfl) rfl (gle rfl)) rfl ?_
        refine SV.nil ?_
        refine SV.tn ?_
        refine SV.cond rfl (fun hc1 => ?_) (fun hc1 => ?_)
        · skip   -- c1.T
          have htl : t < (R.pack A).length := by simpa using hc1
          have hx : (R.pack A)[t]? = some (R.pack A)[t] := by simp [htl]
          have hgp : goodPage (R.pack A)[t] := pack_good hwA (get_mem hx)
          have hwp : wtPage (R.pack A)[t] ≤ 1000000000 := by have h1 := DiskD.ok_page_len (hpk _ (get_mem hx)).1; show (R.pack A)[t].length ≤ _; omega
          refine SV.skip ?_
          refine SV.tn ?_
          refine SV.seq' ?_
          refine SV.block ?_
          refine SV.drawC [2] [.q 1, .q 2, .q 3, .q 4, .q 5, .m 0, .m 6, .q 7, .q 8, .q 9, .m 10] [] (by kernel_rfl) (by kernel_rfl) ?_
          refine DC.q rfl (ok_move (v := V.one (.sc _)) (.inl rfl) rfl) rfl rfl (gle rfl) (fun _ _ _ _ h => h) ?_
          refine DC.q rfl (ok_move (v := V.one (.hd 0)) (.inl rfl) rfl) rfl rfl (gle rfl) (fun _ _ _ _ h => h) ?_
          refine DC.q rfl (ok_move (v := V.one (.sc _)) (.inl rfl) rfl) rfl rfl (gle rfl) (fun _ _ _ _ h => h) ?_
          refine DC.q rfl (ok_index (n := 1) (lf := .hd 0) rfl elt_impl_Page.und sz_impl_Page rfl rfl rfl (map_at hx)) rfl rfl (gle rfl) (fun _ _ _ _ h => h) ?_
          refine DC.el (ag := true) (m := 1) (ys := [.nd 0 _ _ (some _)]) rfl rfl rfl ⟨(gle rfl), rfl⟩ (cells_ep rfl (map_at hx) rfl rfl) agg_impl_Page sz_impl_Page (fun h => by cases h) (gle rfl) rfl rfl rfl (gle rfl) (fun _ _ _ _ h => h) ?_
          refine DC.m rfl (OpL.mk (nb := 4) (ok_load_bp (b := 2) (i := 0) (ag := true) (m := 2) (ys := [.hd 1, .sc _]) rfl rfl rfl agg_impl_Disk sz_impl_Disk (fun h => by cases h) rfl rfl (gle rfl)) rfl (gle rfl)) rfl rfl (gle rfl) ?_
          refine DC.m rfl (ok_call (ls := [(true, [.hd 2, .sc _]), (false, [.sc _])]) rfl rfl ⟨_, _, Tryd.func46, rfl, by decide⟩ (vappend_s Y (if (DiskD.create D).isSome then D.fNextName else 0) (R.pack A)[t] hY hgp (by omega) hwp) ⟨⟨[.hd 1, .sc _], rfl, ⟨rfl, rfl, trivial⟩⟩, ⟨[.sc _], rfl, ⟨rfl, trivial⟩⟩, ⟨[.nd 0 _ _ (some _)], rfl, ⟨rfl, trivial⟩⟩, trivial⟩ rfl (gle rfl)) rfl rfl (gle rfl) ?_
          refine DC.q rfl (ok_move (v := ⟨true, [(true, [.hd 2, .sc _]), (false, [.sc _])]⟩) (.inl rfl) rfl) rfl rfl (gle rfl) (fun _ _ _ _ h => h) ?_
          refine DC.q rfl (ok_extract (ag := true) (xs := [.hd 2, .sc _]) rfl rfl rfl) rfl rfl (gle rfl) (fun _ _ _ _ h => h) ?_
          refine DC.q rfl (ok_extract (ag := false) (xs := [.sc _]) rfl rfl rfl) rfl rfl (gle rfl) (fun _ _ _ _ h => h) ?_
          refine DC.store (b := 2) (i' := 0) (m := 2) (ag := true) (zs1 := [.hd 2, .sc _]) (ys := [.hd 2, .sc _]) rfl rfl rfl rfl sz_impl_Disk (fun h => by cases h) rfl (gle rfl) rfl rfl rfl rfl (by decide) (gle rfl) rfl ?_
          refine DC.stores ?_
          refine SV.zend ?_
          refine SV.bn ?_
          refine SV.tn ?_
          refine SV.region ?_
          refine SV.op (OpL.ok (nb := 4) (ok_move (v := V.one (.sc _)) (.inl rfl) rfl) rfl (gle rfl)) rfl ?_
          refine SV.op (OpL.ok (nb := 4) (ok_s2 (x := .tmp 32) (x' := .const ((Value.int IntKind.i64 1))) (VScal.one rfl) (VScal.one rfl) (fun ρ h1 h2 w => by go_simp; (try go_bits); with_reducible rfl) rfl) rfl (gle rfl)) rfl ?_
          refine SV.op (OpL.ok (nb := 4) (ok_move (v := V.one (.sc _)) (.inr rfl) rfl) rfl (gle rfl)) rfl ?_
          refine SV.nil ?_
          refine SV.tn ?_
          refine SV.again (fun i => [0, 2].getD i 0) (((DiskD.appendTo Y (if (DiskD.create D).isSome then D.fNextName else 0) (R.pack A)[t]).getD Y, t + 1)) (⟨⟨(by show t + 1 ≤ (R.pack A).length; omega), good_append hY hgp, DiskD.wt_appendTo hwY⟩, (by show (R.pack A).length - (t + 1) < (R.pack A).length - t; omega)⟩) (pinsC hE rfl) (VS.le.mk' (le_put (le_put (le_put (le_put (le_put (le_put (le_put (le_box (le_box (le_box (le_box (le_new (le_new le_nil)))))) (V.le.keep (ag := false) (xs := [.bp 0 0]) (ys := [.bp 0 0]) rfl rfl ⟨⟨rfl, (gle rfl)⟩, trivial⟩)) (V.le.keep (ag := false) (xs := [.bp 1 0]) (ys := [.bp 1 0]) rfl rfl ⟨⟨rfl, (gle rfl)⟩, trivial⟩)) (V.le.keep (ag := false) (xs := [.bp 2 0]) (ys := [.bp 2 0]) rfl rfl ⟨⟨rfl, (gle rfl)⟩, trivial⟩)) (V.le.keep (ag := false) (xs := [.sc _]) (ys := [.sc _]) rfl rfl ⟨rfl, trivial⟩)) (V.le.keep (ag := false) (xs := [.sc _]) (ys := [.sc _]) rfl rfl ⟨rfl, trivial⟩)) (V.le.keep (ag := false) (xs := [.hd 0]) (ys := [.hd 0]) rfl rfl ⟨⟨rfl, (gle rfl), (gle rfl)⟩, trivial⟩)) (V.le.keep (ag := false) (xs := [.sc _]) (ys := [.sc _]) rfl rfl ⟨(by first | rfl | (show Leaf.sc _ = Leaf.sc _; refine congrArg Leaf.sc ?_; first | rfl | go_num | (simp [cntAll]; done)) | (simp [cntAll]; done) | (simp; omega)), trivial⟩)) ⟨⟨rfl, ⟨rfl, rfl, rfl, trivial⟩⟩, ⟨⟨rfl, ⟨rfl, rfl, trivial⟩⟩, ⟨⟨rfl, ⟨⟨rfl, (gle rfl), (gle rfl)⟩, (by first | rfl | (show Leaf.sc _ = Leaf.sc _; refine congrArg Leaf.sc ?_; first | rfl | go_num | (simp [cntAll]; done)) | (simp [cntAll]; done) | (simp; omega)), trivial⟩⟩, ⟨⟨rfl, ⟨trivial, trivial, trivial⟩⟩, trivial⟩⟩⟩⟩ ⟨.inr ⟨_, _, rfl, ?ob3_1, (gle rfl)⟩, ⟨.inr ⟨_, _, rfl, rfl, (gle rfl)⟩, trivial⟩⟩ (new_ob (new_ob nil_ob)) (fun i j hi hj e => inj_list (l := [0, 2]) (by decide) i j hi hj e))
          case ob3_1 =>
            show some (T.seq _ _) = some (T.seq _ _)
            rfl
        · skip   -- c1.F
          refine SV.exit ?_
          refine SV.te ?_
          refine SV.te ?_
          refine SV.bh ?_
          refine SV.tn ?_
          refine SV.seq' ?_
          refine SV.seq' ?_
          refine SV.region ?_
          refine SV.op (OpL.ok (nb := 4) (ok_move (v := V.one (.bp 0 0)) (.inl rfl) rfl) rfl (gle rfl)) rfl ?_
          refine SV.callK (b := 0) hC rfl ⟨_, _, Tryd.func47, rfl, by decide⟩ (vk_once 4 (by decide) (by decide)) rfl ⟨rfl, trivial⟩ rfl hp2 rfl (gle rfl) (fun _ => wanted0 rfl) ?_
          rintro o45 p3 h3 - hp3
          refine SV.op (OpL.ok (nb := 4) (ok_s1 (x := .tmp 45) (VScal.one rfl) (fun ρ h1 w => by go_simp; (try go_bits); with_reducible rfl) rfl) rfl (gle rfl)) rfl ?_
          refine SV.nil ?_
          refine SV.tn ?_
          refine SV.cond rfl (fun hc2 => ?_) (fun hc2 => ?_)
          · skip   -- c2.T
            refine SV.region ?_
            refine SV.op (OpL.ok (nb := 4) (ok_load_bp (b := 2) (i := 0) (ag := true) (m := 2) (ys := [.hd 1, .sc _]) rfl rfl rfl agg_impl_Disk sz_impl_Disk (fun h => by cases h) rfl rfl (gle rfl)) rfl (gle rfl)) rfl ?_
            refine SV.op (OpL.ok (nb := 4) (ok_move (v := V.one (.sc _)) (.inl rfl) rfl) rfl (gle rfl)) rfl ?_
            refine SV.op (OpMk.ok (ok_call (ls := [(true, [.hd 2, .sc _]), (false, [.sc _])]) rfl rfl ⟨_, _, Tryd.func48, rfl, by decide⟩ (vseal_s Y (if (DiskD.create D).isSome then D.fNextName else 0) hY (by omega)) ⟨⟨[.hd 1, .sc _], rfl, ⟨rfl, rfl, trivial⟩⟩, ⟨[.sc _], rfl, ⟨rfl, trivial⟩⟩, trivial⟩ rfl (gle rfl))) rfl ?_
            refine SV.op (OpL.ok (nb := 4) (ok_move (v := ⟨true, [(true, [.hd 2, .sc _]), (false, [.sc _])]⟩) (.inl rfl) rfl) rfl (gle rfl)) rfl ?_
            refine SV.op (OpL.ok (nb := 4) (ok_extract (ag := true) (xs := [.hd 2, .sc _]) rfl rfl rfl) rfl (gle rfl)) rfl ?_
            refine SV.op (OpL.ok (nb := 4) (ok_extract (ag := false) (xs := [.sc _]) rfl rfl rfl) rfl (gle rfl)) rfl ?_
            refine SV.op (ok_store_bp (b := 2) (i := 0) (m := 2) (ag := true) (zs := [.hd 2, .sc _]) (ys := [.hd 2, .sc _]) rfl rfl rfl rfl sz_impl_Disk (fun h => by cases h) rfl (gle rfl) rfl rfl rfl) rfl ?_
            refine SV.nil ?_
            refine SV.tn ?_
            refine SV.seq' ?_
            refine SV.region ?_
            refine SV.op (OpL.ok (nb := 4) (ok_move (v := V.one (.bp 0 0)) (.inl rfl) rfl) rfl (gle rfl)) rfl ?_
            refine SV.callK (b := 0) hC rfl ⟨_, _, Tryd.func47, rfl, by decide⟩ (vk_once 6 (by decide) (by decide)) rfl ⟨rfl, trivial⟩ rfl hp3 rfl (gle rfl) (fun _ => wanted0 rfl) ?_
            rintro o54 p4 h4 - hp4
            refine SV.nil ?_
            refine SV.tn ?_
            refine SV.cond rfl (fun hc3 => ?_) (fun hc3 => ?_)
            · skip   -- c3.T
              refine SV.region ?_
              refine SV.op (OpL.ok (nb := 4) (ok_load_bp (b := 2) (i := 0) (ag := true) (m := 2) (ys := [.hd 2, .sc _]) rfl rfl rfl agg_impl_Disk sz_impl_Disk (fun h => by cases h) rfl rfl (gle rfl)) rfl (gle rfl)) rfl ?_
              refine SV.op (OpL.ok (nb := 4) (ok_move (v := V.one (.sc _)) (.inl rfl) rfl) rfl (gle rfl)) rfl ?_
              refine SV.op (OpMk.ok (ok_call (ls := [(true, [.hd 3, .sc _]), (false, [.sc _])]) rfl rfl ⟨_, _, Tryd.func49, rfl, by decide⟩ (vdelete_s ((DiskD.sealF Y (if (DiskD.create D).isSome then D.fNextName else 0)).getD Y) (if (DiskD.create D).isSome then D.fNextName else 0) (good_seal hY) (Nat.le_trans (DiskD.wt_sealF hwY) (by decide))) ⟨⟨[.hd 2, .sc _], rfl, ⟨rfl, rfl, trivial⟩⟩, ⟨[.sc _], rfl, ⟨rfl, trivial⟩⟩, trivial⟩ rfl (gle rfl))) rfl ?_
              refine SV.op (OpL.ok (nb := 4) (ok_move (v := ⟨true, [(true, [.hd 3, .sc _]), (false, [.sc _])]⟩) (.inl rfl) rfl) rfl (gle rfl)) rfl ?_
              refine SV.op (OpL.ok (nb := 4) (ok_extract (ag := true) (xs := [.hd 3, .sc _]) rfl rfl rfl) rfl (gle rfl)) rfl ?_
              refine SV.op (OpL.ok (nb := 4) (ok_extract (ag := false) (xs := [.sc _]) rfl rfl rfl) rfl (gle rfl)) rfl ?_
              refine SV.op (ok_store_bp (b := 2) (i := 0) (m := 2) (ag := true) (zs := [.hd 3, .sc _]) (ys := [.hd 3, .sc _]) rfl rfl rfl rfl sz_impl_Disk (fun h => by cases h) rfl (gle rfl) rfl rfl rfl) rfl ?_
              refine SV.nil ?_
              refine SV.bn ?_
              refine SV.tn ?_
              refine SV.region ?_
              refine SV.op (OpL.ok (nb := 4) (ok_move (v := V.one (.sc _)) (.inl rfl) rfl) rfl (gle rfl)) rfl ?_
              refine SV.op (OpL.ok (nb := 4) (ok_s2 (x := .tmp 16) (x' := .const ((Value.int IntKind.i64 1))) (VScal.one rfl) (VScal.one rfl) (fun ρ h1 h2 w => by go_simp; (try go_bits); with_reducible rfl) rfl) rfl (gle rfl)) rfl ?_
              refine SV.op (OpL.ok (nb := 4) (ok_move (v := V.one (.sc _)) (.inr rfl) rfl) rfl (gle rfl)) rfl ?_
              refine SV.nil ?_
              refine SV.tn ?_
              refine SV.again (fun i => [3].getD i 0) ((p4, h4, n - 1, ((DiskD.delete ((DiskD.sealF Y (if (DiskD.create D).isSome then D.fNextName else 0)).getD Y) (if (DiskD.create D).isSome then D.fNextName else 0)).getD ((DiskD.sealF Y (if (DiskD.create D).isSome then D.fNextName else 0)).getD Y)))) (⟨⟨hp4, ⟨(by show (0 : Int) ≤ n - 1; omega), (by show n - 1 ≤ 5; omega)⟩, (good_delete (good_seal hY)), (DiskD.wt_delete (DiskD.wt_sealF hwY))⟩, (by show (n - 1).toNat < n.toNat; omega)⟩) (pinsC hE rfl) (VS.le.mk' (le_put (le_put (le_put (le_put (le_box (le_box (le_box (le_new le_nil)))) (V.le.keep (ag := false) (xs := [.bp 0 0]) (ys := [.bp 0 0]) rfl rfl ⟨⟨rfl, (gle rfl)⟩, trivial⟩)) (V.le.keep (ag := false) (xs := [.bp 1 0]) (ys := [.bp 1 0]) rfl rfl ⟨⟨rfl, (gle rfl)⟩, trivial⟩)) (V.le.keep (ag := false) (xs := [.bp 2 0]) (ys := [.bp 2 0]) rfl rfl ⟨⟨rfl, (gle rfl)⟩, trivial⟩)) (V.le.keep (ag := false) (xs := [.sc _]) (ys := [.sc _]) rfl rfl ⟨(by first | rfl | (show Leaf.sc _ = Leaf.sc _; refine congrArg Leaf.sc ?_; first | rfl | go_num | (simp [cntAll]; done)) | (simp [cntAll]; done) | (simp; omega)), trivial⟩)) ⟨⟨rfl, ⟨rfl, (by first | rfl | (show Leaf.sc _ = Leaf.sc _; refine congrArg Leaf.sc ?_; first | rfl | go_num | (simp [cntAll]; done)) | (simp [cntAll]; done) | (simp; omega)), (by first | rfl | (show Leaf.sc _ = Leaf.sc _; refine congrArg Leaf.sc ?_; first | rfl | go_num | (simp [cntAll]; done)) | (simp [cntAll]; done) | (simp; omega)), trivial⟩⟩, ⟨⟨rfl, ⟨rfl, rfl, trivial⟩⟩, ⟨⟨rfl, ⟨⟨rfl, (gle rfl), (gle rfl)⟩, (by first | rfl | (show Leaf.sc _ = Leaf.sc _; refine congrArg Leaf.sc ?_; first | rfl | go_num | (simp [cntAll]; done)) | (simp [cntAll]; done) | (simp; omega)), trivial⟩⟩, trivial⟩⟩⟩ ⟨.inr ⟨_, _, rfl, ?ob4_0, (gle rfl)⟩, trivial⟩ (new_ob nil_ob) (fun i j hi hj e => inj_list (l := [3]) (by decide) i j hi hj e))
              case ob4_0 =>
                show some (T.seq _ _) = some (T.seq _ _)
                rfl
            · skip   -- c3.F
              refine SV.skip ?_
              refine SV.bn ?_
              refine SV.tn ?_
              refine SV.region ?_
              refine SV.op (OpL.ok (nb := 4) (ok_move (v := V.one (.sc _)) (.inl rfl) rfl) rfl (gle rfl)) rfl ?_
              refine SV.op (OpL.ok (nb := 4) (ok_s2 (x := .tmp 16) (x' := .const ((Value.int IntKind.i64 1))) (VScal.one rfl) (VScal.one rfl) (fun ρ h1 h2 w => by go_simp; (try go_bits); with_reducible rfl) rfl) rfl (gle rfl)) rfl ?_
              refine SV.op (OpL.ok (nb := 4) (ok_move (v := V.one (.sc _)) (.inr rfl) rfl) rfl (gle rfl)) rfl ?_
              refine SV.nil ?_
              refine SV.tn ?_
              refine SV.again (fun i => [2].getD i 0) ((p4, h4, n - 1, ((DiskD.sealF Y (if (DiskD.create D).isSome then D.fNextName else 0)).getD Y))) (⟨⟨hp4, ⟨(by show (0 : Int) ≤ n - 1; omega), (by show n - 1 ≤ 5; omega)⟩, (good_seal hY), (DiskD.wt_sealF hwY)⟩, (by show (n - 1).toNat < n.toNat; omega)⟩) (pinsC hE rfl) (VS.le.mk' (le_put (le_put (le_put (le_put (le_box (le_box (le_box (le_new le_nil)))) (V.le.keep (ag := false) (xs := [.bp 0 0]) (ys := [.bp 0 0]) rfl rfl ⟨⟨rfl, (gle rfl)⟩, trivial⟩)) (V.le.keep (ag := false) (xs := [.bp 1 0]) (ys := [.bp 1 0]) rfl rfl ⟨⟨rfl, (gle rfl)⟩, trivial⟩)) (V.le.keep (ag := false) (xs := [.bp 2 0]) (ys := [.bp 2 0]) rfl rfl ⟨⟨rfl, (gle rfl)⟩, trivial⟩)) (V.le.keep (ag := false) (xs := [.sc _]) (ys := [.sc _]) rfl rfl ⟨(by first | rfl | (show Leaf.sc _ = Leaf.sc _; refine congrArg Leaf.sc ?_; first | rfl | go_num | (simp [cntAll]; done)) | (simp [cntAll]; done) | (simp; omega)), trivial⟩)) ⟨⟨rfl, ⟨rfl, (by first | rfl | (show Leaf.sc _ = Leaf.sc _; refine congrArg Leaf.sc ?_; first | rfl | go_num | (simp [cntAll]; done)) | (simp [cntAll]; done) | (simp; omega)), (by first | rfl | (show Leaf.sc _ = Leaf.sc _; refine congrArg Leaf.sc ?_; first | rfl | go_num | (simp [cntAll]; done)) | (simp [cntAll]; done) | (simp; omega)), trivial⟩⟩, ⟨⟨rfl, ⟨rfl, rfl, trivial⟩⟩, ⟨⟨rfl, ⟨⟨rfl, (gle rfl), (gle rfl)⟩, (by first | rfl | (show Leaf.sc _ = Leaf.sc _; refine congrArg Leaf.sc ?_; first | rfl | go_num | (simp [cntAll]; done)) | (simp [cntAll]; done) | (simp; omega)), trivial⟩⟩, trivial⟩⟩⟩ ⟨.inr ⟨_, _, rfl, ?ob5_0, (gle rfl)⟩, trivial⟩ (new_ob nil_ob) (fun i j hi hj e => inj_list (l := [2]) (by decide) i j hi hj e))
              case ob5_0 =>
                show some (T.seq _ _) = some (T.seq _ _)
                rfl
          · skip   -- c2.F
            refine SV.skip ?_
            refine SV.tn ?_
            refine SV.seq' ?_
            refine SV.region ?_
            refine SV.op (OpL.ok (nb := 4) (ok_move (v := V.one (.bp 0 0)) (.inl rfl) rfl) rfl (gle rfl)) rfl ?_
            refine SV.callK (b := 0) hC rfl ⟨_, _, Tryd.func47, rfl, by decide⟩ (vk_once 6 (by decide) (by decide)) rfl ⟨rfl, trivial⟩ rfl hp3 rfl (gle rfl) (fun _ => wanted0 rfl) ?_
            rintro o54 p5 h5 - hp5
            refine SV.nil ?_
            refine SV.tn ?_
            refine SV.cond rfl (fun hc4 => ?_) (fun hc4 => ?_)
            · skip   -- c4.T
              refine SV.region ?_
              refine SV.op (OpL.ok (nb := 4) (ok_load_bp (b := 2) (i := 0) (ag := true) (m := 2) (ys := [.hd 1, .sc _]) rfl rfl rfl agg_impl_Disk sz_impl_Disk (fun h => by cases h) rfl rfl (gle rfl)) rfl (gle rfl)) rfl ?_
              refine SV.op (OpL.ok (nb := 4) (ok_move (v := V.one (.sc _)) (.inl rfl) rfl) rfl (gle rfl)) rfl ?_
              refine SV.op (OpMk.ok (ok_call (ls := [(true, [.hd 2, .sc _]), (false, [.sc _])]) rfl rfl ⟨_, _, Tryd.func49, rfl, by decide⟩ (vdelete_s Y (if (DiskD.create D).isSome then D.fNextName else 0) hY (Nat.le_trans hwY (by decide))) ⟨⟨[.hd 1, .sc _], rfl, ⟨rfl, rfl, trivial⟩⟩, ⟨[.sc _], rfl, ⟨rfl, trivial⟩⟩, trivial⟩ rfl (gle rfl))) rfl ?_
              refine SV.op (OpL.ok (nb := 4) (ok_move (v := ⟨true, [(true, [.hd 2, .sc _]), (false, [.sc _])]⟩) (.inl rfl) rfl) rfl (gle rfl)) rfl ?_
              refine SV.op (OpL.ok (nb := 4) (ok_extract (ag := true) (xs := [.hd 2, .sc _]) rfl rfl rfl) rfl (gle rfl)) rfl ?_
              refine SV.op (OpL.ok (nb := 4) (ok_extract (ag := false) (xs := [.sc _]) rfl rfl rfl) rfl (gle rfl)) rfl ?_
              refine SV.op (ok_store_bp (b := 2) (i := 0) (m := 2) (ag := true) (zs := [.hd 2, .sc _]) (ys := [.hd 2, .sc _]) rfl rfl rfl rfl sz_impl_Disk (fun h => by cases h) rfl (gle rfl) rfl rfl rfl) rfl ?_
              refine SV.nil ?_
              refine SV.bn ?_
              refine SV.tn ?_
              refine SV.region ?_
              refine SV.op (OpL.ok (nb := 4) (ok_move (v := V.one (.sc _)) (.inl rfl) rfl) rfl (gle rfl)) rfl ?_
              refine SV.op (OpL.ok (nb := 4) (ok_s2 (x := .tmp 16) (x' := .const ((Value.int IntKind.i64 1))) (VScal.one rfl) (VScal.one rfl) (fun ρ h1 h2 w => by go_simp; (try go_bits); with_reducible rfl) rfl) rfl (gle rfl)) rfl ?_
              refine SV.op (OpL.ok (nb := 4) (ok_move (v := V.one (.sc _)) (.inr rfl) rfl) rfl (gle rfl)) rfl ?_
              refine SV.nil ?_
              refine SV.tn ?_
              refine SV.again (fun i => [2].getD i 0) ((p5, h5, n - 1, ((DiskD.delete Y (if (DiskD.create D).isSome then D.fNextName else 0)).getD Y))) (⟨⟨hp5, ⟨(by show (0 : Int) ≤ n - 1; omega), (by show n - 1 ≤ 5; omega)⟩, (good_delete hY), (DiskD.wt_delete hwY)⟩, (by show (n - 1).toNat < n.toNat; omega)⟩) (pinsC hE rfl) (VS.le.mk' (le_put (le_put (le_put (le_put (le_box (le_box (le_box (le_new le_nil)))) (V.le.keep (ag := false) (xs := [.bp 0 0]) (ys := [.bp 0 0]) rfl rfl ⟨⟨rfl, (gle rfl)⟩, trivial⟩)) (V.le.keep (ag := false) (xs := [.bp 1 0]) (ys := [.bp 1 0]) rfl rfl ⟨⟨rfl, (gle rfl)⟩, trivial⟩)) (V.le.keep (ag := false) (xs := [.bp 2 0]) (ys := [.bp 2 0]) rfl rfl ⟨⟨rfl, (gle rfl)⟩, trivial⟩)) (V.le.keep (ag := false) (xs := [.sc _]) (ys := [.sc _]) rfl rfl ⟨(by first | rfl | (show Leaf.sc _ = Leaf.sc _; refine congrArg Leaf.sc ?_; first | rfl | go_num | (simp [cntAll]; done)) | (simp [cntAll]; done) | (simp; omega)), trivial⟩)) ⟨⟨rfl, ⟨rfl, (by first | rfl | (show Leaf.sc _ = Leaf.sc _; refine congrArg Leaf.sc ?_; first | rfl | go_num | (simp [cntAll]; done)) | (simp [cntAll]; done) | (simp; omega)), (by first | rfl | (show Leaf.sc _ = Leaf.sc _; refine congrArg Leaf.sc ?_; first | rfl | go_num | (simp [cntAll]; done)) | (simp [cntAll]; done) | (simp; omega)), trivial⟩⟩, ⟨⟨rfl, ⟨rfl, rfl, trivial⟩⟩, ⟨⟨rfl, ⟨⟨rfl, (gle rfl), (gle rfl)⟩, (by first | rfl | (show Leaf.sc _ = Leaf.sc _; refine congrArg Leaf.sc ?_; first | rfl | go_num | (simp [cntAll]; done)) | (simp [cntAll]; done) | (simp; omega)), trivial⟩⟩, trivial⟩⟩⟩ ⟨.inr ⟨_, _, rfl, ?ob6_0, (gle rfl)⟩, trivial⟩ (new_ob nil_ob) (fun i j hi hj e => inj_list (l := [2]) (by decide) i j hi hj e))
              case ob6_0 =>
                show some (T.seq _ _) = some (T.seq _ _)
                rfl
            · skip   -- c4.F
              refine SV.skip ?_
              refine SV.bn ?_
              refine SV.tn ?_
              refine SV.region ?_
              refine SV.op (OpL.ok (nb := 4) (ok_move (v := V.one (.sc _)) (.inl rfl) rfl) rfl (gle rfl)) rfl ?_
              refine SV.op (OpL.ok (nb := 4) (ok_s2 (x := .tmp 16) (x' := .const ((Value.int IntKind.i64 1))) (VScal.one rfl) (VScal.one rfl) (fun ρ h1 h2 w => by go_simp; (try go_bits); with_reducible rfl) rfl) rfl (gle rfl)) rfl ?_
              refine SV.op (OpL.ok (nb := 4) (ok_move (v := V.one (.sc _)) (.inr rfl) rfl) rfl (gle rfl)) rfl ?_
              refine SV.nil ?_
              refine SV.tn ?_
              refine SV.again (fun i => [1].getD i 0) ((p5, h5, n - 1, Y)) (⟨⟨hp5, ⟨(by show (0 : Int) ≤ n - 1; omega), (by show n - 1 ≤ 5; omega)⟩, hY, hwY⟩, (by show (n - 1).toNat < n.toNat; omega)⟩) (pinsC hE rfl) (VS.le.mk' (le_put (le_put (le_put (le_put (le_box (le_box (le_box (le_new le_nil)))) (V.le.keep (ag := false) (xs := [.bp 0 0]) (ys := [.bp 0 0]) rfl rfl ⟨⟨rfl, (gle rfl)⟩, trivial⟩)) (V.le.keep (ag := false) (xs := [.bp 1 0]) (ys := [.bp 1 0]) rfl rfl ⟨⟨rfl, (gle rfl)⟩, trivial⟩)) (V.le.keep (ag := false) (xs := [.bp 2 0]) (ys := [.bp 2 0]) rfl rfl ⟨⟨rfl, (gle rfl)⟩, trivial⟩)) (V.le.keep (ag := false) (xs := [.sc _]) (ys := [.sc _]) rfl rfl ⟨(by first | rfl | (show Leaf.sc _ = Leaf.sc _; refine congrArg Leaf.sc ?_; first | rfl | go_num | (simp [cntAll]; done)) | (simp [cntAll]; done) | (simp; omega)), trivial⟩)) ⟨⟨rfl, ⟨rfl, (by first | rfl | (show Leaf.sc _ = Leaf.sc _; refine congrArg Leaf.sc ?_; first | rfl | go_num | (simp [cntAll]; done)) | (simp [cntAll]; done) | (simp; omega)), (by first | rfl | (show Leaf.sc _ = Leaf.sc _; refine congrArg Leaf.sc ?_; first | rfl | go_num | (simp [cntAll]; done)) | (simp [cntAll]; done) | (simp; omega)), trivial⟩⟩, ⟨⟨rfl, ⟨rfl, rfl, trivial⟩⟩, ⟨⟨rfl, ⟨⟨rfl, (gle rfl), (gle rfl)⟩, (by first | rfl | (show Leaf.sc _ = Leaf.sc _; refine congrArg Leaf.sc ?_; first | rfl | go_num | (simp [cntAll]; done)) | (simp [cntAll]; done) | (simp; omega)), trivial⟩⟩, trivial⟩⟩⟩ ⟨.inr ⟨_, _, rfl, ?ob7_0, (gle rfl)⟩, trivial⟩ (new_ob nil_ob) (fun i j hi hj e => inj_list (l := [1]) (by decide) i j hi hj e))
              case ob7_0 =>
                show some (T.seq _ _) = some (T.seq _ _)
                rfl
    · skip   -- c0.F
      have hlD : D.fFiles.length ≤ 1048576 := Nat.le_trans (wt_file_len D.fFiles) hw
      refine SV.exit ?_
      refine SV.te ?_
      refine SV.te ?_
      refine SV.bh ?_
      refine SV.tn ?_
      refine SV.seq' ?_
      refine SV.seq' ?_
      refine SV.region ?_
      refine SV.op (OpL.ok (nb := 3) (ok_field_bp (b := 2) (o' := 0) (off := 0) rfl rfl fld_impl_Disk_0) rfl (gle rfl)) rfl ?_
      refine SV.op (OpL.ok (nb := 3) (ok_load_bp (b := 2) (i := 0) (ag := false) (m := 1) (ys := [.hd 0]) rfl rfl rfl agg_s_impl_File sz_s_impl_File (fun _ => rfl) rfl rfl (gle rfl)) rfl (gle rfl)) rfl ?_
      refine SV.op (OpL.ok (nb := 3) (ok_len (lf := .hd 0) rfl elt_impl_File.und rfl rfl) rfl (gle rfl)) rfl ?_
      refine SV.op (OpL.ok (nb := 3) (ok_s2 (x := .tmp 63) (x' := .const ((Value.int IntKind.i64 0))) (VScal.one rfl) (VScal.one rfl) (fun ρ h1 h2 w => by go_simp; (try go_bits); with_reducible rfl) rfl) rfl (gle rfl)) rfl ?_
      refine SV.nil ?_
      refine SV.tn ?_
      refine SV.cond rfl (fun hc5 => ?_) (fun hc5 => ?_)
      · skip   -- c5.T
        refine SV.seq' ?_
        refine SV.region ?_
        refine SV.op (OpL.ok (nb := 3) (ok_load_bp (b := 2) (i := 0) (ag := true) (m := 2) (ys := [.hd 0, .sc _]) rfl rfl rfl agg_impl_Disk sz_impl_Disk (fun h => by cases h) rfl rfl (gle rfl)) rfl (gle rfl)) rfl ?_
        refine SV.op (ok_store_bp (b := 1) (i := 0) (m := 2) (ag := true) (zs := [.hd 0, .sc _]) (ys := [.hd 0, .sc _]) rfl rfl rfl rfl sz_impl_Disk (fun h => by cases h) rfl (gle rfl) rfl rfl rfl) rfl ?_
        refine SV.nil ?_
        refine SV.tn ?_
        refine SV.ret ?_
        refine SV.tr ?_
        apply SV.doneKI (Pr := fun X : DiskD => goodDisk X ∧ wtDisk X ≤ 3000000) (rs := fun X => [(true, tDisk X)]) (y := D) (hy := ⟨hX, by omega⟩) (hC := hC) (hpin := hpin) (hp := hq) (hbx := rfl) (hf := Tryd.results21) (ht := rfl) (he := .inl rfl)
        case hr => exact (ResAll.cons (ResOk.cell (b := 1) (ag := true) (xs := [.hd 0, .sc _]) rfl rfl agg_impl_Disk sz_impl_Disk (fun h => by cases h)) ResAll.nil')
        refine ⟨rfl, ⟨?_, ?_, trivial⟩, trivial⟩ <;> first | rfl | (show some (T.seq _ _) = some (T.seq _ _); refine congrArg some (congrArg (T.seq _) ?_); simp [tFile, List.map_set]; done)
      · skip   -- c5.F
        have hpos : 0 < D.fFiles.length := by
          rcases Nat.eq_zero_or_pos D.fFiles.length with h | h
          · exfalso; simp [h] at hc5
          · exact h
        refine SV.skip ?_
        refine SV.tn ?_
        refine SV.seq' ?_
        refine SV.region ?_
        refine SV.op (OpL.ok (nb := 3) (ok_move (v := V.one (.bp 0 0)) (.inl rfl) rfl) rfl (gle rfl)) rfl ?_
        refine SV.op (OpL.ok (nb := 3) (ok_field_bp (b := 2) (o' := 0) (off := 0) rfl rfl fld_impl_Disk_0) rfl (gle rfl)) rfl ?_
        refine SV.op (OpL.ok (nb := 3) (ok_load_bp (b := 2) (i := 0) (ag := false) (m := 1) (ys := [.hd 0]) rfl rfl rfl agg_s_impl_File sz_s_impl_File (fun _ => rfl) rfl rfl (gle rfl)) rfl (gle rfl)) rfl ?_
        refine SV.op (OpL.ok (nb := 3) (ok_len (lf := .hd 0) rfl elt_impl_File.und rfl rfl) rfl (gle rfl)) rfl ?_
        refine SV.callK (b := 0) hC rfl ⟨_, _, Tryd.func44, rfl, by decide⟩ (vk_below (((D.fFiles.map tFile).length : Nat) : Int) (by rw [List.length_map]; omega) (by rw [List.length_map]; omega)) rfl ⟨rfl, trivial⟩ rfl hq rfl (gle rfl) (fun _ => wanted0 rfl) ?_
        rintro k1 p6 h6 ⟨hk2, hk3⟩ hp6
        rw [List.length_map] at hk3
        obtain ⟨j, rfl⟩ : ∃ j : Nat, k1 = j := ⟨k1.toNat, by omega⟩
        have hjl : j < D.fFiles.length := by omega
        have hx : D.fFiles[j]? = some D.fFiles[j] := by simp [hjl]
        have hgf := hX.1 D.fFiles[j] (get_mem hx)
        refine SV.op (OpL.ok (nb := 3) (ok_move (v := V.one (.sc _)) (.inr rfl) rfl) rfl (gle rfl)) rfl ?_
        refine SV.nil ?_
        refine SV.tn ?_
        refine SV.seq' ?_
        refine SV.seq' ?_
        refine SV.region ?_
        refine SV.op (OpL.ok (nb := 3) (ok_move (v := V.one (.bp 0 0)) (.inl rfl) rfl) rfl (gle rfl)) rfl ?_
        refine SV.callK (b := 0) hC rfl ⟨_, _, Tryd.func44, rfl, by decide⟩ (vk_below 10 (by decide) (by decide)) rfl ⟨rfl, trivial⟩ rfl hp6 rfl (gle rfl) (fun _ => wanted0 rfl) ?_
        rintro m0 p7 h7 ⟨hm0, hm1⟩ hp7
        refine SV.nil ?_
        refine SV.tn ?_
        refine SV.block ?_
        refine SV.seq' ?_
        refine SV.region ?_
        refine SV.op (OpL.ok (nb := 3) (ok_s2 (x := .tmp 72) (x' := .const ((Value.int IntKind.i64 0))) (VScal.one rfl) (VScal.one rfl) (fun ρ h1 h2 w => by go_simp; (try go_bits); with_reducible rfl) rfl) rfl (gle rfl)) rfl ?_
        refine SV.op (OpL.ok (nb := 3) (ok_move (v := V.one (.sc _)) (.inr rfl) rfl) rfl (gle rfl)) rfl ?_
        refine SV.nil ?_
        refine SV.tn ?_
        refine SV.cond rfl (fun hc6 => ?_) (fun hc6 => ?_)
        · skip   -- c6.T
          refine SV.draw [.q 0, .q 1, .q 2, .q 3, .q 4, .q 5, .q 6, .q 7, .q 8, .q 9, .q 10, .q 11] [12] (by kernel_rfl) (by kernel_rfl) ?_
          refine DW.q rfl (ok_field_bp (b := 2) (o' := 0) (off := 0) rfl rfl fld_impl_Disk_0) rfl rfl (gle rfl) (fun _ _ _ _ h => h) ?_
          refine DW.q rfl (ok_load_bp (b := 2) (i := 0) (ag := false) (m := 1) (ys := [.hd 0]) rfl rfl rfl agg_s_impl_File sz_s_impl_File (fun _ => rfl) rfl rfl (gle rfl)) rfl rfl (gle rfl) (fun _ _ _ _ h => h) ?_
          refine DW.q rfl (ok_move (v := V.one (.sc _)) (.inl rfl) rfl) rfl rfl (gle rfl) (fun _ _ _ _ h => h) ?_
          refine DW.q rfl (ok_field_bp (b := 2) (o' := 0) (off := 0) rfl rfl fld_impl_Disk_0) rfl rfl (gle rfl) (fun _ _ _ _ h => h) ?_
          refine DW.q rfl (ok_load_bp (b := 2) (i := 0) (ag := false) (m := 1) (ys := [.hd 0]) rfl rfl rfl agg_s_impl_File sz_s_impl_File (fun _ => rfl) rfl rfl (gle rfl)) rfl rfl (gle rfl) (fun _ _ _ _ h => h) ?_
          refine DW.q rfl (ok_move (v := V.one (.sc _)) (.inl rfl) rfl) rfl rfl (gle rfl) (fun _ _ _ _ h => h) ?_
          refine DW.q rfl (ok_index (n := 4) (lf := .hd 0) rfl elt_impl_File.und sz_impl_File rfl rfl rfl (map_at hx)) rfl rfl (gle rfl) (fun _ _ _ _ h => h) ?_
          refine DW.q rfl (ok_field_el (p := .ep 0 _ _ _) (off := 2) rfl rfl (cells_ep rfl (map_at hx) rfl rfl) fld_impl_File_2) rfl rfl (gle rfl) (fun _ _ _ _ h => h) ?_
          refine DW.el (ag := false) (m := 1) (ys := [.sc _]) rfl rfl rfl (cells_ep rfl (map_at hx) rfl rfl) agg_int sz_int (fun _ => rfl) (gle rfl) rfl rfl rfl (gle rfl) (fun _ _ _ _ h => h) ?_
          refine DW.q rfl (ok_s2 (v := .int .i64 (wrap64 (D.fFiles[j].fChecksum + 1))) (x := .tmp 83) (x' := .const ((Value.int IntKind.i64 1))) (VScal.one rfl) (VScal.one rfl) (fun ρ h1 h2 w => by go_simp; all_goals ((try go_bits); first | with_reducible rfl | go_num | (simp; done) | (simp; omega))) rfl) rfl rfl (gle rfl) (fun _ _ _ _ h => h) ?_
          refine DW.q rfl (ok_index (n := 4) (lf := .hd 0) rfl elt_impl_File.und sz_impl_File rfl rfl rfl (map_at hx)) rfl rfl (gle rfl) (fun _ _ _ _ h => h) ?_
          refine DW.q rfl (ok_field_el (p := .ep 0 _ _ _) (off := 2) rfl rfl (cells_ep rfl (map_at hx) rfl rfl) fld_impl_File_2) rfl rfl (gle rfl) (fun _ _ _ _ h => h) ?_
          refine DW.stores ?_
          refine SV.z rfl (ok_store_ep (i := 0) (n := 4) (m := 1) (ag := false) (zs := [.sc _]) rfl rfl rfl rfl (map_at hx) sz_int (fun _ => rfl) rfl sz_impl_File (gle rfl) (outs_c rfl outs_n) (by simp [two]) rfl rfl rfl) rfl ?_
          refine SV.zend ?_
          refine SV.bn ?_
          refine SV.tn ?_
          refine SV.seq' ?_
          refine SV.region ?_
          refine SV.op (OpL.ok (nb := 3) (ok_load_bp (b := 2) (i := 0) (ag := true) (m := 2) (ys := [.hd 0, .sc _]) rfl rfl rfl agg_impl_Disk sz_impl_Disk (fun h => by cases h) rfl rfl (gle rfl)) rfl (gle rfl)) rfl ?_
          refine SV.op (ok_store_bp (b := 1) (i := 0) (m := 2) (ag := true) (zs := [.hd 0, .sc _]) (ys := [.hd 0, .sc _]) rfl rfl rfl rfl sz_impl_Disk (fun h => by cases h) rfl (gle rfl) rfl rfl rfl) rfl ?_
          refine SV.nil ?_
          refine SV.tn ?_
          refine SV.ret ?_
          apply SV.doneKI (Pr := fun X : DiskD => goodDisk X ∧ wtDisk X ≤ 3000000) (rs := fun X => [(true, tDisk X)]) (y := ⟨D.fFiles.set j { D.fFiles[j] with fChecksum := wrap64 (D.fFiles[j].fChecksum + 1) }, D.fNextName⟩) (hy := ⟨good_set hX ⟨hgf.1, hgf.2.1, i64_wrap _, trivial⟩, Nat.le_trans (wt_set_le hx (Nat.le_refl _)) (Nat.le_trans hw (by decide))⟩) (hC := hC) (hpin := hpin) (hp := hp7) (hbx := rfl) (hf := Tryd.results21) (ht := rfl) (he := .inl rfl)
          case hr => exact (ResAll.cons (ResOk.cell (b := 1) (ag := true) (xs := [.hd 0, .sc _]) rfl rfl agg_impl_Disk sz_impl_Disk (fun h => by cases h)) ResAll.nil')
          refine ⟨rfl, ⟨?_, ?_, trivial⟩, trivial⟩ <;> first | rfl | (show some (T.seq _ _) = some (T.seq _ _); refine congrArg some (congrArg (T.seq _) ?_); simp [tFile, List.map_set]; done)
        · skip   -- c6.F
          refine SV.seq' ?_
          refine SV.region ?_
          refine SV.op (OpL.ok (nb := 3) (ok_s2 (x := .tmp 72) (x' := .const ((Value.int IntKind.i64 1))) (VScal.one rfl) (VScal.one rfl) (fun ρ h1 h2 w => by go_simp; (try go_bits); with_reducible rfl) rfl) rfl (gle rfl)) rfl ?_
          refine SV.op (OpL.ok (nb := 3) (ok_move (v := V.one (.sc _)) (.inr rfl) rfl) rfl (gle rfl)) rfl ?_
          refine SV.nil ?_
          refine SV.tn ?_
          refine SV.cond rfl (fun hc7 => ?_) (fun hc7 => ?_)
          · skip   -- c7.T
            refine SV.region ?_
            refine SV.op (OpL.ok (nb := 3) (ok_move (v := V.one (.bp 0 0)) (.inl rfl) rfl) rfl (gle rfl)) rfl ?_
            refine SV.callK (b := 0) hC rfl ⟨_, _, Tryd.func44, rfl, by decide⟩ (vk_below 3 (by decide) (by decide)) rfl ⟨rfl, trivial⟩ rfl hp7 rfl (gle rfl) (fun _ => wanted0 rfl) ?_
            rintro m2 p8 h8 ⟨hm2, hm3⟩ hp8
            refine SV.op (OpL.ok (nb := 3) (ok_field_bp (b := 2) (o' := 0) (off := 1) rfl rfl fld_impl_Disk_1) rfl (gle rfl)) rfl ?_
            refine SV.op (ok_store_bp (b := 2) (i := 1) (m := 1) (ag := false) (zs := [.sc _]) (ys := [.hd 0, .sc _]) rfl rfl rfl rfl sz_int (fun _ => rfl) rfl (gle rfl) rfl rfl rfl) rfl ?_
            refine SV.nil ?_
            refine SV.bn ?_
            refine SV.tn ?_
            refine SV.seq' ?_
            refine SV.region ?_
            refine SV.op (OpL.ok (nb := 3) (ok_load_bp (b := 2) (i := 0) (ag := true) (m := 2) (ys := [.hd 0, .sc _]) rfl rfl rfl agg_impl_Disk sz_impl_Disk (fun h => by cases h) rfl rfl (gle rfl)) rfl (gle rfl)) rfl ?_
            refine SV.op (ok_store_bp (b := 1) (i := 0) (m := 2) (ag := true) (zs := [.hd 0, .sc _]) (ys := [.hd 0, .sc _]) rfl rfl rfl rfl sz_impl_Disk (fun h => by cases h) rfl (gle rfl) rfl rfl rfl) rfl ?_
            refine SV.nil ?_
            refine SV.tn ?_
            refine SV.ret ?_
            apply SV.doneKI (Pr := fun X : DiskD => goodDisk X ∧ wtDisk X ≤ 3000000) (rs := fun X => [(true, tDisk X)]) (y := ⟨D.fFiles, m2⟩) (hy := ⟨⟨hX.1, (show I64 m2 from i64_of hm2 (by omega)), trivial⟩, Nat.le_trans hw (by decide)⟩) (hC := hC) (hpin := hpin) (hp := hp8) (hbx := rfl) (hf := Tryd.results21) (ht := rfl) (he := .inl rfl)
            case hr => exact (ResAll.cons (ResOk.cell (b := 1) (ag := true) (xs := [.hd 0, .sc _]) rfl rfl agg_impl_Disk sz_impl_Disk (fun h => by cases h)) ResAll.nil')
            refine ⟨rfl, ⟨?_, ?_, trivial⟩, trivial⟩ <;> first | rfl | (show some (T.seq _ _) = some (T.seq _ _); refine congrArg some (congrArg (T.seq _) ?_); simp [tFile, List.map_set]; done)
          · skip   -- c7.F
            refine SV.seq' ?_
            refine SV.region ?_
            refine SV.op (OpL.ok (nb := 3) (ok_s2 (x := .tmp 72) (x' := .const ((Value.int IntKind.i64 2))) (VScal.one rfl) (VScal.one rfl) (fun ρ h1 h2 w => by go_simp; (try go_bits); with_reducible rfl) rfl) rfl (gle rfl)) rfl ?_
            refine SV.op (OpL.ok (nb := 3) (ok_move (v := V.one (.sc _)) (.inr rfl) rfl) rfl (gle rfl)) rfl ?_
            refine SV.nil ?_
            refine SV.tn ?_
            refine SV.cond rfl (fun hc8 => ?_) (fun hc8 => ?_)
            · skip   -- c8.T
              refine SV.takeN (i := 0) (k := j) (o := 1) rfl (map_at hx) rfl fun Lv u hLv hsh => ?_
              obtain ⟨adp, cp, rfl, hcp, hcm, hgp⟩ := hsh
              refine SV.draw [.q 0, .q 1, .q 2, .q 3, .q 4, .q 5, .q 6, .m 7, .m 8, .q 9] [10] (by kernel_rfl) (by kernel_rfl) ?_
              refine DW.q rfl (ok_field_bp (b := 2) (o' := 0) (off := 0) rfl rfl fld_impl_Disk_0) rfl rfl (gle rfl) (fun _ _ _ _ h => h) ?_
              refine DW.q rfl (ok_load_bp (b := 2) (i := 0) (ag := false) (m := 1) (ys := [.hd 0]) rfl rfl rfl agg_s_impl_File sz_s_impl_File (fun _ => rfl) rfl rfl (gle rfl)) rfl rfl (gle rfl) (fun _ _ _ _ h => h) ?_
              refine DW.q rfl (ok_field_bp (b := 2) (o' := 0) (off := 0) rfl rfl fld_impl_Disk_0) rfl rfl (gle rfl) (fun _ _ _ _ h => h) ?_
              refine DW.q rfl (ok_load_bp (b := 2) (i := 0) (ag := false) (m := 1) (ys := [.hd 0]) rfl rfl rfl agg_s_impl_File sz_s_impl_File (fun _ => rfl) rfl rfl (gle rfl)) rfl rfl (gle rfl) (fun _ _ _ _ h => h) ?_
              refine DW.q rfl (ok_move (v := V.one (.sc _)) (.inl rfl) rfl) rfl rfl (gle rfl) (fun _ _ _ _ h => h) ?_
              refine DW.q rfl (ok_index (n := 4) (lf := .hd 0) rfl elt_impl_File.und sz_impl_File rfl rfl rfl (set_self (by rw [List.length_map]; exact hjl))) rfl rfl (gle rfl) (fun _ _ _ _ h => h) ?_
              refine DW.el (ag := true) (m := 4) (ys := [.sc _, .sc _, .sc _, .sc _]) rfl rfl rfl (cells_ep rfl (set_self (by rw [List.length_map]; exact hjl)) rfl rfl) agg_impl_File sz_impl_File (fun h => by cases h) (gle rfl) rfl rfl rfl (gle rfl) (fun _ _ _ _ h => h) ?_
              refine DW.m [2] rfl (ok_lit1 (kk := 2) elt_impl_File (ag := true) (xs := [.sc _, .sc _, .sc _, .sc _]) rfl rfl rfl rfl (fun h => by cases h) (outs_c rfl (outs_c rfl (outs_c rfl (outs_c rfl outs_n)))) (by simp [two]) rfl (gle rfl)) rfl (gle rfl) (gle rfl) (.inl rfl) (fun j hj => by
                  simp only [List.mem_cons, List.not_mem_nil, or_false] at hj
                  rcases hj with rfl
                  · exact .inr ⟨(gle rfl), (gle rfl), .inl rfl⟩) ?_
              refine DW.m [2] rfl (ok_append (kk := 3) elt_impl_File (ls := .hd 0) (lx := .hd 2) rfl rfl rfl rfl rfl rfl (by intro i h1 h2; first | (cases h1; done) | (cases h1; cases h2)) (by simp; omega) rfl (gle rfl)) rfl (gle rfl) (gle rfl) (.inr ⟨0, rfl, .inr ⟨(gle rfl), rfl⟩⟩) (fun j hj => by
                  simp only [List.mem_cons, List.not_mem_nil, or_false] at hj
                  rcases hj with rfl
                  · exact .inl (by decide)) ?_
              refine DW.q rfl (ok_field_bp (b := 2) (o' := 0) (off := 0) rfl rfl fld_impl_Disk_0) rfl rfl (gle rfl) (fun _ _ _ _ h => h) ?_
              refine DW.stores ?_
              refine SV.z rfl (ok_store_bp (b := 2) (i := 0) (m := 1) (ag := false) (zs := [.hd 3]) (ys := [.hd 3, .sc _]) rfl rfl rfl rfl sz_s_impl_File (fun _ => rfl) rfl (gle rfl) rfl rfl rfl) rfl ?_
              refine SV.zend ?_
              refine SV.bn ?_
              refine SV.tn ?_
              refine SV.seq' ?_
              refine SV.freeze (m := 3) (p := 1) (b := 2) (q := 0) (es2 := (D.fFiles ++ [D.fFiles[j]]).map tFile) (ys := [.nd 4 _ _ none, .sc _]) rfl rfl rfl rfl rfl (by simp) (fun k e e2 h1 h2 => (all4 (all4_map _) h2).trans (all4 (all4_dup _ _ _ _) h1).symm) (fun k e e2 i t t2 h1 h2 h3 h4 => (freeze_dup hx k e e2 i t t2 h1 h2 h3 h4).imp id fun ⟨a1, a2⟩ => ⟨_, a1, by rw [a2]; exact named_inn' (p := 1) rfl (gle rfl) hLv⟩) ?_
              refine SV.unname (E := E) hE ?_
              refine SV.region ?_
              refine SV.op (OpL.ok (nb := 3) (ok_load_bp (b := 2) (i := 0) (ag := true) (m := 2) (ys := [.nd 4 _ _ none, .sc _]) rfl rfl rfl agg_impl_Disk sz_impl_Disk (fun h => by cases h) rfl rfl (gle rfl)) rfl (gle rfl)) rfl ?_
              refine SV.op (ok_store_bp (b := 1) (i := 0) (m := 2) (ag := true) (zs := [.nd 4 _ _ none, .sc _]) (ys := [.nd 4 _ _ none, .sc _]) rfl rfl rfl rfl sz_impl_Disk (fun h => by cases h) rfl (gle rfl) rfl rfl rfl) rfl ?_
              refine SV.nil ?_
              refine SV.tn ?_
              refine SV.ret ?_
              apply SV.doneKI (Pr := fun X : DiskD => goodDisk X ∧ wtDisk X ≤ 3000000) (rs := fun X => [(true, tDisk X)]) (y := ⟨D.fFiles ++ [D.fFiles[j]], D.fNextName⟩) (hy := ⟨good_snoc hX hgf, Nat.le_trans (wt_snoc_file hjl) (by have : wtAll wtFile D.fFiles ≤ 1048576 := hw; omega)⟩) (hC := hC) (hpin := hpin) (hp := hp7) (hbx := rfl) (hf := Tryd.results21) (ht := rfl) (he := .inl rfl)
              case hr => exact (ResAll.cons (ResOk.cell (b := 1) (ag := true) (xs := [.nd 4 _ _ none, .sc _]) rfl rfl agg_impl_Disk sz_impl_Disk (fun h => by cases h)) ResAll.nil')
              refine ⟨rfl, ⟨?_, ?_, trivial⟩, trivial⟩ <;> first | rfl | (show some (T.seq _ _) = some (T.seq _ _); refine congrArg some (congrArg (T.seq _) ?_); simp [tFile, List.map_set]; done)
            · skip   -- c8.F
              refine SV.seq' ?_
              refine SV.region ?_
              refine SV.op (OpL.ok (nb := 3) (ok_s2 (x := .tmp 72) (x' := .const ((Value.int IntKind.i64 3))) (VScal.one rfl) (VScal.one rfl) (fun ρ h1 h2 w => by go_simp; (try go_bits); with_reducible rfl) rfl) rfl (gle rfl)) rfl ?_
              refine SV.op (OpL.ok (nb := 3) (ok_move (v := V.one (.sc _)) (.inr rfl) rfl) rfl (gle rfl)) rfl ?_
              refine SV.nil ?_
              refine SV.tn ?_
              refine SV.cond rfl (fun hc9 => ?_) (fun hc9 => ?_)
              · skip   -- c9.T
                refine SV.seq' ?_
                refine SV.region ?_
                refine SV.op (OpL.ok (nb := 3) (ok_field_bp (b := 2) (o' := 0) (off := 0) rfl rfl fld_impl_Disk_0) rfl (gle rfl)) rfl ?_
                refine SV.op (OpL.ok (nb := 3) (ok_load_bp (b := 2) (i := 0) (ag := false) (m := 1) (ys := [.hd 0]) rfl rfl rfl agg_s_impl_File sz_s_impl_File (fun _ => rfl) rfl rfl (gle rfl)) rfl (gle rfl)) rfl ?_
                refine SV.op (OpL.ok (nb := 3) (ok_move (v := V.one (.sc _)) (.inl rfl) rfl) rfl (gle rfl)) rfl ?_
                refine SV.op (OpL.ok (nb := 3) (ok_index (n := 4) (lf := .hd 0) rfl elt_impl_File.und sz_impl_File rfl rfl rfl (map_at hx)) rfl (gle rfl)) rfl ?_
                refine SV.op (OpL.ok (nb := 3) (ok_field_el (p := .ep 0 _ _ _) (off := 1) rfl rfl (cells_ep rfl (map_at hx) rfl rfl) fld_impl_File_1) rfl (gle rfl)) rfl ?_
                refine SV.op (ok_load_el (p := .ep 0 _ _ _) (ag := false) (m := 1) (ys := [.nd 0 _ _ (some _)]) rfl rfl (cells_ep rfl (map_at hx) rfl rfl) agg_s_impl_Page sz_s_impl_Page (fun _ => rfl) (gle rfl) rfl rfl (gle rfl)) rfl ?_
                refine SV.op (OpL.ok (nb := 3) (ok_len (lf := .nd 0 _ _ (some _)) rfl elt_impl_Page.und rfl rfl) rfl (gle rfl)) rfl ?_
                refine SV.op (OpL.ok (nb := 3) (ok_s2 (x := .tmp 112) (x' := .const ((Value.int IntKind.i64 0))) (VScal.one rfl) (VScal.one rfl) (fun ρ h1 h2 w => by go_simp; (try go_bits); with_reducible rfl) rfl) rfl (gle rfl)) rfl ?_
                refine SV.nil ?_
                refine SV.tn ?_
                refine SV.cond rfl (fun hc10 => ?_) (fun hc10 => ?_)
                · skip   -- c10.T
                  have hpg : 0 < D.fFiles[j].fPages.length := by simpa using hc10
                  refine SV.takeN (i := 0) (k := j) (o := 1) rfl (map_at hx) rfl fun Lv u hLv hsh => ?_
                  obtain ⟨adp, cp, rfl, hcp, hcm, hgp⟩ := hsh
                  refine SV.draw [.q 0, .q 1, .q 2, .q 3, .q 4, .q 5, .q 6, .q 7, .q 8, .q 9, .q 10, .q 11] [12] (by kernel_rfl) (by kernel_rfl) ?_
                  refine DW.q rfl (ok_field_bp (b := 2) (o' := 0) (off := 0) rfl rfl fld_impl_Disk_0) rfl rfl (gle rfl) (fun _ _ _ _ h => h) ?_
                  refine DW.q rfl (ok_load_bp (b := 2) (i := 0) (ag := false) (m := 1) (ys := [.hd 0]) rfl rfl rfl agg_s_impl_File sz_s_impl_File (fun _ => rfl) rfl rfl (gle rfl)) rfl rfl (gle rfl) (fun _ _ _ _ h => h) ?_
                  refine DW.q rfl (ok_move (v := V.one (.sc _)) (.inl rfl) rfl) rfl rfl (gle rfl) (fun _ _ _ _ h => h) ?_
                  refine DW.q rfl (ok_field_bp (b := 2) (o' := 0) (off := 0) rfl rfl fld_impl_Disk_0) rfl rfl (gle rfl) (fun _ _ _ _ h => h) ?_
                  refine DW.q rfl (ok_load_bp (b := 2) (i := 0) (ag := false) (m := 1) (ys := [.hd 0]) rfl rfl rfl agg_s_impl_File sz_s_impl_File (fun _ => rfl) rfl rfl (gle rfl)) rfl rfl (gle rfl) (fun _ _ _ _ h => h) ?_
                  refine DW.q rfl (ok_move (v := V.one (.sc _)) (.inl rfl) rfl) rfl rfl (gle rfl) (fun _ _ _ _ h => h) ?_
                  refine DW.q rfl (ok_index (n := 4) (lf := .hd 0) rfl elt_impl_File.und sz_impl_File rfl rfl rfl (set_self (by rw [List.length_map]; exact hjl))) rfl rfl (gle rfl) (fun _ _ _ _ h => h) ?_
                  refine DW.q rfl (ok_field_el (p := .ep 0 _ _ _) (off := 1) rfl rfl (cells_ep rfl (set_self (by rw [List.length_map]; exact hjl)) rfl rfl) fld_impl_File_1) rfl rfl (gle rfl) (fun _ _ _ _ h => h) ?_
                  refine DW.el (ag := false) (m := 1) (ys := [.sc _]) rfl rfl rfl (cells_ep rfl (set_self (by rw [List.length_map]; exact hjl)) rfl rfl) agg_s_impl_Page sz_s_impl_Page (fun _ => rfl) (gle rfl) rfl rfl rfl (gle rfl) (fun _ _ _ _ h => h) ?_
                  refine DW.q rfl (ok_tail (n := 1) rfl elt_impl_Page.und sz_impl_Page rfl rfl (by rw [List.length_map]; omega) (hcp)) rfl rfl (gle rfl) (fun _ _ _ _ h => h) ?_
                  refine DW.q rfl (ok_index (n := 4) (lf := .hd 0) rfl elt_impl_File.und sz_impl_File rfl rfl rfl (set_self (by rw [List.length_map]; exact hjl))) rfl rfl (gle rfl) (fun _ _ _ _ h => h) ?_
                  refine DW.q rfl (ok_field_el (p := .ep 0 _ _ _) (off := 1) rfl rfl (cells_ep rfl (set_self (by rw [List.length_map]; exact hjl)) rfl rfl) fld_impl_File_1) rfl rfl (gle rfl) (fun _ _ _ _ h => h) ?_
                  refine DW.stores ?_
                  refine SV.z rfl (ok_store_ep (i := 0) (n := 4) (m := 1) (ag := false) (zs := [.sc _]) rfl rfl rfl rfl (set_self (by rw [List.length_map]; exact hjl)) sz_s_impl_Page (fun _ => rfl) rfl sz_impl_File (gle rfl) (outs_c rfl outs_n) (by simp [two]) rfl (set_twice (by rfl)) rfl) rfl ?_
                  refine SV.zend ?_
                  refine SV.bn ?_
                  refine SV.tn ?_
                  refine SV.seq' ?_
                  refine SV.freeze (m := 0) (p := 1) (b := 2) (q := 0) (es2 := (D.fFiles.set j { D.fFiles[j] with fPages := D.fFiles[j].fPages.drop 1 }).map tFile) (ys := [.nd 2 _ _ none, .sc _]) rfl rfl rfl rfl rfl (by simp) (fun k e e2 h1 h2 => (all4 (all4_map _) h2).trans (all4 (all4_set _ _ _ _) h1).symm) (fun k e e2 i t t2 h1 h2 h3 h4 => (freeze_tail hx k e e2 i t t2 h1 h2 h3 h4).imp id fun ⟨a1, a2⟩ => ⟨_, a1, by rw [a2]; exact tail_inn (p := 1) rfl (gle rfl) hLv sz_impl_Page (by rw [List.length_map]; omega)⟩) ?_
                  refine SV.unname (E := E) hE ?_
                  refine SV.region ?_
                  refine SV.op (OpL.ok (nb := 3) (ok_load_bp (b := 2) (i := 0) (ag := true) (m := 2) (ys := [.nd 2 _ _ none, .sc _]) rfl rfl rfl agg_impl_Disk sz_impl_Disk (fun h => by cases h) rfl rfl (gle rfl)) rfl (gle rfl)) rfl ?_
                  refine SV.op (ok_store_bp (b := 1) (i := 0) (m := 2) (ag := true) (zs := [.nd 2 _ _ none, .sc _]) (ys := [.nd 2 _ _ none, .sc _]) rfl rfl rfl rfl sz_impl_Disk (fun h => by cases h) rfl (gle rfl) rfl rfl rfl) rfl ?_
                  refine SV.nil ?_
                  refine SV.tn ?_
                  refine SV.ret ?_
                  apply SV.doneKI (Pr := fun X : DiskD => goodDisk X ∧ wtDisk X ≤ 3000000) (rs := fun X => [(true, tDisk X)]) (y := ⟨D.fFiles.set j { D.fFiles[j] with fPages := D.fFiles[j].fPages.drop 1 }, D.fNextName⟩) (hy := ⟨good_set hX ⟨hgf.1, fun p hp => hgf.2.1 p (List.mem_of_mem_drop hp), hgf.2.2⟩, Nat.le_trans (wt_set_le hx (wt_drop1 _)) (Nat.le_trans hw (by decide))⟩) (hC := hC) (hpin := hpin) (hp := hp7) (hbx := rfl) (hf := Tryd.results21) (ht := rfl) (he := .inl rfl)
                  case hr => exact (ResAll.cons (ResOk.cell (b := 1) (ag := true) (xs := [.nd 2 _ _ none, .sc _]) rfl rfl agg_impl_Disk sz_impl_Disk (fun h => by cases h)) ResAll.nil')
                  refine ⟨rfl, ⟨?_, ?_, trivial⟩, trivial⟩ <;> first | rfl | (show some (T.seq _ _) = some (T.seq _ _); refine congrArg some (congrArg (T.seq _) ?_); simp [tFile, List.map_set]; done)
                · skip   -- c10.F
                  refine SV.skip ?_
                  refine SV.bn ?_
                  refine SV.tn ?_
                  refine SV.seq' ?_
                  refine SV.region ?_
                  refine SV.op (OpL.ok (nb := 3) (ok_load_bp (b := 2) (i := 0) (ag := true) (m := 2) (ys := [.hd 0, .sc _]) rfl rfl rfl agg_impl_Disk sz_impl_Disk (fun h => by cases h) rfl rfl (gle rfl)) rfl (gle rfl)) rfl ?_
                  refine SV.op (ok_store_bp (b := 1) (i := 0) (m := 2) (ag := true) (zs := [.hd 0, .sc _]) (ys := [.hd 0, .sc _]) rfl rfl rfl rfl sz_impl_Disk (fun h => by cases h) rfl (gle rfl) rfl rfl rfl) rfl ?_
                  refine SV.nil ?_
                  refine SV.tn ?_
                  refine SV.ret ?_
                  apply SV.doneKI (Pr := fun X : DiskD => goodDisk X ∧ wtDisk X ≤ 3000000) (rs := fun X => [(true, tDisk X)]) (y := D) (hy := ⟨hX, by omega⟩) (hC := hC) (hpin := hpin) (hp := hp7) (hbx := rfl) (hf := Tryd.results21) (ht := rfl) (he := .inl rfl)
                  case hr => exact (ResAll.cons (ResOk.cell (b := 1) (ag := true) (xs := [.hd 0, .sc _]) rfl rfl agg_impl_Disk sz_impl_Disk (fun h => by cases h)) ResAll.nil')
                  refine ⟨rfl, ⟨?_, ?_, trivial⟩, trivial⟩ <;> first | rfl | (show some (T.seq _ _) = some (T.seq _ _); refine congrArg some (congrArg (T.seq _) ?_); simp [tFile, List.map_set]; done)
              · skip   -- c9.F
                refine SV.skip ?_
                refine SV.bn ?_
                refine SV.tn ?_
                refine SV.seq' ?_
                refine SV.region ?_
                refine SV.op (OpL.ok (nb := 3) (ok_load_bp (b := 2) (i := 0) (ag := true) (m := 2) (ys := [.hd 0, .sc _]) rfl rfl rfl agg_impl_Disk sz_impl_Disk (fun h => by cases h) rfl rfl (gle rfl)) rfl (gle rfl)) rfl ?_
                refine SV.op (ok_store_bp (b := 1) (i := 0) (m := 2) (ag := true) (zs := [.hd 0, .sc _]) (ys := [.hd 0, .sc _]) rfl rfl rfl rfl sz_impl_Disk (fun h => by cases h) rfl (gle rfl) rfl rfl rfl) rfl ?_
                refine SV.nil ?_
                refine SV.tn ?_
                refine SV.ret ?_
                apply SV.doneKI (Pr := fun X : DiskD => goodDisk X ∧ wtDisk X ≤ 3000000) (rs := fun X => [(true, tDisk X)]) (y := D) (hy := ⟨hX, by omega⟩) (hC := hC) (hpin := hpin) (hp := hp7) (hbx := rfl) (hf := Tryd.results21) (ht := rfl) (he := .inl rfl)
                case hr => exact (ResAll.cons (ResOk.cell (b := 1) (ag := true) (xs := [.hd 0, .sc _]) rfl rfl agg_impl_Disk sz_impl_Disk (fun h => by cases h)) ResAll.nil')
                refine ⟨rfl, ⟨?_, ?_, trivial⟩, trivial⟩ <;> first | rfl | (show some (T.seq _ _) = some (T.seq _ _); refine congrArg some (congrArg (T.seq _) ?_); simp [tFile, List.map_set]; done)
end Go.Proofs.YtjdjceohlcimaaaDoor
/- What the law of sealed files draws: told by trees. -/
namespace Go.Proofs.YtjdjceohlcimaaaDoor
open Go Go.RowKit V
set_option linter.unusedVariables false
set_option maxRecDepth 100000 in
set_option maxHeartbeats 2000000 in
theorem vd_create {ad : Option Addr} {len cap : Nat} {zs : List Int} : VCI (fun w => Code ad len cap zs w) (fun X : DiskD => goodDisk X ∧ wtDisk X ≤ 3000000) Tryd.prog 5 [(false, [.lit (.slice ad len cap)])] false (fun X => [(true, tDisk X)]) := by
  refine VCI.enter Tryd.func5 rfl Tryd.ntmps5 (gle rfl) fun E hE hC hln => ?_
  refine SV.seq' ?_
  refine SV.region ?_
  refine SV.op (OpMk.ok (ok_alloc (kk := 0) (xs := [.nl _, .sc _]) rfl rfl zero_impl_Disk ⟨rfl, ⟨4, by decide, sz_impl_File⟩, rfl, rfl, trivial⟩ rfl (gle rfl))) rfl ?_
  refine SV.nil ?_
  refine SV.tn ?_
  refine SV.seq' ?_
  refine SV.region ?_
  refine SV.op (OpL.ok (nb := 1) (ok_move (v := V.one (.sc _)) (.inl rfl) rfl) rfl (gle rfl)) rfl ?_
  refine SV.callNew hC (kk := 1) rfl ⟨_, _, Tryd.func22, rfl, by decide⟩ rfl rfl rfl (gle rfl) rfl fun hn1 => ?_
  refine SV.callKI (b := 1) hC rfl ⟨_, _, Tryd.func21, rfl, by decide⟩ (vk_disk) rfl rfl ⟨Int.le_refl 0, Int.natCast_nonneg len⟩ rfl (gle rfl) (fun _ => wanted0 rfl) ?_
  rintro X p2 h2 ⟨hX, hw⟩ hp2
  refine SV.op (ok_store_bp (b := 0) (i := 0) (m := 2) (ag := true) (zs := [.nd 0 _ _ none, .sc _]) (ys := [.nd 0 _ _ none, .sc _]) rfl rfl rfl rfl sz_impl_Disk (fun h => by cases h) rfl (gle rfl) rfl rfl rfl) rfl ?_
  refine SV.nil ?_
  refine SV.tn ?_
  refine SV.ret ?_
  apply SV.doneEI (Pr := fun X : DiskD => goodDisk X ∧ wtDisk X ≤ 3000000) (rs := fun X => [(true, tDisk X)]) (y := X) (hy := ⟨hX, hw⟩) (hln := hln) (hf := Tryd.results5) (ht := rfl) (he := .inl rfl)
  case hr => exact (ResAll.cons (ResOk.cell (b := 0) (ag := true) (xs := [.nd 0 _ _ none, .sc _]) rfl rfl agg_impl_Disk sz_impl_Disk (fun h => by cases h)) ResAll.nil')
  refine ⟨rfl, ⟨?_, ?_, trivial⟩, trivial⟩ <;> rfl
set_option maxRecDepth 100000 in
set_option maxHeartbeats 2000000 in
theorem vd_rows12 {ad : Option Addr} {len cap : Nat} {zs : List Int} : VCE (fun w => Code ad len cap zs w) (fun X : List R => X.length ≤ 13 ∧ ∀ r ∈ X, r.wf) Tryd.prog 13 [(false, [.lit (.slice ad len cap)])] false (fun X => [(false, [.seq 62 (X.map tRow)])]) := by
  refine VCE.enter Tryd.func13 rfl Tryd.ntmps13 (gle rfl) fun E hE hC => ?_
  refine SV.seq' ?_
  refine SV.region ?_
  refine SV.op (OpL.ok (nb := 0) (ok_move (v := V.one (.sc _)) (.inr rfl) rfl) rfl (gle rfl)) rfl ?_
  refine SV.nil ?_
  refine SV.tn ?_
  refine SV.seq' ?_
  refine SV.region ?_
  refine SV.op (OpL.ok (nb := 0) (ok_move (v := V.one (.sc _)) (.inl rfl) rfl) rfl (gle rfl)) rfl ?_
  refine SV.callNew hC (kk := 0) rfl ⟨_, _, Tryd.func22, rfl, by decide⟩ rfl rfl rfl (gle rfl) rfl fun hn1 => ?_
  refine SV.callK (b := 0) hC rfl ⟨_, _, Tryd.func36, rfl, by decide⟩ (vk_bent 12 (by decide) (by decide)) rfl ⟨rfl, trivial⟩ rfl ⟨Int.le_refl 0, Int.natCast_nonneg len⟩ rfl (gle rfl) (fun _ => wanted0 rfl) ?_
  rintro A p2 h2 ⟨hA, hwA⟩ hp2
  refine SV.op (OpL.ok (nb := 1) (ok_move (v := V.one (.hd 0)) (.inr rfl) rfl) rfl (gle rfl)) rfl ?_
  refine SV.nil ?_
  refine SV.tn ?_
  refine SV.ret ?_
  apply SV.doneE (Pr := fun X : List R => X.length ≤ 13 ∧ ∀ r ∈ X, r.wf) (rs := fun X => [(false, [.seq 62 (X.map tRow)])]) (y := A) (hy := ⟨by omega, hwA⟩) (hf := Tryd.results13) (ht := rfl) (he := .inl rfl)
  case hr => exact (ResAll.cons (ResOk.tmp (ag := false) (xs := [.hd 0]) rfl) ResAll.nil')
  case h2 => simp [two]
  refine ⟨rfl, ⟨?_, trivial⟩, trivial⟩ <;> rfl
end Go.Proofs.YtjdjceohlcimaaaDoor
/- The reference's UnpackPages, by contract. -/
namespace Go.Proofs.YtjdjceohlcimaaaDoor
open Go.RowKit
set_option maxRecDepth 100000 in
theorem sunpack (a : Option Addr) (n c : Nat) (P : List (List R)) (w : World) (h : SeqIn pageRep w a n P) (hn : n ≤ 1000000000) (hf : P.flatten.length ≤ 10000000000) :
    Calls Tryd.prog 64 #[.slice a n c] w fun e w' => ∃ v, e = .returned v ∧ Mine w' w.heap.size v P.flatten ∧ Below w.heap.size w w' := by
  have HL := Lib.hid h.1
  have HI := Lib.hid h
  obtain ⟨N, hN⟩ : ∃ N, N = P.flatten.length := ⟨_, rfl⟩
  rw [← hN] at hf
  have HN := Lib.hid hN
  have M0 := Lib.hid (mine_zero w w.heap.size (Nat.le_refl _))
  have B0 := Lib.hid ((Below.refl w.heap.size w).alloc (Nat.le_refl _) (.cells #[] 62))
  clear h hN
  go_enter Tryd.func64, Tryd.ntmps64
  go_wp2_with fail
  go_loopw [3, 4] (fun v i wr => ∃ (t : Nat) (y : Value), y = v ∧ i = .int .i64 t ∧ t ≤ n ∧ Hid (Mine wr w.heap.size y (P.take t).flatten) ∧ Hid (Below w.heap.size w wr)) (fun _ i _ => n - (intOf i).toNat)
  case atStart => exact ⟨0, _, rfl, rfl, Nat.zero_le _, (show Mine _ _ _ (P.take 0).flatten from M0.out), B0⟩
  case round =>
    obtain ⟨t, y, rfl, rfl, ht, hm, hb⟩ := hrel
    by_cases hlt : t < n
    · have htl : t < P.length := by have := HL.out; omega
      have hp : P[t]? = some P[t] := by simp [htl]
      obtain ⟨b, o, d, k, m, rfl, hbl, hcell, hin, hcap⟩ := (HI.out.keep hb.out).at hp
      have hnx := flat_next P t htl
      have hle := flat_take P (t + 1)
      rw [← HN.out] at hle
      have hpl : P[t].length = k := hin.1
      have hfl : (P.take (t + 1)).flatten = (P.take t).flatten ++ P[t] := by rw [List.take_succ_eq_append_getElem htl, List.flatten_append, List.flatten_cons, List.flatten_nil, List.append_nil]
      have HFL := Lib.hid hfl
      have hsz : w.heap.size ≤ wr.heap.size := hb.out.size
      have IN := Lib.hid (rows_in hin)
      clear hfl hin hp
      have hln : (P.take t).flatten.length + k ≤ 1000000000000 := by omega
      have HLN := Lib.hid hln
      clear hln hnx hle
      cases d with
      | none =>
        have hm0 := hcap rfl
        subst hm0
        have hk0 : k = 0 := by
          obtain ⟨-, -, h0 | ⟨b', o', e, -⟩⟩ := IN.out
          · exact h0
          · cases e
        subst hk0
        have hpe : P[t] = [] := List.eq_nil_of_length_eq_zero hpl
        obtain ⟨i0, hi, hz0, hz1, hz2⟩ := info_parts rowInfo
        have HPE := Lib.hid hpe
        clear hpl hpe
        go_wp2_with (at_builtin; refine wpList_append_own_none rfl (.tmp 12) (.tmp 17) 32 rfl w.heap.size 62 i0 3 Tryd.underlying32 hi y (P.take t).flatten.length (cells3 (P.take t).flatten) rfl hm.out rfl ?_)
        go_roundw
        case rel => exact ⟨t + 1, _, rfl, by go_num, by omega, (by show Mine _ _ _ _; rw [HFL.out, HPE.out, List.append_nil]; exact hm.out), hb⟩
        case measure => simp [intOf]; omega
      | some ad =>
        obtain ⟨ad', had, hc⟩ := IN.out.cell
        have hcc : ∀ j u, (cells3 P[t])[j]? = some u → wr.cell? (ad.add j) = some u := by
          rcases Nat.eq_zero_or_pos k with h0 | h0
          · intro j u hj
            have : P[t] = [] := List.eq_nil_of_length_eq_zero (by omega)
            rw [this] at hj
            simp [cells3] at hj
          · have := had h0
            injection this with this
            rw [this]
            exact hc
        have HCC := Lib.hid hcc
        have HPL := Lib.hid hpl
        clear hcc hc had hpl
        go_wp2_with (at_builtin; refine wpList_appendR (.tmp 12) (.tmp 17) ad k m rfl rfl rfl rfl hm.out HPL.out HCC.out hsz HLN.out ?_; intro v6 w6 hm6 hg6 hn6)
        have B6 := Lib.hid (hb.out.grown hg6 hsz hm.out.own')
        rw [← HFL.out] at hm6
        have M6 := Lib.hid hm6
        clear hm6 hg6 hn6
        go_roundw
        case rel => exact ⟨t + 1, _, rfl, by go_num, by omega, M6, B6⟩
        case measure => simp [intOf]; omega
    · have hkl : t = n := by omega
      have hfin : Mine wr w.heap.size y P.flatten := by
        have := hm.out
        rw [hkl, List.take_of_length_le (by have := HL.out; omega)] at this
        exact this
      have HF := Lib.hid hfin
      clear hfin hkl
      go_wp2_with fail
      go_ret
      exact ⟨_, rfl, HF.out, hb.out⟩
end Go.Proofs.YtjdjceohlcimaaaDoor
/- The program's UnpackPages, by contract. -/
namespace Go.Proofs.YtjdjceohlcimaaaDoor
open Go.RowKit
set_option maxRecDepth 100000 in
theorem iunpackM (a : Option Addr) (n c : Nat) (P : List (List R)) (w : World) (h : SeqIn pageRep w a n P) (hn : n ≤ 1000000000) (hf : P.flatten.length ≤ 10000000000) :
    Calls Tryd.prog 33 #[.slice a n c] w fun e w' => ∃ v, e = .returned v ∧ Mine w' w.heap.size v P.flatten ∧ Below w.heap.size w w' := by
  have HL := Lib.hid h.1
  have HI := Lib.hid h
  obtain ⟨N, hN⟩ : ∃ N, N = P.flatten.length := ⟨_, rfl⟩
  rw [← hN] at hf
  have HN := Lib.hid hN
  have M0 := Lib.hid (mine_none w w.heap.size)
  clear h hN
  go_enter Tryd.func33, Tryd.ntmps33
  go_wp2_with fail
  go_loopw [3, 8] (fun v i wr => ∃ (t : Nat) (y : Value), y = v ∧ i = .int .i64 t ∧ t ≤ n ∧ Hid (Mine wr w.heap.size y (P.take t).flatten) ∧ Hid (Below w.heap.size w wr)) (fun _ i _ => n - (intOf i).toNat)
  case atStart => exact ⟨0, _, rfl, rfl, Nat.zero_le _, (show Mine _ _ _ (P.take 0).flatten from M0.out), Below.refl _ _⟩
  case round =>
    obtain ⟨t, y, rfl, rfl, ht, hm, hb⟩ := hrel
    by_cases hlt : t < n
    · have htl : t < P.length := by have := HL.out; omega
      have hp : P[t]? = some P[t] := by simp [htl]
      obtain ⟨b, o, d, k, m, rfl, hbl, hcell, hin, hcap⟩ := (HI.out.keep hb.out).at hp
      have hnx := flat_next P t htl
      have hle := flat_take P (t + 1)
      rw [← HN.out] at hle
      have hpl : P[t].length = k := hin.1
      have hfl : (P.take (t + 1)).flatten = (P.take t).flatten ++ P[t] := by rw [List.take_succ_eq_append_getElem htl, List.flatten_append, List.flatten_cons, List.flatten_nil, List.append_nil]
      have HFL := Lib.hid hfl
      have hsz : w.heap.size ≤ wr.heap.size := hb.out.size
      have bx := (Below.refl wr.heap.size wr).alloc (Nat.le_refl _) (.cells #[.slice d k m] 41)
      have IN := Lib.hid ((rows_in hin).keep bx)
      have BX := Lib.hid (hb.out.trans (bx.mono hsz))
      have MX := Lib.hid (hm.out.keep bx)
      have hszx : w.heap.size ≤ (wr.alloc (.cells #[.slice d k m] 41)).heap.size := BX.out.size
      clear hfl hin hp bx
      have hln : (P.take t).flatten.length + k ≤ 1000000000000 := by omega
      have HLN := Lib.hid hln
      clear hln hnx hle
      cases d with
      | none =>
        have hm0 := hcap rfl
        subst hm0
        have hk0 : k = 0 := by
          obtain ⟨-, -, h0 | ⟨b', o', e, -⟩⟩ := IN.out
          · exact h0
          · cases e
        subst hk0
        have hpe : P[t] = [] := List.eq_nil_of_length_eq_zero hpl
        obtain ⟨i0, hi, hz0, hz1, hz2⟩ := info_parts rowInfo
        have HPE := Lib.hid hpe
        clear hpl hpe
        go_wp2_with (at_builtin; refine wpList_append_own_none rfl (.tmp 12) (.tmp 14) 32 rfl w.heap.size 62 i0 3 Tryd.underlying32 hi y (P.take t).flatten.length (cells3 (P.take t).flatten) rfl MX.out rfl ?_)
        go_roundw
        case rel => exact ⟨t + 1, _, rfl, by go_num, by omega, (by show Mine _ _ _ _; rw [HFL.out, HPE.out, List.append_nil]; exact MX.out), BX⟩
        case measure => simp [intOf]; omega
      | some ad =>
        obtain ⟨ad', had, hc⟩ := IN.out.cell
        have hcc : ∀ j u, (cells3 P[t])[j]? = some u → (wr.alloc (.cells #[.slice (some ad) k m] 41)).cell? (ad.add j) = some u := by
          rcases Nat.eq_zero_or_pos k with h0 | h0
          · intro j u hj
            have : P[t] = [] := List.eq_nil_of_length_eq_zero (by omega)
            rw [this] at hj
            simp [cells3] at hj
          · have := had h0
            injection this with this
            rw [← this] at hc
            exact hc
        have HCC := Lib.hid hcc
        have HPL := Lib.hid hpl
        clear hcc hc had hpl
        go_wp2_with (at_builtin; refine wpList_appendR (.tmp 12) (.tmp 14) ad k m rfl rfl rfl rfl MX.out HPL.out HCC.out hszx HLN.out ?_; intro v6 w6 hm6 hg6 hn6)
        have B6 := Lib.hid (BX.out.grown hg6 hszx MX.out.own')
        rw [← HFL.out] at hm6
        have M6 := Lib.hid hm6
        clear hm6 hg6 hn6
        go_roundw
        case rel => exact ⟨t + 1, _, rfl, by go_num, by omega, M6, B6⟩
        case measure => simp [intOf]; omega
    · have hkl : t = n := by omega
      have hfin : Mine wr w.heap.size y P.flatten := by
        have := hm.out
        rw [hkl, List.take_of_length_le (by have := HL.out; omega)] at this
        exact this
      have HF := Lib.hid hfin
      clear hfin hkl
      go_wp2_with fail
      go_ret
      exact ⟨_, rfl, HF.out, hb.out⟩
end Go.Proofs.YtjdjceohlcimaaaDoor
/- UnpackPages: told by trees. -/
namespace Go.Proofs.YtjdjceohlcimaaaDoor
open Go Go.RowKit V
set_option linter.unusedVariables false
theorem own_mine {w : World} {B : Nat} {v : Value} {L : List R} (h : Mine w B v L) : Own w 0 (.seq 62 (L.map tRow)) v (fun b => v.ownBlock = some b) := by
  have hc : ∀ (k j : Nat) (e : List T) (t : T) (u : Value), (L.map tRow)[k]? = some e → e[j]? = some t → (cells3 L)[k * 3 + j]? = some u → t = .lit u ∧ u.oneCell' = true := fun k j e t u h1 h2 h3 => by
    rw [List.getElem?_map] at h1
    obtain ⟨r, hr, rfl⟩ := Option.map_eq_some_iff.1 h1
    have hk := V.get_lt hr
    obtain ⟨e0, e1, e2⟩ := cells3_get L k hk
    have hd : L.getD k R.zero = r := by simp [List.getD, hr]
    rw [hd] at e0 e1 e2
    match j, h2, h3 with
    | 0, h2, h3 => cases h2; rw [Nat.add_zero, e0] at h3; cases h3; exact ⟨rfl, rfl⟩
    | 1, h2, h3 => cases h2; rw [e1] at h3; cases h3; exact ⟨rfl, rfl⟩
    | 2, h2, h3 => cases h2; rw [e2] at h3; cases h3; exact ⟨rfl, rfl⟩
  refine .seq 3 (by decide) sz_impl_Row (fun e he => by obtain ⟨x, -, rfl⟩ := List.mem_map.1 he; rfl) (cells3 L) (by rw [List.length_map]; exact ownsRow_lower h (Nat.zero_le _)) (fun _ _ => False) (fun k e j t u h1 h2 h3 => ?_) (fun u hu => ?_) (fun b hb => hb) (fun q b hb => hb.elim) (fun q b hb => hb.elim) fun q q' b hb => hb.elim
  · obtain ⟨rfl, ho⟩ := hc k j e t u h1 h2 h3
    exact .lit ho
  · obtain ⟨r, -, hr⟩ := List.mem_flatMap.1 (show u ∈ L.flatMap fun r => [.int .i64 r.key, .int .i64 r.value, .int .i64 r.width] from hu)
    simp at hr
    rcases hr with rfl | rfl | rfl <;> rfl
theorem gives_mineT {w w' : World} {v : Value} {L : List R} (hm : Mine w' w.heap.size v L) (hb : Below w.heap.size w w') : V.Gives (Env.of w) false [(false, [.seq 62 (L.map tRow)])] (.returned v) w' := by
  refine ⟨[[v]], fun c j b => c = 0 ∧ j = 0 ∧ v.ownBlock = some b, rfl, rfl, fun c ag ts us hc hu => ?_, fun c j c' j' b hb hb' => ⟨hb.1.trans hb'.1.symm, hb.2.1.trans hb'.2.1.symm⟩, fun c j b hb => ?_, .of_below hb⟩
  · match c, hc, hu with
    | 0, hc, hu => cases hc; cases hu; exact ⟨rfl, fun j t u h h' => by match j, h, h' with | 0, h, h' => cases h; cases h'; exact (own_mine hm).mono fun b hb => ⟨rfl, rfl, hb⟩⟩
  · have := World.ownsRow.lt hm b hb.2.2
    exact ⟨.inl this.1, this.2⟩
theorem vunpack_s (P : List (List R)) (hP : ∀ p ∈ P, goodPage p) (hw : wtPages P ≤ 1000000000) : VC Tryd.prog 64 [(false, [.seq 41 (P.map tPage)])] false [(false, [.seq 62 (P.flatten.map tRow)])] := fun w vs hv => by
  obtain ⟨k, vs', rfl, h1, h2⟩ := hv.shape (Fits.slice 41 fitsPage) hP
  rw [h2.none]
  have e : k.2.1 = P.length := h1.1.1.symm
  have hl := wt_page_len P
  have hf := flat_wt P
  exact (sunpack k.1 k.2.1 k.2.2 P w h1.1 (by omega) (by omega)).mono fun e w' ⟨v, he, hm, hb⟩ => he ▸ gives_mineT hm hb
theorem vunpack_i (P : List (List R)) (hP : ∀ p ∈ P, goodPage p) (hw : wtPages P ≤ 1000000000) : VC Tryd.prog 33 [(false, [.seq 41 (P.map tPage)])] false [(false, [.seq 62 (P.flatten.map tRow)])] := fun w vs hv => by
  obtain ⟨k, vs', rfl, h1, h2⟩ := hv.shape (Fits.slice 41 fitsPage) hP
  rw [h2.none]
  have e : k.2.1 = P.length := h1.1.1.symm
  have hl := wt_page_len P
  have hf := flat_wt P
  exact (iunpackM k.1 k.2.1 k.2.2 P w h1.1 (by omega) (by omega)).mono fun e w' ⟨v, he, hm, hb⟩ => he ▸ gives_mineT hm hb
end Go.Proofs.YtjdjceohlcimaaaDoor
/- The reference's ReadFile: told by trees. -/
namespace Go.Proofs.YtjdjceohlcimaaaDoor
open Go Go.RowKit V
set_option linter.unusedVariables false
set_option maxRecDepth 100000 in
set_option maxHeartbeats 2000000 in
theorem vread_s0 (X : DiskD) (name ki : Int) (hX : goodDisk X) (hL : wtDisk X ≤ 1000000000) (hki : DiskD.atI X.fFiles name = ki) : VC Tryd.prog 43 [(true, tDisk X), (false, [.lit (.int .i64 (name))])] true [(false, [.seq 62 (((DiskD.read X name).getD []).map tRow)]), (false, [.lit (.bool (DiskD.read X name).isSome)])] := by
  refine VC.enter Tryd.func43 rfl Tryd.ntmps43 (gle rfl) fun E hE => ?_
  refine SV.seq' ?_
  refine SV.region ?_
  refine SV.op (OpMk.ok (ok_box (kk := 0) (ag := true) (xs := [.ro _, .sc _]) rfl rfl rfl (fun h => by cases h) rfl rfl (gle rfl))) rfl ?_
  refine SV.op (OpL.ok (nb := 1) (ok_move (v := V.one (.sc _)) (.inr rfl) rfl) rfl (gle rfl)) rfl ?_
  refine SV.op (OpL.ok (nb := 1) (ok_move (v := V.one (.sc _)) (.inr rfl) rfl) rfl (gle rfl)) rfl ?_
  refine SV.nil ?_
  refine SV.tn ?_
  refine SV.seq' ?_
  refine SV.region ?_
  refine SV.op (OpL.ok (nb := 1) (ok_load_bp (b := 0) (i := 0) (ag := true) (m := 2) (ys := [.ro _, .sc _]) rfl rfl rfl agg_impl_Disk sz_impl_Disk (fun h => by cases h) rfl rfl (gle rfl)) rfl (gle rfl)) rfl ?_
  refine SV.op (OpL.ok (nb := 1) (ok_move (v := V.one (.sc _)) (.inl rfl) rfl) rfl (gle rfl)) rfl ?_
  refine SV.op (OpMk.ok (ok_call (ls := [(false, [.sc _])]) rfl rfl ⟨_, _, Tryd.func61, rfl, by decide⟩ (vat_s' X name ki hX hki) ⟨⟨[.ro _, .sc _], rfl, ⟨rfl, rfl, trivial⟩⟩, ⟨[.sc _], rfl, ⟨rfl, trivial⟩⟩, trivial⟩ rfl (gle rfl))) rfl ?_
  refine SV.op (OpL.ok (nb := 1) (ok_move (v := V.one (.sc _)) (.inr rfl) rfl) rfl (gle rfl)) rfl ?_
  refine SV.nil ?_
  refine SV.tn ?_
  refine SV.seq' ?_
  refine SV.seq' ?_
  refine SV.draw [.q 0, .m 1, .q 2, .q 3, .q 4, .q 5, .q 6, .q 7, .q 8, .q 9, .q 10, .q 11, .q 12, .q 13, .q 14, .q 15, .q 16, .q 17, .q 18, .q 19, .q 20, .q 21, .q 22, .q 23, .q 24, .q 25, .q 26, .q 27, .q 28, .m 29, .m 30, .q 31, .q 32] [] (by kernel_rfl) (by kernel_rfl) ?_
  refine DW.q rfl (ok_load_bp (b := 0) (i := 0) (ag := true) (m := 2) (ys := [.ro _, .sc _]) rfl rfl rfl agg_impl_Disk sz_impl_Disk (fun h => by cases h) rfl rfl (gle rfl)) rfl rfl (gle rfl) (fun _ _ _ _ h => h) ?_
  refine DW.m [] rfl (ok_call (ls := [(false, [.sc _])]) rfl rfl ⟨_, _, Tryd.func9, rfl, by decide⟩ (vokdisk_s X hX hL) ⟨⟨[.ro _, .sc _], rfl, ⟨rfl, rfl, trivial⟩⟩, trivial⟩ rfl (gle rfl)) rfl (gle rfl) (gle rfl) (.inl rfl) (fun j hj => by cases hj) ?_
  refine DW.q rfl (ok_s1 (x := .tmp 11) (VScal.one rfl) (fun ρ h1 w => by go_simp; (try go_bits); with_reducible rfl) rfl) rfl rfl (gle rfl) (fun _ _ _ _ h => h) ?_
  refine DW.q rfl (ok_move (v := V.one (.sc _)) (.inl rfl) rfl) rfl rfl (gle rfl) (fun _ _ _ _ h => h) ?_
  refine DW.split (d := 13) rfl (fun hg0 => ?_) (fun hg0 => ?_)
  · skip   -- g0.T
    have ho : DiskD.read X name = none := DiskD.read_none (DiskD.file_bad (by simpa using hg0))
    refine DW.qN (V' := V.one .dead) rfl rfl rfl rfl (gle rfl) rfl rfl rfl (gle rfl) (fun _ _ _ _ h => h) ?_
    refine DW.qN (V' := V.one .dead) rfl rfl rfl rfl (gle rfl) rfl rfl rfl (gle rfl) (fun _ _ _ _ h => h) ?_
    refine DW.q rfl (ok_pickT (v := V.one (.sc _)) rfl rfl rfl) rfl rfl (gle rfl) (fun _ _ _ _ h => h) ?_
    refine DW.q rfl (ok_move (v := V.one (.sc _)) (.inl rfl) rfl) rfl rfl (gle rfl) (fun _ _ _ _ h => h) ?_
    refine DW.split (d := 17) rfl (fun hg1 => ?_) (fun hg1 => ?_)
    · skip   -- g1.T
      refine DW.qN (V' := V.one .dead) rfl rfl rfl rfl (gle rfl) rfl rfl rfl (gle rfl) (fun _ _ _ _ h => h) ?_
      refine DW.qN (V' := V.one .dead) rfl rfl rfl rfl (gle rfl) rfl rfl rfl (gle rfl) (fun _ _ _ _ h => h) ?_
      refine DW.qN (V' := V.one .dead) rfl rfl rfl rfl (gle rfl) rfl rfl rfl (gle rfl) (fun _ _ _ _ h => h) ?_
      refine DW.qN (V' := V.one .dead) rfl rfl rfl rfl (gle rfl) rfl rfl rfl (gle rfl) (fun _ _ _ _ h => h) ?_
      refine DW.qN (V' := V.one .dead) rfl rfl rfl rfl (gle rfl) rfl rfl rfl (gle rfl) (fun _ _ _ _ h => h) ?_
      refine DW.qN (V' := V.one .dead) rfl rfl rfl rfl (gle rfl) rfl rfl rfl (gle rfl) (fun _ _ _ _ h => h) ?_
      refine DW.qN (V' := V.one .dead) rfl rfl rfl rfl (gle rfl) rfl rfl rfl (gle rfl) (fun _ _ _ _ h => h) ?_
      refine DW.q rfl (ok_pickT (v := V.one (.sc _)) rfl rfl rfl) rfl rfl (gle rfl) (fun _ _ _ _ h => h) ?_
      refine DW.q rfl (ok_move (v := V.one (.sc _)) (.inl rfl) rfl) rfl rfl (gle rfl) (fun _ _ _ _ h => h) ?_
      refine DW.split (d := 26) rfl (fun hg2 => ?_) (fun hg2 => ?_)
      · skip   -- g2.T
        refine DW.qN (V' := V.one .dead) rfl rfl rfl rfl (gle rfl) rfl rfl rfl (gle rfl) (fun _ _ _ _ h => h) ?_
        refine DW.qN (V' := V.one .dead) rfl rfl rfl rfl (gle rfl) rfl rfl rfl (gle rfl) (fun _ _ _ _ h => h) ?_
        refine DW.qN (V' := V.one .dead) rfl rfl rfl rfl (gle rfl) rfl rfl rfl (gle rfl) (fun _ _ _ _ h => h) ?_
        refine DW.qN (V' := V.one .dead) rfl rfl rfl rfl (gle rfl) rfl rfl rfl (gle rfl) (fun _ _ _ _ h => h) ?_
        refine DW.qN (V' := V.one .dead) rfl rfl rfl rfl (gle rfl) rfl rfl rfl (gle rfl) (fun _ _ _ _ h => h) ?_
        refine DW.qN (V' := V.one .dead) rfl rfl rfl rfl (gle rfl) rfl rfl rfl (gle rfl) (fun _ _ _ _ h => h) ?_
        refine DW.qN (V' := V.one .dead) rfl rfl rfl rfl (gle rfl) rfl rfl rfl (gle rfl) (fun _ _ _ _ h => h) ?_
        refine DW.qN (V' := V.one .dead) rfl rfl rfl rfl (gle rfl) rfl rfl rfl (gle rfl) (fun _ _ _ _ h => h) ?_
        refine DW.qN (V' := V.one .dead) rfl rfl rfl rfl (gle rfl) rfl rfl rfl (gle rfl) (fun _ _ _ _ h => h) ?_
        refine DW.qN (V' := V.one .dead) rfl rfl rfl rfl (gle rfl) rfl rfl rfl (gle rfl) (fun _ _ _ _ h => h) ?_
        refine DW.qN (V' := V.one .dead) rfl rfl rfl rfl (gle rfl) rfl rfl rfl (gle rfl) (fun _ _ _ _ h => h) ?_
        refine DW.qN (V' := V.one .dead) rfl rfl rfl rfl (gle rfl) rfl rfl rfl (gle rfl) (fun _ _ _ _ h => h) ?_
        refine DW.mN rfl rfl rfl rfl (gle rfl) rfl rfl rfl (gle rfl) ?_
        refine DW.mN rfl rfl rfl rfl (gle rfl) rfl rfl rfl (gle rfl) ?_
        refine DW.qN (V' := V.one .dead) rfl rfl rfl rfl (gle rfl) rfl rfl rfl (gle rfl) (fun _ _ _ _ h => h) ?_
        refine DW.q rfl (ok_pickT (v := V.one (.sc _)) rfl rfl rfl) rfl rfl (gle rfl) (fun _ _ _ _ h => h) ?_
        refine DW.stores ?_
        refine SV.zend ?_
        refine SV.tn ?_
        refine SV.cond rfl (fun hc0 => ?_) (fun hc0 => ?_)
        · skip   -- c0.T
          refine SV.seq' ?_
          refine SV.region ?_
          refine SV.op (OpMk.ok (ok_lit0 (kk := 0) elt_impl_Row rfl rfl rfl (gle rfl))) rfl ?_
          refine SV.op (OpL.ok (nb := 1) (ok_move (v := V.one (.hd 0)) (.inr rfl) rfl) rfl (gle rfl)) rfl ?_
          refine SV.op (OpL.ok (nb := 1) (ok_move (v := V.one (.sc _)) (.inr rfl) rfl) rfl (gle rfl)) rfl ?_
          refine SV.nil ?_
          refine SV.tn ?_
          refine SV.ret ?_
          refine SV.tr ?_
          apply SV.done (hf := Tryd.results43) (ht := rfl) (he := .inl rfl)
          case hr => exact (ResAll.cons (ResOk.tmp (ag := false) (xs := [.hd 0]) rfl) (ResAll.cons (ResOk.tmp (ag := false) (xs := [.sc _]) rfl) ResAll.nil'))
          case h2 => simp [two]
          refine ⟨rfl, ⟨?_, trivial⟩, ⟨rfl, ⟨?_, trivial⟩, trivial⟩⟩ <;> (rw [ho]; rfl)
        · skip   -- c0.F
          cases hc0
      · skip   -- g2.F
        simp at hg2
    · skip   -- g1.F
      simp at hg1
  · skip   -- g0.F
    have hok : DiskD.okD X = true := by simpa using hg0
    refine DW.qY rfl (ok_move (v := V.one (.sc _)) (.inl rfl) rfl) rfl rfl rfl (gle rfl) rfl rfl rfl (gle rfl) (fun _ _ _ _ h => h) ?_
    refine DW.qY rfl (ok_s2 (x := .tmp 14) (x' := .const ((Value.int IntKind.i64 0))) (VScal.one rfl) (VScal.one rfl) (fun ρ h1 h2 w => by go_simp; (try go_bits); with_reducible rfl) rfl) rfl rfl rfl (gle rfl) rfl rfl rfl (gle rfl) (fun _ _ _ _ h => h) ?_
    refine DW.q rfl (ok_pickF (v := V.one (.sc _)) rfl rfl rfl) rfl rfl (gle rfl) (fun _ _ _ _ h => h) ?_
    refine DW.q rfl (ok_move (v := V.one (.sc _)) (.inl rfl) rfl) rfl rfl (gle rfl) (fun _ _ _ _ h => h) ?_
    refine DW.split (d := 17) rfl (fun hg3 => ?_) (fun hg3 => ?_)
    · skip   -- g3.T
      have hk : DiskD.at? X.fFiles name = none := by
        rcases DiskD.atI_cases X.fFiles name with h | ⟨k, f, h1, h2, h3⟩
        · exact h.1
        · exfalso; simp at hg3; omega
      have ho : DiskD.read X name = none := DiskD.read_none (DiskD.file_none hk)
      refine DW.qN (V' := V.one .dead) rfl rfl rfl rfl (gle rfl) rfl rfl rfl (gle rfl) (fun _ _ _ _ h => h) ?_
      refine DW.qN (V' := V.one .dead) rfl rfl rfl rfl (gle rfl) rfl rfl rfl (gle rfl) (fun _ _ _ _ h => h) ?_
      refine DW.qN (V' := V.one .dead) rfl rfl rfl rfl (gle rfl) rfl rfl rfl (gle rfl) (fun _ _ _ _ h => h) ?_
      refine DW.qN (V' := V.one .dead) rfl rfl rfl rfl (gle rfl) rfl rfl rfl (gle rfl) (fun _ _ _ _ h => h) ?_
      refine DW.qN (V' := V.one .dead) rfl rfl rfl rfl (gle rfl) rfl rfl rfl (gle rfl) (fun _ _ _ _ h => h) ?_
      refine DW.qN (V' := V.one .dead) rfl rfl rfl rfl (gle rfl) rfl rfl rfl (gle rfl) (fun _ _ _ _ h => h) ?_
      refine DW.qN (V' := V.one .dead) rfl rfl rfl rfl (gle rfl) rfl rfl rfl (gle rfl) (fun _ _ _ _ h => h) ?_
      refine DW.q rfl (ok_pickT (v := V.one (.sc _)) rfl rfl rfl) rfl rfl (gle rfl) (fun _ _ _ _ h => h) ?_
      refine DW.q rfl (ok_move (v := V.one (.sc _)) (.inl rfl) rfl) rfl rfl (gle rfl) (fun _ _ _ _ h => h) ?_
      refine DW.split (d := 26) rfl (fun hg4 => ?_) (fun hg4 => ?_)
      · skip   -- g4.T
        refine DW.qN (V' := V.one .dead) rfl rfl rfl rfl (gle rfl) rfl rfl rfl (gle rfl) (fun _ _ _ _ h => h) ?_
        refine DW.qN (V' := V.one .dead) rfl rfl rfl rfl (gle rfl) rfl rfl rfl (gle rfl) (fun _ _ _ _ h => h) ?_
        refine DW.qN (V' := V.one .dead) rfl rfl rfl rfl (gle rfl) rfl rfl rfl (gle rfl) (fun _ _ _ _ h => h) ?_
        refine DW.qN (V' := V.one .dead) rfl rfl rfl rfl (gle rfl) rfl rfl rfl (gle rfl) (fun _ _ _ _ h => h) ?_
        refine DW.qN (V' := V.one .dead) rfl rfl rfl rfl (gle rfl) rfl rfl rfl (gle rfl) (fun _ _ _ _ h => h) ?_
        refine DW.qN (V' := V.one .dead) rfl rfl rfl rfl (gle rfl) rfl rfl rfl (gle rfl) (fun _ _ _ _ h => h) ?_
        refine DW.qN (V' := V.one .dead) rfl rfl rfl rfl (gle rfl) rfl rfl rfl (gle rfl) (fun _ _ _ _ h => h) ?_
        refine DW.qN (V' := V.one .dead) rfl rfl rfl rfl (gle rfl) rfl rfl rfl (gle rfl) (fun _ _ _ _ h => h) ?_
        refine DW.qN (V' := V.one .dead) rfl rfl rfl rfl (gle rfl) rfl rfl rfl (gle rfl) (fun _ _ _ _ h => h) ?_
        refine DW.qN (V' := V.one .dead) rfl rfl rfl rfl (gle rfl) rfl rfl rfl (gle rfl) (fun _ _ _ _ h => h) ?_
        refine DW.qN (V' := V.one .dead) rfl rfl rfl rfl (gle rfl) rfl rfl rfl (gle rfl) (fun _ _ _ _ h => h) ?_
        refine DW.qN (V' := V.one .dead) rfl rfl rfl rfl (gle rfl) rfl rfl rfl (gle rfl) (fun _ _ _ _ h => h) ?_
        refine DW.mN rfl rfl rfl rfl (gle rfl) rfl rfl rfl (gle rfl) ?_
        refine DW.mN rfl rfl rfl rfl (gle rfl) rfl rfl rfl (gle rfl) ?_
        refine DW.qN (V' := V.one .dead) rfl rfl rfl rfl (gle rfl) rfl rfl rfl (gle rfl) (fun _ _ _ _ h => h) ?_
        refine DW.q rfl (ok_pickT (v := V.one (.sc _)) rfl rfl rfl) rfl rfl (gle rfl) (fun _ _ _ _ h => h) ?_
        refine DW.stores ?_
        refine SV.zend ?_
        refine SV.tn ?_
        refine SV.cond rfl (fun hc1 => ?_) (fun hc1 => ?_)
        · skip   -- c1.T
          refine SV.seq' ?_
          refine SV.region ?_
          refine SV.op (OpMk.ok (ok_lit0 (kk := 0) elt_impl_Row rfl rfl rfl (gle rfl))) rfl ?_
          refine SV.op (OpL.ok (nb := 1) (ok_move (v := V.one (.hd 0)) (.inr rfl) rfl) rfl (gle rfl)) rfl ?_
          refine SV.op (OpL.ok (nb := 1) (ok_move (v := V.one (.sc _)) (.inr rfl) rfl) rfl (gle rfl)) rfl ?_
          refine SV.nil ?_
          refine SV.tn ?_
          refine SV.ret ?_
          refine SV.tr ?_
          apply SV.done (hf := Tryd.results43) (ht := rfl) (he := .inl rfl)
          case hr => exact (ResAll.cons (ResOk.tmp (ag := false) (xs := [.hd 0]) rfl) (ResAll.cons (ResOk.tmp (ag := false) (xs := [.sc _]) rfl) ResAll.nil'))
          case h2 => simp [two]
          refine ⟨rfl, ⟨?_, trivial⟩, ⟨rfl, ⟨?_, trivial⟩, trivial⟩⟩ <;> (rw [ho]; rfl)
        · skip   -- c1.F
          cases hc1
      · skip   -- g4.F
        simp at hg4
    · skip   -- g3.F
      obtain ⟨k, f, h1, hx, h3⟩ : ∃ (k : Nat) (f : FileD), DiskD.at? X.fFiles name = some k ∧ X.fFiles[k]? = some f ∧ DiskD.atI X.fFiles name = (k : Int) := by
        rcases DiskD.atI_cases X.fFiles name with h | h
        · exfalso; simp at hg3; omega
        · exact h
      obtain rfl : ki = (k : Int) := hki.symm.trans h3
      have hf := DiskD.read_eq (DiskD.file_some hok h1 hx)
      have hkl : k < X.fFiles.length := get_lt hx
      have hP := (hX.1 f (get_mem hx)).2.1
      have hw1 : wtPages f.fPages ≤ wtDisk X := by
        have h4 := wt_file_at X.fFiles k hkl
        have h5 : X.fFiles[k] = f := by have := hx; rw [List.getElem?_eq_getElem hkl] at this; exact Option.some.inj this
        rw [h5] at h4; exact h4
      have hw2 := wt_page_len f.fPages
      have hw3 := flat_wt f.fPages
      have hK : (R.fmtPages f.fPages).length ≤ 1000000000000 := by have := fmtPages_len f.fPages; omega
      refine DW.qY rfl (ok_field_bp (b := 0) (o' := 0) (off := 0) rfl rfl fld_impl_Disk_0) rfl rfl rfl (gle rfl) rfl rfl rfl (gle rfl) (fun _ _ _ _ h => h) ?_
      refine DW.qY rfl (ok_load_bp (b := 0) (i := 0) (ag := false) (m := 1) (ys := [.ro _]) rfl rfl rfl agg_s_impl_File sz_s_impl_File (fun _ => rfl) rfl rfl (gle rfl)) rfl rfl rfl (gle rfl) rfl rfl rfl (gle rfl) (fun _ _ _ _ h => h) ?_
      refine DW.qY rfl (ok_move (v := V.one (.sc _)) (.inl rfl) rfl) rfl rfl rfl (gle rfl) rfl rfl rfl (gle rfl) (fun _ _ _ _ h => h) ?_
      refine DW.qY rfl (ok_index (n := 4) (lf := .ro _) rfl elt_impl_File.und sz_impl_File rfl rfl rfl (map_at (by assumption))) rfl rfl rfl (gle rfl) rfl rfl rfl (gle rfl) (fun _ _ _ _ h => h) ?_
      refine DW.qY rfl (ok_field_el (p := .rp _) (off := 3) rfl rfl rfl fld_impl_File_3) rfl rfl rfl (gle rfl) rfl rfl rfl (gle rfl) (fun _ _ _ _ h => h) ?_
      refine DW.qY rfl (ok_load_rp (ag := false) (m := 1) (ys := [.sc _]) rfl rfl agg_bool sz_bool (fun _ => rfl) (gle rfl) rfl) rfl rfl rfl (gle rfl) rfl rfl rfl (gle rfl) (fun _ _ _ _ h => h) ?_
      refine DW.qY rfl (ok_s1 (x := .tmp 23) (VScal.one rfl) (fun ρ h1 w => by go_simp; (try go_bits); with_reducible rfl) rfl) rfl rfl rfl (gle rfl) rfl rfl rfl (gle rfl) (fun _ _ _ _ h => h) ?_
      refine DW.q rfl (ok_pickF (v := V.one (.sc _)) rfl rfl rfl) rfl rfl (gle rfl) (fun _ _ _ _ h => h) ?_
      refine DW.q rfl (ok_move (v := V.one (.sc _)) (.inl rfl) rfl) rfl rfl (gle rfl) (fun _ _ _ _ h => h) ?_
      refine DW.split (d := 26) rfl (fun hg5 => ?_) (fun hg5 => ?_)
      · skip   -- g5.T
        have ho : DiskD.read X name = none := by rw [hf, if_neg (by unfold FileD.whole; simp at hg5; simp [hg5])]
        refine DW.qN (V' := V.one .dead) rfl rfl rfl rfl (gle rfl) rfl rfl rfl (gle rfl) (fun _ _ _ _ h => h) ?_
        refine DW.qN (V' := V.one .dead) rfl rfl rfl rfl (gle rfl) rfl rfl rfl (gle rfl) (fun _ _ _ _ h => h) ?_
        refine DW.qN (V' := V.one .dead) rfl rfl rfl rfl (gle rfl) rfl rfl rfl (gle rfl) (fun _ _ _ _ h => h) ?_
        refine DW.qN (V' := V.one .dead) rfl rfl rfl rfl (gle rfl) rfl rfl rfl (gle rfl) (fun _ _ _ _ h => h) ?_
        refine DW.qN (V' := V.one .dead) rfl rfl rfl rfl (gle rfl) rfl rfl rfl (gle rfl) (fun _ _ _ _ h => h) ?_
        refine DW.qN (V' := V.one .dead) rfl rfl rfl rfl (gle rfl) rfl rfl rfl (gle rfl) (fun _ _ _ _ h => h) ?_
        refine DW.qN (V' := V.one .dead) rfl rfl rfl rfl (gle rfl) rfl rfl rfl (gle rfl) (fun _ _ _ _ h => h) ?_
        refine DW.qN (V' := V.one .dead) rfl rfl rfl rfl (gle rfl) rfl rfl rfl (gle rfl) (fun _ _ _ _ h => h) ?_
        refine DW.qN (V' := V.one .dead) rfl rfl rfl rfl (gle rfl) rfl rfl rfl (gle rfl) (fun _ _ _ _ h => h) ?_
        refine DW.qN (V' := V.one .dead) rfl rfl rfl rfl (gle rfl) rfl rfl rfl (gle rfl) (fun _ _ _ _ h => h) ?_
        refine DW.qN (V' := V.one .dead) rfl rfl rfl rfl (gle rfl) rfl rfl rfl (gle rfl) (fun _ _ _ _ h => h) ?_
        refine DW.qN (V' := V.one .dead) rfl rfl rfl rfl (gle rfl) rfl rfl rfl (gle rfl) (fun _ _ _ _ h => h) ?_
        refine DW.mN rfl rfl rfl rfl (gle rfl) rfl rfl rfl (gle rfl) ?_
        refine DW.mN rfl rfl rfl rfl (gle rfl) rfl rfl rfl (gle rfl) ?_
        refine DW.qN (V' := V.one .dead) rfl rfl rfl rfl (gle rfl) rfl rfl rfl (gle rfl) (fun _ _ _ _ h => h) ?_
        refine DW.q rfl (ok_pickT (v := V.one (.sc _)) rfl rfl rfl) rfl rfl (gle rfl) (fun _ _ _ _ h => h) ?_
        refine DW.stores ?_
        refine SV.zend ?_
        refine SV.tn ?_
        refine SV.cond rfl (fun hc2 => ?_) (fun hc2 => ?_)
        · skip   -- c2.T
          refine SV.seq' ?_
          refine SV.region ?_
          refine SV.op (OpMk.ok (ok_lit0 (kk := 0) elt_impl_Row rfl rfl rfl (gle rfl))) rfl ?_
          refine SV.op (OpL.ok (nb := 1) (ok_move (v := V.one (.hd 0)) (.inr rfl) rfl) rfl (gle rfl)) rfl ?_
          refine SV.op (OpL.ok (nb := 1) (ok_move (v := V.one (.sc _)) (.inr rfl) rfl) rfl (gle rfl)) rfl ?_
          refine SV.nil ?_
          refine SV.tn ?_
          refine SV.ret ?_
          refine SV.tr ?_
          apply SV.done (hf := Tryd.results43) (ht := rfl) (he := .inl rfl)
          case hr => exact (ResAll.cons (ResOk.tmp (ag := false) (xs := [.hd 0]) rfl) (ResAll.cons (ResOk.tmp (ag := false) (xs := [.sc _]) rfl) ResAll.nil'))
          case h2 => simp [two]
          refine ⟨rfl, ⟨?_, trivial⟩, ⟨rfl, ⟨?_, trivial⟩, trivial⟩⟩ <;> (rw [ho]; rfl)
        · skip   -- c2.F
          cases hc2
      · skip   -- g5.F
        refine DW.qY rfl (ok_field_bp (b := 0) (o' := 0) (off := 0) rfl rfl fld_impl_Disk_0) rfl rfl rfl (gle rfl) rfl rfl rfl (gle rfl) (fun _ _ _ _ h => h) ?_
        refine DW.qY rfl (ok_load_bp (b := 0) (i := 0) (ag := false) (m := 1) (ys := [.ro _]) rfl rfl rfl agg_s_impl_File sz_s_impl_File (fun _ => rfl) rfl rfl (gle rfl)) rfl rfl rfl (gle rfl) rfl rfl rfl (gle rfl) (fun _ _ _ _ h => h) ?_
        refine DW.qY rfl (ok_move (v := V.one (.sc _)) (.inl rfl) rfl) rfl rfl rfl (gle rfl) rfl rfl rfl (gle rfl) (fun _ _ _ _ h => h) ?_
        refine DW.qY rfl (ok_index (n := 4) (lf := .ro _) rfl elt_impl_File.und sz_impl_File rfl rfl rfl (map_at (by assumption))) rfl rfl rfl (gle rfl) rfl rfl rfl (gle rfl) (fun _ _ _ _ h => h) ?_
        refine DW.qY rfl (ok_field_el (p := .rp _) (off := 2) rfl rfl rfl fld_impl_File_2) rfl rfl rfl (gle rfl) rfl rfl rfl (gle rfl) (fun _ _ _ _ h => h) ?_
        refine DW.qY rfl (ok_load_rp (ag := false) (m := 1) (ys := [.sc _]) rfl rfl agg_int sz_int (fun _ => rfl) (gle rfl) rfl) rfl rfl rfl (gle rfl) rfl rfl rfl (gle rfl) (fun _ _ _ _ h => h) ?_
        refine DW.qY rfl (ok_field_bp (b := 0) (o' := 0) (off := 0) rfl rfl fld_impl_Disk_0) rfl rfl rfl (gle rfl) rfl rfl rfl (gle rfl) (fun _ _ _ _ h => h) ?_
        refine DW.qY rfl (ok_load_bp (b := 0) (i := 0) (ag := false) (m := 1) (ys := [.ro _]) rfl rfl rfl agg_s_impl_File sz_s_impl_File (fun _ => rfl) rfl rfl (gle rfl)) rfl rfl rfl (gle rfl) rfl rfl rfl (gle rfl) (fun _ _ _ _ h => h) ?_
        refine DW.qY rfl (ok_move (v := V.one (.sc _)) (.inl rfl) rfl) rfl rfl rfl (gle rfl) rfl rfl rfl (gle rfl) (fun _ _ _ _ h => h) ?_
        refine DW.qY rfl (ok_index (n := 4) (lf := .ro _) rfl elt_impl_File.und sz_impl_File rfl rfl rfl (map_at (by assumption))) rfl rfl rfl (gle rfl) rfl rfl rfl (gle rfl) (fun _ _ _ _ h => h) ?_
        refine DW.qY rfl (ok_field_el (p := .rp _) (off := 1) rfl rfl rfl fld_impl_File_1) rfl rfl rfl (gle rfl) rfl rfl rfl (gle rfl) (fun _ _ _ _ h => h) ?_
        refine DW.qY rfl (ok_load_rp (ag := false) (m := 1) (ys := [.ro _]) rfl rfl agg_s_impl_Page sz_s_impl_Page (fun _ => rfl) (gle rfl) rfl) rfl rfl rfl (gle rfl) rfl rfl rfl (gle rfl) (fun _ _ _ _ h => h) ?_
        refine DW.m' [] rfl (ok_call (ls := [(false, [.sc _])]) rfl rfl ⟨_, _, Tryd.func63, rfl, by decide⟩ (vfpages_s f.fPages hP (by omega) (by omega)) ⟨⟨[.ro _], rfl, ⟨rfl, trivial⟩⟩, trivial⟩ rfl (gle rfl)) (fun hr => wantedY hr rfl rfl rfl (gle rfl) rfl rfl) (gle rfl) (gle rfl) (.inl rfl) (fun j hj => by cases hj) ?_
        refine DW.m' [] rfl (ok_call (ls := [(false, [.sc _])]) rfl rfl ⟨_, _, Tryd.func62, rfl, by decide⟩ (vck_s (R.fmtPages f.fPages) hK) ⟨⟨[.sc _], rfl, ⟨rfl, trivial⟩⟩, trivial⟩ rfl (gle rfl)) (fun hr => wantedY hr rfl rfl rfl (gle rfl) rfl rfl) (gle rfl) (gle rfl) (.inl rfl) (fun j hj => by cases hj) ?_
        refine DW.qY rfl (ok_s2 (x := .tmp 32) (x' := .tmp 40) (VScal.one rfl) (VScal.one rfl) (fun ρ h1 h2 w => by go_simp; (try go_bits); with_reducible rfl) rfl) rfl rfl rfl (gle rfl) rfl rfl rfl (gle rfl) (fun _ _ _ _ h => h) ?_
        refine DW.q rfl (ok_pickF (v := V.one (.sc _)) rfl rfl rfl) rfl rfl (gle rfl) (fun _ _ _ _ h => h) ?_
        refine DW.stores ?_
        refine SV.zend ?_
        refine SV.tn ?_
        refine SV.cond rfl (fun hc3 => ?_) (fun hc3 => ?_)
        · skip   -- c3.T
          have ho : DiskD.read X name = none := by rw [hf, if_neg (by unfold FileD.whole; simp at hg5 hc3; simp [hg5, hc3])]
          refine SV.seq' ?_
          refine SV.region ?_
          refine SV.op (OpMk.ok (ok_lit0 (kk := 0) elt_impl_Row rfl rfl rfl (gle rfl))) rfl ?_
          refine SV.op (OpL.ok (nb := 1) (ok_move (v := V.one (.hd 0)) (.inr rfl) rfl) rfl (gle rfl)) rfl ?_
          refine SV.op (OpL.ok (nb := 1) (ok_move (v := V.one (.sc _)) (.inr rfl) rfl) rfl (gle rfl)) rfl ?_
          refine SV.nil ?_
          refine SV.tn ?_
          refine SV.ret ?_
          refine SV.tr ?_
          apply SV.done (hf := Tryd.results43) (ht := rfl) (he := .inl rfl)
          case hr => exact (ResAll.cons (ResOk.tmp (ag := false) (xs := [.hd 0]) rfl) (ResAll.cons (ResOk.tmp (ag := false) (xs := [.sc _]) rfl) ResAll.nil'))
          case h2 => simp [two]
          refine ⟨rfl, ⟨?_, trivial⟩, ⟨rfl, ⟨?_, trivial⟩, trivial⟩⟩ <;> (rw [ho]; rfl)
        · skip   -- c3.F
          have ho := hf.trans (if_pos (by unfold FileD.whole; simp at hg5 hc3; simp [hg5, hc3]))
          refine SV.skip ?_
          refine SV.tn ?_
          refine SV.seq' ?_
          refine SV.region ?_
          refine SV.op (OpL.ok (nb := 1) (ok_field_bp (b := 0) (o' := 0) (off := 0) rfl rfl fld_impl_Disk_0) rfl (gle rfl)) rfl ?_
          refine SV.op (OpL.ok (nb := 1) (ok_load_bp (b := 0) (i := 0) (ag := false) (m := 1) (ys := [.ro _]) rfl rfl rfl agg_s_impl_File sz_s_impl_File (fun _ => rfl) rfl rfl (gle rfl)) rfl (gle rfl)) rfl ?_
          refine SV.op (OpL.ok (nb := 1) (ok_move (v := V.one (.sc _)) (.inl rfl) rfl) rfl (gle rfl)) rfl ?_
          refine SV.op (OpL.ok (nb := 1) (ok_index (n := 4) (lf := .ro _) rfl elt_impl_File.und sz_impl_File rfl rfl rfl (map_at (by assumption))) rfl (gle rfl)) rfl ?_
          refine SV.op (OpL.ok (nb := 1) (ok_field_el (p := .rp _) (off := 1) rfl rfl rfl fld_impl_File_1) rfl (gle rfl)) rfl ?_
          refine SV.op (OpL.ok (nb := 1) (ok_load_rp (ag := false) (m := 1) (ys := [.ro _]) rfl rfl agg_s_impl_Page sz_s_impl_Page (fun _ => rfl) (gle rfl) rfl) rfl (gle rfl)) rfl ?_
          refine SV.op (OpMk.ok (ok_call (ls := [(false, [.hd 0])]) rfl rfl ⟨_, _, Tryd.func64, rfl, by decide⟩ (vunpack_s f.fPages hP (by omega)) ⟨⟨[.ro _], rfl, ⟨rfl, trivial⟩⟩, trivial⟩ rfl (gle rfl))) rfl ?_
          refine SV.op (OpL.ok (nb := 1) (ok_move (v := V.one (.hd 0)) (.inr rfl) rfl) rfl (gle rfl)) rfl ?_
          refine SV.op (OpL.ok (nb := 1) (ok_move (v := V.one (.sc _)) (.inr rfl) rfl) rfl (gle rfl)) rfl ?_
          refine SV.nil ?_
          refine SV.tn ?_
          refine SV.ret ?_
          apply SV.done (hf := Tryd.results43) (ht := rfl) (he := .inl rfl)
          case hr => exact (ResAll.cons (ResOk.tmp (ag := false) (xs := [.hd 0]) rfl) (ResAll.cons (ResOk.tmp (ag := false) (xs := [.sc _]) rfl) ResAll.nil'))
          case h2 => simp [two]
          refine ⟨rfl, ⟨?_, trivial⟩, ⟨rfl, ⟨?_, trivial⟩, trivial⟩⟩ <;> (rw [ho]; rfl)
end Go.Proofs.YtjdjceohlcimaaaDoor
/- Calls that yield the address of an element of a slice that may only be read: told by trees. -/
namespace Go.Proofs.YtjdjceohlcimaaaDoor.V
open Go Go.RowKit
set_option linter.unusedVariables false
variable {P : Program} {E : Env} {N nb : Nat} {σ : VS} {o : Oper} {w : World} {G : Ghost}
theorem ok_callPtR {d : Nat} {f : FuncId} {x0 : Operand} {xs : List Operand} {ats : Array TypeId} {qs : List (Bool × List T)} {n k : Nat} {ls : List Leaf} {ty : TypeId} {es : List (List T)} {e : List T} (ho : o.op = .call { callee := .value (.func f), args := (x0 :: xs).toArray, argTypes := ats }) (hb : ∃ fn c, P.funcs[f]? = some fn ∧ fn.body = some c ∧ fn.name ≠ "runtime.NumGoroutine")
    (hc : VPt P f qs n (some k)) (hx : σ.argss (x0 :: xs) qs) (h0 : σ.ev x0 = V.flat true (.ro (.seq ty es) :: ls)) (hz : Sz ty n) (he : es[k]? = some e) (hd : o.dst = some d) (hdN : d < N) : OpMk P E N none σ o (σ.put d ⟨true, [(false, [.rp e]), (false, [.sc (.bool true)])]⟩) :=
  fun a w G K Q h kk => by
    obtain ⟨fn, c, h1, h2, h2'⟩ := hb
    have hcall := hc w ((x0 :: xs).map a.eval) (h.args hx)
    have hrun : (execOp a.eval o).run P w = .ok (.enter f ((x0 :: xs).map a.eval).toArray) w := by
      simp [execOp, ho, resolve, Act.eval, Deferred.ofValue, invoke, callFunc, h1, h2, h2', Result.andThen]
    have hev := h.ev x0
    rw [h0, vflat] at hev
    obtain ⟨us, e1, e2, e3⟩ := hev
    obtain ⟨u0, hu0⟩ : ∃ u0, us[0]? = some u0 := ⟨us[0]'(by rw [e2]; simp), List.getElem?_eq_getElem _⟩
    obtain ⟨hi, -⟩ := e3 0 _ u0 rfl hu0
    have hi' : Inn E.old w (.seq ty es) u0 := hi
    cases hi' with
    | @seq ty es ad c n' hp hz' hn hc' hm ha0 b o' us' ha hb hcell hr =>
      have hnn := hz'.eq hz
      subst hnn
      have hkl := get_lt he
      have hne : es ≠ [] := fun hh => by rw [hh] at he; simp at he
      have had : ad = some ⟨b, o', none⟩ := by
        cases had : ad with
        | none => have := ha0 had; omega
        | some y => rw [ha y had hne]
      subst had
      unfold Oper.wp
      rw [hrun]
      refine hcall.mono fun r w' ⟨h7, _, h5⟩ => ?_
      obtain rfl := h5 k rfl us b o' es.length c (by show some (a.eval x0) = _; rw [e1]) hu0
      rw [hd]
      refine kk _ _ G ((h.ext h7).put hdN (vtwo ⟨⟨b, o' + k * n', fun j => us' (k * n' + j), rfl, (hb hne).1, fun j t hj => ⟨?_, ?_⟩⟩, .inr rfl⟩ ⟨rfl, .inr rfl⟩)) ⟨h7.size, .of_below (h7.mono h.low), fun _ _ => rfl, fun _ _ => rfl, fun b hb => .inl (h7.block b hb), fun i e1 e2 => absurd e2 (Nat.not_lt.2 e1)⟩
      · rw [Nat.add_assoc]
        exact (h7.cell (hb hne).2).trans (hcell k e j t he hj)
      · exact (hr k e j t he hj).frame h7.size fun b hb hb' => ⟨hb, h7.block b hb'⟩
theorem ok_nilcheckR {x : Operand} {es : List T} (ho : o.op = .nilCheck x) (hx : σ.ev x = V.one (.rp es)) : OpL P E N nb σ o (V.one (.rp es)) :=
  fun a w G h => ⟨a.eval x, fun v' _ => by
    have h0 := h.ev x
    rw [hx, vone] at h0
    obtain ⟨⟨b, q, us, h1, -⟩, -⟩ := h0
    simp [execOp, ho, h1], by rw [← hx]; exact h.ev x⟩
end Go.Proofs.YtjdjceohlcimaaaDoor.V
/- The program's ReadFile: told by trees. -/
namespace Go.Proofs.YtjdjceohlcimaaaDoor
open Go Go.RowKit V
set_option linter.unusedVariables false
set_option maxRecDepth 100000 in
set_option maxHeartbeats 2000000 in
theorem vwhole_i (x : FileD) (hP : ∀ p ∈ x.fPages, goodPage p) (hw : wtFile x ≤ 1000000000) : VCD Tryd.prog 32 [(true, tFile x)] false [(false, [.lit (.bool x.whole)])] := by
  refine VCD.enter Tryd.func32 rfl Tryd.ntmps32 (gle rfl) fun E hE hD => ?_
  have hw1 : wtPages x.fPages ≤ 1000000000 := hw
  have hw2 := wt_page_len x.fPages
  have hK : (R.fmtPages x.fPages).length ≤ 1000000000000 := by have := fmtPages_len x.fPages; omega
  refine SV.seq' ?_
  refine SV.region ?_
  refine SV.op (OpMk.ok (ok_box (kk := 0) (ag := true) (xs := [.sc _, .ro _, .sc _, .sc _]) rfl rfl rfl (fun h => by cases h) rfl rfl (gle rfl))) rfl ?_
  refine SV.op (OpL.ok (nb := 1) (ok_move (v := V.one (.sc _)) (.inr rfl) rfl) rfl (gle rfl)) rfl ?_
  refine SV.nil ?_
  refine SV.tn ?_
  refine SV.seq' ?_
  refine SV.draw [.q 0, .q 1, .q 2, .q 3, .q 4, .q 5, .q 6, .m 7, .q 8, .q 9, .q 10] [] (by kernel_rfl) (by kernel_rfl) ?_
  refine DW.q rfl (ok_field_bp (b := 0) (o' := 0) (off := 3) rfl rfl fld_impl_File_3) rfl rfl (gle rfl) (fun _ _ _ _ h => h) ?_
  refine DW.q rfl (ok_load_bp (b := 0) (i := 3) (ag := false) (m := 1) (ys := [.sc _]) rfl rfl rfl agg_bool sz_bool (fun _ => rfl) rfl rfl (gle rfl)) rfl rfl (gle rfl) (fun _ _ _ _ h => h) ?_
  refine DW.q rfl (ok_move (v := V.one (.sc _)) (.inl rfl) rfl) rfl rfl (gle rfl) (fun _ _ _ _ h => h) ?_
  refine DW.split (d := 5) rfl (fun hg0 => ?_) (fun hg0 => ?_)
  · skip   -- g0.T
    refine DW.qY rfl (ok_field_bp (b := 0) (o' := 0) (off := 2) rfl rfl fld_impl_File_2) rfl rfl rfl (gle rfl) rfl rfl rfl (gle rfl) (fun _ _ _ _ h => h) ?_
    refine DW.qY rfl (ok_load_bp (b := 0) (i := 2) (ag := false) (m := 1) (ys := [.sc _]) rfl rfl rfl agg_int sz_int (fun _ => rfl) rfl rfl (gle rfl)) rfl rfl rfl (gle rfl) rfl rfl rfl (gle rfl) (fun _ _ _ _ h => h) ?_
    refine DW.qY rfl (ok_field_bp (b := 0) (o' := 0) (off := 1) rfl rfl fld_impl_File_1) rfl rfl rfl (gle rfl) rfl rfl rfl (gle rfl) (fun _ _ _ _ h => h) ?_
    refine DW.qY rfl (ok_load_bp (b := 0) (i := 1) (ag := false) (m := 1) (ys := [.ro _]) rfl rfl rfl agg_s_impl_Page sz_s_impl_Page (fun _ => rfl) rfl rfl (gle rfl)) rfl rfl rfl (gle rfl) rfl rfl rfl (gle rfl) (fun _ _ _ _ h => h) ?_
    refine DW.m' [] rfl (ok_callD (ls := [(false, [.sc _])]) hD rfl rfl ⟨_, _, Tryd.func39, rfl, by decide⟩ (vcksp_i x.fPages hP (by omega) (by omega) hK) ⟨⟨[.ro _], rfl, ⟨rfl, trivial⟩⟩, trivial⟩ rfl (gle rfl)) (fun hr => wantedY hr rfl rfl rfl (gle rfl) rfl rfl) (gle rfl) (gle rfl) (.inl rfl) (fun j hj => by cases hj) ?_
    refine DW.qY rfl (ok_s2 (x := .tmp 7) (x' := .tmp 10) (VScal.one rfl) (VScal.one rfl) (fun ρ h1 h2 w => by go_simp; (try go_bits); with_reducible rfl) rfl) rfl rfl rfl (gle rfl) rfl rfl rfl (gle rfl) (fun _ _ _ _ h => h) ?_
    refine DW.q rfl (ok_pickT (v := V.one (.sc _)) rfl rfl rfl) rfl rfl (gle rfl) (fun _ _ _ _ h => h) ?_
    refine DW.q rfl (ok_move (v := V.one (.sc _)) (.inr rfl) rfl) rfl rfl (gle rfl) (fun _ _ _ _ h => h) ?_
    refine DW.stores ?_
    refine SV.zend ?_
    refine SV.tn ?_
    refine SV.ret ?_
    apply SV.done (hf := Tryd.results32) (ht := rfl) (he := .inl rfl)
    case hr => exact (ResAll.cons (ResOk.tmp (ag := false) (xs := [.sc _]) rfl) ResAll.nil')
    case h2 => simp [two]
    refine ⟨rfl, ⟨?_, trivial⟩, trivial⟩ <;> (show some (T.lit (Value.bool _)) = some (T.lit (Value.bool _)); refine congrArg (fun z => some (T.lit (Value.bool z))) ?_; unfold FileD.whole; first | (simp_all; done) | (simp_all; first | rfl | (rw [Bool.eq_iff_iff]; simp; done)))
  · skip   -- g0.F
    refine DW.qN (V' := V.one .dead) rfl rfl rfl rfl (gle rfl) rfl rfl rfl (gle rfl) (fun _ _ _ _ h => h) ?_
    refine DW.qN (V' := V.one .dead) rfl rfl rfl rfl (gle rfl) rfl rfl rfl (gle rfl) (fun _ _ _ _ h => h) ?_
    refine DW.qN (V' := V.one .dead) rfl rfl rfl rfl (gle rfl) rfl rfl rfl (gle rfl) (fun _ _ _ _ h => h) ?_
    refine DW.qN (V' := V.one .dead) rfl rfl rfl rfl (gle rfl) rfl rfl rfl (gle rfl) (fun _ _ _ _ h => h) ?_
    refine DW.mN rfl rfl rfl rfl (gle rfl) rfl rfl rfl (gle rfl) ?_
    refine DW.qN (V' := V.one .dead) rfl rfl rfl rfl (gle rfl) rfl rfl rfl (gle rfl) (fun _ _ _ _ h => h) ?_
    refine DW.q rfl (ok_pickF (v := V.one (.sc _)) rfl rfl rfl) rfl rfl (gle rfl) (fun _ _ _ _ h => h) ?_
    refine DW.q rfl (ok_move (v := V.one (.sc _)) (.inr rfl) rfl) rfl rfl (gle rfl) (fun _ _ _ _ h => h) ?_
    refine DW.stores ?_
    refine SV.zend ?_
    refine SV.tn ?_
    refine SV.ret ?_
    apply SV.done (hf := Tryd.results32) (ht := rfl) (he := .inl rfl)
    case hr => exact (ResAll.cons (ResOk.tmp (ag := false) (xs := [.sc _]) rfl) ResAll.nil')
    case h2 => simp [two]
    refine ⟨rfl, ⟨?_, trivial⟩, trivial⟩ <;> (show some (T.lit (Value.bool _)) = some (T.lit (Value.bool _)); refine congrArg (fun z => some (T.lit (Value.bool z))) ?_; unfold FileD.whole; first | (simp_all; done) | (simp_all; first | rfl | (rw [Bool.eq_iff_iff]; simp; done)))
set_option maxRecDepth 100000 in
set_option maxHeartbeats 2000000 in
theorem vread_i0 (X : DiskD) (name : Int) (hX : goodDisk X) (hL : wtDisk X ≤ 1000000000) (hf : DiskD.file X name = none) : VCD Tryd.prog 11 [(true, tDisk X), (false, [.lit (.int .i64 (name))])] true [(false, [.seq 62 (((DiskD.read X name).getD []).map tRow)]), (false, [.lit (.bool (DiskD.read X name).isSome)])] := by
  refine VCD.enter Tryd.func11 rfl Tryd.ntmps11 (gle rfl) fun E hE hD => ?_
  have ho : DiskD.read X name = none := DiskD.read_none hf
  have hv := vfind_i X name hX hL
  rw [hf] at hv
  refine SV.seq' ?_
  refine SV.region ?_
  refine SV.op (OpMk.ok (ok_box (kk := 0) (ag := true) (xs := [.ro _, .sc _]) rfl rfl rfl (fun h => by cases h) rfl rfl (gle rfl))) rfl ?_
  refine SV.op (OpL.ok (nb := 1) (ok_move (v := V.one (.sc _)) (.inr rfl) rfl) rfl (gle rfl)) rfl ?_
  refine SV.op (OpL.ok (nb := 1) (ok_move (v := V.one (.sc _)) (.inr rfl) rfl) rfl (gle rfl)) rfl ?_
  refine SV.nil ?_
  refine SV.tn ?_
  refine SV.seq' ?_
  refine SV.region ?_
  refine SV.op (OpL.ok (nb := 1) (ok_load_bp (b := 0) (i := 0) (ag := true) (m := 2) (ys := [.ro _, .sc _]) rfl rfl rfl agg_impl_Disk sz_impl_Disk (fun h => by cases h) rfl rfl (gle rfl)) rfl (gle rfl)) rfl ?_
  refine SV.op (OpL.ok (nb := 1) (ok_move (v := V.one (.sc _)) (.inl rfl) rfl) rfl (gle rfl)) rfl ?_
  refine SV.op (OpMk.ok (ok_callPt0 rfl ⟨_, _, Tryd.func31, rfl, by decide⟩ (hv) ⟨⟨[.ro _, .sc _], rfl, ⟨rfl, rfl, trivial⟩⟩, ⟨[.sc _], rfl, ⟨rfl, trivial⟩⟩, trivial⟩ rfl (gle rfl))) rfl ?_
  refine SV.op (OpL.ok (nb := 1) (ok_move (v := ⟨true, [(false, [.sc _]), (false, [.sc _])]⟩) (.inl rfl) rfl) rfl (gle rfl)) rfl ?_
  refine SV.op (OpL.ok (nb := 1) (ok_extract (ag := false) (xs := [.sc _]) rfl rfl rfl) rfl (gle rfl)) rfl ?_
  refine SV.op (OpL.ok (nb := 1) (ok_extract (ag := false) (xs := [.sc _]) rfl rfl rfl) rfl (gle rfl)) rfl ?_
  refine SV.op (OpL.ok (nb := 1) (ok_move (v := V.one (.sc _)) (.inr rfl) rfl) rfl (gle rfl)) rfl ?_
  refine SV.op (OpL.ok (nb := 1) (ok_move (v := V.one (.sc _)) (.inr rfl) rfl) rfl (gle rfl)) rfl ?_
  refine SV.nil ?_
  refine SV.tn ?_
  refine SV.seq' ?_
  refine SV.seq' ?_
  refine SV.region ?_
  refine SV.op (OpL.ok (nb := 1) (ok_move (v := V.one (.sc _)) (.inl rfl) rfl) rfl (gle rfl)) rfl ?_
  refine SV.op (OpL.ok (nb := 1) (ok_s1 (x := .tmp 14) (VScal.one rfl) (fun ρ h1 w => by go_simp; (try go_bits); with_reducible rfl) rfl) rfl (gle rfl)) rfl ?_
  refine SV.op (OpL.ok (nb := 1) (ok_move (v := V.one (.sc _)) (.inl rfl) rfl) rfl (gle rfl)) rfl ?_
  refine SV.split (d := 16) rfl (fun hg0 => ?_) (fun hg0 => ?_)
  · skip   -- g0.T
    refine SV.opN rfl rfl rfl (gle rfl) rfl rfl rfl (gle rfl) ?_
    refine SV.opN rfl rfl rfl (gle rfl) rfl rfl rfl (gle rfl) ?_
    refine SV.opN rfl rfl rfl (gle rfl) rfl rfl rfl (gle rfl) ?_
    refine SV.opN rfl rfl rfl (gle rfl) rfl rfl rfl (gle rfl) ?_
    refine SV.opN rfl rfl rfl (gle rfl) rfl rfl rfl (gle rfl) ?_
    refine SV.op (OpL.ok (nb := 1) (ok_pickT (v := V.one (.sc _)) rfl rfl rfl) rfl (gle rfl)) rfl ?_
    refine SV.nil ?_
    refine SV.tn ?_
    refine SV.cond rfl (fun hc0 => ?_) (fun hc0 => ?_)
    · skip   -- c0.T
      refine SV.seq' ?_
      refine SV.region ?_
      refine SV.op (OpL.ok (nb := 1) (ok_move (v := V.one (.sc _)) (.inr rfl) rfl) rfl (gle rfl)) rfl ?_
      refine SV.op (OpL.ok (nb := 1) (ok_move (v := V.one (.sc _)) (.inr rfl) rfl) rfl (gle rfl)) rfl ?_
      refine SV.nil ?_
      refine SV.tn ?_
      refine SV.ret ?_
      refine SV.tr ?_
      refine SV.nlsc (s := 4) (kk := 0) (n := 3) rfl rfl (by decide) sz_impl_Row (gle rfl) ?_
      apply SV.done (hf := Tryd.results11) (ht := rfl) (he := .inr rfl)
      case hr => exact (ResAll.cons (ResOk.tmp (ag := false) (xs := [.hd 0]) rfl) (ResAll.cons (ResOk.tmp (ag := false) (xs := [.sc _]) rfl) ResAll.nil'))
      case h2 => simp [two]
      refine ⟨rfl, ⟨?_, trivial⟩, ⟨rfl, ⟨?_, trivial⟩, trivial⟩⟩ <;> (rw [ho]; rfl)
    · skip   -- c0.F
      cases hc0
  · skip   -- g0.F
    simp at hg0
set_option maxRecDepth 100000 in
set_option maxHeartbeats 2000000 in
theorem vread_i1 (X : DiskD) (name : Int) (k : Nat) (f : FileD) (hX : goodDisk X) (hL : wtDisk X ≤ 1000000000) (hf : DiskD.file X name = some (k, f)) (hx : X.fFiles[k]? = some f) : VCD Tryd.prog 11 [(true, tDisk X), (false, [.lit (.int .i64 (name))])] true [(false, [.seq 62 (((DiskD.read X name).getD []).map tRow)]), (false, [.lit (.bool (DiskD.read X name).isSome)])] := by
  refine VCD.enter Tryd.func11 rfl Tryd.ntmps11 (gle rfl) fun E hE hD => ?_
  have hv := vfind_i X name hX hL
  rw [hf] at hv
  have hs := DiskD.read_eq hf
  have hkl : k < X.fFiles.length := get_lt hx
  have hP := (hX.1 f (get_mem hx)).2.1
  have hw1 : wtPages f.fPages ≤ wtDisk X := by
    have h4 := wt_file_at X.fFiles k hkl
    have h5 : X.fFiles[k] = f := by have := hx; rw [List.getElem?_eq_getElem hkl] at this; exact Option.some.inj this
    rw [h5] at h4; exact h4
  refine SV.seq' ?_
  refine SV.region ?_
  refine SV.op (OpMk.ok (ok_box (kk := 0) (ag := true) (xs := [.ro _, .sc _]) rfl rfl rfl (fun h => by cases h) rfl rfl (gle rfl))) rfl ?_
  refine SV.op (OpL.ok (nb := 1) (ok_move (v := V.one (.sc _)) (.inr rfl) rfl) rfl (gle rfl)) rfl ?_
  refine SV.op (OpL.ok (nb := 1) (ok_move (v := V.one (.sc _)) (.inr rfl) rfl) rfl (gle rfl)) rfl ?_
  refine SV.nil ?_
  refine SV.tn ?_
  refine SV.seq' ?_
  refine SV.region ?_
  refine SV.op (OpL.ok (nb := 1) (ok_load_bp (b := 0) (i := 0) (ag := true) (m := 2) (ys := [.ro _, .sc _]) rfl rfl rfl agg_impl_Disk sz_impl_Disk (fun h => by cases h) rfl rfl (gle rfl)) rfl (gle rfl)) rfl ?_
  refine SV.op (OpL.ok (nb := 1) (ok_move (v := V.one (.sc _)) (.inl rfl) rfl) rfl (gle rfl)) rfl ?_
  refine SV.op (OpMk.ok (ok_callPtR rfl ⟨_, _, Tryd.func31, rfl, by decide⟩ (hv) ⟨⟨[.ro _, .sc _], rfl, ⟨rfl, rfl, trivial⟩⟩, ⟨[.sc _], rfl, ⟨rfl, trivial⟩⟩, trivial⟩ rfl sz_impl_File (by rw [List.getElem?_map, hx]; rfl) rfl (gle rfl))) rfl ?_
  refine SV.op (OpL.ok (nb := 1) (ok_move (v := ⟨true, [(false, [.rp _]), (false, [.sc _])]⟩) (.inl rfl) rfl) rfl (gle rfl)) rfl ?_
  refine SV.op (OpL.ok (nb := 1) (ok_extract (ag := false) (xs := [.rp _]) rfl rfl rfl) rfl (gle rfl)) rfl ?_
  refine SV.op (OpL.ok (nb := 1) (ok_extract (ag := false) (xs := [.sc _]) rfl rfl rfl) rfl (gle rfl)) rfl ?_
  refine SV.op (OpL.ok (nb := 1) (ok_move (v := V.one (.rp _)) (.inr rfl) rfl) rfl (gle rfl)) rfl ?_
  refine SV.op (OpL.ok (nb := 1) (ok_move (v := V.one (.sc _)) (.inr rfl) rfl) rfl (gle rfl)) rfl ?_
  refine SV.nil ?_
  refine SV.tn ?_
  refine SV.seq' ?_
  refine SV.seq' ?_
  refine SV.region ?_
  refine SV.op (OpL.ok (nb := 1) (ok_move (v := V.one (.sc _)) (.inl rfl) rfl) rfl (gle rfl)) rfl ?_
  refine SV.op (OpL.ok (nb := 1) (ok_s1 (x := .tmp 14) (VScal.one rfl) (fun ρ h1 w => by go_simp; (try go_bits); with_reducible rfl) rfl) rfl (gle rfl)) rfl ?_
  refine SV.op (OpL.ok (nb := 1) (ok_move (v := V.one (.sc _)) (.inl rfl) rfl) rfl (gle rfl)) rfl ?_
  refine SV.split (d := 16) rfl (fun hg0 => ?_) (fun hg0 => ?_)
  · skip   -- g0.T
    simp at hg0
  · skip   -- g0.F
    refine SV.opY (OpL.ok (nb := 1) (ok_move (v := V.one (.rp _)) (.inl rfl) rfl) rfl (gle rfl)) rfl rfl rfl (gle rfl) rfl rfl ?_
    refine SV.opY (OpL.ok (nb := 1) (ok_nilcheckR rfl rfl) rfl (gle rfl)) rfl rfl rfl (gle rfl) rfl rfl ?_
    refine SV.opY (OpL.ok (nb := 1) (ok_load_rp (ag := true) (m := 4) (ys := [.sc _, .ro _, .sc _, .sc _]) rfl rfl agg_impl_File sz_impl_File (fun h => by cases h) (gle rfl) rfl) rfl (gle rfl)) rfl rfl rfl (gle rfl) rfl rfl ?_
    refine SV.opY (OpMk.ok (ok_callD (ls := [(false, [.sc _])]) hD rfl rfl ⟨_, _, Tryd.func32, rfl, by decide⟩ (vwhole_i f hP (by show wtPages f.fPages ≤ _; omega)) ⟨⟨[.sc _, .ro _, .sc _, .sc _], rfl, ⟨rfl, rfl, rfl, rfl, trivial⟩⟩, trivial⟩ rfl (gle rfl))) rfl rfl rfl (gle rfl) rfl rfl ?_
    refine SV.opY (OpL.ok (nb := 1) (ok_s1 (x := .tmp 20) (VScal.one rfl) (fun ρ h1 w => by go_simp; (try go_bits); with_reducible rfl) rfl) rfl (gle rfl)) rfl rfl rfl (gle rfl) rfl rfl ?_
    refine SV.op (OpL.ok (nb := 1) (ok_pickF (v := V.one (.sc _)) rfl rfl rfl) rfl (gle rfl)) rfl ?_
    refine SV.nil ?_
    refine SV.tn ?_
    refine SV.cond rfl (fun hc0 => ?_) (fun hc0 => ?_)
    · skip   -- c0.T
      have ho : DiskD.read X name = none := by rw [hs, if_neg (by simpa using hc0)]
      refine SV.seq' ?_
      refine SV.region ?_
      refine SV.op (OpL.ok (nb := 1) (ok_move (v := V.one (.sc _)) (.inr rfl) rfl) rfl (gle rfl)) rfl ?_
      refine SV.op (OpL.ok (nb := 1) (ok_move (v := V.one (.sc _)) (.inr rfl) rfl) rfl (gle rfl)) rfl ?_
      refine SV.nil ?_
      refine SV.tn ?_
      refine SV.ret ?_
      refine SV.tr ?_
      refine SV.nlsc (s := 4) (kk := 0) (n := 3) rfl rfl (by decide) sz_impl_Row (gle rfl) ?_
      apply SV.done (hf := Tryd.results11) (ht := rfl) (he := .inr rfl)
      case hr => exact (ResAll.cons (ResOk.tmp (ag := false) (xs := [.hd 0]) rfl) (ResAll.cons (ResOk.tmp (ag := false) (xs := [.sc _]) rfl) ResAll.nil'))
      case h2 => simp [two]
      refine ⟨rfl, ⟨?_, trivial⟩, ⟨rfl, ⟨?_, trivial⟩, trivial⟩⟩ <;> (rw [ho]; rfl)
    · skip   -- c0.F
      have ho := hs.trans (if_pos (by simpa using hc0))
      refine SV.skip ?_
      refine SV.tn ?_
      refine SV.seq' ?_
      refine SV.region ?_
      refine SV.op (OpL.ok (nb := 1) (ok_move (v := V.one (.rp _)) (.inl rfl) rfl) rfl (gle rfl)) rfl ?_
      refine SV.op (OpL.ok (nb := 1) (ok_nilcheckR rfl rfl) rfl (gle rfl)) rfl ?_
      refine SV.op (OpL.ok (nb := 1) (ok_field_el (p := .rp _) (off := 1) rfl rfl rfl fld_impl_File_1) rfl (gle rfl)) rfl ?_
      refine SV.op (OpL.ok (nb := 1) (ok_load_rp (ag := false) (m := 1) (ys := [.ro _]) rfl rfl agg_s_impl_Page sz_s_impl_Page (fun _ => rfl) (gle rfl) rfl) rfl (gle rfl)) rfl ?_
      refine SV.op (OpMk.ok (ok_call (ls := [(false, [.hd 0])]) rfl rfl ⟨_, _, Tryd.func33, rfl, by decide⟩ (vunpack_i f.fPages hP (by omega)) ⟨⟨[.ro _], rfl, ⟨rfl, trivial⟩⟩, trivial⟩ rfl (gle rfl))) rfl ?_
      refine SV.op (OpL.ok (nb := 1) (ok_move (v := V.one (.hd 0)) (.inr rfl) rfl) rfl (gle rfl)) rfl ?_
      refine SV.op (OpL.ok (nb := 1) (ok_move (v := V.one (.sc _)) (.inr rfl) rfl) rfl (gle rfl)) rfl ?_
      refine SV.nil ?_
      refine SV.tn ?_
      refine SV.ret ?_
      apply SV.done (hf := Tryd.results11) (ht := rfl) (he := .inl rfl)
      case hr => exact (ResAll.cons (ResOk.tmp (ag := false) (xs := [.hd 0]) rfl) (ResAll.cons (ResOk.tmp (ag := false) (xs := [.sc _]) rfl) ResAll.nil'))
      case h2 => simp [two]
      refine ⟨rfl, ⟨?_, trivial⟩, ⟨rfl, ⟨?_, trivial⟩, trivial⟩⟩ <;> (rw [ho]; rfl)
end Go.Proofs.YtjdjceohlcimaaaDoor
/- ReadFile, whole: told by trees. -/
namespace Go.Proofs.YtjdjceohlcimaaaDoor
open Go Go.RowKit V
set_option linter.unusedVariables false
theorem vread_s (X : DiskD) (name : Int) (hX : goodDisk X) (hL : wtDisk X ≤ 1000000000) : VC Tryd.prog 43 [(true, tDisk X), (false, [.lit (.int .i64 name)])] true [(false, [.seq 62 (((DiskD.read X name).getD []).map tRow)]), (false, [.lit (.bool (DiskD.read X name).isSome)])] := vread_s0 X name _ hX hL rfl
theorem vread_i (X : DiskD) (name : Int) (hX : goodDisk X) (hL : wtDisk X ≤ 1000000000) : VCD Tryd.prog 11 [(true, tDisk X), (false, [.lit (.int .i64 name)])] true [(false, [.seq 62 (((DiskD.read X name).getD []).map tRow)]), (false, [.lit (.bool (DiskD.read X name).isSome)])] := by
  cases h : DiskD.file X name with
  | none => exact vread_i0 X name hX hL h
  | some kf => exact vread_i1 X name kf.1 kf.2 hX hL h (DiskD.file_get h)
end Go.Proofs.YtjdjceohlcimaaaDoor
/- DeleteUnreadableFiles: which files are kept, and what lies in the copy while they are taken out of it. -/
namespace Go.Proofs.YtjdjceohlcimaaaDoor
open Go Go.RowKit V
set_option linter.unusedVariables false
def rdOk (X : DiskD) (f : FileD) : Bool := (DiskD.read X f.fName).isSome
theorem DiskD.purge_rd (X : DiskD) : DiskD.purge X = ⟨X.fFiles.filter (rdOk X), X.fNextName⟩ := by
  unfold DiskD.purge
  cases ho : DiskD.okD X with
  | false =>
    have h0 : X.fFiles.filter (rdOk X) = [] := by
      rw [List.filter_eq_nil_iff]
      intro f _
      unfold rdOk
      rw [DiskD.read_none (DiskD.file_bad ho)]
      simp
    rw [h0]
    rfl
  | true =>
    have h0 : X.fFiles.filter (rdOk X) = X.fFiles.filter FileD.whole := by
      refine List.filter_congr fun f hf => ?_
      obtain ⟨k, hk, rfl⟩ := List.getElem_of_mem hf
      have hx : X.fFiles[k]? = some X.fFiles[k] := by simp [hk]
      have hat := DiskD.at_hit hx rfl fun s g hs hg hn => by
        have := (DiskD.Ok.of ho).asc s k g _ hg hx hs
        omega
      unfold rdOk
      rw [DiskD.read_eq (DiskD.file_some ho hat hx)]
      cases X.fFiles[k].whole <;> rfl
    rw [h0]
    rfl
def takeT (q : FileD → Bool) (F : List FileD) (t : Nat) : List (List T) := (F.take t).map (fun f => if q f then (tFile f).set 1 .any else tFile f) ++ (F.drop t).map tFile
theorem takeT_len (q : FileD → Bool) (F : List FileD) (t : Nat) : (takeT q F t).length = F.length := by
  unfold takeT
  rw [List.length_append, List.length_map, List.length_map, List.length_take, List.length_drop]
  omega
theorem takeT_zero (q : FileD → Bool) (F : List FileD) : F.map tFile = takeT q F 0 := by unfold takeT; simp
theorem takeT_at {q : FileD → Bool} {F : List FileD} {t : Nat} {f : FileD} (h : F[t]? = some f) : (takeT q F t)[t]? = some (tFile f) := by
  have ht := V.get_lt h
  have hl : ((F.take t).map (fun f => if q f then (tFile f).set 1 T.any else tFile f)).length = t := by rw [List.length_map, List.length_take]; omega
  unfold takeT
  rw [List.getElem?_append_right (by omega), hl, Nat.sub_self, List.drop_eq_getElem_cons ht]
  rw [List.getElem?_eq_getElem ht] at h
  cases h
  rfl
theorem takeT_yes {q : FileD → Bool} {F : List FileD} {t : Nat} (h : t < F.length) (hq : q F[t] = true) : (takeT q F t).set t ((tFile F[t]).set 1 .any) = takeT q F (t + 1) := by
  have hl : ((F.take t).map (fun f => if q f then (tFile f).set 1 T.any else tFile f)).length = t := by rw [List.length_map, List.length_take]; omega
  unfold takeT
  rw [List.set_append_right _ _ (by omega), hl, Nat.sub_self, List.drop_eq_getElem_cons h, List.take_succ_eq_append_getElem h, List.map_append, List.append_assoc]
  refine congrArg _ ?_
  show ((tFile F[t]).set 1 .any) :: (F.drop (t + 1)).map tFile = (if q F[t] then (tFile F[t]).set 1 T.any else tFile F[t]) :: (F.drop (t + 1)).map tFile
  rw [if_pos hq]
theorem takeT_no {q : FileD → Bool} {F : List FileD} {t : Nat} (h : t < F.length) (hq : q F[t] = false) : takeT q F t = takeT q F (t + 1) := by
  unfold takeT
  rw [List.drop_eq_getElem_cons h, List.take_succ_eq_append_getElem h, List.map_append, List.append_assoc]
  refine congrArg _ ?_
  show tFile F[t] :: (F.drop (t + 1)).map tFile = (if q F[t] then (tFile F[t]).set 1 T.any else tFile F[t]) :: (F.drop (t + 1)).map tFile
  rw [if_neg (by rw [hq]; simp)]
end Go.Proofs.YtjdjceohlcimaaaDoor
