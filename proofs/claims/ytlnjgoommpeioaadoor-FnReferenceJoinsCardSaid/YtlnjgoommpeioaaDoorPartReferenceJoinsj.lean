/- Texts joined: PCmpG SortG PSortI PEq Tab VK Valids In Fmt Frows Iup Validi Frowi VFrow PairT FPairS. -/
import Derived.Test.YtlnjgoommpeioaaDoorPartReferenceJoinsi
import Derived.Shelf.SlSortCmp.NoneTotal
import Derived.Shelf.SlSortCmp.WholeK
import Derived.Test.YtlnjgoommpeioaaDoorShelfSort
import Derived.Test.YtlnjgoommpeioaaDoorRows
import Derived.Test.YtlnjgoommpeioaaDoorShelf
import Derived.Stop.LaidErr
import Derived.Stop.Joined
import Derived.LaidMore
import Derived.Lib.LaidTab
import Derived.Lib.SmallJoins
import Derived.Lib.ItoaNum
import Derived.Deep.RegionHeld3
/- The program's ComparePairs again: what it leaves of the world, as an equation (for the library's sort). -/
namespace Go.Proofs.YtlnjgoommpeioaaDoor
open Go.RowKit Go.Sort
def PairD.cells (x : PairD) : List Value := [.int .i64 x.fLeft.key, .int .i64 x.fLeft.value, .int .i64 x.fLeft.width, .int .i64 x.fRight.key, .int .i64 x.fRight.value, .int .i64 x.fRight.width, .bool x.fMatched]
theorem cbi (a b : Bool) (w : World) : Calls Tryd.prog 91 #[.bool a, .bool b] w fun e w' => e = .returned (.int .i64 (PairD.cb a b)) ∧ w' = w := by
  cases a <;> cases b <;> (go_enter Tryd.func91, Tryd.ntmps91; go_wp2_with fail; go_ret; exact ⟨rfl, rfl⟩)
/-- Grown out of W, draws aside. -/
def Grown (W v : World) : Prop := ∃ q os', v = grow (W.drewN q) os'
theorem Grown.refl (W : World) : Grown W W := ⟨0, #[], by rw [grow_empty]; rfl⟩
theorem Grown.drew {W v : World} (h : Grown W v) : Grown W v.drew := by
  obtain ⟨q, os, rfl⟩ := h
  exact ⟨q + 1, os, rfl⟩
theorem Grown.trans {W v u : World} (h : Grown W v) (k : Grown v u) : Grown W u := by
  obtain ⟨q, os, rfl⟩ := h
  obtain ⟨q', os', rfl⟩ := k
  refine ⟨q + q', os ++ os', ?_⟩
  show (⟨_, _, _, _, _⟩ : World) = ⟨_, _, _, _, _⟩
  simp [grow, World.drewN, Nat.add_assoc, Array.append_assoc]
theorem Grown.alloc (W : World) (o : Obj) : Grown W (W.alloc o) := ⟨0, #[o], by simp only [alloc_eq_grow]; rfl⟩
theorem Grown.cell {W v : World} (h : Grown W v) {b j : Nat} {u : Value} (hc : W.cell? ⟨b, j, none⟩ = some u) : v.cell? ⟨b, j, none⟩ = some u := by
  obtain ⟨q, os, rfl⟩ := h
  have hb : b < W.heap.size := by
    rcases Nat.lt_or_ge b W.heap.size with h' | h'
    · exact h'
    · simp [World.cell?, Array.getElem?_eq_none h'] at hc
  have e : (grow (W.drewN q) os).heap[b]? = W.heap[b]? := by
    show (W.heap ++ os)[b]? = _
    rw [Array.getElem?_append_left hb]
  simp only [World.cell?] at hc ⊢
  rw [e]; exact hc
set_option maxRecDepth 100000 in
set_option maxHeartbeats 2000000 in
theorem ipcmpG (x y : PairD) (w : World) : Calls Tryd.prog 38 #[.agg x.cells.toArray, .agg y.cells.toArray] w fun e w' => e = .returned (.int .i64 (PairD.cmp x y)) ∧ ∃ q os', w' = grow (w.drewN q) os' := by
  have HA := Lib.hid (cmp_first3 x y)
  obtain ⟨a, b, c⟩ := x
  obtain ⟨a', b', c'⟩ := y
  unfold PairD.cells
  simp only at HA ⊢
  obtain ⟨m, hm⟩ : ∃ m, m = R.cmp a a' := ⟨_, rfl⟩
  obtain ⟨n, hn⟩ : ∃ n, n = PairD.cb c c' := ⟨_, rfl⟩
  obtain ⟨p, hp⟩ : ∃ p, p = R.cmp b b' := ⟨_, rfl⟩
  have C1 := Lib.hid (icmpG a a')
  have C2 := Lib.hid (cbi c c')
  have C3 := Lib.hid (icmpG b b')
  unfold R.val at C1 C3
  rw [← hm] at C1 HA
  rw [← hn] at C2 HA
  rw [← hp] at C3 HA
  clear hm hn hp
  go_enter Tryd.func38, Tryd.ntmps38
  go_wp2_with fail
  obtain ⟨W, hW⟩ : ∃ W, W = (w.alloc (.cells #[.int .i64 a.key, .int .i64 a.value, .int .i64 a.width, .int .i64 b.key, .int .i64 b.value, .int .i64 b.width, .bool c] 57)).alloc (.cells #[.int .i64 a'.key, .int .i64 a'.value, .int .i64 a'.width, .int .i64 b'.key, .int .i64 b'.value, .int .i64 b'.width, .bool c'] 57) := ⟨_, rfl⟩
  rw [← hW]
  have HC : Hid (∀ v, Grown W v → v.cell? ⟨w.heap.size, 0, none⟩ = some (.int .i64 a.key) ∧ v.cell? ⟨w.heap.size, 1, none⟩ = some (.int .i64 a.value) ∧ v.cell? ⟨w.heap.size, 2, none⟩ = some (.int .i64 a.width) ∧ v.cell? ⟨w.heap.size, 3, none⟩ = some (.int .i64 b.key) ∧ v.cell? ⟨w.heap.size, 4, none⟩ = some (.int .i64 b.value) ∧ v.cell? ⟨w.heap.size, 5, none⟩ = some (.int .i64 b.width) ∧ v.cell? ⟨w.heap.size, 6, none⟩ = some (.bool c) ∧ v.cell? ⟨w.heap.size + 1, 0, none⟩ = some (.int .i64 a'.key) ∧ v.cell? ⟨w.heap.size + 1, 1, none⟩ = some (.int .i64 a'.value) ∧ v.cell? ⟨w.heap.size + 1, 2, none⟩ = some (.int .i64 a'.width) ∧ v.cell? ⟨w.heap.size + 1, 3, none⟩ = some (.int .i64 b'.key) ∧ v.cell? ⟨w.heap.size + 1, 4, none⟩ = some (.int .i64 b'.value) ∧ v.cell? ⟨w.heap.size + 1, 5, none⟩ = some (.int .i64 b'.width) ∧ v.cell? ⟨w.heap.size + 1, 6, none⟩ = some (.bool c')) := Lib.hid fun v hv => by
    subst hW
    refine ⟨?_, ?_, ?_, ?_, ?_, ?_, ?_, ?_, ?_, ?_, ?_, ?_, ?_, ?_⟩ <;> exact hv.cell (by simp)
  have HW : Hid (Grown w W) := Lib.hid (by subst hW; exact (Grown.alloc _ _).trans (Grown.alloc _ _))
  clear hW
  refine region_plan (Grown W) [.q 0, .q 1, .q 2, .q 3, .q 5, .q 6, .q 7, .q 8, .q 10, .q 11, .q 12, .q 13, .m 4, .m 9, .m 14, .m 15, .m 16, .q 17] [] (by kernel_rfl) (by kernel_rfl) (Grown.refl W).drew (fun hHeld => ?_)
  first | (refine pi_take (v := ?pv1_0) rfl (fun _ _ _ h => h) (by rfl) (fun v hv => ?pr1_0) ?rest1_0; case pr1_0 => (obtain ⟨d0, d1, d2, d3, d4, d5, d6, d7, d8, d9, d10, d11, d12, d13⟩ := HC.out v hv; go_simp; first | done | with_reducible rfl)) | (refine pi_pass rfl (fun _ _ _ h => h) (by rfl) ?_)
  try simp only [Act.put, List.setIfInBounds_toArray, List.set_cons_zero, List.set_cons_succ]
  first | (refine pi_take (v := ?pv1_1) rfl (fun _ _ _ h => h) (by rfl) (fun v hv => ?pr1_1) ?rest1_1; case pr1_1 => (obtain ⟨d0, d1, d2, d3, d4, d5, d6, d7, d8, d9, d10, d11, d12, d13⟩ := HC.out v hv; go_simp; first | done | with_reducible rfl)) | (refine pi_pass rfl (fun _ _ _ h => h) (by rfl) ?_)
  try simp only [Act.put, List.setIfInBounds_toArray, List.set_cons_zero, List.set_cons_succ]
  first | (refine pi_take (v := ?pv1_2) rfl (fun _ _ _ h => h) (by rfl) (fun v hv => ?pr1_2) ?rest1_2; case pr1_2 => (obtain ⟨d0, d1, d2, d3, d4, d5, d6, d7, d8, d9, d10, d11, d12, d13⟩ := HC.out v hv; go_simp; first | done | with_reducible rfl)) | (refine pi_pass rfl (fun _ _ _ h => h) (by rfl) ?_)
  try simp only [Act.put, List.setIfInBounds_toArray, List.set_cons_zero, List.set_cons_succ]
  first | (refine pi_take (v := ?pv1_3) rfl (fun _ _ _ h => h) (by rfl) (fun v hv => ?pr1_3) ?rest1_3; case pr1_3 => (obtain ⟨d0, d1, d2, d3, d4, d5, d6, d7, d8, d9, d10, d11, d12, d13⟩ := HC.out v hv; go_simp; first | done | with_reducible rfl)) | (refine pi_pass rfl (fun _ _ _ h => h) (by rfl) ?_)
  try simp only [Act.put, List.setIfInBounds_toArray, List.set_cons_zero, List.set_cons_succ]
  first | (refine pi_take (v := ?pv1_5) rfl (fun _ _ _ h => h) (by rfl) (fun v hv => ?pr1_5) ?rest1_5; case pr1_5 => (obtain ⟨d0, d1, d2, d3, d4, d5, d6, d7, d8, d9, d10, d11, d12, d13⟩ := HC.out v hv; go_simp; first | done | with_reducible rfl)) | (refine pi_pass rfl (fun _ _ _ h => h) (by rfl) ?_)
  try simp only [Act.put, List.setIfInBounds_toArray, List.set_cons_zero, List.set_cons_succ]
  first | (refine pi_take (v := ?pv1_6) rfl (fun _ _ _ h => h) (by rfl) (fun v hv => ?pr1_6) ?rest1_6; case pr1_6 => (obtain ⟨d0, d1, d2, d3, d4, d5, d6, d7, d8, d9, d10, d11, d12, d13⟩ := HC.out v hv; go_simp; first | done | with_reducible rfl)) | (refine pi_pass rfl (fun _ _ _ h => h) (by rfl) ?_)
  try simp only [Act.put, List.setIfInBounds_toArray, List.set_cons_zero, List.set_cons_succ]
  first | (refine pi_take (v := ?pv1_7) rfl (fun _ _ _ h => h) (by rfl) (fun v hv => ?pr1_7) ?rest1_7; case pr1_7 => (obtain ⟨d0, d1, d2, d3, d4, d5, d6, d7, d8, d9, d10, d11, d12, d13⟩ := HC.out v hv; go_simp; first | done | with_reducible rfl)) | (refine pi_pass rfl (fun _ _ _ h => h) (by rfl) ?_)
  try simp only [Act.put, List.setIfInBounds_toArray, List.set_cons_zero, List.set_cons_succ]
  first | (refine pi_take (v := ?pv1_8) rfl (fun _ _ _ h => h) (by rfl) (fun v hv => ?pr1_8) ?rest1_8; case pr1_8 => (obtain ⟨d0, d1, d2, d3, d4, d5, d6, d7, d8, d9, d10, d11, d12, d13⟩ := HC.out v hv; go_simp; first | done | with_reducible rfl)) | (refine pi_pass rfl (fun _ _ _ h => h) (by rfl) ?_)
  try simp only [Act.put, List.setIfInBounds_toArray, List.set_cons_zero, List.set_cons_succ]
  first | (refine pi_take (v := ?pv1_10) rfl (fun _ _ _ h => h) (by rfl) (fun v hv => ?pr1_10) ?rest1_10; case pr1_10 => (obtain ⟨d0, d1, d2, d3, d4, d5, d6, d7, d8, d9, d10, d11, d12, d13⟩ := HC.out v hv; go_simp; first | done | with_reducible rfl)) | (refine pi_pass rfl (fun _ _ _ h => h) (by rfl) ?_)
  try simp only [Act.put, List.setIfInBounds_toArray, List.set_cons_zero, List.set_cons_succ]
  first | (refine pi_take (v := ?pv1_11) rfl (fun _ _ _ h => h) (by rfl) (fun v hv => ?pr1_11) ?rest1_11; case pr1_11 => (obtain ⟨d0, d1, d2, d3, d4, d5, d6, d7, d8, d9, d10, d11, d12, d13⟩ := HC.out v hv; go_simp; first | done | with_reducible rfl)) | (refine pi_pass rfl (fun _ _ _ h => h) (by rfl) ?_)
  try simp only [Act.put, List.setIfInBounds_toArray, List.set_cons_zero, List.set_cons_succ]
  first | (refine pi_take (v := ?pv1_12) rfl (fun _ _ _ h => h) (by rfl) (fun v hv => ?pr1_12) ?rest1_12; case pr1_12 => (obtain ⟨d0, d1, d2, d3, d4, d5, d6, d7, d8, d9, d10, d11, d12, d13⟩ := HC.out v hv; go_simp; first | done | with_reducible rfl)) | (refine pi_pass rfl (fun _ _ _ h => h) (by rfl) ?_)
  try simp only [Act.put, List.setIfInBounds_toArray, List.set_cons_zero, List.set_cons_succ]
  first | (refine pi_take (v := ?pv1_13) rfl (fun _ _ _ h => h) (by rfl) (fun v hv => ?pr1_13) ?rest1_13; case pr1_13 => (obtain ⟨d0, d1, d2, d3, d4, d5, d6, d7, d8, d9, d10, d11, d12, d13⟩ := HC.out v hv; go_simp; first | done | with_reducible rfl)) | (refine pi_pass rfl (fun _ _ _ h => h) (by rfl) ?_)
  try simp only [Act.put, List.setIfInBounds_toArray, List.set_cons_zero, List.set_cons_succ]
  refine pi_step rfl (fun K hK => ?_)
  first | (first | (go_at_call 90; first | (with_reducible refine (C1.out _).mono ?_; rintro e v9 ⟨rfl, hv9⟩) | (with_reducible refine (C3.out _).mono ?_; rintro e v10 ⟨rfl, hv10⟩)) | (go_at_call 91; refine (C2.out _).mono ?_; rintro e v8 ⟨rfl, rfl⟩) | (go_at_call 89; refine (cmpor _ 3 3 [m, n, p] _ rfl (by omega) (by intro t ht; rcases t with _ | _ | _ | t <;> first | (simp; done) | omega)).mono ?_; rintro e v11 ⟨rfl, rfl⟩)) | (go_simp; first | (go_at_call 90; first | (with_reducible refine (C1.out _).mono ?_; rintro e v9 ⟨rfl, hv9⟩) | (with_reducible refine (C3.out _).mono ?_; rintro e v10 ⟨rfl, hv10⟩)) | (go_at_call 91; refine (C2.out _).mono ?_; rintro e v8 ⟨rfl, rfl⟩) | (go_at_call 89; refine (cmpor _ 3 3 [m, n, p] _ rfl (by omega) (by intro t ht; rcases t with _ | _ | _ | t <;> first | (simp; done) | omega)).mono ?_; rintro e v11 ⟨rfl, rfl⟩))
  refine hK.out _ _ (by first | with_reducible exact hHeld | exact hHeld.trans hv10 | exact hHeld.trans hv9 | exact hHeld.trans (Grown.alloc _ _)) (fun hHeld2 => ?_)
  clear hK K hHeld
  have hHeld := hHeld2
  clear hHeld2
  try simp only [Act.put, List.setIfInBounds_toArray, List.set_cons_zero, List.set_cons_succ]
  refine pi_step rfl (fun K hK => ?_)
  first | (first | (go_at_call 90; first | (with_reducible refine (C1.out _).mono ?_; rintro e v9 ⟨rfl, hv9⟩) | (with_reducible refine (C3.out _).mono ?_; rintro e v10 ⟨rfl, hv10⟩)) | (go_at_call 91; refine (C2.out _).mono ?_; rintro e v8 ⟨rfl, rfl⟩) | (go_at_call 89; refine (cmpor _ 3 3 [m, n, p] _ rfl (by omega) (by intro t ht; rcases t with _ | _ | _ | t <;> first | (simp; done) | omega)).mono ?_; rintro e v11 ⟨rfl, rfl⟩)) | (go_simp; first | (go_at_call 90; first | (with_reducible refine (C1.out _).mono ?_; rintro e v9 ⟨rfl, hv9⟩) | (with_reducible refine (C3.out _).mono ?_; rintro e v10 ⟨rfl, hv10⟩)) | (go_at_call 91; refine (C2.out _).mono ?_; rintro e v8 ⟨rfl, rfl⟩) | (go_at_call 89; refine (cmpor _ 3 3 [m, n, p] _ rfl (by omega) (by intro t ht; rcases t with _ | _ | _ | t <;> first | (simp; done) | omega)).mono ?_; rintro e v11 ⟨rfl, rfl⟩))
  refine hK.out _ _ (by first | with_reducible exact hHeld | exact hHeld.trans hv10 | exact hHeld.trans hv9 | exact hHeld.trans (Grown.alloc _ _)) (fun hHeld2 => ?_)
  clear hK K hHeld
  have hHeld := hHeld2
  clear hHeld2
  try simp only [Act.put, List.setIfInBounds_toArray, List.set_cons_zero, List.set_cons_succ]
  refine pi_step rfl (fun K hK => ?_)
  first | (first | (go_at_call 90; first | (with_reducible refine (C1.out _).mono ?_; rintro e v9 ⟨rfl, hv9⟩) | (with_reducible refine (C3.out _).mono ?_; rintro e v10 ⟨rfl, hv10⟩)) | (go_at_call 91; refine (C2.out _).mono ?_; rintro e v8 ⟨rfl, rfl⟩) | (go_at_call 89; refine (cmpor _ 3 3 [m, n, p] _ rfl (by omega) (by intro t ht; rcases t with _ | _ | _ | t <;> first | (simp; done) | omega)).mono ?_; rintro e v11 ⟨rfl, rfl⟩)) | (go_simp; first | (go_at_call 90; first | (with_reducible refine (C1.out _).mono ?_; rintro e v9 ⟨rfl, hv9⟩) | (with_reducible refine (C3.out _).mono ?_; rintro e v10 ⟨rfl, hv10⟩)) | (go_at_call 91; refine (C2.out _).mono ?_; rintro e v8 ⟨rfl, rfl⟩) | (go_at_call 89; refine (cmpor _ 3 3 [m, n, p] _ rfl (by omega) (by intro t ht; rcases t with _ | _ | _ | t <;> first | (simp; done) | omega)).mono ?_; rintro e v11 ⟨rfl, rfl⟩))
  refine hK.out _ _ (by first | with_reducible exact hHeld | exact hHeld.trans hv10 | exact hHeld.trans hv9 | exact hHeld.trans (Grown.alloc _ _)) (fun hHeld2 => ?_)
  clear hK K hHeld
  have hHeld := hHeld2
  clear hHeld2
  try simp only [Act.put, List.setIfInBounds_toArray, List.set_cons_zero, List.set_cons_succ]
  refine pi_step rfl (fun K hK => ?_)
  go_simp
  refine hK.out _ _ (by first | with_reducible exact hHeld | exact hHeld.trans hv10 | exact hHeld.trans hv9 | exact hHeld.trans (Grown.alloc _ _)) (fun hHeld2 => ?_)
  clear hK K hHeld
  have hHeld := hHeld2
  clear hHeld2
  try simp only [Act.put, List.setIfInBounds_toArray, List.set_cons_zero, List.set_cons_succ]
  refine pi_step rfl (fun K hK => ?_)
  first | (first | (go_at_call 90; first | (with_reducible refine (C1.out _).mono ?_; rintro e v9 ⟨rfl, hv9⟩) | (with_reducible refine (C3.out _).mono ?_; rintro e v10 ⟨rfl, hv10⟩)) | (go_at_call 91; refine (C2.out _).mono ?_; rintro e v8 ⟨rfl, rfl⟩) | (go_at_call 89; refine (cmpor _ 3 3 [m, n, p] _ rfl (by omega) (by intro t ht; rcases t with _ | _ | _ | t <;> first | (simp; done) | omega)).mono ?_; rintro e v11 ⟨rfl, rfl⟩)) | (go_simp; first | (go_at_call 90; first | (with_reducible refine (C1.out _).mono ?_; rintro e v9 ⟨rfl, hv9⟩) | (with_reducible refine (C3.out _).mono ?_; rintro e v10 ⟨rfl, hv10⟩)) | (go_at_call 91; refine (C2.out _).mono ?_; rintro e v8 ⟨rfl, rfl⟩) | (go_at_call 89; refine (cmpor _ 3 3 [m, n, p] _ rfl (by omega) (by intro t ht; rcases t with _ | _ | _ | t <;> first | (simp; done) | omega)).mono ?_; rintro e v11 ⟨rfl, rfl⟩))
  refine hK.out _ _ (by first | with_reducible exact hHeld | exact hHeld.trans hv10 | exact hHeld.trans hv9 | exact hHeld.trans (Grown.alloc _ _)) (fun hHeld2 => ?_)
  clear hK K hHeld
  have hHeld := hHeld2
  clear hHeld2
  try simp only [Act.put, List.setIfInBounds_toArray, List.set_cons_zero, List.set_cons_succ]
  first | (refine pi_take (v := ?pv1_17) rfl (fun _ _ _ h => h) (by rfl) (fun v hv => ?pr1_17) ?rest1_17; case pr1_17 => (obtain ⟨d0, d1, d2, d3, d4, d5, d6, d7, d8, d9, d10, d11, d12, d13⟩ := HC.out v hv; go_simp; first | done | with_reducible rfl)) | (refine pi_pass rfl (fun _ _ _ h => h) (by rfl) ?_)
  try simp only [Act.put, List.setIfInBounds_toArray, List.set_cons_zero, List.set_cons_succ]
  refine pi_end ?_
  refine z_end ?_
  clear hHeld
  go_wp2_with fail
  go_ret
  exact ⟨by rw [HA.out]; rfl, HW.out.trans ((((Grown.refl W).drew.trans hv9).trans hv10).trans (Grown.alloc _ _))⟩
end Go.Proofs.YtlnjgoommpeioaaDoor
/- slices.SortFunc at structs that are told by trees, out of the library's contract. -/
namespace Go.Proofs.YtlnjgoommpeioaaDoor.V
open Go Go.RowKit Go.Sort
set_option linter.unusedVariables false
theorem swo_of {α : Type} {cmp : α → α → Int} (H : IsOrd cmp) : SWO (ltOf cmp) where
  irrefl x := by unfold ltOf; simp; rw [(H.zero x x).2 rfl]; exact Int.le_refl _
  trans x y z h1 h2 := by
    unfold ltOf at *
    simp only [decide_eq_true_eq] at *
    have a1 := H.anti x y
    have a2 := H.anti y z
    have a3 := H.anti x z
    rcases (show cmp x z < 0 ∨ 0 ≤ cmp x z by omega) with h | h
    · exact h
    · have := H.trans x y z (by omega) (by omega)
      have e : cmp x z = 0 := by omega
      have e2 := (H.zero x z).1 e
      subst e2
      omega
  ntrans x y z h1 h2 := by
    unfold ltOf at *
    simp only [decide_eq_false_iff_not, Int.not_lt] at *
    have a1 := H.anti x y
    have a2 := H.anti y z
    have a3 := H.anti x z
    have := H.trans z y x (by omega) (by omega)
    omega
theorem heap_sortK {α : Type} [Inhabited α] {enc : α → List Value} {k : Nat} {g : Nat} {w : World} (n : Nat) (d : Array α) (os : Array Obj) {b : Nat} (hb : b < w.heap.size) : (sortWorldK enc k w g 0 n d os).heap[b]? = if g = b then (w.heap[b]?).map (onCells (Go.Sort.putCells id 0 (flatK enc k d))) else w.heap[b]? := by
  show ((w.heap.modify g (onCells (Go.Sort.putCells id 0 (flatK enc k d)))) ++ os)[b]? = _
  rw [Array.getElem?_append_left (by simpa using hb), Array.getElem?_modify]
theorem put_takeK (F : Array Value) (cur : Array Value) (h : F.size ≤ cur.size) : (Go.Sort.putCells id 0 F cur).toList.take F.size = F.toList := by
  apply List.ext_getElem?
  intro k
  rw [List.getElem?_take]
  by_cases hk : k < F.size
  · rw [if_pos hk]
    simp only [Go.Sort.putCells, Array.getElem?_toList, Array.getElem?_mapIdx, Nat.zero_le, true_and, Nat.zero_add, hk, if_true, Nat.sub_zero, id]
    rw [Array.getElem?_eq_getElem (by omega), Array.getElem?_eq_getElem hk, getElem!_pos F k hk]
    rfl
  · rw [if_neg hk]
    simp [Array.getElem?_eq_none (Nat.le_of_not_lt hk)]
theorem sorted_listK {α : Type} [Inhabited α] {cmp : α → α → Int} (H : IsOrd cmp) {d d' : Array α} (hp : PermIn 0 d.size d d') (hs : SortedIn (ltOf cmp) 0 d.size d') : d'.toList = Ord.sort cmp d.toList := by
  obtain ⟨hsz, -, hperm⟩ := hp
  have e1 : (d'.extract 0 d.size).toList = d'.toList := by rw [← hsz]; simp
  have e2 : (d.extract 0 d.size).toList = d.toList := by simp
  rw [e1, e2] at hperm
  refine Ord.sort_unique H hperm (List.pairwise_iff_getElem.2 fun i j hi hj hij => Ord.leb_iff.2 ?_)
  rw [Array.length_toList] at hi hj
  have := hs i j (Nat.zero_le _) hij (by omega)
  unfold ltOf at this
  rw [getElem!_pos d' j hj, getElem!_pos d' i hi] at this
  simp only [decide_eq_false_iff_not, Int.not_lt] at this
  have a := H.anti d'[i] d'[j]
  simp only [Array.getElem_toList]
  omega
theorem mapk_get {α : Type} {enc : α → List Value} {k : Nat} (hk : ∀ x, (enc x).length = k) (X : List α) (q : Nat) (hq : q < X.length * k) : ∃ (h1 : q / k < X.length) (u : Value), (enc X[q / k])[q % k]? = some u ∧ (X.flatMap enc)[q]? = some u := by
  have hkp : 0 < k := Nat.pos_of_ne_zero fun e => by subst e; simp at hq
  have h1 : q / k < X.length := (Nat.div_lt_iff_lt_mul hkp).2 hq
  have h2 : q % k < k := Nat.mod_lt _ hkp
  obtain ⟨u, hu⟩ : ∃ u, (enc X[q / k])[q % k]? = some u := by
    have h2' : q % k < (enc X[q / k]).length := by rw [hk (X[q / k])]; exact h2
    exact ⟨(enc X[q / k])[q % k], List.getElem?_eq_getElem h2'⟩
  refine ⟨h1, u, hu, ?_⟩
  have h3 := flat_ix (fs := X.map fun x => (enc x).map T.lit) (n := k) (fun e he => by obtain ⟨x, -, rfl⟩ := List.mem_map.1 he; rw [List.length_map, hk]) (q / k) (q % k) ((enc X[q / k]).map T.lit) (T.lit u) (by rw [List.getElem?_map, List.getElem?_eq_getElem h1]; rfl) (by rw [List.getElem?_map, hu]; rfl)
  have e1 : q / k * k + q % k = q := by rw [Nat.mul_comm]; exact Nat.div_add_mod q k
  rw [e1] at h3
  have e2 : (X.map fun x => (enc x).map T.lit).flatMap (fun e => e.map litv) = X.flatMap enc := by
    rw [List.flatMap_map]
    congr 1
    funext x
    simp [Function.comp_def, litv]
  rw [e2] at h3
  exact h3
theorem flatMap_len {α : Type} {enc : α → List Value} {k : Nat} (hk : ∀ x, (enc x).length = k) : ∀ X : List α, (X.flatMap enc).length = X.length * k
  | [] => by simp
  | x :: X => by rw [List.flatMap_cons, List.length_append, hk, flatMap_len hk X, List.length_cons, Nat.add_mul, Nat.one_mul, Nat.add_comm]
theorem flatK_list {α : Type} [Inhabited α] {enc : α → List Value} {k : Nat} (hk : ∀ x, (enc x).length = k) (d : Array α) : (flatK enc k d).toList = d.toList.flatMap enc := by
  apply List.ext_getElem?
  intro q
  rcases Nat.lt_or_ge q (d.size * k) with hq | hq
  · obtain ⟨h1, u, h2, h3⟩ := mapk_get hk d.toList q (by simpa using hq)
    rw [h3]
    have h4 := get_flatK enc k d q hq
    rw [getElem!_pos _ q (by rw [size_flatK]; exact hq)] at h4
    rw [Array.getElem?_toList, Array.getElem?_eq_getElem (by rw [size_flatK]; exact hq), h4]
    have h5 : q / k < d.size := by simpa using h1
    have h6 : d.toList[q / k] = d[q / k] := by simp
    rw [h6] at h2
    rw [getElem!_pos d (q / k) h5, List.getElem!_eq_getElem?_getD, h2]
    rfl
  · rw [List.getElem?_eq_none (by simp; omega), List.getElem?_eq_none (by rw [flatMap_len hk]; simpa using hq)]
variable {P : Program}
theorem vsort_gen {α : Type} [Inhabited α] {enc : α → List Value} {k : Nat} {f : α → List T} (hf : ∀ x, f x = (enc x).map T.lit) (hk : ∀ x, (enc x).length = k) (h1 : ∀ x, ∀ v ∈ enc x, v.oneCell' = true) {cmp : α → α → Int} (H : IsOrd cmp) {fid : FuncId} {ty : TypeId} (hz : Sz ty k) (hp : 0 < k) {cb : Value}
    (hnone : ∀ (p : Option Addr) (cap : Nat) (w : World), Calls P fid #[.slice p 0 cap, cb] w fun e w' => e = .returned (.tuple #[]) ∧ w' = w)
    (hcon : ∀ (g cap : Nat) (d : Array α) (w : World), HoldsK enc k w g 0 d → g < w.heap.size → d.size < 4611686018427387904 → Calls P fid #[.slice (some ⟨g, 0, none⟩) d.size cap, cb] w fun e w' => e = .returned (.tuple #[]) ∧ ∃ d' n os, PermIn 0 d.size d d' ∧ SortedIn (ltOf cmp) 0 d.size d' ∧ w' = sortWorldK enc k w g 0 n d' os)
    (X : List α) (hX : X.length ≤ 350000000000) : VU P fid [(false, [.ln 0]), (false, [.rd (.lit cb)])] [.seq ty (X.map f)] [.seq ty ((Ord.sort cmp X).map f)] := fun w lv F hF vs hown hdis hargs => by
  have hvs : vs = [lv 0, cb] := by
    obtain ⟨hl, ha⟩ := hargs
    match vs, hl with
    | [v, u], _ =>
      obtain ⟨us, e1, e2, e3⟩ := ha 0 false [.ln 0] v rfl rfl
      obtain ⟨us', f1, f2, f3⟩ := ha 1 false [.rd (.lit cb)] u rfl rfl
      match us, e2 with
      | [x], _ =>
        match us', f2 with
        | [y], _ =>
          have g1 := (e3 0 (.ln 0) x rfl rfl).2
          have g2 : Inn _ _ (.lit cb) y := f3 0 (.rd (.lit cb)) y rfl rfl
          have g3 := inn_lit g2
          rw [e1, f1, g3]
          show [x, cb] = _
          rw [g1]; rfl
  obtain ⟨ho, -⟩ := hown 0 _ rfl
  subst hvs
  cases ho with
  | seq n hp' hz' hn xs hrow Gs hr hone hFb hG hne hd =>
    have hnk : n = k := hz'.eq hz
    subst hnk
    have hxl : xs.length = X.length * n := by have := hrow.1; rwa [List.length_map] at this
    have hxs : xs = X.flatMap enc := by
      apply List.ext_getElem?
      intro q
      rcases Nat.lt_or_ge q (X.length * n) with hq | hq
      · obtain ⟨k1, v0, k2, k3⟩ := mapk_get hk X q hq
        rw [k3]
        have e1 : q / n * n + q % n = q := by rw [Nat.mul_comm]; exact Nat.div_add_mod q n
        have hu := hr (q / n) (f X[q / n]) (q % n) (T.lit v0) xs[q] (by rw [List.getElem?_map, List.getElem?_eq_getElem k1]; rfl) (by rw [hf, List.getElem?_map, k2]; rfl) (by rw [e1, List.getElem?_eq_getElem (by omega)])
        have hl : ∀ {B : Nat} {t u : Value} {G : Nat → Prop}, Own w B (.lit t) u G → u = t := fun h => by cases h; rfl
        rw [List.getElem?_eq_getElem (by omega), hl hu]
      · rw [List.getElem?_eq_none (by omega), List.getElem?_eq_none (by rw [flatMap_len hk]; omega)]
    obtain ⟨a, c, hv, hc, hm, h0, hg⟩ := own_slice hrow
    rw [List.length_map] at hv hc hg
    rcases Nat.eq_zero_or_pos X.length with hX0 | hX0
    · have hXe : X = [] := List.eq_nil_of_length_eq_zero hX0
      rw [hX0] at hv
      rw [hv]
      refine (hnone a c w).mono fun e w' ⟨he, hw⟩ => ?_
      subst hw
      subst hXe
      refine ⟨⟨_, he, Same.refl _ _⟩, F, fun i t hi => ?_, fun i j b hi hj hij => absurd (show i = j by simp at hi hj; omega) hij, fun i b hi hb => ⟨.inr ⟨i, hi, hb⟩, hF i b hi hb⟩⟩
      rw [Ord.sort_nil] at hi
      exact (hown i t hi).1
    · obtain ⟨g, rfl, hB, hlt, hcell, hfr⟩ := hg hX0
      rw [hv]
      have hFg : F 0 g := hFb g (by rw [hv]; rfl)
      have hH : HoldsK enc n w g 0 X.toArray := by
        intro j hj
        rw [size_flatK] at hj
        have hj' : j < X.length * n := by simpa using hj
        refine ⟨?_, hfr _⟩
        rw [Nat.zero_add]
        refine hcell j _ ?_
        rw [hxs]
        have h5 := flatK_list hk X.toArray
        have h6 : (flatK enc n X.toArray).toList[j]? = some ((flatK enc n X.toArray)[j]!) := by
          rw [Array.getElem?_toList, getElem!_pos _ j (by rw [size_flatK]; exact hj), Array.getElem?_eq_getElem (by rw [size_flatK]; exact hj)]
        rw [h5] at h6
        simpa using h6
      have hcall := hcon g c X.toArray w hH hlt (by simp; omega)
      have hxsz : X.toArray.size = X.length := List.size_toArray
      rw [hxsz] at hcall
      refine hcall.mono fun e w' ⟨he, d', m, os, hpm, hst, hw⟩ => ?_
      subst hw
      have hd' : d'.toList = Ord.sort cmp X := sorted_listK H (d := X.toArray) (by rw [hxsz]; exact hpm) (by rw [hxsz]; exact hst)
      have hsl : (Ord.sort cmp X).length = X.length := Ord.sort_length X
      have hsize : w.heap.size ≤ (sortWorldK enc n w g 0 m d' os).heap.size := by simp [sortWorldK, grow, putRowK, putRow, mapBlock]
      refine ⟨⟨_, he, ⟨rfl, rfl, rfl, hsize, fun b hb => ?_⟩⟩, F, fun i t hi => ?_, fun i j b hi hj hij => absurd (show i = j by simp at hi hj; omega) hij, fun i b hi hb => ⟨.inr ⟨i, hi, hb⟩, Nat.lt_of_lt_of_le (hF i b hi hb) hsize⟩⟩
      · have hgb : ¬ g = b := fun e => by
          subst e
          exact hb.2 ⟨0, by simp, hFg⟩
        rw [heap_sortK m d' os (show b < w.heap.size from hb.1), if_neg hgb]
        rfl
      · have hi0 : i = 0 := by have := get_lt hi; simpa using this
        subst hi0
        cases hi
        show Own _ 0 _ (lv 0) _
        rw [hv]
        obtain ⟨q1, ⟨q2, -⟩ | ⟨g', cap, cur, q3, q4, q5, q6, q7, q8, q9⟩⟩ := hrow
        · rw [hv] at q2; cases q2
        · rw [hv] at q3
          injection q3 with q3 q3a q3b
          injection q3 with q3
          injection q3 with q3
          subst q3 q3b
          have hFs : (flatK enc n d').size = X.length * n := by rw [size_flatK, ← Array.length_toList, hd', hsl]
          rw [List.length_map] at q6 q9
          have hcur : X.length * n ≤ cur.size := by rw [q8]; exact Nat.mul_le_mul_right _ q6
          refine .seq n hp' hz' (fun e he => by obtain ⟨x, -, rfl⟩ := List.mem_map.1 he; rw [hf, List.length_map, hk]) ((Ord.sort cmp X).flatMap enc) ⟨by rw [flatMap_len hk, List.length_map], .inr ⟨g, c, Go.Sort.putCells id 0 (flatK enc n d') cur, by rw [List.length_map, hsl], q4, ?_, by rw [List.length_map, hsl]; exact q6, q7, ?_, ?_⟩⟩ (fun _ _ => False) (fun k' e j t u e1 e2 e3 => ?_) (fun u hu => ?_) (fun b hb => ?_) (fun q b hb => hb.elim) (fun q b hb => hb.elim) fun q q' b hb => hb.elim
          · rw [heap_sortK m d' os hlt, if_pos rfl, q5]; rfl
          · simp [Go.Sort.putCells, q8]
          · rw [List.length_map, hsl, ← hFs, put_takeK _ _ (by rw [hFs]; exact hcur), flatK_list hk, hd']
          · rw [List.getElem?_map] at e1
            obtain ⟨x, e4, rfl⟩ := Option.map_eq_some_iff.1 e1
            rw [hf, List.getElem?_map] at e2
            obtain ⟨v, e5, rfl⟩ := Option.map_eq_some_iff.1 e2
            have hjl := get_lt e5
            rw [hk] at hjl
            obtain ⟨k1, u0, k2, k3⟩ := mapk_get hk (Ord.sort cmp X) (k' * n + j) (at_lt (get_lt e4) hjl)
            rw [k3] at e3
            have d1 : (k' * n + j) / n = k' := by rw [Nat.add_comm, Nat.add_mul_div_right _ _ hp', Nat.div_eq_of_lt hjl, Nat.zero_add]
            have d2 : (k' * n + j) % n = j := by rw [Nat.add_comm, Nat.add_mul_mod_self_right, Nat.mod_eq_of_lt hjl]
            have hu : u = v := by
              have e7 : (Ord.sort cmp X)[(k' * n + j) / n] = x := by
                have e8 : (Ord.sort cmp X)[(k' * n + j) / n]? = some x := by rw [d1]; exact e4
                rw [List.getElem?_eq_getElem k1] at e8
                exact Option.some.inj e8
              rw [e7, d2, e5] at k2
              rw [← Option.some.inj e3, ← Option.some.inj k2]
            rw [hu]
            exact .lit (h1 x v (get_mem e5))
          · obtain ⟨x, -, hx⟩ := List.mem_flatMap.1 hu
            exact h1 x u hx
          · exact hFb b (by rw [hv]; exact hb)
end Go.Proofs.YtlnjgoommpeioaaDoor.V
/- The program's sorted pairs: told by trees. -/
namespace Go.Proofs.YtlnjgoommpeioaaDoor
open Go Go.RowKit V
set_option linter.unusedVariables false
instance : Inhabited PairD := ⟨⟨default, default, false⟩⟩
theorem vsortf (X : List PairD) (hX : X.length ≤ 350000000000) : VU Tryd.prog 128 [(false, [.ln 0]), (false, [.rd (.lit (.func (.func 38) #[] #[]))])] [.seq 57 (X.map tPair)] [.seq 57 ((Ord.sort PairD.cmp X).map tPair)] := by
  have eg : ∀ args w, (callFunc 38 args).run Tryd.prog w = .ok (.enter 38 args) w := enters_of Tryd.func38 (by kernel_rfl) rfl
  refine vsort_gen (enc := PairD.cells) (k := 7) (fun x => rfl) (fun _ => rfl) (fun x v hv => ?_) PairD.ord sz_impl_Pair (by decide) (fun p cap w => ?_) (fun g cap d w hH hg hsz => ?_) X hX
  · simp [PairD.cells] at hv
    rcases hv with rfl | rfl | rfl | rfl | rfl | rfl | rfl <;> rfl
  · have hn := AnyF.slices_SortFunc_none Tryd.sortPairs p cap (.func (.func 38) #[] #[]) w
    exact hn
  · have hcon := AnyQ.slices_SortFunc Tryd.sortPairs 7 Tryd.isAgg57 Tryd.sizeOf57 PairD.cells (fun _ => rfl) (fun x v hv => by simp [PairD.cells] at hv; rcases hv with rfl | rfl | rfl | rfl | rfl | rfl | rfl <;> rfl) PairD.cmp (swo_of PairD.ord) 38 #[] g 0 cap d w eg
      (fun m os dk _ x y => ipcmpG x y _) hH hg hsz
    exact hcon
set_option maxRecDepth 100000 in
set_option maxHeartbeats 2000000 in
theorem vclone (X : List PairD) (hX : X.length ≤ 350000000000) : VC Tryd.prog 127 [(false, [.seq 57 (X.map tPair)])] false [(false, [.seq 57 ((X).map tPair)])] := by
  refine VC.enter Tryd.func127 rfl Tryd.ntmps127 (Nat.le_of_ble_eq_true rfl) fun E hE => ?_
  refine SV.seq' ?_
  refine SV.region ?_
  refine SV.op (OpL.ok (nb := 0) (ok_move (v := V.one (.sc _)) (.inr rfl) rfl) rfl (Nat.le_of_ble_eq_true rfl)) rfl ?_
  refine SV.nil ?_
  refine SV.tn ?_
  refine SV.seq' ?_
  refine SV.seq' ?_
  refine SV.region ?_
  refine SV.op (OpL.ok (nb := 0) (ok_move (v := V.one (.ro _)) (.inl rfl) rfl) rfl (Nat.le_of_ble_eq_true rfl)) rfl ?_
  refine SV.isnil (d := 4) (x := .tmp 3) (y := .const ((Value.slice none 0 0))) rfl rfl rfl (Nat.le_of_ble_eq_true rfl) rfl (fun ρ ad n c w h1 h2 => by (cases ad <;> (go_simp; first | done | rfl | (simp [h1, h2]; done)))) (fun hg0 => ?_) ?_
  · skip   -- g0.T
    refine SV.nil ?_
    refine SV.tn ?_
    refine SV.cond rfl (fun hc0 => ?_) (fun hc0 => ?_)
    · skip   -- c0.T
      refine SV.seq' ?_
      refine SV.region ?_
      refine SV.op (OpL.ok (nb := 0) (ok_move (v := V.one (.sc _)) (.inr rfl) rfl) rfl (Nat.le_of_ble_eq_true rfl)) rfl ?_
      refine SV.nil ?_
      refine SV.tn ?_
      refine SV.ret ?_
      refine SV.tr ?_
      refine SV.nlsc (s := 2) (kk := 0) (n := 7) rfl rfl (by decide) sz_impl_Pair (Nat.le_of_ble_eq_true rfl) ?_
      apply SV.done (hf := Tryd.results127) (ht := rfl) (he := .inr rfl)
      case hr => exact (ResAll.cons (ResOk.tmp (ag := false) (xs := [.hd 0]) rfl) ResAll.nil')
      case h2 => simp [two]
      refine ⟨rfl, ⟨?_, trivial⟩, trivial⟩ <;> (show some (T.seq _ _) = some (T.seq _ _); first | rfl | (rw [hg0]; done) | (simp; done))
    · skip   -- c0.F
      cases hc0
  · skip   -- g0.F
    refine SV.nil ?_
    refine SV.tn ?_
    refine SV.cond rfl (fun hc1 => ?_) (fun hc1 => ?_)
    · skip   -- c1.T
      cases hc1
    · skip   -- c1.F
      refine SV.skip ?_
      refine SV.tn ?_
      refine SV.seq' ?_
      refine SV.region ?_
      refine SV.op (OpMk.ok (ok_lit0 (kk := 0) elt_impl_Pair rfl rfl rfl (Nat.le_of_ble_eq_true rfl))) rfl ?_
      refine SV.op (OpL.ok (nb := 0) (ok_move (v := V.one (.ro _)) (.inl rfl) rfl) rfl (Nat.le_of_ble_eq_true rfl)) rfl ?_
      refine SV.op (OpMk.ok (ok_append_ro (kk := 1) elt_impl_Pair (ls := .hd 0) (lx := .ro _) rfl rfl rfl rfl rfl rfl (flat_impl_Pair _) (by simp; omega) rfl (Nat.le_of_ble_eq_true rfl))) rfl ?_
      refine SV.op (OpL.ok (nb := 0) (ok_move (v := V.one (.hd 1)) (.inr rfl) rfl) rfl (Nat.le_of_ble_eq_true rfl)) rfl ?_
      refine SV.nil ?_
      refine SV.tn ?_
      refine SV.ret ?_
      apply SV.done (hf := Tryd.results127) (ht := rfl) (he := .inl rfl)
      case hr => exact (ResAll.cons (ResOk.tmp (ag := false) (xs := [.hd 1]) rfl) ResAll.nil')
      case h2 => simp [two]
      refine ⟨rfl, ⟨?_, trivial⟩, trivial⟩ <;> (show some (T.seq _ _) = some (T.seq _ _); first | rfl | (rw [hg0]; done) | (simp; done))
set_option maxRecDepth 100000 in
set_option maxHeartbeats 2000000 in
theorem vsorted_i (X : List PairD) (hX : X.length ≤ 350000000000) : VC Tryd.prog 88 [(false, [.seq 57 (X.map tPair)])] false [(false, [.seq 57 ((Ord.sort PairD.cmp X).map tPair)])] := by
  refine VC.enter Tryd.func88 rfl Tryd.ntmps88 (Nat.le_of_ble_eq_true rfl) fun E hE => ?_
  refine SV.seq' ?_
  refine SV.region ?_
  refine SV.op (OpL.ok (nb := 0) (ok_move (v := V.one (.sc _)) (.inr rfl) rfl) rfl (Nat.le_of_ble_eq_true rfl)) rfl ?_
  refine SV.nil ?_
  refine SV.tn ?_
  refine SV.seq' ?_
  refine SV.region ?_
  refine SV.op (OpL.ok (nb := 0) (ok_move (v := V.one (.ro _)) (.inl rfl) rfl) rfl (Nat.le_of_ble_eq_true rfl)) rfl ?_
  refine SV.op (OpMk.ok (ok_call (ls := [(false, [.hd 0])]) rfl rfl ⟨_, _, Tryd.func127, rfl, by decide⟩ (vclone X hX) ⟨⟨[.ro _], rfl, ⟨rfl, trivial⟩⟩, trivial⟩ rfl (Nat.le_of_ble_eq_true rfl))) rfl ?_
  refine SV.op (OpL.ok (nb := 0) (ok_move (v := V.one (.hd 0)) (.inr rfl) rfl) rfl (Nat.le_of_ble_eq_true rfl)) rfl ?_
  refine SV.nil ?_
  refine SV.tn ?_
  refine SV.seq' ?_
  refine SV.region ?_
  refine SV.op (OpL.ok (nb := 0) (ok_move (v := V.one (.hd 0)) (.inl rfl) rfl) rfl (Nat.le_of_ble_eq_true rfl)) rfl ?_
  refine SV.op (ok_callU (is := [0]) rfl ⟨_, _, Tryd.func128, rfl, by decide⟩ (vsortf X hX) ⟨⟨[.hd 0], rfl, ⟨rfl, trivial⟩⟩, ⟨[.sc _], rfl, ⟨⟨_, rfl, rfl⟩, trivial⟩⟩, trivial⟩ ⟨⟨⟨_, rfl⟩, _, _, rfl⟩, trivial⟩ (by decide) rfl (Nat.le_of_ble_eq_true rfl)) rfl ?_
  refine SV.nil ?_
  refine SV.tn ?_
  refine SV.seq' ?_
  refine SV.region ?_
  refine SV.op (OpL.ok (nb := 0) (ok_move (v := V.one (.hd 0)) (.inl rfl) rfl) rfl (Nat.le_of_ble_eq_true rfl)) rfl ?_
  refine SV.op (OpL.ok (nb := 0) (ok_move (v := V.one (.hd 0)) (.inr rfl) rfl) rfl (Nat.le_of_ble_eq_true rfl)) rfl ?_
  refine SV.nil ?_
  refine SV.tn ?_
  refine SV.ret ?_
  apply SV.done (hf := Tryd.results88) (ht := rfl) (he := .inl rfl)
  case hr => exact (ResAll.cons (ResOk.tmp (ag := false) (xs := [.hd 0]) rfl) ResAll.nil')
  case h2 => simp [two]
  refine ⟨rfl, ⟨?_, trivial⟩, trivial⟩ <;> rfl
end Go.Proofs.YtlnjgoommpeioaaDoor
/- Equal bags of pairs: told by trees. -/
namespace Go.Proofs.YtlnjgoommpeioaaDoor
open Go Go.RowKit V
set_option linter.unusedVariables false
set_option maxRecDepth 100000 in
set_option maxHeartbeats 2000000 in
theorem veqp (X Y : List PairD) (hX : X.length ≤ 350000000000) : VC Tryd.prog 87 [(false, [.seq 57 (X.map tPair)]), (false, [.seq 57 (Y.map tPair)])] false [(false, [.lit (.bool (decide (X = Y)))])] := by
  refine VC.enter Tryd.func87 rfl Tryd.ntmps87 (Nat.le_of_ble_eq_true rfl) fun E hE => ?_
  refine SV.seq' ?_
  refine SV.region ?_
  refine SV.op (OpL.ok (nb := 0) (ok_move (v := V.one (.sc _)) (.inr rfl) rfl) rfl (Nat.le_of_ble_eq_true rfl)) rfl ?_
  refine SV.nil ?_
  refine SV.tn ?_
  refine SV.seq' ?_
  refine SV.seq' ?_
  refine SV.region ?_
  refine SV.op (OpL.ok (nb := 0) (ok_move (v := V.one (.ro _)) (.inl rfl) rfl) rfl (Nat.le_of_ble_eq_true rfl)) rfl ?_
  refine SV.op (OpL.ok (nb := 0) (ok_len (lf := .ro _) rfl elt_impl_Pair.und rfl rfl) rfl (Nat.le_of_ble_eq_true rfl)) rfl ?_
  refine SV.op (OpL.ok (nb := 0) (ok_move (v := V.one (.ro _)) (.inl rfl) rfl) rfl (Nat.le_of_ble_eq_true rfl)) rfl ?_
  refine SV.op (OpL.ok (nb := 0) (ok_len (lf := .ro _) rfl elt_impl_Pair.und rfl rfl) rfl (Nat.le_of_ble_eq_true rfl)) rfl ?_
  refine SV.op (OpL.ok (nb := 0) (ok_s2 (x := .tmp 7) (x' := .tmp 9) (VScal.one rfl) (VScal.one rfl) (fun ρ h1 h2 w => by go_simp; (try go_bits); with_reducible rfl) rfl) rfl (Nat.le_of_ble_eq_true rfl)) rfl ?_
  refine SV.nil ?_
  refine SV.tn ?_
  refine SV.cond rfl (fun hc0 => ?_) (fun hc0 => ?_)
  · skip   -- c0.T
    have hne : X ≠ Y := fun e => by subst e; exact (by simp at hc0)
    refine SV.seq' ?_
    refine SV.region ?_
    refine SV.op (OpL.ok (nb := 0) (ok_move (v := V.one (.sc _)) (.inr rfl) rfl) rfl (Nat.le_of_ble_eq_true rfl)) rfl ?_
    refine SV.nil ?_
    refine SV.tn ?_
    refine SV.ret ?_
    refine SV.tr ?_
    apply SV.done (hf := Tryd.results87) (ht := rfl) (he := .inl rfl)
    case hr => exact (ResAll.cons (ResOk.tmp (ag := false) (xs := [.sc _]) rfl) ResAll.nil')
    case h2 => simp [two]
    refine ⟨rfl, ⟨?_, trivial⟩, trivial⟩ <;> (show some (T.lit (Value.bool _)) = some (T.lit (Value.bool _)); refine congrArg (fun z => some (T.lit (Value.bool z))) ?_; first | (rw [decide_eq_true hXY]; done) | (rw [decide_eq_false hne]; done) | (simp [hXY]; done) | (simp [hne]; done))
  · skip   -- c0.F
    have hlen : X.length = Y.length := by simp at hc0; omega
    refine SV.skip ?_
    refine SV.tn ?_
    refine SV.seq' ?_
    refine SV.seq' ?_
    refine SV.region ?_
    refine SV.op (OpL.ok (nb := 0) (ok_move (v := V.one (.ro _)) (.inl rfl) rfl) rfl (Nat.le_of_ble_eq_true rfl)) rfl ?_
    refine SV.op (OpL.ok (nb := 0) (ok_len (lf := .ro _) rfl elt_impl_Pair.und rfl rfl) rfl (Nat.le_of_ble_eq_true rfl)) rfl ?_
    refine SV.op (OpL.ok (nb := 0) (ok_move (v := V.one (.sc _)) (.inl rfl) rfl) rfl (Nat.le_of_ble_eq_true rfl)) rfl ?_
    refine SV.nil ?_
    refine SV.tn ?_
    refine SV.block ?_
    refine SV.loopF (X := Nat) (fun (σ : VS) t => (((((VS.nil.put 0 (σ.tm 0)).put 1 (σ.tm 1)).put 4 (σ.tm 4)).put 12 (σ.tm 12)).put 13 (V.flat false [.sc (.int .i64 ((t : Int)))]))) (fun t => t ≤ X.length ∧ ∀ u, u < t → X[u]? = Y[u]?) (fun t => X.length - t) ?_ ?_
    · skip
      refine SV.again (fun i => [].getD i 0) 0 (⟨Nat.zero_le _, fun u h => absurd h (Nat.not_lt_zero u)⟩) (pins hE rfl rfl) (VS.le.mk' (le_put (le_put (le_put (le_put (le_put le_nil (V.le.keep (ag := false) (xs := [.ro _]) (ys := [.ro _]) rfl rfl ⟨rfl, trivial⟩)) (V.le.keep (ag := false) (xs := [.ro _]) (ys := [.ro _]) rfl rfl ⟨rfl, trivial⟩)) (V.le.keep (ag := false) (xs := [.sc _]) (ys := [.sc _]) rfl rfl ⟨rfl, trivial⟩)) (V.le.keep (ag := false) (xs := [.sc _]) (ys := [.sc _]) rfl rfl ⟨rfl, trivial⟩)) (V.le.keep (ag := false) (xs := [.sc _]) (ys := [.sc _]) rfl rfl ⟨(by first | rfl | (show Leaf.sc _ = Leaf.sc _; refine congrArg Leaf.sc ?_; first | rfl | go_num | (simp [cntAll]; done)) | (simp [cntAll]; done) | (simp; omega)), trivial⟩)) trivial trivial nil_ob (fun i j hi hj e => absurd hi (Nat.not_lt_zero i)))
    · rintro t ⟨ht, he⟩
      refine SV.seq' ?_
      refine SV.region ?_
      refine SV.op (OpL.ok (nb := 0) (ok_s2 (x := .tmp 13) (x' := .tmp 12) (VScal.one rfl) (VScal.one rfl) (fun ρ h1 h2 w => by go_simp; (try go_bits); with_reducible rfl) rfl) rfl (Nat.le_of_ble_eq_true rfl)) rfl ?_
      refine SV.nil ?_
      refine SV.tn ?_
      refine SV.seq' ?_
      refine SV.cond rfl (fun hc1 => ?_) (fun hc1 => ?_)
      · skip   -- c1.T
        have htl : t < X.length := by simp at hc1; omega
        have hx : X[t]? = some X[t] := by simp [htl]
        have hy : Y[t]? = some Y[t] := by simp [← hlen, htl]
        refine SV.skip ?_
        refine SV.tn ?_
        refine SV.seq' ?_
        refine SV.block ?_
        refine SV.seq' ?_
        refine SV.region ?_
        refine SV.op (OpL.ok (nb := 0) (ok_move (v := V.one (.sc _)) (.inl rfl) rfl) rfl (Nat.le_of_ble_eq_true rfl)) rfl ?_
        refine SV.op (OpL.ok (nb := 0) (ok_move (v := V.one (.sc _)) (.inr rfl) rfl) rfl (Nat.le_of_ble_eq_true rfl)) rfl ?_
        refine SV.nil ?_
        refine SV.tn ?_
        refine SV.seq' ?_
        refine SV.draw [.q 0, .q 1, .q 2, .q 3, .q 4, .q 5, .q 6, .q 7, .q 8] [] (by kernel_rfl) (by kernel_rfl) ?_
        refine DW.q rfl (ok_move (v := V.one (.ro _)) (.inl rfl) rfl) rfl rfl (Nat.le_of_ble_eq_true rfl) (fun _ _ _ _ h => h) ?_
        refine DW.q rfl (ok_move (v := V.one (.sc _)) (.inl rfl) rfl) rfl rfl (Nat.le_of_ble_eq_true rfl) (fun _ _ _ _ h => h) ?_
        refine DW.q rfl (ok_index (n := 7) (lf := .ro _) rfl elt_impl_Pair.und sz_impl_Pair rfl rfl rfl (map_at hx)) rfl rfl (Nat.le_of_ble_eq_true rfl) (fun _ _ _ _ h => h) ?_
        refine DW.q rfl (ok_load_rp (ag := true) (m := 7) (ys := [.sc _, .sc _, .sc _, .sc _, .sc _, .sc _, .sc _]) rfl rfl agg_impl_Pair sz_impl_Pair (fun h => by cases h) (Nat.le_of_ble_eq_true rfl) rfl) rfl rfl (Nat.le_of_ble_eq_true rfl) (fun _ _ _ _ h => h) ?_
        refine DW.q rfl (ok_move (v := V.one (.ro _)) (.inl rfl) rfl) rfl rfl (Nat.le_of_ble_eq_true rfl) (fun _ _ _ _ h => h) ?_
        refine DW.q rfl (ok_move (v := V.one (.sc _)) (.inl rfl) rfl) rfl rfl (Nat.le_of_ble_eq_true rfl) (fun _ _ _ _ h => h) ?_
        refine DW.q rfl (ok_index (n := 7) (lf := .ro _) rfl elt_impl_Pair.und sz_impl_Pair rfl rfl rfl (map_at hy)) rfl rfl (Nat.le_of_ble_eq_true rfl) (fun _ _ _ _ h => h) ?_
        refine DW.q rfl (ok_load_rp (ag := true) (m := 7) (ys := [.sc _, .sc _, .sc _, .sc _, .sc _, .sc _, .sc _]) rfl rfl agg_impl_Pair sz_impl_Pair (fun h => by cases h) (Nat.le_of_ble_eq_true rfl) rfl) rfl rfl (Nat.le_of_ble_eq_true rfl) (fun _ _ _ _ h => h) ?_
        refine DW.q rfl (ok_s2 (v := .bool (decide (X[t] ≠ Y[t]))) (x := .tmp 19) (x' := .tmp 23) ⟨true, [_, _, _, _, _, _, _], rfl, rfl⟩ ⟨true, [_, _, _, _, _, _, _], rfl, rfl⟩ (fun ρ h1 h2 w => neq_impl_Pair X[t] Y[t] ρ _ _ _ w rfl h1 h2) rfl) rfl rfl (Nat.le_of_ble_eq_true rfl) (fun _ _ _ _ h => h) ?_
        refine DW.stores ?_
        refine SV.zend ?_
        refine SV.tn ?_
        refine SV.cond rfl (fun hc2 => ?_) (fun hc2 => ?_)
        · skip   -- c2.T
          have hne : X ≠ Y := fun e => by subst e; exact (by simp at hc2)
          refine SV.seq' ?_
          refine SV.region ?_
          refine SV.op (OpL.ok (nb := 0) (ok_move (v := V.one (.sc _)) (.inr rfl) rfl) rfl (Nat.le_of_ble_eq_true rfl)) rfl ?_
          refine SV.nil ?_
          refine SV.tn ?_
          refine SV.ret ?_
          refine SV.br ?_
          refine SV.tr ?_
          refine SV.tr ?_
          refine SV.br ?_
          refine SV.tr ?_
          apply SV.done (hf := Tryd.results87) (ht := rfl) (he := .inl rfl)
          case hr => exact (ResAll.cons (ResOk.tmp (ag := false) (xs := [.sc _]) rfl) ResAll.nil')
          case h2 => simp [two]
          refine ⟨rfl, ⟨?_, trivial⟩, trivial⟩ <;> (show some (T.lit (Value.bool _)) = some (T.lit (Value.bool _)); refine congrArg (fun z => some (T.lit (Value.bool z))) ?_; first | (rw [decide_eq_true hXY]; done) | (rw [decide_eq_false hne]; done) | (simp [hXY]; done) | (simp [hne]; done))
        · skip   -- c2.F
          have hxy : X[t] = Y[t] := by simpa using hc2
          refine SV.skip ?_
          refine SV.bn ?_
          refine SV.tn ?_
          refine SV.region ?_
          refine SV.op (OpL.ok (nb := 0) (ok_s2 (x := .tmp 13) (x' := .const ((Value.int IntKind.i64 1))) (VScal.one rfl) (VScal.one rfl) (fun ρ h1 h2 w => by go_simp; (try go_bits); with_reducible rfl) rfl) rfl (Nat.le_of_ble_eq_true rfl)) rfl ?_
          refine SV.op (OpL.ok (nb := 0) (ok_move (v := V.one (.sc _)) (.inl rfl) rfl) rfl (Nat.le_of_ble_eq_true rfl)) rfl ?_
          refine SV.nil ?_
          refine SV.tn ?_
          refine SV.again (fun i => [].getD i 0) (t + 1) (⟨⟨by omega, fun u hu => by rcases Nat.lt_or_ge u t with h | h; exact he u h; rw [show u = t by omega, hx, hy, hxy]⟩, by omega⟩) (pins hE rfl rfl) (VS.le.mk' (le_put (le_put (le_put (le_put (le_put le_nil (V.le.keep (ag := false) (xs := [.ro _]) (ys := [.ro _]) rfl rfl ⟨rfl, trivial⟩)) (V.le.keep (ag := false) (xs := [.ro _]) (ys := [.ro _]) rfl rfl ⟨rfl, trivial⟩)) (V.le.keep (ag := false) (xs := [.sc _]) (ys := [.sc _]) rfl rfl ⟨rfl, trivial⟩)) (V.le.keep (ag := false) (xs := [.sc _]) (ys := [.sc _]) rfl rfl ⟨rfl, trivial⟩)) (V.le.keep (ag := false) (xs := [.sc _]) (ys := [.sc _]) rfl rfl ⟨(by first | rfl | (show Leaf.sc _ = Leaf.sc _; refine congrArg Leaf.sc ?_; first | rfl | go_num | (simp [cntAll]; done)) | (simp [cntAll]; done) | (simp; omega)), trivial⟩)) trivial trivial nil_ob (fun i j hi hj e => absurd hi (Nat.not_lt_zero i)))
      · skip   -- c1.F
        have hte : ¬ t < X.length := by simp at hc1; omega
        have hXY : X = Y := List.ext_getElem? fun u => by
          rcases Nat.lt_or_ge u t with h | h
          · exact he u h
          · rw [List.getElem?_eq_none (by omega), List.getElem?_eq_none (by omega)]
        refine SV.exit ?_
        refine SV.te ?_
        refine SV.te ?_
        refine SV.bh ?_
        refine SV.tn ?_
        refine SV.seq' ?_
        refine SV.region ?_
        refine SV.op (OpL.ok (nb := 0) (ok_move (v := V.one (.sc _)) (.inr rfl) rfl) rfl (Nat.le_of_ble_eq_true rfl)) rfl ?_
        refine SV.nil ?_
        refine SV.tn ?_
        refine SV.ret ?_
        apply SV.done (hf := Tryd.results87) (ht := rfl) (he := .inl rfl)
        case hr => exact (ResAll.cons (ResOk.tmp (ag := false) (xs := [.sc _]) rfl) ResAll.nil')
        case h2 => simp [two]
        refine ⟨rfl, ⟨?_, trivial⟩, trivial⟩ <;> (show some (T.lit (Value.bool _)) = some (T.lit (Value.bool _)); refine congrArg (fun z => some (T.lit (Value.bool z))) ?_; first | (rw [decide_eq_true hXY]; done) | (rw [decide_eq_false hne]; done) | (simp [hXY]; done) | (simp [hne]; done))
set_option maxRecDepth 100000 in
set_option maxHeartbeats 2000000 in
theorem vbags_i (X Y : List PairD) (hX : X.length ≤ 1048576) (hY : Y.length ≤ 1048576) : VC Tryd.prog 37 [(false, [.seq 57 (X.map tPair)]), (false, [.seq 57 (Y.map tPair)])] false [(false, [.lit (.bool (decide (Ord.sort PairD.cmp X = Ord.sort PairD.cmp Y)))])] := by
  refine VC.enter Tryd.func37 rfl Tryd.ntmps37 (Nat.le_of_ble_eq_true rfl) fun E hE => ?_
  refine SV.seq' ?_
  refine SV.region ?_
  refine SV.op (OpL.ok (nb := 0) (ok_move (v := V.one (.sc _)) (.inr rfl) rfl) rfl (Nat.le_of_ble_eq_true rfl)) rfl ?_
  refine SV.nil ?_
  refine SV.tn ?_
  refine SV.seq' ?_
  refine SV.region ?_
  refine SV.op (OpL.ok (nb := 0) (ok_move (v := V.one (.ro _)) (.inl rfl) rfl) rfl (Nat.le_of_ble_eq_true rfl)) rfl ?_
  refine SV.op (OpMk.ok (ok_call (ls := [(false, [.hd 0])]) rfl rfl ⟨_, _, Tryd.func88, rfl, by decide⟩ (vsorted_i X (by omega)) ⟨⟨[.ro _], rfl, ⟨rfl, trivial⟩⟩, trivial⟩ rfl (Nat.le_of_ble_eq_true rfl))) rfl ?_
  refine SV.op (OpL.ok (nb := 0) (ok_move (v := V.one (.ro _)) (.inl rfl) rfl) rfl (Nat.le_of_ble_eq_true rfl)) rfl ?_
  refine SV.op (OpMk.ok (ok_call (ls := [(false, [.hd 1])]) rfl rfl ⟨_, _, Tryd.func88, rfl, by decide⟩ (vsorted_i Y (by omega)) ⟨⟨[.ro _], rfl, ⟨rfl, trivial⟩⟩, trivial⟩ rfl (Nat.le_of_ble_eq_true rfl))) rfl ?_
  refine SV.op (OpMk.ok (ok_call (ls := [(false, [.sc _])]) rfl rfl ⟨_, _, Tryd.func87, rfl, by decide⟩ (veqp (Ord.sort PairD.cmp X) (Ord.sort PairD.cmp Y) (by rw [Ord.sort_length]; omega)) ⟨⟨[.hd 0], rfl, ⟨rfl, trivial⟩⟩, ⟨[.hd 1], rfl, ⟨rfl, trivial⟩⟩, trivial⟩ rfl (Nat.le_of_ble_eq_true rfl))) rfl ?_
  refine SV.op (OpL.ok (nb := 0) (ok_move (v := V.one (.sc _)) (.inr rfl) rfl) rfl (Nat.le_of_ble_eq_true rfl)) rfl ?_
  refine SV.nil ?_
  refine SV.tn ?_
  refine SV.ret ?_
  apply SV.done (hf := Tryd.results37) (ht := rfl) (he := .inl rfl)
  case hr => exact (ResAll.cons (ResOk.tmp (ag := false) (xs := [.sc _]) rfl) ResAll.nil')
  case h2 => simp [two]
  refine ⟨rfl, ⟨?_, trivial⟩, trivial⟩ <;> rfl
set_option maxRecDepth 100000 in
set_option maxHeartbeats 2000000 in
theorem vbags_s (X Y : List PairD) (hX : X.length ≤ 1048576) (hY : Y.length ≤ 1048576) : VC Tryd.prog 28 [(false, [.seq 57 (X.map tPair)]), (false, [.seq 57 (Y.map tPair)])] false [(false, [.lit (.bool (decide (Ord.sort PairD.cmp X = Ord.sort PairD.cmp Y)))])] := by
  refine VC.enter Tryd.func28 rfl Tryd.ntmps28 (Nat.le_of_ble_eq_true rfl) fun E hE => ?_
  obtain ⟨A, hA⟩ : ∃ A, A = Ord.sort PairD.cmp X := ⟨_, rfl⟩
  obtain ⟨B, hB⟩ : ∃ B, B = Ord.sort PairD.cmp Y := ⟨_, rfl⟩
  have hAl : A.length ≤ 1048576 := by rw [hA, Ord.sort_length]; exact hX
  rw [← hA, ← hB]
  have h9 := vsorted_s X (by omega)
  have h10 := vsorted_s Y (by omega)
  rw [← hA] at h9
  rw [← hB] at h10
  clear hA hB
  refine SV.seq' ?_
  refine SV.region ?_
  refine SV.op (OpL.ok (nb := 0) (ok_move (v := V.one (.sc _)) (.inr rfl) rfl) rfl (Nat.le_of_ble_eq_true rfl)) rfl ?_
  refine SV.nil ?_
  refine SV.tn ?_
  refine SV.seq' ?_
  refine SV.region ?_
  refine SV.op (OpL.ok (nb := 0) (ok_move (v := V.one (.ro _)) (.inl rfl) rfl) rfl (Nat.le_of_ble_eq_true rfl)) rfl ?_
  refine SV.op (OpMk.ok (ok_call (ls := [(false, [.hd 0])]) rfl rfl ⟨_, _, Tryd.func79, rfl, by decide⟩ (h9) ⟨⟨[.ro _], rfl, ⟨rfl, trivial⟩⟩, trivial⟩ rfl (Nat.le_of_ble_eq_true rfl))) rfl ?_
  refine SV.op (OpL.ok (nb := 0) (ok_move (v := V.one (.hd 0)) (.inr rfl) rfl) rfl (Nat.le_of_ble_eq_true rfl)) rfl ?_
  refine SV.nil ?_
  refine SV.tn ?_
  refine SV.seq' ?_
  refine SV.region ?_
  refine SV.op (OpL.ok (nb := 0) (ok_move (v := V.one (.ro _)) (.inl rfl) rfl) rfl (Nat.le_of_ble_eq_true rfl)) rfl ?_
  refine SV.op (OpMk.ok (ok_call (ls := [(false, [.hd 1])]) rfl rfl ⟨_, _, Tryd.func79, rfl, by decide⟩ (h10) ⟨⟨[.ro _], rfl, ⟨rfl, trivial⟩⟩, trivial⟩ rfl (Nat.le_of_ble_eq_true rfl))) rfl ?_
  refine SV.op (OpL.ok (nb := 0) (ok_move (v := V.one (.hd 1)) (.inr rfl) rfl) rfl (Nat.le_of_ble_eq_true rfl)) rfl ?_
  refine SV.nil ?_
  refine SV.tn ?_
  refine SV.seq' ?_
  refine SV.seq' ?_
  refine SV.region ?_
  refine SV.op (OpL.ok (nb := 0) (ok_move (v := V.one (.hd 0)) (.inl rfl) rfl) rfl (Nat.le_of_ble_eq_true rfl)) rfl ?_
  refine SV.op (OpL.ok (nb := 0) (ok_len (lf := .hd 0) rfl elt_impl_Pair.und rfl rfl) rfl (Nat.le_of_ble_eq_true rfl)) rfl ?_
  refine SV.op (OpL.ok (nb := 0) (ok_move (v := V.one (.hd 1)) (.inl rfl) rfl) rfl (Nat.le_of_ble_eq_true rfl)) rfl ?_
  refine SV.op (OpL.ok (nb := 0) (ok_len (lf := .hd 1) rfl elt_impl_Pair.und rfl rfl) rfl (Nat.le_of_ble_eq_true rfl)) rfl ?_
  refine SV.op (OpL.ok (nb := 0) (ok_s2 (x := .tmp 13) (x' := .tmp 15) (VScal.one rfl) (VScal.one rfl) (fun ρ h1 h2 w => by go_simp; (try go_bits); with_reducible rfl) rfl) rfl (Nat.le_of_ble_eq_true rfl)) rfl ?_
  refine SV.nil ?_
  refine SV.tn ?_
  refine SV.cond rfl (fun hc0 => ?_) (fun hc0 => ?_)
  · skip   -- c0.T
    have hne : A ≠ B := fun e => by subst e; exact (by simp at hc0)
    refine SV.seq' ?_
    refine SV.region ?_
    refine SV.op (OpL.ok (nb := 0) (ok_move (v := V.one (.sc _)) (.inr rfl) rfl) rfl (Nat.le_of_ble_eq_true rfl)) rfl ?_
    refine SV.nil ?_
    refine SV.tn ?_
    refine SV.ret ?_
    refine SV.tr ?_
    apply SV.done (hf := Tryd.results28) (ht := rfl) (he := .inl rfl)
    case hr => exact (ResAll.cons (ResOk.tmp (ag := false) (xs := [.sc _]) rfl) ResAll.nil')
    case h2 => simp [two]
    refine ⟨rfl, ⟨?_, trivial⟩, trivial⟩ <;> (show some (T.lit (Value.bool _)) = some (T.lit (Value.bool _)); refine congrArg (fun z => some (T.lit (Value.bool z))) ?_; first | (rw [decide_eq_true hXY]; done) | (rw [decide_eq_false hne]; done) | (simp [hXY]; done) | (simp [hne]; done))
  · skip   -- c0.F
    have hlen : A.length = B.length := by simp at hc0; omega
    refine SV.skip ?_
    refine SV.tn ?_
    refine SV.seq' ?_
    refine SV.seq' ?_
    refine SV.region ?_
    refine SV.op (OpL.ok (nb := 0) (ok_move (v := V.one (.sc _)) (.inr rfl) rfl) rfl (Nat.le_of_ble_eq_true rfl)) rfl ?_
    refine SV.nil ?_
    refine SV.tn ?_
    refine SV.block ?_
    refine SV.loopF (X := Nat) (fun (σ : VS) t => ((((((VS.nil.new (σ.tree 0)).new (σ.tree 1)).put 4 (σ.tm 4)).put 5 (V.flat false [.hd 0])).put 6 (V.flat false [.hd 1])).put 7 (V.flat false [.sc (.int .i64 ((t : Int)))]))) (fun t => t ≤ A.length ∧ ∀ u, u < t → A[u]? = B[u]?) (fun t => A.length - t) ?_ ?_
    · skip
      refine SV.again (fun i => [0, 1].getD i 0) 0 (⟨Nat.zero_le _, fun u h => absurd h (Nat.not_lt_zero u)⟩) (pins hE rfl rfl) (VS.le.mk' (le_put (le_put (le_put (le_put (le_new (le_new le_nil)) (V.le.keep (ag := false) (xs := [.sc _]) (ys := [.sc _]) rfl rfl ⟨rfl, trivial⟩)) (V.le.keep (ag := false) (xs := [.hd 0]) (ys := [.hd 0]) rfl rfl ⟨⟨rfl, (Nat.le_of_ble_eq_true rfl), (Nat.le_of_ble_eq_true rfl)⟩, trivial⟩)) (V.le.keep (ag := false) (xs := [.hd 1]) (ys := [.hd 1]) rfl rfl ⟨⟨rfl, (Nat.le_of_ble_eq_true rfl), (Nat.le_of_ble_eq_true rfl)⟩, trivial⟩)) (V.le.keep (ag := false) (xs := [.sc _]) (ys := [.sc _]) rfl rfl ⟨(by first | rfl | (show Leaf.sc _ = Leaf.sc _; refine congrArg Leaf.sc ?_; first | rfl | go_num | (simp [cntAll]; done)) | (simp [cntAll]; done) | (simp; omega)), trivial⟩)) trivial ⟨.inr ⟨_, _, rfl, rfl, (Nat.le_of_ble_eq_true rfl)⟩, ⟨.inr ⟨_, _, rfl, rfl, (Nat.le_of_ble_eq_true rfl)⟩, trivial⟩⟩ (new_ob (new_ob nil_ob)) (fun i j hi hj e => inj_list (l := [0, 1]) (by decide) i j hi hj e))
    · rintro t ⟨ht, he⟩
      refine SV.seq' ?_
      refine SV.seq' ?_
      refine SV.region ?_
      refine SV.op (OpL.ok (nb := 0) (ok_move (v := V.one (.sc _)) (.inl rfl) rfl) rfl (Nat.le_of_ble_eq_true rfl)) rfl ?_
      refine SV.op (OpL.ok (nb := 0) (ok_move (v := V.one (.hd 0)) (.inl rfl) rfl) rfl (Nat.le_of_ble_eq_true rfl)) rfl ?_
      refine SV.op (OpL.ok (nb := 0) (ok_len (lf := .hd 0) rfl elt_impl_Pair.und rfl rfl) rfl (Nat.le_of_ble_eq_true rfl)) rfl ?_
      refine SV.op (OpL.ok (nb := 0) (ok_s2 (x := .tmp 17) (x' := .tmp 19) (VScal.one rfl) (VScal.one rfl) (fun ρ h1 h2 w => by go_simp; (try go_bits); with_reducible rfl) rfl) rfl (Nat.le_of_ble_eq_true rfl)) rfl ?_
      refine SV.nil ?_
      refine SV.tn ?_
      refine SV.cond rfl (fun hc1 => ?_) (fun hc1 => ?_)
      · skip   -- c1.T
        have htl : t < A.length := by simp at hc1; omega
        have hx : A[t]? = some A[t] := by simp [htl]
        have hy : B[t]? = some B[t] := by simp [← hlen, htl]
        refine SV.skip ?_
        refine SV.tn ?_
        refine SV.seq' ?_
        refine SV.block ?_
        refine SV.seq' ?_
        refine SV.draw [.q 0, .q 1, .q 2, .q 3, .q 4, .q 5, .q 6, .q 7, .q 8] [] (by kernel_rfl) (by kernel_rfl) ?_
        refine DW.q rfl (ok_move (v := V.one (.hd 0)) (.inl rfl) rfl) rfl rfl (Nat.le_of_ble_eq_true rfl) (fun _ _ _ _ h => h) ?_
        refine DW.q rfl (ok_move (v := V.one (.sc _)) (.inl rfl) rfl) rfl rfl (Nat.le_of_ble_eq_true rfl) (fun _ _ _ _ h => h) ?_
        refine DW.q rfl (ok_index (n := 7) (lf := .hd 0) rfl elt_impl_Pair.und sz_impl_Pair rfl rfl rfl (map_at hx)) rfl rfl (Nat.le_of_ble_eq_true rfl) (fun _ _ _ _ h => h) ?_
        refine DW.el (ag := true) (m := 7) (ys := [.sc _, .sc _, .sc _, .sc _, .sc _, .sc _, .sc _]) rfl rfl rfl (cells_ep rfl (map_at hx) rfl rfl) agg_impl_Pair sz_impl_Pair (fun h => by cases h) (Nat.le_of_ble_eq_true rfl) rfl rfl rfl (Nat.le_of_ble_eq_true rfl) (fun _ _ _ _ h => h) ?_
        refine DW.q rfl (ok_move (v := V.one (.hd 1)) (.inl rfl) rfl) rfl rfl (Nat.le_of_ble_eq_true rfl) (fun _ _ _ _ h => h) ?_
        refine DW.q rfl (ok_move (v := V.one (.sc _)) (.inl rfl) rfl) rfl rfl (Nat.le_of_ble_eq_true rfl) (fun _ _ _ _ h => h) ?_
        refine DW.q rfl (ok_index (n := 7) (lf := .hd 1) rfl elt_impl_Pair.und sz_impl_Pair rfl rfl rfl (map_at hy)) rfl rfl (Nat.le_of_ble_eq_true rfl) (fun _ _ _ _ h => h) ?_
        refine DW.el (ag := true) (m := 7) (ys := [.sc _, .sc _, .sc _, .sc _, .sc _, .sc _, .sc _]) rfl rfl rfl (cells_ep rfl (map_at hy) rfl rfl) agg_impl_Pair sz_impl_Pair (fun h => by cases h) (Nat.le_of_ble_eq_true rfl) rfl rfl rfl (Nat.le_of_ble_eq_true rfl) (fun _ _ _ _ h => h) ?_
        refine DW.q rfl (ok_s2 (v := .bool (decide (A[t] ≠ B[t]))) (x := .tmp 26) (x' := .tmp 30) ⟨true, [_, _, _, _, _, _, _], rfl, rfl⟩ ⟨true, [_, _, _, _, _, _, _], rfl, rfl⟩ (fun ρ h1 h2 w => neq_impl_Pair A[t] B[t] ρ _ _ _ w rfl h1 h2) rfl) rfl rfl (Nat.le_of_ble_eq_true rfl) (fun _ _ _ _ h => h) ?_
        refine DW.stores ?_
        refine SV.zend ?_
        refine SV.tn ?_
        refine SV.cond rfl (fun hc2 => ?_) (fun hc2 => ?_)
        · skip   -- c2.T
          have hne : A ≠ B := fun e => by subst e; exact (by simp at hc2)
          refine SV.seq' ?_
          refine SV.region ?_
          refine SV.op (OpL.ok (nb := 0) (ok_move (v := V.one (.sc _)) (.inr rfl) rfl) rfl (Nat.le_of_ble_eq_true rfl)) rfl ?_
          refine SV.nil ?_
          refine SV.tn ?_
          refine SV.ret ?_
          refine SV.br ?_
          refine SV.tr ?_
          refine SV.tr ?_
          refine SV.br ?_
          refine SV.tr ?_
          apply SV.done (hf := Tryd.results28) (ht := rfl) (he := .inl rfl)
          case hr => exact (ResAll.cons (ResOk.tmp (ag := false) (xs := [.sc _]) rfl) ResAll.nil')
          case h2 => simp [two]
          refine ⟨rfl, ⟨?_, trivial⟩, trivial⟩ <;> (show some (T.lit (Value.bool _)) = some (T.lit (Value.bool _)); refine congrArg (fun z => some (T.lit (Value.bool z))) ?_; first | (rw [decide_eq_true hXY]; done) | (rw [decide_eq_false hne]; done) | (simp [hXY]; done) | (simp [hne]; done))
        · skip   -- c2.F
          have hxy : A[t] = B[t] := by simpa using hc2
          refine SV.skip ?_
          refine SV.bn ?_
          refine SV.tn ?_
          refine SV.region ?_
          refine SV.op (OpL.ok (nb := 0) (ok_move (v := V.one (.sc _)) (.inl rfl) rfl) rfl (Nat.le_of_ble_eq_true rfl)) rfl ?_
          refine SV.op (OpL.ok (nb := 0) (ok_s2 (x := .tmp 21) (x' := .const ((Value.int IntKind.i64 1))) (VScal.one rfl) (VScal.one rfl) (fun ρ h1 h2 w => by go_simp; (try go_bits); with_reducible rfl) rfl) rfl (Nat.le_of_ble_eq_true rfl)) rfl ?_
          refine SV.op (OpL.ok (nb := 0) (ok_move (v := V.one (.sc _)) (.inr rfl) rfl) rfl (Nat.le_of_ble_eq_true rfl)) rfl ?_
          refine SV.nil ?_
          refine SV.tn ?_
          refine SV.again (fun i => [0, 1].getD i 0) (t + 1) (⟨⟨by omega, fun u hu => by rcases Nat.lt_or_ge u t with h | h; exact he u h; rw [show u = t by omega, hx, hy, hxy]⟩, by omega⟩) (pins hE rfl rfl) (VS.le.mk' (le_put (le_put (le_put (le_put (le_new (le_new le_nil)) (V.le.keep (ag := false) (xs := [.sc _]) (ys := [.sc _]) rfl rfl ⟨rfl, trivial⟩)) (V.le.keep (ag := false) (xs := [.hd 0]) (ys := [.hd 0]) rfl rfl ⟨⟨rfl, (Nat.le_of_ble_eq_true rfl), (Nat.le_of_ble_eq_true rfl)⟩, trivial⟩)) (V.le.keep (ag := false) (xs := [.hd 1]) (ys := [.hd 1]) rfl rfl ⟨⟨rfl, (Nat.le_of_ble_eq_true rfl), (Nat.le_of_ble_eq_true rfl)⟩, trivial⟩)) (V.le.keep (ag := false) (xs := [.sc _]) (ys := [.sc _]) rfl rfl ⟨(by first | rfl | (show Leaf.sc _ = Leaf.sc _; refine congrArg Leaf.sc ?_; first | rfl | go_num | (simp [cntAll]; done)) | (simp [cntAll]; done) | (simp; omega)), trivial⟩)) trivial ⟨.inr ⟨_, _, rfl, rfl, (Nat.le_of_ble_eq_true rfl)⟩, ⟨.inr ⟨_, _, rfl, rfl, (Nat.le_of_ble_eq_true rfl)⟩, trivial⟩⟩ (new_ob (new_ob nil_ob)) (fun i j hi hj e => inj_list (l := [0, 1]) (by decide) i j hi hj e))
      · skip   -- c1.F
        have hte : ¬ t < A.length := by simp at hc1; omega
        have hXY : A = B := List.ext_getElem? fun u => by
          rcases Nat.lt_or_ge u t with h | h
          · exact he u h
          · rw [List.getElem?_eq_none (by omega), List.getElem?_eq_none (by omega)]
        refine SV.exit ?_
        refine SV.te ?_
        refine SV.te ?_
        refine SV.bh ?_
        refine SV.tn ?_
        refine SV.seq' ?_
        refine SV.region ?_
        refine SV.op (OpL.ok (nb := 0) (ok_move (v := V.one (.sc _)) (.inr rfl) rfl) rfl (Nat.le_of_ble_eq_true rfl)) rfl ?_
        refine SV.nil ?_
        refine SV.tn ?_
        refine SV.ret ?_
        apply SV.done (hf := Tryd.results28) (ht := rfl) (he := .inl rfl)
        case hr => exact (ResAll.cons (ResOk.tmp (ag := false) (xs := [.sc _]) rfl) ResAll.nil')
        case h2 => simp [two]
        refine ⟨rfl, ⟨?_, trivial⟩, trivial⟩ <;> (show some (T.lit (Value.bool _)) = some (T.lit (Value.bool _)); refine congrArg (fun z => some (T.lit (Value.bool z))) ?_; first | (rw [decide_eq_true hXY]; done) | (rw [decide_eq_false hne]; done) | (simp [hXY]; done) | (simp [hne]; done))
end Go.Proofs.YtlnjgoommpeioaaDoor
/- What the rows' listed variables give the walks: the table of powers of ten; and how it is kept. -/
namespace Go.Proofs.YtlnjgoommpeioaaDoor
open Go Go.RowKit Go.Shelf

theorem gTab : Tryd.prog.globalNamed "internal/strconv.uint64pow10" = some 1 := by kernel_rfl
theorem tTab : (Tryd.prog.globals[1]?).map (·.type) = some 202 := by kernel_rfl
theorem tabDatum : (Rows.laid_internal_strconv_uint64pow10 : DataW Unit) = Lib.tabData .u64 Lib.pow10Tab := by kernel_rfl

/-- The table of powers of ten lies as the library lays it. -/
def Tab (w : World) : Prop := Lib.TabIs Tryd.prog w "internal/strconv.uint64pow10" .u64 Lib.pow10Tab
theorem Tab.stay {w w' : World} (h : Tab w) (hb : Below w.heap.size w w') : Tab w' := Joins.tab_stays gTab h hb (Nat.le_refl _)
theorem tab_of {r : List (String × DataW Unit)} {w : World} (h : laidMet Tryd.prog (("internal/strconv.uint64pow10", Rows.laid_internal_strconv_uint64pow10) :: r) w) : Tab w := by
  rw [tabDatum] at h
  exact Lib.tabIs_of_head gTab tTab Tryd.underlying202 Tryd.underlying177 (by kernel_rfl) (by kernel_rfl) h
/-- FormatInt of the program. -/
theorem below_grow (w : World) (k : Nat) (os : Array Obj) : Below w.heap.size w (Sort.grow (w.drewN k) os) :=
  ⟨rfl, rfl, rfl, by simp [Sort.grow], fun i hi => Sort.heap_grow_old (w.drewN k) os hi⟩
theorem itoa_any (n : Int) (w : World) (h0 : -9223372036854775808 ≤ n) (h1 : n ≤ 9223372036854775807) (ht : Tab w) :
    Calls Tryd.prog 150 #[.int .i64 n] w fun e w' => e = .returned (.string ⟨(Lib.itoa n).toArray⟩) ∧ Below w.heap.size w w' := by
  refine (Tryd.strconv_Itoa n h0 h1 w ht).mono fun e w' ⟨he, hw⟩ => ⟨he, ?_⟩
  obtain ⟨k, os, rfl⟩ := hw
  exact below_grow w k os
theorem ifmt (n : Int) (w : World) (h0 : -9223372036854775808 ≤ n) (h1 : n ≤ 9223372036854775807) (ht : Tab w) :
    Calls Tryd.prog 141 #[.int .i64 n] w fun e w' => e = .returned (.string ⟨(Lib.itoa n).toArray⟩) ∧ Below w.heap.size w w' := by
  have HT := Lib.hid ht
  clear ht
  go_enter Tryd.func141, Tryd.ntmps141
  go_wp2_with fail
  refine (itoa_any n _ h0 h1 HT.out).mono ?_
  rintro e w1 ⟨rfl, b1⟩
  go_wp2_with fail
  go_ret
  exact ⟨rfl, b1⟩
end Go.Proofs.YtlnjgoommpeioaaDoor
/- States told by trees: contracts under the table that the library's variables hold. -/
namespace Go.Proofs.YtlnjgoommpeioaaDoor.V
open Go Go.RowKit
set_option linter.unusedVariables false
variable {P : Program} {E : Env} {N : Nat} {σ : VS} {o : Oper}
/-- The call answers so, wherever the table lies. -/
def VCD (P : Program) (f : FuncId) (ins : List (Bool × List T)) (tup : Bool) (rs : List (Bool × List T)) : Prop := ∀ (w : World), Tab w → ∀ (vs : List Value), ArgsIn (Env.of w) w ins vs → Calls P f vs.toArray w (Gives (Env.of w) tup rs)
theorem VC.door {f : FuncId} {ins rs : List (Bool × List T)} {tup : Bool} (h : VC P f ins tup rs) : VCD P f ins tup rs := fun w _ => h w
/-- The table lay at the call's beginning, and nothing was lent. -/
def Env.door (E : Env) : Prop := Tab E.w0 ∧ ∀ b, ¬ E.ln b
theorem Env.door.at {w : World} (h : E.door) (hs : Same E E.w0 w) : Tab w := h.1.stay ⟨hs.os, hs.tape, hs.output, hs.size, fun b hb => hs.block b ⟨hb, h.2 b⟩⟩
theorem VCD.enter {f : FuncId} {fn : Func} {c : Go.Code} {n : Nat} {ins rs : List (Bool × List T)} {tup : Bool} (hf : P.funcs[f]? = some fn) (hb : fn.body = some c) (hn : fn.ntmps = n) (hl : ins.length ≤ n)
    (h : ∀ E, E.plain 0 → E.door → SV E n (VS.init (ins.map fun p => V.flat p.1 (p.2.map argLeaf))) (c.wp P (bodyPost P fn (Gives E tup rs)))) : VCD P f ins tup rs := fun w hT vs hv => by
  refine calls_of_wp hf hb ?_
  obtain ⟨G, hG⟩ := init_rel (E := Env.of w) ⟨rfl, rfl⟩ (n := n) hv (by rw [hv.1]; exact hl)
  have := h (Env.of w) ⟨rfl, rfl⟩ ⟨hT, fun b hb => hb.elim⟩ _ _ G hG
  rw [hn]
  have e : (Env.of w).w0 = w := rfl
  rw [e] at this
  simpa using this
theorem ok_callD {d : Nat} {f : FuncId} {xs : List Operand} {ats : Array TypeId} {qs : List (Bool × List T)} {tup : Bool} {rs : List (Bool × List T)} {ls : List (Bool × List Leaf)} (hD : E.door) (hk : ansLs σ.nx rs = ls) (ho : o.op = .call { callee := .value (.func f), args := xs.toArray, argTypes := ats }) (hb : ∃ fn c, P.funcs[f]? = some fn ∧ fn.body = some c ∧ fn.name ≠ "runtime.NumGoroutine")
    (hc : VCD P f qs tup rs) (hx : σ.argss xs qs) (hd : o.dst = some d) (hdN : d < N) : OpMk P E N none σ o ((ansSs σ rs).put d ⟨tup, ls⟩) := ok_callW hk ho hb (fun w hs => hc w (hD.at hs)) hx hd hdN
/-- A call of plain values that answers a plain value and changes nothing. -/
theorem VCD.plain {f : FuncId} {ins : List (Bool × List Value)} {ag : Bool} {rs : List Value} (h1 : ∀ u ∈ rs, u.oneCell' = true) (h : ∀ w, Tab w → Calls P f (ins.map fun p => cval p.1 p.2).toArray w fun e w' => e = .returned (cval ag rs) ∧ Below w.heap.size w w') : VCD P f (ins.map fun p => (p.1, p.2.map T.lit)) false [(ag, rs.map T.lit)] := fun w hT =>
  VC.plainAt h1 (h w hT)
/-- A law's contract, as its last step takes it. -/
theorem VCD.law {f : FuncId} {ins : List (Bool × List T)} (h : VCD P f ins false [(false, [.lit (.bool true)])]) {w : World} (hT : Tab w) {vs : List Value} (hv : ArgsIn (Env.of w) w ins vs) : Calls P f vs.toArray w fun e w' => e = .returned (.bool true) ∧ Below w.heap.size w w' :=
  (h w hT vs hv).mono fun e w' hg => by
    obtain ⟨he, hs⟩ := Gives.lit hg
    exact ⟨he, ⟨hs.os, hs.tape, hs.output, hs.size, fun b hb => hs.block b ⟨hb, fun h => h.elim⟩⟩⟩
end Go.Proofs.YtlnjgoommpeioaaDoor.V
/- The reference's IsValidRow and RowCost, by contract. -/
namespace Go.Proofs.YtlnjgoommpeioaaDoor
open Go.RowKit

theorem sin (n a b : Int) (w : World) : Calls Tryd.prog 60 #[.int .i64 n, .int .i64 a, .int .i64 b] w fun e w' => e = .returned (.bool (decide (a ≤ n ∧ n ≤ b))) ∧ w = w' := by
  go_enter Tryd.func60, Tryd.ntmps60
  go_wp2
  all_goals go_ret
  all_goals simp_all
  all_goals omega
theorem svalid (r : R) (w : World) : Calls Tryd.prog 109 #[r.val] w fun e w' => e = .returned (.bool r.ok) ∧ Below w.heap.size w w' := by
  obtain ⟨k, v, d⟩ := r
  unfold R.val
  go_enter Tryd.func109, Tryd.ntmps109
  go_wp2_with fail
  refine (sin _ _ _ _).mono ?_
  rintro e w1 ⟨rfl, rfl⟩
  go_wp2_with fail
  case isTrue =>
    refine (sin _ _ _ _).mono ?_
    rintro e w1 ⟨rfl, rfl⟩
    go_wp2_with fail
    case isTrue =>
      refine (sin _ _ _ _).mono ?_
      rintro e w1 ⟨rfl, rfl⟩
      go_wp2_with fail
      all_goals go_ret
      all_goals refine ⟨?_, (Below.refl _ _).alloc (Nat.le_refl _) _⟩
      all_goals simp_all [R.ok]
    all_goals go_ret
    all_goals refine ⟨?_, (Below.refl _ _).alloc (Nat.le_refl _) _⟩
    all_goals simp_all [R.ok]
    all_goals omega
  all_goals go_ret
  all_goals refine ⟨?_, (Below.refl _ _).alloc (Nat.le_refl _) _⟩
  all_goals simp_all [R.ok]
  all_goals omega
theorem scost (r : R) (hr : r.wf) (w : World) : Calls Tryd.prog 111 #[r.val] w fun e w' => e = .returned (.int .i64 r.cost) ∧ Below w.heap.size w w' := by
  have hw := hr.2.2
  have H := Lib.hid (svalid r)
  cases hok : r.ok with
  | true =>
    have hc : r.cost = 1 + r.width := by unfold R.cost; rw [hok]; rfl
    have hk := R.ok_iff.1 hok
    rw [hc]
    unfold R.val
    go_enter Tryd.func111, Tryd.ntmps111
    go_wp2_with fail
    refine (H.out _).mono ?_
    rintro e w1 ⟨rfl, b1⟩
    obtain ⟨⟨c0, c1, c2⟩, b2⟩ := box_row (r := r) b1
    rw [hok]
    simp only [Nat.zero_add] at c2
    go_wp2_with fail
    go_ret
    exact ⟨rfl, b2⟩
  | false =>
    have hc : r.cost = 0 := by unfold R.cost; rw [hok]; rfl
    rw [hc]
    unfold R.val
    go_enter Tryd.func111, Tryd.ntmps111
    go_wp2_with fail
    refine (H.out _).mono ?_
    rintro e w1 ⟨rfl, b1⟩
    obtain ⟨⟨c0, c1, c2⟩, b2⟩ := box_row (r := r) b1
    rw [hok]
    go_wp2_with fail
    go_ret
    exact ⟨rfl, b2⟩
end Go.Proofs.YtlnjgoommpeioaaDoor
/- The reference's l1In, by contract; a string's ending. -/
namespace Go.Proofs.YtlnjgoommpeioaaDoor
open Go.RowKit

theorem in_yes (x lo hi : Int) (w : World) (h1 : lo ≤ x) (h2 : x ≤ hi) : Calls Tryd.prog 60 #[.int .i64 x, .int .i64 lo, .int .i64 hi] w fun e w' => e = .returned (.bool true) ∧ w = w' := by
  go_enter Tryd.func60, Tryd.ntmps60
  go_wp2
  go_ret
  exact ⟨rfl, rfl⟩
theorem in_no (x lo hi : Int) (w : World) (h : x < lo ∨ hi < x) : Calls Tryd.prog 60 #[.int .i64 x, .int .i64 lo, .int .i64 hi] w fun e w' => e = .returned (.bool false) ∧ w = w' := by
  by_cases h1 : x < lo
  · go_enter Tryd.func60, Tryd.ntmps60
    go_wp2
    go_ret
    exact ⟨rfl, rfl⟩
  · have h2 : hi < x := by omega
    have h3 : lo ≤ x := by omega
    have hd : decide (x ≤ hi) = false := by simpa using h2
    clear h1 h
    go_enter Tryd.func60, Tryd.ntmps60
    go_wp2
    go_ret
    exact ⟨rfl, rfl⟩

theorem ret_str {a b : List UInt8} (h : a = b) : Ending.returned (.string ⟨a.toArray⟩) = .returned (.string ⟨b.toArray⟩) := by rw [h]
end Go.Proofs.YtlnjgoommpeioaaDoor
/- FormatInt of the reference: the decimal numeral of every integer. -/
namespace Go.Proofs.YtlnjgoommpeioaaDoor
open Go.RowKit Num Dec

theorem str_cat (b : UInt8) (l : List UInt8) : (⟨[b].toArray⟩ : ByteArray) ++ ⟨l.toArray⟩ = ⟨(b :: l).toArray⟩ := ByteArray.mk_append_mk [b] l

theorem sfmt_zero (w : World) : Calls Tryd.prog 125 #[.int .i64 0] w fun e w' => e = .returned (.string ⟨(Lib.itoa 0).toArray⟩) ∧ Below w.heap.size w w' := by
  rw [itoa_zero]
  go_enter Tryd.func125, Tryd.ntmps125
  go_wp2
  go_ret
  exact ⟨rfl, Below.refl _ _⟩

set_option maxRecDepth 100000 in
theorem sfmt_pos (n : Int) (w : World) (h0 : 0 < n) (h63 : n ≤ 9223372036854775807) :
    Calls Tryd.prog 125 #[.int .i64 n] w fun e w' => e = .returned (.string ⟨(Lib.itoa n).toArray⟩) ∧ Below w.heap.size w w' := by
  rw [itoa_pos n h0]
  have hlen := dd_length_le n.toNat (by omega)
  have hz : (n == 0) = false := by rw [beq_eq_false_iff_ne]; omega
  have hneg : decide (n < 0) = false := by simp; omega
  go_enter Tryd.func125, Tryd.ntmps125
  go_wp2
  go_loopw [0, 3, 5] (fun m o _ wr => ∃ (x : Int) (out : List UInt8), m = .int .i64 x ∧ o = .string ⟨out.toArray⟩ ∧ 0 ≤ x ∧ x ≤ 9223372036854775807 ∧ Hid (dd n.toNat = dd x.toNat ++ out) ∧ Below w.heap.size w wr) (fun m _ _ _ => (intOf m).toNat)
  case atStart => exact ⟨n, [], rfl, rfl, by omega, h63, by show _ = _; simp, Below.refl _ _⟩
  case round =>
    obtain ⟨x, out, rfl, rfl, hx0, hx1, hD, hb⟩ := hrel
    have hol : out.length ≤ 20 := by have := congrArg List.length hD.out; rw [List.length_append] at this; omega
    by_cases hx : x = 0
    · have hout := hD.out
      rw [hx] at hout
      have HO : Hid (dd n.toNat = out) := hout
      have ht : (x != 0) = false := by rw [bne_eq_false_iff_eq]; exact hx
      clear hx hout
      go_wp2_with fail
      go_ret
      exact ⟨ret_str HO.out.symm, hb⟩
    · have ht : (x != 0) = true := by rw [bne_iff_ne]; exact hx
      have hxp : 0 < x := by omega
      clear hx
      obtain ⟨b, hb8⟩ : ∃ b : UInt8, b = UInt8.ofNat (48 + x.toNat % 10) := ⟨_, rfl⟩
      have hone := one_string wr (48 + x % 10) b (by rw [hb8, UInt8.toNat_ofNat']; omega)
      have HB := Lib.hid hb8
      clear hb8
      have hdec : ¬ x % 10 < 0 := by omega
      go_wp2_with fail
      go_roundw
      case rel =>
        refine ⟨x / 10, b :: out, rfl, by exact congrArg Value.string (str_cat _ _), by omega, by omega, ?_, hb.alloc hb.size _⟩
        show _ = _
        rw [hD.out, dd_step x.toNat (by omega), ← HB.out, show (x / 10).toNat = x.toNat / 10 by omega, List.append_assoc]; rfl
      case measure => simp [intOf]; omega

set_option maxRecDepth 100000 in
theorem sfmt_neg (n : Int) (w : World) (h0 : n < 0) (h63 : -9223372036854775808 ≤ n) :
    Calls Tryd.prog 125 #[.int .i64 n] w fun e w' => e = .returned (.string ⟨(Lib.itoa n).toArray⟩) ∧ Below w.heap.size w w' := by
  rw [itoa_neg n h0]
  have hlen := dd_length_le n.natAbs (by omega)
  have hz : (n == 0) = false := by rw [beq_eq_false_iff_ne]; omega
  have hneg : decide (n < 0) = true := by simpa using h0
  go_enter Tryd.func125, Tryd.ntmps125
  go_wp2
  go_loopw [0, 3, 5] (fun m o _ wr => ∃ (x : Int) (out : List UInt8), m = .int .i64 x ∧ o = .string ⟨out.toArray⟩ ∧ x ≤ 0 ∧ -9223372036854775808 ≤ x ∧ Hid (dd n.natAbs = dd x.natAbs ++ out) ∧ Below w.heap.size w wr) (fun m _ _ _ => (intOf m).natAbs)
  case atStart => exact ⟨n, [], rfl, rfl, by omega, h63, by show _ = _; simp, Below.refl _ _⟩
  case round =>
    obtain ⟨x, out, rfl, rfl, hx0, hx1, hD, hb⟩ := hrel
    have hol : out.length ≤ 20 := by have := congrArg List.length hD.out; rw [List.length_append] at this; omega
    by_cases hx : x = 0
    · have hout := hD.out
      rw [hx] at hout
      have HO : Hid (dd n.natAbs = out) := hout
      have ht : (x != 0) = false := by rw [bne_eq_false_iff_eq]; exact hx
      clear hx hout
      go_wp2_with fail
      go_ret
      exact ⟨by rw [HO.out]; exact congrArg (fun z => Ending.returned (Value.string z)) (str_cat 45 out), hb⟩
    · have ht : (x != 0) = true := by rw [bne_iff_ne]; exact hx
      have hxp : x < 0 := by omega
      clear hx
      obtain ⟨u, hu⟩ : ∃ u : Nat, x = -(u : Int) := ⟨x.natAbs, by omega⟩
      obtain ⟨b, hb8⟩ : ∃ b : UInt8, b = UInt8.ofNat (48 + u % 10) := ⟨_, rfl⟩
      obtain ⟨r, hr⟩ : ∃ r : Int, r = ((u % 10 : Nat) : Int) := ⟨_, rfl⟩
      obtain ⟨q, hq⟩ : ∃ q : Int, q = -((u / 10 : Nat) : Int) := ⟨_, rfl⟩
      have hmod : x.tmod 10 = -r := by rw [hu, hr, Int.neg_tmod, Int.ofNat_tmod]; rfl
      have hdiv : x.tdiv 10 = q := by rw [hu, hq, Int.neg_tdiv, Int.ofNat_tdiv]; rfl
      have hone := one_string wr (48 + r) b (by rw [hb8, hr, UInt8.toNat_ofNat']; omega)
      have hr0 : 0 ≤ r := by omega
      have hr1 : r ≤ 9 := by omega
      have hq0 : q ≤ 0 := by omega
      have hq1 : -922337203685477580 ≤ q := by omega
      have hqx : q.natAbs < x.natAbs := by omega
      have HB := Lib.hid hb8
      have HR := Lib.hid hr
      have HQ := Lib.hid hq
      have HU := Lib.hid hu
      clear hb8 hr hq hu
      by_cases hr2 : r = 0
      · have hmod0 : x.tmod 10 = 0 := by rw [hmod, hr2]; rfl
        have hone0 := one_string wr 48 b (by rw [HB.out, UInt8.toNat_ofNat']; have := HR.out; omega)
        clear hmod hone hr2 hr0 hr1
        go_wp2_with fail
        go_roundw
        case rel =>
          refine ⟨q, b :: out, rfl, by exact congrArg Value.string (str_cat _ _), hq0, by omega, ?_, hb.alloc hb.size _⟩
          show _ = _
          have h1 := HU.out
          have h2 := HQ.out
          rw [hD.out, dd_step x.natAbs (by omega), show x.natAbs = u by omega, ← HB.out, show q.natAbs = u / 10 by omega, List.append_assoc]; rfl
        case measure => simp [intOf]; omega
      · have hneg1 : decide (-r < 0) = true := by simp; omega
        go_wp2_with fail
        go_roundw
        case rel =>
          refine ⟨q, b :: out, rfl, by exact congrArg Value.string (str_cat _ _), hq0, by omega, ?_, hb.alloc hb.size _⟩
          show _ = _
          have h1 := HU.out
          have h2 := HQ.out
          rw [hD.out, dd_step x.natAbs (by omega), show x.natAbs = u by omega, ← HB.out, show q.natAbs = u / 10 by omega, List.append_assoc]; rfl
        case measure => simp [intOf]; omega
theorem sfmt (n : Int) (w : World) (h0 : -9223372036854775808 ≤ n) (h1 : n ≤ 9223372036854775807) :
    Calls Tryd.prog 125 #[.int .i64 n] w fun e w' => e = .returned (.string ⟨(Lib.itoa n).toArray⟩) ∧ Below w.heap.size w w' := by
  by_cases hz : n = 0
  · subst hz; exact sfmt_zero w
  · by_cases hp : 0 < n
    · exact sfmt_pos n w hp h1
    · exact sfmt_neg n w (by omega) h0
end Go.Proofs.YtlnjgoommpeioaaDoor
/- The reference's FormatRow, by contract. -/
namespace Go.Proofs.YtlnjgoommpeioaaDoor
open Go.RowKit Go.Lib

/-- The row lies in its box, and what was there at w's time is as it was. -/
structure Boxed (w : World) (r : R) (v : World) : Prop where
  c0 : v.cell? ⟨w.heap.size, 0, none⟩ = some (.int .i64 r.key)
  c1 : v.cell? ⟨w.heap.size, 1, none⟩ = some (.int .i64 r.value)
  c2 : v.cell? ⟨w.heap.size, 2, none⟩ = some (.int .i64 r.width)
  old : Below w.heap.size w v
  big : w.heap.size < v.heap.size
theorem Boxed.drew {w v : World} {r : R} (h : Boxed w r v) : Boxed w r v.drew := ⟨h.c0, h.c1, h.c2, h.old.drew, h.big⟩
theorem Boxed.next {w v v' : World} {r : R} (h : Boxed w r v) (hb : Below v.heap.size v v') : Boxed w r v' :=
  ⟨(hb.cell h.big).trans h.c0, (hb.cell h.big).trans h.c1, (hb.cell h.big).trans h.c2, h.old.trans (hb.mono (Nat.le_of_lt h.big)), Nat.lt_of_lt_of_le h.big hb.size⟩
theorem boxed_start {w w' : World} {r : R} {t : TypeId} (hb : Below (w.alloc (.cells #[.int .i64 r.key, .int .i64 r.value, .int .i64 r.width] t)).heap.size (w.alloc (.cells #[.int .i64 r.key, .int .i64 r.value, .int .i64 r.width] t)) w') : Boxed w r w' := by
  obtain ⟨⟨c0, c1, c2⟩, b⟩ := box_row (r := r) hb
  exact ⟨c0, by simpa using c1, by simpa using c2, b, box_lt hb⟩
theorem Boxed.facts {w v : World} {r : R} (h : Boxed w r v) : v.cell? ⟨w.heap.size, 0, none⟩ = some (.int .i64 r.key) ∧ v.cell? ⟨w.heap.size, 1, none⟩ = some (.int .i64 r.value) ∧ v.cell? ⟨w.heap.size, 2, none⟩ = some (.int .i64 r.width) ∧ Hid (Boxed w r v) := ⟨h.c0, h.c1, h.c2, h⟩
theorem fmt_str (a b c : List UInt8) : (⟨a.toArray⟩ : ByteArray) ++ ⟨#[46]⟩ ++ ⟨b.toArray⟩ ++ ⟨#[46]⟩ ++ ⟨c.toArray⟩ = ⟨(a ++ 46 :: (b ++ 46 :: c)).toArray⟩ := by
  have e : (⟨#[46]⟩ : ByteArray) = ⟨[46].toArray⟩ := rfl
  rw [e, ByteArray.mk_append_mk, ByteArray.mk_append_mk, ByteArray.mk_append_mk, ByteArray.mk_append_mk]
  simp
set_option maxRecDepth 100000 in
theorem sfrow (r : R) (w : World) : Calls Tryd.prog 83 #[r.val] w fun e w' => e = .returned (.string ⟨r.fmt.toArray⟩) ∧ Below w.heap.size w w' := by
  have HV := Lib.hid (svalid r)
  cases hok : r.ok with
  | false =>
    have hf : r.fmt = [] := by unfold R.fmt; rw [hok]; rfl
    have HF := Lib.hid hf
    rw [hok] at HV
    clear hf hok
    unfold R.val at HV ⊢
    go_enter Tryd.func83, Tryd.ntmps83
    go_wp2_with fail
    refine (HV.out _).mono ?_
    rintro e w1 ⟨rfl, b1⟩
    have HB := Lib.hid (boxed_start b1)
    clear b1
    go_wp2_with fail
    go_ret
    exact ⟨by rw [HF.out]; rfl, HB.out.old⟩
  | true =>
    have hf : r.fmt = itoa r.key ++ 46 :: (itoa r.value ++ 46 :: itoa r.width) := by unfold R.fmt; rw [hok]; rfl
    have HF := Lib.hid hf
    have hk := R.ok_iff.1 hok
    have l0 := dd_small r.key (by omega) (by omega)
    have l1 := dd_small r.value (by omega) (by omega)
    have l2 := dd_small r.width (by omega) (by omega)
    have F0 := Lib.hid fun w => sfmt r.key w (by omega) (by omega)
    have F1 := Lib.hid fun w => sfmt r.value w (by omega) (by omega)
    have F2 := Lib.hid fun w => sfmt r.width w (by omega) (by omega)
    rw [hok] at HV
    clear hf hok hk
    obtain ⟨a, ha⟩ : ∃ a, a = itoa r.key := ⟨_, rfl⟩
    obtain ⟨b, hb⟩ : ∃ a, a = itoa r.value := ⟨_, rfl⟩
    obtain ⟨c, hc⟩ : ∃ a, a = itoa r.width := ⟨_, rfl⟩
    rw [← ha] at F0 HF l0
    rw [← hb] at F1 HF l1
    rw [← hc] at F2 HF l2
    clear ha hb hc
    have n0 : ¬ 9223372036854775807 < a.length + 1 := by omega
    have n1 : ¬ 9223372036854775807 < a.length + 1 + b.length := by omega
    have n2 : ¬ 9223372036854775807 < a.length + 1 + b.length + 1 := by omega
    have n3 : ¬ 9223372036854775807 < a.length + 1 + b.length + 1 + c.length := by omega
    unfold R.val at HV ⊢
    go_enter Tryd.func83, Tryd.ntmps83
    go_wp2_with fail
    refine (HV.out _).mono ?_
    rintro e w1 ⟨rfl, b1⟩
    have HB := Lib.hid (boxed_start b1).drew
    have hb := boxed_start b1
    obtain ⟨c0, c1, c2, _, _⟩ := hb
    clear b1
    go_wp2_with fail
    go_region_held3 (fun v => v.cell? ⟨w.heap.size, 0, none⟩ = some (.int .i64 r.key) ∧ v.cell? ⟨w.heap.size, 1, none⟩ = some (.int .i64 r.value) ∧ v.cell? ⟨w.heap.size, 2, none⟩ = some (.int .i64 r.width) ∧ Hid (Boxed w r v)) (first | assumption | exact HB.out.facts | exact (Boxed.next (Hid.out (And.right (And.right (And.right (by assumption))))) (by assumption)).facts) (first | (go_at_call_of 125 r.key; refine (F0.out _).mono ?_; rintro e w' ⟨rfl, b2⟩) | (go_at_call_of 125 r.value; refine (F1.out _).mono ?_; rintro e w' ⟨rfl, b2⟩) | (go_at_call_of 125 r.width; refine (F2.out _).mono ?_; rintro e w' ⟨rfl, b2⟩))
    have hold := (Hid.out (And.right (And.right (And.right (by assumption : _ ∧ _ ∧ _ ∧ Hid (Boxed w r w'))))) : Boxed w r w').old
    go_wp2_with fail
    go_ret
    exact ⟨by rw [HF.out, ← fmt_str]; rfl, hold⟩
end Go.Proofs.YtlnjgoommpeioaaDoor
/- The program's isUpTo, by contract. -/
namespace Go.Proofs.YtlnjgoommpeioaaDoor
open Go.RowKit

theorem iup (n b : Int) (w : World) : Calls Tryd.prog 57 #[.int .i64 n, .int .i64 b] w fun e w' => e = .returned (.bool (decide (0 ≤ n ∧ n ≤ b))) ∧ w = w' := by
  go_enter Tryd.func57, Tryd.ntmps57
  go_wp2
  all_goals go_ret
  all_goals simp_all
  all_goals omega
end Go.Proofs.YtlnjgoommpeioaaDoor
/- The program's IsValidRow and RowCost, by contract. -/
namespace Go.Proofs.YtlnjgoommpeioaaDoor
open Go.RowKit

theorem ivalid (r : R) (w : World) : Calls Tryd.prog 139 #[r.val] w fun e w' => e = .returned (.bool r.ok) ∧ Below w.heap.size w w' := by
  obtain ⟨k, v, d⟩ := r
  unfold R.val
  go_enter Tryd.func139, Tryd.ntmps139
  go_wp2_with fail
  refine (iup _ _ _).mono ?_
  rintro e w1 ⟨rfl, rfl⟩
  go_wp2_with fail
  case isTrue =>
    refine (iup _ _ _).mono ?_
    rintro e w1 ⟨rfl, rfl⟩
    go_wp2_with fail
    case isTrue =>
      refine (iup _ _ _).mono ?_
      rintro e w1 ⟨rfl, rfl⟩
      go_wp2_with fail
      all_goals go_ret
      all_goals refine ⟨?_, (Below.refl _ _).alloc (Nat.le_refl _) _⟩
      all_goals simp_all [R.ok]
    all_goals go_ret
    all_goals refine ⟨?_, (Below.refl _ _).alloc (Nat.le_refl _) _⟩
    all_goals simp_all [R.ok]
    all_goals omega
  all_goals go_ret
  all_goals refine ⟨?_, (Below.refl _ _).alloc (Nat.le_refl _) _⟩
  all_goals simp_all [R.ok]
  all_goals omega
theorem icost (r : R) (hr : r.wf) (w : World) : Calls Tryd.prog 138 #[r.val] w fun e w' => e = .returned (.int .i64 r.cost) ∧ Below w.heap.size w w' := by
  have hw := hr.2.2
  have H := Lib.hid (ivalid r)
  cases hok : r.ok with
  | true =>
    have hc : r.cost = 1 + r.width := by unfold R.cost; rw [hok]; rfl
    have hk := R.ok_iff.1 hok
    rw [hc]
    unfold R.val
    go_enter Tryd.func138, Tryd.ntmps138
    go_wp2_with fail
    refine (H.out _).mono ?_
    rintro e w1 ⟨rfl, b1⟩
    obtain ⟨⟨c0, c1, c2⟩, b2⟩ := box_row (r := r) b1
    rw [hok]
    simp only [Nat.zero_add] at c2
    go_wp2_with fail
    go_ret
    exact ⟨rfl, b2⟩
  | false =>
    have hc : r.cost = 0 := by unfold R.cost; rw [hok]; rfl
    rw [hc]
    unfold R.val
    go_enter Tryd.func138, Tryd.ntmps138
    go_wp2_with fail
    refine (H.out _).mono ?_
    rintro e w1 ⟨rfl, b1⟩
    obtain ⟨⟨c0, c1, c2⟩, b2⟩ := box_row (r := r) b1
    rw [hok]
    go_wp2_with fail
    go_ret
    exact ⟨rfl, b2⟩
end Go.Proofs.YtlnjgoommpeioaaDoor
/- The program's FormatRow, by contract. -/
namespace Go.Proofs.YtlnjgoommpeioaaDoor
open Go.RowKit Go.Lib

/-- The row lies in its box, and the table of powers of ten as the library lays it. -/
def BoxedT (w : World) (r : R) (v : World) : Prop := Boxed w r v ∧ Tab v
theorem BoxedT.facts {w v : World} {r : R} (h : BoxedT w r v) : v.cell? ⟨w.heap.size, 0, none⟩ = some (.int .i64 r.key) ∧ v.cell? ⟨w.heap.size, 1, none⟩ = some (.int .i64 r.value) ∧ v.cell? ⟨w.heap.size, 2, none⟩ = some (.int .i64 r.width) ∧ Hid (BoxedT w r v) := ⟨h.1.c0, h.1.c1, h.1.c2, h⟩
theorem boxed_tab {w w' : World} {r : R} {t : TypeId} (hb : Below (w.alloc (.cells #[.int .i64 r.key, .int .i64 r.value, .int .i64 r.width] t)).heap.size (w.alloc (.cells #[.int .i64 r.key, .int .i64 r.value, .int .i64 r.width] t)) w') (ht : Tab w) : BoxedT w r w'.drew :=
  ⟨(boxed_start hb).drew, ht.stay (boxed_start hb).drew.old⟩
theorem ifmt_keep (w : World) (r : R) (n : Int) (v : World) (h0 : -9223372036854775808 ≤ n) (h1 : n ≤ 9223372036854775807) (hv : Hid (BoxedT w r v)) :
    Calls Tryd.prog 141 #[.int .i64 n] v fun e v' => e = .returned (.string ⟨(itoa n).toArray⟩) ∧ Hid (BoxedT w r v') :=
  (ifmt n v h0 h1 hv.out.2).mono fun _ _ ⟨he, hb⟩ => ⟨he, hv.out.1.next hb, hv.out.2.stay hb⟩
set_option maxRecDepth 100000 in
theorem ifrow (r : R) (w : World) (ht : Tab w) : Calls Tryd.prog 121 #[r.val] w fun e w' => e = .returned (.string ⟨r.fmt.toArray⟩) ∧ Below w.heap.size w w' := by
  have HV := Lib.hid (ivalid r)
  have HT := Lib.hid ht
  clear ht
  cases hok : r.ok with
  | false =>
    have hf : r.fmt = [] := by unfold R.fmt; rw [hok]; rfl
    have HF := Lib.hid hf
    rw [hok] at HV
    clear hf hok
    unfold R.val at HV ⊢
    go_enter Tryd.func121, Tryd.ntmps121
    go_wp2_with fail
    refine (HV.out _).mono ?_
    rintro e w1 ⟨rfl, b1⟩
    have HB := Lib.hid (boxed_start b1)
    clear b1
    go_wp2_with fail
    go_ret
    exact ⟨by rw [HF.out]; rfl, HB.out.old⟩
  | true =>
    have hf : r.fmt = itoa r.key ++ 46 :: (itoa r.value ++ 46 :: itoa r.width) := by unfold R.fmt; rw [hok]; rfl
    have HF := Lib.hid hf
    have hk := R.ok_iff.1 hok
    have l0 := dd_small r.key (by omega) (by omega)
    have l1 := dd_small r.value (by omega) (by omega)
    have l2 := dd_small r.width (by omega) (by omega)
    have F0 := Lib.hid fun v hv => ifmt_keep w r r.key v (by omega) (by omega) hv
    have F1 := Lib.hid fun v hv => ifmt_keep w r r.value v (by omega) (by omega) hv
    have F2 := Lib.hid fun v hv => ifmt_keep w r r.width v (by omega) (by omega) hv
    rw [hok] at HV
    clear hf hok hk
    obtain ⟨a, ha⟩ : ∃ a, a = itoa r.key := ⟨_, rfl⟩
    obtain ⟨b, hb⟩ : ∃ a, a = itoa r.value := ⟨_, rfl⟩
    obtain ⟨c, hc⟩ : ∃ a, a = itoa r.width := ⟨_, rfl⟩
    rw [← ha] at F0 HF l0
    rw [← hb] at F1 HF l1
    rw [← hc] at F2 HF l2
    clear ha hb hc
    have n0 : ¬ 9223372036854775807 < a.length + 1 := by omega
    have n1 : ¬ 9223372036854775807 < a.length + 1 + b.length := by omega
    have n2 : ¬ 9223372036854775807 < a.length + 1 + b.length + 1 := by omega
    have n3 : ¬ 9223372036854775807 < a.length + 1 + b.length + 1 + c.length := by omega
    unfold R.val at HV ⊢
    go_enter Tryd.func121, Tryd.ntmps121
    go_wp2_with fail
    refine (HV.out _).mono ?_
    rintro e w1 ⟨rfl, b1⟩
    have HB := Lib.hid (boxed_tab b1 HT.out)
    have hb := boxed_start b1
    obtain ⟨c0, c1, c2, _, _⟩ := hb
    clear b1
    go_wp2_with fail
    go_region_held3 (fun v => v.cell? ⟨w.heap.size, 0, none⟩ = some (.int .i64 r.key) ∧ v.cell? ⟨w.heap.size, 1, none⟩ = some (.int .i64 r.value) ∧ v.cell? ⟨w.heap.size, 2, none⟩ = some (.int .i64 r.width) ∧ Hid (BoxedT w r v)) (first | assumption | exact HB.out.facts | exact BoxedT.facts (Hid.out (by assumption))) (first | (go_at_call_of 141 r.key; refine (F0.out _ (And.right (And.right (And.right (by first | assumption | exact HB.out.facts))))).mono ?_; rintro e w' ⟨rfl, b2⟩) | (go_at_call_of 141 r.value; refine (F1.out _ (And.right (And.right (And.right (by first | assumption | exact HB.out.facts))))).mono ?_; rintro e w' ⟨rfl, b2⟩) | (go_at_call_of 141 r.width; refine (F2.out _ (And.right (And.right (And.right (by first | assumption | exact HB.out.facts))))).mono ?_; rintro e w' ⟨rfl, b2⟩))
    have hold := (Hid.out (And.right (And.right (And.right (by assumption : _ ∧ _ ∧ _ ∧ Hid (BoxedT w r w'))))) : BoxedT w r w').1.old
    go_wp2_with fail
    go_ret
    exact ⟨by rw [HF.out, ← fmt_str]; rfl, hold⟩
end Go.Proofs.YtlnjgoommpeioaaDoor
/- FormatRow: told by trees. -/
namespace Go.Proofs.YtlnjgoommpeioaaDoor
open Go Go.RowKit V
set_option linter.unusedVariables false
theorem vfrow_s (a : R) : VCD Tryd.prog 83 [(true, tRow a)] false [(false, [.lit (.string ⟨a.fmt.toArray⟩)])] :=
  VCD.plain (ins := [(true, [.int .i64 a.key, .int .i64 a.value, .int .i64 a.width])]) (ag := false) (rs := [.string ⟨a.fmt.toArray⟩]) (fun u hu => by rw [List.mem_singleton.1 hu]; rfl) (fun w _ => sfrow a w)
theorem vfrow_i (a : R) : VCD Tryd.prog 121 [(true, tRow a)] false [(false, [.lit (.string ⟨a.fmt.toArray⟩)])] :=
  VCD.plain (ins := [(true, [.int .i64 a.key, .int .i64 a.value, .int .i64 a.width])]) (ag := false) (rs := [.string ⟨a.fmt.toArray⟩]) (fun u hu => by rw [List.mem_singleton.1 hu]; rfl) (fun w hT => ifrow a w hT)
end Go.Proofs.YtlnjgoommpeioaaDoor
/- The text of pairs, as plain mathematics. -/
namespace Go.Proofs.YtlnjgoommpeioaaDoor
open Go.RowKit
namespace PairD
def txt (x : PairD) : List UInt8 := x.fLeft.fmt ++ (if x.fMatched then 45 :: x.fRight.fmt else [])
theorem txt_len (x : PairD) : (txt x).length ≤ 17 := by
  have h1 := fmt_length x.fLeft
  have h2 := fmt_length x.fRight
  unfold txt
  rw [List.length_append]
  split <;> simp <;> omega
theorem join_next (X : List PairD) (t : Nat) (h : t < X.length) : Lib.join ((X.take (t + 1)).map txt) [32] = (if t = 0 then [] else Lib.join ((X.take t).map txt) [32] ++ [32]) ++ txt X[t] := by
  rw [List.take_succ_eq_append_getElem h, List.map_append, List.map_cons, List.map_nil, join_snoc]
  by_cases h0 : t = 0
  · subst h0; simp
  · have hne : (X.take t).map txt ≠ [] := by
      intro e
      have := congrArg List.length e
      rw [List.length_map, List.length_take, List.length_nil] at this
      omega
    rw [if_neg hne, if_neg h0]
theorem join_len_le : ∀ (X : List PairD), (Lib.join (X.map txt) [32]).length ≤ 18 * X.length
  | [] => by simp [Lib.join_nil]
  | x :: X => by
    rw [List.map_cons, Lib.join_length]
    have : ∀ Y : List PairD, Lib.lens (Y.map txt) ≤ 17 * Y.length := by
      intro Y
      induction Y with
      | nil => simp [Lib.lens]
      | cons y Y ih => have := txt_len y; simp [Lib.lens] at ih ⊢; omega
    have := this (x :: X)
    simp at this ⊢
    omega
end PairD
end Go.Proofs.YtlnjgoommpeioaaDoor
/- The reference's FormatPairs: told by trees. -/
namespace Go.Proofs.YtlnjgoommpeioaaDoor
open Go Go.RowKit V
set_option linter.unusedVariables false
set_option maxRecDepth 100000 in
set_option maxHeartbeats 2000000 in
theorem vfpairs_s (X : List PairD) (hX : X.length ≤ 1048576) : VCD Tryd.prog 31 [(false, [.seq 57 (X.map tPair)])] false [(false, [.lit (.string (⟨(Lib.join (X.map PairD.txt) [32]).toArray⟩))])] := by
  refine VCD.enter Tryd.func31 rfl Tryd.ntmps31 (Nat.le_of_ble_eq_true rfl) fun E hE hD => ?_
  refine SV.seq' ?_
  refine SV.region ?_
  refine SV.op (OpL.ok (nb := 0) (ok_move (v := V.one (.sc _)) (.inr rfl) rfl) rfl (Nat.le_of_ble_eq_true rfl)) rfl ?_
  refine SV.nil ?_
  refine SV.tn ?_
  refine SV.seq' ?_
  refine SV.region ?_
  refine SV.op (OpL.ok (nb := 0) (ok_move (v := V.one (.sc _)) (.inr rfl) rfl) rfl (Nat.le_of_ble_eq_true rfl)) rfl ?_
  refine SV.nil ?_
  refine SV.tn ?_
  refine SV.seq' ?_
  refine SV.seq' ?_
  refine SV.region ?_
  refine SV.op (OpL.ok (nb := 0) (ok_move (v := V.one (.sc _)) (.inr rfl) rfl) rfl (Nat.le_of_ble_eq_true rfl)) rfl ?_
  refine SV.nil ?_
  refine SV.tn ?_
  refine SV.block ?_
  refine SV.loopF (X := Nat) (fun (σ : VS) t => ((((VS.nil.put 0 (σ.tm 0)).put 2 (σ.tm 2)).put 3 (V.flat false [.sc (.string ⟨(Lib.join ((X.take t).map PairD.txt) [32]).toArray⟩)])).put 4 (V.flat false [.sc (.int .i64 ((t : Int)))]))) (fun t => t ≤ X.length) (fun t => X.length - t) ?_ ?_
  · skip
    refine SV.again (fun i => [].getD i 0) 0 ((by first | exact Nat.zero_le _ | (refine ⟨Nat.zero_le _, ?_⟩; simp; done) | (simp; done) | omega)) (pins hE rfl rfl) (VS.le.mk' (le_put (le_put (le_put (le_put le_nil (V.le.keep (ag := false) (xs := [.ro _]) (ys := [.ro _]) rfl rfl ⟨rfl, trivial⟩)) (V.le.keep (ag := false) (xs := [.sc _]) (ys := [.sc _]) rfl rfl ⟨rfl, trivial⟩)) (V.le.keep (ag := false) (xs := [.sc _]) (ys := [.sc _]) rfl rfl ⟨(by first | rfl | (show Leaf.sc _ = Leaf.sc _; refine congrArg Leaf.sc ?_; first | rfl | go_num | ((first | (rw [hn, hm]; done) | (rw [hn, hm]; simp; done) | (subst ht0; rw [hn, hm]; simp [Lib.join_nil]; done)); first | done | rfl | go_num | (simp; done) | (simp; omega)) | (simp [cntAll]; done)) | (simp [cntAll]; done) | (simp; omega)), trivial⟩)) (V.le.keep (ag := false) (xs := [.sc _]) (ys := [.sc _]) rfl rfl ⟨(by first | rfl | (show Leaf.sc _ = Leaf.sc _; refine congrArg Leaf.sc ?_; first | rfl | go_num | ((first | (rw [hn, hm]; done) | (rw [hn, hm]; simp; done) | (subst ht0; rw [hn, hm]; simp [Lib.join_nil]; done)); first | done | rfl | go_num | (simp; done) | (simp; omega)) | (simp [cntAll]; done)) | (simp [cntAll]; done) | (simp; omega)), trivial⟩)) trivial trivial nil_ob (fun i j hi hj e => absurd hi (Nat.not_lt_zero i)))
  · rintro t ht
    refine SV.seq' ?_
    refine SV.seq' ?_
    refine SV.region ?_
    refine SV.op (OpL.ok (nb := 0) (ok_move (v := V.one (.sc _)) (.inl rfl) rfl) rfl (Nat.le_of_ble_eq_true rfl)) rfl ?_
    refine SV.op (OpL.ok (nb := 0) (ok_move (v := V.one (.ro _)) (.inl rfl) rfl) rfl (Nat.le_of_ble_eq_true rfl)) rfl ?_
    refine SV.op (OpL.ok (nb := 0) (ok_len (lf := .ro _) rfl elt_impl_Pair.und rfl rfl) rfl (Nat.le_of_ble_eq_true rfl)) rfl ?_
    refine SV.op (OpL.ok (nb := 0) (ok_s2 (x := .tmp 5) (x' := .tmp 7) (VScal.one rfl) (VScal.one rfl) (fun ρ h1 h2 w => by go_simp; (try go_bits); with_reducible rfl) rfl) rfl (Nat.le_of_ble_eq_true rfl)) rfl ?_
    refine SV.nil ?_
    refine SV.tn ?_
    refine SV.cond rfl (fun hc0 => ?_) (fun hc0 => ?_)
    · skip   -- c0.T
      have htl : t < X.length := by simpa using hc0
      have hx : X[t]? = some X[t] := by simp [htl]
      have hjl := PairD.join_len_le (X.take t)
      have hj2 : (X.take t).length ≤ t := by simp; omega
      have f1 := fmt_length X[t].fLeft
      have f2 := fmt_length X[t].fRight
      refine SV.skip ?_
      refine SV.tn ?_
      refine SV.seq' ?_
      refine SV.block ?_
      refine SV.seq' ?_
      refine SV.seq' ?_
      refine SV.region ?_
      refine SV.op (OpL.ok (nb := 0) (ok_move (v := V.one (.sc _)) (.inl rfl) rfl) rfl (Nat.le_of_ble_eq_true rfl)) rfl ?_
      refine SV.op (OpL.ok (nb := 0) (ok_s2 (x := .tmp 11) (x' := .const ((Value.int IntKind.i64 0))) (VScal.one rfl) (VScal.one rfl) (fun ρ h1 h2 w => by go_simp; (try go_bits); with_reducible rfl) rfl) rfl (Nat.le_of_ble_eq_true rfl)) rfl ?_
      refine SV.nil ?_
      refine SV.tn ?_
      refine SV.cond rfl (fun hc1 => ?_) (fun hc1 => ?_)
      · skip   -- c1.T
        have hn := PairD.join_next X t htl
        rw [if_neg (by simp at hc1; omega)] at hn
        refine SV.region ?_
        refine SV.op (OpL.ok (nb := 0) (ok_move (v := V.one (.sc _)) (.inl rfl) rfl) rfl (Nat.le_of_ble_eq_true rfl)) rfl ?_
        refine SV.op (OpL.ok (nb := 0) (ok_s2 (v := .string ⟨List.toArray (_ ++ _)⟩) (x := .tmp 13) (x' := .const ((Value.string { data := #[32] }))) (VScal.one rfl) (VScal.one rfl) (fun ρ h1 h2 w => cat_run rfl h1 h2 (by first | omega | (simp only [List.length_append, List.length_cons, List.length_nil]; omega))) rfl) rfl (Nat.le_of_ble_eq_true rfl)) rfl ?_
        refine SV.op (OpL.ok (nb := 0) (ok_move (v := V.one (.sc _)) (.inr rfl) rfl) rfl (Nat.le_of_ble_eq_true rfl)) rfl ?_
        refine SV.nil ?_
        refine SV.tn ?_
        refine SV.seq' ?_
        refine SV.region ?_
        refine SV.op (OpL.ok (nb := 0) (ok_move (v := V.one (.sc _)) (.inl rfl) rfl) rfl (Nat.le_of_ble_eq_true rfl)) rfl ?_
        refine SV.op (OpL.ok (nb := 0) (ok_move (v := V.one (.ro _)) (.inl rfl) rfl) rfl (Nat.le_of_ble_eq_true rfl)) rfl ?_
        refine SV.op (OpL.ok (nb := 0) (ok_move (v := V.one (.sc _)) (.inl rfl) rfl) rfl (Nat.le_of_ble_eq_true rfl)) rfl ?_
        refine SV.op (OpL.ok (nb := 0) (ok_index (n := 7) (lf := .ro _) rfl elt_impl_Pair.und sz_impl_Pair rfl rfl rfl (map_at (by assumption))) rfl (Nat.le_of_ble_eq_true rfl)) rfl ?_
        refine SV.op (OpL.ok (nb := 0) (ok_field_el (p := .rp _) (off := 0) rfl rfl rfl fld_impl_Pair_0) rfl (Nat.le_of_ble_eq_true rfl)) rfl ?_
        refine SV.op (OpL.ok (nb := 0) (ok_load_rp (ag := true) (m := 3) (ys := [.sc _, .sc _, .sc _]) rfl rfl agg_impl_Row sz_impl_Row (fun h => by cases h) (Nat.le_of_ble_eq_true rfl) rfl) rfl (Nat.le_of_ble_eq_true rfl)) rfl ?_
        refine SV.op (OpMk.ok (ok_callD (ls := [(false, [.sc _])]) hD rfl rfl ⟨_, _, Tryd.func83, rfl, by decide⟩ (vfrow_s X[t].fLeft) ⟨⟨[.sc _, .sc _, .sc _], rfl, ⟨rfl, rfl, rfl, trivial⟩⟩, trivial⟩ rfl (Nat.le_of_ble_eq_true rfl))) rfl ?_
        refine SV.op (OpL.ok (nb := 0) (ok_s2 (v := .string ⟨List.toArray (_ ++ _)⟩) (x := .tmp 15) (x' := .tmp 21) (VScal.one rfl) (VScal.one rfl) (fun ρ h1 h2 w => cat_run rfl h1 h2 (by first | omega | (simp only [List.length_append, List.length_cons, List.length_nil]; omega))) rfl) rfl (Nat.le_of_ble_eq_true rfl)) rfl ?_
        refine SV.op (OpL.ok (nb := 0) (ok_move (v := V.one (.sc _)) (.inr rfl) rfl) rfl (Nat.le_of_ble_eq_true rfl)) rfl ?_
        refine SV.nil ?_
        refine SV.tn ?_
        refine SV.seq' ?_
        refine SV.region ?_
        refine SV.op (OpL.ok (nb := 0) (ok_move (v := V.one (.ro _)) (.inl rfl) rfl) rfl (Nat.le_of_ble_eq_true rfl)) rfl ?_
        refine SV.op (OpL.ok (nb := 0) (ok_move (v := V.one (.sc _)) (.inl rfl) rfl) rfl (Nat.le_of_ble_eq_true rfl)) rfl ?_
        refine SV.op (OpL.ok (nb := 0) (ok_index (n := 7) (lf := .ro _) rfl elt_impl_Pair.und sz_impl_Pair rfl rfl rfl (map_at (by assumption))) rfl (Nat.le_of_ble_eq_true rfl)) rfl ?_
        refine SV.op (OpL.ok (nb := 0) (ok_field_el (p := .rp _) (off := 6) rfl rfl rfl fld_impl_Pair_2) rfl (Nat.le_of_ble_eq_true rfl)) rfl ?_
        refine SV.op (OpL.ok (nb := 0) (ok_load_rp (ag := false) (m := 1) (ys := [.sc _]) rfl rfl agg_bool sz_bool (fun _ => rfl) (Nat.le_of_ble_eq_true rfl) rfl) rfl (Nat.le_of_ble_eq_true rfl)) rfl ?_
        refine SV.nil ?_
        refine SV.tn ?_
        refine SV.cond rfl (fun hc2 => ?_) (fun hc2 => ?_)
        · skip   -- c2.T
          have hm : PairD.txt X[t] = X[t].fLeft.fmt ++ (45 :: X[t].fRight.fmt) := by unfold PairD.txt; rw [if_pos (by simpa using hc2)]
          refine SV.region ?_
          refine SV.op (OpL.ok (nb := 0) (ok_move (v := V.one (.sc _)) (.inl rfl) rfl) rfl (Nat.le_of_ble_eq_true rfl)) rfl ?_
          refine SV.op (OpL.ok (nb := 0) (ok_s2 (v := .string ⟨List.toArray (_ ++ _)⟩) (x := .tmp 28) (x' := .const ((Value.string { data := #[45] }))) (VScal.one rfl) (VScal.one rfl) (fun ρ h1 h2 w => cat_run rfl h1 h2 (by first | omega | (simp only [List.length_append, List.length_cons, List.length_nil]; omega))) rfl) rfl (Nat.le_of_ble_eq_true rfl)) rfl ?_
          refine SV.op (OpL.ok (nb := 0) (ok_move (v := V.one (.ro _)) (.inl rfl) rfl) rfl (Nat.le_of_ble_eq_true rfl)) rfl ?_
          refine SV.op (OpL.ok (nb := 0) (ok_move (v := V.one (.sc _)) (.inl rfl) rfl) rfl (Nat.le_of_ble_eq_true rfl)) rfl ?_
          refine SV.op (OpL.ok (nb := 0) (ok_index (n := 7) (lf := .ro _) rfl elt_impl_Pair.und sz_impl_Pair rfl rfl rfl (map_at (by assumption))) rfl (Nat.le_of_ble_eq_true rfl)) rfl ?_
          refine SV.op (OpL.ok (nb := 0) (ok_field_el (p := .rp _) (off := 3) rfl rfl rfl fld_impl_Pair_1) rfl (Nat.le_of_ble_eq_true rfl)) rfl ?_
          refine SV.op (OpL.ok (nb := 0) (ok_load_rp (ag := true) (m := 3) (ys := [.sc _, .sc _, .sc _]) rfl rfl agg_impl_Row sz_impl_Row (fun h => by cases h) (Nat.le_of_ble_eq_true rfl) rfl) rfl (Nat.le_of_ble_eq_true rfl)) rfl ?_
          refine SV.op (OpMk.ok (ok_callD (ls := [(false, [.sc _])]) hD rfl rfl ⟨_, _, Tryd.func83, rfl, by decide⟩ (vfrow_s X[t].fRight) ⟨⟨[.sc _, .sc _, .sc _], rfl, ⟨rfl, rfl, rfl, trivial⟩⟩, trivial⟩ rfl (Nat.le_of_ble_eq_true rfl))) rfl ?_
          refine SV.op (OpL.ok (nb := 0) (ok_s2 (v := .string ⟨List.toArray (_ ++ _)⟩) (x := .tmp 29) (x' := .tmp 35) (VScal.one rfl) (VScal.one rfl) (fun ρ h1 h2 w => cat_run rfl h1 h2 (by first | omega | (simp only [List.length_append, List.length_cons, List.length_nil]; omega))) rfl) rfl (Nat.le_of_ble_eq_true rfl)) rfl ?_
          refine SV.op (OpL.ok (nb := 0) (ok_move (v := V.one (.sc _)) (.inr rfl) rfl) rfl (Nat.le_of_ble_eq_true rfl)) rfl ?_
          refine SV.nil ?_
          refine SV.bn ?_
          refine SV.tn ?_
          refine SV.region ?_
          refine SV.op (OpL.ok (nb := 0) (ok_move (v := V.one (.sc _)) (.inl rfl) rfl) rfl (Nat.le_of_ble_eq_true rfl)) rfl ?_
          refine SV.op (OpL.ok (nb := 0) (ok_s2 (x := .tmp 9) (x' := .const ((Value.int IntKind.i64 1))) (VScal.one rfl) (VScal.one rfl) (fun ρ h1 h2 w => by go_simp; (try go_bits); with_reducible rfl) rfl) rfl (Nat.le_of_ble_eq_true rfl)) rfl ?_
          refine SV.op (OpL.ok (nb := 0) (ok_move (v := V.one (.sc _)) (.inr rfl) rfl) rfl (Nat.le_of_ble_eq_true rfl)) rfl ?_
          refine SV.nil ?_
          refine SV.tn ?_
          refine SV.again (fun i => [].getD i 0) (t + 1) (⟨by omega, by omega⟩) (pins hE rfl rfl) (VS.le.mk' (le_put (le_put (le_put (le_put le_nil (V.le.keep (ag := false) (xs := [.ro _]) (ys := [.ro _]) rfl rfl ⟨rfl, trivial⟩)) (V.le.keep (ag := false) (xs := [.sc _]) (ys := [.sc _]) rfl rfl ⟨rfl, trivial⟩)) (V.le.keep (ag := false) (xs := [.sc _]) (ys := [.sc _]) rfl rfl ⟨(by first | rfl | (show Leaf.sc _ = Leaf.sc _; refine congrArg Leaf.sc ?_; first | rfl | go_num | ((first | (rw [hn, hm]; done) | (rw [hn, hm]; simp; done) | (subst ht0; rw [hn, hm]; simp [Lib.join_nil]; done)); first | done | rfl | go_num | (simp; done) | (simp; omega)) | (simp [cntAll]; done)) | (simp [cntAll]; done) | (simp; omega)), trivial⟩)) (V.le.keep (ag := false) (xs := [.sc _]) (ys := [.sc _]) rfl rfl ⟨(by first | rfl | (show Leaf.sc _ = Leaf.sc _; refine congrArg Leaf.sc ?_; first | rfl | go_num | ((first | (rw [hn, hm]; done) | (rw [hn, hm]; simp; done) | (subst ht0; rw [hn, hm]; simp [Lib.join_nil]; done)); first | done | rfl | go_num | (simp; done) | (simp; omega)) | (simp [cntAll]; done)) | (simp [cntAll]; done) | (simp; omega)), trivial⟩)) trivial trivial nil_ob (fun i j hi hj e => absurd hi (Nat.not_lt_zero i)))
        · skip   -- c2.F
          have hm : PairD.txt X[t] = X[t].fLeft.fmt := by unfold PairD.txt; rw [if_neg (by simpa using hc2), List.append_nil]
          refine SV.skip ?_
          refine SV.bn ?_
          refine SV.tn ?_
          refine SV.region ?_
          refine SV.op (OpL.ok (nb := 0) (ok_move (v := V.one (.sc _)) (.inl rfl) rfl) rfl (Nat.le_of_ble_eq_true rfl)) rfl ?_
          refine SV.op (OpL.ok (nb := 0) (ok_s2 (x := .tmp 9) (x' := .const ((Value.int IntKind.i64 1))) (VScal.one rfl) (VScal.one rfl) (fun ρ h1 h2 w => by go_simp; (try go_bits); with_reducible rfl) rfl) rfl (Nat.le_of_ble_eq_true rfl)) rfl ?_
          refine SV.op (OpL.ok (nb := 0) (ok_move (v := V.one (.sc _)) (.inr rfl) rfl) rfl (Nat.le_of_ble_eq_true rfl)) rfl ?_
          refine SV.nil ?_
          refine SV.tn ?_
          refine SV.again (fun i => [].getD i 0) (t + 1) (⟨by omega, by omega⟩) (pins hE rfl rfl) (VS.le.mk' (le_put (le_put (le_put (le_put le_nil (V.le.keep (ag := false) (xs := [.ro _]) (ys := [.ro _]) rfl rfl ⟨rfl, trivial⟩)) (V.le.keep (ag := false) (xs := [.sc _]) (ys := [.sc _]) rfl rfl ⟨rfl, trivial⟩)) (V.le.keep (ag := false) (xs := [.sc _]) (ys := [.sc _]) rfl rfl ⟨(by first | rfl | (show Leaf.sc _ = Leaf.sc _; refine congrArg Leaf.sc ?_; first | rfl | go_num | ((first | (rw [hn, hm]; done) | (rw [hn, hm]; simp; done) | (subst ht0; rw [hn, hm]; simp [Lib.join_nil]; done)); first | done | rfl | go_num | (simp; done) | (simp; omega)) | (simp [cntAll]; done)) | (simp [cntAll]; done) | (simp; omega)), trivial⟩)) (V.le.keep (ag := false) (xs := [.sc _]) (ys := [.sc _]) rfl rfl ⟨(by first | rfl | (show Leaf.sc _ = Leaf.sc _; refine congrArg Leaf.sc ?_; first | rfl | go_num | ((first | (rw [hn, hm]; done) | (rw [hn, hm]; simp; done) | (subst ht0; rw [hn, hm]; simp [Lib.join_nil]; done)); first | done | rfl | go_num | (simp; done) | (simp; omega)) | (simp [cntAll]; done)) | (simp [cntAll]; done) | (simp; omega)), trivial⟩)) trivial trivial nil_ob (fun i j hi hj e => absurd hi (Nat.not_lt_zero i)))
      · skip   -- c1.F
        have hn := PairD.join_next X t htl
        rw [if_pos (by simp at hc1; omega)] at hn
        have ht0 : t = 0 := (by simp at hc1; omega)
        refine SV.skip ?_
        refine SV.tn ?_
        refine SV.seq' ?_
        refine SV.region ?_
        refine SV.op (OpL.ok (nb := 0) (ok_move (v := V.one (.sc _)) (.inl rfl) rfl) rfl (Nat.le_of_ble_eq_true rfl)) rfl ?_
        refine SV.op (OpL.ok (nb := 0) (ok_move (v := V.one (.ro _)) (.inl rfl) rfl) rfl (Nat.le_of_ble_eq_true rfl)) rfl ?_
        refine SV.op (OpL.ok (nb := 0) (ok_move (v := V.one (.sc _)) (.inl rfl) rfl) rfl (Nat.le_of_ble_eq_true rfl)) rfl ?_
        refine SV.op (OpL.ok (nb := 0) (ok_index (n := 7) (lf := .ro _) rfl elt_impl_Pair.und sz_impl_Pair rfl rfl rfl (map_at (by assumption))) rfl (Nat.le_of_ble_eq_true rfl)) rfl ?_
        refine SV.op (OpL.ok (nb := 0) (ok_field_el (p := .rp _) (off := 0) rfl rfl rfl fld_impl_Pair_0) rfl (Nat.le_of_ble_eq_true rfl)) rfl ?_
        refine SV.op (OpL.ok (nb := 0) (ok_load_rp (ag := true) (m := 3) (ys := [.sc _, .sc _, .sc _]) rfl rfl agg_impl_Row sz_impl_Row (fun h => by cases h) (Nat.le_of_ble_eq_true rfl) rfl) rfl (Nat.le_of_ble_eq_true rfl)) rfl ?_
        refine SV.op (OpMk.ok (ok_callD (ls := [(false, [.sc _])]) hD rfl rfl ⟨_, _, Tryd.func83, rfl, by decide⟩ (vfrow_s X[t].fLeft) ⟨⟨[.sc _, .sc _, .sc _], rfl, ⟨rfl, rfl, rfl, trivial⟩⟩, trivial⟩ rfl (Nat.le_of_ble_eq_true rfl))) rfl ?_
        refine SV.op (OpL.ok (nb := 0) (ok_s2 (v := .string ⟨List.toArray (_ ++ _)⟩) (x := .tmp 15) (x' := .tmp 21) (VScal.one rfl) (VScal.one rfl) (fun ρ h1 h2 w => cat_run rfl h1 h2 (by first | omega | (simp only [List.length_append, List.length_cons, List.length_nil]; omega))) rfl) rfl (Nat.le_of_ble_eq_true rfl)) rfl ?_
        refine SV.op (OpL.ok (nb := 0) (ok_move (v := V.one (.sc _)) (.inr rfl) rfl) rfl (Nat.le_of_ble_eq_true rfl)) rfl ?_
        refine SV.nil ?_
        refine SV.tn ?_
        refine SV.seq' ?_
        refine SV.region ?_
        refine SV.op (OpL.ok (nb := 0) (ok_move (v := V.one (.ro _)) (.inl rfl) rfl) rfl (Nat.le_of_ble_eq_true rfl)) rfl ?_
        refine SV.op (OpL.ok (nb := 0) (ok_move (v := V.one (.sc _)) (.inl rfl) rfl) rfl (Nat.le_of_ble_eq_true rfl)) rfl ?_
        refine SV.op (OpL.ok (nb := 0) (ok_index (n := 7) (lf := .ro _) rfl elt_impl_Pair.und sz_impl_Pair rfl rfl rfl (map_at (by assumption))) rfl (Nat.le_of_ble_eq_true rfl)) rfl ?_
        refine SV.op (OpL.ok (nb := 0) (ok_field_el (p := .rp _) (off := 6) rfl rfl rfl fld_impl_Pair_2) rfl (Nat.le_of_ble_eq_true rfl)) rfl ?_
        refine SV.op (OpL.ok (nb := 0) (ok_load_rp (ag := false) (m := 1) (ys := [.sc _]) rfl rfl agg_bool sz_bool (fun _ => rfl) (Nat.le_of_ble_eq_true rfl) rfl) rfl (Nat.le_of_ble_eq_true rfl)) rfl ?_
        refine SV.nil ?_
        refine SV.tn ?_
        refine SV.cond rfl (fun hc3 => ?_) (fun hc3 => ?_)
        · skip   -- c3.T
          have hm : PairD.txt X[t] = X[t].fLeft.fmt ++ (45 :: X[t].fRight.fmt) := by unfold PairD.txt; rw [if_pos (by simpa using hc3)]
          refine SV.region ?_
          refine SV.op (OpL.ok (nb := 0) (ok_move (v := V.one (.sc _)) (.inl rfl) rfl) rfl (Nat.le_of_ble_eq_true rfl)) rfl ?_
          refine SV.op (OpL.ok (nb := 0) (ok_s2 (v := .string ⟨List.toArray (_ ++ _)⟩) (x := .tmp 28) (x' := .const ((Value.string { data := #[45] }))) (VScal.one rfl) (VScal.one rfl) (fun ρ h1 h2 w => cat_run rfl h1 h2 (by first | omega | (simp only [List.length_append, List.length_cons, List.length_nil]; omega))) rfl) rfl (Nat.le_of_ble_eq_true rfl)) rfl ?_
          refine SV.op (OpL.ok (nb := 0) (ok_move (v := V.one (.ro _)) (.inl rfl) rfl) rfl (Nat.le_of_ble_eq_true rfl)) rfl ?_
          refine SV.op (OpL.ok (nb := 0) (ok_move (v := V.one (.sc _)) (.inl rfl) rfl) rfl (Nat.le_of_ble_eq_true rfl)) rfl ?_
          refine SV.op (OpL.ok (nb := 0) (ok_index (n := 7) (lf := .ro _) rfl elt_impl_Pair.und sz_impl_Pair rfl rfl rfl (map_at (by assumption))) rfl (Nat.le_of_ble_eq_true rfl)) rfl ?_
          refine SV.op (OpL.ok (nb := 0) (ok_field_el (p := .rp _) (off := 3) rfl rfl rfl fld_impl_Pair_1) rfl (Nat.le_of_ble_eq_true rfl)) rfl ?_
          refine SV.op (OpL.ok (nb := 0) (ok_load_rp (ag := true) (m := 3) (ys := [.sc _, .sc _, .sc _]) rfl rfl agg_impl_Row sz_impl_Row (fun h => by cases h) (Nat.le_of_ble_eq_true rfl) rfl) rfl (Nat.le_of_ble_eq_true rfl)) rfl ?_
          refine SV.op (OpMk.ok (ok_callD (ls := [(false, [.sc _])]) hD rfl rfl ⟨_, _, Tryd.func83, rfl, by decide⟩ (vfrow_s X[t].fRight) ⟨⟨[.sc _, .sc _, .sc _], rfl, ⟨rfl, rfl, rfl, trivial⟩⟩, trivial⟩ rfl (Nat.le_of_ble_eq_true rfl))) rfl ?_
          refine SV.op (OpL.ok (nb := 0) (ok_s2 (v := .string ⟨List.toArray (_ ++ _)⟩) (x := .tmp 29) (x' := .tmp 35) (VScal.one rfl) (VScal.one rfl) (fun ρ h1 h2 w => cat_run rfl h1 h2 (by first | omega | (simp only [List.length_append, List.length_cons, List.length_nil]; omega))) rfl) rfl (Nat.le_of_ble_eq_true rfl)) rfl ?_
          refine SV.op (OpL.ok (nb := 0) (ok_move (v := V.one (.sc _)) (.inr rfl) rfl) rfl (Nat.le_of_ble_eq_true rfl)) rfl ?_
          refine SV.nil ?_
          refine SV.bn ?_
          refine SV.tn ?_
          refine SV.region ?_
          refine SV.op (OpL.ok (nb := 0) (ok_move (v := V.one (.sc _)) (.inl rfl) rfl) rfl (Nat.le_of_ble_eq_true rfl)) rfl ?_
          refine SV.op (OpL.ok (nb := 0) (ok_s2 (x := .tmp 9) (x' := .const ((Value.int IntKind.i64 1))) (VScal.one rfl) (VScal.one rfl) (fun ρ h1 h2 w => by go_simp; (try go_bits); with_reducible rfl) rfl) rfl (Nat.le_of_ble_eq_true rfl)) rfl ?_
          refine SV.op (OpL.ok (nb := 0) (ok_move (v := V.one (.sc _)) (.inr rfl) rfl) rfl (Nat.le_of_ble_eq_true rfl)) rfl ?_
          refine SV.nil ?_
          refine SV.tn ?_
          refine SV.again (fun i => [].getD i 0) (t + 1) (⟨by omega, by omega⟩) (pins hE rfl rfl) (VS.le.mk' (le_put (le_put (le_put (le_put le_nil (V.le.keep (ag := false) (xs := [.ro _]) (ys := [.ro _]) rfl rfl ⟨rfl, trivial⟩)) (V.le.keep (ag := false) (xs := [.sc _]) (ys := [.sc _]) rfl rfl ⟨rfl, trivial⟩)) (V.le.keep (ag := false) (xs := [.sc _]) (ys := [.sc _]) rfl rfl ⟨(by first | rfl | (show Leaf.sc _ = Leaf.sc _; refine congrArg Leaf.sc ?_; first | rfl | go_num | ((first | (rw [hn, hm]; done) | (rw [hn, hm]; simp; done) | (subst ht0; rw [hn, hm]; simp [Lib.join_nil]; done)); first | done | rfl | go_num | (simp; done) | (simp; omega)) | (simp [cntAll]; done)) | (simp [cntAll]; done) | (simp; omega)), trivial⟩)) (V.le.keep (ag := false) (xs := [.sc _]) (ys := [.sc _]) rfl rfl ⟨(by first | rfl | (show Leaf.sc _ = Leaf.sc _; refine congrArg Leaf.sc ?_; first | rfl | go_num | ((first | (rw [hn, hm]; done) | (rw [hn, hm]; simp; done) | (subst ht0; rw [hn, hm]; simp [Lib.join_nil]; done)); first | done | rfl | go_num | (simp; done) | (simp; omega)) | (simp [cntAll]; done)) | (simp [cntAll]; done) | (simp; omega)), trivial⟩)) trivial trivial nil_ob (fun i j hi hj e => absurd hi (Nat.not_lt_zero i)))
        · skip   -- c3.F
          have hm : PairD.txt X[t] = X[t].fLeft.fmt := by unfold PairD.txt; rw [if_neg (by simpa using hc3), List.append_nil]
          refine SV.skip ?_
          refine SV.bn ?_
          refine SV.tn ?_
          refine SV.region ?_
          refine SV.op (OpL.ok (nb := 0) (ok_move (v := V.one (.sc _)) (.inl rfl) rfl) rfl (Nat.le_of_ble_eq_true rfl)) rfl ?_
          refine SV.op (OpL.ok (nb := 0) (ok_s2 (x := .tmp 9) (x' := .const ((Value.int IntKind.i64 1))) (VScal.one rfl) (VScal.one rfl) (fun ρ h1 h2 w => by go_simp; (try go_bits); with_reducible rfl) rfl) rfl (Nat.le_of_ble_eq_true rfl)) rfl ?_
          refine SV.op (OpL.ok (nb := 0) (ok_move (v := V.one (.sc _)) (.inr rfl) rfl) rfl (Nat.le_of_ble_eq_true rfl)) rfl ?_
          refine SV.nil ?_
          refine SV.tn ?_
          refine SV.again (fun i => [].getD i 0) (t + 1) (⟨by omega, by omega⟩) (pins hE rfl rfl) (VS.le.mk' (le_put (le_put (le_put (le_put le_nil (V.le.keep (ag := false) (xs := [.ro _]) (ys := [.ro _]) rfl rfl ⟨rfl, trivial⟩)) (V.le.keep (ag := false) (xs := [.sc _]) (ys := [.sc _]) rfl rfl ⟨rfl, trivial⟩)) (V.le.keep (ag := false) (xs := [.sc _]) (ys := [.sc _]) rfl rfl ⟨(by first | rfl | (show Leaf.sc _ = Leaf.sc _; refine congrArg Leaf.sc ?_; first | rfl | go_num | ((first | (rw [hn, hm]; done) | (rw [hn, hm]; simp; done) | (subst ht0; rw [hn, hm]; simp [Lib.join_nil]; done)); first | done | rfl | go_num | (simp; done) | (simp; omega)) | (simp [cntAll]; done)) | (simp [cntAll]; done) | (simp; omega)), trivial⟩)) (V.le.keep (ag := false) (xs := [.sc _]) (ys := [.sc _]) rfl rfl ⟨(by first | rfl | (show Leaf.sc _ = Leaf.sc _; refine congrArg Leaf.sc ?_; first | rfl | go_num | ((first | (rw [hn, hm]; done) | (rw [hn, hm]; simp; done) | (subst ht0; rw [hn, hm]; simp [Lib.join_nil]; done)); first | done | rfl | go_num | (simp; done) | (simp; omega)) | (simp [cntAll]; done)) | (simp [cntAll]; done) | (simp; omega)), trivial⟩)) trivial trivial nil_ob (fun i j hi hj e => absurd hi (Nat.not_lt_zero i)))
    · skip   -- c0.F
      have hte : ¬ t < X.length := by simpa using hc0
      refine SV.exit ?_
      refine SV.te ?_
      refine SV.te ?_
      refine SV.bh ?_
      refine SV.tn ?_
      refine SV.seq' ?_
      refine SV.region ?_
      refine SV.op (OpL.ok (nb := 0) (ok_move (v := V.one (.sc _)) (.inl rfl) rfl) rfl (Nat.le_of_ble_eq_true rfl)) rfl ?_
      refine SV.op (OpL.ok (nb := 0) (ok_move (v := V.one (.sc _)) (.inr rfl) rfl) rfl (Nat.le_of_ble_eq_true rfl)) rfl ?_
      refine SV.nil ?_
      refine SV.tn ?_
      refine SV.ret ?_
      apply SV.done (hf := Tryd.results31) (ht := rfl) (he := .inl rfl)
      case hr => exact (ResAll.cons (ResOk.tmp (ag := false) (xs := [.sc _]) rfl) ResAll.nil')
      case h2 => simp [two]
      refine ⟨rfl, ⟨?_, trivial⟩, trivial⟩ <;> (show some (T.lit (Value.string _)) = some (T.lit (Value.string _)); rw [List.take_of_length_le (by omega)])
end Go.Proofs.YtlnjgoommpeioaaDoor
