/- The program's ComparePairs again: what it leaves of the world, as an equation (for the library's sort). -/
import Derived.Test.YtlnjgoommpeioaaCmpG
import Derived.Test.YtlnjgoommpeioaaPCmp
import Derived.Test.YtlnjgoommpeioaaPlan
namespace Go.Proofs.Ytlnjgoommpeioaa
open Go.RowKit Go.Sort
def PairD.cells (x : PairD) : List Value := [.int .i64 x.fLeft.key, .int .i64 x.fLeft.value, .int .i64 x.fLeft.width, .int .i64 x.fRight.key, .int .i64 x.fRight.value, .int .i64 x.fRight.width, .bool x.fMatched]
theorem cbi (a b : Bool) (w : World) : Calls Try.prog 45 #[.bool a, .bool b] w fun e w' => e = .returned (.int .i64 (PairD.cb a b)) ∧ w' = w := by
  cases a <;> cases b <;> (go_enter Try.func45, Try.ntmps45; go_wp2_with fail; go_ret; exact ⟨rfl, rfl⟩)
/-- Grown out of W, draws aside. -/
def Grown (W v : World) : Prop := ∃ q os', v = grow (W.drewN q) os'
theorem Grown.refl (W : World) : Grown W W := ⟨0, #[], by rw [grow_empty]; rfl⟩
theorem Grown.drew {W v : World} (h : Grown W v) : Grown W v.drew := by
  obtain ⟨q, os, rfl⟩ := h
  exact ⟨q + 1, os, rfl⟩
theorem Grown.trans {W v u : World} (h : Grown W v) (k : Grown v u) : Grown W u := by
  obtain ⟨q, os, rfl⟩ := h
  obtain ⟨q', os', rfl⟩ := k
  refine ⟨q + q', os ++ os', ?_⟩
  show (⟨_, _, _, _, _⟩ : World) = ⟨_, _, _, _, _⟩
  simp [grow, World.drewN, Nat.add_assoc, Array.append_assoc]
theorem Grown.alloc (W : World) (o : Obj) : Grown W (W.alloc o) := ⟨0, #[o], by simp only [alloc_eq_grow]; rfl⟩
theorem Grown.cell {W v : World} (h : Grown W v) {b j : Nat} {u : Value} (hc : W.cell? ⟨b, j, none⟩ = some u) : v.cell? ⟨b, j, none⟩ = some u := by
  obtain ⟨q, os, rfl⟩ := h
  have hb : b < W.heap.size := by
    rcases Nat.lt_or_ge b W.heap.size with h' | h'
    · exact h'
    · simp [World.cell?, Array.getElem?_eq_none h'] at hc
  have e : (grow (W.drewN q) os).heap[b]? = W.heap[b]? := by
    show (W.heap ++ os)[b]? = _
    rw [Array.getElem?_append_left hb]
  simp only [World.cell?] at hc ⊢
  rw [e]; exact hc
set_option maxRecDepth 100000 in
set_option maxHeartbeats 2000000 in
theorem ipcmpG (x y : PairD) (w : World) : Calls Try.prog 24 #[.agg x.cells.toArray, .agg y.cells.toArray] w fun e w' => e = .returned (.int .i64 (PairD.cmp x y)) ∧ ∃ q os', w' = grow (w.drewN q) os' := by
  have HA := Lib.hid (cmp_first3 x y)
  obtain ⟨a, b, c⟩ := x
  obtain ⟨a', b', c'⟩ := y
  unfold PairD.cells
  simp only at HA ⊢
  obtain ⟨m, hm⟩ : ∃ m, m = R.cmp a a' := ⟨_, rfl⟩
  obtain ⟨n, hn⟩ : ∃ n, n = PairD.cb c c' := ⟨_, rfl⟩
  obtain ⟨p, hp⟩ : ∃ p, p = R.cmp b b' := ⟨_, rfl⟩
  have C1 := Lib.hid (icmpG a a')
  have C2 := Lib.hid (cbi c c')
  have C3 := Lib.hid (icmpG b b')
  unfold R.val at C1 C3
  rw [← hm] at C1 HA
  rw [← hn] at C2 HA
  rw [← hp] at C3 HA
  clear hm hn hp
  go_enter Try.func24, Try.ntmps24
  go_wp2_with fail
  obtain ⟨W, hW⟩ : ∃ W, W = (w.alloc (.cells #[.int .i64 a.key, .int .i64 a.value, .int .i64 a.width, .int .i64 b.key, .int .i64 b.value, .int .i64 b.width, .bool c] 32)).alloc (.cells #[.int .i64 a'.key, .int .i64 a'.value, .int .i64 a'.width, .int .i64 b'.key, .int .i64 b'.value, .int .i64 b'.width, .bool c'] 32) := ⟨_, rfl⟩
  rw [← hW]
  have HC : Hid (∀ v, Grown W v → v.cell? ⟨w.heap.size, 0, none⟩ = some (.int .i64 a.key) ∧ v.cell? ⟨w.heap.size, 1, none⟩ = some (.int .i64 a.value) ∧ v.cell? ⟨w.heap.size, 2, none⟩ = some (.int .i64 a.width) ∧ v.cell? ⟨w.heap.size, 3, none⟩ = some (.int .i64 b.key) ∧ v.cell? ⟨w.heap.size, 4, none⟩ = some (.int .i64 b.value) ∧ v.cell? ⟨w.heap.size, 5, none⟩ = some (.int .i64 b.width) ∧ v.cell? ⟨w.heap.size, 6, none⟩ = some (.bool c) ∧ v.cell? ⟨w.heap.size + 1, 0, none⟩ = some (.int .i64 a'.key) ∧ v.cell? ⟨w.heap.size + 1, 1, none⟩ = some (.int .i64 a'.value) ∧ v.cell? ⟨w.heap.size + 1, 2, none⟩ = some (.int .i64 a'.width) ∧ v.cell? ⟨w.heap.size + 1, 3, none⟩ = some (.int .i64 b'.key) ∧ v.cell? ⟨w.heap.size + 1, 4, none⟩ = some (.int .i64 b'.value) ∧ v.cell? ⟨w.heap.size + 1, 5, none⟩ = some (.int .i64 b'.width) ∧ v.cell? ⟨w.heap.size + 1, 6, none⟩ = some (.bool c')) := Lib.hid fun v hv => by
    subst hW
    refine ⟨?_, ?_, ?_, ?_, ?_, ?_, ?_, ?_, ?_, ?_, ?_, ?_, ?_, ?_⟩ <;> exact hv.cell (by simp)
  have HW : Hid (Grown w W) := Lib.hid (by subst hW; exact (Grown.alloc _ _).trans (Grown.alloc _ _))
  clear hW
  refine region_plan (Grown W) [.q 0, .q 1, .q 2, .q 3, .q 5, .q 6, .q 7, .q 8, .q 10, .q 11, .q 12, .q 13, .m 4, .m 9, .m 14, .m 15, .m 16, .q 17] [] (by kernel_rfl) (by kernel_rfl) (Grown.refl W).drew (fun hHeld => ?_)
  first | (refine pi_take (v := ?pv1_0) rfl (fun _ _ _ h => h) (by rfl) (fun v hv => ?pr1_0) ?rest1_0; case pr1_0 => (obtain ⟨d0, d1, d2, d3, d4, d5, d6, d7, d8, d9, d10, d11, d12, d13⟩ := HC.out v hv; go_simp; first | done | with_reducible rfl)) | (refine pi_pass rfl (fun _ _ _ h => h) (by rfl) ?_)
  try simp only [Act.put, List.setIfInBounds_toArray, List.set_cons_zero, List.set_cons_succ]
  first | (refine pi_take (v := ?pv1_1) rfl (fun _ _ _ h => h) (by rfl) (fun v hv => ?pr1_1) ?rest1_1; case pr1_1 => (obtain ⟨d0, d1, d2, d3, d4, d5, d6, d7, d8, d9, d10, d11, d12, d13⟩ := HC.out v hv; go_simp; first | done | with_reducible rfl)) | (refine pi_pass rfl (fun _ _ _ h => h) (by rfl) ?_)
  try simp only [Act.put, List.setIfInBounds_toArray, List.set_cons_zero, List.set_cons_succ]
  first | (refine pi_take (v := ?pv1_2) rfl (fun _ _ _ h => h) (by rfl) (fun v hv => ?pr1_2) ?rest1_2; case pr1_2 => (obtain ⟨d0, d1, d2, d3, d4, d5, d6, d7, d8, d9, d10, d11, d12, d13⟩ := HC.out v hv; go_simp; first | done | with_reducible rfl)) | (refine pi_pass rfl (fun _ _ _ h => h) (by rfl) ?_)
  try simp only [Act.put, List.setIfInBounds_toArray, List.set_cons_zero, List.set_cons_succ]
  first | (refine pi_take (v := ?pv1_3) rfl (fun _ _ _ h => h) (by rfl) (fun v hv => ?pr1_3) ?rest1_3; case pr1_3 => (obtain ⟨d0, d1, d2, d3, d4, d5, d6, d7, d8, d9, d10, d11, d12, d13⟩ := HC.out v hv; go_simp; first | done | with_reducible rfl)) | (refine pi_pass rfl (fun _ _ _ h => h) (by rfl) ?_)
  try simp only [Act.put, List.setIfInBounds_toArray, List.set_cons_zero, List.set_cons_succ]
  first | (refine pi_take (v := ?pv1_5) rfl (fun _ _ _ h => h) (by rfl) (fun v hv => ?pr1_5) ?rest1_5; case pr1_5 => (obtain ⟨d0, d1, d2, d3, d4, d5, d6, d7, d8, d9, d10, d11, d12, d13⟩ := HC.out v hv; go_simp; first | done | with_reducible rfl)) | (refine pi_pass rfl (fun _ _ _ h => h) (by rfl) ?_)
  try simp only [Act.put, List.setIfInBounds_toArray, List.set_cons_zero, List.set_cons_succ]
  first | (refine pi_take (v := ?pv1_6) rfl (fun _ _ _ h => h) (by rfl) (fun v hv => ?pr1_6) ?rest1_6; case pr1_6 => (obtain ⟨d0, d1, d2, d3, d4, d5, d6, d7, d8, d9, d10, d11, d12, d13⟩ := HC.out v hv; go_simp; first | done | with_reducible rfl)) | (refine pi_pass rfl (fun _ _ _ h => h) (by rfl) ?_)
  try simp only [Act.put, List.setIfInBounds_toArray, List.set_cons_zero, List.set_cons_succ]
  first | (refine pi_take (v := ?pv1_7) rfl (fun _ _ _ h => h) (by rfl) (fun v hv => ?pr1_7) ?rest1_7; case pr1_7 => (obtain ⟨d0, d1, d2, d3, d4, d5, d6, d7, d8, d9, d10, d11, d12, d13⟩ := HC.out v hv; go_simp; first | done | with_reducible rfl)) | (refine pi_pass rfl (fun _ _ _ h => h) (by rfl) ?_)
  try simp only [Act.put, List.setIfInBounds_toArray, List.set_cons_zero, List.set_cons_succ]
  first | (refine pi_take (v := ?pv1_8) rfl (fun _ _ _ h => h) (by rfl) (fun v hv => ?pr1_8) ?rest1_8; case pr1_8 => (obtain ⟨d0, d1, d2, d3, d4, d5, d6, d7, d8, d9, d10, d11, d12, d13⟩ := HC.out v hv; go_simp; first | done | with_reducible rfl)) | (refine pi_pass rfl (fun _ _ _ h => h) (by rfl) ?_)
  try simp only [Act.put, List.setIfInBounds_toArray, List.set_cons_zero, List.set_cons_succ]
  first | (refine pi_take (v := ?pv1_10) rfl (fun _ _ _ h => h) (by rfl) (fun v hv => ?pr1_10) ?rest1_10; case pr1_10 => (obtain ⟨d0, d1, d2, d3, d4, d5, d6, d7, d8, d9, d10, d11, d12, d13⟩ := HC.out v hv; go_simp; first | done | with_reducible rfl)) | (refine pi_pass rfl (fun _ _ _ h => h) (by rfl) ?_)
  try simp only [Act.put, List.setIfInBounds_toArray, List.set_cons_zero, List.set_cons_succ]
  first | (refine pi_take (v := ?pv1_11) rfl (fun _ _ _ h => h) (by rfl) (fun v hv => ?pr1_11) ?rest1_11; case pr1_11 => (obtain ⟨d0, d1, d2, d3, d4, d5, d6, d7, d8, d9, d10, d11, d12, d13⟩ := HC.out v hv; go_simp; first | done | with_reducible rfl)) | (refine pi_pass rfl (fun _ _ _ h => h) (by rfl) ?_)
  try simp only [Act.put, List.setIfInBounds_toArray, List.set_cons_zero, List.set_cons_succ]
  first | (refine pi_take (v := ?pv1_12) rfl (fun _ _ _ h => h) (by rfl) (fun v hv => ?pr1_12) ?rest1_12; case pr1_12 => (obtain ⟨d0, d1, d2, d3, d4, d5, d6, d7, d8, d9, d10, d11, d12, d13⟩ := HC.out v hv; go_simp; first | done | with_reducible rfl)) | (refine pi_pass rfl (fun _ _ _ h => h) (by rfl) ?_)
  try simp only [Act.put, List.setIfInBounds_toArray, List.set_cons_zero, List.set_cons_succ]
  first | (refine pi_take (v := ?pv1_13) rfl (fun _ _ _ h => h) (by rfl) (fun v hv => ?pr1_13) ?rest1_13; case pr1_13 => (obtain ⟨d0, d1, d2, d3, d4, d5, d6, d7, d8, d9, d10, d11, d12, d13⟩ := HC.out v hv; go_simp; first | done | with_reducible rfl)) | (refine pi_pass rfl (fun _ _ _ h => h) (by rfl) ?_)
  try simp only [Act.put, List.setIfInBounds_toArray, List.set_cons_zero, List.set_cons_succ]
  refine pi_step rfl (fun K hK => ?_)
  first | (first | (go_at_call 44; first | (with_reducible refine (C1.out _).mono ?_; rintro e v9 ⟨rfl, hv9⟩) | (with_reducible refine (C3.out _).mono ?_; rintro e v10 ⟨rfl, hv10⟩)) | (go_at_call 45; refine (C2.out _).mono ?_; rintro e v8 ⟨rfl, rfl⟩) | (go_at_call 43; refine (cmpor _ 3 3 [m, n, p] _ rfl (by omega) (by intro t ht; rcases t with _ | _ | _ | t <;> first | (simp; done) | omega)).mono ?_; rintro e v11 ⟨rfl, rfl⟩)) | (go_simp; first | (go_at_call 44; first | (with_reducible refine (C1.out _).mono ?_; rintro e v9 ⟨rfl, hv9⟩) | (with_reducible refine (C3.out _).mono ?_; rintro e v10 ⟨rfl, hv10⟩)) | (go_at_call 45; refine (C2.out _).mono ?_; rintro e v8 ⟨rfl, rfl⟩) | (go_at_call 43; refine (cmpor _ 3 3 [m, n, p] _ rfl (by omega) (by intro t ht; rcases t with _ | _ | _ | t <;> first | (simp; done) | omega)).mono ?_; rintro e v11 ⟨rfl, rfl⟩))
  refine hK.out _ _ (by first | with_reducible exact hHeld | exact hHeld.trans hv10 | exact hHeld.trans hv9 | exact hHeld.trans (Grown.alloc _ _)) (fun hHeld2 => ?_)
  clear hK K hHeld
  have hHeld := hHeld2
  clear hHeld2
  try simp only [Act.put, List.setIfInBounds_toArray, List.set_cons_zero, List.set_cons_succ]
  refine pi_step rfl (fun K hK => ?_)
  first | (first | (go_at_call 44; first | (with_reducible refine (C1.out _).mono ?_; rintro e v9 ⟨rfl, hv9⟩) | (with_reducible refine (C3.out _).mono ?_; rintro e v10 ⟨rfl, hv10⟩)) | (go_at_call 45; refine (C2.out _).mono ?_; rintro e v8 ⟨rfl, rfl⟩) | (go_at_call 43; refine (cmpor _ 3 3 [m, n, p] _ rfl (by omega) (by intro t ht; rcases t with _ | _ | _ | t <;> first | (simp; done) | omega)).mono ?_; rintro e v11 ⟨rfl, rfl⟩)) | (go_simp; first | (go_at_call 44; first | (with_reducible refine (C1.out _).mono ?_; rintro e v9 ⟨rfl, hv9⟩) | (with_reducible refine (C3.out _).mono ?_; rintro e v10 ⟨rfl, hv10⟩)) | (go_at_call 45; refine (C2.out _).mono ?_; rintro e v8 ⟨rfl, rfl⟩) | (go_at_call 43; refine (cmpor _ 3 3 [m, n, p] _ rfl (by omega) (by intro t ht; rcases t with _ | _ | _ | t <;> first | (simp; done) | omega)).mono ?_; rintro e v11 ⟨rfl, rfl⟩))
  refine hK.out _ _ (by first | with_reducible exact hHeld | exact hHeld.trans hv10 | exact hHeld.trans hv9 | exact hHeld.trans (Grown.alloc _ _)) (fun hHeld2 => ?_)
  clear hK K hHeld
  have hHeld := hHeld2
  clear hHeld2
  try simp only [Act.put, List.setIfInBounds_toArray, List.set_cons_zero, List.set_cons_succ]
  refine pi_step rfl (fun K hK => ?_)
  first | (first | (go_at_call 44; first | (with_reducible refine (C1.out _).mono ?_; rintro e v9 ⟨rfl, hv9⟩) | (with_reducible refine (C3.out _).mono ?_; rintro e v10 ⟨rfl, hv10⟩)) | (go_at_call 45; refine (C2.out _).mono ?_; rintro e v8 ⟨rfl, rfl⟩) | (go_at_call 43; refine (cmpor _ 3 3 [m, n, p] _ rfl (by omega) (by intro t ht; rcases t with _ | _ | _ | t <;> first | (simp; done) | omega)).mono ?_; rintro e v11 ⟨rfl, rfl⟩)) | (go_simp; first | (go_at_call 44; first | (with_reducible refine (C1.out _).mono ?_; rintro e v9 ⟨rfl, hv9⟩) | (with_reducible refine (C3.out _).mono ?_; rintro e v10 ⟨rfl, hv10⟩)) | (go_at_call 45; refine (C2.out _).mono ?_; rintro e v8 ⟨rfl, rfl⟩) | (go_at_call 43; refine (cmpor _ 3 3 [m, n, p] _ rfl (by omega) (by intro t ht; rcases t with _ | _ | _ | t <;> first | (simp; done) | omega)).mono ?_; rintro e v11 ⟨rfl, rfl⟩))
  refine hK.out _ _ (by first | with_reducible exact hHeld | exact hHeld.trans hv10 | exact hHeld.trans hv9 | exact hHeld.trans (Grown.alloc _ _)) (fun hHeld2 => ?_)
  clear hK K hHeld
  have hHeld := hHeld2
  clear hHeld2
  try simp only [Act.put, List.setIfInBounds_toArray, List.set_cons_zero, List.set_cons_succ]
  refine pi_step rfl (fun K hK => ?_)
  go_simp
  refine hK.out _ _ (by first | with_reducible exact hHeld | exact hHeld.trans hv10 | exact hHeld.trans hv9 | exact hHeld.trans (Grown.alloc _ _)) (fun hHeld2 => ?_)
  clear hK K hHeld
  have hHeld := hHeld2
  clear hHeld2
  try simp only [Act.put, List.setIfInBounds_toArray, List.set_cons_zero, List.set_cons_succ]
  refine pi_step rfl (fun K hK => ?_)
  first | (first | (go_at_call 44; first | (with_reducible refine (C1.out _).mono ?_; rintro e v9 ⟨rfl, hv9⟩) | (with_reducible refine (C3.out _).mono ?_; rintro e v10 ⟨rfl, hv10⟩)) | (go_at_call 45; refine (C2.out _).mono ?_; rintro e v8 ⟨rfl, rfl⟩) | (go_at_call 43; refine (cmpor _ 3 3 [m, n, p] _ rfl (by omega) (by intro t ht; rcases t with _ | _ | _ | t <;> first | (simp; done) | omega)).mono ?_; rintro e v11 ⟨rfl, rfl⟩)) | (go_simp; first | (go_at_call 44; first | (with_reducible refine (C1.out _).mono ?_; rintro e v9 ⟨rfl, hv9⟩) | (with_reducible refine (C3.out _).mono ?_; rintro e v10 ⟨rfl, hv10⟩)) | (go_at_call 45; refine (C2.out _).mono ?_; rintro e v8 ⟨rfl, rfl⟩) | (go_at_call 43; refine (cmpor _ 3 3 [m, n, p] _ rfl (by omega) (by intro t ht; rcases t with _ | _ | _ | t <;> first | (simp; done) | omega)).mono ?_; rintro e v11 ⟨rfl, rfl⟩))
  refine hK.out _ _ (by first | with_reducible exact hHeld | exact hHeld.trans hv10 | exact hHeld.trans hv9 | exact hHeld.trans (Grown.alloc _ _)) (fun hHeld2 => ?_)
  clear hK K hHeld
  have hHeld := hHeld2
  clear hHeld2
  try simp only [Act.put, List.setIfInBounds_toArray, List.set_cons_zero, List.set_cons_succ]
  first | (refine pi_take (v := ?pv1_17) rfl (fun _ _ _ h => h) (by rfl) (fun v hv => ?pr1_17) ?rest1_17; case pr1_17 => (obtain ⟨d0, d1, d2, d3, d4, d5, d6, d7, d8, d9, d10, d11, d12, d13⟩ := HC.out v hv; go_simp; first | done | with_reducible rfl)) | (refine pi_pass rfl (fun _ _ _ h => h) (by rfl) ?_)
  try simp only [Act.put, List.setIfInBounds_toArray, List.set_cons_zero, List.set_cons_succ]
  refine pi_end ?_
  refine z_end ?_
  clear hHeld
  go_wp2_with fail
  go_ret
  exact ⟨by rw [HA.out]; rfl, HW.out.trans ((((Grown.refl W).drew.trans hv9).trans hv10).trans (Grown.alloc _ _))⟩
end Go.Proofs.Ytlnjgoommpeioaa
