/- Texts joined: ToVPage ToSPage ToVFile ToSFile ToVDisk EqRows EqSRow EqVPage EqSPage EqVFile EqSFile EqVDisk SzSRow SzVPage SzSPage SzVFile SzSFile SzVDisk MkSRow MkSPage MkSFile MkVDisk DDisk OpRows OpPage OpFile OpDisk DiskM Valids Ares Class PagesS PagesAll DiskS ValidDs Blk DiskB Iup Validi Arei Pagesi ValidDi PageIn. -/
import Derived.Test.YthbifibnnhikjaaPartSixa
import Derived.Deep.QuietTactic
import Derived.BigQuiet
import Derived.StillTailTactics
import Derived.Deep.Quiet
import Derived.WalkKit
import Derived.Lib.Hide
import Derived.Deep.CutRange
/- Page: a copy, by value; no function of program or reference is walked here. -/
namespace Go.Proofs.Ythbifibnnhikjaa
open Go.RowKit
set_option linter.unusedVariables false

set_option maxRecDepth 100000 in
set_option maxHeartbeats 1000000 in
theorem toV_page (a0 : Option Addr) (n0 k0 : Nat) (x0 : List R) (w : World) (h0 : SeqIn rowRep w a0 n0 x0)  (hw : wtPage x0 ≤ 1000000000) :
    Calls Try.prog 23 #[.agg #[.slice a0 n0 k0]] w fun e w' => ∃ (g0 : Nat) (F0 : List Reg), e = .returned (.agg #[.slice (some ⟨g0, 0, none⟩) n0 n0]) ∧ pageRep.own w' w.heap.size x0 (some ⟨g0, 0, none⟩, n0, n0) (F0) ∧ Below w.heap.size w w' := by
  have hsum : wtRows x0 ≤ 1000000000 := hw
  have hw0 : wtRows x0 ≤ 1000000000 := by omega
  clear hw hsum
  obtain ⟨W, hW⟩ : ∃ W, W = ((w.alloc (.cells #[.slice a0 n0 k0] 40)).alloc (.cells #[.slice none 0 0] 46)).alloc (.cells #[.slice none 0 0] 46) := ⟨_, rfl⟩
  obtain ⟨hz, b0, k0, k1, k2⟩ := boxes3 w W hW
  have HZ := Lib.hid hz
  have B0 := Lib.hid b0
  have K0_0 := Lib.hid k0
  have K1_0 := Lib.hid k1
  have K2_0 := Lib.hid k2
  have H0 := Lib.hid (h0.keep b0)
  have G0 := Lib.hid h0
  clear hz b0 k0 k1 k2 h0
  go_enter Try.func23, Try.ntmps23
  go_wp2_with fail
  rw [← hW]
  clear hW
  refine (toS_row a0 n0 k0 x0 _ H0.out hw0).mono ?_
  rintro e w1 ⟨g0, F0, rfl, o0, b1⟩
  have z1 := HZ.out
  have zz1 : W.heap.size ≤ W.heap.size := Nat.le_refl _
  have K0_1 := Lib.hid ((b1.block _ (lt_of_block K0_0.out)).trans K0_0.out)
  have K1_1 := Lib.hid ((b1.block _ (lt_of_block K1_0.out)).trans K1_0.out)
  have K2_1 := Lib.hid ((b1.block _ (lt_of_block K2_0.out)).trans K2_0.out)
  have Z1 := Lib.hid (Nat.le_trans zz1 b1.size)
  have B1 := Lib.hid (B0.out.trans (b1.mono B0.out.size))
  have O0 := Lib.hid (o0.mono (B' := w.heap.size + 3) (by omega))
  clear o0 z1 zz1 b1
  have q1_0 : w1.cell? ⟨w.heap.size + 2, 0, none⟩ = some (.slice none 0 0) := by have := K2_1.out; simp [World.cell?, this]
  have f1_0 : w1.frozen? ⟨w.heap.size + 2, 0, none⟩ = false := by have := K2_1.out; simp [World.frozen?, this]
  have u1_0 : w1.cell? ⟨w.heap.size + 1, 0, none⟩ = some (.slice none 0 0) := by have := K1_1.out; simp [World.cell?, this]
  have t1_0 : w1.frozen? ⟨w.heap.size + 1, 0, none⟩ = false := by have := K1_1.out; simp [World.frozen?, this]
  go_wp2_with fail
  have E0 := fun (V : World) (hs : Stay F0 w1 V) => (O0.out.stay hs).mono (B' := w.heap.size) (by omega)
  have hl0 := O0.out.lt
  refine bodyPost_ret (v := .agg #[.slice (some ⟨g0, 0, none⟩) n0 n0]) (by simp [results, Try.results23, go_sem, *]) rfl ⟨g0, F0, rfl, ?_, ?_⟩
  · exact ⟨E0 _ (((Stay.refl _ _).set _ fun y hy => by have := (hl0 y hy).1; omega).set _ fun y hy => by have := (hl0 y hy).1; omega), fun e => by cases e⟩
  · exact ((B1.out.setCell (by simp only []; omega) _).setCell (by simp only []; omega) _)
end Go.Proofs.Ythbifibnnhikjaa
/- Page: a copy of a slice of them; no function of program or reference is walked here. -/
namespace Go.Proofs.Ythbifibnnhikjaa
open Go.RowKit
set_option linter.unusedVariables false

set_option maxRecDepth 100000 in
set_option maxHeartbeats 1000000 in
theorem toS_page (a : Option Addr) (n c : Nat) (X : List (List R)) (w : World) (h : SeqIn pageRep w a n X) (hw : wtPages X ≤ 1000000000) :
    Calls Try.prog 75 #[.slice a n c] w fun e w' => ∃ g F, e = .returned (.slice (some ⟨g, 0, none⟩) n n) ∧ SeqOwn pageRep w' w.heap.size (some ⟨g, 0, none⟩) n X F ∧ Below w.heap.size w w' := by
  have HL := Lib.hid h.1
  have HI := Lib.hid h
  have hn : n ≤ 1000000000 := by have h1 := wt_page_len X; have h2 := h.1; omega
  have HW := Lib.hid hw
  have hmk := run_make_pages n (by omega)
  obtain ⟨G, hG⟩ : ∃ G, G = w.heap.size := ⟨_, rfl⟩
  obtain ⟨M, hM⟩ : ∃ M, M = (List.replicate n (Value.slice none 0 0)).toArray := ⟨_, rfl⟩
  have hms : M.size = n * 1 := by rw [hM]; simp
  rw [← hM] at hmk
  have hb0 : Below w.heap.size w (w.alloc (.cells M 46)) := (Below.refl _ _).alloc (Nat.le_refl _) _
  have hg0 : (w.alloc (.cells M 46)).heap[w.heap.size]? = some (.cells M 46 (0, 0)) := heap_alloc_new w _
  rw [← hG] at hb0 hg0
  have EX0 : Hid (∀ j, j < n * 1 → ∃ u, (w.alloc (.cells M 46)).cell? ⟨G, j, none⟩ = some u) := Lib.hid fun j hj => ⟨M[j]'(by omega), by simp only [World.cell?, hg0]; simp [show j < M.size by omega]⟩
  have FZ0 : Hid (∀ j, (w.alloc (.cells M 46)).frozen? ⟨G, j, none⟩ = false) := Lib.hid fun j => by simp [World.frozen?, hg0]
  have GL0 := Lib.hid (lt_of_block hg0)
  have HB0 := Lib.hid hb0
  have HG := Lib.hid hG
  clear h hw hb0 hg0 hms hM
  go_enter Try.func75, Try.ntmps75
  go_wp2_with fail
  clear hmk
  rw [← hG]
  clear hG
  go_loopw [4] (fun i wr => ∃ (t : Nat) (es : List (El pageRep)), i = .int .i64 t ∧ t ≤ n ∧ Hid (es.map El.x = X.take t) ∧ Hid (∀ j u, (cellsOf es)[j]? = some u → wr.cell? ⟨G, j, none⟩ = some u) ∧ Hid (∀ j, j < n * 1 → ∃ u, wr.cell? ⟨G, j, none⟩ = some u) ∧ Hid (∀ j, wr.frozen? ⟨G, j, none⟩ = false) ∧ Hid (G < wr.heap.size) ∧ Hid (OwnAll pageRep wr (G + 1) es) ∧ Hid (Below G w wr)) (fun i _ => n - (intOf i).toNat)
  case atStart => exact ⟨0, [], rfl, Nat.zero_le _, (by show _ = _; simp), (fun j u hj => by simp [cellsOf] at hj), EX0, FZ0, GL0, OwnAll.nil _ _ _, HB0.out⟩
  case round =>
    obtain ⟨t, es, rfl, ht, hes, hC, hE, hF, hgl, how, hb⟩ := hrel
    have hel : es.length = t := by
      have := congrArg List.length hes.out
      rw [List.length_map, List.length_take, HL.out] at this
      omega
    by_cases hlt : t < n
    · have htl : t < X.length := by have := HL.out; omega
      have hwt := Nat.le_trans (wt_page_at X t htl) HW.out
      obtain ⟨x, hx⟩ : ∃ x, x = X[t] := ⟨_, rfl⟩
      have hp : X[t]? = some x := by rw [hx]; simp [htl]
      have htk : X.take (t + 1) = X.take t ++ [x] := by rw [List.take_succ_eq_append_getElem htl, hx]
      rw [← hx] at hwt
      have hbk : Below w.heap.size w wr := by rw [← HG.out]; exact hb.out
      obtain ⟨b, o, hd, rfl, hbl, hce, hin⟩ := (HI.out.keep hbk).el hp
      clear hx hp
      obtain ⟨x0, hx0⟩ : ∃ x0, x0 = x := ⟨_, rfl⟩
      subst hx0
      obtain ⟨a0, n0, k0⟩ := hd
      obtain ⟨h0, hc0⟩ := hin
      have c0 : wr.cell? ⟨b, o + t, none⟩ = some (.slice a0 n0 k0) := by
        have h' : wr.cell? ⟨b, o + t * 1, none⟩ = some (.slice a0 n0 k0) := hce 0 _ rfl
        rwa [Nat.mul_one] at h'
      have HI0 := Lib.hid h0
      have HTK := Lib.hid htk
      have HWT := Lib.hid hwt
      clear hce htk hwt hbk h0 hc0
      go_wp2_with fail
      refine (toV_page a0 n0 k0 x0 _ HI0.out HWT.out).mono ?_
      rintro e w1 ⟨g0, F0, rfl, own, b1⟩
      have hcl : (cellsOf es).length = t := by rw [cellsOf_length, hel]; exact Nat.mul_one _
      have ex : ∀ j, j < n * 1 → ∃ u, w1.cell? ⟨G, j, none⟩ = some u := fun j hj => by rw [b1.cell hgl.out]; exact hE.out j hj
      have fz : ∀ j, w1.frozen? ⟨G, j, none⟩ = false := fun j => (World.frozen?_of_block (b1.block _ hgl.out)).trans (hF.out j)
      obtain ⟨u0, d0⟩ := ex (t) (by omega)
      have f0 := fz (t)
      have hpush := how.out.push (e := ⟨x0, (some ⟨g0, 0, none⟩, n0, n0), F0⟩) b1 own (by have := hgl.out; omega) (Nat.le_refl _)
      have hstay : OwnAll pageRep (putCells w1 G (t) [.slice (some ⟨g0, 0, none⟩) n0 n0]) (G + 1) (es ++ [⟨x0, (some ⟨g0, 0, none⟩, n0, n0), F0⟩]) := hpush.stay fun e he => put_stay (fun y hy => by have := (pageRep.own_lt (hpush.1 e he) y hy).1; omega) _ _ _ (Stay.refl _ _)
      have hcells : ∀ j u, (cellsOf (es ++ [(⟨x0, (some ⟨g0, 0, none⟩, n0, n0), F0⟩ : El pageRep)]))[j]? = some u → (putCells w1 G (t) [.slice (some ⟨g0, 0, none⟩) n0 n0]).cell? ⟨G, j, none⟩ = some u := by
        intro j u hj
        rw [cellsOf_snoc] at hj
        rcases Nat.lt_or_ge j (t) with h1 | h1
        · rw [List.getElem?_append_left (by omega)] at hj
          rw [put_far _ _ _ (.inl h1), b1.cell hgl.out]
          exact hC.out j u hj
        · rw [List.getElem?_append_right (by omega), hcl] at hj
          have h2 := put_at [.slice (some ⟨g0, 0, none⟩) n0 n0] w1 (t) (fun k hk => ex _ (by have hk' : k < 1 := hk; omega)) (j - t) u hj
          rwa [show t + (j - t) = j by omega] at h2
      have hex : ∀ j, j < n * 1 → ∃ u, (putCells w1 G (t) [.slice (some ⟨g0, 0, none⟩) n0 n0]).cell? ⟨G, j, none⟩ = some u := fun j hj => put_ex _ _ _ (ex j hj)
      have hfz : ∀ j, (putCells w1 G (t) [.slice (some ⟨g0, 0, none⟩) n0 n0]).frozen? ⟨G, j, none⟩ = false := fun j => (put_frozen _ _ _).trans (fz j)
      have hsz : G < (putCells w1 G (t) [.slice (some ⟨g0, 0, none⟩) n0 n0]).heap.size := by rw [put_size]; exact Nat.lt_of_lt_of_le hgl.out b1.size
      have N1 := Lib.hid hstay
      have N2 := Lib.hid hcells
      have N3 := Lib.hid hex
      have N4 := Lib.hid hfz
      have N5 := Lib.hid hsz
      have N6 := Lib.hid (put_below (Nat.le_refl G) [.slice (some ⟨g0, 0, none⟩) n0 n0] w1 (t) (hb.out.trans (b1.mono (by have := hgl.out; omega))))
      clear hpush hstay hcells hex hfz hsz own b1 ex fz hcl
      go_wp2_with fail
      go_roundw
      case rel =>
        refine ⟨t + 1, es ++ [(⟨x0, (some ⟨g0, 0, none⟩, n0, n0), F0⟩ : El pageRep)], by go_num, by omega, ?_, N2, N3, N4, N5, N1, N6⟩
        show _ = _
        rw [List.map_append, hes.out, HTK.out]; rfl
      case measure => simp [intOf]; omega
    · have hkl : t = n := by omega
      have hx : es.map El.x = X := by rw [hes.out, List.take_of_length_le (by have := HL.out; omega)]
      have hfin : ∃ F, SeqOwn pageRep wr G (some ⟨G, 0, none⟩) n X F := by
        obtain ⟨F, hF'⟩ := OwnAll.done (g := G) (how.out.mono (B' := G) (by omega)) (Nat.le_refl _) hgl.out hF.out hC.out (fun e he y hy => by have := (pageRep.own_lt (how.out.1 e he) y hy).1; omega) (by unfold maxLen; omega)
        exact ⟨F, by rw [hx, hel, hkl] at hF'; exact hF'⟩
      have HF := Lib.hid hfin
      clear hkl hx hfin
      go_wp2_with fail
      go_ret
      obtain ⟨F, hF'⟩ := HF.out
      have hb' := hb.out
      rw [HG.out] at hF' hb' ⊢
      exact ⟨w.heap.size, F, rfl, hF', hb'⟩
end Go.Proofs.Ythbifibnnhikjaa
/- File: a copy, by value; no function of program or reference is walked here. -/
namespace Go.Proofs.Ythbifibnnhikjaa
open Go.RowKit
set_option linter.unusedVariables false

set_option maxRecDepth 100000 in
set_option maxHeartbeats 1000000 in
theorem toV_file (x0 : Int) (a1 : Option Addr) (n1 k1 : Nat) (x1 : List (List R)) (x2 : Int) (x3 : Bool) (w : World) (h1 : SeqIn pageRep w a1 n1 x1) (r0 : I64 x0) (r2 : I64 x2) (hw : wtFile ⟨x0, x1, x2, x3⟩ ≤ 1000000000) :
    Calls Try.prog 59 #[.agg #[.int .i64 x0, .slice a1 n1 k1, .int .i64 x2, .bool x3]] w fun e w' => ∃ (g1 : Nat) (F1 : List Reg), e = .returned (.agg #[.int .i64 x0, .slice (some ⟨g1, 0, none⟩) n1 n1, .int .i64 x2, .bool x3]) ∧ fileRep.own w' w.heap.size ⟨x0, x1, x2, x3⟩ ((some ⟨g1, 0, none⟩, n1, n1), ()) (F1 ++ []) ∧ Below w.heap.size w w' := by
  have hsum : wtPages x1 ≤ 1000000000 := hw
  have hw1 : wtPages x1 ≤ 1000000000 := by omega
  clear hw hsum
  obtain ⟨W, hW⟩ : ∃ W, W = ((w.alloc (.cells #[.int .i64 x0, .slice a1 n1 k1, .int .i64 x2, .bool x3] 82)).alloc (.cells #[.int .i64 0, .slice none 0 0, .int .i64 0, .bool false] 59)).alloc (.cells #[.int .i64 x0, .slice none 0 0, .int .i64 0, .bool false] 59) := ⟨_, rfl⟩
  obtain ⟨hz, b0, k0, k1, k2⟩ := boxes3 w W hW
  have HZ := Lib.hid hz
  have B0 := Lib.hid b0
  have K0_0 := Lib.hid k0
  have K1_0 := Lib.hid k1
  have K2_0 := Lib.hid k2
  have H1 := Lib.hid (h1.keep b0)
  have G1 := Lib.hid h1
  clear hz b0 k0 k1 k2 h1
  go_enter Try.func59, Try.ntmps59
  go_wp2_with fail
  rw [← hW]
  clear hW
  refine (toS_page a1 n1 k1 x1 _ H1.out hw1).mono ?_
  rintro e w1 ⟨g1, F1, rfl, o1, b1⟩
  have z1 := HZ.out
  have zz1 : W.heap.size ≤ W.heap.size := Nat.le_refl _
  have K0_1 := Lib.hid ((b1.block _ (lt_of_block K0_0.out)).trans K0_0.out)
  have K1_1 := Lib.hid ((b1.block _ (lt_of_block K1_0.out)).trans K1_0.out)
  have K2_1 := Lib.hid ((b1.block _ (lt_of_block K2_0.out)).trans K2_0.out)
  have Z1 := Lib.hid (Nat.le_trans zz1 b1.size)
  have B1 := Lib.hid (B0.out.trans (b1.mono B0.out.size))
  have O1 := Lib.hid (o1.mono (B' := w.heap.size + 3) (by omega))
  clear o1 z1 zz1 b1
  have p1_2 : w1.cell? ⟨w.heap.size, 2, none⟩ = some (.int .i64 x2) := by have := K0_1.out; simp [World.cell?, this]
  have p1_3 : w1.cell? ⟨w.heap.size, 3, none⟩ = some (.bool x3) := by have := K0_1.out; simp [World.cell?, this]
  have q1_0 : w1.cell? ⟨w.heap.size + 2, 0, none⟩ = some (.int .i64 x0) := by have := K2_1.out; simp [World.cell?, this]
  have f1_0 : w1.frozen? ⟨w.heap.size + 2, 0, none⟩ = false := by have := K2_1.out; simp [World.frozen?, this]
  have u1_0 : w1.cell? ⟨w.heap.size + 1, 0, none⟩ = some (.int .i64 0) := by have := K1_1.out; simp [World.cell?, this]
  have t1_0 : w1.frozen? ⟨w.heap.size + 1, 0, none⟩ = false := by have := K1_1.out; simp [World.frozen?, this]
  have q1_1 : w1.cell? ⟨w.heap.size + 2, 1, none⟩ = some (.slice none 0 0) := by have := K2_1.out; simp [World.cell?, this]
  have f1_1 : w1.frozen? ⟨w.heap.size + 2, 1, none⟩ = false := by have := K2_1.out; simp [World.frozen?, this]
  have u1_1 : w1.cell? ⟨w.heap.size + 1, 1, none⟩ = some (.slice none 0 0) := by have := K1_1.out; simp [World.cell?, this]
  have t1_1 : w1.frozen? ⟨w.heap.size + 1, 1, none⟩ = false := by have := K1_1.out; simp [World.frozen?, this]
  have q1_2 : w1.cell? ⟨w.heap.size + 2, 2, none⟩ = some (.int .i64 0) := by have := K2_1.out; simp [World.cell?, this]
  have f1_2 : w1.frozen? ⟨w.heap.size + 2, 2, none⟩ = false := by have := K2_1.out; simp [World.frozen?, this]
  have u1_2 : w1.cell? ⟨w.heap.size + 1, 2, none⟩ = some (.int .i64 0) := by have := K1_1.out; simp [World.cell?, this]
  have t1_2 : w1.frozen? ⟨w.heap.size + 1, 2, none⟩ = false := by have := K1_1.out; simp [World.frozen?, this]
  have q1_3 : w1.cell? ⟨w.heap.size + 2, 3, none⟩ = some (.bool false) := by have := K2_1.out; simp [World.cell?, this]
  have f1_3 : w1.frozen? ⟨w.heap.size + 2, 3, none⟩ = false := by have := K2_1.out; simp [World.frozen?, this]
  have u1_3 : w1.cell? ⟨w.heap.size + 1, 3, none⟩ = some (.bool false) := by have := K1_1.out; simp [World.cell?, this]
  have t1_3 : w1.frozen? ⟨w.heap.size + 1, 3, none⟩ = false := by have := K1_1.out; simp [World.frozen?, this]
  go_wp2_with fail
  have E1 := fun (V : World) (hs : Stay F1 w1 V) => (O1.out.stay hs).mono (B' := w.heap.size) (by omega)
  have hl1 := O1.out.lt
  refine bodyPost_ret (v := .agg #[.int .i64 x0, .slice (some ⟨g1, 0, none⟩) n1 n1, .int .i64 x2, .bool x3]) (by simp [results, Try.results59, go_sem, *]) rfl ⟨g1, F1, rfl, ?_, ?_⟩
  · exact ⟨r0, ⟨_, _, rfl, ⟨E1 _ ((((((((Stay.refl _ _).set _ fun y hy => by have := (hl1 y hy).1; omega).set _ fun y hy => by have := (hl1 y hy).1; omega).set _ fun y hy => by have := (hl1 y hy).1; omega).set _ fun y hy => by have := (hl1 y hy).1; omega).set _ fun y hy => by have := (hl1 y hy).1; omega).set _ fun y hy => by have := (hl1 y hy).1; omega).set _ fun y hy => by have := (hl1 y hy).1; omega), fun e => by cases e⟩, ⟨r2, rfl⟩, fun a ha b hb => by simp at hb⟩⟩
  · exact (((((((B1.out.setCell (by simp only []; omega) _).setCell (by simp only []; omega) _).setCell (by simp only []; omega) _).setCell (by simp only []; omega) _).setCell (by simp only []; omega) _).setCell (by simp only []; omega) _).setCell (by simp only []; omega) _)
end Go.Proofs.Ythbifibnnhikjaa
/- File: a copy of a slice of them; no function of program or reference is walked here. -/
namespace Go.Proofs.Ythbifibnnhikjaa
open Go.RowKit
set_option linter.unusedVariables false

theorem run_make_files (n : Nat) (hn : n ≤ 1000000000) (w : World) :
    (Instr.makeSlice 29 (.int .i64 (n : Int)) (.int .i64 (n : Int))).run Try.prog w = .ok (.slice (some ⟨w.heap.size, 0, none⟩) n n) (w.alloc (.cells (madeCells #[.int .i64 0, .slice none 0 0, .int .i64 0, .bool false] (n * 4)) 59)) := by
  obtain ⟨i0, hi, hz0, hz1, hz2⟩ := info_parts fileInfo
  have h := run_make (P := Try.prog) w 29 59 i0 (.agg #[.int .i64 0, .slice none 0 0, .int .i64 0, .bool false]) Try.underlying29 hi hz0 .i64 .i64 (n : Int) (n : Int) (by omega) (by omega) (by rw [hz2]; omega) (by omega)
  rw [h, hz1, Int.toNat_natCast]
  rfl
set_option maxRecDepth 100000 in
set_option maxHeartbeats 1000000 in
theorem toS_file (a : Option Addr) (n c : Nat) (X : List FileD) (w : World) (h : SeqIn fileRep w a n X) (hw : wtFiles X ≤ 1000000000) :
    Calls Try.prog 36 #[.slice a n c] w fun e w' => ∃ g F, e = .returned (.slice (some ⟨g, 0, none⟩) n n) ∧ SeqOwn fileRep w' w.heap.size (some ⟨g, 0, none⟩) n X F ∧ Below w.heap.size w w' := by
  have HL := Lib.hid h.1
  have HI := Lib.hid h
  have hn : n ≤ 1000000000 := by have h1 := wt_file_len X; have h2 := h.1; omega
  have HW := Lib.hid hw
  have hmk := run_make_files n hn
  obtain ⟨G, hG⟩ : ∃ G, G = w.heap.size := ⟨_, rfl⟩
  obtain ⟨M, hM⟩ : ∃ M, M = (madeCells #[.int .i64 0, .slice none 0 0, .int .i64 0, .bool false] (n * 4)) := ⟨_, rfl⟩
  have hms : M.size = n * 4 := by rw [hM]; exact size_madeCells _ _
  rw [← hM] at hmk
  have hb0 : Below w.heap.size w (w.alloc (.cells M 59)) := (Below.refl _ _).alloc (Nat.le_refl _) _
  have hg0 : (w.alloc (.cells M 59)).heap[w.heap.size]? = some (.cells M 59 (0, 0)) := heap_alloc_new w _
  rw [← hG] at hb0 hg0
  have EX0 : Hid (∀ j, j < n * 4 → ∃ u, (w.alloc (.cells M 59)).cell? ⟨G, j, none⟩ = some u) := Lib.hid fun j hj => ⟨M[j]'(by omega), by simp only [World.cell?, hg0]; simp [show j < M.size by omega]⟩
  have FZ0 : Hid (∀ j, (w.alloc (.cells M 59)).frozen? ⟨G, j, none⟩ = false) := Lib.hid fun j => by simp [World.frozen?, hg0]
  have GL0 := Lib.hid (lt_of_block hg0)
  have HB0 := Lib.hid hb0
  have HG := Lib.hid hG
  clear h hw hb0 hg0 hms hM
  go_enter Try.func36, Try.ntmps36
  go_wp2_with fail
  clear hmk
  rw [← hG]
  clear hG
  go_loopw [4] (fun i wr => ∃ (t : Nat) (es : List (El fileRep)), i = .int .i64 t ∧ t ≤ n ∧ Hid (es.map El.x = X.take t) ∧ Hid (∀ j u, (cellsOf es)[j]? = some u → wr.cell? ⟨G, j, none⟩ = some u) ∧ Hid (∀ j, j < n * 4 → ∃ u, wr.cell? ⟨G, j, none⟩ = some u) ∧ Hid (∀ j, wr.frozen? ⟨G, j, none⟩ = false) ∧ Hid (G < wr.heap.size) ∧ Hid (OwnAll fileRep wr (G + 1) es) ∧ Hid (Below G w wr)) (fun i _ => n - (intOf i).toNat)
  case atStart => exact ⟨0, [], rfl, Nat.zero_le _, (by show _ = _; simp), (fun j u hj => by simp [cellsOf] at hj), EX0, FZ0, GL0, OwnAll.nil _ _ _, HB0.out⟩
  case round =>
    obtain ⟨t, es, rfl, ht, hes, hC, hE, hF, hgl, how, hb⟩ := hrel
    have hel : es.length = t := by
      have := congrArg List.length hes.out
      rw [List.length_map, List.length_take, HL.out] at this
      omega
    by_cases hlt : t < n
    · have htl : t < X.length := by have := HL.out; omega
      have hwt := Nat.le_trans (wt_file_at X t htl) HW.out
      obtain ⟨x, hx⟩ : ∃ x, x = X[t] := ⟨_, rfl⟩
      have hp : X[t]? = some x := by rw [hx]; simp [htl]
      have htk : X.take (t + 1) = X.take t ++ [x] := by rw [List.take_succ_eq_append_getElem htl, hx]
      rw [← hx] at hwt
      have hbk : Below w.heap.size w wr := by rw [← HG.out]; exact hb.out
      obtain ⟨b, o, hd, rfl, hbl, hce, hin⟩ := (HI.out.keep hbk).el hp
      clear hx hp
      obtain ⟨x0, x1, x2, x3⟩ := x
      obtain ⟨⟨a1, n1, k1⟩, ⟨⟩⟩ := hd
      obtain ⟨r0, ⟨h1, hc1⟩, r2, -⟩ := hin
      have c0 : wr.cell? ⟨b, o + t * 4, none⟩ = some (.int .i64 x0) := hce 0 _ rfl
      have c1 : wr.cell? ⟨b, o + t * 4 + 1, none⟩ = some (.slice a1 n1 k1) := hce 1 _ rfl
      have c2 : wr.cell? ⟨b, o + t * 4 + 2, none⟩ = some (.int .i64 x2) := hce 2 _ rfl
      have c3 : wr.cell? ⟨b, o + t * 4 + 3, none⟩ = some (.bool x3) := hce 3 _ rfl
      have HI1 := Lib.hid h1
      have HR0 := Lib.hid r0
      have HR2 := Lib.hid r2
      have HTK := Lib.hid htk
      have HWT := Lib.hid hwt
      clear hce htk hwt hbk h1 hc1 r0 r2
      go_wp2_with fail
      refine (toV_file x0 a1 n1 k1 x1 x2 x3 _ HI1.out HR0.out HR2.out HWT.out).mono ?_
      rintro e w1 ⟨g1, F1, rfl, own, b1⟩
      have hcl : (cellsOf es).length = t * 4 := by rw [cellsOf_length, hel]; rfl
      have ex : ∀ j, j < n * 4 → ∃ u, w1.cell? ⟨G, j, none⟩ = some u := fun j hj => by rw [b1.cell hgl.out]; exact hE.out j hj
      have fz : ∀ j, w1.frozen? ⟨G, j, none⟩ = false := fun j => (World.frozen?_of_block (b1.block _ hgl.out)).trans (hF.out j)
      obtain ⟨u0, d0⟩ := ex (t * 4) (by omega)
      have f0 := fz (t * 4)
      obtain ⟨u1, d1⟩ := ex (t * 4 + 1) (by omega)
      have f1 := fz (t * 4 + 1)
      obtain ⟨u2, d2⟩ := ex (t * 4 + 2) (by omega)
      have f2 := fz (t * 4 + 2)
      obtain ⟨u3, d3⟩ := ex (t * 4 + 3) (by omega)
      have f3 := fz (t * 4 + 3)
      have hpush := how.out.push (e := ⟨⟨x0, x1, x2, x3⟩, ((some ⟨g1, 0, none⟩, n1, n1), ()), F1 ++ []⟩) b1 own (by have := hgl.out; omega) (Nat.le_refl _)
      have hstay : OwnAll fileRep (putCells w1 G (t * 4) [.int .i64 x0, .slice (some ⟨g1, 0, none⟩) n1 n1, .int .i64 x2, .bool x3]) (G + 1) (es ++ [⟨⟨x0, x1, x2, x3⟩, ((some ⟨g1, 0, none⟩, n1, n1), ()), F1 ++ []⟩]) := hpush.stay fun e he => put_stay (fun y hy => by have := (fileRep.own_lt (hpush.1 e he) y hy).1; omega) _ _ _ (Stay.refl _ _)
      have hcells : ∀ j u, (cellsOf (es ++ [(⟨⟨x0, x1, x2, x3⟩, ((some ⟨g1, 0, none⟩, n1, n1), ()), F1 ++ []⟩ : El fileRep)]))[j]? = some u → (putCells w1 G (t * 4) [.int .i64 x0, .slice (some ⟨g1, 0, none⟩) n1 n1, .int .i64 x2, .bool x3]).cell? ⟨G, j, none⟩ = some u := by
        intro j u hj
        rw [cellsOf_snoc] at hj
        rcases Nat.lt_or_ge j (t * 4) with h1 | h1
        · rw [List.getElem?_append_left (by omega)] at hj
          rw [put_far _ _ _ (.inl h1), b1.cell hgl.out]
          exact hC.out j u hj
        · rw [List.getElem?_append_right (by omega), hcl] at hj
          have h2 := put_at [.int .i64 x0, .slice (some ⟨g1, 0, none⟩) n1 n1, .int .i64 x2, .bool x3] w1 (t * 4) (fun k hk => ex _ (by have hk' : k < 4 := hk; omega)) (j - (t * 4)) u hj
          rwa [show t * 4 + (j - (t * 4)) = j by omega] at h2
      have hex : ∀ j, j < n * 4 → ∃ u, (putCells w1 G (t * 4) [.int .i64 x0, .slice (some ⟨g1, 0, none⟩) n1 n1, .int .i64 x2, .bool x3]).cell? ⟨G, j, none⟩ = some u := fun j hj => put_ex _ _ _ (ex j hj)
      have hfz : ∀ j, (putCells w1 G (t * 4) [.int .i64 x0, .slice (some ⟨g1, 0, none⟩) n1 n1, .int .i64 x2, .bool x3]).frozen? ⟨G, j, none⟩ = false := fun j => (put_frozen _ _ _).trans (fz j)
      have hsz : G < (putCells w1 G (t * 4) [.int .i64 x0, .slice (some ⟨g1, 0, none⟩) n1 n1, .int .i64 x2, .bool x3]).heap.size := by rw [put_size]; exact Nat.lt_of_lt_of_le hgl.out b1.size
      have N1 := Lib.hid hstay
      have N2 := Lib.hid hcells
      have N3 := Lib.hid hex
      have N4 := Lib.hid hfz
      have N5 := Lib.hid hsz
      have N6 := Lib.hid (put_below (Nat.le_refl G) [.int .i64 x0, .slice (some ⟨g1, 0, none⟩) n1 n1, .int .i64 x2, .bool x3] w1 (t * 4) (hb.out.trans (b1.mono (by have := hgl.out; omega))))
      clear hpush hstay hcells hex hfz hsz own b1 ex fz hcl
      go_wp2_with fail
      go_roundw
      case rel =>
        refine ⟨t + 1, es ++ [(⟨⟨x0, x1, x2, x3⟩, ((some ⟨g1, 0, none⟩, n1, n1), ()), F1 ++ []⟩ : El fileRep)], by go_num, by omega, ?_, N2, N3, N4, N5, N1, N6⟩
        show _ = _
        rw [List.map_append, hes.out, HTK.out]; rfl
      case measure => simp [intOf]; omega
    · have hkl : t = n := by omega
      have hx : es.map El.x = X := by rw [hes.out, List.take_of_length_le (by have := HL.out; omega)]
      have hfin : ∃ F, SeqOwn fileRep wr G (some ⟨G, 0, none⟩) n X F := by
        obtain ⟨F, hF'⟩ := OwnAll.done (g := G) (how.out.mono (B' := G) (by omega)) (Nat.le_refl _) hgl.out hF.out hC.out (fun e he y hy => by have := (fileRep.own_lt (how.out.1 e he) y hy).1; omega) (by unfold maxLen; omega)
        exact ⟨F, by rw [hx, hel, hkl] at hF'; exact hF'⟩
      have HF := Lib.hid hfin
      clear hkl hx hfin
      go_wp2_with fail
      go_ret
      obtain ⟨F, hF'⟩ := HF.out
      have hb' := hb.out
      rw [HG.out] at hF' hb' ⊢
      exact ⟨w.heap.size, F, rfl, hF', hb'⟩
end Go.Proofs.Ythbifibnnhikjaa
/- Disk: a copy, by value; no function of program or reference is walked here. -/
namespace Go.Proofs.Ythbifibnnhikjaa
open Go.RowKit
set_option linter.unusedVariables false

set_option maxRecDepth 100000 in
set_option maxHeartbeats 1000000 in
theorem toV_disk (a0 : Option Addr) (n0 k0 : Nat) (x0 : List FileD) (x1 : Int) (w : World) (h0 : SeqIn fileRep w a0 n0 x0) (r1 : I64 x1) (hw : wtDisk ⟨x0, x1⟩ ≤ 1000000000) :
    Calls Try.prog 14 #[.agg #[.slice a0 n0 k0, .int .i64 x1]] w fun e w' => ∃ (g0 : Nat) (F0 : List Reg), e = .returned (.agg #[.slice (some ⟨g0, 0, none⟩) n0 n0, .int .i64 x1]) ∧ diskRep.own w' w.heap.size ⟨x0, x1⟩ ((some ⟨g0, 0, none⟩, n0, n0), ()) (F0 ++ []) ∧ Below w.heap.size w w' := by
  have hsum : wtFiles x0 ≤ 1000000000 := hw
  have hw0 : wtFiles x0 ≤ 1000000000 := by omega
  clear hw hsum
  obtain ⟨W, hW⟩ : ∃ W, W = ((w.alloc (.cells #[.slice a0 n0 k0, .int .i64 x1] 26)).alloc (.cells #[.slice none 0 0, .int .i64 0] 31)).alloc (.cells #[.slice none 0 0, .int .i64 0] 31) := ⟨_, rfl⟩
  obtain ⟨hz, b0, k0, k1, k2⟩ := boxes3 w W hW
  have HZ := Lib.hid hz
  have B0 := Lib.hid b0
  have K0_0 := Lib.hid k0
  have K1_0 := Lib.hid k1
  have K2_0 := Lib.hid k2
  have H0 := Lib.hid (h0.keep b0)
  have G0 := Lib.hid h0
  clear hz b0 k0 k1 k2 h0
  go_enter Try.func14, Try.ntmps14
  go_wp2_with fail
  rw [← hW]
  clear hW
  refine (toS_file a0 n0 k0 x0 _ H0.out hw0).mono ?_
  rintro e w1 ⟨g0, F0, rfl, o0, b1⟩
  have z1 := HZ.out
  have zz1 : W.heap.size ≤ W.heap.size := Nat.le_refl _
  have K0_1 := Lib.hid ((b1.block _ (lt_of_block K0_0.out)).trans K0_0.out)
  have K1_1 := Lib.hid ((b1.block _ (lt_of_block K1_0.out)).trans K1_0.out)
  have K2_1 := Lib.hid ((b1.block _ (lt_of_block K2_0.out)).trans K2_0.out)
  have Z1 := Lib.hid (Nat.le_trans zz1 b1.size)
  have B1 := Lib.hid (B0.out.trans (b1.mono B0.out.size))
  have O0 := Lib.hid (o0.mono (B' := w.heap.size + 3) (by omega))
  clear o0 z1 zz1 b1
  have p1_1 : w1.cell? ⟨w.heap.size, 1, none⟩ = some (.int .i64 x1) := by have := K0_1.out; simp [World.cell?, this]
  have q1_0 : w1.cell? ⟨w.heap.size + 2, 0, none⟩ = some (.slice none 0 0) := by have := K2_1.out; simp [World.cell?, this]
  have f1_0 : w1.frozen? ⟨w.heap.size + 2, 0, none⟩ = false := by have := K2_1.out; simp [World.frozen?, this]
  have u1_0 : w1.cell? ⟨w.heap.size + 1, 0, none⟩ = some (.slice none 0 0) := by have := K1_1.out; simp [World.cell?, this]
  have t1_0 : w1.frozen? ⟨w.heap.size + 1, 0, none⟩ = false := by have := K1_1.out; simp [World.frozen?, this]
  have q1_1 : w1.cell? ⟨w.heap.size + 2, 1, none⟩ = some (.int .i64 0) := by have := K2_1.out; simp [World.cell?, this]
  have f1_1 : w1.frozen? ⟨w.heap.size + 2, 1, none⟩ = false := by have := K2_1.out; simp [World.frozen?, this]
  have u1_1 : w1.cell? ⟨w.heap.size + 1, 1, none⟩ = some (.int .i64 0) := by have := K1_1.out; simp [World.cell?, this]
  have t1_1 : w1.frozen? ⟨w.heap.size + 1, 1, none⟩ = false := by have := K1_1.out; simp [World.frozen?, this]
  go_wp2_with fail
  have E0 := fun (V : World) (hs : Stay F0 w1 V) => (O0.out.stay hs).mono (B' := w.heap.size) (by omega)
  have hl0 := O0.out.lt
  refine bodyPost_ret (v := .agg #[.slice (some ⟨g0, 0, none⟩) n0 n0, .int .i64 x1]) (by simp [results, Try.results14, go_sem, *]) rfl ⟨g0, F0, rfl, ?_, ?_⟩
  · exact ⟨_, _, rfl, ⟨E0 _ (((((Stay.refl _ _).set _ fun y hy => by have := (hl0 y hy).1; omega).set _ fun y hy => by have := (hl0 y hy).1; omega).set _ fun y hy => by have := (hl0 y hy).1; omega).set _ fun y hy => by have := (hl0 y hy).1; omega), fun e => by cases e⟩, ⟨r1, rfl⟩, fun a ha b hb => by simp at hb⟩
  · exact ((((B1.out.setCell (by simp only []; omega) _).setCell (by simp only []; omega) _).setCell (by simp only []; omega) _).setCell (by simp only []; omega) _)
end Go.Proofs.Ythbifibnnhikjaa
/- The laws' comparison of two slices of rows (eqRowS), by contract. -/
namespace Go.Proofs.Ythbifibnnhikjaa
open Go.RowKit

set_option maxRecDepth 100000 in
theorem eqrows (a a' : Option Addr) (len cap len' cap' : Nat) (L L' : List R) (w : World) (h : IsRows w a len L) (h' : IsRows w a' len' L') (hlen : len ≤ 9223372036854775807) (hlen' : len' ≤ 9223372036854775807) :
    Calls Try.prog 51 #[.slice a len cap, .slice a' len' cap'] w fun e w' => e = .returned (.bool (decide (L = L'))) ∧ Below w.heap.size w w' := by
  obtain ⟨hl, -, hc⟩ := h
  obtain ⟨hl', -, hc'⟩ := h'
  have HL := Lib.hid hl
  have HC := Lib.hid hc
  have HL' := Lib.hid hl'
  have HC' := Lib.hid hc'
  clear hl hc hl' hc'
  by_cases hne : (len : Int) = len'
  · have hne' : len = len' := by omega
    subst hne'
    clear hne
    go_enter Try.func51, Try.ntmps51
    go_wp2_with fail
    go_loopw [5] (fun i wr => ∃ k : Nat, i = .int .i64 k ∧ k ≤ len ∧ Hid (∀ t, t < k → L.getD t R.zero = L'.getD t R.zero) ∧ Hid (Below w.heap.size w wr)) (fun i _ => len - (intOf i).toNat)
    case atStart => exact ⟨0, rfl, Nat.zero_le _, fun t ht => absurd ht (Nat.not_lt_zero _), Below.refl _ _⟩
    case round =>
      obtain ⟨k, rfl, hk, hok, hb⟩ := hrel
      by_cases hlt : k < len
      · obtain ⟨b, o, rfl, hbl, hc⟩ : ∃ b o : Nat, a = some ⟨b, o, none⟩ ∧ b < w.heap.size ∧ ∀ t, t < len → RowAt w b (o + t * 3) (L.getD t R.zero) := by
          rcases HC.out with h0 | h0
          · omega
          · exact h0
        obtain ⟨b', o', rfl, hbl', hc'⟩ : ∃ b o : Nat, a' = some ⟨b, o, none⟩ ∧ b < w.heap.size ∧ ∀ t, t < len → RowAt w b (o + t * 3) (L'.getD t R.zero) := by
          rcases HC'.out with h0 | h0
          · omega
          · exact h0
        obtain ⟨r, hr⟩ : ∃ r, r = L.getD k R.zero := ⟨_, rfl⟩
        obtain ⟨q, hq⟩ : ∃ r, r = L'.getD k R.zero := ⟨_, rfl⟩
        have hat : RowAt wr b (o + k * 3) r := by rw [hr]; exact (hc k hlt).below hb.out hbl
        have hat' : RowAt wr b' (o' + k * 3) q := by rw [hq]; exact (hc' k hlt).below hb.out hbl'
        obtain ⟨c0, c1, c2⟩ := hat
        obtain ⟨d0, d1, d2⟩ := hat'
        have HR := Lib.hid hr
        have HQ := Lib.hid hq
        clear hr hc hq hc'
        go_wp2_with fail
        go_still_tail 8, (by kernel_rfl)
        go_wp2_with fail
        refine (eqrow r q _).mono ?_
        rintro e w1 ⟨rfl, b1⟩
        have B1 := Lib.hid (hb.out.drew.trans (b1.mono hb.out.size))
        clear b1
        by_cases hrq : r = q
        · rw [decide_eq_true hrq]
          have HRQ := Lib.hid hrq
          clear hrq
          go_wp2_with fail
          go_roundw
          case rel =>
            refine ⟨k + 1, by go_num, by omega, ?_, B1⟩
            intro t ht
            rcases Nat.lt_or_ge t k with htk | htk
            · exact hok.out t htk
            · obtain rfl : t = k := by omega
              rw [← HR.out, ← HQ.out]; exact HRQ.out
          case measure => simp [intOf]; omega
        · rw [decide_eq_false hrq]
          have hno : decide (L = L') = false := by
            rw [decide_eq_false_iff_not]
            intro e
            apply hrq
            rw [HR.out, HQ.out, e]
          have HN := Lib.hid hno
          clear hno hrq
          go_wp2_with fail
          go_ret
          exact ⟨by rw [HN.out]; rfl, B1.out⟩
      · have hkl : k = len := by omega
        have hall : decide (L = L') = true := by
          rw [decide_eq_true_eq]
          apply List.ext_getElem (by rw [HL.out, HL'.out])
          intro t h1 h2
          have := hok.out t (by rw [hkl, ← HL.out]; exact h1)
          simpa [List.getD, h1, h2] using this
        clear hkl
        have HA := Lib.hid hall
        clear hall
        go_wp2_with fail
        go_ret
        exact ⟨by rw [HA.out]; rfl, hb.out⟩
  · have hno : decide (L = L') = false := by
      rw [decide_eq_false_iff_not]
      intro e
      apply hne
      rw [← HL.out, ← HL'.out, e]
    have HN := Lib.hid hno
    clear hno
    go_enter Try.func51, Try.ntmps51
    go_wp2_with fail
    go_ret
    exact ⟨by rw [HN.out]; rfl, Below.refl _ _⟩
end Go.Proofs.Ythbifibnnhikjaa
/- Rows: the comparison of two slices of them; no function of program or reference is walked here. -/
namespace Go.Proofs.Ythbifibnnhikjaa
open Go.RowKit
set_option linter.unusedVariables false

theorem eqS_row (a a' : Option Addr) (n c n' c' : Nat) (X Y : List R) (w : World) (h : SeqIn rowRep w a n X) (h' : SeqIn rowRep w a' n' Y) :
    Calls Try.prog 51 #[.slice a n c, .slice a' n' c'] w fun e w' => e = .returned (.bool (decide (X = Y))) ∧ Below w.heap.size w w' :=
  eqrows a a' n c n' c' X Y w (rows_in h) (rows_in h') h.2.1 h'.2.1
end Go.Proofs.Ythbifibnnhikjaa
/- Page: the comparison of two, by value; no function of program or reference is walked here. -/
namespace Go.Proofs.Ythbifibnnhikjaa
open Go.RowKit
set_option linter.unusedVariables false

set_option maxRecDepth 100000 in
set_option maxHeartbeats 1000000 in
theorem eqV_page (a0 : Option Addr) (n0 k0 : Nat) (x0 : List R) (b0 : Option Addr) (m0 d0 : Nat) (y0 : List R) (w : World) (h0 : SeqIn rowRep w a0 n0 x0) (h'0 : SeqIn rowRep w b0 m0 y0) :
    Calls Try.prog 25 #[.agg #[.slice a0 n0 k0], .agg #[.slice b0 m0 d0]] w fun e w' => e = .returned (.bool (decide ((x0 : List R) = y0))) ∧ Below w.heap.size w w' := by
  obtain ⟨W, hW⟩ : ∃ W, W = (w.alloc (.cells #[.slice a0 n0 k0] 46)).alloc (.cells #[.slice b0 m0 d0] 46) := ⟨_, rfl⟩
  obtain ⟨b0', k0, k1⟩ := boxes2 w W hW
  have B0 := Lib.hid b0'
  have K0_0 := Lib.hid k0
  have K1_0 := Lib.hid k1
  have H0 := Lib.hid (h0.keep b0')
  have J0 := Lib.hid (h'0.keep b0')
  clear b0' k0 k1 h0 h'0
  go_enter Try.func25, Try.ntmps25
  go_wp2_with fail
  rw [← hW]
  clear hW
  refine (eqS_row a0 b0 n0 k0 m0 d0 x0 y0 _ H0.out J0.out).mono ?_
  rintro e w1 ⟨rfl, b1⟩
  have B1 := Lib.hid (B0.out.trans (b1.mono B0.out.size))
  have K0_1 := Lib.hid ((b1.block _ (lt_of_block K0_0.out)).trans K0_0.out)
  have K1_1 := Lib.hid ((b1.block _ (lt_of_block K1_0.out)).trans K1_0.out)
  clear b1
  by_cases e0 : x0 = y0
  case' neg =>
    rw [decide_eq_false e0]
    have HE := Lib.hid e0
    clear e0
    have HN : Hid (decide ((x0 : List R) = y0) = false) := Lib.hid (decide_eq_false (fun h => HE.out (congrArg (fun z : (List R) => z) h)))
    go_wp2_with fail
    go_ret
    exact ⟨by first | (rw [HN.out]; rfl) | rfl, B1.out⟩
  rw [decide_eq_true e0]
  subst e0
  have HY : Hid (decide ((x0 : List R) = x0) = true) := Lib.hid (decide_eq_true rfl)
  go_wp2_with fail
  go_ret
  exact ⟨by first | rfl | (rw [HY.out]; rfl), B1.out⟩
end Go.Proofs.Ythbifibnnhikjaa
/- Page: the comparison of two slices of them; no function of program or reference is walked here. -/
namespace Go.Proofs.Ythbifibnnhikjaa
open Go.RowKit
set_option linter.unusedVariables false

set_option maxRecDepth 100000 in
set_option maxHeartbeats 1000000 in
theorem eqS_page (a a' : Option Addr) (n c n' c' : Nat) (P Q : List (List R)) (w : World) (h : SeqIn pageRep w a n P) (h' : SeqIn pageRep w a' n' Q) :
    Calls Try.prog 76 #[.slice a n c, .slice a' n' c'] w fun e w' => e = .returned (.bool (decide (P = Q))) ∧ Below w.heap.size w w' := by
  have hl := h.1
  have hl' := h'.1
  have hm := h.2.1
  have hm' := h'.2.1
  unfold maxLen at hm hm'
  have HI := Lib.hid h
  have HI' := Lib.hid h'
  have HL := Lib.hid hl
  have HL' := Lib.hid hl'
  clear h h' hl hl'
  by_cases hne : (n : Int) = n'
  · have hne' : n = n' := by omega
    subst hne'
    clear hne
    go_enter Try.func76, Try.ntmps76
    go_wp2_with fail
    go_loopw [5] (fun i wr => ∃ t : Nat, i = .int .i64 t ∧ t ≤ n ∧ Hid (∀ s, s < t → P[s]? = Q[s]?) ∧ Hid (Below w.heap.size w wr)) (fun i _ => n - (intOf i).toNat)
    case atStart => exact ⟨0, rfl, Nat.zero_le _, fun t ht => absurd ht (Nat.not_lt_zero _), Below.refl _ _⟩
    case round =>
      obtain ⟨t, rfl, ht, hok, hb⟩ := hrel
      by_cases hlt : t < n
      · have htl : t < P.length := by have := HL.out; omega
        have htl' : t < Q.length := by have := HL'.out; omega
        obtain ⟨x, hp⟩ : ∃ p, P[t]? = some p := ⟨P[t], by simp [htl]⟩
        obtain ⟨y, hq⟩ : ∃ q, Q[t]? = some q := ⟨Q[t], by simp [htl']⟩
        obtain ⟨b, o, hd, rfl, hbl, hce, hin⟩ := (HI.out.keep hb.out).el hp
        obtain ⟨b', o', hd', rfl, hbl', hce', hin'⟩ := (HI'.out.keep hb.out).el hq
        have HP := Lib.hid hp
        have HQ := Lib.hid hq
        clear hp hq htl htl'
        obtain ⟨x0, hx0⟩ : ∃ x0, x0 = x := ⟨_, rfl⟩
        subst hx0
        obtain ⟨y0, hy0⟩ : ∃ y0, y0 = y := ⟨_, rfl⟩
        subst hy0
        obtain ⟨a0, n0, k0⟩ := hd
        obtain ⟨b0, m0, d0⟩ := hd'
        obtain ⟨h0, hc0⟩ := hin
        obtain ⟨h'0, hc'0⟩ := hin'
        have c0 : wr.cell? ⟨b, o + t, none⟩ = some (.slice a0 n0 k0) := by
          have h' : wr.cell? ⟨b, o + t * 1, none⟩ = some (.slice a0 n0 k0) := hce 0 _ rfl
          rwa [Nat.mul_one] at h'
        have d'0 : wr.cell? ⟨b', o' + t, none⟩ = some (.slice b0 m0 d0) := by
          have h' : wr.cell? ⟨b', o' + t * 1, none⟩ = some (.slice b0 m0 d0) := hce' 0 _ rfl
          rwa [Nat.mul_one] at h'
        have IN0 := Lib.hid h0
        have JN0 := Lib.hid h'0
        clear hce hce' h0 h'0 hc0 hc'0
        go_wp2_with fail
        go_still_tail 8, (by kernel_rfl)
        go_wp2_with fail
        refine (eqV_page a0 n0 k0 x0 b0 m0 d0 y0 _ (IN0.out.keep (Below.refl _ _).drew) (JN0.out.keep (Below.refl _ _).drew)).mono ?_
        rintro e w1 ⟨rfl, b1⟩
        have B1 := Lib.hid (hb.out.drew.trans (b1.mono hb.out.size))
        clear b1
        by_cases hpq : (x0 : List R) = y0
        · rw [decide_eq_true hpq]
          have HPQ := Lib.hid hpq
          clear hpq
          go_wp2_with fail
          go_roundw
          case rel =>
            refine ⟨t + 1, by go_num, by omega, ?_, B1⟩
            intro s hs
            rcases Nat.lt_or_ge s t with hst | hst
            · exact hok.out s hst
            · obtain rfl : s = t := by omega
              rw [HP.out, HQ.out, HPQ.out]
          case measure => simp [intOf]; omega
        · rw [decide_eq_false hpq]
          have hno : decide (P = Q) = false := by
            rw [decide_eq_false_iff_not]
            intro e
            apply hpq
            have h1 := HP.out
            rw [e, HQ.out] at h1
            exact (Option.some.inj h1).symm
          have HN := Lib.hid hno
          clear hno hpq
          go_wp2_with fail
          go_ret
          exact ⟨by rw [HN.out]; rfl, B1.out⟩
      · have hkl : t = n := by omega
        have hall : decide (P = Q) = true := by
          rw [decide_eq_true_eq]
          apply List.ext_getElem?
          intro s
          rcases Nat.lt_or_ge s n with hs | hs
          · exact hok.out s (by omega)
          · rw [List.getElem?_eq_none (by have := HL.out; omega), List.getElem?_eq_none (by have := HL'.out; omega)]
        clear hkl
        have HA := Lib.hid hall
        clear hall
        go_wp2_with fail
        go_ret
        exact ⟨by rw [HA.out]; rfl, hb.out⟩
  · have hno : decide (P = Q) = false := by
      rw [decide_eq_false_iff_not]
      intro e
      apply hne
      rw [← HL.out, ← HL'.out, e]
    have HN := Lib.hid hno
    clear hno
    go_enter Try.func76, Try.ntmps76
    go_wp2_with fail
    go_ret
    exact ⟨by rw [HN.out]; rfl, Below.refl _ _⟩
end Go.Proofs.Ythbifibnnhikjaa
/- File: the comparison of two, by value; no function of program or reference is walked here. -/
namespace Go.Proofs.Ythbifibnnhikjaa
open Go.RowKit
set_option linter.unusedVariables false

set_option maxRecDepth 100000 in
set_option maxHeartbeats 1000000 in
theorem eqV_file (x0 : Int) (a1 : Option Addr) (n1 k1 : Nat) (x1 : List (List R)) (x2 : Int) (x3 : Bool) (y0 : Int) (b1 : Option Addr) (m1 d1 : Nat) (y1 : List (List R)) (y2 : Int) (y3 : Bool) (w : World) (h1 : SeqIn pageRep w a1 n1 x1) (h'1 : SeqIn pageRep w b1 m1 y1) :
    Calls Try.prog 60 #[.agg #[.int .i64 x0, .slice a1 n1 k1, .int .i64 x2, .bool x3], .agg #[.int .i64 y0, .slice b1 m1 d1, .int .i64 y2, .bool y3]] w fun e w' => e = .returned (.bool (decide ((⟨x0, x1, x2, x3⟩ : FileD) = ⟨y0, y1, y2, y3⟩))) ∧ Below w.heap.size w w' := by
  obtain ⟨W, hW⟩ : ∃ W, W = (w.alloc (.cells #[.int .i64 x0, .slice a1 n1 k1, .int .i64 x2, .bool x3] 59)).alloc (.cells #[.int .i64 y0, .slice b1 m1 d1, .int .i64 y2, .bool y3] 59) := ⟨_, rfl⟩
  obtain ⟨b0', k0, k1⟩ := boxes2 w W hW
  have B0 := Lib.hid b0'
  have K0_0 := Lib.hid k0
  have K1_0 := Lib.hid k1
  have H1 := Lib.hid (h1.keep b0')
  have J1 := Lib.hid (h'1.keep b0')
  clear b0' k0 k1 h1 h'1
  go_enter Try.func60, Try.ntmps60
  by_cases e0 : x0 = y0
  case' neg =>
    have HN : Hid (decide ((⟨x0, x1, x2, x3⟩ : FileD) = ⟨y0, y1, y2, y3⟩) = false) := Lib.hid (decide_eq_false (fun h => e0 (congrArg (fun z : FileD => z.fName) h)))
    go_wp2_with fail
    go_ret
    exact ⟨by first | (rw [HN.out]; rfl) | rfl, by have hb := B0.out; rw [hW] at hb; exact hb⟩
  subst e0
  go_wp2_with fail
  rw [← hW]
  clear hW
  refine (eqS_page a1 b1 n1 k1 m1 d1 x1 y1 _ H1.out J1.out).mono ?_
  rintro e w1 ⟨rfl, b1⟩
  have B1 := Lib.hid (B0.out.trans (b1.mono B0.out.size))
  have K0_1 := Lib.hid ((b1.block _ (lt_of_block K0_0.out)).trans K0_0.out)
  have K1_1 := Lib.hid ((b1.block _ (lt_of_block K1_0.out)).trans K1_0.out)
  clear b1
  have p1_2 : w1.cell? ⟨w.heap.size, 2, none⟩ = some (.int .i64 x2) := by have := K0_1.out; simp [World.cell?, this]
  have q1_2 : w1.cell? ⟨w.heap.size + 1, 2, none⟩ = some (.int .i64 y2) := by have := K1_1.out; simp [World.cell?, this]
  have p1_3 : w1.cell? ⟨w.heap.size, 3, none⟩ = some (.bool x3) := by have := K0_1.out; simp [World.cell?, this]
  have q1_3 : w1.cell? ⟨w.heap.size + 1, 3, none⟩ = some (.bool y3) := by have := K1_1.out; simp [World.cell?, this]
  by_cases e1 : x1 = y1
  case' neg =>
    rw [decide_eq_false e1]
    have HE := Lib.hid e1
    clear e1
    have HN : Hid (decide ((⟨x0, x1, x2, x3⟩ : FileD) = ⟨x0, y1, y2, y3⟩) = false) := Lib.hid (decide_eq_false (fun h => HE.out (congrArg (fun z : FileD => z.fPages) h)))
    go_wp2_with fail
    go_ret
    exact ⟨by first | (rw [HN.out]; rfl) | rfl, B1.out⟩
  rw [decide_eq_true e1]
  subst e1
  by_cases e2 : x2 = y2
  case' neg =>
    have HN : Hid (decide ((⟨x0, x1, x2, x3⟩ : FileD) = ⟨x0, x1, y2, y3⟩) = false) := Lib.hid (decide_eq_false (fun h => e2 (congrArg (fun z : FileD => z.fChecksum) h)))
    go_wp2_with fail
    go_ret
    exact ⟨by first | (rw [HN.out]; rfl) | rfl, B1.out⟩
  subst e2
  by_cases e3 : x3 = y3
  case' neg =>
    have e3' : (x3 == y3) = false := by simpa using e3
    have HN : Hid (decide ((⟨x0, x1, x2, x3⟩ : FileD) = ⟨x0, x1, x2, y3⟩) = false) := Lib.hid (decide_eq_false (fun h => e3 (congrArg (fun z : FileD => z.fSealed) h)))
    go_wp2_with fail
    go_ret
    exact ⟨by first | (rw [HN.out]; rfl) | rfl, B1.out⟩
  subst e3
  have HY : Hid (decide ((⟨x0, x1, x2, x3⟩ : FileD) = ⟨x0, x1, x2, x3⟩) = true) := Lib.hid (decide_eq_true rfl)
  go_wp2_with fail
  go_ret
  exact ⟨by first | rfl | (rw [HY.out]; rfl), B1.out⟩
end Go.Proofs.Ythbifibnnhikjaa
/- File: the comparison of two slices of them; no function of program or reference is walked here. -/
namespace Go.Proofs.Ythbifibnnhikjaa
open Go.RowKit
set_option linter.unusedVariables false

set_option maxRecDepth 100000 in
set_option maxHeartbeats 1000000 in
theorem eqS_file (a a' : Option Addr) (n c n' c' : Nat) (P Q : List FileD) (w : World) (h : SeqIn fileRep w a n P) (h' : SeqIn fileRep w a' n' Q) :
    Calls Try.prog 39 #[.slice a n c, .slice a' n' c'] w fun e w' => e = .returned (.bool (decide (P = Q))) ∧ Below w.heap.size w w' := by
  have hl := h.1
  have hl' := h'.1
  have hm := h.2.1
  have hm' := h'.2.1
  unfold maxLen at hm hm'
  have HI := Lib.hid h
  have HI' := Lib.hid h'
  have HL := Lib.hid hl
  have HL' := Lib.hid hl'
  clear h h' hl hl'
  by_cases hne : (n : Int) = n'
  · have hne' : n = n' := by omega
    subst hne'
    clear hne
    go_enter Try.func39, Try.ntmps39
    go_wp2_with fail
    go_loopw [5] (fun i wr => ∃ t : Nat, i = .int .i64 t ∧ t ≤ n ∧ Hid (∀ s, s < t → P[s]? = Q[s]?) ∧ Hid (Below w.heap.size w wr)) (fun i _ => n - (intOf i).toNat)
    case atStart => exact ⟨0, rfl, Nat.zero_le _, fun t ht => absurd ht (Nat.not_lt_zero _), Below.refl _ _⟩
    case round =>
      obtain ⟨t, rfl, ht, hok, hb⟩ := hrel
      by_cases hlt : t < n
      · have htl : t < P.length := by have := HL.out; omega
        have htl' : t < Q.length := by have := HL'.out; omega
        obtain ⟨x, hp⟩ : ∃ p, P[t]? = some p := ⟨P[t], by simp [htl]⟩
        obtain ⟨y, hq⟩ : ∃ q, Q[t]? = some q := ⟨Q[t], by simp [htl']⟩
        obtain ⟨b, o, hd, rfl, hbl, hce, hin⟩ := (HI.out.keep hb.out).el hp
        obtain ⟨b', o', hd', rfl, hbl', hce', hin'⟩ := (HI'.out.keep hb.out).el hq
        have HP := Lib.hid hp
        have HQ := Lib.hid hq
        clear hp hq htl htl'
        obtain ⟨x0, x1, x2, x3⟩ := x
        obtain ⟨y0, y1, y2, y3⟩ := y
        obtain ⟨⟨a1, n1, k1⟩, ⟨⟩⟩ := hd
        obtain ⟨⟨b1, m1, d1⟩, ⟨⟩⟩ := hd'
        obtain ⟨r0, ⟨h1, hc1⟩, r2, -⟩ := hin
        obtain ⟨r'0, ⟨h'1, hc'1⟩, r'2, -⟩ := hin'
        have c0 : wr.cell? ⟨b, o + t * 4, none⟩ = some (.int .i64 x0) := hce 0 _ rfl
        have c1 : wr.cell? ⟨b, o + t * 4 + 1, none⟩ = some (.slice a1 n1 k1) := hce 1 _ rfl
        have c2 : wr.cell? ⟨b, o + t * 4 + 2, none⟩ = some (.int .i64 x2) := hce 2 _ rfl
        have c3 : wr.cell? ⟨b, o + t * 4 + 3, none⟩ = some (.bool x3) := hce 3 _ rfl
        have d'0 : wr.cell? ⟨b', o' + t * 4, none⟩ = some (.int .i64 y0) := hce' 0 _ rfl
        have d'1 : wr.cell? ⟨b', o' + t * 4 + 1, none⟩ = some (.slice b1 m1 d1) := hce' 1 _ rfl
        have d'2 : wr.cell? ⟨b', o' + t * 4 + 2, none⟩ = some (.int .i64 y2) := hce' 2 _ rfl
        have d'3 : wr.cell? ⟨b', o' + t * 4 + 3, none⟩ = some (.bool y3) := hce' 3 _ rfl
        have IN1 := Lib.hid h1
        have JN1 := Lib.hid h'1
        clear hce hce' h1 h'1 hc1 hc'1 r0 r'0 r2 r'2
        go_wp2_with fail
        go_still_tail 8, (by kernel_rfl)
        go_wp2_with fail
        refine (eqV_file x0 a1 n1 k1 x1 x2 x3 y0 b1 m1 d1 y1 y2 y3 _ (IN1.out.keep (Below.refl _ _).drew) (JN1.out.keep (Below.refl _ _).drew)).mono ?_
        rintro e w1 ⟨rfl, b1⟩
        have B1 := Lib.hid (hb.out.drew.trans (b1.mono hb.out.size))
        clear b1
        by_cases hpq : (⟨x0, x1, x2, x3⟩ : FileD) = ⟨y0, y1, y2, y3⟩
        · rw [decide_eq_true hpq]
          have HPQ := Lib.hid hpq
          clear hpq
          go_wp2_with fail
          go_roundw
          case rel =>
            refine ⟨t + 1, by go_num, by omega, ?_, B1⟩
            intro s hs
            rcases Nat.lt_or_ge s t with hst | hst
            · exact hok.out s hst
            · obtain rfl : s = t := by omega
              rw [HP.out, HQ.out, HPQ.out]
          case measure => simp [intOf]; omega
        · rw [decide_eq_false hpq]
          have hno : decide (P = Q) = false := by
            rw [decide_eq_false_iff_not]
            intro e
            apply hpq
            have h1 := HP.out
            rw [e, HQ.out] at h1
            exact (Option.some.inj h1).symm
          have HN := Lib.hid hno
          clear hno hpq
          go_wp2_with fail
          go_ret
          exact ⟨by rw [HN.out]; rfl, B1.out⟩
      · have hkl : t = n := by omega
        have hall : decide (P = Q) = true := by
          rw [decide_eq_true_eq]
          apply List.ext_getElem?
          intro s
          rcases Nat.lt_or_ge s n with hs | hs
          · exact hok.out s (by omega)
          · rw [List.getElem?_eq_none (by have := HL.out; omega), List.getElem?_eq_none (by have := HL'.out; omega)]
        clear hkl
        have HA := Lib.hid hall
        clear hall
        go_wp2_with fail
        go_ret
        exact ⟨by rw [HA.out]; rfl, hb.out⟩
  · have hno : decide (P = Q) = false := by
      rw [decide_eq_false_iff_not]
      intro e
      apply hne
      rw [← HL.out, ← HL'.out, e]
    have HN := Lib.hid hno
    clear hno
    go_enter Try.func39, Try.ntmps39
    go_wp2_with fail
    go_ret
    exact ⟨by rw [HN.out]; rfl, Below.refl _ _⟩
end Go.Proofs.Ythbifibnnhikjaa
/- Disk: the comparison of two, by value; no function of program or reference is walked here. -/
namespace Go.Proofs.Ythbifibnnhikjaa
open Go.RowKit
set_option linter.unusedVariables false

set_option maxRecDepth 100000 in
set_option maxHeartbeats 1000000 in
theorem eqV_disk (a0 : Option Addr) (n0 k0 : Nat) (x0 : List FileD) (x1 : Int) (b0 : Option Addr) (m0 d0 : Nat) (y0 : List FileD) (y1 : Int) (w : World) (h0 : SeqIn fileRep w a0 n0 x0) (h'0 : SeqIn fileRep w b0 m0 y0) :
    Calls Try.prog 16 #[.agg #[.slice a0 n0 k0, .int .i64 x1], .agg #[.slice b0 m0 d0, .int .i64 y1]] w fun e w' => e = .returned (.bool (decide ((⟨x0, x1⟩ : DiskD) = ⟨y0, y1⟩))) ∧ Below w.heap.size w w' := by
  obtain ⟨W, hW⟩ : ∃ W, W = (w.alloc (.cells #[.slice a0 n0 k0, .int .i64 x1] 31)).alloc (.cells #[.slice b0 m0 d0, .int .i64 y1] 31) := ⟨_, rfl⟩
  obtain ⟨b0', k0, k1⟩ := boxes2 w W hW
  have B0 := Lib.hid b0'
  have K0_0 := Lib.hid k0
  have K1_0 := Lib.hid k1
  have H0 := Lib.hid (h0.keep b0')
  have J0 := Lib.hid (h'0.keep b0')
  clear b0' k0 k1 h0 h'0
  go_enter Try.func16, Try.ntmps16
  go_wp2_with fail
  rw [← hW]
  clear hW
  refine (eqS_file a0 b0 n0 k0 m0 d0 x0 y0 _ H0.out J0.out).mono ?_
  rintro e w1 ⟨rfl, b1⟩
  have B1 := Lib.hid (B0.out.trans (b1.mono B0.out.size))
  have K0_1 := Lib.hid ((b1.block _ (lt_of_block K0_0.out)).trans K0_0.out)
  have K1_1 := Lib.hid ((b1.block _ (lt_of_block K1_0.out)).trans K1_0.out)
  clear b1
  have p1_1 : w1.cell? ⟨w.heap.size, 1, none⟩ = some (.int .i64 x1) := by have := K0_1.out; simp [World.cell?, this]
  have q1_1 : w1.cell? ⟨w.heap.size + 1, 1, none⟩ = some (.int .i64 y1) := by have := K1_1.out; simp [World.cell?, this]
  by_cases e0 : x0 = y0
  case' neg =>
    rw [decide_eq_false e0]
    have HE := Lib.hid e0
    clear e0
    have HN : Hid (decide ((⟨x0, x1⟩ : DiskD) = ⟨y0, y1⟩) = false) := Lib.hid (decide_eq_false (fun h => HE.out (congrArg (fun z : DiskD => z.fFiles) h)))
    go_wp2_with fail
    go_ret
    exact ⟨by first | (rw [HN.out]; rfl) | rfl, B1.out⟩
  rw [decide_eq_true e0]
  subst e0
  by_cases e1 : x1 = y1
  case' neg =>
    have HN : Hid (decide ((⟨x0, x1⟩ : DiskD) = ⟨x0, y1⟩) = false) := Lib.hid (decide_eq_false (fun h => e1 (congrArg (fun z : DiskD => z.fNextName) h)))
    go_wp2_with fail
    go_ret
    exact ⟨by first | (rw [HN.out]; rfl) | rfl, B1.out⟩
  subst e1
  have HY : Hid (decide ((⟨x0, x1⟩ : DiskD) = ⟨x0, x1⟩) = true) := Lib.hid (decide_eq_true rfl)
  go_wp2_with fail
  go_ret
  exact ⟨by first | rfl | (rw [HY.out]; rfl), B1.out⟩
end Go.Proofs.Ythbifibnnhikjaa
/- Rows: the size of a slice of them; no function of program or reference is walked here. -/
namespace Go.Proofs.Ythbifibnnhikjaa
open Go.RowKit
set_option linter.unusedVariables false

theorem szS_row (a : Option Addr) (n c : Nat) (X : List R) (left : Int) (w : World) (h : SeqIn rowRep w a n X) (p0 : 0 ≤ left) (p1 : left ≤ 1048576) :
    Calls Try.prog 44 #[.slice a n c, .int .i64 left] w fun e w' => e = .returned (.int .i64 (szR left (wtRows X))) ∧ Below w.heap.size w w' := by
  have e : wtRows X = n := h.1
  rw [e]
  exact (szrows a n c left w p0 p1 h.2.1).mono fun _ _ ⟨h1, h2⟩ => ⟨h1, by rw [← h2]; exact Below.refl _ _⟩
end Go.Proofs.Ythbifibnnhikjaa
/- Page: its size, by value; no function of program or reference is walked here. -/
namespace Go.Proofs.Ythbifibnnhikjaa
open Go.RowKit
set_option linter.unusedVariables false

set_option maxRecDepth 100000 in
theorem szV_page (a0 : Option Addr) (n0 k0 : Nat) (x0 : List R) (left : Int) (w : World) (h0 : SeqIn rowRep w a0 n0 x0) (p0 : 0 ≤ left) (p1 : left ≤ 1048576) :
    Calls Try.prog 21 #[.agg #[.slice a0 n0 k0], .int .i64 left] w fun e w' => e = .returned (.int .i64 (szR left (wtPage x0))) ∧ Below w.heap.size w w' := by
  have B0 := Lib.hid (show Below w.heap.size w (w.alloc (.cells #[.slice a0 n0 k0] 40)) from (Below.refl _ _).alloc (Nat.le_refl _) _)
  have K0 := Lib.hid (show (w.alloc (.cells #[.slice a0 n0 k0] 40)).heap[w.heap.size]? = some (.cells #[.slice a0 n0 k0] 40 (0, 0)) from heap_alloc_new _ _)
  have H0 := Lib.hid (h0.keep B0.out)
  obtain ⟨W, hW⟩ : ∃ W, W = wtPage x0 := ⟨_, rfl⟩
  obtain ⟨m0, hm0⟩ : ∃ m, m = wtRows x0 := ⟨_, rfl⟩
  have hsum : W = m0 := by rw [hW, hm0]; rfl
  rw [← hW]
  have HS := Lib.hid hsum
  have HM0 := Lib.hid hm0
  clear h0 hW hsum hm0
  go_enter Try.func21, Try.ntmps21
  go_wp2_with fail
  refine (szS_row a0 n0 k0 x0 left _ H0.out p0 p1).mono ?_
  rintro e w1 ⟨rfl, b1⟩
  rw [← HM0.out]
  have B1 := Lib.hid (B0.out.trans (b1.mono B0.out.size))
  clear b1
  obtain ⟨z0, hz0⟩ : ∃ z, z = szR left m0 := ⟨_, rfl⟩
  rw [← hz0]
  have HZ0 := Lib.hid hz0
  clear hz0
  by_cases lt0 : z0 < 0
  · have hfin : szR left W = -1 ∧ z0 = -1 := by
      have ys := HS.out
      have u0 := sz_stop HZ0.out lt0
      unfold szR
      split <;> omega
    have HF := Lib.hid hfin
    clear hfin
    go_wp2_with fail
    go_ret
    exact ⟨by rw [HF.out.1]; rfl, B1.out⟩
  have q00 : 0 ≤ z0 := by omega
  have q10 : z0 ≤ 1048576 := by have y := HZ0.out; unfold szR at y; split at y <;> omega
  have hfin : z0 = szR left W := by
    have ys := HS.out
    have u0 := sz_step HZ0.out (by omega)
    unfold szR
    split <;> omega
  have HF := Lib.hid hfin
  clear hfin
  go_wp2_with fail
  go_ret
  exact ⟨by rw [← HF.out]; rfl, B1.out⟩
end Go.Proofs.Ythbifibnnhikjaa
/- Page: the size of a slice of them; no function of program or reference is walked here. -/
namespace Go.Proofs.Ythbifibnnhikjaa
open Go.RowKit
set_option linter.unusedVariables false

set_option maxRecDepth 100000 in
theorem szS_page (a : Option Addr) (n c : Nat) (X : List (List R)) (left : Int) (w : World) (h : SeqIn pageRep w a n X) (p0 : 0 ≤ left) (p1 : left ≤ 1048576) :
    Calls Try.prog 74 #[.slice a n c, .int .i64 left] w fun e w' => e = .returned (.int .i64 (szR left (wtPages X))) ∧ Below w.heap.size w w' := by
  have hl := h.1
  have hm := h.2.1
  unfold maxLen at hm
  have hw := wt_page_len X
  have HI := Lib.hid h
  have HL := Lib.hid hl
  rw [hl] at hw
  obtain ⟨W, hW⟩ : ∃ W, W = wtPages X := ⟨_, rfl⟩
  rw [← hW] at hw ⊢
  have HW : Hid (W = n + (X.map wtPage).sum) := Lib.hid (by rw [hW, ← hl]; rfl)
  clear h hl hW
  by_cases hlt : left < n
  · have hv : szR left W = -1 := by unfold szR; rw [if_pos (by omega)]
    have HV := Lib.hid hv
    clear hv
    have hz : left - (n : Int) < 0 := by omega
    go_enter Try.func74, Try.ntmps74
    go_wp2_with fail
    go_ret
    exact ⟨by rw [HV.out]; rfl, Below.refl _ _⟩
  · have hz : ¬ left - (n : Int) < 0 := by omega
    go_enter Try.func74, Try.ntmps74
    go_wp2_with fail
    go_loopw [1, 5] (fun x i wr => ∃ (y : Int) (t : Nat), x = .int .i64 y ∧ i = .int .i64 t ∧ t ≤ n ∧ 0 ≤ y ∧ y ≤ 1048576 ∧ Hid (y = left - n - (((X.take t).map wtPage).sum : Nat)) ∧ Hid (Below w.heap.size w wr)) (fun _ i _ => n - (intOf i).toNat)
    case atStart => exact ⟨left - n, 0, by go_num, rfl, Nat.zero_le _, by omega, by omega, by show _ = _; simp, Below.refl _ _⟩
    case round =>
      obtain ⟨y, t, rfl, rfl, ht, hy0, hy1, hS, hb⟩ := hrel
      by_cases htn : t < n
      · have htl : t < X.length := by have := HL.out; omega
        have hnx := sum_next wtPage X t htl
        have htk := sum_take wtPage X (t + 1)
        obtain ⟨x, hx⟩ : ∃ x, x = X[t] := ⟨_, rfl⟩
        have hp : X[t]? = some x := by rw [hx]; simp [htl]
        rw [← hx] at hnx
        obtain ⟨z, hzz⟩ : ∃ z, z = szR y (wtPage x) := ⟨_, rfl⟩
        have HZ := Lib.hid hzz
        have HNX := Lib.hid hnx
        have HTK := Lib.hid htk
        obtain ⟨b, o, hd, rfl, hbl, hce, hin⟩ := (HI.out.keep hb.out).el hp
        obtain ⟨x0, hx0⟩ : ∃ x0, x0 = x := ⟨_, rfl⟩
        subst hx0
        obtain ⟨a0, n0, k0⟩ := hd
        obtain ⟨h0, hc0⟩ := hin
        have c0 : wr.cell? ⟨b, o + t, none⟩ = some (.slice a0 n0 k0) := by
          have h' : wr.cell? ⟨b, o + t * 1, none⟩ = some (.slice a0 n0 k0) := hce 0 _ rfl
          rwa [Nat.mul_one] at h'
        have HI0 := Lib.hid h0
        clear hce hx hp hzz hnx htk h0 hc0
        go_wp2_with fail
        refine (szV_page a0 n0 k0 x0 y _ HI0.out hy0 hy1).mono ?_
        rintro e w1 ⟨rfl, b1⟩
        rw [← HZ.out]
        have B1 := Lib.hid (hb.out.trans (b1.mono hb.out.size))
        clear b1
        by_cases hz0 : z < 0
        · have hfin : szR left W = -1 ∧ z = -1 := by
            have ys := HW.out
            have u := sz_stop HZ.out hz0
            have u1 := HNX.out
            have u2 := HTK.out
            have u3 := hS.out
            unfold szR
            split <;> omega
          have HF := Lib.hid hfin
          clear hfin
          go_wp2_with fail
          go_ret
          exact ⟨by rw [HF.out.1]; rfl, B1.out⟩
        · have u := sz_step HZ.out (by omega)
          have u1 := HNX.out
          have hnext : z = left - n - (((X.take (t + 1)).map wtPage).sum : Nat) := by have u3 := hS.out; omega
          have HX := Lib.hid hnext
          have hzl : z ≤ 1048576 := by omega
          clear hnext u u1
          go_wp2_with fail
          go_roundw
          case rel => exact ⟨z, t + 1, rfl, by go_num, by omega, by omega, hzl, HX, B1⟩
          case measure => simp [intOf]; omega
      · have htn' : t = n := by omega
        have hfin : szR left W = y := by
          have u3 := hS.out
          rw [htn', List.take_of_length_le (by have := HL.out; omega)] at u3
          have ys := HW.out
          unfold szR
          split <;> omega
        have HF := Lib.hid hfin
        clear hfin htn'
        go_wp2_with fail
        go_ret
        exact ⟨by rw [HF.out]; rfl, hb.out⟩
end Go.Proofs.Ythbifibnnhikjaa
/- File: its size, by value; no function of program or reference is walked here. -/
namespace Go.Proofs.Ythbifibnnhikjaa
open Go.RowKit
set_option linter.unusedVariables false

set_option maxRecDepth 100000 in
theorem szV_file (x0 : Int) (a1 : Option Addr) (n1 k1 : Nat) (x1 : List (List R)) (x2 : Int) (x3 : Bool) (left : Int) (w : World) (h1 : SeqIn pageRep w a1 n1 x1) (p0 : 0 ≤ left) (p1 : left ≤ 1048576) :
    Calls Try.prog 58 #[.agg #[.int .i64 x0, .slice a1 n1 k1, .int .i64 x2, .bool x3], .int .i64 left] w fun e w' => e = .returned (.int .i64 (szR left (wtFile ⟨x0, x1, x2, x3⟩))) ∧ Below w.heap.size w w' := by
  have B0 := Lib.hid (show Below w.heap.size w (w.alloc (.cells #[.int .i64 x0, .slice a1 n1 k1, .int .i64 x2, .bool x3] 82)) from (Below.refl _ _).alloc (Nat.le_refl _) _)
  have K0 := Lib.hid (show (w.alloc (.cells #[.int .i64 x0, .slice a1 n1 k1, .int .i64 x2, .bool x3] 82)).heap[w.heap.size]? = some (.cells #[.int .i64 x0, .slice a1 n1 k1, .int .i64 x2, .bool x3] 82 (0, 0)) from heap_alloc_new _ _)
  have H1 := Lib.hid (h1.keep B0.out)
  obtain ⟨W, hW⟩ : ∃ W, W = wtFile ⟨x0, x1, x2, x3⟩ := ⟨_, rfl⟩
  obtain ⟨m0, hm0⟩ : ∃ m, m = wtPages x1 := ⟨_, rfl⟩
  have hsum : W = m0 := by rw [hW, hm0]; rfl
  rw [← hW]
  have HS := Lib.hid hsum
  have HM0 := Lib.hid hm0
  clear h1 hW hsum hm0
  go_enter Try.func58, Try.ntmps58
  go_wp2_with fail
  refine (szS_page a1 n1 k1 x1 left _ H1.out p0 p1).mono ?_
  rintro e w1 ⟨rfl, b1⟩
  rw [← HM0.out]
  have B1 := Lib.hid (B0.out.trans (b1.mono B0.out.size))
  clear b1
  obtain ⟨z0, hz0⟩ : ∃ z, z = szR left m0 := ⟨_, rfl⟩
  rw [← hz0]
  have HZ0 := Lib.hid hz0
  clear hz0
  by_cases lt0 : z0 < 0
  · have hfin : szR left W = -1 ∧ z0 = -1 := by
      have ys := HS.out
      have u0 := sz_stop HZ0.out lt0
      unfold szR
      split <;> omega
    have HF := Lib.hid hfin
    clear hfin
    go_wp2_with fail
    go_ret
    exact ⟨by rw [HF.out.1]; rfl, B1.out⟩
  have q00 : 0 ≤ z0 := by omega
  have q10 : z0 ≤ 1048576 := by have y := HZ0.out; unfold szR at y; split at y <;> omega
  have hfin : z0 = szR left W := by
    have ys := HS.out
    have u0 := sz_step HZ0.out (by omega)
    unfold szR
    split <;> omega
  have HF := Lib.hid hfin
  clear hfin
  go_wp2_with fail
  go_ret
  exact ⟨by rw [← HF.out]; rfl, B1.out⟩
end Go.Proofs.Ythbifibnnhikjaa
/- File: the size of a slice of them; no function of program or reference is walked here. -/
namespace Go.Proofs.Ythbifibnnhikjaa
open Go.RowKit
set_option linter.unusedVariables false

set_option maxRecDepth 100000 in
theorem szS_file (a : Option Addr) (n c : Nat) (X : List FileD) (left : Int) (w : World) (h : SeqIn fileRep w a n X) (p0 : 0 ≤ left) (p1 : left ≤ 1048576) :
    Calls Try.prog 33 #[.slice a n c, .int .i64 left] w fun e w' => e = .returned (.int .i64 (szR left (wtFiles X))) ∧ Below w.heap.size w w' := by
  have hl := h.1
  have hm := h.2.1
  unfold maxLen at hm
  have hw := wt_file_len X
  have HI := Lib.hid h
  have HL := Lib.hid hl
  rw [hl] at hw
  obtain ⟨W, hW⟩ : ∃ W, W = wtFiles X := ⟨_, rfl⟩
  rw [← hW] at hw ⊢
  have HW : Hid (W = n + (X.map wtFile).sum) := Lib.hid (by rw [hW, ← hl]; rfl)
  clear h hl hW
  by_cases hlt : left < n
  · have hv : szR left W = -1 := by unfold szR; rw [if_pos (by omega)]
    have HV := Lib.hid hv
    clear hv
    have hz : left - (n : Int) < 0 := by omega
    go_enter Try.func33, Try.ntmps33
    go_wp2_with fail
    go_ret
    exact ⟨by rw [HV.out]; rfl, Below.refl _ _⟩
  · have hz : ¬ left - (n : Int) < 0 := by omega
    go_enter Try.func33, Try.ntmps33
    go_wp2_with fail
    go_loopw [1, 5] (fun x i wr => ∃ (y : Int) (t : Nat), x = .int .i64 y ∧ i = .int .i64 t ∧ t ≤ n ∧ 0 ≤ y ∧ y ≤ 1048576 ∧ Hid (y = left - n - (((X.take t).map wtFile).sum : Nat)) ∧ Hid (Below w.heap.size w wr)) (fun _ i _ => n - (intOf i).toNat)
    case atStart => exact ⟨left - n, 0, by go_num, rfl, Nat.zero_le _, by omega, by omega, by show _ = _; simp, Below.refl _ _⟩
    case round =>
      obtain ⟨y, t, rfl, rfl, ht, hy0, hy1, hS, hb⟩ := hrel
      by_cases htn : t < n
      · have htl : t < X.length := by have := HL.out; omega
        have hnx := sum_next wtFile X t htl
        have htk := sum_take wtFile X (t + 1)
        obtain ⟨x, hx⟩ : ∃ x, x = X[t] := ⟨_, rfl⟩
        have hp : X[t]? = some x := by rw [hx]; simp [htl]
        rw [← hx] at hnx
        obtain ⟨z, hzz⟩ : ∃ z, z = szR y (wtFile x) := ⟨_, rfl⟩
        have HZ := Lib.hid hzz
        have HNX := Lib.hid hnx
        have HTK := Lib.hid htk
        obtain ⟨b, o, hd, rfl, hbl, hce, hin⟩ := (HI.out.keep hb.out).el hp
        obtain ⟨x0, x1, x2, x3⟩ := x
        obtain ⟨⟨a1, n1, k1⟩, ⟨⟩⟩ := hd
        obtain ⟨r0, ⟨h1, hc1⟩, r2, -⟩ := hin
        have c0 : wr.cell? ⟨b, o + t * 4, none⟩ = some (.int .i64 x0) := hce 0 _ rfl
        have c1 : wr.cell? ⟨b, o + t * 4 + 1, none⟩ = some (.slice a1 n1 k1) := hce 1 _ rfl
        have c2 : wr.cell? ⟨b, o + t * 4 + 2, none⟩ = some (.int .i64 x2) := hce 2 _ rfl
        have c3 : wr.cell? ⟨b, o + t * 4 + 3, none⟩ = some (.bool x3) := hce 3 _ rfl
        have HI1 := Lib.hid h1
        clear hce hx hp hzz hnx htk h1 hc1
        go_wp2_with fail
        refine (szV_file x0 a1 n1 k1 x1 x2 x3 y _ HI1.out hy0 hy1).mono ?_
        rintro e w1 ⟨rfl, b1⟩
        rw [← HZ.out]
        have B1 := Lib.hid (hb.out.trans (b1.mono hb.out.size))
        clear b1
        by_cases hz0 : z < 0
        · have hfin : szR left W = -1 ∧ z = -1 := by
            have ys := HW.out
            have u := sz_stop HZ.out hz0
            have u1 := HNX.out
            have u2 := HTK.out
            have u3 := hS.out
            unfold szR
            split <;> omega
          have HF := Lib.hid hfin
          clear hfin
          go_wp2_with fail
          go_ret
          exact ⟨by rw [HF.out.1]; rfl, B1.out⟩
        · have u := sz_step HZ.out (by omega)
          have u1 := HNX.out
          have hnext : z = left - n - (((X.take (t + 1)).map wtFile).sum : Nat) := by have u3 := hS.out; omega
          have HX := Lib.hid hnext
          have hzl : z ≤ 1048576 := by omega
          clear hnext u u1
          go_wp2_with fail
          go_roundw
          case rel => exact ⟨z, t + 1, rfl, by go_num, by omega, by omega, hzl, HX, B1⟩
          case measure => simp [intOf]; omega
      · have htn' : t = n := by omega
        have hfin : szR left W = y := by
          have u3 := hS.out
          rw [htn', List.take_of_length_le (by have := HL.out; omega)] at u3
          have ys := HW.out
          unfold szR
          split <;> omega
        have HF := Lib.hid hfin
        clear hfin htn'
        go_wp2_with fail
        go_ret
        exact ⟨by rw [HF.out]; rfl, hb.out⟩
end Go.Proofs.Ythbifibnnhikjaa
/- Disk: its size, by value; no function of program or reference is walked here. -/
namespace Go.Proofs.Ythbifibnnhikjaa
open Go.RowKit
set_option linter.unusedVariables false

set_option maxRecDepth 100000 in
theorem szV_disk (a0 : Option Addr) (n0 k0 : Nat) (x0 : List FileD) (x1 : Int) (left : Int) (w : World) (h0 : SeqIn fileRep w a0 n0 x0) (p0 : 0 ≤ left) (p1 : left ≤ 1048576) :
    Calls Try.prog 12 #[.agg #[.slice a0 n0 k0, .int .i64 x1], .int .i64 left] w fun e w' => e = .returned (.int .i64 (szR left (wtDisk ⟨x0, x1⟩))) ∧ Below w.heap.size w w' := by
  have B0 := Lib.hid (show Below w.heap.size w (w.alloc (.cells #[.slice a0 n0 k0, .int .i64 x1] 26)) from (Below.refl _ _).alloc (Nat.le_refl _) _)
  have K0 := Lib.hid (show (w.alloc (.cells #[.slice a0 n0 k0, .int .i64 x1] 26)).heap[w.heap.size]? = some (.cells #[.slice a0 n0 k0, .int .i64 x1] 26 (0, 0)) from heap_alloc_new _ _)
  have H0 := Lib.hid (h0.keep B0.out)
  obtain ⟨W, hW⟩ : ∃ W, W = wtDisk ⟨x0, x1⟩ := ⟨_, rfl⟩
  obtain ⟨m0, hm0⟩ : ∃ m, m = wtFiles x0 := ⟨_, rfl⟩
  have hsum : W = m0 := by rw [hW, hm0]; rfl
  rw [← hW]
  have HS := Lib.hid hsum
  have HM0 := Lib.hid hm0
  clear h0 hW hsum hm0
  go_enter Try.func12, Try.ntmps12
  go_wp2_with fail
  refine (szS_file a0 n0 k0 x0 left _ H0.out p0 p1).mono ?_
  rintro e w1 ⟨rfl, b1⟩
  rw [← HM0.out]
  have B1 := Lib.hid (B0.out.trans (b1.mono B0.out.size))
  clear b1
  obtain ⟨z0, hz0⟩ : ∃ z, z = szR left m0 := ⟨_, rfl⟩
  rw [← hz0]
  have HZ0 := Lib.hid hz0
  clear hz0
  by_cases lt0 : z0 < 0
  · have hfin : szR left W = -1 ∧ z0 = -1 := by
      have ys := HS.out
      have u0 := sz_stop HZ0.out lt0
      unfold szR
      split <;> omega
    have HF := Lib.hid hfin
    clear hfin
    go_wp2_with fail
    go_ret
    exact ⟨by rw [HF.out.1]; rfl, B1.out⟩
  have q00 : 0 ≤ z0 := by omega
  have q10 : z0 ≤ 1048576 := by have y := HZ0.out; unfold szR at y; split at y <;> omega
  have hfin : z0 = szR left W := by
    have ys := HS.out
    have u0 := sz_step HZ0.out (by omega)
    unfold szR
    split <;> omega
  have HF := Lib.hid hfin
  clear hfin
  go_wp2_with fail
  go_ret
  exact ⟨by rw [← HF.out]; rfl, B1.out⟩
end Go.Proofs.Ythbifibnnhikjaa
/- Rows: their marks; no function of program or reference is walked here. -/
namespace Go.Proofs.Ythbifibnnhikjaa
open Go.RowKit
set_option linter.unusedVariables false

theorem mkS_row (B n c : Nat) (a : Option Addr) (X : List R) (F : List Reg) (q : Int) (w : World) (h : SeqOwn rowRep w B a n X F) (hq0 : 0 ≤ q) (hq1 : q + 64 * (wtRows X : Int) ≤ 1000000000000) :
    Calls Try.prog 52 #[.slice a n c, .int .i64 q] w fun e w' => e = .returned (.int .i64 (q + (rowsMk.cnt X : Nat))) ∧ SeqOwn rowRep w' B a n (rowsMk.mark q X) F ∧ OnlyAt F w w' := by
  have hl := h.1
  have hx : wtRows X = X.length := rfl
  rw [hx] at hq1
  refine (markrows B n c a X F q w h (by omega) hq0 (by omega)).mono ?_
  rintro e w' ⟨rfl, h1, h2⟩
  refine ⟨?_, ?_, h2⟩
  · have : rowsMk.cnt X = 3 * n := by rw [← hl]; rfl
    rw [this]
    simp
  · have : rowsMk.mark q X = marked n q := by rw [← hl]; rfl
    rw [this]
    exact h1
theorem hdS_row (n c : Nat) (a : Option Addr) (X : List R) (q : Int) (w : World) (h : SeqIn rowRep w a n (rowsMk.mark q X)) (hq0 : 0 ≤ q) (hq1 : q + 64 * (wtRows X : Int) ≤ 1000000000000) :
    Calls Try.prog 77 #[.slice a n c, .int .i64 q] w fun e w' => e = .returned (.int .i64 (q + (rowsMk.cnt X : Nat))) ∧ w = w' := by
  have hl : X.length = n := by rw [← h.1]; exact (marked_length _ _).symm
  have hx : wtRows X = X.length := rfl
  rw [hx] at hq1
  have h' : SeqIn rowRep w a n (marked n q) := by rw [← hl] at h ⊢; exact h
  refine (heldrows a n c q w (rows_in h') (by omega) hq0 (by omega)).mono ?_
  rintro e w' ⟨rfl, h2⟩
  refine ⟨?_, h2⟩
  have : rowsMk.cnt X = 3 * n := by rw [← hl]; rfl
  rw [this]
  simp
end Go.Proofs.Ythbifibnnhikjaa
/- Page: the laws' marks on a slice of them; no function of program or reference is walked here. -/
namespace Go.Proofs.Ythbifibnnhikjaa
open Go.RowKit
set_option linter.unusedVariables false

set_option maxRecDepth 100000 in
set_option maxHeartbeats 1000000 in
theorem mkS_page (B n c : Nat) (a : Option Addr) (X : List (List R)) (F : List Reg) (q : Int) (w : World) (h : SeqOwn pageRep w B a n X F) (hq0 : 0 ≤ q) (hq1 : q + 64 * (wtPages X : Int) ≤ 1000000000000) :
    Calls Try.prog 62 #[.slice a n c, .int .i64 q] w fun e w' => e = .returned (.int .i64 (q + (pagesMk.cnt X : Nat))) ∧ SeqOwn pageRep w' B a n (pagesMk.mark q X) F ∧ OnlyAt F w w' := by
  have hwl := wt_page_len X
  have HL := Lib.hid h.1
  obtain ⟨W, hW⟩ : ∃ W, W = wtPages X := ⟨_, rfl⟩
  rw [← hW] at hq1 hwl
  have HW := Lib.hid hW
  have hn : n ≤ 20000000000 := by have := HL.out; omega
  have HO := Lib.hid h
  clear h hW hwl
  go_enter Try.func62, Try.ntmps62
  go_wp2_with fail
  go_loopw [1, 5] (fun x i wr => ∃ t s : Nat, x = .int .i64 (q + (s : Int)) ∧ i = .int .i64 t ∧ t ≤ n ∧ Hid (s = cntAll pageMk (X.take t)) ∧ Hid (SeqOwn pageRep wr B a n (mkAll pageMk q (X.take t) ++ X.drop t) F) ∧ Hid (OnlyAt F w wr)) (fun _ i _ => n - (intOf i).toNat)
  case atStart => exact ⟨0, 0, by go_num, rfl, Nat.zero_le _, (by show 0 = _; simp [cntAll]), (show SeqOwn pageRep w B a n (mkAll pageMk q (X.take 0) ++ X.drop 0) F from HO.out), OnlyAt.refl _ _⟩
  case round =>
    obtain ⟨t, s, rfl, rfl, ht, hsz, hown, hb⟩ := hrel
    by_cases hlt : t < n
    · have htl : t < X.length := by have := HL.out; omega
      have hroom := mk_room pageMk wtPage cnt_page X t htl
      have hnx := cntAll_next pageMk X t htl
      have hme := mkAll_next pageMk q X t htl
      have hat := mkAll_at pageMk q X t htl
      obtain ⟨b, o, hd, G, rfl, hB, hbl, hce, hfz, ho, hap, hset⟩ := hown.out.el hat
      rw [← hsz.out] at hroom hnx hme
      rw [show wtAll wtPage X = W from HW.out.symm] at hroom
      obtain ⟨x0, hx0⟩ : ∃ x0, x0 = X[t] := ⟨_, rfl⟩
      rw [← hx0] at hroom hnx hme hce ho
      clear hx0
      obtain ⟨a0, n0, k0⟩ := hd
      obtain ⟨h0, hc0⟩ := ho
      obtain ⟨G0, hG0⟩ : ∃ G0, G0 = G := ⟨_, rfl⟩
      subst hG0
      have hroom : s + 64 * (wtRows x0 + 1) ≤ 64 * W := hroom
      have hnx : cntAll pageMk (X.take (t + 1)) = s + (rowsMk.cnt x0) := hnx
      have c0 : wr.cell? ⟨b, o + t, none⟩ = some (.slice a0 n0 k0) := by
        have h' : wr.cell? ⟨b, o + t * 1, none⟩ = some (.slice a0 n0 k0) := hce 0 _ rfl
        rwa [Nat.mul_one] at h'
      have f0 : wr.frozen? ⟨b, o + t, none⟩ = false := by
        have h' : wr.frozen? ⟨b, o + t * 1, none⟩ = false := hfz 0 (by decide)
        rwa [Nat.mul_one] at h'
      have EG0 : Hid (∀ y ∈ G0, Reg.apart ⟨b, o + t * 1, o + t * 1 + 1⟩ y) := Lib.hid fun y hy => hap y (by simp [hy])
      have O0 : Hid (SeqOwn rowRep wr B a0 n0 x0 G0) := Lib.hid h0
      have hcn0 := cnt_rows x0
      have T0 := Lib.hid (OnlyAt.refl (⟨b, o + t * 1, o + t * 1 + 1⟩ :: (G0)) wr)
      have F00 := Lib.hid f0
      have hon0 : OnlyAt [⟨b, o + t * 1, o + t * 1 + 1⟩] wr wr := (OnlyAt.refl _ _)
      have O0 := Lib.hid (O0.out.far hon0 (apart_one EG0.out))
      have T0' := Lib.hid (T0.out.trans (hon0.mono (fun y hy => by rw [List.mem_singleton.1 hy]; exact List.mem_cons_self ..)))
      have C0 := Lib.hid (show wr.cell? ⟨b, o + t, none⟩ = some (.slice a0 n0 k0) from c0)
      clear hon0
      go_wp2_with fail
      refine (mkS_row B n0 k0 a0 x0 G0 (q + (s : Int)) _ O0.out (by omega) (by omega)).mono ?_
      rintro e w1 ⟨rfl, m1, p1⟩
      clear c0 f0
      have lt0 := Nat.lt_of_lt_of_le hbl T0'.out.size
      have c0 := (cell_only p1 lt0 EG0.out (by omega) (by omega)).trans C0.out
      have O0 := Lib.hid m1
      have T1 := Lib.hid (T0'.out.trans (p1.mono (fun y hy => List.mem_cons_of_mem _ (by simp [hy]))))
      have f0 := (T1.out.frozen b (o + t) hbl).trans F00.out
      clear m1 p1 lt0
      have hon : OnlyAt [⟨b, o + t * 1, o + t * 1 + 1⟩] w1 w1 := (OnlyAt.refl _ _)
      have o0 := O0.out.far hon (apart_one EG0.out)
      have tt := T1.out.trans (hon.mono (fun y hy => by rw [List.mem_singleton.1 hy]; exact List.mem_cons_self ..))
      have hcells : CellsAt w1 b (o + t * 1) [.slice a0 n0 k0] := (by rw [Nat.mul_one]; exact (cellsAt_cons (show w1.cell? ⟨b, o + t, none⟩ = some (.slice a0 n0 k0) from c0) cellsAt_nil))
      obtain ⟨hn1, hn2⟩ := hset w1 (rowsMk.mark (q + (s : Int)) x0) tt hcells ⟨o0, hc0⟩
      have HN : Hid (SeqOwn pageRep w1 B (some ⟨b, o, none⟩) n (mkAll pageMk q (X.take (t + 1)) ++ X.drop (t + 1)) F) := Lib.hid (by rw [← hme]; exact hn1)
      have HB := Lib.hid (hn2 w hb.out)
      have HX := Lib.hid hnx.symm
      clear hon tt hcells hn1 hn2 hset hme hat hnx hce hfz hap o0 h0
      go_wp2_with fail
      go_roundw
      case rel => exact ⟨t + 1, s + (rowsMk.cnt x0), by go_num, by go_num, by omega, HX.out, HN.out, HB.out⟩
      case measure => simp [intOf]; omega
    · have hkl : t = n := by omega
      have hfin : SeqOwn pageRep wr B a n (mkAll pageMk q X) F := by
        have := hown.out
        rw [hkl, List.drop_eq_nil_of_le (by rw [HL.out]; exact Nat.le_refl _), List.append_nil, List.take_of_length_le (by rw [HL.out]; exact Nat.le_refl _)] at this
        exact this
      have hs2 : s = cntAll pageMk X := by
        rw [hsz.out, hkl, List.take_of_length_le (by rw [HL.out]; exact Nat.le_refl _)]
      have HF := Lib.hid hfin
      have HK := Lib.hid hs2
      clear hfin hkl hs2
      go_wp2_with fail
      go_ret
      exact ⟨by rw [show pagesMk.cnt X = s from HK.out.symm]; rfl, HF.out, hb.out⟩
set_option maxRecDepth 100000 in
set_option maxHeartbeats 1000000 in
theorem hdS_page (n c : Nat) (a : Option Addr) (X : List (List R)) (q : Int) (w : World) (h : SeqIn pageRep w a n (pagesMk.mark q X)) (hq0 : 0 ≤ q) (hq1 : q + 64 * (wtPages X : Int) ≤ 1000000000000) :
    Calls Try.prog 63 #[.slice a n c, .int .i64 q] w fun e w' => e = .returned (.int .i64 (q + (pagesMk.cnt X : Nat))) ∧ w = w' := by
  have hl : X.length = n := by rw [← h.1]; exact (mkAll_length _ _ _).symm
  have hwl := wt_page_len X
  have HL := Lib.hid hl
  obtain ⟨W, hW⟩ : ∃ W, W = wtPages X := ⟨_, rfl⟩
  rw [← hW] at hq1 hwl
  have HW := Lib.hid hW
  have hn : n ≤ 20000000000 := by have := HL.out; omega
  have HI : Hid (SeqIn pageRep w a n (mkAll pageMk q X)) := Lib.hid h
  clear h hW hwl hl
  go_enter Try.func63, Try.ntmps63
  go_wp2_with fail
  go_loop [1, 5] (fun x i => ∃ t s : Nat, x = .int .i64 (q + (s : Int)) ∧ i = .int .i64 t ∧ t ≤ n ∧ Hid (s = cntAll pageMk (X.take t))) (fun _ i => n - (intOf i).toNat)
  case atStart => exact ⟨0, 0, by go_num, rfl, Nat.zero_le _, by show 0 = _; simp [cntAll]⟩
  case round =>
    obtain ⟨t, s, rfl, rfl, ht, hsz⟩ := hrel
    by_cases hlt : t < n
    · have htl : t < X.length := by have := HL.out; omega
      have hroom := mk_room pageMk wtPage cnt_page X t htl
      have hnx := cntAll_next pageMk X t htl
      have hat := mkAll_get pageMk q X t htl
      rw [← hsz.out] at hroom hnx hat
      rw [show wtAll wtPage X = W from HW.out.symm] at hroom
      obtain ⟨b, o, hd, rfl, hbl, hce, hin⟩ := HI.out.el hat
      obtain ⟨x0, hx0⟩ : ∃ x0, x0 = X[t] := ⟨_, rfl⟩
      rw [← hx0] at hroom hnx hce hin
      clear hx0 hat
      obtain ⟨a0, n0, k0⟩ := hd
      obtain ⟨h0, hc0⟩ := hin
      have hroom : s + 64 * (wtRows x0 + 1) ≤ 64 * W := hroom
      have hnx : cntAll pageMk (X.take (t + 1)) = s + (rowsMk.cnt x0) := hnx
      have c0 : w.cell? ⟨b, o + t, none⟩ = some (.slice a0 n0 k0) := by
        have h' : w.cell? ⟨b, o + t * 1, none⟩ = some (.slice a0 n0 k0) := hce 0 _ rfl
        rwa [Nat.mul_one] at h'
      have J0 : Hid (SeqIn rowRep w a0 n0 (rowsMk.mark (q + (s : Int)) x0)) := Lib.hid h0
      have hcn0 := cnt_rows x0
      have HX := Lib.hid hnx.symm
      clear hce hnx h0 hc0
      go_wp2_with fail
      refine (hdS_row n0 k0 a0 x0 (q + (s : Int)) _ J0.out (by omega) (by omega)).mono ?_
      rintro e w1 ⟨rfl, rfl⟩
      have nn0 : ¬ (q + (s : Int) + (rowsMk.cnt x0 : Nat) < 0) := by omega
      go_wp2_with fail
      go_round
      case rel => exact ⟨t + 1, s + (rowsMk.cnt x0), by go_num, by go_num, by omega, HX.out⟩
      case measure => simp [intOf]; omega
    · have hkl : t = n := by omega
      have hs2 : s = cntAll pageMk X := by
        rw [hsz.out, hkl, List.take_of_length_le (by rw [HL.out]; exact Nat.le_refl _)]
      have HK := Lib.hid hs2
      clear hkl hs2
      go_wp2_with fail
      go_ret
      exact ⟨by rw [show pagesMk.cnt X = s from HK.out.symm]; rfl, rfl⟩
end Go.Proofs.Ythbifibnnhikjaa
/- File: the laws' marks on a slice of them; no function of program or reference is walked here. -/
namespace Go.Proofs.Ythbifibnnhikjaa
open Go.RowKit
set_option linter.unusedVariables false

set_option maxRecDepth 100000 in
set_option maxHeartbeats 1000000 in
theorem mkS_file (B n c : Nat) (a : Option Addr) (X : List FileD) (F : List Reg) (q : Int) (w : World) (h : SeqOwn fileRep w B a n X F) (hq0 : 0 ≤ q) (hq1 : q + 64 * (wtFiles X : Int) ≤ 1000000000000) :
    Calls Try.prog 42 #[.slice a n c, .int .i64 q] w fun e w' => e = .returned (.int .i64 (q + (filesMk.cnt X : Nat))) ∧ SeqOwn fileRep w' B a n (filesMk.mark q X) F ∧ OnlyAt F w w' := by
  have hwl := wt_file_len X
  have HL := Lib.hid h.1
  obtain ⟨W, hW⟩ : ∃ W, W = wtFiles X := ⟨_, rfl⟩
  rw [← hW] at hq1 hwl
  have HW := Lib.hid hW
  have hn : n ≤ 20000000000 := by have := HL.out; omega
  have HO := Lib.hid h
  clear h hW hwl
  go_enter Try.func42, Try.ntmps42
  go_wp2_with fail
  go_loopw [1, 5] (fun x i wr => ∃ t s : Nat, x = .int .i64 (q + (s : Int)) ∧ i = .int .i64 t ∧ t ≤ n ∧ Hid (s = cntAll fileMk (X.take t)) ∧ Hid (SeqOwn fileRep wr B a n (mkAll fileMk q (X.take t) ++ X.drop t) F) ∧ Hid (OnlyAt F w wr)) (fun _ i _ => n - (intOf i).toNat)
  case atStart => exact ⟨0, 0, by go_num, rfl, Nat.zero_le _, (by show 0 = _; simp [cntAll]), (show SeqOwn fileRep w B a n (mkAll fileMk q (X.take 0) ++ X.drop 0) F from HO.out), OnlyAt.refl _ _⟩
  case round =>
    obtain ⟨t, s, rfl, rfl, ht, hsz, hown, hb⟩ := hrel
    by_cases hlt : t < n
    · have htl : t < X.length := by have := HL.out; omega
      have hroom := mk_room fileMk wtFile cnt_file X t htl
      have hnx := cntAll_next fileMk X t htl
      have hme := mkAll_next fileMk q X t htl
      have hat := mkAll_at fileMk q X t htl
      obtain ⟨b, o, hd, G, rfl, hB, hbl, hce, hfz, ho, hap, hset⟩ := hown.out.el hat
      rw [← hsz.out] at hroom hnx hme
      rw [show wtAll wtFile X = W from HW.out.symm] at hroom
      obtain ⟨x, hx⟩ : ∃ x, x = X[t] := ⟨_, rfl⟩
      rw [← hx] at hroom hnx hme hce ho
      clear hx
      obtain ⟨x0, x1, x2, x3⟩ := x
      obtain ⟨⟨a1, n1, k1⟩, ⟨⟩⟩ := hd
      obtain ⟨r0, ⟨G1, L1, rfl, ⟨h1, hc1⟩, ⟨r2, rfl⟩, ap1⟩⟩ := ho
      have hroom : s + 64 * (wtPages x1 + 1) ≤ 64 * W := hroom
      have hnx : cntAll fileMk (X.take (t + 1)) = s + (1 + pagesMk.cnt x1 + 1 + 1) := hnx
      have c0 : wr.cell? ⟨b, o + t * 4, none⟩ = some (.int .i64 x0) := hce 0 _ rfl
      have c1 : wr.cell? ⟨b, o + t * 4 + 1, none⟩ = some (.slice a1 n1 k1) := hce 1 _ rfl
      have c2 : wr.cell? ⟨b, o + t * 4 + 2, none⟩ = some (.int .i64 x2) := hce 2 _ rfl
      have c3 : wr.cell? ⟨b, o + t * 4 + 3, none⟩ = some (.bool x3) := hce 3 _ rfl
      have f0 : wr.frozen? ⟨b, o + t * 4, none⟩ = false := hfz 0 (by decide)
      have f1 : wr.frozen? ⟨b, o + t * 4 + 1, none⟩ = false := hfz 1 (by decide)
      have f2 : wr.frozen? ⟨b, o + t * 4 + 2, none⟩ = false := hfz 2 (by decide)
      have f3 : wr.frozen? ⟨b, o + t * 4 + 3, none⟩ = false := hfz 3 (by decide)
      have EG1 : Hid (∀ y ∈ G1, Reg.apart ⟨b, o + t * 4, o + t * 4 + 4⟩ y) := Lib.hid fun y hy => hap y (by simp [hy])
      have O1 : Hid (SeqOwn pageRep wr B a1 n1 x1 G1) := Lib.hid h1
      have hcn1 := cnt_pages x1
      have T0 := Lib.hid (OnlyAt.refl (⟨b, o + t * 4, o + t * 4 + 4⟩ :: (G1 ++ [])) wr)
      have F00 := Lib.hid f0
      have F01 := Lib.hid f1
      have F02 := Lib.hid f2
      have F03 := Lib.hid f3
      have hon0 : OnlyAt [⟨b, o + t * 4, o + t * 4 + 4⟩] wr (wr.setCell ⟨b, o + t * 4, none⟩ (.int .i64 (q + (s : Int)))) := (OnlyAt.put _ (OnlyAt.refl _ _) (by omega) (by omega) _)
      have O1 := Lib.hid (O1.out.far hon0 (apart_one EG1.out))
      have T0' := Lib.hid (T0.out.trans (hon0.mono (fun y hy => by rw [List.mem_singleton.1 hy]; exact List.mem_cons_self ..)))
      have C0 := Lib.hid (show (wr.setCell ⟨b, o + t * 4, none⟩ (.int .i64 (q + (s : Int)))).cell? ⟨b, o + t * 4, none⟩ = some (.int .i64 (q + (s : Int))) from (cell_put c0))
      have C1 := Lib.hid (show (wr.setCell ⟨b, o + t * 4, none⟩ (.int .i64 (q + (s : Int)))).cell? ⟨b, o + t * 4 + 1, none⟩ = some (.slice a1 n1 k1) from (cell_far c1 (by omega)))
      have C2 := Lib.hid (show (wr.setCell ⟨b, o + t * 4, none⟩ (.int .i64 (q + (s : Int)))).cell? ⟨b, o + t * 4 + 2, none⟩ = some (.int .i64 x2) from (cell_far c2 (by omega)))
      have C3 := Lib.hid (show (wr.setCell ⟨b, o + t * 4, none⟩ (.int .i64 (q + (s : Int)))).cell? ⟨b, o + t * 4 + 3, none⟩ = some (.bool x3) from (cell_far c3 (by omega)))
      clear hon0
      go_wp2_with fail
      refine (mkS_page B n1 k1 a1 x1 G1 (q + (s : Int) + 1) _ O1.out (by omega) (by omega)).mono ?_
      rintro e w1 ⟨rfl, m1, p1⟩
      clear c0 c1 c2 c3 f0 f1 f2 f3
      have lt0 := Nat.lt_of_lt_of_le hbl T0'.out.size
      have c0 := (cell_only p1 lt0 EG1.out (by omega) (by omega)).trans C0.out
      have c1 := (cell_only p1 lt0 EG1.out (by omega) (by omega)).trans C1.out
      have c2 := (cell_only p1 lt0 EG1.out (by omega) (by omega)).trans C2.out
      have c3 := (cell_only p1 lt0 EG1.out (by omega) (by omega)).trans C3.out
      have O1 := Lib.hid m1
      have T1 := Lib.hid (T0'.out.trans (p1.mono (fun y hy => List.mem_cons_of_mem _ (by simp [hy]))))
      have f0 := (T1.out.frozen b (o + t * 4) hbl).trans F00.out
      have f1 := (T1.out.frozen b (o + t * 4 + 1) hbl).trans F01.out
      have f2 := (T1.out.frozen b (o + t * 4 + 2) hbl).trans F02.out
      have f3 := (T1.out.frozen b (o + t * 4 + 3) hbl).trans F03.out
      clear m1 p1 lt0
      have hon : OnlyAt [⟨b, o + t * 4, o + t * 4 + 4⟩] w1 ((w1.setCell ⟨b, o + t * 4 + 2, none⟩ (.int .i64 (q + (s : Int) + 1 + (pagesMk.cnt x1 : Nat)))).setCell ⟨b, o + t * 4 + 3, none⟩ (.bool ((q + (s : Int) + 1 + (pagesMk.cnt x1 : Nat) + 1) % 3 == 0))) := (OnlyAt.put _ (OnlyAt.put _ (OnlyAt.refl _ _) (by omega) (by omega) _) (by omega) (by omega) _)
      have o1 := O1.out.far hon (apart_one EG1.out)
      have tt := T1.out.trans (hon.mono (fun y hy => by rw [List.mem_singleton.1 hy]; exact List.mem_cons_self ..))
      have hcells : CellsAt ((w1.setCell ⟨b, o + t * 4 + 2, none⟩ (.int .i64 (q + (s : Int) + 1 + (pagesMk.cnt x1 : Nat)))).setCell ⟨b, o + t * 4 + 3, none⟩ (.bool ((q + (s : Int) + 1 + (pagesMk.cnt x1 : Nat) + 1) % 3 == 0))) b (o + t * 4) [.int .i64 (q + (s : Int)), .slice a1 n1 k1, .int .i64 (q + (s : Int) + 1 + (pagesMk.cnt x1 : Nat)), .bool ((q + (s : Int) + 1 + (pagesMk.cnt x1 : Nat) + 1) % 3 == 0)] := (cellsAt_cons (show ((w1.setCell ⟨b, o + t * 4 + 2, none⟩ (.int .i64 (q + (s : Int) + 1 + (pagesMk.cnt x1 : Nat)))).setCell ⟨b, o + t * 4 + 3, none⟩ (.bool ((q + (s : Int) + 1 + (pagesMk.cnt x1 : Nat) + 1) % 3 == 0))).cell? ⟨b, o + t * 4, none⟩ = some (.int .i64 (q + (s : Int))) from (cell_far (cell_far c0 (by omega)) (by omega))) (cellsAt_cons (show ((w1.setCell ⟨b, o + t * 4 + 2, none⟩ (.int .i64 (q + (s : Int) + 1 + (pagesMk.cnt x1 : Nat)))).setCell ⟨b, o + t * 4 + 3, none⟩ (.bool ((q + (s : Int) + 1 + (pagesMk.cnt x1 : Nat) + 1) % 3 == 0))).cell? ⟨b, o + t * 4 + 1, none⟩ = some (.slice a1 n1 k1) from (cell_far (cell_far c1 (by omega)) (by omega))) (cellsAt_cons (show ((w1.setCell ⟨b, o + t * 4 + 2, none⟩ (.int .i64 (q + (s : Int) + 1 + (pagesMk.cnt x1 : Nat)))).setCell ⟨b, o + t * 4 + 3, none⟩ (.bool ((q + (s : Int) + 1 + (pagesMk.cnt x1 : Nat) + 1) % 3 == 0))).cell? ⟨b, o + t * 4 + 2, none⟩ = some (.int .i64 (q + (s : Int) + 1 + (pagesMk.cnt x1 : Nat))) from (cell_far (cell_put c2) (by omega))) (cellsAt_cons (show ((w1.setCell ⟨b, o + t * 4 + 2, none⟩ (.int .i64 (q + (s : Int) + 1 + (pagesMk.cnt x1 : Nat)))).setCell ⟨b, o + t * 4 + 3, none⟩ (.bool ((q + (s : Int) + 1 + (pagesMk.cnt x1 : Nat) + 1) % 3 == 0))).cell? ⟨b, o + t * 4 + 3, none⟩ = some (.bool ((q + (s : Int) + 1 + (pagesMk.cnt x1 : Nat) + 1) % 3 == 0)) from (cell_put (cell_far c3 (by omega)))) cellsAt_nil))))
      obtain ⟨hn1, hn2⟩ := hset ((w1.setCell ⟨b, o + t * 4 + 2, none⟩ (.int .i64 (q + (s : Int) + 1 + (pagesMk.cnt x1 : Nat)))).setCell ⟨b, o + t * 4 + 3, none⟩ (.bool ((q + (s : Int) + 1 + (pagesMk.cnt x1 : Nat) + 1) % 3 == 0))) (⟨q + (s : Int), pagesMk.mark (q + (s : Int) + 1) x1, q + (s : Int) + 1 + (pagesMk.cnt x1 : Nat), ((q + (s : Int) + 1 + (pagesMk.cnt x1 : Nat) + 1) % 3 == 0)⟩) tt hcells ⟨(show I64 (q + (s : Int)) from ⟨by omega, by omega⟩), ⟨_, _, rfl, ⟨o1, hc1⟩, ⟨(show I64 (q + (s : Int) + 1 + (pagesMk.cnt x1 : Nat)) from ⟨by omega, by omega⟩), rfl⟩, ap1⟩⟩
      have HN : Hid (SeqOwn fileRep ((w1.setCell ⟨b, o + t * 4 + 2, none⟩ (.int .i64 (q + (s : Int) + 1 + (pagesMk.cnt x1 : Nat)))).setCell ⟨b, o + t * 4 + 3, none⟩ (.bool ((q + (s : Int) + 1 + (pagesMk.cnt x1 : Nat) + 1) % 3 == 0))) B (some ⟨b, o, none⟩) n (mkAll fileMk q (X.take (t + 1)) ++ X.drop (t + 1)) F) := Lib.hid (by rw [← hme]; exact hn1)
      have HB := Lib.hid (hn2 w hb.out)
      have HX := Lib.hid hnx.symm
      clear hon tt hcells hn1 hn2 hset hme hat hnx hce hfz hap o1 h1
      go_wp2_with fail
      go_roundw
      case rel => exact ⟨t + 1, s + (1 + pagesMk.cnt x1 + 1 + 1), by go_num, by go_num, by omega, HX.out, HN.out, HB.out⟩
      case measure => simp [intOf]; omega
    · have hkl : t = n := by omega
      have hfin : SeqOwn fileRep wr B a n (mkAll fileMk q X) F := by
        have := hown.out
        rw [hkl, List.drop_eq_nil_of_le (by rw [HL.out]; exact Nat.le_refl _), List.append_nil, List.take_of_length_le (by rw [HL.out]; exact Nat.le_refl _)] at this
        exact this
      have hs2 : s = cntAll fileMk X := by
        rw [hsz.out, hkl, List.take_of_length_le (by rw [HL.out]; exact Nat.le_refl _)]
      have HF := Lib.hid hfin
      have HK := Lib.hid hs2
      clear hfin hkl hs2
      go_wp2_with fail
      go_ret
      exact ⟨by rw [show filesMk.cnt X = s from HK.out.symm]; rfl, HF.out, hb.out⟩
set_option maxRecDepth 100000 in
set_option maxHeartbeats 1000000 in
theorem hdS_file (n c : Nat) (a : Option Addr) (X : List FileD) (q : Int) (w : World) (h : SeqIn fileRep w a n (filesMk.mark q X)) (hq0 : 0 ≤ q) (hq1 : q + 64 * (wtFiles X : Int) ≤ 1000000000000) :
    Calls Try.prog 43 #[.slice a n c, .int .i64 q] w fun e w' => e = .returned (.int .i64 (q + (filesMk.cnt X : Nat))) ∧ w = w' := by
  have hl : X.length = n := by rw [← h.1]; exact (mkAll_length _ _ _).symm
  have hwl := wt_file_len X
  have HL := Lib.hid hl
  obtain ⟨W, hW⟩ : ∃ W, W = wtFiles X := ⟨_, rfl⟩
  rw [← hW] at hq1 hwl
  have HW := Lib.hid hW
  have hn : n ≤ 20000000000 := by have := HL.out; omega
  have HI : Hid (SeqIn fileRep w a n (mkAll fileMk q X)) := Lib.hid h
  clear h hW hwl hl
  go_enter Try.func43, Try.ntmps43
  go_wp2_with fail
  go_loop [1, 5] (fun x i => ∃ t s : Nat, x = .int .i64 (q + (s : Int)) ∧ i = .int .i64 t ∧ t ≤ n ∧ Hid (s = cntAll fileMk (X.take t))) (fun _ i => n - (intOf i).toNat)
  case atStart => exact ⟨0, 0, by go_num, rfl, Nat.zero_le _, by show 0 = _; simp [cntAll]⟩
  case round =>
    obtain ⟨t, s, rfl, rfl, ht, hsz⟩ := hrel
    by_cases hlt : t < n
    · have htl : t < X.length := by have := HL.out; omega
      have hroom := mk_room fileMk wtFile cnt_file X t htl
      have hnx := cntAll_next fileMk X t htl
      have hat := mkAll_get fileMk q X t htl
      rw [← hsz.out] at hroom hnx hat
      rw [show wtAll wtFile X = W from HW.out.symm] at hroom
      obtain ⟨b, o, hd, rfl, hbl, hce, hin⟩ := HI.out.el hat
      obtain ⟨x, hx⟩ : ∃ x, x = X[t] := ⟨_, rfl⟩
      rw [← hx] at hroom hnx hce hin
      clear hx hat
      obtain ⟨x0, x1, x2, x3⟩ := x
      obtain ⟨⟨a1, n1, k1⟩, ⟨⟩⟩ := hd
      obtain ⟨r0, ⟨h1, hc1⟩, r2, -⟩ := hin
      have hroom : s + 64 * (wtPages x1 + 1) ≤ 64 * W := hroom
      have hnx : cntAll fileMk (X.take (t + 1)) = s + (1 + pagesMk.cnt x1 + 1 + 1) := hnx
      have c0 : w.cell? ⟨b, o + t * 4, none⟩ = some (.int .i64 (q + (s : Int))) := hce 0 _ rfl
      have c1 : w.cell? ⟨b, o + t * 4 + 1, none⟩ = some (.slice a1 n1 k1) := hce 1 _ rfl
      have c2 : w.cell? ⟨b, o + t * 4 + 2, none⟩ = some (.int .i64 (q + (s : Int) + 1 + (pagesMk.cnt x1 : Nat))) := hce 2 _ rfl
      have c3 : w.cell? ⟨b, o + t * 4 + 3, none⟩ = some (.bool (((q + (s : Int) + 1 + (pagesMk.cnt x1 : Nat) + 1) % 3 == 0))) := hce 3 _ rfl
      have J1 : Hid (SeqIn pageRep w a1 n1 (pagesMk.mark (q + (s : Int) + 1) x1)) := Lib.hid h1
      have hcn1 := cnt_pages x1
      have HX := Lib.hid hnx.symm
      clear hce hnx h1 hc1 r0 r2
      go_wp2_with fail
      refine (hdS_page n1 k1 a1 x1 (q + (s : Int) + 1) _ J1.out (by omega) (by omega)).mono ?_
      rintro e w1 ⟨rfl, rfl⟩
      have nn1 : ¬ (q + (s : Int) + 1 + (pagesMk.cnt x1 : Nat) < 0) := by omega
      go_wp2_with fail
      go_round
      case rel => exact ⟨t + 1, s + (1 + pagesMk.cnt x1 + 1 + 1), by go_num, by go_num, by omega, HX.out⟩
      case measure => simp [intOf]; omega
    · have hkl : t = n := by omega
      have hs2 : s = cntAll fileMk X := by
        rw [hsz.out, hkl, List.take_of_length_le (by rw [HL.out]; exact Nat.le_refl _)]
      have HK := Lib.hid hs2
      clear hkl hs2
      go_wp2_with fail
      go_ret
      exact ⟨by rw [show filesMk.cnt X = s from HK.out.symm]; rfl, rfl⟩
end Go.Proofs.Ythbifibnnhikjaa
/- Disk: the laws' marks on one, by value; no function of program or reference is walked here. -/
namespace Go.Proofs.Ythbifibnnhikjaa
open Go.RowKit
set_option linter.unusedVariables false

set_option maxRecDepth 100000 in
set_option maxHeartbeats 1000000 in
theorem mkV_disk (B : Nat) (a0 : Option Addr) (n0 k0 : Nat) (x0 : List FileD) (x1 : Int) (F : List Reg) (q : Int) (w : World) (h : diskRep.own w B ⟨x0, x1⟩ ((a0, n0, k0), ()) F) (hq0 : 0 ≤ q) (hq1 : q + 64 * (wtDisk ⟨x0, x1⟩ : Int) ≤ 1000000000000) :
    Calls Try.prog 19 #[.agg #[.slice a0 n0 k0, .int .i64 x1], .int .i64 q] w fun e w' => e = .returned (.int .i64 (q + (diskMkV.cnt ⟨x0, x1⟩ : Nat))) ∧ diskRep.own w' B (diskMkV.mark q ⟨x0, x1⟩) ((a0, n0, k0), ()) F ∧ OnlyAt F w w' := by
  have hq1 : q + 64 * ((wtFiles x0 : Nat) : Int) ≤ 1000000000000 := hq1
  obtain ⟨G0, L0, rfl, ⟨h0, hc0⟩, ⟨r1, rfl⟩, ap0⟩ := h
  have B0 := Lib.hid (show Below w.heap.size w (w.alloc (.cells #[.slice a0 n0 k0, .int .i64 x1] 31)) from (Below.refl _ _).alloc (Nat.le_refl _) _)
  have K0 := Lib.hid (show (w.alloc (.cells #[.slice a0 n0 k0, .int .i64 x1] 31)).heap[w.heap.size]? = some (.cells #[.slice a0 n0 k0, .int .i64 x1] 31 (0, 0)) from heap_alloc_new _ _)
  have L0 := Lib.hid (fun y hy => (h0.lt y hy).2)
  have O0 := Lib.hid (h0.keep B0.out)
  have hcn0 := cnt_files x0
  have T0 : Hid (OnlyAt (G0 ++ []) w (w.alloc (.cells #[.slice a0 n0 k0, .int .i64 x1] 31))) := Lib.hid (OnlyAt.of_below B0.out)
  clear h0
  go_enter Try.func19, Try.ntmps19
  go_wp2_with fail
  refine (mkS_file B n0 k0 a0 x0 G0 (q) _ O0.out (by omega) (by omega)).mono ?_
  rintro e w1 ⟨rfl, m1, p1⟩
  have O0 := Lib.hid m1
  have K1 := Lib.hid ((p1.block _ (lt_of_block K0.out) (fun y hy e => by have := L0.out y hy; omega)).trans K0.out)
  have T1 := Lib.hid (T0.out.trans (p1.mono (fun y hy => by simp [hy])))
  clear m1 p1
  have hv : q + (filesMk.cnt x0 : Nat) = q + (diskMkV.cnt ⟨x0, x1⟩ : Nat) := by
    show _ = q + ((filesMk.cnt x0 : Nat) : Int)
    omega
  have HV := Lib.hid hv
  clear hv
  go_wp2_with fail
  go_ret
  exact ⟨by rw [← HV.out]; rfl, ⟨_, _, rfl, ⟨O0.out, hc0⟩, ⟨r1, rfl⟩, ap0⟩, T1.out⟩
set_option maxRecDepth 100000 in
set_option maxHeartbeats 1000000 in
theorem hdV_disk (a0 : Option Addr) (n0 k0 : Nat) (x0 : List FileD) (x1 : Int) (q : Int) (w : World) (h : diskRep.inn w (diskMkV.mark q ⟨x0, x1⟩) ((a0, n0, k0), ())) (hq0 : 0 ≤ q) (hq1 : q + 64 * (wtDisk ⟨x0, x1⟩ : Int) ≤ 1000000000000) :
    Calls Try.prog 20 #[.agg #[.slice a0 n0 k0, .int .i64 x1], .int .i64 q] w fun e w' => e = .returned (.int .i64 (q + (diskMkV.cnt ⟨x0, x1⟩ : Nat))) ∧ Below w.heap.size w w' := by
  have hq1 : q + 64 * ((wtFiles x0 : Nat) : Int) ≤ 1000000000000 := hq1
  obtain ⟨⟨h0, hc0⟩, r1, -⟩ := h
  have B0 := Lib.hid (show Below w.heap.size w (w.alloc (.cells #[.slice a0 n0 k0, .int .i64 x1] 31)) from (Below.refl _ _).alloc (Nat.le_refl _) _)
  have J0 : Hid (SeqIn fileRep (w.alloc (.cells #[.slice a0 n0 k0, .int .i64 x1] 31)) a0 n0 (filesMk.mark (q) x0)) := Lib.hid (h0.keep B0.out)
  have hcn0 := cnt_files x0
  clear h0
  go_enter Try.func20, Try.ntmps20
  go_wp2_with fail
  refine (hdS_file n0 k0 a0 x0 (q) _ J0.out (by omega) (by omega)).mono ?_
  rintro e w1 ⟨rfl, rfl⟩
  have nn0 : ¬ (q + (filesMk.cnt x0 : Nat) < 0) := by omega
  have hv : q + (filesMk.cnt x0 : Nat) = q + (diskMkV.cnt ⟨x0, x1⟩ : Nat) := by
    show _ = q + ((filesMk.cnt x0 : Nat) : Int)
    omega
  have HV := Lib.hid hv
  clear hv
  go_wp2_with fail
  go_ret
  exact ⟨by rw [← HV.out]; rfl, B0.out⟩
end Go.Proofs.Ythbifibnnhikjaa
/- Disk as a whole: size, copy, comparison, marks; no function of program or reference is walked here. -/
namespace Go.Proofs.Ythbifibnnhikjaa
open Go.RowKit
set_option linter.unusedVariables false

theorem szD_disk (X : DiskD) (a0 : Option Addr) (n0 k0 : Nat) (left : Int) (w : World) (h : diskRep.inn w X ((a0, n0, k0), ())) (p0 : 0 ≤ left) (p1 : left ≤ 1048576) :
    Calls Try.prog 12 #[.agg #[.slice a0 n0 k0, .int .i64 X.fNextName], .int .i64 left] w fun e w' => e = .returned (.int .i64 (szR left (wtDisk X))) ∧ Below w.heap.size w w' := by
  obtain ⟨⟨h0, hc0⟩, r1, -⟩ := h
  exact szV_disk a0 n0 k0 X.fFiles X.fNextName left w h0 p0 p1
theorem toD_disk (X : DiskD) (a0 : Option Addr) (n0 k0 : Nat) (w : World) (h : diskRep.inn w X ((a0, n0, k0), ())) (hw : wtDisk X ≤ 1000000000) :
    Calls Try.prog 14 #[.agg #[.slice a0 n0 k0, .int .i64 X.fNextName]] w fun e w' => ∃ (g0 : Nat) (F : List Reg), e = .returned (.agg #[.slice (some ⟨g0, 0, none⟩) n0 n0, .int .i64 X.fNextName]) ∧ diskRep.own w' w.heap.size X ((some ⟨g0, 0, none⟩, n0, n0), ()) F ∧ Below w.heap.size w w' := by
  obtain ⟨⟨h0, hc0⟩, r1, -⟩ := h
  exact (toV_disk a0 n0 k0 X.fFiles X.fNextName w h0 r1 hw).mono fun e w' h => by
    obtain ⟨g0, F0, he, ho, hb⟩ := h
    exact ⟨g0, _, he, ho, hb⟩
theorem eqD_disk (X Y : DiskD) (a0 : Option Addr) (n0 k0 : Nat) (b0 : Option Addr) (m0 d0 : Nat) (w : World) (h : diskRep.inn w X ((a0, n0, k0), ())) (h' : diskRep.inn w Y ((b0, m0, d0), ())) :
    Calls Try.prog 16 #[.agg #[.slice a0 n0 k0, .int .i64 X.fNextName], .agg #[.slice b0 m0 d0, .int .i64 Y.fNextName]] w fun e w' => e = .returned (.bool (decide (X = Y))) ∧ Below w.heap.size w w' := by
  obtain ⟨⟨h0, hc0⟩, r1, -⟩ := h
  obtain ⟨⟨h'0, hc'0⟩, r'1, -⟩ := h'
  exact eqV_disk a0 n0 k0 X.fFiles X.fNextName b0 m0 d0 Y.fFiles Y.fNextName w h0 h'0
theorem mkD_disk (B : Nat) (X : DiskD) (a0 : Option Addr) (n0 k0 : Nat) (F : List Reg) (q : Int) (w : World) (h : diskRep.own w B X ((a0, n0, k0), ()) F) (hq0 : 0 ≤ q) (hq1 : q + 64 * (wtDisk X : Int) ≤ 1000000000000) :
    Calls Try.prog 19 #[.agg #[.slice a0 n0 k0, .int .i64 X.fNextName], .int .i64 q] w fun e w' => e = .returned (.int .i64 (q + (diskMkV.cnt X : Nat))) ∧ diskRep.own w' B (diskMkV.mark q X) ((a0, n0, k0), ()) F ∧ OnlyAt F w w' :=
  mkV_disk B a0 n0 k0 X.fFiles X.fNextName F q w h hq0 hq1
theorem hdD_disk (X : DiskD) (a0 : Option Addr) (n0 k0 : Nat) (q : Int) (w : World) (h : diskRep.inn w (diskMkV.mark q X) ((a0, n0, k0), ())) (hq0 : 0 ≤ q) (hq1 : q + 64 * (wtDisk X : Int) ≤ 1000000000000) :
    Calls Try.prog 20 #[.agg #[.slice a0 n0 k0, .int .i64 X.fNextName], .int .i64 q] w fun e w' => e = .returned (.int .i64 (q + (diskMkV.cnt X : Nat))) ∧ Below w.heap.size w w' :=
  hdV_disk a0 n0 k0 X.fFiles X.fNextName q w h hq0 hq1
theorem cntV_disk (X : DiskD) : diskMkV.cnt X ≤ 64 * wtDisk X := by
  have h0 := cnt_files X.fFiles
  show filesMk.cnt X.fFiles ≤ 64 * (wtFiles X.fFiles)
  omega
end Go.Proofs.Ythbifibnnhikjaa
/- Slices of rows among the arguments: from the reading to the mathematics; no function of program or reference is walked here. -/
namespace Go.Proofs.Ythbifibnnhikjaa
open Go Go.ChangeShapes Go.WideShapes Go.RowKit

set_option maxRecDepth 100000 in
theorem Opens.rows : Opens 38 (seqRep rowRep) := Opens.seq Try.underlying38 lawRowCells (by decide) Opens.row
end Go.Proofs.Ythbifibnnhikjaa
/- Page among the arguments; no function of program or reference is walked here. -/
namespace Go.Proofs.Ythbifibnnhikjaa
open Go.RowKit
set_option linter.unusedVariables false

theorem lawPageCells : Try.prog.cellsOf 40 = 1 := by kernel_rfl
set_option maxRecDepth 100000 in
theorem Opens.page : Opens 40 pageRep := by
  intro H enc w spare held fuel cs x h hl
  obtain ⟨xs, m, -, -, -, hxl, hf⟩ := DataW.trod_struct Try.underlying40 h
  match cs, hl with
  | [c0], _ =>
    obtain ⟨z0, q0⟩ := field_at hf hxl 0 _ rfl 0 1 rfl (by kernel_rfl)
    have q0 : DataW.trod enc Try.prog w 0 spare held m 38 [c0] = some z0 := q0
    obtain ⟨y0, g0, e0, i0⟩ := Opens.rows H enc w spare held m _ _ q0 rfl
    simp [seqRep] at e0
    subst e0
    exact ⟨y0, g0, rfl, i0⟩
set_option maxRecDepth 100000 in
theorem Opens.pages : Opens 80 (seqRep pageRep) := Opens.seq Try.underlying80 lawPageCells (by decide) Opens.page
set_option maxRecDepth 100000 in
theorem openD_page {H : Type} {enc : TypeId × Value → H} {w : World} {spare : Nat → Bool} {held : Bool} {q : Reach} {b0 : Nat} {v : Value} {d : DataW H} {p : List MemPlace} (hv : Value.okWide Try.prog w q b0 40 v) (h : DataW.Trod enc Try.prog w 0 spare held 40 v d p) :
    ∃ (a0 : Option Addr) (n0 c0 : Nat) (y : List R), v = .agg #[.slice a0 n0 c0] ∧ pageRep.inn w y (a0, n0, c0) := by
  obtain ⟨y, ⟨a0, n0, c0⟩, e, hi⟩ := Opens.page.val Try.underlying40 lawPageCells hv h
  exact ⟨a0, n0, c0, y, e, hi⟩
end Go.Proofs.Ythbifibnnhikjaa
/- File among the arguments; no function of program or reference is walked here. -/
namespace Go.Proofs.Ythbifibnnhikjaa
open Go.RowKit
set_option linter.unusedVariables false

theorem lawFileCells : Try.prog.cellsOf 82 = 4 := by kernel_rfl
set_option maxRecDepth 100000 in
theorem Opens.file : Opens 82 fileRep := by
  intro H enc w spare held fuel cs x h hl
  obtain ⟨xs, m, -, -, -, hxl, hf⟩ := DataW.trod_struct Try.underlying82 h
  match cs, hl with
  | [c0, c1, c2, c3], _ =>
    obtain ⟨z0, q0⟩ := field_at hf hxl 0 _ rfl 0 1 rfl (by kernel_rfl)
    have q0 : DataW.trod enc Try.prog w 0 spare held m 3 [c0] = some z0 := q0
    obtain ⟨y0, e0, -, w0⟩ := DataW.trod_int Try.underlying3 q0
    simp at e0
    subst e0
    obtain ⟨z1, q1⟩ := field_at hf hxl 1 _ rfl 1 1 rfl (by kernel_rfl)
    have q1 : DataW.trod enc Try.prog w 0 spare held m 80 [c1] = some z1 := q1
    obtain ⟨y1, g1, e1, i1⟩ := Opens.pages H enc w spare held m _ _ q1 rfl
    simp [seqRep] at e1
    subst e1
    obtain ⟨z2, q2⟩ := field_at hf hxl 2 _ rfl 2 1 rfl (by kernel_rfl)
    have q2 : DataW.trod enc Try.prog w 0 spare held m 3 [c2] = some z2 := q2
    obtain ⟨y2, e2, -, w2⟩ := DataW.trod_int Try.underlying3 q2
    simp at e2
    subst e2
    obtain ⟨z3, q3⟩ := field_at hf hxl 3 _ rfl 3 1 rfl (by kernel_rfl)
    have q3 : DataW.trod enc Try.prog w 0 spare held m 4 [c3] = some z3 := q3
    obtain ⟨y3, e3, -⟩ := DataW.trod_bool Try.underlying4 q3
    simp at e3
    subst e3
    exact ⟨⟨y0, y1, y2, y3⟩, (g1, ()), rfl, ⟨bounds_i64 w0, i1, bounds_i64 w2, trivial⟩⟩
set_option maxRecDepth 100000 in
theorem Opens.files : Opens 24 (seqRep fileRep) := Opens.seq Try.underlying24 lawFileCells (by decide) Opens.file
set_option maxRecDepth 100000 in
theorem openD_file {H : Type} {enc : TypeId × Value → H} {w : World} {spare : Nat → Bool} {held : Bool} {q : Reach} {b0 : Nat} {v : Value} {d : DataW H} {p : List MemPlace} (hv : Value.okWide Try.prog w q b0 82 v) (h : DataW.Trod enc Try.prog w 0 spare held 82 v d p) :
    ∃ (a0 : Option Addr) (n0 c0 : Nat) (y : FileD), v = .agg #[.int .i64 y.fName, .slice a0 n0 c0, .int .i64 y.fChecksum, .bool y.fSealed] ∧ fileRep.inn w y ((a0, n0, c0), ()) := by
  obtain ⟨y, ⟨⟨a0, n0, c0⟩, ⟨⟩⟩, e, hi⟩ := Opens.file.val Try.underlying82 lawFileCells hv h
  exact ⟨a0, n0, c0, y, e, hi⟩
end Go.Proofs.Ythbifibnnhikjaa
/- Disk among the arguments; no function of program or reference is walked here. -/
namespace Go.Proofs.Ythbifibnnhikjaa
open Go.RowKit
set_option linter.unusedVariables false

theorem lawDiskCells : Try.prog.cellsOf 26 = 2 := by kernel_rfl
set_option maxRecDepth 100000 in
theorem Opens.disk : Opens 26 diskRep := by
  intro H enc w spare held fuel cs x h hl
  obtain ⟨xs, m, -, -, -, hxl, hf⟩ := DataW.trod_struct Try.underlying26 h
  match cs, hl with
  | [c0, c1], _ =>
    obtain ⟨z0, q0⟩ := field_at hf hxl 0 _ rfl 0 1 rfl (by kernel_rfl)
    have q0 : DataW.trod enc Try.prog w 0 spare held m 24 [c0] = some z0 := q0
    obtain ⟨y0, g0, e0, i0⟩ := Opens.files H enc w spare held m _ _ q0 rfl
    simp [seqRep] at e0
    subst e0
    obtain ⟨z1, q1⟩ := field_at hf hxl 1 _ rfl 1 1 rfl (by kernel_rfl)
    have q1 : DataW.trod enc Try.prog w 0 spare held m 3 [c1] = some z1 := q1
    obtain ⟨y1, e1, -, w1⟩ := DataW.trod_int Try.underlying3 q1
    simp at e1
    subst e1
    exact ⟨⟨y0, y1⟩, (g0, ()), rfl, ⟨i0, bounds_i64 w1, trivial⟩⟩
set_option maxRecDepth 100000 in
theorem openD_disk {H : Type} {enc : TypeId × Value → H} {w : World} {spare : Nat → Bool} {held : Bool} {q : Reach} {b0 : Nat} {v : Value} {d : DataW H} {p : List MemPlace} (hv : Value.okWide Try.prog w q b0 26 v) (h : DataW.Trod enc Try.prog w 0 spare held 26 v d p) :
    ∃ (a0 : Option Addr) (n0 c0 : Nat) (y : DiskD), v = .agg #[.slice a0 n0 c0, .int .i64 y.fNextName] ∧ diskRep.inn w y ((a0, n0, c0), ()) := by
  obtain ⟨y, ⟨⟨a0, n0, c0⟩, ⟨⟩⟩, e, hi⟩ := Opens.disk.val Try.underlying26 lawDiskCells hv h
  exact ⟨a0, n0, c0, y, e, hi⟩
end Go.Proofs.Ythbifibnnhikjaa
/- Spill files: the checksum, valid disks and what each operation answers, as mathematics; no function of program or reference is walked here. -/
namespace Go.Proofs.Ythbifibnnhikjaa
open Go.RowKit
set_option linter.unusedVariables false

def ckStep (n : Nat) (b : UInt8) : Nat := (n * 37 + b.toNat + 1) % 65521
/-- The checksum of bytes. -/
def ck (l : List UInt8) : Nat := l.foldl ckStep 11
theorem ckFold_lt : ∀ (l : List UInt8) (n : Nat), n < 65521 → l.foldl ckStep n < 65521
  | [], _, h => h
  | b :: l, n, h => ckFold_lt l _ (Nat.mod_lt _ (by decide))
theorem ck_lt (l : List UInt8) : ck l < 65521 := ckFold_lt l 11 (by decide)
theorem ck_next (l : List UInt8) (t : Nat) (h : t < l.length) : ck (l.take (t + 1)) = ckStep (ck (l.take t)) l[t] := by
  unfold ck
  rw [List.take_succ_eq_append_getElem h, List.foldl_append]
  rfl
/-- All pages are valid, and the checksum of an unsealed file is 0. -/
def FileD.ok (f : FileD) : Bool := R.allPages f.fPages && (f.fSealed || decide (f.fChecksum = 0))
/-- It is sealed and its checksum is that of its pages. -/
def FileD.whole (f : FileD) : Bool := f.fSealed && decide (f.fChecksum = (ck (R.fmtPages f.fPages) : Int))
theorem flat_wt (P : List (List R)) : P.flatten.length ≤ wtPages P := by
  unfold wtPages wtAll
  induction P with
  | nil => exact Nat.le_refl _
  | cons p P ih =>
    have h3 : wtPage p = p.length := rfl
    simp only [List.map_cons, List.sum_cons, List.length_cons, List.flatten_cons, List.length_append] at ih ⊢
    omega
namespace DiskD
def count (F : List FileD) : Nat := (F.map fun f => f.fPages.length).sum
theorem count_next (F : List FileD) (t : Nat) (h : t < F.length) : count (F.take (t + 1)) = count (F.take t) + F[t].fPages.length := sum_next _ F t h
theorem count_take (F : List FileD) (t : Nat) : count (F.take t) ≤ count F := sum_take _ F t
theorem count_wt (F : List FileD) : count F ≤ wtFiles F := by
  unfold count wtFiles wtAll
  induction F with
  | nil => exact Nat.le_refl _
  | cons f F ih =>
    have h1 : f.fPages.length ≤ wtFile f := wt_page_len f.fPages
    simp only [List.map_cons, List.sum_cons, List.length_cons] at ih ⊢
    omega
theorem count_cons (f : FileD) (F : List FileD) : count (f :: F) = f.fPages.length + count F := by simp [count]
theorem count_append (F G : List FileD) : count (F ++ G) = count F + count G := by simp [count]
/-- The least name that the next file may have. -/
def low (F : List FileD) : Nat → Int
  | 0 => 0
  | t + 1 => (F[t]?.map fun f => f.fName + 1).getD 0
def okAt (nx : Int) (F : List FileD) (t : Nat) : Bool := match F[t]? with
  | some f => decide (low F t ≤ f.fName ∧ f.fName < nx) && f.ok
  | none => true
/-- A valid disk. -/
def okD (d : DiskD) : Bool := decide (0 ≤ d.fNextName ∧ d.fNextName ≤ 1000) && decide (count d.fFiles ≤ 40) && (List.range d.fFiles.length).all (okAt d.fNextName d.fFiles)
theorem okAt_some {nx : Int} {F : List FileD} {t : Nat} {f : FileD} (h : F[t]? = some f) : okAt nx F t = (decide (low F t ≤ f.fName ∧ f.fName < nx) && f.ok) := by unfold okAt; rw [h]
theorem low_next {F : List FileD} {t : Nat} {f : FileD} (h : F[t]? = some f) : low F (t + 1) = f.fName + 1 := by show (F[t]?.map _).getD 0 = _; rw [h]; rfl
theorem okD_bad {d : DiskD} {t : Nat} (ht : t < d.fFiles.length) (h : okAt d.fNextName d.fFiles t = false) : okD d = false := by
  unfold okD
  have : (List.range d.fFiles.length).all (okAt d.fNextName d.fFiles) = false := by
    rw [List.all_eq_false]
    exact ⟨t, List.mem_range.2 ht, by rw [h]; simp⟩
  rw [this, Bool.and_false]
theorem okD_all {d : DiskD} (h : ∀ t, t < d.fFiles.length → okAt d.fNextName d.fFiles t = true) : okD d = (decide (0 ≤ d.fNextName ∧ d.fNextName ≤ 1000) && decide (count d.fFiles ≤ 40)) := by
  unfold okD
  rw [List.all_eq_true.2 fun t ht => h t (List.mem_range.1 ht), Bool.and_true]
/-- The same, said file by file. -/
structure Ok (d : DiskD) : Prop where
  lo : 0 ≤ d.fNextName
  hi : d.fNextName ≤ 1000
  few : count d.fFiles ≤ 40
  each : ∀ f ∈ d.fFiles, 0 ≤ f.fName ∧ f.fName < d.fNextName ∧ f.ok = true
  asc : ∀ (i j : Nat) (f g : FileD), d.fFiles[i]? = some f → d.fFiles[j]? = some g → i < j → f.fName < g.fName
theorem Ok.of {d : DiskD} (h : okD d = true) : Ok d := by
  unfold okD at h
  rw [Bool.and_eq_true, Bool.and_eq_true, decide_eq_true_eq, decide_eq_true_eq, List.all_eq_true] at h
  obtain ⟨⟨⟨h1, h2⟩, h3⟩, h4⟩ := h
  have key : ∀ (t : Nat) (f : FileD), d.fFiles[t]? = some f → low d.fFiles t ≤ f.fName ∧ f.fName < d.fNextName ∧ f.ok = true := fun t f ht => by
    have := h4 t (List.mem_range.2 (idx_lt ht))
    rw [okAt_some ht, Bool.and_eq_true, decide_eq_true_eq] at this
    exact ⟨this.1.1, this.1.2, this.2⟩
  have pos : ∀ (t : Nat) (f : FileD), d.fFiles[t]? = some f → 0 ≤ f.fName := by
    intro t
    induction t with
    | zero => intro f hf; exact (key 0 f hf).1
    | succ t ih =>
      intro f hf
      have hl : t < d.fFiles.length := by have := idx_lt hf; omega
      obtain ⟨g, hg⟩ : ∃ g, d.fFiles[t]? = some g := ⟨d.fFiles[t], by simp [hl]⟩
      have h5 := ih g hg
      have h6 := (key (t + 1) f hf).1
      rw [low_next hg] at h6
      omega
  refine ⟨h1, h2, h3, fun f hf => ?_, ?_⟩
  · obtain ⟨t, ht, rfl⟩ := List.getElem_of_mem hf
    have hg : d.fFiles[t]? = some d.fFiles[t] := by simp [ht]
    exact ⟨pos t _ hg, (key t _ hg).2⟩
  · intro i j
    induction j with
    | zero => intro f g _ _ h; omega
    | succ j ih =>
      intro f g hf hg hij
      have hl : j < d.fFiles.length := by have := idx_lt hg; omega
      obtain ⟨e, he⟩ : ∃ e, d.fFiles[j]? = some e := ⟨d.fFiles[j], by simp [hl]⟩
      have h6 := (key (j + 1) g hg).1
      rw [low_next he] at h6
      rcases Nat.lt_or_ge i j with h7 | h7
      · have := ih f e hf he h7; omega
      · obtain rfl : i = j := by omega
        rw [hf] at he
        cases he
        omega
theorem Ok.yes {d : DiskD} (h : Ok d) : okD d = true := by
  unfold okD
  rw [Bool.and_eq_true, Bool.and_eq_true, decide_eq_true_eq, decide_eq_true_eq, List.all_eq_true]
  refine ⟨⟨⟨h.lo, h.hi⟩, h.few⟩, fun t ht => ?_⟩
  have htl := List.mem_range.1 ht
  have hg : d.fFiles[t]? = some d.fFiles[t] := by simp [htl]
  obtain ⟨h1, h2, h3⟩ := h.each _ (List.getElem_mem htl)
  rw [okAt_some hg, Bool.and_eq_true, decide_eq_true_eq]
  refine ⟨⟨?_, h2⟩, h3⟩
  cases t with
  | zero => exact h1
  | succ t =>
    have hf : d.fFiles[t]? = some d.fFiles[t] := by simp
    rw [low_next hf]
    have := h.asc t (t + 1) _ _ hf hg (Nat.lt_succ_self t)
    omega
/-- The first file of this name. -/
def at? (F : List FileD) (name : Int) : Option Nat := F.findIdx? fun f => decide (f.fName = name)
def atI (F : List FileD) (name : Int) : Int := match at? F name with
  | some k => k
  | none => -1
theorem at_some {F : List FileD} {name : Int} {k : Nat} (h : at? F name = some k) : ∃ f, F[k]? = some f ∧ f.fName = name := by
  obtain ⟨hk, h1, -⟩ := List.findIdx?_eq_some_iff_getElem.1 h
  exact ⟨F[k], by simp [hk], of_decide_eq_true h1⟩
theorem at_hit {F : List FileD} {name : Int} {k : Nat} {f : FileD} (hk : F[k]? = some f) (hf : f.fName = name) (hb : ∀ (s : Nat) (g : FileD), s < k → F[s]? = some g → g.fName ≠ name) : at? F name = some k := by
  have hkl := idx_lt hk
  have he : F[k] = f := by rw [List.getElem?_eq_getElem hkl] at hk; exact Option.some.inj hk
  refine List.findIdx?_eq_some_iff_getElem.2 ⟨hkl, by rw [he]; exact decide_eq_true hf, fun s hs => ?_⟩
  have := hb s F[s] hs (by simp)
  simpa using this
theorem at_miss {F : List FileD} {name : Int} (h : ∀ (s : Nat) (g : FileD), F[s]? = some g → g.fName ≠ name) : at? F name = none := by
  refine List.findIdx?_eq_none_iff.2 fun f hf => ?_
  obtain ⟨t, ht, rfl⟩ := List.getElem_of_mem hf
  exact decide_eq_false (h t _ (by simp [ht]))
theorem at_none {F : List FileD} {name : Int} (h : at? F name = none) : ∀ f ∈ F, f.fName ≠ name := fun f hf => of_decide_eq_false (List.findIdx?_eq_none_iff.1 h f hf)
/-- The file that an operation on a valid disk reaches. -/
def file (d : DiskD) (name : Int) : Option (Nat × FileD) := if okD d then (at? d.fFiles name).bind fun k => d.fFiles[k]?.map fun f => (k, f) else none
theorem file_bad {d : DiskD} {name : Int} (h : okD d = false) : file d name = none := by unfold file; rw [h]; rfl
theorem file_none {d : DiskD} {name : Int} (h : at? d.fFiles name = none) : file d name = none := by unfold file; rw [h]; split <;> rfl
theorem file_some {d : DiskD} {name : Int} {k : Nat} {f : FileD} (ho : okD d = true) (h : at? d.fFiles name = some k) (hf : d.fFiles[k]? = some f) : file d name = some (k, f) := by unfold file; rw [if_pos ho, h]; show d.fFiles[k]?.map _ = _; rw [hf]; rfl
theorem of_file {d : DiskD} {name : Int} {k : Nat} {f : FileD} (h : file d name = some (k, f)) : okD d = true ∧ at? d.fFiles name = some k ∧ d.fFiles[k]? = some f ∧ f.fName = name := by
  unfold file at h
  split at h
  · rename_i ho
    cases hk : at? d.fFiles name with
    | none => rw [hk] at h; cases h
    | some j =>
      obtain ⟨g, hg, hn⟩ := at_some hk
      rw [hk] at h
      have h' : (d.fFiles[j]?.map fun f => (j, f)) = some (k, f) := h
      rw [hg] at h'
      have h2 := Option.some.inj h'
      have h3 : j = k := congrArg Prod.fst h2
      have h4 : g = f := congrArg Prod.snd h2
      subst h3 h4
      exact ⟨ho, rfl, hg, hn⟩
  · cases h
def create (d : DiskD) : Option DiskD := if okD d && decide (d.fNextName < 1000) then some ⟨d.fFiles ++ [⟨d.fNextName, [], 0, false⟩], d.fNextName + 1⟩ else none
def appendTo (d : DiskD) (name : Int) (p : List R) : Option DiskD := (file d name).bind fun kf => if !kf.2.fSealed && R.pageOk p && decide (count d.fFiles ≠ 40) then some ⟨d.fFiles.set kf.1 { kf.2 with fPages := kf.2.fPages ++ [p] }, d.fNextName⟩ else none
def sealF (d : DiskD) (name : Int) : Option DiskD := (file d name).bind fun kf => if kf.2.fSealed then none else some ⟨d.fFiles.set kf.1 { kf.2 with fChecksum := ck (R.fmtPages kf.2.fPages), fSealed := true }, d.fNextName⟩
def read (d : DiskD) (name : Int) : Option (List R) := (file d name).bind fun kf => if kf.2.whole then some kf.2.fPages.flatten else none
def delete (d : DiskD) (name : Int) : Option DiskD := (file d name).map fun kf => ⟨d.fFiles.eraseIdx kf.1, d.fNextName⟩
def purge (d : DiskD) : DiskD := ⟨if okD d then d.fFiles.filter FileD.whole else [], d.fNextName⟩
theorem count_mem {F : List FileD} {f : FileD} (h : f ∈ F) : f.fPages.length ≤ count F := by
  obtain ⟨t, ht, rfl⟩ := List.getElem_of_mem h
  have h1 := count_next F t ht
  have h2 := count_take F (t + 1)
  omega
/-- A valid disk is small. -/
theorem ok_page_len {p : List R} (h : R.pageOk p = true) : p.length ≤ 24 := by
  unfold R.pageOk okRows at h
  simp only [Bool.and_eq_true, decide_eq_true_eq] at h
  exact h.1.1
theorem Ok.len {d : DiskD} (h : Ok d) : d.fFiles.length ≤ 1000 := by
  have key : ∀ (t : Nat), t < d.fFiles.length → ∀ (f : FileD), d.fFiles[t]? = some f → (t : Int) ≤ f.fName := by
    intro t
    induction t with
    | zero => intro _ f hf; exact (h.each f (List.mem_of_getElem? hf)).1
    | succ t ih =>
      intro ht f hf
      have hg : d.fFiles[t]? = some d.fFiles[t] := by simp
      have h1 := ih (by omega) _ hg
      have h2 := h.asc t (t + 1) _ _ hg hf (Nat.lt_succ_self t)
      omega
  rcases Nat.eq_zero_or_pos d.fFiles.length with h0 | h0
  · omega
  · have hl : d.fFiles.length - 1 < d.fFiles.length := by omega
    have hg : d.fFiles[d.fFiles.length - 1]? = some d.fFiles[d.fFiles.length - 1] := by simp [hl]
    have h1 := key _ hl _ hg
    have h2 := (h.each _ (List.getElem_mem hl)).2.1
    have h3 := h.hi
    omega
theorem wt_pages_ok {P : List (List R)} (h : R.allPages P = true) : wtPages P ≤ 25 * P.length := by
  unfold R.allPages at h
  rw [List.all_eq_true] at h
  unfold wtPages wtAll
  induction P with
  | nil => exact Nat.le_refl _
  | cons p P ih =>
    have h1 := ok_page_len (h p (List.mem_cons_self ..))
    have h2 := ih fun q hq => h q (List.mem_cons_of_mem _ hq)
    have h3 : wtPage p = p.length := rfl
    simp only [List.map_cons, List.sum_cons, List.length_cons] at h2 ⊢
    omega
theorem wt_files_ok {F : List FileD} (h : ∀ f ∈ F, f.ok = true) : wtFiles F ≤ F.length + 25 * count F := by
  unfold wtFiles wtAll count
  induction F with
  | nil => exact Nat.le_refl _
  | cons f F ih =>
    have h1 : wtFile f ≤ 25 * f.fPages.length := wt_pages_ok (by
      have := h f (List.mem_cons_self ..)
      unfold FileD.ok at this
      rw [Bool.and_eq_true] at this
      exact this.1)
    have h2 := ih fun g hg => h g (List.mem_cons_of_mem _ hg)
    simp only [List.map_cons, List.sum_cons, List.length_cons] at h2 ⊢
    omega
theorem Ok.wt {d : DiskD} (h : Ok d) : wtDisk d ≤ 2000 := by
  have h1 := wt_files_ok (F := d.fFiles) fun f hf => (h.each f hf).2.2
  have h2 := h.few
  have h3 := h.len
  show wtFiles d.fFiles ≤ 2000
  omega
theorem count_set {F : List FileD} {k : Nat} {f : FileD} (h : F[k]? = some f) (f' : FileD) : count (F.set k f') + f.fPages.length = count F + f'.fPages.length := by
  have hk := idx_lt h
  have he : F[k] = f := by rw [List.getElem?_eq_getElem hk] at h; exact Option.some.inj h
  have e1 : F = F.take k ++ F[k] :: F.drop (k + 1) := by rw [← List.drop_eq_getElem_cons hk, List.take_append_drop]
  have e2 : F.set k f' = F.take k ++ f' :: F.drop (k + 1) := by rw [List.set_eq_take_append_cons_drop, if_pos hk]
  have c1 : count F = count (F.take k) + (f.fPages.length + count (F.drop (k + 1))) := by conv => lhs; rw [e1, he, count_append, count_cons]
  have c2 : count (F.set k f') = count (F.take k) + (f'.fPages.length + count (F.drop (k + 1))) := by rw [e2, count_append, count_cons]
  omega
/-- One file is changed, its name is not. -/
theorem Ok.set {d : DiskD} (h : Ok d) {k : Nat} {f f' : FileD} (hk : d.fFiles[k]? = some f) (hn : f'.fName = f.fName) (ho : f'.ok = true) (hc : count (d.fFiles.set k f') ≤ 40) : Ok ⟨d.fFiles.set k f', d.fNextName⟩ := by
  have hkl := idx_lt hk
  have hget : ∀ (i : Nat) (g : FileD), (d.fFiles.set k f')[i]? = some g → ∃ g0, d.fFiles[i]? = some g0 ∧ g.fName = g0.fName := fun i g hg => by
    by_cases hik : k = i
    · subst hik
      rw [List.getElem?_set_self hkl] at hg
      cases hg
      exact ⟨f, hk, hn⟩
    · rw [List.getElem?_set_ne hik] at hg
      exact ⟨g, hg, rfl⟩
  refine ⟨h.lo, h.hi, hc, fun g hg => ?_, fun i j a b ha hb hij => ?_⟩
  · rcases List.mem_or_eq_of_mem_set hg with hg | rfl
    · exact h.each g hg
    · obtain ⟨h1, h2, -⟩ := h.each f (List.mem_of_getElem? hk)
      show 0 ≤ g.fName ∧ g.fName < d.fNextName ∧ g.ok = true
      rw [hn]
      exact ⟨h1, h2, ho⟩
  · obtain ⟨a0, ha0, ea⟩ := hget i a ha
    obtain ⟨b0, hb0, eb⟩ := hget j b hb
    rw [ea, eb]
    exact h.asc i j a0 b0 ha0 hb0 hij
theorem count_sub {F G : List FileD} (h : G.Sublist F) : count G ≤ count F := by
  induction h with
  | slnil => exact Nat.le_refl _
  | cons f _ ih => rw [count_cons]; omega
  | cons_cons f _ ih => rw [count_cons, count_cons]; omega
end DiskD
end Go.Proofs.Ythbifibnnhikjaa
/- The reference's IsValidRow and RowCost, by contract. -/
namespace Go.Proofs.Ythbifibnnhikjaa
open Go.RowKit

theorem sin (n a b : Int) (w : World) : Calls Try.prog 34 #[.int .i64 n, .int .i64 a, .int .i64 b] w fun e w' => e = .returned (.bool (decide (a ≤ n ∧ n ≤ b))) ∧ w = w' := by
  go_enter Try.func34, Try.ntmps34
  go_wp2
  all_goals go_ret
  all_goals simp_all
  all_goals omega
theorem svalid (r : R) (w : World) : Calls Try.prog 78 #[r.val] w fun e w' => e = .returned (.bool r.ok) ∧ Below w.heap.size w w' := by
  obtain ⟨k, v, d⟩ := r
  unfold R.val
  go_enter Try.func78, Try.ntmps78
  go_wp2_with fail
  refine (sin _ _ _ _).mono ?_
  rintro e w1 ⟨rfl, rfl⟩
  go_wp2_with fail
  case isTrue =>
    refine (sin _ _ _ _).mono ?_
    rintro e w1 ⟨rfl, rfl⟩
    go_wp2_with fail
    case isTrue =>
      refine (sin _ _ _ _).mono ?_
      rintro e w1 ⟨rfl, rfl⟩
      go_wp2_with fail
      all_goals go_ret
      all_goals refine ⟨?_, (Below.refl _ _).alloc (Nat.le_refl _) _⟩
      all_goals simp_all [R.ok]
    all_goals go_ret
    all_goals refine ⟨?_, (Below.refl _ _).alloc (Nat.le_refl _) _⟩
    all_goals simp_all [R.ok]
    all_goals omega
  all_goals go_ret
  all_goals refine ⟨?_, (Below.refl _ _).alloc (Nat.le_refl _) _⟩
  all_goals simp_all [R.ok]
  all_goals omega
theorem scost (r : R) (hr : r.wf) (w : World) : Calls Try.prog 79 #[r.val] w fun e w' => e = .returned (.int .i64 r.cost) ∧ Below w.heap.size w w' := by
  have hw := hr.2.2
  have H := Lib.hid (svalid r)
  cases hok : r.ok with
  | true =>
    have hc : r.cost = 1 + r.width := by unfold R.cost; rw [hok]; rfl
    have hk := R.ok_iff.1 hok
    rw [hc]
    unfold R.val
    go_enter Try.func79, Try.ntmps79
    go_wp2_with fail
    refine (H.out _).mono ?_
    rintro e w1 ⟨rfl, b1⟩
    obtain ⟨⟨c0, c1, c2⟩, b2⟩ := box_row (r := r) b1
    rw [hok]
    simp only [Nat.zero_add] at c2
    go_wp2_with fail
    go_ret
    exact ⟨rfl, b2⟩
  | false =>
    have hc : r.cost = 0 := by unfold R.cost; rw [hok]; rfl
    rw [hc]
    unfold R.val
    go_enter Try.func79, Try.ntmps79
    go_wp2_with fail
    refine (H.out _).mono ?_
    rintro e w1 ⟨rfl, b1⟩
    obtain ⟨⟨c0, c1, c2⟩, b2⟩ := box_row (r := r) b1
    rw [hok]
    go_wp2_with fail
    go_ret
    exact ⟨rfl, b2⟩
end Go.Proofs.Ythbifibnnhikjaa
/- The reference's AreValidRows and TotalCost, by contract. -/
namespace Go.Proofs.Ythbifibnnhikjaa
open Go.RowKit

set_option maxRecDepth 100000 in
theorem sare (a : Option Addr) (len cap : Nat) (L : List R) (w : World) (h : IsRows w a len L) (hlen : len ≤ 9223372036854775807) :
    Calls Try.prog 64 #[.slice a len cap] w fun e w' => e = .returned (.bool (okRows L)) ∧ Below w.heap.size w w' := by
  obtain ⟨hl, hwf, hc⟩ := h
  have HL := Lib.hid hl
  have HC := Lib.hid hc
  clear hl hwf hc
  go_enter Try.func64, Try.ntmps64
  go_wp2_with fail
  go_loopw [3] (fun i wr => ∃ k : Nat, i = .int .i64 k ∧ k ≤ len ∧ Hid (allOk (L.take k) = true) ∧ Hid (Below w.heap.size w wr)) (fun i _ => len - (intOf i).toNat)
  case atStart => exact ⟨0, rfl, Nat.zero_le _, rfl, Below.refl _ _⟩
  case round =>
    obtain ⟨k, rfl, hk, hok, hb⟩ := hrel
    by_cases hlt : k < len
    · obtain ⟨b, o, rfl, hbl, hc⟩ : ∃ b o : Nat, a = some ⟨b, o, none⟩ ∧ b < w.heap.size ∧ ∀ t, t < len → RowAt w b (o + t * 3) (L.getD t R.zero) := by
        rcases HC.out with h0 | h0
        · omega
        · exact h0
      obtain ⟨r, hr⟩ : ∃ r, r = L.getD k R.zero := ⟨_, rfl⟩
      have hat : RowAt wr b (o + k * 3) r := by rw [hr]; exact (hc k hlt).below hb.out hbl
      obtain ⟨c0, c1, c2⟩ := hat
      have HR := Lib.hid hr
      clear hr hc
      go_wp2_with fail
      refine (svalid r _).mono ?_
      rintro e w1 ⟨rfl, b1⟩
      have B1 := Lib.hid (hb.out.trans (b1.mono hb.out.size))
      clear b1
      cases hv : r.ok with
      | true =>
        go_wp2_with fail
        go_roundw
        case rel => exact ⟨k + 1, by go_num, by omega, by show _ = _; rw [allOk_take L k (by rw [HL.out]; exact hlt), hok.out, ← HR.out, hv]; rfl, B1⟩
        case measure => simp [intOf]; omega
      | false =>
        have hno : okRows L = false := by unfold okRows; rw [allOk_bad L k (by rw [HL.out]; exact hlt) (by rw [← HR.out]; exact hv), Bool.and_false]
        go_wp2_with fail
        go_ret
        exact ⟨by rw [hno]; rfl, B1.out⟩
    · have hkl : k = len := by omega
      have hall : okRows L = decide ((len : Int) ≤ 24) := by
        have : allOk L = true := by have := hok.out; rwa [hkl, ← HL.out, List.take_length] at this
        unfold okRows; rw [this, Bool.and_true, HL.out]
        simp; omega
      clear hkl
      have HA := Lib.hid hall
      clear hall
      go_wp2_with fail
      go_ret
      exact ⟨by rw [HA.out]; rfl, hb.out⟩
set_option maxRecDepth 100000 in
theorem stotal (a : Option Addr) (len cap : Nat) (L : List R) (w : World) (h : IsRows w a len L) (hlen : len ≤ 1000000000000) :
    Calls Try.prog 65 #[.slice a len cap] w fun e w' => e = .returned (.int .i64 (total L)) ∧ Below w.heap.size w w' := by
  have HW := Lib.hid h.wf
  obtain ⟨hl, -, hc⟩ := h
  have HL := Lib.hid hl
  have HC := Lib.hid hc
  clear hl hc
  go_enter Try.func65, Try.ntmps65
  go_wp2_with fail
  go_loopw [3, 4] (fun n i wr => ∃ (k : Nat) (v : Int), n = .int .i64 v ∧ i = .int .i64 k ∧ k ≤ len ∧ 0 ≤ v ∧ v ≤ 4 * k ∧ Hid (total (L.take k) = v) ∧ Hid (Below w.heap.size w wr)) (fun _ i _ => len - (intOf i).toNat)
  case atStart => exact ⟨0, 0, rfl, rfl, Nat.zero_le _, by omega, by omega, rfl, Below.refl _ _⟩
  case round =>
    obtain ⟨k, v, rfl, rfl, hk, hv0, hv1, hsum, hb⟩ := hrel
    by_cases hlt : k < len
    · obtain ⟨b, o, rfl, hbl, hc⟩ : ∃ b o : Nat, a = some ⟨b, o, none⟩ ∧ b < w.heap.size ∧ ∀ t, t < len → RowAt w b (o + t * 3) (L.getD t R.zero) := by
        rcases HC.out with h0 | h0
        · omega
        · exact h0
      obtain ⟨r, hr⟩ : ∃ r, r = L.getD k R.zero := ⟨_, rfl⟩
      have hat : RowAt wr b (o + k * 3) r := by rw [hr]; exact (hc k hlt).below hb.out hbl
      have hrw : r.wf := by rw [hr]; exact HW.out k hlt
      obtain ⟨c0, c1, c2⟩ := hat
      have HR := Lib.hid hr
      have HRW := Lib.hid hrw
      clear hr hc hrw
      go_wp2_with fail
      refine (scost r HRW.out _).mono ?_
      rintro e w1 ⟨rfl, b1⟩
      have B1 := Lib.hid (hb.out.trans (b1.mono hb.out.size))
      clear b1
      obtain ⟨x, hx⟩ : ∃ x, x = r.cost := ⟨_, rfl⟩
      have hx0 : 0 ≤ x ∧ x ≤ 4 := by rw [hx]; exact r.cost_range
      obtain ⟨hx0, hx4⟩ := hx0
      have HX := Lib.hid hx
      rw [← hx]
      clear hx
      go_wp2_with fail
      go_roundw
      case rel => exact ⟨k + 1, v + x, by go_num, by go_num, by omega, by omega, by omega, by show _ = _; rw [total_take L k (by rw [HL.out]; exact hlt), hsum.out, ← HR.out, HX.out], B1⟩
      case measure => simp [intOf]; omega
    · have hkl : k = len := by omega
      have hall : total L = v := by have := hsum.out; rwa [hkl, ← HL.out, List.take_length] at this
      clear hkl
      have HA := Lib.hid hall
      clear hall
      go_wp2_with fail
      go_ret
      exact ⟨by rw [HA.out]; rfl, hb.out⟩
end Go.Proofs.Ythbifibnnhikjaa
/- A region that draws its order, walked once in the order of its text, for a class of worlds of the prover's own: every operation yields one value in each world of the class and leaves a world of the class (the library's 'wp_region_quiet', met step by step); no function of the program. -/
namespace Go.Proofs.Ythbifibnnhikjaa
open Go Go.RowKit

theorem region_class {P : Program} {id : Nat} {Q : Exit → Act → World → Prop} {a : Act} {w : World} {l : List Oper} (C : World → Prop) (hm : P.follows .mixedOrders = true) (hB : Region.lexB .any l.toArray = true) (hC : C w.drew)
    (h : wpQuiet P l.toArray C (fun a' => ∀ w', C w' → Q .normal a' w') l a) : (Code.region id l.toArray true).wp P Q a w :=
  wp_region_quiet (C := C) hm hB hC (by simpa using h)
end Go.Proofs.Ythbifibnnhikjaa
/- The reference's IsValidPage, by contract. -/
namespace Go.Proofs.Ythbifibnnhikjaa
open Go.RowKit

set_option maxRecDepth 100000 in
theorem svalidpage (a : Option Addr) (n c : Nat) (p : List R) (w : World) (h : SeqIn rowRep w a n p) (hn : n ≤ 1000000000000) :
    Calls Try.prog 46 #[.agg #[.slice a n c]] w fun e w' => e = .returned (.bool (R.pageOk p)) ∧ Below w.heap.size w w' := by
  have b0 : Below w.heap.size w (w.alloc (.cells #[.slice a n c] 46)) := (Below.refl _ _).alloc (Nat.le_refl _) _
  have R0 := Lib.hid (rows_in (h.keep b0))
  have C0 := heap_alloc_new w (.cells #[.slice a n c] 46)
  have HC := Lib.hid C0
  have B0 := Lib.hid b0
  have hsz : w.heap.size < (w.alloc (.cells #[.slice a n c] 46)).heap.size := by simp
  have HV := Lib.hid (show R.pageOk p = (okRows p && decide (1 ≤ total p ∧ total p ≤ 8)) from rfl)
  have HR := Lib.hid (total_range p)
  clear b0 h C0
  go_enter Try.func46, Try.ntmps46
  go_wp2_with fail
  refine (sare a n c p _ R0.out (by omega)).mono ?_
  rintro e w1 ⟨rfl, b1⟩
  have q1 := (b1.block _ hsz).trans HC.out
  have d1 : w1.cell? ⟨w.heap.size, 0, none⟩ = some (.slice a n c) := by simp [World.cell?, q1]
  have R1 := Lib.hid (R0.out.keep b1)
  have B1 := Lib.hid (B0.out.trans (b1.mono B0.out.size))
  clear b1 q1
  cases hok : okRows p with
  | false =>
    have HF := Lib.hid (show R.pageOk p = false by rw [HV.out, hok]; rfl)
    clear hok
    go_wp2_with fail
    go_ret
    exact ⟨by rw [HF.out]; rfl, B1.out⟩
  | true =>
    have HF := Lib.hid (show R.pageOk p = decide (1 ≤ total p ∧ total p ≤ 8) by rw [HV.out, hok]; rfl)
    clear hok
    go_wp2_with fail
    refine (stotal a n c p _ R1.out (by omega)).mono ?_
    rintro e w2 ⟨rfl, b2⟩
    have B2 := Lib.hid (B1.out.trans (b2.mono B1.out.size))
    clear b2
    obtain ⟨T, hT⟩ : ∃ T, T = total p := ⟨_, rfl⟩
    rw [← hT] at HF ⊢
    clear hT
    go_wp2_with fail
    refine (sin T 1 8 _).mono ?_
    rintro e w3 ⟨rfl, rfl⟩
    obtain ⟨z, hz⟩ : ∃ z, z = decide (1 ≤ T ∧ T ≤ 8) := ⟨_, rfl⟩
    rw [← hz] at HF ⊢
    clear hz
    go_wp2_with fail
    go_ret
    exact ⟨by rw [HF.out]; rfl, B2.out⟩
end Go.Proofs.Ythbifibnnhikjaa
/- The reference's check of all pages, by contract. -/
namespace Go.Proofs.Ythbifibnnhikjaa
open Go.RowKit

set_option maxRecDepth 100000 in
theorem sallpages (a : Option Addr) (n c : Nat) (P : List (List R)) (w : World) (h : SeqIn pageRep w a n P) (hf : P.flatten.length ≤ 1000000000000) :
    Calls Try.prog 35 #[.slice a n c] w fun e w' => e = .returned (.bool (R.allPages P)) ∧ Below w.heap.size w w' := by
  have HL := Lib.hid h.1
  have hm := h.2.1
  unfold maxLen at hm
  have HI := Lib.hid h
  obtain ⟨N, hN⟩ : ∃ N, N = P.flatten.length := ⟨_, rfl⟩
  rw [← hN] at hf
  have HN := Lib.hid hN
  clear h hN
  go_enter Try.func35, Try.ntmps35
  go_wp2_with fail
  go_loopw [3] (fun i wr => ∃ t : Nat, i = .int .i64 t ∧ t ≤ n ∧ Hid (R.allPages (P.take t) = true) ∧ Hid (Below w.heap.size w wr)) (fun i _ => n - (RowKit.intOf i).toNat)
  case atStart => exact ⟨0, rfl, Nat.zero_le _, (show R.allPages (P.take 0) = true by simp [R.allPages]), Below.refl _ _⟩
  case round =>
    obtain ⟨t, rfl, ht, hok, hb⟩ := hrel
    by_cases hlt : t < n
    · have htl : t < P.length := by have := HL.out; omega
      have hp : P[t]? = some P[t] := by simp [htl]
      obtain ⟨b, o, d, k, m, rfl, hbl, hcell, hin, -⟩ := (HI.out.keep hb.out).at hp
      have hkn : k ≤ 1000000000000 := by
        have h1 := flat_mem P t htl
        rw [hin.1, ← HN.out] at h1
        omega
      have IN := Lib.hid hin
      have HT := Lib.hid (R.allPages_take htl)
      have HBAD := Lib.hid (R.allPages_bad t htl)
      obtain ⟨p, hpp⟩ : ∃ p, p = P[t] := ⟨_, rfl⟩
      rw [← hpp] at IN HT HBAD
      clear hin hp hpp
      go_wp2_with fail
      refine (svalidpage d k m p _ IN.out hkn).mono ?_
      rintro e w1 ⟨rfl, b1⟩
      have B1 := Lib.hid (hb.out.trans (b1.mono hb.out.size))
      clear b1
      cases hv : R.pageOk p with
      | false =>
        have HF := Lib.hid (HBAD.out hv)
        clear hv
        go_wp2_with fail
        go_ret
        exact ⟨by rw [HF.out]; rfl, B1.out⟩
      | true =>
        have HV := Lib.hid hv
        clear hv
        go_wp2_with fail
        go_roundw
        case rel => exact ⟨t + 1, by go_num, by omega, (by show _ = _; rw [HT.out, hok.out, HV.out]; rfl), B1⟩
        case measure => simp [RowKit.intOf]; omega
    · have hkl : t = n := by omega
      have hall : R.allPages P = true := by
        have := hok.out
        rw [hkl, List.take_of_length_le (by have := HL.out; omega)] at this
        exact this
      have HA := Lib.hid hall
      clear hall hkl
      go_wp2_with fail
      go_ret
      exact ⟨by rw [HA.out]; rfl, hb.out⟩
end Go.Proofs.Ythbifibnnhikjaa
/- The reference's CountPages, l6At and IsValidDisk, by contract. -/
namespace Go.Proofs.Ythbifibnnhikjaa
open Go.RowKit
set_option linter.unusedVariables false

theorem disk_len {w : World} {X : DiskD} {a : Option Addr} {n c : Nat} (h : diskRep.inn w X ((a, n, c), ())) : X.fFiles.length = n ∧ n ≤ maxLen := ⟨h.1.1.1, h.1.1.2.1⟩
theorem disk_in {w : World} {X : DiskD} {a : Option Addr} {n c : Nat} (h : diskRep.inn w X ((a, n, c), ())) : SeqIn fileRep w a n X.fFiles ∧ (a = none → c = 0) ∧ I64 X.fNextName := ⟨h.1.1, h.1.2, h.2.1⟩
set_option maxRecDepth 100000 in
theorem scountp (a : Option Addr) (n c : Nat) (X : DiskD) (w : World) (h : diskRep.inn w X ((a, n, c), ())) (hw : wtDisk X ≤ 1000000000) :
    Calls Try.prog 29 #[.agg #[.slice a n c, .int .i64 X.fNextName]] w fun e w' => e = .returned (.int .i64 (DiskD.count X.fFiles : Nat)) ∧ Below w.heap.size w w' := by
  obtain ⟨W, hW⟩ : ∃ W, W = w.alloc (.cells #[.slice a n c, .int .i64 X.fNextName] 31) := ⟨_, rfl⟩
  have hb : Below w.heap.size w W := by rw [hW]; exact (Below.refl _ _).alloc (Nat.le_refl _) _
  have HB := Lib.hid hb
  have HI := Lib.hid (h.keep hb).1.1
  have HL := Lib.hid (disk_len h).1
  have hnm := (disk_len h).2
  unfold maxLen at hnm
  have HC := Lib.hid (Nat.le_trans (DiskD.count_wt X.fFiles) (show wtFiles X.fFiles ≤ 1000000000 from hw))
  have c0 : W.cell? ⟨w.heap.size, 0, none⟩ = some (.slice a n c) := by rw [hW]; simp
  clear h hb
  go_enter Try.func29, Try.ntmps29
  go_wp2_with fail
  rw [← hW]
  clear hW
  go_loopw [3, 4] (fun q i wr => ∃ (t m : Nat), q = .int .i64 m ∧ i = .int .i64 t ∧ t ≤ n ∧ Hid (m = DiskD.count (X.fFiles.take t)) ∧ Hid (W = wr)) (fun _ i _ => n - (intOf i).toNat)
  case atStart => exact ⟨0, 0, rfl, rfl, Nat.zero_le _, rfl, rfl⟩
  case round =>
    obtain ⟨t, m, rfl, rfl, ht, hm, hwr⟩ := hrel
    obtain rfl := hwr.out
    by_cases hlt : t < n
    · have htl : t < X.fFiles.length := by have := HL.out; omega
      have hp : X.fFiles[t]? = some X.fFiles[t] := by simp [htl]
      obtain ⟨b, o, hd, rfl, hbl, hce, hin⟩ := HI.out.el hp
      have hnx := DiskD.count_next X.fFiles t htl
      have hle := DiskD.count_take X.fFiles (t + 1)
      have hcc := HC.out
      obtain ⟨f, hf⟩ : ∃ f, f = X.fFiles[t] := ⟨_, rfl⟩
      rw [← hf] at hce hin hnx
      obtain ⟨x0, x1, x2, x3⟩ := f
      obtain ⟨⟨a1, n1, k1⟩, ⟨⟩⟩ := hd
      obtain ⟨r0, ⟨h1, hc1⟩, r2, -⟩ := hin
      have c1 : W.cell? ⟨b, o + t * 4 + 1, none⟩ = some (.slice a1 n1 k1) := hce 1 _ rfl
      have hn1 : x1.length = n1 := h1.1
      have hnx' : DiskD.count (X.fFiles.take (t + 1)) = m + n1 := by rw [hnx, ← hm.out, ← hn1]
      have hsm : m + n1 ≤ 1000000000 := by omega
      have HNX := Lib.hid hnx'
      clear hf hp hce h1 hc1 r0 r2 hnx hle hcc hn1 hnx'
      go_wp2_with fail
      go_roundw
      case rel => exact ⟨t + 1, m + n1, by go_num, by go_num, by omega, HNX.out.symm, trivial⟩
      case measure => simp [intOf]; omega
    · have hk : X.fFiles.take t = X.fFiles := List.take_of_length_le (by have := HL.out; omega)
      rw [hk] at hm
      clear hk
      go_wp2_with fail
      go_ret
      exact ⟨by rw [hm.out]; rfl, HB.out⟩
set_option maxRecDepth 100000 in
theorem sat (a : Option Addr) (n c : Nat) (X : DiskD) (name : Int) (w : World) (h : diskRep.inn w X ((a, n, c), ())) :
    Calls Try.prog 45 #[.agg #[.slice a n c, .int .i64 X.fNextName], .int .i64 name] w fun e w' => e = .returned (.int .i64 (DiskD.atI X.fFiles name)) ∧ Below w.heap.size w w' := by
  obtain ⟨W, hW⟩ : ∃ W, W = w.alloc (.cells #[.slice a n c, .int .i64 X.fNextName] 31) := ⟨_, rfl⟩
  have hb : Below w.heap.size w W := by rw [hW]; exact (Below.refl _ _).alloc (Nat.le_refl _) _
  have HB := Lib.hid hb
  have HI := Lib.hid (h.keep hb).1.1
  have HL := Lib.hid (disk_len h).1
  have hnm := (disk_len h).2
  unfold maxLen at hnm
  have c0 : W.cell? ⟨w.heap.size, 0, none⟩ = some (.slice a n c) := by rw [hW]; simp
  clear h hb
  go_enter Try.func45, Try.ntmps45
  go_wp2_with fail
  rw [← hW]
  clear hW
  go_loopw [5] (fun i wr => ∃ (t : Nat), i = .int .i64 t ∧ t ≤ n ∧ Hid (∀ (s : Nat) (g : FileD), s < t → X.fFiles[s]? = some g → g.fName ≠ name) ∧ Hid (W = wr)) (fun i _ => n - (intOf i).toNat)
  case atStart => exact ⟨0, rfl, Nat.zero_le _, fun s g hs => absurd hs (Nat.not_lt_zero _), rfl⟩
  case round =>
    obtain ⟨t, rfl, ht, hno, hwr⟩ := hrel
    obtain rfl := hwr.out
    by_cases hlt : t < n
    · have htl : t < X.fFiles.length := by have := HL.out; omega
      obtain ⟨f, hf⟩ : ∃ f, X.fFiles[t]? = some f := ⟨X.fFiles[t], by simp [htl]⟩
      obtain ⟨b, o, hd, rfl, hbl, hce, hin⟩ := HI.out.el hf
      have HF := Lib.hid hf
      obtain ⟨x0, x1, x2, x3⟩ := f
      obtain ⟨⟨a1, n1, k1⟩, ⟨⟩⟩ := hd
      have c1 : W.cell? ⟨b, o + t * 4, none⟩ = some (.int .i64 x0) := hce 0 _ rfl
      clear hf hce hin
      by_cases he : x0 = name
      · have HA := Lib.hid (show DiskD.atI X.fFiles name = t by unfold DiskD.atI; rw [DiskD.at_hit HF.out he hno.out])
        go_wp2_with fail
        go_ret
        exact ⟨by rw [HA.out]; rfl, HB.out⟩
      · have hne : (x0 == name) = false := by simpa using he
        have HE := Lib.hid he
        clear he
        go_wp2_with fail
        go_roundw
        case rel =>
          refine ⟨t + 1, by go_num, by omega, fun s g hs hg => ?_, trivial⟩
          rcases Nat.lt_or_ge s t with h1 | h1
          · exact hno.out s g h1 hg
          · obtain rfl : s = t := by omega
            rw [HF.out] at hg
            cases hg
            exact HE.out
        case measure => simp [intOf]; omega
    · have HA := Lib.hid (show DiskD.atI X.fFiles name = -1 by
        unfold DiskD.atI
        rw [DiskD.at_miss fun s g hg => hno.out s g (by have := idx_lt hg; have := HL.out; omega) hg])
      go_wp2_with fail
      go_ret
      exact ⟨by rw [HA.out]; rfl, HB.out⟩
theorem low_le {F : List FileD} {t : Nat} {f g : FileD} (hg : F[t]? = some g) : (DiskD.low F (t + 1) ≤ f.fName) ↔ ¬ f.fName ≤ g.fName := by
  rw [DiskD.low_next hg]; omega
theorem okat_no {nx : Int} {F : List FileD} {t : Nat} {f : FileD} (hf : F[t]? = some f) (h : ¬ (DiskD.low F t ≤ f.fName ∧ f.fName < nx ∧ f.ok = true)) : DiskD.okAt nx F t = false := by
  rw [DiskD.okAt_some hf, Bool.and_eq_false_iff]
  by_cases h1 : DiskD.low F t ≤ f.fName ∧ f.fName < nx
  · right
    cases h2 : f.ok with
    | false => rfl
    | true => exact absurd ⟨h1.1, h1.2, h2⟩ h
  · left; exact decide_eq_false h1
theorem okat_yes {nx : Int} {F : List FileD} {t : Nat} {f : FileD} (hf : F[t]? = some f) (h1 : DiskD.low F t ≤ f.fName) (h2 : f.fName < nx) (h3 : f.ok = true) : DiskD.okAt nx F t = true := by
  rw [DiskD.okAt_some hf, h3, Bool.and_true]
  exact decide_eq_true ⟨h1, h2⟩
/-- What the loop of IsValidDisk keeps: the files that were seen are valid. -/
theorem ok_next {nx : Int} {F : List FileD} {t : Nat} (h : ∀ s, s < t → DiskD.okAt nx F s = true) (ht : DiskD.okAt nx F t = true) : ∀ s, s < t + 1 → DiskD.okAt nx F s = true := fun s hs => by
  rcases Nat.lt_or_ge s t with h1 | h1
  · exact h s h1
  · obtain rfl : s = t := by omega
    exact ht
/-- A valid prefix: the lowest name that may follow is not below 0. -/
theorem low_pos {nx : Int} {F : List FileD} : ∀ (t : Nat), t ≤ F.length → (∀ s, s < t → DiskD.okAt nx F s = true) → 0 ≤ DiskD.low F t
  | 0, _, _ => Int.le_refl _
  | t + 1, ht, h => by
    have hl : t < F.length := by omega
    have hf : F[t]? = some F[t] := by simp [hl]
    have h1 := low_pos t (by omega) fun s hs => h s (by omega)
    have h2 := h t (Nat.lt_succ_self t)
    rw [DiskD.okAt_some hf, Bool.and_eq_true, decide_eq_true_eq] at h2
    rw [DiskD.low_next hf]
    omega
end Go.Proofs.Ythbifibnnhikjaa
/- The reference's IsValidDisk, by contract. -/
namespace Go.Proofs.Ythbifibnnhikjaa
open Go.RowKit
set_option linter.unusedVariables false

def prevOk (q : Option Int) (x : Int) : Bool := match q with | some q => decide (q < x) | none => true
/-- Whether one file passes the reference's test: with the name ahead of it, if there is one. -/
def passS (m : Int) (p : Option Int) (f : FileD) : Bool := decide (0 ≤ f.fName ∧ f.fName ≤ m) && prevOk p f.fName && R.allPages f.fPages && (f.fSealed || decide (f.fChecksum = 0))
theorem passS_ok {nx : Int} {F : List FileD} {t : Nat} {f : FileD} (hf : F[t]? = some f) (hall : ∀ s, s < t → DiskD.okAt nx F s = true) (p : Option Int) (hp : (t = 0 ∧ p = none) ∨ ∃ g u, t = u + 1 ∧ F[u]? = some g ∧ p = some g.fName) : passS (nx - 1) p f = DiskD.okAt nx F t := by
  have h0 := low_pos t (Nat.le_of_lt (idx_lt hf)) hall
  rw [DiskD.okAt_some hf]
  unfold passS FileD.ok prevOk
  rw [Bool.and_assoc, Bool.and_assoc]
  rw [← Bool.and_assoc (decide _)]
  congr 1
  rcases hp with ⟨rfl, rfl⟩ | ⟨g, u, rfl, hg, rfl⟩
  · simp only [Bool.and_true, DiskD.low]
    exact decide_eq_decide.2 (by omega)
  · rw [DiskD.low_next hg] at h0 ⊢
    rw [← Bool.decide_and]
    exact decide_eq_decide.2 (by omega)
set_option maxRecDepth 100000 in
set_option maxHeartbeats 2000000 in
theorem sokdisk (a : Option Addr) (n c : Nat) (X : DiskD) (w : World) (h : diskRep.inn w X ((a, n, c), ())) (hw : wtDisk X ≤ 1000000000) :
    Calls Try.prog 13 #[.agg #[.slice a n c, .int .i64 X.fNextName]] w fun e w' => e = .returned (.bool (DiskD.okD X)) ∧ Below w.heap.size w w' := by
  obtain ⟨W, hW⟩ : ∃ W, W = w.alloc (.cells #[.slice a n c, .int .i64 X.fNextName] 31) := ⟨_, rfl⟩
  have hb : Below w.heap.size w W := by rw [hW]; exact (Below.refl _ _).alloc (Nat.le_refl _) _
  have hk : W.heap[w.heap.size]? = some (.cells #[.slice a n c, .int .i64 X.fNextName] 31 (0, 0)) := by rw [hW]; exact heap_alloc_new _ _
  have HK := Lib.hid hk
  have HB := Lib.hid hb
  have HX := Lib.hid (h.keep hb)
  have HI := Lib.hid (h.keep hb).1.1
  have HL := Lib.hid (disk_len h).1
  have HW := Lib.hid hw
  have hnm := (disk_len h).2
  unfold maxLen at hnm
  obtain ⟨nx, hnx⟩ : ∃ nx, nx = X.fNextName := ⟨_, rfl⟩
  rw [← hnx] at hW hk HK ⊢
  have HNX := Lib.hid hnx
  obtain ⟨m, hm⟩ : ∃ m, wrap64 (nx - 1) = m := ⟨_, rfl⟩
  have HM := Lib.hid hm
  clear h hb hk hnx hw
  go_enter Try.func13, Try.ntmps13
  go_wp2_with fail
  rw [← hW]
  clear hW
  go_loopw [3] (fun i wr => ∃ (t : Nat), i = .int .i64 t ∧ t ≤ n ∧ Hid ((0 ≤ nx ∧ nx ≤ 1000) → ∀ s, s < t → DiskD.okAt nx X.fFiles s = true) ∧ Hid (Below W.heap.size W wr)) (fun i _ => n - (intOf i).toNat)
  case atStart => exact ⟨0, rfl, Nat.zero_le _, fun _ s hs => absurd hs (Nat.not_lt_zero _), Below.refl _ _⟩
  case round =>
    obtain ⟨t, rfl, ht, hall, hb⟩ := hrel
    have c0 : wr.cell? ⟨w.heap.size, 0, none⟩ = some (.slice a n c) := (hb.out.cell (lt_of_block HK.out)).trans (box_cell HK.out 0 _ rfl)
    have c1 : wr.cell? ⟨w.heap.size, 1, none⟩ = some (.int .i64 nx) := (hb.out.cell (lt_of_block HK.out)).trans (box_cell HK.out 1 _ rfl)
    by_cases hlt : t < n
    · have htl : t < X.fFiles.length := by have := HL.out; omega
      obtain ⟨f, hf⟩ : ∃ f, X.fFiles[t]? = some f := ⟨X.fFiles[t], by simp [htl]⟩
      obtain ⟨b, o, hd, rfl, hbl, hce, hin⟩ := HI.out.el hf
      have HF := Lib.hid hf
      have HFLAT : Hid (f.fPages.flatten.length ≤ 1000000000) := by
        have h1 := wt_file_at X.fFiles t htl
        have h2 := HW.out
        have h3 : X.fFiles[t] = f := by rw [List.getElem?_eq_getElem htl] at hf; exact Option.some.inj hf
        rw [h3] at h1
        have h4 : f.fPages.flatten.length ≤ wtFile f := flat_wt f.fPages
        have h5 : wtDisk X = wtFiles X.fFiles := rfl
        exact Lib.hid (by omega)
      obtain ⟨x0, x1, x2, x3⟩ := f
      obtain ⟨⟨a1, n1, k1⟩, ⟨⟩⟩ := hd
      obtain ⟨r0, ⟨h1, hc1⟩, r2, -⟩ := hin
      have IN := Lib.hid h1
      have HC : Hid (∀ v, Below W.heap.size W v → v.cell? ⟨w.heap.size, 0, none⟩ = some (.slice (some ⟨b, o, none⟩) n c) ∧ v.cell? ⟨w.heap.size, 1, none⟩ = some (.int .i64 nx) ∧
          v.cell? ⟨b, o + t * 4, none⟩ = some (.int .i64 x0) ∧ v.cell? ⟨b, o + t * 4 + 1, none⟩ = some (.slice a1 n1 k1) ∧ v.cell? ⟨b, o + t * 4 + 2, none⟩ = some (.int .i64 x2) ∧ v.cell? ⟨b, o + t * 4 + 3, none⟩ = some (.bool x3)) := Lib.hid fun v hv =>
        ⟨(hv.cell (lt_of_block HK.out)).trans (box_cell HK.out 0 _ rfl), (hv.cell (lt_of_block HK.out)).trans (box_cell HK.out 1 _ rfl), (hv.cell hbl).trans (hce 0 _ rfl), (hv.cell hbl).trans (hce 1 _ rfl), (hv.cell hbl).trans (hce 2 _ rfl), (hv.cell hbl).trans (hce 3 _ rfl)⟩
      have CI : Hid (∀ v, Below W.heap.size W v → Calls Try.prog 34 #[.int .i64 x0, .int .i64 0, .int .i64 m] v fun e v' => e = .returned (.bool (decide (0 ≤ x0 ∧ x0 ≤ m))) ∧ Below W.heap.size W v') := Lib.hid fun v hv => (sin x0 0 m v).mono fun e v' ⟨he, hv'⟩ => ⟨he, by rw [← hv']; exact hv⟩
      have CP : Hid (∀ v, Below W.heap.size W v → Calls Try.prog 35 #[.slice a1 n1 k1] v fun e v' => e = .returned (.bool (R.allPages x1)) ∧ Below W.heap.size W v') := Lib.hid fun v hv => (sallpages a1 n1 k1 x1 v (IN.out.keep hv) (by have := HFLAT.out; simp only at this; omega)).mono fun e v' ⟨he, hv'⟩ => ⟨he, hv.trans (hv'.mono hv.size)⟩
      obtain ⟨q, hq⟩ : ∃ q : Option Int, (t = 0 ∧ q = none) ∨ ∃ g u, t = u + 1 ∧ X.fFiles[u]? = some g ∧ q = some g.fName := by
        rcases Nat.eq_zero_or_pos t with h0 | h0
        · exact ⟨none, .inl ⟨h0, rfl⟩⟩
        · have h3 : X.fFiles[t - 1]? = some X.fFiles[t - 1] := by simp
          exact ⟨_, .inr ⟨X.fFiles[t - 1], t - 1, by omega, h3, rfl⟩⟩
      have hno : passS m q ⟨x0, x1, x2, x3⟩ = false → DiskD.okD X = false := fun hpass => by
        by_cases hg : 0 ≤ nx ∧ nx ≤ 1000
        · have h6 := passS_ok HF.out (nx := nx) (hall.out hg) q hq
          rw [show nx - 1 = m by rw [← HM.out]; unfold wrap64; omega, hpass] at h6
          exact DiskD.okD_bad (idx_lt HF.out) (by rw [← HNX.out]; exact h6.symm)
        · unfold DiskD.okD
          rw [decide_eq_false (by rw [← HNX.out]; exact hg), Bool.false_and, Bool.false_and]
      have hyes : passS m q ⟨x0, x1, x2, x3⟩ = true → ((0 ≤ nx ∧ nx ≤ 1000) → ∀ s, s < t + 1 → DiskD.okAt nx X.fFiles s = true) := fun hpass hg => by
        have h6 := passS_ok HF.out (nx := nx) (hall.out hg) q hq
        rw [show nx - 1 = m by rw [← HM.out]; unfold wrap64; omega, hpass] at h6
        exact ok_next (hall.out hg) h6.symm
      have no := Lib.hid hno
      have yes := Lib.hid hyes
      have HQ := Lib.hid hq
      clear hno hyes hq h1 hce hf r0 r2 hc1
      cases hA : decide (0 ≤ x0 ∧ x0 ≤ m) with
      | false =>
        rw [hA] at CI
        have HA := Lib.hid hA
        clear hA
        have HBAD := Lib.hid (no.out (by unfold passS; rw [HA.out]; rfl))
        go_wp2_with fail
        refine region_class (Below W.heap.size W) (by kernel_rfl) (by kernel_rfl) hb.out.drew ?_
        repeat (first | go_big_quiet_skip | (go_big_quiet_want; go_big_quiet_op; first | go_big_quiet_on | (apply Exists.intro; refine ⟨fun v hv => ?_, ?_⟩; (focus (first | exact rfl | ((first | (go_at_call 34; exact CI.out v hv) | (go_at_call 35; exact CP.out v hv)); done) | ((obtain ⟨c0, c1, c2, c3, c4, c5⟩ := HC.out v hv); go_simp; done) | ((obtain ⟨c0, c1, c2, c3, c4, c5⟩ := HC.out v hv); go_simp; exact rfl) | ((obtain ⟨c0, c1, c2, c3, c4, c5⟩ := HC.out v hv); go_simp; exact ⟨rfl, rfl⟩))); go_big_quiet_on)))
        refine wpQuiet_nil ?_
        intro v hv
        have HV := Lib.hid hv
        clear hv
        go_wp2_with fail
        go_ret
        exact ⟨by rw [HBAD.out]; rfl, HB.out.trans (HV.out.mono HB.out.size)⟩
      | true =>
        rw [hA] at CI
        have HA := Lib.hid hA
        clear hA
        by_cases hp0 : 0 < t
        · have hq2 : ∃ g, X.fFiles[t - 1]? = some g ∧ q = some g.fName := by
            rcases HQ.out with ⟨h1, -⟩ | ⟨g, u, h1, h2, h3⟩
            · omega
            · rw [show t - 1 = u by omega]; exact ⟨g, h2, h3⟩
          obtain ⟨g, hg, hqg⟩ := hq2
          obtain ⟨b', o', hd', e', hbl', hce', -⟩ := HI.out.el hg
          injection e' with e'
          injection e' with e1 e2 _
          subst e1 e2
          obtain ⟨y0, hy0⟩ : ∃ y, y = g.fName := ⟨_, rfl⟩
          have HP : Hid (∀ v, Below W.heap.size W v → v.cell? ⟨b, o + (t - 1) * 4, none⟩ = some (.int .i64 y0)) := Lib.hid fun v hv => by rw [hy0]; exact (hv.cell hbl).trans (hce' 0 _ rfl)
          rw [← hy0] at hqg
          have HQG := Lib.hid hqg
          have hi1 : ((t : Int) - 1).toNat = t - 1 := by omega
          have hi2 : 0 ≤ (t : Int) - 1 := by omega
          have hi3 : (t : Int) - 1 < n := by omega
          clear hce' hg hqg hy0
          by_cases hle : x0 ≤ y0
          · have HLE := Lib.hid (decide_eq_false (show ¬ y0 < x0 by omega))
            have HBAD := Lib.hid (no.out (by unfold passS; rw [HQG.out]; show (_ && decide (y0 < x0) && _ && _) = _; rw [HLE.out, Bool.and_false]; rfl))
            go_wp2_with fail
            refine region_class (Below W.heap.size W) (by kernel_rfl) (by kernel_rfl) hb.out.drew ?_
            repeat (first | go_big_quiet_skip | (go_big_quiet_want; go_big_quiet_op; first | go_big_quiet_on | (apply Exists.intro; refine ⟨fun v hv => ?_, ?_⟩; (focus (first | exact rfl | ((first | (go_at_call 34; exact CI.out v hv) | (go_at_call 35; exact CP.out v hv)); done) | ((obtain ⟨c0, c1, c2, c3, c4, c5⟩ := HC.out v hv; have c6 := HP.out v hv); go_simp; done) | ((obtain ⟨c0, c1, c2, c3, c4, c5⟩ := HC.out v hv; have c6 := HP.out v hv); go_simp; exact rfl) | ((obtain ⟨c0, c1, c2, c3, c4, c5⟩ := HC.out v hv; have c6 := HP.out v hv); go_simp; exact ⟨rfl, rfl⟩))); go_big_quiet_on)))
            refine wpQuiet_nil ?_
            intro v hv
            have HV := Lib.hid hv
            clear hv
            go_wp2_with fail
            go_ret
            exact ⟨by rw [HBAD.out]; rfl, HB.out.trans (HV.out.mono HB.out.size)⟩
          · have hled : decide (x0 ≤ y0) = false := decide_eq_false hle
            have hled : decide (x0 ≤ y0) = false := decide_eq_false hle
            have HLE : Hid (prevOk q x0 = true) := Lib.hid (by rw [HQG.out]; exact decide_eq_true (show y0 < x0 by omega))
            cases hP : R.allPages x1 with
            | false =>
              rw [hP] at CP
              have HPG := Lib.hid hP
              clear hP
              have HBAD := Lib.hid (no.out (by unfold passS; rw [HPG.out, Bool.and_false]; rfl))
              go_wp2_with fail
              refine region_class (Below W.heap.size W) (by kernel_rfl) (by kernel_rfl) hb.out.drew ?_
              repeat (first | go_big_quiet_skip | (go_big_quiet_want; go_big_quiet_op; first | go_big_quiet_on | (apply Exists.intro; refine ⟨fun v hv => ?_, ?_⟩; (focus (first | exact rfl | ((first | (go_at_call 34; exact CI.out v hv) | (go_at_call 35; exact CP.out v hv)); done) | ((obtain ⟨c0, c1, c2, c3, c4, c5⟩ := HC.out v hv; have c6 := HP.out v hv); go_simp; done) | ((obtain ⟨c0, c1, c2, c3, c4, c5⟩ := HC.out v hv; have c6 := HP.out v hv); go_simp; exact rfl) | ((obtain ⟨c0, c1, c2, c3, c4, c5⟩ := HC.out v hv; have c6 := HP.out v hv); go_simp; exact ⟨rfl, rfl⟩))); go_big_quiet_on)))
              refine wpQuiet_nil ?_
              intro v hv
              have HV := Lib.hid hv
              clear hv
              go_wp2_with fail
              go_ret
              exact ⟨by rw [HBAD.out]; rfl, HB.out.trans (HV.out.mono HB.out.size)⟩
            | true =>
              rw [hP] at CP
              have HPG := Lib.hid hP
              clear hP
              have HPS : Hid (passS m q ⟨x0, x1, x2, x3⟩ = (x3 || decide (x2 = 0))) := Lib.hid (by unfold passS; rw [HA.out, HPG.out, HLE.out]; rfl)
              cases x3 with
              | true =>
                have HGOOD := Lib.hid (yes.out (HPS.out))
                go_wp2_with fail
                refine region_class (Below W.heap.size W) (by kernel_rfl) (by kernel_rfl) hb.out.drew ?_
                repeat (first | go_big_quiet_skip | (go_big_quiet_want; go_big_quiet_op; first | go_big_quiet_on | (apply Exists.intro; refine ⟨fun v hv => ?_, ?_⟩; (focus (first | exact rfl | ((first | (go_at_call 34; exact CI.out v hv) | (go_at_call 35; exact CP.out v hv)); done) | ((obtain ⟨c0, c1, c2, c3, c4, c5⟩ := HC.out v hv; have c6 := HP.out v hv); go_simp; done) | ((obtain ⟨c0, c1, c2, c3, c4, c5⟩ := HC.out v hv; have c6 := HP.out v hv); go_simp; exact rfl) | ((obtain ⟨c0, c1, c2, c3, c4, c5⟩ := HC.out v hv; have c6 := HP.out v hv); go_simp; exact ⟨rfl, rfl⟩))); go_big_quiet_on)))
                refine wpQuiet_nil ?_
                intro v hv
                have HV := Lib.hid hv
                clear hv
                go_wp2_with fail
                go_roundw
                case rel => exact ⟨t + 1, by go_num, by omega, HGOOD.out, HV⟩
                case measure => simp [intOf]; omega
              | false =>
                by_cases hz : x2 = 0
                · subst hz
                  have HGOOD := Lib.hid (yes.out (HPS.out))
                  go_wp2_with fail
                  refine region_class (Below W.heap.size W) (by kernel_rfl) (by kernel_rfl) hb.out.drew ?_
                  repeat (first | go_big_quiet_skip | (go_big_quiet_want; go_big_quiet_op; first | go_big_quiet_on | (apply Exists.intro; refine ⟨fun v hv => ?_, ?_⟩; (focus (first | exact rfl | ((first | (go_at_call 34; exact CI.out v hv) | (go_at_call 35; exact CP.out v hv)); done) | ((obtain ⟨c0, c1, c2, c3, c4, c5⟩ := HC.out v hv; have c6 := HP.out v hv); go_simp; done) | ((obtain ⟨c0, c1, c2, c3, c4, c5⟩ := HC.out v hv; have c6 := HP.out v hv); go_simp; exact rfl) | ((obtain ⟨c0, c1, c2, c3, c4, c5⟩ := HC.out v hv; have c6 := HP.out v hv); go_simp; exact ⟨rfl, rfl⟩))); go_big_quiet_on)))
                  refine wpQuiet_nil ?_
                  intro v hv
                  have HV := Lib.hid hv
                  clear hv
                  go_wp2_with fail
                  go_roundw
                  case rel => exact ⟨t + 1, by go_num, by omega, HGOOD.out, HV⟩
                  case measure => simp [intOf]; omega
                · have hne : (x2 != 0) = true := by simpa using hz
                  have HZ := Lib.hid (decide_eq_false hz)
                  clear hz
                  have HBAD := Lib.hid (no.out (by rw [HPS.out, HZ.out]; rfl))
                  go_wp2_with fail
                  refine region_class (Below W.heap.size W) (by kernel_rfl) (by kernel_rfl) hb.out.drew ?_
                  repeat (first | go_big_quiet_skip | (go_big_quiet_want; go_big_quiet_op; first | go_big_quiet_on | (apply Exists.intro; refine ⟨fun v hv => ?_, ?_⟩; (focus (first | exact rfl | ((first | (go_at_call 34; exact CI.out v hv) | (go_at_call 35; exact CP.out v hv)); done) | ((obtain ⟨c0, c1, c2, c3, c4, c5⟩ := HC.out v hv; have c6 := HP.out v hv); go_simp; done) | ((obtain ⟨c0, c1, c2, c3, c4, c5⟩ := HC.out v hv; have c6 := HP.out v hv); go_simp; exact rfl) | ((obtain ⟨c0, c1, c2, c3, c4, c5⟩ := HC.out v hv; have c6 := HP.out v hv); go_simp; exact ⟨rfl, rfl⟩))); go_big_quiet_on)))
                  refine wpQuiet_nil ?_
                  intro v hv
                  have HV := Lib.hid hv
                  clear hv
                  go_wp2_with fail
                  go_ret
                  exact ⟨by rw [HBAD.out]; rfl, HB.out.trans (HV.out.mono HB.out.size)⟩
        · have HLE : Hid (prevOk q x0 = true) := Lib.hid (by
            rcases HQ.out with ⟨-, h1⟩ | ⟨g, u, h1, h2, h3⟩
            · rw [h1]; rfl
            · omega)
          cases hP : R.allPages x1 with
          | false =>
            rw [hP] at CP
            have HPG := Lib.hid hP
            clear hP
            have HBAD := Lib.hid (no.out (by unfold passS; rw [HPG.out, Bool.and_false]; rfl))
            go_wp2_with fail
            refine region_class (Below W.heap.size W) (by kernel_rfl) (by kernel_rfl) hb.out.drew ?_
            repeat (first | go_big_quiet_skip | (go_big_quiet_want; go_big_quiet_op; first | go_big_quiet_on | (apply Exists.intro; refine ⟨fun v hv => ?_, ?_⟩; (focus (first | exact rfl | ((first | (go_at_call 34; exact CI.out v hv) | (go_at_call 35; exact CP.out v hv)); done) | ((obtain ⟨c0, c1, c2, c3, c4, c5⟩ := HC.out v hv); go_simp; done) | ((obtain ⟨c0, c1, c2, c3, c4, c5⟩ := HC.out v hv); go_simp; exact rfl) | ((obtain ⟨c0, c1, c2, c3, c4, c5⟩ := HC.out v hv); go_simp; exact ⟨rfl, rfl⟩))); go_big_quiet_on)))
            refine wpQuiet_nil ?_
            intro v hv
            have HV := Lib.hid hv
            clear hv
            go_wp2_with fail
            go_ret
            exact ⟨by rw [HBAD.out]; rfl, HB.out.trans (HV.out.mono HB.out.size)⟩
          | true =>
            rw [hP] at CP
            have HPG := Lib.hid hP
            clear hP
            have HPS : Hid (passS m q ⟨x0, x1, x2, x3⟩ = (x3 || decide (x2 = 0))) := Lib.hid (by unfold passS; rw [HA.out, HPG.out, HLE.out]; rfl)
            cases x3 with
            | true =>
              have HGOOD := Lib.hid (yes.out (HPS.out))
              go_wp2_with fail
              refine region_class (Below W.heap.size W) (by kernel_rfl) (by kernel_rfl) hb.out.drew ?_
              repeat (first | go_big_quiet_skip | (go_big_quiet_want; go_big_quiet_op; first | go_big_quiet_on | (apply Exists.intro; refine ⟨fun v hv => ?_, ?_⟩; (focus (first | exact rfl | ((first | (go_at_call 34; exact CI.out v hv) | (go_at_call 35; exact CP.out v hv)); done) | ((obtain ⟨c0, c1, c2, c3, c4, c5⟩ := HC.out v hv); go_simp; done) | ((obtain ⟨c0, c1, c2, c3, c4, c5⟩ := HC.out v hv); go_simp; exact rfl) | ((obtain ⟨c0, c1, c2, c3, c4, c5⟩ := HC.out v hv); go_simp; exact ⟨rfl, rfl⟩))); go_big_quiet_on)))
              refine wpQuiet_nil ?_
              intro v hv
              have HV := Lib.hid hv
              clear hv
              go_wp2_with fail
              go_roundw
              case rel => exact ⟨t + 1, by go_num, by omega, HGOOD.out, HV⟩
              case measure => simp [intOf]; omega
            | false =>
              by_cases hz : x2 = 0
              · subst hz
                have HGOOD := Lib.hid (yes.out (HPS.out))
                go_wp2_with fail
                refine region_class (Below W.heap.size W) (by kernel_rfl) (by kernel_rfl) hb.out.drew ?_
                repeat (first | go_big_quiet_skip | (go_big_quiet_want; go_big_quiet_op; first | go_big_quiet_on | (apply Exists.intro; refine ⟨fun v hv => ?_, ?_⟩; (focus (first | exact rfl | ((first | (go_at_call 34; exact CI.out v hv) | (go_at_call 35; exact CP.out v hv)); done) | ((obtain ⟨c0, c1, c2, c3, c4, c5⟩ := HC.out v hv); go_simp; done) | ((obtain ⟨c0, c1, c2, c3, c4, c5⟩ := HC.out v hv); go_simp; exact rfl) | ((obtain ⟨c0, c1, c2, c3, c4, c5⟩ := HC.out v hv); go_simp; exact ⟨rfl, rfl⟩))); go_big_quiet_on)))
                refine wpQuiet_nil ?_
                intro v hv
                have HV := Lib.hid hv
                clear hv
                go_wp2_with fail
                go_roundw
                case rel => exact ⟨t + 1, by go_num, by omega, HGOOD.out, HV⟩
                case measure => simp [intOf]; omega
              · have hne : (x2 != 0) = true := by simpa using hz
                have HZ := Lib.hid (decide_eq_false hz)
                clear hz
                have HBAD := Lib.hid (no.out (by rw [HPS.out, HZ.out]; rfl))
                go_wp2_with fail
                refine region_class (Below W.heap.size W) (by kernel_rfl) (by kernel_rfl) hb.out.drew ?_
                repeat (first | go_big_quiet_skip | (go_big_quiet_want; go_big_quiet_op; first | go_big_quiet_on | (apply Exists.intro; refine ⟨fun v hv => ?_, ?_⟩; (focus (first | exact rfl | ((first | (go_at_call 34; exact CI.out v hv) | (go_at_call 35; exact CP.out v hv)); done) | ((obtain ⟨c0, c1, c2, c3, c4, c5⟩ := HC.out v hv); go_simp; done) | ((obtain ⟨c0, c1, c2, c3, c4, c5⟩ := HC.out v hv); go_simp; exact rfl) | ((obtain ⟨c0, c1, c2, c3, c4, c5⟩ := HC.out v hv); go_simp; exact ⟨rfl, rfl⟩))); go_big_quiet_on)))
                refine wpQuiet_nil ?_
                intro v hv
                have HV := Lib.hid hv
                clear hv
                go_wp2_with fail
                go_ret
                exact ⟨by rw [HBAD.out]; rfl, HB.out.trans (HV.out.mono HB.out.size)⟩
    · have htn : t = n := by omega
      clear c0
      cases hN : decide (0 ≤ nx ∧ nx ≤ 1000) with
      | false =>
        have HV := Lib.hid (show DiskD.okD X = false by unfold DiskD.okD; rw [← HNX.out, hN]; rfl)
        have CS : Hid (∀ v, Below W.heap.size W v → Calls Try.prog 34 #[.int .i64 nx, .int .i64 0, .int .i64 1000] v fun e v' => e = .returned (.bool false) ∧ Below W.heap.size W v') := Lib.hid fun v hv => (sin nx 0 1000 v).mono fun e v' ⟨he, hv'⟩ => ⟨by rw [he, hN], by rw [← hv']; exact hv⟩
        clear hN
        have c0 : wr.cell? ⟨w.heap.size, 0, none⟩ = some (.slice a n c) := (hb.out.cell (lt_of_block HK.out)).trans (box_cell HK.out 0 _ rfl)
        go_wp2_with fail
        refine (CS.out _ hb.out).mono ?_
        rintro e w1 ⟨rfl, b1⟩
        have B1 := Lib.hid b1
        clear b1
        go_wp2_with fail
        go_ret
        exact ⟨by rw [HV.out]; rfl, HB.out.trans (B1.out.mono HB.out.size)⟩
      | true =>
        have HV := Lib.hid (show DiskD.okD X = decide ((DiskD.count X.fFiles : Int) ≤ 40) by
          rw [DiskD.okD_all (by rw [← HNX.out]; intro s hs; exact hall.out (of_decide_eq_true hN) s (by have := HL.out; omega)), ← HNX.out, hN, Bool.true_and]
          exact decide_eq_decide.2 (by omega))
        have CS : Hid (∀ v, Below W.heap.size W v → Calls Try.prog 34 #[.int .i64 nx, .int .i64 0, .int .i64 1000] v fun e v' => e = .returned (.bool true) ∧ Below W.heap.size W v') := Lib.hid fun v hv => (sin nx 0 1000 v).mono fun e v' ⟨he, hv'⟩ => ⟨by rw [he, hN], by rw [← hv']; exact hv⟩
        clear hN
        have c0 : wr.cell? ⟨w.heap.size, 0, none⟩ = some (.slice a n c) := (hb.out.cell (lt_of_block HK.out)).trans (box_cell HK.out 0 _ rfl)
        go_wp2_with fail
        refine (CS.out _ hb.out).mono ?_
        rintro e w1 ⟨rfl, b1⟩
        have B1 := Lib.hid b1
        have d0 : w1.cell? ⟨w.heap.size, 0, none⟩ = some (.slice a n c) := (b1.cell (lt_of_block HK.out)).trans (box_cell HK.out 0 _ rfl)
        have d1 : w1.cell? ⟨w.heap.size, 1, none⟩ = some (.int .i64 nx) := (b1.cell (lt_of_block HK.out)).trans (box_cell HK.out 1 _ rfl)
        have CC := Lib.hid (scountp a n c X w1 (HX.out.keep b1) HW.out)
        rw [← HNX.out] at CC
        clear b1 c0 c1
        go_wp2_with fail
        refine CC.out.mono ?_
        rintro e w2 ⟨rfl, b2⟩
        have B2 := Lib.hid (B1.out.trans (b2.mono B1.out.size))
        clear b2
        obtain ⟨k, hk⟩ : ∃ k, k = DiskD.count X.fFiles := ⟨_, rfl⟩
        rw [← hk] at HV ⊢
        clear hk
        go_wp2_with fail
        go_ret
        exact ⟨by rw [HV.out]; rfl, HB.out.trans (B2.out.mono HB.out.size)⟩
end Go.Proofs.Ythbifibnnhikjaa
/- Slices in blocks of their own, whatever their elements hold: what is appended, what is changed in place; no function of program or reference is walked here. -/
namespace Go.Proofs.Ythbifibnnhikjaa
open Go.RowKit
set_option linter.unusedVariables false

/-- The blocks are as they were. -/
def SameBlk (G : List Nat) (w w' : World) : Prop := w.heap.size ≤ w'.heap.size ∧ ∀ g ∈ G, w'.heap[g]? = w.heap[g]?
theorem SameBlk.refl (G : List Nat) (w : World) : SameBlk G w w := ⟨Nat.le_refl _, fun _ _ => rfl⟩
theorem SameBlk.sub {F G : List Nat} {w w' : World} (h : SameBlk G w w') (hs : ∀ g ∈ F, g ∈ G) : SameBlk F w w' := ⟨h.1, fun g hg => h.2 g (hs g hg)⟩
theorem SameBlk.of_below {G : List Nat} {w w' : World} {B : Nat} (h : Below B w w') (hl : ∀ g ∈ G, g < B) : SameBlk G w w' := ⟨h.size, fun g hg => h.block g (hl g hg)⟩
theorem SameBlk.of_grown {G : List Nat} {w w' : World} {row : Option Nat} (h : w.grownBy w' row) (hl : ∀ g ∈ G, g < w.heap.size) (hne : ∀ g ∈ G, row ≠ some g) : SameBlk G w w' := ⟨h.size, fun g hg => h.block g (hl g hg) fun e => hne g hg e.symm⟩
theorem SameBlk.set {G : List Nat} {w w' : World} (h : SameBlk G w w') {g i : Nat} (u : Value) (hne : g ∉ G) : SameBlk G w (w'.setCell ⟨g, i, none⟩ u) :=
  ⟨by simpa [World.setCell] using h.1, fun b hb => (Below.heap_setCell w' ⟨g, i, none⟩ u b (fun e => hne (by rw [← show b = g from e]; exact hb))).trans (h.2 b hb)⟩
/-- How values of a type lie in blocks of the call's own: the shape, and the blocks behind the heads. -/
structure BRep (α : Type) where
  rep : Rep α
  blk : World → Nat → α → rep.H → List Nat → Prop
  blk_own : ∀ {w B x h G}, blk w B x h G → ∃ F, rep.own w B x h F ∧ ∀ y ∈ F, y.b ∈ G
  blk_lt : ∀ {w B x h G}, blk w B x h G → ∀ g ∈ G, B ≤ g ∧ g < w.heap.size
  blk_nodup : ∀ {w B x h G}, blk w B x h G → G.Nodup
  blk_keep : ∀ {w w' B x h G}, blk w B x h G → SameBlk G w w' → blk w' B x h G
  blk_mono : ∀ {w B B' x h G}, blk w B x h G → B' ≤ B → blk w B' x h G
theorem BRep.blk_inn {α : Type} (s : BRep α) {w : World} {B : Nat} {x : α} {h : s.rep.H} {G : List Nat} (hb : s.blk w B x h G) : s.rep.inn w x h := by
  obtain ⟨F, hF, -⟩ := s.blk_own hb
  exact s.rep.own_inn hF
theorem BRep.blk_below {α : Type} (s : BRep α) {w w' : World} {B : Nat} {x : α} {h : s.rep.H} {G : List Nat} (hb : s.blk w B x h G) (h' : Below w.heap.size w w') : s.blk w' B x h G :=
  s.blk_keep hb (SameBlk.of_below h' fun g hg => (s.blk_lt hb g hg).2)
def rowB : BRep R where
  rep := rowRep
  blk := fun _ _ r _ G => r.wf ∧ G = []
  blk_own := fun h => ⟨[], ⟨h.1, rfl⟩, fun y hy => by cases hy⟩
  blk_lt := fun h g hg => by rw [h.2] at hg; cases hg
  blk_nodup := fun h => by rw [h.2]; exact List.Pairwise.nil
  blk_keep := fun h _ => h
  blk_mono := fun h _ => h
/-- An element that has been built: its datum, its heads, its blocks. -/
structure BEl {α : Type} (s : BRep α) where
  x : α
  h : s.rep.H
  G : List Nat
def bcells {α : Type} {s : BRep α} (es : List (BEl s)) : List Value := es.flatMap fun e => s.rep.cells e.x e.h
def gsOf {α : Type} {s : BRep α} (es : List (BEl s)) : List Nat := es.flatMap BEl.G
def blkOf (v : Value) : List Nat := v.ownBlock.toList
theorem bcells_length {α : Type} {s : BRep α} (es : List (BEl s)) : (bcells es).length = es.length * s.rep.size := by
  unfold bcells
  induction es with
  | nil => simp
  | cons e es ih => rw [List.flatMap_cons, List.length_append, ih, s.rep.len, List.length_cons, Nat.add_mul]; omega
theorem bcells_snoc {α : Type} {s : BRep α} (es : List (BEl s)) (e : BEl s) : bcells (es ++ [e]) = bcells es ++ s.rep.cells e.x e.h := by simp [bcells]
theorem bcells_append {α : Type} {s : BRep α} (es fs : List (BEl s)) : bcells (es ++ fs) = bcells es ++ bcells fs := by simp [bcells]
theorem gs_snoc {α : Type} {s : BRep α} (es : List (BEl s)) (e : BEl s) : gsOf (es ++ [e]) = gsOf es ++ e.G := by simp [gsOf]
theorem gs_append {α : Type} {s : BRep α} (es fs : List (BEl s)) : gsOf (es ++ fs) = gsOf es ++ gsOf fs := by simp [gsOf]
theorem mem_gs {α : Type} {s : BRep α} {es : List (BEl s)} {g : Nat} : g ∈ gsOf es ↔ ∃ e ∈ es, g ∈ e.G := by simp [gsOf]
theorem bcells_split {α : Type} {s : BRep α} (es : List (BEl s)) (k : Nat) (e : BEl s) (hk : es[k]? = some e) : bcells es = bcells (es.take k) ++ (s.rep.cells e.x e.h ++ bcells (es.drop (k + 1))) := by
  have hkl := idx_lt hk
  have he : es[k] = e := by rw [List.getElem?_eq_getElem hkl] at hk; exact Option.some.inj hk
  conv => lhs; rw [← List.take_append_drop k es, bcells_append, List.drop_eq_getElem_cons hkl, he]
  simp [bcells]
theorem gs_split {α : Type} {s : BRep α} (es : List (BEl s)) (k : Nat) (e : BEl s) (hk : es[k]? = some e) : gsOf es = gsOf (es.take k) ++ (e.G ++ gsOf (es.drop (k + 1))) := by
  have hkl := idx_lt hk
  have he : es[k] = e := by rw [List.getElem?_eq_getElem hkl] at hk; exact Option.some.inj hk
  conv => lhs; rw [← List.take_append_drop k es, gs_append, List.drop_eq_getElem_cons hkl, he]
  simp [gsOf]
theorem bcells_take_len {α : Type} {s : BRep α} (es : List (BEl s)) (k : Nat) (hk : k < es.length) : (bcells (es.take k)).length = k * s.rep.size := by
  rw [bcells_length, List.length_take]; congr 1; omega
theorem bcells_get {α : Type} {s : BRep α} (es : List (BEl s)) (k : Nat) (e : BEl s) (hk : es[k]? = some e) (j : Nat) (u : Value) (hj : (s.rep.cells e.x e.h)[j]? = some u) : (bcells es)[k * s.rep.size + j]? = some u := by
  rw [bcells_split es k e hk, List.getElem?_append_right (by rw [bcells_take_len es k (idx_lt hk)]; omega), bcells_take_len es k (idx_lt hk), Nat.add_sub_cancel_left, List.getElem?_append_left (idx_lt hj)]
  exact hj
theorem bcells_set {α : Type} {s : BRep α} (es : List (BEl s)) (k : Nat) (e e' : BEl s) (hk : es[k]? = some e) (j : Nat) (u : Value) (hj : j < s.rep.size) (hc : s.rep.cells e'.x e'.h = (s.rep.cells e.x e.h).set j u) :
    (bcells es).set (k * s.rep.size + j) u = bcells (es.set k e') := by
  have hkl := idx_lt hk
  have e1 : es.set k e' = es.take k ++ e' :: es.drop (k + 1) := by rw [List.set_eq_take_append_cons_drop, if_pos hkl]
  have e2 : bcells (es.set k e') = bcells (es.take k) ++ (s.rep.cells e'.x e'.h ++ bcells (es.drop (k + 1))) := by rw [e1, bcells_append]; simp [bcells]
  rw [e2, bcells_split es k e hk, List.set_append_right _ _ (by rw [bcells_take_len es k hkl]; omega), bcells_take_len es k hkl, Nat.add_sub_cancel_left, List.set_append_left _ _ (by rw [s.rep.len]; exact hj), hc]
theorem gs_set {α : Type} {s : BRep α} (es : List (BEl s)) (k : Nat) (e e' : BEl s) (hk : es[k]? = some e) : gsOf (es.set k e') = gsOf (es.take k) ++ (e'.G ++ gsOf (es.drop (k + 1))) := by
  have hkl := idx_lt hk
  rw [List.set_eq_take_append_cons_drop, if_pos hkl, gs_append]
  simp [gsOf]
/-- A slice whose elements lie in a block of their own, what is behind them in others. -/
structure Blk {α : Type} (T : TypeId) (s : BRep α) (w : World) (B : Nat) (v : Value) (es : List (BEl s)) : Prop where
  own : w.ownsRow B T s.rep.size v es.length (bcells es)
  all : ∀ e ∈ es, s.blk w B e.x e.h e.G
  nodup : (blkOf v ++ gsOf es).Nodup
theorem blkOf_mem {v : Value} {g : Nat} : g ∈ blkOf v ↔ v.ownBlock = some g := by simp [blkOf]
theorem blkOf_none : blkOf (.slice none 0 0) = [] := rfl
theorem blkOf_some (a : Addr) (n c : Nat) : blkOf (.slice (some a) n c) = [a.block] := rfl
theorem Blk.lt {α : Type} {T : TypeId} {s : BRep α} {w : World} {B : Nat} {v : Value} {es : List (BEl s)} (h : Blk T s w B v es) : ∀ g ∈ blkOf v ++ gsOf es, B ≤ g ∧ g < w.heap.size := by
  intro g hg
  rcases List.mem_append.1 hg with hg | hg
  · exact World.ownsRow.lt h.own g (blkOf_mem.1 hg)
  · obtain ⟨e, he, hg⟩ := mem_gs.1 hg
    exact s.blk_lt (h.all e he) g hg
theorem ownsRow_same {w w' : World} {B : Nat} {T : TypeId} {k n : Nat} {v : Value} {xs : List Value} (h : w.ownsRow B T k v n xs) (hs : SameBlk (blkOf v) w w') : w'.ownsRow B T k v n xs := by
  obtain ⟨h1, h0 | ⟨g, cap, cur, rfl, hB, hh, h2⟩⟩ := h
  · exact ⟨h1, .inl h0⟩
  · exact ⟨h1, .inr ⟨g, cap, cur, rfl, hB, (hs.2 g (by rw [blkOf_some]; exact List.mem_singleton.2 rfl)).trans hh, h2⟩⟩
theorem ownsRow_mono {w : World} {B B' : Nat} {T : TypeId} {k n : Nat} {v : Value} {xs : List Value} (h : w.ownsRow B T k v n xs) (hb : B' ≤ B) : w.ownsRow B' T k v n xs := by
  obtain ⟨h1, h0 | ⟨g, cap, cur, rfl, hB, h2⟩⟩ := h
  · exact ⟨h1, .inl h0⟩
  · exact ⟨h1, .inr ⟨g, cap, cur, rfl, Nat.le_trans hb hB, h2⟩⟩
theorem Blk.keep {α : Type} {T : TypeId} {s : BRep α} {w w' : World} {B : Nat} {v : Value} {es : List (BEl s)} (h : Blk T s w B v es) (hs : SameBlk (blkOf v ++ gsOf es) w w') : Blk T s w' B v es :=
  ⟨ownsRow_same h.own (hs.sub fun g hg => List.mem_append_left _ hg), fun e he => s.blk_keep (h.all e he) (hs.sub fun g hg => List.mem_append_right _ (mem_gs.2 ⟨e, he, hg⟩)), h.nodup⟩
theorem Blk.below {α : Type} {T : TypeId} {s : BRep α} {w w' : World} {B : Nat} {v : Value} {es : List (BEl s)} (h : Blk T s w B v es) (hb : Below w.heap.size w w') : Blk T s w' B v es :=
  h.keep (SameBlk.of_below hb fun g hg => (h.lt g hg).2)
theorem Blk.mono {α : Type} {T : TypeId} {s : BRep α} {w : World} {B B' : Nat} {v : Value} {es : List (BEl s)} (h : Blk T s w B v es) (hb : B' ≤ B) : Blk T s w B' v es :=
  ⟨ownsRow_mono h.own hb, fun e he => s.blk_mono (h.all e he) hb, h.nodup⟩
theorem Blk.slice {α : Type} {T : TypeId} {s : BRep α} {w : World} {B : Nat} {v : Value} {es : List (BEl s)} (h : Blk T s w B v es) : ∃ a c, v = .slice a es.length c ∧ (a = none → c = 0 ∧ es = []) := by
  obtain ⟨h1, ⟨rfl, h0⟩ | ⟨g, cap, cur, rfl, -⟩⟩ := h.own
  · exact ⟨none, 0, by rw [h0], fun _ => ⟨rfl, List.eq_nil_of_length_eq_zero h0⟩⟩
  · exact ⟨_, _, rfl, fun e => by cases e⟩
theorem Blk.addr {α : Type} {T : TypeId} {s : BRep α} {w : World} {B : Nat} {v : Value} {es : List (BEl s)} (h : Blk T s w B v es) (hp : 0 < es.length) : ∃ g c, v = .slice (some ⟨g, 0, none⟩) es.length c ∧ B ≤ g ∧ g < w.heap.size ∧ es.length ≤ c ∧ c ≤ maxLen := by
  obtain ⟨h1, ⟨rfl, h0⟩ | ⟨g, cap, cur, rfl, hB, hh, hc, hm, -⟩⟩ := h.own
  · omega
  · exact ⟨g, cap, rfl, hB, lt_of_block hh, hc, hm⟩
theorem Blk.caps {α : Type} {T : TypeId} {s : BRep α} {w : World} {B : Nat} {a : Option Addr} {n c : Nat} {es : List (BEl s)} (h : Blk T s w B (.slice a n c) es) : n = es.length ∧ n ≤ c ∧ c ≤ maxLen := by
  obtain ⟨h1, ⟨e, h0⟩ | ⟨g, cap, cur, e, hB, hh, hc, hm, -⟩⟩ := h.own
  · injection e with e1 e2 e3; subst e2 e3; exact ⟨by omega, Nat.le_refl _, Nat.zero_le _⟩
  · injection e with e1 e2 e3; subst e2 e3; exact ⟨rfl, hc, hm⟩
theorem Blk.nil {α : Type} (T : TypeId) (s : BRep α) (w : World) (B : Nat) : Blk T s w B (.slice none 0 0) [] := ⟨World.ownsRow_nil _ _ _ _, fun e he => (by cases he), List.Pairwise.nil⟩
/-- A literal without elements. -/
theorem Blk.made {α : Type} (T : TypeId) (s : BRep α) (w : World) (B : Nat) (hB : B ≤ w.heap.size) : Blk T s (w.alloc (.cells #[] T)) B (.slice (some ⟨w.heap.size, 0, none⟩) 0 0) [] :=
  ⟨World.ownsRow_made w #[] 0 hB (Nat.zero_le _) (by simp), fun e he => (by cases he), by simp [gsOf, blkOf_some]⟩
/-- One element's cells. -/
theorem Blk.cell {α : Type} {T : TypeId} {s : BRep α} {w : World} {B g n c : Nat} {es : List (BEl s)} (h : Blk T s w B (.slice (some ⟨g, 0, none⟩) n c) es) {k : Nat} {e : BEl s} (hk : es[k]? = some e) (j : Nat) (u : Value) (hj : (s.rep.cells e.x e.h)[j]? = some u) :
    w.cell? ⟨g, k * s.rep.size + j, none⟩ = some u := by
  have hn := h.caps.1
  have hjl : j < s.rep.size := by rw [← s.rep.len e.x e.h]; exact idx_lt hj
  have hkl := idx_lt hk
  have hle := at_le (s := s.rep.size) hkl
  have hown := h.own
  rw [← hn] at hown
  rw [hown.cellAt _ (by rw [hn]; omega)]
  exact bcells_get es k e hk j u hj
theorem Blk.frozen {α : Type} {T : TypeId} {s : BRep α} {w : World} {B g n c : Nat} {es : List (BEl s)} (h : Blk T s w B (.slice (some ⟨g, 0, none⟩) n c) es) (j : Nat) : w.frozen? ⟨g, j, none⟩ = false := by
  have hown := h.own
  rw [← h.caps.1] at hown
  exact hown.frozenAt j
/-- The elements' stretches, out of their blocks. -/
theorem blk_els {α : Type} {s : BRep α} {w : World} {B : Nat} : ∀ (es : List (BEl s)), (∀ e ∈ es, s.blk w B e.x e.h e.G) → (gsOf es).Nodup →
    ∃ fs : List (El s.rep), fs.map El.x = es.map BEl.x ∧ cellsOf fs = bcells es ∧ OwnAll s.rep w B fs ∧ ∀ f ∈ fs, ∀ y ∈ f.F, y.b ∈ gsOf es
  | [], _, _ => ⟨[], rfl, rfl, OwnAll.nil _ _ _, fun f hf => by cases hf⟩
  | e :: es, ha, hn => by
    have hn' : (e.G ++ gsOf es).Nodup := hn
    rw [List.nodup_append] at hn'
    obtain ⟨fs, h1, h2, h3, h4⟩ := blk_els es (fun f hf => ha f (List.mem_cons_of_mem _ hf)) hn'.2.1
    obtain ⟨F, hF, hG⟩ := s.blk_own (ha e (List.mem_cons_self ..))
    refine ⟨⟨e.x, e.h, F⟩ :: fs, by simp [h1], ?_, ⟨fun f hf => ?_, ?_⟩, fun f hf y hy => ?_⟩
    · show s.rep.cells e.x e.h ++ cellsOf fs = s.rep.cells e.x e.h ++ bcells es
      rw [h2]
    · rcases List.mem_cons.1 hf with rfl | hf
      · exact hF
      · exact h3.1 f hf
    · rw [List.pairwise_cons]
      exact ⟨fun f hf x hx y hy => .inl (hn'.2.2 _ (hG x hx) _ (h4 f hf y hy)), h3.2⟩
    · rcases List.mem_cons.1 hf with rfl | hf
      · exact List.mem_append_left _ (hG y hy)
      · exact List.mem_append_right _ (h4 f hf y hy)
/-- What a slice's stretches are. -/
theorem SeqOwn.blocks {α : Type} {r : Rep α} {w : World} {B g : Nat} {es : List (El r)} (h : OwnAll r w B es) (hg : B ≤ g) (hl : g < w.heap.size) (hf : ∀ j, w.frozen? ⟨g, j, none⟩ = false) (hc : ∀ j u, (cellsOf es)[j]? = some u → w.cell? ⟨g, j, none⟩ = some u)
    (hne : ∀ e ∈ es, ∀ y ∈ e.F, y.b ≠ g) (hm : es.length ≤ maxLen) : ∃ F, SeqOwn r w B (some ⟨g, 0, none⟩) es.length (es.map El.x) F ∧ ∀ y ∈ F, y.b = g ∨ ∃ e ∈ es, y ∈ e.F := by
  rcases Nat.eq_zero_or_pos es.length with h0 | h0
  · exact ⟨[], ⟨by simp, hm, .inl ⟨h0, rfl⟩⟩, fun y hy => by cases hy⟩
  · obtain ⟨e0, -⟩ : ∃ e0, es[0]? = some e0 := ⟨es[0], by simp [h0]⟩
    refine ⟨_, ⟨by simp, hm, .inr ⟨g, 0, fun t => (es.getD t e0).h, fun t => (es.getD t e0).F, rfl, hg, hl, rfl, ?_, fun j _ _ => hf j, fun t x ht => ?_⟩⟩, fun y hy => ?_⟩
    · rw [List.pairwise_cons]
      refine ⟨fun y hy => ?_, ?_⟩
      · obtain ⟨t, ht, hy⟩ := List.mem_flatMap.1 hy
        have htl : t < es.length := List.mem_range.1 ht
        have hgd : es.getD t e0 = es[t] := by simp [List.getD, htl]
        rw [hgd] at hy
        exact .inl fun e => hne es[t] (List.getElem_mem htl) y hy e.symm
      · rw [List.pairwise_flatMap]
        refine ⟨fun t ht => ?_, ?_⟩
        · have htl : t < es.length := List.mem_range.1 ht
          have hgd : es.getD t e0 = es[t] := by simp [List.getD, htl]
          rw [hgd]
          exact r.own_apart (h.1 es[t] (List.getElem_mem htl))
        · rw [List.pairwise_iff_getElem]
          intro i j hi hj hij x hx y hy
          simp only [List.getElem_range] at hx hy
          have hil : i < es.length := by simpa using hi
          have hjl : j < es.length := by simpa using hj
          have h1 : es.getD i e0 = es[i] := by simp [List.getD, hil]
          have h2 : es.getD j e0 = es[j] := by simp [List.getD, hjl]
          rw [h1] at hx
          rw [h2] at hy
          exact (List.pairwise_iff_getElem.1 h.2) i j hil hjl hij x hx y hy
    · have htl : t < es.length := by have := idx_lt ht; simpa using this
      have hgd : es.getD t e0 = es[t] := by simp [List.getD, htl]
      obtain rfl : es[t].x = x := by simpa [htl] using ht
      simp only []
      rw [hgd]
      refine ⟨fun j u hj => ?_, h.1 es[t] (List.getElem_mem htl)⟩
      rw [Nat.zero_add]
      exact hc _ _ (cellsOf_get es t es[t] (by simp [htl]) j u hj)
    · rcases List.mem_cons.1 hy with rfl | hy
      · exact .inl rfl
      · obtain ⟨t, ht, hy⟩ := List.mem_flatMap.1 hy
        have htl : t < es.length := List.mem_range.1 ht
        have hgd : es.getD t e0 = es[t] := by simp [List.getD, htl]
        rw [hgd] at hy
        exact .inr ⟨es[t], List.getElem_mem htl, hy⟩
/-- A slice as a datum: its own block, then its elements'. -/
theorem Blk.seq {α : Type} {T : TypeId} {s : BRep α} {w : World} {B n c : Nat} {a : Option Addr} {es : List (BEl s)} (h : Blk T s w B (.slice a n c) es) : ∃ F, SeqOwn s.rep w B a n (es.map BEl.x) F ∧ ∀ y ∈ F, y.b ∈ blkOf (.slice a n c) ++ gsOf es := by
  obtain ⟨hn, hc, hm⟩ := h.caps
  rcases Nat.eq_zero_or_pos es.length with h0 | h0
  · obtain rfl : es = [] := List.eq_nil_of_length_eq_zero h0
    exact ⟨[], ⟨by rw [hn]; rfl, by omega, .inl ⟨hn, rfl⟩⟩, fun y hy => by cases hy⟩
  · obtain ⟨g, c', e, hB, hgl, -, -⟩ := h.addr h0
    injection e with e1 e2 e3
    subst e1 e2
    have hnd := h.nodup
    rw [List.nodup_append] at hnd
    obtain ⟨fs, h1, h2, h3, h4⟩ := blk_els es h.all hnd.2.1
    have hfl : fs.length = es.length := by have := congrArg List.length h1; simpa using this
    have hne : ∀ f ∈ fs, ∀ y ∈ f.F, y.b ≠ g := fun f hf y hy e => hnd.2.2 g (by rw [blkOf_some]; exact List.mem_singleton.2 rfl) _ (h4 f hf y hy) e.symm
    obtain ⟨F, hF, hFb⟩ := SeqOwn.blocks h3 hB hgl (fun j => h.frozen j) (fun j u hj => by
      rw [h2] at hj
      have hjl := idx_lt hj
      rw [bcells_length] at hjl
      have := h.own.cellAt j hjl
      rw [this]; exact hj) hne (by omega)
    rw [hfl, h1] at hF
    refine ⟨F, hF, fun y hy => ?_⟩
    rcases hFb y hy with e | ⟨f, hf, hy⟩
    · rw [e]; exact List.mem_append_left _ (by rw [blkOf_some]; exact List.mem_singleton.2 rfl)
    · exact List.mem_append_right _ (h4 f hf y hy)
def seqB {α : Type} (T : TypeId) (s : BRep α) : BRep (List α) where
  rep := seqRep s.rep
  blk := fun w B xs h G => ∃ es : List (BEl s), xs = es.map BEl.x ∧ Blk T s w B (.slice h.1 h.2.1 h.2.2) es ∧ G = blkOf (.slice h.1 h.2.1 h.2.2) ++ gsOf es
  blk_own := fun ⟨es, e1, h, e2⟩ => by
    obtain ⟨F, hF, hb⟩ := h.seq
    refine ⟨F, ⟨by rw [e1]; exact hF, fun hn => ?_⟩, fun y hy => by rw [e2]; exact hb y hy⟩
    obtain ⟨a, c, e, hz⟩ := h.slice
    injection e with ea _ ec
    exact ec.trans (hz (ea.symm.trans hn)).1
  blk_lt := fun ⟨es, e1, h, e2⟩ => by rw [e2]; exact h.lt
  blk_nodup := fun ⟨es, e1, h, e2⟩ => by rw [e2]; exact h.nodup
  blk_keep := fun ⟨es, e1, h, e2⟩ hs => by rw [e2] at hs; exact ⟨es, e1, h.keep hs, e2⟩
  blk_mono := fun ⟨es, e1, h, e2⟩ hb => ⟨es, e1, h.mono hb, e2⟩
def endB : BRep Unit where
  rep := endRep
  blk := fun _ _ _ _ G => G = []
  blk_own := fun h => ⟨[], rfl, fun y hy => by cases hy⟩
  blk_lt := fun h g hg => by rw [h] at hg; cases hg
  blk_nodup := fun h => by rw [h]; exact List.Pairwise.nil
  blk_keep := fun h _ => h
  blk_mono := fun h _ => h
def intB {β : Type} (s : BRep β) : BRep (Int × β) where
  rep := intAnd s.rep
  blk := fun w B x h G => I64 x.1 ∧ s.blk w B x.2 h G
  blk_own := fun h => by obtain ⟨F, hF, hb⟩ := s.blk_own h.2; exact ⟨F, ⟨h.1, hF⟩, hb⟩
  blk_lt := fun h => s.blk_lt h.2
  blk_nodup := fun h => s.blk_nodup h.2
  blk_keep := fun h hs => ⟨h.1, s.blk_keep h.2 hs⟩
  blk_mono := fun h hb => ⟨h.1, s.blk_mono h.2 hb⟩
def boolB {β : Type} (s : BRep β) : BRep (Bool × β) where
  rep := boolAnd s.rep
  blk := fun w B x h G => s.blk w B x.2 h G
  blk_own := fun h => s.blk_own h
  blk_lt := fun h => s.blk_lt h
  blk_nodup := fun h => s.blk_nodup h
  blk_keep := fun h hs => s.blk_keep h hs
  blk_mono := fun h hb => s.blk_mono h hb
def seqAndB {α β : Type} (T : TypeId) (r : BRep α) (s : BRep β) : BRep (List α × β) where
  rep := seqAnd r.rep s.rep
  blk := fun w B x h G => ∃ G1 G2, G = G1 ++ G2 ∧ (seqB T r).blk w B x.1 h.1 G1 ∧ s.blk w B x.2 h.2 G2 ∧ ∀ a ∈ G1, a ∉ G2
  blk_own := fun ⟨G1, G2, e, h1, h2, h3⟩ => by
    obtain ⟨F1, hF1, hb1⟩ := (seqB T r).blk_own h1
    obtain ⟨F2, hF2, hb2⟩ := s.blk_own h2
    exact ⟨F1 ++ F2, ⟨F1, F2, rfl, hF1, hF2, fun a ha b hb => .inl fun e => h3 a.b (hb1 a ha) (by rw [e]; exact hb2 b hb)⟩, fun y hy => by
      rw [e]
      exact (List.mem_append.1 hy).elim (fun h => List.mem_append_left _ (hb1 y h)) (fun h => List.mem_append_right _ (hb2 y h))⟩
  blk_lt := fun ⟨G1, G2, e, h1, h2, h3⟩ g hg => by
    rw [e] at hg
    exact (List.mem_append.1 hg).elim ((seqB T r).blk_lt h1 g) (s.blk_lt h2 g)
  blk_nodup := fun ⟨G1, G2, e, h1, h2, h3⟩ => by
    rw [e, List.nodup_append]
    exact ⟨(seqB T r).blk_nodup h1, s.blk_nodup h2, fun a ha b hb e => h3 a ha (by rw [e]; exact hb)⟩
  blk_keep := fun ⟨G1, G2, e, h1, h2, h3⟩ hs => by
    rw [e] at hs
    exact ⟨G1, G2, e, (seqB T r).blk_keep h1 (hs.sub fun g hg => List.mem_append_left _ hg), s.blk_keep h2 (hs.sub fun g hg => List.mem_append_right _ hg), h3⟩
  blk_mono := fun ⟨G1, G2, e, h1, h2, h3⟩ hb => ⟨G1, G2, e, (seqB T r).blk_mono h1 hb, s.blk_mono h2 hb, h3⟩
def viaB {α β : Type} (f : α → β) (s : BRep β) : BRep α where
  rep := viaRep f s.rep
  blk := fun w B x h G => s.blk w B (f x) h G
  blk_own := fun h => s.blk_own h
  blk_lt := fun h => s.blk_lt h
  blk_nodup := fun h => s.blk_nodup h
  blk_keep := fun h hs => s.blk_keep h hs
  blk_mono := fun h hb => s.blk_mono h hb
/-! ### What is appended -/
theorem Blk.push {α : Type} {T : TypeId} {s : BRep α} {w w' : World} {B g c : Nat} {v : Value} {es : List (BEl s)} {e : BEl s} (h : Blk T s w B v es) (he : s.blk w B e.x e.h e.G) (hd : ∀ b ∈ e.G, b ∉ blkOf v ++ gsOf es)
    (hown : w'.ownsRow B T s.rep.size (.slice (some ⟨g, 0, none⟩) (es.length + 1) c) (es.length + 1) (bcells es ++ s.rep.cells e.x e.h)) (hg : w.grownBy w' v.ownBlock) (hat : v.ownBlock = some g ∨ w.heap.size ≤ g) : Blk T s w' B (.slice (some ⟨g, 0, none⟩) (es.length + 1) c) (es ++ [e]) := by
  have hlt := h.lt
  have hnd := h.nodup
  have hnd' := h.nodup
  rw [List.nodup_append] at hnd'
  have hold : ∀ b ∈ gsOf es, v.ownBlock ≠ some b := fun b hb e1 => hnd'.2.2 b (blkOf_mem.2 e1) b hb rfl
  have hnew : ∀ b ∈ e.G, v.ownBlock ≠ some b := fun b hb e1 => hd b hb (List.mem_append_left _ (blkOf_mem.2 e1))
  refine ⟨by rw [bcells_snoc, List.length_append]; exact hown, fun f hf => ?_, ?_⟩
  · rcases List.mem_append.1 hf with hf | hf
    · exact s.blk_keep (h.all f hf) (SameBlk.of_grown hg (fun b hb => (hlt b (List.mem_append_right _ (mem_gs.2 ⟨f, hf, hb⟩))).2) fun b hb => hold b (mem_gs.2 ⟨f, hf, hb⟩))
    · rw [List.mem_singleton.1 hf]
      exact s.blk_keep he (SameBlk.of_grown hg (fun b hb => (s.blk_lt he b hb).2) hnew)
  · rw [blkOf_some, gs_snoc, List.singleton_append, List.nodup_cons, List.nodup_append]
    refine ⟨fun hm => ?_, hnd'.2.1, s.blk_nodup he, fun a ha b hb e1 => hd b hb (List.mem_append_right _ (by rw [← e1]; exact ha))⟩
    rcases List.mem_append.1 hm with hm | hm
    · rcases hat with hat | hat
      · exact hold g hm hat
      · have := (hlt g (List.mem_append_right _ hm)).2; omega
    · rcases hat with hat | hat
      · exact hnew g hm hat
      · have := (s.blk_lt he g hm).2; omega
/-- What an element of the type is to the program: its zero, how many cells, how many bytes. -/
structure ElInfo {α : Type} (T St : TypeId) (s : BRep α) (z : Value) (bytes : Nat) : Prop where
  und : Try.prog.underlying St = some (.slice T)
  inf : (Try.prog.info? T).map (fun i => (i.zero, i.size, i.bytes)) = some (some z, s.rep.size, bytes)
  zs : z.cells.size = s.rep.size
  pos : 0 < s.rep.size
  small : bytes ≤ 100
  one : ∀ x h, ∀ u ∈ s.rep.cells x h, u.oneCell' = true
/-- 'out = append(out, e)', e laid in a block of its own. -/
theorem wpList_pushE {α : Type} {T St : TypeId} {s : BRep α} {z : Value} {bytes : Nat} (I : ElInfo T St s z bytes) {ops : Array Oper} {rest : List Oper} {o : Oper} {a : Act} {Q : Exit → Act → World → Prop} {w : World} {B : Nat} {v : Value} {es : List (BEl s)} (e : BEl s) (so xo : Operand) (N : Nat) {cs : Array Value} {fr : Nat × Nat}
    (hgd : o.guard = none) (ho : o.op = .call { callee := .builtin .append, args := #[so, xo], argTypes := #[St, St] })
    (hs : a.eval so = v) (hx : a.eval xo = .slice (some ⟨N, 0, none⟩) 1 1) (hN : w.heap[N]? = some (.cells cs T fr)) (hcs : cs.toList = s.rep.cells e.x e.h)
    (h : Blk T s w B v es) (he : s.blk w B e.x e.h e.G) (hd : ∀ b ∈ e.G, b ∉ blkOf v ++ gsOf es) (hB : B ≤ w.heap.size) (hlen : es.length + 1 ≤ 1000000000000)
    (k : ∀ g c w', Blk T s w' B (.slice (some ⟨g, 0, none⟩) (es.length + 1) c) (es ++ [e]) → w.grownBy w' v.ownBlock → (v.ownBlock = some g ∨ w.heap.size ≤ g) → wpList Try.prog ops Q rest (a.put o.dst (.slice (some ⟨g, 0, none⟩) (es.length + 1) c)) w') :
    wpList Try.prog ops Q (o :: rest) a w := by
  obtain ⟨i0, hi, hz0, hz1, hz2⟩ := info_parts I.inf
  refine wpList_append_lies w hgd so xo St ho B T i0 z s.rep.size bytes I.und hi hz0 hz1 hz2 I.zs I.pos v es.length (bcells es) hs h.own
    ⟨N, 0, none⟩ 1 1 (s.rep.cells e.x e.h) hx (by rw [s.rep.len, Nat.one_mul]) (by rw [← hcs]; exact World.news_of_block hN) (I.one _ _) (by omega) (by unfold maxLen; omega) ?_ hB _ rfl ?_
  · have h1 : (es.length + 1) * bytes ≤ 1000000000000 * 100 := Nat.mul_le_mul hlen I.small
    omega
  · intro g c w' hown hg hat _
    have hat' : v.ownBlock = some g ∨ w.heap.size ≤ g := hat.imp_right fun e => by rw [e]; exact Nat.le_refl _
    exact k g c w' (h.push he hd hown hg hat') hg hat'
/-- The same as a step of a region that draws its order. -/
theorem step_pushE {α : Type} {T St : TypeId} {s : BRep α} {z : Value} {bytes : Nat} (I : ElInfo T St s z bytes) {ops : Array Oper} {o : Oper} {a : Act} {K : Act → World → Prop} {Q : Exit → Act → World → Prop} {E : Prop} {w : World} {B : Nat} {v : Value} {es : List (BEl s)} (e : BEl s) (so xo : Operand) (ad : Addr)
    (hgd : o.guard = none) (ho : o.op = .call { callee := .builtin .append, args := #[so, xo], argTypes := #[St, St] })
    (hs : a.eval so = v) (hx : a.eval xo = .slice (some ad) 1 1) (hc : ∀ j u, (s.rep.cells e.x e.h)[j]? = some u → w.cell? (ad.add j) = some u)
    (h : Blk T s w B v es) (he : s.blk w B e.x e.h e.G) (hd : ∀ b ∈ e.G, b ∉ blkOf v ++ gsOf es) (hB : B ≤ w.heap.size) (hlen : es.length + 1 ≤ 1000000000000)
    (k : ∀ g c w', Blk T s w' B (.slice (some ⟨g, 0, none⟩) (es.length + 1) c) (es ++ [e]) → w.grownBy w' v.ownBlock → (v.ownBlock = some g ∨ w.heap.size ≤ g) → K (a.put o.dst (.slice (some ⟨g, 0, none⟩) (es.length + 1) c)) w') :
    if Region.wanted o (yielded ops a.tmps) = true then Oper.wp Try.prog o a w K Q else E := by
  obtain ⟨i0, hi, hz0, hz1, hz2⟩ := info_parts I.inf
  refine step_append_lies w hgd so xo St ho B T i0 z s.rep.size bytes I.und hi hz0 hz1 hz2 I.zs I.pos v es.length (bcells es) hs h.own
    ad 1 1 (s.rep.cells e.x e.h) hx (by rw [s.rep.len, Nat.one_mul]) hc (I.one _ _) (by omega) (by unfold maxLen; omega) ?_ hB _ rfl ?_
  · have h1 : (es.length + 1) * bytes ≤ 1000000000000 * 100 := Nat.mul_le_mul hlen I.small
    omega
  · intro g c w' hown hg hat _
    have hat' : v.ownBlock = some g ∨ w.heap.size ≤ g := hat.imp_right fun e => by rw [e]; exact Nat.le_refl _
    exact k g c w' (h.push he hd hown hg hat') hg hat'
/-! ### What is changed in place -/
/-- One cell of an element is stored; what is behind its heads may have changed ahead of that. -/
theorem Blk.change {α : Type} {T : TypeId} {s : BRep α} {w w' : World} {B g n c k j : Nat} {es : List (BEl s)} {e : BEl s} (h : Blk T s w B (.slice (some ⟨g, 0, none⟩) n c) es) (hk : es[k]? = some e) (hj : j < s.rep.size) (u : Value) (e' : BEl s)
    (hc : s.rep.cells e'.x e'.h = (s.rep.cells e.x e.h).set j u) (hsz : w.heap.size ≤ w'.heap.size) (hsame : ∀ b, b < w.heap.size → b ∉ e.G → w'.heap[b]? = w.heap[b]?) (he : s.blk w' B e'.x e'.h e'.G) (hG : ∀ b ∈ e'.G, b ∈ e.G ∨ w.heap.size ≤ b) :
    Blk T s (w'.setCell ⟨g, k * s.rep.size + j, none⟩ u) B (.slice (some ⟨g, 0, none⟩) n c) (es.set k e') := by
  have hlt := h.lt
  have hnd := h.nodup
  have hkl := idx_lt hk
  have hn := h.caps.1
  have hmem : e ∈ es := List.mem_of_getElem? hk
  have hGes : ∀ b ∈ e.G, b ∈ gsOf es := fun b hb => mem_gs.2 ⟨e, hmem, hb⟩
  rw [blkOf_some, List.singleton_append, List.nodup_cons] at hnd
  have hgG : g ∉ e.G := fun hm => hnd.1 (hGes g hm)
  have hgl : g < w.heap.size := (hlt g (by rw [blkOf_some]; exact List.mem_append_left _ (List.mem_singleton.2 rfl))).2
  have hgG' : g ∉ e'.G := fun hm => by
    rcases hG g hm with h1 | h1
    · exact hgG h1
    · omega
  have hown1 : w'.ownsRow B T s.rep.size (.slice (some ⟨g, 0, none⟩) n c) es.length (bcells es) := ownsRow_same h.own ⟨hsz, fun b hb => by
    rw [blkOf_some] at hb
    rw [List.mem_singleton.1 hb]
    exact hsame g hgl hgG⟩
  rw [hn] at hown1
  have hst := (hown1.stored (k * s.rep.size + j) u).1
  rw [bcells_set es k e e' hk j u hj hc] at hst
  have hsp := gs_split es k e hk
  have hnd2 := hnd.2
  rw [hsp, List.nodup_append, List.nodup_append] at hnd2
  obtain ⟨n1, ⟨n2, n3, n4⟩, n5⟩ := hnd2
  refine ⟨by rw [List.length_set, hn]; exact hst, fun f hf => ?_, ?_⟩
  · obtain ⟨t, ht, rfl⟩ := List.getElem_of_mem hf
    rw [List.length_set] at ht
    by_cases htk : k = t
    · subst htk
      rw [List.getElem_set_self]
      exact s.blk_keep he ((show SameBlk e'.G w' w' from ⟨Nat.le_refl _, fun _ _ => rfl⟩).set u hgG')
    · rw [List.getElem_set_ne htk]
      have hfm : es[t] ∈ es := List.getElem_mem ht
      have hfg : ∀ b ∈ es[t].G, b ∈ gsOf es := fun b hb => mem_gs.2 ⟨_, hfm, hb⟩
      refine s.blk_keep (h.all _ hfm) (SameBlk.set ⟨hsz, fun b hb => hsame b (hlt b (List.mem_append_right _ (hfg b hb))).2 fun hbe => ?_⟩ u fun hm => hnd.1 (hfg g hm))
      rcases Nat.lt_or_gt_of_ne htk with h2 | h2
      · have : b ∈ gsOf (es.drop (k + 1)) := mem_gs.2 ⟨es[t], by
          rw [List.mem_iff_getElem]
          exact ⟨t - (k + 1), by rw [List.length_drop]; omega, by rw [List.getElem_drop]; congr 1; omega⟩, hb⟩
        exact n4 b hbe b this rfl
      · have : b ∈ gsOf (es.take k) := mem_gs.2 ⟨es[t], by
          rw [List.mem_iff_getElem]
          exact ⟨t, by rw [List.length_take]; omega, by rw [List.getElem_take]⟩, hb⟩
        exact n5 b this b (List.mem_append_left _ hbe) rfl
  · rw [blkOf_some, List.singleton_append, List.nodup_cons, gs_set es k e e' hk, List.nodup_append, List.nodup_append]
    have hold : ∀ b, b ∈ gsOf (es.take k) ∨ b ∈ gsOf (es.drop (k + 1)) → b ∈ gsOf es := fun b hb => by
      rw [hsp]
      rcases hb with hb | hb
      · exact List.mem_append_left _ hb
      · exact List.mem_append_right _ (List.mem_append_right _ hb)
    refine ⟨fun hm => ?_, n1, ⟨s.blk_nodup he, n3, fun a ha b hb e1 => ?_⟩, fun a ha b hb e1 => ?_⟩
    · rcases List.mem_append.1 hm with hm | hm
      · exact hnd.1 (hold g (.inl hm))
      · rcases List.mem_append.1 hm with hm | hm
        · exact hgG' hm
        · exact hnd.1 (hold g (.inr hm))
    · rcases hG a ha with h1 | h1
      · exact n4 a h1 b hb e1
      · have := (hlt b (List.mem_append_right _ (hold b (.inr hb)))).2; omega
    · rcases List.mem_append.1 hb with hb | hb
      · rcases hG b hb with h1 | h1
        · exact n5 a ha b (List.mem_append_left _ h1) e1
        · have := (hlt a (List.mem_append_right _ (hold a (.inl ha)))).2; omega
      · exact n5 a ha b (List.mem_append_right _ hb) e1
/-- One cell of an element, nothing behind it. -/
theorem Blk.store {α : Type} {T : TypeId} {s : BRep α} {w : World} {B g n c k j : Nat} {es : List (BEl s)} {e : BEl s} (h : Blk T s w B (.slice (some ⟨g, 0, none⟩) n c) es) (hk : es[k]? = some e) (hj : j < s.rep.size) (u : Value) (x' : α) (h' : s.rep.H)
    (hc : s.rep.cells x' h' = (s.rep.cells e.x e.h).set j u) (he : s.blk w B x' h' e.G) : Blk T s (w.setCell ⟨g, k * s.rep.size + j, none⟩ u) B (.slice (some ⟨g, 0, none⟩) n c) (es.set k ⟨x', h', e.G⟩) :=
  h.change hk hj u ⟨x', h', e.G⟩ hc (Nat.le_refl _) (fun _ _ _ => rfl) he fun b hb => .inl hb
/-- Rows in a block of the call's own. -/
theorem blk_of_mine {w : World} {B : Nat} {v : Value} {L : List R} (h : Mine w B v L) (hwf : ∀ r ∈ L, r.wf) : ∃ es : List (BEl rowB), L = es.map BEl.x ∧ Blk 89 rowB w B v es ∧ gsOf es = [] := by
  have e1 : (L.map fun r => (⟨r, (), []⟩ : BEl rowB)).map BEl.x = L := by rw [List.map_map]; exact List.map_id'' (fun _ => rfl) L
  have e2 : bcells (L.map fun r => (⟨r, (), []⟩ : BEl rowB)) = cells3 L := by
    unfold bcells cells3
    rw [List.flatMap_map]
    rfl
  have e3 : gsOf (L.map fun r => (⟨r, (), []⟩ : BEl rowB)) = [] := by
    unfold gsOf
    rw [List.flatMap_map]
    simp
  refine ⟨L.map fun r => ⟨r, (), []⟩, e1.symm, ⟨?_, fun e he => ?_, ?_⟩, e3⟩
  · rw [e2, List.length_map]; exact h
  · obtain ⟨r, hr, rfl⟩ := List.mem_map.1 he
    exact ⟨hwf r hr, rfl⟩
  · rw [e3, List.append_nil]
    unfold blkOf
    cases v.ownBlock <;> simp
theorem seq_of_mine {w : World} {B n c : Nat} {a : Option Addr} {L : List R} (h : Mine w B (.slice a n c) L) (hwf : ∀ r ∈ L, r.wf) : (seqB 89 rowB).blk w B L (a, n, c) (blkOf (.slice a n c)) := by
  obtain ⟨es, e1, hb, e3⟩ := blk_of_mine h hwf
  exact ⟨es, e1, hb, by rw [e3, List.append_nil]⟩
end Go.Proofs.Ythbifibnnhikjaa
/- Files and disks in blocks of the call's own; what is kept while blocks below a bound stay as they were; no function of program or reference is walked here. -/
namespace Go.Proofs.Ythbifibnnhikjaa
open Go.RowKit
set_option linter.unusedVariables false

abbrev rowsB : BRep (List R) := seqB 89 rowB
abbrev pagesB : BRep (List (List R)) := seqB 46 rowsB
def fileB : BRep FileD := viaB (fun x => (x.fName, x.fPages, x.fChecksum, x.fSealed, ())) (intB (seqAndB 46 rowsB (intB (boolB endB))))
def diskB : BRep DiskD := viaB (fun x => (x.fFiles, x.fNextName, ())) (seqAndB 59 fileB (intB endB))
theorem fileB_rep : fileB.rep = fileRep := rfl
theorem diskB_rep : diskB.rep = diskRep := rfl
theorem rowE : ElInfo 89 44 rowB R.zero.val 24 := ⟨Try.underlying44, rowInfo, rfl, by decide, by decide, fun r _ => one_row r⟩
theorem pageE : ElInfo 46 57 rowsB (.agg #[.slice none 0 0]) 24 := ⟨Try.underlying57, pageInfo, rfl, by decide, by decide, fun x h u hu => by
  have : u ∈ [Value.slice h.1 h.2.1 h.2.2] := hu
  rw [List.mem_singleton.1 this]; rfl⟩
theorem fileE : ElInfo 59 29 fileB (.agg #[.int .i64 0, .slice none 0 0, .int .i64 0, .bool false]) 48 := ⟨Try.underlying29, fileInfo, rfl, by decide, by decide, fun x h u hu => by
  have : u ∈ [Value.int .i64 x.fName, .slice h.1.1 h.1.2.1 h.1.2.2, .int .i64 x.fChecksum, .bool x.fSealed] := hu
  simp only [List.mem_cons, List.not_mem_nil, or_false] at this
  rcases this with rfl | rfl | rfl | rfl <;> rfl⟩
/-- A file whose pages are the call's own. -/
theorem file_blk {w : World} {B n c : Nat} {a : Option Addr} {x0 : Int} {ps : List (BEl rowsB)} {x2 : Int} {x3 : Bool} (h : Blk 46 rowsB w B (.slice a n c) ps) (h0 : I64 x0) (h2 : I64 x2) :
    fileB.blk w B ⟨x0, ps.map BEl.x, x2, x3⟩ ((a, n, c), ()) (blkOf (.slice a n c) ++ gsOf ps) :=
  ⟨h0, _, [], (List.append_nil _).symm, ⟨ps, rfl, h, rfl⟩, ⟨h2, rfl⟩, fun _ _ h => by cases h⟩
theorem of_file_blk {w : World} {B n c : Nat} {a : Option Addr} {f : FileD} {G : List Nat} (h : fileB.blk w B f ((a, n, c), ()) G) :
    ∃ ps : List (BEl rowsB), f.fPages = ps.map BEl.x ∧ Blk 46 rowsB w B (.slice a n c) ps ∧ G = blkOf (.slice a n c) ++ gsOf ps ∧ I64 f.fName ∧ I64 f.fChecksum := by
  obtain ⟨h0, G1, G2, e, ⟨ps, e1, hb, e2⟩, ⟨h2, e3⟩, -⟩ := h
  have e3' : G2 = [] := e3
  exact ⟨ps, e1, hb, by rw [e, e2, e3', List.append_nil], h0, h2⟩
theorem disk_blk {w : World} {B n c : Nat} {a : Option Addr} {nx : Int} {fs : List (BEl fileB)} (h : Blk 59 fileB w B (.slice a n c) fs) (h1 : I64 nx) :
    diskB.blk w B ⟨fs.map BEl.x, nx⟩ ((a, n, c), ()) (blkOf (.slice a n c) ++ gsOf fs) :=
  ⟨_, [], (List.append_nil _).symm, ⟨fs, rfl, h, rfl⟩, ⟨h1, rfl⟩, fun _ _ h => by cases h⟩
theorem of_disk_blk {w : World} {B n c : Nat} {a : Option Addr} {d : DiskD} {G : List Nat} (h : diskB.blk w B d ((a, n, c), ()) G) :
    ∃ fs : List (BEl fileB), d.fFiles = fs.map BEl.x ∧ Blk 59 fileB w B (.slice a n c) fs ∧ G = blkOf (.slice a n c) ++ gsOf fs ∧ I64 d.fNextName := by
  obtain ⟨G1, G2, e, ⟨fs, e1, hb, e2⟩, ⟨h1, e3⟩, -⟩ := h
  have e3' : G2 = [] := e3
  exact ⟨fs, e1, hb, by rw [e, e2, e3', List.append_nil], h1⟩
/-- The answer is a disk in memory of the call's own. -/
def GivesDisk (Y : DiskD) (w : World) (e : Ending) (w' : World) : Prop :=
  ∃ (a : Option Addr) (n c : Nat) (G : List Nat), e = .returned (.agg #[.slice a n c, .int .i64 Y.fNextName]) ∧ diskB.blk w' w.heap.size Y ((a, n, c), ()) G ∧ Below w.heap.size w w'
/-- The blocks below B are as they were, and w' has at least so many. -/
def Kept (B : Nat) (w w' : World) : Prop := Below B w w' ∧ B ≤ w'.heap.size
theorem Kept.refl {B : Nat} {w : World} (h : B ≤ w.heap.size) : Kept B w w := ⟨Below.refl _ _, h⟩
theorem Kept.drew {B : Nat} {w w' : World} (h : Kept B w w') : Kept B w w'.drew := ⟨h.1.drew, h.2⟩
theorem Kept.alloc {B : Nat} {w w' : World} (h : Kept B w w') (o : Obj) : Kept B w (w'.alloc o) := ⟨h.1.alloc h.2 o, Nat.le_trans h.2 (by simp)⟩
theorem Kept.grown {B : Nat} {w w' w'' : World} {row : Option Nat} (h : Kept B w w') (hg : w'.grownBy w'' row) (hr : ∀ k, row = some k → B ≤ k) : Kept B w w'' := ⟨h.1.grown hg h.2 hr, Nat.le_trans h.2 hg.size⟩
theorem Kept.set {B : Nat} {w w' : World} (h : Kept B w w') {p : Addr} (hp : B ≤ p.block) (u : Value) : Kept B w (w'.setCell p u) := ⟨h.1.setCell hp u, by simpa [World.setCell] using h.2⟩
theorem Kept.below {B : Nat} {w w' w'' : World} (h : Kept B w w') (hb : Below w'.heap.size w' w'') : Kept B w w'' := ⟨h.1.trans (hb.mono h.2), Nat.le_trans h.2 hb.size⟩
theorem Kept.mono {B B' : Nat} {w w' : World} (h : Kept B w w') (hb : B' ≤ B) : Kept B' w w' := ⟨h.1.mono hb, Nat.le_trans hb h.2⟩
theorem Kept.trans {B : Nat} {w w' w'' : World} (h : Kept B w w') (h' : Kept B w' w'') : Kept B w w'' := ⟨h.1.trans h'.1, h'.2⟩
theorem Kept.cell {B : Nat} {w w' : World} (h : Kept B w w') {b j : Nat} {u : Value} (hb : b < B) (hc : w.cell? ⟨b, j, none⟩ = some u) : w'.cell? ⟨b, j, none⟩ = some u := (h.1.cell hb).trans hc
theorem Kept.frozen {B : Nat} {w w' : World} (h : Kept B w w') {b j : Nat} {u : Bool} (hb : b < B) (hc : w.frozen? ⟨b, j, none⟩ = u) : w'.frozen? ⟨b, j, none⟩ = u := (h.1.frozen hb).trans hc
theorem Kept.heap {B : Nat} {w w' : World} (h : Kept B w w') {b : Nat} (hb : b < B) {o : Obj} (hc : w.heap[b]? = some o) : w'.heap[b]? = some o := (h.1.block b hb).trans hc
theorem blk_row {w : World} {B : Nat} {T : TypeId} {α : Type} {s : BRep α} {v : Value} {es : List (BEl s)} (h : Blk T s w B v es) : ∀ k, v.ownBlock = some k → B ≤ k := fun k hk => (h.lt k (List.mem_append_left _ (blkOf_mem.2 hk))).1
theorem Blk.kept {α : Type} {T : TypeId} {s : BRep α} {w w' : World} {B B' : Nat} {v : Value} {es : List (BEl s)} (h : Blk T s w B v es) (hk : Kept B' w w') (hlt : ∀ g ∈ blkOf v ++ gsOf es, g < B') : Blk T s w' B v es :=
  h.keep ⟨hk.1.size, fun g hg => hk.1.block g (hlt g hg)⟩
/-- A store into a block that is none of theirs. -/
theorem Blk.put {α : Type} {T : TypeId} {s : BRep α} {w : World} {B g i : Nat} {v : Value} {es : List (BEl s)} (h : Blk T s w B v es) (u : Value) (hne : ∀ b ∈ blkOf v ++ gsOf es, b ≠ g) : Blk T s (w.setCell ⟨g, i, none⟩ u) B v es :=
  h.keep ((SameBlk.refl _ _).set u fun hm => hne g hm rfl)
theorem map_next {α β : Type} {f : α → β} {es : List α} {xs : List β} {k : Nat} {e : α} {x : β} (h : es.map f = xs.take k) (hx : xs[k]? = some x) (he : f e = x) : (es ++ [e]).map f = xs.take (k + 1) := by
  have hk := idx_lt hx
  rw [List.map_append, h, List.take_succ_eq_append_getElem hk]
  rw [List.getElem?_eq_getElem hk] at hx
  rw [Option.some.inj hx, List.map_singleton, he]
/-- A block that is none of theirs is none of theirs behind an append. -/
theorem push_ne {α : Type} {s : BRep α} {w : World} {v : Value} {es : List (BEl s)} {e : BEl s} {g n c xb : Nat} (hat : v.ownBlock = some g ∨ w.heap.size ≤ g) (hx : xb ∉ blkOf v ++ gsOf es) (hxl : xb < w.heap.size) (he : xb ∉ e.G) : xb ∉ blkOf (.slice (some ⟨g, 0, none⟩) n c) ++ gsOf (es ++ [e]) := fun hm => by
  rw [blkOf_some, gs_snoc, List.singleton_append] at hm
  rcases List.mem_cons.1 hm with h | h
  · rcases hat with h1 | h1
    · exact hx (List.mem_append_left _ (blkOf_mem.2 (by rw [h1, h])))
    · have : xb = g := h
      omega
  · rcases List.mem_append.1 h with h | h
    · exact hx (List.mem_append_right _ h)
    · exact he h
theorem cell_out {v : World} {b g i j : Nat} {u x : Value} (h : v.cell? ⟨b, j, none⟩ = some u) (hne : b ≠ g) : (v.setCell ⟨g, i, none⟩ x).cell? ⟨b, j, none⟩ = some u :=
  (World.cell?_setCell_other _ _ _ _ (fun e => by injection e with e _ _; exact hne e.symm)).trans h
/-- What a cell holds, if it is there. -/
def cellOr (v : World) (b j : Nat) : Value := (v.cell? ⟨b, j, none⟩).getD (.bool false)
/-- The blocks below B are as they were, and one block from B on is there, to be written in place. -/
structure Boxed1 (B fb k : Nat) (w v : World) : Prop where
  kept : Kept B w v
  low : B ≤ fb
  box : ∃ cs T, v.heap[fb]? = some (.cells cs T (0, 0)) ∧ cs.size = k
theorem Boxed1.drew {B fb k : Nat} {w v : World} (h : Boxed1 B fb k w v) : Boxed1 B fb k w v.drew := ⟨h.kept.drew, h.low, h.box⟩
theorem Boxed1.alloc {B fb k : Nat} {w v : World} (h : Boxed1 B fb k w v) (o : Obj) : Boxed1 B fb k w (v.alloc o) := by
  obtain ⟨cs, T, h1, h2⟩ := h.box
  exact ⟨h.kept.alloc o, h.low, cs, T, (Below.heap_alloc _ _ _ (lt_of_block h1)).trans h1, h2⟩
theorem Boxed1.below {B fb k : Nat} {w v v' : World} (h : Boxed1 B fb k w v) (hb : Below v.heap.size v v') : Boxed1 B fb k w v' := by
  obtain ⟨cs, T, h1, h2⟩ := h.box
  exact ⟨h.kept.below hb, h.low, cs, T, (hb.block _ (lt_of_block h1)).trans h1, h2⟩
theorem Boxed1.put {B fb k : Nat} {w v : World} (h : Boxed1 B fb k w v) (j : Nat) (u : Value) : Boxed1 B fb k w (v.setCell ⟨fb, j, none⟩ u) := by
  obtain ⟨cs, T, h1, h2⟩ := h.box
  exact ⟨h.kept.set h.low u, h.low, _, T, Joins.block_setCell h1 u, by simpa using h2⟩
theorem Boxed1.grown {B fb k : Nat} {w v v' : World} {row : Option Nat} (h : Boxed1 B fb k w v) (hg : v.grownBy v' row) (hr : ∀ k, row = some k → B ≤ k) (hn : row ≠ some fb) : Boxed1 B fb k w v' := by
  obtain ⟨cs, T, h1, h2⟩ := h.box
  exact ⟨h.kept.grown hg hr, h.low, cs, T, (hg.block _ (lt_of_block h1) fun e => hn e.symm).trans h1, h2⟩
theorem Boxed1.cell {B fb k : Nat} {w v : World} (h : Boxed1 B fb k w v) (j : Nat) (hj : j < k) : v.cell? ⟨fb, j, none⟩ = some (cellOr v fb j) ∧ v.frozen? ⟨fb, j, none⟩ = false := by
  obtain ⟨cs, T, h1, h2⟩ := h.box
  have h3 : v.cell? ⟨fb, j, none⟩ = some (cs[j]'(by omega)) := box_cell h1 j _ (by simp)
  exact ⟨by unfold cellOr; rw [h3]; rfl, by simp [World.frozen?, h1]⟩
theorem cellOr_of {v : World} {b j : Nat} {u : Value} (h : v.cell? ⟨b, j, none⟩ = some u) : cellOr v b j = u := by unfold cellOr; rw [h]; rfl
/-- 'append(out, rows...)' as a step of a region that draws its order, whatever rows. -/
theorem step_appendRows {ops : Array Oper} {o : Oper} {a : Act} {K : Act → World → Prop} {Q : Exit → Act → World → Prop} {E : Prop} {w : World} {B : Nat} {M L : List R} {v : Value} (so xo : Operand) (d : Option Addr) (m q : Nat)
    (hgd : o.guard = none) (ho : o.op = .call { callee := .builtin .append, args := #[so, xo], argTypes := #[44, 44] })
    (hs : a.eval so = v) (hx : a.eval xo = .slice d m q) (hown : Mine w B v M) (hin : IsRows w d m L) (hq : d = none → q = 0) (hB : B ≤ w.heap.size) (hlen : M.length + m ≤ 1000000000000)
    (h : ∀ v' w', Mine w' B v' (M ++ L) → w.grownBy w' v.ownBlock → K (a.put o.dst v') w') :
    if Region.wanted o (yielded ops a.tmps) = true then Oper.wp Try.prog o a w K Q else E := by
  rcases d with _ | ad
  · obtain rfl := hq rfl
    have h0 : m = 0 := by
      rcases hin.2.2 with h0 | ⟨b, o, e, -⟩
      · exact h0
      · cases e
    subst h0
    have hL : L = [] := List.eq_nil_of_length_eq_zero hin.1
    subst hL
    have hw : Region.wanted o (yielded ops a.tmps) = true := by simp [Region.wanted, hgd]
    rw [if_pos hw]
    obtain ⟨i0, hi, hz0, hz1, hz2⟩ := info_parts rowInfo
    have hr := run_append_owned_none (P := Try.prog) w B 44 o.type 89 i0 3 Try.underlying44 hi v M.length (cells3 M) hown
    unfold Oper.wp
    simp [execOp, ho, resolve, invoke, builtin, hs, hx, hr, Result.andThen]
    exact h v w (by rw [List.append_nil]; exact hown) (World.grownBy.refl _ _)
  · obtain ⟨ad', ha, hc⟩ := hin.cell
    refine step_appendR so xo ad m q hgd ho hs hx hown hin.1 (fun j u hj => ?_) hB hlen fun v' w' h1 h2 _ => h v' w' h1 h2
    have hjl : j < L.length * 3 := by have := (List.getElem?_eq_some_iff.1 hj).1; rwa [cells3_length] at this
    have : ad = ad' := by injection ha (by have := hin.1; omega)
    rw [this]
    exact hc j u hj
/-- The same in a region whose order is fixed. -/
theorem wpList_appendRows {ops : Array Oper} {rest : List Oper} {o : Oper} {a : Act} {Q : Exit → Act → World → Prop} {w : World} {B : Nat} {M L : List R} {v : Value} (so xo : Operand) (d : Option Addr) (m q : Nat)
    (hgd : o.guard = none) (ho : o.op = .call { callee := .builtin .append, args := #[so, xo], argTypes := #[44, 44] })
    (hs : a.eval so = v) (hx : a.eval xo = .slice d m q) (hown : Mine w B v M) (hin : IsRows w d m L) (hq : d = none → q = 0) (hB : B ≤ w.heap.size) (hlen : M.length + m ≤ 1000000000000)
    (h : ∀ v' w', Mine w' B v' (M ++ L) → w.grownBy w' v.ownBlock → wpList Try.prog ops Q rest (a.put o.dst v') w') :
    wpList Try.prog ops Q (o :: rest) a w := by
  rcases d with _ | ad
  · obtain rfl := hq rfl
    have h0 : m = 0 := by
      rcases hin.2.2 with h0 | ⟨b, o, e, -⟩
      · exact h0
      · cases e
    subst h0
    have hL : L = [] := List.eq_nil_of_length_eq_zero hin.1
    subst hL
    obtain ⟨i0, hi, hz0, hz1, hz2⟩ := info_parts rowInfo
    refine wpList_append_own_none hgd so xo 44 ho B 89 i0 3 Try.underlying44 hi v M.length (cells3 M) hs hown hx ?_
    exact h v w (by rw [List.append_nil]; exact hown) (World.grownBy.refl _ _)
  · obtain ⟨ad', ha, hc⟩ := hin.cell
    refine wpList_appendR so xo ad m q hgd ho hs hx hown hin.1 (fun j u hj => ?_) hB hlen fun v' w' h1 h2 _ => h v' w' h1 h2
    have hjl : j < L.length * 3 := by have := (List.getElem?_eq_some_iff.1 hj).1; rwa [cells3_length] at this
    have : ad = ad' := by injection ha (by have := hin.1; omega)
    rw [this]
    exact hc j u hj
end Go.Proofs.Ythbifibnnhikjaa
/- The program's isUpTo, by contract. -/
namespace Go.Proofs.Ythbifibnnhikjaa
open Go.RowKit

theorem iup (n b : Int) (w : World) : Calls Try.prog 37 #[.int .i64 n, .int .i64 b] w fun e w' => e = .returned (.bool (decide (0 ≤ n ∧ n ≤ b))) ∧ w = w' := by
  go_enter Try.func37, Try.ntmps37
  go_wp2
  all_goals go_ret
  all_goals simp_all
  all_goals omega
end Go.Proofs.Ythbifibnnhikjaa
/- The program's IsValidRow and RowCost, by contract. -/
namespace Go.Proofs.Ythbifibnnhikjaa
open Go.RowKit

theorem ivalid (r : R) (w : World) : Calls Try.prog 81 #[r.val] w fun e w' => e = .returned (.bool r.ok) ∧ Below w.heap.size w w' := by
  obtain ⟨k, v, d⟩ := r
  unfold R.val
  go_enter Try.func81, Try.ntmps81
  go_wp2_with fail
  refine (iup _ _ _).mono ?_
  rintro e w1 ⟨rfl, rfl⟩
  go_wp2_with fail
  case isTrue =>
    refine (iup _ _ _).mono ?_
    rintro e w1 ⟨rfl, rfl⟩
    go_wp2_with fail
    case isTrue =>
      refine (iup _ _ _).mono ?_
      rintro e w1 ⟨rfl, rfl⟩
      go_wp2_with fail
      all_goals go_ret
      all_goals refine ⟨?_, (Below.refl _ _).alloc (Nat.le_refl _) _⟩
      all_goals simp_all [R.ok]
    all_goals go_ret
    all_goals refine ⟨?_, (Below.refl _ _).alloc (Nat.le_refl _) _⟩
    all_goals simp_all [R.ok]
    all_goals omega
  all_goals go_ret
  all_goals refine ⟨?_, (Below.refl _ _).alloc (Nat.le_refl _) _⟩
  all_goals simp_all [R.ok]
  all_goals omega
theorem icost (r : R) (hr : r.wf) (w : World) : Calls Try.prog 80 #[r.val] w fun e w' => e = .returned (.int .i64 r.cost) ∧ Below w.heap.size w w' := by
  have hw := hr.2.2
  have H := Lib.hid (ivalid r)
  cases hok : r.ok with
  | true =>
    have hc : r.cost = 1 + r.width := by unfold R.cost; rw [hok]; rfl
    have hk := R.ok_iff.1 hok
    rw [hc]
    unfold R.val
    go_enter Try.func80, Try.ntmps80
    go_wp2_with fail
    refine (H.out _).mono ?_
    rintro e w1 ⟨rfl, b1⟩
    obtain ⟨⟨c0, c1, c2⟩, b2⟩ := box_row (r := r) b1
    rw [hok]
    simp only [Nat.zero_add] at c2
    go_wp2_with fail
    go_ret
    exact ⟨rfl, b2⟩
  | false =>
    have hc : r.cost = 0 := by unfold R.cost; rw [hok]; rfl
    rw [hc]
    unfold R.val
    go_enter Try.func80, Try.ntmps80
    go_wp2_with fail
    refine (H.out _).mono ?_
    rintro e w1 ⟨rfl, b1⟩
    obtain ⟨⟨c0, c1, c2⟩, b2⟩ := box_row (r := r) b1
    rw [hok]
    go_wp2_with fail
    go_ret
    exact ⟨rfl, b2⟩
end Go.Proofs.Ythbifibnnhikjaa
/- The program's AreValidRows and TotalCost, by contract. -/
namespace Go.Proofs.Ythbifibnnhikjaa
open Go.RowKit

set_option maxRecDepth 100000 in
theorem iare (a : Option Addr) (len cap : Nat) (L : List R) (w : World) (h : IsRows w a len L) (hlen : len ≤ 9223372036854775807) :
    Calls Try.prog 68 #[.slice a len cap] w fun e w' => e = .returned (.bool (okRows L)) ∧ Below w.heap.size w w' := by
  obtain ⟨hl, hwf, hc⟩ := h
  have HL := Lib.hid hl
  have HC := Lib.hid hc
  clear hl hwf hc
  by_cases h24 : (24 : Int) < len
  · have hno : okRows L = false := by unfold okRows; rw [HL.out, decide_eq_false (by omega), Bool.false_and]
    have HN := Lib.hid hno
    clear hno
    go_enter Try.func68, Try.ntmps68
    go_wp2_with fail
    go_ret
    exact ⟨by rw [HN.out]; rfl, Below.refl _ _⟩
  go_enter Try.func68, Try.ntmps68
  go_wp2_with fail
  go_loopw [10] (fun i wr => ∃ k : Nat, i = .int .i64 k ∧ k ≤ len ∧ Hid (allOk (L.take k) = true) ∧ Hid (Below w.heap.size w wr)) (fun i _ => len - (intOf i).toNat)
  case atStart => exact ⟨0, rfl, Nat.zero_le _, rfl, Below.refl _ _⟩
  case round =>
    obtain ⟨k, rfl, hk, hok, hb⟩ := hrel
    by_cases hlt : k < len
    · obtain ⟨b, o, rfl, hbl, hc⟩ : ∃ b o : Nat, a = some ⟨b, o, none⟩ ∧ b < w.heap.size ∧ ∀ t, t < len → RowAt w b (o + t * 3) (L.getD t R.zero) := by
        rcases HC.out with h0 | h0
        · omega
        · exact h0
      obtain ⟨r, hr⟩ : ∃ r, r = L.getD k R.zero := ⟨_, rfl⟩
      have hat : RowAt wr b (o + k * 3) r := by rw [hr]; exact (hc k hlt).below hb.out hbl
      obtain ⟨c0, c1, c2⟩ := hat
      have HR := Lib.hid hr
      clear hr hc
      go_wp2_with fail
      refine (ivalid r _).mono ?_
      rintro e w1 ⟨rfl, b1⟩
      have B1 := Lib.hid (hb.out.trans ((box_row (r := r) b1).2.mono hb.out.size))
      clear b1
      cases hv : r.ok with
      | true =>
        go_wp2_with fail
        go_roundw
        case rel => exact ⟨k + 1, by go_num, by omega, by show _ = _; rw [allOk_take L k (by rw [HL.out]; exact hlt), hok.out, ← HR.out, hv]; rfl, B1⟩
        case measure => simp [intOf]; omega
      | false =>
        have hno : okRows L = false := by unfold okRows; rw [allOk_bad L k (by rw [HL.out]; exact hlt) (by rw [← HR.out]; exact hv), Bool.and_false]
        go_wp2_with fail
        go_ret
        exact ⟨by rw [hno]; rfl, B1.out⟩
    · have hkl : k = len := by omega
      have hall : okRows L = true := by
        have : allOk L = true := by have := hok.out; rwa [hkl, ← HL.out, List.take_length] at this
        unfold okRows; rw [this, Bool.and_true, HL.out, decide_eq_true_eq]; omega
      clear hkl
      have HA := Lib.hid hall
      clear hall
      go_wp2_with fail
      go_ret
      exact ⟨by rw [HA.out]; rfl, hb.out⟩
set_option maxRecDepth 100000 in
theorem itotal (a : Option Addr) (len cap : Nat) (L : List R) (w : World) (h : IsRows w a len L) (hlen : len ≤ 1000000000000) :
    Calls Try.prog 67 #[.slice a len cap] w fun e w' => e = .returned (.int .i64 (total L)) ∧ Below w.heap.size w w' := by
  have HW := Lib.hid h.wf
  obtain ⟨hl, -, hc⟩ := h
  have HL := Lib.hid hl
  have HC := Lib.hid hc
  clear hl hc
  go_enter Try.func67, Try.ntmps67
  go_wp2_with fail
  go_loopw [3, 8] (fun n i wr => ∃ (k : Nat) (v : Int), n = .int .i64 v ∧ i = .int .i64 k ∧ k ≤ len ∧ 0 ≤ v ∧ v ≤ 4 * k ∧ Hid (total (L.take k) = v) ∧ Hid (Below w.heap.size w wr)) (fun _ i _ => len - (intOf i).toNat)
  case atStart => exact ⟨0, 0, rfl, rfl, Nat.zero_le _, by omega, by omega, rfl, Below.refl _ _⟩
  case round =>
    obtain ⟨k, v, rfl, rfl, hk, hv0, hv1, hsum, hb⟩ := hrel
    by_cases hlt : k < len
    · obtain ⟨b, o, rfl, hbl, hc⟩ : ∃ b o : Nat, a = some ⟨b, o, none⟩ ∧ b < w.heap.size ∧ ∀ t, t < len → RowAt w b (o + t * 3) (L.getD t R.zero) := by
        rcases HC.out with h0 | h0
        · omega
        · exact h0
      obtain ⟨r, hr⟩ : ∃ r, r = L.getD k R.zero := ⟨_, rfl⟩
      have hat : RowAt wr b (o + k * 3) r := by rw [hr]; exact (hc k hlt).below hb.out hbl
      have hrw : r.wf := by rw [hr]; exact HW.out k hlt
      obtain ⟨c0, c1, c2⟩ := hat
      have HR := Lib.hid hr
      have HRW := Lib.hid hrw
      clear hr hc hrw
      go_wp2_with fail
      refine (icost r HRW.out _).mono ?_
      rintro e w1 ⟨rfl, b1⟩
      have B1 := Lib.hid (hb.out.trans ((box_row (r := r) b1).2.mono hb.out.size))
      clear b1
      obtain ⟨x, hx⟩ : ∃ x, x = r.cost := ⟨_, rfl⟩
      have hx0 : 0 ≤ x ∧ x ≤ 4 := by rw [hx]; exact r.cost_range
      obtain ⟨hx0, hx4⟩ := hx0
      have HX := Lib.hid hx
      rw [← hx]
      clear hx
      go_wp2_with fail
      go_roundw
      case rel => exact ⟨k + 1, v + x, by go_num, by go_num, by omega, by omega, by omega, by show _ = _; rw [total_take L k (by rw [HL.out]; exact hlt), hsum.out, ← HR.out, HX.out], B1⟩
      case measure => simp [intOf]; omega
    · have hkl : k = len := by omega
      have hall : total L = v := by have := hsum.out; rwa [hkl, ← HL.out, List.take_length] at this
      clear hkl
      have HA := Lib.hid hall
      clear hall
      go_wp2_with fail
      go_ret
      exact ⟨by rw [HA.out]; rfl, hb.out⟩
end Go.Proofs.Ythbifibnnhikjaa
/- The program's IsValidPage, by contract. -/
namespace Go.Proofs.Ythbifibnnhikjaa
open Go.RowKit

set_option maxRecDepth 100000 in
theorem ivalidpage (a : Option Addr) (n c : Nat) (p : List R) (w : World) (h : SeqIn rowRep w a n p) (hn : n ≤ 1000000000000) :
    Calls Try.prog 49 #[.agg #[.slice a n c]] w fun e w' => e = .returned (.bool (R.pageOk p)) ∧ Below w.heap.size w w' := by
  have b0 : Below w.heap.size w (w.alloc (.cells #[.slice a n c] 46)) := (Below.refl _ _).alloc (Nat.le_refl _) _
  have R0 := Lib.hid (rows_in (h.keep b0))
  have C0 := heap_alloc_new w (.cells #[.slice a n c] 46)
  have HC := Lib.hid C0
  have B0 := Lib.hid b0
  have hsz : w.heap.size < (w.alloc (.cells #[.slice a n c] 46)).heap.size := by simp
  have HV := Lib.hid (show R.pageOk p = (okRows p && decide (1 ≤ total p ∧ total p ≤ 8)) from rfl)
  clear b0 h C0
  go_enter Try.func49, Try.ntmps49
  go_wp2_with fail
  refine (itotal a n c p _ R0.out (by omega)).mono ?_
  rintro e w1 ⟨rfl, b1⟩
  have q1 := (b1.block _ hsz).trans HC.out
  have d1 : w1.cell? ⟨w.heap.size, 0, none⟩ = some (.slice a n c) := by simp [World.cell?, q1]
  have R1 := Lib.hid (R0.out.keep b1)
  have B1 := Lib.hid (B0.out.trans (b1.mono B0.out.size))
  clear b1 q1
  obtain ⟨T, hT⟩ : ∃ T, T = total p := ⟨_, rfl⟩
  rw [← hT] at HV ⊢
  clear hT
  go_wp2_with fail
  refine (iare a n c p _ R1.out (by omega)).mono ?_
  rintro e w2 ⟨rfl, b2⟩
  have B2 := Lib.hid (B1.out.trans (b2.mono B1.out.size))
  clear b2
  obtain ⟨z, hz⟩ : ∃ z, z = okRows p := ⟨_, rfl⟩
  rw [← hz] at HV ⊢
  clear hz
  cases z with
  | false =>
    have HF := Lib.hid (show R.pageOk p = false by rw [HV.out]; rfl)
    go_wp2_with fail
    go_ret
    exact ⟨by rw [HF.out]; rfl, B2.out⟩
  | true =>
    have HF := Lib.hid (show R.pageOk p = decide (1 ≤ T ∧ T ≤ 8) by rw [HV.out]; rfl)
    by_cases h1 : 1 ≤ T
    · by_cases h8 : T ≤ 8
      · have HZ := Lib.hid (show R.pageOk p = true by rw [HF.out]; exact decide_eq_true ⟨h1, h8⟩)
        go_wp2_with fail
        go_ret
        exact ⟨by rw [HZ.out]; rfl, B2.out⟩
      · have HZ := Lib.hid (show R.pageOk p = false by rw [HF.out]; exact decide_eq_false fun h => h8 h.2)
        have HD := Lib.hid (decide_eq_false h8)
        go_wp2_with fail
        go_ret
        exact ⟨by rw [HZ.out, ← HD.out]; rfl, B2.out⟩
    · have HZ := Lib.hid (show R.pageOk p = false by rw [HF.out]; exact decide_eq_false fun h => h1 h.1)
      go_wp2_with fail
      go_ret
      exact ⟨by rw [HZ.out]; rfl, B2.out⟩
end Go.Proofs.Ythbifibnnhikjaa
/- The program's CountPages, isValidFile and IsValidDisk, by contract. -/
namespace Go.Proofs.Ythbifibnnhikjaa
open Go.RowKit
set_option linter.unusedVariables false

set_option maxRecDepth 100000 in
theorem icountp (a : Option Addr) (n c : Nat) (X : DiskD) (w : World) (h : diskRep.inn w X ((a, n, c), ())) (hw : wtDisk X ≤ 1000000000) :
    Calls Try.prog 30 #[.agg #[.slice a n c, .int .i64 X.fNextName]] w fun e w' => e = .returned (.int .i64 (DiskD.count X.fFiles : Nat)) ∧ Below w.heap.size w w' := by
  obtain ⟨W, hW⟩ : ∃ W, W = w.alloc (.cells #[.slice a n c, .int .i64 X.fNextName] 31) := ⟨_, rfl⟩
  have hb : Below w.heap.size w W := by rw [hW]; exact (Below.refl _ _).alloc (Nat.le_refl _) _
  have HB := Lib.hid hb
  have HI := Lib.hid (disk_in (h.keep hb)).1
  have HL := Lib.hid (disk_len h).1
  have hnm := (disk_len h).2
  unfold maxLen at hnm
  have HC := Lib.hid (Nat.le_trans (DiskD.count_wt X.fFiles) (show wtFiles X.fFiles ≤ 1000000000 from hw))
  have c0 : W.cell? ⟨w.heap.size, 0, none⟩ = some (.slice a n c) := by rw [hW]; simp
  clear h hb
  go_enter Try.func30, Try.ntmps30
  go_upto_region 2 with fail
  rw [← hW]
  clear hW
  go_wp2_with fail
  go_loopw [3, 9] (fun q i wr => ∃ (t m : Nat), q = .int .i64 m ∧ i = .int .i64 t ∧ t ≤ n ∧ Hid (m = DiskD.count (X.fFiles.take t)) ∧ Hid (Kept W.heap.size W wr)) (fun _ i _ => n - (intOf i).toNat)
  case atStart => exact ⟨0, 0, rfl, rfl, Nat.zero_le _, rfl, Kept.refl (Nat.le_refl _)⟩
  case round =>
    obtain ⟨t, m, rfl, rfl, ht, hm, hk⟩ := hrel
    by_cases hlt : t < n
    · have htl : t < X.fFiles.length := by have := HL.out; omega
      have hp : X.fFiles[t]? = some X.fFiles[t] := by simp [htl]
      obtain ⟨b, o, hd, rfl, hbl, hce, hin⟩ := HI.out.el hp
      have hnx := DiskD.count_next X.fFiles t htl
      have hle := DiskD.count_take X.fFiles (t + 1)
      have hcc := HC.out
      obtain ⟨f, hf⟩ : ∃ f, f = X.fFiles[t] := ⟨_, rfl⟩
      rw [← hf] at hce hin hnx
      obtain ⟨x0, x1, x2, x3⟩ := f
      obtain ⟨⟨a1, n1, k1⟩, ⟨⟩⟩ := hd
      obtain ⟨r0, ⟨h1, hc1⟩, r2, -⟩ := hin
      have d0 : wr.cell? ⟨b, o + t * 4, none⟩ = some (.int .i64 x0) := hk.out.cell hbl (hce 0 _ rfl)
      have d1 : wr.cell? ⟨b, o + t * 4 + 1, none⟩ = some (.slice a1 n1 k1) := hk.out.cell hbl (hce 1 _ rfl)
      have d2 : wr.cell? ⟨b, o + t * 4 + 2, none⟩ = some (.int .i64 x2) := hk.out.cell hbl (hce 2 _ rfl)
      have d3 : wr.cell? ⟨b, o + t * 4 + 3, none⟩ = some (.bool x3) := hk.out.cell hbl (hce 3 _ rfl)
      have hn1 : x1.length = n1 := h1.1
      have hnx' : DiskD.count (X.fFiles.take (t + 1)) = m + n1 := by rw [hnx, ← hm.out, ← hn1]
      have hsm : m + n1 ≤ 1000000000 := by omega
      have HNX := Lib.hid hnx'
      have KA := Lib.hid (hk.out.alloc (.cells #[.int .i64 x0, .slice a1 n1 k1, .int .i64 x2, .bool x3] 59))
      clear hf hp hce h1 hc1 r0 r2 hnx hle hcc hn1 hnx'
      go_wp2_with fail
      go_roundw
      case rel => exact ⟨t + 1, m + n1, by go_num, by go_num, by omega, HNX.out.symm, KA⟩
      case measure => simp [intOf]; omega
    · have hkk : X.fFiles.take t = X.fFiles := List.take_of_length_le (by have := HL.out; omega)
      rw [hkk] at hm
      have KB := Lib.hid (HB.out.trans (hk.out.1.mono HB.out.size))
      clear hkk
      go_wp2_with fail
      go_ret
      exact ⟨by rw [hm.out]; rfl, KB.out⟩
theorem all_next (P : List (List R)) {t : Nat} {p : List R} (h : P[t]? = some p) : R.allPages (P.take (t + 1)) = (R.allPages (P.take t) && R.pageOk p) := by
  have ht := idx_lt h
  rw [List.getElem?_eq_getElem ht] at h
  rw [List.take_succ_eq_append_getElem ht, Option.some.inj h]
  simp [R.allPages]
theorem all_bad (P : List (List R)) {t : Nat} {p : List R} (h : P[t]? = some p) (hp : R.pageOk p = false) : R.allPages P = false := by
  unfold R.allPages
  rw [List.all_eq_false]
  exact ⟨p, List.mem_of_getElem? h, by rw [hp]; simp⟩
set_option maxRecDepth 100000 in
set_option maxHeartbeats 1000000 in
theorem ivalidfile (x0 : Int) (a1 : Option Addr) (n1 k1 : Nat) (x1 : List (List R)) (x2 : Int) (x3 : Bool) (w : World) (h : SeqIn pageRep w a1 n1 x1) (hf : x1.flatten.length ≤ 1000000000) :
    Calls Try.prog 38 #[.agg #[.int .i64 x0, .slice a1 n1 k1, .int .i64 x2, .bool x3]] w fun e w' => e = .returned (.bool (FileD.ok ⟨x0, x1, x2, x3⟩)) ∧ Below w.heap.size w w' := by
  obtain ⟨W, hW⟩ : ∃ W, W = w.alloc (.cells #[.int .i64 x0, .slice a1 n1 k1, .int .i64 x2, .bool x3] 59) := ⟨_, rfl⟩
  have hb : Below w.heap.size w W := by rw [hW]; exact (Below.refl _ _).alloc (Nat.le_refl _) _
  have k0 : W.heap[w.heap.size]? = some (.cells #[.int .i64 x0, .slice a1 n1 k1, .int .i64 x2, .bool x3] 59 (0, 0)) := by rw [hW]; exact heap_alloc_new _ _
  have HB := Lib.hid hb
  have HI := Lib.hid (h.keep hb)
  have HL := Lib.hid h.1
  have hnm := h.2.1
  unfold maxLen at hnm
  have HF := Lib.hid hf
  have HV := Lib.hid (show FileD.ok ⟨x0, x1, x2, x3⟩ = (R.allPages x1 && (x3 || decide (x2 = 0))) from rfl)
  have e1 := box_cell k0 1 _ rfl
  have e2 := box_cell k0 2 _ rfl
  have e3 := box_cell k0 3 _ rfl
  clear h hb k0 hf
  go_enter Try.func38, Try.ntmps38
  go_upto_region 1 with fail
  rw [← hW]
  clear hW
  by_cases hbad : x3 = false ∧ x2 ≠ 0
  · obtain ⟨rfl, hne⟩ := hbad
    have hne2 : (x2 != 0) = true := by simpa using hne
    have HN := Lib.hid (show FileD.ok ⟨x0, x1, x2, false⟩ = false by rw [HV.out, decide_eq_false hne]; simp)
    go_wp2_with fail
    go_ret
    exact ⟨by rw [HN.out]; rfl, HB.out⟩
  have HW : Hid (FileD.ok ⟨x0, x1, x2, x3⟩ = R.allPages x1) := Lib.hid (by
    rw [HV.out]
    cases x3 with
    | true => simp
    | false =>
      have : x2 = 0 := by
        by_cases h1 : x2 = 0
        · exact h1
        · exact absurd ⟨rfl, h1⟩ hbad
      rw [decide_eq_true this]; simp)
  have hst : (x3 = true) ∨ (x3 = false ∧ x2 = 0) := by
    cases x3 with
    | true => exact .inl rfl
    | false => exact .inr ⟨rfl, by
        by_cases h1 : x2 = 0
        · exact h1
        · exact absurd ⟨rfl, h1⟩ hbad⟩
  clear hbad
  rcases hst with rfl | ⟨rfl, rfl⟩
  all_goals (
    go_wp2_with fail
    go_loopw [16] (fun i wr => ∃ (t : Nat), i = .int .i64 t ∧ t ≤ n1 ∧ Hid (R.allPages (x1.take t) = true) ∧ Hid (Kept W.heap.size W wr)) (fun i _ => n1 - (intOf i).toNat)
    case atStart => exact ⟨0, rfl, Nat.zero_le _, rfl, Kept.refl (Nat.le_refl _)⟩
    case round =>
      obtain ⟨t, rfl, ht, hall, hk⟩ := hrel
      by_cases hlt : t < n1
      · have htl : t < x1.length := by have := HL.out; omega
        obtain ⟨p, hp⟩ : ∃ p, x1[t]? = some p := ⟨x1[t], by simp [htl]⟩
        obtain ⟨b, o, d, k, m, rfl, hbl, hce, hin, -⟩ := HI.out.at hp
        have HP := Lib.hid hp
        have d0 : wr.cell? ⟨b, o + t, none⟩ = some (.slice d k m) := hk.out.cell hbl hce
        have hkn : k ≤ 1000000000 := by
          have h1 := flat_mem x1 t htl
          have h2 : x1[t] = p := by rw [List.getElem?_eq_getElem htl] at hp; exact Option.some.inj hp
          rw [h2] at h1
          have h3 := hin.1
          have h4 := HF.out
          omega
        have KA := Lib.hid (hk.out.alloc (.cells #[.slice d k m] 46))
        have PIN := Lib.hid (hin.keep KA.out.1)
        clear hp hce hin
        go_wp2_with fail
        refine (ivalidpage d k m p _ PIN.out (by omega)).mono ?_
        rintro e w5 ⟨rfl, b5⟩
        have K5 := Lib.hid (KA.out.below b5)
        have KB := Lib.hid (HB.out.trans (K5.out.1.mono HB.out.size))
        clear b5
        cases hpo : R.pageOk p with
        | false =>
          have HN := Lib.hid (HW.out.trans (all_bad x1 HP.out hpo))
          clear hpo
          go_wp2_with fail
          go_ret
          exact ⟨by rw [HN.out]; rfl, KB.out⟩
        | true =>
          have HN := Lib.hid (show R.allPages (x1.take (t + 1)) = true by rw [all_next x1 HP.out, hall.out, hpo]; rfl)
          clear hpo
          go_wp2_with fail
          go_roundw
          case rel => exact ⟨t + 1, by go_num, by omega, HN, K5⟩
          case measure => simp [intOf]; omega
      · have hkk : x1.take t = x1 := List.take_of_length_le (by have := HL.out; omega)
        rw [hkk] at hall
        have KB := Lib.hid (HB.out.trans (hk.out.1.mono HB.out.size))
        have HN := Lib.hid (HW.out.trans hall.out)
        clear hkk
        go_wp2_with fail
        go_ret
        exact ⟨by rw [HN.out]; rfl, KB.out⟩)
/-- Whether one file passes the program's test: its name is not below 'low'. -/
theorem okat_low {nx lo : Int} {F : List FileD} {t : Nat} {f : FileD} (hf : F[t]? = some f) (hlo : lo = DiskD.low F t) : DiskD.okAt nx F t = (decide (lo ≤ f.fName) && decide (f.fName < nx) && f.ok) := by
  rw [DiskD.okAt_some hf, hlo, Bool.decide_and]
set_option maxRecDepth 100000 in
set_option maxHeartbeats 2000000 in
theorem iokdisk (a : Option Addr) (n c : Nat) (X : DiskD) (w : World) (h : diskRep.inn w X ((a, n, c), ())) (hw : wtDisk X ≤ 1000000000) :
    Calls Try.prog 15 #[.agg #[.slice a n c, .int .i64 X.fNextName]] w fun e w' => e = .returned (.bool (DiskD.okD X)) ∧ Below w.heap.size w w' := by
  obtain ⟨W, hW⟩ : ∃ W, W = w.alloc (.cells #[.slice a n c, .int .i64 X.fNextName] 31) := ⟨_, rfl⟩
  have hb : Below w.heap.size w W := by rw [hW]; exact (Below.refl _ _).alloc (Nat.le_refl _) _
  have k0 : W.heap[w.heap.size]? = some (.cells #[.slice a n c, .int .i64 X.fNextName] 31 (0, 0)) := by rw [hW]; exact heap_alloc_new _ _
  have HB := Lib.hid hb
  have HX := Lib.hid (h.keep hb)
  have HI := Lib.hid (disk_in (h.keep hb)).1
  have HL := Lib.hid (disk_len h).1
  have hnm := (disk_len h).2
  unfold maxLen at hnm
  have HW := Lib.hid hw
  have FF : Hid (∀ v, Kept W.heap.size W v → v.cell? ⟨w.heap.size, 0, none⟩ = some (.slice a n c) ∧ v.cell? ⟨w.heap.size, 1, none⟩ = some (.int .i64 X.fNextName)) := Lib.hid fun v hv =>
    ⟨hv.cell (lt_of_block k0) (box_cell k0 0 _ rfl), hv.cell (lt_of_block k0) (box_cell k0 1 _ rfl)⟩
  obtain ⟨p0, p1⟩ := FF.out W (Kept.refl (Nat.le_refl _))
  clear h hb k0 hw
  go_enter Try.func15, Try.ntmps15
  go_upto_region 1 with fail
  rw [← hW]
  clear hW
  go_wp2_with fail
  refine (iup X.fNextName 1000 W).mono ?_
  rintro e w1 ⟨rfl, rfl⟩
  cases hN : decide (0 ≤ X.fNextName ∧ X.fNextName ≤ 1000) with
  | false =>
    have HV := Lib.hid (show DiskD.okD X = false by unfold DiskD.okD; rw [hN]; rfl)
    clear hN
    go_wp2_with fail
    go_ret
    exact ⟨by rw [HV.out]; rfl, HB.out⟩
  | true =>
    have HG := Lib.hid (of_decide_eq_true hN)
    clear hN
    go_wp2_with fail
    clear p0 p1
    refine (icountp a n c X W HX.out HW.out).mono ?_
    rintro e w2 ⟨rfl, b2⟩
    have K2 : Hid (Kept W.heap.size W w2) := Lib.hid ⟨b2, b2.size⟩
    obtain ⟨p0, p1⟩ := FF.out _ K2.out
    clear b2
    obtain ⟨m, hm⟩ : ∃ m, m = DiskD.count X.fFiles := ⟨_, rfl⟩
    rw [← hm]
    by_cases h40 : 40 < (m : Int)
    · have HV := Lib.hid (show DiskD.okD X = false by unfold DiskD.okD; rw [decide_eq_false (p := DiskD.count X.fFiles ≤ 40) (by omega)]; simp)
      have KB := Lib.hid (HB.out.trans (K2.out.1.mono HB.out.size))
      clear hm
      go_wp2_with fail
      go_ret
      exact ⟨by rw [HV.out]; rfl, KB.out⟩
    have HC := Lib.hid (show DiskD.count X.fFiles ≤ 40 by omega)
    have h40' : decide (40 < (m : Int)) = false := decide_eq_false h40
    have h40'' : decide (40 < m) = false := decide_eq_false (by omega)
    clear hm
    go_wp2_with fail
    clear p0 p1
    go_loopw [3, 18] (fun q i wr => ∃ (t : Nat) (lo : Int), q = .int .i64 lo ∧ i = .int .i64 t ∧ t ≤ n ∧ 0 ≤ lo ∧ lo ≤ 1000 ∧ Hid (lo = DiskD.low X.fFiles t) ∧ Hid (∀ s, s < t → DiskD.okAt X.fNextName X.fFiles s = true) ∧ Hid (Kept W.heap.size W wr)) (fun _ i _ => n - (intOf i).toNat)
    case atStart => exact ⟨0, 0, rfl, rfl, Nat.zero_le _, by omega, by omega, rfl, fun s hs => absurd hs (Nat.not_lt_zero _), K2⟩
    case round =>
      obtain ⟨t, lo, rfl, rfl, ht, hlo0, hlo1, hlow, hall, hk⟩ := hrel
      obtain ⟨p0, p1⟩ := FF.out wr hk.out
      by_cases hlt : t < n
      · have htl : t < X.fFiles.length := by have := HL.out; omega
        obtain ⟨f, hf⟩ : ∃ f, X.fFiles[t]? = some f := ⟨X.fFiles[t], by simp [htl]⟩
        obtain ⟨b, o, hd, rfl, hbl, hce, hin⟩ := HI.out.el hf
        have HF := Lib.hid hf
        have HFLAT : Hid (f.fPages.flatten.length ≤ 1000000000) := by
          have h1 := wt_file_at X.fFiles t htl
          have h2 := HW.out
          have h3 : X.fFiles[t] = f := by rw [List.getElem?_eq_getElem htl] at hf; exact Option.some.inj hf
          rw [h3] at h1
          have h4 : f.fPages.flatten.length ≤ wtFile f := flat_wt f.fPages
          have h5 : wtDisk X = wtFiles X.fFiles := rfl
          exact Lib.hid (by omega)
        have OK := Lib.hid (okat_low (nx := X.fNextName) hf hlow.out)
        obtain ⟨x0, x1, x2, x3⟩ := f
        obtain ⟨⟨a1, n1, k1⟩, ⟨⟩⟩ := hd
        have IN := Lib.hid hin.2.1.1
        have d0 : wr.cell? ⟨b, o + t * 4, none⟩ = some (.int .i64 x0) := hk.out.cell hbl (hce 0 _ rfl)
        have d1 : wr.cell? ⟨b, o + t * 4 + 1, none⟩ = some (.slice a1 n1 k1) := hk.out.cell hbl (hce 1 _ rfl)
        have d2 : wr.cell? ⟨b, o + t * 4 + 2, none⟩ = some (.int .i64 x2) := hk.out.cell hbl (hce 2 _ rfl)
        have d3 : wr.cell? ⟨b, o + t * 4 + 3, none⟩ = some (.bool x3) := hk.out.cell hbl (hce 3 _ rfl)
        obtain ⟨w3, hw3⟩ : ∃ u, u = wr.alloc (.cells #[.int .i64 x0, .slice a1 n1 k1, .int .i64 x2, .bool x3] 59) := ⟨_, rfl⟩
        obtain ⟨xg, hxg⟩ : ∃ g, g = wr.heap.size := ⟨_, rfl⟩
        have b3 : Below wr.heap.size wr w3 := by rw [hw3]; exact (Below.refl _ _).alloc (Nat.le_refl _) _
        have X3 : Hid (w3.heap[xg]? = some (.cells #[.int .i64 x0, .slice a1 n1 k1, .int .i64 x2, .bool x3] 59 (0, 0))) := Lib.hid (by rw [hw3, hxg]; exact heap_alloc_new _ _)
        have K3 := Lib.hid (hk.out.below b3)
        have KB := Lib.hid (HB.out.trans (K3.out.1.mono HB.out.size))
        have NO : Hid (DiskD.okAt X.fNextName X.fFiles t = false → DiskD.okD X = false) := Lib.hid fun h1 => DiskD.okD_bad htl h1
        clear b3 hce hin hf
        go_upto_region 7 with fail
        rw [← hxg, ← hw3]
        clear hw3 hxg d0 d1 d2 d3 p0 p1
        obtain ⟨p0, p1⟩ := FF.out w3 K3.out
        have e0 := box_cell X3.out 0 _ rfl
        have e1 := box_cell X3.out 1 _ rfl
        have e2 := box_cell X3.out 2 _ rfl
        have e3 := box_cell X3.out 3 _ rfl
        by_cases hlo : x0 < lo
        · have HN := Lib.hid (NO.out (by rw [OK.out, decide_eq_false (show ¬ lo ≤ x0 by omega)]; rfl))
          go_wp2_with fail
          go_ret
          exact ⟨by rw [HN.out]; rfl, KB.out⟩
        by_cases hnx : X.fNextName ≤ x0
        · have HN := Lib.hid (NO.out (by rw [OK.out, decide_eq_false (show ¬ x0 < X.fNextName by omega), Bool.and_false]; rfl))
          have hlo' : decide (x0 < lo) = false := decide_eq_false hlo
          go_wp2_with fail
          go_ret
          exact ⟨by rw [HN.out]; rfl, KB.out⟩
        have hlo' : decide (x0 < lo) = false := decide_eq_false hlo
        have hnx' : decide (X.fNextName ≤ x0) = false := decide_eq_false hnx
        have OK2 : Hid (DiskD.okAt X.fNextName X.fFiles t = FileD.ok ⟨x0, x1, x2, x3⟩) := Lib.hid (by rw [OK.out, decide_eq_true (show lo ≤ x0 by omega), decide_eq_true (show x0 < X.fNextName by omega)]; rfl)
        have HR : Hid (lo ≤ x0 ∧ x0 < X.fNextName) := Lib.hid ⟨by omega, by omega⟩
        clear hlo hnx
        go_wp2_with fail
        clear p0 p1 e0 e1 e2 e3
        refine (ivalidfile x0 a1 n1 k1 x1 x2 x3 w3 ((show SeqIn pageRep W a1 n1 x1 from IN.out).keep K3.out.1) HFLAT.out).mono ?_
        rintro e w4 ⟨rfl, b4⟩
        have K4 := Lib.hid (K3.out.below b4)
        have KB4 := Lib.hid (HB.out.trans (K4.out.1.mono HB.out.size))
        have X4 := Lib.hid ((b4.block _ (lt_of_block X3.out)).trans X3.out)
        have e0 := box_cell X4.out 0 _ rfl
        clear b4
        cases hfo : FileD.ok ⟨x0, x1, x2, x3⟩ with
        | false =>
          have HN := Lib.hid (NO.out (by rw [OK2.out, hfo]))
          clear hfo
          go_wp2_with fail
          go_ret
          exact ⟨by rw [HN.out]; rfl, KB4.out⟩
        | true =>
          have HN := Lib.hid (ok_next hall.out (by rw [OK2.out, hfo]))
          have HLN := Lib.hid (show x0 + 1 = DiskD.low X.fFiles (t + 1) by rw [DiskD.low_next HF.out])
          have hr1 := HR.out.1
          have hr2 := HR.out.2
          have hg2 := HG.out.2
          clear hfo
          go_wp2_with fail
          go_roundw
          case rel => exact ⟨t + 1, x0 + 1, by go_num, by go_num, by omega, by omega, by omega, HLN, HN, K4⟩
          case measure => simp [intOf]; omega
      · have htn : t = n := by omega
        have HV := Lib.hid (show DiskD.okD X = true by
          rw [DiskD.okD_all fun s hs => hall.out s (by have := HL.out; omega), decide_eq_true HG.out, decide_eq_true HC.out]; rfl)
        have KB := Lib.hid (HB.out.trans (hk.out.1.mono HB.out.size))
        clear htn
        go_wp2_with fail
        go_ret
        exact ⟨by rw [HV.out]; rfl, KB.out⟩
end Go.Proofs.Ythbifibnnhikjaa
/- One page more, its rows in a block of their own, onto pages of the call's own; no function of program or reference is walked here. -/
namespace Go.Proofs.Ythbifibnnhikjaa
open Go.RowKit
set_option linter.unusedVariables false

/-- One page more has been copied: its rows lie in a block that is new since wr; the pages' slice y and what is behind it as in wr. -/
structure PageIn (B : Nat) (wr : World) (y : Value) (ps : List (BEl rowsB)) (p : List R) (a6 : Option Addr) (m c6 : Nat) (w6 : World) : Prop where
  kept : Kept wr.heap.size wr w6
  rows : rowsB.blk w6 wr.heap.size p (a6, m, c6) (blkOf (.slice a6 m c6))
  old : Blk 46 rowsB wr B y ps
  low : B ≤ wr.heap.size
  few : ps.length + 1 ≤ 1000000000000
theorem PageIn.cells {B : Nat} {wr : World} {y : Value} {ps : List (BEl rowsB)} {p : List R} {a6 : Option Addr} {m c6 : Nat} {w6 : World} (h : PageIn B wr y ps p a6 m c6 w6) : ∀ (j : Nat) (u : Value), (rowsB.rep.cells p (a6, m, c6))[j]? = some u → (w6.alloc (.cells #[.slice a6 m c6] 46)).cell? ((⟨w6.heap.size, 0, none⟩ : Addr).add j) = some u :=
  World.news_of_block (w := (w6.alloc (.cells #[.slice a6 m c6] 46))) (cs := #[.slice a6 m c6]) (heap_alloc_new w6 _)
theorem PageIn.k7 {B : Nat} {wr : World} {y : Value} {ps : List (BEl rowsB)} {p : List R} {a6 : Option Addr} {m c6 : Nat} {w6 : World} (h : PageIn B wr y ps p a6 m c6 w6) : Kept wr.heap.size wr (w6.alloc (.cells #[.slice a6 m c6] 46)) := h.kept.alloc _
theorem PageIn.pages {B : Nat} {wr : World} {y : Value} {ps : List (BEl rowsB)} {p : List R} {a6 : Option Addr} {m c6 : Nat} {w6 : World} (h : PageIn B wr y ps p a6 m c6 w6) : Blk 46 rowsB (w6.alloc (.cells #[.slice a6 m c6] 46)) B y ps := h.old.below h.k7.1
theorem PageIn.elem {B : Nat} {wr : World} {y : Value} {ps : List (BEl rowsB)} {p : List R} {a6 : Option Addr} {m c6 : Nat} {w6 : World} (h : PageIn B wr y ps p a6 m c6 w6) : rowsB.blk (w6.alloc (.cells #[.slice a6 m c6] 46)) B p (a6, m, c6) (blkOf (.slice a6 m c6)) :=
  rowsB.blk_mono (rowsB.blk_below h.rows (show Below w6.heap.size w6 (w6.alloc (.cells #[.slice a6 m c6] 46)) from (Below.refl _ _).alloc (Nat.le_refl _) _)) h.low
theorem PageIn.apart {B : Nat} {wr : World} {y : Value} {ps : List (BEl rowsB)} {p : List R} {a6 : Option Addr} {m c6 : Nat} {w6 : World} (h : PageIn B wr y ps p a6 m c6 w6) : ∀ b ∈ blkOf (.slice a6 m c6), b ∉ blkOf y ++ gsOf ps := fun b hb hm => by
  have h1 := (rowsB.blk_lt h.rows b hb).1
  have h2 := (h.old.lt b hm).2
  omega
theorem PageIn.base {B : Nat} {wr : World} {y : Value} {ps : List (BEl rowsB)} {p : List R} {a6 : Option Addr} {m c6 : Nat} {w6 : World} (h : PageIn B wr y ps p a6 m c6 w6) : B ≤ (w6.alloc (.cells #[.slice a6 m c6] 46)).heap.size := Nat.le_trans h.low h.k7.2
theorem PageIn.next {B : Nat} {wr : World} {y : Value} {ps : List (BEl rowsB)} {p : List R} {a6 : Option Addr} {m c6 g7 c7 : Nat} {w6 w7 : World} (h : PageIn B wr y ps p a6 m c6 w6)
    (hm : Blk 46 rowsB w7 B (.slice (some ⟨g7, 0, none⟩) (ps.length + 1) c7) (ps ++ [⟨p, (a6, m, c6), blkOf (.slice a6 m c6)⟩])) (hg : (w6.alloc (.cells #[.slice a6 m c6] 46)).grownBy w7 y.ownBlock) :
    Hid (Kept B wr w7 ∧ Blk 46 rowsB w7 B (.slice (some ⟨g7, 0, none⟩) (ps.length + 1) c7) (ps ++ [⟨p, (a6, m, c6), blkOf (.slice a6 m c6)⟩])) :=
  ⟨(h.k7.mono h.low).grown hg (blk_row h.old), hm⟩
theorem page_in {B : Nat} {wr : World} {y : Value} {ps : List (BEl rowsB)} {p : List R} {m : Nat} {v6 : Value} {w6 : World} (hm : Mine w6 wr.heap.size v6 ([] ++ p)) (hg : ((wr.alloc (.cells #[] 89)).drew).grownBy w6 (Value.slice (some ⟨wr.heap.size, 0, none⟩) 0 0).ownBlock)
    (hl : p.length = m) (hwf : ∀ r ∈ p, r.wf) (old : Blk 46 rowsB wr B y ps) (low : B ≤ wr.heap.size) (few : ps.length + 1 ≤ 1000000000000) : ∃ a6 c6, v6 = .slice a6 m c6 ∧ PageIn B wr y ps p a6 m c6 w6 := by
  rw [List.nil_append] at hm
  obtain ⟨a6, c6, rfl⟩ := hm.slice
  rw [hl] at hm ⊢
  exact ⟨a6, c6, rfl, ⟨(show Kept wr.heap.size wr (wr.alloc (.cells #[] 89)).drew from (Kept.refl (Nat.le_refl _)).drew.alloc _).grown hg (fun k hk => by
    simp [Value.ownBlock] at hk; omega), seq_of_mine hm hwf, old, low, few⟩⟩
end Go.Proofs.Ythbifibnnhikjaa
