/- Texts joined: RoMem RoDel PruSel PruStR PruStM PruFB PruVB PruOkA PruMem VLc ConcatR PruOkS. -/
import Derived.Test.YtpnbnbhifpcelaaPartCe
import Derived.Deep.OwnRows
import Derived.Laws.IdiomCopy
import Derived.Deep.RegionLaw
import Derived.Deep.CutRange
import Derived.Lib.AppendZerosOnto
import Derived.Lib.Walk
import Derived.Lib.SliceRun
set_option linter.unusedSimpArgs false
set_option linter.unusedVariables false
/- Rows in a row of the call's own, by what stands at each index; such a row as a tree, and back. -/
namespace Go.Proofs.Ytpnbnbhifpcelaa
open Go Go.RowKit V
set_option linter.unusedVariables false
theorem rowIs_setCellsR {b : Nat} {t : TypeId} {n : Nat} : ∀ (vs : List Value) (o : Nat) (w : World) (f : Nat → Value), w.rowIs b t n f → (w.setCells b o vs).rowIs b t n (fun j => if o ≤ j ∧ j < o + vs.length then vs.getD (j - o) undef else f j)
 | [], o, w, f, h => h.congr fun i _ => by rw [if_neg (fun e => by simp at e; omega)]
 | v :: r, o, w, f, h => by
  have ih := rowIs_setCellsR r (o + 1) _ _ (h.set o v)
  refine ih.congr fun j hj => ?_
  by_cases h1 : o + 1 ≤ j ∧ j < o + 1 + r.length
  ·have h2 : o ≤ j ∧ j < o + (v :: r).length := by simp; omega
   rw [if_pos h1, if_pos h2, show j - o = (j - (o + 1)) + 1 by omega]
   rfl
  ·rw [if_neg h1]
   by_cases h3 : j = o
   ·subst h3
    have h2 : j ≤ j ∧ j < j + (v :: r).length := by simp
    rw [if_pos rfl, if_pos h2, Nat.sub_self]
    rfl
   ·have h2 : ¬ (o ≤ j ∧ j < o + (v :: r).length) := by simp; omega
    rw [if_neg h3, if_neg h2]
def RoF (f : Nat → Value) (L : List R) : Prop := ∀ (t : Nat) (c : R), L[t]? = some c → f (t * 3) = .int .i64 c.key ∧ f (t * 3 + 1) = .int .i64 c.value ∧ f (t * 3 + 2) = .int .i64 c.width
theorem thirdR (j : Nat) : j = j / 3 * 3 ∨ j = j / 3 * 3 + 1 ∨ j = j / 3 * 3 + 2 := by omega
theorem RoF.int {f : Nat → Value} {L : List R} (h : RoF f L) {j : Nat} (hj : j < L.length * 3) : ∃ x, f j = .int .i64 x := by
 have hq : j / 3 < L.length := by omega
 obtain ⟨h0, h1, h2⟩ := h (j / 3) L[j / 3] (List.getElem?_eq_getElem hq)
 rcases thirdR j with e | e | e
 ·exact ⟨_, by rw [e]; exact h0⟩
 ·exact ⟨_, by rw [e]; exact h1⟩
 ·exact ⟨_, by rw [e]; exact h2⟩
theorem RoF.one {f : Nat → Value} {L : List R} (h : RoF f L) {j : Nat} (hj : j < L.length * 3) : (f j).oneCell' = true := by
 obtain ⟨x, hx⟩ := h.int hj
 rw [hx]; rfl
theorem RoF.congr {f g : Nat → Value} {L : List R} (h : RoF f L) (e : ∀ j, j < L.length * 3 → g j = f j) : RoF g L := fun t c ht => by
 have hl := V.get_lt ht
 obtain ⟨h0, h1, h2⟩ := h t c ht
 exact ⟨(e _ (by omega)).trans h0, (e _ (by omega)).trans h1, (e _ (by omega)).trans h2⟩
theorem own_rowR {w : World} {L : List R} {v : Value} {F : Nat → Prop} (h : V.Own w 0 (.seq 72 (L.map tRow)) v F) :
  (v = .slice none 0 0 ∧ L = []) ∨ ∃ (g q cap N : Nat) (f : Nat → Value), v = .slice (some ⟨g, q, none⟩) L.length cap ∧ F g ∧ L.length ≤ cap ∧ cap ≤ maxLen ∧ q + cap * 3 ≤ N ∧ w.rowIs g 72 N f ∧ RoF (fun j => f (q + j)) L := by
 cases h with
 | seq n hp hz hn xs hown Gs hr hone hF hG hne hd =>
  have h3 : n = 3 := hz.eq sz_impl_Row
  subst h3
  obtain ⟨hxl, ⟨rfl, h0⟩ | ⟨g, q, cap, cur, rfl, -, hh, hc, hm, hs, ht⟩⟩ := hown
  ·refine .inl ⟨rfl, ?_⟩
   rw [List.length_map] at h0
   exact List.eq_nil_of_length_eq_zero h0
  ·rw [List.length_map] at hc ht hxl
   refine .inr ⟨g, q, cap, cur.size, fun i => cur.getD i undef, by rw [List.length_map], hF g rfl, hc, hm, hs, ⟨cur, hh, rfl, fun i hi => by simp [Array.getD, hi]⟩, fun t c htc => ?_⟩
   have htl := V.get_lt htc
   have key : ∀ (j : Nat) (u : Value), j < 3 → (tRow c)[j]? = some (.lit u) → cur.getD (q + (t * 3 + j)) undef = u := fun j u hj hu => by
    have hlt : t * 3 + j < xs.length := by omega
    have h1 := hr t (tRow c) j (.lit u) xs[t * 3 + j] (by rw [List.getElem?_map, htc]; rfl) hu (List.getElem?_eq_getElem hlt)
    have h2 : xs[t * 3 + j] = u := by cases h1; rfl
    have h3 : xs[t * 3 + j]? = some u := by rw [List.getElem?_eq_getElem hlt, h2]
    rw [← ht, List.getElem?_take, if_pos (by omega), List.getElem?_drop] at h3
    have h4 : q + (t * 3 + j) < cur.size := by omega
    rw [Array.getElem?_toList, Array.getElem?_eq_getElem h4] at h3
    simp [Array.getD, h4, Option.some.inj h3]
   exact ⟨key 0 _ (by omega) rfl, key 1 _ (by omega) rfl, key 2 _ (by omega) rfl⟩
theorem row_ownR {w : World} {L : List R} {g q cap N : Nat} {f : Nat → Value} {F : Nat → Prop} (hF : F g) (hc : L.length ≤ cap) (hm : cap ≤ maxLen) (hN : q + cap * 3 ≤ N) (hrow : w.rowIs g 72 N f) (hf : RoF (fun j => f (q + j)) L) : V.Own w 0 (.seq 72 (L.map tRow)) (.slice (some ⟨g, q, none⟩) L.length cap) F := by
 obtain ⟨cur, hh, hs, hcell⟩ := hrow
 have htl : (cur.toList.drop q).take (L.length * 3) = (List.range (L.length * 3)).map fun j => f (q + j) := by
  apply List.ext_getElem?
  intro j
  rw [List.getElem?_take, List.getElem?_drop]
  by_cases hj : j < L.length * 3
  ·rw [if_pos hj, Array.getElem?_toList, hcell (q + j) (by omega), List.getElem?_map, List.getElem?_range hj]; rfl
  ·rw [if_neg hj, List.getElem?_eq_none (by simp; omega)]
 refine .seq 3 (by decide) sz_impl_Row (fun e he => by obtain ⟨x, -, rfl⟩ := List.mem_map.1 he; rfl) ((List.range (L.length * 3)).map fun j => f (q + j)) ⟨by simp, .inr ⟨g, q, cap, cur, by rw [List.length_map], Nat.zero_le _, hh, by rw [List.length_map]; exact hc, hm, by rw [hs]; exact hN, by rw [List.length_map]; exact htl⟩⟩ (fun _ _ => False) (fun k e j t u h1 h2 h3 => ?_) (fun u hu => ?_) (fun b hb => by cases hb; exact hF) (fun q b hb => hb.elim) (fun q b hb => hb.elim) fun q q' b hb => hb.elim
 ·rw [List.getElem?_map] at h1
  obtain ⟨c, hc', rfl⟩ := Option.map_eq_some_iff.1 h1
  have hk := V.get_lt hc'
  have hj : j < 3 := by simpa [tRow] using V.get_lt h2
  rw [List.getElem?_map, List.getElem?_range (by omega)] at h3
  have hu : f (q + (k * 3 + j)) = u := Option.some.inj h3
  obtain ⟨e0, e1, e2⟩ := hf k c hc'
  dsimp only at e0 e1 e2
  match j, hj with
  | 0, _ => cases h2; rw [← hu, show k * 3 + 0 = k * 3 from rfl, e0]; exact .lit rfl
  | 1, _ => cases h2; rw [← hu, e1]; exact .lit rfl
  | 2, _ => cases h2; rw [← hu, e2]; exact .lit rfl
 ·obtain ⟨j, hj, rfl⟩ := List.mem_map.1 hu
  exact hf.one (f := fun j => f (q + j)) (List.mem_range.1 hj)
end Go.Proofs.Ytpnbnbhifpcelaa
/- The library's slices.Delete of one row, by contract: the row is the call's own. -/
namespace Go.Proofs.Ytpnbnbhifpcelaa
open Go Go.RowKit V
set_option linter.unusedVariables false
def zeroRo : List Value := [.int .i64 0, .int .i64 0, .int .i64 0]
theorem run_clear_rowR (w : World) (ty : TypeId) (g o c : Nat) (h : ∀ j, j < 3 → (w.cell? ⟨g, o + j, none⟩).isSome = true) (hf : ∀ j, w.frozen? ⟨g, j, none⟩ = false) :
  (Builtin.clear_ #[24] ty #[.slice (some ⟨g, o, none⟩) 1 c]).run Try.prog w = .ok (.tuple #[]) (w.setCells g o zeroRo) := by
 have hz : ∀ w, (zeroValue 72).run Try.prog w = .ok (.agg #[.int .i64 0, .int .i64 0, .int .i64 0]) w := fun w => by kernel_rfl
 have hzc : (Builtin.zeroCells (Value.agg #[.int .i64 0, .int .i64 0, .int .i64 0]).cells 1).toList = [.int .i64 0, .int .i64 0, .int .i64 0] := by kernel_rfl
 have hst := run_storeCells_cells (P := Try.prog) g o [.int .i64 0, .int .i64 0, .int .i64 0] 0 w (fun j hj => by simpa using h j (by simpa using hj)) (fun j hj => hf _) (fun v hv => by
  simp only [List.mem_cons, List.not_mem_nil, or_false] at hv
  rcases hv with rfl | rfl | rfl <;> rfl)
 simp only [Nat.add_zero] at hst
 simp [Builtin.clear_, run_underlying Try.underlying24, hz, hzc, hst]
 rfl
theorem grown_cellsR {w : World} {g : Nat} : ∀ (vs : List Value) (o : Nat) (w' : World), w.grownBy w' (some g) → w.grownBy (w'.setCells g o vs) (some g)
 | [], _, _, h => h
 | v :: r, o, w', h => grown_cellsR r (o + 1) _ ⟨h.os, h.tape, h.output, by simpa [World.setCell] using h.size, fun z hz hn => (Below.heap_setCell w' ⟨g, o, none⟩ v z (fun e => hn (by rw [show z = g from e]))).trans (h.block z hz hn)⟩
set_option maxRecDepth 100000 in
set_option maxHeartbeats 2000000 in
theorem idel0R (g q cap m k N : Nat) (f : Nat → Value) (w : World) (hk : k ≤ m) (hc : m + 1 ≤ cap) (hm : cap ≤ maxLen) (hN : q + cap * 3 ≤ N) (hrow : w.rowIs g 72 N f) (h1 : ∀ j, j < (m + 1) * 3 → (f (q + j)).oneCell' = true) :
  Calls Try.prog 123 #[.slice (some ⟨g, q, none⟩) (m + 1) cap, .int .i64 k, .int .i64 ((k : Int) + 1)] w fun e w' =>
   e = .returned (.slice (some ⟨g, q, none⟩) m cap) ∧ w.grownBy w' (some g) ∧ ∃ f', w'.rowIs g 72 N f' ∧ ∀ j, j < m * 3 → f' (q + j) = if j < k * 3 then f (q + j) else f (q + j + 3) := by
 unfold maxLen at hm
 have HR := Lib.hid hrow
 have H1 := Lib.hid h1
 have b1 : (0 : Int) ≤ (k : Int) := by omega
 have b2 : (k : Int) ≤ ((k : Int) + 1) := by omega
 have b3 : ((k : Int) + 1) ≤ ((m + 1 : Nat) : Int) := by omega
 have b4 : ((m + 1 : Nat) : Int) ≤ (cap : Int) := by omega
 have b5 : (k : Int) ≤ (cap : Int) := by omega
 have b6 : (0 : Int) ≤ (k : Int) + 1 := by omega
 have t1 : ((k : Int) + 1).toNat = k + 1 := by omega
 obtain ⟨I0, hI, hI3⟩ := sz_impl_Row
 obtain ⟨news, hnews⟩ : ∃ news, news = (List.range ((m + 1 - (k + 1)) * 3)).map fun j => f (q + (k + 1) * 3 + j) := ⟨_, rfl⟩
 have hnl : news.length = (m + 1 - (k + 1)) * 3 := by rw [hnews]; simp
 have hn1 : ∀ u ∈ news, u.oneCell' = true := fun u hu => by
  rw [hnews] at hu
  obtain ⟨j, hj, rfl⟩ := List.mem_map.1 hu
  have := List.mem_range.1 hj
  rw [Nat.add_assoc]; exact h1 _ (by omega)
 have hnc : ∀ j u, news[j]? = some u → w.cell? ⟨g, q + (k + 1) * 3 + j, none⟩ = some u := fun j u hj => by
  have hjl := V.get_lt hj
  rw [hnews, List.getElem?_map, List.getElem?_range (by omega)] at hj
  rw [← Option.some.inj hj]
  exact hrow.cell (by omega)
 have hsp : ∀ j, j < news.length → (w.cell? ⟨g, q + k * 3 + j, none⟩).isSome = true ∧ w.frozen? ⟨g, q + k * 3 + j, none⟩ = false := fun j hj => ⟨by rw [hrow.cell (by omega)]; rfl, hrow.frozen _⟩
 have HN := Lib.hid hnews
 have HL := Lib.hid hnl
 have H2 := Lib.hid hn1
 have HC : Hid (∀ j u, news[j]? = some u → w.cell? ((if cap = k + 1 then (⟨g, q, none⟩ : Addr) else ⟨g, q + (k + 1) * 3, none⟩).add j) = some u) := Lib.hid fun j u hj => by
  have hjl := V.get_lt hj
  have hne : ¬ cap = k + 1 := by omega
  rw [if_neg hne, Addr.add_lit]
  exact hnc j u hj
 have H4 := Lib.hid hsp
 clear hrow h1 hnews hnl hn1 hnc hsp
 go_enter Try.func123, Try.ntmps123
 go_wp2_with fail
 go_region_law (refine step_append_room rfl _ _ 24 rfl 72 I0 3 Try.underlying24 hI hI3 g q k cap (by simp [Act.eval, Act.put]) (if cap = k + 1 then ⟨g, q, none⟩ else ⟨g, q + (k + 1) * 3, none⟩) (m + 1 - (k + 1)) (cap - (k + 1)) news (by simp [Act.eval, Act.put]; split <;> rfl) HL.out HC.out H2.out (by omega) H4.out ?_)
 obtain ⟨W1, hW1⟩ : ∃ W, W = w.drew.setCells g (q + k * 3) news := ⟨_, rfl⟩
 rw [← hW1]
 have r1 := rowIs_setCellsR news (q + k * 3) w.drew f HR.out.drew
 have g1 : w.grownBy W1 (some g) := by rw [hW1]; exact grown_cellsR news _ _ ⟨rfl, rfl, rfl, Nat.le_refl _, fun _ _ _ => rfl⟩
 rw [← hW1] at r1
 have hcl : ∀ ty c', (Builtin.clear_ #[24] ty #[.slice (some ⟨g, q + m * 3, none⟩) 1 c']).run Try.prog W1 = .ok (.tuple #[]) (W1.setCells g (q + m * 3) zeroRo) := fun ty c' => run_clear_rowR W1 ty g (q + m * 3) c' (fun j hj => by rw [r1.cell (by omega)]; rfl) fun j => r1.frozen j
 have R1 := Lib.hid r1
 have G1 := Lib.hid g1
 have c1 : ¬ cap = m := by omega
 have c2 : (0 : Int) ≤ (m : Int) := by omega
 have c3 : (m : Int) ≤ (m : Int) + 1 := by omega
 have c4 : (m : Int) + 1 ≤ (cap : Int) := by omega
 have c5 : (m : Int) ≤ (cap : Int) := by omega
 clear r1 g1 hW1
 have fin : ∀ j, j < m * 3 → (if q + m * 3 ≤ q + j ∧ q + j < q + m * 3 + zeroRo.length then zeroRo.getD (q + j - (q + m * 3)) undef else if q + k * 3 ≤ q + j ∧ q + j < q + k * 3 + news.length then news.getD (q + j - (q + k * 3)) undef else f (q + j)) = if j < k * 3 then f (q + j) else f (q + j + 3) := fun j hj => by
  have hz : ¬ (q + m * 3 ≤ q + j ∧ q + j < q + m * 3 + zeroRo.length) := by omega
  rw [if_neg hz]
  by_cases hjk : j < k * 3
  ·rw [if_neg (by omega), if_pos hjk]
  ·have hin : q + k * 3 ≤ q + j ∧ q + j < q + k * 3 + news.length := by have := HL.out; omega
   rw [if_pos hin, if_neg hjk, HN.out, List.getD_eq_getElem?_getD, List.getElem?_map, List.getElem?_range (by omega)]
   show f (q + (k + 1) * 3 + (q + j - (q + k * 3))) = f (q + j + 3)
   congr 1
   omega
 have FIN := Lib.hid fin
 clear fin
 go_wp2_with (simp only [hcl])
 all_goals try rw [← ‹cap = k + 1›]
 all_goals go_ret
 all_goals refine ⟨rfl, grown_cellsR _ _ _ G1.out, _, rowIs_setCellsR zeroRo (q + m * 3) W1 _ R1.out, fun j hj => FIN.out j hj⟩
theorem gives_rowR {w w' : World} {lv : Nat → Value} {F : Nat → Nat → Prop} {n : Nat} {hF : ∀ i b, i < n → F i b → b < w.heap.size} {g q g0 i0 cap N : Nat} {f : Nat → Value} {L : List R} (h0 : i0 < n ∧ F i0 g0) (hgr : w.grownBy w' (some g0)) (hg : g = g0 ∨ w.heap.size ≤ g) (hN : q + cap * 3 ≤ N) (hrow : w'.rowIs g 72 N f) (hf : RoF (fun j => f (q + j)) L) (hc : L.length ≤ cap) (hm : cap ≤ maxLen) :
  V.Gives (Env.lend w lv F n hF) false [(false, [.seq 72 (L.map tRow)])] (.returned (.slice (some ⟨g, q, none⟩) L.length cap)) w' := by
 refine ⟨[[.slice (some ⟨g, q, none⟩) L.length cap]], fun c j b => c = 0 ∧ j = 0 ∧ b = g, rfl, rfl, fun c ag ts us hc' hu => ?_, fun c j c' j' b e1 e2 => ?_, fun c j b hb => ?_, ⟨hgr.os, hgr.tape, hgr.output, hgr.size, fun b hb => hgr.block b hb.1 fun e => hb.2 ⟨i0, h0.1, by rw [Option.some.inj e]; exact h0.2⟩⟩⟩
 ·cases c with
  | zero =>
   cases hc'; cases hu
   refine ⟨rfl, fun j t u hj hu => ?_⟩
   cases j with
   | zero => cases hj; cases hu; exact row_ownR ⟨rfl, rfl, rfl⟩ hc hm hN hrow hf
   | succ j => simp at hj
  | succ c => simp at hc'
 ·exact ⟨e1.1.trans e2.1.symm, e1.2.1.trans e2.2.1.symm⟩
 ·obtain ⟨-, -, rfl⟩ := hb
  refine ⟨?_, hrow.lt⟩
  rcases hg with rfl | hg
  ·exact .inr ⟨i0, h0.1, h0.2⟩
  ·exact .inl hg
theorem vx_args1R {E : Env} {ns : List Int} {vs : List Value} (hv : ArgsM E ((false, [AC.ln 0]) :: ns.map fun x => (false, [AC.rd (.lit (.int .i64 x))])) vs) : vs = E.lv 0 :: ns.map fun x => Value.int .i64 x := by
 obtain ⟨hl, ha⟩ := hv
 cases vs with
 | nil => simp at hl
 | cons v us =>
  obtain ⟨ws, e1, e2, e3⟩ := ha 0 false _ v rfl rfl
  match ws, e2 with
  | [x], _ =>
   have hx : x = E.lv 0 := (e3 0 (.ln 0) x rfl rfl).2
   congr 1
   ·rw [e1, ← hx]; rfl
   ·apply List.ext_getElem?
    intro j
    have hlu : us.length = ns.length := by simpa using hl
    rcases Nat.lt_or_ge j ns.length with hj | hj
    ·have hj' : j < us.length := by omega
     obtain ⟨ws, f1, f2, f3⟩ := ha (j + 1) false [.rd (.lit (.int .i64 ns[j]))] us[j] (by simp [hj]) (by simp [hj'])
     match ws, f2 with
     | [y], _ =>
      have f4 : Inn _ _ (.lit (.int .i64 ns[j])) y := f3 0 (.rd (.lit (.int .i64 ns[j]))) y rfl rfl
      rw [List.getElem?_eq_getElem hj', f1, inn_lit f4, List.getElem?_map, List.getElem?_eq_getElem hj]
      rfl
    ·rw [List.getElem?_eq_none (by omega), List.getElem?_eq_none (by simpa using hj)]
theorem erase_getR {L : List R} {k t : Nat} {c : R} (h : (L.eraseIdx k)[t]? = some c) : L[if t < k then t else t + 1]? = some c := by
 rw [List.getElem?_eraseIdx] at h
 split <;> rename_i hk <;> simp [hk] at h <;> exact h
theorem vdelrow (L : List R) (k : Nat) (hk : k < L.length) : VX Try.prog 123 [(false, [.ln 0]), (false, [.rd (.lit (.int .i64 (k : Int)))]), (false, [.rd (.lit (.int .i64 ((k : Int) + 1)))])] [.seq 72 (L.map tRow)] false [(false, [.seq 72 ((L.eraseIdx k).map tRow)])] := fun w lv F hF vs h1 h2 hv => by
 have hvs := vx_args1R (ns := [(k : Int), (k : Int) + 1]) hv
 rcases own_rowR (h1 0 _ rfl).1 with ⟨-, h0⟩ | ⟨g, q, cap, N, f, hl, hFg, hc, hm, hN, hrow, hf⟩
 ·subst h0; simp at hk
 ·obtain ⟨m, hmL⟩ : ∃ m, L.length = m + 1 := ⟨L.length - 1, by omega⟩
  have hcall := idel0R g q cap m k N f w (by omega) (by omega) hm hN hrow (fun j hj => hf.one (f := fun j => f (q + j)) (by omega))
  have he : (L.eraseIdx k).length = m := by rw [List.length_eraseIdx_of_lt hk]; omega
  have hvs2 : vs = [.slice (some ⟨g, q, none⟩) (m + 1) cap, .int .i64 (k : Int), .int .i64 ((k : Int) + 1)] := by
   rw [hvs]
   show lv 0 :: _ = _
   rw [hl, hmL]; rfl
  rw [hvs2]
  refine hcall.mono fun e w' ⟨h3, h4, f', h5, h6⟩ => ?_
  rw [h3, ← he]
  refine gives_rowR (i0 := 0) (g0 := g) ⟨Nat.one_pos, hFg⟩ h4 (.inl rfl) hN h5 (fun t c ht => ?_) (by omega) hm
  have htl := V.get_lt ht
  rw [he] at htl
  have h7 := hf _ c (erase_getR ht)
  dsimp only at h7 ⊢
  rw [h6 _ (by omega), h6 _ (by omega), h6 _ (by omega)]
  by_cases hkt : t < k
  ·rw [if_pos hkt] at h7
   rw [if_pos (by omega), if_pos (by omega), if_pos (by omega)]
   exact h7
  ·rw [if_neg hkt] at h7
   rw [if_neg (by omega), if_neg (by omega), if_neg (by omega)]
   rw [show q + t * 3 + 3 = q + (t + 1) * 3 by omega, show q + (t * 3 + 1) + 3 = q + ((t + 1) * 3 + 1) by omega, show q + (t * 3 + 2) + 3 = q + ((t + 1) * 3 + 2) by omega]
   exact h7
end Go.Proofs.Ytpnbnbhifpcelaa
/- The program's selection: rows read and written, a run's end: told by trees. -/
namespace Go.Proofs.Ytpnbnbhifpcelaa
open Go Go.RowKit V
set_option linter.unusedVariables false
set_option maxRecDepth 100000 in
set_option maxHeartbeats 2000000 in
theorem vroom_i (X Y Z : List R) (r : R) (m : Int) (hX : ∀ q ∈ X, q.wf) (hY : ∀ q ∈ Y, q.wf) (hxl : X.length ≤ 24) (hyl : Y.length ≤ 24) (hr : r.wf) : VH Try.prog 92 95 [.seq 72 ((X).map tRow), .seq 72 ((Y).map tRow), .seq 72 ((Z).map tRow)] [(true, tRow r), (false, [.lit (.int .i64 (m))])] [.seq 72 ((X).map tRow), .seq 72 ((Y).map tRow), .seq 72 ((Z).map tRow)] false [(false, [.lit (.bool (decide (total X + total Y + r.cost ≤ m)))])] := by
 refine VH.enter Try.func92 rfl Try.ntmps92 (gle rfl) fun E c hE hpin => ?_
 have t1 := total_range X
 have t2 := total_range Y
 have t3 := R.cost_range r
 refine SV.seq' (SV.region ?_)
 refine sm (ok_box (kk := 1) (ag := true) (xs := [.sc _, .sc _, .sc _]) rfl rfl rfl (fun h => by cases h) rfl rfl (gle rfl)) ?_
 refine sl 2 ms ?_
 refine SV.nil (SV.tn (SV.seq' ?_))
 refine SV.draw [.q 0, .q 1, .q 2, .q 3, .q 5, .q 6, .q 7, .q 8, .q 11, .q 14, .m 4, .m 9, .q 10, .m 12, .q 13, .q 15, .q 16] [] (by kernel_rfl) (by kernel_rfl) ?_
 refine dq rfl (mv (V.one (.bp 0 0))) ?_
 refine dq rfl (ok_nilcheckB rfl rfl) ?_
 refine dq rfl (fb fld_impl_selection_0) ?_
 refine dq rfl (lb 0 0 [.hd 0] agg_s_impl_Row sz_s_impl_Row (fun _ => rfl)) ?_
 refine dq rfl (mv (V.one (.bp 0 0))) ?_
 refine dq rfl (ok_nilcheckB rfl rfl) ?_
 refine dq rfl (fb fld_impl_selection_1) ?_
 refine dq rfl (lb 0 1 [.hd 1] agg_s_impl_Row sz_s_impl_Row (fun _ => rfl)) ?_
 refine dq rfl (lb 1 0 [.sc _, .sc _, .sc _] agg_impl_Row sz_impl_Row (fun h => by cases h)) ?_
 refine dq rfl ms ?_
 refine DW.m [] rfl (cl [(false, [.sc _])] rfl Try.func69 (vtotal_i X hX (by omega)) ⟨⟨[.hd 0], rfl, ⟨rfl, trivial⟩⟩, trivial⟩) rfl (gle rfl) (gle rfl) (.inl rfl) (fun j hj => by cases hj) ?_
 refine DW.m [] rfl (cl [(false, [.sc _])] rfl Try.func69 (vtotal_i Y hY (by omega)) ⟨⟨[.hd 1], rfl, ⟨rfl, trivial⟩⟩, trivial⟩) rfl (gle rfl) (gle rfl) (.inl rfl) (fun j hj => by cases hj) ?_
 refine dq rfl (ok_s2 (v := .int .i64 (total X + total Y)) (x := .tmp 11) (x' := .tmp 16) (VScal.one rfl) (VScal.one rfl) (fun ρ h1 h2 w => by go_simp; rw [IntWalk.i64_left, IntWalk.wrap64_in _ ⟨by omega, by omega⟩] <;> first | rfl | omega | (congr 1; omega)) rfl) ?_
 refine DW.m [] rfl (cl [(false, [.sc _])] rfl Try.func112 (vcost_i r hr) ⟨⟨[.sc _, .sc _, .sc _], rfl, ⟨rfl, rfl, rfl, trivial⟩⟩, trivial⟩) rfl (gle rfl) (gle rfl) (.inl rfl) (fun j hj => by cases hj) ?_
 refine dq rfl (ok_s2 (v := .int .i64 (total X + total Y + r.cost)) (x := .tmp 17) (x' := .tmp 19) (VScal.one rfl) (VScal.one rfl) (fun ρ h1 h2 w => by go_simp; rw [IntWalk.i64_left, IntWalk.wrap64_in _ ⟨by omega, by omega⟩] <;> first | rfl | omega | (congr 1; omega)) rfl) ?_
 refine dq rfl (s2 (.tmp 20) (.tmp 21)) ?_
 refine dq rfl ms ?_
 refine DW.stores ?_
 refine SV.zend ?_
 refine SV.tn (SV.ret ?_)
 apply SV.doneH (hpin := hpin) (hbx := rfl) (hf := Try.results92) (ht := rfl) (he := .inl rfl)
 case hr => exact (ResAll.cons (ResOk.tmp (ag := false) (xs := [.sc _]) rfl) ResAll.nil')
 case h2 => simp [two, ansL]
 case hx => refine ⟨?_, ?_, ?_, trivial⟩ <;> rfl
 refine ⟨rfl, ⟨?_, trivial⟩, trivial⟩ <;> rfl
theorem Runs_later_nil {Z : List R} {r : R} (h : Z.length = 0) : Runs.later Z r = false := later_nil h
set_option maxRecDepth 100000 in
set_option maxHeartbeats 2000000 in
theorem vread_i (X Y Z : List R) (r : R) (hxl : X.length ≤ 24) (hyl : Y.length ≤ 24) (hzl : Z.length ≤ 24) : VH Try.prog 93 95 [.seq 72 ((X).map tRow), .seq 72 ((Y).map tRow), .seq 72 ((Z).map tRow)] [(true, tRow r)] [.seq 72 ((if Runs.later Z r = true then X else X ++ [r]).map tRow), .seq 72 ((if Runs.later Z r = true then Y ++ [r] else Y).map tRow), .seq 72 ((Z).map tRow)] true [] := by
 refine VH.enter Try.func93 rfl Try.ntmps93 (gle rfl) fun E c hE hpin => ?_
 refine SV.seq' (SV.region ?_)
 refine sm (ok_box (kk := 1) (ag := true) (xs := [.sc _, .sc _, .sc _]) rfl rfl rfl (fun h => by cases h) rfl rfl (gle rfl)) ?_
 refine SV.nil (SV.tn (SV.seq' ?_))
 refine SV.draw [.q 0, .q 1, .q 2, .q 3, .q 4, .q 5, .q 6, .q 7, .q 8, .q 9, .q 10, .q 11, .q 12, .q 13, .q 14, .q 15, .q 16, .q 17, .q 18, .q 19, .m 20, .q 21, .q 22] [] (by kernel_rfl) (by kernel_rfl) ?_
 refine dq rfl (mv (V.one (.bp 0 0))) ?_
 refine dq rfl (ok_nilcheckB rfl rfl) ?_
 refine dq rfl (fb fld_impl_selection_2) ?_
 refine dq rfl (lb 0 2 [.hd 2] agg_s_impl_Row sz_s_impl_Row (fun _ => rfl)) ?_
 refine dq rfl (ok_len (lf := .hd 2) rfl elt_impl_Row.und rfl rfl) ?_
 refine dq rfl (s2 (.tmp 8) (.const ((Value.int IntKind.i64 0)))) ?_
 refine dq rfl ms ?_
 refine DW.split (d := 10) rfl (fun hg0 => ?_) (fun hg0 => ?_)
 ·skip   -- g0.T
  have hcl : 0 < Z.length := by rcases Nat.eq_zero_or_pos Z.length with h | h; (exfalso; simp [h] at hg0); (exact h)
  obtain ⟨d, hdd⟩ : ∃ d, Z[Z.length - 1]? = some d := ⟨_, List.getElem?_eq_getElem (by omega)⟩
  refine dy rfl (lb 1 0 [.sc _, .sc _, .sc _] agg_impl_Row sz_impl_Row (fun h => by cases h)) ?_
  refine dy rfl (mv (V.one (.bp 0 0))) ?_
  refine dy rfl (ok_nilcheckB rfl rfl) ?_
  refine dy rfl (fb fld_impl_selection_2) ?_
  refine dy rfl (lb 0 2 [.hd 2] agg_s_impl_Row sz_s_impl_Row (fun _ => rfl)) ?_
  refine dy rfl (mv (V.one (.bp 0 0))) ?_
  refine dy rfl (ok_nilcheckB rfl rfl) ?_
  refine dy rfl (fb fld_impl_selection_2) ?_
  refine dy rfl (lb 0 2 [.hd 2] agg_s_impl_Row sz_s_impl_Row (fun _ => rfl)) ?_
  refine dy rfl (ok_len (lf := .hd 2) rfl elt_impl_Row.und rfl rfl) ?_
  refine dy rfl (ok_s2 (v := .int .i64 ((Z.length - 1 : Nat) : Int)) (x := .tmp 20) (x' := .const ((Value.int IntKind.i64 1))) (VScal.one rfl) (VScal.one rfl) (fun ρ h1 h2 w => by go_simp; (try simp only [List.length_map]); first | (rw [IntWalk.i64_left, IntWalk.wrap64_in _ ⟨by omega, by omega⟩]; first | rfl | omega | (congr 1; omega)) | (congr 1; omega)) rfl) ?_
  refine dy rfl (ok_index (n := 3) (lf := .hd 2) rfl elt_impl_Row.und sz_impl_Row rfl rfl rfl (map_at hdd)) ?_
  refine DW.el' (ag := true) (m := 3) (ys := [.sc _, .sc _, .sc _]) rfl rfl rfl (cells_ep rfl (map_at hdd) rfl rfl) agg_impl_Row sz_impl_Row (fun h => by cases h) (gle rfl) rfl (fun hr => wantedY hr rfl rfl rfl (gle rfl) rfl rfl) rfl (gle rfl) (fun _ _ _ _ h => h) ?_
  refine DW.m' [] rfl (cl [(false, [.sc _])] rfl Try.func109 (vcmp_i r d) ⟨⟨[.sc _, .sc _, .sc _], rfl, ⟨rfl, rfl, rfl, trivial⟩⟩, ⟨[.sc _, .sc _, .sc _], rfl, ⟨rfl, rfl, rfl, trivial⟩⟩, trivial⟩) (fun hr => wantedY hr rfl rfl rfl (gle rfl) rfl rfl) (gle rfl) (gle rfl) (.inl rfl) (fun j hj => by cases hj) ?_
  refine dy rfl (s2 (.tmp 24) (.const ((Value.int IntKind.i64 0)))) ?_
  refine dq rfl pt ?_
  refine DW.stores ?_
  refine SV.zend ?_
  refine SV.tn ?_
  refine SV.cond rfl (fun hc0 => ?_) (fun hc0 => ?_)
  ·skip   -- c0.T
   have hlt : Runs.later Z r = true := by rw [later_at hdd]; simpa using hc0
   refine SV.draw [.q 0, .q 1, .q 2, .q 3, .q 4, .q 5, .m 6, .m 7, .q 8, .q 9] [10] (by kernel_rfl) (by kernel_rfl) ?_
   refine dq rfl (mv (V.one (.bp 0 0))) ?_
   refine dq rfl (mv (V.one (.bp 0 0))) ?_
   refine dq rfl (ok_nilcheckB rfl rfl) ?_
   refine dq rfl (fb fld_impl_selection_1) ?_
   refine dq rfl (lb 0 1 [.hd 1] agg_s_impl_Row sz_s_impl_Row (fun _ => rfl)) ?_
   refine dq rfl (lb 1 0 [.sc _, .sc _, .sc _] agg_impl_Row sz_impl_Row (fun h => by cases h)) ?_
   refine DW.m [3] rfl (ok_lit1 (kk := 3) elt_impl_Row (ag := true) (xs := [.sc _, .sc _, .sc _]) rfl rfl rfl rfl (fun h => by cases h) (outs_c rfl (outs_c rfl (outs_c rfl outs_n))) (by simp [two]) rfl (gle rfl)) rfl (gle rfl) (gle rfl) (.inl rfl) (fun j hj => by
     simp only [List.mem_cons, List.not_mem_nil, or_false] at hj
     rcases hj with rfl
     ·exact .inr ⟨(gle rfl), (gle rfl), .inl rfl⟩) ?_
   refine DW.m [3] rfl (ok_append (kk := 4) elt_impl_Row (ls := .hd 1) (lx := .hd 3) rfl rfl rfl rfl rfl rfl (by intro i h1 h2; first | (cases h1; done) | (cases h1; cases h2)) (by first | omega | (simp only [List.length_map]; omega) | (simp; done) | (simp; omega)) rfl (gle rfl)) rfl (gle rfl) (gle rfl) (.inr ⟨1, rfl, .inr ⟨(gle rfl), rfl⟩⟩) (fun j hj => by
     simp only [List.mem_cons, List.not_mem_nil, or_false] at hj
     rcases hj with rfl
     ·exact .inl (by decide)) ?_
   refine dq rfl (ok_nilcheckB rfl rfl) ?_
   refine dq rfl (fb fld_impl_selection_1) ?_
   refine DW.stores ?_
   refine SV.z rfl (st (ag := false) [.hd 4] [.hd 0, .hd 4, .hd 2] sz_s_impl_Row (fun _ => rfl)) rfl ?_
   refine SV.zend ?_
   apply SV.doneH (hpin := hpin) (hbx := rfl) (hf := Try.results93) (ht := rfl) (he := .inr rfl)
   case hr => exact ResAll.nil'
   case h2 => simp [two, ansL]
   case hx => refine ⟨?_, ?_, ?_, trivial⟩ <;> (refine lsq ?_; first | done | rfl | (rw [hlt]; first | done | rfl | (simp [tRow]; done)) | (simp [hlt, tRow]; done))
   exact trivial
  ·skip   -- c0.F
   have hlt : Runs.later Z r = false := by rw [later_at hdd]; simpa using hc0
   refine SV.draw [.q 0, .q 1, .q 2, .q 3, .q 4, .q 5, .m 6, .m 7, .q 8, .q 9] [10] (by kernel_rfl) (by kernel_rfl) ?_
   refine dq rfl (mv (V.one (.bp 0 0))) ?_
   refine dq rfl (mv (V.one (.bp 0 0))) ?_
   refine dq rfl (ok_nilcheckB rfl rfl) ?_
   refine dq rfl (fb fld_impl_selection_0) ?_
   refine dq rfl (lb 0 0 [.hd 0] agg_s_impl_Row sz_s_impl_Row (fun _ => rfl)) ?_
   refine dq rfl (lb 1 0 [.sc _, .sc _, .sc _] agg_impl_Row sz_impl_Row (fun h => by cases h)) ?_
   refine DW.m [3] rfl (ok_lit1 (kk := 3) elt_impl_Row (ag := true) (xs := [.sc _, .sc _, .sc _]) rfl rfl rfl rfl (fun h => by cases h) (outs_c rfl (outs_c rfl (outs_c rfl outs_n))) (by simp [two]) rfl (gle rfl)) rfl (gle rfl) (gle rfl) (.inl rfl) (fun j hj => by
     simp only [List.mem_cons, List.not_mem_nil, or_false] at hj
     rcases hj with rfl
     ·exact .inr ⟨(gle rfl), (gle rfl), .inl rfl⟩) ?_
   refine DW.m [3] rfl (ok_append (kk := 4) elt_impl_Row (ls := .hd 0) (lx := .hd 3) rfl rfl rfl rfl rfl rfl (by intro i h1 h2; first | (cases h1; done) | (cases h1; cases h2)) (by first | omega | (simp only [List.length_map]; omega) | (simp; done) | (simp; omega)) rfl (gle rfl)) rfl (gle rfl) (gle rfl) (.inr ⟨0, rfl, .inr ⟨(gle rfl), rfl⟩⟩) (fun j hj => by
     simp only [List.mem_cons, List.not_mem_nil, or_false] at hj
     rcases hj with rfl
     ·exact .inl (by decide)) ?_
   refine dq rfl (ok_nilcheckB rfl rfl) ?_
   refine dq rfl (fb fld_impl_selection_0) ?_
   refine DW.stores ?_
   refine SV.z rfl (st (ag := false) [.hd 4] [.hd 4, .hd 1, .hd 2] sz_s_impl_Row (fun _ => rfl)) rfl ?_
   refine SV.zend ?_
   apply SV.doneH (hpin := hpin) (hbx := rfl) (hf := Try.results93) (ht := rfl) (he := .inr rfl)
   case hr => exact ResAll.nil'
   case h2 => simp [two, ansL]
   case hx => refine ⟨?_, ?_, ?_, trivial⟩ <;> (refine lsq ?_; first | done | rfl | (rw [hlt]; first | done | rfl | (simp [tRow]; done)) | (simp [hlt, tRow]; done))
   exact trivial
 ·skip   -- g0.F
  have hlt : Runs.later Z r = false := Runs_later_nil (by first | (simpa using hg0) | (simp at hg0; omega) | (simp at hg0; rw [hg0]; rfl))
  refine dn ?_
  refine dn ?_
  refine dn ?_
  refine dn ?_
  refine dn ?_
  refine dn ?_
  refine dn ?_
  refine dn ?_
  refine dn ?_
  refine dn ?_
  refine dn ?_
  refine dn ?_
  refine dn ?_
  refine DW.mN rfl rfl rfl rfl (gle rfl) rfl rfl rfl (gle rfl) ?_
  refine dn ?_
  refine dq rfl pf ?_
  refine DW.stores ?_
  refine SV.zend ?_
  refine SV.tn ?_
  refine SV.cond rfl (fun hc1 => ?_) (fun hc1 => ?_)
  ·skip   -- c1.T
   cases hc1
  ·skip   -- c1.F
   refine SV.draw [.q 0, .q 1, .q 2, .q 3, .q 4, .q 5, .m 6, .m 7, .q 8, .q 9] [10] (by kernel_rfl) (by kernel_rfl) ?_
   refine dq rfl (mv (V.one (.bp 0 0))) ?_
   refine dq rfl (mv (V.one (.bp 0 0))) ?_
   refine dq rfl (ok_nilcheckB rfl rfl) ?_
   refine dq rfl (fb fld_impl_selection_0) ?_
   refine dq rfl (lb 0 0 [.hd 0] agg_s_impl_Row sz_s_impl_Row (fun _ => rfl)) ?_
   refine dq rfl (lb 1 0 [.sc _, .sc _, .sc _] agg_impl_Row sz_impl_Row (fun h => by cases h)) ?_
   refine DW.m [3] rfl (ok_lit1 (kk := 3) elt_impl_Row (ag := true) (xs := [.sc _, .sc _, .sc _]) rfl rfl rfl rfl (fun h => by cases h) (outs_c rfl (outs_c rfl (outs_c rfl outs_n))) (by simp [two]) rfl (gle rfl)) rfl (gle rfl) (gle rfl) (.inl rfl) (fun j hj => by
     simp only [List.mem_cons, List.not_mem_nil, or_false] at hj
     rcases hj with rfl
     ·exact .inr ⟨(gle rfl), (gle rfl), .inl rfl⟩) ?_
   refine DW.m [3] rfl (ok_append (kk := 4) elt_impl_Row (ls := .hd 0) (lx := .hd 3) rfl rfl rfl rfl rfl rfl (by intro i h1 h2; first | (cases h1; done) | (cases h1; cases h2)) (by first | omega | (simp only [List.length_map]; omega) | (simp; done) | (simp; omega)) rfl (gle rfl)) rfl (gle rfl) (gle rfl) (.inr ⟨0, rfl, .inr ⟨(gle rfl), rfl⟩⟩) (fun j hj => by
     simp only [List.mem_cons, List.not_mem_nil, or_false] at hj
     rcases hj with rfl
     ·exact .inl (by decide)) ?_
   refine dq rfl (ok_nilcheckB rfl rfl) ?_
   refine dq rfl (fb fld_impl_selection_0) ?_
   refine DW.stores ?_
   refine SV.z rfl (st (ag := false) [.hd 4] [.hd 4, .hd 1, .hd 2] sz_s_impl_Row (fun _ => rfl)) rfl ?_
   refine SV.zend ?_
   apply SV.doneH (hpin := hpin) (hbx := rfl) (hf := Try.results93) (ht := rfl) (he := .inr rfl)
   case hr => exact ResAll.nil'
   case h2 => simp [two, ansL]
   case hx => refine ⟨?_, ?_, ?_, trivial⟩ <;> (refine lsq ?_; first | done | rfl | (rw [hlt]; first | done | rfl | (simp [tRow]; done)) | (simp [hlt, tRow]; done))
   exact trivial
set_option maxRecDepth 100000 in
set_option maxHeartbeats 2000000 in
theorem vwrite_i (X Y Z : List R) (k : Nat) (e : R) (hki : Runs.idxMin X = (k : Int)) (he : X[k]? = some e) (hxl : X.length ≤ 24) (hzl : Z.length ≤ 24) : VH Try.prog 95 95 [.seq 72 ((X).map tRow), .seq 72 ((Y).map tRow), .seq 72 ((Z).map tRow)] [] [.seq 72 ((X.eraseIdx k).map tRow), .seq 72 ((Y).map tRow), .seq 72 ((Z ++ [e]).map tRow)] false [(true, tRow e)] := by
 refine VH.enter Try.func95 rfl Try.ntmps95 (gle rfl) fun E c hE hpin => ?_
 have hk : k < X.length := Runs.getlt he
 have hvi := vidx_i X (by omega)
 rw [hki] at hvi
 refine SV.seq' (SV.region ?_)
 refine sm (ok_alloc (kk := 1) (xs := [.sc _, .sc _, .sc _]) rfl rfl zero_impl_Row ⟨rfl, rfl, rfl, rfl, rfl, rfl, trivial⟩ rfl (gle rfl)) ?_
 refine SV.nil (SV.tn (SV.seq' (SV.region ?_)))
 refine sl 2 (mv (V.one (.bp 0 0))) ?_
 refine sl 2 (ok_nilcheckB rfl rfl) ?_
 refine sl 2 (fb fld_impl_selection_0) ?_
 refine sl 2 (lb 0 0 [.hd 0] agg_s_impl_Row sz_s_impl_Row (fun _ => rfl)) ?_
 refine sm (cl [(false, [.sc _])] rfl Try.func113 (hvi) ⟨⟨[.hd 0], rfl, ⟨rfl, trivial⟩⟩, trivial⟩) ?_
 refine sl 2 ms ?_
 refine SV.nil (SV.tn (SV.seq' (SV.region ?_)))
 refine sl 2 (mv (V.one (.bp 0 0))) ?_
 refine sl 2 (ok_nilcheckB rfl rfl) ?_
 refine sl 2 (fb fld_impl_selection_0) ?_
 refine sl 2 (lb 0 0 [.hd 0] agg_s_impl_Row sz_s_impl_Row (fun _ => rfl)) ?_
 refine sl 2 ms ?_
 refine sl 2 (ok_index (n := 3) (lf := .hd 0) rfl elt_impl_Row.und sz_impl_Row rfl rfl rfl (map_at he)) ?_
 refine so (ok_load_el (p := .ep 0 _ _ _) (ag := true) (m := 3) (ys := [.sc _, .sc _, .sc _]) rfl rfl (cells_ep rfl (map_at he) rfl rfl) agg_impl_Row sz_impl_Row (fun h => by cases h) (gle rfl) rfl rfl (gle rfl)) ?_
 refine sm (ok_alloc (kk := 2) (xs := [.sc _, .sc _, .sc _]) rfl rfl zero_impl_Row ⟨rfl, rfl, rfl, rfl, rfl, rfl, trivial⟩ rfl (gle rfl)) ?_
 refine so (st (ag := true) [.sc _, .sc _, .sc _] [.sc _, .sc _, .sc _] sz_impl_Row (fun h => by cases h)) ?_
 refine SV.nil (SV.tn (SV.seq' ?_))
 refine SV.draw [.q 0, .q 1, .q 2, .q 3, .q 4, .q 5, .m 6, .m 7, .q 8, .q 9] [10] (by kernel_rfl) (by kernel_rfl) ?_
 refine dq rfl (mv (V.one (.bp 0 0))) ?_
 refine dq rfl (mv (V.one (.bp 0 0))) ?_
 refine dq rfl (ok_nilcheckB rfl rfl) ?_
 refine dq rfl (fb fld_impl_selection_2) ?_
 refine dq rfl (lb 0 2 [.hd 2] agg_s_impl_Row sz_s_impl_Row (fun _ => rfl)) ?_
 refine dq rfl (lb 2 0 [.sc _, .sc _, .sc _] agg_impl_Row sz_impl_Row (fun h => by cases h)) ?_
 refine DW.m [3] rfl (ok_lit1 (kk := 3) elt_impl_Row (ag := true) (xs := [.sc _, .sc _, .sc _]) rfl rfl rfl rfl (fun h => by cases h) (outs_c rfl (outs_c rfl (outs_c rfl outs_n))) (by simp [two]) rfl (gle rfl)) rfl (gle rfl) (gle rfl) (.inl rfl) (fun j hj => by
   simp only [List.mem_cons, List.not_mem_nil, or_false] at hj
   rcases hj with rfl
   ·exact .inr ⟨(gle rfl), (gle rfl), .inl rfl⟩) ?_
 refine DW.m [3] rfl (ok_append (kk := 4) elt_impl_Row (ls := .hd 2) (lx := .hd 3) rfl rfl rfl rfl rfl rfl (by intro i h1 h2; first | (cases h1; done) | (cases h1; cases h2)) (by first | omega | (simp only [List.length_map]; omega) | (simp; done) | (simp; omega)) rfl (gle rfl)) rfl (gle rfl) (gle rfl) (.inr ⟨2, rfl, .inr ⟨(gle rfl), rfl⟩⟩) (fun j hj => by
   simp only [List.mem_cons, List.not_mem_nil, or_false] at hj
   rcases hj with rfl
   ·exact .inl (by decide)) ?_
 refine dq rfl (ok_nilcheckB rfl rfl) ?_
 refine dq rfl (fb fld_impl_selection_2) ?_
 refine DW.stores ?_
 refine SV.z rfl (st (ag := false) [.hd 4] [.hd 0, .hd 1, .hd 4] sz_s_impl_Row (fun _ => rfl)) rfl ?_
 refine SV.zend ?_
 refine SV.tn (SV.seq' (SV.region ?_))
 refine sl 3 (mv (V.one (.bp 0 0))) ?_
 refine sl 3 (mv (V.one (.bp 0 0))) ?_
 refine sl 3 (ok_nilcheckB rfl rfl) ?_
 refine sl 3 (fb fld_impl_selection_0) ?_
 refine sl 3 (lb 0 0 [.hd 0] agg_s_impl_Row sz_s_impl_Row (fun _ => rfl)) ?_
 refine sl 3 ms ?_
 refine sl 3 ms ?_
 refine sl 3 (ok_s2 (v := .int .i64 ((k : Int) + 1)) (x := .tmp 33) (x' := .const ((Value.int IntKind.i64 1))) (VScal.one rfl) (VScal.one rfl) (fun ρ h1 h2 w => by go_simp; rw [IntWalk.i64_left, IntWalk.wrap64_in _ ⟨by omega, by omega⟩]) rfl) ?_
 refine so (ok_callX (i := 0) (kk := 5) rfl rfl ⟨_, _, Try.func123, rfl, by decide⟩ (vdelrow X k hk) ⟨⟨[.hd 0], rfl, ⟨⟨rfl, rfl⟩, trivial⟩⟩, ⟨[.sc _], rfl, ⟨.inl ⟨_, rfl, rfl⟩, trivial⟩⟩, ⟨[.sc _], rfl, ⟨.inl ⟨_, rfl, rfl⟩, trivial⟩⟩, trivial⟩ rfl rfl (gle rfl)) ?_
 refine sl 3 (ok_nilcheckB rfl rfl) ?_
 refine sl 3 (fb fld_impl_selection_0) ?_
 refine so (st (ag := false) [.hd 5] [.hd 5, .hd 1, .hd 4] sz_s_impl_Row (fun _ => rfl)) ?_
 refine SV.nil (SV.tn (SV.seq' (SV.region ?_)))
 refine sl 3 (lb 2 0 [.sc _, .sc _, .sc _] agg_impl_Row sz_impl_Row (fun h => by cases h)) ?_
 refine so (st (ag := true) [.sc _, .sc _, .sc _] [.sc _, .sc _, .sc _] sz_impl_Row (fun h => by cases h)) ?_
 refine SV.nil (SV.tn (SV.ret ?_))
 apply SV.doneH (hpin := hpin) (hbx := rfl) (hf := Try.results95) (ht := rfl) (he := .inl rfl)
 case hr => exact (ResAll.cons (ResOk.cell (b := 1) (ag := true) (xs := [.sc _, .sc _, .sc _]) rfl rfl agg_impl_Row sz_impl_Row (fun h => by cases h)) ResAll.nil')
 case h2 => simp [two, ansL]
 case hx => refine ⟨?_, ?_, ?_, trivial⟩ <;> (refine lsq ?_; first | done | rfl | (simp [tRow]; done))
 refine ⟨rfl, ⟨?_, ?_, ?_, trivial⟩, trivial⟩ <;> rfl
set_option maxRecDepth 100000 in
set_option maxHeartbeats 2000000 in
theorem vendrun_i (X Y Z : List R) : VH Try.prog 94 95 [.seq 72 ((X).map tRow), .seq 72 ((Y).map tRow), .seq 72 ((Z).map tRow)] [] [.seq 72 ((Y).map tRow), .seq 72 (([]).map tRow), .seq 72 (([]).map tRow)] false [(true, tRun Z)] := by
 refine VH.enter Try.func94 rfl Try.ntmps94 (gle rfl) fun E c hE hpin => ?_
 refine SV.seq' (SV.region ?_)
 refine sm (ok_alloc (kk := 1) (xs := [.nl _]) rfl rfl zero_impl_Run ⟨rfl, ⟨3, by decide, sz_impl_Row⟩, trivial⟩ rfl (gle rfl)) ?_
 refine SV.nil (SV.tn (SV.seq' (SV.region ?_)))
 refine sl 2 (mv (V.one (.bp 0 0))) ?_
 refine sl 2 (ok_nilcheckB rfl rfl) ?_
 refine sl 2 (fb fld_impl_selection_2) ?_
 refine sl 2 (lb 0 2 [.hd 2] agg_s_impl_Row sz_s_impl_Row (fun _ => rfl)) ?_
 refine sl 2 (ok_build (zs := [.nl _]) (ys := [.hd 2]) (qs := [(0, [.hd 2])]) (pl := fun i => ([(0, 1)] : List (Nat × Nat))[i]?) rfl zero_impl_Run ⟨rfl, ⟨3, by decide, sz_impl_Row⟩, trivial⟩ ⟨⟨rfl, false, rfl, (fun _ => rfl), rfl⟩, trivial⟩ bld_impl_Run rfl) ?_
 refine sm (ok_alloc (kk := 2) (xs := [.nl _]) rfl rfl zero_impl_Run ⟨rfl, ⟨3, by decide, sz_impl_Row⟩, trivial⟩ rfl (gle rfl)) ?_
 refine so (st (ag := true) [.hd 2] [.hd 2] sz_impl_Run (fun h => by cases h)) ?_
 refine SV.nil (SV.tn (SV.seq' (SV.region ?_)))
 refine sl 3 (mv (V.one (.bp 0 0))) ?_
 refine sl 3 (mv (V.one (.bp 0 0))) ?_
 refine sl 3 (ok_nilcheckB rfl rfl) ?_
 refine sl 3 (fb fld_impl_selection_1) ?_
 refine sl 3 (lb 0 1 [.hd 1] agg_s_impl_Row sz_s_impl_Row (fun _ => rfl)) ?_
 refine sl 3 (ok_build (zs := [.nl _, .nl _, .nl _]) (ys := [.hd 1, .nl _, .nl _]) (qs := [(0, [.hd 1])]) (pl := fun i => ([(0, 1), (1, 1), (2, 1)] : List (Nat × Nat))[i]?) rfl zero_impl_selection ⟨rfl, ⟨3, by decide, sz_impl_Row⟩, rfl, ⟨3, by decide, sz_impl_Row⟩, rfl, ⟨3, by decide, sz_impl_Row⟩, trivial⟩ ⟨⟨rfl, false, rfl, (fun _ => rfl), rfl⟩, trivial⟩ bld_impl_selection rfl) ?_
 refine sl 3 (ok_nilcheckB rfl rfl) ?_
 refine so (st (ag := true) [.hd 1, .nl _, .nl _] [.hd 1, .nl _, .nl _] sz_impl_selection (fun h => by cases h)) ?_
 refine SV.nil (SV.tn (SV.seq' (SV.region ?_)))
 refine sl 3 (lb 2 0 [.hd 2] agg_impl_Run sz_impl_Run (fun h => by cases h)) ?_
 refine so (st (ag := true) [.hd 2] [.hd 2] sz_impl_Run (fun h => by cases h)) ?_
 refine SV.nil (SV.tn (SV.ret ?_))
 apply SV.doneH (hpin := hpin) (hbx := rfl) (hf := Try.results94) (ht := rfl) (he := .inl rfl)
 case hr => exact (ResAll.cons (ResOk.cell (b := 1) (ag := true) (xs := [.hd 2]) rfl rfl agg_impl_Run sz_impl_Run (fun h => by cases h)) ResAll.nil')
 case h2 => simp [two, ansL]
 case hx => refine ⟨?_, ?_, ?_, trivial⟩ <;> first | rfl | (refine lsq ?_; first | done | rfl | (simp; done))
 refine ⟨rfl, ⟨?_, trivial⟩, trivial⟩ <;> rfl
end Go.Proofs.Ytpnbnbhifpcelaa
/- The program's step of reading: told by trees. -/
namespace Go.Proofs.Ytpnbnbhifpcelaa
open Go Go.RowKit V
set_option linter.unusedVariables false
namespace SorterD
theorem read_take {s : SorterD} {g : Int} {n : Nat} {r : R} (hp : s.fPhase = 1) (hn : s.fPos = (n : Int)) (hr : s.fInput[n]? = some r) (hc : total s.fHeap + total s.fDeferred + r.cost ≤ g) : stepRead s g = ⟨s.fInput, s.fPos + 1, if Runs.later s.fOutput r = true then s.fHeap else s.fHeap ++ [r], if Runs.later s.fOutput r = true then s.fDeferred ++ [r] else s.fDeferred, s.fOutput, s.fRuns, s.fLeftPos, s.fRightPos, s.fPhase, s.fWritten⟩ := by
 unfold stepRead
 rw [hn, Int.toNat_natCast, hr]
 show (if mem s + r.cost ≤ g then readS s r else flowS s) = _
 rw [mem_one hp, if_pos hc]
 unfold readS
 rw [hn]
 split <;> rfl
theorem read_full {s : SorterD} {g : Int} {n : Nat} {r : R} (hp : s.fPhase = 1) (hn : s.fPos = (n : Int)) (hr : s.fInput[n]? = some r) (hc : ¬ total s.fHeap + total s.fDeferred + r.cost ≤ g) : stepRead s g = flowS s := by
 unfold stepRead
 rw [hn, Int.toNat_natCast, hr]
 show (if mem s + r.cost ≤ g then readS s r else flowS s) = _
 rw [mem_one hp, if_neg hc]
theorem read_none {s : SorterD} {g : Int} {n : Nat} (hn : s.fPos = (n : Int)) (hr : s.fInput.length ≤ n) : stepRead s g = flowS s := by
 unfold stepRead
 rw [hn, Int.toNat_natCast, List.getElem?_eq_none hr]
theorem flow_give {s : SorterD} {e : R} (he : s.fHeap[Runs.minAt s.fHeap s.fHeap.length]? = some e) : flowS s = ⟨s.fInput, s.fPos, s.fHeap.eraseIdx (Runs.minAt s.fHeap s.fHeap.length), s.fDeferred, s.fOutput ++ [e], s.fRuns, s.fLeftPos, s.fRightPos, s.fPhase, wrap64 (s.fWritten + e.cost)⟩ := by
 unfold flowS
 rw [he]
 rfl
theorem flow_swap {s : SorterD} (h0 : s.fHeap.length = 0) (hd : ¬ s.fDeferred.length = 0) : flowS s = ⟨s.fInput, s.fPos, s.fDeferred, [], [], s.fRuns ++ [s.fOutput], s.fLeftPos, s.fRightPos, s.fPhase, s.fWritten⟩ := by
 unfold flowS
 rw [List.getElem?_eq_none (by omega)]
 exact if_neg hd
theorem flow_fin {s : SorterD} {X : List (List R)} (h0 : s.fHeap.length = 0) (hd : s.fDeferred.length = 0) (hX : (if s.fOutput.length = 0 then s.fRuns else s.fRuns ++ [s.fOutput]) = X) : flowS s = ⟨s.fInput, s.fPos, [], [], [], X, 0, 0, if X.length = 0 then 4 else if X.length = 1 then 3 else 2, s.fWritten⟩ := by
 unfold flowS
 rw [List.getElem?_eq_none (by omega)]
 subst hX
 have e1 := List.eq_nil_of_length_eq_zero h0
 have e2 := List.eq_nil_of_length_eq_zero hd
 show (if s.fDeferred.length = 0 then endS s else swapS s) = _
 rw [if_pos hd]
 unfold endS turnS
 rw [e1, e2]
end SorterD
set_option maxRecDepth 100000 in
set_option maxHeartbeats 2000000 in
theorem vreadS_i (s : SorterD) (g : Int) (n : Nat) (hW : s.Wf) (hp : s.fPhase = 1) (hn : s.fPos = (n : Int)) (hnl0 : n ≤ s.fInput.length) (hh : s.fHeap.length ≤ 24) (hd : s.fDeferred.length ≤ 24) (ho : s.fOutput.length ≤ 24) : VH Try.prog 120 27 [.seq 72 ((s.fInput).map tRow), .lit (.int .i64 (s.fPos)), .seq 72 ((s.fHeap).map tRow), .seq 72 ((s.fDeferred).map tRow), .seq 72 ((s.fOutput).map tRow), .seq 84 ((s.fRuns).map tRun), .lit (.int .i64 (s.fLeftPos)), .lit (.int .i64 (s.fRightPos)), .lit (.int .i64 (s.fPhase)), .lit (.int .i64 (s.fWritten))] [(false, [.lit (.int .i64 (g))])] [.seq 72 (((SorterD.stepRead s g).fInput).map tRow), .lit (.int .i64 ((SorterD.stepRead s g).fPos)), .seq 72 (((SorterD.stepRead s g).fHeap).map tRow), .seq 72 (((SorterD.stepRead s g).fDeferred).map tRow), .seq 72 (((SorterD.stepRead s g).fOutput).map tRow), .seq 84 (((SorterD.stepRead s g).fRuns).map tRun), .lit (.int .i64 ((SorterD.stepRead s g).fLeftPos)), .lit (.int .i64 ((SorterD.stepRead s g).fRightPos)), .lit (.int .i64 ((SorterD.stepRead s g).fPhase)), .lit (.int .i64 ((SorterD.stepRead s g).fWritten))] false [(false, [.seq 72 (([]).map tRow)])] := by
 refine VH.enter Try.func120 rfl Try.ntmps120 (gle rfl) fun E c hE hpin => ?_
 have hsz := hW.size
 refine SV.seq' (SV.region ?_)
 refine sl 1 ms ?_
 refine SV.nil (SV.tn (SV.seq' ?_))
 refine SV.tell (fun (σ : VS) => (((((((((VS.nil.new (σ.tree 0)).new (σ.tree 1)).new (σ.tree 2)).new (σ.tree 3)).new (σ.tree 4)).box 27 [.hd 0, .sc (.int .i64 ((n : Int))), .hd 1, .hd 2, .hd 3, .hd 4, σ.bl 0 6, σ.bl 0 7, σ.bl 0 8, σ.bl 0 9]).put 0 (V.flat false [.bp 0 0])).put 1 (σ.tm 1)).put 4 (σ.tm 4))) ?h ?k
 case k =>
  intro hjn
  refine (fun pp le => SV.weaken (fun i => [0, 1, 2, 3, 4].getD i 0) pp le hjn) (pinsC hE rfl) (VS.le.mk' (le_put (le_put (le_put (le_box (le_new (le_new (le_new (le_new (le_new le_nil)))))) (V.le.keep (ag := false) (xs := [.bp 0 0]) (ys := [.bp 0 0]) rfl rfl ⟨⟨rfl, (gle rfl)⟩, trivial⟩)) (V.le.keep (ag := false) (xs := [.sc _]) (ys := [.sc _]) rfl rfl ⟨rfl, trivial⟩)) (V.le.keep (ag := false) (xs := [.sc _]) (ys := [.sc _]) rfl rfl ⟨rfl, trivial⟩)) ⟨⟨rfl, ⟨⟨rfl, (gle rfl), (gle rfl)⟩, (by first | rfl | (show Leaf.sc _ = Leaf.sc _; refine congrArg Leaf.sc ?_; first | rfl | go_num | ((exact congrArg _ hn); first | done | rfl | go_num | (simp; done) | (simp; omega)) | (simp [cntAll]; done)) | (simp [cntAll]; done) | (simp; omega)), ⟨rfl, (gle rfl), (gle rfl)⟩, ⟨rfl, (gle rfl), (gle rfl)⟩, ⟨rfl, (gle rfl), (gle rfl)⟩, ⟨rfl, (gle rfl), (gle rfl)⟩, rfl, rfl, rfl, rfl, trivial⟩⟩, trivial⟩ ⟨.inr ⟨_, _, rfl, rfl, (gle rfl)⟩, ⟨.inr ⟨_, _, rfl, rfl, (gle rfl)⟩, ⟨.inr ⟨_, _, rfl, rfl, (gle rfl)⟩, ⟨.inr ⟨_, _, rfl, rfl, (gle rfl)⟩, ⟨.inr ⟨_, _, rfl, rfl, (gle rfl)⟩, trivial⟩⟩⟩⟩⟩ (new_ob (new_ob (new_ob (new_ob (new_ob nil_ob))))) (fun i j hi hj e => inj_list (l := [0, 1, 2, 3, 4]) (by decide) i j hi hj e))
 case h =>
 refine SV.draw [.q 0, .q 1, .q 2, .q 3, .q 4, .q 5, .q 6, .q 7, .q 8, .q 9, .q 10, .q 11, .q 12, .m 13] [14] (by kernel_rfl) (by kernel_rfl) ?_
 refine dq rfl (mv (V.one (.bp 0 0))) ?_
 refine dq rfl (ok_nilcheckB rfl rfl) ?_
 refine dq rfl (fb fld_impl_Sorter_2) ?_
 refine dq rfl (lb 0 2 [.hd 1] agg_s_impl_Row sz_s_impl_Row (fun _ => rfl)) ?_
 refine dq rfl (mv (V.one (.bp 0 0))) ?_
 refine dq rfl (ok_nilcheckB rfl rfl) ?_
 refine dq rfl (fb fld_impl_Sorter_3) ?_
 refine dq rfl (lb 0 3 [.hd 2] agg_s_impl_Row sz_s_impl_Row (fun _ => rfl)) ?_
 refine dq rfl (mv (V.one (.bp 0 0))) ?_
 refine dq rfl (ok_nilcheckB rfl rfl) ?_
 refine dq rfl (fb fld_impl_Sorter_4) ?_
 refine dq rfl (lb 0 4 [.hd 3] agg_s_impl_Row sz_s_impl_Row (fun _ => rfl)) ?_
 refine dq rfl (ok_build (zs := [.nl _, .nl _, .nl _]) (ys := [.hd 1, .hd 2, .hd 3]) (qs := [(0, [.hd 1]), (1, [.hd 2]), (2, [.hd 3])]) (pl := fun i => ([(0, 1), (1, 1), (2, 1)] : List (Nat × Nat))[i]?) rfl zero_impl_selection ⟨rfl, ⟨3, by decide, sz_impl_Row⟩, rfl, ⟨3, by decide, sz_impl_Row⟩, rfl, ⟨3, by decide, sz_impl_Row⟩, trivial⟩ ⟨⟨rfl, false, rfl, (fun _ => rfl), rfl⟩, ⟨rfl, false, rfl, (fun _ => rfl), rfl⟩, ⟨rfl, false, rfl, (fun _ => rfl), rfl⟩, trivial⟩ bld_impl_selection rfl) ?_
 refine DW.m [] rfl (ok_alloc (kk := 1) (xs := [.nl _, .nl _, .nl _]) rfl rfl zero_impl_selection ⟨rfl, ⟨3, by decide, sz_impl_Row⟩, rfl, ⟨3, by decide, sz_impl_Row⟩, rfl, ⟨3, by decide, sz_impl_Row⟩, trivial⟩ rfl (gle rfl)) rfl (gle rfl) (gle rfl) (.inl rfl) (fun j hj => by cases hj) ?_
 refine DW.stores ?_
 refine SV.z rfl (st (ag := true) [.hd 1, .hd 2, .hd 3] [.hd 1, .hd 2, .hd 3] sz_impl_selection (fun h => by cases h)) rfl ?_
 refine SV.zend ?_
 refine SV.tn (SV.seq' ?_)
 refine SV.draw [.q 0, .q 1, .q 2, .q 3, .q 4, .q 5, .q 6, .q 7, .q 8, .q 9] [] (by kernel_rfl) (by kernel_rfl) ?_
 refine dq rfl (mv (V.one (.bp 0 0))) ?_
 refine dq rfl (ok_nilcheckB rfl rfl) ?_
 refine dq rfl (fb fld_impl_Sorter_0) ?_
 refine dq rfl (lb 0 0 [.hd 0] agg_s_impl_Row sz_s_impl_Row (fun _ => rfl)) ?_
 refine dq rfl (mv (V.one (.bp 0 0))) ?_
 refine dq rfl (ok_nilcheckB rfl rfl) ?_
 refine dq rfl (fb fld_impl_Sorter_1) ?_
 refine dq rfl (lb 0 1 [.sc _] agg_int sz_int (fun _ => rfl)) ?_
 refine dq rfl (ok_slice (l := n) (h := (s.fInput.map tRow).length) (lf := .hd 0) (yy := .nd 0 _ _ none) rfl rfl elt_impl_Row.und sz_impl_Row rfl rfl ⟨_, rfl⟩ rfl (by simp only [List.length_map]; omega) (Nat.le_refl _)) ?_
 refine dq rfl (mv (V.one (.nd 0 _ _ none))) ?_
 refine DW.stores ?_
 refine SV.zend ?_
 refine SV.tn (SV.seq' (SV.block (SV.seq' (SV.region ?_))))
 refine sl 2 (mv (V.one (.nd 0 _ _ none))) ?_
 refine sl 2 (ok_len (lf := .nd 0 _ _ none) rfl elt_impl_Row.und rfl rfl) ?_
 refine sl 2 (s2 (.tmp 47) (.const ((Value.int IntKind.i64 0)))) ?_
 refine sl 2 ms ?_
 refine SV.split (d := 49) rfl (fun hg0 => ?_) (fun hg0 => ?_)
 ·skip   -- g0.T
  have hnl : n < s.fInput.length := by simp at hg0; omega
  obtain ⟨r, hr⟩ : ∃ r, s.fInput[n]? = some r := ⟨_, List.getElem?_eq_getElem hnl⟩
  refine sy 2 (mv (V.one (.nd 0 _ _ none))) ?_
  refine sy 2 (ok_index (n := 3) (lf := .nd 0 _ _ none) rfl elt_impl_Row.und sz_impl_Row rfl rfl rfl ((by rw [List.take_length, List.getElem?_drop]; exact map_at hr))) ?_
  refine SV.opY (ok_load_el (p := .np 0 _ _) (ag := true) (m := 3) (ys := [.sc _, .sc _, .sc _]) rfl rfl rfl agg_impl_Row sz_impl_Row (fun h => by cases h) (gle rfl) rfl rfl (gle rfl)) rfl rfl rfl (gle rfl) rfl rfl ?_
  refine sy 2 ms ?_
  refine SV.opY (ok_callH (b := 1) (ys := [.hd 1, .hd 2, .hd 3]) (L0 := [.hd 5, .hd 6, .hd 7]) (L := [(false, [.sc _])]) rfl rfl ⟨_, _, Try.func92, rfl, by decide⟩ (vroom_i s.fHeap s.fDeferred s.fOutput r g hW.heap hW.late hh hd (hW.inp r (List.mem_of_getElem? hr))) rfl rfl ⟨rfl, rfl, rfl, trivial⟩ (by simp [two]) rfl ⟨⟨[.sc _, .sc _, .sc _], rfl, ⟨.inl ⟨_, rfl, rfl⟩, .inl ⟨_, rfl, rfl⟩, .inl ⟨_, rfl, rfl⟩, trivial⟩⟩, ⟨[.sc _], rfl, ⟨.inl ⟨_, rfl, rfl⟩, trivial⟩⟩, trivial⟩ rfl (gle rfl)) rfl rfl rfl (gle rfl) rfl rfl ?_
  refine sl 2 pt ?_
  refine sl 2 ms ?_
  refine SV.nil (SV.tn ?_)
  refine SV.cond rfl (fun hc0 => ?_) (fun hc0 => ?_)
  ·skip   -- c0.T
   have hfit : total s.fHeap + total s.fDeferred + r.cost ≤ g := by simpa using hc0
   have hst := SorterD.read_take hp hn hr hfit
   refine SV.seq' (SV.region ?_)
   refine sl 2 (mv (V.one (.nd 0 _ _ none))) ?_
   refine sl 2 (ok_index (n := 3) (lf := .nd 0 _ _ none) rfl elt_impl_Row.und sz_impl_Row rfl rfl rfl ((by rw [List.take_length, List.getElem?_drop]; exact map_at hr))) ?_
   refine so (ok_load_el (p := .np 0 _ _) (ag := true) (m := 3) (ys := [.sc _, .sc _, .sc _]) rfl rfl rfl agg_impl_Row sz_impl_Row (fun h => by cases h) (gle rfl) rfl rfl (gle rfl)) ?_
   refine so (ok_callH (b := 1) (ys := [.hd 5, .hd 6, .hd 7]) (L0 := [.hd 8, .hd 9, .hd 10]) (L := []) rfl rfl ⟨_, _, Try.func93, rfl, by decide⟩ (vread_i s.fHeap s.fDeferred s.fOutput r hh hd ho) rfl rfl ⟨rfl, rfl, rfl, trivial⟩ (by simp [two]) rfl ⟨⟨[.sc _, .sc _, .sc _], rfl, ⟨.inl ⟨_, rfl, rfl⟩, .inl ⟨_, rfl, rfl⟩, .inl ⟨_, rfl, rfl⟩, trivial⟩⟩, trivial⟩ rfl (gle rfl)) ?_
   refine SV.nil (SV.tn (SV.region ?_))
   refine sl 2 (mv (V.one (.bp 0 0))) ?_
   refine sl 2 (ok_nilcheckB rfl rfl) ?_
   refine sl 2 (fb fld_impl_Sorter_1) ?_
   refine sl 2 (lb 0 1 [.sc _] agg_int sz_int (fun _ => rfl)) ?_
   refine sl 2 (ok_s2 (v := .int .i64 ((n : Int) + 1)) (x := .tmp 63) (x' := .const ((Value.int IntKind.i64 1))) (VScal.one rfl) (VScal.one rfl) (fun ρ h1 h2 w => by go_simp; rw [IntWalk.i64_left, IntWalk.wrap64_in _ ⟨by omega, by omega⟩]) rfl) ?_
   refine sl 2 (ok_nilcheckB rfl rfl) ?_
   refine sl 2 (fb fld_impl_Sorter_1) ?_
   refine so (st (ag := false) [.sc _] [.hd 0, .sc _, .hd 1, .hd 2, .hd 3, .hd 4, .sc _, .sc _, .sc _, .sc _] sz_int (fun _ => rfl)) ?_
   refine SV.nil (SV.bn (SV.tn (SV.seq' (SV.region ?_))))
   refine sl 2 (mv (V.one (.bp 0 0))) ?_
   refine sl 2 (mv (V.one (.bp 0 0))) ?_
   refine sl 2 (mv (V.one (.bp 0 0))) ?_
   refine sl 2 (fb fld_impl_selection_0) ?_
   refine sl 2 (lb 1 0 [.hd 8] agg_s_impl_Row sz_s_impl_Row (fun _ => rfl)) ?_
   refine sl 2 (fb fld_impl_selection_1) ?_
   refine sl 2 (lb 1 1 [.hd 9] agg_s_impl_Row sz_s_impl_Row (fun _ => rfl)) ?_
   refine sl 2 (fb fld_impl_selection_2) ?_
   refine sl 2 (lb 1 2 [.hd 10] agg_s_impl_Row sz_s_impl_Row (fun _ => rfl)) ?_
   refine sl 2 (ok_nilcheckB rfl rfl) ?_
   refine sl 2 (fb fld_impl_Sorter_2) ?_
   refine so (st (ag := false) [.hd 8] [.hd 0, .sc _, .hd 8, .hd 2, .hd 3, .hd 4, .sc _, .sc _, .sc _, .sc _] sz_s_impl_Row (fun _ => rfl)) ?_
   refine sl 2 (ok_nilcheckB rfl rfl) ?_
   refine sl 2 (fb fld_impl_Sorter_3) ?_
   refine so (st (ag := false) [.hd 9] [.hd 0, .sc _, .hd 8, .hd 9, .hd 3, .hd 4, .sc _, .sc _, .sc _, .sc _] sz_s_impl_Row (fun _ => rfl)) ?_
   refine sl 2 (ok_nilcheckB rfl rfl) ?_
   refine sl 2 (fb fld_impl_Sorter_4) ?_
   refine so (st (ag := false) [.hd 10] [.hd 0, .sc _, .hd 8, .hd 9, .hd 10, .hd 4, .sc _, .sc _, .sc _, .sc _] sz_s_impl_Row (fun _ => rfl)) ?_
   refine SV.nil (SV.tn (SV.seq' (SV.region ?_)))
   refine sl 2 ms ?_
   refine SV.nil (SV.tn (SV.ret ?_))
   refine SV.nlsc (s := 4) (kk := 11) (n := 3) rfl rfl (by decide) sz_impl_Row (gle rfl) ?_
   apply SV.doneH (hpin := hpin) (hbx := rfl) (hf := Try.results120) (ht := rfl) (he := .inr rfl)
   case hr => exact (ResAll.cons (ResOk.tmp (ag := false) (xs := [.hd 11]) rfl) ResAll.nil')
   case h2 => simp [two, ansL]
   case hx => refine ⟨?_, ?_, ?_, ?_, ?_, ?_, ?_, ?_, ?_, ?_, trivial⟩ <;> first | rfl | (rw [hst]; first | done | rfl | ((refine lsq ?_; first | done | rfl | (simp [tRun]; done) | (simp [eH, eD]; done) | (simp [eO]; done) | (simp [tRow]; done))) | ((refine liq ?_; first | done | rfl | (rw [hn]; done) | (simp [hn]; done) | (simp; done))))
   refine ⟨rfl, ⟨?_, trivial⟩, trivial⟩ <;> rfl
  ·skip   -- c0.F
   have hfit : ¬ total s.fHeap + total s.fDeferred + r.cost ≤ g := by simpa using hc0
   have hflow := SorterD.read_full hp hn hr hfit
   refine SV.seq' (SV.region ?_)
   refine sl 2 (fb fld_impl_selection_0) ?_
   refine sl 2 (lb 1 0 [.hd 5] agg_s_impl_Row sz_s_impl_Row (fun _ => rfl)) ?_
   refine sl 2 (ok_len (lf := .hd 5) rfl elt_impl_Row.und rfl rfl) ?_
   refine sl 2 (s2 (.tmp 70) (.const ((Value.int IntKind.i64 0)))) ?_
   refine sl 2 ms ?_
   refine SV.split (d := 72) rfl (fun hg1 => ?_) (fun hg1 => ?_)
   ·skip   -- g1.T
    have h0 : s.fHeap.length = 0 := by first | (simpa using hg1) | (simp at hg1; omega) | (simp at hg1; rw [hg1]; rfl)
    refine sy 2 (fb fld_impl_selection_1) ?_
    refine sy 2 (lb 1 1 [.hd 6] agg_s_impl_Row sz_s_impl_Row (fun _ => rfl)) ?_
    refine sy 2 (ok_len (lf := .hd 6) rfl elt_impl_Row.und rfl rfl) ?_
    refine sy 2 (s2 (.tmp 75) (.const ((Value.int IntKind.i64 0)))) ?_
    refine sl 2 pt ?_
    refine sl 2 ms ?_
    refine SV.nil (SV.tn ?_)
    refine SV.cond rfl (fun hc1 => ?_) (fun hc1 => ?_)
    ·skip   -- c1.T
     have hdp : 0 < s.fDeferred.length := by rcases Nat.eq_zero_or_pos s.fDeferred.length with h | h; (exfalso; simp [h] at hc1); (exact h)
     have hst := hflow.trans (SorterD.flow_swap h0 (by omega))
     refine SV.drawX [1] (Pl.of [.q 0, .q 1, .q 2, .q 3, .q 4, .m 5, .m 6, .m 7, .q 8, .q 9]) [10] (by kernel_rfl) (by kernel_rfl) ?_
     refine DX.q rfl (mv (V.one (.bp 0 0))) rfl rfl (gle rfl) (fun _ _ _ _ h => h) ?_
     refine DX.q rfl (mv (V.one (.bp 0 0))) rfl rfl (gle rfl) (fun _ _ _ _ h => h) ?_
     refine DX.q rfl (ok_nilcheckB rfl rfl) rfl rfl (gle rfl) (fun _ _ _ _ h => h) ?_
     refine DX.q rfl (fb fld_impl_Sorter_5) rfl rfl (gle rfl) (fun _ _ _ _ h => h) ?_
     refine DX.lb (b := 0) (i' := 5) (ag := false) (m := 1) (ys := [.hd 4]) rfl rfl rfl rfl agg_s_impl_Run sz_s_impl_Run (fun _ => rfl) rfl rfl (gle rfl) (by decide) rfl rfl (gle rfl) (fun _ _ _ _ h => h) ?_
     refine DX.m (wl' := [1]) rfl (ok_callHB (b := 1) (ys := [.hd 5, .hd 6, .hd 7]) (L0 := [.hd 8, .hd 9, .hd 10]) (L := [(true, [.hd 11])]) rfl rfl ⟨_, _, Try.func94, rfl, by decide⟩ (vendrun_i s.fHeap s.fDeferred s.fOutput) rfl rfl ⟨rfl, rfl, rfl, trivial⟩ (by simp [two]) rfl trivial rfl (gle rfl)) rfl (by intro c _ h; simp at h ⊢; omega) (gle rfl) ?_
     refine DX.m (wl' := []) rfl (OpMk.b (ok_lit1 (kk := 12) elt_impl_Run (ag := true) (xs := [.hd 11]) rfl rfl rfl rfl (fun h => by cases h) (outs_c rfl outs_n) (by simp [two]) rfl (gle rfl))) rfl (fun c _ h => by cases h) (gle rfl) ?_
     refine DX.m (wl' := []) rfl (OpMk.b (ok_append (kk := 13) elt_impl_Run (ls := .hd 4) (lx := .hd 12) rfl rfl rfl rfl rfl rfl (by intro i h1 h2; first | (cases h1; done) | (cases h1; cases h2)) (by simp only [List.length_map, List.length_cons, List.length_nil]; omega) rfl (gle rfl))) rfl (fun c _ h => by cases h) (gle rfl) ?_
     refine DX.q rfl (ok_nilcheckB rfl rfl) rfl rfl (gle rfl) (fun _ _ _ _ h => h) ?_
     refine DX.q rfl (fb fld_impl_Sorter_5) rfl rfl (gle rfl) (fun _ _ _ _ h => h) ?_
     refine DX.stores ?_
     refine SV.z rfl (st (ag := false) [.hd 13] [.hd 0, .sc _, .hd 1, .hd 2, .hd 3, .hd 13, .sc _, .sc _, .sc _, .sc _] sz_s_impl_Run (fun _ => rfl)) rfl ?_
     refine SV.zend ?_
     refine SV.bn (SV.tn (SV.seq' (SV.region ?_)))
     refine sl 2 (mv (V.one (.bp 0 0))) ?_
     refine sl 2 (mv (V.one (.bp 0 0))) ?_
     refine sl 2 (mv (V.one (.bp 0 0))) ?_
     refine sl 2 (fb fld_impl_selection_0) ?_
     refine sl 2 (lb 1 0 [.hd 8] agg_s_impl_Row sz_s_impl_Row (fun _ => rfl)) ?_
     refine sl 2 (fb fld_impl_selection_1) ?_
     refine sl 2 (lb 1 1 [.hd 9] agg_s_impl_Row sz_s_impl_Row (fun _ => rfl)) ?_
     refine sl 2 (fb fld_impl_selection_2) ?_
     refine sl 2 (lb 1 2 [.hd 10] agg_s_impl_Row sz_s_impl_Row (fun _ => rfl)) ?_
     refine sl 2 (ok_nilcheckB rfl rfl) ?_
     refine sl 2 (fb fld_impl_Sorter_2) ?_
     refine so (st (ag := false) [.hd 8] [.hd 0, .sc _, .hd 8, .hd 2, .hd 3, .hd 13, .sc _, .sc _, .sc _, .sc _] sz_s_impl_Row (fun _ => rfl)) ?_
     refine sl 2 (ok_nilcheckB rfl rfl) ?_
     refine sl 2 (fb fld_impl_Sorter_3) ?_
     refine so (st (ag := false) [.hd 9] [.hd 0, .sc _, .hd 8, .hd 9, .hd 3, .hd 13, .sc _, .sc _, .sc _, .sc _] sz_s_impl_Row (fun _ => rfl)) ?_
     refine sl 2 (ok_nilcheckB rfl rfl) ?_
     refine sl 2 (fb fld_impl_Sorter_4) ?_
     refine so (st (ag := false) [.hd 10] [.hd 0, .sc _, .hd 8, .hd 9, .hd 10, .hd 13, .sc _, .sc _, .sc _, .sc _] sz_s_impl_Row (fun _ => rfl)) ?_
     refine SV.nil (SV.tn (SV.seq' (SV.region ?_)))
     refine sl 2 ms ?_
     refine SV.nil (SV.tn (SV.ret ?_))
     refine SV.nlsc (s := 4) (kk := 14) (n := 3) rfl rfl (by decide) sz_impl_Row (gle rfl) ?_
     apply SV.doneH (hpin := hpin) (hbx := rfl) (hf := Try.results120) (ht := rfl) (he := .inr rfl)
     case hr => exact (ResAll.cons (ResOk.tmp (ag := false) (xs := [.hd 14]) rfl) ResAll.nil')
     case h2 => simp [two, ansL]
     case hx => refine ⟨?_, ?_, ?_, ?_, ?_, ?_, ?_, ?_, ?_, ?_, trivial⟩ <;> first | rfl | (rw [hst]; first | done | rfl | ((refine lsq ?_; first | done | rfl | (simp [tRun]; done) | (simp [eH, eD]; done) | (simp [eO]; done) | (simp [tRow]; done))) | ((refine liq ?_; first | done | rfl | (rw [hn]; done) | (simp [hn]; done) | (simp; done))))
     refine ⟨rfl, ⟨?_, trivial⟩, trivial⟩ <;> rfl
    ·skip   -- c1.F
     have hd0 : s.fDeferred.length = 0 := by first | (simpa using hc1) | (simp at hc1; omega) | (simp at hc1; rw [hc1]; rfl)
     refine SV.seq' (SV.region ?_)
     refine sl 2 (fb fld_impl_selection_0) ?_
     refine sl 2 (lb 1 0 [.hd 5] agg_s_impl_Row sz_s_impl_Row (fun _ => rfl)) ?_
     refine sl 2 (ok_len (lf := .hd 5) rfl elt_impl_Row.und rfl rfl) ?_
     refine sl 2 (s2 (.tmp 91) (.const ((Value.int IntKind.i64 0)))) ?_
     refine sl 2 ms ?_
     refine SV.nil (SV.tn ?_)
     refine SV.cond rfl (fun hc2 => ?_) (fun hc2 => ?_)
     ·skip   -- c2.T
      (exfalso; first | (simp at hc2; done) | (simp at hc2; omega) | (simp [h0] at hc2; done) | (simp at hc2; rw [hc2] at hhp; simp at hhp; done))
     ·skip   -- c2.F
      refine SV.seq' (SV.seq' (SV.region ?_))
      refine sl 2 (fb fld_impl_selection_2) ?_
      refine sl 2 (lb 1 2 [.hd 7] agg_s_impl_Row sz_s_impl_Row (fun _ => rfl)) ?_
      refine sl 2 (ok_len (lf := .hd 7) rfl elt_impl_Row.und rfl rfl) ?_
      refine sl 2 (s2 (.tmp 31) (.const ((Value.int IntKind.i64 0)))) ?_
      refine SV.nil (SV.tn ?_)
      refine SV.cond rfl (fun hc3 => ?_) (fun hc3 => ?_)
      ·skip   -- c3.T
       have hop : 0 < s.fOutput.length := by rcases Nat.eq_zero_or_pos s.fOutput.length with h | h; (exfalso; simp [h] at hc3); (exact h)
       have hst := hflow.trans (SorterD.flow_fin h0 hd0 (if_neg (show ¬ s.fOutput.length = 0 by omega)))
       have eH := List.eq_nil_of_length_eq_zero h0
       have eD := List.eq_nil_of_length_eq_zero hd0
       refine SV.drawX [1] (Pl.of [.q 0, .q 1, .q 2, .q 3, .q 4, .m 5, .m 6, .m 7, .q 8, .q 9]) [10] (by kernel_rfl) (by kernel_rfl) ?_
       refine DX.q rfl (mv (V.one (.bp 0 0))) rfl rfl (gle rfl) (fun _ _ _ _ h => h) ?_
       refine DX.q rfl (mv (V.one (.bp 0 0))) rfl rfl (gle rfl) (fun _ _ _ _ h => h) ?_
       refine DX.q rfl (ok_nilcheckB rfl rfl) rfl rfl (gle rfl) (fun _ _ _ _ h => h) ?_
       refine DX.q rfl (fb fld_impl_Sorter_5) rfl rfl (gle rfl) (fun _ _ _ _ h => h) ?_
       refine DX.lb (b := 0) (i' := 5) (ag := false) (m := 1) (ys := [.hd 4]) rfl rfl rfl rfl agg_s_impl_Run sz_s_impl_Run (fun _ => rfl) rfl rfl (gle rfl) (by decide) rfl rfl (gle rfl) (fun _ _ _ _ h => h) ?_
       refine DX.m (wl' := [1]) rfl (ok_callHB (b := 1) (ys := [.hd 5, .hd 6, .hd 7]) (L0 := [.hd 8, .hd 9, .hd 10]) (L := [(true, [.hd 11])]) rfl rfl ⟨_, _, Try.func94, rfl, by decide⟩ (vendrun_i s.fHeap s.fDeferred s.fOutput) rfl rfl ⟨rfl, rfl, rfl, trivial⟩ (by simp [two]) rfl trivial rfl (gle rfl)) rfl (by intro c _ h; simp at h ⊢; omega) (gle rfl) ?_
       refine DX.m (wl' := []) rfl (OpMk.b (ok_lit1 (kk := 12) elt_impl_Run (ag := true) (xs := [.hd 11]) rfl rfl rfl rfl (fun h => by cases h) (outs_c rfl outs_n) (by simp [two]) rfl (gle rfl))) rfl (fun c _ h => by cases h) (gle rfl) ?_
       refine DX.m (wl' := []) rfl (OpMk.b (ok_append (kk := 13) elt_impl_Run (ls := .hd 4) (lx := .hd 12) rfl rfl rfl rfl rfl rfl (by intro i h1 h2; first | (cases h1; done) | (cases h1; cases h2)) (by simp only [List.length_map, List.length_cons, List.length_nil]; omega) rfl (gle rfl))) rfl (fun c _ h => by cases h) (gle rfl) ?_
       refine DX.q rfl (ok_nilcheckB rfl rfl) rfl rfl (gle rfl) (fun _ _ _ _ h => h) ?_
       refine DX.q rfl (fb fld_impl_Sorter_5) rfl rfl (gle rfl) (fun _ _ _ _ h => h) ?_
       refine DX.stores ?_
       refine SV.z rfl (st (ag := false) [.hd 13] [.hd 0, .sc _, .hd 1, .hd 2, .hd 3, .hd 13, .sc _, .sc _, .sc _, .sc _] sz_s_impl_Run (fun _ => rfl)) rfl ?_
       refine SV.zend ?_
       refine SV.tn (SV.region ?_)
       refine sl 2 (mv (V.one (.bp 0 0))) ?_
       refine so (ok_callPatch (b := 0) (ys := [.hd 0, .sc _, .hd 1, .hd 2, .hd 3, .hd 13, .sc _, .sc _, .sc _, .sc _]) (ys' := [.hd 0, .sc _, .hd 1, .hd 2, .hd 3, .hd 13, .sc _, .sc _, .sc _, .sc _]) rfl ⟨_, _, Try.func131, rfl, by decide⟩ rfl rfl (fun us hl hS => leave_patch (k := (List.map tRun s.fRuns ++ [tRun s.fOutput]).length) us hl fun u hu => hS 5 _ u _ _ rfl rfl hu) rfl (gle rfl)) ?_
       refine SV.nil (SV.bn (SV.tn (SV.seq' (SV.region ?_))))
       refine sl 2 (mv (V.one (.bp 0 0))) ?_
       refine sl 2 (mv (V.one (.bp 0 0))) ?_
       refine sl 2 (mv (V.one (.bp 0 0))) ?_
       refine sl 2 (fb fld_impl_selection_0) ?_
       refine sl 2 (lb 1 0 [.hd 8] agg_s_impl_Row sz_s_impl_Row (fun _ => rfl)) ?_
       refine sl 2 (fb fld_impl_selection_1) ?_
       refine sl 2 (lb 1 1 [.hd 9] agg_s_impl_Row sz_s_impl_Row (fun _ => rfl)) ?_
       refine sl 2 (fb fld_impl_selection_2) ?_
       refine sl 2 (lb 1 2 [.hd 10] agg_s_impl_Row sz_s_impl_Row (fun _ => rfl)) ?_
       refine sl 2 (ok_nilcheckB rfl rfl) ?_
       refine sl 2 (fb fld_impl_Sorter_2) ?_
       refine so (st (ag := false) [.hd 8] [.hd 0, .sc _, .hd 8, .hd 2, .hd 3, .hd 13, .sc _, .sc _, .sc _, .sc _] sz_s_impl_Row (fun _ => rfl)) ?_
       refine sl 2 (ok_nilcheckB rfl rfl) ?_
       refine sl 2 (fb fld_impl_Sorter_3) ?_
       refine so (st (ag := false) [.hd 9] [.hd 0, .sc _, .hd 8, .hd 9, .hd 3, .hd 13, .sc _, .sc _, .sc _, .sc _] sz_s_impl_Row (fun _ => rfl)) ?_
       refine sl 2 (ok_nilcheckB rfl rfl) ?_
       refine sl 2 (fb fld_impl_Sorter_4) ?_
       refine so (st (ag := false) [.hd 10] [.hd 0, .sc _, .hd 8, .hd 9, .hd 10, .hd 13, .sc _, .sc _, .sc _, .sc _] sz_s_impl_Row (fun _ => rfl)) ?_
       refine SV.nil (SV.tn (SV.seq' (SV.region ?_)))
       refine sl 2 ms ?_
       refine SV.nil (SV.tn (SV.ret ?_))
       refine SV.nlsc (s := 4) (kk := 14) (n := 3) rfl rfl (by decide) sz_impl_Row (gle rfl) ?_
       apply SV.doneH (hpin := hpin) (hbx := rfl) (hf := Try.results120) (ht := rfl) (he := .inr rfl)
       case hr => exact (ResAll.cons (ResOk.tmp (ag := false) (xs := [.hd 14]) rfl) ResAll.nil')
       case h2 => simp [two, ansL]
       case hx => refine ⟨?_, ?_, ?_, ?_, ?_, ?_, ?_, ?_, ?_, ?_, trivial⟩ <;> first | rfl | (rw [hst]; first | done | rfl | ((refine lsq ?_; first | done | rfl | (simp [tRun]; done) | (simp [eH, eD]; done) | (simp [eO]; done) | (simp [tRow]; done))) | ((refine liq ?_; first | done | rfl | (rw [hn]; done) | (simp [hn]; done) | (simp; done))))
       refine ⟨rfl, ⟨?_, trivial⟩, trivial⟩ <;> rfl
      ·skip   -- c3.F
       have hop : s.fOutput.length = 0 := by first | (simpa using hc3) | (simp at hc3; omega) | (simp at hc3; rw [hc3]; rfl)
       have hst := hflow.trans (SorterD.flow_fin h0 hd0 (if_pos hop))
       have eH := List.eq_nil_of_length_eq_zero h0
       have eD := List.eq_nil_of_length_eq_zero hd0
       have eO := List.eq_nil_of_length_eq_zero hop
       refine SV.skip (SV.tn (SV.region ?_))
       refine sl 2 (mv (V.one (.bp 0 0))) ?_
       refine so (ok_callPatch (b := 0) (ys := [.hd 0, .sc _, .hd 1, .hd 2, .hd 3, .hd 4, .sc _, .sc _, .sc _, .sc _]) (ys' := [.hd 0, .sc _, .hd 1, .hd 2, .hd 3, .hd 4, .sc _, .sc _, .sc _, .sc _]) rfl ⟨_, _, Try.func131, rfl, by decide⟩ rfl rfl (fun us hl hS => leave_patch (k := (List.map tRun s.fRuns).length) us hl fun u hu => hS 5 _ u _ _ rfl rfl hu) rfl (gle rfl)) ?_
       refine SV.nil (SV.bn (SV.tn (SV.seq' (SV.region ?_))))
       refine sl 2 (mv (V.one (.bp 0 0))) ?_
       refine sl 2 (mv (V.one (.bp 0 0))) ?_
       refine sl 2 (mv (V.one (.bp 0 0))) ?_
       refine sl 2 (fb fld_impl_selection_0) ?_
       refine sl 2 (lb 1 0 [.hd 5] agg_s_impl_Row sz_s_impl_Row (fun _ => rfl)) ?_
       refine sl 2 (fb fld_impl_selection_1) ?_
       refine sl 2 (lb 1 1 [.hd 6] agg_s_impl_Row sz_s_impl_Row (fun _ => rfl)) ?_
       refine sl 2 (fb fld_impl_selection_2) ?_
       refine sl 2 (lb 1 2 [.hd 7] agg_s_impl_Row sz_s_impl_Row (fun _ => rfl)) ?_
       refine sl 2 (ok_nilcheckB rfl rfl) ?_
       refine sl 2 (fb fld_impl_Sorter_2) ?_
       refine so (st (ag := false) [.hd 5] [.hd 0, .sc _, .hd 5, .hd 2, .hd 3, .hd 4, .sc _, .sc _, .sc _, .sc _] sz_s_impl_Row (fun _ => rfl)) ?_
       refine sl 2 (ok_nilcheckB rfl rfl) ?_
       refine sl 2 (fb fld_impl_Sorter_3) ?_
       refine so (st (ag := false) [.hd 6] [.hd 0, .sc _, .hd 5, .hd 6, .hd 3, .hd 4, .sc _, .sc _, .sc _, .sc _] sz_s_impl_Row (fun _ => rfl)) ?_
       refine sl 2 (ok_nilcheckB rfl rfl) ?_
       refine sl 2 (fb fld_impl_Sorter_4) ?_
       refine so (st (ag := false) [.hd 7] [.hd 0, .sc _, .hd 5, .hd 6, .hd 7, .hd 4, .sc _, .sc _, .sc _, .sc _] sz_s_impl_Row (fun _ => rfl)) ?_
       refine SV.nil (SV.tn (SV.seq' (SV.region ?_)))
       refine sl 2 ms ?_
       refine SV.nil (SV.tn (SV.ret ?_))
       refine SV.nlsc (s := 4) (kk := 8) (n := 3) rfl rfl (by decide) sz_impl_Row (gle rfl) ?_
       apply SV.doneH (hpin := hpin) (hbx := rfl) (hf := Try.results120) (ht := rfl) (he := .inr rfl)
       case hr => exact (ResAll.cons (ResOk.tmp (ag := false) (xs := [.hd 8]) rfl) ResAll.nil')
       case h2 => simp [two, ansL]
       case hx => refine ⟨?_, ?_, ?_, ?_, ?_, ?_, ?_, ?_, ?_, ?_, trivial⟩ <;> first | rfl | (rw [hst]; first | done | rfl | ((refine lsq ?_; first | done | rfl | (simp [tRun]; done) | (simp [eH, eD]; done) | (simp [eO]; done) | (simp [tRow]; done))) | ((refine liq ?_; first | done | rfl | (rw [hn]; done) | (simp [hn]; done) | (simp; done))))
       refine ⟨rfl, ⟨?_, trivial⟩, trivial⟩ <;> rfl
   ·skip   -- g1.F
    have hhp : 0 < s.fHeap.length := by rcases Nat.eq_zero_or_pos s.fHeap.length with h | h; (exfalso; simp [h] at hg1); (exact h)
    have hmk : Runs.minAt s.fHeap s.fHeap.length < s.fHeap.length := Runs.minAt_lt hhp
    obtain ⟨e, he⟩ : ∃ e, s.fHeap[Runs.minAt s.fHeap s.fHeap.length]? = some e := ⟨_, List.getElem?_eq_getElem hmk⟩
    have hki := idxMin_pos hhp
    have hst := hflow.trans (SorterD.flow_give he)
    refine sn ?_
    refine sn ?_
    refine sn ?_
    refine sn ?_
    refine sl 2 pf ?_
    refine sl 2 ms ?_
    refine SV.nil (SV.tn ?_)
    refine SV.cond rfl (fun hc4 => ?_) (fun hc4 => ?_)
    ·skip   -- c4.T
     cases hc4
    ·skip   -- c4.F
     refine SV.seq' (SV.region ?_)
     refine sl 2 (fb fld_impl_selection_0) ?_
     refine sl 2 (lb 1 0 [.hd 5] agg_s_impl_Row sz_s_impl_Row (fun _ => rfl)) ?_
     refine sl 2 (ok_len (lf := .hd 5) rfl elt_impl_Row.und rfl rfl) ?_
     refine sl 2 (s2 (.tmp 91) (.const ((Value.int IntKind.i64 0)))) ?_
     refine sl 2 ms ?_
     refine SV.nil (SV.tn ?_)
     refine SV.cond rfl (fun hc5 => ?_) (fun hc5 => ?_)
     ·skip   -- c5.T
      refine SV.drawX [1] (Pl.of [.q 0, .q 1, .q 2, .q 3, .m 4, .m 5, .q 6, .q 7, .q 8]) [9] (by kernel_rfl) (by kernel_rfl) ?_
      refine DX.q rfl (mv (V.one (.bp 0 0))) rfl rfl (gle rfl) (fun _ _ _ _ h => h) ?_
      refine DX.q rfl (ok_nilcheckB rfl rfl) rfl rfl (gle rfl) (fun _ _ _ _ h => h) ?_
      refine DX.q rfl (fb fld_impl_Sorter_9) rfl rfl (gle rfl) (fun _ _ _ _ h => h) ?_
      refine DX.lb (b := 0) (i' := 9) (ag := false) (m := 1) (ys := [.sc _]) rfl rfl rfl rfl agg_int sz_int (fun _ => rfl) rfl rfl (gle rfl) (by decide) rfl rfl (gle rfl) (fun _ _ _ _ h => h) ?_
      refine DX.m (wl' := [1]) rfl (ok_callHB (b := 1) (ys := [.hd 5, .hd 6, .hd 7]) (L0 := [.hd 8, .hd 9, .hd 10]) (L := [(true, [.sc _, .sc _, .sc _])]) rfl rfl ⟨_, _, Try.func95, rfl, by decide⟩ (vwrite_i s.fHeap s.fDeferred s.fOutput (Runs.minAt s.fHeap s.fHeap.length) e hki he hh ho) rfl rfl ⟨rfl, rfl, rfl, trivial⟩ (by simp [two]) rfl trivial rfl (gle rfl)) rfl (by intro c _ h; simp at h ⊢; omega) (gle rfl) ?_
      refine DX.m (wl' := []) rfl (OpMk.b (cl [(false, [.sc _])] rfl Try.func112 (vcost_i e (hW.heap e (List.mem_of_getElem? he))) ⟨⟨[.sc _, .sc _, .sc _], rfl, ⟨rfl, rfl, rfl, trivial⟩⟩, trivial⟩)) rfl (fun c _ h => by cases h) (gle rfl) ?_
      refine DX.q rfl (ok_s2 (v := .int .i64 (wrap64 (s.fWritten + e.cost))) (x := .tmp 96) (x' := .tmp 98) (VScal.one rfl) (VScal.one rfl) (fun ρ h1 h2 w => by go_simp; rw [IntWalk.i64_left]) rfl) rfl rfl (gle rfl) (fun _ _ _ _ h => h) ?_
      refine DX.q rfl (ok_nilcheckB rfl rfl) rfl rfl (gle rfl) (fun _ _ _ _ h => h) ?_
      refine DX.q rfl (fb fld_impl_Sorter_9) rfl rfl (gle rfl) (fun _ _ _ _ h => h) ?_
      refine DX.stores ?_
      refine SV.z rfl (st (ag := false) [.sc _] [.hd 0, .sc _, .hd 1, .hd 2, .hd 3, .hd 4, .sc _, .sc _, .sc _, .sc _] sz_int (fun _ => rfl)) rfl ?_
      refine SV.zend ?_
      refine SV.bn (SV.tn (SV.seq' (SV.region ?_)))
      refine sl 2 (mv (V.one (.bp 0 0))) ?_
      refine sl 2 (mv (V.one (.bp 0 0))) ?_
      refine sl 2 (mv (V.one (.bp 0 0))) ?_
      refine sl 2 (fb fld_impl_selection_0) ?_
      refine sl 2 (lb 1 0 [.hd 8] agg_s_impl_Row sz_s_impl_Row (fun _ => rfl)) ?_
      refine sl 2 (fb fld_impl_selection_1) ?_
      refine sl 2 (lb 1 1 [.hd 9] agg_s_impl_Row sz_s_impl_Row (fun _ => rfl)) ?_
      refine sl 2 (fb fld_impl_selection_2) ?_
      refine sl 2 (lb 1 2 [.hd 10] agg_s_impl_Row sz_s_impl_Row (fun _ => rfl)) ?_
      refine sl 2 (ok_nilcheckB rfl rfl) ?_
      refine sl 2 (fb fld_impl_Sorter_2) ?_
      refine so (st (ag := false) [.hd 8] [.hd 0, .sc _, .hd 8, .hd 2, .hd 3, .hd 4, .sc _, .sc _, .sc _, .sc _] sz_s_impl_Row (fun _ => rfl)) ?_
      refine sl 2 (ok_nilcheckB rfl rfl) ?_
      refine sl 2 (fb fld_impl_Sorter_3) ?_
      refine so (st (ag := false) [.hd 9] [.hd 0, .sc _, .hd 8, .hd 9, .hd 3, .hd 4, .sc _, .sc _, .sc _, .sc _] sz_s_impl_Row (fun _ => rfl)) ?_
      refine sl 2 (ok_nilcheckB rfl rfl) ?_
      refine sl 2 (fb fld_impl_Sorter_4) ?_
      refine so (st (ag := false) [.hd 10] [.hd 0, .sc _, .hd 8, .hd 9, .hd 10, .hd 4, .sc _, .sc _, .sc _, .sc _] sz_s_impl_Row (fun _ => rfl)) ?_
      refine SV.nil (SV.tn (SV.seq' (SV.region ?_)))
      refine sl 2 ms ?_
      refine SV.nil (SV.tn (SV.ret ?_))
      refine SV.nlsc (s := 4) (kk := 11) (n := 3) rfl rfl (by decide) sz_impl_Row (gle rfl) ?_
      apply SV.doneH (hpin := hpin) (hbx := rfl) (hf := Try.results120) (ht := rfl) (he := .inr rfl)
      case hr => exact (ResAll.cons (ResOk.tmp (ag := false) (xs := [.hd 11]) rfl) ResAll.nil')
      case h2 => simp [two, ansL]
      case hx => refine ⟨?_, ?_, ?_, ?_, ?_, ?_, ?_, ?_, ?_, ?_, trivial⟩ <;> first | rfl | (rw [hst]; first | done | rfl | ((refine lsq ?_; first | done | rfl | (simp [tRun]; done) | (simp [eH, eD]; done) | (simp [eO]; done) | (simp [tRow]; done))) | ((refine liq ?_; first | done | rfl | (rw [hn]; done) | (simp [hn]; done) | (simp; done))))
      refine ⟨rfl, ⟨?_, trivial⟩, trivial⟩ <;> rfl
     ·skip   -- c5.F
      (exfalso; first | (simp at hc5; done) | (simp at hc5; omega) | (simp [h0] at hc5; done) | (simp at hc5; rw [hc5] at hhp; simp at hhp; done))
 ·skip   -- g0.F
  have hnl : s.fInput.length ≤ n := by simp at hg0; omega
  have hflow := SorterD.read_none (g := g) hn hnl
  refine sn ?_
  refine sn ?_
  refine sn ?_
  refine sn ?_
  refine sn ?_
  refine sl 2 pf ?_
  refine sl 2 ms ?_
  refine SV.nil (SV.tn ?_)
  refine SV.cond rfl (fun hc6 => ?_) (fun hc6 => ?_)
  ·skip   -- c6.T
   cases hc6
  ·skip   -- c6.F
   refine SV.seq' (SV.region ?_)
   refine sl 2 (fb fld_impl_selection_0) ?_
   refine sl 2 (lb 1 0 [.hd 1] agg_s_impl_Row sz_s_impl_Row (fun _ => rfl)) ?_
   refine sl 2 (ok_len (lf := .hd 1) rfl elt_impl_Row.und rfl rfl) ?_
   refine sl 2 (s2 (.tmp 70) (.const ((Value.int IntKind.i64 0)))) ?_
   refine sl 2 ms ?_
   refine SV.split (d := 72) rfl (fun hg2 => ?_) (fun hg2 => ?_)
   ·skip   -- g2.T
    have h0 : s.fHeap.length = 0 := by first | (simpa using hg2) | (simp at hg2; omega) | (simp at hg2; rw [hg2]; rfl)
    refine sy 2 (fb fld_impl_selection_1) ?_
    refine sy 2 (lb 1 1 [.hd 2] agg_s_impl_Row sz_s_impl_Row (fun _ => rfl)) ?_
    refine sy 2 (ok_len (lf := .hd 2) rfl elt_impl_Row.und rfl rfl) ?_
    refine sy 2 (s2 (.tmp 75) (.const ((Value.int IntKind.i64 0)))) ?_
    refine sl 2 pt ?_
    refine sl 2 ms ?_
    refine SV.nil (SV.tn ?_)
    refine SV.cond rfl (fun hc7 => ?_) (fun hc7 => ?_)
    ·skip   -- c7.T
     have hdp : 0 < s.fDeferred.length := by rcases Nat.eq_zero_or_pos s.fDeferred.length with h | h; (exfalso; simp [h] at hc7); (exact h)
     have hst := hflow.trans (SorterD.flow_swap h0 (by omega))
     refine SV.drawX [1] (Pl.of [.q 0, .q 1, .q 2, .q 3, .q 4, .m 5, .m 6, .m 7, .q 8, .q 9]) [10] (by kernel_rfl) (by kernel_rfl) ?_
     refine DX.q rfl (mv (V.one (.bp 0 0))) rfl rfl (gle rfl) (fun _ _ _ _ h => h) ?_
     refine DX.q rfl (mv (V.one (.bp 0 0))) rfl rfl (gle rfl) (fun _ _ _ _ h => h) ?_
     refine DX.q rfl (ok_nilcheckB rfl rfl) rfl rfl (gle rfl) (fun _ _ _ _ h => h) ?_
     refine DX.q rfl (fb fld_impl_Sorter_5) rfl rfl (gle rfl) (fun _ _ _ _ h => h) ?_
     refine DX.lb (b := 0) (i' := 5) (ag := false) (m := 1) (ys := [.hd 4]) rfl rfl rfl rfl agg_s_impl_Run sz_s_impl_Run (fun _ => rfl) rfl rfl (gle rfl) (by decide) rfl rfl (gle rfl) (fun _ _ _ _ h => h) ?_
     refine DX.m (wl' := [1]) rfl (ok_callHB (b := 1) (ys := [.hd 1, .hd 2, .hd 3]) (L0 := [.hd 5, .hd 6, .hd 7]) (L := [(true, [.hd 8])]) rfl rfl ⟨_, _, Try.func94, rfl, by decide⟩ (vendrun_i s.fHeap s.fDeferred s.fOutput) rfl rfl ⟨rfl, rfl, rfl, trivial⟩ (by simp [two]) rfl trivial rfl (gle rfl)) rfl (by intro c _ h; simp at h ⊢; omega) (gle rfl) ?_
     refine DX.m (wl' := []) rfl (OpMk.b (ok_lit1 (kk := 9) elt_impl_Run (ag := true) (xs := [.hd 8]) rfl rfl rfl rfl (fun h => by cases h) (outs_c rfl outs_n) (by simp [two]) rfl (gle rfl))) rfl (fun c _ h => by cases h) (gle rfl) ?_
     refine DX.m (wl' := []) rfl (OpMk.b (ok_append (kk := 10) elt_impl_Run (ls := .hd 4) (lx := .hd 9) rfl rfl rfl rfl rfl rfl (by intro i h1 h2; first | (cases h1; done) | (cases h1; cases h2)) (by simp only [List.length_map, List.length_cons, List.length_nil]; omega) rfl (gle rfl))) rfl (fun c _ h => by cases h) (gle rfl) ?_
     refine DX.q rfl (ok_nilcheckB rfl rfl) rfl rfl (gle rfl) (fun _ _ _ _ h => h) ?_
     refine DX.q rfl (fb fld_impl_Sorter_5) rfl rfl (gle rfl) (fun _ _ _ _ h => h) ?_
     refine DX.stores ?_
     refine SV.z rfl (st (ag := false) [.hd 10] [.hd 0, .sc _, .hd 1, .hd 2, .hd 3, .hd 10, .sc _, .sc _, .sc _, .sc _] sz_s_impl_Run (fun _ => rfl)) rfl ?_
     refine SV.zend ?_
     refine SV.bn (SV.tn (SV.seq' (SV.region ?_)))
     refine sl 2 (mv (V.one (.bp 0 0))) ?_
     refine sl 2 (mv (V.one (.bp 0 0))) ?_
     refine sl 2 (mv (V.one (.bp 0 0))) ?_
     refine sl 2 (fb fld_impl_selection_0) ?_
     refine sl 2 (lb 1 0 [.hd 5] agg_s_impl_Row sz_s_impl_Row (fun _ => rfl)) ?_
     refine sl 2 (fb fld_impl_selection_1) ?_
     refine sl 2 (lb 1 1 [.hd 6] agg_s_impl_Row sz_s_impl_Row (fun _ => rfl)) ?_
     refine sl 2 (fb fld_impl_selection_2) ?_
     refine sl 2 (lb 1 2 [.hd 7] agg_s_impl_Row sz_s_impl_Row (fun _ => rfl)) ?_
     refine sl 2 (ok_nilcheckB rfl rfl) ?_
     refine sl 2 (fb fld_impl_Sorter_2) ?_
     refine so (st (ag := false) [.hd 5] [.hd 0, .sc _, .hd 5, .hd 2, .hd 3, .hd 10, .sc _, .sc _, .sc _, .sc _] sz_s_impl_Row (fun _ => rfl)) ?_
     refine sl 2 (ok_nilcheckB rfl rfl) ?_
     refine sl 2 (fb fld_impl_Sorter_3) ?_
     refine so (st (ag := false) [.hd 6] [.hd 0, .sc _, .hd 5, .hd 6, .hd 3, .hd 10, .sc _, .sc _, .sc _, .sc _] sz_s_impl_Row (fun _ => rfl)) ?_
     refine sl 2 (ok_nilcheckB rfl rfl) ?_
     refine sl 2 (fb fld_impl_Sorter_4) ?_
     refine so (st (ag := false) [.hd 7] [.hd 0, .sc _, .hd 5, .hd 6, .hd 7, .hd 10, .sc _, .sc _, .sc _, .sc _] sz_s_impl_Row (fun _ => rfl)) ?_
     refine SV.nil (SV.tn (SV.seq' (SV.region ?_)))
     refine sl 2 ms ?_
     refine SV.nil (SV.tn (SV.ret ?_))
     refine SV.nlsc (s := 4) (kk := 11) (n := 3) rfl rfl (by decide) sz_impl_Row (gle rfl) ?_
     apply SV.doneH (hpin := hpin) (hbx := rfl) (hf := Try.results120) (ht := rfl) (he := .inr rfl)
     case hr => exact (ResAll.cons (ResOk.tmp (ag := false) (xs := [.hd 11]) rfl) ResAll.nil')
     case h2 => simp [two, ansL]
     case hx => refine ⟨?_, ?_, ?_, ?_, ?_, ?_, ?_, ?_, ?_, ?_, trivial⟩ <;> first | rfl | (rw [hst]; first | done | rfl | ((refine lsq ?_; first | done | rfl | (simp [tRun]; done) | (simp [eH, eD]; done) | (simp [eO]; done) | (simp [tRow]; done))) | ((refine liq ?_; first | done | rfl | (rw [hn]; done) | (simp [hn]; done) | (simp; done))))
     refine ⟨rfl, ⟨?_, trivial⟩, trivial⟩ <;> rfl
    ·skip   -- c7.F
     have hd0 : s.fDeferred.length = 0 := by first | (simpa using hc7) | (simp at hc7; omega) | (simp at hc7; rw [hc7]; rfl)
     refine SV.seq' (SV.region ?_)
     refine sl 2 (fb fld_impl_selection_0) ?_
     refine sl 2 (lb 1 0 [.hd 1] agg_s_impl_Row sz_s_impl_Row (fun _ => rfl)) ?_
     refine sl 2 (ok_len (lf := .hd 1) rfl elt_impl_Row.und rfl rfl) ?_
     refine sl 2 (s2 (.tmp 91) (.const ((Value.int IntKind.i64 0)))) ?_
     refine sl 2 ms ?_
     refine SV.nil (SV.tn ?_)
     refine SV.cond rfl (fun hc8 => ?_) (fun hc8 => ?_)
     ·skip   -- c8.T
      (exfalso; first | (simp at hc8; done) | (simp at hc8; omega) | (simp [h0] at hc8; done) | (simp at hc8; rw [hc8] at hhp; simp at hhp; done))
     ·skip   -- c8.F
      refine SV.seq' (SV.seq' (SV.region ?_))
      refine sl 2 (fb fld_impl_selection_2) ?_
      refine sl 2 (lb 1 2 [.hd 3] agg_s_impl_Row sz_s_impl_Row (fun _ => rfl)) ?_
      refine sl 2 (ok_len (lf := .hd 3) rfl elt_impl_Row.und rfl rfl) ?_
      refine sl 2 (s2 (.tmp 31) (.const ((Value.int IntKind.i64 0)))) ?_
      refine SV.nil (SV.tn ?_)
      refine SV.cond rfl (fun hc9 => ?_) (fun hc9 => ?_)
      ·skip   -- c9.T
       have hop : 0 < s.fOutput.length := by rcases Nat.eq_zero_or_pos s.fOutput.length with h | h; (exfalso; simp [h] at hc9); (exact h)
       have hst := hflow.trans (SorterD.flow_fin h0 hd0 (if_neg (show ¬ s.fOutput.length = 0 by omega)))
       have eH := List.eq_nil_of_length_eq_zero h0
       have eD := List.eq_nil_of_length_eq_zero hd0
       refine SV.drawX [1] (Pl.of [.q 0, .q 1, .q 2, .q 3, .q 4, .m 5, .m 6, .m 7, .q 8, .q 9]) [10] (by kernel_rfl) (by kernel_rfl) ?_
       refine DX.q rfl (mv (V.one (.bp 0 0))) rfl rfl (gle rfl) (fun _ _ _ _ h => h) ?_
       refine DX.q rfl (mv (V.one (.bp 0 0))) rfl rfl (gle rfl) (fun _ _ _ _ h => h) ?_
       refine DX.q rfl (ok_nilcheckB rfl rfl) rfl rfl (gle rfl) (fun _ _ _ _ h => h) ?_
       refine DX.q rfl (fb fld_impl_Sorter_5) rfl rfl (gle rfl) (fun _ _ _ _ h => h) ?_
       refine DX.lb (b := 0) (i' := 5) (ag := false) (m := 1) (ys := [.hd 4]) rfl rfl rfl rfl agg_s_impl_Run sz_s_impl_Run (fun _ => rfl) rfl rfl (gle rfl) (by decide) rfl rfl (gle rfl) (fun _ _ _ _ h => h) ?_
       refine DX.m (wl' := [1]) rfl (ok_callHB (b := 1) (ys := [.hd 1, .hd 2, .hd 3]) (L0 := [.hd 5, .hd 6, .hd 7]) (L := [(true, [.hd 8])]) rfl rfl ⟨_, _, Try.func94, rfl, by decide⟩ (vendrun_i s.fHeap s.fDeferred s.fOutput) rfl rfl ⟨rfl, rfl, rfl, trivial⟩ (by simp [two]) rfl trivial rfl (gle rfl)) rfl (by intro c _ h; simp at h ⊢; omega) (gle rfl) ?_
       refine DX.m (wl' := []) rfl (OpMk.b (ok_lit1 (kk := 9) elt_impl_Run (ag := true) (xs := [.hd 8]) rfl rfl rfl rfl (fun h => by cases h) (outs_c rfl outs_n) (by simp [two]) rfl (gle rfl))) rfl (fun c _ h => by cases h) (gle rfl) ?_
       refine DX.m (wl' := []) rfl (OpMk.b (ok_append (kk := 10) elt_impl_Run (ls := .hd 4) (lx := .hd 9) rfl rfl rfl rfl rfl rfl (by intro i h1 h2; first | (cases h1; done) | (cases h1; cases h2)) (by simp only [List.length_map, List.length_cons, List.length_nil]; omega) rfl (gle rfl))) rfl (fun c _ h => by cases h) (gle rfl) ?_
       refine DX.q rfl (ok_nilcheckB rfl rfl) rfl rfl (gle rfl) (fun _ _ _ _ h => h) ?_
       refine DX.q rfl (fb fld_impl_Sorter_5) rfl rfl (gle rfl) (fun _ _ _ _ h => h) ?_
       refine DX.stores ?_
       refine SV.z rfl (st (ag := false) [.hd 10] [.hd 0, .sc _, .hd 1, .hd 2, .hd 3, .hd 10, .sc _, .sc _, .sc _, .sc _] sz_s_impl_Run (fun _ => rfl)) rfl ?_
       refine SV.zend ?_
       refine SV.tn (SV.region ?_)
       refine sl 2 (mv (V.one (.bp 0 0))) ?_
       refine so (ok_callPatch (b := 0) (ys := [.hd 0, .sc _, .hd 1, .hd 2, .hd 3, .hd 10, .sc _, .sc _, .sc _, .sc _]) (ys' := [.hd 0, .sc _, .hd 1, .hd 2, .hd 3, .hd 10, .sc _, .sc _, .sc _, .sc _]) rfl ⟨_, _, Try.func131, rfl, by decide⟩ rfl rfl (fun us hl hS => leave_patch (k := (List.map tRun s.fRuns ++ [tRun s.fOutput]).length) us hl fun u hu => hS 5 _ u _ _ rfl rfl hu) rfl (gle rfl)) ?_
       refine SV.nil (SV.bn (SV.tn (SV.seq' (SV.region ?_))))
       refine sl 2 (mv (V.one (.bp 0 0))) ?_
       refine sl 2 (mv (V.one (.bp 0 0))) ?_
       refine sl 2 (mv (V.one (.bp 0 0))) ?_
       refine sl 2 (fb fld_impl_selection_0) ?_
       refine sl 2 (lb 1 0 [.hd 5] agg_s_impl_Row sz_s_impl_Row (fun _ => rfl)) ?_
       refine sl 2 (fb fld_impl_selection_1) ?_
       refine sl 2 (lb 1 1 [.hd 6] agg_s_impl_Row sz_s_impl_Row (fun _ => rfl)) ?_
       refine sl 2 (fb fld_impl_selection_2) ?_
       refine sl 2 (lb 1 2 [.hd 7] agg_s_impl_Row sz_s_impl_Row (fun _ => rfl)) ?_
       refine sl 2 (ok_nilcheckB rfl rfl) ?_
       refine sl 2 (fb fld_impl_Sorter_2) ?_
       refine so (st (ag := false) [.hd 5] [.hd 0, .sc _, .hd 5, .hd 2, .hd 3, .hd 10, .sc _, .sc _, .sc _, .sc _] sz_s_impl_Row (fun _ => rfl)) ?_
       refine sl 2 (ok_nilcheckB rfl rfl) ?_
       refine sl 2 (fb fld_impl_Sorter_3) ?_
       refine so (st (ag := false) [.hd 6] [.hd 0, .sc _, .hd 5, .hd 6, .hd 3, .hd 10, .sc _, .sc _, .sc _, .sc _] sz_s_impl_Row (fun _ => rfl)) ?_
       refine sl 2 (ok_nilcheckB rfl rfl) ?_
       refine sl 2 (fb fld_impl_Sorter_4) ?_
       refine so (st (ag := false) [.hd 7] [.hd 0, .sc _, .hd 5, .hd 6, .hd 7, .hd 10, .sc _, .sc _, .sc _, .sc _] sz_s_impl_Row (fun _ => rfl)) ?_
       refine SV.nil (SV.tn (SV.seq' (SV.region ?_)))
       refine sl 2 ms ?_
       refine SV.nil (SV.tn (SV.ret ?_))
       refine SV.nlsc (s := 4) (kk := 11) (n := 3) rfl rfl (by decide) sz_impl_Row (gle rfl) ?_
       apply SV.doneH (hpin := hpin) (hbx := rfl) (hf := Try.results120) (ht := rfl) (he := .inr rfl)
       case hr => exact (ResAll.cons (ResOk.tmp (ag := false) (xs := [.hd 11]) rfl) ResAll.nil')
       case h2 => simp [two, ansL]
       case hx => refine ⟨?_, ?_, ?_, ?_, ?_, ?_, ?_, ?_, ?_, ?_, trivial⟩ <;> first | rfl | (rw [hst]; first | done | rfl | ((refine lsq ?_; first | done | rfl | (simp [tRun]; done) | (simp [eH, eD]; done) | (simp [eO]; done) | (simp [tRow]; done))) | ((refine liq ?_; first | done | rfl | (rw [hn]; done) | (simp [hn]; done) | (simp; done))))
       refine ⟨rfl, ⟨?_, trivial⟩, trivial⟩ <;> rfl
      ·skip   -- c9.F
       have hop : s.fOutput.length = 0 := by first | (simpa using hc9) | (simp at hc9; omega) | (simp at hc9; rw [hc9]; rfl)
       have hst := hflow.trans (SorterD.flow_fin h0 hd0 (if_pos hop))
       have eH := List.eq_nil_of_length_eq_zero h0
       have eD := List.eq_nil_of_length_eq_zero hd0
       have eO := List.eq_nil_of_length_eq_zero hop
       refine SV.skip (SV.tn (SV.region ?_))
       refine sl 2 (mv (V.one (.bp 0 0))) ?_
       refine so (ok_callPatch (b := 0) (ys := [.hd 0, .sc _, .hd 1, .hd 2, .hd 3, .hd 4, .sc _, .sc _, .sc _, .sc _]) (ys' := [.hd 0, .sc _, .hd 1, .hd 2, .hd 3, .hd 4, .sc _, .sc _, .sc _, .sc _]) rfl ⟨_, _, Try.func131, rfl, by decide⟩ rfl rfl (fun us hl hS => leave_patch (k := (List.map tRun s.fRuns).length) us hl fun u hu => hS 5 _ u _ _ rfl rfl hu) rfl (gle rfl)) ?_
       refine SV.nil (SV.bn (SV.tn (SV.seq' (SV.region ?_))))
       refine sl 2 (mv (V.one (.bp 0 0))) ?_
       refine sl 2 (mv (V.one (.bp 0 0))) ?_
       refine sl 2 (mv (V.one (.bp 0 0))) ?_
       refine sl 2 (fb fld_impl_selection_0) ?_
       refine sl 2 (lb 1 0 [.hd 1] agg_s_impl_Row sz_s_impl_Row (fun _ => rfl)) ?_
       refine sl 2 (fb fld_impl_selection_1) ?_
       refine sl 2 (lb 1 1 [.hd 2] agg_s_impl_Row sz_s_impl_Row (fun _ => rfl)) ?_
       refine sl 2 (fb fld_impl_selection_2) ?_
       refine sl 2 (lb 1 2 [.hd 3] agg_s_impl_Row sz_s_impl_Row (fun _ => rfl)) ?_
       refine sl 2 (ok_nilcheckB rfl rfl) ?_
       refine sl 2 (fb fld_impl_Sorter_2) ?_
       refine so (st (ag := false) [.hd 1] [.hd 0, .sc _, .hd 1, .hd 2, .hd 3, .hd 4, .sc _, .sc _, .sc _, .sc _] sz_s_impl_Row (fun _ => rfl)) ?_
       refine sl 2 (ok_nilcheckB rfl rfl) ?_
       refine sl 2 (fb fld_impl_Sorter_3) ?_
       refine so (st (ag := false) [.hd 2] [.hd 0, .sc _, .hd 1, .hd 2, .hd 3, .hd 4, .sc _, .sc _, .sc _, .sc _] sz_s_impl_Row (fun _ => rfl)) ?_
       refine sl 2 (ok_nilcheckB rfl rfl) ?_
       refine sl 2 (fb fld_impl_Sorter_4) ?_
       refine so (st (ag := false) [.hd 3] [.hd 0, .sc _, .hd 1, .hd 2, .hd 3, .hd 4, .sc _, .sc _, .sc _, .sc _] sz_s_impl_Row (fun _ => rfl)) ?_
       refine SV.nil (SV.tn (SV.seq' (SV.region ?_)))
       refine sl 2 ms ?_
       refine SV.nil (SV.tn (SV.ret ?_))
       refine SV.nlsc (s := 4) (kk := 5) (n := 3) rfl rfl (by decide) sz_impl_Row (gle rfl) ?_
       apply SV.doneH (hpin := hpin) (hbx := rfl) (hf := Try.results120) (ht := rfl) (he := .inr rfl)
       case hr => exact (ResAll.cons (ResOk.tmp (ag := false) (xs := [.hd 5]) rfl) ResAll.nil')
       case h2 => simp [two, ansL]
       case hx => refine ⟨?_, ?_, ?_, ?_, ?_, ?_, ?_, ?_, ?_, ?_, trivial⟩ <;> first | rfl | (rw [hst]; first | done | rfl | ((refine lsq ?_; first | done | rfl | (simp [tRun]; done) | (simp [eH, eD]; done) | (simp [eO]; done) | (simp [tRow]; done))) | ((refine liq ?_; first | done | rfl | (rw [hn]; done) | (simp [hn]; done) | (simp; done))))
       refine ⟨rfl, ⟨?_, trivial⟩, trivial⟩ <;> rfl
   ·skip   -- g2.F
    have hhp : 0 < s.fHeap.length := by rcases Nat.eq_zero_or_pos s.fHeap.length with h | h; (exfalso; simp [h] at hg2); (exact h)
    have hmk : Runs.minAt s.fHeap s.fHeap.length < s.fHeap.length := Runs.minAt_lt hhp
    obtain ⟨e, he⟩ : ∃ e, s.fHeap[Runs.minAt s.fHeap s.fHeap.length]? = some e := ⟨_, List.getElem?_eq_getElem hmk⟩
    have hki := idxMin_pos hhp
    have hst := hflow.trans (SorterD.flow_give he)
    refine sn ?_
    refine sn ?_
    refine sn ?_
    refine sn ?_
    refine sl 2 pf ?_
    refine sl 2 ms ?_
    refine SV.nil (SV.tn ?_)
    refine SV.cond rfl (fun hc10 => ?_) (fun hc10 => ?_)
    ·skip   -- c10.T
     cases hc10
    ·skip   -- c10.F
     refine SV.seq' (SV.region ?_)
     refine sl 2 (fb fld_impl_selection_0) ?_
     refine sl 2 (lb 1 0 [.hd 1] agg_s_impl_Row sz_s_impl_Row (fun _ => rfl)) ?_
     refine sl 2 (ok_len (lf := .hd 1) rfl elt_impl_Row.und rfl rfl) ?_
     refine sl 2 (s2 (.tmp 91) (.const ((Value.int IntKind.i64 0)))) ?_
     refine sl 2 ms ?_
     refine SV.nil (SV.tn ?_)
     refine SV.cond rfl (fun hc11 => ?_) (fun hc11 => ?_)
     ·skip   -- c11.T
      refine SV.drawX [1] (Pl.of [.q 0, .q 1, .q 2, .q 3, .m 4, .m 5, .q 6, .q 7, .q 8]) [9] (by kernel_rfl) (by kernel_rfl) ?_
      refine DX.q rfl (mv (V.one (.bp 0 0))) rfl rfl (gle rfl) (fun _ _ _ _ h => h) ?_
      refine DX.q rfl (ok_nilcheckB rfl rfl) rfl rfl (gle rfl) (fun _ _ _ _ h => h) ?_
      refine DX.q rfl (fb fld_impl_Sorter_9) rfl rfl (gle rfl) (fun _ _ _ _ h => h) ?_
      refine DX.lb (b := 0) (i' := 9) (ag := false) (m := 1) (ys := [.sc _]) rfl rfl rfl rfl agg_int sz_int (fun _ => rfl) rfl rfl (gle rfl) (by decide) rfl rfl (gle rfl) (fun _ _ _ _ h => h) ?_
      refine DX.m (wl' := [1]) rfl (ok_callHB (b := 1) (ys := [.hd 1, .hd 2, .hd 3]) (L0 := [.hd 5, .hd 6, .hd 7]) (L := [(true, [.sc _, .sc _, .sc _])]) rfl rfl ⟨_, _, Try.func95, rfl, by decide⟩ (vwrite_i s.fHeap s.fDeferred s.fOutput (Runs.minAt s.fHeap s.fHeap.length) e hki he hh ho) rfl rfl ⟨rfl, rfl, rfl, trivial⟩ (by simp [two]) rfl trivial rfl (gle rfl)) rfl (by intro c _ h; simp at h ⊢; omega) (gle rfl) ?_
      refine DX.m (wl' := []) rfl (OpMk.b (cl [(false, [.sc _])] rfl Try.func112 (vcost_i e (hW.heap e (List.mem_of_getElem? he))) ⟨⟨[.sc _, .sc _, .sc _], rfl, ⟨rfl, rfl, rfl, trivial⟩⟩, trivial⟩)) rfl (fun c _ h => by cases h) (gle rfl) ?_
      refine DX.q rfl (ok_s2 (v := .int .i64 (wrap64 (s.fWritten + e.cost))) (x := .tmp 96) (x' := .tmp 98) (VScal.one rfl) (VScal.one rfl) (fun ρ h1 h2 w => by go_simp; rw [IntWalk.i64_left]) rfl) rfl rfl (gle rfl) (fun _ _ _ _ h => h) ?_
      refine DX.q rfl (ok_nilcheckB rfl rfl) rfl rfl (gle rfl) (fun _ _ _ _ h => h) ?_
      refine DX.q rfl (fb fld_impl_Sorter_9) rfl rfl (gle rfl) (fun _ _ _ _ h => h) ?_
      refine DX.stores ?_
      refine SV.z rfl (st (ag := false) [.sc _] [.hd 0, .sc _, .hd 1, .hd 2, .hd 3, .hd 4, .sc _, .sc _, .sc _, .sc _] sz_int (fun _ => rfl)) rfl ?_
      refine SV.zend ?_
      refine SV.bn (SV.tn (SV.seq' (SV.region ?_)))
      refine sl 2 (mv (V.one (.bp 0 0))) ?_
      refine sl 2 (mv (V.one (.bp 0 0))) ?_
      refine sl 2 (mv (V.one (.bp 0 0))) ?_
      refine sl 2 (fb fld_impl_selection_0) ?_
      refine sl 2 (lb 1 0 [.hd 5] agg_s_impl_Row sz_s_impl_Row (fun _ => rfl)) ?_
      refine sl 2 (fb fld_impl_selection_1) ?_
      refine sl 2 (lb 1 1 [.hd 6] agg_s_impl_Row sz_s_impl_Row (fun _ => rfl)) ?_
      refine sl 2 (fb fld_impl_selection_2) ?_
      refine sl 2 (lb 1 2 [.hd 7] agg_s_impl_Row sz_s_impl_Row (fun _ => rfl)) ?_
      refine sl 2 (ok_nilcheckB rfl rfl) ?_
      refine sl 2 (fb fld_impl_Sorter_2) ?_
      refine so (st (ag := false) [.hd 5] [.hd 0, .sc _, .hd 5, .hd 2, .hd 3, .hd 4, .sc _, .sc _, .sc _, .sc _] sz_s_impl_Row (fun _ => rfl)) ?_
      refine sl 2 (ok_nilcheckB rfl rfl) ?_
      refine sl 2 (fb fld_impl_Sorter_3) ?_
      refine so (st (ag := false) [.hd 6] [.hd 0, .sc _, .hd 5, .hd 6, .hd 3, .hd 4, .sc _, .sc _, .sc _, .sc _] sz_s_impl_Row (fun _ => rfl)) ?_
      refine sl 2 (ok_nilcheckB rfl rfl) ?_
      refine sl 2 (fb fld_impl_Sorter_4) ?_
      refine so (st (ag := false) [.hd 7] [.hd 0, .sc _, .hd 5, .hd 6, .hd 7, .hd 4, .sc _, .sc _, .sc _, .sc _] sz_s_impl_Row (fun _ => rfl)) ?_
      refine SV.nil (SV.tn (SV.seq' (SV.region ?_)))
      refine sl 2 ms ?_
      refine SV.nil (SV.tn (SV.ret ?_))
      refine SV.nlsc (s := 4) (kk := 8) (n := 3) rfl rfl (by decide) sz_impl_Row (gle rfl) ?_
      apply SV.doneH (hpin := hpin) (hbx := rfl) (hf := Try.results120) (ht := rfl) (he := .inr rfl)
      case hr => exact (ResAll.cons (ResOk.tmp (ag := false) (xs := [.hd 8]) rfl) ResAll.nil')
      case h2 => simp [two, ansL]
      case hx => refine ⟨?_, ?_, ?_, ?_, ?_, ?_, ?_, ?_, ?_, ?_, trivial⟩ <;> first | rfl | (rw [hst]; first | done | rfl | ((refine lsq ?_; first | done | rfl | (simp [tRun]; done) | (simp [eH, eD]; done) | (simp [eO]; done) | (simp [tRow]; done))) | ((refine liq ?_; first | done | rfl | (rw [hn]; done) | (simp [hn]; done) | (simp; done))))
      refine ⟨rfl, ⟨?_, trivial⟩, trivial⟩ <;> rfl
     ·skip   -- c11.F
      (exfalso; first | (simp at hc11; done) | (simp at hc11; omega) | (simp [h0] at hc11; done) | (simp at hc11; rw [hc11] at hhp; simp at hhp; done))
end Go.Proofs.Ytpnbnbhifpcelaa
/- The program's step of a merge: told by trees. -/
namespace Go.Proofs.Ytpnbnbhifpcelaa
open Go Go.RowKit V
set_option linter.unusedVariables false
namespace SorterD
theorem merge_join {s : SorterD} {p0 p1 : List R} {i k : Nat} (h0 : fst s = p0) (h1 : snd s = p1) (hi : s.fLeftPos = (i : Int)) (hk : s.fRightPos = (k : Int)) (ha : p0.length ≤ i) (hb : p1.length ≤ k) : stepMerge s = joinS s := by
 unfold stepMerge
 rw [h0, h1, hi, hk, Int.toNat_natCast, Int.toNat_natCast, List.getElem?_eq_none ha, List.getElem?_eq_none hb]
theorem merge_fst {s : SorterD} {p0 p1 : List R} {i k : Nat} {x : R} (h0 : fst s = p0) (h1 : snd s = p1) (hi : s.fLeftPos = (i : Int)) (hk : s.fRightPos = (k : Int)) (hx : p0[i]? = some x) (hn : nextOf (p0.drop i) (p1.drop k) = true) : stepMerge s = leftS s x := by
 unfold stepMerge
 rw [h0, h1, hi, hk, Int.toNat_natCast, Int.toNat_natCast, hx]
 cases hy : p1[k]? with
 | none => rfl
 | some y =>
  rw [nextOf_both (x := x) (y := y) (by rw [List.getElem?_drop, Nat.add_zero]; exact hx) (by rw [List.getElem?_drop, Nat.add_zero]; exact hy)] at hn
  exact if_pos (of_decide_eq_true hn)
theorem merge_snd {s : SorterD} {p0 p1 : List R} {i k : Nat} {y : R} (h0 : fst s = p0) (h1 : snd s = p1) (hi : s.fLeftPos = (i : Int)) (hk : s.fRightPos = (k : Int)) (hy : p1[k]? = some y) (hn : nextOf (p0.drop i) (p1.drop k) = false) : stepMerge s = rightS s y := by
 unfold stepMerge
 rw [h0, h1, hi, hk, Int.toNat_natCast, Int.toNat_natCast, hy]
 cases hx : p0[i]? with
 | none => rfl
 | some x =>
  rw [nextOf_both (x := x) (y := y) (by rw [List.getElem?_drop, Nat.add_zero]; exact hx) (by rw [List.getElem?_drop, Nat.add_zero]; exact hy)] at hn
  exact if_neg (of_decide_eq_false hn)
end SorterD
set_option maxRecDepth 100000 in
set_option maxHeartbeats 2000000 in
theorem vmergeS_i (s : SorterD) (g : Int) (p0 p1 : List R) (i k : Nat) (hW : s.Wf) (hx0 : s.fRuns[0]? = some p0) (hx1 : s.fRuns[1]? = some p1) (hi : s.fLeftPos = (i : Int)) (hk : s.fRightPos = (k : Int)) (hil : i ≤ p0.length) (hkl : k ≤ p1.length) : VH Try.prog 121 27 [.seq 72 ((s.fInput).map tRow), .lit (.int .i64 (s.fPos)), .seq 72 ((s.fHeap).map tRow), .seq 72 ((s.fDeferred).map tRow), .seq 72 ((s.fOutput).map tRow), .seq 84 ((s.fRuns).map tRun), .lit (.int .i64 (s.fLeftPos)), .lit (.int .i64 (s.fRightPos)), .lit (.int .i64 (s.fPhase)), .lit (.int .i64 (s.fWritten))] [(false, [.lit (.int .i64 (g))])] [.seq 72 (((SorterD.stepMerge s).fInput).map tRow), .lit (.int .i64 ((SorterD.stepMerge s).fPos)), .seq 72 (((SorterD.stepMerge s).fHeap).map tRow), .seq 72 (((SorterD.stepMerge s).fDeferred).map tRow), .seq 72 (((SorterD.stepMerge s).fOutput).map tRow), .seq 84 (((SorterD.stepMerge s).fRuns).map tRun), .lit (.int .i64 ((SorterD.stepMerge s).fLeftPos)), .lit (.int .i64 ((SorterD.stepMerge s).fRightPos)), .lit (.int .i64 ((SorterD.stepMerge s).fPhase)), .lit (.int .i64 ((SorterD.stepMerge s).fWritten))] false [(false, [.seq 72 (([]).map tRow)])] := by
 refine VH.enter Try.func121 rfl Try.ntmps121 (gle rfl) fun E c hE hpin => ?_
 have hsz := hW.size
 have hf0 : SorterD.fst s = p0 := by unfold SorterD.fst; rw [List.getD_eq_getElem?_getD, hx0]; rfl
 have hf1 : SorterD.snd s = p1 := by unfold SorterD.snd; rw [List.getD_eq_getElem?_getD, hx1]; rfl
 have h2 : 1 < s.fRuns.length := V.get_lt hx1
 have hq0 := hW.run (List.mem_of_getElem? hx0)
 have hq1 := hW.run (List.mem_of_getElem? hx1)
 have hnx := vnext_i (p0.drop i) (p1.drop k)
 rw [show (p0.drop i).map tRow = (((p0.map tRow).take (p0.map tRow).length).drop i) by rw [List.take_length, List.map_drop], show (p1.drop k).map tRow = (((p1.map tRow).take (p1.map tRow).length).drop k) by rw [List.take_length, List.map_drop]] at hnx
 refine SV.seq' (SV.region ?_)
 refine sl 1 ms ?_
 refine SV.nil (SV.tn (SV.seq' ?_))
 refine SV.tell (fun (σ : VS) => ((((((((VS.nil.new (σ.tree 0)).new (σ.tree 1)).new (σ.tree 2)).new (σ.tree 3)).new (σ.tree 4)).box 27 [.hd 0, σ.bl 0 1, .hd 1, .hd 2, .hd 3, .hd 4, .sc (.int .i64 ((i : Int))), .sc (.int .i64 ((k : Int))), σ.bl 0 8, σ.bl 0 9]).put 0 (V.flat false [.bp 0 0])).put 4 (σ.tm 4))) ?h ?k
 case k =>
  intro hjn
  refine (fun pp le => SV.weaken (fun i => [0, 1, 2, 3, 4].getD i 0) pp le hjn) (pinsC hE rfl) (VS.le.mk' (le_put (le_put (le_box (le_new (le_new (le_new (le_new (le_new le_nil)))))) (V.le.keep (ag := false) (xs := [.bp 0 0]) (ys := [.bp 0 0]) rfl rfl ⟨⟨rfl, (gle rfl)⟩, trivial⟩)) (V.le.keep (ag := false) (xs := [.sc _]) (ys := [.sc _]) rfl rfl ⟨rfl, trivial⟩)) ⟨⟨rfl, ⟨⟨rfl, (gle rfl), (gle rfl)⟩, rfl, ⟨rfl, (gle rfl), (gle rfl)⟩, ⟨rfl, (gle rfl), (gle rfl)⟩, ⟨rfl, (gle rfl), (gle rfl)⟩, ⟨rfl, (gle rfl), (gle rfl)⟩, (by first | rfl | (show Leaf.sc _ = Leaf.sc _; refine congrArg Leaf.sc ?_; first | rfl | go_num | ((first | exact congrArg _ hi | exact congrArg _ hk); first | done | rfl | go_num | (simp; done) | (simp; omega)) | (simp [cntAll]; done)) | (simp [cntAll]; done) | (simp; omega)), (by first | rfl | (show Leaf.sc _ = Leaf.sc _; refine congrArg Leaf.sc ?_; first | rfl | go_num | ((first | exact congrArg _ hi | exact congrArg _ hk); first | done | rfl | go_num | (simp; done) | (simp; omega)) | (simp [cntAll]; done)) | (simp [cntAll]; done) | (simp; omega)), rfl, rfl, trivial⟩⟩, trivial⟩ ⟨.inr ⟨_, _, rfl, rfl, (gle rfl)⟩, ⟨.inr ⟨_, _, rfl, rfl, (gle rfl)⟩, ⟨.inr ⟨_, _, rfl, rfl, (gle rfl)⟩, ⟨.inr ⟨_, _, rfl, rfl, (gle rfl)⟩, ⟨.inr ⟨_, _, rfl, rfl, (gle rfl)⟩, trivial⟩⟩⟩⟩⟩ (new_ob (new_ob (new_ob (new_ob (new_ob nil_ob))))) (fun i j hi hj e => inj_list (l := [0, 1, 2, 3, 4]) (by decide) i j hi hj e))
 case h =>
 refine SV.draw [.q 0, .q 1, .q 2, .q 3, .q 4, .q 5, .q 6, .q 7, .q 8, .q 9, .q 10, .q 11, .q 12] [] (by kernel_rfl) (by kernel_rfl) ?_
 refine dq rfl (mv (V.one (.bp 0 0))) ?_
 refine dq rfl (ok_nilcheckB rfl rfl) ?_
 refine dq rfl (fb fld_impl_Sorter_5) ?_
 refine dq rfl (lb 0 5 [.hd 4] agg_s_impl_Run sz_s_impl_Run (fun _ => rfl)) ?_
 refine dq rfl (ok_index (n := 1) (lf := .hd 4) rfl elt_impl_Run.und sz_impl_Run rfl rfl rfl (map_at hx0)) ?_
 refine dq rfl (ok_field_el (p := .ep 4 _ _ _) (off := 0) rfl rfl (cells_ep rfl (map_at hx0) rfl rfl) fld_impl_Run_0) ?_
 refine DW.el (ag := false) (m := 1) (ys := [.nd 4 _ _ (some _)]) rfl rfl rfl (cells_ep rfl (map_at hx0) rfl rfl) agg_s_impl_Row sz_s_impl_Row (fun _ => rfl) (gle rfl) rfl rfl rfl (gle rfl) (fun _ _ _ _ h => h) ?_
 refine dq rfl (mv (V.one (.bp 0 0))) ?_
 refine dq rfl (ok_nilcheckB rfl rfl) ?_
 refine dq rfl (fb fld_impl_Sorter_6) ?_
 refine dq rfl (lb 0 6 [.sc _] agg_int sz_int (fun _ => rfl)) ?_
 refine dq rfl (ok_slice (l := i) (h := (p0.map tRow).length) (lf := .nd 4 _ _ (some _)) (yy := .nd 4 _ _ none) rfl rfl elt_impl_Row.und sz_impl_Row rfl rfl ⟨_, rfl⟩ rfl (by simp only [List.length_map]; omega) (Nat.le_refl _)) ?_
 refine dq rfl (mv (V.one (.nd 4 _ _ none))) ?_
 refine DW.stores ?_
 refine SV.zend ?_
 refine SV.tn (SV.seq' ?_)
 refine SV.draw [.q 0, .q 1, .q 2, .q 3, .q 4, .q 5, .q 6, .q 7, .q 8, .q 9, .q 10, .q 11, .q 12] [] (by kernel_rfl) (by kernel_rfl) ?_
 refine dq rfl (mv (V.one (.bp 0 0))) ?_
 refine dq rfl (ok_nilcheckB rfl rfl) ?_
 refine dq rfl (fb fld_impl_Sorter_5) ?_
 refine dq rfl (lb 0 5 [.hd 4] agg_s_impl_Run sz_s_impl_Run (fun _ => rfl)) ?_
 refine dq rfl (ok_index (n := 1) (lf := .hd 4) rfl elt_impl_Run.und sz_impl_Run rfl rfl rfl (map_at hx1)) ?_
 refine dq rfl (ok_field_el (p := .ep 4 _ _ _) (off := 0) rfl rfl (cells_ep rfl (map_at hx1) rfl rfl) fld_impl_Run_0) ?_
 refine DW.el (ag := false) (m := 1) (ys := [.nd 4 _ _ (some _)]) rfl rfl rfl (cells_ep rfl (map_at hx1) rfl rfl) agg_s_impl_Row sz_s_impl_Row (fun _ => rfl) (gle rfl) rfl rfl rfl (gle rfl) (fun _ _ _ _ h => h) ?_
 refine dq rfl (mv (V.one (.bp 0 0))) ?_
 refine dq rfl (ok_nilcheckB rfl rfl) ?_
 refine dq rfl (fb fld_impl_Sorter_7) ?_
 refine dq rfl (lb 0 7 [.sc _] agg_int sz_int (fun _ => rfl)) ?_
 refine dq rfl (ok_slice (l := k) (h := (p1.map tRow).length) (lf := .nd 4 _ _ (some _)) (yy := .nd 4 _ _ none) rfl rfl elt_impl_Row.und sz_impl_Row rfl rfl ⟨_, rfl⟩ rfl (by simp only [List.length_map]; omega) (Nat.le_refl _)) ?_
 refine dq rfl (mv (V.one (.nd 4 _ _ none))) ?_
 refine DW.stores ?_
 refine SV.zend ?_
 refine SV.tn (SV.seq' (SV.block (SV.seq' (SV.region ?_))))
 refine sl 1 (mv (V.one (.nd 4 _ _ none))) ?_
 refine sl 1 (ok_len (lf := .nd 4 _ _ none) rfl elt_impl_Row.und rfl rfl) ?_
 refine sl 1 (s2 (.tmp 45) (.const ((Value.int IntKind.i64 0)))) ?_
 refine sl 1 ms ?_
 refine SV.split (d := 47) rfl (fun hg0 => ?_) (fun hg0 => ?_)
 ·skip   -- g0.T
  have ha : p0.length ≤ i := by simp at hg0; omega
  refine sy 1 (mv (V.one (.nd 4 _ _ none))) ?_
  refine sy 1 (ok_len (lf := .nd 4 _ _ none) rfl elt_impl_Row.und rfl rfl) ?_
  refine sy 1 (s2 (.tmp 49) (.const ((Value.int IntKind.i64 0)))) ?_
  refine sl 1 pt ?_
  refine sl 1 ms ?_
  refine SV.nil (SV.tn ?_)
  refine SV.cond rfl (fun hc0 => ?_) (fun hc0 => ?_)
  ·skip   -- c0.T
   have hb : p1.length ≤ k := by simp at hc0; omega
   have hst := SorterD.merge_join hf0 hf1 hi hk ha hb
   refine SV.seq' ?_
   refine SV.openBox (b := 0) (j := 5) (p := 4) (m := 5) rfl rfl rfl (by simp only [List.length_map]; omega) rfl fun Lv gg qq cc hL hcc hcm => ?_
   refine SV.drawX [] (Pl.of [.q 0, .q 1, .q 2, .q 3, .q 4, .q 5, .q 6, .q 7, .q 8, .q 9, .q 10, .m 11, .m 12, .q 13, .q 14]) [15] (by kernel_rfl) (by kernel_rfl) ?_
   refine DX.q rfl (mv (V.one (.bp 0 0))) rfl rfl (gle rfl) (fun _ _ _ _ h => h) ?_
   refine DX.q rfl (mv (V.one (.bp 0 0))) rfl rfl (gle rfl) (fun _ _ _ _ h => h) ?_
   refine DX.q rfl (ok_nilcheckB rfl rfl) rfl rfl (gle rfl) (fun _ _ _ _ h => h) ?_
   refine DX.q rfl (fb fld_impl_Sorter_5) rfl rfl (gle rfl) (fun _ _ _ _ h => h) ?_
   refine DX.lb (b := 0) (i' := 5) (ag := false) (m := 1) (ys := [.sc _]) rfl rfl rfl rfl agg_s_impl_Run sz_s_impl_Run (fun _ => rfl) rfl rfl (gle rfl) (by decide) rfl rfl (gle rfl) (fun _ _ _ _ h => h) ?_
   refine DX.q rfl (ok_tailk (g := gg) (q := qq) (c := cc) (m := 2) (n := 1) rfl elt_impl_Run.und sz_impl_Run rfl rfl (by simp only [List.length_map]; omega) (hcc)) rfl rfl (gle rfl) (fun _ _ _ _ h => h) ?_
   refine DX.q rfl (mv (V.one (.bp 0 0))) rfl rfl (gle rfl) (fun _ _ _ _ h => h) ?_
   refine DX.q rfl (ok_nilcheckB rfl rfl) rfl rfl (gle rfl) (fun _ _ _ _ h => h) ?_
   refine DX.q rfl (fb fld_impl_Sorter_4) rfl rfl (gle rfl) (fun _ _ _ _ h => h) ?_
   refine DX.lb (b := 0) (i' := 4) (ag := false) (m := 1) (ys := [.hd 3]) rfl rfl rfl rfl agg_s_impl_Row sz_s_impl_Row (fun _ => rfl) rfl rfl (gle rfl) (by decide) rfl rfl (gle rfl) (fun _ _ _ _ h => h) ?_
   refine DX.q rfl (ok_build (zs := [.nl _]) (ys := [.hd 3]) (qs := [(0, [.hd 3])]) (pl := fun i => ([(0, 1)] : List (Nat × Nat))[i]?) rfl zero_impl_Run ⟨rfl, ⟨3, by decide, sz_impl_Row⟩, trivial⟩ ⟨⟨rfl, false, rfl, (fun _ => rfl), rfl⟩, trivial⟩ bld_impl_Run rfl) rfl rfl (gle rfl) (fun _ _ _ _ h => h) ?_
   refine DX.m (wl' := []) rfl (OpMk.b (ok_lit1 (kk := 5) elt_impl_Run (ag := true) (xs := [.hd 3]) rfl rfl rfl rfl (fun h => by cases h) (outs_c rfl outs_n) (by simp [two]) rfl (gle rfl))) rfl (fun c _ h => by cases h) (gle rfl) ?_
   refine DX.m (wl' := []) rfl (ok_append_to (kk := 7) (s := 57) (p := 4) (g := gg) (q := qq) (c := cc) (m := 2) (lx := .hd 5) elt_impl_Run rfl rfl rfl (gle rfl) rfl (rfl) (by show 4 < 5; decide) (hL) rfl (by intro i h1 h2; cases h1; cases h2) (by simp only [List.length_map]; omega) (by simp only [List.length_drop, List.length_map, List.length_cons, List.length_nil]; omega) rfl (gle rfl)) rfl (fun c _ h => by cases h) (gle rfl) ?_
   refine DX.q rfl (ok_nilcheckB rfl rfl) rfl rfl (gle rfl) (fun _ _ _ _ h => h) ?_
   refine DX.q rfl (fb fld_impl_Sorter_5) rfl rfl (gle rfl) (fun _ _ _ _ h => h) ?_
   refine DX.stores ?_
   refine SV.z rfl (st (ag := false) [.hd 7] [.hd 0, .sc _, .hd 1, .hd 2, .hd 3, .hd 7, .sc _, .sc _, .sc _, .sc _] sz_s_impl_Run (fun _ => rfl)) rfl ?_
   refine SV.zend ?_
   refine SV.tn (SV.seq' ?_)
   refine SV.nameOff hE ?_
   refine SV.region ?_
   refine sl 1 (mv (V.one (.bp 0 0))) ?_
   refine sl 1 (ok_nilcheckB rfl rfl) ?_
   refine sl 1 (fb fld_impl_Sorter_4) ?_
   refine so (st (ag := false) [.sc _] [.hd 0, .sc _, .hd 1, .hd 2, .sc _, .hd 7, .sc _, .sc _, .sc _, .sc _] sz_s_impl_Row (fun _ => rfl)) ?_
   refine SV.nil (SV.tn (SV.region ?_))
   refine sl 1 (mv (V.one (.bp 0 0))) ?_
   refine so (ok_callPatch (b := 0) (ys := [.hd 0, .sc _, .hd 1, .hd 2, .sc _, .hd 7, .sc _, .sc _, .sc _, .sc _]) (ys' := [.hd 0, .sc _, .hd 1, .hd 2, .sc _, .hd 7, .sc _, .sc _, .sc _, .sc _]) rfl ⟨_, _, Try.func131, rfl, by decide⟩ rfl rfl (fun us hl hS => leave_patch (k := (List.map tRun s.fRuns).drop 2 ++ [tRun s.fOutput] |>.length) us hl fun u hu => hS 5 _ u _ _ rfl rfl hu) rfl (gle rfl)) ?_
   refine SV.nil (SV.bn (SV.tn (SV.seq' ?_)))
   refine SV.nlscb (b := 0) (j := 4) (kk := 8) (n := 3) rfl rfl rfl (by decide) sz_impl_Row (ys := [.hd 0, .sc _, .hd 1, .hd 2, .hd 8, .hd 7, .sc _, .sc _, .sc _, .sc _]) rfl ?_
   refine SV.region ?_
   refine sl 1 ms ?_
   refine SV.nil (SV.tn (SV.ret ?_))
   refine SV.nlsc (s := 4) (kk := 9) (n := 3) rfl rfl (by decide) sz_impl_Row (gle rfl) ?_
   apply SV.doneH (hpin := hpin) (hbx := rfl) (hf := Try.results121) (ht := rfl) (he := .inr rfl)
   case hr => exact (ResAll.cons (ResOk.tmp (ag := false) (xs := [.hd 9]) rfl) ResAll.nil')
   case h2 => simp [two, ansL]
   case hx => refine ⟨?_, ?_, ?_, ?_, ?_, ?_, ?_, ?_, ?_, ?_, trivial⟩ <;> first | rfl | (rw [hst]; first | done | rfl | ((refine lsq ?_; first | done | rfl | (simp [tRun, SorterD.joinS, SorterD.turnS, SorterD.leftS, SorterD.rightS, tRow]; done) | (simp only [SorterD.joinS, SorterD.turnS, List.map_append, List.map_drop, List.map_cons, List.map_nil, tRun]; done) | (simp only [SorterD.joinS, SorterD.turnS, List.map_append, List.map_drop, List.map_cons, List.map_nil, tRun]; rfl))) | ((refine liq ?_; first | done | rfl | (simp [SorterD.joinS, SorterD.turnS, SorterD.leftS, SorterD.rightS, hi, hk]; done))) | ((simp [tSorter, SorterD.joinS, SorterD.turnS, SorterD.leftS, SorterD.rightS, hi, hk]; done)))
   refine ⟨rfl, ⟨?_, trivial⟩, trivial⟩ <;> rfl
  ·skip   -- c0.F
   have hor : i < p0.length ∨ k < p1.length := .inr (by simp at hc0; omega)
   refine SV.seq' (SV.region ?_)
   refine sl 1 (mv (V.one (.nd 4 _ _ none))) ?_
   refine sl 1 (mv (V.one (.nd 4 _ _ none))) ?_
   refine sm (cl [(false, [.sc _])] rfl Try.func97 (hnx) ⟨⟨[.nd 4 _ _ none], rfl, ⟨rfl, trivial⟩⟩, ⟨[.nd 4 _ _ none], rfl, ⟨rfl, trivial⟩⟩, trivial⟩) ?_
   refine sl 1 ms ?_
   refine SV.nil (SV.tn ?_)
   refine SV.cond rfl (fun hc1 => ?_) (fun hc1 => ?_)
   ·skip   -- c1.T
    have hnt : nextOf (p0.drop i) (p1.drop k) = true := by simpa using hc1
    obtain ⟨x, hx, hil, -⟩ := next_left hnt hor
    have hst := SorterD.merge_fst hf0 hf1 hi hk hx hnt
    have hwx := hW.runs p0 (List.mem_of_getElem? hx0) x (List.mem_of_getElem? hx)
    have hwmx := vwmerged_i s x hW hwx
    rw [hi, hk] at hwmx
    refine SV.seq' (SV.region ?_)
    refine sl 1 (mv (V.one (.bp 0 0))) ?_
    refine sl 1 (mv (V.one (.nd 4 _ _ none))) ?_
    refine sl 1 (ok_index (n := 3) (lf := .nd 4 _ _ none) rfl elt_impl_Row.und sz_impl_Row rfl rfl rfl ((by rw [List.take_length, List.getElem?_drop]; exact map_at hx))) ?_
    refine so (ok_load_el (p := .np 4 _ _) (ag := true) (m := 3) (ys := [.sc _, .sc _, .sc _]) rfl rfl rfl agg_impl_Row sz_impl_Row (fun h => by cases h) (gle rfl) rfl rfl (gle rfl)) ?_
    refine so (ok_callH (b := 0) (ys := [.hd 0, .sc _, .hd 1, .hd 2, .hd 3, .hd 4, .sc _, .sc _, .sc _, .sc _]) (L0 := [.hd 5, .sc _, .hd 6, .hd 7, .hd 8, .hd 9, .sc _, .sc _, .sc _, .sc _]) (L := []) rfl rfl ⟨_, _, Try.func132, rfl, by decide⟩ (hwmx) rfl rfl ⟨rfl, rfl, rfl, rfl, rfl, rfl, rfl, rfl, rfl, rfl, trivial⟩ (by simp [two]) rfl ⟨⟨[.sc _, .sc _, .sc _], rfl, ⟨.inl ⟨_, rfl, rfl⟩, .inl ⟨_, rfl, rfl⟩, .inl ⟨_, rfl, rfl⟩, trivial⟩⟩, trivial⟩ rfl (gle rfl)) ?_
    refine SV.nil (SV.tn (SV.region ?_))
    refine sl 1 (mv (V.one (.bp 0 0))) ?_
    refine sl 1 (ok_nilcheckB rfl rfl) ?_
    refine sl 1 (fb fld_impl_Sorter_6) ?_
    refine sl 1 (lb 0 6 [.sc _] agg_int sz_int (fun _ => rfl)) ?_
    refine sl 1 (ok_s2 (v := .int .i64 ((i : Int) + 1)) (x := .tmp 84) (x' := .const ((Value.int IntKind.i64 1))) (VScal.one rfl) (VScal.one rfl) (fun ρ h1 h2 w => by go_simp; rw [IntWalk.i64_left, IntWalk.wrap64_in _ ⟨by omega, by omega⟩]) rfl) ?_
    refine sl 1 (ok_nilcheckB rfl rfl) ?_
    refine sl 1 (fb fld_impl_Sorter_6) ?_
    refine so (st (ag := false) [.sc _] [.hd 5, .sc _, .hd 6, .hd 7, .hd 8, .hd 9, .sc _, .sc _, .sc _, .sc _] sz_int (fun _ => rfl)) ?_
    refine SV.nil (SV.bn (SV.tn (SV.seq' (SV.region ?_))))
    refine sl 1 ms ?_
    refine SV.nil (SV.tn (SV.ret ?_))
    refine SV.nlsc (s := 4) (kk := 10) (n := 3) rfl rfl (by decide) sz_impl_Row (gle rfl) ?_
    apply SV.doneH (hpin := hpin) (hbx := rfl) (hf := Try.results121) (ht := rfl) (he := .inr rfl)
    case hr => exact (ResAll.cons (ResOk.tmp (ag := false) (xs := [.hd 10]) rfl) ResAll.nil')
    case h2 => simp [two, ansL]
    case hx => refine ⟨?_, ?_, ?_, ?_, ?_, ?_, ?_, ?_, ?_, ?_, trivial⟩ <;> first | rfl | (rw [hst]; first | done | rfl | ((refine lsq ?_; first | done | rfl | (simp [tRun, SorterD.joinS, SorterD.turnS, SorterD.leftS, SorterD.rightS, tRow]; done) | (simp only [SorterD.joinS, SorterD.turnS, List.map_append, List.map_drop, List.map_cons, List.map_nil, tRun]; done) | (simp only [SorterD.joinS, SorterD.turnS, List.map_append, List.map_drop, List.map_cons, List.map_nil, tRun]; rfl))) | ((refine liq ?_; first | done | rfl | (simp [SorterD.joinS, SorterD.turnS, SorterD.leftS, SorterD.rightS, hi, hk]; done))) | ((simp [tSorter, SorterD.joinS, SorterD.turnS, SorterD.leftS, SorterD.rightS, hi, hk]; done)))
    refine ⟨rfl, ⟨?_, trivial⟩, trivial⟩ <;> rfl
   ·skip   -- c1.F
    have hnt : nextOf (p0.drop i) (p1.drop k) = false := by simpa using hc1
    obtain ⟨y, hy, hkl, -⟩ := next_right hnt hor
    have hst := SorterD.merge_snd hf0 hf1 hi hk hy hnt
    have hwy := hW.runs p1 (List.mem_of_getElem? hx1) y (List.mem_of_getElem? hy)
    have hwmy := vwmerged_i s y hW hwy
    rw [hi, hk] at hwmy
    refine SV.seq' (SV.region ?_)
    refine sl 1 (mv (V.one (.bp 0 0))) ?_
    refine sl 1 (mv (V.one (.nd 4 _ _ none))) ?_
    refine sl 1 (ok_index (n := 3) (lf := .nd 4 _ _ none) rfl elt_impl_Row.und sz_impl_Row rfl rfl rfl ((by rw [List.take_length, List.getElem?_drop]; exact map_at hy))) ?_
    refine so (ok_load_el (p := .np 4 _ _) (ag := true) (m := 3) (ys := [.sc _, .sc _, .sc _]) rfl rfl rfl agg_impl_Row sz_impl_Row (fun h => by cases h) (gle rfl) rfl rfl (gle rfl)) ?_
    refine so (ok_callH (b := 0) (ys := [.hd 0, .sc _, .hd 1, .hd 2, .hd 3, .hd 4, .sc _, .sc _, .sc _, .sc _]) (L0 := [.hd 5, .sc _, .hd 6, .hd 7, .hd 8, .hd 9, .sc _, .sc _, .sc _, .sc _]) (L := []) rfl rfl ⟨_, _, Try.func132, rfl, by decide⟩ (hwmy) rfl rfl ⟨rfl, rfl, rfl, rfl, rfl, rfl, rfl, rfl, rfl, rfl, trivial⟩ (by simp [two]) rfl ⟨⟨[.sc _, .sc _, .sc _], rfl, ⟨.inl ⟨_, rfl, rfl⟩, .inl ⟨_, rfl, rfl⟩, .inl ⟨_, rfl, rfl⟩, trivial⟩⟩, trivial⟩ rfl (gle rfl)) ?_
    refine SV.nil (SV.tn (SV.region ?_))
    refine sl 1 (mv (V.one (.bp 0 0))) ?_
    refine sl 1 (ok_nilcheckB rfl rfl) ?_
    refine sl 1 (fb fld_impl_Sorter_7) ?_
    refine sl 1 (lb 0 7 [.sc _] agg_int sz_int (fun _ => rfl)) ?_
    refine sl 1 (ok_s2 (v := .int .i64 ((k : Int) + 1)) (x := .tmp 39) (x' := .const ((Value.int IntKind.i64 1))) (VScal.one rfl) (VScal.one rfl) (fun ρ h1 h2 w => by go_simp; rw [IntWalk.i64_left, IntWalk.wrap64_in _ ⟨by omega, by omega⟩]) rfl) ?_
    refine sl 1 (ok_nilcheckB rfl rfl) ?_
    refine sl 1 (fb fld_impl_Sorter_7) ?_
    refine so (st (ag := false) [.sc _] [.hd 5, .sc _, .hd 6, .hd 7, .hd 8, .hd 9, .sc _, .sc _, .sc _, .sc _] sz_int (fun _ => rfl)) ?_
    refine SV.nil (SV.bn (SV.tn (SV.seq' (SV.region ?_))))
    refine sl 1 ms ?_
    refine SV.nil (SV.tn (SV.ret ?_))
    refine SV.nlsc (s := 4) (kk := 10) (n := 3) rfl rfl (by decide) sz_impl_Row (gle rfl) ?_
    apply SV.doneH (hpin := hpin) (hbx := rfl) (hf := Try.results121) (ht := rfl) (he := .inr rfl)
    case hr => exact (ResAll.cons (ResOk.tmp (ag := false) (xs := [.hd 10]) rfl) ResAll.nil')
    case h2 => simp [two, ansL]
    case hx => refine ⟨?_, ?_, ?_, ?_, ?_, ?_, ?_, ?_, ?_, ?_, trivial⟩ <;> first | rfl | (rw [hst]; first | done | rfl | ((refine lsq ?_; first | done | rfl | (simp [tRun, SorterD.joinS, SorterD.turnS, SorterD.leftS, SorterD.rightS, tRow]; done) | (simp only [SorterD.joinS, SorterD.turnS, List.map_append, List.map_drop, List.map_cons, List.map_nil, tRun]; done) | (simp only [SorterD.joinS, SorterD.turnS, List.map_append, List.map_drop, List.map_cons, List.map_nil, tRun]; rfl))) | ((refine liq ?_; first | done | rfl | (simp [SorterD.joinS, SorterD.turnS, SorterD.leftS, SorterD.rightS, hi, hk]; done))) | ((simp [tSorter, SorterD.joinS, SorterD.turnS, SorterD.leftS, SorterD.rightS, hi, hk]; done)))
    refine ⟨rfl, ⟨?_, trivial⟩, trivial⟩ <;> rfl
 ·skip   -- g0.F
  have hor : i < p0.length ∨ k < p1.length := .inl (by simp at hg0; omega)
  refine sn ?_
  refine sn ?_
  refine sn ?_
  refine sl 1 pf ?_
  refine sl 1 ms ?_
  refine SV.nil (SV.tn ?_)
  refine SV.cond rfl (fun hc2 => ?_) (fun hc2 => ?_)
  ·skip   -- c2.T
   cases hc2
  ·skip   -- c2.F
   refine SV.seq' (SV.region ?_)
   refine sl 1 (mv (V.one (.nd 4 _ _ none))) ?_
   refine sl 1 (mv (V.one (.nd 4 _ _ none))) ?_
   refine sm (cl [(false, [.sc _])] rfl Try.func97 (hnx) ⟨⟨[.nd 4 _ _ none], rfl, ⟨rfl, trivial⟩⟩, ⟨[.nd 4 _ _ none], rfl, ⟨rfl, trivial⟩⟩, trivial⟩) ?_
   refine sl 1 ms ?_
   refine SV.nil (SV.tn ?_)
   refine SV.cond rfl (fun hc3 => ?_) (fun hc3 => ?_)
   ·skip   -- c3.T
    have hnt : nextOf (p0.drop i) (p1.drop k) = true := by simpa using hc3
    obtain ⟨x, hx, hil, -⟩ := next_left hnt hor
    have hst := SorterD.merge_fst hf0 hf1 hi hk hx hnt
    have hwx := hW.runs p0 (List.mem_of_getElem? hx0) x (List.mem_of_getElem? hx)
    have hwmx := vwmerged_i s x hW hwx
    rw [hi, hk] at hwmx
    refine SV.seq' (SV.region ?_)
    refine sl 1 (mv (V.one (.bp 0 0))) ?_
    refine sl 1 (mv (V.one (.nd 4 _ _ none))) ?_
    refine sl 1 (ok_index (n := 3) (lf := .nd 4 _ _ none) rfl elt_impl_Row.und sz_impl_Row rfl rfl rfl ((by rw [List.take_length, List.getElem?_drop]; exact map_at hx))) ?_
    refine so (ok_load_el (p := .np 4 _ _) (ag := true) (m := 3) (ys := [.sc _, .sc _, .sc _]) rfl rfl rfl agg_impl_Row sz_impl_Row (fun h => by cases h) (gle rfl) rfl rfl (gle rfl)) ?_
    refine so (ok_callH (b := 0) (ys := [.hd 0, .sc _, .hd 1, .hd 2, .hd 3, .hd 4, .sc _, .sc _, .sc _, .sc _]) (L0 := [.hd 5, .sc _, .hd 6, .hd 7, .hd 8, .hd 9, .sc _, .sc _, .sc _, .sc _]) (L := []) rfl rfl ⟨_, _, Try.func132, rfl, by decide⟩ (hwmx) rfl rfl ⟨rfl, rfl, rfl, rfl, rfl, rfl, rfl, rfl, rfl, rfl, trivial⟩ (by simp [two]) rfl ⟨⟨[.sc _, .sc _, .sc _], rfl, ⟨.inl ⟨_, rfl, rfl⟩, .inl ⟨_, rfl, rfl⟩, .inl ⟨_, rfl, rfl⟩, trivial⟩⟩, trivial⟩ rfl (gle rfl)) ?_
    refine SV.nil (SV.tn (SV.region ?_))
    refine sl 1 (mv (V.one (.bp 0 0))) ?_
    refine sl 1 (ok_nilcheckB rfl rfl) ?_
    refine sl 1 (fb fld_impl_Sorter_6) ?_
    refine sl 1 (lb 0 6 [.sc _] agg_int sz_int (fun _ => rfl)) ?_
    refine sl 1 (ok_s2 (v := .int .i64 ((i : Int) + 1)) (x := .tmp 84) (x' := .const ((Value.int IntKind.i64 1))) (VScal.one rfl) (VScal.one rfl) (fun ρ h1 h2 w => by go_simp; rw [IntWalk.i64_left, IntWalk.wrap64_in _ ⟨by omega, by omega⟩]) rfl) ?_
    refine sl 1 (ok_nilcheckB rfl rfl) ?_
    refine sl 1 (fb fld_impl_Sorter_6) ?_
    refine so (st (ag := false) [.sc _] [.hd 5, .sc _, .hd 6, .hd 7, .hd 8, .hd 9, .sc _, .sc _, .sc _, .sc _] sz_int (fun _ => rfl)) ?_
    refine SV.nil (SV.bn (SV.tn (SV.seq' (SV.region ?_))))
    refine sl 1 ms ?_
    refine SV.nil (SV.tn (SV.ret ?_))
    refine SV.nlsc (s := 4) (kk := 10) (n := 3) rfl rfl (by decide) sz_impl_Row (gle rfl) ?_
    apply SV.doneH (hpin := hpin) (hbx := rfl) (hf := Try.results121) (ht := rfl) (he := .inr rfl)
    case hr => exact (ResAll.cons (ResOk.tmp (ag := false) (xs := [.hd 10]) rfl) ResAll.nil')
    case h2 => simp [two, ansL]
    case hx => refine ⟨?_, ?_, ?_, ?_, ?_, ?_, ?_, ?_, ?_, ?_, trivial⟩ <;> first | rfl | (rw [hst]; first | done | rfl | ((refine lsq ?_; first | done | rfl | (simp [tRun, SorterD.joinS, SorterD.turnS, SorterD.leftS, SorterD.rightS, tRow]; done) | (simp only [SorterD.joinS, SorterD.turnS, List.map_append, List.map_drop, List.map_cons, List.map_nil, tRun]; done) | (simp only [SorterD.joinS, SorterD.turnS, List.map_append, List.map_drop, List.map_cons, List.map_nil, tRun]; rfl))) | ((refine liq ?_; first | done | rfl | (simp [SorterD.joinS, SorterD.turnS, SorterD.leftS, SorterD.rightS, hi, hk]; done))) | ((simp [tSorter, SorterD.joinS, SorterD.turnS, SorterD.leftS, SorterD.rightS, hi, hk]; done)))
    refine ⟨rfl, ⟨?_, trivial⟩, trivial⟩ <;> rfl
   ·skip   -- c3.F
    have hnt : nextOf (p0.drop i) (p1.drop k) = false := by simpa using hc3
    obtain ⟨y, hy, hkl, -⟩ := next_right hnt hor
    have hst := SorterD.merge_snd hf0 hf1 hi hk hy hnt
    have hwy := hW.runs p1 (List.mem_of_getElem? hx1) y (List.mem_of_getElem? hy)
    have hwmy := vwmerged_i s y hW hwy
    rw [hi, hk] at hwmy
    refine SV.seq' (SV.region ?_)
    refine sl 1 (mv (V.one (.bp 0 0))) ?_
    refine sl 1 (mv (V.one (.nd 4 _ _ none))) ?_
    refine sl 1 (ok_index (n := 3) (lf := .nd 4 _ _ none) rfl elt_impl_Row.und sz_impl_Row rfl rfl rfl ((by rw [List.take_length, List.getElem?_drop]; exact map_at hy))) ?_
    refine so (ok_load_el (p := .np 4 _ _) (ag := true) (m := 3) (ys := [.sc _, .sc _, .sc _]) rfl rfl rfl agg_impl_Row sz_impl_Row (fun h => by cases h) (gle rfl) rfl rfl (gle rfl)) ?_
    refine so (ok_callH (b := 0) (ys := [.hd 0, .sc _, .hd 1, .hd 2, .hd 3, .hd 4, .sc _, .sc _, .sc _, .sc _]) (L0 := [.hd 5, .sc _, .hd 6, .hd 7, .hd 8, .hd 9, .sc _, .sc _, .sc _, .sc _]) (L := []) rfl rfl ⟨_, _, Try.func132, rfl, by decide⟩ (hwmy) rfl rfl ⟨rfl, rfl, rfl, rfl, rfl, rfl, rfl, rfl, rfl, rfl, trivial⟩ (by simp [two]) rfl ⟨⟨[.sc _, .sc _, .sc _], rfl, ⟨.inl ⟨_, rfl, rfl⟩, .inl ⟨_, rfl, rfl⟩, .inl ⟨_, rfl, rfl⟩, trivial⟩⟩, trivial⟩ rfl (gle rfl)) ?_
    refine SV.nil (SV.tn (SV.region ?_))
    refine sl 1 (mv (V.one (.bp 0 0))) ?_
    refine sl 1 (ok_nilcheckB rfl rfl) ?_
    refine sl 1 (fb fld_impl_Sorter_7) ?_
    refine sl 1 (lb 0 7 [.sc _] agg_int sz_int (fun _ => rfl)) ?_
    refine sl 1 (ok_s2 (v := .int .i64 ((k : Int) + 1)) (x := .tmp 39) (x' := .const ((Value.int IntKind.i64 1))) (VScal.one rfl) (VScal.one rfl) (fun ρ h1 h2 w => by go_simp; rw [IntWalk.i64_left, IntWalk.wrap64_in _ ⟨by omega, by omega⟩]) rfl) ?_
    refine sl 1 (ok_nilcheckB rfl rfl) ?_
    refine sl 1 (fb fld_impl_Sorter_7) ?_
    refine so (st (ag := false) [.sc _] [.hd 5, .sc _, .hd 6, .hd 7, .hd 8, .hd 9, .sc _, .sc _, .sc _, .sc _] sz_int (fun _ => rfl)) ?_
    refine SV.nil (SV.bn (SV.tn (SV.seq' (SV.region ?_))))
    refine sl 1 ms ?_
    refine SV.nil (SV.tn (SV.ret ?_))
    refine SV.nlsc (s := 4) (kk := 10) (n := 3) rfl rfl (by decide) sz_impl_Row (gle rfl) ?_
    apply SV.doneH (hpin := hpin) (hbx := rfl) (hf := Try.results121) (ht := rfl) (he := .inr rfl)
    case hr => exact (ResAll.cons (ResOk.tmp (ag := false) (xs := [.hd 10]) rfl) ResAll.nil')
    case h2 => simp [two, ansL]
    case hx => refine ⟨?_, ?_, ?_, ?_, ?_, ?_, ?_, ?_, ?_, ?_, trivial⟩ <;> first | rfl | (rw [hst]; first | done | rfl | ((refine lsq ?_; first | done | rfl | (simp [tRun, SorterD.joinS, SorterD.turnS, SorterD.leftS, SorterD.rightS, tRow]; done) | (simp only [SorterD.joinS, SorterD.turnS, List.map_append, List.map_drop, List.map_cons, List.map_nil, tRun]; done) | (simp only [SorterD.joinS, SorterD.turnS, List.map_append, List.map_drop, List.map_cons, List.map_nil, tRun]; rfl))) | ((refine liq ?_; first | done | rfl | (simp [SorterD.joinS, SorterD.turnS, SorterD.leftS, SorterD.rightS, hi, hk]; done))) | ((simp [tSorter, SorterD.joinS, SorterD.turnS, SorterD.leftS, SorterD.rightS, hi, hk]; done)))
    refine ⟨rfl, ⟨?_, trivial⟩, trivial⟩ <;> rfl
end Go.Proofs.Ytpnbnbhifpcelaa
/- The program's FlattenRuns, however many: told by trees. -/
namespace Go.Proofs.Ytpnbnbhifpcelaa
open Go Go.RowKit V
set_option linter.unusedVariables false
set_option maxRecDepth 100000 in
set_option maxHeartbeats 2000000 in
theorem vflatB_i (X : List (List R)) (hW : ∀ p ∈ X, ∀ r ∈ p, r.wf) (hp : ∀ p ∈ X, p.length ≤ 1000000000) (hX : X.length ≤ 1000000000) (hF : X.flatten.length ≤ 1000000000) : VC Try.prog 100 [(false, [.seq 84 ((X).map tRun)])] false [(false, [.seq 72 ((X.flatten).map tRow)])] := by
 refine VC.enter Try.func100 rfl Try.ntmps100 (gle rfl) fun E hE => ?_
 refine SV.seq' (SV.region ?_)
 refine sl 0 ms ?_
 refine SV.nil (SV.tn (SV.seq' (SV.region ?_)))
 refine sl 0 ms ?_
 refine SV.nil (SV.tn (SV.seq' (SV.seq' (SV.region ?_))))
 refine sl 0 (mv (V.one (.ro _))) ?_
 refine sl 0 (ok_len (lf := .ro _) rfl elt_impl_Run.und rfl rfl) ?_
 refine sl 0 ms ?_
 refine SV.nil (SV.tn (SV.block ?_))
 refine SV.nlsc (s := 3) (kk := 0) (n := 3) rfl rfl (by decide) sz_impl_Row (gle rfl) ?_
 refine SV.loopF (X := Nat) (fun (σ : VS) t => ((((((VS.nil.new (.seq 72 ((X.take t).flatten.map tRow))).put 2 (σ.tm 2)).put 3 (V.flat false [.hd 0])).put 6 (σ.tm 6)).put 7 (σ.tm 7)).put 8 (V.flat false [.sc (.int .i64 ((t : Int)))]))) (fun t => t ≤ X.length) (fun t => X.length - t) ?_ ?_
 ·skip
  refine SV.again (fun i => [0].getD i 0) 0 ((Nat.zero_le _)) (pins hE rfl rfl) (VS.le.mk' (le_put (le_put (le_put (le_put (le_put (le_new le_nil) (V.le.keep (ag := false) (xs := [.sc _]) (ys := [.sc _]) rfl rfl ⟨rfl, trivial⟩)) (V.le.keep (ag := false) (xs := [.hd 0]) (ys := [.hd 0]) rfl rfl ⟨⟨rfl, (gle rfl), (gle rfl)⟩, trivial⟩)) (V.le.keep (ag := false) (xs := [.ro _]) (ys := [.ro _]) rfl rfl ⟨rfl, trivial⟩)) (V.le.keep (ag := false) (xs := [.sc _]) (ys := [.sc _]) rfl rfl ⟨rfl, trivial⟩)) (V.le.keep (ag := false) (xs := [.sc _]) (ys := [.sc _]) rfl rfl ⟨(by first | rfl | (show Leaf.sc _ = Leaf.sc _; refine congrArg Leaf.sc ?_; first | rfl | go_num | (simp [cntAll]; done)) | (simp [cntAll]; done) | (simp; omega)), trivial⟩)) trivial ⟨.inr ⟨_, _, rfl, ?ob1_0, (gle rfl)⟩, trivial⟩ (new_ob nil_ob) (fun i j hi hj e => inj_list (l := [0]) (by decide) i j hi hj e))
  case ob1_0 =>
   show some (T.seq _ _) = some (T.seq _ _)
   rfl
 ·rintro t ht
  have hfl := take_len X t
  refine SV.seq' (SV.region ?_)
  refine sl 0 (s2 (.tmp 8) (.tmp 7)) ?_
  refine SV.nil (SV.tn (SV.seq' ?_))
  refine SV.cond rfl (fun hc0 => ?_) (fun hc0 => ?_)
  ·skip   -- c0.T
   have htl : t < X.length := by simpa using hc0
   obtain ⟨p, hx⟩ : ∃ p, X[t]? = some p := ⟨_, List.getElem?_eq_getElem htl⟩
   have hpl := Runs.mem_len (List.mem_of_getElem? hx)
   refine SV.skip (SV.tn (SV.seq' (SV.block (SV.seq' (SV.region ?_)))))
   refine sl 0 (ok_index (n := 1) (lf := .ro _) rfl elt_impl_Run.und sz_impl_Run rfl rfl rfl (map_at hx)) ?_
   refine sl 0 (ok_load_rp (ag := true) (m := 1) (ys := [.ro _]) rfl rfl agg_impl_Run sz_impl_Run (fun h => by cases h) (gle rfl) rfl) ?_
   refine sm (ok_alloc (kk := 0) (xs := [.nl _]) rfl rfl zero_impl_Run ⟨rfl, ⟨3, by decide, sz_impl_Row⟩, trivial⟩ rfl (gle rfl)) ?_
   refine so (st (ag := true) [.ro _] [.ro _] sz_impl_Run (fun h => by cases h)) ?_
   refine SV.nil (SV.tn (SV.region ?_))
   refine sl 1 (mv (V.one (.hd 0))) ?_
   refine sl 1 (fb fld_impl_Run_0) ?_
   refine sl 1 (lb 0 0 [.ro _] agg_s_impl_Row sz_s_impl_Row (fun _ => rfl)) ?_
   refine sm (ok_append_ro (kk := 1) elt_impl_Row (ls := .hd 0) (lx := .ro _) rfl rfl rfl rfl rfl rfl (flat_impl_Row _) (by first | omega | (simp only [List.length_map]; omega) | (simp; done) | (simp; omega)) rfl (gle rfl)) ?_
   refine sl 1 (mv (V.one (.hd 1))) ?_
   refine SV.nil (SV.bn (SV.tn (SV.region ?_)))
   refine sl 1 (s2 (.tmp 8) (.const ((Value.int IntKind.i64 1)))) ?_
   refine sl 1 ms ?_
   refine SV.nil (SV.tn ?_)
   refine SV.again (fun i => [1].getD i 0) (t + 1) (⟨by omega, by omega⟩) (pins hE rfl rfl) (VS.le.mk' (le_put (le_put (le_put (le_put (le_put (le_new le_nil) (V.le.keep (ag := false) (xs := [.sc _]) (ys := [.sc _]) rfl rfl ⟨rfl, trivial⟩)) (V.le.keep (ag := false) (xs := [.hd 1]) (ys := [.hd 0]) rfl rfl ⟨⟨rfl, (gle rfl), (gle rfl)⟩, trivial⟩)) (V.le.keep (ag := false) (xs := [.ro _]) (ys := [.ro _]) rfl rfl ⟨rfl, trivial⟩)) (V.le.keep (ag := false) (xs := [.sc _]) (ys := [.sc _]) rfl rfl ⟨rfl, trivial⟩)) (V.le.keep (ag := false) (xs := [.sc _]) (ys := [.sc _]) rfl rfl ⟨(by first | rfl | (show Leaf.sc _ = Leaf.sc _; refine congrArg Leaf.sc ?_; first | rfl | go_num | (simp [cntAll]; done)) | (simp [cntAll]; done) | (simp; omega)), trivial⟩)) trivial ⟨.inr ⟨_, _, rfl, ?ob2_0, (gle rfl)⟩, trivial⟩ (new_ob nil_ob) (fun i j hi hj e => inj_list (l := [1]) (by decide) i j hi hj e))
   case ob2_0 =>
    show some (T.seq _ _) = some (T.seq _ _)
    rw [take_flat hx]; first | done | rfl | (simp only [List.map_append]; rfl) | (simp; done)
  ·skip   -- c0.F
   have hte : X.take t = X := List.take_of_length_le (by simp at hc0; omega)
   refine SV.exit (SV.te (SV.te (SV.bh (SV.tn (SV.seq' (SV.region ?_))))))
   refine sl 0 (mv (V.one (.hd 0))) ?_
   refine sl 0 (mv (V.one (.hd 0))) ?_
   refine SV.nil (SV.tn (SV.ret ?_))
   refine d1 (.hd 0) Try.results100 ?_ <;> (refine lsq ?_; rw [hte])
end Go.Proofs.Ytpnbnbhifpcelaa
/- The program's AreValidRuns, however many: told by trees. -/
namespace Go.Proofs.Ytpnbnbhifpcelaa
open Go Go.RowKit V
set_option linter.unusedVariables false
set_option maxRecDepth 100000 in
set_option maxHeartbeats 2000000 in
theorem vokrunsB_i (X : List (List R)) (hW : ∀ p ∈ X, ∀ r ∈ p, r.wf) (hp : ∀ p ∈ X, p.length ≤ 1000000000) (hX : X.length ≤ 1000000000) (hF : X.flatten.length ≤ 1000000000) : VC Try.prog 76 [(false, [.seq 84 ((X).map tRun)])] false [(false, [.lit (.bool (Runs.okRuns X))])] := by
 refine VC.enter Try.func76 rfl Try.ntmps76 (gle rfl) fun E hE => ?_
 refine SV.seq' (SV.region ?_)
 refine sl 0 ms ?_
 refine SV.nil (SV.tn (SV.seq' (SV.seq' (SV.region ?_))))
 refine sl 0 (mv (V.one (.ro _))) ?_
 refine sl 0 (ok_len (lf := .ro _) rfl elt_impl_Run.und rfl rfl) ?_
 refine sl 0 ms ?_
 refine SV.nil (SV.tn (SV.block ?_))
 refine SV.loopF (X := Nat) (fun (σ : VS) t => ((((VS.nil.put 2 (σ.tm 2)).put 5 (σ.tm 5)).put 6 (σ.tm 6)).put 7 (V.flat false [.sc (.int .i64 ((t : Int)))]))) (fun t => t ≤ X.length ∧ ∀ u p, u < t → X[u]? = some p → Runs.okRun p = true) (fun t => X.length - t) ?_ ?_
 ·skip
  refine SV.again (fun i => [].getD i 0) 0 (⟨Nat.zero_le _, fun u p h => absurd h (Nat.not_lt_zero u)⟩) (pins hE rfl rfl) (VS.le.mk' (le_put (le_put (le_put (le_put le_nil (V.le.keep (ag := false) (xs := [.sc _]) (ys := [.sc _]) rfl rfl ⟨rfl, trivial⟩)) (V.le.keep (ag := false) (xs := [.ro _]) (ys := [.ro _]) rfl rfl ⟨rfl, trivial⟩)) (V.le.keep (ag := false) (xs := [.sc _]) (ys := [.sc _]) rfl rfl ⟨rfl, trivial⟩)) (V.le.keep (ag := false) (xs := [.sc _]) (ys := [.sc _]) rfl rfl ⟨(by first | rfl | (show Leaf.sc _ = Leaf.sc _; refine congrArg Leaf.sc ?_; first | rfl | go_num | (simp [cntAll]; done)) | (simp [cntAll]; done) | (simp; omega)), trivial⟩)) trivial trivial nil_ob (fun i j hi hj e => absurd hi (Nat.not_lt_zero i)))
 ·rintro t ⟨ht, hb⟩
  refine SV.seq' (SV.region ?_)
  refine sl 0 (s2 (.tmp 7) (.tmp 6)) ?_
  refine SV.nil (SV.tn (SV.seq' ?_))
  refine SV.cond rfl (fun hc0 => ?_) (fun hc0 => ?_)
  ·skip   -- c0.T
   have htl : t < X.length := by simpa using hc0
   obtain ⟨p, hx⟩ : ∃ p, X[t]? = some p := ⟨_, List.getElem?_eq_getElem htl⟩
   refine SV.skip (SV.tn (SV.seq' (SV.block (SV.seq' (SV.region ?_)))))
   refine sl 0 (ok_index (n := 1) (lf := .ro _) rfl elt_impl_Run.und sz_impl_Run rfl rfl rfl (map_at hx)) ?_
   refine sl 0 (ok_load_rp (ag := true) (m := 1) (ys := [.ro _]) rfl rfl agg_impl_Run sz_impl_Run (fun h => by cases h) (gle rfl) rfl) ?_
   refine sm (ok_alloc (kk := 0) (xs := [.nl _]) rfl rfl zero_impl_Run ⟨rfl, ⟨3, by decide, sz_impl_Row⟩, trivial⟩ rfl (gle rfl)) ?_
   refine so (st (ag := true) [.ro _] [.ro _] sz_impl_Run (fun h => by cases h)) ?_
   refine SV.nil (SV.tn (SV.seq' (SV.region ?_)))
   refine sl 1 (fb fld_impl_Run_0) ?_
   refine sl 1 (lb 0 0 [.ro _] agg_s_impl_Row sz_s_impl_Row (fun _ => rfl)) ?_
   refine sl 1 (ok_len (lf := .ro _) rfl elt_impl_Row.und rfl rfl) ?_
   refine sl 1 (s2 (.tmp 13) (.const ((Value.int IntKind.i64 0)))) ?_
   refine sl 1 ms ?_
   refine SV.split (d := 15) rfl (fun hg0 => ?_) (fun hg0 => ?_)
   ·skip   -- g0.T
    refine sn ?_
    refine sn ?_
    refine sn ?_
    refine sn ?_
    refine sl 1 pt ?_
    refine sl 1 ms ?_
    refine sn ?_
    refine sn ?_
    refine sn ?_
    refine sn ?_
    refine sl 1 pt ?_
    refine SV.nil (SV.tn ?_)
    refine SV.cond rfl (fun hc1 => ?_) (fun hc1 => ?_)
    ·skip   -- c1.T
     have hbad : Runs.okRun p = false := by
      rw [Bool.eq_false_iff]
      intro h
      rw [okRun_eq] at h
      simp only [Bool.and_eq_true, decide_eq_true_eq] at h
      obtain ⟨h1, h2, h3⟩ := h
      simp at hg0; first | omega | (simp [hg0] at h1; done)
     have hno : Runs.okRuns X = false := okRuns_no hx hbad
     refine SV.seq' (SV.region ?_)
     refine sl 1 ms ?_
     refine SV.nil (SV.tn (SV.ret (SV.br (SV.tr (SV.tr (SV.br (SV.tr ?_)))))))
     refine d1 (.sc _) Try.results76 ?_ <;> (refine lbq ?_; rw [hno])
    ·skip   -- c1.F
     cases hc1
   ·skip   -- g0.F
    refine sy 1 (fb fld_impl_Run_0) ?_
    refine sy 1 (lb 0 0 [.ro _] agg_s_impl_Row sz_s_impl_Row (fun _ => rfl)) ?_
    refine SV.opY (OpMk.ok (cl [(false, [.sc _])] rfl Try.func55 (vasc_i p (hW p (List.mem_of_getElem? hx)) (hp p (List.mem_of_getElem? hx))) ⟨⟨[.ro _], rfl, ⟨rfl, trivial⟩⟩, trivial⟩)) rfl rfl rfl (gle rfl) rfl rfl ?_
    refine sy 1 (s1 (.tmp 18)) ?_
    refine sl 1 pf ?_
    refine sl 1 ms ?_
    refine SV.split (d := 21) rfl (fun hg1 => ?_) (fun hg1 => ?_)
    ·skip   -- g1.T
     refine sn ?_
     refine sn ?_
     refine sn ?_
     refine sn ?_
     refine sl 1 pt ?_
     refine SV.nil (SV.tn ?_)
     refine SV.cond rfl (fun hc2 => ?_) (fun hc2 => ?_)
     ·skip   -- c2.T
      have hbad : Runs.okRun p = false := by
       rw [Bool.eq_false_iff]
       intro h
       rw [okRun_eq] at h
       simp only [Bool.and_eq_true, decide_eq_true_eq] at h
       obtain ⟨h1, h2, h3⟩ := h
       rw [h2] at hg1; cases hg1
      have hno : Runs.okRuns X = false := okRuns_no hx hbad
      refine SV.seq' (SV.region ?_)
      refine sl 1 ms ?_
      refine SV.nil (SV.tn (SV.ret (SV.br (SV.tr (SV.tr (SV.br (SV.tr ?_)))))))
      refine d1 (.sc _) Try.results76 ?_ <;> (refine lbq ?_; rw [hno])
     ·skip   -- c2.F
      cases hc2
    ·skip   -- g1.F
     refine sy 1 (fb fld_impl_Run_0) ?_
     refine sy 1 (lb 0 0 [.ro _] agg_s_impl_Row sz_s_impl_Row (fun _ => rfl)) ?_
     refine SV.opY (OpMk.ok (cl [(false, [.sc _])] rfl Try.func64 (vares_i p (hW p (List.mem_of_getElem? hx)) (hp p (List.mem_of_getElem? hx))) ⟨⟨[.ro _], rfl, ⟨rfl, trivial⟩⟩, trivial⟩)) rfl rfl rfl (gle rfl) rfl rfl ?_
     refine sy 1 (s1 (.tmp 24)) ?_
     refine sl 1 pf ?_
     refine SV.nil (SV.tn ?_)
     refine SV.cond rfl (fun hc3 => ?_) (fun hc3 => ?_)
     ·skip   -- c3.T
      have hbad : Runs.okRun p = false := by
       rw [Bool.eq_false_iff]
       intro h
       rw [okRun_eq] at h
       simp only [Bool.and_eq_true, decide_eq_true_eq] at h
       obtain ⟨h1, h2, h3⟩ := h
       rw [h3] at hc3; cases hc3
      have hno : Runs.okRuns X = false := okRuns_no hx hbad
      refine SV.seq' (SV.region ?_)
      refine sl 1 ms ?_
      refine SV.nil (SV.tn (SV.ret (SV.br (SV.tr (SV.tr (SV.br (SV.tr ?_)))))))
      refine d1 (.sc _) Try.results76 ?_ <;> (refine lbq ?_; rw [hno])
     ·skip   -- c3.F
      have hgood : Runs.okRun p = true := by
       rw [okRun_eq]
       simp only [Bool.and_eq_true, decide_eq_true_eq]
       refine ⟨?_, by simpa using hg1, by simpa using hc3⟩
       rcases Nat.eq_zero_or_pos p.length with h | h; (exfalso; simp [h] at hg0); (exact h)
      refine SV.skip (SV.bn (SV.tn (SV.region ?_)))
      refine sl 1 (s2 (.tmp 7) (.const ((Value.int IntKind.i64 1)))) ?_
      refine sl 1 ms ?_
      refine SV.nil (SV.tn ?_)
      refine SV.again (fun i => [].getD i 0) (t + 1) (⟨⟨by omega, fun u q hu hq => by rcases Nat.lt_or_ge u t with h1 | h1; (exact hb u q h1 hq); (have h2 : u = t := (by omega); subst h2; rw [hx] at hq; cases hq; exact hgood)⟩, by omega⟩) (pins hE rfl rfl) (VS.le.mk' (le_put (le_put (le_put (le_put le_nil (V.le.keep (ag := false) (xs := [.sc _]) (ys := [.sc _]) rfl rfl ⟨rfl, trivial⟩)) (V.le.keep (ag := false) (xs := [.ro _]) (ys := [.ro _]) rfl rfl ⟨rfl, trivial⟩)) (V.le.keep (ag := false) (xs := [.sc _]) (ys := [.sc _]) rfl rfl ⟨rfl, trivial⟩)) (V.le.keep (ag := false) (xs := [.sc _]) (ys := [.sc _]) rfl rfl ⟨(by first | rfl | (show Leaf.sc _ = Leaf.sc _; refine congrArg Leaf.sc ?_; first | rfl | go_num | (simp [cntAll]; done)) | (simp [cntAll]; done) | (simp; omega)), trivial⟩)) trivial trivial nil_ob (fun i j hi hj e => absurd hi (Nat.not_lt_zero i)))
  ·skip   -- c0.F
   have hte : ¬ t < X.length := by simpa using hc0
   have hno : Runs.okRuns X = true := okRuns_all fun u p hu hx => hb u p (by omega) hx
   refine SV.exit (SV.te (SV.te (SV.bh (SV.tn (SV.seq' (SV.region ?_))))))
   refine sl 0 ms ?_
   refine SV.nil (SV.tn (SV.ret ?_))
   refine d1 (.sc _) Try.results76 ?_ <;> (refine lbq ?_; rw [hno])
end Go.Proofs.Ytpnbnbhifpcelaa
/- What the program asks of sorters: its parts: told by trees. -/
namespace Go.Proofs.Ytpnbnbhifpcelaa
open Go Go.RowKit V
set_option linter.unusedVariables false
theorem follow_all {o h : List R} (e : o.length = 0 ∨ h.length = 0) : (h.all fun r => !Runs.later o r) = true := by
 rw [List.all_eq_true]
 intro r hr
 rcases e with e | e
 ·rw [later_nil e]; rfl
 ·rw [List.eq_nil_of_length_eq_zero e] at hr; cases hr
theorem follow_least {o h : List R} {x d : R} (hx : h[Runs.minAt h h.length]? = some x) (hd : o[o.length - 1]? = some d) : (h.all fun r => !Runs.later o r) = decide (0 ≤ R.cmp x d) := by
 have hl : 0 < h.length := by
  rcases Nat.eq_zero_or_pos h.length with e | e
  ·rw [List.getElem?_eq_none (by omega)] at hx; cases hx
  ·exact e
 rw [Bool.eq_iff_iff, List.all_eq_true, decide_eq_true_eq]
 constructor
 ·intro h1
  have h2 := h1 x (List.mem_of_getElem? hx)
  rw [later_at hd] at h2
  simp at h2
  exact h2
 ·intro h1 r hr
  obtain ⟨u, hu, rfl⟩ := List.mem_iff_getElem.1 hr
  have h2 := Runs.minAt_least (l := h) (Nat.le_refl _) hl hx u h[u] hu (List.getElem?_eq_getElem hu)
  rw [later_at hd]
  have h3 := R.cmp_anti x d
  have h4 : R.cmp d x ≤ 0 := by omega
  have h5 := R.cmp_trans h4 h2
  have h6 := R.cmp_anti d h[u]
  simp
  omega
namespace SorterD
def mergeB (s : SorterD) : Bool := decide (2 ≤ s.fRuns.length ∧ (0 ≤ s.fLeftPos ∧ s.fLeftPos ≤ (fst s).length) ∧ 0 ≤ s.fRightPos ∧ s.fRightPos ≤ (snd s).length) &&
 (decide (s.fOutput = Runs.merge2 ((fst s).take s.fLeftPos.toNat) ((snd s).take s.fRightPos.toNat)) && decide (s.fOutput = (Runs.merge2 (fst s) (snd s)).take (Runs.merge2 ((fst s).take s.fLeftPos.toNat) ((snd s).take s.fRightPos.toNat)).length))
def allB (s : SorterD) : Bool := okRest s && R.eqBags s.fRuns.flatten s.fInput
def phaseB (s : SorterD) : Bool := if s.fPhase = 1 then okRead s else okRest s && if s.fPhase = 2 then okMerge s else okEnd s
theorem ok_phase (s : SorterD) : ok s = (okBase s && phaseB s) := rfl
theorem phase_one {s : SorterD} (h : s.fPhase = 1) : phaseB s = okRead s := if_pos h
theorem phase_two {s : SorterD} (h1 : ¬ s.fPhase = 1) (h : s.fPhase = 2) : phaseB s = (allB s && mergeB s) := by
 unfold phaseB allB
 rw [if_neg h1, if_pos h, Bool.and_assoc]
 congr 1
 unfold okMerge mergeB
 by_cases hb : 2 ≤ s.fRuns.length ∧ (0 ≤ s.fLeftPos ∧ s.fLeftPos ≤ (fst s).length) ∧ 0 ≤ s.fRightPos ∧ s.fRightPos ≤ (snd s).length
 ·rw [decide_eq_true hb, Bool.true_and, Bool.true_and]
  have e : (Runs.merge2 ((fst s).take s.fLeftPos.toNat) ((snd s).take s.fRightPos.toNat)).length = (s.fLeftPos + s.fRightPos).toNat := by
   rw [Runs.merge2_length, List.length_take, List.length_take]
   omega
  rw [e, Bool.eq_iff_iff]
  simp only [Bool.and_eq_true, decide_eq_true_eq]
  exact ⟨fun ⟨h2, h3, h4⟩ => ⟨h4, h3.symm, h2⟩, fun ⟨h4, h3, h2⟩ => ⟨h2, h3.symm, h4⟩⟩
 ·rw [decide_eq_false hb, Bool.false_and, Bool.false_and, Bool.and_false]
theorem phase_tre {s : SorterD} (h1 : ¬ s.fPhase = 1) (h2 : ¬ s.fPhase = 2) (h : s.fPhase = 3) : phaseB s = (allB s && (decide (s.fRightPos = 0 ∧ s.fOutput.length = 0) && (decide (s.fRuns.length = 1) && decide (0 ≤ s.fLeftPos ∧ s.fLeftPos ≤ (s.fInput.length : Int) - 1)))) := by
 unfold phaseB allB okEnd
 rw [if_neg h1, if_neg h2, if_pos h, Bool.and_assoc]
 congr 1
 rw [Bool.eq_iff_iff]
 simp only [Bool.and_eq_true, decide_eq_true_eq]
 exact ⟨fun ⟨⟨a1, a2, a3⟩, a4, a5, a6⟩ => ⟨a4, ⟨a2, a3⟩, a5, a6⟩, fun ⟨a4, ⟨a2, a3⟩, a5, a6⟩ => ⟨⟨by omega, a2, a3⟩, a4, a5, a6⟩⟩
theorem phase_four {s : SorterD} (h1 : ¬ s.fPhase = 1) (h2 : ¬ s.fPhase = 2) (h3 : ¬ s.fPhase = 3) (h : s.fPhase = 4) : phaseB s = (allB s && (decide (s.fRightPos = 0 ∧ s.fOutput.length = 0) && (decide (s.fRuns.length ≤ 1) && decide (s.fLeftPos = s.fInput.length)))) := by
 unfold phaseB allB okEnd
 rw [if_neg h1, if_neg h2, if_neg h3, Bool.and_assoc]
 congr 1
 rw [Bool.eq_iff_iff]
 simp only [Bool.and_eq_true, decide_eq_true_eq]
 exact ⟨fun ⟨⟨a1, a2, a3⟩, a4, a5, a6⟩ => ⟨a4, ⟨a2, a3⟩, a1, a6⟩, fun ⟨a4, ⟨a2, a3⟩, a5, a6⟩ => ⟨⟨a5, a2, a3⟩, a4, h, a6⟩⟩
theorem phase_none {s : SorterD} (h1 : ¬ s.fPhase = 1) (h2 : ¬ s.fPhase = 2) (h3 : ¬ s.fPhase = 3) (h : ¬ s.fPhase = 4) : phaseB s = false := by
 unfold phaseB okEnd
 rw [if_neg h1, if_neg h2, if_neg h3, decide_eq_false (p := s.fPhase = 4 ∧ s.fLeftPos = s.fInput.length) (fun e => h e.1), Bool.and_false, Bool.and_false, Bool.and_false]
end SorterD
set_option maxRecDepth 100000 in
set_option maxHeartbeats 2000000 in
theorem vfollow_i (o h : List R) (hO : o.length ≤ 1000000000) (hH : h.length ≤ 1000000000) : VC Try.prog 77 [(false, [.seq 72 ((o).map tRow)]), (false, [.seq 72 ((h).map tRow)])] false [(false, [.lit (.bool ((h.all fun r => !Runs.later o r)))])] := by
 refine VC.enter Try.func77 rfl Try.ntmps77 (gle rfl) fun E hE => ?_
 refine SV.seq' (SV.region ?_)
 refine sl 0 ms ?_
 refine SV.nil (SV.tn (SV.seq' (SV.seq' (SV.region ?_))))
 refine sl 0 (mv (V.one (.ro _))) ?_
 refine sl 0 (ok_len (lf := .ro _) rfl elt_impl_Row.und rfl rfl) ?_
 refine sl 0 (s2 (.tmp 6) (.const ((Value.int IntKind.i64 0)))) ?_
 refine sl 0 ms ?_
 refine SV.split (d := 8) rfl (fun hg0 => ?_) (fun hg0 => ?_)
 ·skip   -- g0.T
  have hno := follow_all (o := o) (h := h) (.inl (by first | (simpa using hg0) | (simp at hg0; omega) | (simp at hg0; rw [hg0]; rfl)))
  refine sn ?_
  refine sn ?_
  refine sn ?_
  refine sl 0 pt ?_
  refine SV.nil (SV.tn ?_)
  refine SV.cond rfl (fun hc0 => ?_) (fun hc0 => ?_)
  ·skip   -- c0.T
   refine SV.seq' (SV.region ?_)
   refine sl 0 ms ?_
   refine SV.nil (SV.tn (SV.ret (SV.tr ?_)))
   refine d1 (.sc _) Try.results77 ?_ <;> (refine lbq ?_; (rw [hno]; first | done | rfl | (simp; done)))
  ·skip   -- c0.F
   cases hc0
 ·skip   -- g0.F
  have hol : 0 < o.length := by rcases Nat.eq_zero_or_pos o.length with e | e; (exfalso; simp [e] at hg0); (exact e)
  obtain ⟨d, hdd⟩ : ∃ d, o[o.length - 1]? = some d := ⟨_, List.getElem?_eq_getElem (by omega)⟩
  refine sy 0 (mv (V.one (.ro _))) ?_
  refine sy 0 (ok_len (lf := .ro _) rfl elt_impl_Row.und rfl rfl) ?_
  refine sy 0 (s2 (.tmp 10) (.const ((Value.int IntKind.i64 0)))) ?_
  refine sl 0 pf ?_
  refine SV.nil (SV.tn ?_)
  refine SV.cond rfl (fun hc1 => ?_) (fun hc1 => ?_)
  ·skip   -- c1.T
   have hno := follow_all (o := o) (h := h) (.inr (by first | (simpa using hc1) | (simp at hc1; omega) | (simp at hc1; rw [hc1]; rfl)))
   refine SV.seq' (SV.region ?_)
   refine sl 0 ms ?_
   refine SV.nil (SV.tn (SV.ret (SV.tr ?_)))
   refine d1 (.sc _) Try.results77 ?_ <;> (refine lbq ?_; (rw [hno]; first | done | rfl | (simp; done)))
  ·skip   -- c1.F
   have hhl : 0 < h.length := by rcases Nat.eq_zero_or_pos h.length with e | e; (exfalso; simp [e] at hc1); (exact e)
   have hvi := vidx_i h (by omega)
   rw [idxMin_pos hhl] at hvi
   obtain ⟨x, hx⟩ : ∃ x, h[Runs.minAt h h.length]? = some x := ⟨_, List.getElem?_eq_getElem (Runs.minAt_lt hhl)⟩
   have hno := follow_least hx hdd
   refine SV.skip (SV.tn (SV.seq' ?_))
   refine SV.draw [.q 0, .q 1, .q 5, .q 6, .q 7, .q 8, .q 9, .q 10, .m 2, .q 3, .q 4, .m 11, .q 12, .q 13] [] (by kernel_rfl) (by kernel_rfl) ?_
   refine dq rfl (mv (V.one (.ro _))) ?_
   refine dq rfl (mv (V.one (.ro _))) ?_
   refine dq rfl (mv (V.one (.ro _))) ?_
   refine dq rfl (mv (V.one (.ro _))) ?_
   refine dq rfl (ok_len (lf := .ro _) rfl elt_impl_Row.und rfl rfl) ?_
   refine dq rfl (ok_s2 (v := .int .i64 ((o.length - 1 : Nat) : Int)) (x := .tmp 20) (x' := .const ((Value.int IntKind.i64 1))) (VScal.one rfl) (VScal.one rfl) (fun ρ h1 h2 w => by go_simp; (try simp only [List.length_map]); first | (rw [IntWalk.i64_left, IntWalk.wrap64_in _ ⟨by omega, by omega⟩]; first | rfl | omega | (congr 1; omega)) | (congr 1; omega)) rfl) ?_
   refine dq rfl (ok_index (n := 3) (lf := .ro _) rfl elt_impl_Row.und sz_impl_Row rfl rfl rfl (map_at hdd)) ?_
   refine dq rfl (ok_load_rp (ag := true) (m := 3) (ys := [.sc _, .sc _, .sc _]) rfl rfl agg_impl_Row sz_impl_Row (fun h => by cases h) (gle rfl) rfl) ?_
   refine DW.m [] rfl (cl [(false, [.sc _])] rfl Try.func113 (hvi) ⟨⟨[.ro _], rfl, ⟨rfl, trivial⟩⟩, trivial⟩) rfl (gle rfl) (gle rfl) (.inl rfl) (fun j hj => by cases hj) ?_
   refine dq rfl (ok_index (n := 3) (lf := .ro _) rfl elt_impl_Row.und sz_impl_Row rfl rfl rfl (map_at hx)) ?_
   refine dq rfl (ok_load_rp (ag := true) (m := 3) (ys := [.sc _, .sc _, .sc _]) rfl rfl agg_impl_Row sz_impl_Row (fun h => by cases h) (gle rfl) rfl) ?_
   refine DW.m [] rfl (cl [(false, [.sc _])] rfl Try.func109 (vcmp_i x d) ⟨⟨[.sc _, .sc _, .sc _], rfl, ⟨rfl, rfl, rfl, trivial⟩⟩, ⟨[.sc _, .sc _, .sc _], rfl, ⟨rfl, rfl, rfl, trivial⟩⟩, trivial⟩) rfl (gle rfl) (gle rfl) (.inl rfl) (fun j hj => by cases hj) ?_
   refine dq rfl (s2 (.tmp 24) (.const ((Value.int IntKind.i64 0)))) ?_
   refine dq rfl ms ?_
   refine DW.stores ?_
   refine SV.zend ?_
   refine SV.tn (SV.ret ?_)
   refine d1 (.sc _) Try.results77 ?_ <;> (refine lbq ?_; (rw [hno]; first | done | rfl | (simp; done)))
set_option maxRecDepth 100000 in
set_option maxHeartbeats 2000000 in
theorem vready_i (s : SorterD) : VC Try.prog 117 [(true, tSorter s)] false [(false, [.lit (.bool (decide (s.fRightPos = 0 ∧ s.fOutput.length = 0)))])] := by
 refine VC.enter Try.func117 rfl Try.ntmps117 (gle rfl) fun E hE => ?_
 refine SV.seq' (SV.region ?_)
 refine sm (ok_box (kk := 0) (ag := true) (xs := [.ro _, .sc _, .ro _, .ro _, .ro _, .ro _, .sc _, .sc _, .sc _, .sc _]) rfl rfl rfl (fun h => by cases h) rfl rfl (gle rfl)) ?_
 refine sl 1 ms ?_
 refine SV.nil (SV.tn (SV.seq' (SV.region ?_)))
 refine sl 1 (fb fld_impl_Sorter_7) ?_
 refine sl 1 (lb 0 7 [.sc _] agg_int sz_int (fun _ => rfl)) ?_
 refine sl 1 (s2 (.tmp 4) (.const ((Value.int IntKind.i64 0)))) ?_
 refine sl 1 ms ?_
 refine SV.split (d := 6) rfl (fun hg0 => ?_) (fun hg0 => ?_)
 ·skip   -- g0.T
  have h1 : s.fRightPos = 0 := by simpa using hg0
  have hno : decide (s.fRightPos = 0 ∧ s.fOutput.length = 0) = decide (s.fOutput.length = 0) := by rw [Bool.eq_iff_iff]; simp [h1]
  refine sy 1 (fb fld_impl_Sorter_4) ?_
  refine sy 1 (lb 0 4 [.ro _] agg_s_impl_Row sz_s_impl_Row (fun _ => rfl)) ?_
  refine sy 1 (ok_len (lf := .ro _) rfl elt_impl_Row.und rfl rfl) ?_
  refine sy 1 (s2 (.tmp 9) (.const ((Value.int IntKind.i64 0)))) ?_
  refine sl 1 pt ?_
  refine sl 1 ms ?_
  refine SV.nil (SV.tn (SV.ret ?_))
  refine d1 (.sc _) Try.results117 ?_ <;> (refine lbq ?_; (rw [hno]; first | done | rfl | (rw [Bool.eq_iff_iff]; simp; done) | (simp; done)))
 ·skip   -- g0.F
  have h1 : ¬ s.fRightPos = 0 := by simpa using hg0
  have hno : decide (s.fRightPos = 0 ∧ s.fOutput.length = 0) = false := decide_eq_false fun e => h1 e.1
  refine sn ?_
  refine sn ?_
  refine sn ?_
  refine sn ?_
  refine sl 1 pf ?_
  refine sl 1 ms ?_
  refine SV.nil (SV.tn (SV.ret ?_))
  refine d1 (.sc _) Try.results117 ?_ <;> (refine lbq ?_; (rw [hno]; first | done | rfl | (rw [Bool.eq_iff_iff]; simp; done) | (simp; done)))
set_option maxRecDepth 100000 in
set_option maxHeartbeats 2000000 in
theorem vall_i (s : SorterD) (hW : s.Wf) : VC Try.prog 115 [(true, tSorter s)] false [(false, [.lit (.bool (SorterD.allB s))])] := by
 refine VC.enter Try.func115 rfl Try.ntmps115 (gle rfl) fun E hE => ?_
 have hsz := hW.size
 refine SV.seq' (SV.region ?_)
 refine sm (ok_box (kk := 0) (ag := true) (xs := [.ro _, .sc _, .ro _, .ro _, .ro _, .ro _, .sc _, .sc _, .sc _, .sc _]) rfl rfl rfl (fun h => by cases h) rfl rfl (gle rfl)) ?_
 refine sl 1 ms ?_
 refine SV.nil (SV.tn (SV.seq' ?_))
 refine SV.draw [.q 0, .q 1, .q 2, .q 3, .q 4, .q 5, .q 6, .q 7, .q 8, .q 9, .q 10, .q 11, .q 12, .q 13, .q 14, .q 15, .q 16, .q 17, .q 18, .q 19, .q 20, .q 22, .q 23, .m 21, .m 24, .q 25, .q 26] [] (by kernel_rfl) (by kernel_rfl) ?_
 refine dq rfl (fb fld_impl_Sorter_1) ?_
 refine dq rfl (lb 0 1 [.sc _] agg_int sz_int (fun _ => rfl)) ?_
 refine dq rfl (fb fld_impl_Sorter_0) ?_
 refine dq rfl (lb 0 0 [.ro _] agg_s_impl_Row sz_s_impl_Row (fun _ => rfl)) ?_
 refine dq rfl (ok_len (lf := .ro _) rfl elt_impl_Row.und rfl rfl) ?_
 refine dq rfl (s2 (.tmp 4) (.tmp 7)) ?_
 refine dq rfl ms ?_
 refine DW.split (d := 9) rfl (fun hg0 => ?_) (fun hg0 => ?_)
 ·skip   -- g0.T
  have h1 : s.fPos = s.fInput.length := by simpa using hg0
  refine dy rfl (fb fld_impl_Sorter_2) ?_
  refine dy rfl (lb 0 2 [.ro _] agg_s_impl_Row sz_s_impl_Row (fun _ => rfl)) ?_
  refine dy rfl (ok_len (lf := .ro _) rfl elt_impl_Row.und rfl rfl) ?_
  refine dy rfl (s2 (.tmp 12) (.const ((Value.int IntKind.i64 0)))) ?_
  refine dq rfl pt ?_
  refine dq rfl ms ?_
  refine DW.split (d := 15) rfl (fun hg1 => ?_) (fun hg1 => ?_)
  ·skip   -- g1.T
   have h2 : s.fHeap.length = 0 := by first | (simpa using hg1) | (simp at hg1; omega) | (simp at hg1; rw [hg1]; rfl)
   refine dy rfl (fb fld_impl_Sorter_3) ?_
   refine dy rfl (lb 0 3 [.ro _] agg_s_impl_Row sz_s_impl_Row (fun _ => rfl)) ?_
   refine dy rfl (ok_len (lf := .ro _) rfl elt_impl_Row.und rfl rfl) ?_
   refine dy rfl (s2 (.tmp 18) (.const ((Value.int IntKind.i64 0)))) ?_
   refine dq rfl pt ?_
   refine dq rfl ms ?_
   refine DW.split (d := 21) rfl (fun hg2 => ?_) (fun hg2 => ?_)
   ·skip   -- g2.T
    have h3 : s.fDeferred.length = 0 := by first | (simpa using hg2) | (simp at hg2; omega) | (simp at hg2; rw [hg2]; rfl)
    have hno : SorterD.allB s = R.eqBags s.fRuns.flatten s.fInput := by
     unfold SorterD.allB SorterD.okRest
     rw [decide_eq_true ⟨h1, by omega⟩, Bool.true_and]
    refine dy rfl (fb fld_impl_Sorter_5) ?_
    refine dy rfl (lb 0 5 [.ro _] agg_s_impl_Run sz_s_impl_Run (fun _ => rfl)) ?_
    refine dy rfl (fb fld_impl_Sorter_0) ?_
    refine dy rfl (lb 0 0 [.ro _] agg_s_impl_Row sz_s_impl_Row (fun _ => rfl)) ?_
    refine DW.m' [0] rfl (cl [(false, [.hd 0])] rfl Try.func100 (vflatB_i s.fRuns hW.runs (fun p hp => by have := hW.run hp; omega) (by omega) (by omega)) ⟨⟨[.ro _], rfl, ⟨rfl, trivial⟩⟩, trivial⟩) (fun hr => wantedY hr rfl rfl rfl (gle rfl) rfl rfl) (gle rfl) (gle rfl) (.inl rfl) (fun j hj => by
      simp only [List.mem_cons, List.not_mem_nil, or_false] at hj
      rcases hj with rfl
      ·exact .inr ⟨(gle rfl), (gle rfl), .inl rfl⟩) ?_
    refine DW.m' [0] rfl (cl [(false, [.sc _])] rfl Try.func130 (vbags_i s.fRuns.flatten s.fInput (fun r hr => by obtain ⟨p, hp, hr2⟩ := List.mem_flatten.1 hr; exact hW.runs p hp r hr2) hW.inp (by omega) (by omega)) ⟨⟨[.hd 0], rfl, ⟨rfl, trivial⟩⟩, ⟨[.ro _], rfl, ⟨rfl, trivial⟩⟩, trivial⟩) (fun hr => wantedY hr rfl rfl rfl (gle rfl) rfl rfl) (gle rfl) (gle rfl) (.inl rfl) (fun j hj => by
      simp only [List.mem_cons, List.not_mem_nil, or_false] at hj
      rcases hj with rfl
      ·exact .inl (by decide)) ?_
    refine dq rfl pt ?_
    refine dq rfl ms ?_
    refine DW.stores ?_
    refine SV.zend ?_
    refine SV.tn (SV.ret ?_)
    refine d1 (.sc _) Try.results115 ?_ <;> (refine lbq ?_; (rw [hno]))
   ·skip   -- g2.F
    have h3 : ¬ s.fDeferred.length = 0 := fun e => by simp [e] at hg2
    have hno : SorterD.allB s = false := by
     unfold SorterD.allB SorterD.okRest
     rw [decide_eq_false (fun e => by have := e.2; omega), Bool.false_and]
    refine dn ?_
    refine dn ?_
    refine dn ?_
    refine dn ?_
    refine DW.mN rfl rfl rfl rfl (gle rfl) rfl rfl rfl (gle rfl) ?_
    refine DW.mN rfl rfl rfl rfl (gle rfl) rfl rfl rfl (gle rfl) ?_
    refine dq rfl pf ?_
    refine dq rfl ms ?_
    refine DW.stores ?_
    refine SV.zend ?_
    refine SV.tn (SV.ret ?_)
    refine d1 (.sc _) Try.results115 ?_ <;> (refine lbq ?_; (rw [hno]))
  ·skip   -- g1.F
   have h2 : ¬ s.fHeap.length = 0 := fun e => by simp [e] at hg1
   have hno : SorterD.allB s = false := by
    unfold SorterD.allB SorterD.okRest
    rw [decide_eq_false (fun e => by have := e.2; omega), Bool.false_and]
   refine dn ?_
   refine dn ?_
   refine dn ?_
   refine dn ?_
   refine dq rfl pf ?_
   refine dq rfl ms ?_
   refine dn ?_
   refine dn ?_
   refine dn ?_
   refine dn ?_
   refine DW.mN rfl rfl rfl rfl (gle rfl) rfl rfl rfl (gle rfl) ?_
   refine DW.mN rfl rfl rfl rfl (gle rfl) rfl rfl rfl (gle rfl) ?_
   refine dq rfl pf ?_
   refine dq rfl ms ?_
   refine DW.stores ?_
   refine SV.zend ?_
   refine SV.tn (SV.ret ?_)
   refine d1 (.sc _) Try.results115 ?_ <;> (refine lbq ?_; (rw [hno]))
 ·skip   -- g0.F
  have h1 : ¬ s.fPos = s.fInput.length := by simpa using hg0
  have hno : SorterD.allB s = false := by
   unfold SorterD.allB SorterD.okRest
   rw [decide_eq_false (fun e => by exact h1 e.1), Bool.false_and]
  refine dn ?_
  refine dn ?_
  refine dn ?_
  refine dn ?_
  refine dq rfl pf ?_
  refine dq rfl ms ?_
  refine dn ?_
  refine dn ?_
  refine dn ?_
  refine dn ?_
  refine dq rfl pf ?_
  refine dq rfl ms ?_
  refine dn ?_
  refine dn ?_
  refine dn ?_
  refine dn ?_
  refine DW.mN rfl rfl rfl rfl (gle rfl) rfl rfl rfl (gle rfl) ?_
  refine DW.mN rfl rfl rfl rfl (gle rfl) rfl rfl rfl (gle rfl) ?_
  refine dq rfl pf ?_
  refine dq rfl ms ?_
  refine DW.stores ?_
  refine SV.zend ?_
  refine SV.tn (SV.ret ?_)
  refine d1 (.sc _) Try.results115 ?_ <;> (refine lbq ?_; (rw [hno]))
set_option maxRecDepth 100000 in
set_option maxHeartbeats 2000000 in
theorem vmergeB_i (s : SorterD) (hW : s.Wf) : VC Try.prog 116 [(true, tSorter s)] false [(false, [.lit (.bool (SorterD.mergeB s))])] := by
 refine VC.enter Try.func116 rfl Try.ntmps116 (gle rfl) fun E hE => ?_
 have hsz := hW.size
 refine SV.seq' (SV.region ?_)
 refine sm (ok_box (kk := 0) (ag := true) (xs := [.ro _, .sc _, .ro _, .ro _, .ro _, .ro _, .sc _, .sc _, .sc _, .sc _]) rfl rfl rfl (fun h => by cases h) rfl rfl (gle rfl)) ?_
 refine sl 1 ms ?_
 refine SV.nil (SV.tn (SV.seq' (SV.seq' (SV.region ?_))))
 refine sl 1 (fb fld_impl_Sorter_5) ?_
 refine sl 1 (lb 0 5 [.ro _] agg_s_impl_Run sz_s_impl_Run (fun _ => rfl)) ?_
 refine sl 1 (ok_len (lf := .ro _) rfl elt_impl_Run.und rfl rfl) ?_
 refine sl 1 (s2 (.tmp 9) (.const ((Value.int IntKind.i64 2)))) ?_
 refine SV.nil (SV.tn ?_)
 refine SV.cond rfl (fun hc0 => ?_) (fun hc0 => ?_)
 ·skip   -- c0.T
  have hno : SorterD.mergeB s = false := by
   unfold SorterD.mergeB
   rw [decide_eq_false (fun e => by have h1 := e.1; simp at hc0; omega), Bool.false_and]
  refine SV.seq' (SV.region ?_)
  refine sl 1 ms ?_
  refine SV.nil (SV.tn (SV.ret (SV.tr ?_)))
  refine d1 (.sc _) Try.results116 ?_ <;> (refine lbq ?_; (rw [hno]; first | done | rfl))
 ·skip   -- c0.F
  have h2 : 2 ≤ s.fRuns.length := by simp at hc0; omega
  obtain ⟨p0, hx0⟩ : ∃ p, s.fRuns[0]? = some p := ⟨_, List.getElem?_eq_getElem (by omega)⟩
  obtain ⟨p1, hx1⟩ : ∃ p, s.fRuns[1]? = some p := ⟨_, List.getElem?_eq_getElem (by omega)⟩
  have hf0 : SorterD.fst s = p0 := by unfold SorterD.fst; rw [List.getD_eq_getElem?_getD, hx0]; rfl
  have hf1 : SorterD.snd s = p1 := by unfold SorterD.snd; rw [List.getD_eq_getElem?_getD, hx1]; rfl
  have hq0 := hW.run (List.mem_of_getElem? hx0)
  have hq1 := hW.run (List.mem_of_getElem? hx1)
  refine SV.skip (SV.tn (SV.seq' ?_))
  refine SV.draw [.q 0, .q 1, .q 2, .q 3, .q 4, .q 5, .q 6, .q 7, .q 8, .q 9, .q 10, .q 11] [] (by kernel_rfl) (by kernel_rfl) ?_
  refine dq rfl (fb fld_impl_Sorter_5) ?_
  refine dq rfl (lb 0 5 [.ro _] agg_s_impl_Run sz_s_impl_Run (fun _ => rfl)) ?_
  refine dq rfl (ok_index (n := 1) (lf := .ro _) rfl elt_impl_Run.und sz_impl_Run rfl rfl rfl (map_at hx0)) ?_
  refine dq rfl (ok_field_el (p := .rp _) (off := 0) rfl rfl rfl fld_impl_Run_0) ?_
  refine dq rfl (ok_load_rp (ag := false) (m := 1) (ys := [.ro _]) rfl rfl agg_s_impl_Row sz_s_impl_Row (fun _ => rfl) (gle rfl) rfl) ?_
  refine dq rfl (fb fld_impl_Sorter_5) ?_
  refine dq rfl (lb 0 5 [.ro _] agg_s_impl_Run sz_s_impl_Run (fun _ => rfl)) ?_
  refine dq rfl (ok_index (n := 1) (lf := .ro _) rfl elt_impl_Run.und sz_impl_Run rfl rfl rfl (map_at hx1)) ?_
  refine dq rfl (ok_field_el (p := .rp _) (off := 0) rfl rfl rfl fld_impl_Run_0) ?_
  refine dq rfl (ok_load_rp (ag := false) (m := 1) (ys := [.ro _]) rfl rfl agg_s_impl_Row sz_s_impl_Row (fun _ => rfl) (gle rfl) rfl) ?_
  refine dq rfl (mv (V.one (.ro _))) ?_
  refine dq rfl (mv (V.one (.ro _))) ?_
  refine DW.stores ?_
  refine SV.zend ?_
  refine SV.tn (SV.seq' (SV.seq' (SV.region ?_)))
  refine sl 1 (fb fld_impl_Sorter_6) ?_
  refine sl 1 (lb 0 6 [.sc _] agg_int sz_int (fun _ => rfl)) ?_
  refine sl 1 (mv (V.one (.ro _))) ?_
  refine sl 1 (ok_len (lf := .ro _) rfl elt_impl_Row.und rfl rfl) ?_
  refine sm (cl [(false, [.sc _])] rfl Try.func75 (vupto_i s.fLeftPos ((p0.map tRow).length : Int)) ⟨⟨[.sc _], rfl, ⟨rfl, trivial⟩⟩, ⟨[.sc _], rfl, ⟨rfl, trivial⟩⟩, trivial⟩) ?_
  refine sl 1 (s1 (.tmp 25)) ?_
  refine sl 1 ms ?_
  refine SV.split (d := 27) rfl (fun hg0 => ?_) (fun hg0 => ?_)
  ·skip   -- g0.T
   have hno : SorterD.mergeB s = false := by
    unfold SorterD.mergeB
    rw [decide_eq_false (fun e => by have h1 := e.2.1; rw [hf0] at h1; simp at hg0; omega), Bool.false_and]
   refine sn ?_
   refine sn ?_
   refine sn ?_
   refine sn ?_
   refine sn ?_
   refine sn ?_
   refine sl 1 pt ?_
   refine SV.nil (SV.tn ?_)
   refine SV.cond rfl (fun hc1 => ?_) (fun hc1 => ?_)
   ·skip   -- c1.T
    refine SV.seq' (SV.region ?_)
    refine sl 1 ms ?_
    refine SV.nil (SV.tn (SV.ret (SV.tr ?_)))
    refine d1 (.sc _) Try.results116 ?_ <;> (refine lbq ?_; (rw [hno]; first | done | rfl))
   ·skip   -- c1.F
    cases hc1
  ·skip   -- g0.F
   have hle : 0 ≤ s.fLeftPos ∧ s.fLeftPos ≤ p0.length := by simpa using hg0
   refine sy 1 (fb fld_impl_Sorter_7) ?_
   refine sy 1 (lb 0 7 [.sc _] agg_int sz_int (fun _ => rfl)) ?_
   refine sy 1 (mv (V.one (.ro _))) ?_
   refine sy 1 (ok_len (lf := .ro _) rfl elt_impl_Row.und rfl rfl) ?_
   refine SV.opY (OpMk.ok (cl [(false, [.sc _])] rfl Try.func75 (vupto_i s.fRightPos ((p1.map tRow).length : Int)) ⟨⟨[.sc _], rfl, ⟨rfl, trivial⟩⟩, ⟨[.sc _], rfl, ⟨rfl, trivial⟩⟩, trivial⟩)) rfl rfl rfl (gle rfl) rfl rfl ?_
   refine sy 1 (s1 (.tmp 32)) ?_
   refine sl 1 pf ?_
   refine SV.nil (SV.tn ?_)
   refine SV.cond rfl (fun hc2 => ?_) (fun hc2 => ?_)
   ·skip   -- c2.T
    have hno : SorterD.mergeB s = false := by
     unfold SorterD.mergeB
     rw [decide_eq_false (fun e => by have h1 := e.2.2; rw [hf1] at h1; simp at hc2; omega), Bool.false_and]
    refine SV.seq' (SV.region ?_)
    refine sl 1 ms ?_
    refine SV.nil (SV.tn (SV.ret (SV.tr ?_)))
    refine d1 (.sc _) Try.results116 ?_ <;> (refine lbq ?_; (rw [hno]; first | done | rfl))
   ·skip   -- c2.F
    have hri : 0 ≤ s.fRightPos ∧ s.fRightPos ≤ p1.length := by simpa using hc2
    obtain ⟨a, ha⟩ : ∃ a : Nat, s.fLeftPos = a := ⟨_, (Int.toNat_of_nonneg hle.1).symm⟩
    obtain ⟨b, hb⟩ : ∃ b : Nat, s.fRightPos = b := ⟨_, (Int.toNat_of_nonneg hri.1).symm⟩
    obtain ⟨cm, hcm⟩ : ∃ cm, cm = Runs.merge2 (p0.take a) (p1.take b) := ⟨_, rfl⟩
    have hms := vms_i (p0.take a) (p1.take b) (fun r hr => hW.runs p0 (List.mem_of_getElem? hx0) r (List.mem_of_mem_take hr)) (fun r hr => hW.runs p1 (List.mem_of_getElem? hx1) r (List.mem_of_mem_take hr)) (by rw [List.length_take, List.length_take]; omega)
    rw [← hcm, List.map_take, List.map_take] at hms
    have hcl : cm.length ≤ p0.length + p1.length := by rw [hcm, Runs.merge2_length, List.length_take, List.length_take]; omega
    have hwm : ∀ r ∈ cm, r.wf := fun r hr => by
     rw [hcm] at hr
     rcases List.mem_append.1 ((Runs.merge2_perm _ _).mem_iff.1 hr) with h | h
     ·exact hW.runs p0 (List.mem_of_getElem? hx0) r (List.mem_of_mem_take h)
     ·exact hW.runs p1 (List.mem_of_getElem? hx1) r (List.mem_of_mem_take h)
    have hwn : ∀ r ∈ (Runs.merge2 p0 p1).take (cm.map tRow).length, r.wf := fun r hr => by
     rcases List.mem_append.1 ((Runs.merge2_perm _ _).mem_iff.1 (List.mem_of_mem_take hr)) with h | h
     ·exact hW.runs p0 (List.mem_of_getElem? hx0) r h
     ·exact hW.runs p1 (List.mem_of_getElem? hx1) r h
    have hml := Runs.merge2_length p0 p1
    have heq2 := veqrows_i s.fOutput ((Runs.merge2 p0 p1).take (cm.map tRow).length) hW.out hwn (by omega) (by rw [List.length_take]; omega)
    rw [List.map_take] at heq2
    have hmm : SorterD.mergeB s = (decide (s.fOutput = cm) && decide (s.fOutput = (Runs.merge2 p0 p1).take (cm.map tRow).length)) := by
     unfold SorterD.mergeB
     rw [List.length_map, decide_eq_true (by rw [hf0, hf1]; exact ⟨h2, hle, hri⟩), hf0, hf1, ha, hb, hcm]
     rfl
    refine SV.skip (SV.tn (SV.seq' ?_))
    refine SV.tell (fun (σ : VS) => (((((VS.nil.box 27 [σ.bl 0 0, σ.bl 0 1, σ.bl 0 2, σ.bl 0 3, σ.bl 0 4, σ.bl 0 5, .sc (.int .i64 ((a : Int))), .sc (.int .i64 ((b : Int))), σ.bl 0 8, σ.bl 0 9]).put 1 (V.flat false [.bp 0 0])).put 2 (σ.tm 2)).put 3 (σ.tm 3)).put 4 (σ.tm 4))) ?h ?k
    case k =>
     intro hjn
     refine (fun pp le => SV.weaken (fun i => [].getD i 0) pp le hjn) (pins hE rfl rfl) (VS.le.mk' (le_put (le_put (le_put (le_put (le_box le_nil) (V.le.keep (ag := false) (xs := [.bp 0 0]) (ys := [.bp 0 0]) rfl rfl ⟨⟨rfl, (gle rfl)⟩, trivial⟩)) (V.le.keep (ag := false) (xs := [.sc _]) (ys := [.sc _]) rfl rfl ⟨rfl, trivial⟩)) (V.le.keep (ag := false) (xs := [.ro _]) (ys := [.ro _]) rfl rfl ⟨rfl, trivial⟩)) (V.le.keep (ag := false) (xs := [.ro _]) (ys := [.ro _]) rfl rfl ⟨rfl, trivial⟩)) ⟨⟨rfl, ⟨rfl, rfl, rfl, rfl, rfl, rfl, (by first | rfl | (show Leaf.sc _ = Leaf.sc _; refine congrArg Leaf.sc ?_; first | rfl | go_num | ((first | exact congrArg _ ha | exact congrArg _ hb); first | done | rfl | go_num | (simp; done) | (simp; omega)) | (simp [cntAll]; done)) | (simp [cntAll]; done) | (simp; omega)), (by first | rfl | (show Leaf.sc _ = Leaf.sc _; refine congrArg Leaf.sc ?_; first | rfl | go_num | ((first | exact congrArg _ ha | exact congrArg _ hb); first | done | rfl | go_num | (simp; done) | (simp; omega)) | (simp [cntAll]; done)) | (simp [cntAll]; done) | (simp; omega)), rfl, rfl, trivial⟩⟩, trivial⟩ trivial nil_ob (fun i j hi hj e => absurd hi (Nat.not_lt_zero i)))
    case h =>
    refine SV.draw [.q 0, .q 1, .q 2, .q 3, .q 4, .q 5, .q 6, .q 7, .m 8, .q 9] [] (by kernel_rfl) (by kernel_rfl) ?_
    refine dq rfl (mv (V.one (.ro _))) ?_
    refine dq rfl (fb fld_impl_Sorter_6) ?_
    refine dq rfl (lb 0 6 [.sc _] agg_int sz_int (fun _ => rfl)) ?_
    refine dq rfl (ok_slice (l := 0) (h := a) (lf := .ro _) (yy := .ro _) rfl rfl elt_impl_Row.und sz_impl_Row rfl rfl rfl ⟨_, rfl⟩ (Nat.zero_le _) (by simp only [List.length_map]; omega)) ?_
    refine dq rfl (mv (V.one (.ro _))) ?_
    refine dq rfl (fb fld_impl_Sorter_7) ?_
    refine dq rfl (lb 0 7 [.sc _] agg_int sz_int (fun _ => rfl)) ?_
    refine dq rfl (ok_slice (l := 0) (h := b) (lf := .ro _) (yy := .ro _) rfl rfl elt_impl_Row.und sz_impl_Row rfl rfl rfl ⟨_, rfl⟩ (Nat.zero_le _) (by simp only [List.length_map]; omega)) ?_
    refine DW.m [0] rfl (cl [(false, [.hd 0])] rfl Try.func40 (hms) ⟨⟨[.ro _], rfl, ⟨rfl, trivial⟩⟩, ⟨[.ro _], rfl, ⟨rfl, trivial⟩⟩, trivial⟩) rfl (gle rfl) (gle rfl) (.inl rfl) (fun j hj => by
      simp only [List.mem_cons, List.not_mem_nil, or_false] at hj
      rcases hj with rfl
      ·exact .inr ⟨(gle rfl), (gle rfl), .inl rfl⟩) ?_
    refine dq rfl (mv (V.one (.hd 0))) ?_
    refine DW.stores ?_
    refine SV.zend ?_
    refine SV.tn (SV.seq' (SV.region ?_))
    refine sl 1 (mv (V.one (.ro _))) ?_
    refine sl 1 (mv (V.one (.ro _))) ?_
    refine sm (cl [(false, [.hd 1])] rfl Try.func40 (vms_i p0 p1 (fun r hr => hW.runs p0 (List.mem_of_getElem? hx0) r hr) (fun r hr => hW.runs p1 (List.mem_of_getElem? hx1) r hr) (by omega)) ⟨⟨[.ro _], rfl, ⟨rfl, trivial⟩⟩, ⟨[.ro _], rfl, ⟨rfl, trivial⟩⟩, trivial⟩) ?_
    refine sl 1 (mv (V.one (.hd 1))) ?_
    refine SV.nil (SV.tn (SV.seq' ?_))
    refine SV.draw [.q 0, .q 1, .q 2, .m 3, .q 4, .q 5, .q 6, .q 7, .q 8, .q 9, .q 10, .m 11, .q 12, .q 13] [] (by kernel_rfl) (by kernel_rfl) ?_
    refine dq rfl (fb fld_impl_Sorter_4) ?_
    refine dq rfl (lb 0 4 [.ro _] agg_s_impl_Row sz_s_impl_Row (fun _ => rfl)) ?_
    refine dq rfl (mv (V.one (.hd 0))) ?_
    refine DW.m [] rfl (cl [(false, [.sc _])] rfl Try.func87 (veqrows_i s.fOutput cm hW.out hwm (by omega) (by omega)) ⟨⟨[.ro _], rfl, ⟨rfl, trivial⟩⟩, ⟨[.hd 0], rfl, ⟨rfl, trivial⟩⟩, trivial⟩) rfl (gle rfl) (gle rfl) (.inl rfl) (fun j hj => by cases hj) ?_
    refine dq rfl ms ?_
    refine DW.split (d := 51) rfl (fun hg1 => ?_) (fun hg1 => ?_)
    ·skip   -- g1.T
     have hno : SorterD.mergeB s = decide (s.fOutput = (Runs.merge2 p0 p1).take (cm.map tRow).length) := by rw [hmm, show decide (s.fOutput = cm) = true from hg1]; rfl
     refine dy rfl (fb fld_impl_Sorter_4) ?_
     refine dy rfl (lb 0 4 [.ro _] agg_s_impl_Row sz_s_impl_Row (fun _ => rfl)) ?_
     refine dy rfl (mv (V.one (.hd 1))) ?_
     refine dy rfl (mv (V.one (.hd 0))) ?_
     refine dy rfl (ok_len (lf := .hd 0) rfl elt_impl_Row.und rfl rfl) ?_
     refine dy rfl (ok_slice (l := 0) (h := (cm.map tRow).length) (lf := .hd 1) (yy := .nd 1 _ _ none) rfl rfl elt_impl_Row.und sz_impl_Row rfl rfl rfl ⟨_, rfl⟩ (Nat.zero_le _) (by simp only [List.length_map]; omega)) ?_
     refine DW.m' [] rfl (cl [(false, [.sc _])] rfl Try.func87 (heq2) ⟨⟨[.ro _], rfl, ⟨rfl, trivial⟩⟩, ⟨[.nd 1 _ _ none], rfl, ⟨rfl, trivial⟩⟩, trivial⟩) (fun hr => wantedY hr rfl rfl rfl (gle rfl) rfl rfl) (gle rfl) (gle rfl) (.inl rfl) (fun j hj => by cases hj) ?_
     refine dq rfl pt ?_
     refine dq rfl ms ?_
     refine DW.stores ?_
     refine SV.zend ?_
     refine SV.tn (SV.ret ?_)
     refine d1 (.sc _) Try.results116 ?_ <;> (refine lbq ?_; (rw [hno]; first | done | rfl))
    ·skip   -- g1.F
     have hno : SorterD.mergeB s = false := by rw [hmm, show decide (s.fOutput = cm) = false from hg1]; rfl
     refine dn ?_
     refine dn ?_
     refine dn ?_
     refine dn ?_
     refine dn ?_
     refine dn ?_
     refine DW.mN rfl rfl rfl rfl (gle rfl) rfl rfl rfl (gle rfl) ?_
     refine dq rfl pf ?_
     refine dq rfl ms ?_
     refine DW.stores ?_
     refine SV.zend ?_
     refine SV.tn (SV.ret ?_)
     refine d1 (.sc _) Try.results116 ?_ <;> (refine lbq ?_; (rw [hno]; first | done | rfl))
end Go.Proofs.Ytpnbnbhifpcelaa
/- The program's SorterMemory: told by trees. -/
namespace Go.Proofs.Ytpnbnbhifpcelaa
open Go Go.RowKit V
set_option linter.unusedVariables false
def costI (X : List (List R)) (n : Nat) (k : Int) : Int := if k < 0 then 0 else total (SorterD.rowAt X n k)
theorem costI_neg {X : List (List R)} {n : Nat} {k : Int} (h : k < 0) : costI X n k = 0 := if_pos h
theorem costI_nil {X : List (List R)} {n : Nat} {k : Int} (h : SorterD.rowAt X n k = []) : costI X n k = 0 := by
 unfold costI
 split
 ·rfl
 ·rw [h]; rfl
theorem costI_one {X : List (List R)} {n k : Nat} {r : R} (h : SorterD.rowAt X n (k : Int) = [r]) : costI X n (k : Int) = r.cost := by
 unfold costI
 rw [if_neg (by omega), h]
 unfold total
 simp
theorem costI_pos {X : List (List R)} {n : Nat} {k : Int} (h : ¬ k < 0) : costI X n k = total (SorterD.rowAt X n k) := if_neg h
set_option maxRecDepth 100000 in
set_option maxHeartbeats 2000000 in
theorem vcostin_i (X : List (List R)) (n : Nat) (k : Int) (hW : ∀ p ∈ X, ∀ r ∈ p, r.wf) (hX : X.length ≤ 1000000000) : VC Try.prog 70 [(false, [.seq 84 ((X).map tRun)]), (false, [.lit (.int .i64 ((n : Nat)))]), (false, [.lit (.int .i64 (k))])] false [(false, [.lit (.int .i64 (costI X n k))])] := by
 refine VC.enter Try.func70 rfl Try.ntmps70 (gle rfl) fun E hE => ?_
 refine SV.seq' (SV.region ?_)
 refine sl 0 ms ?_
 refine SV.nil (SV.tn (SV.seq' (SV.seq' (SV.region ?_))))
 refine sl 0 ms ?_
 refine sl 0 (mv (V.one (.ro _))) ?_
 refine sl 0 (ok_len (lf := .ro _) rfl elt_impl_Run.und rfl rfl) ?_
 refine sl 0 (s2 (.tmp 7) (.tmp 9)) ?_
 refine sl 0 ms ?_
 refine SV.split (d := 11) rfl (fun hg0 => ?_) (fun hg0 => ?_)
 ·skip   -- g0.T
  have hno : costI X n k = 0 := costI_nil (SorterD.rowAt_no (by simp at hg0; omega))
  refine sn ?_
  refine sn ?_
  refine sl 0 pt ?_
  refine sl 0 ms ?_
  refine sn ?_
  refine sn ?_
  refine sn ?_
  refine sn ?_
  refine sn ?_
  refine sn ?_
  refine sn ?_
  refine sn ?_
  refine sl 0 pt ?_
  refine SV.nil (SV.tn ?_)
  refine SV.cond rfl (fun hc0 => ?_) (fun hc0 => ?_)
  ·skip   -- c0.T
   refine SV.seq' (SV.region ?_)
   refine sl 0 ms ?_
   refine SV.nil (SV.tn (SV.ret (SV.tr ?_)))
   refine d1 (.sc _) Try.results70 ?_ <;> (refine liq ?_; rw [hno])
  ·skip   -- c0.F
   cases hc0
 ·skip   -- g0.F
  have hnl : n < X.length := by simp at hg0; omega
  obtain ⟨p, hx⟩ : ∃ p, X[n]? = some p := ⟨_, List.getElem?_eq_getElem hnl⟩
  refine sy 0 ms ?_
  refine sy 0 (s2 (.tmp 12) (.const ((Value.int IntKind.i64 0)))) ?_
  refine sl 0 pf ?_
  refine sl 0 ms ?_
  refine SV.split (d := 15) rfl (fun hg1 => ?_) (fun hg1 => ?_)
  ·skip   -- g1.T
   have hno : costI X n k = 0 := costI_neg (by simpa using hg1)
   refine sn ?_
   refine sn ?_
   refine sn ?_
   refine sn ?_
   refine sn ?_
   refine sn ?_
   refine sn ?_
   refine sn ?_
   refine sl 0 pt ?_
   refine SV.nil (SV.tn ?_)
   refine SV.cond rfl (fun hc1 => ?_) (fun hc1 => ?_)
   ·skip   -- c1.T
    refine SV.seq' (SV.region ?_)
    refine sl 0 ms ?_
    refine SV.nil (SV.tn (SV.ret (SV.tr ?_)))
    refine d1 (.sc _) Try.results70 ?_ <;> (refine liq ?_; rw [hno])
   ·skip   -- c1.F
    cases hc1
  ·skip   -- g1.F
   have hk0 : ¬ k < 0 := by simpa using hg1
   obtain ⟨q, rfl⟩ : ∃ q : Nat, k = (q : Int) := ⟨k.toNat, by omega⟩
   refine sy 0 ms ?_
   refine sy 0 (mv (V.one (.ro _))) ?_
   refine sy 0 ms ?_
   refine sy 0 (ok_index (n := 1) (lf := .ro _) rfl elt_impl_Run.und sz_impl_Run rfl rfl rfl (map_at hx)) ?_
   refine sy 0 (ok_field_el (p := .rp _) (off := 0) rfl rfl rfl fld_impl_Run_0) ?_
   refine sy 0 (ok_load_rp (ag := false) (m := 1) (ys := [.ro _]) rfl rfl agg_s_impl_Row sz_s_impl_Row (fun _ => rfl) (gle rfl) rfl) ?_
   refine sy 0 (ok_len (lf := .ro _) rfl elt_impl_Row.und rfl rfl) ?_
   refine sy 0 (s2 (.tmp 16) (.tmp 22)) ?_
   refine sl 0 pf ?_
   refine SV.nil (SV.tn ?_)
   refine SV.cond rfl (fun hc2 => ?_) (fun hc2 => ?_)
   ·skip   -- c2.T
    have hno : costI X n (q : Int) = 0 := costI_nil (SorterD.rowAt_off hx (by simp at hc2; omega))
    refine SV.seq' (SV.region ?_)
    refine sl 0 ms ?_
    refine SV.nil (SV.tn (SV.ret (SV.tr ?_)))
    refine d1 (.sc _) Try.results70 ?_ <;> (refine liq ?_; rw [hno])
   ·skip   -- c2.F
    have hql : q < p.length := by simp at hc2; omega
    obtain ⟨r, hr⟩ : ∃ r, p[q]? = some r := ⟨_, List.getElem?_eq_getElem hql⟩
    have hno := costI_one (SorterD.rowAt_get hx hr)
    refine SV.skip (SV.tn (SV.seq' (SV.region ?_)))
    refine sl 0 (mv (V.one (.ro _))) ?_
    refine sl 0 ms ?_
    refine sl 0 (ok_index (n := 1) (lf := .ro _) rfl elt_impl_Run.und sz_impl_Run rfl rfl rfl (map_at hx)) ?_
    refine sl 0 (ok_field_el (p := .rp _) (off := 0) rfl rfl rfl fld_impl_Run_0) ?_
    refine sl 0 (ok_load_rp (ag := false) (m := 1) (ys := [.ro _]) rfl rfl agg_s_impl_Row sz_s_impl_Row (fun _ => rfl) (gle rfl) rfl) ?_
    refine sl 0 ms ?_
    refine sl 0 (ok_index (n := 3) (lf := .ro _) rfl elt_impl_Row.und sz_impl_Row rfl rfl rfl (map_at hr)) ?_
    refine sl 0 (ok_load_rp (ag := true) (m := 3) (ys := [.sc _, .sc _, .sc _]) rfl rfl agg_impl_Row sz_impl_Row (fun h => by cases h) (gle rfl) rfl) ?_
    refine sm (cl [(false, [.sc _])] rfl Try.func112 (vcost_i r (hW p (List.mem_of_getElem? hx) r (List.mem_of_getElem? hr))) ⟨⟨[.sc _, .sc _, .sc _], rfl, ⟨rfl, rfl, rfl, trivial⟩⟩, trivial⟩) ?_
    refine sl 0 ms ?_
    refine SV.nil (SV.tn (SV.ret ?_))
    refine d1 (.sc _) Try.results70 ?_ <;> (refine liq ?_; rw [hno])
set_option maxRecDepth 100000 in
set_option maxHeartbeats 2000000 in
theorem vsmem_i (s : SorterD) (hW : s.Wf) : VC Try.prog 26 [(true, tSorter s)] false [(false, [.lit (.int .i64 (SorterD.mem s))])] := by
 refine VC.enter Try.func26 rfl Try.ntmps26 (gle rfl) fun E hE => ?_
 have t1 := total_range s.fHeap
 have t2 := total_range s.fDeferred
 have t3 := SorterD.rowAt_cost s.fRuns 0 s.fLeftPos
 have t4 := SorterD.rowAt_cost s.fRuns 1 s.fRightPos
 have hsz := hW.size
 refine SV.seq' (SV.region ?_)
 refine sm (ok_box (kk := 0) (ag := true) (xs := [.ro _, .sc _, .ro _, .ro _, .ro _, .ro _, .sc _, .sc _, .sc _, .sc _]) rfl rfl rfl (fun h => by cases h) rfl rfl (gle rfl)) ?_
 refine sl 1 ms ?_
 refine SV.nil (SV.tn (SV.seq' (SV.region ?_)))
 refine sl 1 (fb fld_impl_Sorter_8) ?_
 refine sl 1 (lb 0 8 [.sc _] agg_int sz_int (fun _ => rfl)) ?_
 refine SV.nil (SV.tn (SV.block (SV.seq' (SV.region ?_))))
 refine sl 1 (s2 (.tmp 4) (.const ((Value.int IntKind.i64 1)))) ?_
 refine sl 1 ms ?_
 refine SV.nil (SV.tn ?_)
 refine SV.cond rfl (fun hc0 => ?_) (fun hc0 => ?_)
 ·skip   -- c0.T
  have hp1 : s.fPhase = 1 := by simpa using hc0
  have hm := SorterD.mem_one hp1
  refine SV.seq' ?_
  refine SV.draw [.q 0, .q 1, .q 3, .q 4, .m 2, .m 5, .q 6, .q 7] [] (by kernel_rfl) (by kernel_rfl) ?_
  refine dq rfl (fb fld_impl_Sorter_2) ?_
  refine dq rfl (lb 0 2 [.ro _] agg_s_impl_Row sz_s_impl_Row (fun _ => rfl)) ?_
  refine dq rfl (fb fld_impl_Sorter_3) ?_
  refine dq rfl (lb 0 3 [.ro _] agg_s_impl_Row sz_s_impl_Row (fun _ => rfl)) ?_
  refine DW.m [] rfl (cl [(false, [.sc _])] rfl Try.func69 (vtotal_i s.fHeap hW.heap (by omega)) ⟨⟨[.ro _], rfl, ⟨rfl, trivial⟩⟩, trivial⟩) rfl (gle rfl) (gle rfl) (.inl rfl) (fun j hj => by cases hj) ?_
  refine DW.m [] rfl (cl [(false, [.sc _])] rfl Try.func69 (vtotal_i s.fDeferred hW.late (by omega)) ⟨⟨[.ro _], rfl, ⟨rfl, trivial⟩⟩, trivial⟩) rfl (gle rfl) (gle rfl) (.inl rfl) (fun j hj => by cases hj) ?_
  refine dq rfl (ok_s2 (v := .int .i64 (total s.fHeap + total s.fDeferred)) (x := .tmp 9) (x' := .tmp 12) (VScal.one rfl) (VScal.one rfl) (fun ρ h1 h2 w => by go_simp; rw [IntWalk.i64_left, IntWalk.wrap64_in _ ⟨by omega, by omega⟩] <;> first | rfl | omega | (congr 1; omega)) rfl) ?_
  refine dq rfl ms ?_
  refine DW.stores ?_
  refine SV.zend ?_
  refine SV.tn (SV.ret (SV.br ?_))
  refine d1 (.sc _) Try.results26 ?_ <;> (refine liq ?_; rw [hm])
 ·skip   -- c0.F
  have hp1 : ¬ s.fPhase = 1 := by simpa using hc0
  refine SV.seq' (SV.region ?_)
  refine sl 1 (s2 (.tmp 4) (.const ((Value.int IntKind.i64 2)))) ?_
  refine sl 1 ms ?_
  refine SV.nil (SV.tn ?_)
  refine SV.cond rfl (fun hc1 => ?_) (fun hc1 => ?_)
  ·skip   -- c1.T
   have hp2 : s.fPhase = 2 := by simpa using hc1
   have hm2 : SorterD.mem s = if s.fLeftPos < 0 ∨ s.fRightPos < 0 then 0 else total (SorterD.rowAt s.fRuns 0 s.fLeftPos) + total (SorterD.rowAt s.fRuns 1 s.fRightPos) := by unfold SorterD.mem; rw [if_neg hp1, if_pos hp2]
   refine SV.seq' (SV.seq' (SV.region ?_))
   refine sl 1 (fb fld_impl_Sorter_6) ?_
   refine sl 1 (lb 0 6 [.sc _] agg_int sz_int (fun _ => rfl)) ?_
   refine sl 1 (s2 (.tmp 17) (.const ((Value.int IntKind.i64 0)))) ?_
   refine sl 1 ms ?_
   refine SV.split (d := 19) rfl (fun hg0 => ?_) (fun hg0 => ?_)
   ·skip   -- g0.T
    have hl : s.fLeftPos < 0 := by simpa using hg0
    have hm := hm2.trans (if_pos (.inl hl))
    refine sn ?_
    refine sn ?_
    refine sn ?_
    refine sl 1 pt ?_
    refine SV.nil (SV.tn ?_)
    refine SV.cond rfl (fun hc2 => ?_) (fun hc2 => ?_)
    ·skip   -- c2.T
     refine SV.seq' (SV.region ?_)
     refine sl 1 ms ?_
     refine SV.nil (SV.tn (SV.ret (SV.tr (SV.br ?_))))
     refine d1 (.sc _) Try.results26 ?_ <;> (refine liq ?_; rw [hm])
    ·skip   -- c2.F
     cases hc2
   ·skip   -- g0.F
    have hl : ¬ s.fLeftPos < 0 := by simpa using hg0
    refine sy 1 (fb fld_impl_Sorter_7) ?_
    refine sy 1 (lb 0 7 [.sc _] agg_int sz_int (fun _ => rfl)) ?_
    refine sy 1 (s2 (.tmp 21) (.const ((Value.int IntKind.i64 0)))) ?_
    refine sl 1 pf ?_
    refine SV.nil (SV.tn ?_)
    refine SV.cond rfl (fun hc3 => ?_) (fun hc3 => ?_)
    ·skip   -- c3.T
     have hr : s.fRightPos < 0 := by simpa using hc3
     have hm := hm2.trans (if_pos (.inr hr))
     refine SV.seq' (SV.region ?_)
     refine sl 1 ms ?_
     refine SV.nil (SV.tn (SV.ret (SV.tr (SV.br ?_))))
     refine d1 (.sc _) Try.results26 ?_ <;> (refine liq ?_; rw [hm])
    ·skip   -- c3.F
     have hr : ¬ s.fRightPos < 0 := by simpa using hc3
     have hm : SorterD.mem s = costI s.fRuns 0 s.fLeftPos + costI s.fRuns 1 s.fRightPos := by rw [hm2, if_neg (by omega), costI_pos hl, costI_pos hr]
     refine SV.skip (SV.tn (SV.seq' ?_))
     refine SV.draw [.q 0, .q 1, .q 2, .q 3, .q 5, .q 6, .q 7, .q 8, .m 4, .m 9, .q 10, .q 11] [] (by kernel_rfl) (by kernel_rfl) ?_
     refine dq rfl (fb fld_impl_Sorter_5) ?_
     refine dq rfl (lb 0 5 [.ro _] agg_s_impl_Run sz_s_impl_Run (fun _ => rfl)) ?_
     refine dq rfl (fb fld_impl_Sorter_6) ?_
     refine dq rfl (lb 0 6 [.sc _] agg_int sz_int (fun _ => rfl)) ?_
     refine dq rfl (fb fld_impl_Sorter_5) ?_
     refine dq rfl (lb 0 5 [.ro _] agg_s_impl_Run sz_s_impl_Run (fun _ => rfl)) ?_
     refine dq rfl (fb fld_impl_Sorter_7) ?_
     refine dq rfl (lb 0 7 [.sc _] agg_int sz_int (fun _ => rfl)) ?_
     refine DW.m [] rfl (cl [(false, [.sc _])] rfl Try.func70 (vcostin_i s.fRuns 0 s.fLeftPos hW.runs (by omega)) ⟨⟨[.ro _], rfl, ⟨rfl, trivial⟩⟩, ⟨[.sc _], rfl, ⟨rfl, trivial⟩⟩, ⟨[.sc _], rfl, ⟨rfl, trivial⟩⟩, trivial⟩) rfl (gle rfl) (gle rfl) (.inl rfl) (fun j hj => by cases hj) ?_
     refine DW.m [] rfl (cl [(false, [.sc _])] rfl Try.func70 (vcostin_i s.fRuns 1 s.fRightPos hW.runs (by omega)) ⟨⟨[.ro _], rfl, ⟨rfl, trivial⟩⟩, ⟨[.sc _], rfl, ⟨rfl, trivial⟩⟩, ⟨[.sc _], rfl, ⟨rfl, trivial⟩⟩, trivial⟩) rfl (gle rfl) (gle rfl) (.inl rfl) (fun j hj => by cases hj) ?_
     refine dq rfl (ok_s2 (v := .int .i64 (costI s.fRuns 0 s.fLeftPos + costI s.fRuns 1 s.fRightPos)) (x := .tmp 28) (x' := .tmp 33) (VScal.one rfl) (VScal.one rfl) (fun ρ h1 h2 w => by go_simp; rw [costI_pos hl, costI_pos hr]; rw [IntWalk.i64_left, IntWalk.wrap64_in _ ⟨by omega, by omega⟩] <;> first | rfl | omega | (congr 1; omega)) rfl) ?_
     refine dq rfl ms ?_
     refine DW.stores ?_
     refine SV.zend ?_
     refine SV.tn (SV.ret (SV.br ?_))
     refine d1 (.sc _) Try.results26 ?_ <;> (refine liq ?_; rw [hm])
  ·skip   -- c1.F
   have hp2 : ¬ s.fPhase = 2 := by simpa using hc1
   refine SV.seq' (SV.region ?_)
   refine sl 1 (s2 (.tmp 4) (.const ((Value.int IntKind.i64 3)))) ?_
   refine sl 1 ms ?_
   refine SV.nil (SV.tn ?_)
   refine SV.cond rfl (fun hc4 => ?_) (fun hc4 => ?_)
   ·skip   -- c4.T
    have hp3 : s.fPhase = 3 := by simpa using hc4
    have hm : SorterD.mem s = costI s.fRuns 0 s.fLeftPos := by unfold SorterD.mem; rw [if_neg hp1, if_neg hp2, if_pos hp3]; rfl
    refine SV.seq' (SV.region ?_)
    refine sl 1 (fb fld_impl_Sorter_5) ?_
    refine sl 1 (lb 0 5 [.ro _] agg_s_impl_Run sz_s_impl_Run (fun _ => rfl)) ?_
    refine sl 1 (fb fld_impl_Sorter_6) ?_
    refine sl 1 (lb 0 6 [.sc _] agg_int sz_int (fun _ => rfl)) ?_
    refine sm (cl [(false, [.sc _])] rfl Try.func70 (vcostin_i s.fRuns 0 s.fLeftPos hW.runs (by omega)) ⟨⟨[.ro _], rfl, ⟨rfl, trivial⟩⟩, ⟨[.sc _], rfl, ⟨rfl, trivial⟩⟩, ⟨[.sc _], rfl, ⟨rfl, trivial⟩⟩, trivial⟩) ?_
    refine sl 1 ms ?_
    refine SV.nil (SV.tn (SV.ret (SV.br ?_)))
    refine d1 (.sc _) Try.results26 ?_ <;> (refine liq ?_; rw [hm])
   ·skip   -- c4.F
    have hp3 : ¬ s.fPhase = 3 := by simpa using hc4
    have hm : SorterD.mem s = 0 := by unfold SorterD.mem; rw [if_neg hp1, if_neg hp2, if_neg hp3]
    refine SV.seq' (SV.region ?_)
    refine sl 1 ms ?_
    refine SV.nil (SV.tn (SV.ret (SV.br ?_)))
    refine d1 (.sc _) Try.results26 ?_ <;> (refine liq ?_; rw [hm])
end Go.Proofs.Ytpnbnbhifpcelaa
/- States told by trees: a literal of slices that a call reads. -/
namespace Go.Proofs.Ytpnbnbhifpcelaa.V
open Go Go.RowKit
set_option linter.unusedVariables false
variable {P : Program} {E : Env} {N : Nat} {σ τ : VS} {o : Oper} {a : Act} {w ws : World} {G Gs : Ghost} {Q : Exit → Act → World → Prop} {l : List Oper} {zs : List Nat} {ps : Pl} {i : Nat} {fr : List Nat} {cl : Bool}
theorem call_at {P : Program} {d : Nat} {f : FuncId} {xs : List Operand} {ats : Array TypeId} {qs : List (Bool × List T)} {tup : Bool} {rs : List (Bool × List T)} {ls : List (Bool × List Leaf)} (hk : ansLs σ.nx rs = ls) (ho : o.op = .call { callee := .value (.func f), args := xs.toArray, argTypes := ats }) (hb : ∃ fn c, P.funcs[f]? = some fn ∧ fn.body = some c ∧ fn.name ≠ "runtime.NumGoroutine")
  (hc : VC P f qs tup rs) (h : Rel E N σ a w G) (hx : ArgsIn (Env.of w) w qs (xs.map a.eval)) (hd : o.dst = some d) (hdN : d < N) {K : Act → World → Prop} {Q : Exit → Act → World → Prop} (k : ∀ a' w' G', Rel E N ((ansSs σ rs).put d ⟨tup, ls⟩) a' w' G' → Made σ none w w' G G' E ((ansSs σ rs).put d ⟨tup, ls⟩).nx → K a' w') : o.wp P a w K Q := by
 subst hk
 obtain ⟨fn, c, h1, h2, h2'⟩ := hb
 have hcall := hc w (xs.map a.eval) hx
 have hrun : (execOp a.eval o).run P w = .ok (.enter f (xs.map a.eval).toArray) w := by
  simp [execOp, ho, resolve, Act.eval, Deferred.ofValue, invoke, callFunc, h1, h2, h2', Result.andThen]
 unfold Oper.wp
 rw [hrun]
 refine hcall.mono fun e w' ⟨uss, F, h3, h4, h5, h6, h6', h7'⟩ => ?_
 have h7 : Below w.heap.size w w' := ⟨h7'.os, h7'.tape, h7'.output, h7'.size, fun k hk => h7'.block k (Env.of_old.2 hk)⟩
 subst h4
 have h' := h.ext h7
 obtain ⟨G', k1, k2, k3, k4, k5, k6, k7, k8⟩ := h'.addAlls rs uss F h3 (fun c ag ts us hc hu => ⟨(h5 c ag ts us hc hu).1, fun j t u hj hu' => (h5 c ag ts us hc hu).2 j t u hj hu'⟩) (fun c j b hb => by
  have hbw : w.heap.size ≤ b := (h6' c j b hb).1.elim id fun h => h.elim
  exact ⟨⟨fun i hi hf => by have := (h.ftlt i b hi hf).2; omega, (h.fresh hbw).2⟩, .inl (Nat.le_trans h.low hbw), (h6' c j b hb).2⟩) h6
 rw [hd]
 refine k _ _ _ (k1.put hdN ⟨uss, h3.trans k3.symm, ?_, fun c ag xs us hc hu => ⟨(k4 c ag xs us hc hu).1, (k4 c ag xs us hc hu).2.2⟩⟩) ⟨h7.size, .of_below (h7.mono h.low), k6, fun b _ => by rw [k7], fun b hb => .inl (h7.block b hb), fun i e1 e2 b e3 => by obtain ⟨c, j, hj⟩ := k8 i e1 e2 b e3; exact .inl ((h6' c j b hj).1.elim id fun h => h.elim)⟩
 congr 1
 apply List.ext_getElem?
 intro c
 rw [List.getElem?_zipWith, List.getElem?_zipWith]
 cases hq : (ansLs σ.nx rs)[c]? with
 | none =>
  have : rs[c]? = none := by rw [List.getElem?_eq_none_iff] at hq ⊢; omega
  rw [this]
 | some q =>
  obtain ⟨ag, xs'⟩ := q
  have hcl : c < uss.length := by have := get_lt hq; omega
  obtain ⟨-, ⟨ts, hts⟩, -⟩ := k4 c ag xs' uss[c] hq (List.getElem?_eq_getElem hcl)
  rw [hts, List.getElem?_eq_getElem hcl]
theorem lit_run {m : Nat} {t ty : TypeId} {bytes : Nat} {z : Value} {us : List Value} (I : ElT t ty 1 z bytes) (w : World) (hm : us.length = m) (hm0 : 0 < m) (hm1 : m ≤ 1000) (hone : ∀ u ∈ us, u.oneCell' = true) : (Instr.buildSlice t m (((us.zipIdx 0).map fun x => (x.2, x.1)).toArray)).run Try.prog w = .ok (.slice (some ⟨w.heap.size, 0, none⟩) m m) (w.alloc (.cells us.toArray ty)) := by
 obtain ⟨i0, hi, hz0, hz1, hz2⟩ := info_parts I.inf
 have hc1 : ∀ u ∈ us, u.cells = #[u] := fun u hu => cval_cells (ag := false) (us := [u]) fun _ => ⟨rfl, fun v hv => by rw [List.mem_singleton.1 hv]; exact hone u hu⟩
 have hrun : (Instr.buildSlice t m (((us.zipIdx 0).map fun x => (x.2, x.1)).toArray)).run Try.prog w = .ok (.slice (some ⟨w.heap.size, 0, none⟩) m m) (w.alloc (.cells us.toArray ty)) := by
  refine run_buildSlice w t ty m _ us.toArray i0 z I.und hi hz0 ?_ ?_ ?_
  ·rw [hz1]; omega
  ·rw [hz1]; omega
  ·obtain ⟨r, hr1, hr2, hr3⟩ := Great.fill_dense (s := i0.size) (by omega) us 0 ((Array.range (m * i0.size)).map (z.cells[· % z.cells.size]!)) (fun v hv => by rw [hc1 v hv, hz1]; rfl) (by simp [hm])
   have e : r = us.toArray := by
    apply Array.ext_getElem?
    intro q
    rw [hr3 q]
    rcases Nat.lt_or_ge q us.length with hq | hq
    ·rw [if_pos ⟨by omega, by rw [hz1]; omega⟩]
     rw [hz1]
     simp only [Nat.div_one, Nat.sub_zero, Nat.mod_one]
     rw [List.getElem?_eq_getElem hq]
     simp only [Option.bind_some, hc1 us[q] (List.getElem_mem hq)]
     simp [hq]
    ·rw [if_neg (by rw [hz1]; omega)]
     have h8 : us.toArray[q]? = none := by simp; omega
     rw [h8, Array.getElem?_eq_none (by simp [hz1]; omega)]
   rw [← e]
   simpa using hr1
 exact hrun
def VS.trs (σ : VS) : List Operand → List T → Prop
 | [], [] => True
 | x :: xs, t :: ts => (∃ lf ty es, t = .seq ty es ∧ σ.ev x = V.one lf ∧ σ.tr lf = some t) ∧ σ.trs xs ts
 | _, _ => False
theorem trs_get {xs : List Operand} {ts : List T} (h : σ.trs xs ts) : xs.length = ts.length ∧ ∀ (k : Nat) (x : Operand) (t : T), xs[k]? = some x → ts[k]? = some t → ∃ lf ty es, t = .seq ty es ∧ σ.ev x = V.one lf ∧ σ.tr lf = some t := by
 induction xs generalizing ts with
 | nil => cases ts with
  | nil => exact ⟨rfl, fun k x t h => by simp at h⟩
  | cons t ts => exact h.elim
 | cons x xs ih => cases ts with
  | nil => exact h.elim
  | cons t ts =>
   obtain ⟨h1, h2⟩ := h
   obtain ⟨h3, h4⟩ := ih h2
   refine ⟨by simp [h3], fun k y s hk hs => ?_⟩
   cases k with
   | zero => cases hk; cases hs; exact h1
   | succ k => exact h4 k y s (by simpa using hk) (by simpa using hs)
theorem DW.litcall {o1 o2 : Oper} {j d1 d2 m : Nat} {t ty : TypeId} {bytes : Nat} {z : Value} {xs : List Operand} {es : List T} {ps0 : Array (Nat × Operand)} {f : FuncId} {ats : Array TypeId} {tup : Bool} {rs : List (Bool × List T)} {ls : List (Bool × List Leaf)}
  (I : ElT t ty 1 z bytes) (ho1 : nthO l i = some o1) (hop1 : o1.op = .buildSlice t m ps0) (hps : ps0 = ((xs.zipIdx 0).map fun x => (x.2, x.1)).toArray) (hm : xs.length = m) (hm0 : 0 < m) (hm1 : m ≤ 1000) (hx : σ.trs xs es) (hg1 : o1.guard = none) (hd1 : o1.dst = some d1) (h1N : d1 < N)
  (ho2 : nthO l j = some o2) (hop2 : o2.op = .call { callee := .value (.func f), args := [Operand.tmp d1].toArray, argTypes := ats }) (hb : ∃ fn c, Try.prog.funcs[f]? = some fn ∧ fn.body = some c ∧ fn.name ≠ "runtime.NumGoroutine") (hc : VC Try.prog f [(false, [.seq ty (es.map fun t => [t])])] tup rs) (hk : ansLs σ.nx rs = ls) (hg2 : o2.guard = none) (hd2 : o2.dst = some d2) (h2N : d2 < N)
  (hnx : σ.nx ≤ (ansSs (σ.put d1 (V.one .dead)) rs).nx) (hbs : (ansSs (σ.put d1 (V.one .dead)) rs).bs = σ.bs)
  (k : DW E N τ [] false ((ansSs (σ.put d1 (V.one .dead)) rs).put d2 ⟨tup, ls⟩) fun ws Gs a w => wpPi Try.prog l.toArray Q (SW E τ ws Gs) zs ps a w) : DW E N τ fr cl σ fun ws Gs a w => wpPi Try.prog l.toArray Q (SW E τ ws Gs) zs (.m i (.m j ps)) a w := fun ws Gs a w G hr hl => by
 obtain ⟨hxl, hxg⟩ := trs_get hx
 obtain ⟨us, hus⟩ : ∃ us, us = xs.map a.eval := ⟨_, rfl⟩
 have hul : us.length = m := by rw [hus, List.length_map, hm]
 have hin : ∀ k u t, us[k]? = some u → es[k]? = some t → ∃ ok, Inn ok w t u := fun k u t hu ht => by
  rw [hus, List.getElem?_map] at hu
  obtain ⟨x, hx', rfl⟩ := Option.map_eq_some_iff.1 hu
  obtain ⟨lf, ty', es', rfl, e1, e2⟩ := hxg k x t hx' ht
  exact ⟨_, hr.head e1 e2⟩
 have hone : ∀ u ∈ us, u.oneCell' = true := fun u hu => by
  obtain ⟨k, hk', rfl⟩ := List.getElem_of_mem hu
  have hkl : k < es.length := by omega
  obtain ⟨ok, h1⟩ := hin k us[k] es[k] (List.getElem?_eq_getElem hk') (List.getElem?_eq_getElem hkl)
  exact h1.one
 have hmap : ps0.map (fun (i, x) => (i, a.eval x)) = ((us.zipIdx 0).map fun x => (x.2, x.1)).toArray := by
  rw [hps, List.map_toArray, parts_eval, hus]
 have hrun := lit_run I w hul hm0 hm1 hone
 have hB : Below w.heap.size w (w.alloc (.cells us.toArray ty)) := (Below.refl _ _).alloc (Nat.le_refl _) _
 refine pi_step ho1 fun K hK => ?_
 rw [if_pos (by simp [Region.wanted, hg1])]
 refine wp_value (v := .slice (some ⟨w.heap.size, 0, none⟩) m m) (w' := w.alloc (.cells us.toArray ty)) (by simp only [execOp, hop1, hmap]; simp [hrun, Result.andThen]) ?_
 have hr1 : Rel E N (σ.put d1 (V.one .dead)) (a.put (some d1) (.slice (some ⟨w.heap.size, 0, none⟩) m m)) (w.alloc (.cells us.toArray ty)) G := (hr.ext hB).put h1N (vone.2 ⟨trivial, .inl rfl⟩)
 have hs1 : SameT E τ Gs ws (w.alloc (.cells us.toArray ty)) := by
  refine ⟨hl.same.below.trans (.of_below (hB.mono hr.low)), fun b hbl => ?_⟩
  have h1 := hB.block b (Nat.lt_of_lt_of_le hbl hl.same.below.size)
  rcases hl.same.block b hbl with h2 | ⟨i2, v2, ty2, es2, n2, ds, ds', f1, f2, f3, f4, f5, f6, f7⟩
  ·exact .inl (h1.trans h2)
  ·exact .inr ⟨i2, v2, ty2, es2, n2, ds, ds', f1, f2, f3, f4, h1.trans f5, f6, f7⟩
 rw [hd1]
 refine hK.out _ _ hs1 fun _ => ?_
 refine pi_step ho2 fun K2 hK2 => ?_
 rw [if_pos (by simp [Region.wanted, hg2])]
 have hargs : ArgsIn (Env.of (w.alloc (.cells us.toArray ty))) (w.alloc (.cells us.toArray ty)) [(false, [.seq ty (es.map fun t => [t])])] ([Operand.tmp d1].map (a.put (some d1) (.slice (some ⟨w.heap.size, 0, none⟩) m m)).eval) := by
  refine ⟨rfl, fun c ag ts v hc' hv => ?_⟩
  cases c with
  | succ c => simp at hc'
  | zero =>
   cases hc'
   have hv' : v = .slice (some ⟨w.heap.size, 0, none⟩) m m := by
    have : (a.put (some d1) (.slice (some ⟨w.heap.size, 0, none⟩) m m)).eval (.tmp d1) = v := Option.some.inj hv
    rw [← this]
    simp [Act.eval, Act.put, hr.nsz, h1N]
   refine ⟨[v], rfl, rfl, fun q tt u hq hu => ?_⟩
   cases q with
   | succ q => simp at hq
   | zero =>
    cases hq; cases hu
    rw [hv', show m = (es.map fun t => [t]).length by rw [List.length_map, ← hxl, hm]]
    have hlm : (es.map fun t => [t]).length = m := by rw [List.length_map, ← hxl, hm]
    have hsz : w.heap.size < (w.alloc (.cells us.toArray ty)).heap.size := by show w.heap.size < (w.heap.push _).size; rw [Array.size_push]; omega
    refine .seq 1 Nat.one_pos I.sz (fun e he => by obtain ⟨x, -, rfl⟩ := List.mem_map.1 he; rfl) (Nat.le_refl _) (by rw [hlm]; unfold maxLen; omega) (fun e => by cases e) w.heap.size 0 (fun i => us.getD i (.bool false)) (fun ad h _ => (Option.some.inj h).symm) (fun _ => ⟨Env.of_old.2 hsz, hsz⟩) (fun q e p tt h1 h2 => ?_) fun q e p tt h1 h2 => ?_
    ·rw [List.getElem?_map] at h1
     obtain ⟨t0, h3, rfl⟩ := Option.map_eq_some_iff.1 h1
     have hp0 : p = 0 := by have := get_lt h2; simpa using this
     subst hp0
     have hql : q < us.length := by have := get_lt h3; omega
     rw [Nat.mul_one, Nat.add_zero, Nat.zero_add]
     rw [cell_of_row _ _ _ _ _ _ (heap_alloc_new _ _), List.getD_eq_getElem?_getD]
     simp [hql]
    ·rw [List.getElem?_map] at h1
     obtain ⟨t0, h3, rfl⟩ := Option.map_eq_some_iff.1 h1
     have hp0 : p = 0 := by have := get_lt h2; simpa using this
     subst hp0
     cases h2
     have hql : q < us.length := by have := get_lt h3; omega
     rw [Nat.mul_one, Nat.add_zero]
     obtain ⟨ok, h4⟩ := hin q us[q] _ (List.getElem?_eq_getElem hql) h3
     rw [List.getD_eq_getElem?_getD, List.getElem?_eq_getElem hql]
     exact h4.frame hB.size fun b _ hbl => ⟨Env.of_old.2 (Nat.lt_of_lt_of_le hbl hB.size), hB.block b hbl⟩
 refine call_at (σ := σ.put d1 (V.one .dead)) (ls := ls) hk hop2 hb hc hr1 hargs hd2 h2N fun a' w' G' hr' hm' => ?_
 have hs2 : SameT E τ Gs ws w' := by
  refine ⟨hs1.below.trans hm'.below, fun b hbl => ?_⟩
  have h1 : w'.heap[b]? = (w.alloc (.cells us.toArray ty)).heap[b]? := by
   rcases hm'.block b (Nat.lt_of_lt_of_le hbl hs1.below.size) with h1 | ⟨j, v, ty', es', n, cs, cs', e1, -⟩
   ·exact h1
   ·cases e1
  rcases hs1.block b hbl with h2 | ⟨i2, v2, ty2, es2, n2, ds, ds', f1, f2, f3, f4, f5, f6, f7⟩
  ·exact .inl (h1.trans h2)
  ·exact .inr ⟨i2, v2, ty2, es2, n2, ds, ds', f1, f2, f3, f4, h1.trans f5, f6, f7⟩
 refine hK2.out a' w' hs2 fun _ => k ws Gs a' w' G' hr' ⟨hl.start, hs2, fun q hq => (hm'.vl q (Nat.lt_of_lt_of_le hq hl.nx)).trans (hl.vl q hq), fun b hbl => (hm'.β b (Nat.lt_of_lt_of_le hbl hl.bs)).trans (hl.β b hbl), Nat.le_trans hl.nx hnx, by show _ ≤ (ansSs _ rs).bs.length; rw [hbs]; exact hl.bs, fun q hq => (by cases hq), fun e => (by cases e)⟩
end Go.Proofs.Ytpnbnbhifpcelaa.V
/- slices.Grow and slices.Concat at rows: told by trees: told by trees. -/
namespace Go.Proofs.Ytpnbnbhifpcelaa
open Go Go.RowKit V
set_option linter.unusedVariables false
theorem igrow (n : Nat) (w : World) (hn : n ≤ 300000000000) : Calls Try.prog 135 #[.slice none 0 0, .int .i64 n] w fun e w' => ∃ v, e = .returned v ∧ Row w' w.heap.size 72 3 v 0 [] ∧ w.grownBy w' none := by
 obtain ⟨i0, hi, hz0, hz1, hz2⟩ := info_parts elt_impl_Row.inf
 have h1 : ¬ ((n : Int) < 0) := by omega
 have h3 : wrap64 (n : Int) = (n : Int) := by unfold wrap64; omega
 rcases Nat.eq_zero_or_pos n with h0 | h0
 ·subst h0
  go_enter Try.func135, Try.ntmps135
  go_wp2
  go_ret
  exact ⟨_, rfl, ⟨rfl, .inl ⟨rfl, rfl⟩⟩, World.grownBy.refl _ _⟩
 ·have h4 : (n : Int) > 0 := by omega
  have hby : n * i0.bytes ≤ 140737488355328 := by
   have := Nat.mul_le_mul (show n ≤ 300000000000 from hn) (show i0.bytes ≤ 400 by rw [hz2]; exact elt_impl_Row.small)
   omega
  have hrz : ∀ ty, (Builtin.append_ #[24, 3] ty #[.slice none 0 0, .int .i64 (n : Int)]).run Try.prog w =
    .ok (.slice (some ⟨w.heap.size, 0, none⟩) n (grownCap w n 0 72)) (w.drew.alloc (.cells (Builtin.zeroCells _ n ++ Builtin.zeroCells _ (grownCap w n 0 72 - n)) 72)) := fun ty => by
   have h := Lib.run_append_grow_zeros w 24 3 ty 72 i0 _ .i64 .i64 Try.underlying24 Try.underlying3 hi hz0 none 0 0 [] (run_firstCells_none w.drew i0.size 0 0 0) n h0 (by omega) (by omega) (by omega) (by omega) (growslice_fits (by omega) (by rw [Nat.zero_add]; exact hby))
   simpa using h
  have hG := grownCap_ge w n 0 72
  have hM := grownCap_le_maxLen w n 0 72 (by unfold maxLen; omega)
  obtain ⟨c, hc⟩ : ∃ c, c = grownCap w n 0 72 := ⟨_, rfl⟩
  rw [← hc] at hrz hG hM
  have hM2 : c ≤ 9223372036854775807 := by unfold maxLen at hM; omega
  clear hc
  obtain ⟨arr, harr⟩ : ∃ arr, arr = Builtin.zeroCells (Value.agg #[.int .i64 0, .int .i64 0, .int .i64 0]).cells n ++ Builtin.zeroCells (Value.agg #[.int .i64 0, .int .i64 0, .int .i64 0]).cells (c - n) := ⟨_, rfl⟩
  rw [← harr] at hrz
  have hsz : arr.size = c * 3 := by
   rw [harr, Array.size_append, size_zeroCells, size_zeroCells, elt_impl_Row.zs]
   omega
  clear harr
  have HG := Lib.hid hG
  have HM := Lib.hid hM
  go_enter Try.func135, Try.ntmps135
  go_wp2_with (at_builtin; refine Lib.wpList_append_run _ rfl _ _ _ _ rfl _ _ rfl rfl _ _ (hrz _) ?_)
  all_goals go_ret
  all_goals refine ⟨_, rfl, ⟨rfl, .inr ⟨w.heap.size, 0, c, arr, rfl, Nat.le_refl _, ?_, Nat.zero_le _, hM, by omega, by simp⟩⟩, ⟨rfl, rfl, rfl, ?_, fun b hb _ => Below.heap_alloc w.drew _ _ hb⟩⟩
  ·show (w.heap.push _)[w.heap.size]? = _
   simp
  ·show w.heap.size ≤ (w.heap.push _).size
   rw [Array.size_push]
   omega
theorem vgrow_i (n : Nat) (hn : n ≤ 300000000000) : VC Try.prog 135 [(false, [.lit (.slice none 0 0)]), (false, [.lit (.int .i64 (n : Int))])] false [(false, [.seq 72 []])] := fun w vs hv => by
 have hvs : vs = [.slice none 0 0, .int .i64 (n : Int)] := by
  obtain ⟨hl, ha⟩ := hv
  match vs, hl with
  | [v1, v2], _ =>
   obtain ⟨us, e1, e2, e3⟩ := ha 0 false _ v1 rfl rfl
   obtain ⟨vs', f1, f2, f3⟩ := ha 1 false _ v2 rfl rfl
   match us, e2, vs', f2 with
   | [u], _, [u'], _ =>
    have g1 := inn_lit (e3 0 _ u rfl rfl)
    have g2 := inn_lit (f3 0 _ u' rfl rfl)
    subst g1 g2
    rw [e1, f1]
    rfl
 rw [hvs]
 refine (igrow n w hn).mono fun e w' ⟨v, he, hr, hg⟩ => ?_
 refine ⟨[[v]], fun c j b => c = 0 ∧ j = 0 ∧ v.ownBlock = some b, rfl, by rw [he]; rfl, fun c ag ts us hc hu => ?_, fun c j c' j' b e1 e2 => ⟨e1.1.trans e2.1.symm, e1.2.1.trans e2.2.1.symm⟩, fun c j b hb => ⟨.inl (Row.lt hr b hb.2.2).1, (Row.lt hr b hb.2.2).2⟩, ⟨hg.os, hg.tape, hg.output, hg.size, fun b hb => hg.block b hb.1 fun e => by cases e⟩⟩
 cases c with
 | succ c => simp at hc
 | zero =>
  cases hc; cases hu
  refine ⟨rfl, fun j t u hj hu => ?_⟩
  cases j with
  | succ j => simp at hj
  | zero =>
   cases hj; cases hu
   exact .seq 3 (by decide) sz_impl_Row (fun e he => by cases he) [] (row_lower hr (Nat.zero_le _)) (fun _ _ => False) (fun k e j t u h => by simp at h) (fun u hu => by cases hu) (fun b hb => ⟨rfl, rfl, hb⟩) (fun i b hb => hb.elim) (fun i b hb => hb.elim) fun i j b hb => hb.elim
def flen (X : List (List R)) (t : Nat) : Nat := (X.take t).flatten.length
theorem flen_le (X : List (List R)) (t : Nat) : flen X t ≤ X.flatten.length := by
 have h := congrArg List.length (congrArg List.flatten (List.take_append_drop t X))
 rw [List.flatten_append, List.length_append] at h
 unfold flen
 omega
theorem flen_next {X : List (List R)} {t : Nat} {p : List R} (h : X[t]? = some p) : flen X (t + 1) = flen X t + p.length := by
 unfold flen
 rw [List.take_add_one, h]
 simp
theorem take_flatC {X : List (List R)} {t : Nat} {p : List R} (h : X[t]? = some p) : (X.take (t + 1)).flatten = (X.take t).flatten ++ p := by
 rw [List.take_add_one, h]
 simp
set_option maxRecDepth 100000 in
set_option maxHeartbeats 2000000 in
theorem vconcat_i (X : List (List R)) (hX : X.length ≤ 1000000000) (hF : X.flatten.length ≤ 1000000000) : VC Try.prog 129 [(false, [.seq 24 (X.map fun p => [T.seq 72 (p.map tRow)])])] false [(false, [.seq 72 ((X.flatten).map tRow)])] := by
 refine VC.enter Try.func129 rfl Try.ntmps129 (gle rfl) fun E hE => ?_
 refine SV.seq' (SV.region ?_)
 refine sl 0 ms ?_
 refine SV.nil (SV.tn (SV.seq' (SV.region ?_)))
 refine sl 0 ms ?_
 refine SV.nil (SV.tn (SV.seq' (SV.seq' (SV.region ?_))))
 refine sl 0 (mv (V.one (.ro _))) ?_
 refine sl 0 (ok_len (lf := .ro _) rfl elt_s_impl_Row.und rfl rfl) ?_
 refine sl 0 ms ?_
 refine SV.nil (SV.tn (SV.block ?_))
 refine SV.loopF (X := Nat) (fun (σ : VS) t => ((((((VS.nil.put 0 (σ.tm 0)).put 2 (σ.tm 2)).put 3 (V.flat false [.sc (.int .i64 (((flen X t : Nat) : Int)))])).put 9 (σ.tm 9)).put 10 (σ.tm 10)).put 11 (V.flat false [.sc (.int .i64 ((t : Int)))]))) (fun t => t ≤ X.length) (fun t => X.length - t) ?_ ?_
 ·skip
  refine SV.again (fun i => [].getD i 0) 0 ((Nat.zero_le _)) (pins hE rfl rfl) (VS.le.mk' (le_put (le_put (le_put (le_put (le_put (le_put le_nil (V.le.keep (ag := false) (xs := [.ro _]) (ys := [.ro _]) rfl rfl ⟨rfl, trivial⟩)) (V.le.keep (ag := false) (xs := [.sc _]) (ys := [.sc _]) rfl rfl ⟨rfl, trivial⟩)) (V.le.keep (ag := false) (xs := [.sc _]) (ys := [.sc _]) rfl rfl ⟨(by first | rfl | (show Leaf.sc _ = Leaf.sc _; refine congrArg Leaf.sc ?_; first | rfl | go_num | ((rw [hnx]); first | done | rfl | go_num | (simp; done) | (simp; omega)) | (simp [cntAll]; done)) | (simp [cntAll]; done) | (simp; omega)), trivial⟩)) (V.le.keep (ag := false) (xs := [.ro _]) (ys := [.ro _]) rfl rfl ⟨rfl, trivial⟩)) (V.le.keep (ag := false) (xs := [.sc _]) (ys := [.sc _]) rfl rfl ⟨rfl, trivial⟩)) (V.le.keep (ag := false) (xs := [.sc _]) (ys := [.sc _]) rfl rfl ⟨(by first | rfl | (show Leaf.sc _ = Leaf.sc _; refine congrArg Leaf.sc ?_; first | rfl | go_num | ((rw [hnx]); first | done | rfl | go_num | (simp; done) | (simp; omega)) | (simp [cntAll]; done)) | (simp [cntAll]; done) | (simp; omega)), trivial⟩)) trivial trivial nil_ob (fun i j hi hj e => absurd hi (Nat.not_lt_zero i)))
 ·rintro t ht
  have hfl : (X.take t).flatten.length ≤ 1000000000 := by
   have h := congrArg List.length (congrArg List.flatten (List.take_append_drop t X))
   rw [List.flatten_append, List.length_append] at h
   omega
  refine SV.seq' (SV.region ?_)
  refine sl 0 (s2 (.tmp 11) (.tmp 10)) ?_
  refine SV.nil (SV.tn (SV.seq' ?_))
  refine SV.cond rfl (fun hc0 => ?_) (fun hc0 => ?_)
  ·skip   -- c0.T
   have htl : t < X.length := by simpa using hc0
   obtain ⟨p, hx⟩ : ∃ p, X[t]? = some p := ⟨_, List.getElem?_eq_getElem htl⟩
   have hfx := congrArg List.length (take_flatC hx)
   have hfl2 : (X.take (t + 1)).flatten.length ≤ 1000000000 := by
    have h := congrArg List.length (congrArg List.flatten (List.take_append_drop (t + 1) X))
    rw [List.flatten_append, List.length_append] at h
    omega
   rw [List.length_append] at hfx
   have hf1 := flen_next hx
   have hf2 := flen_le X (t + 1)
   have hnx : ((flen X (t + 1) : Nat) : Int) = (flen X t : Int) + (p.length : Int) := by omega
   refine SV.skip (SV.tn (SV.seq' (SV.block (SV.seq' (SV.region ?_)))))
   refine sl 0 (ok_index (n := 1) (lf := .ro _) rfl elt_s_impl_Row.und sz_s_impl_Row rfl rfl rfl (map_at hx)) ?_
   refine sl 0 (ok_load_rp (ag := false) (m := 1) (ys := [.ro _]) rfl rfl agg_s_impl_Row sz_s_impl_Row (fun _ => rfl) (gle rfl) rfl) ?_
   refine sl 0 (mv (V.one (.ro _))) ?_
   refine SV.nil (SV.tn (SV.seq' (SV.region ?_)))
   refine sl 0 ms ?_
   refine sl 0 (mv (V.one (.ro _))) ?_
   refine sl 0 (ok_len (lf := .ro _) rfl elt_impl_Row.und rfl rfl) ?_
   refine sl 0 (ok_s2 (v := .int .i64 ((flen X t : Int) + (p.length : Int))) (x := .tmp 15) (x' := .tmp 17) (VScal.one rfl) (VScal.one rfl) (fun ρ h1 h2 w => by go_simp; (try simp only [List.length_map]); rw [IntWalk.i64_left, IntWalk.wrap64_in _ ⟨by omega, by omega⟩]) rfl) ?_
   refine sl 0 ms ?_
   refine SV.nil (SV.tn (SV.seq' (SV.region ?_)))
   refine sl 0 ms ?_
   refine sl 0 (s2 (.tmp 19) (.const ((Value.int IntKind.i64 0)))) ?_
   refine SV.nil (SV.tn ?_)
   refine SV.cond rfl (fun hc1 => ?_) (fun hc1 => ?_)
   ·skip   -- c1.T
    (exfalso; simp at hc1; omega)
   ·skip   -- c1.F
    refine SV.skip (SV.bn (SV.tn (SV.region ?_)))
    refine sl 0 (s2 (.tmp 11) (.const ((Value.int IntKind.i64 1)))) ?_
    refine sl 0 ms ?_
    refine SV.nil (SV.tn ?_)
    refine SV.again (fun i => [].getD i 0) (t + 1) (⟨by omega, by omega⟩) (pins hE rfl rfl) (VS.le.mk' (le_put (le_put (le_put (le_put (le_put (le_put le_nil (V.le.keep (ag := false) (xs := [.ro _]) (ys := [.ro _]) rfl rfl ⟨rfl, trivial⟩)) (V.le.keep (ag := false) (xs := [.sc _]) (ys := [.sc _]) rfl rfl ⟨rfl, trivial⟩)) (V.le.keep (ag := false) (xs := [.sc _]) (ys := [.sc _]) rfl rfl ⟨(by first | rfl | (show Leaf.sc _ = Leaf.sc _; refine congrArg Leaf.sc ?_; first | rfl | go_num | ((rw [hnx]); first | done | rfl | go_num | (simp; done) | (simp; omega)) | (simp [cntAll]; done)) | (simp [cntAll]; done) | (simp; omega)), trivial⟩)) (V.le.keep (ag := false) (xs := [.ro _]) (ys := [.ro _]) rfl rfl ⟨rfl, trivial⟩)) (V.le.keep (ag := false) (xs := [.sc _]) (ys := [.sc _]) rfl rfl ⟨rfl, trivial⟩)) (V.le.keep (ag := false) (xs := [.sc _]) (ys := [.sc _]) rfl rfl ⟨(by first | rfl | (show Leaf.sc _ = Leaf.sc _; refine congrArg Leaf.sc ?_; first | rfl | go_num | ((rw [hnx]); first | done | rfl | go_num | (simp; done) | (simp; omega)) | (simp [cntAll]; done)) | (simp [cntAll]; done) | (simp; omega)), trivial⟩)) trivial trivial nil_ob (fun i j hi hj e => absurd hi (Nat.not_lt_zero i)))
  ·skip   -- c0.F
   have hte : t = X.length := by simp at hc0; omega
   have hf0 := flen_le X t
   refine SV.exit (SV.te (SV.te (SV.bh (SV.tn (SV.seq' (SV.region ?_))))))
   refine sl 0 ms ?_
   refine sm (cl [(false, [.hd 0])] rfl Try.func135 (vgrow_i _ (by omega)) ⟨⟨[.sc _], rfl, ⟨rfl, trivial⟩⟩, ⟨[.sc _], rfl, ⟨rfl, trivial⟩⟩, trivial⟩) ?_
   refine sl 0 (mv (V.one (.hd 0))) ?_
   refine SV.nil (SV.tn (SV.seq' (SV.seq' (SV.region ?_))))
   refine sl 0 (mv (V.one (.ro _))) ?_
   refine sl 0 (ok_len (lf := .ro _) rfl elt_s_impl_Row.und rfl rfl) ?_
   refine sl 0 ms ?_
   refine SV.nil (SV.tn (SV.block ?_))
   refine SV.loopF (X := Nat) (fun (σ : VS) t => ((((((VS.nil.new (.seq 72 ((X.take t).flatten.map tRow))).put 2 (σ.tm 2)).put 6 (V.flat false [.hd 0])).put 25 (σ.tm 25)).put 26 (σ.tm 26)).put 27 (V.flat false [.sc (.int .i64 ((t : Int)))]))) (fun t => t ≤ X.length) (fun t => X.length - t) ?_ ?_
   ·skip
    refine SV.again (fun i => [0].getD i 0) 0 ((Nat.zero_le _)) (pins hE rfl rfl) (VS.le.mk' (le_put (le_put (le_put (le_put (le_put (le_new le_nil) (V.le.keep (ag := false) (xs := [.sc _]) (ys := [.sc _]) rfl rfl ⟨rfl, trivial⟩)) (V.le.keep (ag := false) (xs := [.hd 0]) (ys := [.hd 0]) rfl rfl ⟨⟨rfl, (gle rfl), (gle rfl)⟩, trivial⟩)) (V.le.keep (ag := false) (xs := [.ro _]) (ys := [.ro _]) rfl rfl ⟨rfl, trivial⟩)) (V.le.keep (ag := false) (xs := [.sc _]) (ys := [.sc _]) rfl rfl ⟨rfl, trivial⟩)) (V.le.keep (ag := false) (xs := [.sc _]) (ys := [.sc _]) rfl rfl ⟨(by first | rfl | (show Leaf.sc _ = Leaf.sc _; refine congrArg Leaf.sc ?_; first | rfl | go_num | (simp [cntAll]; done)) | (simp [cntAll]; done) | (simp; omega)), trivial⟩)) trivial ⟨.inr ⟨_, _, rfl, ?ob3_0, (gle rfl)⟩, trivial⟩ (new_ob nil_ob) (fun i j hi hj e => inj_list (l := [0]) (by decide) i j hi hj e))
    case ob3_0 =>
     show some (T.seq _ _) = some (T.seq _ _)
     rfl
   ·rintro t ht
    have hfl : (X.take t).flatten.length ≤ 1000000000 := by
     have h := congrArg List.length (congrArg List.flatten (List.take_append_drop t X))
     rw [List.flatten_append, List.length_append] at h
     omega
    refine SV.seq' (SV.region ?_)
    refine sl 0 (s2 (.tmp 27) (.tmp 26)) ?_
    refine SV.nil (SV.tn (SV.seq' ?_))
    refine SV.cond rfl (fun hc2 => ?_) (fun hc2 => ?_)
    ·skip   -- c2.T
     have htl : t < X.length := by simpa using hc2
     obtain ⟨p, hx⟩ : ∃ p, X[t]? = some p := ⟨_, List.getElem?_eq_getElem htl⟩
     have hfx := congrArg List.length (take_flatC hx)
     have hfl2 : (X.take (t + 1)).flatten.length ≤ 1000000000 := by
      have h := congrArg List.length (congrArg List.flatten (List.take_append_drop (t + 1) X))
      rw [List.flatten_append, List.length_append] at h
      omega
     rw [List.length_append] at hfx
     refine SV.skip (SV.tn (SV.seq' (SV.block (SV.seq' (SV.region ?_)))))
     refine sl 0 (ok_index (n := 1) (lf := .ro _) rfl elt_s_impl_Row.und sz_s_impl_Row rfl rfl rfl (map_at hx)) ?_
     refine sl 0 (ok_load_rp (ag := false) (m := 1) (ys := [.ro _]) rfl rfl agg_s_impl_Row sz_s_impl_Row (fun _ => rfl) (gle rfl) rfl) ?_
     refine sl 0 (mv (V.one (.ro _))) ?_
     refine SV.nil (SV.tn (SV.region ?_))
     refine sl 0 (mv (V.one (.hd 0))) ?_
     refine sl 0 (mv (V.one (.ro _))) ?_
     refine sm (ok_append_ro (kk := 1) elt_impl_Row (ls := .hd 0) (lx := .ro _) rfl rfl rfl rfl rfl rfl (flat_impl_Row _) (by simp only [List.length_map]; omega) rfl (gle rfl)) ?_
     refine sl 0 (mv (V.one (.hd 1))) ?_
     refine SV.nil (SV.bn (SV.tn (SV.region ?_)))
     refine sl 0 (s2 (.tmp 27) (.const ((Value.int IntKind.i64 1)))) ?_
     refine sl 0 ms ?_
     refine SV.nil (SV.tn ?_)
     refine SV.again (fun i => [1].getD i 0) (t + 1) (⟨by omega, by omega⟩) (pins hE rfl rfl) (VS.le.mk' (le_put (le_put (le_put (le_put (le_put (le_new le_nil) (V.le.keep (ag := false) (xs := [.sc _]) (ys := [.sc _]) rfl rfl ⟨rfl, trivial⟩)) (V.le.keep (ag := false) (xs := [.hd 1]) (ys := [.hd 0]) rfl rfl ⟨⟨rfl, (gle rfl), (gle rfl)⟩, trivial⟩)) (V.le.keep (ag := false) (xs := [.ro _]) (ys := [.ro _]) rfl rfl ⟨rfl, trivial⟩)) (V.le.keep (ag := false) (xs := [.sc _]) (ys := [.sc _]) rfl rfl ⟨rfl, trivial⟩)) (V.le.keep (ag := false) (xs := [.sc _]) (ys := [.sc _]) rfl rfl ⟨(by first | rfl | (show Leaf.sc _ = Leaf.sc _; refine congrArg Leaf.sc ?_; first | rfl | go_num | (simp [cntAll]; done)) | (simp [cntAll]; done) | (simp; omega)), trivial⟩)) trivial ⟨.inr ⟨_, _, rfl, ?ob4_0, (gle rfl)⟩, trivial⟩ (new_ob nil_ob) (fun i j hi hj e => inj_list (l := [1]) (by decide) i j hi hj e))
     case ob4_0 =>
      show some (T.seq _ _) = some (T.seq _ _)
      rw [take_flatC hx]; first | done | rfl | (simp only [List.map_append]; rfl) | (simp; done)
    ·skip   -- c2.F
     have hte : X.take t = X := List.take_of_length_le (by simp at hc2; omega)
     refine SV.exit (SV.te (SV.te (SV.bh (SV.tn (SV.seq' (SV.region ?_))))))
     refine sl 0 (mv (V.one (.hd 0))) ?_
     refine sl 0 (mv (V.one (.hd 0))) ?_
     refine SV.nil (SV.tn (SV.ret ?_))
     refine d1 (.hd 0) Try.results129 ?_ <;> (refine lsq ?_; rw [hte]; first | done | rfl)
end Go.Proofs.Ytpnbnbhifpcelaa
/- The program's IsValidSorter: told by trees. -/
namespace Go.Proofs.Ytpnbnbhifpcelaa
open Go Go.RowKit V
set_option linter.unusedVariables false
set_option maxRecDepth 100000 in
set_option maxHeartbeats 2000000 in
theorem vreadB_i (s : SorterD) (hW : s.Wf) (hP : 0 ≤ s.fPos ∧ s.fPos ≤ s.fInput.length) : VC Try.prog 114 [(true, tSorter s)] false [(false, [.lit (.bool (SorterD.okRead s))])] := by
 refine VC.enter Try.func114 rfl Try.ntmps114 (gle rfl) fun E hE => ?_
 have hsz := hW.size
 obtain ⟨n, hn⟩ : ∃ n : Nat, s.fPos = n := ⟨_, (Int.toNat_of_nonneg hP.1).symm⟩
 have hbg := vbags_i [s.fRuns.flatten, s.fOutput, s.fHeap, s.fDeferred].flatten (s.fInput.take n) (fun r hr => by simp only [List.flatten_cons, List.flatten_nil, List.append_nil, List.mem_append, List.mem_flatten] at hr; rcases hr with (⟨p, hp, hr⟩ | hr | hr | hr); exact hW.runs p hp r hr; exact hW.out r hr; exact hW.heap r hr; exact hW.late r hr) (fun r hr => hW.inp r (List.mem_of_mem_take hr)) (by simp only [List.flatten_cons, List.flatten_nil, List.append_nil, List.length_append]; omega) (by rw [List.length_take]; omega)
 rw [List.map_take] at hbg
 have hsm := vsmem_i s hW
 refine SV.seq' (SV.region ?_)
 refine sm (ok_box (kk := 0) (ag := true) (xs := [.ro _, .sc _, .ro _, .ro _, .ro _, .ro _, .sc _, .sc _, .sc _, .sc _]) rfl rfl rfl (fun h => by cases h) rfl rfl (gle rfl)) ?_
 refine sl 1 ms ?_
 refine SV.nil (SV.tn (SV.seq' (SV.seq' (SV.region ?_))))
 refine sl 1 (fb fld_impl_Sorter_6) ?_
 refine sl 1 (lb 0 6 [.sc _] agg_int sz_int (fun _ => rfl)) ?_
 refine sl 1 (s2 (.tmp 5) (.const ((Value.int IntKind.i64 0)))) ?_
 refine sl 1 ms ?_
 refine SV.split (d := 7) rfl (fun hg0 => ?_) (fun hg0 => ?_)
 ·skip   -- g0.T
  have hl0 : ¬ s.fLeftPos = 0 := by simpa using hg0
  have hno : SorterD.okRead s = false := by
   unfold SorterD.okRead
   rw [decide_eq_false (fun hh => by exact hl0 hh.1), Bool.false_and]
  refine sn ?_
  refine sn ?_
  refine sn ?_
  refine sl 1 pt ?_
  refine sl 1 ms ?_
  refine sn ?_
  refine sn ?_
  refine sn ?_
  refine sl 1 pt ?_
  refine SV.nil (SV.tn ?_)
  refine SV.cond rfl (fun hc0 => ?_) (fun hc0 => ?_)
  ·skip   -- c0.T
   refine SV.seq' (SV.region ?_)
   refine sl 1 ms ?_
   refine SV.nil (SV.tn (SV.ret (SV.tr ?_)))
   refine d1 (.sc _) Try.results114 ?_ <;> (refine lbq ?_; (rw [hno]; first | done | rfl))
  ·skip   -- c0.F
   cases hc0
 ·skip   -- g0.F
  have hl0 : s.fLeftPos = 0 := by simpa using hg0
  refine sy 1 (fb fld_impl_Sorter_7) ?_
  refine sy 1 (lb 0 7 [.sc _] agg_int sz_int (fun _ => rfl)) ?_
  refine sy 1 (s2 (.tmp 9) (.const ((Value.int IntKind.i64 0)))) ?_
  refine sl 1 pf ?_
  refine sl 1 ms ?_
  refine SV.split (d := 12) rfl (fun hg1 => ?_) (fun hg1 => ?_)
  ·skip   -- g1.T
   have hr0 : ¬ s.fRightPos = 0 := by simpa using hg1
   have hno : SorterD.okRead s = false := by
    unfold SorterD.okRead
    rw [decide_eq_false (fun hh => by exact hr0 hh.2.1), Bool.false_and]
   refine sn ?_
   refine sn ?_
   refine sn ?_
   refine sl 1 pt ?_
   refine SV.nil (SV.tn ?_)
   refine SV.cond rfl (fun hc1 => ?_) (fun hc1 => ?_)
   ·skip   -- c1.T
    refine SV.seq' (SV.region ?_)
    refine sl 1 ms ?_
    refine SV.nil (SV.tn (SV.ret (SV.tr ?_)))
    refine d1 (.sc _) Try.results114 ?_ <;> (refine lbq ?_; (rw [hno]; first | done | rfl))
   ·skip   -- c1.F
    cases hc1
  ·skip   -- g1.F
   have hr0 : s.fRightPos = 0 := by simpa using hg1
   refine sy 1 (lb 0 0 [.ro _, .sc _, .ro _, .ro _, .ro _, .ro _, .sc _, .sc _, .sc _, .sc _] agg_impl_Sorter sz_impl_Sorter (fun h => by cases h)) ?_
   refine SV.opY (OpMk.ok (cl [(false, [.sc _])] rfl Try.func26 (hsm) ⟨⟨[.ro _, .sc _, .ro _, .ro _, .ro _, .ro _, .sc _, .sc _, .sc _, .sc _], rfl, ⟨rfl, rfl, rfl, rfl, rfl, rfl, rfl, rfl, rfl, rfl, trivial⟩⟩, trivial⟩)) rfl rfl rfl (gle rfl) rfl rfl ?_
   refine sy 1 (s2 (.tmp 14) (.const ((Value.int IntKind.i64 60)))) ?_
   refine sl 1 pf ?_
   refine SV.nil (SV.tn ?_)
   refine SV.cond rfl (fun hc2 => ?_) (fun hc2 => ?_)
   ·skip   -- c2.T
    have hm : ¬ SorterD.mem s ≤ 60 := by simp at hc2; omega
    have hno : SorterD.okRead s = false := by
     unfold SorterD.okRead
     rw [decide_eq_false (fun hh => by exact hm hh.2.2.2), Bool.false_and]
    refine SV.seq' (SV.region ?_)
    refine sl 1 ms ?_
    refine SV.nil (SV.tn (SV.ret (SV.tr ?_)))
    refine d1 (.sc _) Try.results114 ?_ <;> (refine lbq ?_; (rw [hno]; first | done | rfl))
   ·skip   -- c2.F
    have hm : SorterD.mem s ≤ 60 := by simp at hc2; omega
    refine SV.skip (SV.tn (SV.seq' (SV.seq' (SV.region ?_))))
    refine sl 1 (fb fld_impl_Sorter_4) ?_
    refine sl 1 (lb 0 4 [.ro _] agg_s_impl_Row sz_s_impl_Row (fun _ => rfl)) ?_
    refine sl 1 (ok_len (lf := .ro _) rfl elt_impl_Row.und rfl rfl) ?_
    refine sl 1 (s2 (.tmp 19) (.const ((Value.int IntKind.i64 0)))) ?_
    refine sl 1 ms ?_
    refine SV.split (d := 21) rfl (fun hg2 => ?_) (fun hg2 => ?_)
    ·skip   -- g2.T
     have hol : ¬ 0 < s.fOutput.length := by first | (simp at hg2; omega) | (simp at hg2; rw [hg2]; simp)
     refine sy 1 (fb fld_impl_Sorter_3) ?_
     refine sy 1 (lb 0 3 [.ro _] agg_s_impl_Row sz_s_impl_Row (fun _ => rfl)) ?_
     refine sy 1 (ok_len (lf := .ro _) rfl elt_impl_Row.und rfl rfl) ?_
     refine sy 1 (s2 (.tmp 24) (.const ((Value.int IntKind.i64 0)))) ?_
     refine sl 1 pt ?_
     refine SV.nil (SV.tn ?_)
     refine SV.cond rfl (fun hc3 => ?_) (fun hc3 => ?_)
     ·skip   -- c3.T
      have hdl : ¬ s.fDeferred.length = 0 := fun e => by simp [e] at hc3
      have hno : SorterD.okRead s = false := by
       unfold SorterD.okRead
       rw [decide_eq_false (fun hh => by rcases hh.2.2.1 with h | h; exact hdl h; exact hol h), Bool.false_and]
      refine SV.seq' (SV.region ?_)
      refine sl 1 ms ?_
      refine SV.nil (SV.tn (SV.ret (SV.tr ?_)))
      refine d1 (.sc _) Try.results114 ?_ <;> (refine lbq ?_; (rw [hno]; first | done | rfl))
     ·skip   -- c3.F
      have hd : s.fDeferred.length = 0 ∨ 0 < s.fOutput.length := .inl (by first | (simp at hc3; omega) | (simp at hc3; rw [hc3]; rfl))
      have hno : SorterD.okRead s = R.eqBags [s.fRuns.flatten, s.fOutput, s.fHeap, s.fDeferred].flatten (s.fInput.take n) := by
       unfold SorterD.okRead
       rw [decide_eq_true (⟨hl0, hr0, hd, hm⟩ : s.fLeftPos = 0 ∧ s.fRightPos = 0 ∧ (s.fDeferred.length = 0 ∨ 0 < s.fOutput.length) ∧ SorterD.mem s ≤ 60), hn, Int.toNat_natCast, Bool.true_and]; congr 1; simp only [List.flatten_cons, List.flatten_nil, List.append_nil, List.append_assoc]
      refine SV.skip (SV.tn (SV.seq' ?_))
      refine SV.draw [.q 0, .q 1, .q 3, .q 4, .q 5, .q 6, .q 7, .q 8, .m 2, .m 9, .m 10, .q 11] [] (by kernel_rfl) (by kernel_rfl) ?_
      refine dq rfl (fb fld_impl_Sorter_5) ?_
      refine dq rfl (lb 0 5 [.ro _] agg_s_impl_Run sz_s_impl_Run (fun _ => rfl)) ?_
      refine dq rfl (fb fld_impl_Sorter_4) ?_
      refine dq rfl (lb 0 4 [.ro _] agg_s_impl_Row sz_s_impl_Row (fun _ => rfl)) ?_
      refine dq rfl (fb fld_impl_Sorter_2) ?_
      refine dq rfl (lb 0 2 [.ro _] agg_s_impl_Row sz_s_impl_Row (fun _ => rfl)) ?_
      refine dq rfl (fb fld_impl_Sorter_3) ?_
      refine dq rfl (lb 0 3 [.ro _] agg_s_impl_Row sz_s_impl_Row (fun _ => rfl)) ?_
      refine DW.m [0] rfl (cl [(false, [.hd 0])] rfl Try.func100 (vflatB_i s.fRuns hW.runs (fun p hp => by have := hW.run hp; omega) (by omega) (by omega)) ⟨⟨[.ro _], rfl, ⟨rfl, trivial⟩⟩, trivial⟩) rfl (gle rfl) (gle rfl) (.inl rfl) (fun j hj => by
        simp only [List.mem_cons, List.not_mem_nil, or_false] at hj
        rcases hj with rfl
        ·exact .inr ⟨(gle rfl), (gle rfl), .inl rfl⟩) ?_
      refine DW.litcall (m := 4) (xs := [.tmp 29, .tmp 31, .tmp 33, .tmp 35]) (es := [.seq 72 (s.fRuns.flatten.map tRow), .seq 72 (s.fOutput.map tRow), .seq 72 (s.fHeap.map tRow), .seq 72 (s.fDeferred.map tRow)]) (ls := [(false, [.hd 1])]) elt_s_impl_Row rfl rfl rfl rfl (by decide) (by decide) ⟨⟨_, _, _, rfl, rfl, rfl⟩, ⟨_, _, _, rfl, rfl, rfl⟩, ⟨_, _, _, rfl, rfl, rfl⟩, ⟨_, _, _, rfl, rfl, rfl⟩, trivial⟩ rfl rfl (gle rfl) rfl rfl ⟨_, _, Try.func129, rfl, by decide⟩ (vconcat_i [s.fRuns.flatten, s.fOutput, s.fHeap, s.fDeferred] (by simp) (by simp only [List.flatten_cons, List.flatten_nil, List.append_nil, List.length_append]; omega)) rfl rfl rfl (gle rfl) (gle rfl) rfl ?_
      refine dq rfl (mv (V.one (.hd 1))) ?_
      refine DW.stores ?_
      refine SV.zend ?_
      refine SV.tn (SV.seq' ?_)
      refine SV.tell (fun (σ : VS) => (((((VS.nil.new (σ.tree 1)).box 27 [σ.bl 0 0, .sc (.int .i64 ((n : Int))), σ.bl 0 2, σ.bl 0 3, σ.bl 0 4, σ.bl 0 5, σ.bl 0 6, σ.bl 0 7, σ.bl 0 8, σ.bl 0 9]).put 1 (V.flat false [.bp 0 0])).put 2 (σ.tm 2)).put 3 (V.flat false [.hd 0]))) ?h ?k
      case k =>
       intro hjn
       refine (fun pp le => SV.weaken (fun i => [1].getD i 0) pp le hjn) (pins hE rfl rfl) (VS.le.mk' (le_put (le_put (le_put (le_box (le_new le_nil)) (V.le.keep (ag := false) (xs := [.bp 0 0]) (ys := [.bp 0 0]) rfl rfl ⟨⟨rfl, (gle rfl)⟩, trivial⟩)) (V.le.keep (ag := false) (xs := [.sc _]) (ys := [.sc _]) rfl rfl ⟨rfl, trivial⟩)) (V.le.keep (ag := false) (xs := [.hd 1]) (ys := [.hd 0]) rfl rfl ⟨⟨rfl, (gle rfl), (gle rfl)⟩, trivial⟩)) ⟨⟨rfl, ⟨rfl, (by first | rfl | (show Leaf.sc _ = Leaf.sc _; refine congrArg Leaf.sc ?_; first | rfl | go_num | ((exact congrArg _ hn); first | done | rfl | go_num | (simp; done) | (simp; omega)) | (simp [cntAll]; done)) | (simp [cntAll]; done) | (simp; omega)), rfl, rfl, rfl, rfl, rfl, rfl, rfl, rfl, trivial⟩⟩, trivial⟩ ⟨.inr ⟨_, _, rfl, rfl, (gle rfl)⟩, trivial⟩ (new_ob nil_ob) (fun i j hi hj e => inj_list (l := [1]) (by decide) i j hi hj e))
      case h =>
      refine SV.region ?_
      refine sl 1 (mv (V.one (.hd 0))) ?_
      refine sl 1 (fb fld_impl_Sorter_0) ?_
      refine sl 1 (lb 0 0 [.ro _] agg_s_impl_Row sz_s_impl_Row (fun _ => rfl)) ?_
      refine sl 1 (fb fld_impl_Sorter_1) ?_
      refine sl 1 (lb 0 1 [.sc _] agg_int sz_int (fun _ => rfl)) ?_
      refine sl 1 (ok_slice (l := 0) (h := n) (lf := .ro _) (yy := .ro _) rfl rfl elt_impl_Row.und sz_impl_Row rfl rfl rfl ⟨_, rfl⟩ (Nat.zero_le _) (by simp only [List.length_map]; omega)) ?_
      refine sm (cl [(false, [.sc _])] rfl Try.func130 (hbg) ⟨⟨[.hd 0], rfl, ⟨rfl, trivial⟩⟩, ⟨[.ro _], rfl, ⟨rfl, trivial⟩⟩, trivial⟩) ?_
      refine sl 1 ms ?_
      refine SV.nil (SV.tn (SV.ret ?_))
      refine d1 (.sc _) Try.results114 ?_ <;> (refine lbq ?_; (rw [hno]; first | done | rfl))
    ·skip   -- g2.F
     have hd : s.fDeferred.length = 0 ∨ 0 < s.fOutput.length := .inr (by rcases Nat.eq_zero_or_pos s.fOutput.length with e | e; (exfalso; simp [e] at hg2); (exact e))
     have hno : SorterD.okRead s = R.eqBags [s.fRuns.flatten, s.fOutput, s.fHeap, s.fDeferred].flatten (s.fInput.take n) := by
      unfold SorterD.okRead
      rw [decide_eq_true (⟨hl0, hr0, hd, hm⟩ : s.fLeftPos = 0 ∧ s.fRightPos = 0 ∧ (s.fDeferred.length = 0 ∨ 0 < s.fOutput.length) ∧ SorterD.mem s ≤ 60), hn, Int.toNat_natCast, Bool.true_and]; congr 1; simp only [List.flatten_cons, List.flatten_nil, List.append_nil, List.append_assoc]
     refine sn ?_
     refine sn ?_
     refine sn ?_
     refine sn ?_
     refine sl 1 pf ?_
     refine SV.nil (SV.tn ?_)
     refine SV.cond rfl (fun hc4 => ?_) (fun hc4 => ?_)
     ·skip   -- c4.T
      cases hc4
     ·skip   -- c4.F
      refine SV.skip (SV.tn (SV.seq' ?_))
      refine SV.draw [.q 0, .q 1, .q 3, .q 4, .q 5, .q 6, .q 7, .q 8, .m 2, .m 9, .m 10, .q 11] [] (by kernel_rfl) (by kernel_rfl) ?_
      refine dq rfl (fb fld_impl_Sorter_5) ?_
      refine dq rfl (lb 0 5 [.ro _] agg_s_impl_Run sz_s_impl_Run (fun _ => rfl)) ?_
      refine dq rfl (fb fld_impl_Sorter_4) ?_
      refine dq rfl (lb 0 4 [.ro _] agg_s_impl_Row sz_s_impl_Row (fun _ => rfl)) ?_
      refine dq rfl (fb fld_impl_Sorter_2) ?_
      refine dq rfl (lb 0 2 [.ro _] agg_s_impl_Row sz_s_impl_Row (fun _ => rfl)) ?_
      refine dq rfl (fb fld_impl_Sorter_3) ?_
      refine dq rfl (lb 0 3 [.ro _] agg_s_impl_Row sz_s_impl_Row (fun _ => rfl)) ?_
      refine DW.m [0] rfl (cl [(false, [.hd 0])] rfl Try.func100 (vflatB_i s.fRuns hW.runs (fun p hp => by have := hW.run hp; omega) (by omega) (by omega)) ⟨⟨[.ro _], rfl, ⟨rfl, trivial⟩⟩, trivial⟩) rfl (gle rfl) (gle rfl) (.inl rfl) (fun j hj => by
        simp only [List.mem_cons, List.not_mem_nil, or_false] at hj
        rcases hj with rfl
        ·exact .inr ⟨(gle rfl), (gle rfl), .inl rfl⟩) ?_
      refine DW.litcall (m := 4) (xs := [.tmp 29, .tmp 31, .tmp 33, .tmp 35]) (es := [.seq 72 (s.fRuns.flatten.map tRow), .seq 72 (s.fOutput.map tRow), .seq 72 (s.fHeap.map tRow), .seq 72 (s.fDeferred.map tRow)]) (ls := [(false, [.hd 1])]) elt_s_impl_Row rfl rfl rfl rfl (by decide) (by decide) ⟨⟨_, _, _, rfl, rfl, rfl⟩, ⟨_, _, _, rfl, rfl, rfl⟩, ⟨_, _, _, rfl, rfl, rfl⟩, ⟨_, _, _, rfl, rfl, rfl⟩, trivial⟩ rfl rfl (gle rfl) rfl rfl ⟨_, _, Try.func129, rfl, by decide⟩ (vconcat_i [s.fRuns.flatten, s.fOutput, s.fHeap, s.fDeferred] (by simp) (by simp only [List.flatten_cons, List.flatten_nil, List.append_nil, List.length_append]; omega)) rfl rfl rfl (gle rfl) (gle rfl) rfl ?_
      refine dq rfl (mv (V.one (.hd 1))) ?_
      refine DW.stores ?_
      refine SV.zend ?_
      refine SV.tn (SV.seq' ?_)
      refine SV.tell (fun (σ : VS) => (((((VS.nil.new (σ.tree 1)).box 27 [σ.bl 0 0, .sc (.int .i64 ((n : Int))), σ.bl 0 2, σ.bl 0 3, σ.bl 0 4, σ.bl 0 5, σ.bl 0 6, σ.bl 0 7, σ.bl 0 8, σ.bl 0 9]).put 1 (V.flat false [.bp 0 0])).put 2 (σ.tm 2)).put 3 (V.flat false [.hd 0]))) ?h ?k
      case k =>
       intro hjn
       refine (fun pp le => SV.weaken (fun i => [1].getD i 0) pp le hjn) (pins hE rfl rfl) (VS.le.mk' (le_put (le_put (le_put (le_box (le_new le_nil)) (V.le.keep (ag := false) (xs := [.bp 0 0]) (ys := [.bp 0 0]) rfl rfl ⟨⟨rfl, (gle rfl)⟩, trivial⟩)) (V.le.keep (ag := false) (xs := [.sc _]) (ys := [.sc _]) rfl rfl ⟨rfl, trivial⟩)) (V.le.keep (ag := false) (xs := [.hd 1]) (ys := [.hd 0]) rfl rfl ⟨⟨rfl, (gle rfl), (gle rfl)⟩, trivial⟩)) ⟨⟨rfl, ⟨rfl, (by first | rfl | (show Leaf.sc _ = Leaf.sc _; refine congrArg Leaf.sc ?_; first | rfl | go_num | ((exact congrArg _ hn); first | done | rfl | go_num | (simp; done) | (simp; omega)) | (simp [cntAll]; done)) | (simp [cntAll]; done) | (simp; omega)), rfl, rfl, rfl, rfl, rfl, rfl, rfl, rfl, trivial⟩⟩, trivial⟩ ⟨.inr ⟨_, _, rfl, rfl, (gle rfl)⟩, trivial⟩ (new_ob nil_ob) (fun i j hi hj e => inj_list (l := [1]) (by decide) i j hi hj e))
      case h =>
      refine SV.region ?_
      refine sl 1 (mv (V.one (.hd 0))) ?_
      refine sl 1 (fb fld_impl_Sorter_0) ?_
      refine sl 1 (lb 0 0 [.ro _] agg_s_impl_Row sz_s_impl_Row (fun _ => rfl)) ?_
      refine sl 1 (fb fld_impl_Sorter_1) ?_
      refine sl 1 (lb 0 1 [.sc _] agg_int sz_int (fun _ => rfl)) ?_
      refine sl 1 (ok_slice (l := 0) (h := n) (lf := .ro _) (yy := .ro _) rfl rfl elt_impl_Row.und sz_impl_Row rfl rfl rfl ⟨_, rfl⟩ (Nat.zero_le _) (by simp only [List.length_map]; omega)) ?_
      refine sm (cl [(false, [.sc _])] rfl Try.func130 (hbg) ⟨⟨[.hd 0], rfl, ⟨rfl, trivial⟩⟩, ⟨[.ro _], rfl, ⟨rfl, trivial⟩⟩, trivial⟩) ?_
      refine sl 1 ms ?_
      refine SV.nil (SV.tn (SV.ret ?_))
      refine d1 (.sc _) Try.results114 ?_ <;> (refine lbq ?_; (rw [hno]; first | done | rfl))
set_option maxRecDepth 100000 in
set_option maxHeartbeats 2000000 in
theorem vphase_i (s : SorterD) (hW : s.Wf) (hP : 0 ≤ s.fPos ∧ s.fPos ≤ s.fInput.length) : VC Try.prog 78 [(true, tSorter s)] false [(false, [.lit (.bool (SorterD.phaseB s))])] := by
 refine VC.enter Try.func78 rfl Try.ntmps78 (gle rfl) fun E hE => ?_
 have hsz := hW.size
 refine SV.seq' (SV.region ?_)
 refine sm (ok_box (kk := 0) (ag := true) (xs := [.ro _, .sc _, .ro _, .ro _, .ro _, .ro _, .sc _, .sc _, .sc _, .sc _]) rfl rfl rfl (fun h => by cases h) rfl rfl (gle rfl)) ?_
 refine sl 1 ms ?_
 refine SV.nil (SV.tn (SV.seq' (SV.region ?_)))
 refine sl 1 (fb fld_impl_Sorter_8) ?_
 refine sl 1 (lb 0 8 [.sc _] agg_int sz_int (fun _ => rfl)) ?_
 refine SV.nil (SV.tn (SV.block (SV.seq' (SV.region ?_))))
 refine sl 1 (s2 (.tmp 4) (.const ((Value.int IntKind.i64 1)))) ?_
 refine sl 1 ms ?_
 refine SV.nil (SV.tn ?_)
 refine SV.cond rfl (fun hc0 => ?_) (fun hc0 => ?_)
 ·skip   -- c0.T
  have hp1 : s.fPhase = 1 := by simpa using hc0
  have hno := SorterD.phase_one hp1
  refine SV.seq' (SV.region ?_)
  refine sl 1 (lb 0 0 [.ro _, .sc _, .ro _, .ro _, .ro _, .ro _, .sc _, .sc _, .sc _, .sc _] agg_impl_Sorter sz_impl_Sorter (fun h => by cases h)) ?_
  refine sm (cl [(false, [.sc _])] rfl Try.func114 (vreadB_i s hW hP) ⟨⟨[.ro _, .sc _, .ro _, .ro _, .ro _, .ro _, .sc _, .sc _, .sc _, .sc _], rfl, ⟨rfl, rfl, rfl, rfl, rfl, rfl, rfl, rfl, rfl, rfl, trivial⟩⟩, trivial⟩) ?_
  refine sl 1 ms ?_
  refine SV.nil (SV.tn (SV.ret (SV.br ?_)))
  refine d1 (.sc _) Try.results78 ?_ <;> (refine lbq ?_; (rw [hno]; first | done | rfl | (rw [Bool.eq_iff_iff]; simp; done)))
 ·skip   -- c0.F
  have hp1 : ¬ s.fPhase = 1 := by simpa using hc0
  refine SV.seq' (SV.region ?_)
  refine sl 1 (s2 (.tmp 4) (.const ((Value.int IntKind.i64 2)))) ?_
  refine sl 1 ms ?_
  refine SV.nil (SV.tn ?_)
  refine SV.cond rfl (fun hc1 => ?_) (fun hc1 => ?_)
  ·skip   -- c1.T
   have hp2 : s.fPhase = 2 := by simpa using hc1
   have hph := SorterD.phase_two hp1 hp2
   refine SV.seq' (SV.region ?_)
   refine sl 1 (lb 0 0 [.ro _, .sc _, .ro _, .ro _, .ro _, .ro _, .sc _, .sc _, .sc _, .sc _] agg_impl_Sorter sz_impl_Sorter (fun h => by cases h)) ?_
   refine sm (cl [(false, [.sc _])] rfl Try.func115 (vall_i s hW) ⟨⟨[.ro _, .sc _, .ro _, .ro _, .ro _, .ro _, .sc _, .sc _, .sc _, .sc _], rfl, ⟨rfl, rfl, rfl, rfl, rfl, rfl, rfl, rfl, rfl, rfl, trivial⟩⟩, trivial⟩) ?_
   refine sl 1 ms ?_
   refine SV.split (d := 13) rfl (fun hg0 => ?_) (fun hg0 => ?_)
   ·skip   -- g0.T
    have ha : SorterD.allB s = true := hg0
    have hno : SorterD.phaseB s = SorterD.mergeB s := by rw [hph, ha, Bool.true_and]
    refine sy 1 (lb 0 0 [.ro _, .sc _, .ro _, .ro _, .ro _, .ro _, .sc _, .sc _, .sc _, .sc _] agg_impl_Sorter sz_impl_Sorter (fun h => by cases h)) ?_
    refine SV.opY (OpMk.ok (cl [(false, [.sc _])] rfl Try.func116 (vmergeB_i s hW) ⟨⟨[.ro _, .sc _, .ro _, .ro _, .ro _, .ro _, .sc _, .sc _, .sc _, .sc _], rfl, ⟨rfl, rfl, rfl, rfl, rfl, rfl, rfl, rfl, rfl, rfl, trivial⟩⟩, trivial⟩)) rfl rfl rfl (gle rfl) rfl rfl ?_
    refine sl 1 pt ?_
    refine sl 1 ms ?_
    refine SV.nil (SV.tn (SV.ret (SV.br ?_)))
    refine d1 (.sc _) Try.results78 ?_ <;> (refine lbq ?_; (rw [hno]; first | done | rfl | (rw [Bool.eq_iff_iff]; simp; done)))
   ·skip   -- g0.F
    have ha : SorterD.allB s = false := hg0
    have hno : SorterD.phaseB s = false := by rw [hph]; simp only [ha, Bool.false_and, Bool.and_false, Bool.true_and]
    refine sn ?_
    refine sn ?_
    refine sl 1 pf ?_
    refine sl 1 ms ?_
    refine SV.nil (SV.tn (SV.ret (SV.br ?_)))
    refine d1 (.sc _) Try.results78 ?_ <;> (refine lbq ?_; (rw [hno]; first | done | rfl | (rw [Bool.eq_iff_iff]; simp; done)))
  ·skip   -- c1.F
   have hp2 : ¬ s.fPhase = 2 := by simpa using hc1
   refine SV.seq' (SV.region ?_)
   refine sl 1 (s2 (.tmp 4) (.const ((Value.int IntKind.i64 3)))) ?_
   refine sl 1 ms ?_
   refine SV.nil (SV.tn ?_)
   refine SV.cond rfl (fun hc2 => ?_) (fun hc2 => ?_)
   ·skip   -- c2.T
    have hp3 : s.fPhase = 3 := by simpa using hc2
    have hph := SorterD.phase_tre hp1 hp2 hp3
    refine SV.seq' (SV.region ?_)
    refine sl 1 (lb 0 0 [.ro _, .sc _, .ro _, .ro _, .ro _, .ro _, .sc _, .sc _, .sc _, .sc _] agg_impl_Sorter sz_impl_Sorter (fun h => by cases h)) ?_
    refine sm (cl [(false, [.sc _])] rfl Try.func115 (vall_i s hW) ⟨⟨[.ro _, .sc _, .ro _, .ro _, .ro _, .ro _, .sc _, .sc _, .sc _, .sc _], rfl, ⟨rfl, rfl, rfl, rfl, rfl, rfl, rfl, rfl, rfl, rfl, trivial⟩⟩, trivial⟩) ?_
    refine sl 1 ms ?_
    refine SV.split (d := 21) rfl (fun hg1 => ?_) (fun hg1 => ?_)
    ·skip   -- g1.T
     have ha : SorterD.allB s = true := hg1
     refine sy 1 (lb 0 0 [.ro _, .sc _, .ro _, .ro _, .ro _, .ro _, .sc _, .sc _, .sc _, .sc _] agg_impl_Sorter sz_impl_Sorter (fun h => by cases h)) ?_
     refine SV.opY (OpMk.ok (cl [(false, [.sc _])] rfl Try.func117 (vready_i s) ⟨⟨[.ro _, .sc _, .ro _, .ro _, .ro _, .ro _, .sc _, .sc _, .sc _, .sc _], rfl, ⟨rfl, rfl, rfl, rfl, rfl, rfl, rfl, rfl, rfl, rfl, trivial⟩⟩, trivial⟩)) rfl rfl rfl (gle rfl) rfl rfl ?_
     refine sl 1 pt ?_
     refine sl 1 ms ?_
     refine SV.split (d := 25) rfl (fun hg2 => ?_) (fun hg2 => ?_)
     ·skip   -- g2.T
      have hb : decide (s.fRightPos = 0 ∧ s.fOutput.length = 0) = true := hg2
      refine sy 1 (fb fld_impl_Sorter_5) ?_
      refine sy 1 (lb 0 5 [.ro _] agg_s_impl_Run sz_s_impl_Run (fun _ => rfl)) ?_
      refine sy 1 (ok_len (lf := .ro _) rfl elt_impl_Run.und rfl rfl) ?_
      refine sy 1 (s2 (.tmp 28) (.const ((Value.int IntKind.i64 1)))) ?_
      refine sl 1 pt ?_
      refine sl 1 ms ?_
      refine SV.split (d := 31) rfl (fun hg3 => ?_) (fun hg3 => ?_)
      ·skip   -- g3.T
       have hr1 : s.fRuns.length = 1 := by simp at hg3; omega
       have hno : SorterD.phaseB s = decide (0 ≤ s.fLeftPos ∧ s.fLeftPos ≤ (s.fInput.length : Int) - 1) := by rw [hph, ha, hb, decide_eq_true hr1]; rfl
       refine sy 1 (fb fld_impl_Sorter_6) ?_
       refine sy 1 (lb 0 6 [.sc _] agg_int sz_int (fun _ => rfl)) ?_
       refine sy 1 (fb fld_impl_Sorter_0) ?_
       refine sy 1 (lb 0 0 [.ro _] agg_s_impl_Row sz_s_impl_Row (fun _ => rfl)) ?_
       refine sy 1 (ok_len (lf := .ro _) rfl elt_impl_Row.und rfl rfl) ?_
       refine sy 1 (ok_s2 (v := .int .i64 ((s.fInput.length : Int) - 1)) (x := .tmp 36) (x' := .const ((Value.int IntKind.i64 1))) (VScal.one rfl) (VScal.one rfl) (fun ρ h1 h2 w => by go_simp; (try simp only [List.length_map]); rw [IntWalk.i64_left, IntWalk.wrap64_in _ ⟨by omega, by omega⟩]) rfl) ?_
       refine SV.opY (OpMk.ok (cl [(false, [.sc _])] rfl Try.func75 (vupto_i s.fLeftPos ((s.fInput.length : Int) - 1)) ⟨⟨[.sc _], rfl, ⟨rfl, trivial⟩⟩, ⟨[.sc _], rfl, ⟨rfl, trivial⟩⟩, trivial⟩)) rfl rfl rfl (gle rfl) rfl rfl ?_
       refine sl 1 pt ?_
       refine sl 1 ms ?_
       refine SV.nil (SV.tn (SV.ret (SV.br ?_)))
       refine d1 (.sc _) Try.results78 ?_ <;> (refine lbq ?_; (rw [hno]; first | done | rfl | (rw [Bool.eq_iff_iff]; simp; done)))
      ·skip   -- g3.F
       have hr1 : ¬ s.fRuns.length = 1 := by simp at hg3; omega
       have hno : SorterD.phaseB s = false := by rw [hph, ha, hb, decide_eq_false hr1]; rfl
       refine sn ?_
       refine sn ?_
       refine sn ?_
       refine sn ?_
       refine sn ?_
       refine sn ?_
       refine sn ?_
       refine sl 1 pf ?_
       refine sl 1 ms ?_
       refine SV.nil (SV.tn (SV.ret (SV.br ?_)))
       refine d1 (.sc _) Try.results78 ?_ <;> (refine lbq ?_; (rw [hno]; first | done | rfl | (rw [Bool.eq_iff_iff]; simp; done)))
     ·skip   -- g2.F
      have hb : decide (s.fRightPos = 0 ∧ s.fOutput.length = 0) = false := hg2
      have hno : SorterD.phaseB s = false := by rw [hph]; simp only [ha, hb, Bool.false_and, Bool.and_false, Bool.true_and]
      refine sn ?_
      refine sn ?_
      refine sn ?_
      refine sn ?_
      refine sl 1 pf ?_
      refine sl 1 ms ?_
      refine sn ?_
      refine sn ?_
      refine sn ?_
      refine sn ?_
      refine sn ?_
      refine sn ?_
      refine sn ?_
      refine sl 1 pf ?_
      refine sl 1 ms ?_
      refine SV.nil (SV.tn (SV.ret (SV.br ?_)))
      refine d1 (.sc _) Try.results78 ?_ <;> (refine lbq ?_; (rw [hno]; first | done | rfl | (rw [Bool.eq_iff_iff]; simp; done)))
    ·skip   -- g1.F
     have ha : SorterD.allB s = false := hg1
     have hno : SorterD.phaseB s = false := by rw [hph]; simp only [ha, Bool.false_and, Bool.and_false, Bool.true_and]
     refine sn ?_
     refine sn ?_
     refine sl 1 pf ?_
     refine sl 1 ms ?_
     refine sn ?_
     refine sn ?_
     refine sn ?_
     refine sn ?_
     refine sl 1 pf ?_
     refine sl 1 ms ?_
     refine sn ?_
     refine sn ?_
     refine sn ?_
     refine sn ?_
     refine sn ?_
     refine sn ?_
     refine sn ?_
     refine sl 1 pf ?_
     refine sl 1 ms ?_
     refine SV.nil (SV.tn (SV.ret (SV.br ?_)))
     refine d1 (.sc _) Try.results78 ?_ <;> (refine lbq ?_; (rw [hno]; first | done | rfl | (rw [Bool.eq_iff_iff]; simp; done)))
   ·skip   -- c2.F
    have hp3 : ¬ s.fPhase = 3 := by simpa using hc2
    refine SV.seq' (SV.region ?_)
    refine sl 1 (s2 (.tmp 4) (.const ((Value.int IntKind.i64 4)))) ?_
    refine sl 1 ms ?_
    refine SV.nil (SV.tn ?_)
    refine SV.cond rfl (fun hc3 => ?_) (fun hc3 => ?_)
    ·skip   -- c3.T
     have hp4 : s.fPhase = 4 := by simpa using hc3
     have hph := SorterD.phase_four hp1 hp2 hp3 hp4
     refine SV.seq' (SV.region ?_)
     refine sl 1 (lb 0 0 [.ro _, .sc _, .ro _, .ro _, .ro _, .ro _, .sc _, .sc _, .sc _, .sc _] agg_impl_Sorter sz_impl_Sorter (fun h => by cases h)) ?_
     refine sm (cl [(false, [.sc _])] rfl Try.func115 (vall_i s hW) ⟨⟨[.ro _, .sc _, .ro _, .ro _, .ro _, .ro _, .sc _, .sc _, .sc _, .sc _], rfl, ⟨rfl, rfl, rfl, rfl, rfl, rfl, rfl, rfl, rfl, rfl, trivial⟩⟩, trivial⟩) ?_
     refine sl 1 ms ?_
     refine SV.split (d := 44) rfl (fun hg4 => ?_) (fun hg4 => ?_)
     ·skip   -- g4.T
      have ha : SorterD.allB s = true := hg4
      refine sy 1 (lb 0 0 [.ro _, .sc _, .ro _, .ro _, .ro _, .ro _, .sc _, .sc _, .sc _, .sc _] agg_impl_Sorter sz_impl_Sorter (fun h => by cases h)) ?_
      refine SV.opY (OpMk.ok (cl [(false, [.sc _])] rfl Try.func117 (vready_i s) ⟨⟨[.ro _, .sc _, .ro _, .ro _, .ro _, .ro _, .sc _, .sc _, .sc _, .sc _], rfl, ⟨rfl, rfl, rfl, rfl, rfl, rfl, rfl, rfl, rfl, rfl, trivial⟩⟩, trivial⟩)) rfl rfl rfl (gle rfl) rfl rfl ?_
      refine sl 1 pt ?_
      refine sl 1 ms ?_
      refine SV.split (d := 48) rfl (fun hg5 => ?_) (fun hg5 => ?_)
      ·skip   -- g5.T
       have hb : decide (s.fRightPos = 0 ∧ s.fOutput.length = 0) = true := hg5
       refine sy 1 (fb fld_impl_Sorter_5) ?_
       refine sy 1 (lb 0 5 [.ro _] agg_s_impl_Run sz_s_impl_Run (fun _ => rfl)) ?_
       refine sy 1 (ok_len (lf := .ro _) rfl elt_impl_Run.und rfl rfl) ?_
       refine sy 1 (s2 (.tmp 51) (.const ((Value.int IntKind.i64 1)))) ?_
       refine sl 1 pt ?_
       refine sl 1 ms ?_
       refine SV.split (d := 54) rfl (fun hg6 => ?_) (fun hg6 => ?_)
       ·skip   -- g6.T
        have hr1 : s.fRuns.length ≤ 1 := by simp at hg6; omega
        have hno : SorterD.phaseB s = decide (s.fLeftPos = s.fInput.length) := by rw [hph, ha, hb, decide_eq_true hr1]; rfl
        refine sy 1 (fb fld_impl_Sorter_6) ?_
        refine sy 1 (lb 0 6 [.sc _] agg_int sz_int (fun _ => rfl)) ?_
        refine sy 1 (fb fld_impl_Sorter_0) ?_
        refine sy 1 (lb 0 0 [.ro _] agg_s_impl_Row sz_s_impl_Row (fun _ => rfl)) ?_
        refine sy 1 (ok_len (lf := .ro _) rfl elt_impl_Row.und rfl rfl) ?_
        refine sy 1 (s2 (.tmp 56) (.tmp 59)) ?_
        refine sl 1 pt ?_
        refine sl 1 ms ?_
        refine SV.nil (SV.tn (SV.ret (SV.br ?_)))
        refine d1 (.sc _) Try.results78 ?_ <;> (refine lbq ?_; (rw [hno]; first | done | rfl | (rw [Bool.eq_iff_iff]; simp; done)))
       ·skip   -- g6.F
        have hr1 : ¬ s.fRuns.length ≤ 1 := by simp at hg6; omega
        have hno : SorterD.phaseB s = false := by rw [hph, ha, hb, decide_eq_false hr1]; rfl
        refine sn ?_
        refine sn ?_
        refine sn ?_
        refine sn ?_
        refine sn ?_
        refine sn ?_
        refine sl 1 pf ?_
        refine sl 1 ms ?_
        refine SV.nil (SV.tn (SV.ret (SV.br ?_)))
        refine d1 (.sc _) Try.results78 ?_ <;> (refine lbq ?_; (rw [hno]; first | done | rfl | (rw [Bool.eq_iff_iff]; simp; done)))
      ·skip   -- g5.F
       have hb : decide (s.fRightPos = 0 ∧ s.fOutput.length = 0) = false := hg5
       have hno : SorterD.phaseB s = false := by rw [hph]; simp only [ha, hb, Bool.false_and, Bool.and_false, Bool.true_and]
       refine sn ?_
       refine sn ?_
       refine sn ?_
       refine sn ?_
       refine sl 1 pf ?_
       refine sl 1 ms ?_
       refine sn ?_
       refine sn ?_
       refine sn ?_
       refine sn ?_
       refine sn ?_
       refine sn ?_
       refine sl 1 pf ?_
       refine sl 1 ms ?_
       refine SV.nil (SV.tn (SV.ret (SV.br ?_)))
       refine d1 (.sc _) Try.results78 ?_ <;> (refine lbq ?_; (rw [hno]; first | done | rfl | (rw [Bool.eq_iff_iff]; simp; done)))
     ·skip   -- g4.F
      have ha : SorterD.allB s = false := hg4
      have hno : SorterD.phaseB s = false := by rw [hph]; simp only [ha, Bool.false_and, Bool.and_false, Bool.true_and]
      refine sn ?_
      refine sn ?_
      refine sl 1 pf ?_
      refine sl 1 ms ?_
      refine sn ?_
      refine sn ?_
      refine sn ?_
      refine sn ?_
      refine sl 1 pf ?_
      refine sl 1 ms ?_
      refine sn ?_
      refine sn ?_
      refine sn ?_
      refine sn ?_
      refine sn ?_
      refine sn ?_
      refine sl 1 pf ?_
      refine sl 1 ms ?_
      refine SV.nil (SV.tn (SV.ret (SV.br ?_)))
      refine d1 (.sc _) Try.results78 ?_ <;> (refine lbq ?_; (rw [hno]; first | done | rfl | (rw [Bool.eq_iff_iff]; simp; done)))
    ·skip   -- c3.F
     have hp4 : ¬ s.fPhase = 4 := by simpa using hc3
     have hno := SorterD.phase_none hp1 hp2 hp3 hp4
     refine SV.seq' (SV.region ?_)
     refine sl 1 ms ?_
     refine SV.nil (SV.tn (SV.ret (SV.br ?_)))
     refine d1 (.sc _) Try.results78 ?_ <;> (refine lbq ?_; (rw [hno]; first | done | rfl | (rw [Bool.eq_iff_iff]; simp; done)))
set_option maxRecDepth 100000 in
set_option maxHeartbeats 2000000 in
theorem vokS_i (s : SorterD) (hW : s.Wf) : VC Try.prog 28 [(true, tSorter s)] false [(false, [.lit (.bool (SorterD.ok s))])] := by
 refine VC.enter Try.func28 rfl Try.ntmps28 (gle rfl) fun E hE => ?_
 have hsz := hW.size
 refine SV.seq' (SV.region ?_)
 refine sm (ok_box (kk := 0) (ag := true) (xs := [.ro _, .sc _, .ro _, .ro _, .ro _, .ro _, .sc _, .sc _, .sc _, .sc _]) rfl rfl rfl (fun h => by cases h) rfl rfl (gle rfl)) ?_
 refine sl 1 ms ?_
 refine SV.nil (SV.tn (SV.seq' (SV.region ?_)))
 refine sl 1 (fb fld_impl_Sorter_0) ?_
 refine sl 1 (lb 0 0 [.ro _] agg_s_impl_Row sz_s_impl_Row (fun _ => rfl)) ?_
 refine sm (cl [(false, [.sc _])] rfl Try.func64 (vares_i s.fInput hW.inp (by omega)) ⟨⟨[.ro _], rfl, ⟨rfl, trivial⟩⟩, trivial⟩) ?_
 refine sl 1 ms ?_
 refine SV.split (d := 6) rfl (fun hg0 => ?_) (fun hg0 => ?_)
 ·skip   -- g0.T
  have ho1 : okRows s.fInput = true := hg0
  refine sy 1 (fb fld_impl_Sorter_1) ?_
  refine sy 1 (lb 0 1 [.sc _] agg_int sz_int (fun _ => rfl)) ?_
  refine sy 1 (fb fld_impl_Sorter_0) ?_
  refine sy 1 (lb 0 0 [.ro _] agg_s_impl_Row sz_s_impl_Row (fun _ => rfl)) ?_
  refine sy 1 (ok_len (lf := .ro _) rfl elt_impl_Row.und rfl rfl) ?_
  refine SV.opY (OpMk.ok (cl [(false, [.sc _])] rfl Try.func75 (vupto_i s.fPos ((s.fInput.map tRow).length : Int)) ⟨⟨[.sc _], rfl, ⟨rfl, trivial⟩⟩, ⟨[.sc _], rfl, ⟨rfl, trivial⟩⟩, trivial⟩)) rfl rfl rfl (gle rfl) rfl rfl ?_
  refine sl 1 pt ?_
  refine sl 1 ms ?_
  refine SV.split (d := 14) rfl (fun hg1 => ?_) (fun hg1 => ?_)
  ·skip   -- g1.T
   have ho2 : 0 ≤ s.fPos ∧ s.fPos ≤ s.fInput.length := by simpa using hg1
   refine sy 1 (fb fld_impl_Sorter_5) ?_
   refine sy 1 (lb 0 5 [.ro _] agg_s_impl_Run sz_s_impl_Run (fun _ => rfl)) ?_
   refine SV.opY (OpMk.ok (cl [(false, [.sc _])] rfl Try.func76 (vokrunsB_i s.fRuns hW.runs (fun p hp => by have := hW.run hp; omega) (by omega) (by omega)) ⟨⟨[.ro _], rfl, ⟨rfl, trivial⟩⟩, trivial⟩)) rfl rfl rfl (gle rfl) rfl rfl ?_
   refine sl 1 pt ?_
   refine sl 1 ms ?_
   refine SV.split (d := 19) rfl (fun hg2 => ?_) (fun hg2 => ?_)
   ·skip   -- g2.T
    have ho3 : Runs.okRuns s.fRuns = true := hg2
    refine sy 1 (fb fld_impl_Sorter_9) ?_
    refine sy 1 (lb 0 9 [.sc _] agg_int sz_int (fun _ => rfl)) ?_
    refine sy 1 (s2 (.tmp 21) (.const ((Value.int IntKind.i64 0)))) ?_
    refine sl 1 pt ?_
    refine sl 1 ms ?_
    refine SV.split (d := 24) rfl (fun hg3 => ?_) (fun hg3 => ?_)
    ·skip   -- g3.T
     have ho4 : 0 ≤ s.fWritten := by simpa using hg3
     refine sy 1 (fb fld_impl_Sorter_4) ?_
     refine sy 1 (lb 0 4 [.ro _] agg_s_impl_Row sz_s_impl_Row (fun _ => rfl)) ?_
     refine SV.opY (OpMk.ok (cl [(false, [.sc _])] rfl Try.func55 (vasc_i s.fOutput hW.out (by omega)) ⟨⟨[.ro _], rfl, ⟨rfl, trivial⟩⟩, trivial⟩)) rfl rfl rfl (gle rfl) rfl rfl ?_
     refine sl 1 pt ?_
     refine sl 1 ms ?_
     refine SV.split (d := 29) rfl (fun hg4 => ?_) (fun hg4 => ?_)
     ·skip   -- g4.T
      have ho5 : R.asc s.fOutput = true := hg4
      refine sy 1 (fb fld_impl_Sorter_4) ?_
      refine sy 1 (lb 0 4 [.ro _] agg_s_impl_Row sz_s_impl_Row (fun _ => rfl)) ?_
      refine sy 1 (fb fld_impl_Sorter_2) ?_
      refine sy 1 (lb 0 2 [.ro _] agg_s_impl_Row sz_s_impl_Row (fun _ => rfl)) ?_
      refine SV.opY (OpMk.ok (cl [(false, [.sc _])] rfl Try.func77 (vfollow_i s.fOutput s.fHeap (by omega) (by omega)) ⟨⟨[.ro _], rfl, ⟨rfl, trivial⟩⟩, ⟨[.ro _], rfl, ⟨rfl, trivial⟩⟩, trivial⟩)) rfl rfl rfl (gle rfl) rfl rfl ?_
      refine sl 1 pt ?_
      refine sl 1 ms ?_
      refine SV.split (d := 36) rfl (fun hg5 => ?_) (fun hg5 => ?_)
      ·skip   -- g5.T
       have ho6 : (s.fHeap.all fun r => !Runs.later s.fOutput r) = true := hg5
       have hbase : SorterD.okBase s = true := SorterD.base_iff.2 ⟨ho1, ho2.1, ho2.2, ho3, ho4, R.asc_pairwise.1 ho5, fun r hr => by have := List.all_eq_true.1 ho6 r hr; simpa using this⟩
       have hno : SorterD.ok s = SorterD.phaseB s := by rw [SorterD.ok_phase, hbase, Bool.true_and]
       refine sy 1 (lb 0 0 [.ro _, .sc _, .ro _, .ro _, .ro _, .ro _, .sc _, .sc _, .sc _, .sc _] agg_impl_Sorter sz_impl_Sorter (fun h => by cases h)) ?_
       refine SV.opY (OpMk.ok (cl [(false, [.sc _])] rfl Try.func78 (vphase_i s hW ho2) ⟨⟨[.ro _, .sc _, .ro _, .ro _, .ro _, .ro _, .sc _, .sc _, .sc _, .sc _], rfl, ⟨rfl, rfl, rfl, rfl, rfl, rfl, rfl, rfl, rfl, rfl, trivial⟩⟩, trivial⟩)) rfl rfl rfl (gle rfl) rfl rfl ?_
       refine sl 1 pt ?_
       refine sl 1 ms ?_
       refine SV.nil (SV.tn (SV.ret ?_))
       refine d1 (.sc _) Try.results28 ?_ <;> (refine lbq ?_; (rw [hno]; first | done | rfl))
      ·skip   -- g5.F
       have ho6 : (s.fHeap.all fun r => !Runs.later s.fOutput r) = false := hg5
       have hno : SorterD.ok s = false := by
        rw [Bool.eq_false_iff]
        intro h
        obtain ⟨hB, -⟩ := SorterD.ok_iff.1 h
        rw [List.all_eq_true.2 (fun r hr => by rw [hB.low r hr]; rfl)] at ho6; cases ho6
       refine sn ?_
       refine sn ?_
       refine sl 1 pf ?_
       refine sl 1 ms ?_
       refine SV.nil (SV.tn (SV.ret ?_))
       refine d1 (.sc _) Try.results28 ?_ <;> (refine lbq ?_; (rw [hno]; first | done | rfl))
     ·skip   -- g4.F
      have ho5 : R.asc s.fOutput = false := hg4
      have hno : SorterD.ok s = false := by
       rw [Bool.eq_false_iff]
       intro h
       obtain ⟨hB, -⟩ := SorterD.ok_iff.1 h
       have h1 := R.asc_pairwise.2 hB.asc; rw [h1] at ho5; cases ho5
      refine sn ?_
      refine sn ?_
      refine sn ?_
      refine sn ?_
      refine sn ?_
      refine sl 1 pf ?_
      refine sl 1 ms ?_
      refine sn ?_
      refine sn ?_
      refine sl 1 pf ?_
      refine sl 1 ms ?_
      refine SV.nil (SV.tn (SV.ret ?_))
      refine d1 (.sc _) Try.results28 ?_ <;> (refine lbq ?_; (rw [hno]; first | done | rfl))
    ·skip   -- g3.F
     have hno : SorterD.ok s = false := by
      rw [Bool.eq_false_iff]
      intro h
      obtain ⟨hB, -⟩ := SorterD.ok_iff.1 h
      have h1 := hB.wr; simp at hg3; omega
     refine sn ?_
     refine sn ?_
     refine sn ?_
     refine sl 1 pf ?_
     refine sl 1 ms ?_
     refine sn ?_
     refine sn ?_
     refine sn ?_
     refine sn ?_
     refine sn ?_
     refine sl 1 pf ?_
     refine sl 1 ms ?_
     refine sn ?_
     refine sn ?_
     refine sl 1 pf ?_
     refine sl 1 ms ?_
     refine SV.nil (SV.tn (SV.ret ?_))
     refine d1 (.sc _) Try.results28 ?_ <;> (refine lbq ?_; (rw [hno]; first | done | rfl))
   ·skip   -- g2.F
    have ho3 : Runs.okRuns s.fRuns = false := hg2
    have hno : SorterD.ok s = false := by
     rw [Bool.eq_false_iff]
     intro h
     obtain ⟨hB, -⟩ := SorterD.ok_iff.1 h
     have h1 := hB.runs; rw [h1] at ho3; cases ho3
    refine sn ?_
    refine sn ?_
    refine sn ?_
    refine sl 1 pf ?_
    refine sl 1 ms ?_
    refine sn ?_
    refine sn ?_
    refine sn ?_
    refine sl 1 pf ?_
    refine sl 1 ms ?_
    refine sn ?_
    refine sn ?_
    refine sn ?_
    refine sn ?_
    refine sn ?_
    refine sl 1 pf ?_
    refine sl 1 ms ?_
    refine sn ?_
    refine sn ?_
    refine sl 1 pf ?_
    refine sl 1 ms ?_
    refine SV.nil (SV.tn (SV.ret ?_))
    refine d1 (.sc _) Try.results28 ?_ <;> (refine lbq ?_; (rw [hno]; first | done | rfl))
  ·skip   -- g1.F
   have hno : SorterD.ok s = false := by
    rw [Bool.eq_false_iff]
    intro h
    obtain ⟨hB, -⟩ := SorterD.ok_iff.1 h
    have h1 := hB.pos0; have h2 := hB.pos1; simp at hg1; omega
   refine sn ?_
   refine sn ?_
   refine sn ?_
   refine sl 1 pf ?_
   refine sl 1 ms ?_
   refine sn ?_
   refine sn ?_
   refine sn ?_
   refine sl 1 pf ?_
   refine sl 1 ms ?_
   refine sn ?_
   refine sn ?_
   refine sn ?_
   refine sl 1 pf ?_
   refine sl 1 ms ?_
   refine sn ?_
   refine sn ?_
   refine sn ?_
   refine sn ?_
   refine sn ?_
   refine sl 1 pf ?_
   refine sl 1 ms ?_
   refine sn ?_
   refine sn ?_
   refine sl 1 pf ?_
   refine sl 1 ms ?_
   refine SV.nil (SV.tn (SV.ret ?_))
   refine d1 (.sc _) Try.results28 ?_ <;> (refine lbq ?_; (rw [hno]; first | done | rfl))
 ·skip   -- g0.F
  have ho1 : okRows s.fInput = false := hg0
  have hno : SorterD.ok s = false := by
   rw [Bool.eq_false_iff]
   intro h
   obtain ⟨hB, -⟩ := SorterD.ok_iff.1 h
   have h1 := hB.rows; rw [h1] at ho1; cases ho1
  refine sn ?_
  refine sn ?_
  refine sn ?_
  refine sn ?_
  refine sn ?_
  refine sn ?_
  refine sl 1 pf ?_
  refine sl 1 ms ?_
  refine sn ?_
  refine sn ?_
  refine sn ?_
  refine sl 1 pf ?_
  refine sl 1 ms ?_
  refine sn ?_
  refine sn ?_
  refine sn ?_
  refine sl 1 pf ?_
  refine sl 1 ms ?_
  refine sn ?_
  refine sn ?_
  refine sn ?_
  refine sl 1 pf ?_
  refine sl 1 ms ?_
  refine sn ?_
  refine sn ?_
  refine sn ?_
  refine sn ?_
  refine sn ?_
  refine sl 1 pf ?_
  refine sl 1 ms ?_
  refine sn ?_
  refine sn ?_
  refine sl 1 pf ?_
  refine sl 1 ms ?_
  refine SV.nil (SV.tn (SV.ret ?_))
  refine d1 (.sc _) Try.results28 ?_ <;> (refine lbq ?_; (rw [hno]; first | done | rfl))
end Go.Proofs.Ytpnbnbhifpcelaa
